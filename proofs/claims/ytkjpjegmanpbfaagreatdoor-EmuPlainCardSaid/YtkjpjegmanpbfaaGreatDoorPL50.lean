/- Part 50 of the proof that the card of EmuPlain holds. -/
import Derived.Deep.Slices
import Derived.Test.YtkjpjegmanpbfaaGreatDoorPL49
import Derived.Test.YtkjpjegmanpbfaaGreatDoorPL23
import Derived.Test.YtkjpjegmanpbfaaGreatDoorPL19
set_option maxHeartbeats 16000000
set_option maxRecDepth 100000
namespace Go.Proofs.YtkjpjegmanpbfaaGreatDoor.Emu
open Go Go.RowKit Go.Proofs.YtkjpjegmanpbfaaGreatDoor.Com Go.Proofs.YtkjpjegmanpbfaaGreatDoor.Rw Go.Proofs.YtkjpjegmanpbfaaGreatDoor.Lns Go.Proofs.YtkjpjegmanpbfaaGreatDoor.Scn
def sm (ls : List (List Cel)) : List Int := (ls.map lets).flatten
theorem sm_app (a b : List (List Cel)) : sm (a ++ b) = sm a ++ sm b := by simp [sm]
theorem sm_one (a : List Cel) : sm [a] = lets a := by simp [sm]
def PSt (wp wr : World) (b1 b2 : Nat) (ls : List (List Cel)) : Prop := ∃ v, AddSt wp wr b1 b2 v (sm ls) ls.length
section
variable {wp wr w w' : World} {b1 b2 B : Nat} {ls : List (List Cel)} {v : Value} {hs : List THeld}
theorem PSt.on (h : PSt wp wr b1 b2 ls) (hb : Below wr.heap.size wr w') : PSt wp w' b1 b2 ls := h.imp fun _ h => h.on hb
theorem PSt.begin (w : World) : PSt w ((w.alloc (.cells #[.slice none 0 0] 52)).alloc (.cells #[.int .i64 0] 3)) w.heap.size (w.heap.size + 1) [] := by
 have h1 := below_new w (.cells #[.slice none 0 0] 52)
 have h2 := below_new (w.alloc (.cells #[.slice none 0 0] 52)) (.cells #[.int .i64 0] 3)
 have m1 := Block.made w 52 #[.slice none 0 0]
 have m2 := Block.made (w.alloc (.cells #[.slice none 0 0] 52)) 3 #[.int .i64 0]
 rw [World.size_alloc] at m2
 exact ⟨.slice none 0 0, below_next h1 h2, Nat.le_refl _, by omega, Block.only m1 (Only.of_below h2 []) (by simp), m2, Own.nil _ _ _ _⟩
theorem PSt.add (h : PSt wp wr b1 b2 ls) {g n c : Nat} {ps : List (Cel × Value)} (hA : Api B wr (.slice (some ⟨g, 0, none⟩) n c) ps) (hn : ps.length = n) (hl : ∀ c ∈ ps.map (·.1), c.r = 32 ∨ (97 ≤ c.r ∧ c.r ≤ 122)) (hn5 : n ≤ 512) (hb5 : (sm ls).length ≤ 100000) (hm5 : ls.length ≤ 100000) :
  Calls Tryz.prog 21 #[.slice (some ⟨g, 0, none⟩) n c, .pointer (some ⟨b1, 0, none⟩), .pointer (some ⟨b2, 0, none⟩)] wr fun e w' => (∃ u, e = .returned u) ∧ PSt wp w' b1 b2 (ls ++ [ps.map (·.1)]) ∧ Rw.Fr 0 AT wr w' := by
 obtain ⟨v, h⟩ := h
 refine (add_any hA hn h (fun p hp => hl _ (List.mem_map.2 ⟨p, hp, rfl⟩)) hn5 hb5 hm5).mono fun e w' ⟨h1, ⟨v2, h2⟩, h3⟩ => ⟨h1, ⟨v2, ?_⟩, h3⟩
 rw [sm_app, sm_one, List.length_append, List.length_singleton]
 exact h2
theorem PlI.cells {rows cols k : Nat} {l : List Int} {T : Ter} (h : PlI rows cols l k T) (hl : ∀ x ∈ l.take k, 97 ≤ x ∧ x ≤ 122) : ∀ r ∈ T.R.map (·.2) ++ T.main.L.map (·.2), r.length = cols ∧ ∀ c ∈ r, c.r = 32 ∨ (97 ≤ c.r ∧ c.r ≤ 122) := by
 rw [← List.map_append, h.all]
 intro r hr
 obtain ⟨i, _, rfl⟩ := List.mem_map.1 hr
 refine ⟨rowOf_len (chunk_len _ _ _), fun c hc => ?_⟩
 rcases List.mem_append.1 hc with hc | hc
 ·obtain ⟨x, hx, rfl⟩ := List.mem_map.1 hc
  exact .inr (hl x (List.mem_of_mem_drop (List.mem_of_mem_take hx)))
 ·rw [List.eq_of_mem_replicate hc]
  exact .inl rfl
theorem sm_take_le (ls : List (List Cel)) (n : Nat) : (sm (ls.take n)).length ≤ (sm ls).length := by
 have e : sm ls = sm (ls.take n) ++ sm (ls.drop n) := by rw [← sm_app, List.take_append_drop]
 rw [e, List.length_append]
 omega
theorem fl_heldV (hs : List THeld) : ∀ i (hi : i < hs.length), (fl heldV hs)[i * 2]? = some (.int .i64 hs[i].1) ∧ (fl heldV hs)[i * 2 + 1]? = some (.slice (some ⟨hs[i].2.1, 0, none⟩) hs[i].2.2.length hs[i].2.2.length) := fun i hi => by
 have h0 := fl_at (f := heldV) heldV_length hi (j := 0) (by omega)
 have h1 := fl_at (f := heldV) heldV_length hi (j := 1) (by omega)
 exact ⟨h0, h1⟩
theorem BackT.at (h : BackT B w v hs) {i : Nat} (hi : i < hs.length) : ∃ g c, v = .slice (some ⟨g, 0, none⟩) hs.length c ∧ hs.length ≤ c ∧ c ≤ maxLen ∧ w.cell? ⟨g, i * 2, none⟩ = some (.int .i64 hs[i].1) ∧ w.cell? ⟨g, i * 2 + 1, none⟩ = some (.slice (some ⟨hs[i].2.1, 0, none⟩) hs[i].2.2.length hs[i].2.2.length) := by
 obtain ⟨g, c, tail, rfl, _, hb, h1, h2⟩ := own_block h.rows (by omega)
 have hl : (fl heldV hs).length = hs.length * 2 := fl_length heldV_length hs
 obtain ⟨e0, e1⟩ := fl_heldV hs i hi
 refine ⟨g, c, rfl, h1, h2, hb.cell (i * 2) ?_, hb.cell (i * 2 + 1) ?_⟩
 ·rw [List.getElem?_toArray, List.getElem?_append_left (by omega), e0]
 ·rw [List.getElem?_toArray, List.getElem?_append_left (by omega), e1]
structure LsT (B : Nat) (w : World) (cols : Nat) (cv : Value) (rs : List TRow) : Prop where
 rows : w.ownsRow B 62 1 cv rs.length (fl (hdr cols) rs)
 apis : ∀ p ∈ rs, Api B w (.slice (some ⟨p.1, 0, none⟩) cols cols) p.2
variable {cols : Nat} {cv iv : Value} {rs : List TRow} {ids : List Int}
theorem Rws.rowsOnly (h : Rws B w cols cv iv rs ids) : LsT B w cols cv rs := ⟨h.rows, h.apis⟩
theorem LsT.fr {B' : Nat} {ts : List TypeId} (h : LsT B w cols cv rs) (hf : Rw.Fr B' ts w w') (h1 : 62 ∉ ts) (h3 : 64 ∉ ts) (h4 : 21 ∉ ts) : LsT B w' cols cv rs :=
 ⟨ownsRow_fr h.rows hf h1, fun p hp => (h.apis p hp).fr hf h3 h4⟩
theorem LsT.at (h : LsT B w cols cv rs) {i : Nat} (hi : i < rs.length) : ∃ g c, cv = .slice (some ⟨g, 0, none⟩) rs.length c ∧ rs.length ≤ c ∧ c ≤ maxLen ∧ w.cell? ⟨g, i, none⟩ = some (.slice (some ⟨rs[i].1, 0, none⟩) cols cols) := by
 obtain ⟨g, c, tail, rfl, _, hb, h1, h2⟩ := own_block h.rows (by omega)
 refine ⟨g, c, rfl, h1, h2, hb.cell i ?_⟩
 rw [List.getElem?_toArray, List.getElem?_append_left (by rw [fl_hdr]; simpa using hi), fl_hdr, List.getElem?_map, List.getElem?_eq_getElem hi]
 rfl
theorem PSt.text (h : PSt wp wr b1 b2 ls) : ∃ ao c, wr.cell? ⟨b1, 0, none⟩ = some (.slice ao (sm ls).length c) ∧ wr.cell? ⟨b2, 0, none⟩ = some (.int .i64 ls.length) ∧ ∀ w', Below wr.heap.size wr w' → (convert 52 9 (.slice ao (sm ls).length c)).run Tryz.prog w' = .ok (.string (strOfNums (sm ls))) w' := by
 obtain ⟨v, h⟩ := h
 obtain ⟨ao, c, rfl, _, _, _⟩ := h.own.shape
 refine ⟨ao, c, h.box1.cell 0 rfl, h.box2.cell 0 rfl, fun w' hb => ?_⟩
 obtain ⟨ao', c', e, _, _, hn⟩ := (h.on hb).own.shape
 simp only [Value.slice.injEq] at e
 obtain ⟨rfl, -, rfl⟩ := e
 exact Kys.text_of hn c
end
def pT (r c : Nat) (l : List Int) (k : Nat) : Ter := (l.take k).foldl (fun T x => doT T (prA x)) (newT r c 1000)
section
variable {r c k : Nat} {l : List Int}
theorem pT_next (hk : k < l.length) : pT r c l (k + 1) = doT (pT r c l k) (prA l[k]) := by
 unfold pT
 rw [List.take_add_one, List.getElem?_eq_getElem hk, List.foldl_append]
 rfl
theorem pT_grow (hr1 : 1 ≤ r) (hr5 : r ≤ 512) (hc1 : 1 ≤ c) (hc5 : c ≤ 512) (l : List Int) : ∀ k, k ≤ l.length → Gw (newT r c 1000) (pT r c l k) (2 * k) k (20 * k) k := by
 intro k
 induction k with
 | zero => exact fun _ => Gw.refl (ok_new r c 1000 hr1 hr5 hc1 hc5)
 | succ k ih =>
  intro hk
  have h := ih (by omega)
  rw [pT_next hk]
  exact (h.trans (gw_do h.ok (prA l[k]))).mono (by show 2 * k + (2 * 0 + 2) ≤ _; omega) (by show k + (0 + 1) ≤ _; omega) (by omega) (by omega)
theorem pT_room (hr1 : 1 ≤ r) (hr5 : r ≤ 6) (hc1 : 1 ≤ c) (hc5 : c ≤ 512) {l : List Int} (hl : l.length ≤ 300) (hk : k ≤ l.length) (x : Int) : Roomy (pT r c l k) (prA x) := by
 have g := pT_grow hr1 (show r ≤ 512 by omega) hc1 hc5 l k hk
 have hv : (newT r c 1000).vis.L.length = r := freshS_len _ _ _ _
 have h1 := g.nx.2
 have h2 := g.ok.rows
 rw [g.len, hv] at h2
 rw [hv, show (newT r c 1000).nx = 1 + r from rfl] at h1
 have h3 := g.jr
 have h4 := g.rp
 have h5 := g.pr
 rw [show (newT r c 1000).jr.length = 0 from rfl] at h3
 rw [show (newT r c 1000).rp.length = 0 from rfl] at h4
 rw [show (newT r c 1000).prints = 0 from rfl] at h5
 have h6 : k * r ≤ 300 * 6 := Nat.mul_le_mul (by omega) hr5
 exact ⟨by omega, by omega, by omega, by simp [prA], by rw [h2]; omega⟩
end
theorem str_back (s : ByteArray) : strOfNums (charsT s) = s := by
 unfold strOfNums charsT
 have e : ((s.data.toList.map fun b => (b.toNat : Int)).map fun n => UInt8.ofNat n.toNat) = s.data.toList := by
  rw [List.map_map]
  exact (List.map_congr_left fun b _ => by simp).trans (List.map_id _)
 rw [e]
def offB (r c : Int) (n : Nat) : Bool := decide (r < 1) || (decide (6 < r) || (decide (c < 1) || (decide (20 < c) || decide ((300 : Int) < (n : Int)))))
theorem plain_off (s : ByteArray) (r c : Int) (W : World) (hT : Tbl W) (hoff : offB r c s.size = true) : Calls Tryz.prog 6 #[.int .i64 r, .int .i64 c, .string s] W fun e w' => e = .returned (.bool true) ∧ Below W.heap.size W w' := by
 have hkn := Lib.hid (known_any hT)
 clear hT
 unfold offB at hoff
 cases h0 : decide (r < 1) with
 | true =>
  clear hoff
  go_enter Tryz.func6, Tryz.ntmps6
  go_wp2_with ((go_at_call 8; (with_reducible refine (hkn.out).mono ?_); rintro e w1 ⟨rfl, hb1⟩))
  go_ret
  exact ⟨rfl, hb1⟩
 | false =>
 cases h1 : decide (6 < r) with
 | true =>
  clear hoff
  go_enter Tryz.func6, Tryz.ntmps6
  go_wp2_with ((go_at_call 8; (with_reducible refine (hkn.out).mono ?_); rintro e w1 ⟨rfl, hb1⟩))
  go_ret
  exact ⟨rfl, hb1⟩
 | false =>
 cases h2 : decide (c < 1) with
 | true =>
  clear hoff
  go_enter Tryz.func6, Tryz.ntmps6
  go_wp2_with ((go_at_call 8; (with_reducible refine (hkn.out).mono ?_); rintro e w1 ⟨rfl, hb1⟩))
  go_ret
  exact ⟨rfl, hb1⟩
 | false =>
 cases h3 : decide (20 < c) with
 | true =>
  clear hoff
  go_enter Tryz.func6, Tryz.ntmps6
  go_wp2_with ((go_at_call 8; (with_reducible refine (hkn.out).mono ?_); rintro e w1 ⟨rfl, hb1⟩))
  go_ret
  exact ⟨rfl, hb1⟩
 | false =>
 have h4 : decide ((300 : Int) < (s.size : Int)) = true := by simpa [h0, h1, h2, h3] using hoff
 clear hoff
 go_enter Tryz.func6, Tryz.ntmps6
 go_wp2_with ((go_at_call 8; (with_reducible refine (hkn.out).mono ?_); rintro e w1 ⟨rfl, hb1⟩))
 go_ret
 exact ⟨rfl, hb1⟩
theorem field0 (a b z1 z2 z3 z4 z5 z6 z7 z8 z9 z10 : Value) (w : World) : (Instr.field 43 (.agg #[a, b, z1, z2, z3, z4, z5, z6, z7, z8, z9, z10]) 0).run Tryz.prog w = .ok a w := by
 kernel_rfl
theorem idx_str (s : ByteArray) {k : Nat} (hk : k < s.size) (w : World) : (Instr.index 9 (.string s) (.int .i64 (k : Int))).run Tryz.prog w = .ok (.int .u8 ((s[k]'hk).toNat : Int)) w := by
 rw [run_index_string w 9 s .i64 (k : Int) Tryz.underlying9, dif_pos ⟨by omega, by omega⟩]
 simp
theorem charsT_get (s : ByteArray) {k : Nat} (h : k < s.size) : (charsT s)[k]'(by rw [charsT_len]; exact h) = ((s[k]'h).toNat : Int) := by
 have := charsT_at s h
 rw [List.getElem?_eq_getElem (by rw [charsT_len]; exact h)] at this
 exact Option.some.inj this
theorem plain_on (s : ByteArray) (r c : Nat) (R C : Int) (hR : R = r) (hC : C = c) (W : World) (hT : Tbl W) (hr1 : 1 ≤ r) (hr6 : r ≤ 6) (hc1 : 1 ≤ c) (hc2 : c ≤ 20) (hk5 : s.size ≤ 300) : Calls Tryz.prog 6 #[.int .i64 R, .int .i64 C, .string s] W fun e w' => e = .returned (.bool true) ∧ Below W.heap.size W w' := by
 have hkn := Lib.hid (fun w1 (hb : Below W.heap.size W w1) => known_any (hT.below hb))
 have hnew : Hid (Calls Tryz.prog 18 #[.int .i64 R, .int .i64 C, .int .i64 1000] W fun e w' => ∃ d t, e = .returned (.tuple #[.pointer (some ⟨d, 0, none⟩), .int .i64 0]) ∧ Kn W w' d t (newT r c 1000) ∧ Below W.heap.size W w') := Lib.hid (by
  subst hR hC
  exact kn_new hT r c 1000 hr1 (by omega) hc1 (by omega) (by omega))
 have d0 : decide (R < 1) = false := decide_eq_false (by omega)
 have d1 : decide (6 < R) = false := decide_eq_false (by omega)
 have d2 : decide (C < 1) = false := decide_eq_false (by omega)
 have d3 : decide (20 < C) = false := decide_eq_false (by omega)
 have d4 : decide ((300 : Int) < (s.size : Int)) = false := decide_eq_false (by omega)
 obtain ⟨n, hn⟩ : ∃ n, s.size = n := ⟨_, rfl⟩
 have hcl := charsT_len s
 have hix : Hid (∀ k (hk : k < (charsT s).length) w, (Instr.index 9 (.string s) (.int .i64 (k : Int))).run Tryz.prog w = .ok (.int .u8 (charsT s)[k]) w) := Lib.hid fun k hk w => by
  rw [charsT_get s (by rw [← charsT_len]; exact hk)]
  exact idx_str s (by rw [← charsT_len]; exact hk) w
 have hbk := Lib.hid (str_back s)
 have hrm : Hid (∀ k, k ≤ n → ∀ x, Roomy (pT r c (charsT s) k) (prA x)) := Lib.hid fun k hk x => pT_room hr1 hr6 hc1 (by omega) (by omega) (by omega) x
 have hst0 : Hid (PlI r c (charsT s) 0 (pT r c (charsT s) 0) ∧ ∀ x ∈ (charsT s).take 0, 97 ≤ x ∧ x ≤ 122) := Lib.hid ⟨PlI.new hr1 hc1 _, fun x hx => by simp at hx⟩
 have hnx : Hid (∀ k (hk : k < (charsT s).length), pT r c (charsT s) (k + 1) = doT (pT r c (charsT s) k) (prA (charsT s)[k])) := Lib.hid fun k hk => pT_next hk
 have hpr : Hid (∀ k (hk : k < (charsT s).length), (PlI r c (charsT s) k (pT r c (charsT s) k) ∧ ∀ x ∈ (charsT s).take k, 97 ≤ x ∧ x ≤ 122) → 97 ≤ (charsT s)[k] ∧ (charsT s)[k] ≤ 122 → (PlI r c (charsT s) (k + 1) (pT r c (charsT s) (k + 1)) ∧ ∀ x ∈ (charsT s).take (k + 1), 97 ≤ x ∧ x ≤ 122)) := Lib.hid fun k hk h hx => by
  rw [pT_next hk]
  refine ⟨h.1.print hk (by omega) hx hr1 hc1, fun x hm => ?_⟩
  rw [List.take_add_one, List.getElem?_eq_getElem hk] at hm
  rcases List.mem_append.1 hm with hm | hm
  ·exact h.2 x hm
  ·obtain rfl : x = (charsT s)[k] := by simpa using hm
   exact hx
 rw [hn] at hk5 d4 hcl
 have hcb : Hid (∀ x ∈ charsT s, 0 ≤ x ∧ x ≤ 255) := Lib.hid fun x hx => by
  obtain ⟨b, _, rfl⟩ := List.mem_map.1 hx
  have := b.toNat_lt
  omega
 have hlen : Hid (∀ w, (Builtin.len_ #[9] 3 #[.string s]).run Tryz.prog w = .ok (.int .i64 (n : Int)) w) := Lib.hid fun w => by
  rw [run_len_string w 9 3 s Tryz.underlying9, hn]
  rfl
 have hln := hlen.out
 generalize charsT s = L at *
 replace hcl := Lib.hid hcl
 replace hn := Lib.hid hn
 replace hR := Lib.hid hR
 replace hC := Lib.hid hC
 clear hT
 go_enter Tryz.func6, Tryz.ntmps6
 go_wp2_with ((go_at_call 18; (with_reducible refine (hnew.out).mono ?_); rintro e w1 ⟨d, t, rfl, hK, hb1⟩))
 have hst : Hid (Kn W w1 d t (pT r c L 0) ∧ PlI r c L 0 (pT r c L 0) ∧ ∀ x ∈ L.take 0, 97 ≤ x ∧ x ≤ 122) := Lib.hid ⟨hK, hst0.out⟩
 clear hK hb1 hnew hst0 d0 d1 d2 d3 d4
 go_loopw [52] (fun i wr => ∃ k : Nat, k ≤ n ∧ i = .int .i64 k ∧ Hid (Kn W wr d t (pT r c L k) ∧ PlI r c L k (pT r c L k) ∧ ∀ x ∈ L.take k, 97 ≤ x ∧ x ≤ 122)) (fun i _ => n - (intOf i).toNat)
 case atStart => exact ⟨0, Nat.zero_le _, rfl, hst⟩
 case round =>
  obtain ⟨k, hk, rfl, hQ⟩ := hrel
  clear hst
  by_cases hlt : k < n
  ·have hkL : k < L.length := by rw [hcl.out]; exact hlt
   have hkI : (k : Int) < (n : Int) := by omega
   have hx := fun w => hix.out k hkL w
   have hrg := hcb.out _ (List.getElem_mem hkL)
   have hnx1 := hnx.out k hkL
   have hpr1 := hpr.out k hkL hQ.out.2
   have hrm1 := hrm.out k hk (L[k])
   generalize L[k] = x at hx hrg hnx1 hpr1 hrm1
   by_cases hlo : x < 97
   ·have e1 : decide (x < 97) = true := decide_eq_true hlo
    have hb := hQ.out.1.below
    clear hnx1 hpr1 hrm1 hQ
    go_wp2_with ((go_at_call 8; (with_reducible refine (hkn.out _ hb).mono ?_); rintro e w2 ⟨rfl, hb2⟩))
    go_ret
    exact ⟨rfl, below_next hb hb2⟩
   have e1 : decide (x < 97) = false := decide_eq_false hlo
   by_cases hhi : 122 < x
   ·have e2 : decide (122 < x) = true := decide_eq_true hhi
    have hb := hQ.out.1.below
    clear hnx1 hpr1 hrm1 hQ
    go_wp2_with ((go_at_call 8; (with_reducible refine (hkn.out _ hb).mono ?_); rintro e w2 ⟨rfl, hb2⟩))
    go_ret
    exact ⟨rfl, below_next hb hb2⟩
   have e2 : decide (122 < x) = false := decide_eq_false hhi
   have hwr : IntKind.i32.wrap x = x := IntWalk.i32_in _ (by omega)
   have hdo := Lib.hid (kn_print hQ.out.1 x (by simp [Lit.wf, IntKind.min, IntKind.max, IntKind.signed, IntKind.bits]; omega) hrm1)
   rw [← hnx1] at hdo
   have hpl := Lib.hid (hpr1 (by omega))
   clear hnx1 hpr1 hrm1 hQ
   go_wp2_with ((go_at_call 9; (with_reducible refine (hdo.out).mono ?_); rintro e w2 ⟨rfl, hK2, hf2⟩))
   have hQ2 := Lib.hid (And.intro hK2 hpl.out)
   clear hK2 hf2 hdo hpl e1 e2
   go_roundw
   case rel => exact ⟨k + 1, by omega, by go_num, hQ2⟩
   case measure => simp [intOf]; omega
  ·obtain rfl : k = n := by omega
   obtain ⟨hK, hP, hlt5⟩ := hQ.out
   clear hQ hnx hpr hrm hix
   have hcel := Lib.hid (hP.cells hlt5)
   rw [List.take_of_length_le (by rw [hcl.out]; exact Nat.le_refl _)] at hlt5
   obtain ⟨t1, t2, t3⟩ := hP.told hcl.out.symm hlt5 hr1 hc1
   rw [← hP.visL] at hcel
   have hfew := hP.few
   have hvc : Hid ((pT r c L k).vis.cols = c) := Lib.hid (by rw [hP.vis]; exact hP.fcols)
   have hvl := hP.flen
   rw [← hP.visL] at hvl
   clear hP hlt5
   generalize pT r c L k = T at *
   have hRl : (T.R.map (·.2)).length = T.R.length := List.length_map _
   have hLl : (T.vis.L.map (·.2)).length = T.vis.L.length := List.length_map _
   generalize hRR : T.R.map (·.2) = RR at *
   generalize hLL : T.vis.L.map (·.2) = LL at *
   replace hRR := Lib.hid hRR
   replace hLL := Lib.hid hLL
   have hsm : Hid (∀ n m, (sm (RR.take n ++ LL.take m)).length ≤ 100000) := Lib.hid fun n m => by
    have e1 := sm_take_le RR n
    have e2 := sm_take_le LL m
    have e3 : (sm (RR ++ LL)).length = k := by
     show (((RR ++ LL).map lets).flatten).length = k
     rw [t1]; exact hcl.out
    rw [sm_app, List.length_append] at e3 ⊢
    omega
   have htold : Hid (sm (RR ++ LL) = L) := Lib.hid t1
   have hlines : Hid (RR.length + LL.length = max r (max ((k + c - 1) / c) 1)) := Lib.hid (by rw [hRl, hLl]; exact t2)
   replace t3 := Lib.hid t3
   replace hRl := Lib.hid hRl
   replace hLl := Lib.hid hLl
   replace hfew := Lib.hid hfew
   replace hvl := Lib.hid hvl
   clear t1 t2
   go_upto_region 16 with (fail)
   have hP0 := PSt.begin wr
   generalize (wr.alloc (.cells #[.slice none 0 0] 52)).alloc (.cells #[.int .i64 0] 3) = w0 at hP0 ⊢
   generalize wr.heap.size + 1 = b2 at hP0 ⊢
   generalize wr.heap.size = b1 at hP0 ⊢
   generalize wr = W1 at *
   have hKn : Hid (∀ ls w', PSt W1 w' b1 b2 ls → Kn W w' d t T) := Lib.hid fun ls w' h => by
    obtain ⟨v, h⟩ := h
    exact hK.on h.below
   clear hK
   have hbk9 := Lib.hid (kn_back (hKn.out _ _ hP0))
   go_wp2_with ((go_at_call 14; (with_reducible refine (hbk9.out).mono ?_); rintro e w2 ⟨bv, hs, rfl, hB, hBL, hb2, _⟩; obtain ⟨ba, bc, rfl, _, _⟩ := owns_shape hB.rows))
   have hRm : Hid (RR = hs.map fun p => p.2.2.map (·.1)) := Lib.hid (by rw [← hRR.out, ← hBL, List.map_map]; rfl)
   have hnb : Hid (RR.length = hs.length) := Lib.hid (by rw [hRm.out, List.length_map])
   have hB5 : Hid (hs.length ≤ 300) := Lib.hid (by rw [← hnb.out, hRl.out]; exact Nat.le_trans hfew.out hk5)
   have hst1 : Hid (PSt W1 w2 b1 b2 (RR.take 0) ∧ BackT w0.heap.size w2 (.slice ba hs.length bc) hs) := Lib.hid (And.intro (hP0.on hb2) hB)
   generalize hnB : hs.length = nB at hnb hB5 hst1 ⊢
   replace hnB := Lib.hid hnB
   clear hP0 hbk9 hBL hB hb2
   generalize w0.heap.size = B0 at hst1
   go_loopw [78] (fun i wr => ∃ j : Nat, j ≤ nB ∧ i = .int .i64 j ∧ Hid (PSt W1 wr b1 b2 (RR.take j) ∧ BackT B0 wr (.slice ba nB bc) hs)) (fun i _ => nB - (intOf i).toNat)
   case atStart => exact ⟨0, Nat.zero_le _, rfl, hst1⟩
   case round =>
    obtain ⟨j, hj, rfl, hQ1⟩ := hrel
    clear hst1
    by_cases hlt2 : j < nB
    ·have hjI : (j : Int) < (nB : Int) := by omega
     have hj3 : j < 300 := by have := hB5.out; omega
     have hjh : j < hs.length := by rw [hnB.out]; exact hlt2
     have hjR : j < RR.length := by rw [hnb.out]; exact hlt2
     obtain ⟨hP1, hB1⟩ := hQ1.out
     obtain ⟨g, gc, e, _, _, x0, x1⟩ := hB1.at hjh
     simp only [Value.slice.injEq] at e
     obtain ⟨rfl, -, rfl⟩ := e
     have hA := hB1.apis _ (List.getElem_mem hjh)
     have hrow : RR[j] = (hs[j]).2.2.map (·.1) := by simp only [hRm.out, List.getElem_map]
     have hce := hcel.out RR[j] (List.mem_append_left _ (List.getElem_mem hjR))
     have htk : RR.take (j + 1) = RR.take j ++ [(hs[j]).2.2.map (·.1)] := by rw [← hrow, List.take_add_one, List.getElem?_eq_getElem hjR]; rfl
     rw [hrow] at hce
     have hs5 := hsm.out j 0
     rw [List.take_zero, List.append_nil] at hs5
     have hj6 : (RR.take j).length ≤ 100000 := by rw [List.length_take]; have := hB5.out; omega
     generalize hs[j] = q at x0 x1 hA htk hce
     obtain ⟨qi, qg, qp⟩ := q
     simp only at x0 x1 hA htk hce
     have hql : qp.length ≤ 512 := by have := hce.1; rw [List.length_map] at this; omega
     have hqp : Hid (qp = qp) := Lib.hid rfl
     generalize hqn : qp.length = qn at x0 x1 hA hql
     go_upto_region 19 with (fail)
     have hbn := below_new wr (.cells #[.int .i64 qi, .slice (some ⟨qg, 0, none⟩) qn qn] 69)
     have hbx := Block.made wr 69 #[.int .i64 qi, .slice (some ⟨qg, 0, none⟩) qn qn]
     generalize wr.heap.size = bx at hbx ⊢
     generalize wr.alloc (.cells #[.int .i64 qi, .slice (some ⟨qg, 0, none⟩) qn qn] 69) = w5 at hbx hbn ⊢
     have y1 := hbx.cell 1 (v := .slice (some ⟨qg, 0, none⟩) qn qn) rfl
     have hadd := Lib.hid ((hP1.on hbn).add (hA.below hbn) hqn hce.2 hql hs5 hj6)
     have hB5' := Lib.hid (hB1.below hbn)
     replace hqn := Lib.hid hqn
     rw [← htk] at hadd
     clear hP1 hB1 hA hbn hbx x0 x1 hce hrow htk hQ1
     go_wp2_with ((go_at_call 21; (with_reducible refine (hadd.out).mono ?_); rintro e w6 ⟨⟨u6, rfl⟩, hP6, hf6⟩))
     have hst2 := Lib.hid (And.intro hP6 (hB5'.out.fr hf6 (by decide) (by decide) (by decide)))
     clear hP6 hf6 hB5' hadd y1
     go_roundw
     case rel => exact ⟨j + 1, by omega, by go_num, hst2⟩
     case measure => simp [intOf]; omega
    ·obtain rfl : j = nB := by omega
     obtain ⟨hP1, _⟩ := hQ1.out
     rw [List.take_of_length_le (by rw [hnb.out]; exact Nat.le_refl _)] at hP1
     have hgr := Lib.hid (kn_grid (hKn.out _ _ hP1))
     clear hQ1 hRm hB5 hnB
     go_wp2_with ((go_at_call 12; (with_reducible refine hgr.out.mono ?_); rintro e w7 ⟨cv, iv, rs, rfl, hG, hb7, _⟩; obtain ⟨ga, gc, rfl, _, _⟩ := owns_shape hG.rws.rows; obtain ⟨z1, z2, z3, z4, z5, z6, z7, z8, z9, z10, hz⟩ : ∃ z1 z2 z3 z4 z5 z6 z7 z8 z9 z10, gridA (.slice ga rs.length gc) iv (gridG T) = #[.slice ga rs.length gc, iv, z1, z2, z3, z4, z5, z6, z7, z8, z9, z10] := ⟨_, _, _, _, _, _, _, _, _, _, rfl⟩; have hzf := field0 (.slice ga rs.length gc) iv z1 z2 z3 z4 z5 z6 z7 z8 z9 z10; rw [hz]; clear hz))
     have hLm : Hid (LL = rs.map fun p => p.2.map (·.1)) := Lib.hid (by rw [← hLL.out, ← hG.got])
     have hnr : Hid (LL.length = rs.length) := Lib.hid (by rw [hLm.out, List.length_map])
     have hr5 : Hid (rs.length ≤ 6) := Lib.hid (by rw [← hnr.out, hLl.out, hvl.out]; exact hr6)
     have hl0 := hG.rws.rowsOnly
     rw [hvc.out] at hl0
     have hst2 : Hid (PSt W1 w7 b1 b2 (RR ++ LL.take 0) ∧ LsT W.heap.size w7 c (.slice ga rs.length gc) rs) := Lib.hid (And.intro (by rw [List.take_zero, List.append_nil]; exact hP1.on hb7) hl0)
     generalize hnR : rs.length = nR at hnr hr5 hst2 ⊢
     replace hnR := Lib.hid hnR
     clear hP1 hgr hG hb7 hl0 hzf
     go_loopw [91] (fun i wr => ∃ j : Nat, j ≤ nR ∧ i = .int .i64 j ∧ Hid (PSt W1 wr b1 b2 (RR ++ LL.take j) ∧ LsT W.heap.size wr c (.slice ga nR gc) rs)) (fun i _ => nR - (intOf i).toNat)
     case atStart => exact ⟨0, Nat.zero_le _, rfl, hst2⟩
     case round =>
      obtain ⟨j, hj, rfl, hQ1⟩ := hrel
      clear hst2
      by_cases hlt2 : j < nR
      ·have hjI : (j : Int) < (nR : Int) := by omega
       have hj3 : j < 300 := by have := hr5.out; omega
       have hjh : j < rs.length := by rw [hnR.out]; exact hlt2
       have hjR : j < LL.length := by rw [hnr.out]; exact hlt2
       obtain ⟨hP1, hB1⟩ := hQ1.out
       obtain ⟨g, gc, e, _, _, x0⟩ := hB1.at hjh
       simp only [Value.slice.injEq] at e
       obtain ⟨rfl, -, rfl⟩ := e
       have hA := hB1.apis _ (List.getElem_mem hjh)
       have hrow : LL[j] = (rs[j]).2.map (·.1) := by simp only [hLm.out, List.getElem_map]
       have hce := hcel.out LL[j] (List.mem_append_right _ (List.getElem_mem hjR))
       have htk : RR ++ LL.take (j + 1) = (RR ++ LL.take j) ++ [(rs[j]).2.map (·.1)] := by rw [← hrow, List.take_add_one, List.getElem?_eq_getElem hjR, List.append_assoc]; rfl
       rw [hrow] at hce
       have hs5 := hsm.out RR.length j
       rw [List.take_length] at hs5
       have hj6 : (RR ++ LL.take j).length ≤ 100000 := by rw [List.length_append, List.length_take, hRl.out]; have := hfew.out; omega
       generalize rs[j] = q at x0 hA htk hce
       obtain ⟨qg, qp⟩ := q
       simp only at x0 hA htk hce
       have hqn : qp.length = c := by have := hce.1; rwa [List.length_map] at this
       have hadd := Lib.hid (hP1.add hA hqn hce.2 (by omega) hs5 hj6)
       replace hqn := Lib.hid hqn
       have hB5' := Lib.hid hB1
       rw [← htk] at hadd
       clear hP1 hB1 hA hce hrow htk hQ1
       go_wp2_with ((go_at_call 21; (with_reducible refine (hadd.out).mono ?_); rintro e w6 ⟨⟨u6, rfl⟩, hP6, hf6⟩))
       have hst2 := Lib.hid (And.intro hP6 (hB5'.out.fr hf6 (by decide) (by decide) (by decide)))
       clear hP6 hf6 hB5' hadd x0
       go_roundw
       case rel => exact ⟨j + 1, by omega, by go_num, hst2⟩
       case measure => simp [intOf]; omega
      ·obtain rfl : j = nR := by omega
       obtain ⟨hP1, _⟩ := hQ1.out
       rw [List.take_of_length_le (by rw [hnr.out]; exact Nat.le_refl _)] at hP1
       obtain ⟨ao, ac, p1, p2, htx⟩ := hP1.text
       rw [htold.out, hcl.out] at p1
       rw [htold.out, hcl.out, hbk.out] at htx
       rw [List.length_append, hlines.out] at p2
       have hpr9 := Lib.hid (kn_prints (hKn.out _ _ hP1))
       rw [t3.out] at hpr9
       have hb9 : Hid (Below W.heap.size W wr) := Lib.hid (hKn.out _ _ hP1).below
       have htx0 := htx wr (Below.refl _ _)
       have hC1 : 1 ≤ C := by have := hC.out; omega
       have hC2 : C ≤ 20 := by have := hC.out; omega
       have hR1 : 1 ≤ R := by have := hR.out; omega
       have hR2 : R ≤ 6 := by have := hR.out; omega
       clear hP1 hQ1 hsm hcel htold hRR hLL htx
       obtain ⟨F, hF0⟩ : ∃ F, F = max ((k + c - 1) / c) 1 := ⟨_, rfl⟩
       rw [← hF0] at p2
       have hF : max (((k : Int) + C - 1) / C) 1 = (F : Int) := by
        rw [hC.out, show (k : Int) + (c : Int) - 1 = ((k + c - 1 : Nat) : Int) by omega, ← Int.natCast_ediv, hF0]
        omega
       have hM : max R (F : Int) = ((max r F : Nat) : Int) := by rw [hR.out]; omega
       generalize max r F = M at p2 hM
       replace hF0 := Lib.hid hF0
       replace hF := Lib.hid hF
       replace hM := Lib.hid hM
       go_upto_region 27 with (fail)
       rw [hF.out]
       clear hF
       have hM1 := hM.out
       go_wp2_with (first | (go_at_call 17; (with_reducible refine (hpr9.out).mono ?_); rintro e w8 ⟨rfl, rfl⟩) | (go_at_call 8; (with_reducible refine (hkn.out _ hb9.out).mono ?_); rintro e w9 ⟨rfl, hb10⟩))
       go_ret
       exact ⟨rfl, below_next hb9.out hb10⟩
theorem plain_law (R : Int) (_ : (Lit.int .i64 R).wf = true) (C : Int) (_ : (Lit.int .i64 C).wf = true) (s : ByteArray) (_ : s.size ≤ maxLen) (W : World) (hT : Tbl W) : Calls Tryz.prog 6 #[.int .i64 R, .int .i64 C, .string s] W fun e w' => e = .returned (.bool true) ∧ Below W.heap.size W w' := by
 cases h : offB R C s.size with
 | true => exact plain_off s R C W hT h
 | false =>
  unfold offB at h
  simp only [Bool.or_eq_false_iff, decide_eq_false_iff_not] at h
  obtain ⟨h0, h1, h2, h3, h4⟩ := h
  obtain ⟨r, rfl⟩ := Int.eq_ofNat_of_zero_le (show 0 ≤ R by omega)
  obtain ⟨c, rfl⟩ := Int.eq_ofNat_of_zero_le (show 0 ≤ C by omega)
  exact plain_on s r c _ _ rfl rfl W hT (by omega) (by omega) (by omega) (by omega) (by omega)
end Go.Proofs.YtkjpjegmanpbfaaGreatDoor.Emu
