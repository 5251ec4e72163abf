/-
  typed: what a law knows of its list from call to call; the known answers.
-/
import Derived.Test.YtkaeicaidomghaaYNewB
namespace Go.Proofs.Ytkaeicaidomghaa.Tpd
open Go Go.RowKit Go.Proofs.Ytkaeicaidomghaa.Com

structure St (w wr : World) (d : Nat) (life last : Int) (ks : List Key) : Prop where
  tl : TL wr d life last ks
  tick : Tick ks
  below : Below w.heap.size w wr
  low : w.heap.size ≤ d
theorem St.on {w wr w' : World} {d : Nat} {life last last' : Int} {ks ks' : List Key} (h : St w wr d life last ks) (ht : TL w' d life last' ks') (hk : Tick ks') (ho : Only [d] wr w') : St w w' d life last' ks' :=
  ⟨ht, hk, h.below.trans (ho.below h.below.size (by simpa using h.low)), h.low⟩
theorem new_st (life : Int) (h1 : 1 ≤ life) (h2 : life ≤ 1000) (w wr : World) (hb : Below w.heap.size w wr) :
    Calls Try.prog 12 #[.int .i64 life] wr fun e w' => ∃ d, e = .returned (.tuple #[.pointer (some ⟨d, 0, none⟩), .int .i64 0]) ∧ St w w' d life 0 [] :=
  (new_yes life h1 h2 wr).mono fun _ _ ⟨d, he, ht, hd, hb'⟩ => ⟨d, he, ht, fun k hk => by simp at hk, below_next hb hb', Nat.le_trans hb.size hd⟩
theorem type_st {w wr : World} {d : Nat} {life last : Int} {ks : List Key} (h : St w wr d life last ks) (hl : 1 ≤ life) (r now : Int) (h0 : 0 ≤ now) (h1 : last ≤ now) (h2 : now ≤ 1099511627776) :
    Calls Try.prog 6 #[.pointer (some ⟨d, 0, none⟩), .int .i32 r, .int .i64 now] wr fun e w' => (∃ v, e = .returned v) ∧ St w w' d life now (pushK ks (r, now)) :=
  (type_any h.tl hl r now h1 h2).mono fun _ _ ⟨hv, ht, ho⟩ => ⟨hv, h.on ht (h.tick.push ⟨h0, h2⟩) ho⟩
theorem take_st {w wr : World} {d : Nat} {life last : Int} {ks : List Key} (h : St w wr d life last ks) (hl : 1 ≤ life) (hl2 : life ≤ 1000) (r now : Int) (h1 : last ≤ now) (h2 : now ≤ 1099511627776) {b : Bool} {ks' : List Key} (hb : takeB life now ks r = b) (hk : takeK life now ks r = ks') :
    Calls Try.prog 7 #[.pointer (some ⟨d, 0, none⟩), .int .i32 r, .int .i64 now] wr fun e w' => e = .returned (.bool b) ∧ St w w' d life now ks' := by
  subst hb hk
  exact (take_any h.tl hl hl2 h.tick r now h1 h2).mono fun _ _ ⟨hv, ht, ho⟩ => ⟨hv, h.on ht ((h.tick.drop _).drop _) ho⟩
theorem waits_st {w wr : World} {d : Nat} {life last : Int} {ks : List Key} (h : St w wr d life last ks) (hl : 1 ≤ life) (hl2 : life ≤ 1000) (now : Int) {l : List Int} {n : Nat} (hw : waitL life (max now last) ks = l) (hn : l.length = n) :
    Calls Try.prog 8 #[.pointer (some ⟨d, 0, none⟩), .int .i64 now] wr fun e w' => ∃ ao c, e = .returned (.slice ao n c) ∧ St w w' d life last ks ∧ Nums w' w'.heap.size .i32 ao l := by
  subst hw hn
  refine (waits_any h.tl hl hl2 h.tick now _ rfl).mono ?_
  rintro e w' ⟨v, rfl, ho, hb⟩
  obtain ⟨ao, c, rfl, _, _, hq⟩ := ho.shape
  exact ⟨ao, c, rfl, ⟨h.tl.below hb, h.tick, below_next h.below hb, h.low⟩, hq⟩
theorem clear_st {w wr : World} {d : Nat} {life last : Int} {ks : List Key} (h : St w wr d life last ks) (hl : 1 ≤ life) :
    Calls Try.prog 10 #[.pointer (some ⟨d, 0, none⟩)] wr fun e w' => (∃ v, e = .returned v) ∧ St w w' d life last [] :=
  (clear_any h.tl hl).mono fun _ _ ⟨hv, ht, ho⟩ => ⟨hv, h.on ht (fun k hk => by simp at hk) ho⟩

/-- What a law answers. -/
def Yes (w : World) (e : Ending) (w' : World) : Prop := e = .returned (.bool true) ∧ Below w.heap.size w w'

set_option maxRecDepth 100000 in
set_option maxHeartbeats 4000000 in
theorem known_any (w : World) : Calls Try.prog 11 #[] w (Yes w) := by
  have hN := Lib.hid (new_st 5 (by omega) (by omega) w w (Below.refl _ _))
  have hN0 := Lib.hid (fun wr => new_no 0 (by omega) wr)
  have k1 : Hid (∀ d wr, St w wr d 5 0 [] → Calls Try.prog 6 #[.pointer (some ⟨d, 0, none⟩), .int .i32 97, .int .i64 0] wr fun e w' => (∃ v, e = .returned v) ∧ St w w' d 5 0 [(97, 0)]) := Lib.hid fun d wr h => type_st h (by omega) 97 0 (by omega) (by omega) (by omega)
  have k2 : Hid (∀ d wr, St w wr d 5 0 [(97, 0)] → Calls Try.prog 6 #[.pointer (some ⟨d, 0, none⟩), .int .i32 98, .int .i64 3] wr fun e w' => (∃ v, e = .returned v) ∧ St w w' d 5 3 [(97, 0), (98, 3)]) := Lib.hid fun d wr h => type_st h (by omega) 98 3 (by omega) (by omega) (by omega)
  have k3 : Hid (∀ d wr, St w wr d 5 3 [(97, 0), (98, 3)] → Calls Try.prog 7 #[.pointer (some ⟨d, 0, none⟩), .int .i32 98, .int .i64 4] wr fun e w' => e = .returned (.bool false) ∧ St w w' d 5 4 [(97, 0), (98, 3)]) := Lib.hid fun d wr h => take_st h (by omega) (by omega) 98 4 (by omega) (by omega) (by decide) (by decide)
  have k4 : Hid (∀ d wr, St w wr d 5 4 [(97, 0), (98, 3)] → Calls Try.prog 7 #[.pointer (some ⟨d, 0, none⟩), .int .i32 97, .int .i64 4] wr fun e w' => e = .returned (.bool true) ∧ St w w' d 5 4 [(98, 3)]) := Lib.hid fun d wr h => take_st h (by omega) (by omega) 97 4 (by omega) (by omega) (by decide) (by decide)
  have k5 : Hid (∀ d wr, St w wr d 5 4 [(98, 3)] → Calls Try.prog 8 #[.pointer (some ⟨d, 0, none⟩), .int .i64 7] wr fun e w' => ∃ ao c, e = .returned (.slice ao 1 c) ∧ St w w' d 5 4 [(98, 3)] ∧ Nums w' w'.heap.size .i32 ao [98]) := Lib.hid fun d wr h => waits_st h (by omega) (by omega) 7 (by decide) rfl
  have k6 : Hid (∀ d wr, St w wr d 5 4 [(98, 3)] → Calls Try.prog 8 #[.pointer (some ⟨d, 0, none⟩), .int .i64 8] wr fun e w' => ∃ ao c, e = .returned (.slice ao 0 c) ∧ St w w' d 5 4 [(98, 3)] ∧ Nums w' w'.heap.size .i32 ao []) := Lib.hid fun d wr h => waits_st h (by omega) (by omega) 8 (by decide) rfl
  have k7 : Hid (∀ d wr, St w wr d 5 4 [(98, 3)] → Calls Try.prog 7 #[.pointer (some ⟨d, 0, none⟩), .int .i32 98, .int .i64 7] wr fun e w' => e = .returned (.bool true) ∧ St w w' d 5 7 []) := Lib.hid fun d wr h => take_st h (by omega) (by omega) 98 7 (by omega) (by omega) (by decide) (by decide)
  go_enter Try.func11, Try.ntmps11
  go_wp2_with (first
    | (go_at_call 12; (with_reducible refine (hN.out).mono ?_); rintro e w0 ⟨d, rfl, h⟩; have s0 := Lib.hid h; clear h hN)
    | (go_at_call 12; (with_reducible refine (hN0.out _).mono ?_); rintro e w' ⟨rfl, rfl⟩; clear hN0)
    | (go_at_call 6; (with_reducible refine (k1.out _ _ s0.out).mono ?_); rintro e w1 ⟨⟨v1, rfl⟩, h⟩; have s1 := Lib.hid h; clear h s0 k1)
    | (go_at_call 6; (with_reducible refine (k2.out _ _ s1.out).mono ?_); rintro e w2 ⟨⟨v2, rfl⟩, h⟩; have s2 := Lib.hid h; clear h s1 k2)
    | (go_at_call 7; (with_reducible refine (k3.out _ _ s2.out).mono ?_); rintro e w3 ⟨rfl, h⟩; have s3 := Lib.hid h; clear h s2 k3)
    | (go_at_call 7; (with_reducible refine (k4.out _ _ s3.out).mono ?_); rintro e w4 ⟨rfl, h⟩; have s4 := Lib.hid h; clear h s3 k4)
    | (go_at_call 8; (with_reducible refine (k5.out _ _ s4.out).mono ?_); rintro e w5 ⟨a5, c5, rfl, h, hq⟩; have s5 := Lib.hid h; clear h hq s4 k5)
    | (go_at_call 8; (with_reducible refine (k6.out _ _ s5.out).mono ?_); rintro e w6 ⟨a6, c6, rfl, h, hq⟩; have s6 := Lib.hid h; clear h hq s5 k6)
    | (go_at_call 7; (with_reducible refine (k7.out _ _ s6.out).mono ?_); rintro e w7 ⟨rfl, h⟩; have s7 := Lib.hid h; clear h s6 k7))
  go_ret
  exact ⟨rfl, s7.out.below⟩
end Go.Proofs.Ytkaeicaidomghaa.Tpd
