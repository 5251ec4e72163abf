/-
  row: the program's row and the reference's side by side: what each call makes of them.
-/
import Derived.Test.YtnnaagkdlmamjaaRDoM
import Derived.Test.YtnnaagkdlmamjaaROps3
import Derived.Test.YtnnaagkdlmamjaaRCopy
import Derived.Test.YtnnaagkdlmamjaaRRRes
import Derived.Test.YtnnaagkdlmamjaaRRPutn
import Derived.Test.YtnnaagkdlmamjaaRRPutw
import Derived.Test.YtnnaagkdlmamjaaRRDel
import Derived.Test.YtnnaagkdlmamjaaRRIns
import Derived.Test.YtnnaagkdlmamjaaRRJoi2
import Derived.Test.YtnnaagkdlmamjaaRErase
namespace Go.Proofs.Ytnnaagkdlmamjaa.Rw
open Go Go.RowKit Go.Proofs.Ytnnaagkdlmamjaa.Com

def ts2 : List TypeId := [56, 74]
def tr2 : List TypeId := [69, 48]
def ts4 : List TypeId := [56, 74, 69, 48]
def Prg (B : Nat) (w : World) (d : Nat) (l : List Cel) : Prop := ∃ g n cap tail, RowX w d g n cap tail l ∧ B ≤ g ∧ B ≤ d
theorem Prg.fr {B B' : Nat} {ts : List TypeId} {w w' : World} {d : Nat} {l : List Cel} (h : Prg B w d l) (hf : Fr B' ts w w') (h0 : 56 ∉ ts) (h1 : 74 ∉ ts) : Prg B w' d l := by
  obtain ⟨g, n, cap, tail, hr, hg, hd⟩ := h
  exact ⟨g, n, cap, tail, ⟨Block.fr hr.ptr hf (.inl h0), Block.fr hr.row hf (.inl h1), hr.len, hr.le, hr.cap, hr.pos, hr.small⟩, hg, hd⟩
theorem RefIn.fr {B B' : Nat} {ts : List TypeId} {w w' : World} {d : Nat} {l : List Cel} (h : RefIn B w d l) (hf : Fr B' ts w w') (h0 : 69 ∉ ts) (h1 : 48 ∉ ts) (h2 : 21 ∉ ts) : RefIn B w' d l := by
  obtain ⟨gv, n, cap, ps, hx, he⟩ := h
  exact ⟨gv, n, cap, ps, hx.fr hf h0 h1 h2, he⟩
theorem RefIn.lower {B B' : Nat} {w : World} {d : Nat} {l : List Cel} (h : RefIn B w d l) (hB : B' ≤ B) : RefIn B' w d l := by
  obtain ⟨gv, n, cap, ps, hx, he⟩ := h
  exact ⟨gv, n, cap, ps, ⟨hx.ptr, hx.api.lower hB, hx.len, hx.pos, hx.small, hx.le, hx.cap, Nat.le_trans hB hx.lo⟩, he⟩
structure Two (B : Nat) (w : World) (d dr : Nat) (l l2 : List Cel) : Prop where
  prog : Prg B w d l
  ref : RefIn B w dr l2
  good : Good l
  good2 : Good l2
  hB : B ≤ w.heap.size
def TwoDone (B : Nat) (w : World) (d dr : Nat) (l l2 : List Cel) (v : Value) (e : Ending) (w' : World) : Prop := e = .returned v ∧ Two B w' d dr l l2 ∧ Fr B ts4 w w'
section
variable {B : Nat} {w w' : World} {d d' dr : Nat} {l l2 l' : List Cel}
theorem Two.fr (h : Two B w d dr l l2) {B' : Nat} {ts : List TypeId} (hf : Fr B' ts w w') (h0 : 56 ∉ ts) (h1 : 74 ∉ ts) (h2 : 69 ∉ ts) (h3 : 48 ∉ ts) (h4 : 21 ∉ ts) : Two B w' d dr l l2 :=
  ⟨h.prog.fr hf h0 h1, h.ref.fr hf h2 h3 h4, h.good, h.good2, Nat.le_trans h.hB hf.size⟩
theorem Two.below (h : Two B w d dr l l2) (hb : Below w.heap.size w w') : Two B w' d dr l l2 := h.fr (Fr.of_below (B := 0) (ts := []) hb) (by simp) (by simp) (by simp) (by simp) (by simp)
theorem Two.prog_step (h : Two B w d dr l l2) (hp : Prg B w' d' l') (hf : Fr B ts2 w w') (hg : Good l') : Two B w' d' dr l' l2 ∧ Fr B ts4 w w' :=
  ⟨⟨hp, h.ref.fr hf (by decide) (by decide) (by decide), hg, h.good2, Nat.le_trans h.hB hf.size⟩, hf.mono (by decide)⟩
theorem Two.ref_step (h : Two B w d dr l l2) (hp : RefIn B w' dr l') (hf : Fr B tr2 w w') (hg : Good l') : Two B w' d dr l l' ∧ Fr B ts4 w w' :=
  ⟨⟨h.prog.fr hf (by decide) (by decide), hp, h.good, hg, Nat.le_trans h.hB hf.size⟩, hf.mono (by decide)⟩
theorem Two.stay (h : Two B w d dr l l2) (hb : Below w.heap.size w w') : Two B w' d dr l l2 ∧ Fr B ts4 w w' := ⟨h.below hb, Fr.of_below hb⟩
theorem Two.op {v : Value} {e : Ending} {g n cap : Nat} {tail : List Value} (h : Two B w d dr l l2) (hr : RowX w d g n cap tail l) (hg : B ≤ g) (hd : B ≤ d) (hgd : Good l') (ho : OpDone w d g n cap tail l' v e w') : TwoDone B w d dr l' l2 v e w' :=
  ⟨ho.1, h.prog_step ⟨g, n, cap, tail, ho.2.1, hg, hd⟩ (Fr.of_only ho.2.2 (fun k hk _ => by
    obtain rfl : k = g := by simpa using hk
    exact ⟨hg, _, by decide, Block.typ hr.row⟩)) hgd⟩
end
variable {B : Nat} {w : World} {d dr : Nat} {l l2 : List Cel}
/-! The program's calls. -/
theorem two_put (h : Two B w d dr l l2) (col x : Int) (hc : -9223372036854775808 ≤ col ∧ col ≤ 9223372036854775807) (wide : Bool) (a : At) :
    Calls Try.prog 14 #[.pointer (some ⟨d, 0, none⟩), .int .i64 col, .int .i32 x, .bool wide, .agg #[.int .u32 a.f, .int .u32 a.b, .int .u16 a.g]] w (TwoDone B w d dr (putL l col x wide a) l2 (.int .i64 (putV l col x wide a))) := by
  obtain ⟨g, n, cap, tail, hr, hg, hd⟩ := h.prog
  have hgd := h.good.put col x wide a
  by_cases hk : putOk l col x wide a
  · unfold putL putV at *
    rw [if_pos hk] at hgd ⊢
    rw [if_pos hk]
    obtain ⟨h1, h0, h2⟩ := hk
    obtain ⟨c, rfl⟩ := Int.eq_ofNat_of_zero_le h0
    refine (put_yes hr h.good.whole c x wide a h1 (by rw [hr.len] at h2; omega)).mono fun e w' ho => h.op hr hg hd hgd ho
  · unfold putL putV at *
    rw [if_neg hk] at hgd ⊢
    rw [if_neg hk]
    refine (put_no hr col x hc wide a ?_).mono fun e w' ho => h.op hr hg hd hgd ho
    unfold putOk at hk
    rw [hr.len] at hk
    by_cases q1 : runeB x = true
    · by_cases q2 : 0 ≤ col
      · right; right
        cases wide
        · rw [show ((cellsPut x false a).length : Int) = 1 from rfl] at hk
          left; exact Int.not_lt.1 fun q => hk ⟨q1, q2, by omega⟩
        · rw [show ((cellsPut x true a).length : Int) = 2 from rfl] at hk
          right; exact ⟨rfl, Int.not_lt.1 fun q => hk ⟨q1, q2, by omega⟩⟩
      · right; left; omega
    · left; simpa using q1
theorem two_join (h : Two B w d dr l l2) (col x : Int) :
    Calls Try.prog 15 #[.pointer (some ⟨d, 0, none⟩), .int .i64 col, .int .i32 x] w (TwoDone B w d dr (joiL l col x) l2 (.int .i64 (joiV l col x))) := by
  obtain ⟨g, n, cap, tail, hr, hg, hd⟩ := h.prog
  have hgd := h.good.joi col x
  by_cases hk : joiOk l col x
  · unfold joiL joiV at *
    rw [if_pos hk] at hgd ⊢
    rw [if_pos hk]
    obtain ⟨h1, h0, h2⟩ := hk
    obtain ⟨c, rfl⟩ := Int.eq_ofNat_of_zero_le h0
    refine (join_yes hr h.good.whole (fun c hc => (h.good.cell c hc).four) c x h1 (by rw [hr.len] at h2; omega)).mono fun e w' ho => h.op hr hg hd hgd ho
  · unfold joiL joiV at *
    rw [if_neg hk]
    rw [if_neg hk]
    refine (join_no hr col x ?_).mono fun e w' ho => ?_
    · unfold joiOk at hk
      rw [hr.len] at hk
      by_cases q1 : runeB x = true
      · by_cases q2 : 0 ≤ col
        · right; right
          exact Int.not_lt.1 fun q => hk ⟨q1, q2, q⟩
        · right; left; omega
      · left; simpa using q1
    · obtain ⟨rfl, rfl⟩ := ho
      exact ⟨rfl, h.stay (Below.refl _ _)⟩
theorem two_erase (h : Two B w d dr l l2) (lo hi : Int) (a : At) :
    Calls Try.prog 13 #[.pointer (some ⟨d, 0, none⟩), .int .i64 lo, .int .i64 hi, .agg #[.int .u32 a.f, .int .u32 a.b, .int .u16 a.g]] w (TwoDone B w d dr (eraL l lo hi a) l2 (.int .i64 0)) := by
  obtain ⟨g, n, cap, tail, hr, hg, hd⟩ := h.prog
  have hgd := h.good.era lo hi a
  have hq := erase_any hr h.good.whole lo hi a
  unfold eraL at hgd ⊢
  rw [hr.len] at hgd ⊢
  exact hq.mono fun e w' ho => h.op hr hg hd hgd ho
theorem two_insert (h : Two B w d dr l l2) (col k : Int) (a : At) :
    Calls Try.prog 19 #[.pointer (some ⟨d, 0, none⟩), .int .i64 col, .int .i64 k, .agg #[.int .u32 a.f, .int .u32 a.b, .int .u16 a.g]] w (TwoDone B w d dr (inL l col k a) l2 (.int .i64 0)) := by
  obtain ⟨g, n, cap, tail, hr, hg, hd⟩ := h.prog
  have hgd := h.good.ins col k a
  have hq := insert_any hr h.good.whole col k a
  unfold inL at hgd ⊢
  rw [hr.len] at hgd ⊢
  exact hq.mono fun e w' ho => h.op hr hg hd hgd ho
theorem two_delete (h : Two B w d dr l l2) (col k : Int) (a : At) :
    Calls Try.prog 20 #[.pointer (some ⟨d, 0, none⟩), .int .i64 col, .int .i64 k, .agg #[.int .u32 a.f, .int .u32 a.b, .int .u16 a.g]] w (TwoDone B w d dr (deL l col k a) l2 (.int .i64 0)) := by
  obtain ⟨g, n, cap, tail, hr, hg, hd⟩ := h.prog
  have hgd := h.good.del col k a
  have hq := delete_any hr h.good.whole col k a
  unfold deL at hgd ⊢
  rw [hr.len] at hgd ⊢
  exact hq.mono fun e w' ho => h.op hr hg hd hgd ho
theorem two_resize (h : Two B w d dr l l2) (k : Int) :
    Calls Try.prog 26 #[.pointer (some ⟨d, 0, none⟩), .int .i64 k] w (TwoDone B w d dr (reL l k) l2 (.int .i64 (reV k))) := by
  obtain ⟨g, n, cap, tail, hr, hg, hd⟩ := h.prog
  have hgd := h.good.res k
  by_cases hk : 1 ≤ k ∧ k ≤ 512
  · unfold reL reV at *
    rw [if_pos hk] at hgd ⊢
    rw [if_pos hk]
    obtain ⟨c, rfl⟩ := Int.eq_ofNat_of_zero_le (show 0 ≤ k by omega)
    refine (resize_yes hr h.good.whole c (by omega) (by omega)).mono fun e w' ho => ?_
    obtain ⟨g', rfl, hr', ho, hg'⟩ := ho
    refine ⟨rfl, h.prog_step ⟨g', c, c, [], hr', Nat.le_trans h.hB hg', hd⟩ (Fr.of_only ho fun k hk _ => ?_) hgd⟩
    obtain rfl : k = d := by simpa using hk
    exact ⟨hd, _, by decide, Block.typ hr.ptr⟩
  · unfold reL reV at *
    rw [if_neg hk]
    rw [if_neg hk]
    refine (resize_no hr k (by omega)).mono fun e w' ho => ?_
    obtain ⟨rfl, rfl⟩ := ho
    exact ⟨rfl, h.stay (Below.refl _ _)⟩
/-! The reference's. -/
theorem ref_put (h : Two B w d dr l l2) (col x : Int) (hc : -9223372036854775808 ≤ col ∧ col ≤ 9223372036854775807) (wide : Bool) (a : At) :
    Calls Try.prog 32 #[.pointer (some ⟨dr, 0, none⟩), .int .i64 col, .int .i32 x, .bool wide, .agg #[.int .u32 a.f, .int .u32 a.b, .int .u16 a.g]] w (TwoDone B w d dr l (putL l2 col x wide a) (.int .i64 (putV l2 col x wide a))) := by
  obtain ⟨gv, n, cap, ps, hx, he⟩ := h.ref
  have hgd := h.good2.put col x wide a
  have hln : l2.length = n := by rw [← he, cels_length, hx.len]
  by_cases hk : putOk l2 col x wide a
  · unfold putL putV at *
    rw [if_pos hk] at hgd ⊢
    rw [if_pos hk]
    obtain ⟨h1, h0, h2⟩ := hk
    obtain ⟨c, rfl⟩ := Int.eq_ofNat_of_zero_le h0
    cases wide
    · refine (rputn_any hx (he ▸ h.good2.whole) c x a h1 (by simp [cellsPut] at h2; omega)).mono fun e w' ho => ?_
      obtain ⟨rfl, _, hr, hf⟩ := ho
      rw [he] at hr
      exact ⟨rfl, h.ref_step hr hf hgd⟩
    · refine (rputw_any hx (he ▸ h.good2.whole) c x a h1 (by simp [cellsPut] at h2; omega)).mono fun e w' ho => ?_
      obtain ⟨rfl, _, hr, hf⟩ := ho
      rw [he] at hr
      exact ⟨rfl, h.ref_step hr hf hgd⟩
  · unfold putL putV at *
    rw [if_neg hk]
    rw [if_neg hk]
    refine (rput_no hx col x hc wide a ?_).mono fun e w' ho => ?_
    · unfold putOk at hk
      rw [hln] at hk
      by_cases q1 : runeB x = true
      · by_cases q2 : 0 ≤ col
        · right; right
          cases wide
          · rw [show ((cellsPut x false a).length : Int) = 1 from rfl] at hk
            left; exact Int.not_lt.1 fun q => hk ⟨q1, q2, by omega⟩
          · rw [show ((cellsPut x true a).length : Int) = 2 from rfl] at hk
            right; exact ⟨rfl, Int.not_lt.1 fun q => hk ⟨q1, q2, by omega⟩⟩
        · right; left; omega
      · left; simpa using q1
    · obtain ⟨rfl, hb⟩ := ho
      exact ⟨rfl, h.stay hb⟩
theorem ref_join (h : Two B w d dr l l2) (col x : Int) :
    Calls Try.prog 33 #[.pointer (some ⟨dr, 0, none⟩), .int .i64 col, .int .i32 x] w (TwoDone B w d dr l (joiL l2 col x) (.int .i64 (joiV l2 col x))) := by
  obtain ⟨gv, n, cap, ps, hx, he⟩ := h.ref
  have hgd := h.good2.joi col x
  have hln : l2.length = n := by rw [← he, cels_length, hx.len]
  by_cases hk : joiOk l2 col x
  · unfold joiL joiV at *
    rw [if_pos hk] at hgd ⊢
    rw [if_pos hk]
    obtain ⟨h1, h0, h2⟩ := hk
    obtain ⟨c, rfl⟩ := Int.eq_ofNat_of_zero_le h0
    refine (rjoin_yes hx h.hB (he ▸ h.good2.whole) (fun p hp => (h.good2.cell p.1 (he ▸ List.mem_map_of_mem hp)).four) c x h1 (by omega)).mono fun e w' ho => ?_
    obtain ⟨rfl, _, hr, hf⟩ := ho
    rw [he] at hr ⊢
    exact ⟨rfl, h.ref_step hr hf hgd⟩
  · unfold joiL joiV at *
    rw [if_neg hk]
    rw [if_neg hk]
    refine (rjoin_no hx col x ?_).mono fun e w' ho => ?_
    · unfold joiOk at hk
      rw [hln] at hk
      by_cases q1 : runeB x = true
      · by_cases q2 : 0 ≤ col
        · right; right
          exact Int.not_lt.1 fun q => hk ⟨q1, q2, q⟩
        · right; left; omega
      · left; simpa using q1
    · obtain ⟨rfl, rfl⟩ := ho
      exact ⟨rfl, h.stay (Below.refl _ _)⟩
def RefTwo (B : Nat) (w : World) (d dr : Nat) (l l2 : List Cel) (e : Ending) (w' : World) : Prop := (∃ v, e = .returned v) ∧ Two B w' d dr l l2 ∧ Fr B ts4 w w'
theorem ref_erase' (h : Two B w d dr l l2) (lo hi : Int) (a : At) :
    Calls Try.prog 34 #[.pointer (some ⟨dr, 0, none⟩), .int .i64 lo, .int .i64 hi, .agg #[.int .u32 a.f, .int .u32 a.b, .int .u16 a.g]] w (RefTwo B w d dr l (eraL l2 lo hi a)) := by
  obtain ⟨gv, n, cap, ps, hx, rfl⟩ := h.ref
  have hgd := h.good2.era lo hi a
  have hq := rerase_any hx h.good2.whole lo hi a
  unfold eraL at hgd ⊢
  rw [cels_length, hx.len] at hgd ⊢
  exact hq.mono fun e w' ho => ⟨ho.1, h.ref_step ho.2.1 ho.2.2 hgd⟩
theorem ref_insert' (h : Two B w d dr l l2) (col k : Int) (a : At) :
    Calls Try.prog 35 #[.pointer (some ⟨dr, 0, none⟩), .int .i64 col, .int .i64 k, .agg #[.int .u32 a.f, .int .u32 a.b, .int .u16 a.g]] w (RefTwo B w d dr l (inL l2 col k a)) := by
  obtain ⟨gv, n, cap, ps, hx, rfl⟩ := h.ref
  have hgd := h.good2.ins col k a
  have hq := rinsert_any hx h.good2.whole col k a
  unfold inL at hgd ⊢
  rw [cels_length, hx.len] at hgd ⊢
  exact hq.mono fun e w' ho => ⟨ho.1, h.ref_step ho.2.1 ho.2.2 hgd⟩
theorem ref_delete' (h : Two B w d dr l l2) (col k : Int) (a : At) :
    Calls Try.prog 36 #[.pointer (some ⟨dr, 0, none⟩), .int .i64 col, .int .i64 k, .agg #[.int .u32 a.f, .int .u32 a.b, .int .u16 a.g]] w (RefTwo B w d dr l (deL l2 col k a)) := by
  obtain ⟨gv, n, cap, ps, hx, rfl⟩ := h.ref
  have hgd := h.good2.del col k a
  have hq := rdelete_any hx h.good2.whole col k a
  unfold deL at hgd ⊢
  rw [cels_length, hx.len] at hgd ⊢
  exact hq.mono fun e w' ho => ⟨ho.1, h.ref_step ho.2.1 ho.2.2 hgd⟩
theorem ref_resize' (h : Two B w d dr l l2) (k : Int) :
    Calls Try.prog 37 #[.pointer (some ⟨dr, 0, none⟩), .int .i64 k] w (TwoDone B w d dr l (reL l2 k) (.int .i64 (reV k))) := by
  obtain ⟨gv, n, cap, ps, hx, he⟩ := h.ref
  have hgd := h.good2.res k
  by_cases hk : 1 ≤ k ∧ k ≤ 512
  · unfold reL reV at *
    rw [if_pos hk] at hgd ⊢
    rw [if_pos hk]
    obtain ⟨c, rfl⟩ := Int.eq_ofNat_of_zero_le (show 0 ≤ k by omega)
    refine (rresize_yes hx (he ▸ h.good2.whole) c (by omega) (by omega)).mono fun e w' ho => ?_
    obtain ⟨rfl, _, hr, hf⟩ := ho
    rw [he] at hr
    exact ⟨rfl, h.ref_step hr hf hgd⟩
  · unfold reL reV at *
    rw [if_neg hk]
    rw [if_neg hk]
    refine (rresize_no k (by omega)).mono fun e w' ho => ?_
    obtain ⟨rfl, rfl⟩ := ho
    exact ⟨rfl, h.stay (Below.refl _ _)⟩
end Go.Proofs.Ytnnaagkdlmamjaa.Rw
