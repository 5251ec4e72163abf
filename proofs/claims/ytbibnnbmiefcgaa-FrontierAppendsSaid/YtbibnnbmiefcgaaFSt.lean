/-
  frontier: what a law knows of its frontier from call to call; the known answers.
-/
import Derived.Test.YtbibnnbmiefcgaaFFeed
namespace Go.Proofs.Ytbibnnbmiefcgaa.Fro
open Go Go.RowKit Go.Proofs.Ytbibnnbmiefcgaa.Com

structure St (w wr : World) (d : Nat) (S : Fr) : Prop where
  fb : FB wr d S
  ok : S.Ok
  below : Below w.heap.size w wr
  low : w.heap.size ≤ d
theorem St.on {w wr w' : World} {d : Nat} {S T : Fr} (h : St w wr d S) (hf : FB w' d T) (hk : T.Ok) (ho : Only [d] wr w') : St w w' d T :=
  ⟨hf, hk, h.below.trans (ho.below h.below.size (by simpa using h.low)), h.low⟩
theorem St.next {w wr w' : World} {d : Nat} {S : Fr} (h : St w wr d S) (hb : Below wr.heap.size wr w') : St w w' d S := ⟨h.fb.below hb, h.ok, below_next h.below hb, h.low⟩
theorem new_st {w wr : World} (h : Below w.heap.size w wr) : Calls Try.prog 6 #[] wr fun x w' => ∃ d, x = .returned (.pointer (some ⟨d, 0, none⟩)) ∧ wr.heap.size ≤ d ∧ Below wr.heap.size wr w' ∧ St w w' d Fr.new :=
  (new_any wr).mono fun _ _ ⟨d, e, hf, hd, hb⟩ => ⟨d, e, hd, hb, hf, Fr.new_ok, below_next h hb, Nat.le_trans h.size hd⟩
theorem feed_st {w wr : World} {d : Nat} {S : Fr} (h : St w wr d S) (e : Ev) (hk : e.Ok) (echo : Bool) {K : Int} {T : Fr} (hK : kindF S e echo = K) (hT : nextF S e echo = T) :
    Calls Try.prog 8 #[.pointer (some ⟨d, 0, none⟩), evV e, .bool echo] wr fun x w' => x = .returned (.int .u8 K) ∧ Only [d] wr w' ∧ St w w' d T := by
  subst hK hT
  exact (feed_any h.fb e hk echo).mono fun _ _ ⟨a, b, c⟩ => ⟨a, c, h.on b (nextF_ok h.ok e echo) c⟩

/-- What a law answers. -/
def Yes (w : World) (e : Ending) (w' : World) : Prop := e = .returned (.bool true) ∧ Below w.heap.size w w'
def putE (b : Bool) : Ev := ⟨1, 0, 0, 0, false, 0, b, false, false, false⟩
def freshE : Ev := ⟨3, 0, 0, 0, false, 0, false, false, true, false⟩
def otherE : Ev := ⟨4, 0, 0, 0, false, 0, false, false, false, false⟩
def resetE : Ev := ⟨5, 0, 0, 0, false, 0, false, false, false, false⟩
theorem put_ok (b : Bool) : (putE b).Ok := ⟨by show (0 : Int) ≤ 1; decide, by show (1 : Int) ≤ 255; decide⟩
theorem put_any (w : World) (b : Bool) : Calls Try.prog 10 #[.bool b] w fun x w' => x = .returned (evV (putE b)) ∧ Below w.heap.size w w' := by
  go_enter Try.func10, Try.ntmps10
  go_wp2
  exact bodyPost_ret (v := evV (putE b)) (by simp [results, Try.results10, go_sem, putE]) rfl ⟨rfl, below_new _ _⟩
set_option maxRecDepth 100000 in
set_option maxHeartbeats 4000000 in
theorem known_any (w : World) : Calls Try.prog 5 #[] w (Yes w) := by
  have hN := Lib.hid (new_st (Below.refl w.heap.size w))
  have hp := Lib.hid (fun w b => put_any w b)
  have hnx : Hid (∀ wr w' d S, St w wr d S → Below wr.heap.size wr w' → St w w' d S) := Lib.hid fun _ _ _ _ h hb => h.next hb
  have k1 : Hid (∀ d wr, St w wr d Fr.new → Calls Try.prog 8 #[.pointer (some ⟨d, 0, none⟩), evV (putE true), .bool false] wr fun x w' => x = .returned (.int .u8 2) ∧ Only [d] wr w' ∧ St w w' d ⟨false, 2⟩) := Lib.hid fun d wr h => feed_st h _ (put_ok _) _ (by decide) rfl
  have k2 : Hid (∀ d wr, St w wr d ⟨false, 2⟩ → Calls Try.prog 8 #[.pointer (some ⟨d, 0, none⟩), evV (putE false), .bool false] wr fun x w' => x = .returned (.int .u8 3) ∧ Only [d] wr w' ∧ St w w' d ⟨true, 3⟩) := Lib.hid fun d wr h => feed_st h _ (put_ok _) _ (by decide) rfl
  have k3 : Hid (∀ d wr, St w wr d ⟨true, 3⟩ → Calls Try.prog 8 #[.pointer (some ⟨d, 0, none⟩), evV (putE true), .bool false] wr fun x w' => x = .returned (.int .u8 3) ∧ Only [d] wr w' ∧ St w w' d ⟨true, 3⟩) := Lib.hid fun d wr h => feed_st h _ (put_ok _) _ (by decide) rfl
  have k4 : Hid (∀ d wr, St w wr d ⟨true, 3⟩ → Calls Try.prog 8 #[.pointer (some ⟨d, 0, none⟩), evV freshE, .bool false] wr fun x w' => x = .returned (.int .u8 0) ∧ Only [d] wr w' ∧ St w w' d ⟨false, 3⟩) := Lib.hid fun d wr h => feed_st h _ ⟨by decide, by decide⟩ _ (by decide) rfl
  have k5 : Hid (∀ d wr, St w wr d ⟨false, 3⟩ → Calls Try.prog 8 #[.pointer (some ⟨d, 0, none⟩), evV (putE true), .bool false] wr fun x w' => x = .returned (.int .u8 2) ∧ Only [d] wr w' ∧ St w w' d ⟨false, 2⟩) := Lib.hid fun d wr h => feed_st h _ (put_ok _) _ (by decide) rfl
  have k6 : Hid (∀ d wr, St w wr d ⟨false, 2⟩ → Calls Try.prog 7 #[.pointer (some ⟨d, 0, none⟩)] wr fun x w' => x = .returned (.bool true) ∧ wr = w') := Lib.hid fun d wr h => on_any h.fb
  go_enter Try.func5, Try.ntmps5
  go_wp2_with (first
    | (go_at_call 10; refine (hp.out _ _).mono ?_; rintro x w' ⟨rfl, hb⟩; first | (replace s0 := Lib.hid (hnx.out _ _ _ _ s0.out hb)) | (replace s1 := Lib.hid (hnx.out _ _ _ _ s1.out hb)) | (replace s2 := Lib.hid (hnx.out _ _ _ _ s2.out hb)) | (replace s4 := Lib.hid (hnx.out _ _ _ _ s4.out hb)); clear hb)
    | (go_at_call 6; refine (hN.out).mono ?_; rintro e w0 ⟨d, rfl, _, _, h⟩; have s0 := Lib.hid h; clear h hN)
    | (go_at_call 8; refine (k1.out _ _ s0.out).mono ?_; rintro e w1 ⟨rfl, _, h⟩; have s1 := Lib.hid h; clear h s0 k1)
    | (go_at_call 8; refine (k2.out _ _ s1.out).mono ?_; rintro e w2 ⟨rfl, _, h⟩; have s2 := Lib.hid h; clear h s1 k2)
    | (go_at_call 8; refine (k3.out _ _ s2.out).mono ?_; rintro e w3 ⟨rfl, _, h⟩; have s3 := Lib.hid h; clear h s2 k3)
    | (go_at_call 8; refine (k4.out _ _ s3.out).mono ?_; rintro e w4 ⟨rfl, _, h⟩; have s4 := Lib.hid h; clear h s3 k4)
    | (go_at_call 8; refine (k5.out _ _ s4.out).mono ?_; rintro e w5 ⟨rfl, _, h⟩; have s5 := Lib.hid h; clear h s4 k5)
    | (go_at_call 7; refine (k6.out _ _ s5.out).mono ?_; rintro e w6 ⟨rfl, rfl⟩))
  go_ret
  exact ⟨rfl, s5.out.below⟩
end Go.Proofs.Ytbibnnbmiefcgaa.Fro
