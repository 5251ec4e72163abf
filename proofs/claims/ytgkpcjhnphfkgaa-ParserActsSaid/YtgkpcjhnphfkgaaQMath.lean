/-
  The parser as a plain machine (layer 4), and what is true of it.
-/
import Derived.Test.YtgkpcjhnphfkgaaPMath
namespace Go.Proofs.Ytgkpcjhnphfkgaa.Prs
open Go.Proofs.Ytgkpcjhnphfkgaa.Par

structure Act where
  kind : Int
  R : Int
  priv : Int
  params : List Int
  inter : List Int
  final : Int
  text : List Int

/-- What has come ahead of an act's end. -/
structure Sq where
  pr : Int
  num : Lst
  a : Int
  b : Int
  cnt : Nat
  many : Bool

structure PS where
  st : Int
  sq : Sq
  text : List Int

def emptySq : Sq := ⟨0, empty, 0, 0, 0, false⟩
def start : PS := ⟨0, emptySq, []⟩
def execA (r : Int) : Act := ⟨2, r, 0, [], [], 0, []⟩
def printA (r : Int) : Act := ⟨1, r, 0, [], [], 0, []⟩
def oscA (t : List Int) : Act := ⟨5, 0, 0, [], [], 0, t⟩
def Sq.put (q : Sq) (r : Int) : Sq := if q.cnt = 2 then ⟨q.pr, q.num, q.a, q.b, q.cnt, true⟩ else if q.cnt = 1 then ⟨q.pr, q.num, q.a, r, 2, q.many⟩ else ⟨q.pr, q.num, r, q.b, 1, q.many⟩
def Sq.inter (q : Sq) : List Int := [q.a, q.b].take q.cnt
def Sq.acts (q : Sq) (kind final : Int) : List Act := if q.many = true then [] else [⟨kind, 0, q.pr, q.num.n, q.inter, final, []⟩]

def leadA (S : PS) : List Act := if S.st = 12 then [oscA S.text] else []
def leadS (S : PS) (s : Int) : PS := ⟨s, if s = 1 ∨ s = 3 ∨ s = 7 then emptySq else S.sq, if S.st = 12 then [] else S.text⟩
abbrev Stp := List Act × PS
def leadF (S : PS) (s : Int) : Stp := (leadA S, leadS S s)
def finishF (S : PS) (kind r s : Int) : Stp := (leadA S ++ (leadS S s).sq.acts kind r, leadS S s)
def PS.take (S : PS) (r : Int) : PS := ⟨S.st, S.sq.put r, S.text⟩
def PS.priv (S : PS) (r : Int) : PS := ⟨S.st, ⟨r, S.sq.num, S.sq.a, S.sq.b, S.sq.cnt, S.sq.many⟩, S.text⟩
def PS.num (S : PS) (L : Lst) : PS := ⟨S.st, ⟨S.sq.pr, L, S.sq.a, S.sq.b, S.sq.cnt, S.sq.many⟩, S.text⟩
def dcsB (s : Int) : Bool := decide (s = 7 ∨ s = 8 ∨ s = 9)
def cParam (s : Int) : Int := if dcsB s = true then 8 else 4
def cInter (s : Int) : Int := if dcsB s = true then 9 else 5
def cIgnore (s : Int) : Int := if dcsB s = true then 11 else 6
def cEnd (s : Int) : Int := if dcsB s = true then 10 else 0
def cAct (s : Int) : Int := if dcsB s = true then 6 else 4
def escInterF (S : PS) (r : Int) : Stp := if r < 48 then leadF (S.take r) 2 else finishF S 3 r 0
def escapeF (S : PS) (r : Int) : Stp :=
  if r = 80 then leadF S 7 else if r = 88 ∨ r = 94 ∨ r = 95 then leadF S 13 else if r = 91 then leadF S 3 else if r = 93 then leadF S 12 else escInterF S r
def interF (S : PS) (r : Int) : Stp := if r < 48 then leadF (S.take r) (cInter S.st) else if r < 64 then leadF S (cIgnore S.st) else finishF S (cAct S.st) r (cEnd S.st)
def paramF (S : PS) (r : Int) : Stp :=
  if 48 ≤ r ∧ r ≤ 57 then leadF (S.num (digitF S.sq.num (r - 48))) (cParam S.st) else if r = 59 then leadF (S.num (nextF S.sq.num)) (cParam S.st) else interF S r
def entryF (S : PS) (r : Int) : Stp := if 60 ≤ r ∧ r < 64 then leadF (S.priv r) (cParam S.st) else paramF S r
def csiIgnF (S : PS) (r : Int) : Stp := if r < 64 then ([], S) else leadF S 0
def oscF (S : PS) (r : Int) : Stp := ([], if S.text.length < 1024 then ⟨S.st, S.sq, S.text ++ [r]⟩ else S)
def groundF (S : PS) (r : Int) : Stp := ([printA r], S)
def execLeadF (S : PS) (r : Int) : Stp := (leadA S ++ [execA r], leadS S 0)
def upperF (S : PS) (r : Int) : Stp :=
  if r = 144 then leadF S 7 else if r = 152 ∨ r = 158 ∨ r = 159 then leadF S 13 else if r = 155 then leadF S 3 else if r = 156 then leadF S 0 else if r = 157 then leadF S 12 else execLeadF S r
def controlF (S : PS) (r : Int) : Stp := if 0 ≤ S.st ∧ S.st ≤ 6 then ([execA r], S) else if S.st = 12 ∧ r = 7 then leadF S 0 else ([], S)
def beyondF (S : PS) (r : Int) : Stp := if S.st = 0 then groundF S r else if S.st = 12 then oscF S r else ([], S)
def stepF (S : PS) (r : Int) : Stp :=
  if S.st = 0 then groundF S r else if S.st = 1 then escapeF S r else if S.st = 2 then escInterF S r else if S.st = 3 ∨ S.st = 7 then entryF S r else if S.st = 4 ∨ S.st = 8 then paramF S r
  else if S.st = 5 ∨ S.st = 9 then interF S r else if S.st = 6 then csiIgnF S r else if S.st = 12 then oscF S r else ([], S)
def normF (r : Int) : Int := if r < 0 ∨ 1114111 < r then 65533 else r
def feedN (S : PS) (r : Int) : Stp :=
  if r = 24 ∨ r = 26 then execLeadF S r else if r = 27 then leadF S 1 else if r < 32 then controlF S r else if r < 127 then stepF S r else if r = 127 then ([], S) else if r < 160 then upperF S r else beyondF S r
def feedF (S : PS) (r : Int) : Stp := feedN S (normF r)

structure Sq.Ok (q : Sq) : Prop where
  num : q.num.Ok
  cnt : q.cnt ≤ 2
structure PS.Ok (S : PS) : Prop where
  st : (0 ≤ S.st ∧ S.st ≤ 13)
  sq : S.sq.Ok
  text : S.text.length ≤ 1024
  out : S.st ≠ 12 → S.text = []
  esc : S.st = 1 ∨ S.st = 2 → S.sq.pr = 0 ∧ S.sq.num.n = []

theorem emptySq_ok : emptySq.Ok := ⟨empty_ok, by simp [emptySq]⟩
theorem start_ok : start.Ok := ⟨by simp [start], emptySq_ok, by simp [start], fun _ => rfl, fun _ => ⟨rfl, rfl⟩⟩
theorem Sq.put_ok {q : Sq} (h : q.Ok) (r : Int) : (q.put r).Ok := by
  unfold Sq.put
  split
  · exact ⟨h.num, h.cnt⟩
  · split
    · exact ⟨h.num, by simp⟩
    · exact ⟨h.num, by simp⟩
theorem Sq.put_pr (q : Sq) (r : Int) : (q.put r).pr = q.pr ∧ (q.put r).num = q.num := by
  unfold Sq.put
  split
  · exact ⟨rfl, rfl⟩
  · split <;> exact ⟨rfl, rfl⟩

/-- What a call leaves. -/
structure Good (S : PS) (x : Stp) : Prop where
  ok : x.2.Ok
  few : x.1.length ≤ 2
/-- Leaving a state for s, the sequence being q. -/
theorem lead_ok {S : PS} (h : S.Ok) (q : Sq) (hq : q.Ok) (s : Int) (hs : 0 ≤ s ∧ s ≤ 13) (he : s = 2 → q.pr = 0 ∧ q.num.n = []) : (leadS ⟨S.st, q, S.text⟩ s).Ok := by
  unfold leadS
  refine ⟨hs, ?_, ?_, ?_, ?_⟩
  · simp only
    split
    · exact emptySq_ok
    · exact hq
  · simp only
    split
    · simp
    · exact h.text
  · intro _
    simp only
    split
    · rfl
    · exact h.out (by assumption)
  · intro hs2
    simp only at hs2 ⊢
    rcases hs2 with rfl | rfl
    · exact ⟨rfl, rfl⟩
    · exact he rfl
theorem lead_len (S : PS) : (leadA S).length ≤ 1 := by
  unfold leadA
  split <;> simp
theorem acts_len (q : Sq) (k r : Int) : (q.acts k r).length ≤ 1 := by
  unfold Sq.acts
  split <;> simp
theorem leadF_good {S : PS} (h : S.Ok) (q : Sq) (hq : q.Ok) (s : Int) (hs : 0 ≤ s ∧ s ≤ 13) (he : s = 2 → q.pr = 0 ∧ q.num.n = []) : Good S (leadF ⟨S.st, q, S.text⟩ s) :=
  ⟨lead_ok h q hq s hs he, by have := lead_len ⟨S.st, q, S.text⟩; show (leadA _).length ≤ 2; omega⟩
theorem leadF_good' {S : PS} (h : S.Ok) (s : Int) (hs : 0 ≤ s ∧ s ≤ 13) (he : s ≠ 2) : Good S (leadF S s) := leadF_good h S.sq h.sq s hs (fun e => absurd e he)
theorem finish_good {S : PS} (h : S.Ok) (k r s : Int) (hs : 0 ≤ s ∧ s ≤ 13) (he : s ≠ 2) : Good S (finishF S k r s) :=
  ⟨lead_ok h S.sq h.sq s hs (fun e => absurd e he), by
    have := lead_len S
    have := acts_len (leadS S s).sq k r
    show (leadA S ++ _).length ≤ 2
    rw [List.length_append]
    omega⟩
theorem stay_good {S : PS} (h : S.Ok) (l : List Act) (hl : l.length ≤ 2) : Good S (l, S) := ⟨h, hl⟩
theorem c_bounds (s : Int) : (0 ≤ cParam s ∧ cParam s ≤ 13 ∧ cParam s ≠ 2) ∧ (0 ≤ cInter s ∧ cInter s ≤ 13 ∧ cInter s ≠ 2) ∧ (0 ≤ cIgnore s ∧ cIgnore s ≤ 13 ∧ cIgnore s ≠ 2) ∧ (0 ≤ cEnd s ∧ cEnd s ≤ 13 ∧ cEnd s ≠ 2) := by
  unfold cParam cInter cIgnore cEnd
  split <;> simp
theorem escInter_good {S : PS} (h : S.Ok) (hs : S.st = 1 ∨ S.st = 2) (r : Int) : Good S (escInterF S r) := by
  unfold escInterF
  split
  · exact leadF_good h _ (Sq.put_ok h.sq r) 2 (by omega) (fun _ => by rw [(Sq.put_pr S.sq r).1, (Sq.put_pr S.sq r).2]; exact h.esc hs)
  · exact finish_good h _ _ _ (by omega) (by omega)
theorem escape_good {S : PS} (h : S.Ok) (hs : S.st = 1) (r : Int) : Good S (escapeF S r) := by
  unfold escapeF
  repeat' split
  all_goals first | exact leadF_good' h _ (by omega) (by omega) | exact escInter_good h (.inl hs) r
theorem inter_good {S : PS} (h : S.Ok) (r : Int) : Good S (interF S r) := by
  obtain ⟨_, ⟨b0, b1, b2⟩, ⟨c0, c1, c2⟩, ⟨d0, d1, d2⟩⟩ := c_bounds S.st
  unfold interF
  split
  · exact leadF_good h _ (Sq.put_ok h.sq r) _ ⟨b0, b1⟩ (fun e => absurd e b2)
  · split
    · exact leadF_good' h _ ⟨c0, c1⟩ c2
    · exact finish_good h _ _ _ ⟨d0, d1⟩ d2
theorem param_good {S : PS} (h : S.Ok) (r : Int) : Good S (paramF S r) := by
  obtain ⟨⟨b0, b1, b2⟩, _⟩ := c_bounds S.st
  unfold paramF
  split
  · exact leadF_good h ⟨_, _, _, _, _, _⟩ ⟨digit_ok h.sq.num _, h.sq.cnt⟩ _ ⟨b0, b1⟩ (fun e => absurd e b2)
  · split
    · exact leadF_good h ⟨_, _, _, _, _, _⟩ ⟨next_ok h.sq.num, h.sq.cnt⟩ _ ⟨b0, b1⟩ (fun e => absurd e b2)
    · exact inter_good h r
theorem entry_good {S : PS} (h : S.Ok) (r : Int) : Good S (entryF S r) := by
  obtain ⟨⟨b0, b1, b2⟩, _⟩ := c_bounds S.st
  unfold entryF
  split
  · exact leadF_good h ⟨r, S.sq.num, S.sq.a, S.sq.b, S.sq.cnt, S.sq.many⟩ ⟨h.sq.num, h.sq.cnt⟩ _ ⟨b0, b1⟩ (fun e => absurd e b2)
  · exact param_good h r
theorem osc_good {S : PS} (h : S.Ok) (hs : S.st = 12) (r : Int) : Good S (oscF S r) := by
  unfold oscF
  refine ⟨?_, by simp⟩
  simp only
  split
  · exact ⟨h.st, h.sq, by simp; omega, fun e => absurd hs e, fun e => by simp only at e; omega⟩
  · exact h
theorem execLead_good {S : PS} (h : S.Ok) (r : Int) : Good S (execLeadF S r) :=
  ⟨lead_ok h S.sq h.sq 0 (by omega) (fun e => by omega), by have := lead_len S; show (leadA S ++ _).length ≤ 2; rw [List.length_append, List.length_singleton]; omega⟩
theorem step_good {S : PS} (h : S.Ok) (r : Int) : Good S (stepF S r) := by
  unfold stepF
  split
  · exact stay_good h _ (by simp)
  split
  · exact escape_good h (by assumption) r
  split
  · exact escInter_good h (by omega) r
  split
  · exact entry_good h r
  split
  · exact param_good h r
  split
  · exact inter_good h r
  split
  · unfold csiIgnF
    split
    · exact stay_good h _ (by simp)
    · exact leadF_good' h 0 (by omega) (by omega)
  split
  · exact osc_good h (by assumption) r
  · exact stay_good h _ (by simp)
theorem feed_good {S : PS} (h : S.Ok) (r : Int) : Good S (feedF S r) := by
  unfold feedF feedN
  generalize normF r = r
  split
  · exact execLead_good h r
  split
  · exact leadF_good' h _ (by omega) (by omega)
  split
  · unfold controlF
    split
    · exact stay_good h _ (by simp)
    · split
      · exact leadF_good' h _ (by omega) (by omega)
      · exact stay_good h _ (by simp)
  split
  · exact step_good h r
  split
  · exact stay_good h _ (by simp)
  split
  · unfold upperF
    repeat' split
    all_goals first | exact leadF_good' h _ (by omega) (by omega) | exact execLead_good h r
  · unfold beyondF
    split
    · exact stay_good h _ (by simp)
    · split
      · exact osc_good h (by assumption) r
      · exact stay_good h _ (by simp)

/-- All runes of a text, one behind the other. -/
def runF (S : PS) : List Int → PS
  | [] => S
  | r :: l => runF (feedF S r).2 l
def actsF (S : PS) : List Int → List Act
  | [] => []
  | r :: l => (feedF S r).1 ++ actsF (feedF S r).2 l
theorem run_snoc (S : PS) (l : List Int) (r : Int) : runF S (l ++ [r]) = (feedF (runF S l) r).2 := by
  induction l generalizing S with
  | nil => rfl
  | cons x l ih => exact ih _
theorem acts_snoc (S : PS) (l : List Int) (r : Int) : actsF S (l ++ [r]) = actsF S l ++ (feedF (runF S l) r).1 := by
  induction l generalizing S with
  | nil => simp [actsF, runF]
  | cons x l ih => simp only [List.cons_append, actsF, runF, ih, List.append_assoc]
theorem run_ok {S : PS} (h : S.Ok) (l : List Int) : (runF S l).Ok := by
  induction l generalizing S with
  | nil => exact h
  | cons x l ih => exact ih (feed_good h x).ok
theorem acts_few {S : PS} (h : S.Ok) (l : List Int) : (actsF S l).length ≤ 2 * l.length := by
  induction l generalizing S with
  | nil => simp [actsF]
  | cons x l ih =>
    have h1 := (feed_good h x).few
    have h2 := ih (feed_good h x).ok
    simp only [actsF, List.length_append, List.length_cons]
    omega

end Go.Proofs.Ytgkpcjhnphfkgaa.Prs
