/-
  keys: KeysBrackets.
-/
import Derived.Test.YtkmedfffmalbgaaDoorKBrA
import Derived.Test.YtkmedfffmalbgaaDoorKBrB
import Derived.Test.YtkmedfffmalbgaaDoorKBrC
import Derived.Test.YtkmedfffmalbgaaDoorKBrD
namespace Go.Proofs.YtkmedfffmalbgaaDoor.Kys
open Go Go.RowKit Go.Proofs.YtkmedfffmalbgaaDoor.Com Go.Proofs.YtkmedfffmalbgaaDoor.Mds

theorem brackets_law (a : List Int) (_hf : Fits .i32 a) (a0 : Option Addr) (c : Nat) (_hc : a.length ≤ c) (_hm : c ≤ maxLen) (b : List Int) (_hg : Fits .i32 b) (b0 : Option Addr) (d : Nat) (_hd : b.length ≤ d) (_hk : d ≤ maxLen) (W : World) (hT : Tab W) (hna : Nums W W.heap.size .i32 a0 a) (hnb : Nums W W.heap.size .i32 b0 b) :
    Calls Tryd.prog 7 #[.slice a0 a.length c, .slice b0 b.length d] W (Yes W) := by
  by_cases hl : a.length ≤ 1000 ∧ b.length ≤ 1000
  · obtain ⟨ha, hb⟩ := hl
    by_cases h0 : 0 < a.length
    · by_cases h1 : 0 < b.length
      · by_cases h13 : a[a.length - 1] = 13
        · by_cases h10 : b[0] = 10
          · exact brackets_met a0 b0 c d a b ha hb h0 h1 h13 h10 W hna hnb hT
          · exact brackets_head a0 b0 c d a b ha hb (fun ⟨_, _, _, h⟩ => h10 h) h0 h1 h13 h10 W hna hnb hT
        · exact brackets_last a0 b0 c d a b ha hb (fun ⟨_, _, h, _⟩ => h13 h) h0 h1 h13 W hna hnb hT
      · exact brackets_none2 a0 b0 c d a b ha hb (fun ⟨_, h, _⟩ => h1 h) h0 (by omega) W hna hnb hT
    · exact brackets_none1 a0 b0 c d a b ha hb (fun ⟨h, _⟩ => h0 h) (by omega) W hna hnb hT
  · exact brackets_long a0 b0 a.length b.length c d (by omega) W hT

end Go.Proofs.YtkmedfffmalbgaaDoor.Kys
