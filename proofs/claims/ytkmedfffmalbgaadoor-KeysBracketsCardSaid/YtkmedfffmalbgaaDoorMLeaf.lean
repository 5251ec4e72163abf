/-
  modes: eight flags as a value and as a block.
-/
import Derived.Test.YtkmedfffmalbgaaDoorProg
import Derived.Test.YtkmedfffmalbgaaDoorMMath
import Derived.Test.YtkmedfffmalbgaaDoorMem
import Derived.Test.YtkmedfffmalbgaaDoorMem3
namespace Go.Proofs.YtkmedfffmalbgaaDoor.Mds
open Go Go.RowKit Go.Proofs.YtkmedfffmalbgaaDoor.Com

/-- The flags' cells. -/
def mA (m : Md) : Array Value := #[.bool m.a0, .bool m.a1, .bool m.a2, .bool m.a3, .bool m.a4, .bool m.a5, .bool m.a6, .bool m.a7]
theorem mA_size (m : Md) : (mA m).size = 8 := rfl
theorem mA_one (m : Md) : (mA m).all (·.oneCell') = true := by simp [mA, Value.oneCell']
theorem mA_info (m : Md) : (Tryd.prog.info? 23).map (·.size) = some (mA m).size := by
  rw [mA_size]
  kernel_rfl
theorem mA_at (m : Md) {k : Nat} (hk : k < 8) : (mA m)[k]? = some (.bool (m.get k)) := by
  rcases small (Nat.le_of_lt hk) with rfl | rfl | rfl | rfl | rfl | rfl | rfl | rfl | rfl
  all_goals first | rfl | omega
theorem mA_set (m : Md) {k : Nat} (hk : k < 8) (b : Bool) : ((mA m).toList.take k ++ [Value.bool b] ++ (mA m).toList.drop (k + 1)).toArray = mA (m.set k b) := by
  rcases small (Nat.le_of_lt hk) with rfl | rfl | rfl | rfl | rfl | rfl | rfl | rfl | rfl
  all_goals first | rfl | omega
theorem infoBool : (Tryd.prog.info? 4).map (·.size) = some 1 := by kernel_rfl
theorem blk {w : World} {g : Nat} {t : TypeId} {cs : Array Value} (h : Block w g t cs) : w.heap[g]? = some (.cells cs t (0, 0)) := h
/-- A block of flags. -/
def MB (w : World) (g : Nat) (m : Md) : Prop := Block w g 23 (mA m)
theorem MB.of {w : World} {g : Nat} {m : Md} (h : Block w g 23 (mA m)) : MB w g m := h
theorem MB.blk {w : World} {g : Nat} {m : Md} (h : MB w g m) : Block w g 23 (mA m) := h
theorem MB.made (w : World) (m : Md) : MB (w.alloc (.cells (mA m) 23)) w.heap.size m := Block.made w _ _
theorem MB.zero (w : World) : MB (w.alloc (.cells #[.bool false, .bool false, .bool false, .bool false, .bool false, .bool false, .bool false, .bool false] 23)) w.heap.size none0 := Block.made w _ _
theorem MB.only {L : List Nat} {w w' : World} {g : Nat} {m : Md} (h : MB w g m) (ho : Only L w w') (hg : g ∉ L) : MB w' g m := Block.only h ho hg
theorem MB.below {w w' : World} {g : Nat} {m : Md} (h : MB w g m) (hb : Below w.heap.size w w') : MB w' g m := h.only (Only.of_below hb []) (by simp)
theorem MB.alloc {w : World} {g : Nat} {m : Md} (h : MB w g m) (o : Obj) : MB (w.alloc o) g m := Block.alloc h o
theorem MB.cell {w : World} {g : Nat} {m : Md} (h : MB w g m) {k : Nat} (hk : k < 8) : w.cell? ⟨g, k, none⟩ = some (.bool (m.get k)) := Block.cell h k (mA_at m hk)
theorem MB.free {w : World} {g : Nat} {m : Md} (h : MB w g m) (k : Nat) : w.frozen? ⟨g, k, none⟩ = false := Block.free h k
theorem MB.lt {w : World} {g : Nat} {m : Md} (h : MB w g m) : g < w.heap.size := Block.lt h
theorem MB.set {w : World} {g : Nat} {m : Md} (h : MB w g m) {k : Nat} (hk : k < 8) (b : Bool) : MB (w.setCell ⟨g, k, none⟩ (.bool b)) g (m.set k b) := by
  have := Block.set h k (.bool b)
  unfold MB
  have e : (mA m).setIfInBounds k (.bool b) = mA (m.set k b) := by
    rcases small (Nat.le_of_lt hk) with rfl | rfl | rfl | rfl | rfl | rfl | rfl | rfl | rfl
    all_goals first | rfl | omega
  rw [e] at this
  exact this

/-- The results out of a block of flags; of such a one and a slot. -/
theorem load_row {P : Program} {w : World} {g : Nat} {t ty : TypeId} {cs : Array Value} {d : TypeDesc} (h : Block w g t cs) (hu : P.underlying ty = some d) (hd : (match d with | .struct _ | .array _ _ => true | _ => false) = true) (hi : (P.info? ty).map (·.size) = some cs.size) : (loadVar ty ⟨g, 0, none⟩).run P w = .ok (.agg cs) w :=
  Com.run_loadVar_at w ty ⟨g, 0, none⟩ cs.toList _ (fun j u hj => by rw [Addr.add_lit, Nat.zero_add]; exact h.cell j (by simpa using hj)) hu hd (by simpa using hi)
theorem results_cell_tmpG {P : Program} {fn : Func} {p q : Tmp} {ty t : TypeId} {d : TypeDesc} (h : fn.results = #[.cell p ty, .tmp q]) (tmps : Array Value) (w : World) (g : Nat) (cs : Array Value)
    (hp : tmps.getD p undef = .pointer (some ⟨g, 0, none⟩)) (hg : Block w g t cs) (hu : P.underlying ty = some d) (hd : (match d with | .struct _ | .array _ _ => true | _ => false) = true) (hi : (P.info? ty).map (·.size) = some cs.size) :
    (results fn tmps).run P w = .ok (.tuple #[.agg cs, tmps.getD q undef]) w := by
  have hp' : tmps[p]?.getD undef = .pointer (some ⟨g, 0, none⟩) := by simpa using hp
  simp [results, h, hp', asAddr, load_row hg hu hd hi]
theorem end_m {fn : Func} {p : Tmp} (h : fn.results = #[.cell p 23]) {a : Act} {w1 : World} {g : Nat} {m : Md} {post : Ending → World → Prop} (hp : a.tmps.getD p undef = .pointer (some ⟨g, 0, none⟩)) (hd : a.defers = [])
    (hb : MB w1 g m) (hpost : post (.returned (.agg (mA m))) w1) : bodyPost Tryd.prog fn post .ret a w1 :=
  bodyPost_ret (results_cell_row h _ _ _ _ _ _ _ hp (blk hb.blk) Tryd.underlying23 rfl (mA_info m)) hd hpost
theorem end_mb {fn : Func} {p q : Tmp} (h : fn.results = #[.cell p 23, .tmp q]) {a : Act} {w1 : World} {g : Nat} {m : Md} {v : Value} {post : Ending → World → Prop} (hp : a.tmps.getD p undef = .pointer (some ⟨g, 0, none⟩)) (hq : a.tmps.getD q undef = v) (hd : a.defers = [])
    (hb : MB w1 g m) (hpost : post (.returned (.tuple #[.agg (mA m), v])) w1) : bodyPost Tryd.prog fn post .ret a w1 := by
  subst hq
  exact bodyPost_ret (results_cell_tmpG h _ _ _ _ hp hb.blk Tryd.underlying23 rfl (mA_info m)) hd hpost

end Go.Proofs.YtkmedfffmalbgaaDoor.Mds
