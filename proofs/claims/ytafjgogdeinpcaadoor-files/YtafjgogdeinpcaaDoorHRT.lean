/- Walks over the document's answer: the table of instructions. -/
import Derived.Test.YtafjgogdeinpcaaDoorGI
namespace Go.Proofs.YtafjgogdeinpcaaDoor
open Go.RowKit

def tabCell (k : Nat) (w : World) (b : Nat) : Prop := w.cell? ⟨b, k * 5 + 1, none⟩ = some (.int .i64 ((k : Int) + 1)) ∧ w.cell? ⟨b, k * 5 + 2, none⟩ = some (.int .i64 (fixedL.getD (k + 1) 0)) ∧ w.cell? ⟨b, k * 5 + 3, none⟩ = some (.int .i64 (maskF (formL.getD (k + 1) 0))) ∧ w.cell? ⟨b, k * 5 + 4, none⟩ = some (.int .u8 (formB (formL.getD (k + 1) 0)))

set_option maxRecDepth 100000 in
set_option maxHeartbeats 2000000 in
theorem table_any (w : World) :
    Calls Tryd.prog 74 #[] w fun e w' => e = .returned (.slice (some ⟨w.heap.size, 0, none⟩) 25 25) ∧ (∀ k, k < 25 → tabCell k w' w.heap.size) ∧ w.heap.size < w'.heap.size ∧ w.grownBy w' none := by
  have G := hid (fun o : Obj => World.grownBy_alloc w o none)
  go_enter Tryd.func74, Tryd.ntmps74
  go_wp2
  go_ret
  refine ⟨rfl, fun k hk => ?_, by simp, G.out _⟩
  refine ⟨((BlkAt.new w _ _).cell _).trans ?_, ((BlkAt.new w _ _).cell _).trans ?_, ((BlkAt.new w _ _).cell _).trans ?_, ((BlkAt.new w _ _).cell _).trans ?_⟩
  all_goals
    clear G
    rcases (show k = 0 ∨ k = 1 ∨ k = 2 ∨ k = 3 ∨ k = 4 ∨ k = 5 ∨ k = 6 ∨ k = 7 ∨ k = 8 ∨ k = 9 ∨ k = 10 ∨ k = 11 ∨ k = 12 ∨ k = 13 ∨ k = 14 ∨ k = 15 ∨ k = 16 ∨ k = 17 ∨ k = 18 ∨ k = 19 ∨ k = 20 ∨ k = 21 ∨ k = 22 ∨ k = 23 ∨ k = 24 from by omega) with rfl | rfl | rfl | rfl | rfl | rfl | rfl | rfl | rfl | rfl | rfl | rfl | rfl | rfl | rfl | rfl | rfl | rfl | rfl | rfl | rfl | rfl | rfl | rfl | rfl <;> rfl

end Go.Proofs.YtafjgogdeinpcaaDoor
