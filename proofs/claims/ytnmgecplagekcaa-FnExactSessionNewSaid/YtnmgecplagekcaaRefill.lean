/-
  A World's variable is stored anew: its nine cells are the new ones, and nothing else has changed.
-/
import Derived.Test.YtnmgecplagekcaaAppG
import Derived.Test.YtnmgecplagekcaaVar
namespace Go.Proofs.Ytnmgecplagekcaa
open Go.RowKit
set_option linter.unusedVariables false

theorem refill (w : World) (B : Nat) (T : TypeId) (x0 x1 x2 x3 x4 x5 x6 x7 x8 v0 v1 v2 v3 v4 v5 v6 v7 v8 : Value) (h : w.heap[B]? = some (.cells #[x0, x1, x2, x3, x4, x5, x6, x7, x8] T (0, 0))) :
    (((((((((w.setCell ⟨B, 0, none⟩ v0).setCell ⟨B, 1, none⟩ v1).setCell ⟨B, 2, none⟩ v2).setCell ⟨B, 3, none⟩ v3).setCell ⟨B, 4, none⟩ v4).setCell ⟨B, 5, none⟩ v5).setCell ⟨B, 6, none⟩ v6).setCell ⟨B, 7, none⟩ v7).setCell ⟨B, 8, none⟩ v8).heap[B]? = some (.cells #[v0, v1, v2, v3, v4, v5, v6, v7, v8] T (0, 0)) ∧ Chg [B] w (((((((((w.setCell ⟨B, 0, none⟩ v0).setCell ⟨B, 1, none⟩ v1).setCell ⟨B, 2, none⟩ v2).setCell ⟨B, 3, none⟩ v3).setCell ⟨B, 4, none⟩ v4).setCell ⟨B, 5, none⟩ v5).setCell ⟨B, 6, none⟩ v6).setCell ⟨B, 7, none⟩ v7).setCell ⟨B, 8, none⟩ v8) := by
  have a0 := heap_setCell_same _ B 0 _ _ v0 h
  have a1 := heap_setCell_same _ B 1 _ _ v1 a0
  have a2 := heap_setCell_same _ B 2 _ _ v2 a1
  have a3 := heap_setCell_same _ B 3 _ _ v3 a2
  have a4 := heap_setCell_same _ B 4 _ _ v4 a3
  have a5 := heap_setCell_same _ B 5 _ _ v5 a4
  have a6 := heap_setCell_same _ B 6 _ _ v6 a5
  have a7 := heap_setCell_same _ B 7 _ _ v7 a6
  have a8 := heap_setCell_same _ B 8 _ _ v8 a7
  refine ⟨by simpa using a8, ?_⟩
  exact (((((((((Chg.refl [B] w).put (by simp) 0 v0).put (by simp) 1 v1).put (by simp) 2 v2).put (by simp) 3 v3).put (by simp) 4 v4).put (by simp) 5 v5).put (by simp) 6 v6).put (by simp) 7 v7).put (by simp) 8 v8
end Go.Proofs.Ytnmgecplagekcaa
