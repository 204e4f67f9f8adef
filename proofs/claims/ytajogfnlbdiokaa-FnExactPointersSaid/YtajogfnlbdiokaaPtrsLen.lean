/-
  How long the list is that Pointers answers.
-/
import Derived.Test.YtajogfnlbdiokaaSPtrs2
namespace Go.Proofs.Ytajogfnlbdiokaa
open Go.RowKit
set_option linter.unusedVariables false

theorem PtrIs.len {D : WD} {addr : Int} {L : List Int} (h : PtrIs D addr L) (hb : D.bulk ≤ 1048576) : L.length ≤ 1048576 := by
  have hw : D.words.length ≤ D.bulk := by unfold WD.bulk; omega
  rcases h with ⟨k, j, s, _, _, _, rfl⟩ | ⟨_, rfl⟩
  · have h1 : (nz (ptrW D s j)).length ≤ (ptrW D s j).length := List.length_filter_le _ _
    have h2 : (ptrW D s j).length ≤ D.words.length := by unfold ptrW; rw [List.length_take, List.length_drop]; omega
    omega
  · exact Nat.zero_le _
end Go.Proofs.Ytajogfnlbdiokaa
