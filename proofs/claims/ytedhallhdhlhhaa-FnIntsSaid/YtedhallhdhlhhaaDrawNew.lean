/-
  The contract of DrawWorldNew.
-/
import Derived.Test.YtedhallhdhlhhaaDraw
namespace Go.Proofs.Ytedhallhdhlhhaa
open Go.RowKit
set_option linter.unusedVariables false

theorem rd_new (w : World) (t : TypeId) (L : List Int) (hL : L.length ≤ 1000) : Rd (w.alloc (.cells (L.map (Value.int .i64)).toArray t)) (.slice (some ⟨w.heap.size, 0, none⟩) L.length L.length) L := by
  refine ⟨_, _, rfl, by unfold maxLen; omega, fun j hj => ⟨_, _, rfl, ?_⟩⟩
  rw [Nat.zero_add]
  exact cell_of_heap (alloc_new w _) j _ (by simp [hj])
theorem rd_grown {w w' : World} {g n c B : Nat} {L : List Int} (h : Rd w (.slice (some ⟨g, 0, none⟩) n c) L) (hg : w.grownBy w' (some B)) (hne : g ≠ B) : Rd w' (.slice (some ⟨g, 0, none⟩) n c) L := by
  obtain ⟨a, c', he, hm, hx⟩ := h
  refine ⟨a, c', he, hm, fun j hj => ?_⟩
  obtain ⟨b, o, ha, hc⟩ := hx j hj
  have hb : b = g := by
    have : some (⟨g, 0, none⟩ : Addr) = some ⟨b, o, none⟩ := by simp at he; rw [he.1]; exact ha
    simp at this
    exact this.1.symm
  exact ⟨b, o, ha, (World.cell?_of_block (hg.block b (cell_lt hc) (fun e => hne (hb.symm.trans (by simpa using e))))).trans hc⟩
end Go.Proofs.Ytedhallhdhlhhaa
