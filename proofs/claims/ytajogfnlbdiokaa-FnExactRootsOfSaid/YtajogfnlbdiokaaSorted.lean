/-
  Sorted and compacted: ascending, with the same members.
-/
import Derived.Test.YtajogfnlbdiokaaSPut
import Derived.Lib.SlicesCompact
namespace Go.Proofs.Ytajogfnlbdiokaa
open Go.RowKit
set_option linter.unusedVariables false

def srt (L : List Int) : List Int := L.mergeSort fun x y => decide (x ≤ y)
theorem srt_pair (L : List Int) : (srt L).Pairwise (· ≤ ·) := by
  have h := List.pairwise_mergeSort (le := fun x y : Int => decide (x ≤ y)) (fun a b c h1 h2 => by simp at *; omega) (fun a b => by simp; omega) L
  exact h.imp fun h => by simpa using h
theorem srt_mem (L : List Int) (y : Int) : y ∈ srt L ↔ y ∈ L := by unfold srt; rw [List.mem_mergeSort]
theorem compact_upto {Z : List Int} (hs : Z.Pairwise (· ≤ ·)) : ∀ m, m ≤ Z.length → Asc (Lib.compactUpTo Z.toArray m) ∧ (∀ y, y ∈ Lib.compactUpTo Z.toArray m ↔ y ∈ Z.take m)
  | 0, _ => ⟨by simp [Lib.compactUpTo, Asc], fun y => by simp [Lib.compactUpTo]⟩
  | m + 1, hm => by
    obtain ⟨h1, h2⟩ := compact_upto hs m (by omega)
    have hlt : m < Z.length := by omega
    have e : Z.toArray[m]! = Z[m] := by simp [hlt]
    have hle : ∀ y, y ∈ Z.take m → y ≤ Z[m] := fun y hy => by
      have hp : (Z.take (m + 1)).Pairwise (· ≤ ·) := List.Pairwise.sublist (List.take_sublist _ _) hs
      rw [List.take_succ_eq_append_getElem hlt] at hp
      exact (List.pairwise_append.1 hp).2.2 y hy _ (List.mem_singleton.2 rfl)
    rw [Lib.compactUpTo_succ, e, List.take_succ_eq_append_getElem hlt]
    by_cases hk : Lib.keeps Z.toArray m = true
    · rw [if_pos hk]
      have hlt2 : ∀ y, y ∈ Z.take m → y < Z[m] := fun y hy => by
        have h3 := hle y hy
        rcases Int.lt_or_eq_of_le h3 with h | h
        · exact h
        · exfalso
          obtain ⟨i, hi, hy2⟩ := List.mem_iff_getElem.1 hy
          have hi2 : i < m := by rw [List.length_take] at hi; omega
          rw [List.getElem_take] at hy2
          have h4 : Z[m - 1]'(by omega) = Z[m] := by
            have a1 : Z[m - 1]'(by omega) ≤ Z[m] := List.pairwise_iff_getElem.1 hs (m - 1) m (by omega) hlt (by omega)
            have a2 : Z[i]'(by omega) ≤ Z[m - 1]'(by omega) := by
              by_cases h5 : i = m - 1
              · subst h5; exact Int.le_refl _
              · exact List.pairwise_iff_getElem.1 hs i (m - 1) (by omega) (by omega) (by omega)
            omega
          have hm0 : m - 1 < Z.length := by omega
          simp [Lib.keeps, hlt, hm0, h4] at hk
          omega
      refine ⟨List.pairwise_append.2 ⟨h1, List.pairwise_singleton _ _, fun a ha b hb => by rw [List.mem_singleton.1 hb]; exact hlt2 a ((h2 a).1 ha)⟩, fun y => ?_⟩
      rw [List.mem_append, List.mem_append, h2]
    · rw [if_neg hk, List.append_nil]
      refine ⟨h1, fun y => (h2 y).trans ⟨fun h => List.mem_append.2 (.inl h), fun h => ?_⟩⟩
      rcases List.mem_append.1 h with h | h
      · exact h
      · have hm1 : 0 < m ∧ Z[m - 1]'(by omega) = Z[m] := by
          have hm0 : m - 1 < Z.length := by omega
          simp [Lib.keeps, hlt, hm0] at hk
          omega
        rw [List.mem_singleton.1 h, ← hm1.2]
        exact List.mem_iff_getElem.2 ⟨m - 1, by rw [List.length_take]; omega, by rw [List.getElem_take]⟩
def cmp (L : List Int) : List Int := Lib.compact (srt L)
theorem cmp_asc (L : List Int) : Asc (cmp L) := (compact_upto (srt_pair L) (srt L).length (Nat.le_refl _)).1
theorem cmp_mem (L : List Int) (y : Int) : y ∈ cmp L ↔ y ∈ L := by
  rw [← srt_mem L y, show cmp L = Lib.compactUpTo (srt L).toArray (srt L).length from rfl, (compact_upto (srt_pair L) (srt L).length (Nat.le_refl _)).2, List.take_length]
end Go.Proofs.Ytajogfnlbdiokaa
