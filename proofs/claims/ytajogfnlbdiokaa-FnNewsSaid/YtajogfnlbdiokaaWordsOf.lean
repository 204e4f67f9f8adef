/-
  The contracts of the model's UsedWords, FreeWords.
-/
import Derived.Test.YtajogfnlbdiokaaFind
namespace Go.Proofs.Ytajogfnlbdiokaa
open Go.RowKit
set_option linter.unusedVariables false

/-- The words of the used ones of a span's first j slots. -/
def usedUp (s : SpanD) (j : Nat) : Int := (((s.lens.take j).filter fun l => decide (0 < l)).length : Int) * sz s.cls
def usedK (D : WD) (k : Nat) : Int := ((D.spans.take k).map fun s => usedUp s s.lens.length).sum
def usedN (D : WD) : Int := usedK D D.spans.length
theorem usedUp_zero (s : SpanD) : usedUp s 0 = 0 := by simp [usedUp]
theorem usedUp_succ (s : SpanD) (j : Nat) (h : j < s.lens.length) : usedUp s (j + 1) = usedUp s j + if 0 < s.lens[j]?.getD 0 then sz s.cls else 0 := by
  unfold usedUp
  rw [List.take_succ_eq_append_getElem h, List.filter_append]
  by_cases e : 0 < s.lens[j]
  · simp [e, h, Int.add_mul]
  · simp [e, h]
theorem usedUp_bd (s : SpanD) (j : Nat) : 0 ≤ usedUp s j ∧ usedUp s j ≤ 16 * (j : Int) := by
  have h1 := sz_bd s.cls
  have h2 : ((s.lens.take j).filter fun l => decide (0 < l)).length ≤ j := Nat.le_trans (List.length_filter_le _ _) (by simp; omega)
  unfold usedUp
  refine ⟨Int.mul_nonneg (by omega) h1.1, ?_⟩
  have := Int.mul_le_mul (show ((((s.lens.take j).filter fun l => decide (0 < l)).length : Nat) : Int) ≤ (j : Int) by omega) h1.2 h1.1 (by omega)
  omega
theorem usedK_succ (D : WD) (k : Nat) (s : SpanD) (h : D.spans[k]? = some s) : usedK D (k + 1) = usedK D k + usedUp s s.lens.length := by
  obtain ⟨hk, rfl⟩ := List.getElem?_eq_some_iff.1 h
  unfold usedK
  rw [List.take_succ_eq_append_getElem hk, List.map_append, List.sum_append]
  simp [-List.map_take]
theorem usedK_bd (D : WD) (hF : ∀ (k : Nat) (s : SpanD), D.spans[k]? = some s → SpanAt D k s) (k : Nat) (hk : k ≤ D.spans.length) : 0 ≤ usedK D k ∧ usedK D k ≤ 256 * (k : Int) := by
  induction k with
  | zero => simp [usedK]
  | succ n ih =>
    have := ih (by omega)
    obtain ⟨s, hs⟩ : ∃ s, D.spans[n]? = some s := ⟨_, List.getElem?_eq_getElem (by omega)⟩
    have hA := (hF n s hs).lens
    have hb := usedUp_bd s s.lens.length
    have hl := (sl_bd s.cls).2
    rw [usedK_succ D n s hs]
    omega
/-- It returned how many words are used, or -1. -/
def UsedIs (D : WD) (e : Ending) : Prop := ∃ r : Int, e = .returned (.int .i64 r) ∧ ((HeapForm D ∧ r = usedN D) ∨ (¬ HeapForm D ∧ r = -1))
def FreeIs (D : WD) (e : Ending) : Prop := ∃ r : Int, e = .returned (.int .i64 r) ∧ ((HeapForm D ∧ r = D.pages * 32 - usedN D) ∨ (¬ HeapForm D ∧ r = -1))
theorem UsedIs.unique {D : WD} {e e' : Ending} (h : UsedIs D e) (h' : UsedIs D e') : e = e' := by
  obtain ⟨r, rfl, h⟩ := h
  obtain ⟨r', rfl, h'⟩ := h'
  rcases h with ⟨hF, rfl⟩ | ⟨hn, rfl⟩ <;> rcases h' with ⟨hF', rfl⟩ | ⟨hn', rfl⟩
  · rfl
  · exact absurd hF hn'
  · exact absurd hF' hn
  · rfl
theorem FreeIs.unique {D : WD} {e e' : Ending} (h : FreeIs D e) (h' : FreeIs D e') : e = e' := by
  obtain ⟨r, rfl, h⟩ := h
  obtain ⟨r', rfl, h'⟩ := h'
  rcases h with ⟨hF, rfl⟩ | ⟨hn, rfl⟩ <;> rcases h' with ⟨hF', rfl⟩ | ⟨hn', rfl⟩
  · rfl
  · exact absurd hF hn'
  · exact absurd hF' hn
  · rfl

end Go.Proofs.Ytajogfnlbdiokaa
