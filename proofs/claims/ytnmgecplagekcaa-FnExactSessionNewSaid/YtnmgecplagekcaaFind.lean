/-
  The contracts of the model's l2find, Find.
-/
import Derived.Test.YtnmgecplagekcaaRead
namespace Go.Proofs.Ytnmgecplagekcaa
open Go.RowKit
set_option linter.unusedVariables false

/-- Slot j of span k has the object with that address. -/
def IsObj (D : WD) (addr : Int) (k j : Nat) : Prop := ∃ s, D.spans[k]? = some s ∧ j < s.lens.length ∧ 0 < s.lens[j]?.getD 0 ∧ D.base + atW s (j : Int) = addr
theorem pages_up {D : WD} (h : HeapForm D) {k k' : Nat} {s s' : SpanD} (hk : D.spans[k]? = some s) (hk' : D.spans[k']? = some s') (hlt : k < k') : s.page < s'.page := by
  induction k' generalizing s' with
  | zero => omega
  | succ n ih =>
    have hl := (List.getElem?_eq_some_iff.1 hk').1
    obtain ⟨t, ht⟩ : ∃ t, D.spans[n]? = some t := ⟨_, List.getElem?_eq_getElem (by omega)⟩
    have h1 := (h.span (n + 1) s' hk').prev t (by omega) (by simpa using ht)
    by_cases e : k = n
    · subst e
      rw [hk] at ht
      cases ht
      exact h1
    · have := ih ht (by omega)
      omega
theorem sz_pos {c : Int} (h : sl' c ≠ 0) : 2 ≤ sz c := by
  revert h; unfold sl' sz; (repeat' split) <;> simp
theorem mul_inj {a b z : Int} (hz : 2 ≤ z) (h : a * z = b * z) : a = b := Int.eq_of_mul_eq_mul_right (by omega) h
theorem IsObj.unique {D : WD} {addr : Int} (hF : HeapForm D) {k j k' j' : Nat} (h : IsObj D addr k j) (h' : IsObj D addr k' j') : k = k' ∧ j = j' := by
  obtain ⟨s, hs, hj, _, ha⟩ := h
  obtain ⟨s', hs', hj', _, ha'⟩ := h'
  have A := hF.span k s hs
  have A' := hF.span k' s' hs'
  have l := A.lens
  have l' := A'.lens
  have i1 := slot_in (c := s.cls) (i := (j : Int)) (t := 0) (by omega) (by omega) (by omega) (by have := sz_pos A.cls; omega)
  have i2 := slot_in (c := s'.cls) (i := (j' : Int)) (t := 0) (by omega) (by omega) (by omega) (by have := sz_pos A'.cls; omega)
  unfold atW at ha ha'
  have hp : s.page = s'.page := by omega
  have hk : k = k' := by
    rcases Nat.lt_trichotomy k k' with h | h | h
    · have := pages_up hF hs hs' h; omega
    · exact h
    · have := pages_up hF hs' hs h; omega
  subst hk
  rw [hs] at hs'
  cases hs'
  refine ⟨rfl, ?_⟩
  have := mul_inj (sz_pos A.cls) (show (j : Int) * sz s.cls = (j' : Int) * sz s.cls by omega)
  omega
/-- It returned where the object is, or -1 and -1. -/
def FindIs (D : WD) (addr : Int) (e : Ending) : Prop := ∃ r q : Int, e = .returned (.tuple #[.int .i64 r, .int .i64 q]) ∧
  ((∃ k j : Nat, HeapForm D ∧ IsObj D addr k j ∧ r = k ∧ q = j) ∨ ((HeapForm D → ∀ k j, ¬ IsObj D addr k j) ∧ r = -1 ∧ q = -1))
theorem FindIs.unique {D : WD} {addr : Int} {e e' : Ending} (h : FindIs D addr e) (h' : FindIs D addr e') : e = e' := by
  obtain ⟨r, q, rfl, h⟩ := h
  obtain ⟨r', q', rfl, h'⟩ := h'
  rcases h with ⟨k, j, hF, ho, rfl, rfl⟩ | ⟨hn, rfl, rfl⟩ <;> rcases h' with ⟨k', j', hF', ho', rfl, rfl⟩ | ⟨hn', rfl, rfl⟩
  · obtain ⟨rfl, rfl⟩ := ho.unique hF ho'
    rfl
  · exact absurd ho (hn' hF k j)
  · exact absurd ho' (hn hF' k' j')
  · rfl
theorem FindIs.no {D : WD} {addr : Int} (h : HeapForm D → ∀ k j, ¬ IsObj D addr k j) : FindIs D addr (.returned (.tuple #[.int .i64 (-1), .int .i64 (-1)])) := ⟨_, _, rfl, .inr ⟨h, rfl, rfl⟩⟩
theorem FindIs.yes {D : WD} {addr : Int} {k j : Nat} (hF : HeapForm D) (h : IsObj D addr k j) : FindIs D addr (.returned (.tuple #[.int .i64 (k : Int), .int .i64 (j : Int)])) := ⟨_, _, rfl, .inl ⟨k, j, hF, h, rfl, rfl⟩⟩

theorem no_next {D : WD} {addr : Int} {k : Nat} {s : SpanD} (hks : D.spans[k]? = some s) (h1 : ∀ k2 j2, k2 < k → ¬ IsObj D addr k2 j2) (h2 : ∀ j2, j2 < s.lens.length → ¬ IsObj D addr k j2) : ∀ k2 j2, k2 < k + 1 → ¬ IsObj D addr k2 j2 := by
  intro k2 j2 h ho
  by_cases e : k2 = k
  · subst e
    have ho' := ho
    obtain ⟨s2, g1, g2, _⟩ := ho
    rw [hks] at g1
    cases g1
    exact h2 j2 g2 ho'
  · exact h1 k2 j2 (by omega) ho
end Go.Proofs.Ytnmgecplagekcaa
