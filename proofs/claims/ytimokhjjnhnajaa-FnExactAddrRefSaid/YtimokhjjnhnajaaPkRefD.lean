import Derived.Test.YtimokhjjnhnajaaPkF2

/-
  References, said of the data of a World.
-/
namespace Go.Proofs.Ytimokhjjnhnajaa
open Go.RowKit
set_option linter.unusedVariables false

/-- What RefOf tells of an address. -/
def RefV (D : WD) (addr r : Int) : Prop := (addr = 0 ∧ r = 0) ∨ (addr ≠ 0 ∧ ∃ k j : Nat, IsObj D addr k j ∧ r = 1 + 16 * (k : Int) + (j : Int)) ∨ (addr ≠ 0 ∧ (∀ k j, ¬ IsObj D addr k j) ∧ r = -1)
theorem RefV.unique {D : WD} (hF : HeapForm D) {addr r r' : Int} (h : RefV D addr r) (h' : RefV D addr r') : r = r' := by
  rcases h with ⟨h1, rfl⟩ | ⟨h1, k, j, ho, rfl⟩ | ⟨h1, hn, rfl⟩ <;> rcases h' with ⟨h1', rfl⟩ | ⟨h1', k', j', ho', rfl⟩ | ⟨h1', hn', rfl⟩
  · rfl
  · exact absurd h1 h1'
  · exact absurd h1 h1'
  · exact absurd h1' h1
  · obtain ⟨rfl, rfl⟩ := ho.unique hF ho'
    rfl
  · exact absurd ho (hn' k j)
  · exact absurd h1' h1
  · exact absurd ho' (hn k' j')
  · rfl
/-- It returned what RefOf tells. -/
def RefIs (D : WD) (addr : Int) (e : Ending) : Prop := ∃ r : Int, e = .returned (.int .i64 r) ∧ ((HeapForm D ∧ RefV D addr r) ∨ (¬ HeapForm D ∧ r = -1))
theorem RefIs.unique {D : WD} {addr : Int} {e e' : Ending} (h : RefIs D addr e) (h' : RefIs D addr e') : e = e' := by
  obtain ⟨r, rfl, h⟩ := h
  obtain ⟨r', rfl, h'⟩ := h'
  rcases h with ⟨hF, h⟩ | ⟨hF, rfl⟩ <;> rcases h' with ⟨hF', h'⟩ | ⟨hF', rfl⟩
  · rw [h.unique hF h']
  · exact absurd hF hF'
  · exact absurd hF' hF
  · rfl
theorem RefIs.no {D : WD} {addr : Int} (h : ¬ HeapForm D) : RefIs D addr (.returned (.int .i64 (-1))) := ⟨_, rfl, .inr ⟨h, rfl⟩⟩
theorem RefIs.yes {D : WD} {addr r : Int} (hF : HeapForm D) (h : RefV D addr r) : RefIs D addr (.returned (.int .i64 r)) := ⟨_, rfl, .inl ⟨hF, h⟩⟩
theorem RefV.zero (D : WD) : RefV D 0 0 := .inl ⟨rfl, rfl⟩
theorem RefV.obj {D : WD} {addr : Int} {k j : Nat} (h : addr ≠ 0) (ho : IsObj D addr k j) : RefV D addr (1 + 16 * (k : Int) + (j : Int)) := .inr (.inl ⟨h, k, j, ho, rfl⟩)
theorem RefV.none {D : WD} {addr : Int} (h : addr ≠ 0) (hn : ∀ k j, ¬ IsObj D addr k j) : RefV D addr (-1) := .inr (.inr ⟨h, hn, rfl⟩)
theorem obj_small {D : WD} {addr : Int} {k j : Nat} (hF : HeapForm D) (ho : IsObj D addr k j) : k < 12 ∧ j < 16 := by
  obtain ⟨s, hs, hj, _⟩ := ho
  have A := hF.span k s hs
  have h1 := A.lens
  have h2 := (sl_bd s.cls).2
  have h3 := (List.getElem?_eq_some_iff.1 hs).1
  have h4 := hF.spans
  have h5 := hF.geo.2.2.2.2.1
  omega

/-- Slot j of span k, and an object in it. -/
def UsedAt (D : WD) (k j : Nat) (s : SpanD) : Prop := D.spans[k]? = some s ∧ j < s.lens.length ∧ 0 < s.lens[j]?.getD 0
theorem UsedAt.unique {D : WD} {k j : Nat} {s s' : SpanD} (h : UsedAt D k j s) (h' : UsedAt D k j s') : s = s' := by
  have := h.1.symm.trans h'.1
  simpa using this
theorem UsedAt.obj {D : WD} {k j : Nat} {s : SpanD} (h : UsedAt D k j s) : IsObj D (D.base + atW s (j : Int)) k j := ⟨s, h.1, h.2.1, h.2.2, rfl⟩
/-- What AddrRef tells of a reference. -/
def ARefV (D : WD) (ref a : Int) : Prop := (ref = 0 ∧ a = 0) ∨ (∃ (k j : Nat) (s : SpanD), ref = 1 + 16 * (k : Int) + (j : Int) ∧ j < 16 ∧ UsedAt D k j s ∧ a = D.base + atW s (j : Int)) ∨ (ref ≠ 0 ∧ (∀ (k j : Nat) s, ref = 1 + 16 * (k : Int) + (j : Int) → j < 16 → ¬ UsedAt D k j s) ∧ a = -1)
theorem ARefV.unique {D : WD} {ref a a' : Int} (h : ARefV D ref a) (h' : ARefV D ref a') : a = a' := by
  rcases h with ⟨h1, rfl⟩ | ⟨k, j, s, h1, hj, hu, rfl⟩ | ⟨h1, hn, rfl⟩ <;> rcases h' with ⟨h1', rfl⟩ | ⟨k', j', s', h1', hj', hu', rfl⟩ | ⟨h1', hn', rfl⟩
  · rfl
  · omega
  · exact absurd h1 h1'
  · omega
  · obtain ⟨rfl, rfl⟩ : k = k' ∧ j = j' := by omega
    rw [hu.unique hu']
  · exact absurd hu (hn' k j s h1 hj)
  · exact absurd h1' h1
  · exact absurd hu' (hn k' j' s' h1' hj')
  · rfl
/-- It returned what AddrRef tells. -/
def ARefIs (D : WD) (ref : Int) (e : Ending) : Prop := ∃ a : Int, e = .returned (.int .i64 a) ∧ ((HeapForm D ∧ ARefV D ref a) ∨ (¬ HeapForm D ∧ a = -1))
theorem ARefIs.unique {D : WD} {ref : Int} {e e' : Ending} (h : ARefIs D ref e) (h' : ARefIs D ref e') : e = e' := by
  obtain ⟨r, rfl, h⟩ := h
  obtain ⟨r', rfl, h'⟩ := h'
  rcases h with ⟨hF, h⟩ | ⟨hF, rfl⟩ <;> rcases h' with ⟨hF', h'⟩ | ⟨hF', rfl⟩
  · rw [h.unique h']
  · exact absurd hF hF'
  · exact absurd hF' hF
  · rfl
theorem ARefIs.no {D : WD} {ref : Int} (h : ¬ HeapForm D) : ARefIs D ref (.returned (.int .i64 (-1))) := ⟨_, rfl, .inr ⟨h, rfl⟩⟩
theorem ARefIs.yes {D : WD} {ref a : Int} (hF : HeapForm D) (h : ARefV D ref a) : ARefIs D ref (.returned (.int .i64 a)) := ⟨_, rfl, .inl ⟨hF, h⟩⟩
theorem ARefV.zero (D : WD) : ARefV D 0 0 := .inl ⟨rfl, rfl⟩
theorem ARefV.neg {D : WD} {ref : Int} (h : ref < 0) : ARefV D ref (-1) := .inr (.inr ⟨by omega, fun k j s e _ => by omega, rfl⟩)
theorem ARefV.used {D : WD} {k j : Nat} {s : SpanD} (hj : j < 16) (h : UsedAt D k j s) : ARefV D (1 + 16 * (k : Int) + (j : Int)) (D.base + atW s (j : Int)) := .inr (.inl ⟨k, j, s, rfl, hj, h, rfl⟩)
theorem ARefV.none {D : WD} {k j : Nat} (hj : j < 16) (h : ∀ s, ¬ UsedAt D k j s) : ARefV D (1 + 16 * (k : Int) + (j : Int)) (-1) := .inr (.inr ⟨by omega, fun k' j' s e hj' => by
  obtain ⟨rfl, rfl⟩ : k = k' ∧ j = j' := by omega
  exact h s, rfl⟩)
/-- A reference above 0: the number of its span, and that of its slot. -/
theorem ref_split {ref : Int} (h : 0 < ref) : ∃ k j : Nat, ref = 1 + 16 * (k : Int) + (j : Int) ∧ j < 16 := ⟨((ref - 1) / 16).toNat, ((ref - 1) % 16).toNat, by omega, by omega⟩
theorem ref_div (k j : Nat) (hj : j < 16) : (1 + 16 * (k : Int) + (j : Int) - 1).tdiv 16 = (k : Int) ∧ (1 + 16 * (k : Int) + (j : Int) - 1).tmod 16 = (j : Int) := by
  rw [Int.tdiv_eq_ediv_of_nonneg (by omega), Int.tmod_eq_emod_of_nonneg (by omega)]
  omega
end Go.Proofs.Ytimokhjjnhnajaa
