/-
  The contracts of the model's l2addr, AddrOf, l2find, Find, UsedWords, FreeWords.
-/
import Derived.Test.YtnmgecplagekcaaFormOk
import Derived.Deep.RegionWith
namespace Go.Proofs.Ytnmgecplagekcaa
open Go.RowKit
set_option linter.unusedVariables false

/-- BLOCK B IS A VARIABLE that holds a World. -/
def BoxW (w : World) (B : Nat) (v : Value) : Prop := ∃ cs, v = .agg cs ∧ w.heap[B]? = some (.cells cs 29 (0, 0))
theorem BoxW.below {w w' : World} {B : Nat} {v : Value} (h : BoxW w B v) (hb : Below w.heap.size w w') : BoxW w' B v := by
  obtain ⟨cs, he, hh⟩ := h
  exact ⟨cs, he, heap_below hb hh⟩

theorem RdW.parts {w : World} {D : WD} {c0 c1 vw vd vs vm c6 c7 vg : Value} (h : RdW w (.agg #[c0, c1, vw, vd, vs, vm, c6, c7, vg]) D) : Rd w vw D.words ∧ RdB w vd D.dirty ∧ RdS w vs D.spans ∧ RdM w vm D.muts ∧ Rd w vg D.grey := by
  obtain ⟨uw, ud, us, um, ug, he, h1, h2, h3, h4, h5⟩ := h
  simp only [Value.agg.injEq, Array.mk.injEq, List.cons.injEq, and_true] at he
  obtain ⟨_, _, rfl, rfl, rfl, rfl, _, _, rfl⟩ := he
  exact ⟨h1, h2, h3, h4, h5⟩
theorem RdS.at_ {w : World} {a : Option Addr} {c : Nat} {L : List SpanD} (h : RdS w (.slice a L.length c) L) (k : Nat) (s : SpanD) (hk : L[k]? = some s) : ∃ b off, a = some ⟨b, off, none⟩ ∧ RdSpan w b (off + k * 6) s := by
  obtain ⟨a', c', he, _, hx⟩ := h
  obtain ⟨rfl, _⟩ : a = a' ∧ _ := by simpa using he
  exact hx k s hk
/-- There is slot number j of span number k. -/
def IsSlot (D : WD) (k slot : Int) (s : SpanD) : Prop := HeapForm D ∧ 0 ≤ k ∧ D.spans[k.toNat]? = some s ∧ 0 ≤ slot ∧ slot < s.lens.length
/-- It returned a slot's address, or 0. -/
def AddrIs (D : WD) (k slot : Int) (e : Ending) : Prop := ∃ r : Int, e = .returned (.int .i64 r) ∧ ((∃ s, IsSlot D k slot s ∧ r = D.base + atW s slot) ∨ ((∀ s, ¬ IsSlot D k slot s) ∧ r = 0))
theorem AddrIs.unique {D : WD} {k slot : Int} {e e' : Ending} (h : AddrIs D k slot e) (h' : AddrIs D k slot e') : e = e' := by
  obtain ⟨r, rfl, h⟩ := h
  obtain ⟨r', rfl, h'⟩ := h'
  rcases h with ⟨s, hs, rfl⟩ | ⟨hn, rfl⟩ <;> rcases h' with ⟨s', hs', rfl⟩ | ⟨hn', rfl⟩
  · have e1 := hs.2.2.1.symm.trans hs'.2.2.1
    cases e1
    rfl
  · exact absurd hs (hn' s)
  · exact absurd hs' (hn s')
  · rfl
theorem AddrIs.no {D : WD} {k slot : Int} (h : ∀ s, ¬ IsSlot D k slot s) : AddrIs D k slot (.returned (.int .i64 0)) := ⟨0, rfl, .inr ⟨h, rfl⟩⟩
theorem AddrIs.yes {D : WD} {k slot : Int} {s : SpanD} (h : IsSlot D k slot s) : AddrIs D k slot (.returned (.int .i64 (D.base + atW s slot))) := ⟨_, rfl, .inl ⟨s, h, rfl⟩⟩

end Go.Proofs.Ytnmgecplagekcaa
