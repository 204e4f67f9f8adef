/-
  The contracts of the program's spansOk, (*Span).firstWord, restIsZero.
-/
import Derived.Test.YtnmgecplagekcaaImplA
import Derived.Test.YtnmgecplagekcaaFormOk
import Derived.Test.YtnmgecplagekcaaRead
namespace Go.Proofs.Ytnmgecplagekcaa
open Go.RowKit
set_option linter.unusedVariables false

theorem same_symm {R : Ending → Prop} {f : FuncId} {args : Array Value} {w : World} (h : Calls Try.prog f args w fun e w' => R e ∧ w = w') : Calls Try.prog f args w fun e w' => R e ∧ w' = w :=
  h.mono fun _ _ ⟨a, b⟩ => ⟨a, b.symm⟩

/-- Nothing has been done but that orders were drawn. -/
structure Drawn (w w' : World) : Prop where
  mk :: (is : ∃ n, w' = w.drewN n)
theorem Drawn.refl (w : World) : Drawn w w := ⟨0, rfl⟩
theorem Drawn.more {w w' : World} (h : Drawn w w') (n : Nat) : Drawn w (w'.drewN n) := by
  obtain ⟨m, rfl⟩ := h.is
  exact ⟨_, World.drewN_drewN _ _ _⟩
theorem Drawn.trans {a b c : World} (h : Drawn a b) (k : Drawn b c) : Drawn a c := by
  obtain ⟨m, rfl⟩ := k.is
  exact h.more m
theorem Drawn.heap {w w' : World} (h : Drawn w w') : w'.heap = w.heap := by
  obtain ⟨m, rfl⟩ := h.is
  rfl
theorem Drawn.cell {w w' : World} (h : Drawn w w') {a : Addr} {v : Value} (hc : w.cell? a = some v) : w'.cell? a = some v := by
  obtain ⟨m, rfl⟩ := h.is
  exact hc
theorem Drawn.below {w w' : World} (h : Drawn w w') : Below w.heap.size w w' := by
  obtain ⟨m, rfl⟩ := h.is
  exact below_drewN (Below.refl _ _) _
theorem Drawn.quiet {f : FuncId} {args : Array Value} {w : World} {n : Nat} {v : Value} (h : Calls Try.prog f args (w.drewN n) fun e w' => e = .returned v ∧ Drawn (w.drewN n) w') :
    Calls Try.prog f args (w.drewN n) fun e w'' => e = .returned v ∧ ∃ m, w'' = w.drewN m :=
  Calls.quiet_of (h.mono fun _ _ ⟨a, b⟩ => ⟨a, b.is⟩)

def SpansForm (D : WD) : Prop := ∀ (k : Nat) (s : SpanD), D.spans[k]? = some s → SpanAt D k s
/-- The least page that span number k may have. -/
def leastD (D : WD) : Nat → Int
  | 0 => 0
  | k + 1 => (D.spans[k]?.map fun s => s.page + 1).getD 0
theorem leastD_succ {D : WD} {k : Nat} {s : SpanD} (h : D.spans[k]? = some s) : leastD D (k + 1) = s.page + 1 := by simp [leastD, h]
theorem spanAt_iff {D : WD} {k : Nat} {s : SpanD} (hk : D.spans[k]? = some s) (hp : ∀ (j : Nat) (s : SpanD), j < k → D.spans[j]? = some s → SpanAt D j s) :
    SpanAt D k s ↔ (leastD D k ≤ s.page ∧ s.page ≤ D.pages - 1) ∧ SpanForm s := by
  have hlt := (List.getElem?_eq_some_iff.1 hk).1
  constructor
  · intro h
    refine ⟨⟨?_, by have := h.pg1; omega⟩, h.cls, h.lens, h.ptrs, h.slot, h.mk0, h.mk1⟩
    cases k with
    | zero => exact h.pg0
    | succ k =>
      obtain ⟨t, ht⟩ : ∃ t, D.spans[k]? = some t := ⟨_, List.getElem?_eq_getElem (by omega)⟩
      rw [leastD_succ ht]
      have := h.prev t (by omega) (by simpa using ht)
      omega
  · rintro ⟨⟨h1, h2⟩, h⟩
    have h0 : 0 ≤ leastD D k := by
      cases k with
      | zero => exact Int.le_refl 0
      | succ k =>
        obtain ⟨t, ht⟩ : ∃ t, D.spans[k]? = some t := ⟨_, List.getElem?_eq_getElem (by omega)⟩
        rw [leastD_succ ht]
        have := (hp k t (by omega) ht).pg0
        omega
    refine ⟨by omega, by omega, fun s' hk0 hs' => ?_, h.cls, h.lens, h.ptrs, h.slot, h.mk0, h.mk1⟩
    cases k with
    | zero => exact absurd rfl hk0
    | succ k =>
      have hs2 : D.spans[k]? = some s' := by simpa using hs'
      rw [leastD_succ hs2] at h1
      omega

theorem RdSpan.drewN {w : World} {b o : Nat} {s : SpanD} (h : RdSpan w b o s) (n : Nat) : RdSpan (w.drewN n) b o s := h
theorem RdS.drewN {w : World} {v : Value} {L : List SpanD} (h : RdS w v L) (n : Nat) : RdS (w.drewN n) v L := h
theorem RdM.drewN {w : World} {v : Value} {L : List (List Int)} (h : RdM w v L) (n : Nat) : RdM (w.drewN n) v L := h
theorem RdW.drewN {w : World} {v : Value} {D : WD} (h : RdW w v D) (n : Nat) : RdW (w.drewN n) v D := h
theorem BoxW.drewN {w : World} {B : Nat} {v : Value} (h : BoxW w B v) (n : Nat) : BoxW (w.drewN n) B v := h

end Go.Proofs.Ytnmgecplagekcaa
