/-
  The contract of the program's FormOk.
-/
import Derived.Test.YtnmgecplagekcaaImplC
import Derived.Test.YtnmgecplagekcaaFind
import Derived.Test.YtnmgecplagekcaaExt
namespace Go.Proofs.Ytnmgecplagekcaa
open Go.RowKit
set_option linter.unusedVariables false

theorem baseOk_eq {b : Int} {v : Bool} (hv : baseB b = v) (w : World) : Calls Try.prog 18 #[.int .i64 b] w fun e w' => e = .returned (.bool v) ∧ w = w' := by rw [← hv]; exact baseOk_any b w
theorem pagesOk_eq {p : Int} {v : Bool} (hv : inB p 1 12 = v) (w : World) : Calls Try.prog 19 #[.int .i64 p] w fun e w' => e = .returned (.bool v) ∧ w = w' := by rw [← hv]; exact pagesOk_any p w
theorem spans_le {D : WD} (h : SpansForm D) : ∀ (k : Nat) (s : SpanD), D.spans[k]? = some s → (k : Int) ≤ s.page := by
  intro k
  induction k with
  | zero => intro s hs; exact (h 0 s hs).pg0
  | succ k ih =>
    intro s hs
    have hl := (List.getElem?_eq_some_iff.1 hs).1
    obtain ⟨t, ht⟩ : ∃ t, D.spans[k]? = some t := ⟨_, List.getElem?_eq_getElem (by omega)⟩
    have h1 := ih t ht
    have h2 := (h (k + 1) s hs).prev t (by omega) (by simpa using ht)
    omega
theorem spans_le' {D : WD} (h : SpansForm D) (hp : 0 ≤ D.pages) : (D.spans.length : Int) ≤ D.pages := by
  rcases Nat.eq_zero_or_pos D.spans.length with e | e
  · omega
  · obtain ⟨t, ht⟩ : ∃ t, D.spans[D.spans.length - 1]? = some t := ⟨_, List.getElem?_eq_getElem (by omega)⟩
    have h1 := spans_le h _ t ht
    have h2 := (h _ t ht).pg1
    omega
theorem heapForm_iff {D : WD} : HeapForm D ↔ (baseB D.base = true ∧ inB D.pages 1 12 = true ∧ MutsForm D.muts ∧ inB D.phase 0 4 = true ∧ (D.words.length : Int) = D.pages * 32 ∧ (D.dirty.length : Int) = D.pages * 4 ∧ SpansForm D ∧ RestZero D) := by
  have hb : baseB D.base = true ↔ (32 ≤ D.base ∧ D.base ≤ 1048576 ∧ D.base % 32 = 0) := by
    unfold baseB
    rw [Bool.and_eq_true, inB_iff, beq_iff_eq, and_assoc]
  rw [hb, inB_iff, inB_iff]
  constructor
  · intro h
    obtain ⟨g1, g2, g3, g4, g5, g6, g7⟩ := h.geo
    exact ⟨⟨g1, g2, g3⟩, ⟨g4, g5⟩, ⟨by omega, by omega, h.roots⟩, ⟨h.ph0, h.ph1⟩, h.words, h.dirty, h.span, h.zero⟩
  · rintro ⟨⟨g1, g2, g3⟩, ⟨g4, g5⟩, ⟨m1, m2, m3⟩, ⟨p1, p2⟩, h5, h6, h7, h8⟩
    exact ⟨⟨g1, g2, g3, g4, g5, by omega, by omega⟩, h5, h6, spans_le' h7 (by omega), p1, p2, h7, h8, m3⟩
theorem RdW.drew {w : World} {v : Value} {D : WD} (h : RdW w v D) : RdW w.drew v D := h
theorem BoxW.drew {w : World} {B : Nat} {v : Value} (h : BoxW w B v) : BoxW w.drew B v := h
theorem RdM.drew {w : World} {v : Value} {L : List (List Int)} (h : RdM w v L) : RdM w.drew v L := h
theorem Drawn.drew (w : World) : Drawn w w.drew := ⟨1, rfl⟩
theorem Drawn.drewN (w : World) (n : Nat) : Drawn w (w.drewN n) := ⟨n, rfl⟩

theorem spans_ext {P : Prop} {b : Bool} {f : FuncId} {args : Array Value} {w : World} (F : ∀ {P : Prop} {R : World → Prop}, (Calls Try.prog f args w fun e w' => IsB P e ∧ R w') → (if b then P else ¬ P) → Calls Try.prog f args w fun e w' => e = .returned (.bool b) ∧ R w')
    (h : Calls Try.prog f args w fun e w' => IsB P e ∧ Drawn w w') (hp : if b then P else ¬ P) : Calls Try.prog f args w fun e w' => e = .returned (.bool b) ∧ Below w.heap.size w w' :=
  (F h hp).mono fun _ _ ⟨a, c⟩ => ⟨a, c.below⟩

end Go.Proofs.Ytnmgecplagekcaa
