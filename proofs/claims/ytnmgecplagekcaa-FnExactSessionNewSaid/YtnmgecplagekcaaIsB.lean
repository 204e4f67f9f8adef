/-
  What it means that a call returned a flag that says P.
-/
import Derived.Test.YtnmgecplagekcaaWData
namespace Go.Proofs.Ytnmgecplagekcaa
open Go.RowKit
set_option linter.unusedVariables false

/-- It returned whether P. -/
def IsB (P : Prop) (e : Ending) : Prop := ∃ r : Bool, e = .returned (.bool r) ∧ (r = true ↔ P)
theorem IsB.yes {P : Prop} (h : P) : IsB P (.returned (.bool true)) := ⟨true, rfl, by simp [h]⟩
theorem IsB.no {P : Prop} (h : ¬ P) : IsB P (.returned (.bool false)) := ⟨false, rfl, by simp [h]⟩
theorem IsB.elim {P : Prop} {e : Ending} (h : IsB P e) : (P ∧ e = .returned (.bool true)) ∨ (¬ P ∧ e = .returned (.bool false)) := by
  obtain ⟨r, rfl, hr⟩ := h
  cases r
  · exact .inr ⟨by simpa using hr, rfl⟩
  · exact .inl ⟨by simpa using hr, rfl⟩

theorem Calls.isTrue {P : Prop} {R : World → Prop} {f : FuncId} {args : Array Value} {w : World} (h : Calls Try.prog f args w fun e w' => IsB P e ∧ R w') (hp : P) : Calls Try.prog f args w fun e w' => e = .returned (.bool true) ∧ R w' :=
  h.mono fun e w' ⟨hb, hr⟩ => ⟨by rcases hb.elim with ⟨_, rfl⟩ | ⟨hn, _⟩; rfl; exact absurd hp hn, hr⟩
theorem Calls.isFalse {P : Prop} {R : World → Prop} {f : FuncId} {args : Array Value} {w : World} (h : Calls Try.prog f args w fun e w' => IsB P e ∧ R w') (hp : ¬ P) : Calls Try.prog f args w fun e w' => e = .returned (.bool false) ∧ R w' :=
  h.mono fun e w' ⟨hb, hr⟩ => ⟨by rcases hb.elim with ⟨hn, _⟩ | ⟨_, rfl⟩; exact absurd hn hp; rfl, hr⟩
theorem IsB.of_yes {P : Prop} {e : Ending} (h : IsB P e) (hp : P) : e = .returned (.bool true) := by
  obtain ⟨r, rfl, hr⟩ := h
  rw [hr.2 hp]
theorem IsB.of_no {P : Prop} {e : Ending} (h : IsB P e) (hp : ¬ P) : e = .returned (.bool false) := by
  obtain ⟨r, rfl, hr⟩ := h
  cases r
  · rfl
  · exact absurd (hr.1 rfl) hp
/-- A flag that is decided. -/
theorem IsB.at_ {P : Prop} (d : Bool) (hd : d = true ↔ P) {e : Ending} (h : IsB P e) : e = .returned (.bool d) := by
  cases d
  · exact h.of_no fun hp => by have := hd.2 hp; cases this
  · exact h.of_yes (hd.1 rfl)
theorem IsB.unique {P : Prop} {e e' : Ending} (h : IsB P e) (h' : IsB P e') : e = e' := by
  obtain ⟨r, rfl, h⟩ := h
  obtain ⟨r', rfl, h'⟩ := h'
  have := h.trans h'.symm
  cases r <;> cases r' <;> simp_all
theorem take_one {L : List Int} {k : Nat} (h : k < L.length) : L.take (k + 1) = L.take k ++ [L[k]?.getD 0] := by
  rw [List.take_succ_eq_append_getElem h]; simp [List.getElem?_eq_getElem h]
/-- Each is 0, or as wanted. -/
def ZeroOr (P : Int → Prop) (L : List Int) : Prop := ∀ a, a ∈ L → a = 0 ∨ P a
theorem zeroOr_not {P : Int → Prop} {L : List Int} : (∃ a, a ∈ L ∧ a ≠ 0 ∧ ¬ P a) ↔ ¬ ZeroOr P L := by
  constructor
  · rintro ⟨a, ha, h0, hn⟩ h
    exact (h a ha).elim h0 hn
  · intro h
    apply Classical.byContradiction
    intro hn
    exact h fun a ha => Classical.byContradiction fun h2 => hn ⟨a, ha, fun e => h2 (.inl e), fun e => h2 (.inr e)⟩

end Go.Proofs.Ytnmgecplagekcaa
