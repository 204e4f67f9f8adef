import Derived.Test.YtpcefecedmdmkaaPkV
import Derived.Test.YtpcefecedmdmkaaPkF2

/-
  The fresh World has the heap's form; the Worlds that laws.heaps goes through, in plain Lean.
-/
namespace Go.Proofs.Ytpcefecedmdmkaa
open Go.RowKit
set_option linter.unusedVariables false

theorem rep_zero (n i : Nat) : (List.replicate n (0 : Int))[i]?.getD 0 = 0 := by
  rw [List.getElem?_replicate]; split <;> rfl
theorem newD_form {b : Int} {p m : Nat} (g : Geo b p m) : HeapForm (newD b p m) where
  geo := by simpa [newD] using g
  words := by simp [newD]
  dirty := by simp [newD]
  spans := by simp [newD]
  ph0 := by simp [newD]
  ph1 := by simp [newD]
  span := fun k s h => by simp [newD] at h
  zero := fun i _ _ => rep_zero _ _
  roots := fun k r h => by
    have := List.eq_of_mem_replicate (List.mem_of_getElem? h)
    rw [this]; simp
theorem newD_used (b : Int) (p m : Nat) : usedN (newD b p m) = 0 := by simp [usedN, usedK, newD]

/-- The span that an object of 3 words has made. -/
def hS : SpanD := takeS (freshS (newD 64 2 1) 1 0) 0 3 1
def hD : WD := takeD (insD (newD 64 2 1) 1 0) 0 (freshS (newD 64 2 1) 1 0) 0 3 1
theorem hD_spans : hD.spans = [hS] := rfl
theorem hS_val : hS = ⟨0, 1, 0, false, [3, 0, 0, 0, 0, 0, 0, 0], [1, 0, 0, 0, 0, 0, 0, 0]⟩ := by rfl
theorem hD_take : TakeIs (newD 64 2 1) 3 1 hD 64 true :=
  .inl ⟨⟨newD_form (by unfold Geo; omega), by omega, by omega, by omega, by omega⟩, insD (newD 64 2 1) 1 0, 0, 0, freshS (newD 64 2 1) 1 0,
    .inr ⟨fun i s h => by simp [newD] at h, ⟨by simp [newD], fun j s h => absurd h (by omega), fun s h => by simp [newD] at h⟩, by simp [newD], rfl, rfl⟩, rfl, rfl, by decide, rfl⟩
theorem hS_at : atW hS ((0 : Nat) : Int) = 0 := by decide
theorem hS_slot : ∀ i, i < hS.lens.length → SlotOk hS i := by
  rw [hS_val]
  intro i hi
  have hi8 : i < 8 := by simpa using hi
  have hb : ¬ bitI 0 i := by unfold bitI; simp
  have h3 : sz 1 = 4 := by decide
  rcases i with _ | _ | _ | _ | _ | _ | _ | _ | i
  · exact ⟨by simp, by simp [h3], by simp, by simp, fun h => by simp at h⟩
  all_goals first | omega | exact ⟨by simp, by simp [h3], by simp, by simp, fun _ => hb⟩
theorem hD_span {k : Nat} {s : SpanD} (h : hD.spans[k]? = some s) : k = 0 ∧ s = hS := by
  rw [hD_spans] at h
  cases k with
  | zero => exact ⟨rfl, by simpa using h.symm⟩
  | succ k => simp at h
theorem hD_form : HeapForm hD where
  geo := by have : Geo 64 2 1 := by unfold Geo; omega
            exact this
  words := by rfl
  dirty := by rfl
  spans := by rw [hD_spans]; decide
  ph0 := by decide
  ph1 := by decide
  span := fun k s h => by
    obtain ⟨rfl, rfl⟩ := hD_span h
    exact ⟨by decide, by decide, fun s' h => absurd rfl h, by decide, by decide, by decide, hS_slot, by decide, by decide⟩
  zero := fun i _ _ => rep_zero 64 i
  roots := fun k r h => by
    have := List.eq_of_mem_replicate (List.mem_of_getElem? (show (List.replicate 1 (List.replicate 6 (0 : Int)))[k]? = some r from h))
    rw [this]; simp
theorem hD_obj : IsObj hD 64 0 0 := ⟨hS, rfl, by decide, by decide, by decide⟩
theorem hD_find : FindIs hD 64 (.returned (.tuple #[.int .i64 0, .int .i64 0])) := FindIs.yes hD_form hD_obj
theorem hD_addr : AddrIs hD 0 1 (.returned (.int .i64 68)) := AddrIs.yes (D := hD) (k := 0) (slot := 1) (s := hS) ⟨hD_form, by omega, rfl, by omega, by decide⟩
theorem hD_used : usedN hD = 4 := by decide
theorem hD_empty : EmptyS (giveS hS 0) := by
  intro i hi
  have e : (giveS hS 0).lens = List.replicate 8 0 := by rfl
  rw [e, rep_zero]
  omega
theorem hD_give {D' : WD} {f : Bool} (h : GiveIs hD 64 D' f) : D'.spans = [] ∧ f = true := by
  have h0 : GiveIs hD 64 { giveD hD 0 hS 0 with spans := (giveD hD 0 hS 0).spans.eraseIdx 0 } true := .inl ⟨0, 0, hS, hD_form, hD_obj, rfl, rfl, .inl ⟨hD_empty, rfl⟩⟩
  obtain ⟨rfl, rfl⟩ := h0.unique h
  exact ⟨rfl, rfl⟩
end Go.Proofs.Ytpcefecedmdmkaa
