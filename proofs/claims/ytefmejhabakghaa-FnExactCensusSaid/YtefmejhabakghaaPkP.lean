import Derived.Test.YtefmejhabakghaaPkW
import Derived.Test.YtefmejhabakghaaPkA
import Derived.Test.YtefmejhabakghaaPkV
import Derived.Deep.CutRange
import Derived.Outline
import Derived.Test.YtefmejhabakghaaPkF2

/-
  Lists without their zeros: the program's withoutZeros.
-/
namespace Go.Proofs.Ytefmejhabakghaa
open Go.RowKit
set_option linter.unusedVariables false

def nz (L : List Int) : List Int := L.filter fun x => x != 0
theorem nz_zero {L : List Int} {k : Nat} (h : k < L.length) (hz : L[k]?.getD 0 = 0) : nz (L.take (k + 1)) = nz (L.take k) := by
  have e : L[k] = 0 := by simpa [List.getElem?_eq_getElem h] using hz
  unfold nz
  rw [List.take_succ_eq_append_getElem h, List.filter_append, e]
  simp
theorem nz_succ {L : List Int} {k : Nat} (h : k < L.length) (hz : ¬ L[k]?.getD 0 = 0) : nz (L.take (k + 1)) = nz (L.take k) ++ [L[k]?.getD 0] := by
  have e : L[k]?.getD 0 = L[k] := by simp [List.getElem?_eq_getElem h]
  rw [e] at hz ⊢
  unfold nz
  rw [List.take_succ_eq_append_getElem h, List.filter_append]
  simp [hz]
theorem nz_le (L : List Int) (k : Nat) : (nz (L.take k)).length ≤ k := Nat.le_trans (List.length_filter_le _ _) (by rw [List.length_take]; omega)

end Go.Proofs.Ytefmejhabakghaa

/-
  The words of an object that hold its pointers: the program's pointerWords.
-/
namespace Go.Proofs.Ytefmejhabakghaa
open Go.RowKit
set_option linter.unusedVariables false

def ptrW (D : WD) (s : SpanD) (j : Nat) : List Int := (D.words.drop (atW s (j : Int)).toNat).take (s.ptrs[j]?.getD 0).toNat
theorem Rd.part {w : World} {b o c : Nat} {L : List Int} (h : Rd w (.slice (some ⟨b, o, none⟩) L.length c) L) {lo n : Nat} (hle : lo + n ≤ L.length) (c' : Nat) : Rd w (.slice (some ⟨b, o + lo, none⟩) n c') ((L.drop lo).take n) := by
  obtain ⟨a', c0, he, hm, hx⟩ := h
  have hln : ((L.drop lo).take n).length = n := by simp; omega
  refine ⟨some ⟨b, o + lo, none⟩, c', by rw [hln], by rw [hln]; omega, fun j hj => ?_⟩
  rw [hln] at hj
  obtain ⟨b', o', he', hc⟩ := hx (lo + j) (by omega)
  obtain ⟨rfl, rfl⟩ : b' = b ∧ o' = o := by
    have : some (⟨b, o, none⟩ : Addr) = some ⟨b', o', none⟩ := by simp at he; rw [he.1]; exact he'
    simp at this
    exact ⟨this.1.symm, this.2.symm⟩
  refine ⟨_, _, rfl, ?_⟩
  rw [show o' + lo + j = o' + (lo + j) by omega, hc]
  simp [List.getElem?_drop, hj]
/-- The words' slice has room for its words. -/
def CapW (v : Value) : Prop := ∀ c0 c1 a n c c3 c4 c5 c6 c7 c8, v = .agg #[c0, c1, .slice a n c, c3, c4, c5, c6, c7, c8] → n ≤ c

end Go.Proofs.Ytefmejhabakghaa

/-
  The model's l3ptrs and Pointers.
-/
namespace Go.Proofs.Ytefmejhabakghaa
open Go.RowKit
set_option linter.unusedVariables false

end Go.Proofs.Ytefmejhabakghaa

/-
  What Pointers answers; the model's Pointers.
-/
namespace Go.Proofs.Ytefmejhabakghaa
open Go.RowKit
set_option linter.unusedVariables false

/-- The pointers that are not 0 of the object at addr. -/
def PtrIs (D : WD) (addr : Int) (L : List Int) : Prop :=
  (∃ (k j : Nat) (s : SpanD), HeapForm D ∧ IsObj D addr k j ∧ D.spans[k]? = some s ∧ L = nz (ptrW D s j)) ∨ ((HeapForm D → ∀ k j, ¬ IsObj D addr k j) ∧ L = [])
theorem PtrIs.unique {D : WD} {addr : Int} {L L' : List Int} (h : PtrIs D addr L) (h' : PtrIs D addr L') : L' = L := by
  rcases h with ⟨k, j, s, hF, ho, hs, rfl⟩ | ⟨hn, rfl⟩ <;> rcases h' with ⟨k', j', s', hF', ho', hs', rfl⟩ | ⟨hn', rfl⟩
  · obtain ⟨rfl, rfl⟩ := ho.unique hF ho'
    rw [hs] at hs'
    cases hs'
    rfl
  · exact absurd ho (hn' hF k j)
  · exact absurd ho' (hn hF' k' j')
  · rfl
theorem obj_slot {D : WD} {addr : Int} {k j : Nat} (hF : HeapForm D) (ho : IsObj D addr k j) : ∃ s, D.spans[k]? = some s ∧ SlotIn D s j ∧ 0 ≤ s.ptrs[j]?.getD 0 ∧ s.ptrs[j]?.getD 0 ≤ sz s.cls := by
  obtain ⟨s, hks, hjl, hl, ha⟩ := ho
  have h := (hF.span k s hks).slot j hjl
  exact ⟨s, hks, hF.slotIn hks hjl, h.p0, by have := h.p1; have := h.l1; omega⟩

end Go.Proofs.Ytefmejhabakghaa

/-
  The program's viewOf, pointers and Pointers.
-/
namespace Go.Proofs.Ytefmejhabakghaa
open Go.RowKit
open Go.Maps (Keyed)
set_option linter.unusedVariables false

end Go.Proofs.Ytefmejhabakghaa

/-
  The contracts of the model's and the program's Seen.
-/
namespace Go.Proofs.Ytefmejhabakghaa
open Go.RowKit
set_option linter.unusedVariables false

/-- The roots of user m have been looked at. -/
def SeenP (D : WD) (m : Int) : Prop := (D.phase = 1 ∧ m < D.next) ∨ D.phase = 2 ∨ D.phase = 3
def SeenIs (D : WD) (m : Int) : Prop := HeapForm D ∧ 0 ≤ m ∧ m < (D.muts.length : Int) ∧ SeenP D m
theorem BoxW.cell {w : World} {B : Nat} {cs : Array Value} (h : BoxW w B (.agg cs)) (j : Nat) (u : Value) (hu : cs[j]? = some u) : w.cell? ⟨B, j, none⟩ = some u := by
  obtain ⟨cs', he, hh⟩ := h
  obtain rfl := (Value.agg.inj he).symm
  exact cell_of_heap hh j u hu

end Go.Proofs.Ytefmejhabakghaa
