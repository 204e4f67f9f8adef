import Derived.Test.YtpaepkcfdnddgaaGreatCgRF
import Derived.Test.YtpaepkcfdnddgaaGreatCgBZ

namespace Go.Proofs.YtpaepkcfdnddgaaGreat
open Go.RowKit
set_option linter.unusedVariables false

/-- The PutInts of some numbers, one behind the other. -/
def ints (l : List Int) : ByteArray := ⟨(l.flatMap pi).toArray⟩
theorem ba_add (a b : List UInt8) : (⟨a.toArray⟩ : ByteArray) ++ ⟨b.toArray⟩ = ⟨(a ++ b).toArray⟩ := by
  apply ByteArray.ext
  apply Array.toList_inj.1
  rw [ByteArray.data_append, Array.toList_append]
theorem ints_app (a b : List Int) : ints a ++ ints b = ints (a ++ b) := by
  unfold ints; rw [ba_add, List.flatMap_append]
theorem ints_one (n : Int) : ints [n] = ⟨(pi n).toArray⟩ := by simp [ints]
theorem ints_nil : ints [] = ⟨#[]⟩ := rfl
theorem allI_append {a b : List Int} (h : AllI a) (k : AllI b) : AllI (a ++ b) := fun x hx => (List.mem_append.1 hx).elim (h x) (k x)
theorem allI_one {n : Int} (h : I64 n) : AllI [n] := fun x hx => by rw [List.mem_singleton.1 hx]; exact h
theorem allI_nil : AllI [] := fun x hx => by cases hx
theorem ints_size : ∀ {l : List Int}, AllI l → (ints l).size ≤ 10 * l.length
  | [], _ => by simp [ints_nil]; rfl
  | n :: l, h => by
    have h1 := ints_size (l := l) (fun x hx => h x (List.mem_cons_of_mem _ hx))
    have h2 := (pi_len (h n (by simp)).1 (h n (by simp)).2).2
    have e : ints (n :: l) = ints [n] ++ ints l := by rw [ints_app]; rfl
    have e1 : (ints [n]).size = (pi n).length := by rw [ints_one]; show (pi n).toArray.size = _; rw [List.size_toArray]
    rw [e, ByteArray.size_append, List.length_cons, e1]
    omega
/-- One number more. -/
theorem add_int {P : Program} {l m : List Int} {n : Int} (hl : AllI l) (hn : I64 n) (hz : l.length ≤ 100000000) (hm : m = l ++ [n]) (w : World) : (Op.stringOp .add (ints l) (ints [n])).run P w = .ok (.string (ints m)) w := by
  have h1 := ints_size hl
  have h2 := ints_size (allI_one hn)
  rw [hm, ← ints_app]
  exact run_string_add_sum (P := P) (w := w) _ _ (by simp only [List.length_singleton] at h2; omega)
/-- What is written down of a span. -/
def slotsN (s : SpanD) (i : Nat) : List Int := ((s.lens.zip s.ptrs).take i).flatMap fun x => [x.1, x.2]
def spanH (s : SpanD) : List Int := [s.page, s.cls, s.mark, if s.swept then 1 else 0]
def spanN (s : SpanD) : List Int := spanH s ++ slotsN s s.lens.length
def spansP (D : WD) (k : Nat) : List Int := (D.spans.length : Int) :: (D.spans.take k).flatMap spanN
def roundN (D : WD) : List Int := [D.pages, D.phase, D.next, (D.muts.length : Int)]
theorem slotsN_succ {s : SpanD} {i : Nat} (h : i < s.lens.length) (h' : i < s.ptrs.length) : slotsN s (i + 1) = slotsN s i ++ [s.lens[i]?.getD 0, s.ptrs[i]?.getD 0] := by
  unfold slotsN
  have hz : i < (s.lens.zip s.ptrs).length := by simp; omega
  rw [List.take_succ_eq_append_getElem hz, List.flatMap_append]
  simp [List.getElem?_eq_getElem h, List.getElem?_eq_getElem h']
theorem slotsN_zero (s : SpanD) : slotsN s 0 = [] := rfl
theorem slotsN_all {s : SpanD} (h : FitS s) (i : Nat) : AllI (slotsN s i) := by
  intro x hx
  obtain ⟨p, hp, hx⟩ := List.mem_flatMap.1 hx
  have hp := List.of_mem_zip (List.mem_of_mem_take hp)
  rcases List.mem_cons.1 hx with rfl | hx
  · exact h.lens _ hp.1
  · rw [List.mem_singleton.1 hx]; exact h.ptrs _ hp.2
theorem slotsN_len (s : SpanD) (i : Nat) : (slotsN s i).length ≤ 2 * i := by
  unfold slotsN
  have : ∀ l : List (Int × Int), (l.flatMap fun x => [x.1, x.2]).length = 2 * l.length := fun l => by
    induction l with
    | nil => rfl
    | cons a l ih => simp only [List.flatMap_cons, List.length_append, List.length_cons, List.length_nil, ih]; omega
  rw [this, List.length_take]
  omega
theorem spanH_all {s : SpanD} (h : FitS s) : AllI (spanH s) := by
  intro x hx
  simp only [spanH, List.mem_cons, List.not_mem_nil, or_false] at hx
  rcases hx with rfl | rfl | rfl | rfl
  · exact h.page
  · exact h.cls
  · exact h.mark
  · split <;> (constructor <;> decide)
theorem spansP_all {D : WD} (h : FitD D) (hl : D.spans.length ≤ 1000000) (k : Nat) : AllI (spansP D k) := by
  intro x hx
  rcases List.mem_cons.1 hx with rfl | hx
  · constructor <;> omega
  · obtain ⟨s, hs, hx⟩ := List.mem_flatMap.1 hx
    have hf := h.spans s (List.mem_of_mem_take hs)
    rcases List.mem_append.1 hx with hx | hx
    · exact spanH_all hf x hx
    · exact slotsN_all hf _ x hx
theorem spansP_zero (D : WD) : spansP D 0 = [(D.spans.length : Int)] := rfl
theorem spansP_succ {D : WD} {k : Nat} {s : SpanD} (h : D.spans[k]? = some s) : spansP D (k + 1) = spansP D k ++ spanN s := by
  obtain ⟨hk, rfl⟩ := List.getElem?_eq_some_iff.1 h
  unfold spansP
  rw [List.take_succ_eq_append_getElem hk, List.flatMap_append]
  simp
theorem spansP_len {D : WD} (hF : HeapForm D) : ∀ k, (spansP D k).length ≤ 1 + 36 * k
  | 0 => by simp [spansP]
  | k + 1 => by
    have ih := spansP_len hF k
    cases h : D.spans[k]? with
    | none =>
      have : D.spans.length ≤ k := List.getElem?_eq_none_iff.1 h
      unfold spansP at ih ⊢
      rw [List.take_of_length_le (by omega)] at ih ⊢
      omega
    | some s =>
      have A := hF.span k s h
      have hs := slotsN_len s s.lens.length
      have hl := A.lens
      have hb : s.lens.length ≤ 16 := by
        have := hl; unfold sl' at this; (repeat' split at this) <;> omega
      rw [spansP_succ h, List.length_append, spanN, List.length_append]
      simp only [spanH, List.length_cons, List.length_nil]
      omega
/-- The references of some addresses. -/
def RefsOf (D : WD) (L R : List Int) : Prop := R.length = L.length ∧ ∀ (i : Nat) (a : Int), L[i]? = some a → RefV D a (R[i]?.getD 0)
theorem RefsOf.nil (D : WD) : RefsOf D [] [] := ⟨rfl, fun i a h => by simp at h⟩
theorem RefsOf.snoc {D : WD} {L R : List Int} {a r : Int} (h : RefsOf D L R) (hr : RefV D a r) : RefsOf D (L ++ [a]) (R ++ [r]) := by
  refine ⟨by simp [h.1], fun i x hx => ?_⟩
  rcases Nat.lt_trichotomy i L.length with hi | hi | hi
  · rw [List.getElem?_append_left hi] at hx
    rw [List.getElem?_append_left (by rw [h.1]; exact hi)]
    exact h.2 i x hx
  · subst hi
    rw [List.getElem?_append_right (Nat.le_refl _), Nat.sub_self] at hx
    obtain rfl : a = x := by simpa using hx
    rw [List.getElem?_append_right (by have := h.1; omega), h.1, Nat.sub_self]
    exact hr
  · rw [List.getElem?_eq_none (by simp; omega)] at hx
    cases hx
theorem RefsOf.unique {D : WD} (hF : HeapForm D) {L R R' : List Int} (h : RefsOf D L R) (h' : RefsOf D L R') : R' = R := by
  apply List.ext_getElem?
  intro i
  by_cases hi : i < L.length
  · have e := (h.2 i _ (List.getElem?_eq_getElem hi)).unique hF (h'.2 i _ (List.getElem?_eq_getElem hi))
    have i1 : i < R.length := by have := h.1; omega
    have i2 : i < R'.length := by have := h'.1; omega
    rw [List.getElem?_eq_getElem i1, List.getElem?_eq_getElem i2] at e
    rw [List.getElem?_eq_getElem i1, List.getElem?_eq_getElem i2]
    simpa using e.symm
  · rw [List.getElem?_eq_none (by have := h.1; have := h'.1; omega), List.getElem?_eq_none (by have := h.1; have := h'.1; omega)]
theorem RefV.i64 {D : WD} (hF : HeapForm D) {a r : Int} (h : RefV D a r) : I64 r := by
  rcases h with ⟨_, rfl⟩ | ⟨_, k, j, ho, rfl⟩ | ⟨_, _, rfl⟩
  · constructor <;> decide
  · have := obj_small hF ho
    constructor <;> omega
  · constructor <;> decide
theorem RefsOf.all {D : WD} (hF : HeapForm D) {L R : List Int} (h : RefsOf D L R) : AllI R := fun x hx => by
  obtain ⟨i, hi, rfl⟩ := List.getElem_of_mem hx
  have := h.2 i _ (List.getElem?_eq_getElem (by rw [← h.1]; exact hi))
  rw [List.getElem?_eq_getElem hi] at this
  exact RefV.i64 hF this
/-- What MetaBytes is. -/
def MetaIs (D : WD) (b : ByteArray) : Prop := ∃ R G, RefsOf D D.muts.flatten R ∧ RefsOf D D.grey G ∧ b = secB 71 (ints (roundN D)) ++ secB 83 (ints (spansP D D.spans.length)) ++ secB 82 (ints (R ++ ((D.grey.length : Int) :: G)))
theorem MetaIs.unique {D : WD} (hF : HeapForm D) {b b' : ByteArray} (h : MetaIs D b) (h' : MetaIs D b') : b' = b := by
  obtain ⟨R, G, h1, h2, rfl⟩ := h
  obtain ⟨R', G', h1', h2', rfl⟩ := h'
  rw [h1.unique hF h1', h2.unique hF h2']
end Go.Proofs.YtpaepkcfdnddgaaGreat
