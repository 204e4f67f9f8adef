/-
  The model's l3put: a number into an ascending list.
-/
import Derived.Test.YtajogfnlbdiokaaPtrs
import Derived.Deep.CutRange
import Derived.Outline
namespace Go.Proofs.Ytajogfnlbdiokaa
open Go.RowKit
set_option linter.unusedVariables false

def Asc (L : List Int) : Prop := L.Pairwise (· < ·)
theorem Asc.ext : ∀ {L R : List Int}, Asc L → Asc R → (∀ y, y ∈ L ↔ y ∈ R) → L = R
  | [], [], _, _, _ => rfl
  | [], b :: R, _, _, h => absurd ((h b).2 (List.mem_cons_self ..)) (by simp)
  | a :: L, [], _, _, h => absurd ((h a).1 (List.mem_cons_self ..)) (by simp)
  | a :: L, b :: R, h1, h2, h => by
    have p1 := List.pairwise_cons.1 h1
    have p2 := List.pairwise_cons.1 h2
    have e : a = b := by
      rcases List.mem_cons.1 ((h a).1 (List.mem_cons_self ..)) with e | m
      · exact e
      · rcases List.mem_cons.1 ((h b).2 (List.mem_cons_self ..)) with e | m'
        · exact e.symm
        · have := p2.1 a m
          have := p1.1 b m'
          omega
    subst e
    refine congrArg (a :: ·) (Asc.ext p1.2 p2.2 fun y => ?_)
    constructor
    · intro hy
      rcases List.mem_cons.1 ((h y).1 (List.mem_cons_of_mem _ hy)) with e | m
      · have := p1.1 y hy
        omega
      · exact m
    · intro hy
      rcases List.mem_cons.1 ((h y).2 (List.mem_cons_of_mem _ hy)) with e | m
      · have := p2.1 y hy
        omega
      · exact m
def PutIs (L : List Int) (x : Int) (R : List Int) : Prop := Asc R ∧ (∀ y, y ∈ R ↔ y = x ∨ y ∈ L) ∧ R.length ≤ L.length + 1
/-- The state of the loop behind k elements: f: the new one is in. -/
def PutSt (L : List Int) (x : Int) (k : Nat) (f : Bool) (O : List Int) : Prop :=
  (f = false ∧ O = L.take k ∧ ∀ y, y ∈ L.take k → y < x) ∨
  (f = true ∧ ∃ A B, O = A ++ x :: B ∧ L.take k = A ++ B ∧ (∀ y, y ∈ A → y < x) ∧ (∀ y, y ∈ B → x < y) ∧ B ≠ [])
theorem PutSt.len {L : List Int} {x : Int} {k : Nat} {f : Bool} {O : List Int} (h : PutSt L x k f O) (hk : k ≤ L.length) : O.length ≤ k + 1 := by
  rcases h with ⟨_, rfl, _⟩ | ⟨_, A, B, rfl, e, _⟩
  · rw [List.length_take]; omega
  · have := congrArg List.length e
    rw [List.length_take, List.length_append] at this
    simp only [List.length_append, List.length_cons]
    omega
theorem take_one {L : List Int} {k : Nat} (h : k < L.length) : L.take (k + 1) = L.take k ++ [L[k]?.getD 0] := by
  rw [List.take_succ_eq_append_getElem h]; simp [List.getElem?_eq_getElem h]
theorem PutSt.low {L : List Int} {x : Int} {k : Nat} {O : List Int} (h : PutSt L x k false O) (hk : k < L.length) (hx : L[k]?.getD 0 < x) : PutSt L x (k + 1) false (O ++ [L[k]?.getD 0]) := by
  rcases h with ⟨_, rfl, h⟩ | ⟨h, _⟩
  · refine .inl ⟨rfl, (take_one hk).symm, fun y hy => ?_⟩
    rw [take_one hk] at hy
    rcases List.mem_append.1 hy with m | m
    · exact h y m
    · rw [List.mem_singleton.1 m]; exact hx
  · cases h
theorem PutSt.here {L : List Int} {x : Int} {k : Nat} {O : List Int} (h : PutSt L x k false O) (hk : k < L.length) (hx : x < L[k]?.getD 0) : PutSt L x (k + 1) true (O ++ [x] ++ [L[k]?.getD 0]) := by
  rcases h with ⟨_, rfl, h⟩ | ⟨h, _⟩
  · refine .inr ⟨rfl, L.take k, [L[k]?.getD 0], by simp, take_one hk, h, fun y hy => ?_, by simp⟩
    rw [List.mem_singleton.1 hy]; exact hx
  · cases h
theorem PutSt.high {L : List Int} {x : Int} {k : Nat} {O : List Int} (h : PutSt L x k true O) (ha : Asc L) (hk : k < L.length) : PutSt L x (k + 1) true (O ++ [L[k]?.getD 0]) := by
  rcases h with ⟨h, _⟩ | ⟨_, A, B, rfl, e, h1, h2, h3⟩
  · cases h
  · refine .inr ⟨rfl, A, B ++ [L[k]?.getD 0], by simp, by rw [take_one hk, e, List.append_assoc], h1, fun y hy => ?_, by simp⟩
    rcases List.mem_append.1 hy with m | m
    · exact h2 y m
    · rw [List.mem_singleton.1 m]
      obtain ⟨b, hb⟩ := List.exists_mem_of_ne_nil _ h3
      have hlt : b < L[k]?.getD 0 := by
        have hp : Asc (L.take (k + 1)) := List.Pairwise.sublist (List.take_sublist _ _) ha
        rw [take_one hk, e] at hp
        exact (List.pairwise_append.1 hp).2.2 b (List.mem_append.2 (.inr hb)) _ (List.mem_singleton.2 rfl)
      have := h2 b hb
      omega
theorem PutSt.end1 {L : List Int} {x : Int} {O : List Int} (h : PutSt L x L.length true O) (ha : Asc L) : PutIs L x O := by
  have hlen := h.len (Nat.le_refl _)
  rcases h with ⟨h, _⟩ | ⟨_, A, B, rfl, e, h1, h2, h3⟩
  · cases h
  · rw [List.take_length] at e
    subst e
    obtain ⟨pA, pB, pAB⟩ := List.pairwise_append.1 ha
    refine ⟨List.pairwise_append.2 ⟨pA, List.pairwise_cons.2 ⟨h2, pB⟩, fun a hA b hb => ?_⟩, fun y => ?_, hlen⟩
    · rcases List.mem_cons.1 hb with rfl | m
      · exact h1 a hA
      · exact pAB a hA b m
    · simp only [List.mem_append, List.mem_cons]
      constructor
      · rintro (h | h | h)
        · exact .inr (.inl h)
        · exact .inl h
        · exact .inr (.inr h)
      · rintro (h | h | h)
        · exact .inr (.inl h)
        · exact .inl h
        · exact .inr (.inr h)
theorem PutSt.end0 {L : List Int} {x : Int} {O : List Int} (h : PutSt L x L.length false O) (ha : Asc L) : PutIs L x (O ++ [x]) := by
  rcases h with ⟨_, rfl, h⟩ | ⟨h, _⟩
  · rw [List.take_length] at h ⊢
    refine ⟨List.pairwise_append.2 ⟨ha, List.pairwise_singleton _ _, fun a hA b hb => by rw [List.mem_singleton.1 hb]; exact h a hA⟩, fun y => ?_, by simp⟩
    simp only [List.mem_append, List.mem_singleton]
    exact Or.comm
  · cases h
theorem PutIs.found {L : List Int} {x : Int} (ha : Asc L) {k : Nat} (hk : k < L.length) (hx : L[k]?.getD 0 = x) : PutIs L x L := by
  refine ⟨ha, fun y => ⟨.inr, fun h => ?_⟩, by omega⟩
  rcases h with rfl | h
  · rw [← hx, List.getElem?_eq_getElem hk]
    exact List.getElem_mem hk
  · exact h
end Go.Proofs.Ytajogfnlbdiokaa
