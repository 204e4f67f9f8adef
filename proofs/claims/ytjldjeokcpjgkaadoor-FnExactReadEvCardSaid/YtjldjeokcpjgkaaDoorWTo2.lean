/-
  The contracts of the laws' 'toMutS', 'toGc', 'toWorld': a copy of its own, that reads alike.
-/
import Derived.Test.YtjldjeokcpjgkaaDoorWTo
namespace Go.Proofs.YtjldjeokcpjgkaaDoor
open Go.RowKit
set_option linter.unusedVariables false

/-- The users' rows. -/
def valsM (L : List (List Int)) (mv : List Nat) : List Value := (List.zip L mv).map fun x => sl x.2 x.1.length
def rowM (L : List (List Int)) (mv : List Nat) : List Value := valsM L mv ++ List.replicate (L.length - mv.length) (.slice none 0 0)
def InnerM (w : World) (base : Nat) (L : List (List Int)) (mv : List Nat) : Prop :=
  ∀ (i : Nat) (r : List Int) (g : Nat), L[i]? = some r → mv[i]? = some g → w.ownsRow base 3 1 (sl g r.length) r.length (r.map (Value.int .i64))
theorem InnerM.below {w w' : World} {base : Nat} {L : List (List Int)} {mv : List Nat} (h : InnerM w base L mv) (hb : Below w.heap.size w w') : InnerM w' base L mv :=
  fun i s p h1 h2 => own_below (h i s p h1 h2) hb
theorem InnerM.set {w : World} {base b : Nat} {L : List (List Int)} {mv : List Nat} (h : InnerM w base L mv) (hb : b < base) (i : Nat) (u : Value) : InnerM (w.setCell ⟨b, i, none⟩ u) base L mv :=
  fun j s p h1 h2 => own_set (h j s p h1 h2) hb i u
theorem InnerM.base {w : World} {base base' : Nat} {L : List (List Int)} {mv : List Nat} (h : InnerM w base L mv) (hb : base' ≤ base) : InnerM w base' L mv :=
  fun j s p h1 h2 => own_base (h j s p h1 h2) hb
theorem InnerM.snoc {w : World} {base : Nat} {L : List (List Int)} {mv : List Nat} (h : InnerM w base L mv) {r : List Int} {g : Nat} (hs : L[mv.length]? = some r)
    (h1 : w.ownsRow base 3 1 (sl g r.length) r.length (r.map (Value.int .i64))) : InnerM w base L (mv ++ [g]) := by
  intro i s' p' hi hp
  by_cases hlt : i < mv.length
  · rw [List.getElem?_append_left hlt] at hp
    exact h i s' p' hi hp
  · have hi2 : i = mv.length := by
      have := (List.getElem?_eq_some_iff.1 hp).1
      simp at this
      omega
    subst hi2
    rw [hs] at hi
    simp at hp
    cases hi
    subst hp
    exact h1
theorem valsM_snoc (L : List (List Int)) (mv : List Nat) (r : List Int) (g : Nat) (h : L[mv.length]? = some r) : valsM L (mv ++ [g]) = valsM L mv ++ [sl g r.length] := by
  induction mv generalizing L with
  | nil =>
    cases L with
    | nil => simp at h
    | cons s' L => simp at h; subst h; simp [valsM]
  | cons q sv ih =>
    cases L with
    | nil => simp at h
    | cons s' L =>
      have := ih L (by simpa using h)
      simp only [valsM, List.cons_append, List.zip_cons_cons, List.map_cons] at this ⊢
      rw [this]
theorem valsM_len (L : List (List Int)) (mv : List Nat) (h : mv.length ≤ L.length) : (valsM L mv).length = mv.length := by simp [valsM]; omega
theorem rowM_next (L : List (List Int)) (mv : List Nat) (r : List Int) (g : Nat) (h : L[mv.length]? = some r) : (rowM L mv).set mv.length (sl g r.length) = rowM L (mv ++ [g]) := by
  have hk := (List.getElem?_eq_some_iff.1 h).1
  have e : L.length - mv.length = (L.length - (mv.length + 1)) + 1 := by omega
  unfold rowM
  rw [e, List.replicate_succ, valsM_snoc L mv r g h, List.length_append, List.length_singleton, List.set_append_right _ _ (by rw [valsM_len L mv (by omega)]; omega), valsM_len L mv (by omega), Nat.sub_self, List.set_cons_zero, List.append_assoc]
  rfl

end Go.Proofs.YtjldjeokcpjgkaaDoor
