/-
  The contracts of the laws' helpers on lists of ints (eqIntS, sameInts, has, markIntS, heldIntS).
-/
import Derived.Test.YtedhallhdhlhhaaWEq
import Derived.Test.YtedhallhdhlhhaaWWorld
namespace Go.Proofs.Ytedhallhdhlhhaa
open Go.RowKit
set_option linter.unusedVariables false

theorem grow_trans {a w w' : World} {row : Option Nat} (h : a.grownBy w row) (k : w.grownBy w' row) : a.grownBy w' row :=
  ⟨k.os.trans h.os, k.tape.trans h.tape, k.output.trans h.output, Nat.le_trans h.size k.size, fun j hj e => (k.block j (Nat.lt_of_lt_of_le hj h.size) e).trans (h.block j hj e)⟩
/-- k, k + 1, .. -/
def seqL (k : Int) (n : Nat) : List Int := (List.range n).map fun j : Nat => k + (j : Int)
theorem seqL_length (k : Int) (n : Nat) : (seqL k n).length = n := by simp [seqL]
theorem seqL_at (k : Int) (n j : Nat) (h : j < n) : (seqL k n)[j]?.getD 0 = k + (j : Int) := by simp [seqL, h]

/-- A row of which the first j are marked. -/
def markL (L : List Int) (k : Int) (j : Nat) : List Int := seqL k j ++ L.drop j
theorem markL_zero (L : List Int) (k : Int) : markL L k 0 = L := by simp [markL, seqL]
theorem markL_all (L : List Int) (k : Int) : markL L k L.length = seqL k L.length := by simp [markL]
theorem markL_length (L : List Int) (k : Int) (j : Nat) (h : j ≤ L.length) : (markL L k j).length = L.length := by simp [markL, seqL]; omega
theorem markL_set (L : List Int) (k : Int) (j : Nat) (h : j < L.length) : (markL L k j).set j (k + (j : Int)) = markL L k (j + 1) := by
  unfold markL
  have e : seqL k (j + 1) = seqL k j ++ [k + (j : Int)] := by simp [seqL, List.range_succ]
  rw [e, List.set_append_right _ _ (by rw [seqL_length]; omega), seqL_length, Nat.sub_self]
  rw [List.drop_eq_getElem_cons h, List.set_cons_zero, List.append_assoc]
  rfl

end Go.Proofs.Ytedhallhdhlhhaa
