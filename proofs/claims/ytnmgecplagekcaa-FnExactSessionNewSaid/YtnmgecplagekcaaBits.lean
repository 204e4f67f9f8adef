/-
  Plain facts on bits: the bits of the used slots, put together one by one; a mark that has such bits alone.
-/
import Derived.Test.YtnmgecplagekcaaSpanOk
namespace Go.Proofs.Ytnmgecplagekcaa
open Go.RowKit
set_option linter.unusedVariables false

/-- The bits of the used ones of the first k slots. -/
def usedM (l : List Int) : Nat → Nat
  | 0 => 0
  | k + 1 => usedM l k + if 0 < l[k]?.getD 0 then 2 ^ k else 0
theorem usedM_lt (l : List Int) (k : Nat) : usedM l k < 2 ^ k := by
  induction k with
  | zero => simp [usedM]
  | succ k ih => unfold usedM; rw [Nat.pow_succ]; split <;> omega
theorem usedM_bit (l : List Int) (k i : Nat) : (usedM l k).testBit i = (decide (i < k) && decide (0 < l[i]?.getD 0)) := by
  induction k with
  | zero => simp [usedM]
  | succ k ih =>
    have hlt := usedM_lt l k
    unfold usedM
    by_cases e : 0 < l[k]?.getD 0
    · rw [if_pos e, Nat.add_comm]
      by_cases h : i = k
      · subst h
        rw [Nat.testBit_two_pow_add_eq, Nat.testBit_lt_two_pow hlt]
        simp [e]
      · by_cases h2 : i < k
        · rw [Nat.testBit_two_pow_add_gt h2, ih]
          simp [h2, show i < k + 1 by omega]
        · have h3 : ((2 ^ k + usedM l k).testBit i) = false := by
            refine Nat.testBit_lt_two_pow (Nat.lt_of_lt_of_le (show 2 ^ k + usedM l k < 2 ^ (k + 1) by rw [Nat.pow_succ]; omega) (Nat.pow_le_pow_right (by omega) (by omega)))
          rw [h3]
          simp [show ¬ i < k + 1 by omega]
    · rw [if_neg e, Nat.add_zero, ih]
      by_cases h : i = k
      · subst h; simp [e]
      · by_cases h2 : i < k
        · simp [h2, show i < k + 1 by omega]
        · simp [h2, show ¬ i < k + 1 by omega]
theorem pow16 {k : Nat} (h : k ≤ 16) : 2 ^ k ≤ 65536 := Nat.pow_le_pow_right (n := 2) (by omega) h
theorem ofInt_nat (n : Nat) (h : n < 2 ^ 64) : (BitVec.ofInt 64 (n : Int)).toNat = n := by
  rw [BitVec.toNat_ofInt]
  omega
theorem or_used (l : List Int) (k : Nat) (hk : k ≤ 16) : bits .or .i64 (usedM l k : Int) ((2 : Int) ^ k) = ((usedM l k + 2 ^ k : Nat) : Int) := by
  have h1 := usedM_lt l k
  have h2 := pow16 hk
  have e : ((2 : Int) ^ k) = ((2 ^ k : Nat) : Int) := by simp
  rw [e]
  show IntKind.i64.wrap ((BitVec.ofInt 64 (usedM l k : Int) ||| BitVec.ofInt 64 ((2 ^ k : Nat) : Int)).toNat : Nat) = _
  rw [BitVec.toNat_or, ofInt_nat _ (by omega), ofInt_nat _ (by omega)]
  have e2 : usedM l k ||| 2 ^ k = usedM l k + 2 ^ k := by
    rw [Nat.or_comm, Nat.add_comm]
    have := Nat.two_pow_add_eq_or_of_lt h1 1
    simpa using this.symm
  rw [e2, IntKind.wrap_i64]
  omega

theorem bitI_test (m : Nat) (i : Nat) : bitI (m : Int) i ↔ m.testBit i = true := by
  unfold bitI
  rw [Nat.testBit_eq_decide_div_mod_eq]
  have : ((m : Int) / 2 ^ i % 2) = ((m / 2 ^ i % 2 : Nat) : Int) := by simp
  rw [this]
  simp
  omega

/-- It has bits of used slots alone. -/
def MarkFits (l : List Int) (m : Int) (k : Nat) : Prop := 0 ≤ m ∧ m < 2 ^ k ∧ ∀ i, i < k → bitI m i → 0 < l[i]?.getD 0
theorem andNot_used (l : List Int) (m : Int) (k : Nat) (hk : k ≤ 16) (h0 : -9223372036854775808 ≤ m) (h1 : m ≤ 9223372036854775807) :
    bits .andNot .i64 m (usedM l k : Int) = 0 ↔ MarkFits l m k := by
  have hu := usedM_lt l k
  have h2 := pow16 hk
  have key : bits .andNot .i64 m (usedM l k : Int) = 0 ↔ BitVec.ofInt 64 m &&& ~~~ BitVec.ofInt 64 (usedM l k : Int) = 0#64 := by
    show IntKind.i64.wrap ((BitVec.ofInt 64 m &&& ~~~ BitVec.ofInt 64 (usedM l k : Int)).toNat : Nat) = 0 ↔ _
    generalize BitVec.ofInt 64 m &&& ~~~ BitVec.ofInt 64 (usedM l k : Int) = X
    rw [IntKind.wrap_i64]
    have hX := X.isLt
    constructor
    · intro h
      apply BitVec.eq_of_toNat_eq
      simp
      omega
    · intro h
      subst h
      simp
  have bitsU : ∀ i, (BitVec.ofInt 64 (usedM l k : Int)).getLsbD i = (decide (i < k) && decide (0 < l[i]?.getD 0)) := by
    intro i
    rw [← BitVec.testBit_toNat, ofInt_nat _ (by omega), usedM_bit]
  have key2 : BitVec.ofInt 64 m &&& ~~~ BitVec.ofInt 64 (usedM l k : Int) = 0#64 ↔ ∀ i, i < 64 → (BitVec.ofInt 64 m).getLsbD i = true → i < k ∧ 0 < l[i]?.getD 0 := by
    constructor
    · intro h i hi hm
      have := congrArg (fun X => X.getLsbD i) h
      simp only [BitVec.getLsbD_and, BitVec.getLsbD_not, bitsU, hm, hi, BitVec.getLsbD_zero, decide_true, Bool.true_and] at this
      simpa using this
    · intro h
      apply BitVec.eq_of_getLsbD_eq
      intro i hi
      simp only [BitVec.getLsbD_and, BitVec.getLsbD_not, bitsU, hi, BitVec.getLsbD_zero, decide_true, Bool.true_and]
      by_cases hm : (BitVec.ofInt 64 m).getLsbD i = true
      · have := h i hi hm
        simp [this]
      · simp [hm]
  rw [key, key2]
  by_cases hm : 0 ≤ m
  · obtain ⟨n, rfl⟩ := Int.eq_ofNat_of_zero_le hm
    have hb : ∀ i, (BitVec.ofInt 64 (n : Int)).getLsbD i = n.testBit i := fun i => by rw [← BitVec.testBit_toNat, ofInt_nat _ (by omega)]
    constructor
    · intro h
      have hlt : n < 2 ^ k := by
        apply Nat.lt_pow_two_of_testBit
        intro i hi
        by_cases hi6 : i < 64
        · cases ht : n.testBit i
          · rfl
          · have := h i hi6 (by rw [hb]; exact ht)
            omega
        · exact Nat.testBit_lt_two_pow (Nat.lt_of_lt_of_le (show n < 2 ^ 64 by omega) (Nat.pow_le_pow_right (by omega) (by omega)))
      refine ⟨by omega, by rw [show ((2 : Int) ^ k) = ((2 ^ k : Nat) : Int) by simp]; omega, fun i hi hbit => ?_⟩
      exact (h i (by omega) (by rw [hb]; exact (bitI_test n i).1 hbit)).2
    · rintro ⟨_, hlt, h⟩ i hi ht
      rw [hb] at ht
      have hik : i < k := by
        apply Decidable.byContradiction
        intro hn
        have hlt' : n < 2 ^ k := by rw [show ((2 : Int) ^ k) = ((2 ^ k : Nat) : Int) by simp] at hlt; omega
        have : n.testBit i = false := Nat.testBit_lt_two_pow (Nat.lt_of_lt_of_le hlt' (Nat.pow_le_pow_right (by omega) (by omega)))
        rw [this] at ht
        cases ht
      exact ⟨hik, h i hik ((bitI_test n i).2 ht)⟩
  · constructor
    · intro h
      have := h 63 (by omega) (by
        rw [← BitVec.testBit_toNat, BitVec.toNat_ofInt, Nat.testBit_eq_decide_div_mod_eq]
        simp
        omega)
      omega
    · intro h
      exact absurd h.1 hm
end Go.Proofs.Ytnmgecplagekcaa
