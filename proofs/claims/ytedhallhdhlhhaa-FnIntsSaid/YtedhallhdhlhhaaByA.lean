/-
  Plain: numbers as bytes. What PutInt gives, what GetInt finds; no model in this text.
-/
import Derived.Lib.Zigzag
import Derived.Lib.VarintDec
import Derived.Laws.BitsAllLaws
namespace Go.Proofs.Ytedhallhdhlhhaa
open Go.Lib
set_option linter.unusedVariables false

/-- The bytes of a number. -/
def pi (n : Int) : List UInt8 := uvarint (zigzag n)
/-- What bytes spell, seven bits each. -/
def val : List UInt8 → Nat
  | [] => 0
  | b :: r => b.toNat % 128 + 128 * val r
/-- How many bytes stand ahead of the first one below 128. -/
def lead (l : List UInt8) : Nat := (l.takeWhile fun b => decide (128 ≤ b.toNat)).length
/-- Does l begin with the bytes of a number? Which one, and how many bytes. -/
def getN (l : List UInt8) : Option (Int × Nat) :=
  if lead l < l.length ∧ pi (unzigzag (val (l.take (lead l + 1)) % 2 ^ 64)) = l.take (lead l + 1) then some (unzigzag (val (l.take (lead l + 1)) % 2 ^ 64), lead l + 1) else none

theorem lead_le (l : List UInt8) : lead l ≤ l.length := (List.takeWhile_sublist _).length_le
theorem lead_cons (b : UInt8) (r : List UInt8) : lead (b :: r) = if 128 ≤ b.toNat then lead r + 1 else 0 := by
  unfold lead
  rw [List.takeWhile_cons]
  by_cases h : 128 ≤ b.toNat
  · simp [h]
  · simp [h]
theorem lead_big : ∀ (l : List UInt8) (i : Nat) (h : i < l.length), i < lead l → 128 ≤ (l[i]).toNat
  | b :: r, 0, _, h => by
    rw [lead_cons] at h
    by_cases hb : 128 ≤ b.toNat
    · exact hb
    · rw [if_neg hb] at h; omega
  | b :: r, i + 1, hl, h => by
    rw [lead_cons] at h
    by_cases hb : 128 ≤ b.toNat
    · rw [if_pos hb] at h
      exact lead_big r i (by simpa using hl) (by omega)
    · rw [if_neg hb] at h; omega
theorem lead_low : ∀ (l : List UInt8) (h : lead l < l.length), (l[lead l]).toNat < 128
  | b :: r, h => by
    by_cases hb : 128 ≤ b.toNat
    · have e : lead (b :: r) = lead r + 1 := by rw [lead_cons, if_pos hb]
      have h' : lead r < r.length := by rw [e] at h; simpa using h
      have := lead_low r h'
      simp only [e, List.getElem_cons_succ]
      exact this
    · have e : lead (b :: r) = 0 := by rw [lead_cons, if_neg hb]
      simp only [e, List.getElem_cons_zero]
      omega
theorem lead_of : ∀ (l : List UInt8) (k : Nat), (∀ i (h : i < l.length), i < k → 128 ≤ (l[i]).toNat) → k ≤ l.length → (∀ h : k < l.length, (l[k]).toNat < 128) → lead l = k
  | [], k, _, hk, _ => by simp at hk; subst hk; rfl
  | b :: r, 0, _, _, h => by
    have := h (by simp)
    simp only [List.getElem_cons_zero] at this
    rw [lead_cons, if_neg (by omega)]
  | b :: r, k + 1, ha, hk, h => by
    have h0 := ha 0 (by simp) (by omega)
    simp only [List.getElem_cons_zero] at h0
    rw [lead_cons, if_pos h0, lead_of r k (fun i hi hik => ?_) (by simpa using hk) (fun hkr => ?_)]
    · have := ha (i + 1) (by simpa using hi) (by omega)
      simpa using this
    · have := h (by simpa using hkr)
      simpa using this

theorem val_append : ∀ (a b : List UInt8), val (a ++ b) = val a + 128 ^ a.length * val b
  | [], b => by simp [val]
  | x :: a, b => by
    simp only [List.cons_append, val, val_append a b, List.length_cons, Nat.pow_succ]
    rw [Nat.mul_add, ← Nat.mul_assoc, Nat.mul_comm 128 (128 ^ a.length)]
    omega
theorem val_lt : ∀ (a : List UInt8), val a < 128 ^ a.length
  | [] => by simp [val]
  | x :: a => by
    have := val_lt a
    simp only [val, List.length_cons, Nat.pow_succ]
    omega
theorem val_snoc (l : List UInt8) (i : Nat) (h : i < l.length) : val (l.take (i + 1)) = val (l.take i) + l[i].toNat % 128 * 128 ^ i := by
  rw [List.take_succ_eq_append_getElem h, val_append, List.length_take, Nat.min_eq_left (by omega)]
  simp only [val, Nat.mul_zero, Nat.add_zero]
  rw [Nat.mul_comm (128 ^ i)]

theorem uvarint_val (x : Nat) : val (uvarint x) = x := by
  induction x using Nat.strongRecOn with
  | _ x ih =>
    by_cases h : x < 128
    · rw [uvarint_small h]
      simp [val, Nat.toUInt8, Nat.mod_eq_of_lt (show x < 256 by omega), Nat.mod_eq_of_lt h]
    · rw [uvarint_big (by omega)]
      simp only [val]
      rw [ih (x / 128) (by omega)]
      have : ((x % 128 + 128).toUInt8).toNat = x % 128 + 128 := by simp [Nat.toUInt8]; omega
      omega
theorem unzigzag_zigzag (n : Int) : unzigzag (zigzag n) = n := by
  unfold unzigzag zigzag
  split <;> split <;> omega
theorem zigzag_unzigzag (u : Nat) : zigzag (unzigzag u) = u := by
  unfold unzigzag zigzag
  split <;> split <;> omega
theorem unzigzag_in {u : Nat} (h : u < 2 ^ 64) : -9223372036854775808 ≤ unzigzag u ∧ unzigzag u ≤ 9223372036854775807 := by
  unfold unzigzag
  split <;> omega
/-- Every byte but the last is at least 128, the last one is below. -/
theorem uvarint_lead (x : Nat) (r : List UInt8) : lead (uvarint x ++ r) = (uvarint x).length - 1 := by
  induction x using Nat.strongRecOn with
  | _ x ih =>
    by_cases h : x < 128
    · rw [uvarint_small h]
      have : (x.toUInt8).toNat = x := by simp [Nat.toUInt8]; omega
      simp only [List.cons_append, List.nil_append, lead_cons, List.length_cons, List.length_nil]
      rw [if_neg (by omega)]
    · rw [uvarint_big (by omega)]
      have h2 : ((x % 128 + 128).toUInt8).toNat = x % 128 + 128 := by simp [Nat.toUInt8]; omega
      simp only [List.cons_append, lead_cons, List.length_cons]
      rw [if_pos (by omega), ih (x / 128) (by omega)]
      have := uvarint_pos (x / 128)
      omega
theorem pi_len {n : Int} (h0 : -9223372036854775808 ≤ n) (h1 : n ≤ 9223372036854775807) : 1 ≤ (pi n).length ∧ (pi n).length ≤ 10 :=
  ⟨uvarint_pos _, uvarint_length64 (zigzag_lt h0 h1)⟩
/-- A number comes back from its bytes, whatever stands behind. -/
theorem getN_pi {n : Int} (h0 : -9223372036854775808 ≤ n) (h1 : n ≤ 9223372036854775807) (r : List UInt8) : getN (pi n ++ r) = some (n, (pi n).length) := by
  have hl : lead (pi n ++ r) + 1 = (pi n).length := by
    have := uvarint_lead (zigzag n) r
    have := uvarint_pos (zigzag n)
    unfold pi
    omega
  have hz := zigzag_lt h0 h1
  unfold getN
  have ht : (pi n ++ r).take (pi n).length = pi n := List.take_left' rfl
  have hv : unzigzag (val (pi n) % 2 ^ 64) = n := by
    unfold pi
    rw [uvarint_val, Nat.mod_eq_of_lt (by omega), unzigzag_zigzag]
  rw [hl, ht, hv, if_pos ⟨by rw [List.length_append]; omega, rfl⟩]
theorem getN_some {l : List UInt8} {n : Int} {k : Nat} (h : getN l = some (n, k)) : k = lead l + 1 ∧ lead l < l.length ∧ pi n = l.take k ∧ -9223372036854775808 ≤ n ∧ n ≤ 9223372036854775807 := by
  unfold getN at h
  split at h
  · rename_i hc
    simp only [Option.some.injEq, Prod.mk.injEq] at h
    obtain ⟨rfl, rfl⟩ := h
    have := unzigzag_in (u := val (l.take (lead l + 1)) % 2 ^ 64) (Nat.mod_lt _ (by decide))
    exact ⟨rfl, hc.1, hc.2, this.1, this.2⟩
  · cases h
/-- Cut off within a number: nothing but bytes of at least 128. -/
theorem cut_lead (x : Nat) (k : Nat) (h : k < (uvarint x).length) : lead ((uvarint x).take k) = ((uvarint x).take k).length := by
  have hl : ((uvarint x).take k).length = k := by rw [List.length_take]; omega
  have h2 := uvarint_lead x []
  rw [List.append_nil] at h2
  refine lead_of _ _ (fun i hi hik => ?_) (Nat.le_refl _) (fun hh => by omega)
  rw [List.getElem_take]
  exact lead_big (uvarint x) i (by omega) (by omega)

/-- The byte number i of a number's bytes. -/
theorem uvarint_at (x : Nat) : ∀ (i : Nat) (h : i < (uvarint x).length), ((uvarint x)[i]).toNat = if i + 1 = (uvarint x).length then x / 128 ^ i else x / 128 ^ i % 128 + 128 := by
  induction x using Nat.strongRecOn with
  | _ x ih =>
    intro i h
    by_cases hx : x < 128
    · have e := uvarint_small hx
      have hi : i = 0 := by rw [e] at h; simpa using h
      subst hi
      simp only [e, List.getElem_cons_zero, List.length_cons, List.length_nil, if_pos, Nat.pow_zero, Nat.div_one]
      simp [Nat.toUInt8]; omega
    · have e := uvarint_big (show 128 ≤ x by omega)
      have hp := uvarint_pos (x / 128)
      cases i with
      | zero =>
        simp only [e, List.getElem_cons_zero, List.length_cons, Nat.pow_zero, Nat.div_one]
        rw [if_neg (by omega)]
        simp [Nat.toUInt8]; omega
      | succ i =>
        have h' : i < (uvarint (x / 128)).length := by rw [e] at h; simpa using h
        have hh := ih (x / 128) (by omega) i h'
        simp only [e, List.getElem_cons_succ, List.length_cons, Nat.add_right_cancel_iff]
        rw [hh, Nat.div_div_eq_div_mul, Nat.pow_succ, Nat.mul_comm (128 ^ i) 128]
theorem uvarint_len_iff : ∀ (k x : Nat), (uvarint x).length ≤ k + 1 ↔ x < 128 ^ (k + 1)
  | 0, x => by
    constructor
    · intro h
      by_cases hx : x < 128
      · simpa using hx
      · rw [uvarint_big (by omega), List.length_cons] at h
        have := uvarint_pos (x / 128)
        omega
    · exact uvarint_length 0 x
  | k + 1, x => by
    constructor
    · intro h
      by_cases hx : x < 128
      · have : 128 ^ 1 ≤ 128 ^ (k + 1 + 1) := Nat.pow_le_pow_right (by decide) (by omega)
        omega
      · rw [uvarint_big (by omega), List.length_cons] at h
        have := (uvarint_len_iff k (x / 128)).1 (by omega)
        rw [Nat.pow_succ]
        omega
    · exact uvarint_length (k + 1) x
/-- How many bytes: by the number's bits. -/
theorem uvarint_len_of {x k : Nat} (hk : 1 ≤ k) (h1 : x < 128 ^ k) (h2 : k = 1 ∨ 128 ^ (k - 1) ≤ x) : (uvarint x).length = k := by
  obtain ⟨j, rfl⟩ : ∃ j, k = j + 1 := ⟨k - 1, by omega⟩
  have a := (uvarint_len_iff j x).2 h1
  have b := uvarint_pos x
  rcases h2 with h | h
  · omega
  · cases j with
    | zero => omega
    | succ i =>
      by_cases hc : (uvarint x).length ≤ i + 1
      · have := (uvarint_len_iff i x).1 hc
        simp at h
        omega
      · omega

/-- One more byte taken in by 'or', on 64 bits. -/
theorem or_step (l : List UInt8) (i : Nat) (h : i < l.length) :
    bits .or .u64 ((val (l.take i) % 2 ^ 64 : Nat) : Int) ((l[i].toNat % 128 * 128 ^ i % 2 ^ 64 : Nat) : Int) = ((val (l.take (i + 1)) % 2 ^ 64 : Nat) : Int) := by
  have hv := val_snoc l i h
  have hl := val_lt (l.take i)
  rw [List.length_take, Nat.min_eq_left (by omega)] at hl
  have hp : (128 : Nat) ^ i = 2 ^ (7 * i) := by rw [Nat.pow_mul]
  by_cases hi : i ≤ 9
  · have hd : 2 ^ 64 = 2 ^ (7 * i) * 2 ^ (64 - 7 * i) := by rw [← Nat.pow_add]; congr 1; omega
    have hle : 2 ^ (7 * i) ≤ 2 ^ 63 := Nat.pow_le_pow_right (by decide) (by omega)
    have hx : l[i].toNat % 128 * 128 ^ i % 2 ^ 64 = 2 ^ (7 * i) * (l[i].toNat % 128 % 2 ^ (64 - 7 * i)) := by
      rw [hp, hd, Nat.mul_comm, Nat.mul_mod_mul_left]
    have hv2 : val (l.take (i + 1)) % 2 ^ 64 = val (l.take i) + l[i].toNat % 128 * 128 ^ i % 2 ^ 64 := by
      rw [hv, Nat.add_mod, Nat.mod_eq_of_lt (show val (l.take i) < 2 ^ 64 by omega)]
      apply Nat.mod_eq_of_lt
      rw [hx]
      have h3 : l[i].toNat % 128 % 2 ^ (64 - 7 * i) < 2 ^ (64 - 7 * i) := Nat.mod_lt _ (Nat.pow_pos (by decide))
      have h4 : 2 ^ (7 * i) * (l[i].toNat % 128 % 2 ^ (64 - 7 * i) + 1) ≤ 2 ^ (7 * i) * 2 ^ (64 - 7 * i) := Nat.mul_le_mul_left _ h3
      rw [← hd, Nat.mul_add] at h4
      omega
    rw [Nat.mod_eq_of_lt (show val (l.take i) < 2 ^ 64 by omega), hv2]
    have hxl : l[i].toNat % 128 * 128 ^ i % 2 ^ 64 < 2 ^ 64 := Nat.mod_lt _ (by decide)
    generalize hX : l[i].toNat % 128 * 128 ^ i % 2 ^ 64 = X at *
    rw [u64_or_nat _ _ (by omega) (by omega), hx, Nat.or_comm, ← Nat.two_pow_add_eq_or_of_lt (by omega)]
    omega
  · have hz : l[i].toNat % 128 * 128 ^ i % 2 ^ 64 = 0 := by
      rw [hp, show 7 * i = (7 * i - 64) + 64 by omega, Nat.pow_add, ← Nat.mul_assoc]
      exact Nat.mul_mod_left _ _
    have hv2 : val (l.take (i + 1)) % 2 ^ 64 = val (l.take i) % 2 ^ 64 := by
      rw [hv, Nat.add_mod, hz, Nat.add_zero, Nat.mod_mod]
    rw [hz, hv2, u64_or_nat _ _ (Nat.mod_lt _ (by decide)) (by decide), Nat.or_zero]

end Go.Proofs.Ytedhallhdhlhhaa
