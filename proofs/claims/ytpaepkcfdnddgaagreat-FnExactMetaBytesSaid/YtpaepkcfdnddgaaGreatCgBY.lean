import Derived.Lib.Zigzag
import Derived.Lib.VarintDec
import Derived.Laws.BitsAllLaws
import Derived.Test.YtpaepkcfdnddgaaGreatCgW
import Derived.Test.YtpaepkcfdnddgaaGreatShelf
import Derived.Laws.IdiomStrings
import Derived.Laws.BytesArg
import Derived.Deep.OwnRows
import Derived.OneCell
import Derived.Test.YtpaepkcfdnddgaaGreatCgA
import Derived.IntWalk

namespace Go.Proofs.YtpaepkcfdnddgaaGreat
open Go.Lib
set_option linter.unusedVariables false

/-- The bytes of a number. -/
def pi (n : Int) : List UInt8 := uvarint (zigzag n)
/-- What bytes spell, seven bits each. -/
def val : List UInt8 → Nat
  | [] => 0
  | b :: r => b.toNat % 128 + 128 * val r
/-- How many bytes stand ahead of the first one below 128. -/
def lead (l : List UInt8) : Nat := (l.takeWhile fun b => decide (128 ≤ b.toNat)).length
/-- Does l begin with the bytes of a number? Which one, and how many bytes. -/
def getN (l : List UInt8) : Option (Int × Nat) :=
  if lead l < l.length ∧ pi (unzigzag (val (l.take (lead l + 1)) % 2 ^ 64)) = l.take (lead l + 1) then some (unzigzag (val (l.take (lead l + 1)) % 2 ^ 64), lead l + 1) else none

theorem lead_le (l : List UInt8) : lead l ≤ l.length := (List.takeWhile_sublist _).length_le
theorem lead_cons (b : UInt8) (r : List UInt8) : lead (b :: r) = if 128 ≤ b.toNat then lead r + 1 else 0 := by
  unfold lead
  rw [List.takeWhile_cons]
  by_cases h : 128 ≤ b.toNat
  · simp [h]
  · simp [h]
theorem lead_big : ∀ (l : List UInt8) (i : Nat) (h : i < l.length), i < lead l → 128 ≤ (l[i]).toNat
  | b :: r, 0, _, h => by
    rw [lead_cons] at h
    by_cases hb : 128 ≤ b.toNat
    · exact hb
    · rw [if_neg hb] at h; omega
  | b :: r, i + 1, hl, h => by
    rw [lead_cons] at h
    by_cases hb : 128 ≤ b.toNat
    · rw [if_pos hb] at h
      exact lead_big r i (by simpa using hl) (by omega)
    · rw [if_neg hb] at h; omega
theorem lead_low : ∀ (l : List UInt8) (h : lead l < l.length), (l[lead l]).toNat < 128
  | b :: r, h => by
    by_cases hb : 128 ≤ b.toNat
    · have e : lead (b :: r) = lead r + 1 := by rw [lead_cons, if_pos hb]
      have h' : lead r < r.length := by rw [e] at h; simpa using h
      have := lead_low r h'
      simp only [e, List.getElem_cons_succ]
      exact this
    · have e : lead (b :: r) = 0 := by rw [lead_cons, if_neg hb]
      simp only [e, List.getElem_cons_zero]
      omega
theorem lead_of : ∀ (l : List UInt8) (k : Nat), (∀ i (h : i < l.length), i < k → 128 ≤ (l[i]).toNat) → k ≤ l.length → (∀ h : k < l.length, (l[k]).toNat < 128) → lead l = k
  | [], k, _, hk, _ => by simp at hk; subst hk; rfl
  | b :: r, 0, _, _, h => by
    have := h (by simp)
    simp only [List.getElem_cons_zero] at this
    rw [lead_cons, if_neg (by omega)]
  | b :: r, k + 1, ha, hk, h => by
    have h0 := ha 0 (by simp) (by omega)
    simp only [List.getElem_cons_zero] at h0
    rw [lead_cons, if_pos h0, lead_of r k (fun i hi hik => ?_) (by simpa using hk) (fun hkr => ?_)]
    · have := ha (i + 1) (by simpa using hi) (by omega)
      simpa using this
    · have := h (by simpa using hkr)
      simpa using this

theorem val_append : ∀ (a b : List UInt8), val (a ++ b) = val a + 128 ^ a.length * val b
  | [], b => by simp [val]
  | x :: a, b => by
    simp only [List.cons_append, val, val_append a b, List.length_cons, Nat.pow_succ]
    rw [Nat.mul_add, ← Nat.mul_assoc, Nat.mul_comm 128 (128 ^ a.length)]
    omega
theorem val_lt : ∀ (a : List UInt8), val a < 128 ^ a.length
  | [] => by simp [val]
  | x :: a => by
    have := val_lt a
    simp only [val, List.length_cons, Nat.pow_succ]
    omega
theorem val_snoc (l : List UInt8) (i : Nat) (h : i < l.length) : val (l.take (i + 1)) = val (l.take i) + l[i].toNat % 128 * 128 ^ i := by
  rw [List.take_succ_eq_append_getElem h, val_append, List.length_take, Nat.min_eq_left (by omega)]
  simp only [val, Nat.mul_zero, Nat.add_zero]
  rw [Nat.mul_comm (128 ^ i)]

theorem uvarint_val (x : Nat) : val (uvarint x) = x := by
  induction x using Nat.strongRecOn with
  | _ x ih =>
    by_cases h : x < 128
    · rw [uvarint_small h]
      simp [val, Nat.toUInt8, Nat.mod_eq_of_lt (show x < 256 by omega), Nat.mod_eq_of_lt h]
    · rw [uvarint_big (by omega)]
      simp only [val]
      rw [ih (x / 128) (by omega)]
      have : ((x % 128 + 128).toUInt8).toNat = x % 128 + 128 := by simp [Nat.toUInt8]; omega
      omega
theorem unzigzag_zigzag (n : Int) : unzigzag (zigzag n) = n := by
  unfold unzigzag zigzag
  split <;> split <;> omega
theorem zigzag_unzigzag (u : Nat) : zigzag (unzigzag u) = u := by
  unfold unzigzag zigzag
  split <;> split <;> omega
theorem unzigzag_in {u : Nat} (h : u < 2 ^ 64) : -9223372036854775808 ≤ unzigzag u ∧ unzigzag u ≤ 9223372036854775807 := by
  unfold unzigzag
  split <;> omega
/-- Every byte but the last is at least 128, the last one is below. -/
theorem uvarint_lead (x : Nat) (r : List UInt8) : lead (uvarint x ++ r) = (uvarint x).length - 1 := by
  induction x using Nat.strongRecOn with
  | _ x ih =>
    by_cases h : x < 128
    · rw [uvarint_small h]
      have : (x.toUInt8).toNat = x := by simp [Nat.toUInt8]; omega
      simp only [List.cons_append, List.nil_append, lead_cons, List.length_cons, List.length_nil]
      rw [if_neg (by omega)]
    · rw [uvarint_big (by omega)]
      have h2 : ((x % 128 + 128).toUInt8).toNat = x % 128 + 128 := by simp [Nat.toUInt8]; omega
      simp only [List.cons_append, lead_cons, List.length_cons]
      rw [if_pos (by omega), ih (x / 128) (by omega)]
      have := uvarint_pos (x / 128)
      omega
theorem pi_len {n : Int} (h0 : -9223372036854775808 ≤ n) (h1 : n ≤ 9223372036854775807) : 1 ≤ (pi n).length ∧ (pi n).length ≤ 10 :=
  ⟨uvarint_pos _, uvarint_length64 (zigzag_lt h0 h1)⟩
/-- A number comes back from its bytes, whatever stands behind. -/
theorem getN_pi {n : Int} (h0 : -9223372036854775808 ≤ n) (h1 : n ≤ 9223372036854775807) (r : List UInt8) : getN (pi n ++ r) = some (n, (pi n).length) := by
  have hl : lead (pi n ++ r) + 1 = (pi n).length := by
    have := uvarint_lead (zigzag n) r
    have := uvarint_pos (zigzag n)
    unfold pi
    omega
  have hz := zigzag_lt h0 h1
  unfold getN
  have ht : (pi n ++ r).take (pi n).length = pi n := List.take_left' rfl
  have hv : unzigzag (val (pi n) % 2 ^ 64) = n := by
    unfold pi
    rw [uvarint_val, Nat.mod_eq_of_lt (by omega), unzigzag_zigzag]
  rw [hl, ht, hv, if_pos ⟨by rw [List.length_append]; omega, rfl⟩]
theorem getN_some {l : List UInt8} {n : Int} {k : Nat} (h : getN l = some (n, k)) : k = lead l + 1 ∧ lead l < l.length ∧ pi n = l.take k ∧ -9223372036854775808 ≤ n ∧ n ≤ 9223372036854775807 := by
  unfold getN at h
  split at h
  · rename_i hc
    simp only [Option.some.injEq, Prod.mk.injEq] at h
    obtain ⟨rfl, rfl⟩ := h
    have := unzigzag_in (u := val (l.take (lead l + 1)) % 2 ^ 64) (Nat.mod_lt _ (by decide))
    exact ⟨rfl, hc.1, hc.2, this.1, this.2⟩
  · cases h
/-- Cut off within a number: nothing but bytes of at least 128. -/
theorem cut_lead (x : Nat) (k : Nat) (h : k < (uvarint x).length) : lead ((uvarint x).take k) = ((uvarint x).take k).length := by
  have hl : ((uvarint x).take k).length = k := by rw [List.length_take]; omega
  have h2 := uvarint_lead x []
  rw [List.append_nil] at h2
  refine lead_of _ _ (fun i hi hik => ?_) (Nat.le_refl _) (fun hh => by omega)
  rw [List.getElem_take]
  exact lead_big (uvarint x) i (by omega) (by omega)

/-- The byte number i of a number's bytes. -/
theorem uvarint_at (x : Nat) : ∀ (i : Nat) (h : i < (uvarint x).length), ((uvarint x)[i]).toNat = if i + 1 = (uvarint x).length then x / 128 ^ i else x / 128 ^ i % 128 + 128 := by
  induction x using Nat.strongRecOn with
  | _ x ih =>
    intro i h
    by_cases hx : x < 128
    · have e := uvarint_small hx
      have hi : i = 0 := by rw [e] at h; simpa using h
      subst hi
      simp only [e, List.getElem_cons_zero, List.length_cons, List.length_nil, if_pos, Nat.pow_zero, Nat.div_one]
      simp [Nat.toUInt8]; omega
    · have e := uvarint_big (show 128 ≤ x by omega)
      have hp := uvarint_pos (x / 128)
      cases i with
      | zero =>
        simp only [e, List.getElem_cons_zero, List.length_cons, Nat.pow_zero, Nat.div_one]
        rw [if_neg (by omega)]
        simp [Nat.toUInt8]; omega
      | succ i =>
        have h' : i < (uvarint (x / 128)).length := by rw [e] at h; simpa using h
        have hh := ih (x / 128) (by omega) i h'
        simp only [e, List.getElem_cons_succ, List.length_cons, Nat.add_right_cancel_iff]
        rw [hh, Nat.div_div_eq_div_mul, Nat.pow_succ, Nat.mul_comm (128 ^ i) 128]
theorem uvarint_len_iff : ∀ (k x : Nat), (uvarint x).length ≤ k + 1 ↔ x < 128 ^ (k + 1)
  | 0, x => by
    constructor
    · intro h
      by_cases hx : x < 128
      · simpa using hx
      · rw [uvarint_big (by omega), List.length_cons] at h
        have := uvarint_pos (x / 128)
        omega
    · exact uvarint_length 0 x
  | k + 1, x => by
    constructor
    · intro h
      by_cases hx : x < 128
      · have : 128 ^ 1 ≤ 128 ^ (k + 1 + 1) := Nat.pow_le_pow_right (by decide) (by omega)
        omega
      · rw [uvarint_big (by omega), List.length_cons] at h
        have := (uvarint_len_iff k (x / 128)).1 (by omega)
        rw [Nat.pow_succ]
        omega
    · exact uvarint_length (k + 1) x
/-- How many bytes: by the number's bits. -/
theorem uvarint_len_of {x k : Nat} (hk : 1 ≤ k) (h1 : x < 128 ^ k) (h2 : k = 1 ∨ 128 ^ (k - 1) ≤ x) : (uvarint x).length = k := by
  obtain ⟨j, rfl⟩ : ∃ j, k = j + 1 := ⟨k - 1, by omega⟩
  have a := (uvarint_len_iff j x).2 h1
  have b := uvarint_pos x
  rcases h2 with h | h
  · omega
  · cases j with
    | zero => omega
    | succ i =>
      by_cases hc : (uvarint x).length ≤ i + 1
      · have := (uvarint_len_iff i x).1 hc
        simp at h
        omega
      · omega

/-- One more byte taken in by 'or', on 64 bits. -/
theorem or_step (l : List UInt8) (i : Nat) (h : i < l.length) :
    bits .or .u64 ((val (l.take i) % 2 ^ 64 : Nat) : Int) ((l[i].toNat % 128 * 128 ^ i % 2 ^ 64 : Nat) : Int) = ((val (l.take (i + 1)) % 2 ^ 64 : Nat) : Int) := by
  have hv := val_snoc l i h
  have hl := val_lt (l.take i)
  rw [List.length_take, Nat.min_eq_left (by omega)] at hl
  have hp : (128 : Nat) ^ i = 2 ^ (7 * i) := by rw [Nat.pow_mul]
  by_cases hi : i ≤ 9
  · have hd : 2 ^ 64 = 2 ^ (7 * i) * 2 ^ (64 - 7 * i) := by rw [← Nat.pow_add]; congr 1; omega
    have hle : 2 ^ (7 * i) ≤ 2 ^ 63 := Nat.pow_le_pow_right (by decide) (by omega)
    have hx : l[i].toNat % 128 * 128 ^ i % 2 ^ 64 = 2 ^ (7 * i) * (l[i].toNat % 128 % 2 ^ (64 - 7 * i)) := by
      rw [hp, hd, Nat.mul_comm, Nat.mul_mod_mul_left]
    have hv2 : val (l.take (i + 1)) % 2 ^ 64 = val (l.take i) + l[i].toNat % 128 * 128 ^ i % 2 ^ 64 := by
      rw [hv, Nat.add_mod, Nat.mod_eq_of_lt (show val (l.take i) < 2 ^ 64 by omega)]
      apply Nat.mod_eq_of_lt
      rw [hx]
      have h3 : l[i].toNat % 128 % 2 ^ (64 - 7 * i) < 2 ^ (64 - 7 * i) := Nat.mod_lt _ (Nat.pow_pos (by decide))
      have h4 : 2 ^ (7 * i) * (l[i].toNat % 128 % 2 ^ (64 - 7 * i) + 1) ≤ 2 ^ (7 * i) * 2 ^ (64 - 7 * i) := Nat.mul_le_mul_left _ h3
      rw [← hd, Nat.mul_add] at h4
      omega
    rw [Nat.mod_eq_of_lt (show val (l.take i) < 2 ^ 64 by omega), hv2]
    have hxl : l[i].toNat % 128 * 128 ^ i % 2 ^ 64 < 2 ^ 64 := Nat.mod_lt _ (by decide)
    generalize hX : l[i].toNat % 128 * 128 ^ i % 2 ^ 64 = X at *
    rw [u64_or_nat _ _ (by omega) (by omega), hx, Nat.or_comm, ← Nat.two_pow_add_eq_or_of_lt (by omega)]
    omega
  · have hz : l[i].toNat % 128 * 128 ^ i % 2 ^ 64 = 0 := by
      rw [hp, show 7 * i = (7 * i - 64) + 64 by omega, Nat.pow_add, ← Nat.mul_assoc]
      exact Nat.mul_mod_left _ _
    have hv2 : val (l.take (i + 1)) % 2 ^ 64 = val (l.take i) % 2 ^ 64 := by
      rw [hv, Nat.add_mod, hz, Nat.add_zero, Nat.mod_mod]
    rw [hz, hv2, u64_or_nat _ _ (Nat.mod_lt _ (by decide)) (by decide), Nat.or_zero]

end Go.Proofs.YtpaepkcfdnddgaaGreat

namespace Go.Proofs.YtpaepkcfdnddgaaGreat
open Go.RowKit
set_option linter.unusedVariables false

theorem add_at (b o i : Nat) : (⟨b, o, none⟩ : Addr).add i = ⟨b, o + i, none⟩ := by unfold Addr.add; split <;> simp_all
def u8v (b : UInt8) : Value := .int .u8 (b.toNat : Int)
/-- A row's bytes as a text. -/
theorem str_of_row {w : World} {base g n cap : Nat} {l : List UInt8} (h : w.ownsRow base 5 1 (.slice (some ⟨g, 0, none⟩) n cap) n (l.map u8v)) :
    (convert 99 9 (.slice (some ⟨g, 0, none⟩) n cap)).run Tryz.prog w = .ok (.string ⟨l.toArray⟩) w := by
  have hn : n = l.length := by have := h.1; simpa using this.symm
  subst hn
  refine run_convert_bytes_back w 99 9 5 ⟨g, 0, none⟩ cap l Tryz.underlying99 Tryz.underlying5 Tryz.underlying9 (fun j hj => ?_)
  have := h.cellAt j (by omega)
  rw [add_at, Nat.zero_add, this]
  simp [hj, u8v]

theorem str_of_any {w : World} {base n : Nat} {v : Value} {l : List UInt8} (h : w.ownsRow base 5 1 v n (l.map u8v)) :
    (convert 99 9 v).run Tryz.prog w = .ok (.string ⟨l.toArray⟩) w := by
  rcases h.2 with ⟨rfl, rfl⟩ | ⟨g, cap, cur, rfl, _⟩
  · have hl : l = [] := by
      have := h.1
      simpa using this
    subst hl
    have := run_convert_bytes_nil (P := Tryz.prog) w 99 5 Tryz.underlying99 Tryz.underlying5 0 0 9 Tryz.underlying9
    exact this
  · exact str_of_row h

theorem infoByte : (Tryz.prog.info? 5).map (fun i => (i.zero, i.size, i.bytes)) = some (some (.int .u8 0), 1, 1) := by kernel_rfl
theorem byte_made {w : World} {g n base : Nat} {z : Value} {e : TypeId} (hg : w.heap[g]? = some (.cells (madeCells #[z] n) e (0, 0))) (hb : base ≤ g) (hn : n ≤ maxLen) : w.ownsRow base e 1 (.slice (some ⟨g, 0, none⟩) n n) n (List.replicate n z) :=
  ⟨by simp, .inr ⟨g, n, _, rfl, hb, hg, Nat.le_refl _, hn, by simp [size_madeCells], by rw [toList_madeCells_one]; simp⟩⟩
/-- A row that is filled from its begin on. -/
theorem fill_set (A : List Value) (z v : Value) (i m : Nat) (hm : A.length = m) (h : A[i]? = some v) : (A.take i ++ List.replicate (m - i) z).set i v = A.take (i + 1) ++ List.replicate (m - (i + 1)) z := by
  subst hm
  obtain ⟨hi, rfl⟩ := List.getElem?_eq_some_iff.1 h
  obtain ⟨k, hk⟩ : ∃ k, A.length - i = k + 1 := ⟨A.length - i - 1, by omega⟩
  have e2 : A.length - (i + 1) = k := by omega
  rw [hk, e2, List.set_append_right _ _ (by rw [List.length_take]; omega), List.length_take, Nat.min_eq_left (by omega), Nat.sub_self, List.replicate_succ, List.set_cons_zero, List.take_succ_eq_append_getElem hi, List.append_assoc]
  rfl

theorem u64_or1 (x : Nat) (hx : x < 9223372036854775808) : bits .or .u64 ((2 * x : Nat) : Int) 1 = ((2 * x + 1 : Nat) : Int) := by
  have h := u64_or_nat (2 * x) 1 (by omega) (by decide)
  have e : (2 * x) ||| 1 = 2 * x + 1 := by
    have := Nat.two_pow_add_eq_or_of_lt (i := 1) (b := 1) (by decide) x
    simpa using this.symm
  rw [e] at h
  exact h

set_option maxHeartbeats 400000 in
theorem unsigned_any (n : Int) (hn : I64 n) (w : World) : Calls Tryz.prog 147 #[.int .i64 n] w fun e w' => e = .returned (.int .u64 (Lib.zigzag n : Nat)) ∧ w = w' := by
  obtain ⟨h0, h1⟩ := hn
  by_cases h : n < 0
  · go_enter Tryz.func147, Tryz.ntmps147
    go_wp2
    go_ret
    refine ⟨ret_int ?_, rfl⟩
    have e := u64_or1 (-1 - n).toNat (by omega)
    rw [show ((2 * (-1 - n).toNat : Nat) : Int) = (-1 - n) * 2 by omega] at e
    rw [e]
    unfold Lib.zigzag
    rw [if_neg (by omega)]
    omega
  · go_enter Tryz.func147, Tryz.ntmps147
    go_wp2
    go_ret
    refine ⟨ret_int ?_, rfl⟩
    unfold Lib.zigzag
    rw [if_pos (by omega)]
    omega

theorem digits_len (u : Nat) : u < 2 ^ 64 → ((Lib.uvarint u).length : Int) = max 1 (((Lib.bitLen u : Nat) + 6 : Int) / 7) := by
  induction u using Nat.strongRecOn with
  | _ u ih =>
    intro h
    by_cases hu : u < 128
    · rw [Lib.uvarint_small hu]
      have := Lib.bitLen_le u 7 (by decide) (by omega)
      simp only [List.length_cons, List.length_nil]
      omega
    · have e := Lib.bitLen_shift 7 u (by omega) h
      have e2 := Lib.bitLen_half (u / 128) (by omega) (by omega)
      have := ih (u / 128) (by omega) (by omega)
      rw [Lib.uvarint_big (by omega), List.length_cons]
      have e3 : u / 2 ^ 7 = u / 128 := by rfl
      rw [e3] at e
      omega

set_option maxHeartbeats 400000 in
theorem digitsOf_any (u : Nat) (hu : u < 2 ^ 64) (w : World) : Calls Tryz.prog 148 #[.int .u64 (u : Int)] w fun e w' => e = .returned (.int .i64 ((Lib.uvarint u).length : Nat)) ∧ w = w' := by
  have hl := Lib.hid (digits_len u hu)
  have hb := Lib.bitLen_le u 64 (by decide) hu
  go_enter Tryz.func148, Tryz.ntmps148
  go_wp2_with (go_at_call 165; refine (Tryz.bits_Len64 _ _ (by omega) (by omega)).mono ?_; rintro e w' ⟨rfl, rfl⟩)
  go_ret
  refine ⟨ret_int ?_, rfl⟩
  rw [hl.out, show ((Lib.bitLen u : Nat) : Int) + 7 - 1 = (Lib.bitLen u : Nat) + 6 by omega]
theorem unsigned_at (n : Int) (hn : I64 n) (u : Nat) (hu : u = Lib.zigzag n) (w : World) : Calls Tryz.prog 147 #[.int .i64 n] w fun e w' => e = .returned (.int .u64 (u : Int)) ∧ w = w' := by
  rw [hu]; exact unsigned_any n hn w
theorem digitsOf_at (u m : Nat) (hu : u < 2 ^ 64) (hm : m = (Lib.uvarint u).length) (w : World) : Calls Tryz.prog 148 #[.int .u64 (u : Int)] w fun e w' => e = .returned (.int .i64 (m : Int)) ∧ w = w' := by
  rw [hm]; exact digitsOf_any u hu w

theorem row_keeps {B : Nat} {a w w' : World} {size : Nat} {e : TypeId} {v : Value} {n : Nat} {xs : List Value} (h : Below B a w) (hr : w.ownsRow B e size v n xs) (hg : w.grownBy w' v.ownBlock) (hB : B ≤ w.heap.size) : Below B a w' :=
  h.grown hg hB fun k hk => (hr.lt k hk).1
theorem shr7 (u i : Nat) : (u : Int) / 2 ^ (i * 7) = ((u / 128 ^ i : Nat) : Int) := by
  have e : (128 : Nat) ^ i = 2 ^ (i * 7) := by rw [Nat.mul_comm, Nat.pow_mul]
  rw [e]
  simp
theorem byte_or (u i : Nat) : bits .or .u8 ((u : Int) / 2 ^ (i * 7) % 256) 128 = ((u / 128 ^ i % 128 + 128 : Nat) : Int) := by
  rw [shr7, Lib.u8_or128_any _ (by omega) (by omega)]
  omega
theorem byte_off (x : Nat) (hx : x < 128) : bits .andNot .u8 ((x + 128 : Nat) : Int) 128 = (x : Int) := by
  have h := u8_andNot_nat (x + 128) 128 (by omega) (by decide)
  have e : ∀ x : Fin 128, (x.val + 128) &&& (255 - 128) = x.val := by decide
  rw [show ((128 : Nat) : Int) = 128 from rfl] at h
  rw [h]
  have h2 : (x + 128) &&& (255 - 128) = x := e ⟨x, hx⟩
  rw [h2]

theorem last_set (u j : Nat) (hl : (Lib.uvarint u).length = j + 1) (hj : u / 128 ^ j < 128) :
    ((List.range (Lib.uvarint u).length).map fun j => Value.int .u8 ((u / 128 ^ j % 128 + 128 : Nat) : Int)).set j (.int .u8 ((u / 128 ^ j : Nat) : Int)) = (Lib.uvarint u).map u8v := by
  apply List.ext_getElem?
  intro k
  rw [List.getElem?_set]
  by_cases hk : k < (Lib.uvarint u).length
  · have ha := uvarint_at u k hk
    by_cases hkj : j = k
    · subst hkj
      rw [if_pos hl.symm] at ha
      simp [hk, u8v, ha]
    · rw [if_neg (by omega)] at ha
      simp [hk, hkj, u8v, ha]
  · simp [hk]
    intro e
    omega

set_option maxHeartbeats 1000000 in
theorem putInt_any (n : Int) (hn : I64 n) (w : World) : Calls Tryz.prog 121 #[.int .i64 n] w fun e w' => e = .returned (.string ⟨(pi n).toArray⟩) ∧ Below w.heap.size w w' := by
  have hz : Lib.zigzag n < 2 ^ 64 := Lib.zigzag_lt hn.1 hn.2
  obtain ⟨u, hu⟩ : ∃ u, u = Lib.zigzag n := ⟨_, rfl⟩
  have hp : pi n = Lib.uvarint u := by rw [hu]; rfl
  rw [← hu] at hz
  rw [hp]
  have hl1 := Lib.uvarint_pos u
  have hl2 := Lib.uvarint_length64 (x := u) (by omega)
  obtain ⟨A, hA⟩ : ∃ A : List Value, A = (List.range (Lib.uvarint u).length).map fun j => .int .u8 ((u / 128 ^ j % 128 + 128 : Nat) : Int) := ⟨_, rfl⟩
  have hAl : A.length = (Lib.uvarint u).length := by rw [hA]; simp
  obtain ⟨m, hm⟩ : ∃ m, m = (Lib.uvarint u).length := ⟨_, rfl⟩
  have mk := run_make_row' (P := Tryz.prog) 99 5 (.int .u8 0) 1 Tryz.underlying99 infoByte rfl .i64 .i64 m (by omega) (by omega)
  rw [← hm] at hl1 hl2
  have HA := Lib.hid hA
  have HAl := Lib.hid hAl
  have Hm := Lib.hid hm
  have Hu := Lib.hid hu
  clear hA hAl hm hp hu
  go_enter Tryz.func121, Tryz.ntmps121
  go_wp2_with (first
    | (go_at_call 147; refine (unsigned_at _ hn u Hu.out _).mono ?_; rintro e w' ⟨rfl, rfl⟩)
    | (go_at_call 148; refine (digitsOf_at u m (by omega) Hm.out _).mono ?_; rintro e w' ⟨rfl, rfl⟩))
  have hown0 := Lib.hid (byte_made (w := w.alloc (.cells (madeCells #[.int .u8 0] m) 5)) (base := w.heap.size) (box_new _ _) (Nat.le_refl _) (by unfold maxLen; omega))
  have hB0 := Lib.hid (below_box w (.cells (madeCells #[.int .u8 0] m) 5))
  clear mk
  go_loopw [14] (fun c wr => ∃ i : Nat, i ≤ m ∧ c = .int .i64 i ∧ wr.ownsRow w.heap.size 5 1 (.slice (some ⟨w.heap.size, 0, none⟩) m m) m (A.take i ++ List.replicate (m - i) (.int .u8 0)) ∧ Below w.heap.size w wr) (fun c _ => m - (RowKit.intOf c).toNat)
  case atStart => exact ⟨0, Nat.zero_le _, rfl, by simpa using hown0.out, hB0.out⟩
  case round =>
    obtain ⟨i, hi, rfl, hown, hB⟩ := hrel
    have hBs := hB.size
    by_cases hlt : i < m
    · have hfz := hown.frozenAt i
      have hAi : A[i]? = some (.int .u8 (bits .or .u8 ((u : Int) / 2 ^ (i * 7) % 256) 128)) := by
        rw [HA.out, byte_or, List.getElem?_map, List.getElem?_range (by have := Hm.out; omega)]
        rfl
      have hst := hown.stored i (.int .u8 (bits .or .u8 ((u : Int) / 2 ^ (i * 7) % 256) 128))
      have hAl := HAl.out.trans Hm.out.symm
      have hfs := fill_set A (.int .u8 0) _ i m hAl hAi
      rw [hfs] at hst
      have hBn := Lib.hid (row_keeps hB hown (w' := wr.setCell ⟨w.heap.size, i, none⟩ (.int .u8 (bits .or .u8 ((u : Int) / 2 ^ (i * 7) % 256) 128))) hst.2 (by omega))
      have hst' := Lib.hid hst.1
      have hc : ∃ x, wr.cell? ⟨w.heap.size, i, none⟩ = some x := by
        rw [hown.cellAt i (by omega)]
        exact ⟨_, List.getElem?_eq_getElem (by rw [List.length_append, List.length_take, List.length_replicate]; omega)⟩
      obtain ⟨x, hc⟩ := hc
      clear hst hfs hAi hAl hown hB
      go_wp2
      go_roundw
      case rel => exact ⟨i + 1, by omega, by go_num, hst'.out, hBn.out⟩
      case measure => simp [RowKit.intOf]; omega
    · obtain rfl : i = m := by omega
      rw [Nat.sub_self, List.replicate_zero, List.append_nil, List.take_of_length_le (by rw [HAl.out, Hm.out]; omega)] at hown
      obtain ⟨j, rfl⟩ : ∃ j, i = j + 1 := ⟨i - 1, by omega⟩
      have hj : u / 128 ^ j < 128 := by
        have h1 := (uvarint_len_iff j u).1 (by have := Hm.out; omega)
        rw [Nat.pow_succ] at h1
        exact Nat.div_lt_of_lt_mul h1
      obtain ⟨X, hX⟩ : ∃ X : Nat, X = u / 128 ^ j % 128 + 128 := ⟨_, rfl⟩
      have hAj : A[j]? = some (.int .u8 (X : Int)) := by
        rw [HA.out, hX, List.getElem?_map, List.getElem?_range (by have := Hm.out; omega)]
        rfl
      have hc := hown.cellAt j (by omega)
      rw [hAj] at hc
      have hfz := hown.frozenAt j
      have hst := hown.stored j (.int .u8 (bits .andNot .u8 (X : Int) 128))
      have hfin : A.set j (.int .u8 (bits .andNot .u8 (X : Int) 128)) = (Lib.uvarint u).map u8v := by
        rw [hX, Nat.mod_eq_of_lt hj, byte_off _ hj, HA.out]
        exact last_set u j Hm.out.symm hj
      rw [hfin] at hst
      have hBn := Lib.hid (row_keeps hB hown hst.2 (by omega))
      have hcv := str_of_row hst.1
      clear hst hfin hAj hown hB hX hj
      go_wp2
      go_ret
      exact ⟨rfl, hBn.out⟩

theorem cell_one' (w : World) (t : TypeId) (x : Value) : ∀ j u, [x][j]? = some u → (w.alloc (.cells #[x] t)).cell? ((⟨w.heap.size, 0, none⟩ : Addr).add j) = some u := by
  intro j u hj
  match j, hj with
  | 0, hj => simp at hj; subst hj; simp [Addr.add]
theorem low_or (x : Nat) (hx : x < 2 ^ 64) : Value.int .u8 (bits .or .u8 (bits .and .u64 (x : Int) 127 % 256) 128) = u8v (x % 128 + 128).toUInt8 := by
  have h := bits_mask .u64 64 (by decide) wraps_u64 7 (by decide) (x : Int) (by omega) (by omega)
  have e : ((2 ^ 7 - 1 : Nat) : Int) = 127 := by decide
  simp at h
  rw [h, Lib.u8_or128_any _ (by omega) (by omega)]
  have : ((x % 128 + 128).toUInt8).toNat = x % 128 + 128 := by simp [Nat.toUInt8]; omega
  unfold u8v
  rw [this]
  congr 1
  omega
set_option maxRecDepth 100000 in
set_option maxHeartbeats 1000000 in
theorem spec_putInt_any (n : Int) (hn : I64 n) (w : World) : Calls Tryz.prog 76 #[.int .i64 n] w fun e w' => e = .returned (.string ⟨(pi n).toArray⟩) ∧ Below w.heap.size w w' := by
  have hz : Lib.zigzag n < 2 ^ 64 := Lib.zigzag_lt hn.1 hn.2
  obtain ⟨u, hu⟩ : ∃ u, u = Lib.zigzag n := ⟨_, rfl⟩
  have hp : pi n = Lib.uvarint u := by rw [hu]; rfl
  rw [hp]
  rw [← hu] at hz
  have hs : IntKind.u64.signed = false := rfl
  have Hu := Lib.hid hu
  clear hp hu
  obtain ⟨i0, hi0, hz0, hz1, hz2⟩ := info_parts infoByte
  obtain ⟨h0, h1⟩ := hn
  by_cases h : n < 0
  · go_enter Tryz.func76, Tryz.ntmps76
    go_wp2
    have ret0 : Value.int IntKind.u64 (bits BinOp.xor IntKind.u64 IntKind.u64.max (IntKind.u64.wrap (IntKind.u64.wrap n * 2))) = .int .u64 (u : Int) := by rw [Hu.out, Lib.zigzag_neg h0 h]
    go_loopw [3, 4] (fun q v wr => ∃ (x : Nat) (l : List UInt8), q = .int .u64 (x : Int) ∧ x < 2 ^ 64 ∧ l ++ Lib.uvarint x = Lib.uvarint u ∧ wr.ownsRow w.heap.size 5 1 v l.length (l.map u8v) ∧ Below w.heap.size w wr) (fun q _ _ => (RowKit.intOf q).toNat)
    case atStart => exact ⟨u, [], ret0, hz, rfl, World.ownsRow_nil _ _ _ _, Below.refl _ _⟩
    case round =>
      obtain ⟨x, l, rfl, hx, hl, hown, hB⟩ := hrel
      have hBs := hB.size
      have HX := Lib.hid hx
      have HZ := Lib.hid hz
      have HL := Lib.hid hl
      clear hx hz ret0 hl
      have hll : l.length + (Lib.uvarint x).length ≤ 10 := by
        have := Lib.uvarint_length64 HZ.out
        rw [← HL.out, List.length_append] at this
        exact this
      have hup := Lib.uvarint_pos x
      by_cases hlt : 128 ≤ x
      · go_wp2_with (at_builtin; refine wpList_append_own _ rfl _ _ 99 rfl w.heap.size 5 i0 (.int .u8 0) 1 1 Tryz.underlying99 hi0 hz0 hz1 hz2 rfl (by decide) _ _ _ rfl (hown.alloc _) ⟨wr.heap.size, 0, none⟩ 1 1 [.int .u8 (bits .or .u8 (bits .and .u64 (x : Int) 127 % 256) 128)] rfl rfl (cell_one' _ _ _) (by simp [Value.oneCell']) (by unfold maxLen; omega) (by omega) (by simp; omega) ?_; intro v' w1 hown' hgrow _)
        have hB' := Lib.hid (row_keeps (hB.alloc hBs _) (hown.alloc _) hgrow (by simp; omega))
        rw [low_or x HX.out] at hown'
        have ho2 := Lib.hid (show w1.ownsRow w.heap.size 5 1 v' (l ++ [(x % 128 + 128).toUInt8]).length ((l ++ [(x % 128 + 128).toUInt8]).map u8v) by rw [List.map_append, List.length_append]; exact hown')
        clear hown' hgrow hown hB hBs
        go_wp2
        go_roundw
        case rel => exact ⟨x / 128, l ++ [(x % 128 + 128).toUInt8], by go_num, by have := HX.out; omega, by rw [List.append_assoc, ← HL.out, Lib.uvarint_big (x := x) hlt]; rfl, ho2.out, hB'.out⟩
        case measure => simp [RowKit.intOf]; omega
      · have HF := Lib.hid (show ∀ v' w1, w1.ownsRow w.heap.size 5 1 v' (l.length + 1) (l.map u8v ++ [.int .u8 (x : Int)]) → (convert 99 9 v').run Tryz.prog w1 = .ok (.string ⟨(Lib.uvarint u).toArray⟩) w1 from fun v' w1 hown' => by
          refine str_of_any (base := w.heap.size) (n := l.length + 1) ?_
          rw [← HL.out, Lib.uvarint_small (by omega), List.map_append]
          have e : u8v x.toUInt8 = .int .u8 (x : Int) := by simp [u8v, Nat.toUInt8]; omega
          simp only [List.map_cons, List.map_nil, e]
          exact hown')
        go_wp2_with (at_builtin; refine wpList_append_own _ rfl _ _ 99 rfl w.heap.size 5 i0 (.int .u8 0) 1 1 Tryz.underlying99 hi0 hz0 hz1 hz2 rfl (by decide) _ _ _ rfl (hown.alloc _) ⟨wr.heap.size, 0, none⟩ 1 1 [.int .u8 (x : Int)] rfl rfl (cell_one' _ _ _) (by simp [Value.oneCell']) (by unfold maxLen; omega) (by omega) (by simp; omega) ?_; intro v' w1 hown' hgrow _; have hcv := HF.out v' w1 hown')
        go_ret
        exact ⟨rfl, row_keeps (hB.alloc hBs _) (hown.alloc _) hgrow (by simp; omega)⟩
  · go_enter Tryz.func76, Tryz.ntmps76
    go_wp2
    have ret0 : Value.int IntKind.u64 (n * 2) = .int .u64 (u : Int) := by rw [Hu.out, Lib.zigzag_nonneg (by omega)]
    go_loopw [3, 4] (fun q v wr => ∃ (x : Nat) (l : List UInt8), q = .int .u64 (x : Int) ∧ x < 2 ^ 64 ∧ l ++ Lib.uvarint x = Lib.uvarint u ∧ wr.ownsRow w.heap.size 5 1 v l.length (l.map u8v) ∧ Below w.heap.size w wr) (fun q _ _ => (RowKit.intOf q).toNat)
    case atStart => exact ⟨u, [], ret0, hz, rfl, World.ownsRow_nil _ _ _ _, Below.refl _ _⟩
    case round =>
      obtain ⟨x, l, rfl, hx, hl, hown, hB⟩ := hrel
      have hBs := hB.size
      have HX := Lib.hid hx
      have HZ := Lib.hid hz
      have HL := Lib.hid hl
      clear hx hz ret0 hl
      have hll : l.length + (Lib.uvarint x).length ≤ 10 := by
        have := Lib.uvarint_length64 HZ.out
        rw [← HL.out, List.length_append] at this
        exact this
      have hup := Lib.uvarint_pos x
      by_cases hlt : 128 ≤ x
      · go_wp2_with (at_builtin; refine wpList_append_own _ rfl _ _ 99 rfl w.heap.size 5 i0 (.int .u8 0) 1 1 Tryz.underlying99 hi0 hz0 hz1 hz2 rfl (by decide) _ _ _ rfl (hown.alloc _) ⟨wr.heap.size, 0, none⟩ 1 1 [.int .u8 (bits .or .u8 (bits .and .u64 (x : Int) 127 % 256) 128)] rfl rfl (cell_one' _ _ _) (by simp [Value.oneCell']) (by unfold maxLen; omega) (by omega) (by simp; omega) ?_; intro v' w1 hown' hgrow _)
        have hB' := Lib.hid (row_keeps (hB.alloc hBs _) (hown.alloc _) hgrow (by simp; omega))
        rw [low_or x HX.out] at hown'
        have ho2 := Lib.hid (show w1.ownsRow w.heap.size 5 1 v' (l ++ [(x % 128 + 128).toUInt8]).length ((l ++ [(x % 128 + 128).toUInt8]).map u8v) by rw [List.map_append, List.length_append]; exact hown')
        clear hown' hgrow hown hB hBs
        go_wp2
        go_roundw
        case rel => exact ⟨x / 128, l ++ [(x % 128 + 128).toUInt8], by go_num, by have := HX.out; omega, by rw [List.append_assoc, ← HL.out, Lib.uvarint_big (x := x) hlt]; rfl, ho2.out, hB'.out⟩
        case measure => simp [RowKit.intOf]; omega
      · have HF := Lib.hid (show ∀ v' w1, w1.ownsRow w.heap.size 5 1 v' (l.length + 1) (l.map u8v ++ [.int .u8 (x : Int)]) → (convert 99 9 v').run Tryz.prog w1 = .ok (.string ⟨(Lib.uvarint u).toArray⟩) w1 from fun v' w1 hown' => by
          refine str_of_any (base := w.heap.size) (n := l.length + 1) ?_
          rw [← HL.out, Lib.uvarint_small (by omega), List.map_append]
          have e : u8v x.toUInt8 = .int .u8 (x : Int) := by simp [u8v, Nat.toUInt8]; omega
          simp only [List.map_cons, List.map_nil, e]
          exact hown')
        go_wp2_with (at_builtin; refine wpList_append_own _ rfl _ _ 99 rfl w.heap.size 5 i0 (.int .u8 0) 1 1 Tryz.underlying99 hi0 hz0 hz1 hz2 rfl (by decide) _ _ _ rfl (hown.alloc _) ⟨wr.heap.size, 0, none⟩ 1 1 [.int .u8 (x : Int)] rfl rfl (cell_one' _ _ _) (by simp [Value.oneCell']) (by unfold maxLen; omega) (by omega) (by simp; omega) ?_; intro v' w1 hown' hgrow _; have hcv := HF.out v' w1 hown')
        go_ret
        exact ⟨rfl, row_keeps (hB.alloc hBs _) (hown.alloc _) hgrow (by simp; omega)⟩
end Go.Proofs.YtpaepkcfdnddgaaGreat

namespace Go.Proofs.YtpaepkcfdnddgaaGreat
open Go.RowKit
set_option linter.unusedVariables false

/-- One bit further. -/
def crT (w : Nat) : Nat := if w < 2147483648 then 2 * w else (2 * w - 4294967296) ^^^ 79764919
def crI : Nat → Nat → Nat
  | 0, w => w
  | k + 1, w => crT (crI k w)
def crB (w : Nat) (b : UInt8) : Nat := crI 8 (w ^^^ (b.toNat * 16777216))
def crL (l : List UInt8) (w : Nat) : Nat := l.foldl crB w
def crc (l : List UInt8) : Nat := 4294967295 - crL l 4294967295

theorem crT_lt {w : Nat} (h : w < 4294967296) : crT w < 4294967296 := by
  unfold crT
  split
  · omega
  · have := Nat.xor_lt_two_pow (n := 32) (x := 2 * w - 4294967296) (y := 79764919) (by omega) (by decide)
    omega
theorem crI_lt {w : Nat} (h : w < 4294967296) : ∀ k, crI k w < 4294967296
  | 0 => h
  | k + 1 => crT_lt (crI_lt h k)
theorem crX_lt {w : Nat} (h : w < 4294967296) (b : UInt8) : w ^^^ (b.toNat * 16777216) < 4294967296 := by
  have hb := b.toNat_lt
  have := Nat.xor_lt_two_pow (n := 32) (x := w) (y := b.toNat * 16777216) (by omega) (by omega)
  omega
theorem crB_lt {w : Nat} (h : w < 4294967296) (b : UInt8) : crB w b < 4294967296 := crI_lt (crX_lt h b) 8
theorem crL_lt (l : List UInt8) : ∀ {w : Nat}, w < 4294967296 → crL l w < 4294967296 := by
  unfold crL
  induction l with
  | nil => intro w h; rw [List.foldl_nil]; exact h
  | cons b r ih => intro w h; rw [List.foldl_cons]; exact ih (crB_lt h b)
theorem crc_lt (l : List UInt8) : crc l < 4294967296 := by unfold crc; omega
theorem crL_snoc (l : List UInt8) (b : UInt8) (w : Nat) : crL (l ++ [b]) w = crB (crL l w) b := by unfold crL; rw [List.foldl_append, List.foldl_cons, List.foldl_nil]

theorem take_snoc (s : ByteArray) (k : Nat) (h : k < s.size) : s.data.toList.take (k + 1) = s.data.toList.take k ++ [s[k]] := by
  rw [List.take_succ_eq_append_getElem (by simpa using h)]; rfl

theorem crT_low {d : Nat} (h : d < 2147483648) : Value.int .u32 (bits .xor .u32 ((d : Int) * 2) 0) = .int .u32 (crT d : Nat) := by
  have e := u32_xor_nat (2 * d) 0 (by omega) (by decide)
  rw [show ((2 * d : Nat) : Int) = (d : Int) * 2 by omega, Nat.xor_zero] at e
  have e' : bits .xor .u32 ((d : Int) * 2) 0 = ((2 * d : Nat) : Int) := e
  rw [e']
  unfold crT
  rw [if_pos h]
theorem crT_low' {d : Nat} (h : d < 2147483648) : Value.int .u32 ((d : Int) * 2) = .int .u32 (crT d : Nat) := by
  unfold crT
  rw [if_pos h, show ((2 * d : Nat) : Int) = (d : Int) * 2 by omega]
theorem crT_high {d : Nat} (h : ¬ d < 2147483648) (hd : d < 4294967296) : Value.int .u32 (bits .xor .u32 ((d : Int) * 2 % 4294967296) 79764919) = .int .u32 (crT d : Nat) := by
  have e := u32_xor_nat (2 * d - 4294967296) 79764919 (by omega) (by decide)
  rw [show ((2 * d - 4294967296 : Nat) : Int) = (d : Int) * 2 % 4294967296 by omega] at e
  have e' : bits .xor .u32 ((d : Int) * 2 % 4294967296) 79764919 = (((2 * d - 4294967296) ^^^ 79764919 : Nat) : Int) := e
  rw [e']
  unfold crT
  rw [if_neg h]
theorem xor_ones32 (b : Nat) (hb : b < 2 ^ 32) : (2 ^ 32 - 1) ^^^ b = 2 ^ 32 - 1 - b := by
  apply Nat.eq_of_testBit_eq
  intro i
  rw [Nat.testBit_xor, Nat.testBit_two_pow_sub_one, show 2 ^ 32 - 1 - b = 2 ^ 32 - (b + 1) by omega, Nat.testBit_two_pow_sub_succ hb]
  by_cases hi : i < 32
  · simp [hi]
  · have : b.testBit i = false := Nat.testBit_lt_two_pow (Nat.lt_of_lt_of_le hb (Nat.pow_le_pow_right (by decide) (by omega)))
    simp [hi, this]
theorem cr_end (c : Nat) (hc : c < 4294967296) : bits .xor .u32 IntKind.u32.max (c : Int) = ((4294967295 - c : Nat) : Int) := by
  have e := u32_xor_nat (2 ^ 32 - 1) c (by decide) hc
  rw [xor_ones32 c (by omega)] at e
  exact e

set_option maxHeartbeats 400000 in
theorem crc_any (s : ByteArray) (hs : s.size ≤ 4611686018427387904) (w : World) : Calls Tryz.prog 123 #[.string s] w fun e w' => e = .returned (.int .i64 (crc s.data.toList : Nat)) ∧ w = w' := by
  go_enter Tryz.func123, Tryz.ntmps123
  go_wp2
  go_loop [3, 8] (fun q i => ∃ k : Nat, k ≤ s.size ∧ i = .int .i64 k ∧ q = .int .u32 (crL (s.data.toList.take k) 4294967295 : Nat)) (fun _ i => s.size - (RowKit.intOf i).toNat)
  case atStart => exact ⟨0, Nat.zero_le _, rfl, rfl⟩
  case round =>
    obtain ⟨k, hk, rfl, rfl⟩ := hrel
    by_cases hlt : k < s.size
    · obtain ⟨c, hc⟩ : ∃ c, c = crL (s.data.toList.take k) 4294967295 := ⟨_, rfl⟩
      rw [← hc]
      have hcl : c < 4294967296 := by rw [hc]; exact crL_lt _ (by decide)
      have HC := Lib.hid hc
      clear hc
      obtain ⟨c0, hc0⟩ : ∃ c0 : Nat, c0 = c ^^^ (s[k].toNat * 16777216) := ⟨_, rfl⟩
      have hx : bits .xor .u32 (c : Int) ((s[k].toNat : Int) % 4294967296 * 16777216 % 4294967296) = (c0 : Int) := by
        have hb := s[k].toNat_lt
        rw [show (s[k].toNat : Int) % 4294967296 * 16777216 % 4294967296 = ((s[k].toNat * 16777216 : Nat) : Int) by omega, u32_xor_nat _ _ hcl (by omega), hc0]
      have hcl0 : c0 < 4294967296 := by rw [hc0]; exact crX_lt hcl _
      have HC0 := Lib.hid hc0
      clear hc0
      go_wp2
      clear hx
      go_loop [3, 18] (fun q i => ∃ j : Nat, j ≤ 8 ∧ i = .int .i64 j ∧ q = .int .u32 (crI j c0 : Nat)) (fun _ i => 8 - (RowKit.intOf i).toNat)
      case atStart => exact ⟨0, by omega, rfl, rfl⟩
      case round =>
        obtain ⟨j, hj, rfl, rfl⟩ := hrel
        obtain ⟨d, hd⟩ : ∃ d, d = crI j c0 := ⟨_, rfl⟩
        have hdl : d < 4294967296 := by rw [hd]; exact crI_lt hcl0 j
        have hn : crI (j + 1) c0 = crT d := by rw [hd]; rfl
        rw [← hd]
        have HD := Lib.hid hd
        have HN := Lib.hid hn
        clear hd hn
        by_cases hj8 : j < 8
        · by_cases hdh : d < 2147483648
          · have hq : (d : Int) / 2147483648 = 0 := by omega
            go_wp2
            go_round
            case rel => exact ⟨j + 1, by omega, by go_num, by rw [HN.out, crT_low hdh]⟩
            case measure => simp [RowKit.intOf]; omega
          · have hq : (d : Int) / 2147483648 = 1 := by omega
            go_wp2
            go_round
            case rel => exact ⟨j + 1, by omega, by go_num, by rw [HN.out, crT_high hdh hdl]⟩
            case measure => simp [RowKit.intOf]; omega
        · obtain rfl : j = 8 := by omega
          go_wp2
          go_round
          case rel => exact ⟨k + 1, by omega, by go_num, by rw [take_snoc s k hlt, crL_snoc, ← HC.out]; unfold crB; rw [← HC0.out, HD.out]⟩
          case measure => simp [RowKit.intOf]; omega
    · obtain rfl : k = s.size := by omega
      have hsg : IntKind.u32.signed = false := rfl
      have hcl := crL_lt s.data.toList (w := 4294967295) (by decide)
      rw [List.take_of_length_le (by simp)]
      obtain ⟨c, hc⟩ : ∃ c, c = crL s.data.toList 4294967295 := ⟨_, rfl⟩
      have he : crc s.data.toList = 4294967295 - c := by rw [hc]; rfl
      rw [← hc] at hcl ⊢
      have hx := cr_end c hcl
      have HE := Lib.hid he
      clear hc he
      go_wp2
      go_ret
      exact ⟨ret_int (by rw [HE.out]), rfl⟩

set_option maxHeartbeats 400000 in
theorem spec_crc_any (s : ByteArray) (hs : s.size ≤ 4611686018427387904) (w : World) : Calls Tryz.prog 119 #[.string s] w fun e w' => e = .returned (.int .i64 (crc s.data.toList : Nat)) ∧ w = w' := by
  go_enter Tryz.func119, Tryz.ntmps119
  go_wp2
  go_loop [3, 4] (fun q i => ∃ k : Nat, k ≤ s.size ∧ i = .int .i64 k ∧ q = .int .u32 (crL (s.data.toList.take k) 4294967295 : Nat)) (fun _ i => s.size - (RowKit.intOf i).toNat)
  case atStart => exact ⟨0, Nat.zero_le _, rfl, rfl⟩
  case round =>
    obtain ⟨k, hk, rfl, rfl⟩ := hrel
    by_cases hlt : k < s.size
    · obtain ⟨c, hc⟩ : ∃ c, c = crL (s.data.toList.take k) 4294967295 := ⟨_, rfl⟩
      rw [← hc]
      have hcl : c < 4294967296 := by rw [hc]; exact crL_lt _ (by decide)
      have HC := Lib.hid hc
      clear hc
      obtain ⟨c0, hc0⟩ : ∃ c0 : Nat, c0 = c ^^^ (s[k].toNat * 16777216) := ⟨_, rfl⟩
      have hx : bits .xor .u32 (c : Int) ((s[k].toNat : Int) % 4294967296 * 16777216 % 4294967296) = (c0 : Int) := by
        have hb := s[k].toNat_lt
        rw [show (s[k].toNat : Int) % 4294967296 * 16777216 % 4294967296 = ((s[k].toNat * 16777216 : Nat) : Int) by omega, u32_xor_nat _ _ hcl (by omega), hc0]
      have hcl0 : c0 < 4294967296 := by rw [hc0]; exact crX_lt hcl _
      have HC0 := Lib.hid hc0
      clear hc0
      go_wp2
      clear hx
      go_loop [3, 5] (fun q i => ∃ j : Nat, j ≤ 8 ∧ i = .int .i64 j ∧ q = .int .u32 (crI j c0 : Nat)) (fun _ i => 8 - (RowKit.intOf i).toNat)
      case atStart => exact ⟨0, by omega, rfl, rfl⟩
      case round =>
        obtain ⟨j, hj, rfl, rfl⟩ := hrel
        obtain ⟨d, hd⟩ : ∃ d, d = crI j c0 := ⟨_, rfl⟩
        have hdl : d < 4294967296 := by rw [hd]; exact crI_lt hcl0 j
        have hn : crI (j + 1) c0 = crT d := by rw [hd]; rfl
        rw [← hd]
        have HD := Lib.hid hd
        have HN := Lib.hid hn
        clear hd hn
        by_cases hj8 : j < 8
        · by_cases hdh : d < 2147483648
          · have hq : (d : Int) / 2147483648 = 0 := by omega
            go_wp2
            go_round
            case rel => exact ⟨j + 1, by omega, by go_num, by rw [HN.out, crT_low' hdh]⟩
            case measure => simp [RowKit.intOf]; omega
          · have hq : (d : Int) / 2147483648 = 1 := by omega
            go_wp2
            go_round
            case rel => exact ⟨j + 1, by omega, by go_num, by rw [HN.out, crT_high hdh hdl]⟩
            case measure => simp [RowKit.intOf]; omega
        · obtain rfl : j = 8 := by omega
          go_wp2
          go_round
          case rel => exact ⟨k + 1, by omega, by go_num, by rw [take_snoc s k hlt, crL_snoc, ← HC.out]; unfold crB; rw [← HC0.out, HD.out]⟩
          case measure => simp [RowKit.intOf]; omega
    · obtain rfl : k = s.size := by omega
      have hsg : IntKind.u32.signed = false := rfl
      have hcl := crL_lt s.data.toList (w := 4294967295) (by decide)
      rw [List.take_of_length_le (by simp)]
      obtain ⟨c, hc⟩ : ∃ c, c = crL s.data.toList 4294967295 := ⟨_, rfl⟩
      have he : crc s.data.toList = 4294967295 - c := by rw [hc]; rfl
      rw [← hc] at hcl ⊢
      have hx := cr_end c hcl
      have HE := Lib.hid he
      clear hc he
      go_wp2
      go_ret
      exact ⟨ret_int (by rw [HE.out]), rfl⟩
end Go.Proofs.YtpaepkcfdnddgaaGreat

namespace Go.Proofs.YtpaepkcfdnddgaaGreat
open Go.RowKit
set_option linter.unusedVariables false

/-- The four bytes of a number, the highest first. -/
def putW (n : Nat) : List UInt8 := [(n / 16777216 % 256).toUInt8, (n / 65536 % 256).toUInt8, (n / 256 % 256).toUInt8, (n % 256).toUInt8]
/-- .. and back. -/
def getW : List UInt8 → Nat
  | a :: b :: c :: d :: _ => a.toNat * 16777216 + b.toNat * 65536 + c.toNat * 256 + d.toNat
  | _ => 0
theorem getW_putW {n : Nat} (h : n < 4294967296) (r : List UInt8) : getW (putW n ++ r) = n := by
  have e : ∀ x : Nat, ((x % 256).toUInt8).toNat = x % 256 := fun x => by simp [Nat.toUInt8]
  simp only [putW, List.cons_append, List.nil_append, getW, e]
  omega
theorem putW_length (n : Nat) : (putW n).length = 4 := rfl
theorem getW_lt (l : List UInt8) : getW l < 4294967296 := by
  unfold getW
  split
  · rename_i a b c d r
    have := a.toNat_lt; have := b.toNat_lt; have := c.toNat_lt; have := d.toNat_lt
    omega
  · decide
theorem u8v_mod (x : Nat) : u8v (x % 256).toUInt8 = .int .u8 ((x : Int) % 256) := by
  have e : ((x % 256).toUInt8).toNat = x % 256 := by simp [Nat.toUInt8]
  unfold u8v
  rw [e]
  congr 1

theorem cells_four (w : World) (t : TypeId) (a b c d : Value) : (w.alloc (.cells #[a, b, c, d] t)).ownsRow w.heap.size t 1 (.slice (some ⟨w.heap.size, 0, none⟩) 4 4) 4 [a, b, c, d] :=
  ⟨rfl, .inr ⟨w.heap.size, 4, _, rfl, Nat.le_refl _, heap_alloc_new w _, Nat.le_refl _, by decide, rfl, rfl⟩⟩

set_option maxHeartbeats 400000 in
theorem spec_putWord_no (n : Int) (h : n < 0 ∨ 4294967295 < n) (w : World) : Calls Tryz.prog 118 #[.int .i64 n] w fun e w' => e = .returned (.string ⟨#[]⟩) ∧ Below w.heap.size w w' := by
  by_cases h0 : n < 0
  · clear h
    go_enter Tryz.func118, Tryz.ntmps118
    go_wp2
    go_ret
    exact ⟨rfl, Below.refl _ _⟩
  · have h1 : 4294967295 < n := by omega
    clear h
    go_enter Tryz.func118, Tryz.ntmps118
    go_wp2
    go_ret
    exact ⟨rfl, Below.refl _ _⟩
set_option maxHeartbeats 400000 in
set_option maxRecDepth 100000 in
theorem spec_putWord_yes (n : Nat) (h : n < 4294967296) (w : World) : Calls Tryz.prog 118 #[.int .i64 (n : Int)] w fun e w' => e = .returned (.string ⟨(putW n).toArray⟩) ∧ Below w.heap.size w w' := by
  have ho := cells_four w 5 (u8v (n / 16777216 % 256).toUInt8) (u8v (n / 65536 % 256).toUInt8) (u8v (n / 256 % 256).toUInt8) (u8v (n % 256).toUInt8)
  have hcv := str_of_row (l := putW n) ho
  rw [u8v_mod, u8v_mod, u8v_mod, u8v_mod, show ((n / 16777216 : Nat) : Int) % 256 = (n : Int) / 16777216 by omega, show ((n / 65536 : Nat) : Int) % 256 = (n : Int) / 65536 % 256 by omega, show ((n / 256 : Nat) : Int) % 256 = (n : Int) / 256 % 256 by omega] at hcv
  clear ho
  go_enter Tryz.func118, Tryz.ntmps118
  go_wp2
  go_ret
  exact ⟨rfl, below_box _ _⟩

theorem shr8 (n i : Nat) : (n : Int) / 2 ^ (i * 8) = ((n / 2 ^ (i * 8) : Nat) : Int) := by simp
/-- A row that is filled from its end on. -/
theorem fill_back (A : List Value) (z v : Value) (i m : Nat) (hm : A.length = m) (hi : i < m) (h : A[m - 1 - i]? = some v) : (List.replicate (m - i) z ++ A.drop (m - i)).set (m - 1 - i) v = List.replicate (m - (i + 1)) z ++ A.drop (m - (i + 1)) := by
  obtain ⟨hl, rfl⟩ := List.getElem?_eq_some_iff.1 h
  have e : m - i = (m - 1 - i) + 1 := by omega
  have e2 : m - (i + 1) = m - 1 - i := by omega
  rw [e2, e, List.replicate_succ', List.append_assoc, List.set_append_right _ _ (by rw [List.length_replicate]; omega), List.length_replicate, Nat.sub_self, List.singleton_append, List.set_cons_zero, ← List.drop_eq_getElem_cons hl]

set_option maxHeartbeats 400000 in
theorem putWord_no (n : Int) (h : n < 0 ∨ 4294967295 < n) (w : World) : Calls Tryz.prog 122 #[.int .i64 n] w fun e w' => e = .returned (.string ⟨#[]⟩) ∧ Below w.heap.size w w' := by
  have hb := inB_no (n := n) (l := 0) (h := 4294967295) h
  have HB := Lib.hid hb
  clear hb h
  go_enter Tryz.func122, Tryz.ntmps122
  go_wp2_with (go_at_call 100; refine (isIn_eq HB.out _).mono ?_; rintro e w' ⟨rfl, rfl⟩)
  go_ret
  exact ⟨rfl, Below.refl _ _⟩
set_option maxHeartbeats 1000000 in
theorem putWord_yes (n : Nat) (h : n < 4294967296) (w : World) : Calls Tryz.prog 122 #[.int .i64 (n : Int)] w fun e w' => e = .returned (.string ⟨(putW n).toArray⟩) ∧ Below w.heap.size w w' := by
  have HB := Lib.hid (inB_yes (n := (n : Int)) (l := 0) (h := 4294967295) (by omega) (by omega))
  obtain ⟨A, hA⟩ : ∃ A : List Value, A = (putW n).map u8v := ⟨_, rfl⟩
  have hAl : A.length = 4 := by rw [hA]; rfl
  have mk : ∀ w : World, (Instr.makeSlice 99 (.int .i64 4) (.int .i64 4)).run Tryz.prog w = .ok (.slice (some ⟨w.heap.size, 0, none⟩) 4 4) (w.alloc (.cells (madeCells #[.int .u8 0] 4) 5)) :=
    fun w => run_make_row' (P := Tryz.prog) 99 5 (.int .u8 0) 1 Tryz.underlying99 infoByte rfl .i64 .i64 4 (by omega) (by omega) w
  have hAi : ∀ i, i < 4 → A[4 - 1 - i]? = some (.int .u8 ((n : Int) / 2 ^ (i * 8) % 256)) := by
    intro i hi
    rw [hA]
    match i, hi with
    | 0, _ => simp [putW]; exact (u8v_mod n).trans (by simp)
    | 1, _ => simp [putW]; exact (u8v_mod (n / 256)).trans (by simp)
    | 2, _ => simp [putW]; exact (u8v_mod (n / 65536)).trans (by simp)
    | 3, _ => simp [putW]; exact (u8v_mod (n / 16777216)).trans (by simp)
  have HA := Lib.hid hA
  have HAl := Lib.hid hAl
  have HAi := Lib.hid hAi
  clear hA hAl hAi
  go_enter Tryz.func122, Tryz.ntmps122
  go_wp2_with (go_at_call 100; refine (isIn_eq HB.out _).mono ?_; rintro e w' ⟨rfl, rfl⟩)
  have hown0 := Lib.hid (byte_made (w := w.alloc (.cells (madeCells #[.int .u8 0] 4) 5)) (base := w.heap.size) (box_new _ _) (Nat.le_refl _) (by unfold maxLen; omega))
  have hB0 := Lib.hid (below_box w (.cells (madeCells #[.int .u8 0] 4) 5))
  clear mk
  go_loopw [9] (fun c wr => ∃ i : Nat, i ≤ 4 ∧ c = .int .i64 i ∧ wr.ownsRow w.heap.size 5 1 (.slice (some ⟨w.heap.size, 0, none⟩) 4 4) 4 (List.replicate (4 - i) (.int .u8 0) ++ A.drop (4 - i)) ∧ Below w.heap.size w wr) (fun c _ => 4 - (RowKit.intOf c).toNat)
  case atStart => exact ⟨0, Nat.zero_le _, rfl, by have := HAl.out; rw [List.drop_eq_nil_iff.2 (by omega)]; simpa using hown0.out, hB0.out⟩
  case round =>
    obtain ⟨i, hi, rfl, hown, hB⟩ := hrel
    have hBs := hB.size
    by_cases hlt : i < 4
    · have hfz := hown.frozenAt (4 - 1 - i)
      have hst := hown.stored (4 - 1 - i) (.int .u8 ((n : Int) / 2 ^ (i * 8) % 256))
      rw [fill_back A (.int .u8 0) _ i 4 HAl.out hlt (HAi.out i hlt)] at hst
      have hBn := Lib.hid (row_keeps hB hown (w' := wr.setCell ⟨w.heap.size, 4 - 1 - i, none⟩ (.int .u8 ((n : Int) / 2 ^ (i * 8) % 256))) hst.2 (by omega))
      have hst' := Lib.hid hst.1
      have hc : ∃ x, wr.cell? ⟨w.heap.size, 4 - 1 - i, none⟩ = some x := by
        rw [hown.cellAt (4 - 1 - i) (by omega)]
        exact ⟨_, List.getElem?_eq_getElem (by rw [List.length_append, List.length_drop, List.length_replicate, HAl.out]; omega)⟩
      obtain ⟨x, hc⟩ := hc
      clear hst hown hB
      obtain ⟨j, hj⟩ : ∃ j, j = 4 - 1 - i := ⟨_, rfl⟩
      rw [← hj] at hfz hc hBn hst'
      have hji : (3 : Int) - (i : Int) = (j : Int) := by omega
      have HJ := Lib.hid hj
      clear hj
      go_wp2
      go_roundw
      case rel => exact ⟨i + 1, by omega, by go_num, hst'.out, hBn.out⟩
      case measure => simp [RowKit.intOf]; omega
    · obtain rfl : i = 4 := by omega
      rw [Nat.sub_self, List.replicate_zero, List.nil_append, List.drop_zero, HA.out] at hown
      have hcv := str_of_row hown
      clear hown
      have HBo := Lib.hid hB
      clear hB
      go_wp2
      go_ret
      exact ⟨rfl, HBo.out⟩

theorem wraps_i63 (n : Int) (h₀ : 0 ≤ n) (h₁ : n < 2 ^ 63) : IntKind.i64.wrap n = n := by rw [IntKind.wrap_i64]; omega
theorem i64_join (i : Nat) (x y : Int) (hx₀ : 0 ≤ x) (hx : x % 2 ^ i = 0) (hx₁ : x < 2 ^ 63) (hy₀ : 0 ≤ y) (hy : y < 2 ^ i) (hy₁ : y < 2 ^ 63) : bits .or .i64 x y = x + y :=
  bits_join .i64 63 (by decide) wraps_i63 i x y hx₀ hx hx₁ hy₀ hy hy₁
/-- What the first i bytes spell. -/
def preW (l : List UInt8) : Nat → Nat
  | 0 => 0
  | i + 1 => preW l i * 256 + (l[i]?.getD 0).toNat
theorem preW_lt (l : List UInt8) : ∀ i, preW l i < 256 ^ i
  | 0 => by simp [preW]
  | i + 1 => by
    have := preW_lt l i
    have := (l[i]?.getD 0).toNat_lt
    simp only [preW, Nat.pow_succ]
    omega
theorem preW_four {l : List UInt8} (h : 4 ≤ l.length) : preW l 4 = getW l := by
  match l, h with
  | a :: b :: c :: d :: r, _ => simp [preW, getW]; omega
theorem byte_get (s : ByteArray) (i : Nat) (h : i < s.size) : (s.data.toList[i]?.getD 0) = s[i] := by
  have : i < s.data.toList.length := by simpa using h
  rw [List.getElem?_eq_getElem this]
  rfl

theorem index_at (s : ByteArray) (k : Nat) (h : k < s.size) (i : Int) (hi : i = (k : Int)) (W : World) : (Instr.index 9 (.string s) (.int .i64 i)).run Tryz.prog W = .ok (.int .u8 (s[k].toNat : Int)) W := by
  subst hi
  have e := run_index_string (P := Tryz.prog) W 9 s .i64 (k : Int) Tryz.underlying9
  rw [dif_pos ⟨by omega, by omega⟩] at e
  exact e
theorem getW_drop (s : ByteArray) (k : Nat) (h : k + 4 ≤ s.size) : getW (s.data.toList.drop k) = s[k].toNat * 16777216 + s[k + 1].toNat * 65536 + s[k + 2].toNat * 256 + s[k + 3].toNat := by
  have hl : s.data.toList.length = s.size := by simp
  rw [List.drop_eq_getElem_cons (show k < s.data.toList.length by omega), List.drop_eq_getElem_cons (show k + 1 < s.data.toList.length by omega), List.drop_eq_getElem_cons (show k + 1 + 1 < s.data.toList.length by omega), List.drop_eq_getElem_cons (show k + 1 + 1 + 1 < s.data.toList.length by omega)]
  rfl

end Go.Proofs.YtpaepkcfdnddgaaGreat
