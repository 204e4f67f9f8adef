import Derived.Test.YtefmejhabakghaaPkF2
import Derived.Deep.DeepCutAuto
import Derived.Deep.CutRange
import Derived.Outline
import Derived.Deep.RegionWith

/-
  How many bits are set: the contract of bits.OnesCount at a number of 16 bits.
-/
namespace Go.Proofs.Ytefmejhabakghaa
open Go.RowKit
set_option linter.unusedVariables false

/-- How many of the first j bits are set. -/
def markCnt (m : Int) : Nat → Nat
  | 0 => 0
  | j + 1 => markCnt m j + if m / 2 ^ j % 2 = 1 then 1 else 0
def popN (n : Nat) : Nat → Nat
  | 0 => 0
  | j + 1 => popN n j + n / 2 ^ j % 2
theorem markCnt_nat (n j : Nat) : markCnt (n : Int) j = popN n j := by
  induction j with
  | zero => rfl
  | succ j ih =>
    show markCnt (n : Int) j + (if (n : Int) / 2 ^ j % 2 = 1 then 1 else 0) = popN n j + n / 2 ^ j % 2
    have e : (n : Int) / 2 ^ j % 2 = ((n / 2 ^ j % 2 : Nat) : Int) := by simp
    rw [ih, e]
    by_cases h : n / 2 ^ j % 2 = 1
    · rw [if_pos (by rw [h]; rfl), h]
    · rw [if_neg (by omega)]
      omega
def sw1 (n : Nat) : Nat := (n / 2 &&& 6148914691236517205) + (n &&& 6148914691236517205)
def sw2 (n : Nat) : Nat := (n / 4 &&& 3689348814741910323) + (n &&& 3689348814741910323)
def sw3 (n : Nat) : Nat := (n / 16 + n) &&& 1085102592571150095
def sw4 (n : Nat) : Nat := n + n / 256
def sw5 (n : Nat) : Nat := n + n / 65536
def sw6 (n : Nat) : Nat := n + n / 4294967296
def swar (n : Nat) : Nat := sw6 (sw5 (sw4 (sw3 (sw2 (sw1 n))))) &&& 127
theorem tb_split (a b j : Nat) (h : b < 256) : (2 ^ 8 * a + b).testBit j = if j < 8 then b.testBit j else a.testBit (j - 8) := Nat.testBit_two_pow_mul_add a (i := 8) h j
theorem and_split (p q m0 m1 : Nat) (hp : p < 256) (hm : m0 < 256) : (p + 256 * q) &&& (m0 + 256 * m1) = (p &&& m0) + 256 * (q &&& m1) := by
  apply Nat.eq_of_testBit_eq
  intro j
  have hl : p &&& m0 < 256 := Nat.lt_of_le_of_lt Nat.and_le_left hp
  rw [Nat.testBit_and, show p + 256 * q = 2 ^ 8 * q + p by omega, show m0 + 256 * m1 = 2 ^ 8 * m1 + m0 by omega, show (p &&& m0) + 256 * (q &&& m1) = 2 ^ 8 * (q &&& m1) + (p &&& m0) by omega,
    tb_split q p j hp, tb_split m1 m0 j hm, tb_split (q &&& m1) (p &&& m0) j hl, Nat.testBit_and, Nat.testBit_and]
  split <;> rfl
theorem and_low (b m0 m1 : Nat) (hb : b < 256) (hm : m0 < 256) : b &&& (m0 + 256 * m1) = b &&& m0 := by
  have h := and_split b 0 m0 m1 hb hm
  rw [Nat.zero_and] at h
  exact h
theorem chk1 : ∀ a, a < 256 → ∀ c, c < 2 → (a / 2 + 128 * c) &&& 85 = (a / 2) &&& 85 := by decide +kernel
theorem chk2 : ∀ a, a < 256 → ∀ c, c < 4 → (a / 4 + 64 * c) &&& 51 = (a / 4) &&& 51 := by decide +kernel
theorem chk3 : ∀ a, a < 69 → ∀ c, c < 5 → (a / 16 + a + 16 * c) &&& 15 = (a / 16 + a) &&& 15 := by decide +kernel
theorem chk4 : ∀ a, a < 256 → sw1 a < 256 ∧ sw2 (sw1 a) < 69 ∧ sw2 (sw1 a) % 16 < 5 ∧ sw3 (sw2 (sw1 a)) = popN a 8 ∧ popN a 8 < 9 := by decide +kernel
theorem chk5 : ∀ a, a < 9 → ∀ b, b < 9 → (a + b + 256 * b) &&& 127 = a + b := by decide +kernel
theorem sw1_split (a b : Nat) (ha : a < 256) (hb : b < 256) : sw1 (a + 256 * b) = sw1 a + 256 * sw1 b := by
  have k1 := chk1 a ha (b % 2) (by omega)
  unfold sw1
  rw [show (a + 256 * b) / 2 = (a / 2 + 128 * (b % 2)) + 256 * (b / 2) by omega, show 6148914691236517205 = 85 + 256 * 24019198012642645 from rfl,
    and_split _ _ _ _ (by omega) (by omega), and_split _ _ _ _ ha (by omega), and_low (a / 2) _ _ (by omega) (by omega), and_low a _ _ ha (by omega), k1, show 24019198012642645 = 85 + 256 * 93824992236885 from rfl, and_low (b / 2) _ _ (by omega) (by omega), and_low b _ _ hb (by omega),
    and_low (b / 2) 85 (85 + 256 * 93824992236885) (by omega) (by omega), and_low b 85 (85 + 256 * 93824992236885) hb (by omega)]
  omega
theorem sw2_split (a b : Nat) (ha : a < 256) (hb : b < 256) : sw2 (a + 256 * b) = sw2 a + 256 * sw2 b := by
  have k1 := chk2 a ha (b % 4) (by omega)
  unfold sw2
  rw [show (a + 256 * b) / 4 = (a / 4 + 64 * (b % 4)) + 256 * (b / 4) by omega, show 3689348814741910323 = 51 + 256 * 14411518807585587 from rfl,
    and_split _ _ _ _ (by omega) (by omega), and_split _ _ _ _ ha (by omega), and_low (a / 4) _ _ (by omega) (by omega), and_low a _ _ ha (by omega), k1, show 14411518807585587 = 51 + 256 * 56294995342131 from rfl, and_low (b / 4) _ _ (by omega) (by omega), and_low b _ _ hb (by omega),
    and_low (b / 4) 51 (51 + 256 * 56294995342131) (by omega) (by omega), and_low b 51 (51 + 256 * 56294995342131) hb (by omega)]
  omega
theorem sw3_split (a b : Nat) (ha : a < 69) (hb : b < 69) (hb2 : b % 16 < 5) : sw3 (a + 256 * b) = sw3 a + 256 * sw3 b := by
  have k1 := chk3 a ha (b % 16) hb2
  unfold sw3
  rw [show (a + 256 * b) / 16 + (a + 256 * b) = (a / 16 + a + 16 * (b % 16)) + 256 * (b / 16 + b) by omega, show 1085102592571150095 = 15 + 256 * 4238682002231055 from rfl,
    and_split _ _ _ _ (by omega) (by omega), and_low (a / 16 + a) _ _ (by omega) (by omega), k1, show 4238682002231055 = 15 + 256 * 16557351571215 from rfl, and_low (b / 16 + b) _ _ (by omega) (by omega),
    and_low (b / 16 + b) 15 (15 + 256 * 16557351571215) (by omega) (by omega)]
theorem popN_split (a b : Nat) (ha : a < 256) : popN (a + 256 * b) 16 = popN a 8 + popN b 8 := by
  have hlo : ∀ j, j ≤ 8 → popN (a + 256 * b) j = popN a j := by
    intro j
    induction j with
    | zero => intro _; rfl
    | succ j ih =>
      intro hj
      show popN (a + 256 * b) j + (a + 256 * b) / 2 ^ j % 2 = popN a j + a / 2 ^ j % 2
      rw [ih (by omega)]
      have hj8 : j = 0 ∨ j = 1 ∨ j = 2 ∨ j = 3 ∨ j = 4 ∨ j = 5 ∨ j = 6 ∨ j = 7 := by omega
      rcases hj8 with rfl | rfl | rfl | rfl | rfl | rfl | rfl | rfl <;> omega
  have hhi : ∀ j, popN (a + 256 * b) (8 + j) = popN a 8 + popN b j := by
    intro j
    induction j with
    | zero => exact hlo 8 (by omega)
    | succ j ih =>
      show popN (a + 256 * b) (8 + j) + (a + 256 * b) / 2 ^ (8 + j) % 2 = popN a 8 + (popN b j + b / 2 ^ j % 2)
      rw [ih, Nat.pow_add, ← Nat.div_div_eq_div_mul, show (a + 256 * b) / 2 ^ 8 = b by omega]
      omega
  exact hhi 8
theorem swar_at (n : Nat) (h : n < 65536) : swar n = popN n 16 := by
  have e : n = n % 256 + 256 * (n / 256) := by omega
  have ha : n % 256 < 256 := by omega
  have hb : n / 256 < 256 := by omega
  generalize n % 256 = a at *
  generalize n / 256 = b at *
  subst e
  obtain ⟨a1, a2, a5, a3, a4⟩ := chk4 a ha
  obtain ⟨b1, b2, b5, b3, b4⟩ := chk4 b hb
  rw [popN_split a b ha]
  unfold swar
  rw [sw1_split a b ha hb, sw2_split _ _ a1 b1, sw3_split _ _ a2 b2 b5, a3, b3]
  generalize popN a 8 = x at *
  generalize popN b 8 = y at *
  have h4 : sw6 (sw5 (sw4 (x + 256 * y))) = x + y + 256 * y := by
    unfold sw4
    rw [show x + 256 * y + (x + 256 * y) / 256 = x + y + 256 * y by omega]
    unfold sw5
    rw [show (x + y + 256 * y) / 65536 = 0 by omega]
    unfold sw6
    omega
  rw [h4]
  exact chk5 x a4 y b4

theorem u64_nat (a : Nat) (h : a < 18446744073709551616) : IntKind.u64.wrap (a : Int) = (a : Int) := by
  show ((a : Int) % 18446744073709551616) = (a : Int)
  omega
theorem u64_and (a b : Nat) (ha : a < 18446744073709551616) (hb : b < 18446744073709551616) : bits BinOp.and IntKind.u64 (a : Int) (b : Int) = ((a &&& b : Nat) : Int) := by
  show IntKind.u64.wrap ((BitVec.ofInt 64 (a : Int) &&& BitVec.ofInt 64 (b : Int)).toNat : Nat) = _
  rw [BitVec.toNat_and, ofInt_nat _ ha, ofInt_nat _ hb, u64_nat _ (Nat.lt_of_le_of_lt Nat.and_le_left ha)]
theorem i64_and (a b : Nat) (ha : a < 9223372036854775808) (hb : b < 9223372036854775808) : bits BinOp.and IntKind.i64 (a : Int) (b : Int) = ((a &&& b : Nat) : Int) := by
  show IntKind.i64.wrap ((BitVec.ofInt 64 (a : Int) &&& BitVec.ofInt 64 (b : Int)).toNat : Nat) = _
  rw [BitVec.toNat_and, ofInt_nat _ (by omega), ofInt_nat _ (by omega)]
  have := Nat.and_le_left (n := a) (m := b)
  rw [IntKind.wrap_i64]
  omega
theorem sw_two (n d M : Nat) (hn : n < 1099511627776) (hM : M < 18446744073709551616) : IntKind.u64.wrap (bits BinOp.and IntKind.u64 ((n : Int) / (d : Int)) (M : Int) + bits BinOp.and IntKind.u64 (n : Int) (M : Int)) = (((n / d &&& M) + (n &&& M) : Nat) : Int) := by
  have h1 : n / d ≤ n := Nat.div_le_self _ _
  rw [show ((n : Int) / (d : Int)) = ((n / d : Nat) : Int) by simp, u64_and _ _ (by omega) hM, u64_and _ _ (by omega) hM]
  have h2 := Nat.and_le_left (n := n / d) (m := M)
  have h3 := Nat.and_le_left (n := n) (m := M)
  rw [← u64_nat ((n / d &&& M) + (n &&& M)) (by omega)]
  rw [show (((n / d &&& M) + (n &&& M) : Nat) : Int) = ((n / d &&& M : Nat) : Int) + ((n &&& M : Nat) : Int) by omega]
theorem sw_add (n d : Nat) (hn : n < 1099511627776) : IntKind.u64.wrap ((n : Int) + (n : Int) / (d : Int)) = ((n + n / d : Nat) : Int) := by
  have h1 : n / d ≤ n := Nat.div_le_self _ _
  rw [← u64_nat (n + n / d) (by omega), show ((n : Int) / (d : Int)) = ((n / d : Nat) : Int) by simp]
  rw [show ((n + n / d : Nat) : Int) = (n : Int) + ((n / d : Nat) : Int) by omega]
theorem sw1_le (n : Nat) : sw1 n ≤ 2 * n := by
  have h1 : n / 2 ≤ n := Nat.div_le_self _ _
  have h2 := Nat.and_le_left (n := n / 2) (m := 6148914691236517205)
  have h3 := Nat.and_le_left (n := n) (m := 6148914691236517205)
  unfold sw1; omega
theorem sw2_le (n : Nat) : sw2 n ≤ 2 * n := by
  have h1 : n / 4 ≤ n := Nat.div_le_self _ _
  have h2 := Nat.and_le_left (n := n / 4) (m := 3689348814741910323)
  have h3 := Nat.and_le_left (n := n) (m := 3689348814741910323)
  unfold sw2; omega
theorem sw3_le (n : Nat) : sw3 n ≤ 2 * n := by
  have h2 := Nat.and_le_left (n := n / 16 + n) (m := 1085102592571150095)
  unfold sw3; omega
theorem sw4_le (n : Nat) : sw4 n ≤ 2 * n := by unfold sw4; omega
theorem sw5_le (n : Nat) : sw5 n ≤ 2 * n := by unfold sw5; omega
theorem sw6_le (n : Nat) : sw6 n ≤ 2 * n := by unfold sw6; omega

set_option maxRecDepth 100000 in
set_option maxHeartbeats 4000000 in
theorem ones64_any (m : Int) (h0 : 0 ≤ m) (h1 : m < 65536) (w : World) : Calls Try.prog 75 #[.int .u64 m] w fun e w' => e = .returned (.int .i64 (markCnt m 16 : Int)) ∧ w = w' := by
  obtain ⟨n, rfl⟩ := Int.eq_ofNat_of_zero_le h0
  have hn : n < 65536 := by omega
  rw [markCnt_nat, ← swar_at n hn]
  have b1 := sw1_le n
  have b2 := sw2_le (sw1 n)
  have b3 := sw3_le (sw2 (sw1 n))
  have b4 := sw4_le (sw3 (sw2 (sw1 n)))
  have b5 := sw5_le (sw4 (sw3 (sw2 (sw1 n))))
  have b6 := sw6_le (sw5 (sw4 (sw3 (sw2 (sw1 n)))))
  have y := Lib.hid (show ∀ x1 x2 x3 x4 x5 x6 : Int, IntKind.u64.wrap (bits BinOp.and IntKind.u64 ((n : Int) / 2) 6148914691236517205 + bits BinOp.and IntKind.u64 (n : Int) 6148914691236517205) = x1 → IntKind.u64.wrap (bits BinOp.and IntKind.u64 (x1 / 4) 3689348814741910323 + bits BinOp.and IntKind.u64 x1 3689348814741910323) = x2 →
      bits BinOp.and IntKind.u64 (IntKind.u64.wrap (x2 / 16 + x2)) 1085102592571150095 = x3 → IntKind.u64.wrap (x3 + x3 / 256) = x4 → IntKind.u64.wrap (x4 + x4 / 65536) = x5 → IntKind.u64.wrap (x5 + x5 / 4294967296) = x6 → bits BinOp.and IntKind.i64 (wrap64 x6) 127 = (swar n : Int) from by
    rintro x1 x2 x3 x4 x5 x6 hx1 hx2 hx3 hx4 hx5 hx6
    have e1 : x1 = (sw1 n : Int) := hx1.symm.trans (sw_two n 2 6148914691236517205 (by omega) (by omega))
    subst e1
    have e2 : x2 = (sw2 (sw1 n) : Int) := hx2.symm.trans (sw_two (sw1 n) 4 3689348814741910323 (by omega) (by omega))
    subst e2
    have e3 : x3 = (sw3 (sw2 (sw1 n)) : Int) := by
      refine hx3.symm.trans ?_
      rw [Int.add_comm]
      have h := sw_add (sw2 (sw1 n)) 16 (by omega)
      rw [show ((16 : Nat) : Int) = 16 from rfl] at h
      rw [h]
      refine (u64_and (sw2 (sw1 n) + sw2 (sw1 n) / 16) 1085102592571150095 (by omega) (by omega)).trans ?_
      unfold sw3
      rw [Nat.add_comm]
    subst e3
    have e4 : x4 = (sw4 (sw3 (sw2 (sw1 n))) : Int) := hx4.symm.trans (sw_add _ 256 (by omega))
    subst e4
    have e5 : x5 = (sw5 (sw4 (sw3 (sw2 (sw1 n)))) : Int) := hx5.symm.trans (sw_add _ 65536 (by omega))
    subst e5
    have e6 : x6 = (sw6 (sw5 (sw4 (sw3 (sw2 (sw1 n))))) : Int) := hx6.symm.trans (sw_add _ 4294967296 (by omega))
    subst e6
    have b7 : sw6 (sw5 (sw4 (sw3 (sw2 (sw1 n))))) < 9223372036854775808 := by omega
    have e9 : swar n = (sw6 (sw5 (sw4 (sw3 (sw2 (sw1 n))))) &&& 127) := rfl
    rw [e9]
    generalize sw6 (sw5 (sw4 (sw3 (sw2 (sw1 n))))) = z at *
    have e7 : wrap64 (z : Int) = (z : Int) := by unfold wrap64; omega
    have e8 := i64_and z 127 b7 (by omega)
    rw [show ((127 : Nat) : Int) = 127 from rfl] at e8
    rw [e7, e8])
  clear b1 b2 b3 b4 b5 b6
  go_enter Try.func75, Try.ntmps75
  go_upto_region 2 with fail
  generalize hx1 : IntKind.u64.wrap (bits BinOp.and IntKind.u64 _ _ + bits BinOp.and IntKind.u64 _ _) = x1
  go_upto_region 3 with fail
  generalize hx2 : IntKind.u64.wrap (bits BinOp.and IntKind.u64 _ _ + bits BinOp.and IntKind.u64 _ _) = x2
  go_upto_region 4 with fail
  generalize hx3 : bits BinOp.and IntKind.u64 (IntKind.u64.wrap _) _ = x3
  go_upto_region 5 with fail
  generalize hx4 : IntKind.u64.wrap (x3 + _) = x4
  go_upto_region 6 with fail
  generalize hx5 : IntKind.u64.wrap (x4 + _) = x5
  go_upto_region 7 with fail
  generalize hx6 : IntKind.u64.wrap (x5 + _) = x6
  have y2 := Lib.hid (y.out x1 x2 x3 x4 x5 x6 hx1 hx2 hx3 hx4 hx5 hx6)
  clear hx1 hx2 hx3 hx4 hx5 hx6
  go_wp2_with fail
  rw [y2.out]
  go_ret
  exact ⟨rfl, rfl⟩
set_option maxRecDepth 100000 in
set_option maxHeartbeats 4000000 in
theorem ones_any (m : Int) (h0 : 0 ≤ m) (h1 : m < 65536) (w : World) : Calls Try.prog 65 #[.int .u64 m] w fun e w' => e = .returned (.int .i64 (markCnt m 16 : Int)) ∧ w = w' := by
  have hc := Lib.hid (fun w => ones64_any m h0 h1 w)
  generalize (markCnt m 16 : Int) = r at *
  go_enter Try.func65, Try.ntmps65
  go_wp2_with (go_at_call 75; refine (hc.out _).mono ?_; rintro e w' ⟨rfl, rfl⟩)
  go_ret
  exact ⟨rfl, rfl⟩
end Go.Proofs.Ytefmejhabakghaa
