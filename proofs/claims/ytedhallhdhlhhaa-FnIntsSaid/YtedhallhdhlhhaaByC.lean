/-
  The check sum: the program's Crc and the model's are one plain function of the bytes. No conditions but that the text has at most 2^62 bytes.
-/
import Derived.Test.YtedhallhdhlhhaaByW
namespace Go.Proofs.Ytedhallhdhlhhaa
open Go.RowKit
set_option linter.unusedVariables false

/-- One bit further. -/
def crT (w : Nat) : Nat := if w < 2147483648 then 2 * w else (2 * w - 4294967296) ^^^ 79764919
def crI : Nat → Nat → Nat
  | 0, w => w
  | k + 1, w => crT (crI k w)
def crB (w : Nat) (b : UInt8) : Nat := crI 8 (w ^^^ (b.toNat * 16777216))
def crL (l : List UInt8) (w : Nat) : Nat := l.foldl crB w
def crc (l : List UInt8) : Nat := 4294967295 - crL l 4294967295

theorem crT_lt {w : Nat} (h : w < 4294967296) : crT w < 4294967296 := by
  unfold crT
  split
  · omega
  · have := Nat.xor_lt_two_pow (n := 32) (x := 2 * w - 4294967296) (y := 79764919) (by omega) (by decide)
    omega
theorem crI_lt {w : Nat} (h : w < 4294967296) : ∀ k, crI k w < 4294967296
  | 0 => h
  | k + 1 => crT_lt (crI_lt h k)
theorem crX_lt {w : Nat} (h : w < 4294967296) (b : UInt8) : w ^^^ (b.toNat * 16777216) < 4294967296 := by
  have hb := b.toNat_lt
  have := Nat.xor_lt_two_pow (n := 32) (x := w) (y := b.toNat * 16777216) (by omega) (by omega)
  omega
theorem crB_lt {w : Nat} (h : w < 4294967296) (b : UInt8) : crB w b < 4294967296 := crI_lt (crX_lt h b) 8
theorem crL_lt (l : List UInt8) : ∀ {w : Nat}, w < 4294967296 → crL l w < 4294967296 := by
  unfold crL
  induction l with
  | nil => intro w h; rw [List.foldl_nil]; exact h
  | cons b r ih => intro w h; rw [List.foldl_cons]; exact ih (crB_lt h b)
theorem crc_lt (l : List UInt8) : crc l < 4294967296 := by unfold crc; omega
theorem crL_snoc (l : List UInt8) (b : UInt8) (w : Nat) : crL (l ++ [b]) w = crB (crL l w) b := by unfold crL; rw [List.foldl_append, List.foldl_cons, List.foldl_nil]

theorem take_snoc (s : ByteArray) (k : Nat) (h : k < s.size) : s.data.toList.take (k + 1) = s.data.toList.take k ++ [s[k]] := by
  rw [List.take_succ_eq_append_getElem (by simpa using h)]; rfl

theorem crT_low {d : Nat} (h : d < 2147483648) : Value.int .u32 (bits .xor .u32 ((d : Int) * 2) 0) = .int .u32 (crT d : Nat) := by
  have e := u32_xor_nat (2 * d) 0 (by omega) (by decide)
  rw [show ((2 * d : Nat) : Int) = (d : Int) * 2 by omega, Nat.xor_zero] at e
  have e' : bits .xor .u32 ((d : Int) * 2) 0 = ((2 * d : Nat) : Int) := e
  rw [e']
  unfold crT
  rw [if_pos h]
theorem crT_low' {d : Nat} (h : d < 2147483648) : Value.int .u32 ((d : Int) * 2) = .int .u32 (crT d : Nat) := by
  unfold crT
  rw [if_pos h, show ((2 * d : Nat) : Int) = (d : Int) * 2 by omega]
theorem crT_high {d : Nat} (h : ¬ d < 2147483648) (hd : d < 4294967296) : Value.int .u32 (bits .xor .u32 ((d : Int) * 2 % 4294967296) 79764919) = .int .u32 (crT d : Nat) := by
  have e := u32_xor_nat (2 * d - 4294967296) 79764919 (by omega) (by decide)
  rw [show ((2 * d - 4294967296 : Nat) : Int) = (d : Int) * 2 % 4294967296 by omega] at e
  have e' : bits .xor .u32 ((d : Int) * 2 % 4294967296) 79764919 = (((2 * d - 4294967296) ^^^ 79764919 : Nat) : Int) := e
  rw [e']
  unfold crT
  rw [if_neg h]
theorem xor_ones32 (b : Nat) (hb : b < 2 ^ 32) : (2 ^ 32 - 1) ^^^ b = 2 ^ 32 - 1 - b := by
  apply Nat.eq_of_testBit_eq
  intro i
  rw [Nat.testBit_xor, Nat.testBit_two_pow_sub_one, show 2 ^ 32 - 1 - b = 2 ^ 32 - (b + 1) by omega, Nat.testBit_two_pow_sub_succ hb]
  by_cases hi : i < 32
  · simp [hi]
  · have : b.testBit i = false := Nat.testBit_lt_two_pow (Nat.lt_of_lt_of_le hb (Nat.pow_le_pow_right (by decide) (by omega)))
    simp [hi, this]
theorem cr_end (c : Nat) (hc : c < 4294967296) : bits .xor .u32 IntKind.u32.max (c : Int) = ((4294967295 - c : Nat) : Int) := by
  have e := u32_xor_nat (2 ^ 32 - 1) c (by decide) hc
  rw [xor_ones32 c (by omega)] at e
  exact e

set_option maxHeartbeats 400000 in
theorem crc_any (s : ByteArray) (hs : s.size ≤ 4611686018427387904) (w : World) : Calls Try.prog 29 #[.string s] w fun e w' => e = .returned (.int .i64 (crc s.data.toList : Nat)) ∧ w = w' := by
  go_enter Try.func29, Try.ntmps29
  go_wp2
  go_loop [3, 8] (fun q i => ∃ k : Nat, k ≤ s.size ∧ i = .int .i64 k ∧ q = .int .u32 (crL (s.data.toList.take k) 4294967295 : Nat)) (fun _ i => s.size - (intOf i).toNat)
  case atStart => exact ⟨0, Nat.zero_le _, rfl, rfl⟩
  case round =>
    obtain ⟨k, hk, rfl, rfl⟩ := hrel
    by_cases hlt : k < s.size
    · obtain ⟨c, hc⟩ : ∃ c, c = crL (s.data.toList.take k) 4294967295 := ⟨_, rfl⟩
      rw [← hc]
      have hcl : c < 4294967296 := by rw [hc]; exact crL_lt _ (by decide)
      have HC := Lib.hid hc
      clear hc
      obtain ⟨c0, hc0⟩ : ∃ c0 : Nat, c0 = c ^^^ (s[k].toNat * 16777216) := ⟨_, rfl⟩
      have hx : bits .xor .u32 (c : Int) ((s[k].toNat : Int) % 4294967296 * 16777216 % 4294967296) = (c0 : Int) := by
        have hb := s[k].toNat_lt
        rw [show (s[k].toNat : Int) % 4294967296 * 16777216 % 4294967296 = ((s[k].toNat * 16777216 : Nat) : Int) by omega, u32_xor_nat _ _ hcl (by omega), hc0]
      have hcl0 : c0 < 4294967296 := by rw [hc0]; exact crX_lt hcl _
      have HC0 := Lib.hid hc0
      clear hc0
      go_wp2
      clear hx
      go_loop [3, 18] (fun q i => ∃ j : Nat, j ≤ 8 ∧ i = .int .i64 j ∧ q = .int .u32 (crI j c0 : Nat)) (fun _ i => 8 - (intOf i).toNat)
      case atStart => exact ⟨0, by omega, rfl, rfl⟩
      case round =>
        obtain ⟨j, hj, rfl, rfl⟩ := hrel
        obtain ⟨d, hd⟩ : ∃ d, d = crI j c0 := ⟨_, rfl⟩
        have hdl : d < 4294967296 := by rw [hd]; exact crI_lt hcl0 j
        have hn : crI (j + 1) c0 = crT d := by rw [hd]; rfl
        rw [← hd]
        have HD := Lib.hid hd
        have HN := Lib.hid hn
        clear hd hn
        by_cases hj8 : j < 8
        · by_cases hdh : d < 2147483648
          · have hq : (d : Int) / 2147483648 = 0 := by omega
            go_wp2
            go_round
            case rel => exact ⟨j + 1, by omega, by go_num, by rw [HN.out, crT_low hdh]⟩
            case measure => simp [intOf]; omega
          · have hq : (d : Int) / 2147483648 = 1 := by omega
            go_wp2
            go_round
            case rel => exact ⟨j + 1, by omega, by go_num, by rw [HN.out, crT_high hdh hdl]⟩
            case measure => simp [intOf]; omega
        · obtain rfl : j = 8 := by omega
          go_wp2
          go_round
          case rel => exact ⟨k + 1, by omega, by go_num, by rw [take_snoc s k hlt, crL_snoc, ← HC.out]; unfold crB; rw [← HC0.out, HD.out]⟩
          case measure => simp [intOf]; omega
    · obtain rfl : k = s.size := by omega
      have hsg : IntKind.u32.signed = false := rfl
      have hcl := crL_lt s.data.toList (w := 4294967295) (by decide)
      rw [List.take_of_length_le (by simp)]
      obtain ⟨c, hc⟩ : ∃ c, c = crL s.data.toList 4294967295 := ⟨_, rfl⟩
      have he : crc s.data.toList = 4294967295 - c := by rw [hc]; rfl
      rw [← hc] at hcl ⊢
      have hx := cr_end c hcl
      have HE := Lib.hid he
      clear hc he
      go_wp2
      go_ret
      exact ⟨ret_int (by rw [HE.out]), rfl⟩

set_option maxHeartbeats 400000 in
theorem spec_crc_any (s : ByteArray) (hs : s.size ≤ 4611686018427387904) (w : World) : Calls Try.prog 28 #[.string s] w fun e w' => e = .returned (.int .i64 (crc s.data.toList : Nat)) ∧ w = w' := by
  go_enter Try.func28, Try.ntmps28
  go_wp2
  go_loop [3, 4] (fun q i => ∃ k : Nat, k ≤ s.size ∧ i = .int .i64 k ∧ q = .int .u32 (crL (s.data.toList.take k) 4294967295 : Nat)) (fun _ i => s.size - (intOf i).toNat)
  case atStart => exact ⟨0, Nat.zero_le _, rfl, rfl⟩
  case round =>
    obtain ⟨k, hk, rfl, rfl⟩ := hrel
    by_cases hlt : k < s.size
    · obtain ⟨c, hc⟩ : ∃ c, c = crL (s.data.toList.take k) 4294967295 := ⟨_, rfl⟩
      rw [← hc]
      have hcl : c < 4294967296 := by rw [hc]; exact crL_lt _ (by decide)
      have HC := Lib.hid hc
      clear hc
      obtain ⟨c0, hc0⟩ : ∃ c0 : Nat, c0 = c ^^^ (s[k].toNat * 16777216) := ⟨_, rfl⟩
      have hx : bits .xor .u32 (c : Int) ((s[k].toNat : Int) % 4294967296 * 16777216 % 4294967296) = (c0 : Int) := by
        have hb := s[k].toNat_lt
        rw [show (s[k].toNat : Int) % 4294967296 * 16777216 % 4294967296 = ((s[k].toNat * 16777216 : Nat) : Int) by omega, u32_xor_nat _ _ hcl (by omega), hc0]
      have hcl0 : c0 < 4294967296 := by rw [hc0]; exact crX_lt hcl _
      have HC0 := Lib.hid hc0
      clear hc0
      go_wp2
      clear hx
      go_loop [3, 5] (fun q i => ∃ j : Nat, j ≤ 8 ∧ i = .int .i64 j ∧ q = .int .u32 (crI j c0 : Nat)) (fun _ i => 8 - (intOf i).toNat)
      case atStart => exact ⟨0, by omega, rfl, rfl⟩
      case round =>
        obtain ⟨j, hj, rfl, rfl⟩ := hrel
        obtain ⟨d, hd⟩ : ∃ d, d = crI j c0 := ⟨_, rfl⟩
        have hdl : d < 4294967296 := by rw [hd]; exact crI_lt hcl0 j
        have hn : crI (j + 1) c0 = crT d := by rw [hd]; rfl
        rw [← hd]
        have HD := Lib.hid hd
        have HN := Lib.hid hn
        clear hd hn
        by_cases hj8 : j < 8
        · by_cases hdh : d < 2147483648
          · have hq : (d : Int) / 2147483648 = 0 := by omega
            go_wp2
            go_round
            case rel => exact ⟨j + 1, by omega, by go_num, by rw [HN.out, crT_low' hdh]⟩
            case measure => simp [intOf]; omega
          · have hq : (d : Int) / 2147483648 = 1 := by omega
            go_wp2
            go_round
            case rel => exact ⟨j + 1, by omega, by go_num, by rw [HN.out, crT_high hdh hdl]⟩
            case measure => simp [intOf]; omega
        · obtain rfl : j = 8 := by omega
          go_wp2
          go_round
          case rel => exact ⟨k + 1, by omega, by go_num, by rw [take_snoc s k hlt, crL_snoc, ← HC.out]; unfold crB; rw [← HC0.out, HD.out]⟩
          case measure => simp [intOf]; omega
    · obtain rfl : k = s.size := by omega
      have hsg : IntKind.u32.signed = false := rfl
      have hcl := crL_lt s.data.toList (w := 4294967295) (by decide)
      rw [List.take_of_length_le (by simp)]
      obtain ⟨c, hc⟩ : ∃ c, c = crL s.data.toList 4294967295 := ⟨_, rfl⟩
      have he : crc s.data.toList = 4294967295 - c := by rw [hc]; rfl
      rw [← hc] at hcl ⊢
      have hx := cr_end c hcl
      have HE := Lib.hid he
      clear hc he
      go_wp2
      go_ret
      exact ⟨ret_int (by rw [HE.out]), rfl⟩
end Go.Proofs.Ytedhallhdhlhhaa
