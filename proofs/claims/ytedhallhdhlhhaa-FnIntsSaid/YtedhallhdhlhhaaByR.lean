/-
  What a text begins with: the program's signed, readNumber, readSize, readByte. Condition: the text has at most 2^47 bytes.
-/
import Derived.Test.YtedhallhdhlhhaaByP
import Derived.Laws.Shifts
namespace Go.Proofs.Ytedhallhdhlhhaa
open Go.RowKit
set_option linter.unusedVariables false

set_option maxHeartbeats 400000 in
theorem signed_any (u : Nat) (hu : u < 2 ^ 64) (w : World) : Calls Try.prog 54 #[.int .u64 (u : Int)] w fun e w' => e = .returned (.int .i64 (Lib.unzigzag u)) ∧ w = w' := by
  have ha := Lib.u64_and1 (u : Int) (by omega) (by omega)
  by_cases h : u % 2 = 0
  · have hq : (u : Int) % 2 = 0 := by omega
    have hz : Lib.unzigzag u = (u : Int) / 2 := by unfold Lib.unzigzag; rw [if_pos h]; omega
    rw [hz]
    clear hz h
    go_enter Try.func54, Try.ntmps54
    go_wp2
    go_ret
    exact ⟨ret_int (by first | rfl | omega), rfl⟩
  · have hq : (u : Int) % 2 = 1 := by omega
    have hz : Lib.unzigzag u = -1 - (u : Int) / 2 := by unfold Lib.unzigzag; rw [if_neg h]; omega
    rw [hz]
    clear hz h
    go_enter Try.func54, Try.ntmps54
    go_wp2
    go_ret
    exact ⟨ret_int (by first | rfl | omega), rfl⟩

set_option maxRecDepth 100000 in
theorem u8_low (x : Nat) (h : x < 256) : bits .andNot .u8 (x : Int) 128 = ((x % 128 : Nat) : Int) := by
  have e := u8_andNot_nat x 128 (by omega) (by decide)
  have e2 : ∀ x : Fin 256, x.val &&& (255 - 128) = x.val % 128 := by decide
  have h2 : x &&& (255 - 128) = x % 128 := e2 ⟨x, h⟩
  rw [h2] at e
  exact e
theorem shl7 (b j X : Nat) (hX : X = b % 128 * 128 ^ j % 2 ^ 64) : Op.shift .shl .u64 ((b : Int) % 128) .i64 ((j : Int) * 7) = pure (.int .u64 (X : Int)) := by
  rw [shift_shl_any .u64 .i64 _ _ (by omega), IntKind.wrap_u64]
  congr 2
  have e : ((j : Int) * 7).toNat = 7 * j := by omega
  have hb : IntKind.u64.bits = 64 := rfl
  rw [e, hb]
  have hp : (128 : Nat) ^ j = 2 ^ (7 * j) := by rw [Nat.pow_mul]
  have key : X = b % 128 * 2 ^ min (7 * j) 64 % 2 ^ 64 := by
    rw [hX, hp]
    by_cases h : 7 * j ≤ 64
    · rw [Nat.min_eq_left h]
    · rw [Nat.min_eq_right (by omega), Nat.mul_mod_left, show 7 * j = (7 * j - 64) + 64 by omega, Nat.pow_add, ← Nat.mul_assoc, Nat.mul_mod_left]
  rw [key]
  simp
theorem list_at (s : ByteArray) (i : Nat) (h : i < s.size) (h' : i < s.data.toList.length) : s.data.toList[i] = s[i] := rfl

set_option maxRecDepth 100000 in
set_option maxHeartbeats 1000000 in
theorem readNumber_short (s : ByteArray) (hs : s.size ≤ 140737488355328) (hl : lead s.data.toList = s.size) (w : World) : Calls Try.prog 38 #[.string s] w fun e w' => e = .returned (.tuple #[.int .i64 0, .int .i64 0, .int .i64 1]) ∧ w = w' := by
  have HL := Lib.hid hl
  clear hl
  go_enter Try.func38, Try.ntmps38
  go_wp2
  go_loop [5] (fun i => ∃ k : Nat, k ≤ s.size ∧ i = .int .i64 k) (fun i => s.size - (intOf i).toNat)
  case atStart => exact ⟨0, Nat.zero_le _, rfl⟩
  case round =>
    obtain ⟨k, hk, rfl⟩ := hrel
    by_cases hlt : k < s.size
    · have hb := lead_big s.data.toList k (by simpa using hlt) (by rw [HL.out]; exact hlt)
      rw [list_at s k hlt] at hb
      go_wp2
      go_round
      case rel => exact ⟨k + 1, by omega, by go_num⟩
      case measure => simp [intOf]; omega
    · obtain rfl : k = s.size := by omega
      go_wp2
      go_ret3
      exact ⟨rfl, rfl⟩

set_option maxRecDepth 100000 in
set_option maxHeartbeats 1000000 in
/-- What readNumber tells: the number and how many bytes, or that they are not as PutInt writes them. -/
theorem readNumber_at (s : ByteArray) (hs : s.size ≤ 140737488355328) (m : Nat) (n : Int) (ok : Bool) (hm : m = lead s.data.toList) (hl : m < s.size) (hn : n = Lib.unzigzag (val (s.data.toList.take (m + 1)) % 2 ^ 64)) (he : (pi n == s.data.toList.take (m + 1)) = ok) (w : World) :
    Calls Try.prog 38 #[.string s] w fun e w' => e = .returned (if ok then .tuple #[.int .i64 n, .int .i64 ((m : Int) + 1), .int .i64 0] else .tuple #[.int .i64 0, .int .i64 0, .int .i64 3]) ∧ Below w.heap.size w w' := by
  have hin : I64 n := by
    have := unzigzag_in (u := val (s.data.toList.take (m + 1)) % 2 ^ 64) (Nat.mod_lt _ (by decide))
    rw [hn]; exact this
  have Hm := Lib.hid hm
  have Hn := Lib.hid hn
  have He := Lib.hid he
  have Hin := Lib.hid hin
  clear hm hn he hin
  go_enter Try.func38, Try.ntmps38
  go_wp2
  go_loop [5] (fun i => ∃ k : Nat, k ≤ m ∧ i = .int .i64 k) (fun i => m - (intOf i).toNat)
  case atStart => exact ⟨0, Nat.zero_le _, rfl⟩
  case round =>
    obtain ⟨k, hk, rfl⟩ := hrel
    by_cases hlt : k < m
    · have hb := lead_big s.data.toList k (by have := s.data.size; simp; omega) (by rw [← Hm.out]; exact hlt)
      rw [list_at s k (by omega)] at hb
      go_wp2
      go_round
      case rel => exact ⟨k + 1, by omega, by go_num⟩
      case measure => simp [intOf]; omega
    · obtain rfl : k = m := by omega
      have hb : (s[k]).toNat < 128 := by
        have := lead_low s.data.toList (by rw [← Hm.out]; simpa using hl)
        have h2 : s.data.toList[lead s.data.toList]'(by rw [← Hm.out]; simpa using hl) = s[k] := by simp only [← Hm.out]; rfl
        rw [h2] at this
        exact this
      go_wp2
      go_loop [7, 29] (fun q i => ∃ j : Nat, j ≤ k + 1 ∧ i = .int .i64 j ∧ q = .int .u64 (val (s.data.toList.take j) % 2 ^ 64 : Nat)) (fun _ i => (k + 1) - (intOf i).toNat)
      case atStart => exact ⟨0, by omega, rfl, rfl⟩
      case round =>
        obtain ⟨j, hj, rfl, rfl⟩ := hrel
        by_cases hlt2 : j < k + 1
        · obtain ⟨v, hv⟩ : ∃ v, v = val (s.data.toList.take j) % 2 ^ 64 := ⟨_, rfl⟩
          have hsl : s.data.toList.length = s.size := by simp
          have hor := or_step s.data.toList j (by omega)
          rw [← hv, list_at s j (by omega)] at hor
          have hlo := u8_low (s[j]).toNat (s[j]).toNat_lt
          rw [← hv]
          obtain ⟨X, hX⟩ : ∃ X, X = (s[j]).toNat % 128 * 128 ^ j % 2 ^ 64 := ⟨_, rfl⟩
          have hsh := shl7 (s[j]).toNat j X hX
          rw [← hX] at hor
          obtain ⟨Y, hY⟩ : ∃ Y, Y = val (s.data.toList.take (j + 1)) % 2 ^ 64 := ⟨_, rfl⟩
          rw [← hY] at hor
          have HY := Lib.hid hY
          clear hv hX hY
          go_wp2
          go_round
          case rel => exact ⟨j + 1, by omega, by go_num, by rw [HY.out]⟩
          case measure => simp [intOf]; omega
        · obtain rfl : j = k + 1 := by omega
          obtain ⟨v, hv⟩ : ∃ v, v = val (s.data.toList.take (k + 1)) % 2 ^ 64 := ⟨_, rfl⟩
          rw [← hv]
          have hvl : v < 2 ^ 64 := by rw [hv]; exact Nat.mod_lt _ (by decide)
          have hnv : n = Lib.unzigzag v := by rw [hv]; exact Hn.out
          have HN := Lib.hid hnv
          have HV := Lib.hid hvl
          have hx : (s.extract 0 (k + 1)).toList = s.data.toList.take (k + 1) := by
            rw [ByteArray.toList_eq]; simp
          have hcmp : (pi n == (s.extract 0 (k + 1)).toList) = ok := by rw [hx]; exact He.out
          clear hv hvl hnv hx
          cases ok
          · go_wp2_with (go_at_call 54; refine (signed_any v HV.out _).mono ?_; rintro e w' ⟨rfl, rfl⟩; rw [← HN.out])
            refine wp_region_ext (Below.refl _ _) (by kernel_rfl) (by kernel_rfl) ?_
            repeat (go_big_quiet_step ((go_at_call 15; exact Ext.call (putInt_any n Hin.out _))))
            refine wpQuiet_nil ?_
            intro _ hw'
            obtain ⟨x9, hw''⟩ := hw'
            subst hw''
            go_wp2
            go_ret3
            exact ⟨rfl, x9.below⟩
          · go_wp2_with (go_at_call 54; refine (signed_any v HV.out _).mono ?_; rintro e w' ⟨rfl, rfl⟩; rw [← HN.out])
            refine wp_region_ext (Below.refl _ _) (by kernel_rfl) (by kernel_rfl) ?_
            repeat (go_big_quiet_step ((go_at_call 15; exact Ext.call (putInt_any n Hin.out _))))
            refine wpQuiet_nil ?_
            intro _ hw'
            obtain ⟨x9, hw''⟩ := hw'
            subst hw''
            go_wp2
            go_ret3
            exact ⟨rfl, x9.below⟩

/-- What a reader tells of the bytes l: the number, how many bytes, the code. -/
structure RdI where
  n : Int
  k : Nat
  c : Int
def RdI.val (r : RdI) : Value := .tuple #[.int .i64 r.n, .int .i64 r.k, .int .i64 r.c]
def rNum (l : List UInt8) : RdI := if lead l = l.length then ⟨0, 0, 1⟩ else match getN l with
  | some (n, k) => ⟨n, k, 0⟩
  | none => ⟨0, 0, 3⟩
def rSize (l : List UInt8) : RdI := if (rNum l).c = 0 ∧ ¬ (0 ≤ (rNum l).n ∧ (rNum l).n ≤ 200000) then ⟨0, 0, 3⟩ else rNum l
def rWord (l : List UInt8) : RdI := if l.length < 4 then ⟨0, 0, 1⟩ else ⟨getW l, 4, 0⟩
def rByte (l : List UInt8) : RdI := match l with
  | [] => ⟨0, 0, 1⟩
  | b :: _ => ⟨b.toNat, 1, 0⟩
/-- It is as a reader tells: a number of 64 bits, no more bytes than there are, and 0 with a code. -/
structure RdI.Ok (r : RdI) (l : List UInt8) : Prop where
  n : I64 r.n
  k : r.k ≤ l.length
  c : r.c = 0 ∨ r.c = 1 ∨ r.c = 3
theorem rNum_ok (l : List UInt8) : (rNum l).Ok l := by
  unfold rNum
  split
  · exact ⟨by constructor <;> decide, Nat.zero_le _, .inr (.inl rfl)⟩
  · split
    · rename_i n k h
      obtain ⟨rfl, h2, _, h4, h5⟩ := getN_some h
      exact ⟨⟨h4, h5⟩, h2, .inl rfl⟩
    · exact ⟨by constructor <;> decide, Nat.zero_le _, .inr (.inr rfl)⟩
theorem rSize_ok (l : List UInt8) : (rSize l).Ok l := by
  unfold rSize
  split
  · exact ⟨by constructor <;> decide, Nat.zero_le _, .inr (.inr rfl)⟩
  · exact rNum_ok l
theorem rWord_ok (l : List UInt8) : (rWord l).Ok l := by
  unfold rWord
  split
  · exact ⟨by constructor <;> decide, Nat.zero_le _, .inr (.inl rfl)⟩
  · have := getW_lt l
    refine ⟨?_, ?_, .inl rfl⟩
    · unfold I64
      show _ ≤ ((getW l : Nat) : Int) ∧ ((getW l : Nat) : Int) ≤ _
      omega
    · show 4 ≤ l.length
      omega
theorem rByte_ok (l : List UInt8) : (rByte l).Ok l := by
  unfold rByte
  split
  · exact ⟨by constructor <;> decide, Nat.zero_le _, .inr (.inl rfl)⟩
  · rename_i b r
    have := b.toNat_lt
    refine ⟨?_, by simp, .inl rfl⟩
    unfold I64
    show _ ≤ ((b.toNat : Nat) : Int) ∧ ((b.toNat : Nat) : Int) ≤ _
    omega

theorem readNumber_any (s : ByteArray) (hs : s.size ≤ 140737488355328) (w : World) : Calls Try.prog 38 #[.string s] w fun e w' => e = .returned (rNum s.data.toList).val ∧ Below w.heap.size w w' := by
  have hsl : s.data.toList.length = s.size := by simp
  have hle := lead_le s.data.toList
  by_cases hl : lead s.data.toList = s.data.toList.length
  · refine (readNumber_short s hs (by omega) w).mono fun e w' ⟨he, hw⟩ => ?_
    subst hw
    refine ⟨?_, Below.refl _ _⟩
    rw [he]
    unfold rNum
    rw [if_pos hl]
    rfl
  · refine (readNumber_at s hs _ _ _ rfl (by omega) rfl rfl w).mono fun e w' ⟨he, hb⟩ => ⟨?_, hb⟩
    rw [he]
    unfold rNum
    rw [if_neg hl]
    unfold getN
    by_cases hp : pi (Lib.unzigzag (val (s.data.toList.take (lead s.data.toList + 1)) % 2 ^ 64)) = s.data.toList.take (lead s.data.toList + 1)
    · rw [if_pos (beq_iff_eq.2 hp), if_pos ⟨by omega, hp⟩]
      rfl
    · rw [if_neg (fun h => hp (beq_iff_eq.1 h)), if_neg (fun h => hp h.2)]
      rfl

set_option maxHeartbeats 400000 in
theorem readSize_any (s : ByteArray) (hs : s.size ≤ 140737488355328) (w : World) : Calls Try.prog 47 #[.string s] w fun e w' => e = .returned (rSize s.data.toList).val ∧ Below w.heap.size w w' := by
  have hk := readNumber_any s hs
  have hok := rNum_ok s.data.toList
  obtain ⟨r, hr⟩ : ∃ r, r = rNum s.data.toList := ⟨_, rfl⟩
  have hz : rSize s.data.toList = if r.c = 0 ∧ ¬ (0 ≤ r.n ∧ r.n ≤ 200000) then ⟨0, 0, 3⟩ else r := by rw [hr]; rfl
  rw [hz]
  rw [← hr] at hk hok
  have HK := Lib.hid hk
  clear hz hr hk
  obtain ⟨n, k, c⟩ := r
  obtain ⟨_, _, hc⟩ := hok
  simp only [RdI.val] at HK ⊢
  change (c = 0 ∨ c = 1 ∨ c = 3) at hc
  by_cases h0 : c = 0
  · subst h0
    by_cases hn : 0 ≤ n ∧ n ≤ 200000
    · have HB := Lib.hid (inB_yes hn.1 hn.2)
      rw [if_neg (fun h => h.2 hn)]
      clear hc
      obtain ⟨hn1, hn2⟩ := hn
      go_enter Try.func47, Try.ntmps47
      go_wp2_with (first
        | (go_at_call 38; refine (HK.out _).mono ?_; rintro e w' ⟨rfl, hb⟩)
        | (go_at_call 45; refine (isIn_eq HB.out _).mono ?_; rintro e w' ⟨rfl, rfl⟩))
      go_ret3
      exact ⟨rfl, hb⟩
    · have HB := Lib.hid (inB_no (n := n) (l := 0) (h := 200000) (by omega))
      rw [if_pos ⟨rfl, hn⟩]
      clear hc hn
      go_enter Try.func47, Try.ntmps47
      go_wp2_with (first
        | (go_at_call 38; refine (HK.out _).mono ?_; rintro e w' ⟨rfl, hb⟩)
        | (go_at_call 45; refine (isIn_eq HB.out _).mono ?_; rintro e w' ⟨rfl, rfl⟩))
      go_ret3
      exact ⟨rfl, hb⟩
  · rw [if_neg (fun h => h0 h.1)]
    have hcb : (c == 0) = false := beq_eq_false_iff_ne.2 h0
    clear hc
    go_enter Try.func47, Try.ntmps47
    go_wp2_with (go_at_call 38; refine (HK.out _).mono ?_; rintro e w' ⟨rfl, hb⟩)
    go_ret3
    exact ⟨rfl, hb⟩

set_option maxHeartbeats 400000 in
theorem readByte_any (s : ByteArray) (hs : s.size ≤ 140737488355328) (w : World) : Calls Try.prog 46 #[.string s] w fun e w' => e = .returned (rByte s.data.toList).val ∧ Below w.heap.size w w' := by
  have hsl : s.data.toList.length = s.size := by simp
  by_cases h : s.size = 0
  · have hz : rByte s.data.toList = ⟨0, 0, 1⟩ := by
      have : s.data.toList = [] := List.length_eq_zero_iff.1 (by omega)
      rw [this]; rfl
    rw [hz]
    clear hz hsl
    simp only [RdI.val]
    go_enter Try.func46, Try.ntmps46
    go_wp2
    go_ret3
    exact ⟨rfl, Below.refl _ _⟩
  · have hz : rByte s.data.toList = ⟨(s[0]'(by omega)).toNat, 1, 0⟩ := by
      have h0 : 0 < s.data.toList.length := by omega
      have e : s.data.toList = s.data.toList[0] :: s.data.toList.drop 1 := List.drop_eq_getElem_cons h0
      rw [e]
      rfl
    rw [hz]
    clear hz
    simp only [RdI.val]
    have ix := index_at s 0 (by omega) 0 rfl
    have hlt : 0 < s.size := by omega
    have hb := (s[0]'(by omega)).toNat_lt
    obtain ⟨x, hx⟩ : ∃ x, x = (s[0]'(by omega)).toNat := ⟨_, rfl⟩
    rw [← hx] at ix hb ⊢
    clear hx
    go_enter Try.func46, Try.ntmps46
    go_wp2
    go_ret3
    exact ⟨rfl, Below.refl _ _⟩
theorem readWord_any (s : ByteArray) (hs : s.size ≤ 140737488355328) (w : World) : Calls Try.prog 50 #[.string s] w fun e w' => e = .returned (rWord s.data.toList).val ∧ Below w.heap.size w w' := by
  have hsl : s.data.toList.length = s.size := by simp
  unfold rWord
  by_cases h : s.size < 4
  · rw [if_pos (by omega)]
    exact (readWord_no s h w).mono fun e w' ⟨he, hw⟩ => ⟨he, hw ▸ Below.refl _ _⟩
  · rw [if_neg (by omega)]
    exact (readWord_yes s (by omega) (by omega) w).mono fun e w' ⟨he, hw⟩ => ⟨he, hw ▸ Below.refl _ _⟩
end Go.Proofs.Ytedhallhdhlhhaa
