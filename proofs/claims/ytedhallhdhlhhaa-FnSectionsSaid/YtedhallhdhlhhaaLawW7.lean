/-
  The walks of FnWords32 and FnSections.
-/
import Derived.Test.YtedhallhdhlhhaaDrawB7
import Derived.Test.YtedhallhdhlhhaaSec7
namespace Go.Proofs.Ytedhallhdhlhhaa
open Go.RowKit
set_option linter.unusedVariables false

theorem getWd_yes (pre : List UInt8) (n : Nat) (hn : n < 4294967296) : getWd (pre ++ putW n) (pre.length : Int) = ((n : Int), true) := by
  unfold getWd
  have h : 0 ≤ (pre.length : Int) ∧ (pre.length : Int) + 4 ≤ ((pre ++ putW n).length : Int) := by rw [List.length_append, putW_length]; omega
  have hg := getW_putW hn []
  rw [List.append_nil] at hg
  rw [if_pos h, Int.toNat_natCast, List.drop_left' rfl, hg]
theorem getWd_no (n : Nat) : getWd (putW n) 1 = (0, false) := by
  unfold getWd
  rw [if_neg]
  rw [putW_length]
  decide

set_option maxRecDepth 100000 in
set_option maxHeartbeats 1000000 in
theorem words_walk (a : Option Addr) (len cap : Nat) (w : World) (hb : Bytes w a len) (ha : 0 < len → ∀ x, a = some x → x.block < w.heap.size) :
    Calls Try.prog 6 #[.slice a len cap] w fun e w' => e = .returned (.bool true) ∧ Below w.heap.size w w' := by
  have hd := Lib.hid (drawPutWord_any a len cap w hb ha)
  have HS := Lib.hid (fun v => sections_any v)
  clear hb ha
  go_enter Try.func6, Try.ntmps6
  go_wp2_with fail
  refine hd.out.mono ?_
  rintro e w1 ⟨n, rfl, hn, b1⟩
  have B1 := Lib.hid b1
  have HP := Lib.hid (fun v => putWord_any n v)
  clear b1 hd
  by_cases h : n < 0 ∨ 4294967295 < n
  · have e0 : putWd n = ⟨#[]⟩ := by unfold putWd; rw [if_pos h]
    rw [e0] at HP
    by_cases h0 : n < 0
    · clear h e0
      go_wp2_with (first
        | (go_at_call 26; refine (HP.out _).mono ?_; rintro e w2 ⟨rfl, b2⟩)
        | (go_at_call 19; refine (HS.out _).mono ?_; rintro e w3 ⟨rfl, b3⟩))
      go_ret
      exact ⟨rfl, below_trans B1.out (below_trans b2 b3)⟩
    · have h1 : 4294967295 < n := by omega
      clear h e0
      go_wp2_with (first
        | (go_at_call 26; refine (HP.out _).mono ?_; rintro e w2 ⟨rfl, b2⟩)
        | (go_at_call 19; refine (HS.out _).mono ?_; rintro e w3 ⟨rfl, b3⟩))
      go_ret
      exact ⟨rfl, below_trans B1.out (below_trans b2 b3)⟩
  · obtain ⟨k, rfl⟩ := Int.eq_ofNat_of_zero_le (show 0 ≤ n by omega)
    have hk : k < 4294967296 := by omega
    obtain ⟨S, hS⟩ : ∃ S : ByteArray, S = ⟨(putW k).toArray⟩ := ⟨_, rfl⟩
    have e0 : putWd (k : Int) = S := by unfold putWd; rw [if_neg h, hS]; rfl
    rw [e0] at HP
    have hSs : S.size = 4 := by rw [hS]; rfl
    have hSl : S.data.toList = putW k := by rw [hS]
    obtain ⟨T, hT⟩ : ∃ T : ByteArray, T = (⟨#[97]⟩ : ByteArray) ++ S := ⟨_, rfl⟩
    have hTl : T.data.toList = [97] ++ putW k := by rw [hT, ByteArray.data_append, Array.toList_append, hSl]
    have hTs : T.size = 5 := by rw [hT, ByteArray.size_append, hSs]; rfl
    have ap := fun W => run_string_add_sum (P := Try.prog) W ⟨#[97]⟩ S (by rw [hSs]; decide)
    rw [← hT] at ap
    have HG1 := Lib.hid (fun v => getWord_any T (by omega) 1 (by constructor <;> decide) v)
    have g1 : getWd T.data.toList 1 = ((k : Int), true) := by rw [hTl]; exact getWd_yes [97] k hk
    rw [g1] at HG1
    have HG2 := Lib.hid (fun v => getWord_any S (by omega) 1 (by constructor <;> decide) v)
    rw [hSl, getWd_no k] at HG2
    simp only at HG1 HG2
    clear h hS e0 hSs hSl hT hTl hTs g1
    go_wp2_with (first
      | (go_at_call 26; refine (HP.out _).mono ?_; rintro e w2 ⟨rfl, b2⟩)
      | (go_at_call 27; with_reducible refine (HG1.out _).mono ?_; rintro e w4 ⟨rfl, b4⟩)
      | (go_at_call 27; with_reducible refine (HG2.out _).mono ?_; rintro e w5 ⟨rfl, b5⟩)
      | (go_at_call 19; refine (HS.out _).mono ?_; rintro e w3 ⟨rfl, b3⟩))
    go_ret
    exact ⟨rfl, below_trans B1.out (below_trans b2 (below_trans b4 (below_trans b5 b3)))⟩

set_option maxRecDepth 100000 in
set_option maxHeartbeats 2000000 in
theorem sections_walk (a : Option Addr) (len cap : Nat) (w : World) (hb : Bytes w a len) (ha : 0 < len → ∀ x, a = some x → x.block < w.heap.size) :
    Calls Try.prog 4 #[.slice a len cap] w fun e w' => e = .returned (.bool true) ∧ Below w.heap.size w w' := by
  have hd := Lib.hid (drawSection_any a len cap w hb ha)
  have HS := Lib.hid (fun v => sections_any v)
  have hbb := Lib.hid hb
  have haa := Lib.hid ha
  clear hb ha
  go_enter Try.func4, Try.ntmps4
  go_wp2_with fail
  refine hd.out.mono ?_
  rintro e w1 ⟨n, s, rfl, hn, hs, b1⟩
  have B1 := Lib.hid b1
  have HP := Lib.hid (fun v => section_any n s v)
  clear b1 hd
  by_cases h : n < 0 ∨ 255 < n ∨ 200000 < s.size
  · have e0 : secB n s = ⟨#[]⟩ := by unfold secB; rw [if_pos h]
    rw [e0] at HP
    by_cases h0 : n < 0
    · clear h e0
      go_wp2_with (first
        | (go_at_call 21; refine (HP.out _).mono ?_; rintro e w2 ⟨rfl, b2⟩)
        | (go_at_call 19; refine (HS.out _).mono ?_; rintro e w3 ⟨rfl, b3⟩))
      go_ret
      exact ⟨rfl, below_trans B1.out (below_trans b2 b3)⟩
    by_cases h1 : 255 < n
    · clear h e0
      go_wp2_with (first
        | (go_at_call 21; refine (HP.out _).mono ?_; rintro e w2 ⟨rfl, b2⟩)
        | (go_at_call 19; refine (HS.out _).mono ?_; rintro e w3 ⟨rfl, b3⟩))
      go_ret
      exact ⟨rfl, below_trans B1.out (below_trans b2 b3)⟩
    · have h2 : 200000 < s.size := by omega
      clear h e0
      go_wp2_with (first
        | (go_at_call 21; refine (HP.out _).mono ?_; rintro e w2 ⟨rfl, b2⟩)
        | (go_at_call 19; refine (HS.out _).mono ?_; rintro e w3 ⟨rfl, b3⟩))
      go_ret
      exact ⟨rfl, below_trans B1.out (below_trans b2 b3)⟩
  · obtain ⟨k, rfl⟩ := Int.eq_ofNat_of_zero_le (show 0 ≤ n by omega)
    have hk : k < 256 := by omega
    have hs2 : s.size ≤ 200000 := by omega
    obtain ⟨S, hS⟩ : ∃ S : ByteArray, S = secB (k : Int) s := ⟨_, rfl⟩
    rw [← hS] at HP
    have hSl : S.data.toList = secL k s.data.toList := by rw [hS]; unfold secB; rw [if_neg h]; rfl
    have hsl : s.data.toList.length = s.size := by simp
    have hSS : S.size = S.data.toList.length := by simp
    have hSn := secL_length k s.data.toList
    have hpl := pi_len (n := (s.data.toList.length : Int)) (by omega) (by omega)
    have hS1 : 1 ≤ S.size := by rw [hSS, hSl]; omega
    have hS2 : S.size ≤ 300000 := by rw [hSS, hSl]; omega
    obtain ⟨X, hX⟩ : ∃ X : ByteArray, X = (⟨#[120]⟩ : ByteArray) ++ S := ⟨_, rfl⟩
    obtain ⟨Y, hY⟩ : ∃ Y : ByteArray, Y = X ++ ⟨#[121]⟩ := ⟨_, rfl⟩
    have hXs : X.size = 1 + S.size := by rw [hX, ByteArray.size_append]; rfl
    have hYs : Y.size = 2 + S.size := by rw [hY, ByteArray.size_append, hXs]; show 1 + S.size + 1 = _; omega
    have hYl : Y.data.toList = [120] ++ secL k s.data.toList ++ [121] := by rw [hY, hX, ByteArray.data_append, ByteArray.data_append, Array.toList_append, Array.toList_append, hSl]
    have ap1 := fun W => run_string_add_sum (P := Try.prog) W ⟨#[120]⟩ S (by show 1 + S.size ≤ _; omega)
    have ap2 := fun W => run_string_add_sum (P := Try.prog) W X ⟨#[121]⟩ (by show X.size + 1 ≤ _; omega)
    rw [← hX] at ap1
    rw [← hY] at ap2
    have HG1 := Lib.hid (fun v => getSection_any Y (by omega) 1 (by constructor <;> decide) v)
    have g1 := getS_sec [120] [121] k hk s.data.toList (by omega)
    rw [← hYl, ← hSl, ← hSS] at g1
    have g1' : getS Y.data.toList 1 = ⟨(k : Int), s.data.toList, (S.size : Int) + 1, 0⟩ := by
      have e : (([120] : List UInt8).length : Int) = 1 := rfl
      rw [e] at g1
      rw [g1]
      simp only [SecR.mk.injEq, true_and, and_true, List.length_cons, List.length_nil]
      omega
    rw [getS_eq, g1'] at HG1
    have hsb : (⟨s.data.toList.toArray⟩ : ByteArray) = s := by cases s; rfl
    simp only [SecR.val, hsb] at HG1
    have hcut : ∀ j : Nat, j < S.size → getS (S.extract 0 j).data.toList 0 = noSec 1 := by
      intro j hj
      have e : (S.extract 0 j).data.toList = (secL k s.data.toList).take j := by rw [ext_take, hSl]
      rw [e]
      exact getS_cut k s.data.toList (by omega) j (by rw [← hSl, ← hSS]; exact hj)
    have HCUT := Lib.hid hcut
    clear h hS hSl hsl hSS hSn hpl hX hY hXs hYl g1 g1' hsb hcut
    go_wp2_with (first
      | (go_at_call 21; refine (HP.out _).mono ?_; rintro e w2 ⟨rfl, b2⟩)
      | (go_at_call 22; with_reducible refine (HG1.out _).mono ?_; rintro e w4 ⟨rfl, b4⟩))
    have B4 := Lib.hid (below_trans B1.out (below_trans b2 b4))
    clear b2 b4
    have hb4 := hbb.out.below haa.out B4.out
    refine (code_at a len cap 1 (by omega) w4 hb4).mono ?_
    rintro e w5 ⟨x, rfl, hx0, hx1, rfl⟩
    clear hb4
    go_wp2_with fail
    refine (code_at a len cap 2 (by omega) w4 (hbb.out.below haa.out B4.out)).mono ?_
    rintro e w5 ⟨y, rfl, hy0, hy1, rfl⟩
    obtain ⟨p, hp⟩ : ∃ p : Nat, x * y = p := ⟨(x * y).toNat, (Int.toNat_of_nonneg (Int.mul_nonneg hx0 hy0)).symm⟩
    have hpl : p ≤ 65536 := by
      have : x * y ≤ 256 * 256 := Int.mul_le_mul (by omega) (by omega) hy0 (by omega)
      omega
    obtain ⟨j, hj⟩ : ∃ j, j = p % S.size := ⟨_, rfl⟩
    have hjl : j < S.size := by rw [hj]; exact Nat.mod_lt _ (by omega)
    have hmod : (p : Int) % (S.size : Int) = (j : Int) := by rw [hj]; simp
    have hz : (S.extract 0 j).size ≤ 140737488355328 := by
      have : (S.extract 0 j).size = min j S.size - 0 := by simp
      omega
    have HG2 := Lib.hid (fun v => getSection_any (S.extract 0 j) hz 0 (by constructor <;> decide) v)
    rw [getS_eq, HCUT.out j hjl] at HG2
    simp only [SecR.val, noSec] at HG2
    clear hj hz
    go_wp2_with (first
      | (go_at_call 22; with_reducible refine (HG2.out _).mono ?_; rintro e w6 ⟨rfl, b6⟩)
      | (go_at_call 19; refine (HS.out _).mono ?_; rintro e w3 ⟨rfl, b3⟩))
    go_ret
    exact ⟨rfl, below_trans B4.out (below_trans b6 b3)⟩
end Go.Proofs.Ytedhallhdhlhhaa
