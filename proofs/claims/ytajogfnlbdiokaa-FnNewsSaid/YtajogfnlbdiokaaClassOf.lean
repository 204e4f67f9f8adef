/-
  The contracts of ClassOf, of the program and of the model. No conditions but that the argument is an int.
-/
import Derived.Test.YtajogfnlbdiokaaSizes
import Derived.LoopTactic
namespace Go.Proofs.Ytajogfnlbdiokaa
open Go.RowKit
set_option linter.unusedVariables false

/-- The classes below k have no room for n. -/
def Lo (k : Nat) (n : Int) : Prop := k = 0 ∨ (k = 1 ∧ 2 < n) ∨ (k = 2 ∧ 4 < n) ∨ (k = 3 ∧ 8 < n) ∨ (k = 4 ∧ 16 < n)
theorem lo_next {k : Nat} {n : Int} (h : Lo k n) (hk : k ≤ 3) (hs : sz k < n) : Lo (k + 1) n := by
  rcases (show k = 0 ∨ k = 1 ∨ k = 2 ∨ k = 3 by omega) with rfl | rfl | rfl | rfl <;> simp [sz] at hs <;> unfold Lo <;> omega
theorem lo_cl {k : Nat} {n : Int} (h : Lo k n) (h1 : 1 ≤ n) (hk : k ≤ 3) (hs : n ≤ sz k) : (k : Int) = cl n := by
  unfold Lo at h; unfold cl
  rcases (show k = 0 ∨ k = 1 ∨ k = 2 ∨ k = 3 by omega) with rfl | rfl | rfl | rfl <;> simp [sz] at hs <;> simp at h <;> (repeat' split) <;> omega
theorem lo_end {n : Int} (h : Lo 4 n) : (-1 : Int) = cl n := by
  unfold Lo at h; unfold cl; simp at h; (repeat' split) <;> omega
theorem lo_16 {k : Nat} {n : Int} (h : Lo k n) (h16 : n ≤ 16) : k ≤ 3 := by
  unfold Lo at h; omega

set_option maxHeartbeats 400000 in
theorem classOf_any (n : Int) (w : World) : Calls Try.prog 73 #[.int .i64 n] w fun e w' => e = .returned (.int .i64 (cl n)) ∧ w = w' := by
  by_cases h1 : n < 1
  · have hc : cl n = -1 := by unfold cl; rw [if_pos h1]
    rw [hc]; clear hc
    go_enter Try.func73, Try.ntmps73
    go_wp2
    go_ret
    exact ⟨rfl, rfl⟩
  by_cases h16 : 16 < n
  · have hc : cl n = -1 := by unfold cl; rw [if_neg h1, if_neg (by omega), if_neg (by omega), if_neg (by omega), if_neg (by omega)]
    rw [hc]; clear hc
    go_enter Try.func73, Try.ntmps73
    go_wp2
    go_ret
    exact ⟨rfl, rfl⟩
  have g1 : 1 ≤ n := by omega
  have g16 : n ≤ 16 := by omega
  clear h1 h16
  go_enter Try.func73, Try.ntmps73
  go_wp2
  go_loop [3] (fun c => ∃ k : Nat, Lo k n ∧ c = .int .i64 k) (fun c => 4 - (intOf c).toNat)
  case atStart => exact ⟨0, .inl rfl, rfl⟩
  case round =>
    obtain ⟨k, hlo, rfl⟩ := hrel
    have hk := lo_16 hlo g16
    by_cases hs : sz k < n
    · have hlo' := lo_next hlo hk hs
      clear hlo
      go_wp2_with (go_at_call 116; refine (words_any _ _).mono ?_; rintro e w' ⟨rfl, rfl⟩)
      go_round
      case rel => exact ⟨k + 1, hlo', by go_num⟩
      case measure => simp [intOf]; omega
    · have hv := Lib.hid (lo_cl hlo g1 hk (by omega))
      clear hlo
      go_wp2_with (go_at_call 116; refine (words_any _ _).mono ?_; rintro e w' ⟨rfl, rfl⟩)
      go_ret
      exact ⟨ret_int hv.out, rfl⟩

set_option maxHeartbeats 400000 in
theorem spec_classOf_any (n : Int) (w : World) : Calls Try.prog 64 #[.int .i64 n] w fun e w' => e = .returned (.int .i64 (cl n)) ∧ w = w' := by
  by_cases h1 : n < 1
  · have hc : cl n = -1 := by unfold cl; rw [if_pos h1]
    rw [hc]; clear hc
    have h0 : ¬ 0 < n := by omega
    clear h1
    go_enter Try.func64, Try.ntmps64
    go_wp2
    go_loop [3] (fun c => c = .int .i64 0) (fun c => 0)
    case atStart => rfl
    case round =>
      subst hrel
      go_wp2
      go_ret
      exact ⟨rfl, rfl⟩
  have g1 : 1 ≤ n := by omega
  have g0 : 0 < n := by omega
  clear h1
  go_enter Try.func64, Try.ntmps64
  go_wp2
  go_loop [3] (fun c => ∃ k : Nat, Lo k n ∧ k ≤ 4 ∧ c = .int .i64 k) (fun c => 4 - (intOf c).toNat)
  case atStart => exact ⟨0, .inl rfl, by omega, rfl⟩
  case round =>
    obtain ⟨k, hlo, h4, rfl⟩ := hrel
    by_cases hk : k ≤ 3
    · by_cases hs : sz k < n
      · have hlo' := lo_next hlo hk hs
        clear hlo
        go_wp2_with (go_at_call 121; refine (spec_size_any _ _).mono ?_; rintro e w' ⟨rfl, rfl⟩)
        go_round
        case rel => exact ⟨k + 1, hlo', by omega, by go_num⟩
        case measure => simp [intOf]; omega
      · have hv := Lib.hid (lo_cl hlo g1 hk (by omega))
        clear hlo
        go_wp2_with (go_at_call 121; refine (spec_size_any _ _).mono ?_; rintro e w' ⟨rfl, rfl⟩)
        go_ret
        exact ⟨ret_int hv.out, rfl⟩
    · obtain rfl : k = 4 := by omega
      have hv := Lib.hid (lo_end hlo)
      clear hlo hk h4
      go_wp2
      go_ret
      exact ⟨ret_int hv.out, rfl⟩
end Go.Proofs.Ytajogfnlbdiokaa
