/-
  What it means that a World has the form of a heap (plain); and the contracts of the model's small functions (l2geometry, l2at).
-/
import Derived.Test.YtnmgecplagekcaaSizes
import Derived.Test.YtnmgecplagekcaaWSize
import Derived.Test.YtnmgecplagekcaaIsB
import Derived.StillTailTactics
namespace Go.Proofs.Ytnmgecplagekcaa
open Go.RowKit
set_option linter.unusedVariables false

def Geo (b p m : Int) : Prop := 32 ≤ b ∧ b ≤ 1048576 ∧ b % 32 = 0 ∧ 1 ≤ p ∧ p ≤ 12 ∧ 1 ≤ m ∧ m ≤ 3

set_option maxHeartbeats 1000000 in
theorem geometry_any (b p m : Int) (w : World) : Calls Try.prog 16 #[.int .i64 b, .int .i64 p, .int .i64 m] w fun e w' => IsB (Geo b p m) e ∧ w = w' := by
  by_cases c1 : 32 ≤ b
  case neg =>
    have n := Lib.hid (show ¬ Geo b p m from fun h => c1 h.1)
    go_enter Try.func16, Try.ntmps16
    go_wp2
    go_ret
    exact ⟨IsB.no n.out, rfl⟩
  by_cases c2 : b ≤ 1048576
  case neg =>
    have n := Lib.hid (show ¬ Geo b p m from fun h => c2 h.2.1)
    go_enter Try.func16, Try.ntmps16
    go_wp2
    go_ret
    exact ⟨IsB.no n.out, rfl⟩
  by_cases c3 : b % 32 = 0
  case neg =>
    have n := Lib.hid (show ¬ Geo b p m from fun h => c3 h.2.2.1)
    have c3' : (b % 32 == 0) = false := beq_eq_false_iff_ne.2 c3
    clear c3
    go_enter Try.func16, Try.ntmps16
    go_wp2
    go_ret
    exact ⟨IsB.no n.out, rfl⟩
  have c3' : (b % 32 == 0) = true := beq_iff_eq.2 c3
  by_cases c4 : 1 ≤ p
  case neg =>
    have n := Lib.hid (show ¬ Geo b p m from fun h => c4 h.2.2.2.1)
    clear c3
    go_enter Try.func16, Try.ntmps16
    go_wp2
    go_ret
    exact ⟨IsB.no n.out, rfl⟩
  by_cases c5 : p ≤ 12
  case neg =>
    have n := Lib.hid (show ¬ Geo b p m from fun h => c5 h.2.2.2.2.1)
    clear c3
    go_enter Try.func16, Try.ntmps16
    go_wp2
    go_ret
    exact ⟨IsB.no n.out, rfl⟩
  by_cases c6 : 1 ≤ m
  case neg =>
    have n := Lib.hid (show ¬ Geo b p m from fun h => c6 h.2.2.2.2.2.1)
    clear c3
    go_enter Try.func16, Try.ntmps16
    go_wp2
    go_ret
    exact ⟨IsB.no n.out, rfl⟩
  by_cases c7 : m ≤ 3
  case neg =>
    have n := Lib.hid (show ¬ Geo b p m from fun h => c7 h.2.2.2.2.2.2)
    clear c3
    go_enter Try.func16, Try.ntmps16
    go_wp2
    go_ret
    exact ⟨IsB.no n.out, rfl⟩
  have n := Lib.hid (show Geo b p m from ⟨c1, c2, c3, c4, c5, c6, c7⟩)
  clear c3
  go_enter Try.func16, Try.ntmps16
  go_wp2
  go_ret
  exact ⟨IsB.yes n.out, rfl⟩

theorem i64_and1 (n : Int) : bits .and .i64 n 1 = n % 2 := by
  have h127 : (BitVec.ofInt 64 1).toNat = 2 ^ 1 - 1 := by decide
  have key : (BitVec.ofInt 64 n &&& BitVec.ofInt 64 1).toNat = (n % ((2 ^ 64 : Nat) : Int)).toNat % 2 ^ 1 := by
    rw [BitVec.toNat_and, BitVec.toNat_ofInt, h127, Nat.and_two_pow_sub_one_eq_mod]
  show IntKind.i64.wrap ((BitVec.ofInt 64 n &&& BitVec.ofInt 64 1).toNat : Nat) = n % 2
  rw [key, IntKind.wrap_i64]
  omega
theorem sl_some {c : Int} (h : sl' c ≠ 0) : sl' c = 16 ∨ sl' c = 8 ∨ sl' c = 4 ∨ sl' c = 2 := by
  revert h; unfold sl'; (repeat' split) <;> simp
theorem sz_bd (c : Int) : 0 ≤ sz c ∧ sz c ≤ 16 := by unfold sz; (repeat' split) <;> omega
theorem sl_bd (c : Int) : 0 ≤ sl' c ∧ sl' c ≤ 16 := by unfold sl'; (repeat' split) <;> omega

/-- The number of a slot's first word. -/
def atW (s : SpanD) (slot : Int) : Int := s.page * 32 + slot * sz s.cls

end Go.Proofs.Ytnmgecplagekcaa
