/-
  The contracts of the functions of sizes: of the program (words, slots, ClassSize, SlotsOf, ClassOf) and of the model (ClassSize, SlotsOf, ClassOf). No conditions but that the argument is an int.
-/
import Derived.Test.YtajogfnlbdiokaaWData
namespace Go.Proofs.Ytajogfnlbdiokaa
open Go.RowKit
set_option linter.unusedVariables false

/-- How many words a slot of class c has. -/
def sz (c : Int) : Int := if c = 0 then 2 else if c = 1 then 4 else if c = 2 then 8 else if c = 3 then 16 else 0
/-- How many slots a page of class c has. -/
def sl' (c : Int) : Int := if c = 0 then 16 else if c = 1 then 8 else if c = 2 then 4 else if c = 3 then 2 else 0
/-- The class for n words. -/
def cl (n : Int) : Int := if n < 1 then -1 else if n ≤ 2 then 0 else if n ≤ 4 then 1 else if n ≤ 8 then 2 else if n ≤ 16 then 3 else -1

set_option maxHeartbeats 400000 in
theorem words_any (c : Int) (w : World) : Calls Try.prog 116 #[.int .i64 c] w fun e w' => e = .returned (.int .i64 (sz c)) ∧ w = w' := by
  by_cases h0 : c = 0
  · subst h0
    go_enter Try.func116, Try.ntmps116
    go_wp2
    go_ret
    exact ⟨rfl, rfl⟩
  by_cases h1 : c = 1
  · subst h1
    go_enter Try.func116, Try.ntmps116
    go_wp2
    go_ret
    exact ⟨rfl, rfl⟩
  by_cases h2 : c = 2
  · subst h2
    go_enter Try.func116, Try.ntmps116
    go_wp2
    go_ret
    exact ⟨rfl, rfl⟩
  by_cases h3 : c = 3
  · subst h3
    go_enter Try.func116, Try.ntmps116
    go_wp2
    go_ret
    exact ⟨rfl, rfl⟩
  have e0 : (c == 0) = false := beq_eq_false_iff_ne.2 h0
  have e1 : (c == 1) = false := beq_eq_false_iff_ne.2 h1
  have e2 : (c == 2) = false := beq_eq_false_iff_ne.2 h2
  have e3 : (c == 3) = false := beq_eq_false_iff_ne.2 h3
  have hz : sz c = 0 := by unfold sz; rw [if_neg h0, if_neg h1, if_neg h2, if_neg h3]
  rw [hz]
  clear hz
  go_enter Try.func116, Try.ntmps116
  go_wp2
  go_ret
  exact ⟨rfl, rfl⟩

theorem size_any (c : Int) (w : World) : Calls Try.prog 57 #[.int .i64 c] w fun e w' => e = .returned (.int .i64 (sz c)) ∧ w = w' := by
  go_enter Try.func57, Try.ntmps57
  go_wp2_with (go_at_call 116; refine (words_any _ _).mono ?_; rintro e w' ⟨rfl, rfl⟩)
  go_ret
  exact ⟨rfl, rfl⟩

theorem part (c : Int) : c = 0 ∨ c = 1 ∨ c = 2 ∨ c = 3 ∨ (c ≠ 0 ∧ c ≠ 1 ∧ c ≠ 2 ∧ c ≠ 3) := by omega
theorem sz_no {c : Int} (h : c ≠ 0 ∧ c ≠ 1 ∧ c ≠ 2 ∧ c ≠ 3) : sz c = 0 := by
  obtain ⟨h0, h1, h2, h3⟩ := h
  unfold sz; rw [if_neg h0, if_neg h1, if_neg h2, if_neg h3]
theorem slno {c : Int} (h : c ≠ 0 ∧ c ≠ 1 ∧ c ≠ 2 ∧ c ≠ 3) : sl' c = 0 := by
  obtain ⟨h0, h1, h2, h3⟩ := h
  unfold sl'; rw [if_neg h0, if_neg h1, if_neg h2, if_neg h3]

theorem words_eq {c v : Int} (h : sz c = v) (w : World) : Calls Try.prog 116 #[.int .i64 c] w fun e w' => e = .returned (.int .i64 v) ∧ w = w' := by
  rw [← h]; exact words_any c w

set_option maxHeartbeats 400000 in
theorem slots28_any (c : Int) (w : World) : Calls Try.prog 163 #[.int .i64 c] w fun e w' => e = .returned (.int .i64 (sl' c)) ∧ w = w' := by
  rcases part c with rfl | rfl | rfl | rfl | h
  · go_enter Try.func163, Try.ntmps163
    go_wp2_with (go_at_call 116; refine (words_eq (v := 2) rfl _).mono ?_; rintro e w' ⟨rfl, rfl⟩)
    go_ret
    exact ⟨rfl, rfl⟩
  · go_enter Try.func163, Try.ntmps163
    go_wp2_with (go_at_call 116; refine (words_eq (v := 4) rfl _).mono ?_; rintro e w' ⟨rfl, rfl⟩)
    go_ret
    exact ⟨rfl, rfl⟩
  · go_enter Try.func163, Try.ntmps163
    go_wp2_with (go_at_call 116; refine (words_eq (v := 8) rfl _).mono ?_; rintro e w' ⟨rfl, rfl⟩)
    go_ret
    exact ⟨rfl, rfl⟩
  · go_enter Try.func163, Try.ntmps163
    go_wp2_with (go_at_call 116; refine (words_eq (v := 16) rfl _).mono ?_; rintro e w' ⟨rfl, rfl⟩)
    go_ret
    exact ⟨rfl, rfl⟩
  · rw [slno h]
    have hs := Lib.hid (sz_no h)
    clear h
    go_enter Try.func163, Try.ntmps163
    go_wp2_with (go_at_call 116; refine (words_eq (v := 0) hs.out _).mono ?_; rintro e w' ⟨rfl, rfl⟩)
    go_ret
    exact ⟨rfl, rfl⟩

theorem slots_any (c : Int) (w : World) : Calls Try.prog 135 #[.int .i64 c] w fun e w' => e = .returned (.int .i64 (sl' c)) ∧ w = w' := by
  go_enter Try.func135, Try.ntmps135
  go_wp2_with (go_at_call 163; refine (slots28_any _ _).mono ?_; rintro e w' ⟨rfl, rfl⟩)
  go_ret
  exact ⟨rfl, rfl⟩

set_option maxHeartbeats 400000 in
theorem spec_size_any (c : Int) (w : World) : Calls Try.prog 121 #[.int .i64 c] w fun e w' => e = .returned (.int .i64 (sz c)) ∧ w = w' := by
  rcases part c with rfl | rfl | rfl | rfl | h
  · go_enter Try.func121, Try.ntmps121
    go_wp2
    go_ret
    exact ⟨rfl, rfl⟩
  · go_enter Try.func121, Try.ntmps121
    go_wp2
    go_ret
    exact ⟨rfl, rfl⟩
  · go_enter Try.func121, Try.ntmps121
    go_wp2
    go_ret
    exact ⟨rfl, rfl⟩
  · go_enter Try.func121, Try.ntmps121
    go_wp2
    go_ret
    exact ⟨rfl, rfl⟩
  · rw [sz_no h]
    rcases (show c < 0 ∨ 4 ≤ c by omega) with h' | h'
    · clear h
      go_enter Try.func121, Try.ntmps121
      go_wp2
      go_ret
      exact ⟨rfl, rfl⟩
    · have h2 : ¬ c < 0 := by omega
      clear h
      go_enter Try.func121, Try.ntmps121
      go_wp2
      go_ret
      exact ⟨rfl, rfl⟩

theorem spec_size_eq {c v : Int} (h : sz c = v) (w : World) : Calls Try.prog 121 #[.int .i64 c] w fun e w' => e = .returned (.int .i64 v) ∧ w = w' := by
  rw [← h]; exact spec_size_any c w

set_option maxHeartbeats 400000 in
theorem spec_slots_any (c : Int) (w : World) : Calls Try.prog 161 #[.int .i64 c] w fun e w' => e = .returned (.int .i64 (sl' c)) ∧ w = w' := by
  rcases part c with rfl | rfl | rfl | rfl | h
  · go_enter Try.func161, Try.ntmps161
    go_wp2_with (go_at_call 121; refine (spec_size_eq (v := 2) rfl _).mono ?_; rintro e w' ⟨rfl, rfl⟩)
    go_ret
    exact ⟨rfl, rfl⟩
  · go_enter Try.func161, Try.ntmps161
    go_wp2_with (go_at_call 121; refine (spec_size_eq (v := 4) rfl _).mono ?_; rintro e w' ⟨rfl, rfl⟩)
    go_ret
    exact ⟨rfl, rfl⟩
  · go_enter Try.func161, Try.ntmps161
    go_wp2_with (go_at_call 121; refine (spec_size_eq (v := 8) rfl _).mono ?_; rintro e w' ⟨rfl, rfl⟩)
    go_ret
    exact ⟨rfl, rfl⟩
  · go_enter Try.func161, Try.ntmps161
    go_wp2_with (go_at_call 121; refine (spec_size_eq (v := 16) rfl _).mono ?_; rintro e w' ⟨rfl, rfl⟩)
    go_ret
    exact ⟨rfl, rfl⟩
  · rw [slno h]
    rcases (show c < 0 ∨ 4 ≤ c by omega) with h' | h'
    · clear h
      go_enter Try.func161, Try.ntmps161
      go_wp2
      go_ret
      exact ⟨rfl, rfl⟩
    · have h2 : ¬ c < 0 := by omega
      clear h
      go_enter Try.func161, Try.ntmps161
      go_wp2
      go_ret
      exact ⟨rfl, rfl⟩
end Go.Proofs.Ytajogfnlbdiokaa
