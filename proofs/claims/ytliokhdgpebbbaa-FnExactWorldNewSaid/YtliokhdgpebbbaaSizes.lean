/-
  The contracts of the functions of sizes: of the program (words, slots, ClassSize, SlotsOf, ClassOf) and of the model (ClassSize, SlotsOf, ClassOf). No conditions but that the argument is an int.
-/
import Derived.Test.YtliokhdgpebbbaaWData
namespace Go.Proofs.Ytliokhdgpebbbaa
open Go.RowKit
set_option linter.unusedVariables false

/-- How many words a slot of class c has. -/
def sz (c : Int) : Int := if c = 0 then 2 else if c = 1 then 4 else if c = 2 then 8 else if c = 3 then 16 else 0
/-- How many slots a page of class c has. -/
def sl' (c : Int) : Int := if c = 0 then 16 else if c = 1 then 8 else if c = 2 then 4 else if c = 3 then 2 else 0
/-- The class for n words. -/
def cl (n : Int) : Int := if n < 1 then -1 else if n ≤ 2 then 0 else if n ≤ 4 then 1 else if n ≤ 8 then 2 else if n ≤ 16 then 3 else -1

set_option maxHeartbeats 400000 in
theorem words_any (c : Int) (w : World) : Calls Try.prog 71 #[.int .i64 c] w fun e w' => e = .returned (.int .i64 (sz c)) ∧ w = w' := by
  by_cases h0 : c = 0
  · subst h0
    go_enter Try.func71, Try.ntmps71
    go_wp2
    go_ret
    exact ⟨rfl, rfl⟩
  by_cases h1 : c = 1
  · subst h1
    go_enter Try.func71, Try.ntmps71
    go_wp2
    go_ret
    exact ⟨rfl, rfl⟩
  by_cases h2 : c = 2
  · subst h2
    go_enter Try.func71, Try.ntmps71
    go_wp2
    go_ret
    exact ⟨rfl, rfl⟩
  by_cases h3 : c = 3
  · subst h3
    go_enter Try.func71, Try.ntmps71
    go_wp2
    go_ret
    exact ⟨rfl, rfl⟩
  have e0 : (c == 0) = false := beq_eq_false_iff_ne.2 h0
  have e1 : (c == 1) = false := beq_eq_false_iff_ne.2 h1
  have e2 : (c == 2) = false := beq_eq_false_iff_ne.2 h2
  have e3 : (c == 3) = false := beq_eq_false_iff_ne.2 h3
  have hz : sz c = 0 := by unfold sz; rw [if_neg h0, if_neg h1, if_neg h2, if_neg h3]
  rw [hz]
  clear hz
  go_enter Try.func71, Try.ntmps71
  go_wp2
  go_ret
  exact ⟨rfl, rfl⟩

theorem size_any (c : Int) (w : World) : Calls Try.prog 29 #[.int .i64 c] w fun e w' => e = .returned (.int .i64 (sz c)) ∧ w = w' := by
  go_enter Try.func29, Try.ntmps29
  go_wp2_with (go_at_call 71; refine (words_any _ _).mono ?_; rintro e w' ⟨rfl, rfl⟩)
  go_ret
  exact ⟨rfl, rfl⟩

theorem part (c : Int) : c = 0 ∨ c = 1 ∨ c = 2 ∨ c = 3 ∨ (c ≠ 0 ∧ c ≠ 1 ∧ c ≠ 2 ∧ c ≠ 3) := by omega
theorem sz_no {c : Int} (h : c ≠ 0 ∧ c ≠ 1 ∧ c ≠ 2 ∧ c ≠ 3) : sz c = 0 := by
  obtain ⟨h0, h1, h2, h3⟩ := h
  unfold sz; rw [if_neg h0, if_neg h1, if_neg h2, if_neg h3]
theorem slno {c : Int} (h : c ≠ 0 ∧ c ≠ 1 ∧ c ≠ 2 ∧ c ≠ 3) : sl' c = 0 := by
  obtain ⟨h0, h1, h2, h3⟩ := h
  unfold sl'; rw [if_neg h0, if_neg h1, if_neg h2, if_neg h3]

theorem words_eq {c v : Int} (h : sz c = v) (w : World) : Calls Try.prog 71 #[.int .i64 c] w fun e w' => e = .returned (.int .i64 v) ∧ w = w' := by
  rw [← h]; exact words_any c w

set_option maxHeartbeats 400000 in
theorem slots28_any (c : Int) (w : World) : Calls Try.prog 134 #[.int .i64 c] w fun e w' => e = .returned (.int .i64 (sl' c)) ∧ w = w' := by
  rcases part c with rfl | rfl | rfl | rfl | h
  · go_enter Try.func134, Try.ntmps134
    go_wp2_with (go_at_call 71; refine (words_eq (v := 2) rfl _).mono ?_; rintro e w' ⟨rfl, rfl⟩)
    go_ret
    exact ⟨rfl, rfl⟩
  · go_enter Try.func134, Try.ntmps134
    go_wp2_with (go_at_call 71; refine (words_eq (v := 4) rfl _).mono ?_; rintro e w' ⟨rfl, rfl⟩)
    go_ret
    exact ⟨rfl, rfl⟩
  · go_enter Try.func134, Try.ntmps134
    go_wp2_with (go_at_call 71; refine (words_eq (v := 8) rfl _).mono ?_; rintro e w' ⟨rfl, rfl⟩)
    go_ret
    exact ⟨rfl, rfl⟩
  · go_enter Try.func134, Try.ntmps134
    go_wp2_with (go_at_call 71; refine (words_eq (v := 16) rfl _).mono ?_; rintro e w' ⟨rfl, rfl⟩)
    go_ret
    exact ⟨rfl, rfl⟩
  · rw [slno h]
    have hs := Lib.hid (sz_no h)
    clear h
    go_enter Try.func134, Try.ntmps134
    go_wp2_with (go_at_call 71; refine (words_eq (v := 0) hs.out _).mono ?_; rintro e w' ⟨rfl, rfl⟩)
    go_ret
    exact ⟨rfl, rfl⟩

theorem slots_any (c : Int) (w : World) : Calls Try.prog 118 #[.int .i64 c] w fun e w' => e = .returned (.int .i64 (sl' c)) ∧ w = w' := by
  go_enter Try.func118, Try.ntmps118
  go_wp2_with (go_at_call 134; refine (slots28_any _ _).mono ?_; rintro e w' ⟨rfl, rfl⟩)
  go_ret
  exact ⟨rfl, rfl⟩

set_option maxHeartbeats 400000 in
theorem spec_size_any (c : Int) (w : World) : Calls Try.prog 68 #[.int .i64 c] w fun e w' => e = .returned (.int .i64 (sz c)) ∧ w = w' := by
  rcases part c with rfl | rfl | rfl | rfl | h
  · go_enter Try.func68, Try.ntmps68
    go_wp2
    go_ret
    exact ⟨rfl, rfl⟩
  · go_enter Try.func68, Try.ntmps68
    go_wp2
    go_ret
    exact ⟨rfl, rfl⟩
  · go_enter Try.func68, Try.ntmps68
    go_wp2
    go_ret
    exact ⟨rfl, rfl⟩
  · go_enter Try.func68, Try.ntmps68
    go_wp2
    go_ret
    exact ⟨rfl, rfl⟩
  · rw [sz_no h]
    rcases (show c < 0 ∨ 4 ≤ c by omega) with h' | h'
    · clear h
      go_enter Try.func68, Try.ntmps68
      go_wp2
      go_ret
      exact ⟨rfl, rfl⟩
    · have h2 : ¬ c < 0 := by omega
      clear h
      go_enter Try.func68, Try.ntmps68
      go_wp2
      go_ret
      exact ⟨rfl, rfl⟩

theorem spec_size_eq {c v : Int} (h : sz c = v) (w : World) : Calls Try.prog 68 #[.int .i64 c] w fun e w' => e = .returned (.int .i64 v) ∧ w = w' := by
  rw [← h]; exact spec_size_any c w

set_option maxHeartbeats 400000 in
theorem spec_slots_any (c : Int) (w : World) : Calls Try.prog 126 #[.int .i64 c] w fun e w' => e = .returned (.int .i64 (sl' c)) ∧ w = w' := by
  rcases part c with rfl | rfl | rfl | rfl | h
  · go_enter Try.func126, Try.ntmps126
    go_wp2_with (go_at_call 68; refine (spec_size_eq (v := 2) rfl _).mono ?_; rintro e w' ⟨rfl, rfl⟩)
    go_ret
    exact ⟨rfl, rfl⟩
  · go_enter Try.func126, Try.ntmps126
    go_wp2_with (go_at_call 68; refine (spec_size_eq (v := 4) rfl _).mono ?_; rintro e w' ⟨rfl, rfl⟩)
    go_ret
    exact ⟨rfl, rfl⟩
  · go_enter Try.func126, Try.ntmps126
    go_wp2_with (go_at_call 68; refine (spec_size_eq (v := 8) rfl _).mono ?_; rintro e w' ⟨rfl, rfl⟩)
    go_ret
    exact ⟨rfl, rfl⟩
  · go_enter Try.func126, Try.ntmps126
    go_wp2_with (go_at_call 68; refine (spec_size_eq (v := 16) rfl _).mono ?_; rintro e w' ⟨rfl, rfl⟩)
    go_ret
    exact ⟨rfl, rfl⟩
  · rw [slno h]
    rcases (show c < 0 ∨ 4 ≤ c by omega) with h' | h'
    · clear h
      go_enter Try.func126, Try.ntmps126
      go_wp2
      go_ret
      exact ⟨rfl, rfl⟩
    · have h2 : ¬ c < 0 := by omega
      clear h
      go_enter Try.func126, Try.ntmps126
      go_wp2
      go_ret
      exact ⟨rfl, rfl⟩
end Go.Proofs.Ytliokhdgpebbbaa
