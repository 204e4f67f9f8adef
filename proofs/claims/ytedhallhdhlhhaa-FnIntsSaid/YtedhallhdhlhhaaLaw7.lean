/-
  The walks of the exact laws of numbers, words, sums and sections.
-/
import Derived.Test.YtedhallhdhlhhaaByH
import Derived.Test.YtedhallhdhlhhaaByT
namespace Go.Proofs.Ytedhallhdhlhhaa
open Go.RowKit
set_option linter.unusedVariables false

set_option maxHeartbeats 400000 in
theorem law_putInt (n : Int) (hn : I64 n) (w : World) : Calls Try.prog 7 #[.int .i64 n] w fun e w' => e = .returned (.bool true) ∧ Below w.heap.size w w' := by
  have H1 := Lib.hid (fun v => spec_putInt_any n hn v)
  have H2 := Lib.hid (fun v => putInt_any n hn v)
  go_enter Try.func7, Try.ntmps7
  go_wp2_with (first
    | (go_at_call 24; refine (H1.out _).mono ?_; rintro e w1 ⟨rfl, b1⟩)
    | (go_at_call 15; refine (H2.out _).mono ?_; rintro e w2 ⟨rfl, b2⟩))
  go_ret
  exact ⟨rfl, below_trans b1 b2⟩

set_option maxHeartbeats 400000 in
theorem law_getInt (s : ByteArray) (k : Int) (hk : I64 k) (w : World) : Calls Try.prog 8 #[.string s, .int .i64 k] w fun e w' => e = .returned (.bool true) ∧ Below w.heap.size w w' := by
  by_cases hs : 1048576 < s.size
  · go_enter Try.func8, Try.ntmps8
    go_wp2
    go_ret
    exact ⟨rfl, Below.refl _ _⟩
  · have H1 := Lib.hid (fun v => spec_getInt_any s (by omega) k v)
    have H2 := Lib.hid (fun v => getInt_any s (by omega) k hk v)
    obtain ⟨r, hr⟩ : ∃ r, r = getI s.data.toList k := ⟨_, rfl⟩
    rw [← hr] at H1 H2
    clear hr
    obtain ⟨n, j, o⟩ := r
    simp only at H1 H2
    go_enter Try.func8, Try.ntmps8
    go_wp2_with (first
      | (go_at_call 18; refine (H1.out _).mono ?_; rintro e w1 ⟨rfl, b1⟩)
      | (go_at_call 16; refine (H2.out _).mono ?_; rintro e w2 ⟨rfl, b2⟩))
    go_ret
    exact ⟨rfl, below_trans b1 b2⟩

set_option maxHeartbeats 400000 in
theorem law_crc (s : ByteArray) (w : World) : Calls Try.prog 9 #[.string s] w fun e w' => e = .returned (.bool true) ∧ Below w.heap.size w w' := by
  by_cases hs : 1048576 < s.size
  · go_enter Try.func9, Try.ntmps9
    go_wp2
    go_ret
    exact ⟨rfl, Below.refl _ _⟩
  · have H1 := Lib.hid (fun v => spec_crc_any s (by omega) v)
    have H2 := Lib.hid (fun v => crc_any s (by omega) v)
    go_enter Try.func9, Try.ntmps9
    go_wp2_with (first
      | (go_at_call 28; refine (H1.out _).mono ?_; rintro e w1 ⟨rfl, rfl⟩)
      | (go_at_call 29; refine (H2.out _).mono ?_; rintro e w2 ⟨rfl, rfl⟩))
    go_ret
    exact ⟨rfl, Below.refl _ _⟩

/-- What PutWord answers. -/
def putWd (n : Int) : ByteArray := if n < 0 ∨ 4294967295 < n then ⟨#[]⟩ else ⟨(putW n.toNat).toArray⟩
theorem putWord_any (n : Int) (w : World) : Calls Try.prog 26 #[.int .i64 n] w fun e w' => e = .returned (.string (putWd n)) ∧ Below w.heap.size w w' := by
  unfold putWd
  by_cases h : n < 0 ∨ 4294967295 < n
  · rw [if_pos h]; exact putWord_no n h w
  · rw [if_neg h]
    obtain ⟨j, rfl⟩ := Int.eq_ofNat_of_zero_le (show 0 ≤ n by omega)
    exact putWord_yes j (by omega) w
theorem spec_putWord_any (n : Int) (w : World) : Calls Try.prog 30 #[.int .i64 n] w fun e w' => e = .returned (.string (putWd n)) ∧ Below w.heap.size w w' := by
  unfold putWd
  by_cases h : n < 0 ∨ 4294967295 < n
  · rw [if_pos h]; exact spec_putWord_no n h w
  · rw [if_neg h]
    obtain ⟨j, rfl⟩ := Int.eq_ofNat_of_zero_le (show 0 ≤ n by omega)
    exact spec_putWord_yes j (by omega) w
theorem spec_getWord_any (s : ByteArray) (hs : s.size ≤ 140737488355328) (k : Int) (w : World) :
    Calls Try.prog 31 #[.string s, .int .i64 k] w fun e w' => e = .returned (.tuple #[.int .i64 (getWd s.data.toList k).1, .bool (getWd s.data.toList k).2]) ∧ Below w.heap.size w w' := by
  have hsl : s.data.toList.length = s.size := by simp
  unfold getWd
  rw [hsl]
  by_cases h : 0 ≤ k ∧ k + 4 ≤ (s.size : Int)
  · rw [if_pos h]
    obtain ⟨j, rfl⟩ := Int.eq_ofNat_of_zero_le h.1
    exact (spec_getWord_yes s j (by omega) (by omega) w).mono fun e w' ⟨he, n, hw⟩ => ⟨he, hw ▸ belowDrawn (Below.refl _ _) n⟩
  · rw [if_neg h]
    exact (spec_getWord_no s k (by omega) (by omega) w).mono fun e w' ⟨he, hw⟩ => ⟨he, hw ▸ Below.refl _ _⟩

set_option maxHeartbeats 400000 in
theorem law_putWord (n : Int) (w : World) : Calls Try.prog 10 #[.int .i64 n] w fun e w' => e = .returned (.bool true) ∧ Below w.heap.size w w' := by
  have H1 := Lib.hid (fun v => spec_putWord_any n v)
  have H2 := Lib.hid (fun v => putWord_any n v)
  go_enter Try.func10, Try.ntmps10
  go_wp2_with (first
    | (go_at_call 30; refine (H1.out _).mono ?_; rintro e w1 ⟨rfl, b1⟩)
    | (go_at_call 26; refine (H2.out _).mono ?_; rintro e w2 ⟨rfl, b2⟩))
  go_ret
  exact ⟨rfl, below_trans b1 b2⟩

set_option maxHeartbeats 400000 in
theorem law_getWord (s : ByteArray) (k : Int) (hk : I64 k) (w : World) : Calls Try.prog 11 #[.string s, .int .i64 k] w fun e w' => e = .returned (.bool true) ∧ Below w.heap.size w w' := by
  by_cases hs : 1048576 < s.size
  · go_enter Try.func11, Try.ntmps11
    go_wp2
    go_ret
    exact ⟨rfl, Below.refl _ _⟩
  · have H1 := Lib.hid (fun v => spec_getWord_any s (by omega) k v)
    have H2 := Lib.hid (fun v => getWord_any s (by omega) k hk v)
    obtain ⟨r, hr⟩ : ∃ r, r = getWd s.data.toList k := ⟨_, rfl⟩
    rw [← hr] at H1 H2
    clear hr
    obtain ⟨n, o⟩ := r
    simp only at H1 H2
    go_enter Try.func11, Try.ntmps11
    go_wp2_with (first
      | (go_at_call 31; refine (H1.out _).mono ?_; rintro e w1 ⟨rfl, b1⟩)
      | (go_at_call 27; refine (H2.out _).mono ?_; rintro e w2 ⟨rfl, b2⟩))
    go_ret
    exact ⟨rfl, below_trans b1 b2⟩

set_option maxHeartbeats 400000 in
theorem law_section (k : Int) (s : ByteArray) (w : World) : Calls Try.prog 12 #[.int .i64 k, .string s] w fun e w' => e = .returned (.bool true) ∧ Below w.heap.size w w' := by
  by_cases hs : 1048576 < s.size
  · go_enter Try.func12, Try.ntmps12
    go_wp2
    go_ret
    exact ⟨rfl, Below.refl _ _⟩
  · have H1 := Lib.hid (fun v => spec_section_any k s v)
    have H2 := Lib.hid (fun v => section_any k s v)
    obtain ⟨r, hr⟩ : ∃ r, r = secB k s := ⟨_, rfl⟩
    rw [← hr] at H1 H2
    clear hr
    go_enter Try.func12, Try.ntmps12
    go_wp2_with (first
      | (go_at_call 32; refine (H1.out _).mono ?_; rintro e w1 ⟨rfl, b1⟩)
      | (go_at_call 21; refine (H2.out _).mono ?_; rintro e w2 ⟨rfl, b2⟩))
    go_ret
    exact ⟨rfl, below_trans b1 b2⟩

set_option maxHeartbeats 1000000 in
theorem law_getSection (s : ByteArray) (k : Int) (hk : I64 k) (w : World) : Calls Try.prog 13 #[.string s, .int .i64 k] w fun e w' => e = .returned (.bool true) ∧ Below w.heap.size w w' := by
  by_cases hs : 1048576 < s.size
  · go_enter Try.func13, Try.ntmps13
    go_wp2
    go_ret
    exact ⟨rfl, Below.refl _ _⟩
  · have H1 := Lib.hid (fun v => spec_getSection_any s (by omega) k v)
    have H2 := Lib.hid (fun v => getSection_any s (by omega) k hk v)
    rw [getS_eq] at H2
    obtain ⟨r, hr⟩ : ∃ r, r = getS s.data.toList k := ⟨_, rfl⟩
    rw [← hr] at H1 H2
    clear hr
    obtain ⟨a, b, c, d⟩ := r
    simp only [SecR.val] at H1 H2
    obtain ⟨B, hB⟩ : ∃ B : ByteArray, B = ⟨b.toArray⟩ := ⟨_, rfl⟩
    rw [← hB] at H1 H2
    clear hB
    go_enter Try.func13, Try.ntmps13
    go_wp2_with (first
      | (go_at_call 33; refine (H1.out _).mono ?_; rintro e w1 ⟨rfl, b1⟩)
      | (go_at_call 22; refine (H2.out _).mono ?_; rintro e w2 ⟨rfl, b2⟩))
    go_ret
    exact ⟨rfl, below_trans b1 b2⟩
end Go.Proofs.Ytedhallhdhlhhaa
