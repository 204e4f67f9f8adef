/-
  The draws DrawPutInt, DrawPutWord, DrawSection, and laws.at.
-/
import Derived.Test.YtedhallhdhlhhaaDraw7
namespace Go.Proofs.Ytedhallhdhlhhaa
open Go.RowKit
set_option linter.unusedVariables false

set_option maxHeartbeats 1000000 in
theorem drawPutInt_any (a : Option Addr) (len cap : Nat) (w : World) (hb : Bytes w a len) (ha : 0 < len → ∀ x, a = some x → x.block < w.heap.size) :
    Calls Try.prog 14 #[.slice a len cap] w fun e w' => ∃ n : Int, e = .returned (.int .i64 n) ∧ I64 n ∧ Below w.heap.size w w' := by
  have hnew := Lib.hid (new_any a len cap w hb ha)
  clear hb ha
  go_enter Try.func14, Try.ntmps14
  go_wp2_with fail
  refine hnew.out.mono ?_
  rintro e w1 ⟨B, rfl, b1, h1⟩
  have B1 := Lib.hid b1
  have A1 := Lib.hid h1
  clear b1 h1
  go_wp2_with fail
  refine (num_at A1.out).mono ?_
  rintro e w2 ⟨x, rfl, hx, g2, a2⟩
  have B2 := Lib.hid (B1.out.trans (A1.out.below g2))
  have HX := Lib.hid hx
  clear g2 a2 hx
  go_wp2
  go_ret
  exact ⟨_, rfl, HX.out, B2.out⟩

set_option maxRecDepth 100000 in
set_option maxHeartbeats 1000000 in
theorem drawPutWord_any (a : Option Addr) (len cap : Nat) (w : World) (hb : Bytes w a len) (ha : 0 < len → ∀ x, a = some x → x.block < w.heap.size) :
    Calls Try.prog 25 #[.slice a len cap] w fun e w' => ∃ n : Int, e = .returned (.int .i64 n) ∧ I64 n ∧ Below w.heap.size w w' := by
  have hnew := Lib.hid (new_any a len cap w hb ha)
  clear hb ha
  go_enter Try.func25, Try.ntmps25
  go_wp2_with fail
  refine hnew.out.mono ?_
  rintro e w1 ⟨B, rfl, b1, h1⟩
  have B1 := Lib.hid b1
  have A1 := Lib.hid h1
  clear b1 h1
  go_wp2_with fail
  refine (below_at A1.out 4294967296 (by omega)).mono ?_
  rintro e w2 ⟨x, rfl, hx0, hx1, g2, a2⟩
  have B2 := Lib.hid (B1.out.trans (A1.out.below g2))
  have c1 : Below w2.heap.size w2 (w2.alloc (.cells #[.int .i64 0, .int .i64 1, .int .i64 256, .int .i64 4294967295, .int .i64 4294967296, .int .i64 (-1), .int .i64 x] 3)) := (Below.refl _ _).alloc (Nat.le_refl _) _
  have A3 := Lib.hid (a2.kept c1)
  have hB1 := a2.lt
  have hr1 := Lib.hid (show ∀ w', (w2.alloc (.cells #[.int .i64 0, .int .i64 1, .int .i64 256, .int .i64 4294967295, .int .i64 4294967296, .int .i64 (-1), .int .i64 x] 3)).grownBy w' (some B) → Rd w' (.slice (some ⟨w2.heap.size, 0, none⟩) 7 7) [0, 1, 256, 4294967295, 4294967296, -1, x] from fun w' hg =>
    rd_grown (rd_new w2 3 [0, 1, 256, 4294967295, 4294967296, -1, x] (by simp)) hg (by omega))
  have B3 := Lib.hid (B2.out.trans (c1.mono B2.out.size))
  clear c1 hB1 g2 a2
  go_wp2_with fail
  refine (pickInt_at A3.out _ [0, 1, 256, 4294967295, 4294967296, -1, x] (by simp) hr1.out).mono ?_
  rintro e w3 ⟨b, rfl, hy, g3, a3⟩
  have hb : I64 b := by
    unfold I64
    simp only [List.mem_cons, List.not_mem_nil, or_false] at hy
    omega
  have HB := Lib.hid hb
  have B4 := Lib.hid (B3.out.trans (A3.out.below g3))
  clear hy hb g3 a3
  go_wp2
  go_ret
  exact ⟨_, rfl, HB.out, B4.out⟩

set_option maxHeartbeats 1000000 in
theorem code_at (a : Option Addr) (len cap : Nat) (i : Nat) (hi : i ≤ 1000) (w : World) (hb : Bytes w a len) :
    Calls Try.prog 23 #[.slice a len cap, .int .i64 (i : Int)] w fun e w' => ∃ x : Int, e = .returned (.int .i64 x) ∧ 0 ≤ x ∧ x < 256 ∧ w = w' := by
  have hlen := hb.1
  unfold maxLen at hlen
  by_cases h : len = 0
  · subst h
    clear hb
    go_enter Try.func23, Try.ntmps23
    go_wp2
    go_ret
    exact ⟨_, rfl, by omega, by omega, rfl⟩
  · obtain ⟨b, o, x, rfl, hx0, hx1, hc⟩ := hb.2 (i % len) (Nat.mod_lt _ (by omega))
    have hne : ¬ (len : Int) = 0 := by omega
    have hm : (i : Int) % (len : Int) = ((i % len : Nat) : Int) := by simp
    have hml : i % len < len := Nat.mod_lt _ (by omega)
    obtain ⟨j, hj⟩ : ∃ j, j = i % len := ⟨_, rfl⟩
    rw [← hj] at hc hm hml
    clear hb hj
    go_enter Try.func23, Try.ntmps23
    go_wp2
    go_ret
    exact ⟨_, rfl, hx0, hx1, rfl⟩

theorem At.drew {w : World} {n₀ B len : Nat} {a : Option Addr} (h : At w n₀ B a len) : At w.drew n₀ B a len := ⟨h.bytes, h.cur, h.le, h.low⟩
theorem made_size (y : Int) (h0 : 0 ≤ y) (h1 : y < 2) : ∃ m : Nat, IntKind.i64.wrap (m : Int) = (m : Int) ∧ 200000 + y = m ∧ m ≤ 200001 :=
  ⟨(200000 + y).toNat, by rw [IntWalk.i64_in _ (by omega)], by omega, by omega⟩
theorem made_str (m : Nat) (hm : m ≤ 200001) (W : World) : (convert 22 9 (.slice (some ⟨W.heap.size, 0, none⟩) m m)).run Try.prog (W.alloc (.cells (madeCells #[.int .u8 0] m) 5)) = .ok (.string ⟨(List.replicate m 0).toArray⟩) (W.alloc (.cells (madeCells #[.int .u8 0] m) 5)) := by
  have h := byte_made (w := W.alloc (.cells (madeCells #[.int .u8 0] m) 5)) (base := W.heap.size) (z := .int .u8 0) (box_new _ _) (Nat.le_refl _) (by unfold maxLen; omega)
  have e : List.replicate m (Value.int .u8 0) = (List.replicate m (0 : UInt8)).map u8v := by rw [List.map_replicate]; rfl
  rw [e] at h
  exact str_of_row h
theorem made_sz (m : Nat) (hm : m ≤ 200001) : (⟨(List.replicate m 0).toArray⟩ : ByteArray).size ≤ 200001 := by
  show (List.replicate m (0 : UInt8)).toArray.size ≤ 200001
  simpa using hm
theorem below_undrew {n : Nat} {w w' : World} (h : Below n w.drew w') : Below n w w' := ⟨h.os, h.tape, h.output, h.size, h.block⟩
set_option maxRecDepth 100000 in
set_option maxHeartbeats 4000000 in
theorem drawSection_any (a : Option Addr) (len cap : Nat) (w : World) (hb : Bytes w a len) (ha : 0 < len → ∀ x, a = some x → x.block < w.heap.size) :
    Calls Try.prog 20 #[.slice a len cap] w fun e w' => ∃ (n : Int) (s : ByteArray), e = .returned (.tuple #[.int .i64 n, .string s]) ∧ I64 n ∧ s.size ≤ 200001 ∧ Below w.heap.size w w' := by
  have hnew := Lib.hid (new_any a len cap w hb ha)
  clear hb ha
  go_enter Try.func20, Try.ntmps20
  go_wp2_with fail
  refine hnew.out.mono ?_
  rintro e w1 ⟨B, rfl, b1, h1⟩
  have B1 := Lib.hid b1
  have c1 : Below w1.heap.size w1 (w1.alloc (.cells #[.int .i64 0, .int .i64 1, .int .i64 70, .int .i64 255, .int .i64 256, .int .i64 (-1)] 3)) := (Below.refl _ _).alloc (Nat.le_refl _) _
  have A2 := Lib.hid (h1.kept c1)
  have hB1 := h1.lt
  have hr1 := Lib.hid (show ∀ w', (w1.alloc (.cells #[.int .i64 0, .int .i64 1, .int .i64 70, .int .i64 255, .int .i64 256, .int .i64 (-1)] 3)).grownBy w' (some B) → Rd w' (.slice (some ⟨w1.heap.size, 0, none⟩) 6 6) [0, 1, 70, 255, 256, -1] from fun w' hg =>
    rd_grown (rd_new w1 3 [0, 1, 70, 255, 256, -1] (by decide)) hg (by omega))
  have B2 := Lib.hid (B1.out.trans (c1.mono B1.out.size))
  clear b1 h1 c1 hB1
  go_wp2_with fail
  refine (pickInt_at A2.out _ [0, 1, 70, 255, 256, -1] (by decide) hr1.out).mono ?_
  rintro e w3 ⟨n, rfl, hy, g3, a3⟩
  have hn : I64 n := by
    unfold I64
    simp only [List.mem_cons, List.not_mem_nil, or_false] at hy
    omega
  have HN := Lib.hid hn
  have B3 := Lib.hid (B2.out.trans (A2.out.below g3))
  have A3 := Lib.hid a3
  clear hy hn g3 a3
  go_wp2_with fail
  refine (once_at A3.out 60 (by omega)).mono ?_
  rintro e w4 ⟨o, rfl, g4, a4⟩
  have B4 := Lib.hid (B3.out.trans (A3.out.below g4))
  have A4 := Lib.hid a4
  clear g4 a4
  cases o
  · go_wp2_with fail
    refine (text_at A4.out 150 (by omega)).mono ?_
    rintro e w5 ⟨s, rfl, hs, g5, a5⟩
    have B5 := Lib.hid (B4.out.trans (A4.out.below g5))
    clear g5 a5
    go_wp2
    go_ret2
    exact ⟨_, _, rfl, HN.out, by omega, B5.out⟩
  · go_wp2_with fail
    go_region_with (go_at_call 41; refine (below_at A4.out.drew 2 (by omega)).mono ?_; rintro e w5 ⟨y, rfl, hy0, hy1, g5, a5⟩; obtain ⟨m, hm, hm1, hm2⟩ := made_size y hy0 hy1; have mk := run_make_row' (P := Try.prog) 22 5 (.int .u8 0) 1 Try.underlying22 infoByte rfl .i64 .i64 m (by omega) (by omega); have cv := made_str m hm2; have G5 := Lib.hid g5; clear g5 a5 hy0 hy1)
    all_goals go_wp2_with fail
    all_goals go_ret2
    all_goals exact ⟨_, _, rfl, HN.out, made_sz m hm2, (B4.out.trans (below_undrew (At.below A4.out.drew G5.out))).trans ((below_box _ _).mono (by have := B4.out.size; have := G5.out.size; simp at this; omega))⟩
end Go.Proofs.Ytedhallhdhlhhaa
