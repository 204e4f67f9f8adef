/-
  The draws of numbers, texts and sections (l7num, l7text, DrawPutInt, DrawPutWord, DrawSection), and laws.at.
-/
import Derived.Test.YtedhallhdhlhhaaDrawNew
import Derived.Test.YtedhallhdhlhhaaByT
import Derived.Test.YtedhallhdhlhhaaByN
namespace Go.Proofs.Ytedhallhdhlhhaa
open Go.RowKit
set_option linter.unusedVariables false

/-- The cursor, behind a write into memory that is newer. -/
theorem At.row {w w' : World} {n₀ B len base : Nat} {a : Option Addr} {row : Option Nat} (h : At w n₀ B a len) (hg : w.grownBy w' row) (hr : ∀ k, row = some k → base ≤ k) (hB : B < base) : At w' n₀ B a len := by
  obtain ⟨cap, i, q, hh, hi⟩ := h.cur
  have hb : Below n₀ w w' := (Below.refl n₀ w).grown hg (by have := h.lt; have := h.le; omega) (fun k e => by have := hr k e; have := h.le; omega)
  exact ⟨h.bytes.below h.low hb, ⟨cap, i, q, (hg.block B h.lt (fun e => by have := hr B e.symm; omega)).trans hh, hi⟩, h.le, h.low⟩

theorem grow_new {w w1 w2 : World} {B : Nat} {row : Option Nat} (h : w.grownBy w1 (some B)) (hg : w1.grownBy w2 row) (hr : ∀ k, row = some k → w.heap.size ≤ k) (hB : B < w.heap.size) : w.grownBy w2 (some B) :=
  ⟨hg.os.trans h.os, hg.tape.trans h.tape, hg.output.trans h.output, Nat.le_trans h.size hg.size, fun k hk hne => (hg.block k (Nat.lt_of_lt_of_le hk h.size) (fun e => by have := hr k e.symm; omega)).trans (h.block k hk hne)⟩
set_option maxRecDepth 100000 in
set_option maxHeartbeats 1000000 in
theorem num_at {w : World} {n₀ B len : Nat} {a : Option Addr} (h : At w n₀ B a len) :
    Calls Try.prog 34 #[.pointer (some ⟨B, 0, none⟩)] w fun e w' => ∃ x : Int, e = .returned (.int .i64 x) ∧ I64 x ∧ w.grownBy w' (some B) ∧ At w' n₀ B a len := by
  go_enter Try.func34, Try.ntmps34
  go_wp2_with fail
  refine (below_at h 3 (by omega)).mono ?_
  rintro e w1 ⟨x, rfl, hx0, hx3, g1, a1⟩
  by_cases h0 : x = 0
  · subst h0
    have c1 : Below w1.heap.size w1 (w1.alloc (.cells #[.int .i64 0, .int .i64 (-1), .int .i64 63, .int .i64 64, .int .i64 (-64), .int .i64 (-65), .int .i64 8191, .int .i64 8192, .int .i64 9223372036854775807, .int .i64 (-9223372036854775808)] 3)) := (Below.refl _ _).alloc (Nat.le_refl _) _
    have hk1 := Lib.hid (a1.kept c1)
    have hB1 := a1.lt
    have hr1 := Lib.hid (show ∀ w', (w1.alloc (.cells #[.int .i64 0, .int .i64 (-1), .int .i64 63, .int .i64 64, .int .i64 (-64), .int .i64 (-65), .int .i64 8191, .int .i64 8192, .int .i64 9223372036854775807, .int .i64 (-9223372036854775808)] 3)).grownBy w' (some B) → Rd w' (.slice (some ⟨w1.heap.size, 0, none⟩) 10 10) [0, -1, 63, 64, -64, -65, 8191, 8192, 9223372036854775807, -9223372036854775808] from fun w' hg =>
      rd_grown (rd_new w1 3 [0, -1, 63, 64, -64, -65, 8191, 8192, 9223372036854775807, -9223372036854775808] (by decide)) hg (by omega))
    have G1 := Lib.hid (grow_to g1 (grownBelow c1 (some B)))
    clear c1 hB1 g1 a1
    go_wp2_with fail
    refine (pickInt_at hk1.out _ [0, -1, 63, 64, -64, -65, 8191, 8192, 9223372036854775807, -9223372036854775808] (by decide) hr1.out).mono ?_
    rintro e w2 ⟨b, rfl, hy, g2, a2⟩
    have hb : I64 b := by
      unfold I64
      simp only [List.mem_cons, List.not_mem_nil, or_false] at hy
      omega
    have HB := Lib.hid hb
    have G2 := Lib.hid (grow_to G1.out g2)
    have A2 := Lib.hid a2
    clear hy hb g2 a2
    go_wp2
    go_ret
    exact ⟨_, rfl, HB.out, G2.out, A2.out⟩
  · have hb0 : (x == 0) = false := beq_eq_false_iff_ne.2 h0
    by_cases h1 : x = 1
    · subst h1
      have A1 := Lib.hid a1
      have G1 := Lib.hid g1
      clear a1 g1
      go_wp2_with fail
      refine (below_at A1.out 4294967296 (by omega)).mono ?_
      rintro e w2 ⟨y, rfl, hy0, hy1, g2, a2⟩
      have G2 := Lib.hid (grow_to G1.out g2)
      have A2 := Lib.hid a2
      clear g2 a2
      go_wp2
      go_ret
      exact ⟨_, rfl, by unfold I64; omega, G2.out, A2.out⟩
    · have hb1 : (x == 1) = false := beq_eq_false_iff_ne.2 h1
      have A1 := Lib.hid a1
      have G1 := Lib.hid g1
      clear a1 g1
      go_wp2_with fail
      refine (below_at A1.out 200 (by omega)).mono ?_
      rintro e w2 ⟨y, rfl, hy0, hy1, g2, a2⟩
      have G2 := Lib.hid (grow_to G1.out g2)
      have A2 := Lib.hid a2
      clear g2 a2
      go_wp2
      go_ret
      exact ⟨_, rfl, by unfold I64; omega, G2.out, A2.out⟩

set_option maxRecDepth 100000 in
set_option maxHeartbeats 1000000 in
/-- A text of at most n bytes. -/
theorem text_at {w : World} {n₀ B len : Nat} {a : Option Addr} (h : At w n₀ B a len) (n : Nat) (hn : n ≤ 1000) :
    Calls Try.prog 40 #[.pointer (some ⟨B, 0, none⟩), .int .i64 (n : Int)] w fun e w' => ∃ s : ByteArray, e = .returned (.string s) ∧ s.size ≤ n ∧ w.grownBy w' (some B) ∧ At w' n₀ B a len := by
  obtain ⟨i0, hi0, hz0, hz1, hz2⟩ := info_parts infoByte
  go_enter Try.func40, Try.ntmps40
  go_wp2_with fail
  refine (below_at h ((n : Int) + 1) (by omega)).mono ?_
  rintro e w1 ⟨x, rfl, hx0, hx3, g1, a1⟩
  obtain ⟨k, rfl⟩ := Int.eq_ofNat_of_zero_le hx0
  have hkn : k ≤ n := by omega
  have hBw := h.lt
  have A1 := Lib.hid a1
  have G1 := Lib.hid g1
  clear h a1 g1 hx0 hx3
  go_wp2_with fail
  go_loopw [5, 6] (fun v c wr => ∃ (m : Nat) (l : List UInt8), m ≤ k ∧ c = .int .i64 m ∧ l.length + m = k ∧ wr.ownsRow w.heap.size 5 1 v l.length (l.map u8v) ∧ At wr n₀ B a len ∧ w.grownBy wr (some B)) (fun _ c _ => (intOf c).toNat)
  case atStart => exact ⟨k, [], Nat.le_refl _, rfl, by simp, World.ownsRow_nil _ _ _ _, A1.out, G1.out⟩
  case round =>
    obtain ⟨m, l, hm, rfl, hl, hown, hat, hgr⟩ := hrel
    have hsz := hgr.size
    by_cases hlt : 0 < m
    · have HO := Lib.hid hown
      have HA := Lib.hid hat
      have HG := Lib.hid hgr
      clear hown hat hgr
      go_wp2_with fail
      refine (byte_at HA.out).mono ?_
      rintro e2 w2 ⟨y, rfl, hy0, hy1, g2, a2⟩
      have hown2 := HO.out.kept g2 (by
        cases hv : u5.ownBlock with
        | none => exact .inl rfl
        | some q => exact .inr (fun e => by cases e; have := (HO.out.lt _ hv).1; omega))
      have hs2 := g2.size
      have G2 := Lib.hid (grow_to HG.out g2)
      have A2 := Lib.hid a2
      clear g2 a2
      go_wp2_with (at_builtin; refine wpList_append_own _ rfl _ _ 22 rfl w.heap.size 5 i0 (.int .u8 0) 1 1 Try.underlying22 hi0 hz0 hz1 hz2 rfl (by decide) _ _ _ rfl (hown2.alloc _) ⟨w2.heap.size, 0, none⟩ 1 1 [.int .u8 y] rfl rfl (cell_one' _ _ _) (by simp [Value.oneCell']) (by unfold maxLen; omega) (by omega) (by simp; omega) ?_; intro v' w3 hown3 hgrow _)
      have hal := grownBelow (below_box w2 (.cells #[.int .u8 y] 5)) (some B)
      have hrow : ∀ q, u5.ownBlock = some q → w.heap.size ≤ q := fun q hq => (hown2.lt q hq).1
      have A3 := Lib.hid ((A2.out.kept (below_box w2 (.cells #[.int .u8 y] 5))).row hgrow hrow hBw)
      have G3 := Lib.hid (grow_new (grow_to G2.out hal) hgrow hrow hBw)
      have ho3 := Lib.hid (show w3.ownsRow w.heap.size 5 1 v' (l ++ [y.toNat.toUInt8]).length ((l ++ [y.toNat.toUInt8]).map u8v) by
        rw [List.map_append, List.length_append]
        have e : u8v y.toNat.toUInt8 = .int .u8 y := by
          have : (y.toNat.toUInt8).toNat = y.toNat := by simp [Nat.toUInt8]; omega
          unfold u8v; rw [this]; congr 1; omega
        simp only [List.map_cons, List.map_nil, e]
        exact hown3)
      clear hown2 hown3 hgrow hal hrow
      go_wp2
      go_roundw
      case rel => exact ⟨m - 1, l ++ [y.toNat.toUInt8], by omega, by (congr 1; omega), by rw [List.length_append]; simp; omega, ho3.out, A3.out, G3.out⟩
      case measure => simp [intOf]; omega
    · have hcv := str_of_any hown
      have HA := Lib.hid hat
      have HG := Lib.hid hgr
      obtain rfl : m = 0 := by omega
      clear hown hat hgr
      go_wp2
      go_ret
      refine ⟨_, rfl, ?_, HG.out, HA.out⟩
      show l.toArray.size ≤ n
      rw [List.size_toArray]
      omega
end Go.Proofs.Ytedhallhdhlhhaa
