/-
  The draws l7bend and DrawGetInt: some text, and a number.
-/
import Derived.Test.YtedhallhdhlhhaaDrawB7
import Derived.Test.YtedhallhdhlhhaaLawB7
import Derived.Deep.RegionWith
namespace Go.Proofs.Ytedhallhdhlhhaa
open Go.RowKit
set_option linter.unusedVariables false

/-- A row that is newer than the cursor, through what leaves all but the cursor alone. -/
theorem MRow.grown {w w' : World} {g B : Nat} {l : List UInt8} (h : MRow w g l) (hg : w.grownBy w' (some B)) (hne : g ≠ B) : MRow w' g l := by
  obtain ⟨cs, hh, hl, hc⟩ := h
  exact ⟨cs, (hg.block g (Array.getElem?_eq_some_iff.1 hh).1 (fun e => hne (by cases e; rfl))).trans hh, hl, hc⟩
theorem At.set {w : World} {n₀ B len g : Nat} {a : Option Addr} (h : At w n₀ B a len) (hg : B < g) (j : Nat) (v : Value) : At (w.setCell ⟨g, j, none⟩ v) n₀ B a len :=
  h.row (grown_set' w g j v) (fun k e => by cases e; exact Nat.le_refl _) hg
theorem grow_setg {w w' : World} {B g : Nat} (h : w.grownBy w' (some B)) (hg : w.heap.size ≤ g) (hB : B < w.heap.size) (j : Nat) (v : Value) : w.grownBy (w'.setCell ⟨g, j, none⟩ v) (some B) :=
  grow_new h (grown_set' w' g j v) (fun k e => by cases e; exact hg) hB
theorem grow_undrew {w w' : World} {row : Option Nat} (h : w.drew.grownBy w' row) : w.grownBy w' row := ⟨h.os, h.tape, h.output, h.size, h.block⟩
theorem byte_one (y : Int) (h0 : 0 ≤ y) (h1 : y ≤ 255) : ∃ x : UInt8, y = (x.toNat : Int) ∧ IntKind.u8.wrap (x.toNat : Int) = (x.toNat : Int) :=
  ⟨y.toNat.toUInt8, by have : (y.toNat.toUInt8).toNat = y.toNat := by simp [Nat.toUInt8]; omega
                       omega, by rw [IntWalk.u8_in _ (by have := (y.toNat.toUInt8).toNat_lt; omega)]⟩

theorem hr_grown {w w' : World} {g B : Nat} {l : List UInt8} (h : MRow w g l) (hg : w.drew.grownBy w' (some B)) (hne : B < g) : MRow w' g l := h.grown (grow_undrew hg) (by omega)
theorem growDrawn {w w' : World} {row : Option Nat} (h : w.grownBy w' row) (n : Nat) : w.grownBy (w'.drewN n) row := ⟨h.os, h.tape, h.output, h.size, h.block⟩
theorem At.drewN {w : World} {n₀ B len : Nat} {a : Option Addr} (h : At w n₀ B a len) (n : Nat) : At (w.drewN n) n₀ B a len := ⟨h.bytes, h.cur, h.le, h.low⟩
theorem xor_byte (y : UInt8) (r : Int) : ∃ z : UInt8, bits .xor .u8 (y.toNat : Int) (IntKind.u8.wrap (2 ^ r.toNat)) = (z.toNat : Int) := by
  have hw : 0 ≤ IntKind.u8.wrap (2 ^ r.toNat) ∧ IntKind.u8.wrap (2 ^ r.toNat) < 256 := by rw [IntKind.wrap_u8]; omega
  have hy := y.toNat_lt
  have h := u8_xor (y.toNat : Int) (IntKind.u8.wrap (2 ^ r.toNat)) (by omega) (by omega) hw.1 hw.2
  have hlt : ((y.toNat : Int)).toNat ^^^ (IntKind.u8.wrap (2 ^ r.toNat)).toNat < 256 := by
    rw [show (256 : Nat) = 2 ^ 8 by decide]
    exact Nat.xor_lt_two_pow (by omega) (by omega)
  obtain ⟨z, hz⟩ := byte_of _ hlt
  exact ⟨z, by rw [h, hz]⟩
theorem str_set {w : World} {g : Nat} {l : List UInt8} (h : MRow w g l) (k : Nat) (hk : k < l.length) (z : UInt8) (cp n : Nat) (hn : l.length = n) :
    (convert 22 9 (.slice (some ⟨g, 0, none⟩) n cp)).run Try.prog (w.setCell ⟨g, k, none⟩ (.int .u8 (z.toNat : Int))) = .ok (.string ⟨(l.set k z).toArray⟩) (w.setCell ⟨g, k, none⟩ (.int .u8 (z.toNat : Int))) := by
  have h2 := (h.set k hk z).str (cap := cp)
  rw [List.length_set, hn] at h2
  exact h2
set_option maxRecDepth 100000 in
set_option maxHeartbeats 4000000 in
theorem bend_at {w : World} {n₀ B len : Nat} {a : Option Addr} (h : At w n₀ B a len) (s : ByteArray) (hs : s.size ≤ 1000) :
    Calls Try.prog 42 #[.pointer (some ⟨B, 0, none⟩), .string s] w fun e w' => ∃ s' : ByteArray, e = .returned (.string s') ∧ s'.size ≤ s.size + 1 ∧ w.grownBy w' (some B) ∧ At w' n₀ B a len := by
  have hBw := h.lt
  go_enter Try.func42, Try.ntmps42
  go_wp2_with fail
  refine (below_at h ((s.size : Int) + 1) (by omega)).mono ?_
  rintro e w1 ⟨x, rfl, hx0, hx1, g1, a1⟩
  obtain ⟨k, rfl⟩ := Int.eq_ofNat_of_zero_le hx0
  have hks : k ≤ s.size := by omega
  have G1 := Lib.hid g1
  have A1 := Lib.hid a1
  clear h g1 a1 hx0 hx1
  go_wp2_with fail
  refine (below_at A1.out 4 (by omega)).mono ?_
  rintro e w2 ⟨q, rfl, hq0, hq1, g2, a2⟩
  have G2 := Lib.hid (grow_to G1.out g2)
  have A2 := Lib.hid a2
  clear g2 a2
  by_cases c0 : q = 0
  · subst c0
    go_wp2
    go_ret
    refine ⟨_, rfl, ?_, G2.out, A2.out⟩
    simp; omega
  have n0 : (q == 0) = false := beq_eq_false_iff_ne.2 c0
  by_cases c1 : q = 1
  · subst c1
    have hw2 := G2.out.size
    have e1 : (s.extract 0 k).size = k := by simp; omega
    have e2 : (s.extract k s.size).size = s.size - k := by simp
    have ad1 : ∀ (x : UInt8), (s.extract 0 k).size + (⟨#[x]⟩ : ByteArray).size ≤ 9223372036854775807 := fun x => by rw [e1]; show k + 1 ≤ _; omega
    have ad2 : ∀ (x : UInt8), (s.extract 0 k ++ ⟨#[x]⟩).size + (s.extract k s.size).size ≤ 9223372036854775807 := fun x => by rw [ByteArray.size_append, e1, e2]; show k + 1 + _ ≤ _; omega
    have a1 := fun (x : UInt8) W => run_string_add_sum (P := Try.prog) W (s.extract 0 k) ⟨#[x]⟩ (ad1 x)
    have a2 := fun (x : UInt8) W => run_string_add_sum (P := Try.prog) W (s.extract 0 k ++ ⟨#[x]⟩) (s.extract k s.size) (ad2 x)
    have AD1 := Lib.hid e1
    have AD2 := Lib.hid e2
    clear e1 e2 ad1 ad2
    go_wp2_with fail
    go_region_with (go_at_call 55; refine (byte_at A2.out.drew).mono ?_; rintro e w3 ⟨y, rfl, hy0, hy1, g3, a3⟩; obtain ⟨z, rfl, hwr⟩ := byte_one y hy0 hy1; have cvr := fun W g => conv_one W g z; have G3 := Lib.hid (grow_to G2.out (grow_undrew g3)); have A3 := Lib.hid a3; clear g3 a3 hy0 hy1)
    all_goals go_wp2_with fail
    all_goals go_ret
    all_goals refine ⟨_, rfl, ?_, grow_to G3.out (grownBelow (below_box _ _) (some B)), A3.out.kept (below_box _ _)⟩
    all_goals rw [ByteArray.size_append, ByteArray.size_append, AD1.out, AD2.out]
    all_goals show k + 1 + (s.size - k) ≤ s.size + 1
    all_goals omega
  have n1 : (q == 1) = false := beq_eq_false_iff_ne.2 c1
  have ez : ∀ W, (Op.stringOp .add s ⟨#[48]⟩).run Try.prog W = .ok (.string (s ++ ⟨#[48]⟩)) W := fun W => run_string_add_sum (P := Try.prog) W s ⟨#[48]⟩ (by show s.size + 1 ≤ _; omega)
  have EZ := Lib.hid (show (s ++ (⟨#[48]⟩ : ByteArray)).size ≤ s.size + 1 by rw [ByteArray.size_append]; exact Nat.le_refl _)
  by_cases c2 : q = 2
  · subst c2
    by_cases hk : k < s.size
    · have e1 : (s.extract 0 k).size = k := by simp; omega
      have e2 : (s.extract (k + 1) s.size).size = s.size - (k + 1) := by simp
      have a1 := fun W => run_string_add_sum (P := Try.prog) W (s.extract 0 k) (s.extract (k + 1) s.size) (by rw [e1, e2]; omega)
      have s1 : ∀ W : World, (Instr.slice 9 (.string s) none (some (.int .i64 (k : Int))) none).run Try.prog W = .ok (.string (s.extract 0 k)) W := fun W => by
        have h := run_slice_string_to_if (P := Try.prog) W 9 s .i64 (k : Int) Try.underlying9
        rw [if_pos ⟨by omega, by omega⟩] at h
        exact h
      have s2 : ∀ W : World, (Instr.slice 9 (.string s) (some (.int .i64 ((k : Int) + 1))) none none).run Try.prog W = .ok (.string (s.extract (k + 1) s.size)) W := fun W => by
        have h := run_slice_string_from_if (P := Try.prog) W 9 s .i64 ((k : Int) + 1) Try.underlying9
        rw [if_pos ⟨by omega, by omega⟩] at h
        exact h
      have ew : IntKind.i64.wrap ((k : Int) + 1) = (k : Int) + 1 := IntWalk.i64_in _ (by omega)
      have E12 := Lib.hid (show (s.extract 0 k ++ s.extract (k + 1) s.size).size ≤ s.size + 1 by rw [ByteArray.size_append, e1, e2]; omega)
      clear e1 e2
      go_wp2_with fail
      go_quiet (fail)
      go_wp2
      go_ret
      exact ⟨_, rfl, E12.out, growDrawn G2.out _, A2.out.drewN _⟩
    · go_wp2
      go_ret
      exact ⟨_, rfl, EZ.out, G2.out, A2.out⟩
  have n2 : (q == 2) = false := beq_eq_false_iff_ne.2 c2
  by_cases hk : k < s.size
  · obtain ⟨cp, W, hcv, hrow, bW⟩ := conv_bytes w2 s
    obtain ⟨g, hg⟩ : ∃ g, g = w2.heap.size := ⟨_, rfl⟩
    rw [← hg] at hcv hrow
    have hBg : B < g := by have := G2.out.size; omega
    have hwg : w.heap.size ≤ g := by have := G2.out.size; omega
    have G3 := Lib.hid (grow_to G2.out (grownBelow bW (some B)))
    have A3 := Lib.hid (A2.out.kept bW)
    have hsl : s.data.toList.length = s.size := by simp
    have hc0 := hrow.cell k (by rw [hsl]; exact hk)
    have hf0 := hrow.free k (by rw [hsl]; exact hk)
    obtain ⟨y, hy⟩ : ∃ y : UInt8, y = s.data.toList[k]'(by rw [hsl]; exact hk) := ⟨_, rfl⟩
    rw [← hy] at hc0
    have HR := Lib.hid hrow
    have Hy := Lib.hid hy
    have Hsl := Lib.hid hsl
    clear hg bW hrow hy
    go_wp2_with fail
    go_region_with (go_at_call 41; refine (below_at A3.out.drew 8 (by omega)).mono ?_; rintro e w4 ⟨r, rfl, hr0, hr1, g4, a4⟩; have hc4 := (hr_grown HR.out g4 hBg).cell k (by rw [Hsl.out]; exact hk); have hf4 := (hr_grown HR.out g4 hBg).free k (by rw [Hsl.out]; exact hk); rw [← Hy.out] at hc4; have R4 := Lib.hid (hr_grown HR.out g4 hBg); have G4 := Lib.hid (grow_to G3.out (grow_undrew g4)); have A4 := Lib.hid a4; clear g4 a4)
    all_goals
      obtain ⟨z, hz⟩ := xor_byte y r
      rw [hz]
      have hcv2 := str_set R4.out k (by rw [Hsl.out]; exact hk) z cp s.size Hsl.out
      obtain ⟨T, hT⟩ : ∃ T : ByteArray, T = ⟨(s.data.toList.set k z).toArray⟩ := ⟨_, rfl⟩
      rw [← hT] at hcv2
      have HTs := Lib.hid (show T.size ≤ s.size + 1 by rw [hT]; show (s.data.toList.set k z).toArray.size ≤ _; rw [List.size_toArray, List.length_set, Hsl.out]; omega)
      clear hT hz
      go_wp2_with fail
      go_ret
      exact ⟨_, rfl, HTs.out, grow_setg G4.out hwg hBw k _, A4.out.set hBg k _⟩
  · go_wp2
    go_ret
    exact ⟨_, rfl, EZ.out, G2.out, A2.out⟩
end Go.Proofs.Ytedhallhdhlhhaa
