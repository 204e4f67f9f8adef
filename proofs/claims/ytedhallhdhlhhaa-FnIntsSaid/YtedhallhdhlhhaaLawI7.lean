/-
  The walk of FnInts.
-/
import Derived.Test.YtedhallhdhlhhaaDrawJ7
namespace Go.Proofs.Ytedhallhdhlhhaa
open Go.RowKit
set_option linter.unusedVariables false

theorem getI_found {l : List UInt8} {k x to : Int} (h : getI l k = (x, to, true)) : ∃ i j : Nat, k = i ∧ to = ((i + j : Nat) : Int) ∧ i + j ≤ l.length ∧ pi x = (l.drop i).take j ∧ I64 x := by
  unfold getI at h
  split at h
  · rename_i hc
    obtain ⟨i, rfl⟩ := Int.eq_ofNat_of_zero_le hc.1
    rw [Int.toNat_natCast] at h
    cases hg : getN (l.drop i) with
    | none => rw [hg] at h; simp at h
    | some p =>
      obtain ⟨n, j⟩ := p
      rw [hg] at h
      simp only [Prod.mk.injEq, and_true] at h
      obtain ⟨rfl, rfl⟩ := h
      obtain ⟨hj, hl, hp, h4, h5⟩ := getN_some hg
      rw [List.length_drop] at hl
      exact ⟨i, j, rfl, by omega, by omega, hp, ⟨h4, h5⟩⟩
  · simp at h

set_option maxRecDepth 100000 in
set_option maxHeartbeats 4000000 in
theorem ints_walk (a : Option Addr) (len cap : Nat) (w : World) (hb : Bytes w a len) (ha : 0 < len → ∀ x, a = some x → x.block < w.heap.size) :
    Calls Try.prog 3 #[.slice a len cap] w fun e w' => e = .returned (.bool true) ∧ Below w.heap.size w w' := by
  have hd := Lib.hid (drawPutInt_any a len cap w hb ha)
  have hbb := Lib.hid hb
  have haa := Lib.hid ha
  have HS := Lib.hid (fun v => sections_any v)
  clear hb ha
  go_enter Try.func3, Try.ntmps3
  go_wp2_with fail
  refine hd.out.mono ?_
  rintro e w1 ⟨n, rfl, hn, b1⟩
  have B1 := Lib.hid b1
  clear b1 hd
  have hpl := pi_len hn.1 hn.2
  have HP := Lib.hid (fun v => putInt_any n hn v)
  obtain ⟨S, hS⟩ : ∃ S : ByteArray, S = ⟨(pi n).toArray⟩ := ⟨_, rfl⟩
  rw [← hS] at HP
  have hSl : S.data.toList = pi n := by rw [hS]
  have hSs : S.size = (pi n).length := by rw [hS]; show (pi n).toArray.size = _; rw [List.size_toArray]
  obtain ⟨T, hT⟩ : ∃ T : ByteArray, T = S ++ ⟨#[255]⟩ := ⟨_, rfl⟩
  have ap := fun W => run_string_add_sum (P := Try.prog) W S ⟨#[255]⟩ (by show S.size + 1 ≤ _; omega)
  rw [← hT] at ap
  have hTl : T.data.toList = pi n ++ [255] := by rw [hT, ByteArray.data_append, Array.toList_append, hSl]
  have hTs : T.size = S.size + 1 := by rw [hT, ByteArray.size_append]; rfl
  have HG := Lib.hid (fun v => getInt_any T (by omega) 0 (by constructor <;> decide) v)
  have hgi : getI T.data.toList 0 = (n, (S.size : Int), true) := by
    have hg := getN_pi hn.1 hn.2 [255]
    rw [← hTl] at hg
    have h2 := getI_yes (l := T.data.toList) (k := 0) (Nat.zero_le _) hg
    rw [hSs]
    have e : ((0 : Nat) : Int) + ((pi n).length : Int) = ((pi n).length : Int) := by omega
    rw [e] at h2
    exact h2
  rw [hgi] at HG
  simp only at HG
  have hS1 : 1 ≤ S.size ∧ S.size ≤ 10 := by omega
  clear hpl hS hSl hSs hT hTl hTs hgi
  go_wp2_with (first
    | (go_at_call 15; refine (HP.out _).mono ?_; rintro e w2 ⟨rfl, b2⟩)
    | (go_at_call 16; with_reducible refine (HG.out _).mono ?_; rintro e w3 ⟨rfl, b3⟩))
  have B3 := Lib.hid (below_trans B1.out (below_trans b2 b3))
  clear b2 b3
  refine (drawGetInt_any a len cap w3 (hbb.out.below haa.out B3.out) (fun h x hx => Nat.lt_of_lt_of_le (haa.out h x hx) B3.out.size)).mono ?_
  rintro e w4 ⟨t, k, rfl, hk, ht, b4⟩
  have B4 := Lib.hid (below_trans B3.out b4)
  clear b4
  have H1 := Lib.hid (fun v => getInt_any t (by omega) k hk v)
  have H2 := Lib.hid (fun v => spec_getInt_any t (by omega) k v)
  obtain ⟨r, hr⟩ : ∃ r, r = getI t.data.toList k := ⟨_, rfl⟩
  rw [← hr] at H1 H2
  obtain ⟨x, to, o⟩ := r
  simp only at H1 H2
  cases o
  · clear hr
    go_wp2_with (first
      | (go_at_call 16; with_reducible refine (H1.out _).mono ?_; rintro e w5 ⟨rfl, b5⟩)
      | (go_at_call 18; with_reducible refine (H2.out _).mono ?_; rintro e w6 ⟨rfl, b6⟩))
    have B6 := Lib.hid (below_trans B4.out (below_trans b5 b6))
    clear b5 b6
    refine wp_region_ext (Below.refl _ _) (by kernel_rfl) (by kernel_rfl) ?_
    repeat (go_big_quiet_step ((fail)))
    refine wpQuiet_nil ?_
    intro _ hw'
    obtain ⟨x9, hw''⟩ := hw'
    subst hw''
    go_wp2_with (go_at_call 19; refine (HS.out _).mono ?_; rintro e w7 ⟨rfl, b7⟩)
    go_ret
    exact ⟨rfl, below_trans B6.out (below_trans x9.below b7)⟩
  · obtain ⟨i, j, rfl, rfl, hij, hpx, hx⟩ := getI_found hr.symm
    have htl : t.data.toList.length = t.size := by simp
    rw [htl] at hij
    have HPX := Lib.hid (fun v => putInt_any x hx v)
    have es : ∀ W : World, (Instr.slice 9 (.string t) (some (.int .i64 (i : Int))) (some (.int .i64 ((i : Int) + j))) none).run Try.prog W = .ok (.string (t.extract i (i + j))) W := fun W => by
      have h := run_slice_string (P := Try.prog) W 9 t .i64 .i64 (i : Int) ((i : Int) + j) Try.underlying9 (by omega) (by omega) (by omega)
      rw [h]
      rfl
    obtain ⟨E, hE⟩ : ∃ E, E = t.extract i (i + j) := ⟨_, rfl⟩
    rw [← hE] at es
    have hEl : E.toList = pi x := by
      rw [hE, ByteArray.toList_eq, hpx]
      simp only [ByteArray.data_extract, Array.toList_extract, List.extract]
      congr 1
      omega
    have hcmp : (pi x == E.toList) = true := by rw [hEl]; exact beq_self_eq_true _
    have d1 : decide ((i : Int) < 0) = false := decide_eq_false (by omega)
    have d2 : decide ((i : Int) + j < i) = false := decide_eq_false (by omega)
    have d3 : decide ((t.size : Int) < (i : Int) + j) = false := decide_eq_false (by omega)
    clear hr hpx hE hEl htl
    go_wp2_with (first
      | (go_at_call 16; with_reducible refine (H1.out _).mono ?_; rintro e w5 ⟨rfl, b5⟩)
      | (go_at_call 18; with_reducible refine (H2.out _).mono ?_; rintro e w6 ⟨rfl, b6⟩))
    have B6 := Lib.hid (below_trans B4.out (below_trans b5 b6))
    clear b5 b6
    refine wp_region_ext (Below.refl _ _) (by kernel_rfl) (by kernel_rfl) ?_
    repeat (go_big_quiet_step ((go_at_call 15; exact Ext.call (HPX.out _))))
    refine wpQuiet_nil ?_
    intro _ hw'
    obtain ⟨x9, hw''⟩ := hw'
    subst hw''
    go_wp2_with (go_at_call 19; refine (HS.out _).mono ?_; rintro e w7 ⟨rfl, b7⟩)
    go_ret
    exact ⟨rfl, below_trans B6.out (below_trans x9.below b7)⟩
end Go.Proofs.Ytedhallhdhlhhaa
