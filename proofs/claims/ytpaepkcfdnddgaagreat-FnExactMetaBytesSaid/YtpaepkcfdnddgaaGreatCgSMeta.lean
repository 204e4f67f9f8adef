import Derived.Test.YtpaepkcfdnddgaaGreatCgEncD
import Derived.Test.YtpaepkcfdnddgaaGreatCgRF
import Derived.Test.YtpaepkcfdnddgaaGreatCgW

namespace Go.Proofs.YtpaepkcfdnddgaaGreat
open Go.RowKit
set_option linter.unusedVariables false

def b01 (b : Bool) : Int := if b then 1 else 0
theorem l8bool_any (b : Bool) (w : World) : Calls Tryz.prog 77 #[.bool b] w fun e w' => e = .returned (.int .i64 (b01 b)) ∧ w = w' := by
  cases b
  · go_enter Tryz.func77, Tryz.ntmps77
    go_wp2
    go_ret
    exact ⟨rfl, rfl⟩
  · go_enter Tryz.func77, Tryz.ntmps77
    go_wp2
    go_ret
    exact ⟨rfl, rfl⟩
theorem putInt1 {n : Int} (hn : I64 n) (w : World) : Calls Tryz.prog 76 #[.int .i64 n] w fun e w' => e = .returned (.string (ints [n])) ∧ Below w.heap.size w w' := by
  rw [ints_one]; exact spec_putInt_any n hn w
theorem secB_size (tag : Int) (s : ByteArray) : (secB tag s).size ≤ 300000 := by
  unfold secB
  split
  · show (0 : Nat) ≤ 300000
    omega
  · rename_i h
    have h1 : (pi (s.size : Int)).length ≤ 10 := (pi_len (n := (s.size : Int)) (by omega) (by omega)).2
    show (secL tag.toNat s.data.toList).toArray.size ≤ 300000
    rw [List.size_toArray]
    unfold secL
    rw [show s.data.toList.length = s.size from (by simp)]
    simp only [List.length_cons, List.length_append]
    rw [show s.data.toList.length = s.size from (by simp)]
    have h2 : (putW (crc s.data.toList)).length = 4 := rfl
    omega
theorem add_sec {P : Program} (a b : ByteArray) (ha : a.size ≤ 900000) (hb : b.size ≤ 300000) (w : World) : (Op.stringOp .add a b).run P w = .ok (.string (a ++ b)) w :=
  run_string_add_sum (P := P) (w := w) _ _ (by omega)
theorem i64_len {α : Type} (l : List α) (h : l.length ≤ 1000000000) : I64 (l.length : Int) := by constructor <;> omega

set_option maxRecDepth 100000 in
set_option maxHeartbeats 16000000 in
theorem smeta_at (B : Nat) (v : Value) (D : WD) (hF : HeapForm D) (hI : FitD D) (hgr : D.grey.length ≤ 2000000) (w : World) (hr : RdW w v D) (hB : BoxW w B v) :
    Calls Tryz.prog 28 #[.pointer (some ⟨B, 0, none⟩)] w fun e w' => (∃ b, e = .returned (.string b) ∧ MetaIs D b) ∧ Below w.heap.size w w' := by
  have href := Lib.hid (fun addr (x : Ext w) => sref_at B v D hF addr x.val (hr.below x.below) (hB.below x.below))
  have hF' := Lib.hid hF
  have hI' := Lib.hid hI
  have hgr' := Lib.hid hgr
  obtain ⟨vw, vd, vs, vm, vg, rfl, a1, a2, a3, a4, a5⟩ := hr
  obtain ⟨cs, he, hh⟩ := hB
  obtain rfl := (Value.agg.inj he).symm
  obtain ⟨aS, cS, rfl, hsl, hx⟩ := a3
  obtain ⟨aM, cM, rfl, hml, hy⟩ := a4
  obtain ⟨aG, cG, rfl, hgl, hz⟩ := a5
  unfold maxLen at hsl hml hgl
  have hsp : D.spans.length ≤ 12 := by have := hF.spans; have := hF.geo.2.2.2.2.1; omega
  have hmu : D.muts.length ≤ 3 := by have := hF.geo.2.2.2.2.2.2; omega
  have g1 := Ext.cell (cell_of_heap hh 1 (.int .i64 D.pages) rfl)
  have g4 := Ext.cell (cell_of_heap hh 4 (.slice aS D.spans.length cS) rfl)
  have g5 := Ext.cell (cell_of_heap hh 5 (.slice aM D.muts.length cM) rfl)
  have g6 := Ext.cell (cell_of_heap hh 6 (.int .i64 D.phase) rfl)
  have g7 := Ext.cell (cell_of_heap hh 7 (.int .i64 D.next) rfl)
  have g8 := Ext.cell (cell_of_heap hh 8 (.slice aG D.grey.length cG) rfl)
  have i1 : I64 D.pages := hI.pages
  have i2 : I64 D.phase := hI.phase
  have i3 : I64 D.next := hI.next
  have i4 : I64 (D.muts.length : Int) := i64_len _ (by omega)
  have i5 : I64 (D.spans.length : Int) := i64_len _ (by omega)
  have i6 : I64 (D.grey.length : Int) := i64_len _ (by omega)
  have e1 := fun W => add_int (P := Tryz.prog) (l := [D.pages]) (m := [D.pages, D.phase]) (n := D.phase) (allI_one i1) i2 (by simp) rfl W
  have e2 := fun W => add_int (P := Tryz.prog) (l := [D.pages, D.phase]) (m := [D.pages, D.phase, D.next]) (n := D.next) (allI_append (allI_one i1) (allI_one i2)) i3 (by simp) rfl W
  have e3 := fun W => add_int (P := Tryz.prog) (l := [D.pages, D.phase, D.next]) (m := roundN D) (n := (D.muts.length : Int)) (allI_append (allI_one i1) (allI_append (allI_one i2) (allI_one i3))) i4 (by simp) rfl W
  have hx' := Lib.hid hx
  have hy' := Lib.hid hy
  have hz' := Lib.hid hz
  have hsl' := Lib.hid hsp
  have hml' := Lib.hid hmu
  clear a1 a2 he hh hF hI hgr hx hy hz hsl hml hgl hsp hmu
  go_enter Tryz.func28, Tryz.ntmps28
  go_wp2_with fail
  refine wp_region_ext (Below.refl _ _) (by kernel_rfl) (by kernel_rfl) ?_
  repeat (go_big_quiet_step ((go_at_call 76; exact Ext.call (putInt1 (by assumption) _))))
  refine wpQuiet_nil ?_
  intro _ hw'
  obtain ⟨x9, hw''⟩ := hw'
  subst hw''
  clear e1 e2 e3
  go_wp2_with fail
  refine (putInt1 i5 _).mono ?_
  rintro e w1 ⟨rfl, b1⟩
  obtain ⟨x1, rfl⟩ := x9.then b1
  clear b1
  go_wp2_with fail
  go_loopw [4, 5] (fun s i wr => ∃ (k : Nat) (x : Ext w), k ≤ D.spans.length ∧ i = .int .i64 k ∧ s = .string (ints (spansP D k)) ∧ wr = x.val) (fun _ i _ => D.spans.length - (intOf i).toNat)
  case atStart => exact ⟨0, x1, Nat.zero_le _, rfl, rfl, rfl⟩
  case round =>
    obtain ⟨k, x, hk, rfl, rfl, rfl⟩ := hrel
    by_cases hlt : k < D.spans.length
    · obtain ⟨s, hs⟩ : ∃ s, D.spans[k]? = some s := ⟨_, List.getElem?_eq_getElem hlt⟩
      obtain ⟨b1, o1, rfl, vl, vp, q0, q1, q2, q3, q4, q5, ⟨al, cl, rfl, hll, xl⟩, ⟨ap, cp, rfl, hpl, xp⟩⟩ := hx'.out k s hs
      unfold maxLen at hll hpl
      have hfs := hI'.out.spans s (List.mem_of_getElem? hs)
      have hA := hF'.out.span k s hs
      have hl16 : s.lens.length ≤ 16 := by have := hA.lens; unfold sl' at this; (repeat' split at this) <;> omega
      have hpq : s.ptrs.length = s.lens.length := by have := hA.lens; have := hA.ptrs; omega
      have q0' := Ext.cell q0
      have q1' := Ext.cell q1
      have q2' := Ext.cell q2
      have q3' := Ext.cell q3
      have q4' := Ext.cell q4
      have q5' := Ext.cell q5
      have hlt' : (k : Int) < (D.spans.length : Int) := by omega
      have hSa := spansP_all hI'.out (by have := hsl'.out; omega) k
      have hSl := spansP_len hF'.out k
      have hss := Lib.hid (spansP_succ hs)
      obtain ⟨S, hS⟩ : ∃ S, S = spansP D k := ⟨_, rfl⟩
      have hj1 : I64 s.page := hfs.page
      have hj2 : I64 s.cls := hfs.cls
      have hj3 : I64 s.mark := hfs.mark
      have hj4 : I64 (b01 s.swept) := by unfold b01; split <;> (constructor <;> decide)
      rw [← hS] at hSa hSl hss
      rw [← hS]
      have H4 := Lib.hid (fun W => l8bool_any s.swept W)
      have hH4 : spanH s = [s.page, s.cls, s.mark, b01 s.swept] := rfl
      have hspanN : spanN s = spanH s ++ slotsN s s.lens.length := rfl
      obtain ⟨sw, hsw⟩ : ∃ sw, sw = b01 s.swept := ⟨_, rfl⟩
      rw [← hsw] at H4 hj4 hH4
      obtain ⟨S1, hS1⟩ : ∃ S1, S1 = S ++ [s.page] := ⟨_, rfl⟩
      obtain ⟨S2, hS2⟩ : ∃ S2, S2 = S1 ++ [s.cls] := ⟨_, rfl⟩
      obtain ⟨S3, hS3⟩ : ∃ S3, S3 = S2 ++ [s.mark] := ⟨_, rfl⟩
      obtain ⟨S4, hS4⟩ : ∃ S4, S4 = S3 ++ [sw] := ⟨_, rfl⟩
      have k1 : AllI S1 := by rw [hS1]; exact allI_append hSa (allI_one hj1)
      have k2 : AllI S2 := by rw [hS2]; exact allI_append k1 (allI_one hj2)
      have k3 : AllI S3 := by rw [hS3]; exact allI_append k2 (allI_one hj3)
      have k4 : AllI S4 := by rw [hS4]; exact allI_append k3 (allI_one hj4)
      have l1 : S1.length = S.length + 1 := by rw [hS1]; simp
      have l2 : S2.length = S1.length + 1 := by rw [hS2]; simp
      have l3 : S3.length = S2.length + 1 := by rw [hS3]; simp
      have l4 : S4.length = S3.length + 1 := by rw [hS4]; simp
      have hk12 := hsl'.out
      have hz4 : S4.length ≤ 1000 := by omega
      have e1 := fun W => add_int (P := Tryz.prog) hSa hj1 (by omega) hS1 W
      have e2 := fun W => add_int (P := Tryz.prog) k1 hj2 (by omega) hS2 W
      have e3 := fun W => add_int (P := Tryz.prog) k2 hj3 (by omega) hS3 W
      have e4 := fun W => add_int (P := Tryz.prog) k3 hj4 (by omega) hS4 W
      have hall := Lib.hid (show S ++ spanN s = S4 ++ slotsN s s.lens.length by rw [hspanN, hH4, hS4, hS3, hS2, hS1]; simp)
      have k4' := Lib.hid k4
      have z4 := Lib.hid hz4
      have sl := Lib.hid (fun i => slotsN_all hfs i)
      have si := Lib.hid (fun i (h : i < s.lens.length) => slotsN_succ (s := s) (i := i) h (by omega))
      have lI := Lib.hid hfs.lens
      have pI := Lib.hid hfs.ptrs
      have hl16' := Lib.hid hl16
      have hpq' := Lib.hid hpq
      have hltH := Lib.hid hlt
      clear hs hfs hA hl16 hSa hSl hS hH4 hspanN hsw hS1 hS2 hS3 hS4 k1 k2 k3 k4 l1 l2 l3 l4 hk12 hz4 hpq
      have xl' := Lib.hid xl
      have xp' := Lib.hid xp
      clear xl xp q0 q1 q2 q3 q4 q5
      go_wp2_with fail
      have bW := Lib.hid (below_trans x.below (below_box x.val (.cells #[.int .i64 s.page, .int .i64 s.cls, .int .i64 s.mark, .bool s.swept, .slice al s.lens.length cl, .slice ap s.ptrs.length cp] 73)))
      have xb := box_new x.val (.cells #[.int .i64 s.page, .int .i64 s.cls, .int .i64 s.mark, .bool s.swept, .slice al s.lens.length cl, .slice ap s.ptrs.length cp] 73)
      have n0 := Ext.cell (cell_of_heap xb 0 (.int .i64 s.page) rfl)
      have n1 := Ext.cell (cell_of_heap xb 1 (.int .i64 s.cls) rfl)
      have n2 := Ext.cell (cell_of_heap xb 2 (.int .i64 s.mark) rfl)
      have n3 := Ext.cell (cell_of_heap xb 3 (.bool s.swept) rfl)
      have n4 := Ext.cell (cell_of_heap xb 4 (.slice al s.lens.length cl) rfl)
      have n5 := Ext.cell (cell_of_heap xb 5 (.slice ap s.ptrs.length cp) rfl)
      generalize x.val.alloc (.cells #[.int .i64 s.page, .int .i64 s.cls, .int .i64 s.mark, .bool s.swept, .slice al s.lens.length cl, .slice ap s.ptrs.length cp] 73) = W at *
      clear xb q0' q1' q2' q3' q4' q5'
      refine wp_region_ext (Below.refl _ _) (by kernel_rfl) (by kernel_rfl) ?_
      repeat (go_big_quiet_step ((first | (go_at_call 77; exact Ext.same (H4.out _)) | (go_at_call 76; exact Ext.call (putInt1 (by assumption) _)))))
      refine wpQuiet_nil ?_
      intro _ hw'
      obtain ⟨x9, hw''⟩ := hw'
      subst hw''
      clear e1 e2 e3 e4
      go_wp2_with fail
      go_loopw [4, 7] (fun s' i wr => ∃ (j : Nat) (y : Ext W), j ≤ s.lens.length ∧ i = .int .i64 j ∧ s' = .string (ints (S4 ++ slotsN s j)) ∧ wr = y.val) (fun _ i _ => s.lens.length - (intOf i).toNat)
      case atStart => exact ⟨0, x9, Nat.zero_le _, rfl, by rw [slotsN_zero, List.append_nil], rfl⟩
      case round =>
        obtain ⟨j, y, hj, rfl, rfl, rfl⟩ := hrel
        by_cases hlj : j < s.lens.length
        · obtain ⟨b2, o2, rfl, c1⟩ := xl'.out j hlj
          obtain ⟨b3, o3, rfl, c2⟩ := xp'.out j (by have := hpq'.out; omega)
          have c1' := Ext.cell (cell_below bW.out c1)
          have c2' := Ext.cell (cell_below bW.out c2)
          have hlj' : (j : Int) < (s.lens.length : Int) := by omega
          have hlp' : (j : Int) < (s.ptrs.length : Int) := by have := hpq'.out; omega
          have hs2 := si.out j hlj
          have ha2 := allI_append k4'.out (sl.out j)
          have hl2 : (S4 ++ slotsN s j).length ≤ 2000 := by have := z4.out; have := slotsN_len s j; have := hl16'.out; rw [List.length_append]; omega
          have m1 : I64 (s.lens[j]?.getD 0) := by rw [List.getElem?_eq_getElem hlj]; exact lI.out _ (List.getElem_mem _)
          have m2 : I64 (s.ptrs[j]?.getD 0) := by rw [List.getElem?_eq_getElem (by have := hpq'.out; omega)]; exact pI.out _ (List.getElem_mem _)
          obtain ⟨T, hT⟩ : ∃ T, T = S4 ++ slotsN s j := ⟨_, rfl⟩
          obtain ⟨T1, hT1⟩ : ∃ T1, T1 = T ++ [s.lens[j]?.getD 0] := ⟨_, rfl⟩
          obtain ⟨T2, hT2⟩ : ∃ T2, T2 = T1 ++ [s.ptrs[j]?.getD 0] := ⟨_, rfl⟩
          have hfin := Lib.hid (show T2 = S4 ++ slotsN s (j + 1) by rw [hs2, hT2, hT1, hT]; simp)
          rw [← hT] at ha2 hl2
          rw [← hT]
          have e1 := fun W => add_int (P := Tryz.prog) ha2 m1 (by omega) hT1 W
          have e2 := fun W => add_int (P := Tryz.prog) (l := T1) (by rw [hT1]; exact allI_append ha2 (allI_one m1)) m2 (by rw [hT1]; simp; omega) hT2 W
          clear c1 c2 hs2 ha2 hl2 hT hT1 hT2
          generalize s.lens[j]?.getD 0 = lj at *
          generalize s.ptrs[j]?.getD 0 = pj at *
          go_wp2_with fail
          refine wp_region_ext y.below (by kernel_rfl) (by kernel_rfl) ?_
          repeat (go_big_quiet_step ((go_at_call 76; exact Ext.call (putInt1 (by assumption) _))))
          refine wpQuiet_nil ?_
          intro _ hw'
          obtain ⟨x9, hw''⟩ := hw'
          subst hw''
          clear e1 e2
          go_wp2_with fail
          go_roundw
          case rel => exact ⟨j + 1, x9, by omega, by go_num, by rw [hfin.out], rfl⟩
          case measure => simp [intOf]; omega
        · obtain rfl : j = s.lens.length := by omega
          have hk12 := hsl'.out
          have hltK := hltH.out
          go_wp2_with fail
          go_roundw
          case rel => exact ⟨k + 1, ⟨_, below_trans bW.out y.below⟩, by have := hltH.out; omega, by go_num, by rw [hss.out, hall.out], rfl⟩
          case measure => (have := hltH.out; simp [intOf]; omega)
    · obtain rfl : k = D.spans.length := by omega
      go_wp2_with fail
      have r0 : ∃ (k : Nat) (R : List Int), k ≤ D.muts.length ∧ RefsOf D (D.muts.take k).flatten R := ⟨0, [], Nat.zero_le _, by simpa using RefsOf.nil D⟩
      clear r0
      go_loopw [8, 9] (fun r i wr => ∃ (k : Nat) (R : List Int) (x : Ext w), k ≤ D.muts.length ∧ i = .int .i64 k ∧ r = .string (ints R) ∧ wr = x.val ∧ Hid (RefsOf D (D.muts.take k).flatten R)) (fun _ i _ => D.muts.length - (intOf i).toNat)
      case atStart => exact ⟨0, [], x, Nat.zero_le _, rfl, rfl, rfl, Lib.hid (by simpa using RefsOf.nil D)⟩
      case round =>
        obtain ⟨k, R, x, hk, rfl, rfl, rfl, hR⟩ := hrel
        by_cases hlt : k < D.muts.length
        · obtain ⟨rt, hrt⟩ : ∃ rt, D.muts[k]? = some rt := ⟨_, List.getElem?_eq_getElem hlt⟩
          obtain ⟨b1, o1, vr, rfl, q0, ⟨al, cl, rfl, hll, xl⟩⟩ := hy'.out k rt hrt
          unfold maxLen at hll
          have q0' := Ext.cell q0
          have hl6 := hF'.out.roots k rt hrt
          have hlt' : (k : Int) < (D.muts.length : Int) := by omega
          have hfl := Lib.hid (show (D.muts.take (k + 1)).flatten = (D.muts.take k).flatten ++ rt by
            rw [List.take_succ_eq_append_getElem hlt, List.flatten_append]
            obtain ⟨_, rfl⟩ := List.getElem?_eq_some_iff.1 hrt
            simp)
          have hRl := Lib.hid (show ((D.muts.take k).flatten).length ≤ 6 * k by
            have : ∀ (L : List (List Int)), (∀ r, r ∈ L → r.length = 6) → L.flatten.length = 6 * L.length := fun L => by
              induction L with
              | nil => intro _; rfl
              | cons a L ih => intro h; rw [List.flatten_cons, List.length_append, ih (fun r hr => h r (List.mem_cons_of_mem _ hr)), h a (by simp), List.length_cons]; omega
            rw [this _ (fun r hr => by
              obtain ⟨i, hi, rfl⟩ := List.getElem_of_mem (List.mem_of_mem_take hr)
              exact hF'.out.roots i _ (List.getElem?_eq_getElem hi)), List.length_take]
            omega)
          have xl' := Lib.hid xl
          have hrm := Lib.hid (hI'.out.muts rt (List.mem_of_getElem? hrt))
          have hl6' := Lib.hid hl6
          have hltH := Lib.hid hlt
          have hml'' := hml'.out
          clear hrt xl q0 hl6
          go_wp2_with fail
          go_loopw [8, 10] (fun r i wr => ∃ (j : Nat) (Q : List Int) (y : Ext w), j ≤ rt.length ∧ i = .int .i64 j ∧ r = .string (ints Q) ∧ wr = y.val ∧ Hid (RefsOf D ((D.muts.take k).flatten ++ rt.take j) Q)) (fun _ i _ => rt.length - (intOf i).toNat)
          case atStart => exact ⟨0, R, x, Nat.zero_le _, rfl, rfl, rfl, Lib.hid (by simpa using hR.out)⟩
          case round =>
            obtain ⟨j, Q, y, hj, rfl, rfl, rfl, hQ⟩ := hrel
            by_cases hlj : j < rt.length
            · obtain ⟨b2, o2, rfl, c1⟩ := xl'.out j hlj
              have c1' := Ext.cell c1
              have hlj' : (j : Int) < (rt.length : Int) := by omega
              have htk := Lib.hid (List.take_succ_eq_append_getElem hlj)
              have hge := Lib.hid (List.getElem?_eq_getElem hlj)
              have hQa := Lib.hid (hQ.out.all hF'.out)
              have hQl := Lib.hid (show Q.length ≤ 30 by
                have h1 := hQ.out.1
                have h2 := hRl.out
                have h3 := hl6'.out
                have h4 := hml'.out
                rw [List.length_append, List.length_take] at h1
                omega)
              rw [hge.out, Option.getD_some] at c1'
              have ha : I64 rt[j] := hrm.out _ (List.getElem_mem _)
              generalize rt[j] = a at *
              clear c1
              go_wp2_with fail
              refine (href.out a y).mono ?_
              rintro e w3 ⟨⟨r, rfl, hr⟩, b3⟩
              obtain ⟨y3, rfl⟩ := y.then b3
              have hri : I64 r := RefV.i64 hF'.out hr
              have hr' := Lib.hid hr
              obtain ⟨Q1, hQ1⟩ : ∃ Q1, Q1 = Q ++ [r] := ⟨_, rfl⟩
              have e1 := fun W => add_int (P := Tryz.prog) hQa.out hri (by have := hQl.out; omega) hQ1 W
              have hQ1' := Lib.hid hQ1
              clear hr b3 hQ1
              go_wp2_with fail
              refine (putInt1 hri _).mono ?_
              rintro e w4 ⟨rfl, b4⟩
              obtain ⟨y4, rfl⟩ := y3.then b4
              clear b4
              go_wp2_with fail
              go_roundw
              case rel => exact ⟨j + 1, Q1, y4, by omega, by go_num, rfl, rfl, Lib.hid (by rw [htk.out, ← List.append_assoc, hQ1'.out]; exact hQ.out.snoc hr'.out)⟩
              case measure => simp [intOf]; omega
            · obtain rfl : j = rt.length := by omega
              have hltK := hltH.out
              go_wp2_with fail
              go_roundw
              case rel => exact ⟨k + 1, Q, y, by have := hltH.out; omega, by go_num, rfl, rfl, Lib.hid (by rw [hfl.out]; simpa using hQ.out)⟩
              case measure => (have := hltH.out; simp [intOf]; omega)
        · obtain rfl : k = D.muts.length := by omega
          have hRa := hR.out.all hF'.out
          have hRl : R.length ≤ 18 := by
            have h1 := hR.out.1
            rw [List.take_length] at h1
            have : ∀ (L : List (List Int)), (∀ r, r ∈ L → r.length = 6) → L.flatten.length = 6 * L.length := fun L => by
              induction L with
              | nil => intro _; rfl
              | cons a L ih => intro h; rw [List.flatten_cons, List.length_append, ih (fun r hr => h r (List.mem_cons_of_mem _ hr)), h a (by simp), List.length_cons]; omega
            rw [this _ (fun r hr => by
              obtain ⟨i, hi, rfl⟩ := List.getElem_of_mem hr
              exact hF'.out.roots i _ (List.getElem?_eq_getElem hi))] at h1
            have h4 := hml'.out
            omega
          have hR2 := Lib.hid (show RefsOf D D.muts.flatten R by have := hR.out; rwa [List.take_length] at this)
          obtain ⟨R1, hR1⟩ : ∃ R1, R1 = R ++ [(D.grey.length : Int)] := ⟨_, rfl⟩
          have e1 := fun W => add_int (P := Tryz.prog) hRa i6 (by omega) hR1 W
          have hR1a := Lib.hid (show AllI R1 by rw [hR1]; exact allI_append hRa (allI_one i6))
          have hR1l := Lib.hid (show R1.length ≤ 19 by rw [hR1]; simp; omega)
          have hR1' := Lib.hid hR1
          clear hRa hRl hR1 hR
          go_wp2_with fail
          refine (putInt1 i6 _).mono ?_
          rintro e w4 ⟨rfl, b4⟩
          obtain ⟨x4, rfl⟩ := x.then b4
          clear b4
          go_wp2_with fail
          go_loopw [8, 11] (fun r i wr => ∃ (j : Nat) (Q : List Int) (y : Ext w), j ≤ D.grey.length ∧ i = .int .i64 j ∧ r = .string (ints (R1 ++ Q)) ∧ wr = y.val ∧ Hid (RefsOf D (D.grey.take j) Q)) (fun _ i _ => D.grey.length - (intOf i).toNat)
          case atStart => exact ⟨0, [], x4, Nat.zero_le _, rfl, by rw [List.append_nil], rfl, Lib.hid (by simpa using RefsOf.nil D)⟩
          case round =>
            obtain ⟨j, Q, y, hj, rfl, rfl, rfl, hQ⟩ := hrel
            by_cases hlj : j < D.grey.length
            · obtain ⟨b2, o2, rfl, c1⟩ := hz'.out j hlj
              have c1' := Ext.cell c1
              have hlj' : (j : Int) < (D.grey.length : Int) := by omega
              have htk := Lib.hid (List.take_succ_eq_append_getElem hlj)
              have hge := Lib.hid (List.getElem?_eq_getElem hlj)
              have hQa := Lib.hid (allI_append hR1a.out (hQ.out.all hF'.out))
              have hQl := Lib.hid (show (R1 ++ Q).length ≤ 2000020 by
                have h1 := hQ.out.1
                have h2 := hR1l.out
                have h3 := hgr'.out
                rw [List.length_take] at h1
                rw [List.length_append]
                omega)
              have hgb : D.grey.length ≤ 2000000 := hgr'.out
              rw [hge.out, Option.getD_some] at c1'
              have ha : I64 D.grey[j] := hI'.out.grey _ (List.getElem_mem _)
              generalize D.grey[j] = a at *
              clear c1
              obtain ⟨Q0, hQ0⟩ : ∃ Q0, Q0 = R1 ++ Q := ⟨_, rfl⟩
              rw [← hQ0] at hQa hQl
              rw [← hQ0]
              have hQ0' := Lib.hid hQ0
              clear hQ0
              go_wp2_with fail
              refine (href.out a y).mono ?_
              rintro e w3 ⟨⟨r, rfl, hr⟩, b3⟩
              obtain ⟨y3, rfl⟩ := y.then b3
              have hri : I64 r := RefV.i64 hF'.out hr
              have hr' := Lib.hid hr
              obtain ⟨Q1, hQ1⟩ : ∃ Q1, Q1 = Q0 ++ [r] := ⟨_, rfl⟩
              have e1 := fun W => add_int (P := Tryz.prog) hQa.out hri (by have := hQl.out; omega) hQ1 W
              have hQ1' := Lib.hid hQ1
              clear hr b3 hQ1
              go_wp2_with fail
              refine (putInt1 hri _).mono ?_
              rintro e w4 ⟨rfl, b4⟩
              obtain ⟨y4, rfl⟩ := y3.then b4
              clear b4
              go_wp2_with fail
              go_roundw
              case rel => exact ⟨j + 1, Q ++ [r], y4, by omega, by go_num, by rw [hQ1'.out, hQ0'.out, List.append_assoc], rfl, Lib.hid (by rw [htk.out]; exact hQ.out.snoc hr'.out)⟩
              case measure => simp [intOf]; omega
            · obtain rfl : j = D.grey.length := by omega
              have s1 := secB_size 71 (ints (roundN D))
              have s2 := secB_size 83 (ints (spansP D D.spans.length))
              have s3 := secB_size 82 (ints (R1 ++ Q))
              have t1 := Lib.hid (fun W => spec_section_any 71 (ints (roundN D)) W)
              have t2 := Lib.hid (fun W => spec_section_any 83 (ints (spansP D D.spans.length)) W)
              have t3 := Lib.hid (fun W => spec_section_any 82 (ints (R1 ++ Q)) W)
              have hfin := Lib.hid (show MetaIs D (secB 71 (ints (roundN D)) ++ secB 83 (ints (spansP D D.spans.length)) ++ secB 82 (ints (R1 ++ Q))) from
                ⟨R, Q, hR2.out, by have := hQ.out; rwa [List.take_length] at this, by rw [hR1'.out, List.append_assoc, List.singleton_append]⟩)
              generalize secB 71 (ints (roundN D)) = A1 at *
              generalize secB 83 (ints (spansP D D.spans.length)) = A2 at *
              generalize secB 82 (ints (R1 ++ Q)) = A3 at *
              have e1 := fun W => add_sec (P := Tryz.prog) A1 A2 (by omega) s2 W
              have e2 := fun W => add_sec (P := Tryz.prog) (A1 ++ A2) A3 (by rw [ByteArray.size_append]; omega) s3 W
              clear s1 s2 s3
              go_wp2_with fail
              refine (t1.out _).mono ?_
              rintro e w5 ⟨rfl, b5⟩
              go_wp2_with fail
              refine (t2.out _).mono ?_
              rintro e w6 ⟨rfl, b6⟩
              go_wp2_with fail
              refine (t3.out _).mono ?_
              rintro e w7 ⟨rfl, b7⟩
              have hbb := Lib.hid (below_trans (below_trans (below_trans y.below b5) b6) b7)
              clear b5 b6 b7
              go_wp2_with fail
              go_ret
              exact ⟨⟨_, rfl, hfin.out⟩, hbb.out⟩
end Go.Proofs.YtpaepkcfdnddgaaGreat
