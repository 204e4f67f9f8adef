/-
  Reading one thing behind the other: the program's next at readNumber, readSize, readWord and at what readerOf gives. Condition: the text has at most 2^47 bytes.
-/
import Derived.Test.YtedhallhdhlhhaaByN
namespace Go.Proofs.Ytedhallhdhlhhaa
open Go.RowKit
set_option linter.unusedVariables false

set_option maxRecDepth 100000 in
set_option maxHeartbeats 2000000 in
theorem next_readNumber (B : Nat) (t : TxD) (hs : t.s.size ≤ 140737488355328) (hat : I64 t.at_) (w : World) (hB : TxBox w B t) :
    Calls Try.prog 39 #[.agg #[.func (.func 38) #[] #[]], .pointer (some ⟨B, 0, none⟩)] w fun e w' => e = .returned (.int .i64 (nxt rNum t).1) ∧ w.grownBy w' (some B) ∧ TxBox w' B (nxt rNum t).2 := by
  obtain ⟨s, at_, c⟩ := t
  have bx := box_new w (.cells #[.func (.func 38) #[] #[]] 54)
  have bw := below_box w (.cells #[.func (.func 38) #[] #[]] 54)
  have hB1 := Lib.hid (hB.below bw)
  have g1 := Lib.hid (grownBelow bw (some B))
  clear hB
  have hB1' := hB1.out
  unfold TxBox at hB1'
  generalize hW : w.alloc (.cells #[.func (.func 38) #[] #[]] 54) = W at *
  have f0 : W.cell? ⟨B, 0, none⟩ = some (.string s) := cell_of_heap hB1' 0 _ rfl
  have f1 : W.cell? ⟨B, 1, none⟩ = some (.int .i64 at_) := cell_of_heap hB1' 1 _ rfl
  have f2 : W.cell? ⟨B, 2, none⟩ = some (.int .i64 c) := cell_of_heap hB1' 2 _ rfl
  have fr : W.cell? ⟨w.heap.size, 0, none⟩ = some (.func (.func 38) #[] #[]) := cell_of_heap bx 0 _ rfl
  have x0 := Ext.cell f0
  have x1 := Ext.cell f1
  have x2 := Ext.cell f2
  have xr := Ext.cell fr
  clear hB1' bx bw
  change s.size ≤ 140737488355328 at hs
  change I64 at_ at hat
  by_cases hc : c = 0
  · subst hc
    by_cases hin : 0 ≤ at_ ∧ at_ ≤ s.size
    · obtain ⟨k, rfl⟩ := Int.eq_ofNat_of_zero_le hin.1
      have hk : k ≤ s.size := by have := hin.2; omega
      have HI := Lib.hid (inB_yes (n := (k : Int)) (l := 0) (h := (s.size : Int)) hin.1 hin.2)
      obtain ⟨r, hr⟩ : ∃ r, r = rNum (s.data.toList.drop k) := ⟨_, rfl⟩
      have hok := rNum_ok (s.data.toList.drop k)
      rw [← hr] at hok
      have hx : (s.extract k s.size).data.toList = s.data.toList.drop k := by simp [List.take_of_length_le]
      have hxs : (s.extract k s.size).size ≤ 140737488355328 := by
        have : (s.extract k s.size).data.toList.length = s.size - k := by rw [hx]; simp
        have e : (s.extract k s.size).data.toList.length = (s.extract k s.size).size := by simp
        omega
      have HR := Lib.hid (fun v => readNumber_any (s.extract k s.size) hxs v)
      rw [hx, ← hr] at HR
      have hz : nxt rNum ⟨s, (k : Int), 0⟩ = if r.c ≠ 0 then (0, ⟨⟨#[]⟩, 0, r.c⟩) else (r.n, ⟨s, (k : Int) + r.k, 0⟩) := by
        unfold nxt
        simp only [ne_eq, not_true_eq_false, if_false]
        rw [if_neg (fun h => h hin), Int.toNat_natCast, ← hr]
      rw [hz]
      clear hz hr hx hxs hin hat
      obtain ⟨n, m, cc⟩ := r
      obtain ⟨⟨hn1, hn2⟩, hm, _⟩ := hok
      have hm' : m ≤ s.size - k := by simpa using hm
      clear hm
      simp only [RdI.val] at HR
      by_cases h0 : cc = 0
      · subst h0
        rw [if_neg (by simp)]
        go_enter Try.func39, Try.ntmps39
        go_wp2
        refine wp_region_ext (Below.refl _ _) (by kernel_rfl) (by kernel_rfl) ?_
        repeat (go_big_quiet_step ((go_at_call 45; exact Ext.same (isIn_eq HI.out _))))
        refine wpQuiet_nil ?_
        intro _ hw'
        obtain ⟨x9, hw''⟩ := hw'
        subst hw''
        go_wp2
        refine wp_region_ext x9.below (by kernel_rfl) (by kernel_rfl) ?_
        repeat (go_big_quiet_step ((go_at_call 38; exact Ext.call (HR.out _))))
        refine wpQuiet_nil ?_
        intro _ hw'
        obtain ⟨x9, hw''⟩ := hw'
        subst hw''
        have hbx := hB1.out.below x9.below
        have g2 := Lib.hid (grow_to g1.out (grownBelow x9.below (some B)))
        have HBX := Lib.hid hbx
        unfold TxBox at hbx
        have z1 := frozen_of_heap hbx 1
        clear hbx
        go_wp2
        go_ret
        exact ⟨rfl, grow_to g2.out (grown_set' _ _ _ _), HBX.out.set_at _⟩
      · have hcb : (cc == 0) = false := beq_eq_false_iff_ne.2 h0
        have hcn : (cc != 0) = true := bne_iff_ne.2 h0
        rw [if_pos h0]
        clear h0
        go_enter Try.func39, Try.ntmps39
        go_wp2
        refine wp_region_ext (Below.refl _ _) (by kernel_rfl) (by kernel_rfl) ?_
        repeat (go_big_quiet_step ((go_at_call 45; exact Ext.same (isIn_eq HI.out _))))
        refine wpQuiet_nil ?_
        intro _ hw'
        obtain ⟨x9, hw''⟩ := hw'
        subst hw''
        go_wp2
        refine wp_region_ext x9.below (by kernel_rfl) (by kernel_rfl) ?_
        repeat (go_big_quiet_step ((go_at_call 38; exact Ext.call (HR.out _))))
        refine wpQuiet_nil ?_
        intro _ hw'
        obtain ⟨x9, hw''⟩ := hw'
        subst hw''
        have HBX := Lib.hid (hB1.out.below x9.below)
        have g2 := Lib.hid (grow_to g1.out (grownBelow x9.below (some B)))
        go_wp2_with (go_at_call 51; refine (refuse_any B _ cc _ HBX.out).mono ?_; rintro e w' ⟨rfl, hgr, hbn⟩)
        go_ret
        exact ⟨rfl, grow_to g2.out hgr, hbn⟩
    · have HI := Lib.hid (inB_no (n := at_) (l := 0) (h := (s.size : Int)) (by omega))
      have hz : nxt rNum ⟨s, at_, 0⟩ = (0, ⟨⟨#[]⟩, 0, 1⟩) := by
        unfold nxt
        simp only [ne_eq, not_true_eq_false, if_false]
        rw [if_pos hin]
      rw [hz]
      clear hz hin hat
      go_enter Try.func39, Try.ntmps39
      go_wp2
      refine wp_region_ext (Below.refl _ _) (by kernel_rfl) (by kernel_rfl) ?_
      repeat (go_big_quiet_step ((go_at_call 45; exact Ext.same (isIn_eq HI.out _))))
      refine wpQuiet_nil ?_
      intro _ hw'
      obtain ⟨x9, hw''⟩ := hw'
      subst hw''
      have HBX := Lib.hid (hB1.out.below x9.below)
      have g2 := Lib.hid (grow_to g1.out (grownBelow x9.below (some B)))
      go_wp2_with (go_at_call 51; refine (refuse_any B _ 1 _ HBX.out).mono ?_; rintro e w' ⟨rfl, hgr, hbn⟩; have hb2 : w'.cell? ⟨B, 2, none⟩ = some (.int .i64 1) := hbn.c2)
      go_ret
      exact ⟨rfl, grow_to g2.out hgr, hbn⟩
  · have hcb : (c == 0) = false := beq_eq_false_iff_ne.2 hc
    have hcn : (c != 0) = true := bne_iff_ne.2 hc
    have hz : nxt rNum ⟨s, at_, c⟩ = (0, ⟨s, at_, c⟩) := by unfold nxt; rw [if_pos hc]
    rw [hz]
    clear hz hc
    go_enter Try.func39, Try.ntmps39
    go_wp2
    refine wp_region_ext (Below.refl _ _) (by kernel_rfl) (by kernel_rfl) ?_
    repeat (go_big_quiet_step ((fail)))
    refine wpQuiet_nil ?_
    intro _ hw'
    obtain ⟨x9, hw''⟩ := hw'
    subst hw''
    go_wp2
    go_ret
    exact ⟨rfl, grow_to g1.out (grownBelow x9.below (some B)), hB1.out.below x9.below⟩

set_option maxRecDepth 100000 in
set_option maxHeartbeats 2000000 in
theorem next_readSize (B : Nat) (t : TxD) (hs : t.s.size ≤ 140737488355328) (hat : I64 t.at_) (w : World) (hB : TxBox w B t) :
    Calls Try.prog 39 #[.agg #[.func (.func 47) #[] #[]], .pointer (some ⟨B, 0, none⟩)] w fun e w' => e = .returned (.int .i64 (nxt rSize t).1) ∧ w.grownBy w' (some B) ∧ TxBox w' B (nxt rSize t).2 := by
  obtain ⟨s, at_, c⟩ := t
  have bx := box_new w (.cells #[.func (.func 47) #[] #[]] 54)
  have bw := below_box w (.cells #[.func (.func 47) #[] #[]] 54)
  have hB1 := Lib.hid (hB.below bw)
  have g1 := Lib.hid (grownBelow bw (some B))
  clear hB
  have hB1' := hB1.out
  unfold TxBox at hB1'
  generalize hW : w.alloc (.cells #[.func (.func 47) #[] #[]] 54) = W at *
  have f0 : W.cell? ⟨B, 0, none⟩ = some (.string s) := cell_of_heap hB1' 0 _ rfl
  have f1 : W.cell? ⟨B, 1, none⟩ = some (.int .i64 at_) := cell_of_heap hB1' 1 _ rfl
  have f2 : W.cell? ⟨B, 2, none⟩ = some (.int .i64 c) := cell_of_heap hB1' 2 _ rfl
  have fr : W.cell? ⟨w.heap.size, 0, none⟩ = some (.func (.func 47) #[] #[]) := cell_of_heap bx 0 _ rfl
  have x0 := Ext.cell f0
  have x1 := Ext.cell f1
  have x2 := Ext.cell f2
  have xr := Ext.cell fr
  clear hB1' bx bw
  change s.size ≤ 140737488355328 at hs
  change I64 at_ at hat
  by_cases hc : c = 0
  · subst hc
    by_cases hin : 0 ≤ at_ ∧ at_ ≤ s.size
    · obtain ⟨k, rfl⟩ := Int.eq_ofNat_of_zero_le hin.1
      have hk : k ≤ s.size := by have := hin.2; omega
      have HI := Lib.hid (inB_yes (n := (k : Int)) (l := 0) (h := (s.size : Int)) hin.1 hin.2)
      obtain ⟨r, hr⟩ : ∃ r, r = rSize (s.data.toList.drop k) := ⟨_, rfl⟩
      have hok := rSize_ok (s.data.toList.drop k)
      rw [← hr] at hok
      have hx : (s.extract k s.size).data.toList = s.data.toList.drop k := by simp [List.take_of_length_le]
      have hxs : (s.extract k s.size).size ≤ 140737488355328 := by
        have : (s.extract k s.size).data.toList.length = s.size - k := by rw [hx]; simp
        have e : (s.extract k s.size).data.toList.length = (s.extract k s.size).size := by simp
        omega
      have HR := Lib.hid (fun v => readSize_any (s.extract k s.size) hxs v)
      rw [hx, ← hr] at HR
      have hz : nxt rSize ⟨s, (k : Int), 0⟩ = if r.c ≠ 0 then (0, ⟨⟨#[]⟩, 0, r.c⟩) else (r.n, ⟨s, (k : Int) + r.k, 0⟩) := by
        unfold nxt
        simp only [ne_eq, not_true_eq_false, if_false]
        rw [if_neg (fun h => h hin), Int.toNat_natCast, ← hr]
      rw [hz]
      clear hz hr hx hxs hin hat
      obtain ⟨n, m, cc⟩ := r
      obtain ⟨⟨hn1, hn2⟩, hm, _⟩ := hok
      have hm' : m ≤ s.size - k := by simpa using hm
      clear hm
      simp only [RdI.val] at HR
      by_cases h0 : cc = 0
      · subst h0
        rw [if_neg (by simp)]
        go_enter Try.func39, Try.ntmps39
        go_wp2
        refine wp_region_ext (Below.refl _ _) (by kernel_rfl) (by kernel_rfl) ?_
        repeat (go_big_quiet_step ((go_at_call 45; exact Ext.same (isIn_eq HI.out _))))
        refine wpQuiet_nil ?_
        intro _ hw'
        obtain ⟨x9, hw''⟩ := hw'
        subst hw''
        go_wp2
        refine wp_region_ext x9.below (by kernel_rfl) (by kernel_rfl) ?_
        repeat (go_big_quiet_step ((go_at_call 47; exact Ext.call (HR.out _))))
        refine wpQuiet_nil ?_
        intro _ hw'
        obtain ⟨x9, hw''⟩ := hw'
        subst hw''
        have hbx := hB1.out.below x9.below
        have g2 := Lib.hid (grow_to g1.out (grownBelow x9.below (some B)))
        have HBX := Lib.hid hbx
        unfold TxBox at hbx
        have z1 := frozen_of_heap hbx 1
        clear hbx
        go_wp2
        go_ret
        exact ⟨rfl, grow_to g2.out (grown_set' _ _ _ _), HBX.out.set_at _⟩
      · have hcb : (cc == 0) = false := beq_eq_false_iff_ne.2 h0
        have hcn : (cc != 0) = true := bne_iff_ne.2 h0
        rw [if_pos h0]
        clear h0
        go_enter Try.func39, Try.ntmps39
        go_wp2
        refine wp_region_ext (Below.refl _ _) (by kernel_rfl) (by kernel_rfl) ?_
        repeat (go_big_quiet_step ((go_at_call 45; exact Ext.same (isIn_eq HI.out _))))
        refine wpQuiet_nil ?_
        intro _ hw'
        obtain ⟨x9, hw''⟩ := hw'
        subst hw''
        go_wp2
        refine wp_region_ext x9.below (by kernel_rfl) (by kernel_rfl) ?_
        repeat (go_big_quiet_step ((go_at_call 47; exact Ext.call (HR.out _))))
        refine wpQuiet_nil ?_
        intro _ hw'
        obtain ⟨x9, hw''⟩ := hw'
        subst hw''
        have HBX := Lib.hid (hB1.out.below x9.below)
        have g2 := Lib.hid (grow_to g1.out (grownBelow x9.below (some B)))
        go_wp2_with (go_at_call 51; refine (refuse_any B _ cc _ HBX.out).mono ?_; rintro e w' ⟨rfl, hgr, hbn⟩)
        go_ret
        exact ⟨rfl, grow_to g2.out hgr, hbn⟩
    · have HI := Lib.hid (inB_no (n := at_) (l := 0) (h := (s.size : Int)) (by omega))
      have hz : nxt rSize ⟨s, at_, 0⟩ = (0, ⟨⟨#[]⟩, 0, 1⟩) := by
        unfold nxt
        simp only [ne_eq, not_true_eq_false, if_false]
        rw [if_pos hin]
      rw [hz]
      clear hz hin hat
      go_enter Try.func39, Try.ntmps39
      go_wp2
      refine wp_region_ext (Below.refl _ _) (by kernel_rfl) (by kernel_rfl) ?_
      repeat (go_big_quiet_step ((go_at_call 45; exact Ext.same (isIn_eq HI.out _))))
      refine wpQuiet_nil ?_
      intro _ hw'
      obtain ⟨x9, hw''⟩ := hw'
      subst hw''
      have HBX := Lib.hid (hB1.out.below x9.below)
      have g2 := Lib.hid (grow_to g1.out (grownBelow x9.below (some B)))
      go_wp2_with (go_at_call 51; refine (refuse_any B _ 1 _ HBX.out).mono ?_; rintro e w' ⟨rfl, hgr, hbn⟩; have hb2 : w'.cell? ⟨B, 2, none⟩ = some (.int .i64 1) := hbn.c2)
      go_ret
      exact ⟨rfl, grow_to g2.out hgr, hbn⟩
  · have hcb : (c == 0) = false := beq_eq_false_iff_ne.2 hc
    have hcn : (c != 0) = true := bne_iff_ne.2 hc
    have hz : nxt rSize ⟨s, at_, c⟩ = (0, ⟨s, at_, c⟩) := by unfold nxt; rw [if_pos hc]
    rw [hz]
    clear hz hc
    go_enter Try.func39, Try.ntmps39
    go_wp2
    refine wp_region_ext (Below.refl _ _) (by kernel_rfl) (by kernel_rfl) ?_
    repeat (go_big_quiet_step ((fail)))
    refine wpQuiet_nil ?_
    intro _ hw'
    obtain ⟨x9, hw''⟩ := hw'
    subst hw''
    go_wp2
    go_ret
    exact ⟨rfl, grow_to g1.out (grownBelow x9.below (some B)), hB1.out.below x9.below⟩

set_option maxRecDepth 100000 in
set_option maxHeartbeats 2000000 in
theorem next_readWord (B : Nat) (t : TxD) (hs : t.s.size ≤ 140737488355328) (hat : I64 t.at_) (w : World) (hB : TxBox w B t) :
    Calls Try.prog 39 #[.agg #[.func (.func 50) #[] #[]], .pointer (some ⟨B, 0, none⟩)] w fun e w' => e = .returned (.int .i64 (nxt rWord t).1) ∧ w.grownBy w' (some B) ∧ TxBox w' B (nxt rWord t).2 := by
  obtain ⟨s, at_, c⟩ := t
  have bx := box_new w (.cells #[.func (.func 50) #[] #[]] 54)
  have bw := below_box w (.cells #[.func (.func 50) #[] #[]] 54)
  have hB1 := Lib.hid (hB.below bw)
  have g1 := Lib.hid (grownBelow bw (some B))
  clear hB
  have hB1' := hB1.out
  unfold TxBox at hB1'
  generalize hW : w.alloc (.cells #[.func (.func 50) #[] #[]] 54) = W at *
  have f0 : W.cell? ⟨B, 0, none⟩ = some (.string s) := cell_of_heap hB1' 0 _ rfl
  have f1 : W.cell? ⟨B, 1, none⟩ = some (.int .i64 at_) := cell_of_heap hB1' 1 _ rfl
  have f2 : W.cell? ⟨B, 2, none⟩ = some (.int .i64 c) := cell_of_heap hB1' 2 _ rfl
  have fr : W.cell? ⟨w.heap.size, 0, none⟩ = some (.func (.func 50) #[] #[]) := cell_of_heap bx 0 _ rfl
  have x0 := Ext.cell f0
  have x1 := Ext.cell f1
  have x2 := Ext.cell f2
  have xr := Ext.cell fr
  clear hB1' bx bw
  change s.size ≤ 140737488355328 at hs
  change I64 at_ at hat
  by_cases hc : c = 0
  · subst hc
    by_cases hin : 0 ≤ at_ ∧ at_ ≤ s.size
    · obtain ⟨k, rfl⟩ := Int.eq_ofNat_of_zero_le hin.1
      have hk : k ≤ s.size := by have := hin.2; omega
      have HI := Lib.hid (inB_yes (n := (k : Int)) (l := 0) (h := (s.size : Int)) hin.1 hin.2)
      obtain ⟨r, hr⟩ : ∃ r, r = rWord (s.data.toList.drop k) := ⟨_, rfl⟩
      have hok := rWord_ok (s.data.toList.drop k)
      rw [← hr] at hok
      have hx : (s.extract k s.size).data.toList = s.data.toList.drop k := by simp [List.take_of_length_le]
      have hxs : (s.extract k s.size).size ≤ 140737488355328 := by
        have : (s.extract k s.size).data.toList.length = s.size - k := by rw [hx]; simp
        have e : (s.extract k s.size).data.toList.length = (s.extract k s.size).size := by simp
        omega
      have HR := Lib.hid (fun v => readWord_any (s.extract k s.size) hxs v)
      rw [hx, ← hr] at HR
      have hz : nxt rWord ⟨s, (k : Int), 0⟩ = if r.c ≠ 0 then (0, ⟨⟨#[]⟩, 0, r.c⟩) else (r.n, ⟨s, (k : Int) + r.k, 0⟩) := by
        unfold nxt
        simp only [ne_eq, not_true_eq_false, if_false]
        rw [if_neg (fun h => h hin), Int.toNat_natCast, ← hr]
      rw [hz]
      clear hz hr hx hxs hin hat
      obtain ⟨n, m, cc⟩ := r
      obtain ⟨⟨hn1, hn2⟩, hm, _⟩ := hok
      have hm' : m ≤ s.size - k := by simpa using hm
      clear hm
      simp only [RdI.val] at HR
      by_cases h0 : cc = 0
      · subst h0
        rw [if_neg (by simp)]
        go_enter Try.func39, Try.ntmps39
        go_wp2
        refine wp_region_ext (Below.refl _ _) (by kernel_rfl) (by kernel_rfl) ?_
        repeat (go_big_quiet_step ((go_at_call 45; exact Ext.same (isIn_eq HI.out _))))
        refine wpQuiet_nil ?_
        intro _ hw'
        obtain ⟨x9, hw''⟩ := hw'
        subst hw''
        go_wp2
        refine wp_region_ext x9.below (by kernel_rfl) (by kernel_rfl) ?_
        repeat (go_big_quiet_step ((go_at_call 50; exact Ext.call (HR.out _))))
        refine wpQuiet_nil ?_
        intro _ hw'
        obtain ⟨x9, hw''⟩ := hw'
        subst hw''
        have hbx := hB1.out.below x9.below
        have g2 := Lib.hid (grow_to g1.out (grownBelow x9.below (some B)))
        have HBX := Lib.hid hbx
        unfold TxBox at hbx
        have z1 := frozen_of_heap hbx 1
        clear hbx
        go_wp2
        go_ret
        exact ⟨rfl, grow_to g2.out (grown_set' _ _ _ _), HBX.out.set_at _⟩
      · have hcb : (cc == 0) = false := beq_eq_false_iff_ne.2 h0
        have hcn : (cc != 0) = true := bne_iff_ne.2 h0
        rw [if_pos h0]
        clear h0
        go_enter Try.func39, Try.ntmps39
        go_wp2
        refine wp_region_ext (Below.refl _ _) (by kernel_rfl) (by kernel_rfl) ?_
        repeat (go_big_quiet_step ((go_at_call 45; exact Ext.same (isIn_eq HI.out _))))
        refine wpQuiet_nil ?_
        intro _ hw'
        obtain ⟨x9, hw''⟩ := hw'
        subst hw''
        go_wp2
        refine wp_region_ext x9.below (by kernel_rfl) (by kernel_rfl) ?_
        repeat (go_big_quiet_step ((go_at_call 50; exact Ext.call (HR.out _))))
        refine wpQuiet_nil ?_
        intro _ hw'
        obtain ⟨x9, hw''⟩ := hw'
        subst hw''
        have HBX := Lib.hid (hB1.out.below x9.below)
        have g2 := Lib.hid (grow_to g1.out (grownBelow x9.below (some B)))
        go_wp2_with (go_at_call 51; refine (refuse_any B _ cc _ HBX.out).mono ?_; rintro e w' ⟨rfl, hgr, hbn⟩)
        go_ret
        exact ⟨rfl, grow_to g2.out hgr, hbn⟩
    · have HI := Lib.hid (inB_no (n := at_) (l := 0) (h := (s.size : Int)) (by omega))
      have hz : nxt rWord ⟨s, at_, 0⟩ = (0, ⟨⟨#[]⟩, 0, 1⟩) := by
        unfold nxt
        simp only [ne_eq, not_true_eq_false, if_false]
        rw [if_pos hin]
      rw [hz]
      clear hz hin hat
      go_enter Try.func39, Try.ntmps39
      go_wp2
      refine wp_region_ext (Below.refl _ _) (by kernel_rfl) (by kernel_rfl) ?_
      repeat (go_big_quiet_step ((go_at_call 45; exact Ext.same (isIn_eq HI.out _))))
      refine wpQuiet_nil ?_
      intro _ hw'
      obtain ⟨x9, hw''⟩ := hw'
      subst hw''
      have HBX := Lib.hid (hB1.out.below x9.below)
      have g2 := Lib.hid (grow_to g1.out (grownBelow x9.below (some B)))
      go_wp2_with (go_at_call 51; refine (refuse_any B _ 1 _ HBX.out).mono ?_; rintro e w' ⟨rfl, hgr, hbn⟩; have hb2 : w'.cell? ⟨B, 2, none⟩ = some (.int .i64 1) := hbn.c2)
      go_ret
      exact ⟨rfl, grow_to g2.out hgr, hbn⟩
  · have hcb : (c == 0) = false := beq_eq_false_iff_ne.2 hc
    have hcn : (c != 0) = true := bne_iff_ne.2 hc
    have hz : nxt rWord ⟨s, at_, c⟩ = (0, ⟨s, at_, c⟩) := by unfold nxt; rw [if_pos hc]
    rw [hz]
    clear hz hc
    go_enter Try.func39, Try.ntmps39
    go_wp2
    refine wp_region_ext (Below.refl _ _) (by kernel_rfl) (by kernel_rfl) ?_
    repeat (go_big_quiet_step ((fail)))
    refine wpQuiet_nil ?_
    intro _ hw'
    obtain ⟨x9, hw''⟩ := hw'
    subst hw''
    go_wp2
    go_ret
    exact ⟨rfl, grow_to g1.out (grownBelow x9.below (some B)), hB1.out.below x9.below⟩


/-- The next n bytes, and the text behind them. -/
def nxtS (n : Nat) (t : TxD) : List UInt8 × TxD :=
  if t.c ≠ 0 then ([], t)
  else if ¬ (0 ≤ t.at_ ∧ t.at_ ≤ t.s.size) then ([], ⟨⟨#[]⟩, 0, 1⟩)
  else if t.s.size < t.at_.toNat + n then ([], ⟨⟨#[]⟩, 0, 1⟩)
  else ((t.s.data.toList.drop t.at_.toNat).take n, ⟨t.s, t.at_ + n, 0⟩)

theorem ext_take (t : ByteArray) (q : Nat) : (t.extract 0 q).data.toList = t.data.toList.take q := by simp
theorem clone_any (s : ByteArray) (hs : s.size ≤ 140737488355328) (w : World) : Calls Try.prog 57 #[.string s] w fun e w' => e = .returned (.string s) ∧ Below w.heap.size w w' := by
  go_enter Try.func57, Try.ntmps57
  go_wp2_with (go_at_call 58; refine (Try.stringslite_Clone s _ (by omega)).mono ?_; rintro e w' ⟨rfl, hb⟩)
  go_ret
  exact ⟨rfl, hb⟩

set_option maxHeartbeats 400000 in
theorem readerOf_any (n : Int) (w : World) : Calls Try.prog 48 #[.int .i64 n] w fun e w' => e = .returned (.func (.func 56) #[] #[.pointer (some ⟨w.heap.size, 0, none⟩)]) ∧ w.alloc (.cells #[.int .i64 n] 3) = w' := by
  go_enter Try.func48, Try.ntmps48
  go_wp2
  go_ret
  exact ⟨rfl, rfl⟩

set_option maxHeartbeats 1000000 in
theorem body_short (s : ByteArray) (n : Nat) (C : Nat) (w : World) (hc : w.cell? ⟨C, 0, none⟩ = some (.int .i64 (n : Int))) (h : s.size < n) :
    Calls Try.prog 56 #[.string s, .pointer (some ⟨C, 0, none⟩)] w fun e w' => e = .returned (.tuple #[.string ⟨#[]⟩, .int .i64 0, .int .i64 1]) ∧ Below w.heap.size w w' := by
  go_enter Try.func56, Try.ntmps56
  go_wp2
  go_ret3
  exact ⟨rfl, Below.refl _ _⟩
set_option maxHeartbeats 1000000 in
theorem body_yes (s : ByteArray) (hs : s.size ≤ 140737488355328) (n : Nat) (C : Nat) (w : World) (hc : w.cell? ⟨C, 0, none⟩ = some (.int .i64 (n : Int))) (h : n ≤ s.size) :
    Calls Try.prog 56 #[.string s, .pointer (some ⟨C, 0, none⟩)] w fun e w' => e = .returned (.tuple #[.string (s.extract 0 n), .int .i64 n, .int .i64 0]) ∧ Below w.heap.size w w' := by
  have xc := Ext.cell hc
  have hsz : (s.extract 0 n).size ≤ 140737488355328 := by
    have : (s.extract 0 n).size = min n s.size - 0 := by simp
    omega
  have HC := Lib.hid (fun v => clone_any (s.extract 0 n) hsz v)
  clear hsz
  go_enter Try.func56, Try.ntmps56
  go_wp2
  refine wp_region_ext (Below.refl _ _) (by kernel_rfl) (by kernel_rfl) ?_
  repeat (go_big_quiet_step ((go_at_call 57; exact Ext.call (HC.out _))))
  refine wpQuiet_nil ?_
  intro _ hw'
  obtain ⟨x9, hw''⟩ := hw'
  subst hw''
  go_wp2
  go_ret3
  exact ⟨rfl, x9.below⟩

set_option maxRecDepth 100000 in
set_option maxHeartbeats 2000000 in
theorem next_body (B : Nat) (t : TxD) (hs : t.s.size ≤ 140737488355328) (hat : I64 t.at_) (q C : Nat) (w : World) (hB : TxBox w B t) (hcell : w.cell? ⟨C, 0, none⟩ = some (.int .i64 (q : Int))) :
    Calls Try.prog 49 #[.agg #[.func (.func 56) #[] #[.pointer (some ⟨C, 0, none⟩)]], .pointer (some ⟨B, 0, none⟩)] w fun e w' => e = .returned (.string ⟨(nxtS q t).1.toArray⟩) ∧ w.grownBy w' (some B) ∧ TxBox w' B (nxtS q t).2 := by
  obtain ⟨s, at_, c⟩ := t
  have bx := box_new w (.cells #[.func (.func 56) #[] #[.pointer (some ⟨C, 0, none⟩)]] 69)
  have bw := below_box w (.cells #[.func (.func 56) #[] #[.pointer (some ⟨C, 0, none⟩)]] 69)
  have hB1 := Lib.hid (hB.below bw)
  have g1 := Lib.hid (grownBelow bw (some B))
  have hcW := cell_below bw hcell
  clear hB hcell
  have hB1' := hB1.out
  unfold TxBox at hB1'
  generalize hW : w.alloc (.cells #[.func (.func 56) #[] #[.pointer (some ⟨C, 0, none⟩)]] 69) = W at *
  have f0 : W.cell? ⟨B, 0, none⟩ = some (.string s) := cell_of_heap hB1' 0 _ rfl
  have f1 : W.cell? ⟨B, 1, none⟩ = some (.int .i64 at_) := cell_of_heap hB1' 1 _ rfl
  have f2 : W.cell? ⟨B, 2, none⟩ = some (.int .i64 c) := cell_of_heap hB1' 2 _ rfl
  have fr : W.cell? ⟨w.heap.size, 0, none⟩ = some (.func (.func 56) #[] #[.pointer (some ⟨C, 0, none⟩)]) := cell_of_heap bx 0 _ rfl
  have x0 := Ext.cell f0
  have x1 := Ext.cell f1
  have x2 := Ext.cell f2
  have xr := Ext.cell fr
  have xq := Lib.hid (Ext.cell hcW)
  clear hB1' bx bw
  change s.size ≤ 140737488355328 at hs
  change I64 at_ at hat
  by_cases hc : c = 0
  · subst hc
    by_cases hin : 0 ≤ at_ ∧ at_ ≤ s.size
    · obtain ⟨k, rfl⟩ := Int.eq_ofNat_of_zero_le hin.1
      have hk : k ≤ s.size := by have := hin.2; omega
      have HI := Lib.hid (inB_yes (n := (k : Int)) (l := 0) (h := (s.size : Int)) hin.1 hin.2)
      have hx : (s.extract k s.size).data.toList = s.data.toList.drop k := by simp [List.take_of_length_le]
      have hxl : (s.extract k s.size).size = s.size - k := by simp
      by_cases hq : s.size < k + q
      · have HR := Lib.hid (fun (v : Ext W) => body_short (s.extract k s.size) q C v.val (xq.out v) (by omega))
        have hz : nxtS q ⟨s, (k : Int), 0⟩ = ([], ⟨⟨#[]⟩, 0, 1⟩) := by
          unfold nxtS
          simp only [ne_eq, not_true_eq_false, if_false]
          rw [if_neg (fun h => h hin), Int.toNat_natCast, if_pos hq]
        rw [hz]
        clear hz hx hxl hin hat
        go_enter Try.func49, Try.ntmps49
        go_wp2
        refine wp_region_ext (Below.refl _ _) (by kernel_rfl) (by kernel_rfl) ?_
        repeat (go_big_quiet_step ((go_at_call 45; exact Ext.same (isIn_eq HI.out _))))
        refine wpQuiet_nil ?_
        intro _ hw'
        obtain ⟨x9, hw''⟩ := hw'
        subst hw''
        go_wp2
        refine wp_region_ext x9.below (by kernel_rfl) (by kernel_rfl) ?_
        repeat (go_big_quiet_step ((go_at_call 56; exact Ext.call (HR.out _))))
        refine wpQuiet_nil ?_
        intro _ hw'
        obtain ⟨x9, hw''⟩ := hw'
        subst hw''
        have HBX := Lib.hid (hB1.out.below x9.below)
        have g2 := Lib.hid (grow_to g1.out (grownBelow x9.below (some B)))
        go_wp2_with (go_at_call 51; refine (refuse_any B _ 1 _ HBX.out).mono ?_; rintro e w' ⟨rfl, hgr, hbn⟩)
        go_ret
        exact ⟨rfl, grow_to g2.out hgr, hbn⟩
      · have HR := Lib.hid (fun (v : Ext W) => body_yes (s.extract k s.size) (by omega) q C v.val (xq.out v) (by omega))
        have hz : nxtS q ⟨s, (k : Int), 0⟩ = ((s.data.toList.drop k).take q, ⟨s, (k : Int) + q, 0⟩) := by
          unfold nxtS
          simp only [ne_eq, not_true_eq_false, if_false]
          rw [if_neg (fun h => h hin), Int.toNat_natCast, if_neg hq]
        have hb : (⟨((s.data.toList.drop k).take q).toArray⟩ : ByteArray) = (s.extract k s.size).extract 0 q := by
          apply ByteArray.ext
          apply Array.toList_inj.1
          rw [ext_take, hx]
        rw [hz]
        simp only
        rw [hb]
        have hq' : k + q ≤ s.size := by omega
        clear hz hx hxl hin hat hb hq
        go_enter Try.func49, Try.ntmps49
        go_wp2
        refine wp_region_ext (Below.refl _ _) (by kernel_rfl) (by kernel_rfl) ?_
        repeat (go_big_quiet_step ((go_at_call 45; exact Ext.same (isIn_eq HI.out _))))
        refine wpQuiet_nil ?_
        intro _ hw'
        obtain ⟨x9, hw''⟩ := hw'
        subst hw''
        go_wp2
        refine wp_region_ext x9.below (by kernel_rfl) (by kernel_rfl) ?_
        repeat (go_big_quiet_step ((go_at_call 56; exact Ext.call (HR.out _))))
        refine wpQuiet_nil ?_
        intro _ hw'
        obtain ⟨x9, hw''⟩ := hw'
        subst hw''
        have hbx := hB1.out.below x9.below
        have g2 := Lib.hid (grow_to g1.out (grownBelow x9.below (some B)))
        have HBX := Lib.hid hbx
        unfold TxBox at hbx
        have z1 := frozen_of_heap hbx 1
        clear hbx
        go_wp2
        go_ret
        exact ⟨rfl, grow_to g2.out (grown_set' _ _ _ _), HBX.out.set_at _⟩
    · have HI := Lib.hid (inB_no (n := at_) (l := 0) (h := (s.size : Int)) (by omega))
      have hz : nxtS q ⟨s, at_, 0⟩ = ([], ⟨⟨#[]⟩, 0, 1⟩) := by
        unfold nxtS
        simp only [ne_eq, not_true_eq_false, if_false]
        rw [if_pos hin]
      rw [hz]
      clear hz hin hat
      go_enter Try.func49, Try.ntmps49
      go_wp2
      refine wp_region_ext (Below.refl _ _) (by kernel_rfl) (by kernel_rfl) ?_
      repeat (go_big_quiet_step ((go_at_call 45; exact Ext.same (isIn_eq HI.out _))))
      refine wpQuiet_nil ?_
      intro _ hw'
      obtain ⟨x9, hw''⟩ := hw'
      subst hw''
      have HBX := Lib.hid (hB1.out.below x9.below)
      have g2 := Lib.hid (grow_to g1.out (grownBelow x9.below (some B)))
      go_wp2_with (go_at_call 51; refine (refuse_any B _ 1 _ HBX.out).mono ?_; rintro e w' ⟨rfl, hgr, hbn⟩; have hb2 : w'.cell? ⟨B, 2, none⟩ = some (.int .i64 1) := hbn.c2)
      go_ret
      exact ⟨rfl, grow_to g2.out hgr, hbn⟩
  · have hcb : (c == 0) = false := beq_eq_false_iff_ne.2 hc
    have hcn : (c != 0) = true := bne_iff_ne.2 hc
    have hz : nxtS q ⟨s, at_, c⟩ = ([], ⟨s, at_, c⟩) := by unfold nxtS; rw [if_pos hc]
    rw [hz]
    clear hz hc
    go_enter Try.func49, Try.ntmps49
    go_wp2
    refine wp_region_ext (Below.refl _ _) (by kernel_rfl) (by kernel_rfl) ?_
    repeat (go_big_quiet_step ((fail)))
    refine wpQuiet_nil ?_
    intro _ hw'
    obtain ⟨x9, hw''⟩ := hw'
    subst hw''
    go_wp2
    go_ret
    exact ⟨rfl, grow_to g1.out (grownBelow x9.below (some B)), hB1.out.below x9.below⟩
end Go.Proofs.Ytedhallhdhlhhaa
