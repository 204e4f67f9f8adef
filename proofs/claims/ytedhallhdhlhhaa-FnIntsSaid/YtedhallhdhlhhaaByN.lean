/-
  Reading one thing behind the other: the program's refuse and next. Condition: the text has at most 2^47 bytes.
-/
import Derived.Test.YtedhallhdhlhhaaByR
import Derived.Test.YtedhallhdhlhhaaExt
namespace Go.Proofs.Ytedhallhdhlhhaa
open Go.RowKit
set_option linter.unusedVariables false

/-- A text that is read. -/
structure TxD where
  s : ByteArray
  at_ : Int
  c : Int
def TxBox (w : World) (B : Nat) (t : TxD) : Prop := w.heap[B]? = some (.cells #[.string t.s, .int .i64 t.at_, .int .i64 t.c] 51 (0, 0))
/-- The next number that a reader tells, and the text behind it. -/
def nxt (rd : List UInt8 → RdI) (t : TxD) : Int × TxD :=
  if t.c ≠ 0 then (0, t)
  else if ¬ (0 ≤ t.at_ ∧ t.at_ ≤ t.s.size) then (0, ⟨⟨#[]⟩, 0, 1⟩)
  else if (rd (t.s.data.toList.drop t.at_.toNat)).c ≠ 0 then (0, ⟨⟨#[]⟩, 0, (rd (t.s.data.toList.drop t.at_.toNat)).c⟩)
  else ((rd (t.s.data.toList.drop t.at_.toNat)).n, ⟨t.s, t.at_ + (rd (t.s.data.toList.drop t.at_.toNat)).k, 0⟩)

theorem grownBelow {w w' : World} (h : Below w.heap.size w w') (row : Option Nat) : w.grownBy w' row := ⟨h.os, h.tape, h.output, h.size, fun k hk _ => h.block k hk⟩

theorem grown_set' (w : World) (b i : Nat) (v : Value) : w.grownBy (w.setCell ⟨b, i, none⟩ v) (some b) :=
  ⟨rfl, rfl, rfl, by simp, fun k _ hk => heap_setCell_other w ⟨b, i, none⟩ k v (fun e => hk (by simp [e]))⟩
theorem grow_to {a w w' : World} {row : Option Nat} (h : a.grownBy w row) (k : w.grownBy w' row) : a.grownBy w' row :=
  ⟨k.os.trans h.os, k.tape.trans h.tape, k.output.trans h.output, Nat.le_trans h.size k.size, fun j hj e => (k.block j (Nat.lt_of_lt_of_le hj h.size) e).trans (h.block j hj e)⟩
set_option maxHeartbeats 400000 in
theorem refuse_any (B : Nat) (t : TxD) (c : Int) (w : World) (hB : TxBox w B t) : Calls Try.prog 51 #[.pointer (some ⟨B, 0, none⟩), .int .i64 c] w fun e w' => e = .returned (.tuple #[]) ∧ w.grownBy w' (some B) ∧ TxBox w' B ⟨⟨#[]⟩, 0, c⟩ := by
  have hB' := hB
  unfold TxBox at hB'
  have f0 : w.cell? ⟨B, 0, none⟩ = some (.string t.s) := cell_of_heap hB' 0 _ rfl
  have f1 : w.cell? ⟨B, 1, none⟩ = some (.int .i64 t.at_) := cell_of_heap hB' 1 _ rfl
  have f2 : w.cell? ⟨B, 2, none⟩ = some (.int .i64 t.c) := cell_of_heap hB' 2 _ rfl
  have z0 := frozen_of_heap hB' 0
  have z1 := frozen_of_heap hB' 1
  have z2 := frozen_of_heap hB' 2
  have HB := Lib.hid hB'
  clear hB hB'
  go_enter Try.func51, Try.ntmps51
  go_wp2
  go_end0
  have g0 := grown_set' w B 0 (.string ⟨#[]⟩)
  have g1 := grown_set' (w.setCell ⟨B, 0, none⟩ (.string ⟨#[]⟩)) B 1 (.int .i64 0)
  have g2 := grown_set' ((w.setCell ⟨B, 0, none⟩ (.string ⟨#[]⟩)).setCell ⟨B, 1, none⟩ (.int .i64 0)) B 2 (.int .i64 c)
  refine ⟨rfl, grow_to g0 (grow_to g1 g2), ?_⟩
  unfold TxBox
  have h0 := heap_setCell_same w B 0 _ _ (.string ⟨#[]⟩) HB.out
  have h1 := heap_setCell_same _ B 1 _ _ (.int .i64 0) h0
  have h2 := heap_setCell_same _ B 2 _ _ (.int .i64 c) h1
  rw [h2]
  rfl

/-- The box of the text, through a world that has at most more memory. -/
theorem TxBox.below {w w' : World} {B : Nat} {t : TxD} (h : TxBox w B t) (hb : Below w.heap.size w w') : TxBox w' B t := by
  unfold TxBox at h ⊢
  rw [hb.block B (Array.getElem?_eq_some_iff.1 h).1]
  exact h

theorem TxBox.c2 {w : World} {B : Nat} {t : TxD} (h : TxBox w B t) : w.cell? ⟨B, 2, none⟩ = some (.int .i64 t.c) := cell_of_heap h 2 _ rfl
theorem TxBox.c1 {w : World} {B : Nat} {t : TxD} (h : TxBox w B t) : w.cell? ⟨B, 1, none⟩ = some (.int .i64 t.at_) := cell_of_heap h 1 _ rfl
theorem TxBox.set_at {w : World} {B : Nat} {s : ByteArray} {a c : Int} (h : TxBox w B ⟨s, a, c⟩) (a' : Int) : TxBox (w.setCell ⟨B, 1, none⟩ (.int .i64 a')) B ⟨s, a', c⟩ := by
  unfold TxBox
  rw [heap_setCell_same w B 1 _ _ (.int .i64 a') h]
  rfl

set_option maxRecDepth 100000 in
set_option maxHeartbeats 2000000 in
theorem next_readByte (B : Nat) (t : TxD) (hs : t.s.size ≤ 140737488355328) (hat : I64 t.at_) (w : World) (hB : TxBox w B t) :
    Calls Try.prog 39 #[.agg #[.func (.func 46) #[] #[]], .pointer (some ⟨B, 0, none⟩)] w fun e w' => e = .returned (.int .i64 (nxt rByte t).1) ∧ w.grownBy w' (some B) ∧ TxBox w' B (nxt rByte t).2 := by
  obtain ⟨s, at_, c⟩ := t
  have bx := box_new w (.cells #[.func (.func 46) #[] #[]] 54)
  have bw := below_box w (.cells #[.func (.func 46) #[] #[]] 54)
  have hB1 := Lib.hid (hB.below bw)
  have g1 := Lib.hid (grownBelow bw (some B))
  clear hB
  have hB1' := hB1.out
  unfold TxBox at hB1'
  generalize hW : w.alloc (.cells #[.func (.func 46) #[] #[]] 54) = W at *
  have f0 : W.cell? ⟨B, 0, none⟩ = some (.string s) := cell_of_heap hB1' 0 _ rfl
  have f1 : W.cell? ⟨B, 1, none⟩ = some (.int .i64 at_) := cell_of_heap hB1' 1 _ rfl
  have f2 : W.cell? ⟨B, 2, none⟩ = some (.int .i64 c) := cell_of_heap hB1' 2 _ rfl
  have fr : W.cell? ⟨w.heap.size, 0, none⟩ = some (.func (.func 46) #[] #[]) := cell_of_heap bx 0 _ rfl
  have x0 := Ext.cell f0
  have x1 := Ext.cell f1
  have x2 := Ext.cell f2
  have xr := Ext.cell fr
  clear hB1' bx bw
  change s.size ≤ 140737488355328 at hs
  change I64 at_ at hat
  by_cases hc : c = 0
  · subst hc
    by_cases hin : 0 ≤ at_ ∧ at_ ≤ s.size
    · obtain ⟨k, rfl⟩ := Int.eq_ofNat_of_zero_le hin.1
      have hk : k ≤ s.size := by have := hin.2; omega
      have HI := Lib.hid (inB_yes (n := (k : Int)) (l := 0) (h := (s.size : Int)) hin.1 hin.2)
      obtain ⟨r, hr⟩ : ∃ r, r = rByte (s.data.toList.drop k) := ⟨_, rfl⟩
      have hok := rByte_ok (s.data.toList.drop k)
      rw [← hr] at hok
      have hx : (s.extract k s.size).data.toList = s.data.toList.drop k := by simp [List.take_of_length_le]
      have hxs : (s.extract k s.size).size ≤ 140737488355328 := by
        have : (s.extract k s.size).data.toList.length = s.size - k := by rw [hx]; simp
        have e : (s.extract k s.size).data.toList.length = (s.extract k s.size).size := by simp
        omega
      have HR := Lib.hid (fun v => readByte_any (s.extract k s.size) hxs v)
      rw [hx, ← hr] at HR
      have hz : nxt rByte ⟨s, (k : Int), 0⟩ = if r.c ≠ 0 then (0, ⟨⟨#[]⟩, 0, r.c⟩) else (r.n, ⟨s, (k : Int) + r.k, 0⟩) := by
        unfold nxt
        simp only [ne_eq, not_true_eq_false, if_false]
        rw [if_neg (fun h => h hin), Int.toNat_natCast, ← hr]
      rw [hz]
      clear hz hr hx hxs hin hat
      obtain ⟨n, m, cc⟩ := r
      obtain ⟨⟨hn1, hn2⟩, hm, _⟩ := hok
      have hm' : m ≤ s.size - k := by simpa using hm
      clear hm
      simp only [RdI.val] at HR
      by_cases h0 : cc = 0
      · subst h0
        rw [if_neg (by simp)]
        go_enter Try.func39, Try.ntmps39
        go_wp2
        refine wp_region_ext (Below.refl _ _) (by kernel_rfl) (by kernel_rfl) ?_
        repeat (go_big_quiet_step ((go_at_call 45; exact Ext.same (isIn_eq HI.out _))))
        refine wpQuiet_nil ?_
        intro _ hw'
        obtain ⟨x9, hw''⟩ := hw'
        subst hw''
        go_wp2
        refine wp_region_ext x9.below (by kernel_rfl) (by kernel_rfl) ?_
        repeat (go_big_quiet_step ((go_at_call 46; exact Ext.call (HR.out _))))
        refine wpQuiet_nil ?_
        intro _ hw'
        obtain ⟨x9, hw''⟩ := hw'
        subst hw''
        have hbx := hB1.out.below x9.below
        have g2 := Lib.hid (grow_to g1.out (grownBelow x9.below (some B)))
        have HBX := Lib.hid hbx
        unfold TxBox at hbx
        have z1 := frozen_of_heap hbx 1
        clear hbx
        go_wp2
        go_ret
        exact ⟨rfl, grow_to g2.out (grown_set' _ _ _ _), HBX.out.set_at _⟩
      · have hcb : (cc == 0) = false := beq_eq_false_iff_ne.2 h0
        have hcn : (cc != 0) = true := bne_iff_ne.2 h0
        rw [if_pos h0]
        clear h0
        go_enter Try.func39, Try.ntmps39
        go_wp2
        refine wp_region_ext (Below.refl _ _) (by kernel_rfl) (by kernel_rfl) ?_
        repeat (go_big_quiet_step ((go_at_call 45; exact Ext.same (isIn_eq HI.out _))))
        refine wpQuiet_nil ?_
        intro _ hw'
        obtain ⟨x9, hw''⟩ := hw'
        subst hw''
        go_wp2
        refine wp_region_ext x9.below (by kernel_rfl) (by kernel_rfl) ?_
        repeat (go_big_quiet_step ((go_at_call 46; exact Ext.call (HR.out _))))
        refine wpQuiet_nil ?_
        intro _ hw'
        obtain ⟨x9, hw''⟩ := hw'
        subst hw''
        have HBX := Lib.hid (hB1.out.below x9.below)
        have g2 := Lib.hid (grow_to g1.out (grownBelow x9.below (some B)))
        go_wp2_with (go_at_call 51; refine (refuse_any B _ cc _ HBX.out).mono ?_; rintro e w' ⟨rfl, hgr, hbn⟩)
        go_ret
        exact ⟨rfl, grow_to g2.out hgr, hbn⟩
    · have HI := Lib.hid (inB_no (n := at_) (l := 0) (h := (s.size : Int)) (by omega))
      have hz : nxt rByte ⟨s, at_, 0⟩ = (0, ⟨⟨#[]⟩, 0, 1⟩) := by
        unfold nxt
        simp only [ne_eq, not_true_eq_false, if_false]
        rw [if_pos hin]
      rw [hz]
      clear hz hin hat
      go_enter Try.func39, Try.ntmps39
      go_wp2
      refine wp_region_ext (Below.refl _ _) (by kernel_rfl) (by kernel_rfl) ?_
      repeat (go_big_quiet_step ((go_at_call 45; exact Ext.same (isIn_eq HI.out _))))
      refine wpQuiet_nil ?_
      intro _ hw'
      obtain ⟨x9, hw''⟩ := hw'
      subst hw''
      have HBX := Lib.hid (hB1.out.below x9.below)
      have g2 := Lib.hid (grow_to g1.out (grownBelow x9.below (some B)))
      go_wp2_with (go_at_call 51; refine (refuse_any B _ 1 _ HBX.out).mono ?_; rintro e w' ⟨rfl, hgr, hbn⟩; have hb2 : w'.cell? ⟨B, 2, none⟩ = some (.int .i64 1) := hbn.c2)
      go_ret
      exact ⟨rfl, grow_to g2.out hgr, hbn⟩
  · have hcb : (c == 0) = false := beq_eq_false_iff_ne.2 hc
    have hcn : (c != 0) = true := bne_iff_ne.2 hc
    have hz : nxt rByte ⟨s, at_, c⟩ = (0, ⟨s, at_, c⟩) := by unfold nxt; rw [if_pos hc]
    rw [hz]
    clear hz hc
    go_enter Try.func39, Try.ntmps39
    go_wp2
    refine wp_region_ext (Below.refl _ _) (by kernel_rfl) (by kernel_rfl) ?_
    repeat (go_big_quiet_step ((fail)))
    refine wpQuiet_nil ?_
    intro _ hw'
    obtain ⟨x9, hw''⟩ := hw'
    subst hw''
    go_wp2
    go_ret
    exact ⟨rfl, grow_to g1.out (grownBelow x9.below (some B)), hB1.out.below x9.below⟩
end Go.Proofs.Ytedhallhdhlhhaa
