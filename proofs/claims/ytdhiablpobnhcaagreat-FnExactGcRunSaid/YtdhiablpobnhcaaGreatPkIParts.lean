import Derived.Test.YtdhiablpobnhcaaGreatPkIContains
import Derived.Test.YtdhiablpobnhcaaGreatPkSGcOk
import Derived.Test.YtdhiablpobnhcaaGreatPkN

/-
  The contracts of the program's greyIsEmpty, nextIsMut, nothingIsSwept, nothingIsMarked, nothingSweptIsMarked, greyIsMarkedOnce.
-/
namespace Go.Proofs.YtdhiablpobnhcaaGreat
open Go.RowKit
open Go.Maps (Keyed)
set_option linter.unusedVariables false

set_option maxRecDepth 100000 in
set_option maxHeartbeats 4000000 in
theorem pGreyEmpty (V B g n : Nat) (M : DataW Unit) (v : Value) (D : WD) (w : World) (hr : RdW w v D) (hB : BoxW w B v) (hv : ViewIs D w V B g n M) :
    Calls Tryz.prog 139 #[.pointer (some ⟨V, 0, none⟩)] w fun e w' => IsB (D.grey = []) e ∧ Below w.heap.size w w' := by
  have c0 := cell_of_heap hv.box 0 (.pointer (some ⟨B, 0, none⟩)) rfl
  obtain ⟨vw, vd, vs, vm, vg, rfl, a1, a2, a3, a4, a5⟩ := hr
  obtain ⟨ag, cg, rfl, hl, _⟩ := a5
  unfold maxLen at hl
  have g8 := hB.cell 8 _ rfl
  clear a1 a2 a3 a4 hB hv
  by_cases c : D.grey = []
  · have y := Lib.hid (IsB.yes c)
    have hz : D.grey.length = 0 := by rw [c]; rfl
    rw [hz] at g8
    clear c
    go_enter Tryz.func139, Tryz.ntmps139
    go_wp2_with fail
    go_ret
    exact ⟨y.out, Below.refl _ _⟩
  · have y := Lib.hid (IsB.no c)
    have hz : ¬ D.grey.length = 0 := fun h => c (List.length_eq_zero_iff.1 h)
    have hz1 : ((D.grey.length : Int) == 0) = false := beq_eq_false_iff_ne.2 (by omega)
    clear c
    go_enter Tryz.func139, Tryz.ntmps139
    go_wp2_with fail
    go_ret
    exact ⟨by simpa [hz, hz1] using y.out, Below.refl _ _⟩

set_option maxRecDepth 100000 in
set_option maxHeartbeats 4000000 in
theorem pNext (V B g n : Nat) (M : DataW Unit) (v : Value) (D : WD) (w : World) (hr : RdW w v D) (hB : BoxW w B v) (hv : ViewIs D w V B g n M) :
    Calls Tryz.prog 140 #[.pointer (some ⟨V, 0, none⟩)] w fun e w' => IsB ((D.phase = 1 → 0 ≤ D.next ∧ D.next ≤ (D.muts.length : Int)) ∧ (D.phase ≠ 1 → D.next = 0)) e ∧ Below w.heap.size w w' := by
  have c0 := cell_of_heap hv.box 0 (.pointer (some ⟨B, 0, none⟩)) rfl
  obtain ⟨vw, vd, vs, vm, vg, rfl, a1, a2, a3, a4, a5⟩ := hr
  obtain ⟨aM, cM, rfl, hml, _⟩ := a4
  unfold maxLen at hml
  have g5 := hB.cell 5 _ rfl
  have g6 := hB.cell 6 _ rfl
  have g7 := hB.cell 7 _ rfl
  have hP := Lib.hid (Iff.refl ((D.phase = 1 → 0 ≤ D.next ∧ D.next ≤ (D.muts.length : Int)) ∧ (D.phase ≠ 1 → D.next = 0)))
  clear a1 a2 a3 a5 hB hv
  by_cases c : D.phase = 1
  · have y := Lib.hid (show IsB ((D.phase = 1 → 0 ≤ D.next ∧ D.next ≤ (D.muts.length : Int)) ∧ (D.phase ≠ 1 → D.next = 0)) (.returned (.bool (inB D.next 0 (D.muts.length : Int)))) from ⟨_, rfl, by rw [inB_iff]; exact ⟨fun h => ⟨fun _ => h, fun h2 => absurd c h2⟩, fun h => h.1 c⟩⟩)
    rw [c] at g6
    clear hP
    generalize ((D.phase = 1 → 0 ≤ D.next ∧ D.next ≤ (D.muts.length : Int)) ∧ (D.phase ≠ 1 → D.next = 0)) = P at *
    clear c
    go_enter Tryz.func140, Tryz.ntmps140
    go_wp2_with fail
    go_quiet ((go_at_call 60; exact Calls.quiet_of_same ((isIn_any _ _ _ _).mono fun _ _ ⟨a, b⟩ => ⟨a, b.symm⟩)))
    go_wp2_with fail
    go_ret
    exact ⟨y.out, below_drewN (Below.refl _ _) _⟩
  · have y := Lib.hid (show IsB ((D.phase = 1 → 0 ≤ D.next ∧ D.next ≤ (D.muts.length : Int)) ∧ (D.phase ≠ 1 → D.next = 0)) (.returned (.bool (D.next == 0))) from ⟨_, rfl, by rw [beq_iff_eq]; exact ⟨fun h => ⟨fun h2 => absurd h2 c, fun _ => h⟩, fun h => h.2 c⟩⟩)
    have d : (D.phase == 1) = false := beq_eq_false_iff_ne.2 c
    clear hP
    generalize ((D.phase = 1 → 0 ≤ D.next ∧ D.next ≤ (D.muts.length : Int)) ∧ (D.phase ≠ 1 → D.next = 0)) = P at *
    clear c
    go_enter Tryz.func140, Tryz.ntmps140
    go_wp2_with fail
    go_ret
    exact ⟨y.out, Below.refl _ _⟩

set_option maxRecDepth 100000 in
set_option maxHeartbeats 4000000 in
theorem pSwept (V B g n : Nat) (M : DataW Unit) (v : Value) (D : WD) (w : World) (hr : RdW w v D) (hB : BoxW w B v) (hv : ViewIs D w V B g n M) :
    Calls Tryz.prog 141 #[.pointer (some ⟨V, 0, none⟩)] w fun e w' => IsB (¬ ∃ s, s ∈ D.spans ∧ (s.swept = true)) e ∧ Below w.heap.size w w' := by
  have c0 := cell_of_heap hv.box 0 (.pointer (some ⟨B, 0, none⟩)) rfl
  obtain ⟨vw, vd, vs, vm, vg, rfl, a1, a2, a3, a4, a5⟩ := hr
  have hcall := Lib.hid (con_cswept _ D.spans w a3)
  obtain ⟨aS, cS, rfl, _⟩ := a3
  have g4 := hB.cell 4 _ rfl
  clear a1 a2 a4 a5 hB hv
  go_enter Tryz.func141, Tryz.ntmps141
  go_wp2_with fail
  refine hcall.out.mono ?_
  rintro e w1 ⟨⟨r, rfl, hr⟩, b1⟩
  have y := Lib.hid (show IsB (¬ ∃ s, s ∈ D.spans ∧ (s.swept = true)) (.returned (.bool (!r))) from ⟨_, rfl, by rw [← hr]; cases r <;> simp⟩)
  have b1' := Lib.hid b1
  clear hr b1 hcall
  go_wp2_with fail
  go_ret
  exact ⟨y.out, b1'.out⟩

set_option maxRecDepth 100000 in
set_option maxHeartbeats 4000000 in
theorem pMarked (V B g n : Nat) (M : DataW Unit) (v : Value) (D : WD) (w : World) (hr : RdW w v D) (hB : BoxW w B v) (hv : ViewIs D w V B g n M) :
    Calls Tryz.prog 142 #[.pointer (some ⟨V, 0, none⟩)] w fun e w' => IsB (¬ ∃ s, s ∈ D.spans ∧ (s.mark ≠ 0)) e ∧ Below w.heap.size w w' := by
  have c0 := cell_of_heap hv.box 0 (.pointer (some ⟨B, 0, none⟩)) rfl
  obtain ⟨vw, vd, vs, vm, vg, rfl, a1, a2, a3, a4, a5⟩ := hr
  have hcall := Lib.hid (con_cmarked _ D.spans w a3)
  obtain ⟨aS, cS, rfl, _⟩ := a3
  have g4 := hB.cell 4 _ rfl
  clear a1 a2 a4 a5 hB hv
  go_enter Tryz.func142, Tryz.ntmps142
  go_wp2_with fail
  refine hcall.out.mono ?_
  rintro e w1 ⟨⟨r, rfl, hr⟩, b1⟩
  have y := Lib.hid (show IsB (¬ ∃ s, s ∈ D.spans ∧ (s.mark ≠ 0)) (.returned (.bool (!r))) from ⟨_, rfl, by rw [← hr]; cases r <;> simp⟩)
  have b1' := Lib.hid b1
  clear hr b1 hcall
  go_wp2_with fail
  go_ret
  exact ⟨y.out, b1'.out⟩

set_option maxRecDepth 100000 in
set_option maxHeartbeats 4000000 in
theorem pBoth (V B g n : Nat) (M : DataW Unit) (v : Value) (D : WD) (w : World) (hr : RdW w v D) (hB : BoxW w B v) (hv : ViewIs D w V B g n M) :
    Calls Tryz.prog 143 #[.pointer (some ⟨V, 0, none⟩)] w fun e w' => IsB (¬ ∃ s, s ∈ D.spans ∧ (s.swept = true ∧ s.mark ≠ 0)) e ∧ Below w.heap.size w w' := by
  have c0 := cell_of_heap hv.box 0 (.pointer (some ⟨B, 0, none⟩)) rfl
  obtain ⟨vw, vd, vs, vm, vg, rfl, a1, a2, a3, a4, a5⟩ := hr
  have hcall := Lib.hid (con_cboth _ D.spans w a3)
  obtain ⟨aS, cS, rfl, _⟩ := a3
  have g4 := hB.cell 4 _ rfl
  clear a1 a2 a4 a5 hB hv
  go_enter Tryz.func143, Tryz.ntmps143
  go_wp2_with fail
  refine hcall.out.mono ?_
  rintro e w1 ⟨⟨r, rfl, hr⟩, b1⟩
  have y := Lib.hid (show IsB (¬ ∃ s, s ∈ D.spans ∧ (s.swept = true ∧ s.mark ≠ 0)) (.returned (.bool (!r))) from ⟨_, rfl, by rw [← hr]; cases r <;> simp⟩)
  have b1' := Lib.hid b1
  clear hr b1 hcall
  go_wp2_with fail
  go_ret
  exact ⟨y.out, b1'.out⟩

set_option maxRecDepth 100000 in
set_option maxHeartbeats 4000000 in
theorem pGrey (V B g n : Nat) (M : DataW Unit) (v : Value) (D : WD) (hF : HeapForm D) (hI : AllI D.grey) (w : World) (hr : RdW w v D) (hB : BoxW w B v) (hv : ViewIs D w V B g n M) :
    Calls Tryz.prog 138 #[.pointer (some ⟨V, 0, none⟩)] w fun e w' => IsB (GreyMarked D D.grey) e ∧ Below w.heap.size w w' := by
  have hr' := Lib.hid hr
  have hB' := Lib.hid hB
  have hF' := Lib.hid hF
  have hI' := Lib.hid hI
  have hv' := Lib.hid hv
  have c0 := cell_of_heap hv.box 0 (.pointer (some ⟨B, 0, none⟩)) rfl
  obtain ⟨vw, vd, vs, vm, vg, rfl, a1, a2, a3, a4, a5⟩ := hr
  obtain ⟨ag, cg, rfl, hl, xg⟩ := a5
  have xg' := Lib.hid xg
  unfold maxLen at hl
  have bb := Lib.hid (below_box w (.map #[] 0))
  have g8 := cell_below bb.out (hB.cell 8 _ rfl)
  have c0 := cell_below bb.out c0
  have hmk := @run_makeMap Tryz.prog
  have hown0 := Lib.hid (show OwnB (w.alloc (.map #[] 0)) w.heap.size 0 (.map []) from World.ownsMap_made w Tryz.prog 3 boolElem)
  clear a1 a2 a3 a4 xg hB hF hI hv
  go_enter Tryz.func138, Tryz.ntmps138
  go_wp2_with fail
  clear g8 c0 hmk
  go_loopw [16] (fun i wr => ∃ (k : Nat) (S : List Int), k ≤ D.grey.length ∧ i = .int .i64 k ∧ Hid (∀ a, a ∈ S ↔ a ∈ D.grey.take k) ∧ Hid (GreyMarked D (D.grey.take k)) ∧ Hid (∃ M2, MetIs M2 S ∧ OwnB wr w.heap.size k M2) ∧ Hid (Below w.heap.size w wr)) (fun i _ => D.grey.length - (Go.RowKit.intOf i).toNat)
  case atStart => exact ⟨0, [], Nat.zero_le _, rfl, Lib.hid (fun a => by simp), Lib.hid (by simpa using GreyMarked.nil D), Lib.hid ⟨_, MetIs.zero, hown0.out⟩, bb⟩
  case round =>
    obtain ⟨k, S, hk, rfl, hS, hgm, hM, hB⟩ := hrel
    by_cases hlt : k < D.grey.length
    · have hlt1 : (k : Int) < (D.grey.length : Int) := by omega
      obtain ⟨bg, og, rfl, x0⟩ := xg'.out k hlt
      have x1 := cell_below hB.out x0
      have hx64 := hI'.out (D.grey[k]?.getD 0) (by rw [List.getElem?_eq_getElem hlt]; exact List.getElem_mem hlt)
      have hno1 := Lib.hid (GreyMarked.no1 (D := D) hlt)
      have hno2 := Lib.hid (GreyMarked.no2 (D := D) hlt)
      have hsn := Lib.hid (show MarkedObj D (D.grey[k]?.getD 0) → D.grey[k]?.getD 0 ∉ D.grey.take k → GreyMarked D (D.grey.take (k + 1)) from fun hm hx => by rw [take_one hlt]; exact hgm.out.snoc hm hx)
      have hS2 := Lib.hid (show ∀ a, a ∈ D.grey[k]?.getD 0 :: S ↔ a ∈ D.grey.take (k + 1) from fun a => by rw [take_one hlt, List.mem_append, List.mem_singleton, List.mem_cons, hS.out]; exact Or.comm)
      clear x0
      generalize D.grey[k]?.getD 0 = x at *
      have hkey := Lib.hid (key_i64 hx64)
      obtain ⟨M2, hM1, hM2⟩ := hM.out
      have hM1' := Lib.hid hM1
      have hM2' := Lib.hid hM2
      by_cases hxS : x ∈ S
      · have hlk := look_met hM2 hkey.out (show M2.atKey (.int .i64 x) (flag false) = flag true by rw [hM1.look x]; simp [hxS])
        have y := Lib.hid (IsB.no (hno2.out ((hS.out x).1 hxS)))
        clear hM1 hM2 hxS hx64
        go_wp2_with fail
        go_ret
        exact ⟨y.out, hB.out⟩
      have hlk := look_met hM2 hkey.out (show M2.atKey (.int .i64 x) (flag false) = flag false by rw [hM1.look x]; simp [hxS])
      have hmk := Lib.hid (vmarked_any V B g n M _ D hF'.out x hx64 wr (hr'.out.below hB.out) (hB'.out.below hB.out) (hv'.out.below hB.out))
      have hnS := Lib.hid (show x ∉ D.grey.take k from fun h => hxS ((hS.out x).2 h))
      clear hM1 hM2 hxS hx64
      go_wp2_with fail
      refine hmk.out.mono ?_
      rintro e w1 ⟨hq, b1⟩
      replace hq := hq.elim
      have hB1 := Lib.hid (below_trans hB.out b1)
      have hM3 := Lib.hid (hM2'.out.below b1)
      clear b1 hmk hlk x1
      rcases hq with ⟨hq, rfl⟩ | ⟨hq, rfl⟩
      case inr =>
        have y := Lib.hid (IsB.no (hno1.out hq))
        clear hq
        go_wp2_with fail
        go_ret
        exact ⟨y.out, hB1.out⟩
      have hn := Lib.hid (hsn.out hq hnS.out)
      clear hq
      go_wp2_with (at_mapUpdate; refine wpList_mapUpdate_own _ rfl _ _ _ 75 rfl 3 4 mapLaw Tryz.underlying75 boolElem w.heap.size k M2 rfl hM3.out (by unfold maxLen; omega) _ _ (.int .i64 x) rfl rfl hkey.out (flag true) [] (boolElem_mk true) ?_; intro w3 hown3 hgrow3)
      have hB3 := Lib.hid (hB1.out.grown hgrow3 hB1.out.size (fun q hq => by cases hq; exact Nat.le_refl _))
      have hMM := Lib.hid (show ∃ M3, MetIs M3 (x :: S) ∧ OwnB w3 w.heap.size (k + 1) M3 from ⟨_, hM1'.out.put x, hown3⟩)
      clear hown3 hgrow3
      go_wp2_with fail
      go_roundw
      case rel => exact ⟨k + 1, x :: S, by omega, by go_num, hS2, hn, hMM, hB3⟩
      case measure => simp [Go.RowKit.intOf]; omega
    obtain rfl : k = D.grey.length := by omega
    have y := Lib.hid (IsB.yes (P := GreyMarked D D.grey) (by simpa using hgm.out))
    go_wp2_with fail
    go_ret
    exact ⟨y.out, hB.out⟩
end Go.Proofs.YtdhiablpobnhcaaGreat
