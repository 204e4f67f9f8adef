import Derived.Test.YtdhiablpobnhcaaGreatPkISpread

/-
  The program's spread with the closure that goes on from what is not marked.
-/
namespace Go.Proofs.YtdhiablpobnhcaaGreat
open Go.RowKit
open Go.Maps (Keyed)
set_option linter.unusedVariables false

set_option maxRecDepth 100000 in
set_option maxHeartbeats 4000000 in
theorem kc_any (Bv V B g n : Nat) (M : DataW Unit) (v : Value) (D : WD) (k j : Nat) (s : SpanD) (hks : D.spans[k]? = some s) (hm : 0 ≤ s.mark ∧ s.mark ≤ 9223372036854775807 ∧ j ≤ 16) (w : World) (hr : RdW w v D) (hB : BoxW w B v) (hv : ViewIs D w V B g n M) (hbv : w.cell? ⟨Bv, 0, none⟩ = some (.pointer (some ⟨V, 0, none⟩))) :
    Calls Tryz.prog 187 #[.agg #[.int .i64 k, .int .i64 j], .pointer (some ⟨Bv, 0, none⟩)] w fun e w' => IsB (¬ MarkedP D k j) e ∧ Below w.heap.size w w' := by
  have bb := below_box w (.cells #[.int .i64 k, .int .i64 j] 69)
  have bx := box_new w (.cells #[.int .i64 k, .int .i64 j] 69)
  obtain ⟨mk, hmk⟩ := flag_of (MarkedP D k j)
  have hcall := Lib.hid (fun (w' : World) (hb : Below w.heap.size w w') => (imarked_any B v D k j s hks hm w' (hr.below hb) (hB.below hb)).mono fun e w'' ⟨h1, h2⟩ => (⟨h1.at_ mk hmk, h2⟩ : e = Ending.returned (.bool mk) ∧ Below w'.heap.size w' w''))
  have y := Lib.hid (show IsB (¬ MarkedP D k j) (.returned (.bool (!mk))) from ⟨_, rfl, by rw [← hmk]; cases mk <;> simp⟩)
  have c0 := cell_below bb (cell_of_heap hv.box 0 (.pointer (some ⟨B, 0, none⟩)) rfl)
  have v0 := cell_below bb hbv
  have q0 := cell_of_heap bx 0 (.int .i64 k) rfl
  have q1 := cell_of_heap bx 1 (.int .i64 j) rfl
  have bb' := Lib.hid bb
  clear hr hB hv hbv hks hm hmk bb bx
  go_enter Tryz.func187, Tryz.ntmps187
  go_upto_region 1 with fail
  generalize w.alloc (.cells #[.int .i64 k, .int .i64 j] 69) = W at *
  have C0 := Ext.cell c0
  have V0 := Ext.cell v0
  have Q0 := Ext.cell q0
  have Q1 := Ext.cell q1
  clear c0 v0 q0 q1
  refine wp_region_ext (Below.refl _ _) (by kernel_rfl) (by kernel_rfl) ?_
  repeat (go_big_quiet_step ((go_at_call 151; exact Ext.call (hcall.out _ (below_trans bb'.out (Ext.below _))))))
  refine wpQuiet_nil ?_
  intro _ hw'
  obtain ⟨x9, hw''⟩ := hw'
  subst hw''
  go_wp2_with fail
  go_ret
  exact ⟨y.out, below_trans bb'.out x9.below⟩

set_option maxRecDepth 100000 in
set_option maxHeartbeats 8000000 in
theorem spreadB_any (V B gv n : Nat) (Mv : DataW Unit) (v : Value) (D : WD) (hF : HeapForm D) (hI : AllI D.words) (hcap : CapW v) (af : Option Addr) (cf : Nat) (fr : List Int) (hfI : AllI fr) (hfr : fr.length ≤ 1048576) (Bv : Nat) (w : World) (hr : RdW w v D) (hB : BoxW w B v) (hv : ViewIs D w V B gv n Mv) (hf : Rd w (.slice af fr.length cf) fr) (hbv : w.cell? ⟨Bv, 0, none⟩ = some (.pointer (some ⟨V, 0, none⟩))) :
    Calls Tryz.prog 50 #[.pointer (some ⟨V, 0, none⟩), .slice af fr.length cf, .func (.func 187) #[] #[.pointer (some ⟨Bv, 0, none⟩)]] w fun e w' => ∃ g' S, Hid (S.Nodup ∧ ∀ a, a ∈ S ↔ Led D (fun k j => ¬ MarkedP D k j) fr a) ∧ e = .returned (.map (some g')) ∧ Hid (∃ M, MetIs M S ∧ OwnB w' g' S.length M) ∧ w.heap.size ≤ g' ∧ Below w.heap.size w w' := by
  have hF' := Lib.hid hF
  have hI' := Lib.hid hI
  have hcap' := Lib.hid hcap
  have hr' := Lib.hid hr
  have hB' := Lib.hid hB
  have hv' := Lib.hid hv
  have hfI' := Lib.hid hfI
  have hf' := Lib.hid hf
  have hbv' := Lib.hid hbv
  have c00 := Lib.hid (cell_of_heap hv.box 0 (.pointer (some ⟨B, 0, none⟩)) rfl)
  have bb := Lib.hid (below_box w (.map #[] 0))
  have hmk := @run_makeMap Tryz.prog
  have hown0 := Lib.hid (show OwnB (w.alloc (.map #[] 0)) w.heap.size 0 (.map []) from World.ownsMap_made w Tryz.prog 3 boolElem)
  have hcall := Lib.hid (listInt_any af fr.length cf (fr.map (Value.int .i64)) hfr _ (Rd.src (hf.below bb.out)))
  clear hF hI hcap hr hB hv hfI hf hbv
  go_enter Tryz.func50, Tryz.ntmps50
  go_wp2_with fail
  refine hcall.out.mono ?_
  rintro e w1 ⟨v1, rfl, ho1, b1⟩
  have st1 := Lib.hid (show SpSt D (fun k j => ¬ MarkedP D k j) fr w w1 w.heap.size v1 [] fr from ⟨GoSt.zero _ _ _, hfI'.out, by simp, ⟨_, MetIs.zero, hown0.out.below b1⟩, own_base (base' := w.heap.size) ho1 (by simp), below_trans bb.out b1, Nat.le_refl _⟩)
  clear ho1 b1 hcall hmk
  go_wp2_with fail
  go_loopw [8] (fun v wr => ∃ S T : List Int, Hid (SpSt D (fun k j => ¬ MarkedP D k j) fr w wr w.heap.size v S T)) (fun v wr => lenV v + 17 * (384 - metLen wr w.heap.size))
  case atStart => exact ⟨[], fr, st1⟩
  case round =>
    clear st1
    obtain ⟨S, T, st⟩ := hrel
    have hml := st.out.mlen
    have hlenS : S.length ≤ 384 := st.out.st.len hF'.out
    have hl := st.out.len
    obtain ⟨au, cu, hu⟩ := own_slice st.out.own
    rcases List.eq_nil_or_concat T with rfl | ⟨T, x, rfl⟩
    · subst hu
      go_wp2_with fail
      go_ret
      exact ⟨_, S, Lib.hid ⟨st.out.st.nodup, fun a => st.out.st.done a⟩, rfl, Lib.hid st.out.met, Nat.le_refl _, st.out.below⟩
    rw [List.concat_eq_append] at st hu hl
    have e1 : (T ++ [x]).length = T.length + 1 := by simp
    rw [e1] at hu hl
    subst hu
    obtain ⟨gu, hgu, hcap, hcm, x0, htail⟩ := own_init st.out.own
    subst hgu
    have hx64 := st.out.i64 x (by simp)
    have hkey := Lib.hid (key_i64 hx64)
    obtain ⟨M, hM, hOM⟩ := st.out.met
    have hM' := Lib.hid hM
    have hOM' := Lib.hid hOM
    have hw := Lib.hid st.out.below
    have htail' := Lib.hid htail
    have hvr := Lib.hid (hv'.out.below hw.out)
    have c0 := cell_of_heap hvr.out.box 0 (.pointer (some ⟨B, 0, none⟩)) rfl
    have c1 := cell_of_heap hvr.out.box 1 (.map (some gv)) rfl
    have hpos : (0 : Int) < ((T.length + 1 : Nat) : Int) := by omega
    have hcm' : cu ≤ 9223372036854775807 := by unfold maxLen at hcm; omega
    have hsub : IntKind.i64.wrap (((T.length + 1 : Nat) : Int) - 1) = (T.length : Int) := (IntWalk.i64_in _ (by omega)).trans (by omega)
    have hlt0 : (T.length : Int) < ((T.length + 1 : Nat) : Int) := by omega
    have hle0 : (T.length : Int) ≤ (cu : Int) := by omega
    clear hM hOM hcm htail hx64
    by_cases hh : ∃ k j, IsObj D x k j
    case neg =>
      have h1 := Lib.hid (show Maps.has Mv (.int .i64 x) = false from by
        cases h : Maps.has Mv (.int .i64 x)
        · rfl
        · obtain ⟨k, j, _, ho⟩ := (hvr.out.is.has x).1 h
          exact absurd ⟨k, j, ho⟩ hh)
      have h2 := Lib.hid (show Mv.atKey (.int .i64 x) (dat 0 0) = dat 0 0 from Maps.atKey_of_not_has h1.out _)
      have st2 := Lib.hid (fun w2 (hb : Below wr.heap.size wr w2) => st.out.skip (.inl fun ⟨k, j, h⟩ => hh ⟨k, j, h⟩) htail'.out hb)
      have st3 := Lib.hid (st2.out _ (below_box wr (.cells #[.int .i64 0, .int .i64 0] 69)))
      clear hh st
      go_wp2_with (at_lookup; refine lookup_place _ rfl rfl _ _ rfl gv n Mv rfl hvr.out.own _ _ rfl hkey.out false h1.out 0 0 h2.out ?_)
      go_roundw
      case rel => exact ⟨S, T, st3⟩
      case measure => rw [st3.out.mlen, hml]; simp only [lenV]; omega
    obtain ⟨k, j, ho⟩ := hh
    obtain ⟨s, hks, hin, p0, p1⟩ := obj_slot hF'.out ho
    have ho' := Lib.hid ho
    have hks' := Lib.hid hks
    have hin' := Lib.hid hin
    have hk := Lib.hid (show Ahead D.spans.length 0 k j from .inl (List.getElem?_eq_some_iff.1 hks).1)
    have h1 := Lib.hid ((hvr.out.is.has x).2 ⟨k, j, hk.out, ho⟩)
    have h2 := Lib.hid (hvr.out.is.is x k j (dat 0 0) hk.out ho)
    have bb2 := Lib.hid (below_box wr (.cells #[.int .i64 k, .int .i64 j] 69))
    have bx2 := Lib.hid (box_new wr (.cells #[.int .i64 k, .int .i64 j] 69))
    have hl3 := Lib.hid (hM'.out.look x)
    have hOM2 := Lib.hid (hOM'.out.below bb2.out)
    by_cases hxS : x ∈ S
    · have st2 := Lib.hid (st.out.skip (.inr hxS) htail'.out bb2.out)
      have h3 := Lib.hid (show M.atKey (.int .i64 x) (flag false) = flag true by rw [hl3.out]; simp [hxS])
      have hlk := look_met hOM2.out hkey.out h3.out
      clear ho hks hin p0 p1 hxS st
      go_wp2_with (at_lookup; refine lookup_place _ rfl rfl _ _ rfl gv n Mv rfl hvr.out.own _ _ rfl hkey.out true h1.out (k : Int) (j : Int) h2.out ?_)
      go_roundw
      case rel => exact ⟨S, T, st2⟩
      case measure => rw [st2.out.mlen, hml]; simp only [lenV]; omega
    have h3 := Lib.hid (show M.atKey (.int .i64 x) (flag false) = flag false by rw [hl3.out]; simp [hxS])
    have hpw := Lib.hid (fun (w' : World) (hb : Below w.heap.size w w') => pointerWords_any B v D k j s hks hin p0 p1 hcap'.out w' (hr'.out.below hb) (hB'.out.below hb))
    have hxS' := Lib.hid hxS
    have hlk := look_met hOM2.out hkey.out h3.out
    have hne := Lib.hid (show some wr.heap.size ≠ some w.heap.size from fun e => by have := hOM'.out.lt; simp at e; omega)
    have hne2 := Lib.hid (hOM'.out.ne_row htail'.out)
    obtain ⟨mk, hmk⟩ := flag_of (¬ MarkedP D k j)
    have hfoll := Lib.hid (fun (w' : World) (hb : Below w.heap.size w w') => (kc_any Bv V B gv n Mv v D k j s hks (SlotIn.mk16 hF'.out hks hin.j) w' (hr'.out.below hb) (hB'.out.below hb) (hv'.out.below hb) (cell_below hb hbv'.out)).mono fun e w'' ⟨h1, h2⟩ => (⟨h1.at_ mk hmk, h2⟩ : e = Ending.returned (.bool mk) ∧ Below w'.heap.size w' w''))
    have hmk' := Lib.hid hmk
    clear hmk
    clear ho hks hin p0 p1 hxS
    cases mk
    case false =>
      go_wp2_with (first
        | (at_lookup; refine lookup_place _ rfl rfl _ _ rfl gv n Mv rfl hvr.out.own _ _ rfl hkey.out true h1.out (k : Int) (j : Int) h2.out ?_)
        | (at_mapUpdate; refine wpList_mapUpdate_own _ rfl _ _ _ 75 rfl 3 4 mapLaw Tryz.underlying75 boolElem w.heap.size S.length M rfl hOM2.out (by unfold maxLen; omega) _ _ (.int .i64 x) rfl rfl hkey.out (flag true) [] (boolElem_mk true) ?_; intro w3 hown3 hgrow3; have y0 := World.grownBy.cell hgrow3 (cell_of_heap bx2.out 0 (.int .i64 k) rfl) hne.out; have y1 := World.grownBy.cell hgrow3 (cell_of_heap bx2.out 1 (.int .i64 j) rfl) hne.out)
        | (go_at_call 187; refine (hfoll.out _ ?_).mono ?_; (exact World.below_none hgrow3 hw.out bb2.out (Nat.le_refl _)); rintro e w4 ⟨rfl, b4⟩))
      have M3 := Lib.hid (hM'.out.put x)
      have own3 := Lib.hid ((htail'.out.alloc (.cells #[.int .i64 k, .int .i64 j] 69)).kept hgrow3 (.inr hne2.out))
      have w3b := Lib.hid (show Below w.heap.size w w3 from Below.grown (below_trans hw.out bb2.out) hgrow3 (by have := hw.out.size; have := bb2.out.size; omega) (fun q hq => by cases hq; exact Nat.le_refl _))
      have w4b := Lib.hid (below_trans w3b.out b4)
      have own4 := Lib.hid (own_below own3.out b4)
      have hown4 := Lib.hid (show OwnB w4 w.heap.size (S.length + 1) _ from OwnB.below hown3 b4)
      have st2 := Lib.hid (st.out.st.put (S' := x :: S) (T'' := T) hF'.out mem_snoc ho'.out hks'.out (List.nodup_cons.2 ⟨hxS'.out, st.out.st.nodup⟩) (fun a => List.mem_cons) (fun hf => by have := hmk'.out.2 hf; cases this) (fun _ => rfl))
      have h384 := st2.out.len hF'.out
      have st7 := Lib.hid (show SpSt D (fun k j => ¬ MarkedP D k j) fr w w4 w.heap.size _ (x :: S) T from ⟨st2.out, fun a ha => st.out.i64 a (List.mem_append.2 (.inl ha)), by simp only [List.length_cons]; omega, ⟨_, M3.out, hown4.out⟩, own4.out, w4b.out, Nat.le_refl _⟩)
      clear hgrow3 hown3 b4 hlk x0
      go_wp2_with fail
      go_roundw
      case rel => exact ⟨x :: S, T, st7⟩
      case measure => rw [st7.out.mlen, hml]; simp only [lenV, List.length_cons] at h384 ⊢; omega
    case true =>
      go_wp2_with (first
        | (at_lookup; refine lookup_place _ rfl rfl _ _ rfl gv n Mv rfl hvr.out.own _ _ rfl hkey.out true h1.out (k : Int) (j : Int) h2.out ?_)
        | (at_mapUpdate; refine wpList_mapUpdate_own _ rfl _ _ _ 75 rfl 3 4 mapLaw Tryz.underlying75 boolElem w.heap.size S.length M rfl hOM2.out (by unfold maxLen; omega) _ _ (.int .i64 x) rfl rfl hkey.out (flag true) [] (boolElem_mk true) ?_; intro w3 hown3 hgrow3; have y0 := World.grownBy.cell hgrow3 (cell_of_heap bx2.out 0 (.int .i64 k) rfl) hne.out; have y1 := World.grownBy.cell hgrow3 (cell_of_heap bx2.out 1 (.int .i64 j) rfl) hne.out)
        | (go_at_call 187; refine (hfoll.out _ ?_).mono ?_; (exact World.below_none hgrow3 hw.out bb2.out (Nat.le_refl _)); rintro e w4 ⟨rfl, b4⟩))
      have M3 := Lib.hid (hM'.out.put x)
      have own3 := Lib.hid ((htail'.out.alloc (.cells #[.int .i64 k, .int .i64 j] 69)).kept hgrow3 (.inr hne2.out))
      have w3b := Lib.hid (show Below w.heap.size w w3 from Below.grown (below_trans hw.out bb2.out) hgrow3 (by have := hw.out.size; have := bb2.out.size; omega) (fun q hq => by cases hq; exact Nat.le_refl _))
      have w4b := Lib.hid (below_trans w3b.out b4)
      have own4 := Lib.hid (own_below own3.out b4)
      have hown4 := Lib.hid (show OwnB w4 w.heap.size (S.length + 1) _ from OwnB.below hown3 b4)
      have D0 := cell_below w4b.out c00.out
      have Y0 := cell_below b4 y0
      have Y1 := cell_below b4 y1
      have hl16 := obj_ptrs hF'.out ho'.out hks'.out
      clear c0 c1 y0 y1 hgrow3 hown3 b4 hlk x0
      have st2 := Lib.hid (st.out.st.put (S' := x :: S) (T'' := T ++ ptrW D s j) hF'.out mem_snoc ho'.out hks'.out (List.nodup_cons.2 ⟨hxS'.out, st.out.st.nodup⟩) (fun a => List.mem_cons) (fun _ b _ => List.mem_append) (fun hn => absurd (hmk'.out.1 (by simp)) hn))
      have hi64 := Lib.hid (show AllI (T ++ ptrW D s j) from fun a ha => (List.mem_append.1 ha).elim (fun h => st.out.i64 a (List.mem_append.2 (.inl h))) (ptrW_i64 hI'.out s j a))
      have hle4 := Lib.hid w4b.out.size
      clear st
      generalize ptrW D s j = Z at *
      go_region_law (first
        | (refine step_own rfl (wp_app (.tmp 50) (.tmp 56) 23 rfl w.heap.size 3 (.int .i64 0) 1 8 Tryz.underlying23 infoInt rfl (by decide) _ T.length _ rfl own6.out A Z.length c (Z.map (Value.int .i64)) rfl src6.out (by unfold maxLen; omega) (by omega) hle6.out ?_); intro v7 w7 o7 g7)
        | (go_simp; go_wp2_with (go_at_call 116; refine (hpw.out _ ?_).mono ?_; (first | exact w4b.out | exact below_drewN w4b.out 1 | exact below_drewN w4b.out 2); rintro e w6 ⟨A, c, rfl, hrd, h16, b6⟩; have b66 := Lib.hid (show Below w4.heap.size w4 w6 from ⟨b6.os, b6.tape, b6.output, b6.size, b6.block⟩); have src6 := Lib.hid (Rd.src hrd); have own6 := Lib.hid (own_below own4.out b66.out); have hle6 := Lib.hid (Nat.le_trans hle4.out b66.out.size); clear hrd b6)))
      all_goals
        obtain ⟨a7, c7, hv7⟩ := own_slice o7
        subst hv7
        have st7 := Lib.hid (show SpSt D (fun k j => ¬ MarkedP D k j) fr w w7 w.heap.size _ (x :: S) (T ++ Z) from ⟨st2.out, hi64.out, by simp only [List.length_append, List.length_cons]; omega, ⟨_, M3.out, World.ownsMap.kept (OwnB.below hown4.out b66.out) g7 (fun e => hown4.out.ne_row own4.out e.symm)⟩, by simpa using o7, (below_trans w4b.out b66.out).grown g7 hle6.out (fun q hq => (own6.out.lt q hq).1), Nat.le_refl _⟩)
        have h384 := st2.out.len hF'.out
        clear o7 g7
        go_simp
        go_wp2_with fail
        go_roundw
        case rel => exact ⟨x :: S, T ++ Z, st7⟩
        case measure => rw [st7.out.mlen, hml]; simp only [lenV, List.length_cons] at h384 ⊢; omega
end Go.Proofs.YtdhiablpobnhcaaGreat
