import Derived.Test.YtdhiablpobnhcaaGreatPkG
import Derived.Test.YtdhiablpobnhcaaGreatPkN
import Derived.Test.YtdhiablpobnhcaaGreatPkR

/-
  The contract of the program's view.shade.
-/
namespace Go.Proofs.YtdhiablpobnhcaaGreat
open Go.RowKit
open Go.Maps (Keyed)
set_option linter.unusedVariables false
set_option linter.unusedSimpArgs false

set_option maxRecDepth 100000 in
set_option maxHeartbeats 4000000 in
theorem ishade_any (base B V g n : Nat) (M : DataW Unit) (S : Shape) (D : WD) (addr : Int) (hF : HeapForm D) (ha : I64 addr) (hgl : D.grey.length ≤ 1048576) (w : World) (h : VarW w base B S D) (hv : ViewIs D w V B g n M) (hVB : V ∉ B :: blks S.all) :
    Calls Tryz.prog 82 #[.pointer (some ⟨V, 0, none⟩), .int .i64 addr] w fun e w' => e = .returned (.tuple #[]) ∧ (∃ S' E, ShadeIs D addr E ∧ VarW w' base B S' E ∧ Shaded w w' B S S') ∧ Below base w w' := by
  have h' := Lib.hid h
  have hF' := Lib.hid hF
  have hv' := Lib.hid hv
  have hgl' := Lib.hid hgl
  have hVB' := Lib.hid hVB
  have hVlt := Lib.hid (show V < w.heap.size from (Array.getElem?_eq_some_iff.1 hv.box).1)
  have hle := Lib.hid (Nat.le_of_lt (Nat.lt_of_le_of_lt h.le h.lt))
  have hkey := Lib.hid (key_i64 ha)
  have c0 := cell_of_heap hv.box 0 (.pointer (some ⟨B, 0, none⟩)) rfl
  have c1 := cell_of_heap hv.box 1 (.map (some g)) rfl
  have c6 := h.cell 6 (.int .i64 D.phase) rfl
  clear hF hv ha h hgl hVB
  by_cases hh : ∃ k j, IsObj D addr k j
  case neg =>
    have h1 := Lib.hid (show Maps.has M (.int .i64 addr) = false from by
      cases h : Maps.has M (.int .i64 addr)
      · rfl
      · obtain ⟨k, j, _, ho⟩ := (hv'.out.is.has addr).1 h
        exact absurd ⟨k, j, ho⟩ hh)
    have h2 := Lib.hid (show M.atKey (.int .i64 addr) (dat 0 0) = dat 0 0 from Maps.atKey_of_not_has h1.out _)
    have y := Lib.hid (show ShadeIs D addr D from .inr ⟨fun _ k j h => absurd ⟨k, j, h⟩ hh, rfl⟩)
    have bb' := Lib.hid (below_box w (.cells #[.int .i64 0, .int .i64 0] 69))
    clear hh c6
    go_enter Tryz.func82, Tryz.ntmps82
    go_wp2_with (at_lookup; refine lookup_place _ rfl rfl _ _ rfl g n M rfl hv'.out.own _ _ rfl hkey.out false h1.out 0 0 h2.out ?_)
    go_upto_region 1 with fail
    clear c0 c1
    generalize w.alloc (.cells #[.int .i64 0, .int .i64 0] 69) = W at *
    refine wp_region_ext (Below.refl _ _) (by kernel_rfl) (by kernel_rfl) ?_
    repeat (go_big_quiet_step ((fail)))
    refine wpQuiet_nil ?_
    intro _ hw'
    obtain ⟨x9, hw''⟩ := hw'
    subst hw''
    go_wp2_with fail
    refine bodyPost_ret (v := .tuple #[]) (by simp [results, Tryz.results82, go_sem]) rfl ?_
    have b9 := below_trans bb'.out x9.below
    exact ⟨rfl, ⟨_, _, y.out, h'.out.below b9, .of_below _ _ b9⟩, b9.mono hle.out⟩
  obtain ⟨k, j, ho⟩ := hh
  obtain ⟨s, hks, hin, p0, p1⟩ := obj_slot hF'.out ho
  have hk := Lib.hid (show Ahead D.spans.length 0 k j from .inl (List.getElem?_eq_some_iff.1 hks).1)
  have h1 := Lib.hid ((hv'.out.is.has addr).2 ⟨k, j, hk.out, ho⟩)
  have h2 := Lib.hid (hv'.out.is.is addr k j (dat 0 0) hk.out ho)
  have hks' := Lib.hid hks
  have ho' := Lib.hid ho
  obtain ⟨mk, hmk⟩ := flag_of (MarkedP D k j)
  have hmk' := Lib.hid hmk
  have hcall := Lib.hid (fun (w' : World) (hb : Below w.heap.size w w') => (imarked_any B _ D k j s hks (SlotIn.mk16 hF'.out hks hin.j) w' (h'.out.below hb).rd (h'.out.below hb).boxW).mono fun e w'' ⟨h1, h2⟩ => (⟨h1.at_ mk hmk, h2⟩ : e = Ending.returned (.bool mk) ∧ Below w'.heap.size w' w''))
  have hj16 := Lib.hid (mark_range hF'.out hks hin.j)
  obtain ⟨pb, hpb⟩ : ∃ pb, inB D.phase 1 2 = pb := ⟨_, rfl⟩
  have his := Lib.hid (fun (w : World) => isIn_eq hpb w)
  have hpb' := Lib.hid hpb
  have hkl1 : (k : Int) < (D.spans.length : Int) := by have := (List.getElem?_eq_some_iff.1 hks).1; omega
  have bb := below_box w (.cells #[.int .i64 k, .int .i64 j] 69)
  have bx := box_new w (.cells #[.int .i64 k, .int .i64 j] 69)
  have d0 := Lib.hid (cell_below bb c0)
  have d6 := Lib.hid (cell_below bb c6)
  have q0 := Lib.hid (cell_of_heap bx 0 (.int .i64 k) rfl)
  have q1 := Lib.hid (cell_of_heap bx 1 (.int .i64 j) rfl)
  have bb' := Lib.hid bb
  have hWs := Lib.hid (show w.heap.size + 1 ≤ (w.alloc (.cells #[.int .i64 k, .int .i64 j] 69)).heap.size by simp)
  clear ho hks hin p0 p1 bb bx hmk c6 hpb
  go_enter Tryz.func82, Tryz.ntmps82
  go_wp2_with (at_lookup; refine lookup_place _ rfl rfl _ _ rfl g n M rfl hv'.out.own _ _ rfl hkey.out true h1.out (k : Int) (j : Int) h2.out ?_)
  go_upto_region 1 with fail
  clear c0 c1
  generalize w.alloc (.cells #[.int .i64 k, .int .i64 j] 69) = W at *
  have D0 := Ext.cell d0.out
  have Q0 := Ext.cell q0.out
  have Q1 := Ext.cell q1.out
  have D6 := Ext.cell d6.out
  cases mk
  case true =>
    have y := Lib.hid (show ShadeIs D addr D from .inr ⟨fun _ k' j' h => by obtain ⟨rfl, rfl⟩ := ho'.out.unique hF'.out h; exact hmk'.out.1 rfl, rfl⟩)
    refine wp_region_ext (Below.refl _ _) (by kernel_rfl) (by kernel_rfl) ?_
    repeat (go_big_quiet_step ((go_at_call 151; exact Ext.call (hcall.out _ (below_trans bb'.out (Ext.below _))))))
    refine wpQuiet_nil ?_
    intro _ hw'
    obtain ⟨x9, hw''⟩ := hw'
    subst hw''
    go_wp2_with fail
    refine bodyPost_ret (v := .tuple #[]) (by simp [results, Tryz.results82, go_sem]) rfl ?_
    have b9 := below_trans bb'.out x9.below
    exact ⟨rfl, ⟨_, _, y.out, h'.out.below b9, .of_below _ _ b9⟩, b9.mono hle.out⟩
  cases pb
  case false =>
    have y := Lib.hid (show ShadeIs D addr D from .inr ⟨fun hp => absurd hpb'.out (by rw [inB_yes (by omega) (by omega)]; decide), rfl⟩)
    refine wp_region_ext (Below.refl _ _) (by kernel_rfl) (by kernel_rfl) ?_
    repeat (go_big_quiet_step ((first | (go_at_call 151; exact Ext.call (hcall.out _ (below_trans bb'.out (Ext.below _)))) | (go_at_call 60; exact Ext.same (his.out _)))))
    refine wpQuiet_nil ?_
    intro _ hw'
    obtain ⟨x9, hw''⟩ := hw'
    subst hw''
    go_wp2_with fail
    refine bodyPost_ret (v := .tuple #[]) (by simp [results, Tryz.results82, go_sem]) rfl ?_
    have b9 := below_trans bb'.out x9.below
    exact ⟨rfl, ⟨_, _, y.out, h'.out.below b9, .of_below _ _ b9⟩, b9.mono hle.out⟩
  have y := Lib.hid (show ShadeIs D addr (shadeD D addr k j s) from .inl ⟨k, j, s, by have := inB_iff.1 hpb'.out; omega, ho'.out, hks'.out, (fun hb => absurd (hmk'.out.2 ((MarkedP.iff hks'.out).2 hb)) (by decide)), rfl⟩)
  refine wp_region_ext (Below.refl _ _) (by kernel_rfl) (by kernel_rfl) ?_
  repeat (go_big_quiet_step ((first | (go_at_call 151; exact Ext.call (hcall.out _ (below_trans bb'.out (Ext.below _)))) | (go_at_call 60; exact Ext.same (his.out _)))))
  refine wpQuiet_nil ?_
  intro _ hw'
  obtain ⟨x9, hw''⟩ := hw'
  subst hw''
  have Z2 := Lib.hid (below_trans bb'.out x9.below)
  have e0 := Q0 x9
  have e1 := Q1 x9
  have e2 := D0 x9
  have hW2 := Lib.hid (Nat.le_trans hWs.out x9.size)
  clear D0 Q0 Q1 D6 hcall his d0 d6 q0 q1 hmk' hpb' ho' bb' hWs
  generalize x9.val = w2 at *
  have v2 := Lib.hid (h'.out.below Z2.out)
  have B2 := Lib.hid (Z2.out.mono hle.out)
  obtain ⟨p, hp⟩ := v2.out.svAt hks'.out
  obtain ⟨gs, cs, hgs⟩ := v2.out.headS (by omega)
  have g4 := v2.out.cell 4 S.vs rfl
  rw [hgs] at g4
  have x2 := (v2.out.six hgs hks'.out hp).2.2.1
  have f2 := v2.out.frzS hgs (k * 6 + 2)
  have hmx := v2.out.rd.parts.2.2.1
  obtain ⟨_, _, _, hsm, _⟩ := hmx
  unfold maxLen at hsm
  have hmb := Lib.hid (fun w => markBit_any j hj16.out.2.2 w)
  have v3 := v2.out.mark hgs k s p (bits .or .i64 s.mark (2 ^ j)) hks'.out hp
  have V3 := Lib.hid v3.1.drew
  have B3 := Lib.hid (below_drewN (B2.out.trans v3.2) 1)
  have C3 := Lib.hid ((Chg.of_below Z2.out (B :: blks S.all)).trans ((Chg.of_grown (grown_set w2 gs (k * 6 + 2) (.int .i64 (bits .or .i64 s.mark (2 ^ j)))) (bs := B :: blks S.all) (fun x hx => by cases hx; exact List.mem_cons_of_mem _ (List.mem_filterMap.2 ⟨S.vs, by simp [Shape.all], by rw [hgs]; rfl⟩))).trans (Chg.of_below (below_drewN (Below.refl _ _) 1) _)))
  clear hp hgs v3 h2 h1 hk hkey
  go_upto_region 2 with fail
  go_cut [5] (fun q wx => q = .bool true ∧ Hid (VarW wx base B S { D with spans := D.spans.set k { s with mark := bits .or .i64 s.mark (2 ^ j) } }) ∧ Hid (Below base w wx) ∧ Hid (Chg (B :: blks S.all) w wx))
  case first =>
    have h0 : (fun w' => w'.cell? ⟨V, 0, none⟩ = some (.pointer (some ⟨B, 0, none⟩)) ∧ w'.cell? ⟨B, 4, none⟩ = some (.slice (some ⟨gs, 0, none⟩) D.spans.length cs) ∧ w'.cell? ⟨w.heap.size, 0, none⟩ = some (.int .i64 (k : Int)) ∧ w'.cell? ⟨w.heap.size, 1, none⟩ = some (.int .i64 (j : Int)) ∧ w'.cell? ⟨gs, k * 6 + 2, none⟩ = some (.int .i64 s.mark)) w2.drew := ⟨e2, g4, e0, e1, x2⟩
    refine wp_region_late (fun w' => w'.cell? ⟨V, 0, none⟩ = some (.pointer (some ⟨B, 0, none⟩)) ∧ w'.cell? ⟨B, 4, none⟩ = some (.slice (some ⟨gs, 0, none⟩) D.spans.length cs) ∧ w'.cell? ⟨w.heap.size, 0, none⟩ = some (.int .i64 (k : Int)) ∧ w'.cell? ⟨w.heap.size, 1, none⟩ = some (.int .i64 (j : Int)) ∧ w'.cell? ⟨gs, k * 6 + 2, none⟩ = some (.int .i64 s.mark)) (fun j => j == 18) (by kernel_rfl) ?_
    refine wpLate_free (i := 0) (v := ?vq1) rfl (by kernel_rfl) (by kernel_rfl) (by kernel_rfl) rfl (fun _ _ _ h => h) (Or.inl ⟨by rfl, ?hyq1⟩) (fun _ => h0) ?restq1
    case hyq1 => (intro w _; go_simp; try with_reducible rfl)
    try simp only [Act.put, List.setIfInBounds_toArray, List.set_cons_zero, List.set_cons_succ]
    refine wpLate_free (i := 1) (v := ?vq2) rfl (by kernel_rfl) (by kernel_rfl) (by kernel_rfl) rfl (fun _ _ _ h => h) (Or.inl ⟨by rfl, ?hyq2⟩) (fun _ => h0) ?restq2
    case hyq2 => (intro w _; go_simp; try with_reducible rfl)
    try simp only [Act.put, List.setIfInBounds_toArray, List.set_cons_zero, List.set_cons_succ]
    refine wpLate_free (i := 2) (v := ?vq3) rfl (by kernel_rfl) (by kernel_rfl) (by kernel_rfl) rfl (fun _ _ _ h => h) (Or.inl ⟨by rfl, ?hyq3⟩) (fun _ => h0) ?restq3
    case hyq3 => (intro w _; go_simp; try with_reducible rfl)
    try simp only [Act.put, List.setIfInBounds_toArray, List.set_cons_zero, List.set_cons_succ]
    refine wpLate_take (i := 3) (v := ?vq4) rfl (by kernel_rfl) (by kernel_rfl) (by kernel_rfl) (by kernel_rfl) (fun j hj => by simp at hj; subst hj; kernel_rfl) (fun _ _ _ h => h) (Or.inl ⟨by rfl, ?hyq4⟩) (by exact h0) ?restq4
    case hyq4 => (intro w hSw; (try dsimp only at hSw); obtain ⟨s0, s1, s2, s3, s4⟩ := hSw; go_simp; try with_reducible rfl)
    try simp only [Act.put, List.setIfInBounds_toArray, List.set_cons_zero, List.set_cons_succ]
    refine wpLate_free (i := 4) (v := ?vq5) rfl (by kernel_rfl) (by kernel_rfl) (by kernel_rfl) rfl (fun _ _ _ h => h) (Or.inl ⟨by rfl, ?hyq5⟩) (fun _ => h0) ?restq5
    case hyq5 => (intro w _; go_simp; try with_reducible rfl)
    try simp only [Act.put, List.setIfInBounds_toArray, List.set_cons_zero, List.set_cons_succ]
    refine wpLate_free (i := 5) (v := ?vq6) rfl (by kernel_rfl) (by kernel_rfl) (by kernel_rfl) rfl (fun _ _ _ h => h) (Or.inl ⟨by rfl, ?hyq6⟩) (fun _ => h0) ?restq6
    case hyq6 => (intro w _; go_simp; try with_reducible rfl)
    try simp only [Act.put, List.setIfInBounds_toArray, List.set_cons_zero, List.set_cons_succ]
    refine wpLate_take (i := 6) (v := ?vq7) rfl (by kernel_rfl) (by kernel_rfl) (by kernel_rfl) (by kernel_rfl) (fun j hj => by simp at hj; subst hj; kernel_rfl) (fun _ _ _ h => h) (Or.inl ⟨by rfl, ?hyq7⟩) (by exact h0) ?restq7
    case hyq7 => (intro w hSw; (try dsimp only at hSw); obtain ⟨s0, s1, s2, s3, s4⟩ := hSw; go_simp; try with_reducible rfl)
    try simp only [Act.put, List.setIfInBounds_toArray, List.set_cons_zero, List.set_cons_succ]
    refine wpLate_free (i := 7) (v := ?vq8) rfl (by kernel_rfl) (by kernel_rfl) (by kernel_rfl) rfl (fun _ _ _ h => h) (Or.inl ⟨by rfl, ?hyq8⟩) (fun _ => h0) ?restq8
    case hyq8 => (intro w _; go_simp; try with_reducible rfl)
    try simp only [Act.put, List.setIfInBounds_toArray, List.set_cons_zero, List.set_cons_succ]
    refine wpLate_take (i := 8) (v := ?vq9) rfl (by kernel_rfl) (by kernel_rfl) (by kernel_rfl) (by kernel_rfl) (fun j hj => by simp at hj; subst hj; kernel_rfl) (fun _ _ _ h => h) (Or.inl ⟨by rfl, ?hyq9⟩) (by exact h0) ?restq9
    case hyq9 => (intro w hSw; (try dsimp only at hSw); obtain ⟨s0, s1, s2, s3, s4⟩ := hSw; go_simp; try with_reducible rfl)
    try simp only [Act.put, List.setIfInBounds_toArray, List.set_cons_zero, List.set_cons_succ]
    refine wpLate_free (i := 9) (v := ?vq10) rfl (by kernel_rfl) (by kernel_rfl) (by kernel_rfl) rfl (fun _ _ _ h => h) (Or.inl ⟨by rfl, ?hyq10⟩) (fun _ => h0) ?restq10
    case hyq10 => (intro w _; go_simp; try with_reducible rfl)
    try simp only [Act.put, List.setIfInBounds_toArray, List.set_cons_zero, List.set_cons_succ]
    refine wpLate_free (i := 10) (v := ?vq11) rfl (by kernel_rfl) (by kernel_rfl) (by kernel_rfl) rfl (fun _ _ _ h => h) (Or.inl ⟨by rfl, ?hyq11⟩) (fun _ => h0) ?restq11
    case hyq11 => (intro w _; go_simp; try with_reducible rfl)
    try simp only [Act.put, List.setIfInBounds_toArray, List.set_cons_zero, List.set_cons_succ]
    refine wpLate_take (i := 11) (v := ?vq12) rfl (by kernel_rfl) (by kernel_rfl) (by kernel_rfl) (by kernel_rfl) (fun j hj => by simp at hj; subst hj; kernel_rfl) (fun _ _ _ h => h) (Or.inl ⟨by rfl, ?hyq12⟩) (by exact h0) ?restq12
    case hyq12 => (intro w hSw; (try dsimp only at hSw); obtain ⟨s0, s1, s2, s3, s4⟩ := hSw; go_simp; try with_reducible rfl)
    try simp only [Act.put, List.setIfInBounds_toArray, List.set_cons_zero, List.set_cons_succ]
    refine wpLate_free (i := 12) (v := ?vq13) rfl (by kernel_rfl) (by kernel_rfl) (by kernel_rfl) rfl (fun _ _ _ h => h) (Or.inl ⟨by rfl, ?hyq13⟩) (fun _ => h0) ?restq13
    case hyq13 => (intro w _; go_simp; try with_reducible rfl)
    try simp only [Act.put, List.setIfInBounds_toArray, List.set_cons_zero, List.set_cons_succ]
    refine wpLate_take (i := 13) (v := ?vq14) rfl (by kernel_rfl) (by kernel_rfl) (by kernel_rfl) (by kernel_rfl) (fun j hj => by simp at hj; subst hj; kernel_rfl) (fun _ _ _ h => h) (Or.inl ⟨by rfl, ?hyq14⟩) (by exact h0) ?restq14
    case hyq14 => (intro w hSw; (try dsimp only at hSw); obtain ⟨s0, s1, s2, s3, s4⟩ := hSw; go_simp; try with_reducible rfl)
    try simp only [Act.put, List.setIfInBounds_toArray, List.set_cons_zero, List.set_cons_succ]
    refine wpLate_all (rs := [14]) (by kernel_rfl) (by simp) ?_
    intro i hi
    simp only [List.mem_cons, List.not_mem_nil, or_false] at hi
    subst hi
    refine wpLate_step (i := 14) rfl (fun K hK => ?_)
    go_simp
    go_wp2_with (go_at_call 152; refine (hmb.out _).mono ?_; rintro e w' ⟨rfl, rfl⟩)
    refine hK.out _ _ (fun _ => h0) ?_
    clear hK K
    try simp only [Act.put, List.setIfInBounds_toArray, List.set_cons_zero, List.set_cons_succ]
    refine wpLate_free (i := 15) (v := ?vq16) rfl (by kernel_rfl) (by kernel_rfl) (by kernel_rfl) rfl (fun _ _ _ h => h) (Or.inl ⟨by rfl, ?hyq16⟩) (fun _ => h0) ?restq16
    case hyq16 => (intro w _; go_simp; try with_reducible rfl)
    try simp only [Act.put, List.setIfInBounds_toArray, List.set_cons_zero, List.set_cons_succ]
    refine wpLate_free (i := 16) (v := ?vq17) rfl (by kernel_rfl) (by kernel_rfl) (by kernel_rfl) rfl (fun _ _ _ h => h) (Or.inl ⟨by rfl, ?hyq17⟩) (fun _ => h0) ?restq17
    case hyq17 => (intro w _; go_simp; try with_reducible rfl)
    try simp only [Act.put, List.setIfInBounds_toArray, List.set_cons_zero, List.set_cons_succ]
    refine wpLate_free (i := 17) (v := ?vq18) rfl (by kernel_rfl) (by kernel_rfl) (by kernel_rfl) rfl (fun _ _ _ h => h) (Or.inl ⟨by rfl, ?hyq18⟩) (fun _ => h0) ?restq18
    case hyq18 => (intro w _; go_simp; try with_reducible rfl)
    try simp only [Act.put, List.setIfInBounds_toArray, List.set_cons_zero, List.set_cons_succ]
    refine wpLate_all (rs := [18]) (by kernel_rfl) (by simp) ?_
    intro i hi
    simp only [List.mem_cons, List.not_mem_nil, or_false] at hi
    subst hi
    refine wpLate_step (i := 18) rfl (fun K hK => ?_)
    go_simp
    refine hK.out _ _ (fun h => Bool.noConfusion ((h 18 (by kernel_rfl)).symm.trans (show _ = true by kernel_rfl))) ?_
    clear hK K
    try simp only [Act.put, List.setIfInBounds_toArray, List.set_cons_zero, List.set_cons_succ]
    refine wpLate_done (by kernel_rfl) ?_ _
    go_wp2_with fail
    go_meet
    exact ⟨rfl, V3, B3, C3⟩
  case rest =>
    obtain ⟨rfl, hv3, hb3, hc3⟩ := hcut
    clear e0 e1 e2 g4 x2 f2 V3 B3 C3 hmb hsm v2 B2 Z2 hW2 hj16 hkl1
    have hV3 := Lib.hid ((hc3.out.block V hVlt.out hVB'.out).trans hv'.out.box)
    have hVne : V ≠ B := fun e => hVB'.out (by rw [e]; exact List.mem_cons_self ..)
    have hV8 := Lib.hid (show V ∉ blks [S.vg] from fun hm => hVB'.out (List.mem_cons_of_mem _ (in_all (by simp [Shape.all]) _ hm)))
    have cV : wc.drew.cell? ⟨V, 0, none⟩ = some (.pointer (some ⟨B, 0, none⟩)) := cell_of_heap hV3.out 0 _ rfl
    have hV3' : Hid (wc.drew.heap[V]? = some (.cells #[.pointer (some ⟨B, 0, none⟩), .map (some g)] 134 (0, 0))) := Lib.hid hV3.out
    have v4 := Lib.hid hv3.out.drew
    have B4' := Lib.hid (below_drewN hb3.out 1)
    have C4' := Lib.hid (hc3.out.trans (Chg.of_below (below_drewN (Below.refl _ wc) 1) _))
    have B4' : Hid (Below base w wc.drew) := Lib.hid B4'.out
    have C4' : Hid (Chg (B :: blks S.all) w wc.drew) := Lib.hid C4'.out
    have hVz := Lib.hid (show V < wc.drew.heap.size from (Array.getElem?_eq_some_iff.1 hV3'.out).1)
    have hown := show wc.drew.ownsRow base 3 1 S.vg D.grey.length (D.grey.map (Value.int .i64)) from v4.out.own.grey
    obtain ⟨ag, cg, hvg⟩ := own_slice hown
    have b8 := v4.out.cell 8 S.vg rfl
    rw [hvg] at b8 hown
    have hown' := Lib.hid hown
    have hgl2 := hgl'.out
    clear hown hv3 hb3 hc3
    go_upto_region 3 with fail
    refine wp_region_lateW (fun w' => w'.cell? ⟨V, 0, none⟩ = some (.pointer (some ⟨B, 0, none⟩)) ∧ w'.cell? ⟨B, 8, none⟩ = some (.slice ag D.grey.length cg)) (fun j => j == 18) (by kernel_rfl) ?_
    intro w3 hw3
    rw [← hw3] at cV b8 v4 B4' C4' hV3' hVz hown'
    clear hw3
    have hbs := Lib.hid (show base ≤ (w3.alloc (.cells #[.int .i64 addr] 3)).heap.size by have := B4'.out.size; have := hle.out; simp; omega)
    have src := Lib.hid (show SrcIs (w3.alloc (.cells #[.int .i64 addr] 3)) (some ⟨w3.heap.size, 0, none⟩) 1 1 ([addr].map (Value.int .i64)) from ⟨rfl, fun j u hu => ⟨_, rfl, cell_one _ _ _ j u hu⟩, by simp [Value.oneCell']⟩)
    have v5 := Lib.hid (v4.out.below (below_box w3 (.cells #[.int .i64 addr] 3)))
    have B5 := Lib.hid (B4'.out.trans ((below_box w3 (.cells #[.int .i64 addr] 3)).mono (by have := B4'.out.size; have := hle.out; omega)))
    have ex := Lib.hid (show ∀ (v : Value) (w6 : World) , w6.ownsRow base 3 1 v (D.grey ++ [addr]).length ((D.grey ++ [addr]).map (Value.int .i64)) → (w3.alloc (.cells #[.int .i64 addr] 3)).grownBy w6 (Value.slice ag D.grey.length cg).ownBlock →
        (∀ q, v.ownBlock = some q → (Value.slice ag D.grey.length cg).ownBlock = some q ∨ (w3.alloc (.cells #[.int .i64 addr] 3)).heap.size ≤ q) →
        (∃ a c, v = .slice a (D.grey.length + 1) c) ∧ w6.cell? ⟨B, 8, none⟩ = some S.vg ∧ w6.frozen? ⟨B, 8, none⟩ = false ∧ w6.cell? ⟨V, 0, none⟩ = some (.pointer (some ⟨B, 0, none⟩)) ∧ (VarW (w6.setCell ⟨B, 8, none⟩ v) base B { S with vg := v } (shadeD D addr k j s) ∧ Shaded w (w6.setCell ⟨B, 8, none⟩ v) B S { S with vg := v }) ∧ Below base w (w6.setCell ⟨B, 8, none⟩ v) from fun v w6 r g f => by
      have hg := v5.out.grow (L := D.grey ++ [addr]) (v := v) (by rw [hvg]; exact g) r (by rw [hvg]; exact f)
      have hch := Chg.of_grown g (bs := blks [S.vg]) fun x hx => List.mem_filterMap.2 ⟨S.vg, by simp, by rw [hvg]; exact hx⟩
      have hb6 := v5.out.keep hch (in_all (by simp [Shape.all]))
      obtain ⟨a, c, e⟩ := own_slice r
      have hsz := C4'.out.size
      have hV6 := (hch.block V (by have := hVz.out; simp; omega) hV8.out).trans (heap_below (below_box w3 (.cells #[.int .i64 addr] 3)) hV3'.out)
      have hc5 : Chg (B :: blks S.all) w (w6.setCell ⟨B, 8, none⟩ v) := ((C4'.out.trans (Chg.of_below (below_box w3 _) _)).trans (Chg.of_grown g (bs := B :: blks S.all) fun x hx => List.mem_cons_of_mem _ (List.mem_filterMap.2 ⟨S.vg, by simp [Shape.all], by rw [hvg]; exact hx⟩))).trans (Chg.of_grown (grown_set w6 B 8 v) (bs := B :: blks S.all) (by simp))
      exact ⟨⟨a, c, by rw [e, List.length_append]; rfl⟩, cell_of_heap hb6 8 S.vg rfl, frozen_of_heap hb6 8, cell_of_heap hV6 0 _ rfl, ⟨hg.1, ⟨v, rfl, fun q hq => (f q hq).imp (fun h => by rw [hvg]; exact h) (fun h => by simp at h; omega)⟩, hc5⟩, B5.out.trans hg.2⟩)
    have hcV5 : (w3.alloc (.cells #[.int .i64 addr] 3)).cell? ⟨V, 0, none⟩ = some (.pointer (some ⟨B, 0, none⟩)) := cell_below (below_box _ _) cV
    have hc85 : (w3.alloc (.cells #[.int .i64 addr] 3)).cell? ⟨B, 8, none⟩ = some (.slice ag D.grey.length cg) := cell_below (below_box _ _) b8
    have h0 : (fun w' => w'.cell? ⟨V, 0, none⟩ = some (.pointer (some ⟨B, 0, none⟩)) ∧ w'.cell? ⟨B, 8, none⟩ = some (.slice ag D.grey.length cg)) w3 := ⟨cV, b8⟩
    have h1 : (fun w' => w'.cell? ⟨V, 0, none⟩ = some (.pointer (some ⟨B, 0, none⟩)) ∧ w'.cell? ⟨B, 8, none⟩ = some (.slice ag D.grey.length cg)) (w3.alloc (.cells #[.int .i64 addr] 3)) := ⟨hcV5, hc85⟩
    clear v4 v5 B4' C4' B5 hks' hV3 hV3' hV8 hVz
    refine wpLate_free (i := 0) (v := ?vq20) rfl (by kernel_rfl) (by kernel_rfl) (by kernel_rfl) rfl (fun _ _ _ h => h) (Or.inl ⟨by rfl, ?hyq20⟩) (fun _ => h0) ?restq20
    case hyq20 => (intro w _; go_simp; try with_reducible rfl)
    try simp only [Act.put, List.setIfInBounds_toArray, List.set_cons_zero, List.set_cons_succ]
    refine wpLate_free (i := 1) (v := ?vq21) rfl (by kernel_rfl) (by kernel_rfl) (by kernel_rfl) rfl (fun _ _ _ h => h) (Or.inl ⟨by rfl, ?hyq21⟩) (fun _ => h0) ?restq21
    case hyq21 => (intro w _; go_simp; try with_reducible rfl)
    try simp only [Act.put, List.setIfInBounds_toArray, List.set_cons_zero, List.set_cons_succ]
    refine wpLate_free (i := 2) (v := ?vq22) rfl (by kernel_rfl) (by kernel_rfl) (by kernel_rfl) rfl (fun _ _ _ h => h) (Or.inl ⟨by rfl, ?hyq22⟩) (fun _ => h0) ?restq22
    case hyq22 => (intro w _; go_simp; try with_reducible rfl)
    try simp only [Act.put, List.setIfInBounds_toArray, List.set_cons_zero, List.set_cons_succ]
    refine wpLate_take (i := 3) (v := ?vq23) rfl (by kernel_rfl) (by kernel_rfl) (by kernel_rfl) (by kernel_rfl) (fun j hj => by simp at hj; subst hj; kernel_rfl) (fun _ _ _ h => h) (Or.inl ⟨by rfl, ?hyq23⟩) (by exact h0) ?restq23
    case hyq23 => (intro w hSw; (try dsimp only at hSw); obtain ⟨s0, s1⟩ := hSw; go_simp; try with_reducible rfl)
    try simp only [Act.put, List.setIfInBounds_toArray, List.set_cons_zero, List.set_cons_succ]
    refine wpLate_free (i := 4) (v := ?vq24) rfl (by kernel_rfl) (by kernel_rfl) (by kernel_rfl) rfl (fun _ _ _ h => h) (Or.inl ⟨by rfl, ?hyq24⟩) (fun _ => h0) ?restq24
    case hyq24 => (intro w _; go_simp; try with_reducible rfl)
    try simp only [Act.put, List.setIfInBounds_toArray, List.set_cons_zero, List.set_cons_succ]
    refine wpLate_free (i := 5) (v := ?vq25) rfl (by kernel_rfl) (by kernel_rfl) (by kernel_rfl) rfl (fun _ _ _ h => h) (Or.inl ⟨by rfl, ?hyq25⟩) (fun _ => h0) ?restq25
    case hyq25 => (intro w _; go_simp; try with_reducible rfl)
    try simp only [Act.put, List.setIfInBounds_toArray, List.set_cons_zero, List.set_cons_succ]
    refine wpLate_free (i := 6) (v := ?vq26) rfl (by kernel_rfl) (by kernel_rfl) (by kernel_rfl) rfl (fun _ _ _ h => h) (Or.inl ⟨by rfl, ?hyq26⟩) (fun _ => h0) ?restq26
    case hyq26 => (intro w _; go_simp; try with_reducible rfl)
    try simp only [Act.put, List.setIfInBounds_toArray, List.set_cons_zero, List.set_cons_succ]
    refine wpLate_take (i := 7) (v := ?vq27) rfl (by kernel_rfl) (by kernel_rfl) (by kernel_rfl) (by kernel_rfl) (fun j hj => by simp at hj; subst hj; kernel_rfl) (fun _ _ _ h => h) (Or.inl ⟨by rfl, ?hyq27⟩) (by exact h0) ?restq27
    case hyq27 => (intro w hSw; (try dsimp only at hSw); obtain ⟨s0, s1⟩ := hSw; go_simp; try with_reducible rfl)
    try simp only [Act.put, List.setIfInBounds_toArray, List.set_cons_zero, List.set_cons_succ]
    refine wpLate_free (i := 8) (v := ?vq28) rfl (by kernel_rfl) (by kernel_rfl) (by kernel_rfl) rfl (fun _ _ _ h => h) (Or.inl ⟨by rfl, ?hyq28⟩) (fun _ => h0) ?restq28
    case hyq28 => (intro w _; go_simp; try with_reducible rfl)
    try simp only [Act.put, List.setIfInBounds_toArray, List.set_cons_zero, List.set_cons_succ]
    refine wpLate_free (i := 9) (v := ?vq29) rfl (by kernel_rfl) (by kernel_rfl) (by kernel_rfl) rfl (fun _ _ _ h => h) (Or.inl ⟨by rfl, ?hyq29⟩) (fun _ => h0) ?restq29
    case hyq29 => (intro w _; go_simp; try with_reducible rfl)
    try simp only [Act.put, List.setIfInBounds_toArray, List.set_cons_zero, List.set_cons_succ]
    refine wpLate_free (i := 10) (v := ?vq30) rfl (by kernel_rfl) (by kernel_rfl) (by kernel_rfl) rfl (fun _ _ _ h => h) (Or.inl ⟨by rfl, ?hyq30⟩) (fun _ => h0) ?restq30
    case hyq30 => (intro w _; go_simp; try with_reducible rfl)
    try simp only [Act.put, List.setIfInBounds_toArray, List.set_cons_zero, List.set_cons_succ]
    refine wpLate_take (i := 11) (v := ?vq31) rfl (by kernel_rfl) (by kernel_rfl) (by kernel_rfl) (by kernel_rfl) (fun j hj => by simp at hj; subst hj; kernel_rfl) (fun _ _ _ h => h) (Or.inl ⟨by rfl, ?hyq31⟩) (by exact h0) ?restq31
    case hyq31 => (intro w hSw; (try dsimp only at hSw); obtain ⟨s0, s1⟩ := hSw; go_simp; try with_reducible rfl)
    try simp only [Act.put, List.setIfInBounds_toArray, List.set_cons_zero, List.set_cons_succ]
    refine wpLate_free (i := 12) (v := ?vq32) rfl (by kernel_rfl) (by kernel_rfl) (by kernel_rfl) rfl (fun _ _ _ h => h) (Or.inl ⟨by rfl, ?hyq32⟩) (fun _ => h0) ?restq32
    case hyq32 => (intro w _; go_simp; try with_reducible rfl)
    try simp only [Act.put, List.setIfInBounds_toArray, List.set_cons_zero, List.set_cons_succ]
    refine wpLate_all (rs := [13]) (by kernel_rfl) (by simp) ?_
    intro i hi
    simp only [List.mem_cons, List.not_mem_nil, or_false] at hi
    subst hi
    refine wpLate_step (i := 13) rfl (fun K hK => ?_)
    go_simp
    refine hK.out _ _ (fun _ => h1) ?_
    clear hK K
    try simp only [Act.put, List.setIfInBounds_toArray, List.set_cons_zero, List.set_cons_succ]
    refine wpLate_all (rs := [14]) (by kernel_rfl) (by simp) ?_
    intro i hi
    simp only [List.mem_cons, List.not_mem_nil, or_false] at hi
    subst hi
    refine wpLate_step (i := 14) rfl (fun K hK => ?_)
    refine step_own rfl (wp_appF (.tmp 66) (.tmp 68) rfl rfl (hown'.out.alloc _) ⟨w3.heap.size, 0, none⟩ 1 1 [addr] rfl rfl src.out (by omega) hbs.out ?_); intro v6 w6 q6 g6 f6; obtain ⟨⟨a6, c6, rfl⟩, b6, z6, cV6, hv6⟩ := ex.out _ _ q6 g6 f6; have hv := Lib.hid hv6; rw [hvg] at b6; clear q6 g6 f6 hv6 ex
    refine hK.out _ _ (fun _ => ⟨cV6, b6⟩) ?_
    clear hK K
    try simp only [Act.put, List.setIfInBounds_toArray, List.set_cons_zero, List.set_cons_succ]
    refine wpLate_free (i := 15) (v := ?vq35) rfl (by kernel_rfl) (by kernel_rfl) (by kernel_rfl) rfl (fun _ _ _ h => h) (Or.inl ⟨by rfl, ?hyq35⟩) (fun _ => ⟨cV6, b6⟩) ?restq35
    case hyq35 => (intro w _; go_simp; try with_reducible rfl)
    try simp only [Act.put, List.setIfInBounds_toArray, List.set_cons_zero, List.set_cons_succ]
    refine wpLate_free (i := 16) (v := ?vq36) rfl (by kernel_rfl) (by kernel_rfl) (by kernel_rfl) rfl (fun _ _ _ h => h) (Or.inl ⟨by rfl, ?hyq36⟩) (fun _ => ⟨cV6, b6⟩) ?restq36
    case hyq36 => (intro w _; go_simp; try with_reducible rfl)
    try simp only [Act.put, List.setIfInBounds_toArray, List.set_cons_zero, List.set_cons_succ]
    refine wpLate_free (i := 17) (v := ?vq37) rfl (by kernel_rfl) (by kernel_rfl) (by kernel_rfl) rfl (fun _ _ _ h => h) (Or.inl ⟨by rfl, ?hyq37⟩) (fun _ => ⟨cV6, b6⟩) ?restq37
    case hyq37 => (intro w _; go_simp; try with_reducible rfl)
    try simp only [Act.put, List.setIfInBounds_toArray, List.set_cons_zero, List.set_cons_succ]
    refine wpLate_all (rs := [18]) (by kernel_rfl) (by simp) ?_
    intro i hi
    simp only [List.mem_cons, List.not_mem_nil, or_false] at hi
    subst hi
    refine wpLate_step (i := 18) rfl (fun K hK => ?_)
    go_simp
    refine hK.out _ _ (fun h => Bool.noConfusion ((h 18 (by kernel_rfl)).symm.trans (show _ = true by kernel_rfl))) ?_
    clear hK K
    try simp only [Act.put, List.setIfInBounds_toArray, List.set_cons_zero, List.set_cons_succ]
    refine wpLate_done (by kernel_rfl) ?_ _
    go_wp2_with fail
    go_end0
    exact ⟨rfl, ⟨_, _, y.out, hv.out.1.1, hv.out.1.2⟩, hv.out.2⟩
end Go.Proofs.YtdhiablpobnhcaaGreat
