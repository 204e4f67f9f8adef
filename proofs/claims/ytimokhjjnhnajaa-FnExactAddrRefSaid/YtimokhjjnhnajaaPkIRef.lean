import Derived.Test.YtimokhjjnhnajaaPkRefD
import Derived.Test.YtimokhjjnhnajaaPkP

/-
  The program's refOf, RefOf, isUsed, addrOfRef, AddrRef.
-/
namespace Go.Proofs.Ytimokhjjnhnajaa
open Go.RowKit
open Go.Maps (Keyed)
set_option linter.unusedVariables false

set_option maxRecDepth 100000 in
set_option maxHeartbeats 4000000 in
theorem irefOf_at (V B g n : Nat) (M : DataW Unit) (D : WD) (hF : HeapForm D) (addr : Int) (ha : I64 addr) (w : World) (hv : ViewIs D w V B g n M) :
    Calls Try.prog 26 #[.pointer (some ⟨V, 0, none⟩), .int .i64 addr] w fun e w' => (∃ r : Int, e = .returned (.int .i64 r) ∧ RefV D addr r) ∧ Below w.heap.size w w' := by
  have hF' := Lib.hid hF
  have hv' := Lib.hid hv
  have hkey := Lib.hid (key_i64 ha)
  have c0 := cell_of_heap hv.box 0 (.pointer (some ⟨B, 0, none⟩)) rfl
  have c1 := cell_of_heap hv.box 1 (.map (some g)) rfl
  clear hF hv ha
  by_cases h0 : addr = 0
  · subst h0
    clear hkey
    go_enter Try.func26, Try.ntmps26
    go_wp2_with fail
    go_ret
    exact ⟨⟨_, rfl, RefV.zero D⟩, Below.refl _ _⟩
  have h0' := Lib.hid h0
  have hb : (addr == 0) = false := beq_eq_false_iff_ne.2 h0
  clear h0
  by_cases hh : ∃ k j, IsObj D addr k j
  · obtain ⟨k, j, ho⟩ := hh
    have hs := obj_small hF'.out ho
    have hk := Lib.hid (show Ahead D.spans.length 0 k j from .inl (ho.elim fun s hs => (List.getElem?_eq_some_iff.1 hs.1).1))
    have h1 := Lib.hid ((hv'.out.is.has addr).2 ⟨k, j, hk.out, ho⟩)
    have h2 := Lib.hid (hv'.out.is.is addr k j (dat 0 0) hk.out ho)
    have y := Lib.hid (RefV.obj h0'.out ho)
    have bb := Lib.hid (below_box w (.cells #[.int .i64 k, .int .i64 j] 84))
    clear ho
    go_enter Try.func26, Try.ntmps26
    go_wp2_with (at_lookup; refine lookup_place _ rfl rfl _ _ rfl g n M rfl hv'.out.own _ _ rfl hkey.out true h1.out (k : Int) (j : Int) h2.out ?_)
    go_ret
    exact ⟨⟨_, rfl, y.out⟩, bb.out⟩
  · have h1 := Lib.hid (show Maps.has M (.int .i64 addr) = false from by
      cases h : Maps.has M (.int .i64 addr)
      · rfl
      · obtain ⟨k, j, _, ho⟩ := (hv'.out.is.has addr).1 h
        exact absurd ⟨k, j, ho⟩ hh)
    have h2 := Lib.hid (show M.atKey (.int .i64 addr) (dat 0 0) = dat 0 0 from Maps.atKey_of_not_has h1.out _)
    have y := Lib.hid (RefV.none h0'.out (fun k j h => hh ⟨k, j, h⟩))
    clear hh
    go_enter Try.func26, Try.ntmps26
    go_wp2_with (at_lookup; refine lookup_place _ rfl rfl _ _ rfl g n M rfl hv'.out.own _ _ rfl hkey.out false h1.out 0 0 h2.out ?_)
    go_ret
    exact ⟨⟨_, rfl, y.out⟩, below_box _ _⟩

set_option maxRecDepth 100000 in
set_option maxHeartbeats 4000000 in
theorem irefOf_any (v : Value) (D : WD) (hm : MarksIn D) (addr : Int) (ha : I64 addr) (w : World) (hr : RdW w v D) :
    Calls Try.prog 8 #[v, .int .i64 addr] w fun e w' => RefIs D addr e ∧ Below w.heap.size w w' := by
  have hm' := Lib.hid hm
  have ha' := Lib.hid ha
  clear hm ha
  obtain ⟨vw, vd, vs, vm, vg, rfl, a1, a2, a3, a4, a5⟩ := hr
  have bx := box_new w (.cells #[.int .i64 D.base, .int .i64 D.pages, vw, vd, vs, vm, .int .i64 D.phase, .int .i64 D.next, vg] 36)
  have bw := below_box w (.cells #[.int .i64 D.base, .int .i64 D.pages, vw, vd, vs, vm, .int .i64 D.phase, .int .i64 D.next, vg] 36)
  have hW := Lib.hid (show RdW (w.alloc (.cells #[.int .i64 D.base, .int .i64 D.pages, vw, vd, vs, vm, .int .i64 D.phase, .int .i64 D.next, vg] 36)) (.agg #[.int .i64 D.base, .int .i64 D.pages, vw, vd, vs, vm, .int .i64 D.phase, .int .i64 D.next, vg]) D from ⟨vw, vd, vs, vm, vg, rfl, a1.below bw, a2.below bw, a3.below bw, a4.below bw, a5.below bw⟩)
  have hBx := Lib.hid (show BoxW (w.alloc (.cells #[.int .i64 D.base, .int .i64 D.pages, vw, vd, vs, vm, .int .i64 D.phase, .int .i64 D.next, vg] 36)) w.heap.size (.agg #[.int .i64 D.base, .int .i64 D.pages, vw, vd, vs, vm, .int .i64 D.phase, .int .i64 D.next, vg]) from ⟨_, rfl, bx⟩)
  have bw' := Lib.hid bw
  clear a1 a2 a3 a4 a5 bx bw
  go_enter Try.func8, Try.ntmps8
  go_wp2_with fail
  refine (formOkI_any _ D hm'.out _ hW.out).mono ?_
  rintro e w1 ⟨hq, b1⟩
  have hq := hq.elim
  obtain ⟨x1, rfl⟩ := Ext.of b1
  clear b1
  generalize w.alloc (.cells #[.int .i64 D.base, .int .i64 D.pages, vw, vd, vs, vm, .int .i64 D.phase, .int .i64 D.next, vg] 36) = W at *
  rcases hq with ⟨hF, rfl⟩ | ⟨hF, rfl⟩
  case inr =>
    have n := Lib.hid (RefIs.no (addr := addr) hF)
    clear hF
    go_wp2_with fail
    go_ret
    exact ⟨n.out, below_trans bw'.out x1.below⟩
  have hF' := Lib.hid hF
  have hcall := Lib.hid (viewOf_any w.heap.size _ D hF x1.val (hW.out.below x1.below) (hBx.out.below x1.below))
  clear hF
  go_wp2_with fail
  refine hcall.out.mono ?_
  rintro e w2 ⟨V, g, n, M, rfl, hv, b2⟩
  have hp := Lib.hid (irefOf_at V w.heap.size g n M D hF'.out addr ha'.out w2 hv)
  have b2' := Lib.hid (below_trans bw'.out (below_trans x1.below b2))
  clear hv b2 hcall
  go_wp2_with fail
  refine hp.out.mono ?_
  rintro e w3 ⟨⟨r, rfl, hy⟩, b3⟩
  have y := Lib.hid hy
  have b3' := Lib.hid (below_trans b2'.out b3)
  clear b3 hy
  go_wp2_with fail
  go_ret
  exact ⟨RefIs.yes hF'.out y.out, b3'.out⟩

set_option maxRecDepth 100000 in
set_option maxHeartbeats 4000000 in
theorem isUsed_any (B : Nat) (v : Value) (D : WD) (hF : HeapForm D) (k j : Nat) (hj : j < 16) (w : World) (hr : RdW w v D) (hB : BoxW w B v) :
    Calls Try.prog 54 #[.pointer (some ⟨B, 0, none⟩), .agg #[.int .i64 k, .int .i64 j]] w fun e w' => IsB (∃ s, UsedAt D k j s) e ∧ Below w.heap.size w w' := by
  have hF' := Lib.hid hF
  obtain ⟨vw, vd, vs, vm, vg, rfl, a1, a2, a3, a4, a5⟩ := hr
  obtain ⟨cs, he, hh⟩ := hB
  obtain rfl := (Value.agg.inj he).symm
  obtain ⟨aS, cS, rfl, hsl, hx⟩ := a3
  have hsl12 := hF.spans
  have hpg := hF.geo.2.2.2.2.1
  have bb := below_box w (.cells #[.int .i64 k, .int .i64 j] 84)
  have bn := box_new w (.cells #[.int .i64 k, .int .i64 j] 84)
  have g4 := cell_below bb (cell_of_heap hh 4 _ rfl)
  have h0 := cell_of_heap bn 0 _ rfl
  have h1 := cell_of_heap bn 1 _ rfl
  have bb' := Lib.hid bb
  have hx' := Lib.hid hx
  clear hx a1 a2 a4 a5 he hh bn hF hsl
  go_enter Try.func54, Try.ntmps54
  by_cases c1 : (k : Int) < (D.spans.length : Int)
  case neg =>
    have n := Lib.hid (show ¬ ∃ s, UsedAt D k j s from fun ⟨s, h⟩ => by have := (List.getElem?_eq_some_iff.1 h.1).1; omega)
    have hb := Lib.hid (inB_no (n := (k : Int)) (l := 0) (h := (D.spans.length : Int) - 1) (by omega))
    clear bb
    go_wp2_with fail
    go_quiet ((go_at_call 45; exact Calls.quiet_of_same ((isIn_eq hb.out _).mono fun _ _ ⟨a, b⟩ => ⟨a, b.symm⟩)))
    go_wp2_with fail
    go_ret
    exact ⟨IsB.no n.out, below_drewN bb'.out _⟩
  have hb := Lib.hid (inB_yes (n := (k : Int)) (l := 0) (h := (D.spans.length : Int) - 1) (by omega) (by omega))
  obtain ⟨s, hs⟩ : ∃ s, D.spans[k]? = some s := ⟨_, List.getElem?_eq_getElem (by omega)⟩
  obtain ⟨b1, o1, rfl, hrs⟩ := hx'.out k s hs
  have hs' := Lib.hid hs
  obtain ⟨vl, vp, _, _, _, _, x4, _, ⟨al, cl, rfl, hll, xl⟩, _⟩ := hrs.below bb
  have hA := hF'.out.span k s hs
  have hl16 : s.lens.length ≤ 16 := by have := hA.lens; have := (sl_bd s.cls).2; omega
  have hn' := Lib.hid (fun (h : ¬ (j < s.lens.length ∧ 0 < s.lens[j]?.getD 0)) => (show ¬ ∃ s, UsedAt D k j s from fun ⟨s2, h2⟩ => by
    have h1 := h2.1
    rw [hs'.out] at h1
    cases h1
    exact h h2.2))
  clear hs hA hll bb
  by_cases c2 : (j : Int) < (s.lens.length : Int)
  case neg =>
    have n := Lib.hid (hn'.out fun h => by omega)
    have hb2 := Lib.hid (inB_no (n := (j : Int)) (l := 0) (h := (s.lens.length : Int) - 1) (by omega))
    clear xl
    go_wp2_with fail
    go_quiet ((go_at_call 45; exact Calls.quiet_of_same ((isIn_eq hb.out _).mono fun _ _ ⟨a, b⟩ => ⟨a, b.symm⟩)))
    go_wp2_with fail
    go_quiet (fail)
    go_wp2_with (go_at_call 45; refine (isIn_eq hb2.out _).mono ?_; rintro e w' ⟨rfl, rfl⟩)
    go_ret
    exact ⟨IsB.no n.out, below_drewN bb'.out _⟩
  have hb2 := Lib.hid (inB_yes (n := (j : Int)) (l := 0) (h := (s.lens.length : Int) - 1) (by omega) (by omega))
  obtain ⟨bl, ol, rfl, xj⟩ := xl j (by omega)
  have hu := Lib.hid (show 0 < s.lens[j]?.getD 0 → ∃ s, UsedAt D k j s from fun h => ⟨s, hs'.out, by omega, h⟩)
  clear xl
  generalize s.lens[j]?.getD 0 = l at *
  by_cases c3 : 0 < l
  · have y := Lib.hid (hu.out c3)
    have d3 : decide (0 < l) = true := decide_eq_true c3
    go_wp2_with fail
    go_quiet ((go_at_call 45; exact Calls.quiet_of_same ((isIn_eq hb.out _).mono fun _ _ ⟨a, b⟩ => ⟨a, b.symm⟩)))
    go_wp2_with fail
    go_quiet (fail)
    go_wp2_with (go_at_call 45; refine (isIn_eq hb2.out _).mono ?_; rintro e w' ⟨rfl, rfl⟩)
    go_ret
    exact ⟨IsB.yes y.out, below_drewN bb'.out _⟩
  · have n := Lib.hid (hn'.out fun h => c3 h.2)
    have d3 : decide (0 < l) = false := decide_eq_false c3
    go_wp2_with fail
    go_quiet ((go_at_call 45; exact Calls.quiet_of_same ((isIn_eq hb.out _).mono fun _ _ ⟨a, b⟩ => ⟨a, b.symm⟩)))
    go_wp2_with fail
    go_quiet (fail)
    go_wp2_with (go_at_call 45; refine (isIn_eq hb2.out _).mono ?_; rintro e w' ⟨rfl, rfl⟩)
    go_ret
    exact ⟨IsB.no n.out, below_drewN bb'.out _⟩

set_option maxRecDepth 100000 in
set_option maxHeartbeats 4000000 in
theorem iaddrOf_ref (B : Nat) (v : Value) (D : WD) (hF : HeapForm D) (ref : Int) (hi : I64 ref) (w : World) (hr : RdW w v D) (hB : BoxW w B v) :
    Calls Try.prog 33 #[.pointer (some ⟨B, 0, none⟩), .int .i64 ref] w fun e w' => (∃ a : Int, e = .returned (.int .i64 a) ∧ ARefV D ref a) ∧ Below w.heap.size w w' := by
  have hF' := Lib.hid hF
  have hr' := Lib.hid hr
  have hB' := Lib.hid hB
  clear hr hB hF
  go_enter Try.func33, Try.ntmps33
  by_cases h0 : ref = 0
  · subst h0
    go_wp2_with fail
    go_ret
    exact ⟨⟨_, rfl, ARefV.zero D⟩, Below.refl _ _⟩
  have hb0 : (ref == 0) = false := beq_eq_false_iff_ne.2 h0
  have h0' := Lib.hid h0
  clear h0
  unfold I64 at hi
  by_cases h1 : ref < 0
  · have y := Lib.hid (ARefV.neg (D := D) h1)
    have hneg : decide (ref < 0) = true := decide_eq_true h1
    obtain ⟨x, hx⟩ : ∃ x : Int, x = IntKind.i64.wrap (IntKind.i64.wrap (ref - 1) |>.tdiv 16) := ⟨_, rfl⟩
    obtain ⟨z, hz⟩ : ∃ z : Int, z = IntKind.i64.wrap (IntKind.i64.wrap (ref - 1) |>.tmod 16) := ⟨_, rfl⟩
    clear hi
    go_wp2_with fail
    go_ret
    exact ⟨⟨_, rfl, y.out⟩, below_box _ _⟩
  obtain ⟨k, j, hsp, hj⟩ := ref_split (show 0 < ref by have := h0'.out; omega)
  obtain ⟨m, hm⟩ : ∃ m : Nat, (m : Int) = ref - 1 := ⟨(ref - 1).toNat, by have := h0'.out; omega⟩
  have e1 : IntKind.i64.wrap (ref - 1) = (m : Int) := by rw [IntWalk.i64_in _ (by omega)]; omega
  have e2 : (m : Int).tdiv 16 = (k : Int) := by rw [Int.tdiv_eq_ediv_of_nonneg (by omega)]; omega
  have e3 : IntKind.i64.wrap (k : Int) = (k : Int) := IntWalk.i64_in _ (by omega)
  have e4 : (m : Int).tmod 16 = (j : Int) := by rw [Int.tmod_eq_emod_of_nonneg (by omega)]; omega
  have e5 : IntKind.i64.wrap (j : Int) = (j : Int) := IntWalk.i64_in _ (by omega)
  have hneg : decide (ref < 0) = false := decide_eq_false h1
  have hj' := Lib.hid hj
  have hno := Lib.hid (fun (h : ¬ ∃ s, UsedAt D k j s) => (show ARefV D ref (-1) by rw [hsp]; exact ARefV.none hj fun s hs => h ⟨s, hs⟩))
  have hyes := Lib.hid (fun (s : SpanD) (h : UsedAt D k j s) => (show ARefV D ref (D.base + atW s (j : Int)) by rw [hsp]; exact ARefV.used hj h))
  have bb := Lib.hid (below_box w (.cells #[.int .i64 k, .int .i64 j] 84))
  have bn := Lib.hid (box_new w (.cells #[.int .i64 k, .int .i64 j] 84))
  have hr1 := Lib.hid (hr'.out.below bb.out)
  have hB1 := Lib.hid (hB'.out.below bb.out)
  clear hm hsp hi
  go_wp2_with fail
  refine (isUsed_any B v D hF'.out k j hj'.out _ hr1.out hB1.out).mono ?_
  rintro e w2 ⟨hq, b2⟩
  replace hq := hq.elim
  have bb2 := Lib.hid (below_trans bb.out b2)
  have bn2 := Lib.hid (heap_below b2 bn.out)
  have hr2 := Lib.hid (hr1.out.below b2)
  have hB2 := Lib.hid (hB1.out.below b2)
  clear b2
  rcases hq with ⟨hu, rfl⟩ | ⟨hu, rfl⟩
  case inr =>
    have y := Lib.hid (hno.out hu)
    clear hu
    go_wp2_with fail
    go_ret
    exact ⟨⟨_, rfl, y.out⟩, bb2.out⟩
  obtain ⟨s, hs⟩ := hu
  have y := Lib.hid (hyes.out s hs)
  have A := hF'.out.span k s hs.1
  have hg := hF'.out.geo
  have hcall := Lib.hid (addrI_any B v D k j s hs.1 A.pg0 (by have := A.pg1; have := hg.2.2.2.2.1; omega) (by omega) (by have := hg.1; omega) hg.2.1 w2 hr2.out hB2.out)
  have g0 := cell_of_heap bn2.out 0 _ rfl
  have g1 := cell_of_heap bn2.out 1 _ rfl
  clear hs A hg
  go_wp2_with fail
  refine hcall.out.mono ?_
  rintro e w3 ⟨rfl, b3⟩
  have b3' := Lib.hid b3
  clear b3
  go_wp2_with fail
  go_ret
  exact ⟨⟨_, rfl, y.out⟩, below_trans bb2.out b3'.out⟩

set_option maxRecDepth 100000 in
set_option maxHeartbeats 4000000 in
theorem iaddrRef_any (v : Value) (D : WD) (hm : MarksIn D) (ref : Int) (hi : I64 ref) (w : World) (hr : RdW w v D) :
    Calls Try.prog 11 #[v, .int .i64 ref] w fun e w' => ARefIs D ref e ∧ Below w.heap.size w w' := by
  have hm' := Lib.hid hm
  have hi' := Lib.hid hi
  clear hm hi
  obtain ⟨vw, vd, vs, vm, vg, rfl, a1, a2, a3, a4, a5⟩ := hr
  have bx := box_new w (.cells #[.int .i64 D.base, .int .i64 D.pages, vw, vd, vs, vm, .int .i64 D.phase, .int .i64 D.next, vg] 36)
  have bw := below_box w (.cells #[.int .i64 D.base, .int .i64 D.pages, vw, vd, vs, vm, .int .i64 D.phase, .int .i64 D.next, vg] 36)
  have hW := Lib.hid (show RdW (w.alloc (.cells #[.int .i64 D.base, .int .i64 D.pages, vw, vd, vs, vm, .int .i64 D.phase, .int .i64 D.next, vg] 36)) (.agg #[.int .i64 D.base, .int .i64 D.pages, vw, vd, vs, vm, .int .i64 D.phase, .int .i64 D.next, vg]) D from ⟨vw, vd, vs, vm, vg, rfl, a1.below bw, a2.below bw, a3.below bw, a4.below bw, a5.below bw⟩)
  have hBx := Lib.hid (show BoxW (w.alloc (.cells #[.int .i64 D.base, .int .i64 D.pages, vw, vd, vs, vm, .int .i64 D.phase, .int .i64 D.next, vg] 36)) w.heap.size (.agg #[.int .i64 D.base, .int .i64 D.pages, vw, vd, vs, vm, .int .i64 D.phase, .int .i64 D.next, vg]) from ⟨_, rfl, bx⟩)
  have bw' := Lib.hid bw
  clear a1 a2 a3 a4 a5 bx bw
  go_enter Try.func11, Try.ntmps11
  go_wp2_with fail
  refine (formOkI_any _ D hm'.out _ hW.out).mono ?_
  rintro e w1 ⟨hq, b1⟩
  have hq := hq.elim
  obtain ⟨x1, rfl⟩ := Ext.of b1
  clear b1
  generalize w.alloc (.cells #[.int .i64 D.base, .int .i64 D.pages, vw, vd, vs, vm, .int .i64 D.phase, .int .i64 D.next, vg] 36) = W at *
  rcases hq with ⟨hF, rfl⟩ | ⟨hF, rfl⟩
  case inr =>
    have n := Lib.hid (ARefIs.no (ref := ref) hF)
    clear hF
    go_wp2_with fail
    go_ret
    exact ⟨n.out, below_trans bw'.out x1.below⟩
  have hF' := Lib.hid hF
  have hcall := Lib.hid (iaddrOf_ref w.heap.size _ D hF ref hi'.out x1.val (hW.out.below x1.below) (hBx.out.below x1.below))
  clear hF
  go_wp2_with fail
  refine hcall.out.mono ?_
  rintro e w2 ⟨⟨r, rfl, hy⟩, b2⟩
  have y := Lib.hid hy
  clear hy
  go_wp2_with fail
  go_ret
  exact ⟨ARefIs.yes hF'.out y.out, below_trans bw'.out (below_trans x1.below b2)⟩
end Go.Proofs.Ytimokhjjnhnajaa
