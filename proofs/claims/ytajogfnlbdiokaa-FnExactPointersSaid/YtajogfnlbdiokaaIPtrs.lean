/-
  The program's viewOf, pointers and Pointers.
-/
import Derived.Test.YtajogfnlbdiokaaSPtrs2
import Derived.Test.YtajogfnlbdiokaaImplG
namespace Go.Proofs.Ytajogfnlbdiokaa
open Go.RowKit
open Go.Maps (Keyed)
set_option linter.unusedVariables false

/-- A view of the World in block B: the block V, the map g of its places. -/
structure ViewIs (D : WD) (w : World) (V B g n : Nat) (M : DataW Unit) : Prop where
  box : w.heap[V]? = some (.cells #[.pointer (some ⟨B, 0, none⟩), .map (some g)] 153 (0, 0))
  own : OwnP w g n M
  is : PlacesIs D M D.spans.length 0
theorem ViewIs.below {D : WD} {w w' : World} {V B g n : Nat} {M : DataW Unit} (h : ViewIs D w V B g n M) (hb : Below w.heap.size w w') : ViewIs D w' V B g n M := ⟨heap_below hb h.box, h.own.below hb, h.is⟩

set_option maxRecDepth 100000 in
set_option maxHeartbeats 4000000 in
theorem viewOf_any (B : Nat) (v : Value) (D : WD) (hF : HeapForm D) (w : World) (hr : RdW w v D) (hB : BoxW w B v) :
    Calls Try.prog 96 #[.pointer (some ⟨B, 0, none⟩)] w fun e w' => ∃ V g n M, e = .returned (.pointer (some ⟨V, 0, none⟩)) ∧ ViewIs D w' V B g n M ∧ Below w.heap.size w w' := by
  have hcall := Lib.hid (places_any B v D hF w hr hB)
  clear hF hr hB
  go_enter Try.func96, Try.ntmps96
  go_wp2_with fail
  refine hcall.out.mono ?_
  rintro e w2 ⟨g, n, M, rfl, hown, hP, b2⟩
  have bx := box_new w2 (.cells #[.pointer (some ⟨B, 0, none⟩), .map (some g)] 153)
  have bb := below_box w2 (.cells #[.pointer (some ⟨B, 0, none⟩), .map (some g)] 153)
  have y := Lib.hid (show ViewIs D (w2.alloc (.cells #[.pointer (some ⟨B, 0, none⟩), .map (some g)] 153)) w2.heap.size B g n M from ⟨bx, hown.below bb, hP⟩)
  have b3 := Lib.hid (below_trans b2 bb)
  clear hown hP b2 bx bb
  go_wp2_with fail
  go_ret
  exact ⟨_, _, _, _, rfl, y.out, b3.out⟩

set_option maxRecDepth 100000 in
set_option maxHeartbeats 4000000 in
theorem vpointers_any (V B g n : Nat) (M : DataW Unit) (v : Value) (D : WD) (hF : HeapForm D) (addr : Int) (ha : I64 addr) (hcap : CapW v) (w : World) (hr : RdW w v D) (hB : BoxW w B v) (hv : ViewIs D w V B g n M) :
    Calls Try.prog 97 #[.pointer (some ⟨V, 0, none⟩), .int .i64 addr] w fun e w' => ∃ L u, PtrIs D addr L ∧ e = .returned u ∧ w'.ownsRow w.heap.size 3 1 u L.length (L.map (Value.int .i64)) ∧ Below w.heap.size w w' := by
  have hF' := Lib.hid hF
  have hr' := Lib.hid hr
  have hB' := Lib.hid hB
  have hv' := Lib.hid hv
  have hkey := Lib.hid (key_i64 ha)
  have c0 := cell_of_heap hv.box 0 (.pointer (some ⟨B, 0, none⟩)) rfl
  have c1 := cell_of_heap hv.box 1 (.map (some g)) rfl
  have hcap' := Lib.hid hcap
  clear hF hr hB hv ha hcap
  by_cases hh : ∃ k j, IsObj D addr k j
  · obtain ⟨k, j, ho⟩ := hh
    obtain ⟨s, hks, hin, p0, p1⟩ := obj_slot hF'.out ho
    have hk := Lib.hid (show Ahead D.spans.length 0 k j from .inl (List.getElem?_eq_some_iff.1 hks).1)
    have h1 := Lib.hid ((hv'.out.is.has addr).2 ⟨k, j, hk.out, ho⟩)
    have h2 := Lib.hid (hv'.out.is.is addr k j (dat 0 0) hk.out ho)
    have y := Lib.hid (show PtrIs D addr (nz (ptrW D s j)) from .inl ⟨k, j, s, hF'.out, ho, hks, rfl⟩)
    have bb := below_box w (.cells #[.int .i64 k, .int .i64 j] 93)
    have bx := box_new w (.cells #[.int .i64 k, .int .i64 j] 93)
    have d0 := Lib.hid (cell_below bb c0)
    have q0 := Lib.hid (cell_of_heap bx 0 (.int .i64 k) rfl)
    have q1 := Lib.hid (cell_of_heap bx 1 (.int .i64 j) rfl)
    have bb' := Lib.hid bb
    have hpw := Lib.hid (fun (w' : World) (hb : Below w.heap.size w w') => pointerWords_any B v D k j s hks hin p0 p1 hcap'.out w' (hr'.out.below hb) (hB'.out.below hb))
    clear ho hks hin p0 p1 bb bx
    go_enter Try.func97, Try.ntmps97
    go_wp2_with (at_lookup; refine lookup_place _ rfl rfl _ _ rfl g n M rfl hv'.out.own _ _ rfl hkey.out true h1.out (k : Int) (j : Int) h2.out ?_)
    go_upto_region 4 with fail
    clear c0 c1
    generalize w.alloc (.cells #[.int .i64 k, .int .i64 j] 93) = W at *
    have D0 := Ext.cell d0.out
    have Q0 := Ext.cell q0.out
    have Q1 := Ext.cell q1.out
    have z0 := d0.out
    have z1 := q0.out
    have z2 := q1.out
    go_region_with (first
      | (go_at_call 141; refine (hpw.out _ ?_).mono ?_; (first | exact bb'.out | exact below_drewN bb'.out 1 | exact below_drewN bb'.out 2); rintro e w6 ⟨A, c, rfl, hrd, h16, b6⟩; have hrd' := Lib.hid hrd; have b6' := Lib.hid (show Below w.heap.size w w6 from below_trans bb'.out ⟨b6.os, b6.tape, b6.output, b6.size, b6.block⟩); clear hrd b6)
      | (go_at_call 104; refine (withoutZeros_any _ _ _ ?_ _ ?_).mono ?_; (omega); (exact hrd'.out); rintro e w7 ⟨u, rfl, hown, b7⟩; have hown' := Lib.hid (own_base (base' := w.heap.size) hown b6'.out.size); have b7' := Lib.hid (below_trans b6'.out b7); clear hown b7))
    all_goals go_wp2_with fail
    all_goals go_ret
    all_goals exact ⟨_, _, y.out, rfl, hown'.out, b7'.out⟩
  · have h1 := Lib.hid (show Maps.has M (.int .i64 addr) = false from by
      cases h : Maps.has M (.int .i64 addr)
      · rfl
      · obtain ⟨k, j, _, ho⟩ := (hv'.out.is.has addr).1 h
        exact absurd ⟨k, j, ho⟩ hh)
    have h2 := Lib.hid (show M.atKey (.int .i64 addr) (dat 0 0) = dat 0 0 from Maps.atKey_of_not_has h1.out _)
    have y := Lib.hid (show PtrIs D addr [] from .inr ⟨fun _ k j h => hh ⟨k, j, h⟩, rfl⟩)
    clear hh
    go_enter Try.func97, Try.ntmps97
    go_wp2_with (at_lookup; refine lookup_place _ rfl rfl _ _ rfl g n M rfl hv'.out.own _ _ rfl hkey.out false h1.out 0 0 h2.out ?_)
    go_ret
    exact ⟨[], _, y.out, rfl, World.ownsRow_nil _ _ _ _, below_box _ _⟩

set_option maxRecDepth 100000 in
set_option maxHeartbeats 4000000 in
theorem ipointers_any (v : Value) (D : WD) (hm : MarksIn D) (addr : Int) (ha : I64 addr) (hcap : CapW v) (w : World) (hr : RdW w v D) :
    Calls Try.prog 29 #[v, .int .i64 addr] w fun e w' => ∃ L u, PtrIs D addr L ∧ e = .returned u ∧ w'.ownsRow w.heap.size 3 1 u L.length (L.map (Value.int .i64)) ∧ Below w.heap.size w w' := by
  have hm' := Lib.hid hm
  have ha' := Lib.hid ha
  have hcap' := Lib.hid hcap
  clear hm ha hcap
  obtain ⟨vw, vd, vs, vm, vg, rfl, a1, a2, a3, a4, a5⟩ := hr
  have bx := box_new w (.cells #[.int .i64 D.base, .int .i64 D.pages, vw, vd, vs, vm, .int .i64 D.phase, .int .i64 D.next, vg] 32)
  have bw := below_box w (.cells #[.int .i64 D.base, .int .i64 D.pages, vw, vd, vs, vm, .int .i64 D.phase, .int .i64 D.next, vg] 32)
  have hW := Lib.hid (show RdW (w.alloc (.cells #[.int .i64 D.base, .int .i64 D.pages, vw, vd, vs, vm, .int .i64 D.phase, .int .i64 D.next, vg] 32)) (.agg #[.int .i64 D.base, .int .i64 D.pages, vw, vd, vs, vm, .int .i64 D.phase, .int .i64 D.next, vg]) D from ⟨vw, vd, vs, vm, vg, rfl, a1.below bw, a2.below bw, a3.below bw, a4.below bw, a5.below bw⟩)
  have hBx := Lib.hid (show BoxW (w.alloc (.cells #[.int .i64 D.base, .int .i64 D.pages, vw, vd, vs, vm, .int .i64 D.phase, .int .i64 D.next, vg] 32)) w.heap.size (.agg #[.int .i64 D.base, .int .i64 D.pages, vw, vd, vs, vm, .int .i64 D.phase, .int .i64 D.next, vg]) from ⟨_, rfl, bx⟩)
  have bw' := Lib.hid bw
  clear a1 a2 a3 a4 a5 bx bw
  go_enter Try.func29, Try.ntmps29
  go_wp2_with fail
  refine (formOkI_any _ D hm'.out _ hW.out).mono ?_
  rintro e w1 ⟨hq, b1⟩
  have hq := hq.elim
  obtain ⟨x1, rfl⟩ := Ext.of b1
  clear b1
  generalize w.alloc (.cells #[.int .i64 D.base, .int .i64 D.pages, vw, vd, vs, vm, .int .i64 D.phase, .int .i64 D.next, vg] 32) = W at *
  rcases hq with ⟨hF, rfl⟩ | ⟨hF, rfl⟩
  case inr =>
    have y := Lib.hid (show PtrIs D addr [] from .inr ⟨fun h => absurd h hF, rfl⟩)
    clear hF
    go_wp2_with fail
    go_ret
    exact ⟨[], _, y.out, rfl, World.ownsRow_nil _ _ _ _, below_trans bw'.out x1.below⟩
  have hF' := Lib.hid hF
  have hcall := Lib.hid (viewOf_any w.heap.size _ D hF x1.val (hW.out.below x1.below) (hBx.out.below x1.below))
  clear hF
  go_wp2_with fail
  refine hcall.out.mono ?_
  rintro e w2 ⟨V, g, n, M, rfl, hv, b2⟩
  have hp := Lib.hid (vpointers_any V w.heap.size g n M _ D hF'.out addr ha'.out hcap'.out w2 ((hW.out.below x1.below).below b2) ((hBx.out.below x1.below).below b2) hv)
  have b2' := Lib.hid (below_trans bw'.out (below_trans x1.below b2))
  clear hv b2 hcall
  go_wp2_with fail
  refine hp.out.mono ?_
  rintro e w3 ⟨L, u, hy, rfl, hown, b3⟩
  have y := Lib.hid hy
  have hown' := Lib.hid (own_base (base' := w.heap.size) hown b2'.out.size)
  have b3' := Lib.hid (below_trans b2'.out b3)
  clear hown b3 hy
  go_wp2_with fail
  go_ret
  exact ⟨_, _, y.out, rfl, hown'.out, b3'.out⟩
end Go.Proofs.Ytajogfnlbdiokaa
