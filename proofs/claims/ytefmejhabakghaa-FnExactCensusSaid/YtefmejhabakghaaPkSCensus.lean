import Derived.Test.YtefmejhabakghaaPkCensD
import Derived.Test.YtefmejhabakghaaPkQ
import Derived.Test.YtefmejhabakghaaPkW
import Derived.Test.YtefmejhabakghaaPkByTab

/-
  The contract of the model's Census.
-/
namespace Go.Proofs.Ytefmejhabakghaa
open Go.RowKit
set_option linter.unusedVariables false

theorem sl_cls {c : Int} (h : sl' c ≠ 0) : 0 ≤ c ∧ c ≤ 3 := by unfold sl' at h; omega

set_option maxRecDepth 100000 in
set_option maxHeartbeats 8000000 in
theorem scensus_any (v : Value) (D : WD) (w : World) (hr : RdW w v D) :
    Calls Try.prog 10 #[v] w fun e w' => ∃ L u, CensIs D L ∧ e = .returned u ∧ w'.ownsRow w.heap.size 3 1 u L.length (L.map (Value.int .i64)) ∧ Below w.heap.size w w' := by
  obtain ⟨vw, vd, vs, vm, vg, rfl, a1, a2, a3, a4, a5⟩ := hr
  have bx := box_new w (.cells #[.int .i64 D.base, .int .i64 D.pages, vw, vd, vs, vm, .int .i64 D.phase, .int .i64 D.next, vg] 36)
  have bw := below_box w (.cells #[.int .i64 D.base, .int .i64 D.pages, vw, vd, vs, vm, .int .i64 D.phase, .int .i64 D.next, vg] 36)
  have hW := Lib.hid (show RdW (w.alloc (.cells #[.int .i64 D.base, .int .i64 D.pages, vw, vd, vs, vm, .int .i64 D.phase, .int .i64 D.next, vg] 36)) (.agg #[.int .i64 D.base, .int .i64 D.pages, vw, vd, vs, vm, .int .i64 D.phase, .int .i64 D.next, vg]) D from ⟨vw, vd, vs, vm, vg, rfl, a1.below bw, a2.below bw, a3.below bw, a4.below bw, a5.below bw⟩)
  have hBx := Lib.hid (show BoxW (w.alloc (.cells #[.int .i64 D.base, .int .i64 D.pages, vw, vd, vs, vm, .int .i64 D.phase, .int .i64 D.next, vg] 36)) w.heap.size (.agg #[.int .i64 D.base, .int .i64 D.pages, vw, vd, vs, vm, .int .i64 D.phase, .int .i64 D.next, vg]) from ⟨_, rfl, bx⟩)
  have bw' := Lib.hid bw
  clear a1 a2 a3 a4 a5 bx bw
  have mk : ∀ (w : World), (Instr.makeSlice 22 (.int .i64 16) (.int .i64 16)).run Try.prog w = .ok (.slice (some ⟨w.heap.size, 0, none⟩) 16 16) (w.alloc (.cells (madeCells #[.int .i64 0] 16) 3)) := run_make_row' (P := Try.prog) 22 3 (.int .i64 0) 8 Try.underlying22 infoInt rfl .i64 .i64 16 (by omega) (by omega)
  go_enter Try.func10, Try.ntmps10
  go_wp2_with fail
  refine (formOk_any _ D _ hW.out).mono ?_
  rintro e w1 ⟨hq, b1⟩
  have hq := hq.elim
  obtain ⟨x1, rfl⟩ := Ext.of b1
  clear b1
  generalize w.alloc (.cells #[.int .i64 D.base, .int .i64 D.pages, vw, vd, vs, vm, .int .i64 D.phase, .int .i64 D.next, vg] 36) = W at *
  rcases hq with ⟨hF, rfl⟩ | ⟨hF, rfl⟩
  case inr =>
    have y := Lib.hid (show CensIs D [] from .inr ⟨hF, rfl⟩)
    clear hF
    go_wp2_with fail
    go_ret
    exact ⟨[], _, y.out, rfl, World.ownsRow_nil _ _ _ _, below_trans bw'.out x1.below⟩
  have hF' := Lib.hid hF
  obtain ⟨aS, cS, rfl, hsl, hx⟩ := hW.out.parts.2.2.1
  have hx' := Lib.hid hx
  have g0 := hBx.out.elim fun cs h => by obtain rfl := (Value.agg.inj h.1).symm; exact cell_of_heap h.2 4 (.slice aS D.spans.length cS) rfl
  have G := Lib.hid (fun (w' : World) (hb : Below W.heap.size W w') => cell_below hb g0)
  have g4 := G.out _ x1.below
  have hb1 := Lib.hid (below_trans x1.below (below_box x1.val (.cells (madeCells #[.int .i64 0] 16) 3)))
  have hown0 := Lib.hid (int_made (w := x1.val.alloc (.cells (madeCells #[.int .i64 0] 16) 3)) (base := W.heap.size) (box_new _ _) x1.below.size (by unfold maxLen; omega))
  unfold maxLen at hsl
  clear hx hF g0
  go_wp2_with fail
  clear g4 mk
  generalize x1.val.heap.size = gg at *
  go_loopw [4] (fun i wr => ∃ (k : Nat), k ≤ D.spans.length ∧ i = .int .i64 k ∧ wr.ownsRow W.heap.size 3 1 (.slice (some ⟨gg, 0, none⟩) 16 16) 16 ((tab (cL (D.spans.take k))).map (Value.int .i64)) ∧ Below W.heap.size W wr) (fun i _ => D.spans.length - (Go.RowKit.intOf i).toNat)
  case atStart => exact ⟨0, Nat.zero_le _, rfl, hown0.out, hb1.out⟩
  case round =>
    obtain ⟨k, hk, rfl, hown, hB⟩ := hrel
    have g4 := G.out _ hB
    by_cases hlt : k < D.spans.length
    · have hlt1 : (k : Int) < (D.spans.length : Int) := by omega
      obtain ⟨s, hks⟩ : ∃ s, D.spans[k]? = some s := ⟨_, List.getElem?_eq_getElem hlt⟩
      have A := hF'.out.span k s hks
      have hcl := sl_cls A.cls
      obtain ⟨c, hc⟩ := Int.eq_ofNat_of_zero_le hcl.1
      have hlen := A.lens
      have h16 := (sl_bd s.cls).2
      obtain ⟨b1, o1, rfl, vl, vp, y0, y1, y2, y3, y4, y5, ⟨al, cl, rfl, hll, xl⟩, ⟨ap, cp, rfl, _⟩⟩ := (hx'.out k s hks)
      have BS := Lib.hid (below_box wr (.cells #[.int .i64 s.page, .int .i64 s.cls, .int .i64 s.mark, .bool s.swept, .slice al s.lens.length cl, .slice ap s.ptrs.length cp] 67))
      have BC := Lib.hid (box_new wr (.cells #[.int .i64 s.page, .int .i64 s.cls, .int .i64 s.mark, .bool s.swept, .slice al s.lens.length cl, .slice ap s.ptrs.length cp] 67))
      have hgl := Lib.hid (hown.lt gg rfl).2
      have hBA := Lib.hid (below_trans hB BS.out)
      have hownA0 := Lib.hid (own_chg hown (Chg.of_below BS.out []) (fun q hq => by simp))
      have hB' := Lib.hid hB
      have hown' := Lib.hid hown
      have hks' := Lib.hid hks
      have hslot := Lib.hid A.slot
      have hlen0 := Lib.hid A.lens
      have hmk0 := Lib.hid A.mk0
      have xl' := Lib.hid xl
      have hn16 : s.lens.length ≤ 16 := by omega
      have Y0 := cell_below hB y0
      have Y1 := cell_below hB y1
      have Y2 := cell_below hB y2
      have Y3 := cell_below hB y3
      have Y4 := cell_below hB y4
      have Y5 := cell_below hB y5
      have hc' := Lib.hid hc
      have hc3 : c < 4 := by omega
      clear hB hown hks A xl y0 y1 y2 y3 y4 y5 hcl hlen h16 hc
      go_upto_region 8 with fail
      have hs0 := BS.out.size
      clear Y0 Y1 Y2 Y3 Y4 Y5 g4
      generalize wr.alloc (.cells #[.int .i64 s.page, .int .i64 s.cls, .int .i64 s.mark, .bool s.swept, .slice al s.lens.length cl, .slice ap s.ptrs.length cp] 67) = wa at *
      generalize wr.heap.size = sp at *
      have hW1 := Lib.hid (fun (w' : World) (hb : Below W.heap.size W w') => hW.out.below hb)
      have hBx1 := Lib.hid (fun (w' : World) (hb : Below W.heap.size W w') => hBx.out.below hb)
      have hownA := hownA0.out
      obtain ⟨q, hq⟩ : ∃ q : Nat, q = 4 * c := ⟨_, rfl⟩
      obtain ⟨t0, t1, t2⟩ := tab_store hownA c 0 q (by omega) (by omega) (by omega)
      obtain ⟨z, hz⟩ : ∃ z, z = cL (D.spans.take k) c 0 := ⟨_, rfl⟩
      have hzb : 0 ≤ z ∧ z ≤ 1000 := by
        have h1 := cL_bd (D.spans.take k) (fun t ht => hF'.out.lens16 t (List.mem_of_mem_take ht)) c 0
        have h3 := hF'.out.spans
        have h4 := hF'.out.geo.2.2.2.2.1
        have h5 : (D.spans.take k).length ≤ D.spans.length := by rw [List.length_take]; omega
        omega
      rw [← hz] at t0
      have hst := t2 (z + 1)
      rw [hz, cG_open D.spans s k c hc'.out] at hst
      rw [← hz] at hst
      have hst1 := Lib.hid hst.1
      have hst2 := Lib.hid (row_stays hBA.out hownA hst.2 hBA.out.size)
      have f1 := cell_of_heap BC.out 1 _ rfl
      have f4 := cell_of_heap BC.out 4 _ rfl
      have hgs : ¬ gg = sp := by have := hgl.out; omega
      have hgs' : ¬ sp = gg := fun e => hgs e.symm
      have BC2 := Lib.hid ((heap_setCell_other wa ⟨gg, q, none⟩ sp (.int .i64 (z + 1)) hgs').trans BC.out)
      rw [hc'.out] at f1
      have hq4 : (4 : Int) * (c : Int) = (q : Int) := by omega
      have hq16 : q + 4 ≤ 16 := by omega
      have hz' := Lib.hid hz
      have hq' := Lib.hid hq
      clear hownA t2 hst hz hq
      go_upto_region 10 with fail
      have hlen' := Lib.hid (show sl' s.cls = (s.lens.length : Int) from hlen0.out.symm)
      clear f1 f4 t0 t1
      go_loopw [6] (fun i wr => ∃ j : Nat, j ≤ s.lens.length ∧ i = .int .i64 j ∧ wr.ownsRow W.heap.size 3 1 (.slice (some ⟨gg, 0, none⟩) 16 16) 16 ((tab (cG D.spans s k j)).map (Value.int .i64)) ∧ Below W.heap.size W wr ∧ Hid (wr.heap[sp]? = some (.cells #[.int .i64 s.page, .int .i64 s.cls, .int .i64 s.mark, .bool s.swept, .slice al s.lens.length cl, .slice ap s.ptrs.length cp] 67))) (fun i _ => s.lens.length - (Go.RowKit.intOf i).toNat)
      case atStart => exact ⟨0, Nat.zero_le _, rfl, hst1.out, hst2.out, BC2⟩
      case round =>
        obtain ⟨j, hj, rfl, hown, hB, hC⟩ := hrel
        have f1 := cell_of_heap hC.out 1 _ rfl
        have f4 := cell_of_heap hC.out 4 _ rfl
        rw [hc'.out] at f1
        have hBs := hB.size
        by_cases hjl : j < s.lens.length
        · have hjl1 : (j : Int) < (s.lens.length : Int) := by omega
          have S := hslot.out j hjl
          have l0 := S.l0
          have hbit := Lib.hid S.bit
          obtain ⟨bl, ol, rfl, xj0⟩ := xl'.out j hjl
          have xj := cell_below hB xj0
          have hbd := Lib.hid (fun j' => cG_bd hF'.out s k j c j' (by omega))
          have hfr := Lib.hid (cG_free D.spans s k j c hc'.out hjl)
          have hus := Lib.hid (cG_used D.spans s k j c hc'.out hjl)
          have hmr := Lib.hid (cG_marked D.spans s k j c hc'.out hjl)
          have hgr := Lib.hid (hown.lt gg rfl)
          clear S xj0
          by_cases hz : s.lens[j]?.getD 0 = 0
          · obtain ⟨t0, t1, t2⟩ := tab_store hown c 3 (q + 3) (by omega) (by omega) (by have := hq'.out; omega)
            have hst := t2 (cG D.spans s k j c 3 + 1)
            rw [hfr.out (by omega) (hbit.out hz)] at hst
            have hb3 := hbd.out 3
            have hst1 := Lib.hid hst.1
            have hst2 := Lib.hid (row_stays hB hown hst.2 hBs)
            have hC2 := Lib.hid ((heap_setCell_other wr ⟨gg, q + 3, none⟩ sp (.int .i64 (cG D.spans s k j c 3 + 1)) hgs').trans hC.out)
            have hsu : ((q : Int) + 3).toNat = q + 3 := by omega
            rw [hz] at xj
            generalize cG D.spans s k j c 3 = z3 at *
            clear hown hB hst t2 hz hC hgr hBs
            go_wp2_with fail
            go_roundw
            case rel => exact ⟨j + 1, by omega, by go_num, hst1.out, hst2.out, hC2⟩
            case measure => simp [Go.RowKit.intOf]; omega
          have hl0 : 0 < s.lens[j]?.getD 0 := by omega
          have hzb2 : (s.lens[j]?.getD 0 == 0) = false := beq_eq_false_iff_ne.2 hz
          have hl0' := Lib.hid hl0
          have hcall := Lib.hid (smarked_any w.heap.size _ D k j s hks'.out (by omega) wr (hW1.out _ hB) (hBx1.out _ hB))
          have hMk := Lib.hid (MarkedP.iff hks'.out (j := j))
          have hown' := Lib.hid hown
          have hB' := Lib.hid hB
          clear hown hB hl0 hz hBs
          generalize s.lens[j]?.getD 0 = y at *
          go_wp2_with fail
          refine hcall.out.mono ?_
          rintro e w2 ⟨hq, b2⟩
          have hownB := own_chg hown'.out (Chg.of_below b2 []) (fun q hq => by simp)
          have hB2 := below_trans hB'.out b2
          have hBs2 := hB2.size
          have hgl2 := hgr.out.2
          have f1 := cell_below b2 f1
          have hC2 := Lib.hid (heap_below b2 hC.out)
          replace hq := hq.elim
          rcases hq with ⟨hd, rfl⟩ | ⟨hd, rfl⟩
          · obtain ⟨t0, t1, t2⟩ := tab_store hownB c 1 (q + 1) (by omega) (by omega) (by have := hq'.out; omega)
            have hst := t2 (cG D.spans s k j c 1 + 1)
            have hb3 := hbd.out 1
            have hb4 := hbd.out 2
            have hBst := row_stays hB2 hownB hst.2 hBs2
            have hC3 := Lib.hid ((heap_setCell_other w2 ⟨gg, q + 1, none⟩ sp (.int .i64 (cG D.spans s k j c 1 + 1)) hgs').trans hC2.out)
            obtain ⟨u0, u1, u2⟩ := tab_store hst.1 c 2 (q + 2) (by omega) (by omega) (by have := hq'.out; omega)
            simp only [show ¬ (2 = 1) by decide, and_false, if_false] at u0
            have hst' := u2 (cG D.spans s k j c 2 + 1)
            rw [hmr.out hl0'.out (hMk.out.1 hd)] at hst'
            have hst1 := Lib.hid hst'.1
            have hst2 := Lib.hid (row_stays hBst hst.1 hst'.2 hBst.size)
            have hC4 := Lib.hid ((heap_setCell_other _ ⟨gg, q + 2, none⟩ sp (.int .i64 (cG D.spans s k j c 2 + 1)) hgs').trans hC3.out)
            have hsu : ((q : Int) + 1).toNat = q + 1 := by omega
            have hsu2 : ((q : Int) + 2).toNat = q + 2 := by omega
            have f1b := cell_of_heap hC3.out 1 _ rfl
            rw [hc'.out] at f1b
            generalize cG D.spans s k j c 1 = z3 at *
            generalize cG D.spans s k j c 2 = z4 at *
            clear hownB hB2 hst t2 hC hgr hBs2 hst' u2 hBst b2 hd hgl2
            go_upto_region 17 with fail
            generalize w2.setCell ⟨gg, q + 1, none⟩ (.int .i64 (z3 + 1)) = w3 at *
            clear t0 t1 f1 hsu
            go_wp2_with fail
            go_roundw
            case rel => exact ⟨j + 1, by omega, by go_num, hst1.out, hst2.out, hC4⟩
            case measure => simp [Go.RowKit.intOf]; omega
          · obtain ⟨t0, t1, t2⟩ := tab_store hownB c 1 (q + 1) (by omega) (by omega) (by have := hq'.out; omega)
            have hst := t2 (cG D.spans s k j c 1 + 1)
            rw [hus.out hl0'.out (fun h => hd (hMk.out.2 h))] at hst
            have hb3 := hbd.out 1
            have hst1 := Lib.hid hst.1
            have hst2 := Lib.hid (row_stays hB2 hownB hst.2 hBs2)
            have hC3 := Lib.hid ((heap_setCell_other w2 ⟨gg, q + 1, none⟩ sp (.int .i64 (cG D.spans s k j c 1 + 1)) hgs').trans hC2.out)
            have hsu : ((q : Int) + 1).toNat = q + 1 := by omega
            generalize cG D.spans s k j c 1 = z3 at *
            clear hownB hB2 hst t2 hC hgr hBs2 b2 hd hgl2
            go_wp2_with fail
            go_roundw
            case rel => exact ⟨j + 1, by omega, by go_num, hst1.out, hst2.out, hC3⟩
            case measure => simp [Go.RowKit.intOf]; omega
        · obtain rfl : j = s.lens.length := by omega
          rw [cG_done hks'.out] at hown
          have hown2 := Lib.hid hown
          have hB2 := Lib.hid hB
          clear hown hB hBs
          go_wp2_with fail
          go_roundw
          case rel => exact ⟨k + 1, by omega, by go_num, hown2.out, hB2.out⟩
          case measure => simp [Go.RowKit.intOf]; omega
    · obtain rfl : k = D.spans.length := by omega
      rw [List.take_length] at hown
      have y := Lib.hid (show CensIs D (cens D) from .inl ⟨hF'.out, rfl⟩)
      have hown2 := Lib.hid hown
      have hb0 := Lib.hid (bw'.out.size)
      clear hown
      go_wp2_with fail
      go_ret
      exact ⟨_, _, y.out, rfl, own_base (by unfold cens; rw [tab_length]; exact hown2.out) hb0.out, below_trans bw'.out hB⟩
end Go.Proofs.Ytefmejhabakghaa
