import Derived.Test.YtdhiablpobnhcaaGreatPkG
import Derived.Test.YtdhiablpobnhcaaGreatPkH
import Derived.Test.YtdhiablpobnhcaaGreatPkIClear
import Derived.Test.YtdhiablpobnhcaaGreatPkIWith
import Derived.Test.YtdhiablpobnhcaaGreatPkA
import Derived.Test.YtdhiablpobnhcaaGreatPkN

/-
  The contract of the program's sweepSpan.
-/
namespace Go.Proofs.YtdhiablpobnhcaaGreat
open Go.RowKit
set_option linter.unusedVariables false
set_option linter.unusedSimpArgs false

theorem empty_iff2 (s : SpanD) : usedCnt s s.lens.length = 0 ↔ EmptyS s := by
  unfold usedCnt EmptyS
  rw [List.take_length, List.length_eq_zero_iff, List.filter_eq_nil_iff]
  constructor
  · intro h i hi h0
    rw [List.getElem?_eq_getElem hi] at h0
    exact absurd (by simpa using h0) (h s.lens[i] (List.getElem_mem hi))
  · intro h x hx hd
    obtain ⟨i, hi, rfl⟩ := List.mem_iff_getElem.1 hx
    refine h i hi ?_
    rw [List.getElem?_eq_getElem hi]
    simpa using hd
/-- The variable's spans have one less. -/
theorem VarW.erase2 {w : World} {base B n0 : Nat} {S : Shape} {D : WD} (h : VarW w base B S D) (hB0 : B < n0) {v : Value} {k : Nat} (hk : k < D.spans.length)
    (hr : w.ownsRow n0 126 6 v (k + (D.spans.length - (k + 1))) ((flatV D.spans S.sv).take (k * 6) ++ (flatV D.spans S.sv).drop ((k + 1) * 6))) :
    (∃ S', VarW (w.setCell ⟨B, 4, none⟩ v) base B S' { D with spans := D.spans.eraseIdx k }) ∧ Below base w (w.setCell ⟨B, 4, none⟩ v) := by
  have hle := h.le
  have hS : OwnS w base v (D.spans.eraseIdx k) (S.sv.eraseIdx k) := OwnS.erase h.own.inner h.own.svl k hk (by omega) hr
  have hnew := h.newSpans hS ?_ ?_
  · exact ⟨⟨_, hnew.1⟩, hnew.2⟩
  · have hsub : (({ S with vs := v, sv := S.sv.eraseIdx k } : Shape).ints).Sublist S.ints := by
      show ((S.vw :: (svInts (S.sv.eraseIdx k))) ++ S.mv ++ [S.vg]).Sublist ((S.vw :: svInts S.sv) ++ S.mv ++ [S.vg])
      exact (((svInts_sub S.sv k).cons_cons _).append (List.Sublist.refl _)).append (List.Sublist.refl _)
    exact h.own.nodup.sublist (hsub.filterMap _)
  · intro x hx
    rcases List.mem_cons.1 hx with rfl | hx
    · intro e
      have := (hr.lt B e).1
      omega
    · intro e
      exact h.ne (List.mem_filterMap.2 ⟨x, by have := (svInts_sub S.sv k).subset hx; simp [Shape.all, this], e⟩)

set_option maxRecDepth 100000 in
set_option maxHeartbeats 8000000 in
theorem isweep_any (base B : Nat) (S : Shape) (D : WD) (k : Nat) (s : SpanD) (hF : HeapForm D) (hks : D.spans[k]? = some s) (w : World) (h : VarW w base B S D) :
    Calls Tryz.prog 242 #[.pointer (some ⟨B, 0, none⟩), .int .i64 k] w fun e w' => e = .returned (.tuple #[]) ∧ (∃ S' E, SweepIs D k s E ∧ VarW w' base B S' E) ∧ Below base w w' := by
  have h' := Lib.hid h
  have hF' := Lib.hid hF
  have hle := Lib.hid (Nat.le_of_lt (Nat.lt_of_le_of_lt h.le h.lt))
  have hks' := Lib.hid hks
  have hkl0 := (List.getElem?_eq_some_iff.1 hks).1
  have hkl1 : (k : Int) < (D.spans.length : Int) := by omega
  have hls : D.spans.length ≤ 1000 := by have := hF.spans; have := hF.geo.2.2.2.2.1; omega
  have hn16 : s.lens.length ≤ 16 := by have A := hF.span k s hks; have h1 := A.lens; have h2 := (sl_bd s.cls).2; omega
  obtain ⟨p, hp⟩ := h.svAt hks
  obtain ⟨gs, cs, hgs⟩ := h.headS (by omega)
  obtain ⟨al, cl, hp1⟩ := own_slice (h.own.inner k s p hks hp).1
  have g4 := h.cell 4 S.vs rfl
  rw [hgs] at g4
  have x4 := (h.six hgs hks hp).2.2.2.2.1
  rw [hp1] at x4
  have hp' := Lib.hid hp
  have hgs' := Lib.hid hgs
  have hp1' := Lib.hid hp1
  clear h hF hks hp hgs hp1
  go_enter Tryz.func242, Tryz.ntmps242
  go_wp2_with fail
  go_loopw [19] (fun i wr => ∃ j : Nat, j ≤ s.lens.length ∧ i = .int .i64 j ∧ Hid (VarW wr base B S (sweepK D k j)) ∧ Hid (Below base w wr)) (fun i _ => s.lens.length - (Go.RowKit.intOf i).toNat)
  case atStart => exact ⟨0, Nat.zero_le _, rfl, h', Lib.hid (Below.refl _ _)⟩
  case round =>
    clear g4 x4
    obtain ⟨j, hj, rfl, hv, hB⟩ := hrel
    have hlike := Lib.hid (sweepK_like (D := D) hks'.out j)
    obtain ⟨t, ht, tpg, tcl, tsw, tll, tpl⟩ := hlike.out.here s hks'.out
    have hlen := hlike.out.len
    have hFj := Lib.hid (sweepK_form hF'.out hks'.out hj)
    have ht' := Lib.hid ht
    have hgs2 : S.vs = .slice (some ⟨gs, 0, none⟩) (sweepK D k j).spans.length cs := by rw [hlen]; exact hgs'.out
    by_cases hjl : j < s.lens.length
    · have hjl1 : (j : Int) < (s.lens.length : Int) := by omega
      have hrow := (hv.out.own.inner k t p ht hp'.out).1
      rw [hp1'.out, tll] at hrow
      obtain ⟨gl, cl', hgl⟩ : ∃ g c, (Value.slice al s.lens.length cl) = .slice (some ⟨g, 0, none⟩) s.lens.length c := by
        rcases hrow.2 with ⟨_, h0⟩ | ⟨g, cap, cur, e, _⟩
        · omega
        · exact ⟨g, cap, e⟩
      obtain ⟨rfl, rfl⟩ : al = some ⟨gl, 0, none⟩ ∧ cl = cl' := by simpa using hgl
      have xj := (ints_cell (hv.out.own.inner k t p ht hp'.out).1 (g := gl) (cap := cl) (by rw [hp1'.out, tll]) j (by omega)).1
      have hm16 := Lib.hid (SlotIn.mk16 (j := j) hFj.out ht (by omega))
      have hmk := Lib.hid (fun (w' : World) (hb : Below wr.heap.size wr w') => imarked_any B _ (sweepK D k j) k j t ht hm16.out w' (hv.out.below hb).rd (hv.out.below hb).boxW)
      have hgive := Lib.hid (fun (w' : World) (hb : Below wr.heap.size wr w') => clearSlot_any base B S (sweepK D k j) k j t ht (hFj.out.slotIn ht (by omega)) w' (hv.out.below hb))
      have hs1 := Lib.hid (show 0 < t.lens[j]?.getD 0 → ¬ MarkedP (sweepK D k j) k j → sweepK D k (j + 1) = giveD (sweepK D k j) k t j from fun h1 h2 => sweep1_yes ht h1 fun hb => h2 ((MarkedP.iff ht).2 hb))
      have hs2 := Lib.hid (show ¬ (0 < t.lens[j]?.getD 0 ∧ ¬ MarkedP (sweepK D k j) k j) → sweepK D k (j + 1) = sweepK D k j from fun h => sweep1_no ht fun h2 => h ⟨h2.1, fun hb => h2.2 ((MarkedP.iff ht).1 hb)⟩)
      have bb := Lib.hid (below_box wr (.cells #[.int .i64 k, .int .i64 j] 69))
      have bx := box_new wr (.cells #[.int .i64 k, .int .i64 j] 69)
      have q0 := cell_of_heap bx 0 (.int .i64 k) rfl
      have q1 := cell_of_heap bx 1 (.int .i64 j) rfl
      have hBb := Lib.hid (show Below base w (wr.alloc (.cells #[.int .i64 k, .int .i64 j] 69)) from hB.out.trans (bb.out.mono (by have := hB.out.size; have := hle.out; omega)))
      clear ht tpg tcl tsw tll tpl hlen hgs2 hrow bx hgl
      generalize hE2 : sweepK D k (j + 1) = E2 at hs1 hs2
      have hE2' := Lib.hid hE2
      clear hE2
      generalize hn : t.lens[j]?.getD 0 = n at *
      have hn' := Lib.hid hn
      clear hn
      generalize sweepK D k j = E at *
      by_cases c : 0 < n
      · have d1 : decide (0 < n) = true := decide_eq_true c
        have hc := Lib.hid c
        clear c
        go_wp2_with fail
        refine (hmk.out _ bb.out).mono ?_
        rintro e w2 ⟨hq, b2⟩
        replace hq := hq.elim
        have hb2 := Lib.hid (below_trans bb.out b2)
        have hv2 := Lib.hid (hv.out.below hb2.out)
        have hB2 := Lib.hid (hBb.out.trans (b2.mono (by have := hBb.out.size; have := hle.out; omega)))
        have q0 := cell_below b2 q0
        have q1 := cell_below b2 q1
        clear b2 xj
        rcases hq with ⟨hq, rfl⟩ | ⟨hq, rfl⟩
        · have hE := Lib.hid (hs2.out fun h => h.2 hq)
          have hv3 := Lib.hid (show VarW w2 base B S (sweepK D k (j + 1)) by rw [hE2'.out, hE.out]; exact hv2.out)
          clear hq hs1 hs2 hgive hmk
          go_wp2_with fail
          go_roundw
          case rel => exact ⟨j + 1, by omega, by go_num, hv3, hB2⟩
          case measure => simp [Go.RowKit.intOf]; omega
        · have hE := Lib.hid (hs1.out hc.out hq)
          clear hq hs1 hs2 hmk
          go_wp2_with fail
          refine (hgive.out w2 hb2.out).mono ?_
          rintro e w3 ⟨⟨_, rfl⟩, hv3, b3⟩
          have hv3' := Lib.hid (show VarW w3 base B S (sweepK D k (j + 1)) by rw [hE2'.out, hE.out]; exact hv3)
          have hB3 := Lib.hid (hB2.out.trans b3)
          clear hv3 b3 hgive q0 q1
          go_wp2_with fail
          go_roundw
          case rel => exact ⟨j + 1, by omega, by go_num, hv3', hB3⟩
          case measure => simp [Go.RowKit.intOf]; omega
      · have d1 : decide (0 < n) = false := decide_eq_false c
        have hE := Lib.hid (hs2.out fun h => c h.1)
        have hv3 := Lib.hid (show VarW (wr.alloc (.cells #[.int .i64 k, .int .i64 j] 69)) base B S (sweepK D k (j + 1)) by rw [hE2'.out, hE.out]; exact hv.out.below bb.out)
        clear c hs1 hs2 hgive hmk
        go_wp2_with fail
        go_roundw
        case rel => exact ⟨j + 1, by omega, by go_num, hv3, hBb⟩
        case measure => simp [Go.RowKit.intOf]; omega
    obtain rfl : j = s.lens.length := by omega
    have hm := hv.out.mark hgs2 k t p 0 ht hp'.out
    have hk2 := Lib.hid (set_at (t := ({ t with mark := 0 } : SpanD)) ht)
    have hgs3 : S.vs = .slice (some ⟨gs, 0, none⟩) ({ sweepK D k s.lens.length with spans := (sweepK D k s.lens.length).spans.set k { t with mark := 0 } } : WD).spans.length cs := by rw [List.length_set]; exact hgs2
    have hs := hm.1.swept hgs3 k _ p true hk2.out hp'.out
    have hv3 := Lib.hid (show VarW _ base B S (markOff (sweepK D k s.lens.length) k t) from by simpa only [markOff, offS, List.set_set] using hs.1)
    have hB3 := Lib.hid ((hB.out.trans hm.2).trans hs.2)
    obtain ⟨x0, x1, x2, x3, x4, x5⟩ := hv.out.six hgs2 ht hp'.out
    have f2 := hv.out.frzS hgs2 (k * 6 + 2)
    have f3 := hv.out.frzS hgs2 (k * 6 + 3)
    have hks3 := Lib.hid (show (markOff (sweepK D k s.lens.length) k t).spans[k]? = some (offS t) from set_at ht)
    have hl3 := Lib.hid (show (markOff (sweepK D k s.lens.length) k t).spans.length = D.spans.length from by simp only [markOff, List.length_set]; exact hlen)
    have y1 := Lib.hid (show EmptyS (offS t) → SweepIs D k s { markOff (sweepK D k s.lens.length) k t with spans := (markOff (sweepK D k s.lens.length) k t).spans.eraseIdx k } from fun h => ⟨t, ht'.out, .inl ⟨h, rfl⟩⟩)
    have y2 := Lib.hid (show ¬ EmptyS (offS t) → SweepIs D k s (markOff (sweepK D k s.lens.length) k t) from fun h => ⟨t, ht'.out, .inr ⟨h, rfl⟩⟩)
    have hu16 : (offS t).lens.length ≤ 16 := by show t.lens.length ≤ 16; omega
    clear hm hs ht hgs2 hgs3 tpg tcl tsw tpl hlen hlike hFj tll ht'
    go_upto_region 9 with fail
    generalize hwe : (wr.setCell ⟨gs, k * 6 + 2, none⟩ (.int .i64 0)).setCell ⟨gs, k * 6 + 3, none⟩ (.bool true) = w3 at *
    clear hwe x0 x1 x2 x3 x4 x5 f2 f3
    generalize offS t = t3 at *
    generalize markOff (sweepK D k s.lens.length) k t = F at *
    have hgs3 : S.vs = .slice (some ⟨gs, 0, none⟩) F.spans.length cs := by rw [hl3.out]; exact hgs'.out
    have g4 := hv3.out.cell 4 S.vs rfl
    rw [hgs'.out] at g4
    have f4 := hv3.out.frz 4
    have hoS := hv3.out.own.ownS
    rw [hgs3] at hoS
    have hsr := Lib.hid (own_src hoS)
    have hrs := Lib.hid (show RdSpan w3 gs (k * 6) t3 from by
      obtain ⟨x0, x1, x2, x3, x4, x5⟩ := hv3.out.six hgs3 hks3.out hp'.out
      have hi := hv3.out.own.inner k t3 p hks3.out hp'.out
      exact ⟨_, _, x0, x1, x2, x3, x4, x5, Rd.of_owns hi.1, Rd.of_owns hi.2⟩)
    have hus := Lib.hid (usedSlots_any gs (k * 6) t3 w3 hrs.out)
    have hei := Lib.hid (empty_iff2 t3)
    have hcl := usedCnt_le t3 t3.lens.length
    have hwo := Lib.hid (withoutSpan_any (some ⟨gs, 0, none⟩) F.spans.length cs k (flatV F.spans S.sv) hsr.out.2.1 hsr.out.2.2.1 (by rw [hl3.out]; exact hls) (by rw [hl3.out]; exact hkl0) w3 hsr.out.2.2.2)
    rw [hl3.out] at hwo
    clear hgs3 hoS
    go_wp2_with fail
    refine hus.out.mono ?_
    rintro e w' ⟨rfl, rfl⟩
    generalize usedCnt t3 t3.lens.length = u at *
    by_cases he : u = 0
    · have y := Lib.hid (y1.out (hei.out.1 he))
      have hu0 : ((u : Int) == 0) = true := by rw [he]; rfl
      clear he
      go_wp2_with fail
      refine hwo.out.mono ?_
      rintro e w5 ⟨v5, rfl, hr5, b5⟩
      have hv5 := hv3.out.below b5
      have hx5 := hv5.erase2 (n0 := w3.heap.size) (k := k) hv3.out.lt (by rw [hl3.out]; exact hkl0) (by rw [hl3.out]; exact hr5)
      obtain ⟨a5, c5, rfl⟩ := own_slice hr5
      have g45 := cell_below b5 g4
      have f45 : w5.frozen? ⟨B, 4, none⟩ = false := (b5.frozen (p := ⟨B, 4, none⟩) hv3.out.lt).trans f4
      obtain ⟨⟨S5, hv6⟩, b6⟩ := hx5
      have z := Lib.hid (show ∃ S' E, SweepIs D k s E ∧ VarW _ base B S' E from ⟨S5, _, y.out, hv6⟩)
      have hB6 := Lib.hid ((hB3.out.trans (b5.mono (by have := hB3.out.size; have := hle.out; omega))).trans b6)
      clear hr5 hv5 b5 b6 hv6 f4 g4
      go_wp2_with fail
      go_end0
      exact ⟨rfl, z.out, hB6.out⟩
    · have y := Lib.hid (y2.out fun h => he (hei.out.2 h))
      have hu0 : ((u : Int) == 0) = false := by rw [beq_eq_false_iff_ne]; omega
      have z := Lib.hid (show ∃ S' E, SweepIs D k s E ∧ VarW w3 base B S' E from ⟨S, _, y.out, hv3.out⟩)
      clear he
      go_wp2_with fail
      go_end0
      exact ⟨rfl, z.out, hB3.out⟩
end Go.Proofs.YtdhiablpobnhcaaGreat
