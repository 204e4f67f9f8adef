import Derived.Test.YtpcefecedmdmkaaPkSGive2
import Derived.Test.YtpcefecedmdmkaaPkIC
import Derived.Test.YtpcefecedmdmkaaPkIClear
import Derived.Test.YtpcefecedmdmkaaPkIWith
import Derived.Test.YtpcefecedmdmkaaPkA

/-
  The contract of the program's Give.
-/
namespace Go.Proofs.Ytpcefecedmdmkaa
open Go.RowKit
set_option linter.unusedVariables false

theorem empty_iff (s : SpanD) : usedCnt s s.lens.length = 0 ↔ EmptyS s := by
  unfold usedCnt EmptyS
  rw [List.take_length, List.length_eq_zero_iff, List.filter_eq_nil_iff]
  constructor
  · intro h i hi h0
    rw [List.getElem?_eq_getElem hi] at h0
    exact absurd (by simpa using h0) (h s.lens[i] (List.getElem_mem hi))
  · intro h x hx hd
    obtain ⟨i, hi, rfl⟩ := List.mem_iff_getElem.1 hx
    refine h i hi ?_
    rw [List.getElem?_eq_getElem hi]
    simpa using hd
/-- The variable's spans have one less. -/
theorem VarW.erase {w : World} {base B n0 : Nat} {S : Shape} {D : WD} (h : VarW w base B S D) (hB0 : B < n0) {v : Value} {k : Nat} (hk : k < D.spans.length)
    (hr : w.ownsRow n0 60 6 v (k + (D.spans.length - (k + 1))) ((flatV D.spans S.sv).take (k * 6) ++ (flatV D.spans S.sv).drop ((k + 1) * 6))) :
    (∃ S', VarW (w.setCell ⟨B, 4, none⟩ v) base B S' { D with spans := D.spans.eraseIdx k }) ∧ Below base w (w.setCell ⟨B, 4, none⟩ v) := by
  have hle := h.le
  have hS : OwnS w base v (D.spans.eraseIdx k) (S.sv.eraseIdx k) := OwnS.erase h.own.inner h.own.svl k hk (by omega) hr
  have hnew := h.newSpans hS ?_ ?_
  · exact ⟨⟨_, hnew.1⟩, hnew.2⟩
  · have hsub : (({ S with vs := v, sv := S.sv.eraseIdx k } : Shape).ints).Sublist S.ints := by
      show ((S.vw :: (svInts (S.sv.eraseIdx k))) ++ S.mv ++ [S.vg]).Sublist ((S.vw :: svInts S.sv) ++ S.mv ++ [S.vg])
      exact (((svInts_sub S.sv k).cons_cons _).append (List.Sublist.refl _)).append (List.Sublist.refl _)
    exact h.own.nodup.sublist (hsub.filterMap _)
  · intro x hx
    rcases List.mem_cons.1 hx with rfl | hx
    · intro e
      have := (hr.lt B e).1
      omega
    · intro e
      exact h.ne (List.mem_filterMap.2 ⟨x, by have := (svInts_sub S.sv k).subset hx; simp [Shape.all, this], e⟩)
set_option maxRecDepth 100000 in
set_option maxHeartbeats 16000000 in
theorem igive_any (v : Value) (D : WD) (addr : Int) (hm : MarksIn D) (ha : I64 addr) (hs : Small D) (w : World) (hr : RdW w v D) :
    Calls Try.prog 27 #[v, .int .i64 addr] w fun e w' => ∃ S D' f, GiveIs D addr D' f ∧ e = .returned (.tuple #[S.val D', .bool f]) ∧ OwnW w' w.heap.size S D' ∧ Below w.heap.size w w' := by
  have hs' := Lib.hid hs
  have hm' := Lib.hid hm
  have ha' := Lib.hid ha
  clear hs hm ha
  obtain ⟨vw, vd, vs, vm, vg, rfl, a1, a2, a3, a4, a5⟩ := hr
  have bb := below_trans (below_box w (.cells #[.int .i64 D.base, .int .i64 D.pages, vw, vd, vs, vm, .int .i64 D.phase, .int .i64 D.next, vg] 32)) (below_box _ (.cells #[.int .i64 0, .int .i64 0, .slice none 0 0, .slice none 0 0, .slice none 0 0, .slice none 0 0, .int .i64 0, .int .i64 0, .slice none 0 0] 32))
  have hA := heap_below (below_box (w.alloc (.cells #[.int .i64 D.base, .int .i64 D.pages, vw, vd, vs, vm, .int .i64 D.phase, .int .i64 D.next, vg] 32)) (.cells #[.int .i64 0, .int .i64 0, .slice none 0 0, .slice none 0 0, .slice none 0 0, .slice none 0 0, .int .i64 0, .int .i64 0, .slice none 0 0] 32)) (box_new w (.cells #[.int .i64 D.base, .int .i64 D.pages, vw, vd, vs, vm, .int .i64 D.phase, .int .i64 D.next, vg] 32))
  have hR := box_new (w.alloc (.cells #[.int .i64 D.base, .int .i64 D.pages, vw, vd, vs, vm, .int .i64 D.phase, .int .i64 D.next, vg] 32)) (.cells #[.int .i64 0, .int .i64 0, .slice none 0 0, .slice none 0 0, .slice none 0 0, .slice none 0 0, .int .i64 0, .int .i64 0, .slice none 0 0] 32)
  rw [World.size_alloc] at hR
  have hW := Lib.hid (show RdW ((w.alloc (.cells #[.int .i64 D.base, .int .i64 D.pages, vw, vd, vs, vm, .int .i64 D.phase, .int .i64 D.next, vg] 32)).alloc (.cells #[.int .i64 0, .int .i64 0, .slice none 0 0, .slice none 0 0, .slice none 0 0, .slice none 0 0, .int .i64 0, .int .i64 0, .slice none 0 0] 32)) (.agg #[.int .i64 D.base, .int .i64 D.pages, vw, vd, vs, vm, .int .i64 D.phase, .int .i64 D.next, vg]) D from ⟨vw, vd, vs, vm, vg, rfl, a1.below bb, a2.below bb, a3.below bb, a4.below bb, a5.below bb⟩)
  have bb' := Lib.hid bb
  have hA' := Lib.hid hA
  have hR' := Lib.hid hR
  have hz := Lib.hid (show ((w.alloc (.cells #[.int .i64 D.base, .int .i64 D.pages, vw, vd, vs, vm, .int .i64 D.phase, .int .i64 D.next, vg] 32)).alloc (.cells #[.int .i64 0, .int .i64 0, .slice none 0 0, .slice none 0 0, .slice none 0 0, .slice none 0 0, .int .i64 0, .int .i64 0, .slice none 0 0] 32)).heap.size = w.heap.size + 1 + 1 by simp)
  clear a1 a2 a3 a4 a5 bb hA hR
  go_enter Try.func27, Try.ntmps27
  go_wp2_with fail
  generalize (w.alloc (.cells #[.int .i64 D.base, .int .i64 D.pages, vw, vd, vs, vm, .int .i64 D.phase, .int .i64 D.next, vg] 32)).alloc (.cells #[.int .i64 0, .int .i64 0, .slice none 0 0, .slice none 0 0, .slice none 0 0, .slice none 0 0, .int .i64 0, .int .i64 0, .slice none 0 0] 32) = W at *
  refine (findI_any _ D hm'.out addr ha'.out _ hW.out).mono ?_
  rintro e w1 ⟨⟨r, q, rfl, hq⟩, b1⟩
  have hR1 := heap_below b1 hR'.out
  have hA1 := heap_below b1 hA'.out
  have bb1 := Lib.hid (below_trans bb'.out b1)
  have hW1 := Lib.hid (hW.out.below b1)
  have hz1 := Lib.hid (show w.heap.size + 1 + 1 ≤ w1.heap.size by have := hz.out; have := b1.size; omega)
  clear b1
  rcases Find.some hq with ⟨k, j, s, hF, ho, hks, hj, rfl, rfl⟩ | ⟨y, rfl, rfl⟩
  case inr =>
    have y := Lib.hid y
    have n0 := cell_of_heap hR1 0 _ rfl
    have n1 := cell_of_heap hR1 1 _ rfl
    have n2 := cell_of_heap hR1 2 _ rfl
    have n3 := cell_of_heap hR1 3 _ rfl
    have n4 := cell_of_heap hR1 4 _ rfl
    have n5 := cell_of_heap hR1 5 _ rfl
    have n6 := cell_of_heap hR1 6 _ rfl
    have n7 := cell_of_heap hR1 7 _ rfl
    have n8 := cell_of_heap hR1 8 _ rfl
    have z0 := frozen_of_heap hR1 0
    have z1 := frozen_of_heap hR1 1
    have z2 := frozen_of_heap hR1 2
    have z3 := frozen_of_heap hR1 3
    have z4 := frozen_of_heap hR1 4
    have z5 := frozen_of_heap hR1 5
    have z6 := frozen_of_heap hR1 6
    have z7 := frozen_of_heap hR1 7
    have z8 := frozen_of_heap hR1 8
    clear hR1 hA1 hq
    go_wp2_with fail
    refine bodyPost_ret (v := .tuple #[zeroS.val zeroD, .bool false]) (by simp [results, Try.results27, go_sem, n0, n1, n2, n3, n4, n5, n6, n7, n8, Shape.val, zeroS, zeroD]) rfl ?_
    exact ⟨zeroS, zeroD, false, y.out, rfl, own_zero _ _, Chg.below (bs := [w.heap.size + 1]) bb1.out ((((((((((Chg.refl _ _).put (b := w.heap.size + 1) (by simp) 0 _).put (b := w.heap.size + 1) (by simp) 1 _).put (b := w.heap.size + 1) (by simp) 2 _).put (b := w.heap.size + 1) (by simp) 3 _).put (b := w.heap.size + 1) (by simp) 4 _).put (b := w.heap.size + 1) (by simp) 5 _).put (b := w.heap.size + 1) (by simp) 6 _).put (b := w.heap.size + 1) (by simp) 7 _).put (b := w.heap.size + 1) (by simp) 8 _) bb1.out.size (fun q hq => by rw [List.mem_singleton.1 hq]; omega)⟩
  have hF' := Lib.hid hF
  have ho' := Lib.hid ho
  have hks' := Lib.hid hks
  have hin := Lib.hid (hF.slotIn hks hj)
  have hown := Lib.hid (copyOf_any w.heap.size _ D hs'.out w1 hW1.out ⟨_, rfl, hA1⟩)
  have hsp := Lib.hid (show D.spans.length ≤ 1000 by have := hF.spans; have := hF.geo.2.2.2.2.1; omega)
  have hR1' := Lib.hid hR1
  clear hq hR1 hA1 hF ho hks
  go_wp2_with fail
  refine hown.out.mono ?_
  rintro e w2 ⟨S, rfl, ho, b2⟩
  obtain ⟨aw, ad, aS, am, ag, cw, cd, cS, cm, cg, sv, mv, rfl⟩ := Shape.lits ho
  have hv := Lib.hid (VarW.mk_box ho b2.size)
  have bb2 := Lib.hid (below_trans bb1.out b2)
  have hR2 := Lib.hid (heap_below (below_trans b2 (below_box w2 (.cells (Shape.cells ⟨.slice aw D.words.length cw, .slice ad D.dirty.length cd, .slice aS D.spans.length cS, .slice am D.muts.length cm, .slice ag D.grey.length cg, sv, mv⟩ D) 32))) hR1'.out)
  clear ho b2 hown
  have hbs := Lib.hid (show w1.heap.size ≤ w2.heap.size from hv.out.le)
  have hRne : ¬ (w2.heap.size = w.heap.size + 1) := by have := hz1.out; have := hbs.out; omega
  have hRne' : ¬ (w.heap.size + 1 = w2.heap.size) := by omega
  dsimp only [Shape.val]
  dsimp only [Shape.cells] at hv hR2
  go_wp2_with fail
  refine (clearSlot_any _ _ _ D k j s hks'.out hin.out _ hv.out).mono ?_
  rintro e w3 ⟨⟨_, rfl⟩, hv3, b3⟩
  have bb3 := Lib.hid (show Below w.heap.size w w3 from (below_trans bb2.out (below_box w2 _)).trans (b3.mono (by have := hz1.out; omega)))
  have hR3 := Lib.hid ((b3.block (w.heap.size + 1) (by have := hz1.out; omega)).trans hR2.out)
  have hk3 := Lib.hid (show (giveD D k s j).spans[k]? = some (giveS s j) from set_at hks'.out)
  have hl3 := Lib.hid (show (giveD D k s j).spans.length ≤ 1000 by rw [(giveD_bulk hks'.out).2]; exact hsp.out)
  have y1 := Lib.hid (show EmptyS (giveS s j) → GiveIs D addr { giveD D k s j with spans := (giveD D k s j).spans.eraseIdx k } true from fun h => .inl ⟨k, j, s, hF'.out, ho'.out, hks'.out, rfl, .inl ⟨h, rfl⟩⟩)
  have y2 := Lib.hid (show ¬ EmptyS (giveS s j) → GiveIs D addr (giveD D k s j) true from fun h => .inl ⟨k, j, s, hF'.out, ho'.out, hks'.out, rfl, .inr ⟨h, rfl⟩⟩)
  have hu16 := Lib.hid (show (giveS s j).lens.length ≤ 16 from by have := hin.out.lens; have := (sl_bd s.cls).2; simp only [giveS, List.length_set]; omega)
  clear b3 hv
  generalize giveD D k s j = D3 at *
  generalize giveS s j = s3 at *
  obtain ⟨p, hp⟩ := hv3.svAt hk3.out
  obtain ⟨gs, cs, hgs⟩ := hv3.headS (by have := (List.getElem?_eq_some_iff.1 hk3.out).1; omega)
  have hkl0 := (List.getElem?_eq_some_iff.1 hk3.out).1
  have hkl1 : (k : Int) < (D3.spans.length : Int) := by omega
  have g4 := hv3.cell 4 (.slice (some ⟨gs, 0, none⟩) D3.spans.length cs) (by rw [← hgs]; rfl)
  have f4 := hv3.frz 4
  have hsm := hl3.out
  have hoS := hv3.own.ownS
  rw [hgs] at hoS
  have hsr := Lib.hid (own_src hoS)
  have hrs := Lib.hid (show RdSpan w3 gs (k * 6) s3 from by
    obtain ⟨x0, x1, x2, x3, x4, x5⟩ := hv3.six hgs hk3.out hp
    have hi := hv3.own.inner k s3 p hk3.out hp
    exact ⟨_, _, x0, x1, x2, x3, x4, x5, Rd.of_owns hi.1, Rd.of_owns hi.2⟩)
  have hus := Lib.hid (usedSlots_any gs (k * 6) s3 w3 hrs.out)
  have hei := Lib.hid (empty_iff s3)
  have hcl := usedCnt_le s3 s3.lens.length
  have h16 := hu16.out
  have hv3' := Lib.hid hv3
  have hwo := Lib.hid (withoutSpan_any (some ⟨gs, 0, none⟩) D3.spans.length cs k (flatV D3.spans _) hsr.out.2.1 hsr.out.2.2.1 hsm hkl0 w3 hsr.out.2.2.2)
  clear hv3 hp hgs hoS
  go_wp2_with fail
  refine hus.out.mono ?_
  rintro e w' ⟨rfl, rfl⟩
  generalize usedCnt s3 s3.lens.length = u at *
  by_cases he : u = 0
  · have y := Lib.hid (y1.out (hei.out.1 he))
    have hu0 : ((u : Int) == 0) = true := by rw [he]; rfl
    clear he
    go_wp2_with fail
    refine hwo.out.mono ?_
    rintro e w5 ⟨v5, rfl, hr5, b5⟩
    have hv5 := hv3'.out.below b5
    have hx5 := hv5.erase (n0 := w3.heap.size) hv3'.out.lt hkl0 hr5
    obtain ⟨a5, c5, rfl⟩ := own_slice hr5
    have g45 := cell_below b5 g4
    have f45 : w5.frozen? ⟨w2.heap.size, 4, none⟩ = false := (b5.frozen (p := ⟨w2.heap.size, 4, none⟩) hv3'.out.lt).trans f4
    obtain ⟨S5, hv⟩ := hx5.1
    have bbe := Lib.hid ((below_trans bb3.out b5).trans (hx5.2.mono (by have := hz1.out; omega)))
    have hRe := (heap_setCell_other w5 ⟨w2.heap.size, 4, none⟩ (w.heap.size + 1) (.slice a5 (k + (D3.spans.length - (k + 1))) c5) (by simpa using hRne')).trans (heap_below b5 hR3.out)
    clear b5 hr5 hv5 hx5 g4 f4
    go_upto_region 8 with fail
    clear g45 f45
    generalize ({ D3 with spans := D3.spans.eraseIdx k } : WD) = E at *
    generalize w5.setCell ⟨w2.heap.size, 4, none⟩ (.slice a5 (k + (D3.spans.length - (k + 1))) c5) = w6 at *
    obtain ⟨aw', ad', aS', am', ag', cw', cd', cS', cm', cg', sv', mv', rfl⟩ := Shape.lits hv.own
    have bE := hv.box
    dsimp only [Shape.cells] at bE
    have n0 := cell_of_heap hRe 0 _ rfl
    have n1 := cell_of_heap hRe 1 _ rfl
    have n2 := cell_of_heap hRe 2 _ rfl
    have n3 := cell_of_heap hRe 3 _ rfl
    have n4 := cell_of_heap hRe 4 _ rfl
    have n5 := cell_of_heap hRe 5 _ rfl
    have n6 := cell_of_heap hRe 6 _ rfl
    have n7 := cell_of_heap hRe 7 _ rfl
    have n8 := cell_of_heap hRe 8 _ rfl
    have z0 := frozen_of_heap hRe 0
    have z1 := frozen_of_heap hRe 1
    have z2 := frozen_of_heap hRe 2
    have z3 := frozen_of_heap hRe 3
    have z4 := frozen_of_heap hRe 4
    have z5 := frozen_of_heap hRe 5
    have z6 := frozen_of_heap hRe 6
    have z7 := frozen_of_heap hRe 7
    have z8 := frozen_of_heap hRe 8
    have m0 := cell_of_heap bE 0 _ rfl
    have m1 := cell_of_heap bE 1 _ rfl
    have m2 := cell_of_heap bE 2 _ rfl
    have m3 := cell_of_heap bE 3 _ rfl
    have m4 := cell_of_heap bE 4 _ rfl
    have m5 := cell_of_heap bE 5 _ rfl
    have m6 := cell_of_heap bE 6 _ rfl
    have m7 := cell_of_heap bE 7 _ rfl
    have m8 := cell_of_heap bE 8 _ rfl
    have hv' := Lib.hid hv
    clear hv bE hRe
    go_wp2_with fail
    refine bodyPost_ret (v := .tuple #[.agg #[.int .i64 E.base, .int .i64 E.pages, .slice aw' E.words.length cw', .slice ad' E.dirty.length cd', .slice aS' E.spans.length cS', .slice am' E.muts.length cm', .int .i64 E.phase, .int .i64 E.next, .slice ag' E.grey.length cg'], .bool true]) (by simp [results, Try.results27, go_sem, n0, n1, n2, n3, n4, n5, n6, n7, n8]) rfl ?_
    exact ⟨_, E, true, y.out, rfl, hv'.out.handed bbe.out (R := w.heap.size + 1) (by omega) (by have := hz1.out; omega) ((((((((((Chg.refl _ _).put (b := w.heap.size + 1) (by simp) 0 _).put (b := w.heap.size + 1) (by simp) 1 _).put (b := w.heap.size + 1) (by simp) 2 _).put (b := w.heap.size + 1) (by simp) 3 _).put (b := w.heap.size + 1) (by simp) 4 _).put (b := w.heap.size + 1) (by simp) 5 _).put (b := w.heap.size + 1) (by simp) 6 _).put (b := w.heap.size + 1) (by simp) 7 _).put (b := w.heap.size + 1) (by simp) 8 _)⟩
  · have y := Lib.hid (y2.out (fun h => he (hei.out.2 h)))
    have hu0 : ((u : Int) == 0) = false := beq_eq_false_iff_ne.2 (by omega)
    obtain ⟨E, hE⟩ : ∃ E, E = D3 := ⟨_, rfl⟩
    subst hE
    obtain ⟨S5, hv⟩ : ∃ S5, VarW w3 w1.heap.size w2.heap.size S5 E := ⟨_, hv3'.out⟩
    have bbe := bb3
    have hRe := hR3.out
    clear he g4 f4
    go_upto_region 8 with fail
    obtain ⟨aw', ad', aS', am', ag', cw', cd', cS', cm', cg', sv', mv', rfl⟩ := Shape.lits hv.own
    have bE := hv.box
    dsimp only [Shape.cells] at bE
    have n0 := cell_of_heap hRe 0 _ rfl
    have n1 := cell_of_heap hRe 1 _ rfl
    have n2 := cell_of_heap hRe 2 _ rfl
    have n3 := cell_of_heap hRe 3 _ rfl
    have n4 := cell_of_heap hRe 4 _ rfl
    have n5 := cell_of_heap hRe 5 _ rfl
    have n6 := cell_of_heap hRe 6 _ rfl
    have n7 := cell_of_heap hRe 7 _ rfl
    have n8 := cell_of_heap hRe 8 _ rfl
    have z0 := frozen_of_heap hRe 0
    have z1 := frozen_of_heap hRe 1
    have z2 := frozen_of_heap hRe 2
    have z3 := frozen_of_heap hRe 3
    have z4 := frozen_of_heap hRe 4
    have z5 := frozen_of_heap hRe 5
    have z6 := frozen_of_heap hRe 6
    have z7 := frozen_of_heap hRe 7
    have z8 := frozen_of_heap hRe 8
    have m0 := cell_of_heap bE 0 _ rfl
    have m1 := cell_of_heap bE 1 _ rfl
    have m2 := cell_of_heap bE 2 _ rfl
    have m3 := cell_of_heap bE 3 _ rfl
    have m4 := cell_of_heap bE 4 _ rfl
    have m5 := cell_of_heap bE 5 _ rfl
    have m6 := cell_of_heap bE 6 _ rfl
    have m7 := cell_of_heap bE 7 _ rfl
    have m8 := cell_of_heap bE 8 _ rfl
    have hv' := Lib.hid hv
    clear hv bE hRe
    go_wp2_with fail
    refine bodyPost_ret (v := .tuple #[.agg #[.int .i64 E.base, .int .i64 E.pages, .slice aw' E.words.length cw', .slice ad' E.dirty.length cd', .slice aS' E.spans.length cS', .slice am' E.muts.length cm', .int .i64 E.phase, .int .i64 E.next, .slice ag' E.grey.length cg'], .bool true]) (by simp [results, Try.results27, go_sem, n0, n1, n2, n3, n4, n5, n6, n7, n8]) rfl ?_
    exact ⟨_, E, true, y.out, rfl, hv'.out.handed bbe.out (R := w.heap.size + 1) (by omega) (by have := hz1.out; omega) ((((((((((Chg.refl _ _).put (b := w.heap.size + 1) (by simp) 0 _).put (b := w.heap.size + 1) (by simp) 1 _).put (b := w.heap.size + 1) (by simp) 2 _).put (b := w.heap.size + 1) (by simp) 3 _).put (b := w.heap.size + 1) (by simp) 4 _).put (b := w.heap.size + 1) (by simp) 5 _).put (b := w.heap.size + 1) (by simp) 6 _).put (b := w.heap.size + 1) (by simp) 7 _).put (b := w.heap.size + 1) (by simp) 8 _)⟩
end Go.Proofs.Ytpcefecedmdmkaa
