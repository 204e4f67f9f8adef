import Derived.Test.YtlcaanafmkelaaaPkSTake2

/-
  The contract of the model's Give.
-/
namespace Go.Proofs.Ytlcaanafmkelaaa
open Go.RowKit
set_option linter.unusedVariables false

theorem Find.some {D : WD} {addr r q : Int} (h : (∃ k j : Nat, HeapForm D ∧ IsObj D addr k j ∧ r = k ∧ q = j) ∨ ((HeapForm D → ∀ k j, ¬ IsObj D addr k j) ∧ r = -1 ∧ q = -1)) :
    (∃ (k j : Nat) (s : SpanD), HeapForm D ∧ IsObj D addr k j ∧ D.spans[k]? = some s ∧ j < s.lens.length ∧ r = k ∧ q = j) ∨ (GiveIs D addr zeroD false ∧ r = -1 ∧ q = -1) := by
  rcases h with ⟨k, j, hF, ho, rfl, rfl⟩ | ⟨hn, rfl, rfl⟩
  · obtain ⟨s, hs, hj, h2⟩ := ho
    exact .inl ⟨k, j, s, hF, ⟨s, hs, hj, h2⟩, hs, hj, rfl, rfl⟩
  · exact .inr ⟨.inr ⟨hn, rfl, rfl⟩, rfl, rfl⟩
set_option maxRecDepth 100000 in
set_option maxHeartbeats 16000000 in
theorem sgiveT_any (v : Value) (D : WD) (addr : Int) (hs : Small D) (w : World) (hr : RdW w v D) :
    Calls Try.prog 12 #[v, .int .i64 addr] w fun e w' => ∃ S D' f, GiveIs D addr D' f ∧ e = .returned (.tuple #[S.val D', .bool f]) ∧ OwnW w' w.heap.size S D' ∧ Below w.heap.size w w' := by
  have hs' := Lib.hid hs
  clear hs
  obtain ⟨vw, vd, vs, vm, vg, rfl, a1, a2, a3, a4, a5⟩ := hr
  have bb := below_trans (below_box w (.cells #[.int .i64 D.base, .int .i64 D.pages, vw, vd, vs, vm, .int .i64 D.phase, .int .i64 D.next, vg] 35)) (below_box _ (.cells #[.int .i64 0, .int .i64 0, .slice none 0 0, .slice none 0 0, .slice none 0 0, .slice none 0 0, .int .i64 0, .int .i64 0, .slice none 0 0] 35))
  have hA := heap_below (below_box (w.alloc (.cells #[.int .i64 D.base, .int .i64 D.pages, vw, vd, vs, vm, .int .i64 D.phase, .int .i64 D.next, vg] 35)) (.cells #[.int .i64 0, .int .i64 0, .slice none 0 0, .slice none 0 0, .slice none 0 0, .slice none 0 0, .int .i64 0, .int .i64 0, .slice none 0 0] 35)) (box_new w (.cells #[.int .i64 D.base, .int .i64 D.pages, vw, vd, vs, vm, .int .i64 D.phase, .int .i64 D.next, vg] 35))
  have hR := box_new (w.alloc (.cells #[.int .i64 D.base, .int .i64 D.pages, vw, vd, vs, vm, .int .i64 D.phase, .int .i64 D.next, vg] 35)) (.cells #[.int .i64 0, .int .i64 0, .slice none 0 0, .slice none 0 0, .slice none 0 0, .slice none 0 0, .int .i64 0, .int .i64 0, .slice none 0 0] 35)
  rw [World.size_alloc] at hR
  have hW := Lib.hid (show RdW ((w.alloc (.cells #[.int .i64 D.base, .int .i64 D.pages, vw, vd, vs, vm, .int .i64 D.phase, .int .i64 D.next, vg] 35)).alloc (.cells #[.int .i64 0, .int .i64 0, .slice none 0 0, .slice none 0 0, .slice none 0 0, .slice none 0 0, .int .i64 0, .int .i64 0, .slice none 0 0] 35)) (.agg #[.int .i64 D.base, .int .i64 D.pages, vw, vd, vs, vm, .int .i64 D.phase, .int .i64 D.next, vg]) D from ⟨vw, vd, vs, vm, vg, rfl, a1.below bb, a2.below bb, a3.below bb, a4.below bb, a5.below bb⟩)
  have bb' := Lib.hid bb
  have hA' := Lib.hid hA
  have hR' := Lib.hid hR
  have hz := Lib.hid (show ((w.alloc (.cells #[.int .i64 D.base, .int .i64 D.pages, vw, vd, vs, vm, .int .i64 D.phase, .int .i64 D.next, vg] 35)).alloc (.cells #[.int .i64 0, .int .i64 0, .slice none 0 0, .slice none 0 0, .slice none 0 0, .slice none 0 0, .int .i64 0, .int .i64 0, .slice none 0 0] 35)).heap.size = w.heap.size + 1 + 1 by simp)
  clear a1 a2 a3 a4 a5 bb hA hR
  go_enter Try.func12, Try.ntmps12
  go_wp2_with fail
  generalize (w.alloc (.cells #[.int .i64 D.base, .int .i64 D.pages, vw, vd, vs, vm, .int .i64 D.phase, .int .i64 D.next, vg] 35)).alloc (.cells #[.int .i64 0, .int .i64 0, .slice none 0 0, .slice none 0 0, .slice none 0 0, .slice none 0 0, .int .i64 0, .int .i64 0, .slice none 0 0] 35) = W at *
  refine (find_any _ D addr _ hW.out).mono ?_
  rintro e w1 ⟨⟨r, q, rfl, hq⟩, b1⟩
  have hR1 := heap_below b1 hR'.out
  have hA1 := heap_below b1 hA'.out
  have bb1 := Lib.hid (below_trans bb'.out b1)
  have hW1 := Lib.hid (hW.out.below b1)
  have hz1 := Lib.hid (show w.heap.size + 1 + 1 ≤ w1.heap.size by have := hz.out; have := b1.size; omega)
  clear b1
  rcases Find.some hq with ⟨k, j, s, hF, ho, hks, hj, rfl, rfl⟩ | ⟨y, rfl, rfl⟩
  case inr =>
    have y := Lib.hid y
    have n0 := cell_of_heap hR1 0 _ rfl
    have n1 := cell_of_heap hR1 1 _ rfl
    have n2 := cell_of_heap hR1 2 _ rfl
    have n3 := cell_of_heap hR1 3 _ rfl
    have n4 := cell_of_heap hR1 4 _ rfl
    have n5 := cell_of_heap hR1 5 _ rfl
    have n6 := cell_of_heap hR1 6 _ rfl
    have n7 := cell_of_heap hR1 7 _ rfl
    have n8 := cell_of_heap hR1 8 _ rfl
    have z0 := frozen_of_heap hR1 0
    have z1 := frozen_of_heap hR1 1
    have z2 := frozen_of_heap hR1 2
    have z3 := frozen_of_heap hR1 3
    have z4 := frozen_of_heap hR1 4
    have z5 := frozen_of_heap hR1 5
    have z6 := frozen_of_heap hR1 6
    have z7 := frozen_of_heap hR1 7
    have z8 := frozen_of_heap hR1 8
    clear hR1 hA1 hq
    go_wp2_with fail
    refine bodyPost_ret (v := .tuple #[zeroS.val zeroD, .bool false]) (by simp [results, Try.results12, go_sem, n0, n1, n2, n3, n4, n5, n6, n7, n8, Shape.val, zeroS, zeroD]) rfl ?_
    exact ⟨zeroS, zeroD, false, y.out, rfl, own_zero _ _, Chg.below (bs := [w.heap.size + 1]) bb1.out ((((((((((Chg.refl _ _).put (b := w.heap.size + 1) (by simp) 0 _).put (b := w.heap.size + 1) (by simp) 1 _).put (b := w.heap.size + 1) (by simp) 2 _).put (b := w.heap.size + 1) (by simp) 3 _).put (b := w.heap.size + 1) (by simp) 4 _).put (b := w.heap.size + 1) (by simp) 5 _).put (b := w.heap.size + 1) (by simp) 6 _).put (b := w.heap.size + 1) (by simp) 7 _).put (b := w.heap.size + 1) (by simp) 8 _) bb1.out.size (fun q hq => by rw [List.mem_singleton.1 hq]; omega)⟩
  have hF' := Lib.hid hF
  have ho' := Lib.hid ho
  have hks' := Lib.hid hks
  have hin := Lib.hid (hF.slotIn hks hj)
  have hown := Lib.hid (sown_any _ D hs'.out w1 hW1.out)
  have hsp := Lib.hid (show D.spans.length ≤ 1000 by have := hF.spans; have := hF.geo.2.2.2.2.1; omega)
  have f0 := cell_of_heap hA1 0 _ rfl
  have f1 := cell_of_heap hA1 1 _ rfl
  have f2 := cell_of_heap hA1 2 _ rfl
  have f3 := cell_of_heap hA1 3 _ rfl
  have f4 := cell_of_heap hA1 4 _ rfl
  have f5 := cell_of_heap hA1 5 _ rfl
  have f6 := cell_of_heap hA1 6 _ rfl
  have f7 := cell_of_heap hA1 7 _ rfl
  have f8 := cell_of_heap hA1 8 _ rfl
  have hR1' := Lib.hid hR1
  clear hq hR1 hA1 hF ho hks
  go_wp2_with fail
  refine hown.out.mono ?_
  rintro e w2 ⟨S, rfl, ho, b2⟩
  obtain ⟨aw, ad, aS, am, ag, cw, cd, cS, cm, cg, sv, mv, rfl⟩ := Shape.lits ho
  have hv := Lib.hid (VarW.mk_box ho b2.size)
  have bb2 := Lib.hid (below_trans bb1.out b2)
  have hR2 := Lib.hid (heap_below (below_trans b2 (below_box w2 (.cells (Shape.cells ⟨.slice aw D.words.length cw, .slice ad D.dirty.length cd, .slice aS D.spans.length cS, .slice am D.muts.length cm, .slice ag D.grey.length cg, sv, mv⟩ D) 35))) hR1'.out)
  clear ho b2 hown f0 f1 f2 f3 f4 f5 f6 f7 f8
  have hbs := Lib.hid (show w1.heap.size ≤ w2.heap.size from hv.out.le)
  have hRne : ¬ (w2.heap.size = w.heap.size + 1) := by have := hz1.out; have := hbs.out; omega
  have hRne' : ¬ (w.heap.size + 1 = w2.heap.size) := by omega
  dsimp only [Shape.val]
  dsimp only [Shape.cells] at hv hR2
  go_wp2_with fail
  refine (sgive_any _ _ _ D k j s hks'.out hin.out _ hv.out).mono ?_
  rintro e w3 ⟨rfl, hv3, b3⟩
  have bb3 := Lib.hid (show Below w.heap.size w w3 from (below_trans bb2.out (below_box w2 _)).trans (b3.mono (by have := hz1.out; omega)))
  have hR3 := Lib.hid ((b3.block (w.heap.size + 1) (by have := hz1.out; omega)).trans hR2.out)
  have hk3 := Lib.hid (show (giveD D k s j).spans[k]? = some (giveS s j) from set_at hks'.out)
  have hl3 := Lib.hid (show (giveD D k s j).spans.length ≤ 1000 by rw [(giveD_bulk hks'.out).2]; exact hsp.out)
  have y1 := Lib.hid (show EmptyS (giveS s j) → GiveIs D addr { giveD D k s j with spans := (giveD D k s j).spans.eraseIdx k } true from fun h => .inl ⟨k, j, s, hF'.out, ho'.out, hks'.out, rfl, .inl ⟨h, rfl⟩⟩)
  have y2 := Lib.hid (show ¬ EmptyS (giveS s j) → GiveIs D addr (giveD D k s j) true from fun h => .inl ⟨k, j, s, hF'.out, ho'.out, hks'.out, rfl, .inr ⟨h, rfl⟩⟩)
  clear b3 hv
  generalize giveD D k s j = D3 at *
  generalize giveS s j = s3 at *
  obtain ⟨p, hp⟩ := hv3.svAt hk3.out
  obtain ⟨gs, cs, hgs⟩ := hv3.headS (by have := (List.getElem?_eq_some_iff.1 hk3.out).1; omega)
  have hkl1 : (k : Int) < (D3.spans.length : Int) := by have := (List.getElem?_eq_some_iff.1 hk3.out).1; omega
  have g4 := hv3.cell 4 (.slice (some ⟨gs, 0, none⟩) D3.spans.length cs) (by rw [← hgs]; rfl)
  obtain ⟨x0, x1, x2, x3, x4, x5⟩ := hv3.six hgs hk3.out hp
  have hsm := hl3.out
  have hlr := Lib.hid (Rd.of_owns (hv3.own.inner k s3 p hk3.out hp).1)
  have hempty := Lib.hid (sempty_any s3 p.1 p.2 w3 hlr.out)
  have hv3' := Lib.hid hv3
  clear hv3 hp hgs
  go_wp2_with fail
  refine hempty.out.mono ?_
  rintro e w4 ⟨hq, b4⟩
  have hq := hq.elim
  have hv4 := Lib.hid (hv3'.out.below b4)
  have bb4 := Lib.hid (below_trans bb3.out b4)
  have hR4 := Lib.hid (heap_below b4 hR3.out)
  clear b4 g4 x0 x1 x2 x3 x4 x5
  rcases hq with ⟨he, rfl⟩ | ⟨he, rfl⟩
  · have y := Lib.hid (y1.out he)
    clear he
    go_wp2_with fail
    refine (sdrop_any _ _ _ D3 k s3 hk3.out hl3.out w4 hv4.out).mono ?_
    rintro e w5 ⟨rfl, ⟨S5, hv⟩, b5⟩
    have bbe := Lib.hid (bb4.out.trans (b5.mono (by have := hz1.out; omega)))
    have hRe := (b5.block (w.heap.size + 1) (by have := hz1.out; omega)).trans hR4.out
    clear b5
    generalize ({ D3 with spans := D3.spans.eraseIdx k } : WD) = E at *
    obtain ⟨aw', ad', aS', am', ag', cw', cd', cS', cm', cg', sv', mv', rfl⟩ := Shape.lits hv.own
    have bE := hv.box
    dsimp only [Shape.cells] at bE
    have n0 := cell_of_heap hRe 0 _ rfl
    have n1 := cell_of_heap hRe 1 _ rfl
    have n2 := cell_of_heap hRe 2 _ rfl
    have n3 := cell_of_heap hRe 3 _ rfl
    have n4 := cell_of_heap hRe 4 _ rfl
    have n5 := cell_of_heap hRe 5 _ rfl
    have n6 := cell_of_heap hRe 6 _ rfl
    have n7 := cell_of_heap hRe 7 _ rfl
    have n8 := cell_of_heap hRe 8 _ rfl
    have z0 := frozen_of_heap hRe 0
    have z1 := frozen_of_heap hRe 1
    have z2 := frozen_of_heap hRe 2
    have z3 := frozen_of_heap hRe 3
    have z4 := frozen_of_heap hRe 4
    have z5 := frozen_of_heap hRe 5
    have z6 := frozen_of_heap hRe 6
    have z7 := frozen_of_heap hRe 7
    have z8 := frozen_of_heap hRe 8
    have m0 := cell_of_heap bE 0 _ rfl
    have m1 := cell_of_heap bE 1 _ rfl
    have m2 := cell_of_heap bE 2 _ rfl
    have m3 := cell_of_heap bE 3 _ rfl
    have m4 := cell_of_heap bE 4 _ rfl
    have m5 := cell_of_heap bE 5 _ rfl
    have m6 := cell_of_heap bE 6 _ rfl
    have m7 := cell_of_heap bE 7 _ rfl
    have m8 := cell_of_heap bE 8 _ rfl
    have hv' := Lib.hid hv
    clear hv bE hRe
    go_wp2_with fail
    refine bodyPost_ret (v := .tuple #[.agg #[.int .i64 E.base, .int .i64 E.pages, .slice aw' E.words.length cw', .slice ad' E.dirty.length cd', .slice aS' E.spans.length cS', .slice am' E.muts.length cm', .int .i64 E.phase, .int .i64 E.next, .slice ag' E.grey.length cg'], .bool true]) (by simp [results, Try.results12, go_sem, n0, n1, n2, n3, n4, n5, n6, n7, n8]) rfl ?_
    exact ⟨_, E, true, y.out, rfl, hv'.out.handed bbe.out (R := w.heap.size + 1) (by omega) (by have := hz1.out; omega) ((((((((((Chg.refl _ _).put (b := w.heap.size + 1) (by simp) 0 _).put (b := w.heap.size + 1) (by simp) 1 _).put (b := w.heap.size + 1) (by simp) 2 _).put (b := w.heap.size + 1) (by simp) 3 _).put (b := w.heap.size + 1) (by simp) 4 _).put (b := w.heap.size + 1) (by simp) 5 _).put (b := w.heap.size + 1) (by simp) 6 _).put (b := w.heap.size + 1) (by simp) 7 _).put (b := w.heap.size + 1) (by simp) 8 _)⟩
  · have y := Lib.hid (y2.out he)
    obtain ⟨E, hE⟩ : ∃ E, E = D3 := ⟨_, rfl⟩
    subst hE
    obtain ⟨S5, hv⟩ : ∃ S5, VarW w4 w1.heap.size w2.heap.size S5 E := ⟨_, hv4.out⟩
    have bbe := bb4
    have hRe := hR4.out
    clear he
    obtain ⟨aw', ad', aS', am', ag', cw', cd', cS', cm', cg', sv', mv', rfl⟩ := Shape.lits hv.own
    have bE := hv.box
    dsimp only [Shape.cells] at bE
    have n0 := cell_of_heap hRe 0 _ rfl
    have n1 := cell_of_heap hRe 1 _ rfl
    have n2 := cell_of_heap hRe 2 _ rfl
    have n3 := cell_of_heap hRe 3 _ rfl
    have n4 := cell_of_heap hRe 4 _ rfl
    have n5 := cell_of_heap hRe 5 _ rfl
    have n6 := cell_of_heap hRe 6 _ rfl
    have n7 := cell_of_heap hRe 7 _ rfl
    have n8 := cell_of_heap hRe 8 _ rfl
    have z0 := frozen_of_heap hRe 0
    have z1 := frozen_of_heap hRe 1
    have z2 := frozen_of_heap hRe 2
    have z3 := frozen_of_heap hRe 3
    have z4 := frozen_of_heap hRe 4
    have z5 := frozen_of_heap hRe 5
    have z6 := frozen_of_heap hRe 6
    have z7 := frozen_of_heap hRe 7
    have z8 := frozen_of_heap hRe 8
    have m0 := cell_of_heap bE 0 _ rfl
    have m1 := cell_of_heap bE 1 _ rfl
    have m2 := cell_of_heap bE 2 _ rfl
    have m3 := cell_of_heap bE 3 _ rfl
    have m4 := cell_of_heap bE 4 _ rfl
    have m5 := cell_of_heap bE 5 _ rfl
    have m6 := cell_of_heap bE 6 _ rfl
    have m7 := cell_of_heap bE 7 _ rfl
    have m8 := cell_of_heap bE 8 _ rfl
    have hv' := Lib.hid hv
    clear hv bE hRe
    go_wp2_with fail
    refine bodyPost_ret (v := .tuple #[.agg #[.int .i64 E.base, .int .i64 E.pages, .slice aw' E.words.length cw', .slice ad' E.dirty.length cd', .slice aS' E.spans.length cS', .slice am' E.muts.length cm', .int .i64 E.phase, .int .i64 E.next, .slice ag' E.grey.length cg'], .bool true]) (by simp [results, Try.results12, go_sem, n0, n1, n2, n3, n4, n5, n6, n7, n8]) rfl ?_
    exact ⟨_, E, true, y.out, rfl, hv'.out.handed bbe.out (R := w.heap.size + 1) (by omega) (by have := hz1.out; omega) ((((((((((Chg.refl _ _).put (b := w.heap.size + 1) (by simp) 0 _).put (b := w.heap.size + 1) (by simp) 1 _).put (b := w.heap.size + 1) (by simp) 2 _).put (b := w.heap.size + 1) (by simp) 3 _).put (b := w.heap.size + 1) (by simp) 4 _).put (b := w.heap.size + 1) (by simp) 5 _).put (b := w.heap.size + 1) (by simp) 6 _).put (b := w.heap.size + 1) (by simp) 7 _).put (b := w.heap.size + 1) (by simp) 8 _)⟩
end Go.Proofs.Ytlcaanafmkelaaa
