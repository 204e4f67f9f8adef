import Derived.Test.YtajogfnlbdiokaaMgA
import Derived.Test.YtajogfnlbdiokaaISoil
import Derived.Test.YtajogfnlbdiokaaTakeD
import Derived.Lib.SliceRun
import Derived.Deep.DeepCutAuto
import Derived.Deep.CutRange
import Derived.Outline
import Derived.Test.YtajogfnlbdiokaaCut
import Derived.StillTailTactics
import Derived.Test.YtajogfnlbdiokaaImplE
import Derived.Maps.OwnSet
import Derived.Maps.OwnOps
import Derived.Test.YtajogfnlbdiokaaVar
import Derived.Deep.RegionWith
import Derived.Test.YtajogfnlbdiokaaWData
import Derived.OpenShut
import Derived.ShutString
import Derived.ChangeOld
import Derived.Deep.Slices
import Derived.Deep.Grids
import Derived.ProofKit
import Derived.Below

/-
  The contract of the model's Give.
-/
namespace Go.Proofs.Ytajogfnlbdiokaa
open Go.RowKit
set_option linter.unusedVariables false

theorem Find.some {D : WD} {addr r q : Int} (h : (∃ k j : Nat, HeapForm D ∧ IsObj D addr k j ∧ r = k ∧ q = j) ∨ ((HeapForm D → ∀ k j, ¬ IsObj D addr k j) ∧ r = -1 ∧ q = -1)) :
    (∃ (k j : Nat) (s : SpanD), HeapForm D ∧ IsObj D addr k j ∧ D.spans[k]? = some s ∧ j < s.lens.length ∧ r = k ∧ q = j) ∨ (GiveIs D addr zeroD false ∧ r = -1 ∧ q = -1) := by
  rcases h with ⟨k, j, hF, ho, rfl, rfl⟩ | ⟨hn, rfl, rfl⟩
  · obtain ⟨s, hs, hj, h2⟩ := ho
    exact .inl ⟨k, j, s, hF, ⟨s, hs, hj, h2⟩, hs, hj, rfl, rfl⟩
  · exact .inr ⟨.inr ⟨hn, rfl, rfl⟩, rfl, rfl⟩
set_option maxRecDepth 100000 in
set_option maxHeartbeats 16000000 in
theorem sgiveT_any (v : Value) (D : WD) (addr : Int) (hs : Small D) (w : World) (hr : RdW w v D) :
    Calls Try.prog 26 #[v, .int .i64 addr] w fun e w' => ∃ S D' f, GiveIs D addr D' f ∧ e = .returned (.tuple #[S.val D', .bool f]) ∧ OwnW w' w.heap.size S D' ∧ Below w.heap.size w w' := by
  have hs' := Lib.hid hs
  clear hs
  obtain ⟨vw, vd, vs, vm, vg, rfl, a1, a2, a3, a4, a5⟩ := hr
  have bb := below_trans (below_box w (.cells #[.int .i64 D.base, .int .i64 D.pages, vw, vd, vs, vm, .int .i64 D.phase, .int .i64 D.next, vg] 32)) (below_box _ (.cells #[.int .i64 0, .int .i64 0, .slice none 0 0, .slice none 0 0, .slice none 0 0, .slice none 0 0, .int .i64 0, .int .i64 0, .slice none 0 0] 32))
  have hA := heap_below (below_box (w.alloc (.cells #[.int .i64 D.base, .int .i64 D.pages, vw, vd, vs, vm, .int .i64 D.phase, .int .i64 D.next, vg] 32)) (.cells #[.int .i64 0, .int .i64 0, .slice none 0 0, .slice none 0 0, .slice none 0 0, .slice none 0 0, .int .i64 0, .int .i64 0, .slice none 0 0] 32)) (box_new w (.cells #[.int .i64 D.base, .int .i64 D.pages, vw, vd, vs, vm, .int .i64 D.phase, .int .i64 D.next, vg] 32))
  have hR := box_new (w.alloc (.cells #[.int .i64 D.base, .int .i64 D.pages, vw, vd, vs, vm, .int .i64 D.phase, .int .i64 D.next, vg] 32)) (.cells #[.int .i64 0, .int .i64 0, .slice none 0 0, .slice none 0 0, .slice none 0 0, .slice none 0 0, .int .i64 0, .int .i64 0, .slice none 0 0] 32)
  rw [World.size_alloc] at hR
  have hW := Lib.hid (show RdW ((w.alloc (.cells #[.int .i64 D.base, .int .i64 D.pages, vw, vd, vs, vm, .int .i64 D.phase, .int .i64 D.next, vg] 32)).alloc (.cells #[.int .i64 0, .int .i64 0, .slice none 0 0, .slice none 0 0, .slice none 0 0, .slice none 0 0, .int .i64 0, .int .i64 0, .slice none 0 0] 32)) (.agg #[.int .i64 D.base, .int .i64 D.pages, vw, vd, vs, vm, .int .i64 D.phase, .int .i64 D.next, vg]) D from ⟨vw, vd, vs, vm, vg, rfl, a1.below bb, a2.below bb, a3.below bb, a4.below bb, a5.below bb⟩)
  have bb' := Lib.hid bb
  have hA' := Lib.hid hA
  have hR' := Lib.hid hR
  have hz := Lib.hid (show ((w.alloc (.cells #[.int .i64 D.base, .int .i64 D.pages, vw, vd, vs, vm, .int .i64 D.phase, .int .i64 D.next, vg] 32)).alloc (.cells #[.int .i64 0, .int .i64 0, .slice none 0 0, .slice none 0 0, .slice none 0 0, .slice none 0 0, .int .i64 0, .int .i64 0, .slice none 0 0] 32)).heap.size = w.heap.size + 1 + 1 by simp)
  clear a1 a2 a3 a4 a5 bb hA hR
  go_enter Try.func26, Try.ntmps26
  go_wp2_with fail
  generalize (w.alloc (.cells #[.int .i64 D.base, .int .i64 D.pages, vw, vd, vs, vm, .int .i64 D.phase, .int .i64 D.next, vg] 32)).alloc (.cells #[.int .i64 0, .int .i64 0, .slice none 0 0, .slice none 0 0, .slice none 0 0, .slice none 0 0, .int .i64 0, .int .i64 0, .slice none 0 0] 32) = W at *
  refine (find_any _ D addr _ hW.out).mono ?_
  rintro e w1 ⟨⟨r, q, rfl, hq⟩, b1⟩
  have hR1 := heap_below b1 hR'.out
  have hA1 := heap_below b1 hA'.out
  have bb1 := Lib.hid (below_trans bb'.out b1)
  have hW1 := Lib.hid (hW.out.below b1)
  have hz1 := Lib.hid (show w.heap.size + 1 + 1 ≤ w1.heap.size by have := hz.out; have := b1.size; omega)
  clear b1
  rcases Find.some hq with ⟨k, j, s, hF, ho, hks, hj, rfl, rfl⟩ | ⟨y, rfl, rfl⟩
  case inr =>
    have y := Lib.hid y
    have n0 := cell_of_heap hR1 0 _ rfl
    have n1 := cell_of_heap hR1 1 _ rfl
    have n2 := cell_of_heap hR1 2 _ rfl
    have n3 := cell_of_heap hR1 3 _ rfl
    have n4 := cell_of_heap hR1 4 _ rfl
    have n5 := cell_of_heap hR1 5 _ rfl
    have n6 := cell_of_heap hR1 6 _ rfl
    have n7 := cell_of_heap hR1 7 _ rfl
    have n8 := cell_of_heap hR1 8 _ rfl
    have z0 := frozen_of_heap hR1 0
    have z1 := frozen_of_heap hR1 1
    have z2 := frozen_of_heap hR1 2
    have z3 := frozen_of_heap hR1 3
    have z4 := frozen_of_heap hR1 4
    have z5 := frozen_of_heap hR1 5
    have z6 := frozen_of_heap hR1 6
    have z7 := frozen_of_heap hR1 7
    have z8 := frozen_of_heap hR1 8
    clear hR1 hA1 hq
    go_wp2_with fail
    refine bodyPost_ret (v := .tuple #[zeroS.val zeroD, .bool false]) (by simp [results, Try.results26, go_sem, n0, n1, n2, n3, n4, n5, n6, n7, n8, Shape.val, zeroS, zeroD]) rfl ?_
    exact ⟨zeroS, zeroD, false, y.out, rfl, own_zero _ _, Chg.below (bs := [w.heap.size + 1]) bb1.out ((((((((((Chg.refl _ _).put (b := w.heap.size + 1) (by simp) 0 _).put (b := w.heap.size + 1) (by simp) 1 _).put (b := w.heap.size + 1) (by simp) 2 _).put (b := w.heap.size + 1) (by simp) 3 _).put (b := w.heap.size + 1) (by simp) 4 _).put (b := w.heap.size + 1) (by simp) 5 _).put (b := w.heap.size + 1) (by simp) 6 _).put (b := w.heap.size + 1) (by simp) 7 _).put (b := w.heap.size + 1) (by simp) 8 _) bb1.out.size (fun q hq => by rw [List.mem_singleton.1 hq]; omega)⟩
  have hF' := Lib.hid hF
  have ho' := Lib.hid ho
  have hks' := Lib.hid hks
  have hin := Lib.hid (hF.slotIn hks hj)
  have hown := Lib.hid (sown_any _ D hs'.out w1 hW1.out)
  have hsp := Lib.hid (show D.spans.length ≤ 1000 by have := hF.spans; have := hF.geo.2.2.2.2.1; omega)
  have f0 := cell_of_heap hA1 0 _ rfl
  have f1 := cell_of_heap hA1 1 _ rfl
  have f2 := cell_of_heap hA1 2 _ rfl
  have f3 := cell_of_heap hA1 3 _ rfl
  have f4 := cell_of_heap hA1 4 _ rfl
  have f5 := cell_of_heap hA1 5 _ rfl
  have f6 := cell_of_heap hA1 6 _ rfl
  have f7 := cell_of_heap hA1 7 _ rfl
  have f8 := cell_of_heap hA1 8 _ rfl
  have hR1' := Lib.hid hR1
  clear hq hR1 hA1 hF ho hks
  go_wp2_with fail
  refine hown.out.mono ?_
  rintro e w2 ⟨S, rfl, ho, b2⟩
  obtain ⟨aw, ad, aS, am, ag, cw, cd, cS, cm, cg, sv, mv, rfl⟩ := Shape.lits ho
  have hv := Lib.hid (VarW.mk_box ho b2.size)
  have bb2 := Lib.hid (below_trans bb1.out b2)
  have hR2 := Lib.hid (heap_below (below_trans b2 (below_box w2 (.cells (Shape.cells ⟨.slice aw D.words.length cw, .slice ad D.dirty.length cd, .slice aS D.spans.length cS, .slice am D.muts.length cm, .slice ag D.grey.length cg, sv, mv⟩ D) 32))) hR1'.out)
  clear ho b2 hown f0 f1 f2 f3 f4 f5 f6 f7 f8
  have hbs := Lib.hid (show w1.heap.size ≤ w2.heap.size from hv.out.le)
  have hRne : ¬ (w2.heap.size = w.heap.size + 1) := by have := hz1.out; have := hbs.out; omega
  have hRne' : ¬ (w.heap.size + 1 = w2.heap.size) := by omega
  dsimp only [Shape.val]
  dsimp only [Shape.cells] at hv hR2
  go_wp2_with fail
  refine (sgive_any _ _ _ D k j s hks'.out hin.out _ hv.out).mono ?_
  rintro e w3 ⟨rfl, hv3, b3⟩
  have bb3 := Lib.hid (show Below w.heap.size w w3 from (below_trans bb2.out (below_box w2 _)).trans (b3.mono (by have := hz1.out; omega)))
  have hR3 := Lib.hid ((b3.block (w.heap.size + 1) (by have := hz1.out; omega)).trans hR2.out)
  have hk3 := Lib.hid (show (giveD D k s j).spans[k]? = some (giveS s j) from set_at hks'.out)
  have hl3 := Lib.hid (show (giveD D k s j).spans.length ≤ 1000 by rw [(giveD_bulk hks'.out).2]; exact hsp.out)
  have y1 := Lib.hid (show EmptyS (giveS s j) → GiveIs D addr { giveD D k s j with spans := (giveD D k s j).spans.eraseIdx k } true from fun h => .inl ⟨k, j, s, hF'.out, ho'.out, hks'.out, rfl, .inl ⟨h, rfl⟩⟩)
  have y2 := Lib.hid (show ¬ EmptyS (giveS s j) → GiveIs D addr (giveD D k s j) true from fun h => .inl ⟨k, j, s, hF'.out, ho'.out, hks'.out, rfl, .inr ⟨h, rfl⟩⟩)
  clear b3 hv
  generalize giveD D k s j = D3 at *
  generalize giveS s j = s3 at *
  obtain ⟨p, hp⟩ := hv3.svAt hk3.out
  obtain ⟨gs, cs, hgs⟩ := hv3.headS (by have := (List.getElem?_eq_some_iff.1 hk3.out).1; omega)
  have hkl1 : (k : Int) < (D3.spans.length : Int) := by have := (List.getElem?_eq_some_iff.1 hk3.out).1; omega
  have g4 := hv3.cell 4 (.slice (some ⟨gs, 0, none⟩) D3.spans.length cs) (by rw [← hgs]; rfl)
  obtain ⟨x0, x1, x2, x3, x4, x5⟩ := hv3.six hgs hk3.out hp
  have hsm := hl3.out
  have hlr := Lib.hid (Rd.of_owns (hv3.own.inner k s3 p hk3.out hp).1)
  have hempty := Lib.hid (sempty_any s3 p.1 p.2 w3 hlr.out)
  have hv3' := Lib.hid hv3
  clear hv3 hp hgs
  go_wp2_with fail
  refine hempty.out.mono ?_
  rintro e w4 ⟨hq, b4⟩
  have hq := hq.elim
  have hv4 := Lib.hid (hv3'.out.below b4)
  have bb4 := Lib.hid (below_trans bb3.out b4)
  have hR4 := Lib.hid (heap_below b4 hR3.out)
  clear b4 g4 x0 x1 x2 x3 x4 x5
  rcases hq with ⟨he, rfl⟩ | ⟨he, rfl⟩
  · have y := Lib.hid (y1.out he)
    clear he
    go_wp2_with fail
    refine (sdrop_any _ _ _ D3 k s3 hk3.out hl3.out w4 hv4.out).mono ?_
    rintro e w5 ⟨rfl, ⟨S5, hv⟩, b5⟩
    have bbe := Lib.hid (bb4.out.trans (b5.mono (by have := hz1.out; omega)))
    have hRe := (b5.block (w.heap.size + 1) (by have := hz1.out; omega)).trans hR4.out
    clear b5
    generalize ({ D3 with spans := D3.spans.eraseIdx k } : WD) = E at *
    obtain ⟨aw', ad', aS', am', ag', cw', cd', cS', cm', cg', sv', mv', rfl⟩ := Shape.lits hv.own
    have bE := hv.box
    dsimp only [Shape.cells] at bE
    have n0 := cell_of_heap hRe 0 _ rfl
    have n1 := cell_of_heap hRe 1 _ rfl
    have n2 := cell_of_heap hRe 2 _ rfl
    have n3 := cell_of_heap hRe 3 _ rfl
    have n4 := cell_of_heap hRe 4 _ rfl
    have n5 := cell_of_heap hRe 5 _ rfl
    have n6 := cell_of_heap hRe 6 _ rfl
    have n7 := cell_of_heap hRe 7 _ rfl
    have n8 := cell_of_heap hRe 8 _ rfl
    have z0 := frozen_of_heap hRe 0
    have z1 := frozen_of_heap hRe 1
    have z2 := frozen_of_heap hRe 2
    have z3 := frozen_of_heap hRe 3
    have z4 := frozen_of_heap hRe 4
    have z5 := frozen_of_heap hRe 5
    have z6 := frozen_of_heap hRe 6
    have z7 := frozen_of_heap hRe 7
    have z8 := frozen_of_heap hRe 8
    have m0 := cell_of_heap bE 0 _ rfl
    have m1 := cell_of_heap bE 1 _ rfl
    have m2 := cell_of_heap bE 2 _ rfl
    have m3 := cell_of_heap bE 3 _ rfl
    have m4 := cell_of_heap bE 4 _ rfl
    have m5 := cell_of_heap bE 5 _ rfl
    have m6 := cell_of_heap bE 6 _ rfl
    have m7 := cell_of_heap bE 7 _ rfl
    have m8 := cell_of_heap bE 8 _ rfl
    have hv' := Lib.hid hv
    clear hv bE hRe
    go_wp2_with fail
    refine bodyPost_ret (v := .tuple #[.agg #[.int .i64 E.base, .int .i64 E.pages, .slice aw' E.words.length cw', .slice ad' E.dirty.length cd', .slice aS' E.spans.length cS', .slice am' E.muts.length cm', .int .i64 E.phase, .int .i64 E.next, .slice ag' E.grey.length cg'], .bool true]) (by simp [results, Try.results26, go_sem, n0, n1, n2, n3, n4, n5, n6, n7, n8]) rfl ?_
    exact ⟨_, E, true, y.out, rfl, hv'.out.handed bbe.out (R := w.heap.size + 1) (by omega) (by have := hz1.out; omega) ((((((((((Chg.refl _ _).put (b := w.heap.size + 1) (by simp) 0 _).put (b := w.heap.size + 1) (by simp) 1 _).put (b := w.heap.size + 1) (by simp) 2 _).put (b := w.heap.size + 1) (by simp) 3 _).put (b := w.heap.size + 1) (by simp) 4 _).put (b := w.heap.size + 1) (by simp) 5 _).put (b := w.heap.size + 1) (by simp) 6 _).put (b := w.heap.size + 1) (by simp) 7 _).put (b := w.heap.size + 1) (by simp) 8 _)⟩
  · have y := Lib.hid (y2.out he)
    obtain ⟨E, hE⟩ : ∃ E, E = D3 := ⟨_, rfl⟩
    subst hE
    obtain ⟨S5, hv⟩ : ∃ S5, VarW w4 w1.heap.size w2.heap.size S5 E := ⟨_, hv4.out⟩
    have bbe := bb4
    have hRe := hR4.out
    clear he
    obtain ⟨aw', ad', aS', am', ag', cw', cd', cS', cm', cg', sv', mv', rfl⟩ := Shape.lits hv.own
    have bE := hv.box
    dsimp only [Shape.cells] at bE
    have n0 := cell_of_heap hRe 0 _ rfl
    have n1 := cell_of_heap hRe 1 _ rfl
    have n2 := cell_of_heap hRe 2 _ rfl
    have n3 := cell_of_heap hRe 3 _ rfl
    have n4 := cell_of_heap hRe 4 _ rfl
    have n5 := cell_of_heap hRe 5 _ rfl
    have n6 := cell_of_heap hRe 6 _ rfl
    have n7 := cell_of_heap hRe 7 _ rfl
    have n8 := cell_of_heap hRe 8 _ rfl
    have z0 := frozen_of_heap hRe 0
    have z1 := frozen_of_heap hRe 1
    have z2 := frozen_of_heap hRe 2
    have z3 := frozen_of_heap hRe 3
    have z4 := frozen_of_heap hRe 4
    have z5 := frozen_of_heap hRe 5
    have z6 := frozen_of_heap hRe 6
    have z7 := frozen_of_heap hRe 7
    have z8 := frozen_of_heap hRe 8
    have m0 := cell_of_heap bE 0 _ rfl
    have m1 := cell_of_heap bE 1 _ rfl
    have m2 := cell_of_heap bE 2 _ rfl
    have m3 := cell_of_heap bE 3 _ rfl
    have m4 := cell_of_heap bE 4 _ rfl
    have m5 := cell_of_heap bE 5 _ rfl
    have m6 := cell_of_heap bE 6 _ rfl
    have m7 := cell_of_heap bE 7 _ rfl
    have m8 := cell_of_heap bE 8 _ rfl
    have hv' := Lib.hid hv
    clear hv bE hRe
    go_wp2_with fail
    refine bodyPost_ret (v := .tuple #[.agg #[.int .i64 E.base, .int .i64 E.pages, .slice aw' E.words.length cw', .slice ad' E.dirty.length cd', .slice aS' E.spans.length cS', .slice am' E.muts.length cm', .int .i64 E.phase, .int .i64 E.next, .slice ag' E.grey.length cg'], .bool true]) (by simp [results, Try.results26, go_sem, n0, n1, n2, n3, n4, n5, n6, n7, n8]) rfl ?_
    exact ⟨_, E, true, y.out, rfl, hv'.out.handed bbe.out (R := w.heap.size + 1) (by omega) (by have := hz1.out; omega) ((((((((((Chg.refl _ _).put (b := w.heap.size + 1) (by simp) 0 _).put (b := w.heap.size + 1) (by simp) 1 _).put (b := w.heap.size + 1) (by simp) 2 _).put (b := w.heap.size + 1) (by simp) 3 _).put (b := w.heap.size + 1) (by simp) 4 _).put (b := w.heap.size + 1) (by simp) 5 _).put (b := w.heap.size + 1) (by simp) 6 _).put (b := w.heap.size + 1) (by simp) 7 _).put (b := w.heap.size + 1) (by simp) 8 _)⟩
end Go.Proofs.Ytajogfnlbdiokaa

/-
  The contract of the program's World.clearSlot: a slot is used no more, its span stays.
-/
namespace Go.Proofs.Ytajogfnlbdiokaa
open Go.RowKit
set_option linter.unusedVariables false

theorem elemInts : Try.prog.elem 25 = 3 := by kernel_rfl
theorem undInts : Try.prog.underlying 25 = some (.slice (Try.prog.elem 25)) := by rw [elemInts]; exact Try.underlying25
theorem sizeInts (w : World) : (sizeOf (Try.prog.elem 25)).run Try.prog w = .ok 1 w := by kernel_rfl
theorem zeroInt (w : World) : (zeroValue 3).run Try.prog w = .ok (.int .i64 0) w := by kernel_rfl
theorem setCells_last (g : Nat) (v : Value) : ∀ (n o : Nat) (w : World), w.setCells g o (List.replicate (n + 1) v) = (w.setCells g o (List.replicate n v)).setCell ⟨g, o + n, none⟩ v
  | 0, o, w => rfl
  | n + 1, o, w => by
    show (w.setCell ⟨g, o, none⟩ v).setCells g (o + 1) (List.replicate (n + 1) v) = ((w.setCell ⟨g, o, none⟩ v).setCells g (o + 1) (List.replicate n v)).setCell ⟨g, o + (n + 1), none⟩ v
    rw [setCells_last g v n (o + 1) _, show o + 1 + n = o + (n + 1) by omega]
theorem VarW.zero {w : World} {base B : Nat} {S : Shape} {D : WD} {g cap : Nat} (h : VarW w base B S D) (hg : S.vw = .slice (some ⟨g, 0, none⟩) D.words.length cap) (A : Nat) (n : Nat) :
    VarW (w.setCells g A (List.replicate n (.int .i64 0))) base B S { D with words := zeroK D.words A n } ∧ Below base w (w.setCells g A (List.replicate n (.int .i64 0))) := by
  induction n with
  | zero => exact ⟨h, Below.refl _ _⟩
  | succ n ih =>
    rw [setCells_last]
    have := ih.1.word (g := g) (cap := cap) (by rw [hg, zeroK_len]) (A + n) 0
    exact ⟨this.1, ih.2.trans this.2⟩
/-- The words of a slot. -/
theorem cut_words {g n c A z : Nat} (hA : A < n) (hz : A + z ≤ n) (hn : n ≤ c) (i : Int) (hi : i = (A : Int) + (z : Int)) (w : World) :
    (Instr.slice 25 (.slice (some ⟨g, 0, none⟩) n c) (some (.int .i64 (A : Int))) (some (.int .i64 i)) none).run Try.prog w = .ok (.slice (some ⟨g, A, none⟩) z (c - A)) w := by
  subst hi
  rw [run_slice_lh w 25 _ n c undInts .i64 .i64 (A : Int) ((A : Int) + (z : Int)) (by omega) (by omega) (by omega), sizeInts]
  have e1 : ((A : Int) + (z : Int)).toNat = A + z := by omega
  have e2 : (A : Int).toNat = A := by omega
  simp only [Result.andThen, sliced, e1, e2]
  rw [if_neg (by omega), show A + z - A = z by omega]
  simp [Addr.add]
  intro h
  omega

set_option maxRecDepth 100000 in
set_option maxHeartbeats 16000000 in
theorem clearSlot_any (base B : Nat) (S : Shape) (D : WD) (k j : Nat) (s : SpanD) (hk : D.spans[k]? = some s) (hin : SlotIn D s j) (w : World) (h : VarW w base B S D) :
    Calls Try.prog 93 #[.pointer (some ⟨B, 0, none⟩), .agg #[.int .i64 k, .int .i64 j]] w fun e w' => (∃ v, e = .returned v) ∧ VarW w' base B S (giveD D k s j) ∧ Below base w w' := by
  have hbd := hin.bd
  have hkl := (List.getElem?_eq_some_iff.1 hk).1
  obtain ⟨p, hp⟩ := h.svAt hk
  obtain ⟨gs, cs, hgs⟩ := h.headS (by omega)
  obtain ⟨gw, cw, hgw⟩ := h.headW (by have := hin.words; have := hin.pg0; have := hin.pg1; omega)
  obtain ⟨gl, cl, hgl⟩ := head_of (h.own.inner k s p hk hp).1 (by have := hin.j; omega)
  obtain ⟨gp, cp, hgp⟩ := head_of (h.own.inner k s p hk hp).2 (by have := hin.j; have := hin.lens; have := hin.ptrs; omega)
  have hj := hin.j
  have hjp : j < s.ptrs.length := by have := hin.lens; have := hin.ptrs; omega
  have hwl := hin.words
  have hdl := hin.dirty
  have hpg := hin.pg
  have hpg0 := hin.pg0
  have hpg1 := hin.pg1
  obtain ⟨A, hA⟩ := Int.eq_ofNat_of_zero_le hbd.1
  obtain ⟨z, hz⟩ := Int.eq_ofNat_of_zero_le (show 0 ≤ sz s.cls by omega)
  have hb2 : A + z ≤ D.words.length := by omega
  have hzb : 2 ≤ z ∧ z ≤ 16 := by omega
  obtain ⟨hz1, hz2⟩ := hzb
  have hA2 : A ≤ 1000 := by omega
  have hdd : (A : Int) + (z : Int) ≤ 8 * (D.dirty.length : Int) := by omega
  have hj15 : (j : Int) ≤ 15 := hbd.2.2.2.2.1
  have hjl1 : (j : Int) < (s.lens.length : Int) := by omega
  have hjp1 : (j : Int) < (s.ptrs.length : Int) := by omega
  have hkl1 : (k : Int) < (D.spans.length : Int) := by omega
  have hcs := Lib.hid (fun (w : World) => (hz ▸ size_any s.cls w : Calls Try.prog 57 #[.int .i64 s.cls] w fun e w' => e = .returned (.int .i64 (z : Int)) ∧ w = w'))
  have hsm := h.rd.parts.2.2.1
  obtain ⟨_, _, -, hsm, -⟩ := hsm
  have hwm := h.rd.parts.1
  obtain ⟨_, _, -, hwm, -⟩ := hwm
  have hlx := h.own.inner k s p hk hp
  obtain ⟨_, _, -, hsm1, -⟩ := Rd.of_owns hlx.1
  obtain ⟨_, _, -, hsm2, -⟩ := Rd.of_owns hlx.2
  unfold maxLen at hsm hwm hsm1 hsm2
  have hwc : D.words.length ≤ cw ∧ cw ≤ 9223372036854775807 := by
    have := h.own.words
    rw [hgw] at this
    rcases this.2 with ⟨he, _⟩ | ⟨g, c, cur, he, _, _, hc, hm, _⟩
    · simp at he
    · simp at he
      unfold maxLen at hm
      omega
  have bb := below_box w (.cells #[.int .i64 k, .int .i64 j] 93)
  have bn := box_new w (.cells #[.int .i64 k, .int .i64 j] 93)
  have hv := Lib.hid (h.below bb)
  have h0 := Ext.cell (cell_of_heap bn 0 _ rfl)
  have h1 := Ext.cell (cell_of_heap bn 1 _ rfl)
  have g4 := Ext.cell (hv.out.cell 4 (.slice (some ⟨gs, 0, none⟩) D.spans.length cs) (by rw [← hgs]; rfl))
  have hrs := Lib.hid (show RdSpan (w.alloc (.cells #[.int .i64 k, .int .i64 j] 93)) gs (k * 6) s from by
    obtain ⟨x0, x1, x2, x3, x4, x5⟩ := hv.out.six hgs hk hp
    have hi := hv.out.own.inner k s p hk hp
    exact ⟨_, _, x0, x1, x2, x3, x4, x5, Rd.of_owns hi.1, Rd.of_owns hi.2⟩)
  have x1 := Ext.cell (hv.out.six hgs hk hp).2.1
  have bn' := Lib.hid bn
  have hle := Lib.hid h.le
  have hlt := Lib.hid h.lt
  have hown := Lib.hid h.own.lt
  have b0 := Lib.hid (show Below base w (w.alloc (.cells #[.int .i64 k, .int .i64 j] 93)) from bb.mono (by have := h.le; have := h.lt; omega))
  have hz0 := Lib.hid (show (w.alloc (.cells #[.int .i64 k, .int .i64 j] 93)).heap.size = w.heap.size + 1 by simp)
  have hin' := Lib.hid hin
  have hk' := Lib.hid hk
  have hp' := Lib.hid hp
  have hgs' := Lib.hid hgs
  have hgw' := Lib.hid hgw
  have hgl' := Lib.hid hgl
  have hgp' := Lib.hid hgp
  have hA' := Lib.hid hA
  have hz' := Lib.hid hz
  have hfw := Lib.hid (fun (w : World) (hr : RdSpan w gs (k * 6) s) => (hA ▸ firstWord_any gs (k * 6) s (j : Int) hpg0 (by omega) (by omega) (by omega) w hr : Calls Try.prog 75 #[.pointer (some ⟨gs, k * 6, none⟩), .int .i64 j] w fun e w' => e = .returned (.int .i64 (A : Int)) ∧ Drawn w w'))
  clear hin hk hp hgs hgw hgl hgp hA hz hbd h bb bn hlx hwl hdl hpg1 hj hjp
  go_enter Try.func93, Try.ntmps93
  go_wp2_with fail
  generalize hWe : w.alloc (.cells #[.int .i64 k, .int .i64 j] 93) = W at *
  have hWe' := Lib.hid hWe
  clear hWe
  refine wp_region_ext (Below.refl _ _) (by kernel_rfl) (by kernel_rfl) ?_
  repeat (go_big_quiet_step ((fail)))
  refine wpQuiet_nil ?_
  intro _ hw'
  obtain ⟨x9, hw''⟩ := hw'
  subst hw''
  go_wp2_with fail
  refine wp_region_ext x9.below (by kernel_rfl) (by kernel_rfl) ?_
  repeat (go_big_quiet_step ((first | (go_at_call 75; exact Ext.call ((hfw.out _ (hrs.out.below (Ext.below _))).mono fun _ _ ⟨a, b⟩ => ⟨a, b.below⟩)) | (go_at_call 57; exact Ext.same (hcs.out _)))))
  refine wpQuiet_nil ?_
  intro _ hw'
  obtain ⟨x9, hw''⟩ := hw'
  subst hw''
  go_upto_region 3 with fail
  have hx2 := Lib.hid x9.below
  generalize x9.val = w2 at *
  have hv2 := Lib.hid (hv.out.below hx2.out)
  have bn2 := Lib.hid (heap_below hx2.out bn'.out)
  have hbp : w.heap.size < w2.heap.size := by have := hx2.out.size; have := hz0.out; omega
  clear h0 h1 g4 x1
  have q1 := cell_of_heap bn2.out 1 _ rfl
  obtain ⟨_, _, x2, _, x4, x5⟩ := hv2.out.six hgs'.out hk'.out hp'.out
  rw [hgl'.out] at x4
  rw [hgp'.out] at x5
  obtain ⟨n1, n2, n3, n4, n5, n6⟩ := hv2.out.nes hgs'.out hk'.out hp'.out hgl'.out hgp'.out
  obtain ⟨c1, c2⟩ := ints_cell (hv2.out.own.inner k s p hk'.out hp'.out).1 hgl'.out j hin'.out.j
  obtain ⟨d1, d2⟩ := ints_cell (hv2.out.own.inner k s p hk'.out hp'.out).2 hgp'.out j (by have := hin'.out.lens; have := hin'.out.ptrs; have := hin'.out.j; omega)
  have f2 := hv2.out.frzS hgs'.out (k * 6 + 2)
  have m1 : ¬ (w.heap.size = gl) := fun e => by have := (hown.out gl (List.mem_filterMap.2 ⟨p.1, by have : p.1 ∈ svInts S.sv := List.mem_flatMap.2 ⟨p, List.mem_of_getElem? hp'.out, by simp⟩; simp [Shape.all, this], by rw [hgl'.out]; rfl⟩)).2; omega
  have m2 : ¬ (w.heap.size = gp) := fun e => by have := (hown.out gp (List.mem_filterMap.2 ⟨p.2, by have : p.2 ∈ svInts S.sv := List.mem_flatMap.2 ⟨p, List.mem_of_getElem? hp'.out, by simp⟩; simp [Shape.all, this], by rw [hgp'.out]; rfl⟩)).2; omega
  have s1 := hv2.out.lens k j s p 0 hk'.out hp'.out hgl'.out
  have hk2 := Lib.hid (set_at (t := ({ s with lens := s.lens.set j 0 } : SpanD)) hk'.out)
  have s2 := s1.1.ptrs k j _ p 0 hk2.out hp'.out hgp'.out
  have s3 : VarW ((w2.setCell ⟨gl, j, none⟩ (.int .i64 0)).setCell ⟨gp, j, none⟩ (.int .i64 0)) base B S { D with spans := D.spans.set k { s with lens := s.lens.set j 0, ptrs := s.ptrs.set j 0 } } := by simpa only [List.set_set] using s2.1
  have S2 := Lib.hid s3.drew
  have S3 := Lib.hid (below_drewN (s1.2.trans s2.2) 1)
  have bs2 := Lib.hid (((heap_setCell_other (w2.setCell ⟨gl, j, none⟩ (.int .i64 0)) ⟨gp, j, none⟩ w.heap.size (.int .i64 0) (by simpa using m2)).trans (heap_setCell_other w2 ⟨gl, j, none⟩ w.heap.size (.int .i64 0) (by simpa using m1))).trans bn2.out)
  clear s1 s2 s3
  generalize s.lens[j]?.getD 0 = o3 at c1
  generalize s.ptrs[j]?.getD 0 = o4 at d1
  go_cut [4] (fun q wx => q = .pointer (some ⟨gs, k * 6, none⟩) ∧ Hid (VarW wx base B S { D with spans := D.spans.set k { s with lens := s.lens.set j 0, ptrs := s.ptrs.set j 0 } }) ∧ Hid (Below base w2 wx) ∧ Hid (wx.heap[w.heap.size]? = some (.cells #[.int .i64 k, .int .i64 j] 93 (0, 0))))
  case first =>
    go_region
    all_goals go_wp2_with fail
    all_goals go_meet
    all_goals exact ⟨rfl, S2, S3, bs2⟩
  case rest =>
    obtain ⟨rfl, hv3, hb3, bn3⟩ := hcut
    clear q1 x2 x4 x5 c1 d1 c2 d2 f2 S2 S3 bs2
    have q1 := cell_of_heap bn3.out 1 _ rfl
    have hk3 := Lib.hid (set_at (t := ({ s with lens := s.lens.set j 0, ptrs := s.ptrs.set j 0 } : SpanD)) hk'.out)
    have hgs3 := Lib.hid (show S.vs = .slice (some ⟨gs, 0, none⟩) (D.spans.set k { s with lens := s.lens.set j 0, ptrs := s.ptrs.set j 0 }).length cs by rw [List.length_set]; exact hgs'.out)
    obtain ⟨_, _, x2, _, _, _⟩ := hv3.out.six hgs3.out hk3.out hp'.out
    have f2 := hv3.out.frzS hgs3.out (k * 6 + 2)
    have s1 := hv3.out.mark hgs3.out k _ p (bits .andNot .i64 s.mark (2 ^ j)) hk3.out hp'.out
    have s2 : VarW (wc.setCell ⟨gs, k * 6 + 2, none⟩ (.int .i64 (bits .andNot .i64 s.mark (2 ^ j)))) base B S { D with spans := D.spans.set k (giveS s j) } := by simpa only [List.set_set, giveS] using s1.1
    have S2 := Lib.hid s2.drew
    have S3 := Lib.hid (below_drewN (hb3.out.trans s1.2) 1)
    have hmb := Lib.hid (fun w => markBit_any j (by omega) w)
    clear s1 s2
    dsimp only at x2
    go_upto_region 4 with fail
    go_cut [4] (fun q wx => q = .pointer (some ⟨gs, k * 6, none⟩) ∧ Hid (VarW wx base B S { D with spans := D.spans.set k (giveS s j) }) ∧ Hid (Below base w2 wx))
    case first =>
      go_region_with (first
        | (go_at_call 140; refine (hmb.out _).mono ?_; rintro e w' ⟨rfl, rfl⟩))
      all_goals go_wp2_with fail
      all_goals go_meet
      all_goals exact ⟨rfl, S2, S3⟩
    case rest =>
      obtain ⟨rfl, hv4, hb4⟩ := hcut
      clear q1 x2 f2 S2 S3
      have hA3 : A < D.words.length := by omega
      have hwc1 := hwc.1
      have hwc2 := hwc.2
      have g2 := hv4.out.cell 2 (.slice (some ⟨gw, 0, none⟩) D.words.length cw) (by rw [← hgw'.out]; rfl)
      have hsl := cut_words (g := gw) (n := D.words.length) (c := cw) hA3 hb2 hwc1 ((A : Int) + (z : Int)) rfl
      have hrw := hv4.out.own.words
      rw [hgw'.out] at hrw
      have hcl : ∀ ty, (Builtin.clear_ #[25] ty #[.slice (some ⟨gw, A, none⟩) z (cw - A)]).run Try.prog wc = .ok (.tuple #[]) (wc.setCells gw A (List.replicate z (.int .i64 0))) := fun ty =>
        Lib.run_clear_slice wc 25 3 ty (.int .i64 0) Try.underlying25 zeroInt rfl rfl gw A z _ (by omega) (fun i hi => by rw [hrw.cellAt (A + i) (by show A + i < D.words.length * 1; omega)]; simp; omega) (fun i hi => hrw.frozenAt (A + i))
      have hz5 := hv4.out.zero (g := gw) (cap := cw) hgw'.out A z
      have hv5 := Lib.hid hz5.1
      have hb5 := Lib.hid (hb4.out.trans hz5.2)
      have hso := Lib.hid (soil_any base B S { D with words := zeroK D.words A z, spans := D.spans.set k (giveS s j) } (A : Int) (z : Int) (by omega) (by omega) (by omega) (by omega) hdd _ hv5.out)
      have hA9 : (A : Int) ≤ (A : Int) + (z : Int) := by omega
      clear hrw hz5 hwc
      go_wp2_with fail
      refine hso.out.mono ?_
      rintro e w6 ⟨⟨v, rfl⟩, hv6, hb6⟩
      have hv6' := Lib.hid (show VarW w6 base B S (giveD D k s j) from by
        unfold giveD
        rw [hA'.out, hz'.out, Int.toNat_natCast, Int.toNat_natCast]
        exact hv6)
      have hb7 := Lib.hid (b0.out.trans ((hx2.out.mono (by have := b0.out.size; have := hle.out; have := hlt.out; omega)).trans (hb5.out.trans hb6)))
      clear hv6 hb6 g2 hcl hsl
      go_wp2_with fail
      go_end0
      exact ⟨⟨_, rfl⟩, hv6'.out, hb7.out⟩
end Go.Proofs.Ytajogfnlbdiokaa

/-
  The contracts of the program's withSpan and withoutSpan: a row of spans with one more, or one less, in new memory.
-/
namespace Go.Proofs.Ytajogfnlbdiokaa
open Go.RowKit
set_option linter.unusedVariables false

/-- append onto a slice without spare room: it is the same slice, or one that the call makes. -/
theorem wp_full {P : Program} {w : World} {o : Oper} {a : Act} {K : Act → World → Prop} {Q : Exit → Act → World → Prop} (s x : Operand) (t : TypeId)
    (ho : o.op = .call { callee := .builtin .append, args := #[s, x], argTypes := #[t, t] })
    (e : TypeId) (z : Value) (size bytes : Nat) (ht : P.underlying t = some (.slice e)) (hinfo : (P.info? e).map (fun i => (i.zero, i.size, i.bytes)) = some (some z, size, bytes)) (hzs : z.cells.size = size) (hsz : 0 < size)
    (A1 : Option Addr) (k : Nat) (olds : List Value) (hs : a.eval s = .slice A1 k k) (h1 : SrcIs w A1 k size olds)
    (A2 : Option Addr) (m c : Nat) (news : List Value) (hx : a.eval x = .slice A2 m c) (h2 : SrcIs w A2 m size news)
    (h63 : k + m ≤ maxLen) (hbytes : (k + m) * bytes ≤ 140737488355328)
    (h0 : m = 0 → K (a.put o.dst (.slice A1 k k)) w)
    (h : ∀ v' w', 0 < m → w'.ownsRow w.heap.size e size v' (k + m) (olds ++ news) → w.grownBy w' none → K (a.put o.dst v') w') : o.wp P a w K Q := by
  obtain ⟨i, hi, hz, hsize, hby⟩ := info_parts hinfo
  have fin : ∀ v' w', (Builtin.append_ #[t, t] o.type #[.slice A1 k k, .slice A2 m c]).run P w = .ok v' w' → K (a.put o.dst v') w' → o.wp P a w K Q := fun v' w' hrun hk => by
    unfold Oper.wp execOp
    simp only [ho, resolve, invoke, builtin, Sem.run_bind, Sem.run_pure, Result.andThen_ok, List.map_toArray, List.map_cons, List.map_nil, hs, hx, hrun]
    exact hk
  rcases Nat.eq_zero_or_pos m with hm | hm
  · subst hm
    refine fin _ _ ?_ (h0 rfl)
    cases A2 with
    | none => cases A1 <;> simp [Builtin.append_, run_underlying ht, sizeOf, typeInfo, hi, Builtin.lenOf, Builtin.firstCells, storeCells]
    | some a2 =>
      have hf := run_firstCells_some (P := P) w i.size 0 a2 0 c [] (by simp) (fun j u hu => by simp at hu)
      cases A1 <;> simp [Builtin.append_, run_underlying ht, sizeOf, typeInfo, hi, Builtin.lenOf, hf, storeCells]
  · have hn0 : 0 < news.length := by rw [h2.len]; exact Nat.mul_pos hm hsz
    obtain ⟨a2, rfl⟩ : ∃ a2, A2 = some a2 := by
      obtain ⟨a2, e2, _⟩ := h2.at_ 0 news[0] (List.getElem?_eq_getElem hn0)
      exact ⟨a2, e2⟩
    have hc2 : ∀ j u, news[j]? = some u → w.cell? (a2.add j) = some u := fun j u hu => by
      obtain ⟨b, eb, hc⟩ := h2.at_ j u hu
      cases eb
      exact hc
    cases A1 with
    | some b =>
      have hc1 : ∀ j u, olds[j]? = some u → w.cell? (b.add j) = some u := fun j u hu => by
        obtain ⟨b', eb, hc⟩ := h1.at_ j u hu
        cases eb
        exact hc
      obtain ⟨v', w', hrun, r1, r2⟩ := run_append_arg_grows (P := P) w t o.type e i z size bytes ht hi hz hsize hby hzs hsz b k k olds h1.len hc1 a2 m c news h2.len hc2 (by omega) h63 hbytes
      exact fin _ _ hrun (h v' w' hm r1 r2)
    | none =>
      have ho0 : olds = [] := by
        rcases olds with _ | ⟨u, l⟩
        · rfl
        · obtain ⟨_, eb, _⟩ := h1.at_ 0 u rfl
          cases eb
      subst ho0
      have hk0 : k = 0 := by
        have := h1.len
        rcases Nat.eq_zero_or_pos k with h0 | h0
        · exact h0
        · have := Nat.mul_pos h0 hsz
          simp at *
          omega
      subst hk0
      obtain ⟨v', w', hrun, r1, r2, _⟩ := run_append_own (P := P) w w.heap.size t o.type e i z size bytes ht hi hz hsize hby hzs hsz (.slice none 0 0) 0 [] (World.ownsRow_nil w _ e size) a2 m c news h2.len hc2 h2.one h63 hbytes (Nat.le_refl _)
      exact fin _ _ hrun (h v' w' hm r1 (by simpa [Value.ownBlock] using r2))
theorem wpList_full {P : Program} {w : World} {ops : Array Oper} {rest : List Oper} {o : Oper} {a : Act} {Q : Exit → Act → World → Prop} (hgd : o.guard = none) (s x : Operand) (t : TypeId)
    (ho : o.op = .call { callee := .builtin .append, args := #[s, x], argTypes := #[t, t] })
    (e : TypeId) (z : Value) (size bytes : Nat) (ht : P.underlying t = some (.slice e)) (hinfo : (P.info? e).map (fun i => (i.zero, i.size, i.bytes)) = some (some z, size, bytes)) (hzs : z.cells.size = size) (hsz : 0 < size)
    (A1 : Option Addr) (k : Nat) (olds : List Value) (hs : a.eval s = .slice A1 k k) (h1 : SrcIs w A1 k size olds)
    (A2 : Option Addr) (m c : Nat) (news : List Value) (hx : a.eval x = .slice A2 m c) (h2 : SrcIs w A2 m size news)
    (h63 : k + m ≤ maxLen) (hbytes : (k + m) * bytes ≤ 140737488355328)
    (h0 : m = 0 → wpList P ops Q rest (a.put o.dst (.slice A1 k k)) w)
    (h : ∀ v' w', 0 < m → w'.ownsRow w.heap.size e size v' (k + m) (olds ++ news) → w.grownBy w' none → wpList P ops Q rest (a.put o.dst v') w') : wpList P ops Q (o :: rest) a w :=
  wpList_plain hgd fun _ hK => wp_full s x t ho e z size bytes ht hinfo hzs hsz A1 k olds hs h1 A2 m c news hx h2 h63 hbytes (fun hm => hK _ _ (h0 hm)) fun v' w' h3 h4 h5 => hK _ _ (h v' w' h3 h4 h5)
theorem SrcIs.drew {w : World} {A : Option Addr} {m size : Nat} {news : List Value} (h : SrcIs w A m size news) : SrcIs w.drew A m size news := h.below (below_drewN (Below.refl _ _) 1)
theorem own_srcIs {w : World} {base n c : Nat} {A : Option Addr} {xs : List Value} (h : w.ownsRow base 79 6 (.slice A n c) n xs) (h1 : ∀ u, u ∈ xs → u.oneCell' = true) : SrcIs w A n 6 xs := by
  rcases h.2 with ⟨he, h0⟩ | ⟨g, cap, cur, he, _⟩
  · obtain ⟨rfl, rfl, rfl⟩ : A = none ∧ n = 0 ∧ c = 0 := by simpa using he
    obtain rfl : xs = [] := List.length_eq_zero_iff.1 (by simpa using h.1)
    exact SrcIs.none _ _ _
  · obtain ⟨rfl, rfl⟩ : A = some ⟨g, 0, none⟩ ∧ c = cap := by simpa using he
    refine ⟨h.1, fun j u hu => ⟨_, rfl, ?_⟩, h1⟩
    have hl := (List.getElem?_eq_some_iff.1 hu).1
    rw [show (⟨g, 0, none⟩ : Addr).add j = ⟨g, j, none⟩ by rw [Addr.add_lit, Nat.zero_add], h.cellAt j (by have := h.1; omega)]
    exact hu

set_option maxRecDepth 100000 in
set_option maxHeartbeats 8000000 in
theorem withoutSpan_any (A : Option Addr) (n c k : Nat) (xs : List Value) (hn : n ≤ c) (hc : c ≤ maxLen) (hn2 : n ≤ 1000) (hk : k < n) (w : World) (h : SrcIs w A n 6 xs) :
    Calls Try.prog 94 #[.slice A n c, .int .i64 k] w fun e w' => ∃ v, e = .returned v ∧ w'.ownsRow w.heap.size 79 6 v (k + (n - (k + 1))) (xs.take (k * 6) ++ xs.drop ((k + 1) * 6)) ∧ Below w.heap.size w w' := by
  obtain ⟨A1, hs1, sr1⟩ := cut_to3 h (show k ≤ n by omega) hn
  obtain ⟨A2, hs2, sr2⟩ := cut_from h (show k + 1 ≤ n by omega) hn ((k : Int) + 1) (by omega)
  have sr1 := Lib.hid sr1.drew
  have sr2 := Lib.hid sr2.drew
  have hone := Lib.hid (show ∀ u, u ∈ xs.take (k * 6) ++ xs.drop ((k + 1) * 6) → u.oneCell' = true from fun u hu => (List.mem_append.1 hu).elim (fun hu => h.one u (List.mem_of_mem_take hu)) fun hu => h.one u (List.mem_of_mem_drop hu))
  have hw1 : IntKind.i64.wrap ((k : Int) + 1) = (k : Int) + 1 := IntWalk.i64_in _ (by omega)
  have hk1 : k ≤ 1000 := by omega
  have hkm : k + (n - (k + 1)) ≤ 1000 := by omega
  have hlm := Lib.hid (fun A n c news hs w h => listSpan_any A n c news hs w h)
  have hd := Lib.hid (show Below w.heap.size w w.drew from below_drewN (Below.refl _ _) 1)
  have hdz := Lib.hid (show w.drew.heap.size = w.heap.size from rfl)
  have hk' := Lib.hid hk
  have hn' := Lib.hid hn
  have hc' := Lib.hid hc
  clear h hk hn hc
  go_enter Try.func94, Try.ntmps94
  go_wp2_with fail
  go_still_tail 8, (by kernel_rfl)
  change wpList _ _ _ _ _ w.drew
  generalize w.drew = W at *
  refine wpList_full rfl (.tmp 8) (.tmp 12) 27 rfl 79 (.agg #[.int .i64 0, .int .i64 0, .int .i64 0, .bool false, .slice none 0 0, .slice none 0 0]) 6 80 Try.underlying27 infoSpan (by rfl) (by decide) A1 k (xs.take (k * 6)) rfl sr1.out A2 (n - (k + 1)) (c - (k + 1)) (xs.drop ((k + 1) * 6)) rfl sr2.out (by unfold maxLen; omega) (by omega) ?_ ?_
  · intro hm
    have hsrc := Lib.hid (show SrcIs W A1 k 6 (xs.take (k * 6) ++ xs.drop ((k + 1) * 6)) from by
      have e : xs.drop ((k + 1) * 6) = [] := List.length_eq_zero_iff.1 (by have := sr2.out.len; rw [hm] at this; simpa using this)
      rw [e, List.append_nil]
      exact sr1.out)
    have hm' := Lib.hid hm
    clear hm
    go_wp2_with fail
    refine (hlm.out A1 k k _ (by omega) W hsrc.out).mono ?_
    rintro e w2 ⟨v, rfl, hr, hb⟩
    have hr' := Lib.hid hr
    have hb' := Lib.hid hb
    clear hr hb
    go_wp2_with fail
    go_ret
    exact ⟨v, rfl, by rw [hm'.out, Nat.add_zero, ← hdz.out]; exact hr'.out, hd.out.trans (hb'.out.mono (by rw [hdz.out]; exact Nat.le_refl _))⟩
  · intro v' w' hm hr1 hg
    obtain ⟨a3, c3, rfl⟩ := own_slice hr1
    have hsrc := Lib.hid (own_srcIs hr1 hone.out)
    have hb1 := Lib.hid (show Below W.heap.size W w' from (Below.refl _ _).grown hg (Nat.le_refl _) (fun q hq => by cases hq))
    clear hr1 hg
    go_wp2_with fail
    refine (hlm.out a3 _ c3 _ (by omega) w' hsrc.out).mono ?_
    rintro e w2 ⟨v, rfl, hr, hb⟩
    have hr' := Lib.hid hr
    have hb' := Lib.hid hb
    clear hr hb
    go_wp2_with fail
    go_ret
    have z1 := hb1.out.size
    have z2 := hdz.out
    exact ⟨v, rfl, own_base hr'.out (by omega), hd.out.trans ((hb1.out.trans (hb'.out.mono z1)).mono (by omega))⟩
end Go.Proofs.Ytajogfnlbdiokaa

/-
  The contracts of the program's places and Find.
-/
namespace Go.Proofs.Ytajogfnlbdiokaa
open Go.RowKit
open Go.Maps (Keyed)
set_option linter.unusedVariables false

/-- What a place reads as. -/
def dat (k j : Int) : DataW Unit := .agg [.lit (.int .i64 k), .lit (.int .i64 j)]
def placeElem : Value → Option (DataW Unit × List MemPlace)
  | .agg cs => match cs.toList with
    | [.int .i64 a, .int .i64 b] => some (dat a b, [])
    | _ => none
  | _ => none
theorem placeElem_mk (a b : Int) : placeElem (.agg #[.int .i64 a, .int .i64 b]) = some (dat a b, []) := rfl
theorem dat_inj {a b c d : Int} (h : dat a b = dat c d) : a = c ∧ b = d := by simpa [dat] using h
theorem placeElem_inv {v : Value} {z : DataW Unit × List MemPlace} (h : placeElem v = some z) : ∃ a b : Int, v = .agg #[.int .i64 a, .int .i64 b] ∧ z = (dat a b, []) := by
  unfold placeElem at h
  split at h
  · rename_i cs
    obtain ⟨l⟩ := cs
    split at h
    · rename_i heq
      simp at heq
      subst heq
      cases h
      exact ⟨_, _, rfl, rfl⟩
    · cases h
  · cases h
theorem zeroPlace (w : World) : (zeroValue 93).run Try.prog w = .ok (.agg #[.int .i64 0, .int .i64 0]) w := by kernel_rfl
theorem mapLaw : Keyed Try.prog 3 := Maps.int_keyed Try.underlying3
theorem key_i64 {a : Int} (h : I64 a) : keyOf Try.prog 3 (.int .i64 a) = some (.int .i64 a) := by
  obtain ⟨h1, h2⟩ := h
  exact Maps.keyOf_int_mk Try.underlying3 (WalkArith.wf_i64 (by omega))
theorem isKey (a : Int) : WideAt.IsKeyLit (.int .i64 a) := by first | trivial | simp [WideAt.IsKeyLit]

/-- Ahead of slot J of span K. -/
def Ahead (K J k j : Nat) : Prop := k < K ∨ (k = K ∧ j < J)
structure PlacesIs (D : WD) (M : DataW Unit) (K J : Nat) : Prop where
  isMap : Maps.IsMap M
  has : ∀ a : Int, Maps.has M (.int .i64 a) = true ↔ ∃ k j, Ahead K J k j ∧ IsObj D a k j
  is : ∀ (a : Int) (k j : Nat) (z : DataW Unit), Ahead K J k j → IsObj D a k j → M.atKey (.int .i64 a) z = dat k j
theorem PlacesIs.zero (D : WD) : PlacesIs D (.map []) 0 0 :=
  ⟨Maps.isMap_empty, fun a => ⟨fun h => by simp [Maps.has_eq] at h, fun ⟨k, j, h, _⟩ => by unfold Ahead at h; omega⟩, fun a k j z h => by unfold Ahead at h; omega⟩
theorem PlacesIs.skip {D : WD} {M : DataW Unit} {K J : Nat} {s : SpanD} (h : PlacesIs D M K J) (hs : D.spans[K]? = some s) (hl : ¬ 0 < s.lens[J]?.getD 0) : PlacesIs D M K (J + 1) := by
  have key : ∀ a k j, Ahead K (J + 1) k j → IsObj D a k j → Ahead K J k j := fun a k j ha ho => by
    rcases ha with ha | ⟨rfl, ha⟩
    · exact .inl ha
    · refine .inr ⟨rfl, ?_⟩
      by_cases e : j = J
      · subst e
        obtain ⟨t, ht, _, hpos, _⟩ := ho
        rw [hs] at ht
        cases ht
        exact absurd hpos hl
      · omega
  refine ⟨h.isMap, fun a => ?_, fun a k j z ha ho => h.is a k j z (key a k j ha ho) ho⟩
  rw [h.has a]
  exact ⟨fun ⟨k, j, ha, ho⟩ => ⟨k, j, ha.imp id fun ⟨e, hlt⟩ => ⟨e, by omega⟩, ho⟩, fun ⟨k, j, ha, ho⟩ => ⟨k, j, key a k j ha ho, ho⟩⟩
theorem PlacesIs.put {D : WD} (hF : HeapForm D) {M : DataW Unit} {K J : Nat} {s : SpanD} (h : PlacesIs D M K J) (hs : D.spans[K]? = some s) (hJ : J < s.lens.length) (hl : 0 < s.lens[J]?.getD 0) :
    PlacesIs D (M.put (.int .i64 (D.base + atW s (J : Int))) (dat K J)) K (J + 1) := by
  have ho : IsObj D (D.base + atW s (J : Int)) K J := ⟨s, hs, hJ, hl, rfl⟩
  have key : ∀ a k j, Ahead K (J + 1) k j → IsObj D a k j → a ≠ D.base + atW s (J : Int) → Ahead K J k j := fun a k j ha hi hne => by
    rcases ha with ha | ⟨rfl, ha⟩
    · exact .inl ha
    · refine .inr ⟨rfl, ?_⟩
      by_cases e : j = J
      · subst e
        obtain ⟨t, ht, _, _, he⟩ := hi
        rw [hs] at ht
        cases ht
        exact absurd he.symm hne
      · omega
  have lit : ∀ a : Int, a ≠ D.base + atW s (J : Int) → (Lit.int .i64 a) ≠ (Lit.int .i64 (D.base + atW s (J : Int))) := fun a hne e => hne (by simpa using e)
  refine ⟨h.isMap.put _ _, fun a => ?_, fun a k j z ha hi => ?_⟩
  · by_cases e : a = D.base + atW s (J : Int)
    · subst e
      rw [Maps.has_put_same h.isMap (isKey _)]
      exact ⟨fun _ => ⟨K, J, .inr ⟨rfl, by omega⟩, ho⟩, fun _ => rfl⟩
    · rw [Maps.has_put_other (lit a e), h.has a]
      exact ⟨fun ⟨k, j, ha, hi⟩ => ⟨k, j, ha.imp id fun ⟨e, hlt⟩ => ⟨e, by omega⟩, hi⟩, fun ⟨k, j, ha, hi⟩ => ⟨k, j, key a k j ha hi e, hi⟩⟩
  · by_cases e : a = D.base + atW s (J : Int)
    · subst e
      rw [Maps.atKey_put_same h.isMap (isKey _)]
      obtain ⟨rfl, rfl⟩ := hi.unique hF ho
      rfl
    · rw [Maps.atKey_put_other (lit a e)]
      exact h.is a k j z (key a k j ha hi e) hi
theorem PlacesIs.next {D : WD} {M : DataW Unit} {K : Nat} {s : SpanD} (h : PlacesIs D M K s.lens.length) (hs : D.spans[K]? = some s) : PlacesIs D M (K + 1) 0 := by
  have key : ∀ a k j, Ahead (K + 1) 0 k j → IsObj D a k j → Ahead K s.lens.length k j := fun a k j ha ho => by
    rcases ha with ha | ⟨_, ha⟩
    · by_cases e : k = K
      · subst e
        obtain ⟨t, ht, hj, _⟩ := ho
        rw [hs] at ht
        cases ht
        exact .inr ⟨rfl, hj⟩
      · exact .inl (by omega)
    · omega
  refine ⟨h.isMap, fun a => ?_, fun a k j z ha ho => h.is a k j z (key a k j ha ho) ho⟩
  rw [h.has a]
  exact ⟨fun ⟨k, j, ha, ho⟩ => ⟨k, j, .inl (by unfold Ahead at ha; omega), ho⟩, fun ⟨k, j, ha, ho⟩ => ⟨k, j, key a k j ha ho, ho⟩⟩

/-- The map of places, in a block of its own. -/
def OwnP (w : World) (g n : Nat) (M : DataW Unit) : Prop := w.ownsMap Try.prog 3 placeElem g n M
theorem OwnP.below {w w' : World} {g n : Nat} {M : DataW Unit} (h : OwnP w g n M) (hb : Below w.heap.size w w') : OwnP w' g n M := World.ownsMap.kept h (grown_of_below hb) (by simp)

set_option maxRecDepth 100000 in
set_option maxHeartbeats 8000000 in
theorem places_any (B : Nat) (v : Value) (D : WD) (hF : HeapForm D) (w : World) (hr : RdW w v D) (hB : BoxW w B v) :
    Calls Try.prog 114 #[.pointer (some ⟨B, 0, none⟩)] w fun e w' => ∃ g n M, e = .returned (.map (some g)) ∧ OwnP w' g n M ∧ PlacesIs D M D.spans.length 0 ∧ Below w.heap.size w w' := by
  have hr' := Lib.hid hr
  have hB' := Lib.hid hB
  have hF' := Lib.hid hF
  obtain ⟨vw, vd, vs, vm, vg, rfl, a1, a2, a3, a4, a5⟩ := hr
  obtain ⟨aS, cS, rfl, hls, hx⟩ := a3
  have g4 := Ext.cell (hB.elim fun cs h => by obtain rfl := (Value.agg.inj h.1).symm; exact cell_of_heap h.2 4 _ rfl)
  have f4 := g4 (Ext.self w)
  have hx' := Lib.hid hx
  have hsl := hF.spans
  have hpl := hF.geo.2.2.2.2.1
  have hbw : Below w.heap.size w (w.alloc (.map #[] 0)) := below_box w _
  have hmk := @run_makeMap Try.prog
  have hown0 := Lib.hid (show OwnP (w.alloc (.map #[] 0)) w.heap.size 0 (.map []) from World.ownsMap_made w Try.prog 3 placeElem)
  have hbw' := Lib.hid hbw
  have f4' := cell_below hbw f4
  clear hF hB hx hls a1 a2 a4 a5 hbw f4
  go_enter Try.func114, Try.ntmps114
  go_wp2_with fail
  clear f4'
  go_loopw [14] (fun i wr => ∃ (k : Nat) (M : DataW Unit), k ≤ D.spans.length ∧ i = .int .i64 k ∧ Hid (PlacesIs D M k 0) ∧ ∃ x : Ext w, wr = x.val ∧ Hid (OwnP x.val w.heap.size (k * 16) M)) (fun i _ => D.spans.length - (intOf i).toNat)
  case atStart => exact ⟨0, .map [], Nat.zero_le _, rfl, PlacesIs.zero D, ⟨_, hbw'.out⟩, rfl, hown0.out⟩
  case round =>
    obtain ⟨k, M, hk, rfl, hP, x, rfl, hown⟩ := hrel
    by_cases hlt : k < D.spans.length
    · have hlt1 : (k : Int) < (D.spans.length : Int) := by omega
      obtain ⟨s, hks⟩ : ∃ s, D.spans[k]? = some s := ⟨_, List.getElem?_eq_getElem hlt⟩
      obtain ⟨b1, o1, rfl, hs⟩ := hx'.out k s hks
      obtain ⟨vl, vp, _, _, _, _, y4, _, ⟨al, cl, rfl, hll, xl⟩, _⟩ := hs
      have y4 := Ext.cell y4
      have xl' := Lib.hid xl
      have hA := hF'.out.span k s hks
      have hks' := Lib.hid hks
      have hl16 : s.lens.length ≤ 16 := by have := hA.lens; have := (sl_bd s.cls).2; omega
      clear hA hks xl hll
      go_wp2_with fail
      go_loopw [26] (fun i wr => ∃ (j : Nat) (M : DataW Unit), j ≤ s.lens.length ∧ i = .int .i64 j ∧ Hid (PlacesIs D M k j) ∧ ∃ x : Ext w, wr = x.val ∧ Hid (OwnP x.val w.heap.size (k * 16 + j) M)) (fun i _ => s.lens.length - (intOf i).toNat)
      case atStart => exact ⟨0, M, Nat.zero_le _, rfl, hP, x, rfl, hown⟩
      case round =>
        clear hP hown
        obtain ⟨j, M, hj, rfl, hP, x, rfl, hown⟩ := hrel
        by_cases hjl : j < s.lens.length
        · have hj1 : (j : Int) < (s.lens.length : Int) := by omega
          obtain ⟨bl, ol, rfl, gl⟩ := xl'.out j hjl
          have gl := Ext.cell gl
          have hskip := Lib.hid (hP.out.skip hks'.out (J := j))
          have hput := Lib.hid (hP.out.put hF'.out hks'.out hjl)
          have hbd := Lib.hid (show I64 (D.base + atW s (j : Int)) from by
            have hA := hF'.out.span k s hks'.out
            have hg := hF'.out.geo
            have h1 := hA.pg0
            have h2 := hA.pg1
            have hm := sz_bd s.cls
            have hm0 : 0 ≤ (j : Int) * sz s.cls := Int.mul_nonneg (by omega) hm.1
            have hm1 : (j : Int) * sz s.cls ≤ 16000 := by
              have := Int.mul_le_mul (show (j : Int) ≤ 1000 by omega) hm.2 hm.1 (by omega)
              omega
            have hg1 := hg.1
            have hg2 := hg.2.1
            unfold I64 atW
            omega)
          generalize s.lens[j]?.getD 0 = l at *
          by_cases hl : 0 < l
          · have hP2 := Lib.hid (hput.out hl)
            have bb := below_box x.val (.cells #[.int .i64 k, .int .i64 j] 93)
            have bn := box_new x.val (.cells #[.int .i64 k, .int .i64 j] 93)
            have bbh := Lib.hid (below_trans x.below bb)
            have bnh := Lib.hid bn
            have hown1 := Lib.hid (OwnP.below hown.out bb)
            have hcall := Lib.hid (fun (w2 : World) (hb : Below w.heap.size w w2) => addrI_any B _ D k j s hks'.out (hF'.out.span k s hks'.out).pg0 (by have := (hF'.out.span k s hks'.out).pg1; omega) (by omega) (by have := hF'.out.geo.1; omega) hF'.out.geo.2.1 w2 (hr'.out.below hb) (hB'.out.below hb))
            have hstep := Lib.hid (show ∀ w2, Below (x.val.alloc (.cells #[.int .i64 k, .int .i64 j] 93)).heap.size (x.val.alloc (.cells #[.int .i64 k, .int .i64 j] 93)) w2 →
                w2.cell? ⟨x.val.heap.size, 0, none⟩ = some (.int .i64 k) ∧ w2.cell? ⟨x.val.heap.size, 1, none⟩ = some (.int .i64 j) ∧
                ∃ w3, (Instr.mapUpdate 133 (.map (some w.heap.size)) (.int .i64 (D.base + atW s (j : Int))) (.agg #[.int .i64 k, .int .i64 j])).run Try.prog w2 = .ok () w3 ∧ Hid (OwnP w3 w.heap.size (k * 16 + (j + 1)) (M.put (.int .i64 (D.base + atW s (j : Int))) (dat k j))) ∧ Hid (Below w.heap.size w w3) from fun w2 b3 => by
              refine ⟨cell_of_heap (heap_below b3 bnh.out) 0 _ rfl, cell_of_heap (heap_below b3 bnh.out) 1 _ rfl, ?_⟩
              obtain ⟨w3, hrun, hown3, hg3⟩ := World.ownsMap.update (OwnP.below hown1.out b3) mapLaw Try.underlying133 (by unfold maxLen; omega) (key_i64 hbd.out) (placeElem_mk k j)
              exact ⟨w3, hrun, hown3, (below_trans bbh.out b3).grown hg3 (Nat.le_trans bbh.out.size b3.size) (fun q hq => by cases hq; exact Nat.le_refl _)⟩)
            clear hP hown hskip hput bb bn
            go_wp2_with fail
            go_region_with (first
              | (go_at_call 76; refine (hcall.out _ ?_).mono ?_; exact ⟨bbh.out.os, bbh.out.tape, bbh.out.output, bbh.out.size, bbh.out.block⟩; rintro e w2 ⟨rfl, b2⟩; obtain ⟨c0, c1, w3, hrun, hown4, b4⟩ := hstep.out w2 ⟨b2.os, b2.tape, b2.output, b2.size, b2.block⟩; clear b2))
            all_goals clear c0 c1 hrun
            all_goals obtain ⟨x2, rfl⟩ := Ext.of b4.out
            all_goals go_wp2_with fail
            all_goals go_roundw
            all_goals first
              | exact ⟨j + 1, _, by omega, by go_num, hP2, x2, rfl, hown4⟩
              | (simp [intOf]; omega)
          · have hP2 := Lib.hid (hskip.out hl)
            have hown2 := Lib.hid (show OwnP x.val w.heap.size (k * 16 + (j + 1)) M from World.ownsMap.mono hown.out (by omega))
            clear hP hown
            go_wp2_with fail
            go_roundw
            case rel => exact ⟨j + 1, M, by omega, by go_num, hP2, x, rfl, hown2⟩
            case measure => simp [intOf]; omega
        · obtain rfl : j = s.lens.length := by omega
          have hP2 := Lib.hid (hP.out.next hks'.out)
          have hown2 := Lib.hid (show OwnP x.val w.heap.size ((k + 1) * 16) M from World.ownsMap.mono hown.out (by omega))
          clear hP hown
          go_wp2_with fail
          go_roundw
          case rel => exact ⟨k + 1, M, by omega, by go_num, hP2, x, rfl, hown2⟩
          case measure => simp [intOf]; omega
    · obtain rfl : k = D.spans.length := by omega
      go_wp2_with fail
      go_ret
      exact ⟨_, _, _, rfl, hown.out, hP.out, x.below⟩
end Go.Proofs.Ytajogfnlbdiokaa

/-
  The contract of the program's Find.
-/
namespace Go.Proofs.Ytajogfnlbdiokaa
open Go.RowKit
open Go.Maps (Keyed)
set_option linter.unusedVariables false

/-- 'at, ok := places[addr]': what comes is a place; ok as it is known. -/
theorem lookup_place {P : Program} (w : World) {ops : Array Oper} {rest : List Oper} {o : Oper} {a : Act} {Q : Exit → Act → World → Prop} (hP : P = Try.prog) (hg : o.guard = none) (m x : Operand) (hop : o.op = Op.lookup 133 m x true) (b n : Nat) (D : DataW Unit)
    (hm : a.eval m = .map (some b)) (hown : OwnP w b n D) (key : Value) (kl : Lit) (hx : a.eval x = key) (hkey : keyOf P 3 key = some kl) (ok : Bool) (hok : Maps.has D kl = ok) (c d : Int) (hcd : D.atKey kl (dat 0 0) = dat c d)
    (hK : wpList P ops Q rest (a.put o.dst (.tuple #[.agg #[.int .i64 c, .int .i64 d], .bool ok])) w) : wpList P ops Q (o :: rest) a w := by
  subst hP
  refine wpList_lookup_own_ok w hg m x _ hop 3 93 mapLaw Try.underlying133 placeElem (zeroPlace w) (dat 0 0) [] (placeElem_mk 0 0) b n D hm hown key kl hx hkey fun v ps hv => ?_
  obtain ⟨c', d', rfl, he⟩ := placeElem_inv hv
  have e := congrArg Prod.fst he
  simp only at e
  rw [hcd] at e
  obtain ⟨rfl, rfl⟩ := dat_inj e
  rw [hok]
  exact hK

set_option maxRecDepth 100000 in
set_option maxHeartbeats 4000000 in
theorem findI_any (v : Value) (D : WD) (hm : MarksIn D) (addr : Int) (ha : I64 addr) (w : World) (hr : RdW w v D) :
    Calls Try.prog 51 #[v, .int .i64 addr] w fun e w' => FindIs D addr e ∧ Below w.heap.size w w' := by
  have hm' := Lib.hid hm
  clear hm
  obtain ⟨vw, vd, vs, vm, vg, rfl, a1, a2, a3, a4, a5⟩ := hr
  have bx := box_new w (.cells #[.int .i64 D.base, .int .i64 D.pages, vw, vd, vs, vm, .int .i64 D.phase, .int .i64 D.next, vg] 32)
  have bw := below_box w (.cells #[.int .i64 D.base, .int .i64 D.pages, vw, vd, vs, vm, .int .i64 D.phase, .int .i64 D.next, vg] 32)
  have hW := Lib.hid (show RdW (w.alloc (.cells #[.int .i64 D.base, .int .i64 D.pages, vw, vd, vs, vm, .int .i64 D.phase, .int .i64 D.next, vg] 32)) (.agg #[.int .i64 D.base, .int .i64 D.pages, vw, vd, vs, vm, .int .i64 D.phase, .int .i64 D.next, vg]) D from ⟨vw, vd, vs, vm, vg, rfl, a1.below bw, a2.below bw, a3.below bw, a4.below bw, a5.below bw⟩)
  have hBx := Lib.hid (show BoxW (w.alloc (.cells #[.int .i64 D.base, .int .i64 D.pages, vw, vd, vs, vm, .int .i64 D.phase, .int .i64 D.next, vg] 32)) w.heap.size (.agg #[.int .i64 D.base, .int .i64 D.pages, vw, vd, vs, vm, .int .i64 D.phase, .int .i64 D.next, vg]) from ⟨_, rfl, bx⟩)
  have bw' := Lib.hid bw
  clear a1 a2 a3 a4 a5 bx bw
  go_enter Try.func51, Try.ntmps51
  go_wp2_with fail
  refine (formOkI_any _ D hm'.out _ hW.out).mono ?_
  rintro e w1 ⟨hq, b1⟩
  have hq := hq.elim
  obtain ⟨x1, rfl⟩ := Ext.of b1
  clear b1
  generalize w.alloc (.cells #[.int .i64 D.base, .int .i64 D.pages, vw, vd, vs, vm, .int .i64 D.phase, .int .i64 D.next, vg] 32) = W at *
  rcases hq with ⟨hF, rfl⟩ | ⟨hF, rfl⟩
  case inr =>
    have n := Lib.hid (FindIs.no (D := D) (addr := addr) fun h => absurd h hF)
    clear hF
    go_wp2_with fail
    go_ret2
    exact ⟨n.out, below_trans bw'.out x1.below⟩
  have hF' := Lib.hid hF
  have hcall := Lib.hid (places_any w.heap.size _ D hF x1.val (hW.out.below x1.below) (hBx.out.below x1.below))
  have hkey := Lib.hid (key_i64 ha)
  clear hF ha
  go_wp2_with fail
  refine hcall.out.mono ?_
  rintro e w2 ⟨g, n, M, rfl, hown, hP, b2⟩
  have hown' := Lib.hid hown
  have hP' := Lib.hid hP
  have bw2 := Lib.hid (below_trans bw'.out (below_trans x1.below b2))
  clear hown hP b2 hcall
  by_cases hh : ∃ k j, IsObj D addr k j
  · obtain ⟨k, j, ho⟩ := hh
    have hk := Lib.hid (show Ahead D.spans.length 0 k j from .inl (ho.elim fun s hs => (List.getElem?_eq_some_iff.1 hs.1).1))
    have h1 := Lib.hid ((hP'.out.has addr).2 ⟨k, j, hk.out, ho⟩)
    have h2 := Lib.hid (hP'.out.is addr k j (dat 0 0) hk.out ho)
    have y := Lib.hid (FindIs.yes hF'.out ho)
    clear ho
    have hcs := World.alloc
    clear hcs
    go_wp2_with (at_lookup; refine lookup_place _ rfl rfl _ _ rfl g n M rfl hown'.out _ _ rfl hkey.out true h1.out (k : Int) (j : Int) h2.out ?_)
    go_quiet (fail)
    go_wp2
    go_ret2
    exact ⟨y.out, below_drewN (below_trans bw2.out (below_box _ _)) _⟩
  · have h1 := Lib.hid (show Maps.has M (.int .i64 addr) = false from by
      cases h : Maps.has M (.int .i64 addr)
      · rfl
      · obtain ⟨k, j, _, ho⟩ := (hP'.out.has addr).1 h
        exact absurd ⟨k, j, ho⟩ hh)
    have h2 := Lib.hid (show M.atKey (.int .i64 addr) (dat 0 0) = dat 0 0 from Maps.atKey_of_not_has h1.out _)
    have n' := Lib.hid (FindIs.no (D := D) (addr := addr) fun _ k j h => hh ⟨k, j, h⟩)
    clear hh
    go_wp2_with (at_lookup; refine lookup_place _ rfl rfl _ _ rfl g n M rfl hown'.out _ _ rfl hkey.out false h1.out 0 0 h2.out ?_)
    go_ret2
    exact ⟨n'.out, below_trans bw2.out (below_box _ _)⟩
end Go.Proofs.Ytajogfnlbdiokaa

/-
  The contract of the program's Give.
-/
namespace Go.Proofs.Ytajogfnlbdiokaa
open Go.RowKit
set_option linter.unusedVariables false

theorem empty_iff (s : SpanD) : usedCnt s s.lens.length = 0 ↔ EmptyS s := by
  unfold usedCnt EmptyS
  rw [List.take_length, List.length_eq_zero_iff, List.filter_eq_nil_iff]
  constructor
  · intro h i hi h0
    rw [List.getElem?_eq_getElem hi] at h0
    exact absurd (by simpa using h0) (h s.lens[i] (List.getElem_mem hi))
  · intro h x hx hd
    obtain ⟨i, hi, rfl⟩ := List.mem_iff_getElem.1 hx
    refine h i hi ?_
    rw [List.getElem?_eq_getElem hi]
    simpa using hd
/-- The variable's spans have one less. -/
theorem VarW.erase {w : World} {base B n0 : Nat} {S : Shape} {D : WD} (h : VarW w base B S D) (hB0 : B < n0) {v : Value} {k : Nat} (hk : k < D.spans.length)
    (hr : w.ownsRow n0 79 6 v (k + (D.spans.length - (k + 1))) ((flatV D.spans S.sv).take (k * 6) ++ (flatV D.spans S.sv).drop ((k + 1) * 6))) :
    (∃ S', VarW (w.setCell ⟨B, 4, none⟩ v) base B S' { D with spans := D.spans.eraseIdx k }) ∧ Below base w (w.setCell ⟨B, 4, none⟩ v) := by
  have hle := h.le
  have hS : OwnS w base v (D.spans.eraseIdx k) (S.sv.eraseIdx k) := OwnS.erase h.own.inner h.own.svl k hk (by omega) hr
  have hnew := h.newSpans hS ?_ ?_
  · exact ⟨⟨_, hnew.1⟩, hnew.2⟩
  · have hsub : (({ S with vs := v, sv := S.sv.eraseIdx k } : Shape).ints).Sublist S.ints := by
      show ((S.vw :: (svInts (S.sv.eraseIdx k))) ++ S.mv ++ [S.vg]).Sublist ((S.vw :: svInts S.sv) ++ S.mv ++ [S.vg])
      exact (((svInts_sub S.sv k).cons_cons _).append (List.Sublist.refl _)).append (List.Sublist.refl _)
    exact h.own.nodup.sublist (hsub.filterMap _)
  · intro x hx
    rcases List.mem_cons.1 hx with rfl | hx
    · intro e
      have := (hr.lt B e).1
      omega
    · intro e
      exact h.ne (List.mem_filterMap.2 ⟨x, by have := (svInts_sub S.sv k).subset hx; simp [Shape.all, this], e⟩)
set_option maxRecDepth 100000 in
set_option maxHeartbeats 16000000 in
theorem igive_any (v : Value) (D : WD) (addr : Int) (hm : MarksIn D) (ha : I64 addr) (hs : Small D) (w : World) (hr : RdW w v D) :
    Calls Try.prog 27 #[v, .int .i64 addr] w fun e w' => ∃ S D' f, GiveIs D addr D' f ∧ e = .returned (.tuple #[S.val D', .bool f]) ∧ OwnW w' w.heap.size S D' ∧ Below w.heap.size w w' := by
  have hs' := Lib.hid hs
  have hm' := Lib.hid hm
  have ha' := Lib.hid ha
  clear hs hm ha
  obtain ⟨vw, vd, vs, vm, vg, rfl, a1, a2, a3, a4, a5⟩ := hr
  have bb := below_trans (below_box w (.cells #[.int .i64 D.base, .int .i64 D.pages, vw, vd, vs, vm, .int .i64 D.phase, .int .i64 D.next, vg] 32)) (below_box _ (.cells #[.int .i64 0, .int .i64 0, .slice none 0 0, .slice none 0 0, .slice none 0 0, .slice none 0 0, .int .i64 0, .int .i64 0, .slice none 0 0] 32))
  have hA := heap_below (below_box (w.alloc (.cells #[.int .i64 D.base, .int .i64 D.pages, vw, vd, vs, vm, .int .i64 D.phase, .int .i64 D.next, vg] 32)) (.cells #[.int .i64 0, .int .i64 0, .slice none 0 0, .slice none 0 0, .slice none 0 0, .slice none 0 0, .int .i64 0, .int .i64 0, .slice none 0 0] 32)) (box_new w (.cells #[.int .i64 D.base, .int .i64 D.pages, vw, vd, vs, vm, .int .i64 D.phase, .int .i64 D.next, vg] 32))
  have hR := box_new (w.alloc (.cells #[.int .i64 D.base, .int .i64 D.pages, vw, vd, vs, vm, .int .i64 D.phase, .int .i64 D.next, vg] 32)) (.cells #[.int .i64 0, .int .i64 0, .slice none 0 0, .slice none 0 0, .slice none 0 0, .slice none 0 0, .int .i64 0, .int .i64 0, .slice none 0 0] 32)
  rw [World.size_alloc] at hR
  have hW := Lib.hid (show RdW ((w.alloc (.cells #[.int .i64 D.base, .int .i64 D.pages, vw, vd, vs, vm, .int .i64 D.phase, .int .i64 D.next, vg] 32)).alloc (.cells #[.int .i64 0, .int .i64 0, .slice none 0 0, .slice none 0 0, .slice none 0 0, .slice none 0 0, .int .i64 0, .int .i64 0, .slice none 0 0] 32)) (.agg #[.int .i64 D.base, .int .i64 D.pages, vw, vd, vs, vm, .int .i64 D.phase, .int .i64 D.next, vg]) D from ⟨vw, vd, vs, vm, vg, rfl, a1.below bb, a2.below bb, a3.below bb, a4.below bb, a5.below bb⟩)
  have bb' := Lib.hid bb
  have hA' := Lib.hid hA
  have hR' := Lib.hid hR
  have hz := Lib.hid (show ((w.alloc (.cells #[.int .i64 D.base, .int .i64 D.pages, vw, vd, vs, vm, .int .i64 D.phase, .int .i64 D.next, vg] 32)).alloc (.cells #[.int .i64 0, .int .i64 0, .slice none 0 0, .slice none 0 0, .slice none 0 0, .slice none 0 0, .int .i64 0, .int .i64 0, .slice none 0 0] 32)).heap.size = w.heap.size + 1 + 1 by simp)
  clear a1 a2 a3 a4 a5 bb hA hR
  go_enter Try.func27, Try.ntmps27
  go_wp2_with fail
  generalize (w.alloc (.cells #[.int .i64 D.base, .int .i64 D.pages, vw, vd, vs, vm, .int .i64 D.phase, .int .i64 D.next, vg] 32)).alloc (.cells #[.int .i64 0, .int .i64 0, .slice none 0 0, .slice none 0 0, .slice none 0 0, .slice none 0 0, .int .i64 0, .int .i64 0, .slice none 0 0] 32) = W at *
  refine (findI_any _ D hm'.out addr ha'.out _ hW.out).mono ?_
  rintro e w1 ⟨⟨r, q, rfl, hq⟩, b1⟩
  have hR1 := heap_below b1 hR'.out
  have hA1 := heap_below b1 hA'.out
  have bb1 := Lib.hid (below_trans bb'.out b1)
  have hW1 := Lib.hid (hW.out.below b1)
  have hz1 := Lib.hid (show w.heap.size + 1 + 1 ≤ w1.heap.size by have := hz.out; have := b1.size; omega)
  clear b1
  rcases Find.some hq with ⟨k, j, s, hF, ho, hks, hj, rfl, rfl⟩ | ⟨y, rfl, rfl⟩
  case inr =>
    have y := Lib.hid y
    have n0 := cell_of_heap hR1 0 _ rfl
    have n1 := cell_of_heap hR1 1 _ rfl
    have n2 := cell_of_heap hR1 2 _ rfl
    have n3 := cell_of_heap hR1 3 _ rfl
    have n4 := cell_of_heap hR1 4 _ rfl
    have n5 := cell_of_heap hR1 5 _ rfl
    have n6 := cell_of_heap hR1 6 _ rfl
    have n7 := cell_of_heap hR1 7 _ rfl
    have n8 := cell_of_heap hR1 8 _ rfl
    have z0 := frozen_of_heap hR1 0
    have z1 := frozen_of_heap hR1 1
    have z2 := frozen_of_heap hR1 2
    have z3 := frozen_of_heap hR1 3
    have z4 := frozen_of_heap hR1 4
    have z5 := frozen_of_heap hR1 5
    have z6 := frozen_of_heap hR1 6
    have z7 := frozen_of_heap hR1 7
    have z8 := frozen_of_heap hR1 8
    clear hR1 hA1 hq
    go_wp2_with fail
    refine bodyPost_ret (v := .tuple #[zeroS.val zeroD, .bool false]) (by simp [results, Try.results27, go_sem, n0, n1, n2, n3, n4, n5, n6, n7, n8, Shape.val, zeroS, zeroD]) rfl ?_
    exact ⟨zeroS, zeroD, false, y.out, rfl, own_zero _ _, Chg.below (bs := [w.heap.size + 1]) bb1.out ((((((((((Chg.refl _ _).put (b := w.heap.size + 1) (by simp) 0 _).put (b := w.heap.size + 1) (by simp) 1 _).put (b := w.heap.size + 1) (by simp) 2 _).put (b := w.heap.size + 1) (by simp) 3 _).put (b := w.heap.size + 1) (by simp) 4 _).put (b := w.heap.size + 1) (by simp) 5 _).put (b := w.heap.size + 1) (by simp) 6 _).put (b := w.heap.size + 1) (by simp) 7 _).put (b := w.heap.size + 1) (by simp) 8 _) bb1.out.size (fun q hq => by rw [List.mem_singleton.1 hq]; omega)⟩
  have hF' := Lib.hid hF
  have ho' := Lib.hid ho
  have hks' := Lib.hid hks
  have hin := Lib.hid (hF.slotIn hks hj)
  have hown := Lib.hid (copyOf_any w.heap.size _ D hs'.out w1 hW1.out ⟨_, rfl, hA1⟩)
  have hsp := Lib.hid (show D.spans.length ≤ 1000 by have := hF.spans; have := hF.geo.2.2.2.2.1; omega)
  have hR1' := Lib.hid hR1
  clear hq hR1 hA1 hF ho hks
  go_wp2_with fail
  refine hown.out.mono ?_
  rintro e w2 ⟨S, rfl, ho, b2⟩
  obtain ⟨aw, ad, aS, am, ag, cw, cd, cS, cm, cg, sv, mv, rfl⟩ := Shape.lits ho
  have hv := Lib.hid (VarW.mk_box ho b2.size)
  have bb2 := Lib.hid (below_trans bb1.out b2)
  have hR2 := Lib.hid (heap_below (below_trans b2 (below_box w2 (.cells (Shape.cells ⟨.slice aw D.words.length cw, .slice ad D.dirty.length cd, .slice aS D.spans.length cS, .slice am D.muts.length cm, .slice ag D.grey.length cg, sv, mv⟩ D) 32))) hR1'.out)
  clear ho b2 hown
  have hbs := Lib.hid (show w1.heap.size ≤ w2.heap.size from hv.out.le)
  have hRne : ¬ (w2.heap.size = w.heap.size + 1) := by have := hz1.out; have := hbs.out; omega
  have hRne' : ¬ (w.heap.size + 1 = w2.heap.size) := by omega
  dsimp only [Shape.val]
  dsimp only [Shape.cells] at hv hR2
  go_wp2_with fail
  refine (clearSlot_any _ _ _ D k j s hks'.out hin.out _ hv.out).mono ?_
  rintro e w3 ⟨⟨_, rfl⟩, hv3, b3⟩
  have bb3 := Lib.hid (show Below w.heap.size w w3 from (below_trans bb2.out (below_box w2 _)).trans (b3.mono (by have := hz1.out; omega)))
  have hR3 := Lib.hid ((b3.block (w.heap.size + 1) (by have := hz1.out; omega)).trans hR2.out)
  have hk3 := Lib.hid (show (giveD D k s j).spans[k]? = some (giveS s j) from set_at hks'.out)
  have hl3 := Lib.hid (show (giveD D k s j).spans.length ≤ 1000 by rw [(giveD_bulk hks'.out).2]; exact hsp.out)
  have y1 := Lib.hid (show EmptyS (giveS s j) → GiveIs D addr { giveD D k s j with spans := (giveD D k s j).spans.eraseIdx k } true from fun h => .inl ⟨k, j, s, hF'.out, ho'.out, hks'.out, rfl, .inl ⟨h, rfl⟩⟩)
  have y2 := Lib.hid (show ¬ EmptyS (giveS s j) → GiveIs D addr (giveD D k s j) true from fun h => .inl ⟨k, j, s, hF'.out, ho'.out, hks'.out, rfl, .inr ⟨h, rfl⟩⟩)
  have hu16 := Lib.hid (show (giveS s j).lens.length ≤ 16 from by have := hin.out.lens; have := (sl_bd s.cls).2; simp only [giveS, List.length_set]; omega)
  clear b3 hv
  generalize giveD D k s j = D3 at *
  generalize giveS s j = s3 at *
  obtain ⟨p, hp⟩ := hv3.svAt hk3.out
  obtain ⟨gs, cs, hgs⟩ := hv3.headS (by have := (List.getElem?_eq_some_iff.1 hk3.out).1; omega)
  have hkl0 := (List.getElem?_eq_some_iff.1 hk3.out).1
  have hkl1 : (k : Int) < (D3.spans.length : Int) := by omega
  have g4 := hv3.cell 4 (.slice (some ⟨gs, 0, none⟩) D3.spans.length cs) (by rw [← hgs]; rfl)
  have f4 := hv3.frz 4
  have hsm := hl3.out
  have hoS := hv3.own.ownS
  rw [hgs] at hoS
  have hsr := Lib.hid (own_src hoS)
  have hrs := Lib.hid (show RdSpan w3 gs (k * 6) s3 from by
    obtain ⟨x0, x1, x2, x3, x4, x5⟩ := hv3.six hgs hk3.out hp
    have hi := hv3.own.inner k s3 p hk3.out hp
    exact ⟨_, _, x0, x1, x2, x3, x4, x5, Rd.of_owns hi.1, Rd.of_owns hi.2⟩)
  have hus := Lib.hid (usedSlots_any gs (k * 6) s3 w3 hrs.out)
  have hei := Lib.hid (empty_iff s3)
  have hcl := usedCnt_le s3 s3.lens.length
  have h16 := hu16.out
  have hv3' := Lib.hid hv3
  have hwo := Lib.hid (withoutSpan_any (some ⟨gs, 0, none⟩) D3.spans.length cs k (flatV D3.spans _) hsr.out.2.1 hsr.out.2.2.1 hsm hkl0 w3 hsr.out.2.2.2)
  clear hv3 hp hgs hoS
  go_wp2_with fail
  refine hus.out.mono ?_
  rintro e w' ⟨rfl, rfl⟩
  generalize usedCnt s3 s3.lens.length = u at *
  by_cases he : u = 0
  · have y := Lib.hid (y1.out (hei.out.1 he))
    have hu0 : ((u : Int) == 0) = true := by rw [he]; rfl
    clear he
    go_wp2_with fail
    refine hwo.out.mono ?_
    rintro e w5 ⟨v5, rfl, hr5, b5⟩
    have hv5 := hv3'.out.below b5
    have hx5 := hv5.erase (n0 := w3.heap.size) hv3'.out.lt hkl0 hr5
    obtain ⟨a5, c5, rfl⟩ := own_slice hr5
    have g45 := cell_below b5 g4
    have f45 : w5.frozen? ⟨w2.heap.size, 4, none⟩ = false := (b5.frozen (p := ⟨w2.heap.size, 4, none⟩) hv3'.out.lt).trans f4
    obtain ⟨S5, hv⟩ := hx5.1
    have bbe := Lib.hid ((below_trans bb3.out b5).trans (hx5.2.mono (by have := hz1.out; omega)))
    have hRe := (heap_setCell_other w5 ⟨w2.heap.size, 4, none⟩ (w.heap.size + 1) (.slice a5 (k + (D3.spans.length - (k + 1))) c5) (by simpa using hRne')).trans (heap_below b5 hR3.out)
    clear b5 hr5 hv5 hx5 g4 f4
    go_upto_region 8 with fail
    clear g45 f45
    generalize ({ D3 with spans := D3.spans.eraseIdx k } : WD) = E at *
    generalize w5.setCell ⟨w2.heap.size, 4, none⟩ (.slice a5 (k + (D3.spans.length - (k + 1))) c5) = w6 at *
    obtain ⟨aw', ad', aS', am', ag', cw', cd', cS', cm', cg', sv', mv', rfl⟩ := Shape.lits hv.own
    have bE := hv.box
    dsimp only [Shape.cells] at bE
    have n0 := cell_of_heap hRe 0 _ rfl
    have n1 := cell_of_heap hRe 1 _ rfl
    have n2 := cell_of_heap hRe 2 _ rfl
    have n3 := cell_of_heap hRe 3 _ rfl
    have n4 := cell_of_heap hRe 4 _ rfl
    have n5 := cell_of_heap hRe 5 _ rfl
    have n6 := cell_of_heap hRe 6 _ rfl
    have n7 := cell_of_heap hRe 7 _ rfl
    have n8 := cell_of_heap hRe 8 _ rfl
    have z0 := frozen_of_heap hRe 0
    have z1 := frozen_of_heap hRe 1
    have z2 := frozen_of_heap hRe 2
    have z3 := frozen_of_heap hRe 3
    have z4 := frozen_of_heap hRe 4
    have z5 := frozen_of_heap hRe 5
    have z6 := frozen_of_heap hRe 6
    have z7 := frozen_of_heap hRe 7
    have z8 := frozen_of_heap hRe 8
    have m0 := cell_of_heap bE 0 _ rfl
    have m1 := cell_of_heap bE 1 _ rfl
    have m2 := cell_of_heap bE 2 _ rfl
    have m3 := cell_of_heap bE 3 _ rfl
    have m4 := cell_of_heap bE 4 _ rfl
    have m5 := cell_of_heap bE 5 _ rfl
    have m6 := cell_of_heap bE 6 _ rfl
    have m7 := cell_of_heap bE 7 _ rfl
    have m8 := cell_of_heap bE 8 _ rfl
    have hv' := Lib.hid hv
    clear hv bE hRe
    go_wp2_with fail
    refine bodyPost_ret (v := .tuple #[.agg #[.int .i64 E.base, .int .i64 E.pages, .slice aw' E.words.length cw', .slice ad' E.dirty.length cd', .slice aS' E.spans.length cS', .slice am' E.muts.length cm', .int .i64 E.phase, .int .i64 E.next, .slice ag' E.grey.length cg'], .bool true]) (by simp [results, Try.results27, go_sem, n0, n1, n2, n3, n4, n5, n6, n7, n8]) rfl ?_
    exact ⟨_, E, true, y.out, rfl, hv'.out.handed bbe.out (R := w.heap.size + 1) (by omega) (by have := hz1.out; omega) ((((((((((Chg.refl _ _).put (b := w.heap.size + 1) (by simp) 0 _).put (b := w.heap.size + 1) (by simp) 1 _).put (b := w.heap.size + 1) (by simp) 2 _).put (b := w.heap.size + 1) (by simp) 3 _).put (b := w.heap.size + 1) (by simp) 4 _).put (b := w.heap.size + 1) (by simp) 5 _).put (b := w.heap.size + 1) (by simp) 6 _).put (b := w.heap.size + 1) (by simp) 7 _).put (b := w.heap.size + 1) (by simp) 8 _)⟩
  · have y := Lib.hid (y2.out (fun h => he (hei.out.2 h)))
    have hu0 : ((u : Int) == 0) = false := beq_eq_false_iff_ne.2 (by omega)
    obtain ⟨E, hE⟩ : ∃ E, E = D3 := ⟨_, rfl⟩
    subst hE
    obtain ⟨S5, hv⟩ : ∃ S5, VarW w3 w1.heap.size w2.heap.size S5 E := ⟨_, hv3'.out⟩
    have bbe := bb3
    have hRe := hR3.out
    clear he g4 f4
    go_upto_region 8 with fail
    obtain ⟨aw', ad', aS', am', ag', cw', cd', cS', cm', cg', sv', mv', rfl⟩ := Shape.lits hv.own
    have bE := hv.box
    dsimp only [Shape.cells] at bE
    have n0 := cell_of_heap hRe 0 _ rfl
    have n1 := cell_of_heap hRe 1 _ rfl
    have n2 := cell_of_heap hRe 2 _ rfl
    have n3 := cell_of_heap hRe 3 _ rfl
    have n4 := cell_of_heap hRe 4 _ rfl
    have n5 := cell_of_heap hRe 5 _ rfl
    have n6 := cell_of_heap hRe 6 _ rfl
    have n7 := cell_of_heap hRe 7 _ rfl
    have n8 := cell_of_heap hRe 8 _ rfl
    have z0 := frozen_of_heap hRe 0
    have z1 := frozen_of_heap hRe 1
    have z2 := frozen_of_heap hRe 2
    have z3 := frozen_of_heap hRe 3
    have z4 := frozen_of_heap hRe 4
    have z5 := frozen_of_heap hRe 5
    have z6 := frozen_of_heap hRe 6
    have z7 := frozen_of_heap hRe 7
    have z8 := frozen_of_heap hRe 8
    have m0 := cell_of_heap bE 0 _ rfl
    have m1 := cell_of_heap bE 1 _ rfl
    have m2 := cell_of_heap bE 2 _ rfl
    have m3 := cell_of_heap bE 3 _ rfl
    have m4 := cell_of_heap bE 4 _ rfl
    have m5 := cell_of_heap bE 5 _ rfl
    have m6 := cell_of_heap bE 6 _ rfl
    have m7 := cell_of_heap bE 7 _ rfl
    have m8 := cell_of_heap bE 8 _ rfl
    have hv' := Lib.hid hv
    clear hv bE hRe
    go_wp2_with fail
    refine bodyPost_ret (v := .tuple #[.agg #[.int .i64 E.base, .int .i64 E.pages, .slice aw' E.words.length cw', .slice ad' E.dirty.length cd', .slice aS' E.spans.length cS', .slice am' E.muts.length cm', .int .i64 E.phase, .int .i64 E.next, .slice ag' E.grey.length cg'], .bool true]) (by simp [results, Try.results27, go_sem, n0, n1, n2, n3, n4, n5, n6, n7, n8]) rfl ?_
    exact ⟨_, E, true, y.out, rfl, hv'.out.handed bbe.out (R := w.heap.size + 1) (by omega) (by have := hz1.out; omega) ((((((((((Chg.refl _ _).put (b := w.heap.size + 1) (by simp) 0 _).put (b := w.heap.size + 1) (by simp) 1 _).put (b := w.heap.size + 1) (by simp) 2 _).put (b := w.heap.size + 1) (by simp) 3 _).put (b := w.heap.size + 1) (by simp) 4 _).put (b := w.heap.size + 1) (by simp) 5 _).put (b := w.heap.size + 1) (by simp) 6 _).put (b := w.heap.size + 1) (by simp) 7 _).put (b := w.heap.size + 1) (by simp) 8 _)⟩
end Go.Proofs.Ytajogfnlbdiokaa

/-
  The walk of FnExactGive, the contracts of the model and of the program being premises.
-/
namespace Go.Proofs.Ytajogfnlbdiokaa
open Go.RowKit
set_option linter.unusedVariables false

set_option maxRecDepth 100000 in
set_option maxHeartbeats 16000000 in
theorem lawW_give (D : WD) (addr : Int) 
    (hS : D.bulk ≤ 1048576 → ∀ (v : Value) (w : World), RdW w v D → Calls Try.prog 26 #[v, .int .i64 addr] w fun e w' => ∃ S D' f, GiveIs D addr D' f ∧ e = .returned (.tuple #[S.val D', .bool f]) ∧ OwnW w' w.heap.size S D' ∧ Below w.heap.size w w')
    (hI : D.bulk ≤ 1048576 → ∀ (v : Value) (w : World), RdW w v D → Calls Try.prog 27 #[v, .int .i64 addr] w fun e w' => ∃ S D' f, GiveIs D addr D' f ∧ e = .returned (.tuple #[S.val D', .bool f]) ∧ OwnW w' w.heap.size S D' ∧ Below w.heap.size w w')
    (v : Value) (w : World) (hr : RdW w v D) :
    Calls Try.prog 5 #[v, .int .i64 addr] w fun e w' => e = .returned (.bool true) ∧ Below w.heap.size w w' := by
  have hS' := Lib.hid hS
  have hI' := Lib.hid hI
  clear hS hI
  obtain ⟨aw, ad, aS, am, ag, cw, cd, cS, cm, cg, rfl⟩ := hr.written
  have hr' := Lib.hid hr
  have bb := Lib.hid (below_box w (.cells #[.int .i64 D.base, .int .i64 D.pages, .slice aw D.words.length cw, .slice ad D.dirty.length cd, .slice aS D.spans.length cS, .slice am D.muts.length cm, .int .i64 D.phase, .int .i64 D.next, .slice ag D.grey.length cg] 43))
  have bx := Lib.hid (box_new w (.cells #[.int .i64 D.base, .int .i64 D.pages, .slice aw D.words.length cw, .slice ad D.dirty.length cd, .slice aS D.spans.length cS, .slice am D.muts.length cm, .int .i64 D.phase, .int .i64 D.next, .slice ag D.grey.length cg] 43))
  have hrW := Lib.hid (hr.below bb.out)
  clear hr
  unfold worldV
  go_enter Try.func5, Try.ntmps5
  go_wp2_with fail
  refine (szWorld_any _ D _ (by omega) (by omega) _ hrW.out).mono ?_
  rintro e w1 ⟨r1, rfl, z1, b1⟩
  have t1 := z1.lo
  have bw1 := Lib.hid (below_trans bb.out b1)
  have bx1 := Lib.hid (heap_below b1 bx.out)
  have hr1 := Lib.hid (hr'.out.below bw1.out)
  by_cases c1 : r1 < 0
  · clear z1 b1
    go_wp2_with fail
    go_ret
    exact ⟨rfl, bw1.out⟩
  have hbk := Lib.hid (show D.bulk ≤ 1048576 by have := z1.fits (by omega); omega)
  have hsm := Lib.hid (Small.of_bulk hbk.out)
  have hzz1 := Lib.hid (show w.heap.size + 1 ≤ w1.heap.size by have := b1.size; simpa using this)
  have f0 := cell_of_heap bx1.out 0 _ rfl
  have f1 := cell_of_heap bx1.out 1 _ rfl
  have f2 := cell_of_heap bx1.out 2 _ rfl
  have f3 := cell_of_heap bx1.out 3 _ rfl
  have f4 := cell_of_heap bx1.out 4 _ rfl
  have f5 := cell_of_heap bx1.out 5 _ rfl
  have f6 := cell_of_heap bx1.out 6 _ rfl
  have f7 := cell_of_heap bx1.out 7 _ rfl
  have f8 := cell_of_heap bx1.out 8 _ rfl
  clear z1 b1
  go_wp2_with fail
  refine (toWorld_rd _ D hsm.out _ hr1.out).mono ?_
  rintro e w2 ⟨aw2, ad2, aS2, am2, ag2, cw2, cd2, cS2, cm2, cg2, rfl, h2, b2⟩
  have bw2 := Lib.hid (below_trans bw1.out b2)
  have bx2 := Lib.hid (heap_below b2 bx1.out)
  have h2' := Lib.hid h2
  have hzz2 := Lib.hid b2.size
  clear h2 b2
  clear f0 f1 f2 f3 f4 f5 f6 f7 f8
  unfold worldV
  go_wp2_with fail
  refine (hS'.out hbk.out _ _ h2'.out).mono ?_
  rintro e w3 ⟨S3, E, f, hn3, rfl, h3, b3⟩
  obtain ⟨a3, k3, c3, d3, l3, e3, s3, n3, o3, m3, q3, r3, y3, z3, u3, sv3, mv3, rfl⟩ := h3.lits
  have hn := Lib.hid hn3
  have hmE := Lib.hid (GiveIs.markable hn3 hbk.out)
  have bw3 := Lib.hid (below_trans bw2.out (below_trans b3 (below_box w3 (.cells #[.int .i64 E.base, .int .i64 E.pages, .slice a3 k3 c3, .slice d3 l3 e3, .slice s3 n3 o3, .slice m3 q3 r3, .int .i64 E.phase, .int .i64 E.next, .slice y3 z3 u3] 32))))
  have bA3 := Lib.hid (heap_below (below_trans b3 (below_box w3 (.cells #[.int .i64 E.base, .int .i64 E.pages, .slice a3 k3 c3, .slice d3 l3 e3, .slice s3 n3 o3, .slice m3 q3 r3, .int .i64 E.phase, .int .i64 E.next, .slice y3 z3 u3] 32))) bx2.out)
  have bW3 := Lib.hid (box_new w3 (.cells #[.int .i64 E.base, .int .i64 E.pages, .slice a3 k3 c3, .slice d3 l3 e3, .slice s3 n3 o3, .slice m3 q3 r3, .int .i64 E.phase, .int .i64 E.next, .slice y3 z3 u3] 32))
  have hW3 := Lib.hid (h3.below (below_box w3 (.cells #[.int .i64 E.base, .int .i64 E.pages, .slice a3 k3 c3, .slice d3 l3 e3, .slice s3 n3 o3, .slice m3 q3 r3, .int .i64 E.phase, .int .i64 E.next, .slice y3 z3 u3] 32)))
  have lt3 := Lib.hid (fun q hq => (h3.lt q hq).2)
  have hr3 := Lib.hid (hr'.out.below bw3.out)
  have hzz3 := Lib.hid b3.size
  clear hn3 h3 b3 h2'
  dsimp only [Shape.val]
  have f0 := cell_of_heap bA3.out 0 _ rfl
  have f1 := cell_of_heap bA3.out 1 _ rfl
  have f2 := cell_of_heap bA3.out 2 _ rfl
  have f3 := cell_of_heap bA3.out 3 _ rfl
  have f4 := cell_of_heap bA3.out 4 _ rfl
  have f5 := cell_of_heap bA3.out 5 _ rfl
  have f6 := cell_of_heap bA3.out 6 _ rfl
  have f7 := cell_of_heap bA3.out 7 _ rfl
  have f8 := cell_of_heap bA3.out 8 _ rfl
  go_wp2_with fail
  refine (toWorld_any _ D hsm.out _ hr3.out).mono ?_
  rintro e w4 ⟨S4, rfl, h4, b4⟩
  obtain ⟨a4, k4, c4, d4, l4, e4, s4, n4, o4, m4, q4, r4, y4, z4, u4, sv4, mv4, rfl⟩ := h4.lits
  clear f0 f1 f2 f3 f4 f5 f6 f7 f8
  have hmD := Lib.hid (show Markable D from ⟨by have := hbk.out; have h5 : D.spans.length ≤ D.bulk := (by unfold WD.bulk; omega); omega⟩)
  have bw4 := Lib.hid (below_trans bw3.out (below_trans b4 (below_box w4 (.cells #[.int .i64 D.base, .int .i64 D.pages, .slice a4 k4 c4, .slice d4 l4 e4, .slice s4 n4 o4, .slice m4 q4 r4, .int .i64 D.phase, .int .i64 D.next, .slice y4 z4 u4] 32))))
  have bA4 := Lib.hid (heap_below (below_trans b4 (below_box w4 (.cells #[.int .i64 D.base, .int .i64 D.pages, .slice a4 k4 c4, .slice d4 l4 e4, .slice s4 n4 o4, .slice m4 q4 r4, .int .i64 D.phase, .int .i64 D.next, .slice y4 z4 u4] 32))) bA3.out)
  have bW4 := Lib.hid (heap_below (below_trans b4 (below_box w4 (.cells #[.int .i64 D.base, .int .i64 D.pages, .slice a4 k4 c4, .slice d4 l4 e4, .slice s4 n4 o4, .slice m4 q4 r4, .int .i64 D.phase, .int .i64 D.next, .slice y4 z4 u4] 32))) bW3.out)
  have hW4 := Lib.hid (hW3.out.below (below_trans b4 (below_box w4 (.cells #[.int .i64 D.base, .int .i64 D.pages, .slice a4 k4 c4, .slice d4 l4 e4, .slice s4 n4 o4, .slice m4 q4 r4, .int .i64 D.phase, .int .i64 D.next, .slice y4 z4 u4] 32))))
  have bX4 := Lib.hid (box_new w4 (.cells #[.int .i64 D.base, .int .i64 D.pages, .slice a4 k4 c4, .slice d4 l4 e4, .slice s4 n4 o4, .slice m4 q4 r4, .int .i64 D.phase, .int .i64 D.next, .slice y4 z4 u4] 32))
  have hX4 := Lib.hid (h4.below (below_box w4 (.cells #[.int .i64 D.base, .int .i64 D.pages, .slice a4 k4 c4, .slice d4 l4 e4, .slice s4 n4 o4, .slice m4 q4 r4, .int .i64 D.phase, .int .i64 D.next, .slice y4 z4 u4] 32)))
  have lt4 := Lib.hid (fun q hq => (show w3.heap.size + 1 ≤ q ∧ q < w4.heap.size by have := h4.lt q hq; simpa using this))
  have hzz4 := Lib.hid (show w3.heap.size + 1 ≤ w4.heap.size by have := b4.size; simpa using this)
  clear h4 b4 hW3 bW3 bA3
  dsimp only [Shape.val]
  go_wp2_with fail
  refine (hI'.out hbk.out _ _ hX4.out.rd).mono ?_
  rintro e w5 ⟨S5, E', f5, hn5, rfl, h5, b5⟩
  obtain ⟨rfl, rfl⟩ := GiveIs.unique hn5 hn.out
  obtain ⟨a5, k5, c5, d5, l5, e5, s5, n5, o5, m5, q5, r5, y5, z5, u5, sv5, mv5, rfl⟩ := h5.lits
  have bb5 := below_trans b5 (below_box w5 (.cells #[.int .i64 E.base, .int .i64 E.pages, .slice a5 k5 c5, .slice d5 l5 e5, .slice s5 n5 o5, .slice m5 q5 r5, .int .i64 E.phase, .int .i64 E.next, .slice y5 z5 u5] 32))
  have bw5 := Lib.hid (below_trans bw4.out bb5)
  have bA5 := Lib.hid (heap_below bb5 bA4.out)
  have bW5 := Lib.hid (heap_below bb5 bW4.out)
  have hW5 := Lib.hid (hW4.out.below bb5)
  have bX5 := Lib.hid (heap_below bb5 bX4.out)
  have hX5 := Lib.hid (hX4.out.below bb5)
  have bG5 := Lib.hid (box_new w5 (.cells #[.int .i64 E.base, .int .i64 E.pages, .slice a5 k5 c5, .slice d5 l5 e5, .slice s5 n5 o5, .slice m5 q5 r5, .int .i64 E.phase, .int .i64 E.next, .slice y5 z5 u5] 32))
  have hG5 := Lib.hid (h5.below (below_box w5 (.cells #[.int .i64 E.base, .int .i64 E.pages, .slice a5 k5 c5, .slice d5 l5 e5, .slice s5 n5 o5, .slice m5 q5 r5, .int .i64 E.phase, .int .i64 E.next, .slice y5 z5 u5] 32)))
  have lt5 := Lib.hid (fun q hq => (show w4.heap.size + 1 ≤ q ∧ q < w5.heap.size by have := h5.lt q hq; simpa using this))
  have hzz5 := Lib.hid (show w4.heap.size + 1 ≤ w5.heap.size by have := b5.size; simpa using this)
  clear hn5 h5 b5 bb5 bA4 bW4 hW4 bX4 hX4
  dsimp only [Shape.val]
  have f0 := cell_of_heap bG5.out 0 _ rfl
  have f1 := cell_of_heap bG5.out 1 _ rfl
  have f2 := cell_of_heap bG5.out 2 _ rfl
  have f3 := cell_of_heap bG5.out 3 _ rfl
  have f4 := cell_of_heap bG5.out 4 _ rfl
  have f5 := cell_of_heap bG5.out 5 _ rfl
  have f6 := cell_of_heap bG5.out 6 _ rfl
  have f7 := cell_of_heap bG5.out 7 _ rfl
  have f8 := cell_of_heap bG5.out 8 _ rfl
  have g0 := cell_of_heap bW5.out 0 _ rfl
  have g1 := cell_of_heap bW5.out 1 _ rfl
  have g2 := cell_of_heap bW5.out 2 _ rfl
  have g3 := cell_of_heap bW5.out 3 _ rfl
  have g4 := cell_of_heap bW5.out 4 _ rfl
  have g5 := cell_of_heap bW5.out 5 _ rfl
  have g6 := cell_of_heap bW5.out 6 _ rfl
  have g7 := cell_of_heap bW5.out 7 _ rfl
  have g8 := cell_of_heap bW5.out 8 _ rfl
  go_wp2_with fail
  refine (eqWorld_same _ _ E _ hG5.out.rd hW5.out.rd).mono ?_
  rintro e w6 ⟨rfl, b6⟩
  have bw6 := Lib.hid (below_trans bw5.out b6)
  have bA6 := Lib.hid (heap_below b6 bA5.out)
  have bW6 := Lib.hid (heap_below b6 bW5.out)
  have hW6 := Lib.hid (hW5.out.below b6)
  have bX6 := Lib.hid (heap_below b6 bX5.out)
  have hX6 := Lib.hid (hX5.out.below b6)
  have bG6 := Lib.hid (heap_below b6 bG5.out)
  have hG6 := Lib.hid (hG5.out.below b6)
  have hr6 := Lib.hid (hr'.out.below bw6.out)
  have hzz6 := Lib.hid (show w5.heap.size + 1 ≤ w6.heap.size by have := b6.size; simpa using this)
  clear b6 bA5 bW5 hW5 bX5 hX5 bG5 hG5
  clear f0 f1 f2 f3 f4 f5 f6 f7 f8
  clear g0 g1 g2 g3 g4 g5 g6 g7 g8
  have f0 := cell_of_heap bA6.out 0 _ rfl
  have f1 := cell_of_heap bA6.out 1 _ rfl
  have f2 := cell_of_heap bA6.out 2 _ rfl
  have f3 := cell_of_heap bA6.out 3 _ rfl
  have f4 := cell_of_heap bA6.out 4 _ rfl
  have f5 := cell_of_heap bA6.out 5 _ rfl
  have f6 := cell_of_heap bA6.out 6 _ rfl
  have f7 := cell_of_heap bA6.out 7 _ rfl
  have f8 := cell_of_heap bA6.out 8 _ rfl
  have g0 := cell_of_heap bX6.out 0 _ rfl
  have g1 := cell_of_heap bX6.out 1 _ rfl
  have g2 := cell_of_heap bX6.out 2 _ rfl
  have g3 := cell_of_heap bX6.out 3 _ rfl
  have g4 := cell_of_heap bX6.out 4 _ rfl
  have g5 := cell_of_heap bX6.out 5 _ rfl
  have g6 := cell_of_heap bX6.out 6 _ rfl
  have g7 := cell_of_heap bX6.out 7 _ rfl
  have g8 := cell_of_heap bX6.out 8 _ rfl
  go_upto_region 10 with fail
  go_cut [49] (fun q wx => q = .bool false ∧ Hid (Below w6.heap.size w6 wx))
  case first =>
    go_region_with (first
      | (go_at_call 21; refine (toWorld_rd _ D hsm.out _ ?_).mono ?_; exact hr6.out; rintro e w7 ⟨aw7, ad7, aS7, am7, ag7, cw7, cd7, cS7, cm7, cg7, rfl, h7, b7⟩; have b77 := Lib.hid (show Below w6.heap.size w6 w7 from ⟨b7.os, b7.tape, b7.output, b7.size, b7.block⟩); have h67 := Lib.hid (hX6.out.rd.below b77.out); have x7 := heap_below b77.out bX6.out; have y0 := cell_of_heap x7 0 _ rfl; have y1 := cell_of_heap x7 1 _ rfl; have y2 := cell_of_heap x7 2 _ rfl; have y3 := cell_of_heap x7 3 _ rfl; have y4 := cell_of_heap x7 4 _ rfl; have y5 := cell_of_heap x7 5 _ rfl; have y6 := cell_of_heap x7 6 _ rfl; have y7 := cell_of_heap x7 7 _ rfl; have y8 := cell_of_heap x7 8 _ rfl; unfold worldV at h7 ⊢; clear b7 x7)
      | (go_at_call 23; refine (eqWorld_same _ _ D _ ?_ ?_).mono ?_; exact h67.out; exact h7; rintro e w8 ⟨rfl, b8⟩; have b88 := Lib.hid (show Below w7.heap.size w7 w8 from ⟨b8.os, b8.tape, b8.output, b8.size, b8.block⟩)))
    all_goals go_wp2_with fail
    all_goals go_meet
    all_goals exact ⟨rfl, below_trans b77.out b88.out⟩
  case rest =>
    obtain ⟨rfl, b7⟩ := hcut
    have bw7 := Lib.hid (below_trans bw6.out b7.out)
    have bA7 := Lib.hid (heap_below b7.out bA6.out)
    have bW7 := Lib.hid (heap_below b7.out bW6.out)
    have hW7 := Lib.hid (hW6.out.below b7.out)
    have bX7 := Lib.hid (heap_below b7.out bX6.out)
    have hX7 := Lib.hid (hX6.out.below b7.out)
    have bG7 := Lib.hid (heap_below b7.out bG6.out)
    have hG7 := Lib.hid (hG6.out.below b7.out)
    have hzz7 := Lib.hid b7.out.size
    clear b7 bw6 bA6 bW6 hW6 bX6 hX6 bG6 hG6
    clear f0 f1 f2 f3 f4 f5 f6 f7 f8
    clear g0 g1 g2 g3 g4 g5 g6 g7 g8
    have f0 := cell_of_heap bX7.out 0 _ rfl
    have f1 := cell_of_heap bX7.out 1 _ rfl
    have f2 := cell_of_heap bX7.out 2 _ rfl
    have f3 := cell_of_heap bX7.out 3 _ rfl
    have f4 := cell_of_heap bX7.out 4 _ rfl
    have f5 := cell_of_heap bX7.out 5 _ rfl
    have f6 := cell_of_heap bX7.out 6 _ rfl
    have f7 := cell_of_heap bX7.out 7 _ rfl
    have f8 := cell_of_heap bX7.out 8 _ rfl
    go_wp2_with fail
    refine (markWorld_any _ _ D 1 hmD.out (by omega) (by omega) _ hX7.out).mono ?_
    rintro e w8 ⟨rfl, h8, c8⟩
    have q1 := hzz1.out
    have q2 := hzz2.out
    have q3 := hzz3.out
    have q4 := hzz4.out
    have q5 := hzz5.out
    have q6 := hzz6.out
    have q7 := hzz7.out
    have bA8 := Lib.hid ((c8.block w.heap.size (by omega) (fun hq => by have := lt4.out _ hq; omega)).trans bA7.out)
    have bW8 := Lib.hid ((c8.block w3.heap.size (by omega) (fun hq => by have := lt4.out _ hq; omega)).trans bW7.out)
    have hW8 := Lib.hid (hW7.out.chg c8 (fun q hq hm => by have := lt4.out _ hm; have := lt3.out _ hq; omega))
    have bG8 := Lib.hid ((c8.block w5.heap.size (by omega) (fun hq => by have := lt4.out _ hq; omega)).trans bG7.out)
    have hG8 := Lib.hid (hG7.out.chg c8 (fun q hq hm => by have := lt4.out _ hm; have := lt5.out _ hq; omega))
    have bw8 := Lib.hid (Chg.below bw7.out c8 bw7.out.size (fun q hq => by have := lt4.out _ hq; omega))
    have hzz8 := Lib.hid c8.size
    have hM := mk_bd hmD.out (show (0 : Int) ≤ 1 by omega) (by omega)
    obtain ⟨-, -, -, -, hM0, -⟩ := hM
    generalize mk5 D 1 = M at *
    clear h8 c8 q1 q2 q3 q4 q5 q6 q7 bw7 bA7 bW7 hW7 bX7 hX7 bG7 hG7
    clear f0 f1 f2 f3 f4 f5 f6 f7 f8
    have f0 := cell_of_heap bG8.out 0 _ rfl
    have f1 := cell_of_heap bG8.out 1 _ rfl
    have f2 := cell_of_heap bG8.out 2 _ rfl
    have f3 := cell_of_heap bG8.out 3 _ rfl
    have f4 := cell_of_heap bG8.out 4 _ rfl
    have f5 := cell_of_heap bG8.out 5 _ rfl
    have f6 := cell_of_heap bG8.out 6 _ rfl
    have f7 := cell_of_heap bG8.out 7 _ rfl
    have f8 := cell_of_heap bG8.out 8 _ rfl
    have g0 := cell_of_heap bW8.out 0 _ rfl
    have g1 := cell_of_heap bW8.out 1 _ rfl
    have g2 := cell_of_heap bW8.out 2 _ rfl
    have g3 := cell_of_heap bW8.out 3 _ rfl
    have g4 := cell_of_heap bW8.out 4 _ rfl
    have g5 := cell_of_heap bW8.out 5 _ rfl
    have g6 := cell_of_heap bW8.out 6 _ rfl
    have g7 := cell_of_heap bW8.out 7 _ rfl
    have g8 := cell_of_heap bW8.out 8 _ rfl
    go_wp2_with fail
    refine (eqWorld_same _ _ E _ hG8.out.rd hW8.out.rd).mono ?_
    rintro e w9 ⟨rfl, b9⟩
    have bw9 := Lib.hid (below_trans bw8.out b9)
    have bA9 := Lib.hid (heap_below b9 bA8.out)
    have bW9 := Lib.hid (heap_below b9 bW8.out)
    have hW9 := Lib.hid (hW8.out.below b9)
    have bG9 := Lib.hid (heap_below b9 bG8.out)
    have hG9 := Lib.hid (hG8.out.below b9)
    have hzz9 := Lib.hid b9.size
    clear b9 bw8 bA8 bW8 hW8 bG8 hG8
    clear f0 f1 f2 f3 f4 f5 f6 f7 f8
    clear g0 g1 g2 g3 g4 g5 g6 g7 g8
    have f0 := cell_of_heap bG9.out 0 _ rfl
    have f1 := cell_of_heap bG9.out 1 _ rfl
    have f2 := cell_of_heap bG9.out 2 _ rfl
    have f3 := cell_of_heap bG9.out 3 _ rfl
    have f4 := cell_of_heap bG9.out 4 _ rfl
    have f5 := cell_of_heap bG9.out 5 _ rfl
    have f6 := cell_of_heap bG9.out 6 _ rfl
    have f7 := cell_of_heap bG9.out 7 _ rfl
    have f8 := cell_of_heap bG9.out 8 _ rfl
    go_wp2_with fail
    refine (markWorld_any _ _ E 1 hmE.out (by omega) (by omega) _ hG9.out).mono ?_
    rintro e w10 ⟨rfl, h10, c10⟩
    have q1 := hzz1.out
    have q2 := hzz2.out
    have q3 := hzz3.out
    have q4 := hzz4.out
    have q5 := hzz5.out
    have q6 := hzz6.out
    have q7 := hzz7.out
    have q8 := hzz8.out
    have q9 := hzz9.out
    have bA10 := Lib.hid ((c10.block w.heap.size (by omega) (fun hq => by have := lt5.out _ hq; omega)).trans bA9.out)
    have bW10 := Lib.hid ((c10.block w3.heap.size (by omega) (fun hq => by have := lt5.out _ hq; omega)).trans bW9.out)
    have hW10 := Lib.hid (hW9.out.chg c10 (fun q hq hm => by have := lt5.out _ hm; have := lt3.out _ hq; omega))
    have bG10 := Lib.hid ((c10.block w5.heap.size (by omega) (fun hq => by have := lt5.out _ hq; omega)).trans bG9.out)
    have hG10 := Lib.hid h10
    have bw10 := Lib.hid (Chg.below bw9.out c10 bw9.out.size (fun q hq => by have := lt5.out _ hq; omega))
    have hM2 := mk_bd hmE.out (show (0 : Int) ≤ 1 by omega) (by omega)
    obtain ⟨-, -, -, -, hM20, -⟩ := hM2
    have hheld := Lib.hid (fun v => heldWorld_yes v E 1 hmE.out (by omega) (by omega))
    generalize mk5 E 1 = M2 at *
    clear h10 c10 q1 q2 q3 q4 q5 q6 q7 q8 q9 bw9 bA9 bW9 hW9 bG9 hG9
    clear f0 f1 f2 f3 f4 f5 f6 f7 f8
    have f0 := cell_of_heap bG10.out 0 _ rfl
    have f1 := cell_of_heap bG10.out 1 _ rfl
    have f2 := cell_of_heap bG10.out 2 _ rfl
    have f3 := cell_of_heap bG10.out 3 _ rfl
    have f4 := cell_of_heap bG10.out 4 _ rfl
    have f5 := cell_of_heap bG10.out 5 _ rfl
    have f6 := cell_of_heap bG10.out 6 _ rfl
    have f7 := cell_of_heap bG10.out 7 _ rfl
    have f8 := cell_of_heap bG10.out 8 _ rfl
    go_wp2_with fail
    refine (hheld.out _ _ hG10.out.rd).mono ?_
    rintro e w11 ⟨rfl, b11⟩
    have bw11 := Lib.hid (below_trans bw10.out b11)
    have bA11 := Lib.hid (heap_below b11 bA10.out)
    have bW11 := Lib.hid (heap_below b11 bW10.out)
    have hW11 := Lib.hid (hW10.out.below b11)
    have bG11 := Lib.hid (heap_below b11 bG10.out)
    have hG11 := Lib.hid (hG10.out.below b11)
    have hr11 := Lib.hid (hr'.out.below bw11.out)
    clear b11 bw10 bA10 bW10 hW10 bG10 hG10
    clear f0 f1 f2 f3 f4 f5 f6 f7 f8
    have f0 := cell_of_heap bA11.out 0 _ rfl
    have f1 := cell_of_heap bA11.out 1 _ rfl
    have f2 := cell_of_heap bA11.out 2 _ rfl
    have f3 := cell_of_heap bA11.out 3 _ rfl
    have f4 := cell_of_heap bA11.out 4 _ rfl
    have f5 := cell_of_heap bA11.out 5 _ rfl
    have f6 := cell_of_heap bA11.out 6 _ rfl
    have f7 := cell_of_heap bA11.out 7 _ rfl
    have f8 := cell_of_heap bA11.out 8 _ rfl
    go_wp2_with fail
    refine (toWorld_rd _ D hsm.out _ hr11.out).mono ?_
    rintro e w12 ⟨aw2, ad2, aS2, am2, ag2, cw2, cd2, cS2, cm2, cg2, rfl, h12, b12⟩
    have bw12 := Lib.hid (below_trans bw11.out b12)
    have bW12 := Lib.hid (heap_below b12 bW11.out)
    have hW12 := Lib.hid (hW11.out.below b12)
    have bG12 := Lib.hid (heap_below b12 bG11.out)
    have hG12 := Lib.hid (hG11.out.below b12)
    have h12' := Lib.hid h12
    clear h12 b12 bw11 bA11 bW11 hW11 bG11 hG11
    clear f0 f1 f2 f3 f4 f5 f6 f7 f8
    unfold worldV
    go_wp2_with fail
    refine (hI'.out hbk.out _ _ h12'.out).mono ?_
    rintro e w13 ⟨S6, E', f6, hn6, rfl, h13, b13⟩
    obtain ⟨rfl, rfl⟩ := GiveIs.unique hn6 hn.out
    obtain ⟨a6, k6, c6, d6, l6, e6, s6, n6, o6, m6, q6, r6, y6, z6, u6, sv6, mv6, rfl⟩ := h13.lits
    have bb13 := below_trans b13 (below_box w13 (.cells #[.int .i64 E.base, .int .i64 E.pages, .slice a6 k6 c6, .slice d6 l6 e6, .slice s6 n6 o6, .slice m6 q6 r6, .int .i64 E.phase, .int .i64 E.next, .slice y6 z6 u6] 32))
    have bw13 := Lib.hid (below_trans bw12.out bb13)
    have bW13 := Lib.hid (heap_below bb13 bW12.out)
    have hW13 := Lib.hid (hW12.out.below bb13)
    have bG13 := Lib.hid (heap_below bb13 bG12.out)
    have hG13 := Lib.hid (hG12.out.below bb13)
    have bH13 := Lib.hid (box_new w13 (.cells #[.int .i64 E.base, .int .i64 E.pages, .slice a6 k6 c6, .slice d6 l6 e6, .slice s6 n6 o6, .slice m6 q6 r6, .int .i64 E.phase, .int .i64 E.next, .slice y6 z6 u6] 32))
    have hH13 := Lib.hid (h13.below (below_box w13 (.cells #[.int .i64 E.base, .int .i64 E.pages, .slice a6 k6 c6, .slice d6 l6 e6, .slice s6 n6 o6, .slice m6 q6 r6, .int .i64 E.phase, .int .i64 E.next, .slice y6 z6 u6] 32)))
    clear hn6 h13 b13 bb13 bw12 bW12 hW12 bG12 hG12 h12'
    dsimp only [Shape.val]
    have f0 := cell_of_heap bH13.out 0 _ rfl
    have f1 := cell_of_heap bH13.out 1 _ rfl
    have f2 := cell_of_heap bH13.out 2 _ rfl
    have f3 := cell_of_heap bH13.out 3 _ rfl
    have f4 := cell_of_heap bH13.out 4 _ rfl
    have f5 := cell_of_heap bH13.out 5 _ rfl
    have f6 := cell_of_heap bH13.out 6 _ rfl
    have f7 := cell_of_heap bH13.out 7 _ rfl
    have f8 := cell_of_heap bH13.out 8 _ rfl
    have g0 := cell_of_heap bW13.out 0 _ rfl
    have g1 := cell_of_heap bW13.out 1 _ rfl
    have g2 := cell_of_heap bW13.out 2 _ rfl
    have g3 := cell_of_heap bW13.out 3 _ rfl
    have g4 := cell_of_heap bW13.out 4 _ rfl
    have g5 := cell_of_heap bW13.out 5 _ rfl
    have g6 := cell_of_heap bW13.out 6 _ rfl
    have g7 := cell_of_heap bW13.out 7 _ rfl
    have g8 := cell_of_heap bW13.out 8 _ rfl
    go_wp2_with fail
    refine (eqWorld_same _ _ E _ hH13.out.rd hW13.out.rd).mono ?_
    rintro e w14 ⟨rfl, b14⟩
    have bw14 := Lib.hid (below_trans bw13.out b14)
    have bG14 := Lib.hid (heap_below b14 bG13.out)
    have hG14 := Lib.hid (hG13.out.below b14)
    clear b14 bw13 bW13 hW13 bG13 hG13 bH13 hH13
    clear f0 f1 f2 f3 f4 f5 f6 f7 f8
    clear g0 g1 g2 g3 g4 g5 g6 g7 g8
    have f0 := cell_of_heap bG14.out 0 _ rfl
    have f1 := cell_of_heap bG14.out 1 _ rfl
    have f2 := cell_of_heap bG14.out 2 _ rfl
    have f3 := cell_of_heap bG14.out 3 _ rfl
    have f4 := cell_of_heap bG14.out 4 _ rfl
    have f5 := cell_of_heap bG14.out 5 _ rfl
    have f6 := cell_of_heap bG14.out 6 _ rfl
    have f7 := cell_of_heap bG14.out 7 _ rfl
    have f8 := cell_of_heap bG14.out 8 _ rfl
    go_wp2_with fail
    refine (hheld.out _ _ hG14.out.rd).mono ?_
    rintro e w15 ⟨rfl, b15⟩
    clear f0 f1 f2 f3 f4 f5 f6 f7 f8
    go_wp2_with fail
    go_ret
    exact ⟨rfl, below_trans bw14.out b15⟩
end Go.Proofs.Ytajogfnlbdiokaa

/-
  An argument that is a World, whatever memory it lies in, reads as plain data.
-/
namespace Go.Proofs.Ytajogfnlbdiokaa
open Go.ChangeShapes Go.WideShapes Go.ChangeAt Go.RowKit Go.Deep
set_option linter.unusedVariables false

section
variable {H : Type} {enc : TypeId × Value → H} {w : World}

theorem spot_none {a : Addr} {v : Value} (h : w.cell? (a.add 0) = some v) : a.spot = none := by
  obtain ⟨b, o, s⟩ := a
  simpa [Addr.add] using World.cell?_spot h
theorem add_none {a : Addr} (h : a.spot = none) (k : Nat) : a.add k = ⟨a.block, a.off + k, none⟩ := by
  obtain ⟨b, o, s⟩ := a
  obtain rfl : s = none := h
  exact Addr.add_lit ..

theorem rd_trod {t : TypeId} {fuel : Nat} {v : Value} {x : DataW H × List MemPlace} (ht : Try.prog.underlying t = some (.slice 3)) (h : DataW.trod enc Try.prog w 0 (fun _ => true) true fuel t [v] = some x) : ∃ L, Rd w v L ∧ AllI L := by
  rcases open_ints ht Try.underlying3 (by kernel_rfl) h with ⟨hcs, _⟩ | ⟨a, l, c, zs, hcs, _, hl, hm, hz, _, hcell, hwz⟩
  · obtain rfl : v = .slice none 0 0 := by simpa using hcs
    exact ⟨[], ⟨none, 0, rfl, by simp, fun j hj => by simp at hj⟩, fun x hx => by simp at hx⟩
  · obtain rfl : v = .slice (some a) l c := by simpa using hcs
    have hzl : zs.length = c := by simpa using hz
    have hlen : (zs.take l).length = l := by simp; omega
    refine ⟨zs.take l, ⟨some a, c, by rw [hlen], by omega, fun j hj => ?_⟩, fun x hx => i64_wf (hwz x (List.mem_of_mem_take hx))⟩
    have hj' : j < l := by omega
    have hs := spot_none (hcell 0 (by omega))
    refine ⟨a.block, a.off, by obtain ⟨b, o, s⟩ := a; obtain rfl : s = none := hs; rfl, ?_⟩
    rw [← add_none hs, hcell j (by omega)]
    simp [List.getD, hj']

theorem rdB_trod {t : TypeId} {fuel : Nat} {v : Value} {x : DataW H × List MemPlace} (ht : Try.prog.underlying t = some (.slice 4)) (h : DataW.trod enc Try.prog w 0 (fun _ => true) true fuel t [v] = some x) : ∃ L, RdB w v L := by
  rcases open_bools ht Try.underlying4 (by kernel_rfl) h with ⟨hcs, _⟩ | ⟨a, l, c, B, hcs, _, hl, hm, _, hcell⟩
  · obtain rfl : v = .slice none 0 0 := by simpa using hcs
    exact ⟨[], none, 0, rfl, by simp, fun j hj => by simp at hj⟩
  · obtain rfl : v = .slice (some a) l c := by simpa using hcs
    refine ⟨(List.range l).map B, some a, c, by simp, by simp; omega, fun j hj => ?_⟩
    have hj' : j < l := by simpa using hj
    have hs := spot_none (hcell 0 (by omega))
    refine ⟨a.block, a.off, by obtain ⟨b, o, s⟩ := a; obtain rfl : s = none := hs; rfl, ?_⟩
    rw [← add_none hs, hcell j (by omega)]
    simp [hj']

theorem rdSpan_trod {fuel : Nat} {cs : List Value} {x : DataW H × List MemPlace} {b o : Nat} (hc : ∀ i, i < 6 → w.cell? ⟨b, o + i, none⟩ = cs[i]?) (hl : cs.length = 6) (h : DataW.trod enc Try.prog w 0 (fun _ => true) true fuel 137 cs = some x) : ∃ s, RdSpan w b o s ∧ FitS s := by
  match cs, hl with
  | [c0, c1, c2, c3, c4, c5], _ =>
    obtain ⟨ys, n, _, _, _, hlen, hg⟩ := DataW.trod_struct Try.underlying137 h
    have k3 : Try.prog.cellsOf 3 = 1 := by kernel_rfl
    have k4 : Try.prog.cellsOf 4 = 1 := by kernel_rfl
    have k25 : Try.prog.cellsOf 25 = 1 := by kernel_rfl
    have g0 : DataW.trod enc Try.prog w 0 (fun _ => true) true n 3 (([c0, c1, c2, c3, c4, c5].drop 0).take (Try.prog.cellsOf 3)) = ys[0]? := hg 0 _ rfl
    simp only [k3, List.drop_zero, List.take_succ_cons, List.take_zero] at g0
    have g1 : DataW.trod enc Try.prog w 0 (fun _ => true) true n 3 (([c0, c1, c2, c3, c4, c5].drop 1).take (Try.prog.cellsOf 3)) = ys[1]? := hg 1 _ rfl
    simp only [k3, List.drop_succ_cons, List.drop_zero, List.take_succ_cons, List.take_zero] at g1
    have g2 : DataW.trod enc Try.prog w 0 (fun _ => true) true n 3 (([c0, c1, c2, c3, c4, c5].drop 2).take (Try.prog.cellsOf 3)) = ys[2]? := hg 2 _ rfl
    simp only [k3, List.drop_succ_cons, List.drop_zero, List.take_succ_cons, List.take_zero] at g2
    have g3 : DataW.trod enc Try.prog w 0 (fun _ => true) true n 4 (([c0, c1, c2, c3, c4, c5].drop 3).take (Try.prog.cellsOf 4)) = ys[3]? := hg 3 _ rfl
    simp only [k4, List.drop_succ_cons, List.drop_zero, List.take_succ_cons, List.take_zero] at g3
    have g4 : DataW.trod enc Try.prog w 0 (fun _ => true) true n 25 (([c0, c1, c2, c3, c4, c5].drop 4).take (Try.prog.cellsOf 25)) = ys[4]? := hg 4 _ rfl
    simp only [k25, List.drop_succ_cons, List.drop_zero, List.take_succ_cons, List.take_zero] at g4
    have g5 : DataW.trod enc Try.prog w 0 (fun _ => true) true n 25 (([c0, c1, c2, c3, c4, c5].drop 5).take (Try.prog.cellsOf 25)) = ys[5]? := hg 5 _ rfl
    simp only [k25, List.drop_succ_cons, List.drop_zero, List.take_succ_cons, List.take_zero] at g5
    have hy : ∀ i, i < 6 → ∃ y, ys[i]? = some y := fun i hi => ⟨_, List.getElem?_eq_getElem (by rw [hlen]; exact hi)⟩
    obtain ⟨y0, e0⟩ := hy 0 (by omega)
    obtain ⟨y1, e1⟩ := hy 1 (by omega)
    obtain ⟨y2, e2⟩ := hy 2 (by omega)
    obtain ⟨y3, e3⟩ := hy 3 (by omega)
    obtain ⟨y4, e4⟩ := hy 4 (by omega)
    obtain ⟨y5, e5⟩ := hy 5 (by omega)
    obtain ⟨n0, h0, _, w0⟩ := DataW.trod_int Try.underlying3 (g0.trans e0)
    obtain ⟨n1, h1, _, w1⟩ := DataW.trod_int Try.underlying3 (g1.trans e1)
    obtain ⟨n2, h2, _, w2⟩ := DataW.trod_int Try.underlying3 (g2.trans e2)
    obtain ⟨b3, h3, _⟩ := DataW.trod_bool Try.underlying4 (g3.trans e3)
    have e4' := g4.trans e4
    have e5' := g5.trans e5
    simp only [List.cons.injEq, and_true] at h0 h1 h2 h3
    obtain ⟨L4, r4, f4⟩ := rd_trod Try.underlying25 e4'
    obtain ⟨L5, r5, f5⟩ := rd_trod Try.underlying25 e5'
    exact ⟨⟨n0, n1, n2, b3, L4, L5⟩, ⟨c4, c5, by rw [← h0]; exact hc 0 (by omega), by rw [← h1]; exact hc 1 (by omega), by rw [← h2]; exact hc 2 (by omega), by rw [← h3]; exact hc 3 (by omega), hc 4 (by omega), hc 5 (by omega), r4, r5⟩, i64_wf w0, i64_wf w1, i64_wf w2, f4, f5⟩

theorem rdS_trod {fuel : Nat} {v : Value} {x : DataW H × List MemPlace} (h : DataW.trod enc Try.prog w 0 (fun _ => true) true fuel 39 [v] = some x) : ∃ L, RdS w v L ∧ ∀ s, s ∈ L → FitS s := by
  have k6 : Try.prog.cellsOf 137 = 6 := by kernel_rfl
  rcases open_slice Try.underlying39 h with ⟨hcs, _⟩ | ⟨a, l, c, m, n, D, Pl, hcs, _, hl, hm, hmm, _, hi⟩
  · obtain rfl : v = .slice none 0 0 := by simpa using hcs
    exact ⟨[], ⟨none, 0, rfl, by simp, fun j s hj => by simp at hj⟩, fun x hx => by simp at hx⟩
  · obtain rfl : v = .slice (some a) l c := by simpa using hcs
    have hm' : m = c := by simpa using hmm
    rw [k6] at hi
    have each : ∀ i, ∃ s, i < l → a.spot = none ∧ RdSpan w a.block (a.off + i * 6) s ∧ FitS s := by
      intro i
      by_cases hil : i < l
      · obtain ⟨cs', hc, ht⟩ := hi i (by omega)
        obtain ⟨_, hcl, hat⟩ := World.cells?_some hc
        obtain ⟨cs0, hc0, _⟩ := hi 0 (by omega)
        obtain ⟨_, hcl0, hat0⟩ := World.cells?_some hc0
        have hs : a.spot = none := by
          refine spot_none (w := w) (v := cs0[0]'(by omega)) ?_
          have := hat0 0 (by omega)
          rw [List.getElem?_eq_getElem (by omega)] at this
          simpa [Addr.add] using this
        obtain ⟨s, hsp, hft⟩ := rdSpan_trod (b := a.block) (o := a.off + i * 6) (fun j hj => by
          rw [← hat j hj, add_none hs]
          rw [show (⟨a.block, a.off + i * 6, none⟩ : Addr).add j = ⟨a.block, a.off + i * 6 + j, none⟩ from Addr.add_lit ..]) hcl ht
        exact ⟨s, fun _ => ⟨hs, hsp, hft⟩⟩
      · exact ⟨⟨0, 0, 0, false, [], []⟩, fun h => absurd h hil⟩
    obtain ⟨f, hf⟩ := Classical.axiomOfChoice each
    refine ⟨(List.range l).map f, ⟨some a, c, by simp, by simp; omega, fun j s hj => ?_⟩, fun x hx => by
      obtain ⟨i, hi, rfl⟩ := List.mem_map.1 hx
      exact (hf i (List.mem_range.1 hi)).2.2⟩
    have hjl : j < l := by
      have := (List.getElem?_eq_some_iff.1 hj).1
      simpa using this
    obtain rfl : f j = s := by simpa [hjl] using hj
    obtain ⟨hs, hsp, _⟩ := hf j hjl
    exact ⟨a.block, a.off, by obtain ⟨b, o, s⟩ := a; obtain rfl : s = none := hs; rfl, hsp⟩

theorem rdM_trod {fuel : Nat} {v : Value} {x : DataW H × List MemPlace} (h : DataW.trod enc Try.prog w 0 (fun _ => true) true fuel 40 [v] = some x) : ∃ L, RdM w v L ∧ ∀ r, r ∈ L → AllI r := by
  have k1 : Try.prog.cellsOf 139 = 1 := by kernel_rfl
  have k25 : Try.prog.cellsOf 25 = 1 := by kernel_rfl
  rcases open_slice Try.underlying40 h with ⟨hcs, _⟩ | ⟨a, l, c, m, n, D, Pl, hcs, _, hl, hm, hmm, _, hi⟩
  · obtain rfl : v = .slice none 0 0 := by simpa using hcs
    exact ⟨[], ⟨none, 0, rfl, by simp, fun j s hj => by simp at hj⟩, fun x hx => by simp at hx⟩
  · obtain rfl : v = .slice (some a) l c := by simpa using hcs
    have hm' : m = c := by simpa using hmm
    rw [k1] at hi
    have each : ∀ i, ∃ r, i < l → a.spot = none ∧ (∃ u, w.cell? ⟨a.block, a.off + i, none⟩ = some u ∧ Rd w u r) ∧ AllI r := by
      intro i
      by_cases hil : i < l
      · obtain ⟨cs', hc, ht⟩ := hi i (by omega)
        obtain ⟨_, hcl, hat⟩ := World.cells?_some hc
        obtain ⟨cs0, hc0, _⟩ := hi 0 (by omega)
        obtain ⟨_, hcl0, hat0⟩ := World.cells?_some hc0
        have hs : a.spot = none := by
          refine spot_none (w := w) (v := cs0[0]'(by omega)) ?_
          have := hat0 0 (by omega)
          rw [List.getElem?_eq_getElem (by omega)] at this
          simpa [Addr.add] using this
        match cs', hcl with
        | [c0], _ =>
          obtain ⟨ys, n', _, _, _, hlen, hg⟩ := DataW.trod_struct Try.underlying139 ht
          have g0 : DataW.trod enc Try.prog w 0 (fun _ => true) true n' 25 (([c0].drop 0).take (Try.prog.cellsOf 25)) = ys[0]? := hg 0 _ rfl
          simp only [k25, List.drop_zero, List.take_succ_cons, List.take_zero] at g0
          obtain ⟨y0, e0⟩ : ∃ y, ys[0]? = some y := ⟨_, List.getElem?_eq_getElem (by rw [hlen]; exact Nat.zero_lt_one)⟩
          have e0' := g0.trans e0
          obtain ⟨L0, r0, f0⟩ := rd_trod Try.underlying25 e0'
          have h0 := hat 0 (by omega)
          rw [Nat.mul_one, add_none hs] at h0
          exact ⟨L0, fun _ => ⟨hs, ⟨c0, by simpa [Addr.add] using h0, r0⟩, f0⟩⟩
      · exact ⟨[], fun h => absurd h hil⟩
    obtain ⟨f, hf⟩ := Classical.axiomOfChoice each
    refine ⟨(List.range l).map f, ⟨some a, c, by simp, by simp; omega, fun j r hj => ?_⟩, fun x hx => by
      obtain ⟨i, hi, rfl⟩ := List.mem_map.1 hx
      exact (hf i (List.mem_range.1 hi)).2.2⟩
    have hjl : j < l := by
      have := (List.getElem?_eq_some_iff.1 hj).1
      simpa using this
    obtain rfl : f j = r := by simpa [hjl] using hj
    obtain ⟨hs, ⟨u, hu, hr⟩, _⟩ := hf j hjl
    exact ⟨a.block, a.off, u, by obtain ⟨b, o, s⟩ := a; obtain rfl : s = none := hs; rfl, hu, hr⟩

set_option maxRecDepth 100000 in
theorem rdW_trod {r : Reach} {b0 : Nat} {v : Value} {d : DataW H} {p : List MemPlace} (hv : Value.okWide Try.prog w r b0 43 v) (h : DataW.Trod enc Try.prog w 0 (fun _ => true) true 43 v d p) : ∃ D, RdW w v D ∧ FitD D := by
  have k9 : Try.prog.cellsOf 43 = 9 := by kernel_rfl
  have k3 : Try.prog.cellsOf 3 = 1 := by kernel_rfl
  have kI : Try.prog.cellsOf 25 = 1 := by kernel_rfl
  have kB : Try.prog.cellsOf 26 = 1 := by kernel_rfl
  have kS : Try.prog.cellsOf 39 = 1 := by kernel_rfl
  have kM : Try.prog.cellsOf 40 = 1 := by kernel_rfl
  have kG : Try.prog.cellsOf 41 = 3 := by kernel_rfl
  obtain ⟨cs, rfl, hsz⟩ := okWide_struct Try.underlying43 hv
  obtain ⟨l⟩ := cs
  match l, hsz.trans k9 with
  | [c0, c1, c2, c3, c4, c5, c6, c7, c8], _ =>
    obtain ⟨fuel, hf⟩ := h
    obtain ⟨ys, n, _, _, _, hlen, hg⟩ := DataW.trod_struct Try.underlying43 hf
    have hy : ∀ i, i < 7 → ∃ y, ys[i]? = some y := fun i hi => ⟨_, List.getElem?_eq_getElem (by rw [hlen]; exact hi)⟩
    obtain ⟨y0, e0⟩ := hy 0 (by omega)
    obtain ⟨y1, e1⟩ := hy 1 (by omega)
    obtain ⟨y2, e2⟩ := hy 2 (by omega)
    obtain ⟨y3, e3⟩ := hy 3 (by omega)
    obtain ⟨y4, e4⟩ := hy 4 (by omega)
    obtain ⟨y5, e5⟩ := hy 5 (by omega)
    obtain ⟨y6, e6⟩ := hy 6 (by omega)
    have g0 : DataW.trod enc Try.prog w 0 (fun _ => true) true n 3 (([c0, c1, c2, c3, c4, c5, c6, c7, c8].drop 0).take (Try.prog.cellsOf 3)) = ys[0]? := hg 0 _ rfl
    simp only [k3, List.drop_zero, List.take_succ_cons, List.take_zero] at g0
    have g1 : DataW.trod enc Try.prog w 0 (fun _ => true) true n 3 (([c0, c1, c2, c3, c4, c5, c6, c7, c8].drop 1).take (Try.prog.cellsOf 3)) = ys[1]? := hg 1 _ rfl
    simp only [k3, List.drop_succ_cons, List.drop_zero, List.take_succ_cons, List.take_zero] at g1
    have g2 : DataW.trod enc Try.prog w 0 (fun _ => true) true n 25 (([c0, c1, c2, c3, c4, c5, c6, c7, c8].drop 2).take (Try.prog.cellsOf 25)) = ys[2]? := hg 2 _ rfl
    simp only [kI, List.drop_succ_cons, List.drop_zero, List.take_succ_cons, List.take_zero] at g2
    have g3 : DataW.trod enc Try.prog w 0 (fun _ => true) true n 26 (([c0, c1, c2, c3, c4, c5, c6, c7, c8].drop 3).take (Try.prog.cellsOf 26)) = ys[3]? := hg 3 _ rfl
    simp only [kB, List.drop_succ_cons, List.drop_zero, List.take_succ_cons, List.take_zero] at g3
    have g4 : DataW.trod enc Try.prog w 0 (fun _ => true) true n 39 (([c0, c1, c2, c3, c4, c5, c6, c7, c8].drop 4).take (Try.prog.cellsOf 39)) = ys[4]? := hg 4 _ rfl
    simp only [kS, List.drop_succ_cons, List.drop_zero, List.take_succ_cons, List.take_zero] at g4
    have g5 : DataW.trod enc Try.prog w 0 (fun _ => true) true n 40 (([c0, c1, c2, c3, c4, c5, c6, c7, c8].drop 5).take (Try.prog.cellsOf 40)) = ys[5]? := hg 5 _ rfl
    simp only [kM, List.drop_succ_cons, List.drop_zero, List.take_succ_cons, List.take_zero] at g5
    have g6 : DataW.trod enc Try.prog w 0 (fun _ => true) true n 41 (([c0, c1, c2, c3, c4, c5, c6, c7, c8].drop 6).take (Try.prog.cellsOf 41)) = ys[6]? := hg 6 _ rfl
    simp only [kG, List.drop_succ_cons, List.drop_zero, List.take_succ_cons, List.take_zero] at g6
    replace g0 := g0.trans e0
    replace g1 := g1.trans e1
    replace g2 := g2.trans e2
    replace g3 := g3.trans e3
    replace g4 := g4.trans e4
    replace g5 := g5.trans e5
    replace g6 := g6.trans e6
    obtain ⟨n0, h0, _, w0⟩ := DataW.trod_int Try.underlying3 g0
    obtain ⟨n1, h1, _, w1⟩ := DataW.trod_int Try.underlying3 g1
    obtain ⟨L2, r2, u2⟩ := rd_trod Try.underlying25 g2
    obtain ⟨L3, r3⟩ := rdB_trod Try.underlying26 g3
    obtain ⟨L4, r4, q4⟩ := rdS_trod g4
    obtain ⟨L5, r5, q5⟩ := rdM_trod g5
    obtain ⟨zs, m, _, _, _, hlen6, hg6⟩ := DataW.trod_struct Try.underlying41 g6
    have hz : ∀ i, i < 3 → ∃ y, zs[i]? = some y := fun i hi => ⟨_, List.getElem?_eq_getElem (by rw [hlen6]; exact hi)⟩
    obtain ⟨z0, f0⟩ := hz 0 (by omega)
    obtain ⟨z1, f1⟩ := hz 1 (by omega)
    obtain ⟨z2, f2⟩ := hz 2 (by omega)
    have q0 : DataW.trod enc Try.prog w 0 (fun _ => true) true m 3 (([c6, c7, c8].drop 0).take (Try.prog.cellsOf 3)) = zs[0]? := hg6 0 _ rfl
    simp only [k3, List.drop_zero, List.take_succ_cons, List.take_zero] at q0
    have q1 : DataW.trod enc Try.prog w 0 (fun _ => true) true m 3 (([c6, c7, c8].drop 1).take (Try.prog.cellsOf 3)) = zs[1]? := hg6 1 _ rfl
    simp only [k3, List.drop_succ_cons, List.drop_zero, List.take_succ_cons, List.take_zero] at q1
    have q2 : DataW.trod enc Try.prog w 0 (fun _ => true) true m 25 (([c6, c7, c8].drop 2).take (Try.prog.cellsOf 25)) = zs[2]? := hg6 2 _ rfl
    simp only [kI, List.drop_succ_cons, List.drop_zero, List.take_succ_cons, List.take_zero] at q2
    replace q0 := q0.trans f0
    replace q1 := q1.trans f1
    replace q2 := q2.trans f2
    obtain ⟨n6, h6, _, w6⟩ := DataW.trod_int Try.underlying3 q0
    obtain ⟨n7, h7, _, w7⟩ := DataW.trod_int Try.underlying3 q1
    obtain ⟨L8, r8, q8⟩ := rd_trod Try.underlying25 q2
    simp only [List.cons.injEq, and_true] at h0 h1 h6 h7
    subst h0; subst h1; subst h6; subst h7
    exact ⟨⟨n0, n1, L2, L3, L4, L5, n6, n7, L8⟩, ⟨c2, c3, c4, c5, c8, rfl, r2, r3, r4, r5, r8⟩, i64_wf w0, i64_wf w1, u2, q4, q5, i64_wf w6, i64_wf w7, q8⟩
end
end Go.Proofs.Ytajogfnlbdiokaa

/-
  FnExactGive returns true for all arguments, and changes nothing that was there. No conditions.
-/
namespace Go.Proofs.Ytajogfnlbdiokaa.fnExactGive
open Go.ChangeShapes Go.WideShapes Go.ChangeAt Go.RowKit
open Go.ChangeMaps (open_string shut_string)
set_option linter.unusedVariables false

theorem own : ownKnob Try.prog.godebug = none := by kernel_rfl
theorem laidOut : laidOutB Try.prog = true := by kernel_rfl

set_option maxRecDepth 100000 in
theorem lifted (os : Os) (started : os.Started) (H : Type) (enc : TypeId × Value → H) :
    ReturnsInHanded {} Try.checked os 5 .any (Rows.fnExactGiveSpec.pre6 enc Try.prog Try.f5 Rows.fnExactGiveRow.domain false) (Rows.fnExactGiveSpec.post enc Try.prog Try.f5 false true false false) := by
  refine returnsInHanded_of_change (C := Try.checked) own started (by kernel_rfl) Try.func5
    (ChangeSpec.witness6 (enc := enc) (C := Try.checked) false ⟨#[], #[.agg #[.int .i64 0, .int .i64 0, .slice none 0 0, .slice none 0 0, .slice none 0 0, .slice none 0 0, .int .i64 0, .int .i64 0, .slice none 0 0], .int .i64 0], []⟩ 8 (by kernel_rfl) (by kernel_rfl) (by kernel_rfl) (by kernel_rfl)) ?_
  intro W base args ds gs before hval0 hW hcnd _
  have hval : ∀ (j : Nat) t v, Try.f5.params[j]? = some t → args[j]? = some v → Value.okWide Try.prog W .any base t v := hval0
  have hW' := hW
  obtain ⟨p, q, hA0, hV, rfl, hfz, hnd⟩ := hW
  have hA : DataW.TrodAll enc Try.prog W 0 (fun _ => true) true Try.f5.params.toList args.toList ds p := hA0
  rw [Try.params5] at hA hval
  obtain ⟨v0, vs0, d0, ds0, p0, q0, hargs, rfl, rfl, h0, r0⟩ := trodAll_cons hA
  obtain ⟨v1, vs1, d1, ds1, p1, q1, rfl, rfl, rfl, h1, r1⟩ := trodAll_cons r0
  obtain ⟨rfl, rfl, rfl⟩ := trodAll_nil r1
  obtain rfl : args = #[v0, v1] := by cases args; simp_all
  obtain ⟨rfl, rfl⟩ := trodVars_none hV
  have k0 := h0
  have lt0 : ∀ x ∈ p0, x.block < W.heap.size := by obtain ⟨m, hm⟩ := k0; exact DataW.trod_lt m _ _ _ hm
  obtain ⟨D0, hD0, hF0⟩ := rdW_trod (hval 0 43 v0 rfl rfl) h0
  obtain ⟨a1, rfl, rfl, rfl, w1⟩ := open_int Try.underlying3 (hval 1 3 v1 rfl rfl) h1
  clear hA0 hval0
  refine (lawW_give D0 a1 (fun hb v w hr => sgiveT_any v D0 a1 (Small.of_bulk hb) w hr) (fun hb v w hr => igive_any v D0 a1 hF0.marks (i64_wf w1) (Small.of_bulk hb) w hr) v0 W hD0).mono fun e W' ⟨he, bel⟩ => ?_
  subst he
  exact ⟨_, rfl, _, _, _, [], _, [], hW', trodAll_mk1 (shut_bool Try.underlying4 _), (trodAll_cons_mk (Below.trod laidOut (by kernel_rfl) (of_decide_eq_true (by kernel_rfl)) k0 bel lt0) (trodAll_cons_mk (shut_int Try.underlying3 w1) trodAll_mk0)), rfl, bel.frame _, fun h => by cases h⟩

theorem over : Rows.fnExactGiveRow.holds Try.pinned (OpenSpec.ofChange Rows.fnExactGiveSpec) :=
  OpenClaim.holds_of_wide 5 Try.f5 rfl rfl rfl rfl rfl rfl rfl ⟨rfl, rfl, rfl, rfl, rfl⟩ rfl rfl rfl rfl rfl (by kernel_rfl) Try.func5 (by kernel_rfl)
    (of_decide_eq_true (by kernel_rfl)) (by unfold Func.isWrapper; first | (rw [if_pos (by decide +kernel)]; kernel_rfl) | (rw [if_neg (by decide +kernel)]; exact ⟨rfl, rfl⟩))
    (fun os started H enc _ => lifted os started H enc)

theorem proved : Rows.FnExactGiveSaid := over
end Go.Proofs.Ytajogfnlbdiokaa.fnExactGive
