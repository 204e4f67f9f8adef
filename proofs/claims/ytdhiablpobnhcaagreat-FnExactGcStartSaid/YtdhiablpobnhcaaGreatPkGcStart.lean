import Derived.Test.YtdhiablpobnhcaaGreatPkSWorldOk
import Derived.Test.YtdhiablpobnhcaaGreatPkIWorldOk
import Derived.Test.YtdhiablpobnhcaaGreatPkSTake2
import Derived.Test.YtdhiablpobnhcaaGreatPkIC
import Derived.Test.YtdhiablpobnhcaaGreatPkCaps

/-
  The contracts of the model's and the program's GcStart.
-/
namespace Go.Proofs.YtdhiablpobnhcaaGreat
open Go.RowKit
set_option linter.unusedVariables false

/-- What GcStart answers. -/
def StartIs (D : WD) (D' : WD) (f : Bool) : Prop :=
  (Right D ∧ D.phase = 0 ∧ D' = { D with phase := 1 } ∧ f = true) ∨ (¬ (Right D ∧ D.phase = 0) ∧ D' = zeroD ∧ f = false)
theorem StartIs.unique {D : WD} {D1 D2 : WD} {f1 f2 : Bool} (h1 : StartIs D D1 f1) (h2 : StartIs D D2 f2) : D2 = D1 ∧ f2 = f1 := by
  rcases h1 with ⟨a, b, rfl, rfl⟩ | ⟨n, rfl, rfl⟩ <;> rcases h2 with ⟨a', b', rfl, rfl⟩ | ⟨n', rfl, rfl⟩
  · exact ⟨rfl, rfl⟩
  · exact absurd ⟨a, b⟩ n'
  · exact absurd ⟨a', b'⟩ n
  · exact ⟨rfl, rfl⟩
theorem StartIs.markable {D D' : WD} {f : Bool} (h : StartIs D D' f) (hs : D.bulk ≤ 1048576) : Markable D' := by
  have h3 : D.spans.length ≤ D.bulk := by unfold WD.bulk; omega
  rcases h with ⟨_, _, rfl, rfl⟩ | ⟨_, rfl, rfl⟩
  · exact ⟨by show D.bulk + 4 * D.spans.length ≤ 10000000000; omega⟩
  · exact ⟨by decide⟩
set_option maxRecDepth 100000 in
set_option maxHeartbeats 3000000 in
theorem sstart_any (v : Value) (D : WD) (hs : Small D) (hg : CapG v) (w : World) (hr : RdW w v D) :
    Calls Tryz.prog 36 #[v] w fun e w' => ∃ S D' f, StartIs D D' f ∧ e = .returned (.tuple #[S.val D', .bool f]) ∧ OwnW w' w.heap.size S D' ∧ Below w.heap.size w w' := by
  have hs' := Lib.hid hs
  have hg' := Lib.hid hg
  clear hs hg
  obtain ⟨vw, vd, vs, vm, vg, rfl, a1, a2, a3, a4, a5⟩ := hr
  have bb := below_trans (below_box w (.cells #[.int .i64 D.base, .int .i64 D.pages, vw, vd, vs, vm, .int .i64 D.phase, .int .i64 D.next, vg] 30)) (below_box _ (.cells #[.int .i64 0, .int .i64 0, .slice none 0 0, .slice none 0 0, .slice none 0 0, .slice none 0 0, .int .i64 0, .int .i64 0, .slice none 0 0] 30))
  have hA := heap_below (below_box (w.alloc (.cells #[.int .i64 D.base, .int .i64 D.pages, vw, vd, vs, vm, .int .i64 D.phase, .int .i64 D.next, vg] 30)) (.cells #[.int .i64 0, .int .i64 0, .slice none 0 0, .slice none 0 0, .slice none 0 0, .slice none 0 0, .int .i64 0, .int .i64 0, .slice none 0 0] 30)) (box_new w (.cells #[.int .i64 D.base, .int .i64 D.pages, vw, vd, vs, vm, .int .i64 D.phase, .int .i64 D.next, vg] 30))
  have hR := box_new (w.alloc (.cells #[.int .i64 D.base, .int .i64 D.pages, vw, vd, vs, vm, .int .i64 D.phase, .int .i64 D.next, vg] 30)) (.cells #[.int .i64 0, .int .i64 0, .slice none 0 0, .slice none 0 0, .slice none 0 0, .slice none 0 0, .int .i64 0, .int .i64 0, .slice none 0 0] 30)
  rw [World.size_alloc] at hR
  have hW := Lib.hid (show RdW ((w.alloc (.cells #[.int .i64 D.base, .int .i64 D.pages, vw, vd, vs, vm, .int .i64 D.phase, .int .i64 D.next, vg] 30)).alloc (.cells #[.int .i64 0, .int .i64 0, .slice none 0 0, .slice none 0 0, .slice none 0 0, .slice none 0 0, .int .i64 0, .int .i64 0, .slice none 0 0] 30)) (.agg #[.int .i64 D.base, .int .i64 D.pages, vw, vd, vs, vm, .int .i64 D.phase, .int .i64 D.next, vg]) D from ⟨vw, vd, vs, vm, vg, rfl, a1.below bb, a2.below bb, a3.below bb, a4.below bb, a5.below bb⟩)
  have bb' := Lib.hid bb
  have hA' := Lib.hid hA
  have hR' := Lib.hid hR
  have hz := Lib.hid (show ((w.alloc (.cells #[.int .i64 D.base, .int .i64 D.pages, vw, vd, vs, vm, .int .i64 D.phase, .int .i64 D.next, vg] 30)).alloc (.cells #[.int .i64 0, .int .i64 0, .slice none 0 0, .slice none 0 0, .slice none 0 0, .slice none 0 0, .int .i64 0, .int .i64 0, .slice none 0 0] 30)).heap.size = w.heap.size + 1 + 1 by simp)
  clear a1 a2 a3 a4 a5 bb hA hR
  go_enter Tryz.func36, Tryz.ntmps36
  go_wp2_with fail
  generalize (w.alloc (.cells #[.int .i64 D.base, .int .i64 D.pages, vw, vd, vs, vm, .int .i64 D.phase, .int .i64 D.next, vg] 30)).alloc (.cells #[.int .i64 0, .int .i64 0, .slice none 0 0, .slice none 0 0, .slice none 0 0, .slice none 0 0, .int .i64 0, .int .i64 0, .slice none 0 0] 30) = W at *
  refine (sworldOk_any _ D hg'.out _ hW.out).mono ?_
  rintro e w1 ⟨hq, b1⟩
  replace hq := hq.elim
  have hR1 := heap_below b1 hR'.out
  have hA1 := heap_below b1 hA'.out
  have bb1 := Lib.hid (below_trans bb'.out b1)
  have hW1 := Lib.hid (hW.out.below b1)
  have hz1 := Lib.hid (show w.heap.size + 1 + 1 ≤ w1.heap.size by have := hz.out; have := b1.size; omega)
  clear b1
  rcases hq with ⟨hG, rfl⟩ | ⟨hG, rfl⟩
  case inr =>
    have y := Lib.hid (show StartIs D zeroD false from .inr ⟨fun h => hG h.1, rfl, rfl⟩)
    have n0 := cell_of_heap hR1 0 _ rfl
    have n1 := cell_of_heap hR1 1 _ rfl
    have n2 := cell_of_heap hR1 2 _ rfl
    have n3 := cell_of_heap hR1 3 _ rfl
    have n4 := cell_of_heap hR1 4 _ rfl
    have n5 := cell_of_heap hR1 5 _ rfl
    have n6 := cell_of_heap hR1 6 _ rfl
    have n7 := cell_of_heap hR1 7 _ rfl
    have n8 := cell_of_heap hR1 8 _ rfl
    have z0 := frozen_of_heap hR1 0
    have z1 := frozen_of_heap hR1 1
    have z2 := frozen_of_heap hR1 2
    have z3 := frozen_of_heap hR1 3
    have z4 := frozen_of_heap hR1 4
    have z5 := frozen_of_heap hR1 5
    have z6 := frozen_of_heap hR1 6
    have z7 := frozen_of_heap hR1 7
    have z8 := frozen_of_heap hR1 8
    clear hR1 hA1 hG
    go_wp2_with fail
    refine bodyPost_ret (v := .tuple #[zeroS.val zeroD, .bool false]) (by simp [results, Tryz.results36, go_sem, n0, n1, n2, n3, n4, n5, n6, n7, n8, Shape.val, zeroS, zeroD]) rfl ?_
    exact ⟨zeroS, zeroD, false, y.out, rfl, own_zero _ _, Chg.below (bs := [w.heap.size + 1]) bb1.out ((((((((((Chg.refl _ _).put (b := w.heap.size + 1) (by simp) 0 _).put (b := w.heap.size + 1) (by simp) 1 _).put (b := w.heap.size + 1) (by simp) 2 _).put (b := w.heap.size + 1) (by simp) 3 _).put (b := w.heap.size + 1) (by simp) 4 _).put (b := w.heap.size + 1) (by simp) 5 _).put (b := w.heap.size + 1) (by simp) 6 _).put (b := w.heap.size + 1) (by simp) 7 _).put (b := w.heap.size + 1) (by simp) 8 _) bb1.out.size (fun q hq => by rw [List.mem_singleton.1 hq]; omega)⟩
  have hG' := Lib.hid hG
  clear hG
  have f0 := cell_of_heap hA1 0 _ rfl
  have f1 := cell_of_heap hA1 1 _ rfl
  have f2 := cell_of_heap hA1 2 _ rfl
  have f3 := cell_of_heap hA1 3 _ rfl
  have f4 := cell_of_heap hA1 4 _ rfl
  have f5 := cell_of_heap hA1 5 _ rfl
  have f6 := cell_of_heap hA1 6 _ rfl
  have f7 := cell_of_heap hA1 7 _ rfl
  have f8 := cell_of_heap hA1 8 _ rfl
  by_cases hp : D.phase = 0
  case neg =>
    have y := Lib.hid (show StartIs D zeroD false from .inr ⟨fun h => hp h.2, rfl, rfl⟩)
    have hpb : (D.phase != 0) = true := bne_iff_ne.2 hp
    have n0 := cell_of_heap hR1 0 _ rfl
    have n1 := cell_of_heap hR1 1 _ rfl
    have n2 := cell_of_heap hR1 2 _ rfl
    have n3 := cell_of_heap hR1 3 _ rfl
    have n4 := cell_of_heap hR1 4 _ rfl
    have n5 := cell_of_heap hR1 5 _ rfl
    have n6 := cell_of_heap hR1 6 _ rfl
    have n7 := cell_of_heap hR1 7 _ rfl
    have n8 := cell_of_heap hR1 8 _ rfl
    have z0 := frozen_of_heap hR1 0
    have z1 := frozen_of_heap hR1 1
    have z2 := frozen_of_heap hR1 2
    have z3 := frozen_of_heap hR1 3
    have z4 := frozen_of_heap hR1 4
    have z5 := frozen_of_heap hR1 5
    have z6 := frozen_of_heap hR1 6
    have z7 := frozen_of_heap hR1 7
    have z8 := frozen_of_heap hR1 8
    clear hR1 hA1 hp
    go_wp2_with fail
    refine bodyPost_ret (v := .tuple #[zeroS.val zeroD, .bool false]) (by simp [results, Tryz.results36, go_sem, n0, n1, n2, n3, n4, n5, n6, n7, n8, Shape.val, zeroS, zeroD]) rfl ?_
    exact ⟨zeroS, zeroD, false, y.out, rfl, own_zero _ _, Chg.below (bs := [w.heap.size + 1]) bb1.out ((((((((((Chg.refl _ _).put (b := w.heap.size + 1) (by simp) 0 _).put (b := w.heap.size + 1) (by simp) 1 _).put (b := w.heap.size + 1) (by simp) 2 _).put (b := w.heap.size + 1) (by simp) 3 _).put (b := w.heap.size + 1) (by simp) 4 _).put (b := w.heap.size + 1) (by simp) 5 _).put (b := w.heap.size + 1) (by simp) 6 _).put (b := w.heap.size + 1) (by simp) 7 _).put (b := w.heap.size + 1) (by simp) 8 _) bb1.out.size (fun q hq => by rw [List.mem_singleton.1 hq]; omega)⟩
  have y := Lib.hid (show StartIs D { D with phase := 1 } true from .inl ⟨hG'.out, hp, rfl, rfl⟩)
  have hpb : (D.phase != 0) = false := by rw [hp]; rfl
  clear hp
  have hown := Lib.hid (sown_any _ D hs'.out w1 hW1.out)
  have hR1' := Lib.hid hR1
  clear hR1 hA1
  go_wp2_with fail
  refine hown.out.mono ?_
  rintro e w2 ⟨S, rfl, ho, b2⟩
  obtain ⟨aw, ad, aS, am, ag, cw, cd, cS, cm, cg, sv, mv, rfl⟩ := Shape.lits ho
  have ho1 : OwnW w2 w1.heap.size ⟨.slice aw D.words.length cw, .slice ad D.dirty.length cd, .slice aS D.spans.length cS, .slice am D.muts.length cm, .slice ag D.grey.length cg, sv, mv⟩ { D with phase := 1 } := ⟨ho.words, ho.dirty, ho.spans, ho.svl, ho.inner, ho.muts, ho.mvl, ho.innerM, ho.grey, ho.nodup⟩
  have hv := VarW.mk_box ho1 b2.size
  have bbe := Lib.hid (below_trans (below_trans bb1.out b2) (below_box w2 (.cells (Shape.cells ⟨.slice aw D.words.length cw, .slice ad D.dirty.length cd, .slice aS D.spans.length cS, .slice am D.muts.length cm, .slice ag D.grey.length cg, sv, mv⟩ { D with phase := 1 }) 30)))
  have hRe := heap_below (below_trans b2 (below_box w2 (.cells (Shape.cells ⟨.slice aw D.words.length cw, .slice ad D.dirty.length cd, .slice aS D.spans.length cS, .slice am D.muts.length cm, .slice ag D.grey.length cg, sv, mv⟩ { D with phase := 1 }) 30))) hR1'.out
  clear ho ho1 b2 hown f0 f1 f2 f3 f4 f5 f6 f7 f8
  have hbs := Lib.hid (show w1.heap.size ≤ w2.heap.size from hv.le)
  have hRne : ¬ (w2.heap.size = w.heap.size + 1) := by have := hz1.out; have := hbs.out; omega
  have hRne' : ¬ (w.heap.size + 1 = w2.heap.size) := by omega
  dsimp only [Shape.val]
  dsimp only [Shape.cells] at hv hRe bbe
  go_upto_region 5 with fail
  generalize w2.alloc (.cells #[.int .i64 D.base, .int .i64 D.pages, .slice aw D.words.length cw, .slice ad D.dirty.length cd, .slice aS D.spans.length cS, .slice am D.muts.length cm, .int .i64 1, .int .i64 D.next, .slice ag D.grey.length cg] 30) = w6 at *
  have bE := hv.box
  dsimp only [Shape.cells] at bE
  have n0 := cell_of_heap hRe 0 _ rfl
  have n1 := cell_of_heap hRe 1 _ rfl
  have n2 := cell_of_heap hRe 2 _ rfl
  have n3 := cell_of_heap hRe 3 _ rfl
  have n4 := cell_of_heap hRe 4 _ rfl
  have n5 := cell_of_heap hRe 5 _ rfl
  have n6 := cell_of_heap hRe 6 _ rfl
  have n7 := cell_of_heap hRe 7 _ rfl
  have n8 := cell_of_heap hRe 8 _ rfl
  have z0 := frozen_of_heap hRe 0
  have z1 := frozen_of_heap hRe 1
  have z2 := frozen_of_heap hRe 2
  have z3 := frozen_of_heap hRe 3
  have z4 := frozen_of_heap hRe 4
  have z5 := frozen_of_heap hRe 5
  have z6 := frozen_of_heap hRe 6
  have z7 := frozen_of_heap hRe 7
  have z8 := frozen_of_heap hRe 8
  have m0 := cell_of_heap bE 0 _ rfl
  have m1 := cell_of_heap bE 1 _ rfl
  have m2 := cell_of_heap bE 2 _ rfl
  have m3 := cell_of_heap bE 3 _ rfl
  have m4 := cell_of_heap bE 4 _ rfl
  have m5 := cell_of_heap bE 5 _ rfl
  have m6 := cell_of_heap bE 6 _ rfl
  have m7 := cell_of_heap bE 7 _ rfl
  have m8 := cell_of_heap bE 8 _ rfl
  have hv' := Lib.hid hv
  clear hv bE hRe
  go_wp2_with fail
  refine bodyPost_ret (v := .tuple #[.agg #[.int .i64 D.base, .int .i64 D.pages, .slice aw D.words.length cw, .slice ad D.dirty.length cd, .slice aS D.spans.length cS, .slice am D.muts.length cm, .int .i64 1, .int .i64 D.next, .slice ag D.grey.length cg], .bool true]) (by simp [results, Tryz.results36, go_sem, n0, n1, n2, n3, n4, n5, n6, n7, n8]) rfl ?_
  exact ⟨_, { D with phase := 1 }, true, y.out, rfl, hv'.out.handed bbe.out (R := w.heap.size + 1) (by omega) (by have := hz1.out; omega) ((((((((((Chg.refl _ _).put (b := w.heap.size + 1) (by simp) 0 _).put (b := w.heap.size + 1) (by simp) 1 _).put (b := w.heap.size + 1) (by simp) 2 _).put (b := w.heap.size + 1) (by simp) 3 _).put (b := w.heap.size + 1) (by simp) 4 _).put (b := w.heap.size + 1) (by simp) 5 _).put (b := w.heap.size + 1) (by simp) 6 _).put (b := w.heap.size + 1) (by simp) 7 _).put (b := w.heap.size + 1) (by simp) 8 _)⟩
set_option maxRecDepth 100000 in
set_option maxHeartbeats 3000000 in
theorem istart_any (v : Value) (D : WD) (hs : Small D) (hf : FitD D) (hc : CapW v) (w : World) (hr : RdW w v D) :
    Calls Tryz.prog 23 #[v] w fun e w' => ∃ S D' f, StartIs D D' f ∧ e = .returned (.tuple #[S.val D', .bool f]) ∧ OwnW w' w.heap.size S D' ∧ Below w.heap.size w w' := by
  have hs' := Lib.hid hs
  have hc' := Lib.hid hc
  have hf' := Lib.hid hf
  clear hs hc hf
  obtain ⟨vw, vd, vs, vm, vg, rfl, a1, a2, a3, a4, a5⟩ := hr
  have bb := below_trans (below_box w (.cells #[.int .i64 D.base, .int .i64 D.pages, vw, vd, vs, vm, .int .i64 D.phase, .int .i64 D.next, vg] 30)) (below_box _ (.cells #[.int .i64 0, .int .i64 0, .slice none 0 0, .slice none 0 0, .slice none 0 0, .slice none 0 0, .int .i64 0, .int .i64 0, .slice none 0 0] 30))
  have hA := heap_below (below_box (w.alloc (.cells #[.int .i64 D.base, .int .i64 D.pages, vw, vd, vs, vm, .int .i64 D.phase, .int .i64 D.next, vg] 30)) (.cells #[.int .i64 0, .int .i64 0, .slice none 0 0, .slice none 0 0, .slice none 0 0, .slice none 0 0, .int .i64 0, .int .i64 0, .slice none 0 0] 30)) (box_new w (.cells #[.int .i64 D.base, .int .i64 D.pages, vw, vd, vs, vm, .int .i64 D.phase, .int .i64 D.next, vg] 30))
  have hR := box_new (w.alloc (.cells #[.int .i64 D.base, .int .i64 D.pages, vw, vd, vs, vm, .int .i64 D.phase, .int .i64 D.next, vg] 30)) (.cells #[.int .i64 0, .int .i64 0, .slice none 0 0, .slice none 0 0, .slice none 0 0, .slice none 0 0, .int .i64 0, .int .i64 0, .slice none 0 0] 30)
  rw [World.size_alloc] at hR
  have hW := Lib.hid (show RdW ((w.alloc (.cells #[.int .i64 D.base, .int .i64 D.pages, vw, vd, vs, vm, .int .i64 D.phase, .int .i64 D.next, vg] 30)).alloc (.cells #[.int .i64 0, .int .i64 0, .slice none 0 0, .slice none 0 0, .slice none 0 0, .slice none 0 0, .int .i64 0, .int .i64 0, .slice none 0 0] 30)) (.agg #[.int .i64 D.base, .int .i64 D.pages, vw, vd, vs, vm, .int .i64 D.phase, .int .i64 D.next, vg]) D from ⟨vw, vd, vs, vm, vg, rfl, a1.below bb, a2.below bb, a3.below bb, a4.below bb, a5.below bb⟩)
  have bb' := Lib.hid bb
  have hA' := Lib.hid hA
  have hR' := Lib.hid hR
  have hz := Lib.hid (show ((w.alloc (.cells #[.int .i64 D.base, .int .i64 D.pages, vw, vd, vs, vm, .int .i64 D.phase, .int .i64 D.next, vg] 30)).alloc (.cells #[.int .i64 0, .int .i64 0, .slice none 0 0, .slice none 0 0, .slice none 0 0, .slice none 0 0, .int .i64 0, .int .i64 0, .slice none 0 0] 30)).heap.size = w.heap.size + 1 + 1 by simp)
  clear a1 a2 a3 a4 a5 bb hA hR
  go_enter Tryz.func23, Tryz.ntmps23
  go_wp2_with fail
  generalize (w.alloc (.cells #[.int .i64 D.base, .int .i64 D.pages, vw, vd, vs, vm, .int .i64 D.phase, .int .i64 D.next, vg] 30)).alloc (.cells #[.int .i64 0, .int .i64 0, .slice none 0 0, .slice none 0 0, .slice none 0 0, .slice none 0 0, .int .i64 0, .int .i64 0, .slice none 0 0] 30) = W at *
  refine (iworldOk_any _ D hf'.out hc'.out _ hW.out).mono ?_
  rintro e w1 ⟨hq, b1⟩
  replace hq := hq.elim
  have hR1 := heap_below b1 hR'.out
  have hA1 := heap_below b1 hA'.out
  have bb1 := Lib.hid (below_trans bb'.out b1)
  have hW1 := Lib.hid (hW.out.below b1)
  have hz1 := Lib.hid (show w.heap.size + 1 + 1 ≤ w1.heap.size by have := hz.out; have := b1.size; omega)
  clear b1
  rcases hq with ⟨hG, rfl⟩ | ⟨hG, rfl⟩
  case inr =>
    have y := Lib.hid (show StartIs D zeroD false from .inr ⟨fun h => hG h.1, rfl, rfl⟩)
    have n0 := cell_of_heap hR1 0 _ rfl
    have n1 := cell_of_heap hR1 1 _ rfl
    have n2 := cell_of_heap hR1 2 _ rfl
    have n3 := cell_of_heap hR1 3 _ rfl
    have n4 := cell_of_heap hR1 4 _ rfl
    have n5 := cell_of_heap hR1 5 _ rfl
    have n6 := cell_of_heap hR1 6 _ rfl
    have n7 := cell_of_heap hR1 7 _ rfl
    have n8 := cell_of_heap hR1 8 _ rfl
    have z0 := frozen_of_heap hR1 0
    have z1 := frozen_of_heap hR1 1
    have z2 := frozen_of_heap hR1 2
    have z3 := frozen_of_heap hR1 3
    have z4 := frozen_of_heap hR1 4
    have z5 := frozen_of_heap hR1 5
    have z6 := frozen_of_heap hR1 6
    have z7 := frozen_of_heap hR1 7
    have z8 := frozen_of_heap hR1 8
    clear hR1 hA1 hG
    go_wp2_with fail
    refine bodyPost_ret (v := .tuple #[zeroS.val zeroD, .bool false]) (by simp [results, Tryz.results23, go_sem, n0, n1, n2, n3, n4, n5, n6, n7, n8, Shape.val, zeroS, zeroD]) rfl ?_
    exact ⟨zeroS, zeroD, false, y.out, rfl, own_zero _ _, Chg.below (bs := [w.heap.size + 1]) bb1.out ((((((((((Chg.refl _ _).put (b := w.heap.size + 1) (by simp) 0 _).put (b := w.heap.size + 1) (by simp) 1 _).put (b := w.heap.size + 1) (by simp) 2 _).put (b := w.heap.size + 1) (by simp) 3 _).put (b := w.heap.size + 1) (by simp) 4 _).put (b := w.heap.size + 1) (by simp) 5 _).put (b := w.heap.size + 1) (by simp) 6 _).put (b := w.heap.size + 1) (by simp) 7 _).put (b := w.heap.size + 1) (by simp) 8 _) bb1.out.size (fun q hq => by rw [List.mem_singleton.1 hq]; omega)⟩
  have hG' := Lib.hid hG
  clear hG
  have f0 := cell_of_heap hA1 0 _ rfl
  have f1 := cell_of_heap hA1 1 _ rfl
  have f2 := cell_of_heap hA1 2 _ rfl
  have f3 := cell_of_heap hA1 3 _ rfl
  have f4 := cell_of_heap hA1 4 _ rfl
  have f5 := cell_of_heap hA1 5 _ rfl
  have f6 := cell_of_heap hA1 6 _ rfl
  have f7 := cell_of_heap hA1 7 _ rfl
  have f8 := cell_of_heap hA1 8 _ rfl
  by_cases hp : D.phase = 0
  case neg =>
    have y := Lib.hid (show StartIs D zeroD false from .inr ⟨fun h => hp h.2, rfl, rfl⟩)
    have hpb : (D.phase != 0) = true := bne_iff_ne.2 hp
    have n0 := cell_of_heap hR1 0 _ rfl
    have n1 := cell_of_heap hR1 1 _ rfl
    have n2 := cell_of_heap hR1 2 _ rfl
    have n3 := cell_of_heap hR1 3 _ rfl
    have n4 := cell_of_heap hR1 4 _ rfl
    have n5 := cell_of_heap hR1 5 _ rfl
    have n6 := cell_of_heap hR1 6 _ rfl
    have n7 := cell_of_heap hR1 7 _ rfl
    have n8 := cell_of_heap hR1 8 _ rfl
    have z0 := frozen_of_heap hR1 0
    have z1 := frozen_of_heap hR1 1
    have z2 := frozen_of_heap hR1 2
    have z3 := frozen_of_heap hR1 3
    have z4 := frozen_of_heap hR1 4
    have z5 := frozen_of_heap hR1 5
    have z6 := frozen_of_heap hR1 6
    have z7 := frozen_of_heap hR1 7
    have z8 := frozen_of_heap hR1 8
    clear hR1 hA1 hp
    go_wp2_with fail
    refine bodyPost_ret (v := .tuple #[zeroS.val zeroD, .bool false]) (by simp [results, Tryz.results23, go_sem, n0, n1, n2, n3, n4, n5, n6, n7, n8, Shape.val, zeroS, zeroD]) rfl ?_
    exact ⟨zeroS, zeroD, false, y.out, rfl, own_zero _ _, Chg.below (bs := [w.heap.size + 1]) bb1.out ((((((((((Chg.refl _ _).put (b := w.heap.size + 1) (by simp) 0 _).put (b := w.heap.size + 1) (by simp) 1 _).put (b := w.heap.size + 1) (by simp) 2 _).put (b := w.heap.size + 1) (by simp) 3 _).put (b := w.heap.size + 1) (by simp) 4 _).put (b := w.heap.size + 1) (by simp) 5 _).put (b := w.heap.size + 1) (by simp) 6 _).put (b := w.heap.size + 1) (by simp) 7 _).put (b := w.heap.size + 1) (by simp) 8 _) bb1.out.size (fun q hq => by rw [List.mem_singleton.1 hq]; omega)⟩
  have y := Lib.hid (show StartIs D { D with phase := 1 } true from .inl ⟨hG'.out, hp, rfl, rfl⟩)
  have hpb : (D.phase != 0) = false := by rw [hp]; rfl
  clear hp
  have hown := Lib.hid (copyOf_any w.heap.size _ D hs'.out w1 hW1.out ⟨_, rfl, hA1⟩)
  have hR1' := Lib.hid hR1
  clear hR1 hA1
  go_wp2_with fail
  refine hown.out.mono ?_
  rintro e w2 ⟨S, rfl, ho, b2⟩
  obtain ⟨aw, ad, aS, am, ag, cw, cd, cS, cm, cg, sv, mv, rfl⟩ := Shape.lits ho
  have ho1 : OwnW w2 w1.heap.size ⟨.slice aw D.words.length cw, .slice ad D.dirty.length cd, .slice aS D.spans.length cS, .slice am D.muts.length cm, .slice ag D.grey.length cg, sv, mv⟩ { D with phase := 1 } := ⟨ho.words, ho.dirty, ho.spans, ho.svl, ho.inner, ho.muts, ho.mvl, ho.innerM, ho.grey, ho.nodup⟩
  have hv := VarW.mk_box ho1 b2.size
  have bbe := Lib.hid (below_trans (below_trans bb1.out b2) (below_box w2 (.cells (Shape.cells ⟨.slice aw D.words.length cw, .slice ad D.dirty.length cd, .slice aS D.spans.length cS, .slice am D.muts.length cm, .slice ag D.grey.length cg, sv, mv⟩ { D with phase := 1 }) 30)))
  have hRe := heap_below (below_trans b2 (below_box w2 (.cells (Shape.cells ⟨.slice aw D.words.length cw, .slice ad D.dirty.length cd, .slice aS D.spans.length cS, .slice am D.muts.length cm, .slice ag D.grey.length cg, sv, mv⟩ { D with phase := 1 }) 30))) hR1'.out
  clear ho ho1 b2 hown f0 f1 f2 f3 f4 f5 f6 f7 f8
  have hbs := Lib.hid (show w1.heap.size ≤ w2.heap.size from hv.le)
  have hRne : ¬ (w2.heap.size = w.heap.size + 1) := by have := hz1.out; have := hbs.out; omega
  have hRne' : ¬ (w.heap.size + 1 = w2.heap.size) := by omega
  dsimp only [Shape.val]
  dsimp only [Shape.cells] at hv hRe bbe
  go_upto_region 5 with fail
  generalize w2.alloc (.cells #[.int .i64 D.base, .int .i64 D.pages, .slice aw D.words.length cw, .slice ad D.dirty.length cd, .slice aS D.spans.length cS, .slice am D.muts.length cm, .int .i64 1, .int .i64 D.next, .slice ag D.grey.length cg] 30) = w6 at *
  have bE := hv.box
  dsimp only [Shape.cells] at bE
  have n0 := cell_of_heap hRe 0 _ rfl
  have n1 := cell_of_heap hRe 1 _ rfl
  have n2 := cell_of_heap hRe 2 _ rfl
  have n3 := cell_of_heap hRe 3 _ rfl
  have n4 := cell_of_heap hRe 4 _ rfl
  have n5 := cell_of_heap hRe 5 _ rfl
  have n6 := cell_of_heap hRe 6 _ rfl
  have n7 := cell_of_heap hRe 7 _ rfl
  have n8 := cell_of_heap hRe 8 _ rfl
  have z0 := frozen_of_heap hRe 0
  have z1 := frozen_of_heap hRe 1
  have z2 := frozen_of_heap hRe 2
  have z3 := frozen_of_heap hRe 3
  have z4 := frozen_of_heap hRe 4
  have z5 := frozen_of_heap hRe 5
  have z6 := frozen_of_heap hRe 6
  have z7 := frozen_of_heap hRe 7
  have z8 := frozen_of_heap hRe 8
  have m0 := cell_of_heap bE 0 _ rfl
  have m1 := cell_of_heap bE 1 _ rfl
  have m2 := cell_of_heap bE 2 _ rfl
  have m3 := cell_of_heap bE 3 _ rfl
  have m4 := cell_of_heap bE 4 _ rfl
  have m5 := cell_of_heap bE 5 _ rfl
  have m6 := cell_of_heap bE 6 _ rfl
  have m7 := cell_of_heap bE 7 _ rfl
  have m8 := cell_of_heap bE 8 _ rfl
  have hv' := Lib.hid hv
  clear hv bE hRe
  go_wp2_with fail
  refine bodyPost_ret (v := .tuple #[.agg #[.int .i64 D.base, .int .i64 D.pages, .slice aw D.words.length cw, .slice ad D.dirty.length cd, .slice aS D.spans.length cS, .slice am D.muts.length cm, .int .i64 1, .int .i64 D.next, .slice ag D.grey.length cg], .bool true]) (by simp [results, Tryz.results23, go_sem, n0, n1, n2, n3, n4, n5, n6, n7, n8]) rfl ?_
  exact ⟨_, { D with phase := 1 }, true, y.out, rfl, hv'.out.handed bbe.out (R := w.heap.size + 1) (by omega) (by have := hz1.out; omega) ((((((((((Chg.refl _ _).put (b := w.heap.size + 1) (by simp) 0 _).put (b := w.heap.size + 1) (by simp) 1 _).put (b := w.heap.size + 1) (by simp) 2 _).put (b := w.heap.size + 1) (by simp) 3 _).put (b := w.heap.size + 1) (by simp) 4 _).put (b := w.heap.size + 1) (by simp) 5 _).put (b := w.heap.size + 1) (by simp) 6 _).put (b := w.heap.size + 1) (by simp) 7 _).put (b := w.heap.size + 1) (by simp) 8 _)⟩
end Go.Proofs.YtdhiablpobnhcaaGreat
