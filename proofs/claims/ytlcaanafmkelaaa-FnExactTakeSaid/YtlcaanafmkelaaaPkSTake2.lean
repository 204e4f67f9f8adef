import Derived.Test.YtlcaanafmkelaaaPkSTake
import Derived.Test.YtlcaanafmkelaaaPkSOwn4

/-
  The contracts of the model's Take and Give.
-/
namespace Go.Proofs.Ytlcaanafmkelaaa
open Go.RowKit
set_option linter.unusedVariables false

theorem Shape.lits {w : World} {base : Nat} {S : Shape} {D : WD} (h : OwnW w base S D) : ∃ aw ad aS am ag cw cd cS cm cg sv mv, S = ⟨.slice aw D.words.length cw, .slice ad D.dirty.length cd, .slice aS D.spans.length cS, .slice am D.muts.length cm, .slice ag D.grey.length cg, sv, mv⟩ := by
  obtain ⟨vw, vd, vs, vm, vg, sv, mv⟩ := S
  obtain ⟨a1, c1, h1⟩ := own_slice h.words
  obtain ⟨a2, c2, h2⟩ := own_slice h.dirty
  obtain ⟨a3, c3, h3⟩ := own_slice h.spans
  obtain ⟨a4, c4, h4⟩ := own_slice h.muts
  obtain ⟨a5, c5, h5⟩ := own_slice h.grey
  simp only at h1 h2 h3 h4 h5
  subst h1 h2 h3 h4 h5
  exact ⟨_, _, _, _, _, _, _, _, _, _, _, _, rfl⟩
/-- A World of its own comes into a variable of its own. -/
theorem VarW.mk_box {w : World} {base : Nat} {S : Shape} {D : WD} (h : OwnW w base S D) (hb : base ≤ w.heap.size) : VarW (w.alloc (.cells (S.cells D) 35)) base w.heap.size S D :=
  ⟨box_new w _, h.below (below_box w _), hb, fun hm => by have := (h.lt _ hm).2; omega⟩
/-- The variable's World is handed back through block R. -/
theorem VarW.handed {w wr wF : World} {base B R : Nat} {S : Shape} {D : WD} (h : VarW wr base B S D) (hb : Below w.heap.size w wr) (h1 : w.heap.size ≤ R) (h2 : R < base) (hc : Chg [R] wr wF) : OwnW wF w.heap.size S D ∧ Below w.heap.size w wF :=
  ⟨(h.own.chg0 hc (fun q hq => by rw [List.mem_singleton.1 hq]; omega)).base_le (by omega), Chg.below hb hc hb.size (fun q hq => by rw [List.mem_singleton.1 hq]; omega)⟩

set_option maxRecDepth 100000 in
set_option maxHeartbeats 16000000 in
theorem stake_any (v : Value) (D : WD) (n p : Int) (hs : Small D) (w : World) (hr : RdW w v D) :
    Calls Try.prog 6 #[v, .int .i64 n, .int .i64 p] w fun e w' => ∃ S D' a f, TakeIs D n p D' a f ∧ e = .returned (.tuple #[S.val D', .int .i64 a, .bool f]) ∧ OwnW w' w.heap.size S D' ∧ Below w.heap.size w w' := by
  have hs' := Lib.hid hs
  clear hs
  obtain ⟨vw, vd, vs, vm, vg, rfl, a1, a2, a3, a4, a5⟩ := hr
  have bb := below_trans (below_box w (.cells #[.int .i64 D.base, .int .i64 D.pages, vw, vd, vs, vm, .int .i64 D.phase, .int .i64 D.next, vg] 35)) (below_box _ (.cells #[.int .i64 0, .int .i64 0, .slice none 0 0, .slice none 0 0, .slice none 0 0, .slice none 0 0, .int .i64 0, .int .i64 0, .slice none 0 0] 35))
  have hA := heap_below (below_box (w.alloc (.cells #[.int .i64 D.base, .int .i64 D.pages, vw, vd, vs, vm, .int .i64 D.phase, .int .i64 D.next, vg] 35)) (.cells #[.int .i64 0, .int .i64 0, .slice none 0 0, .slice none 0 0, .slice none 0 0, .slice none 0 0, .int .i64 0, .int .i64 0, .slice none 0 0] 35)) (box_new w (.cells #[.int .i64 D.base, .int .i64 D.pages, vw, vd, vs, vm, .int .i64 D.phase, .int .i64 D.next, vg] 35))
  have hR := box_new (w.alloc (.cells #[.int .i64 D.base, .int .i64 D.pages, vw, vd, vs, vm, .int .i64 D.phase, .int .i64 D.next, vg] 35)) (.cells #[.int .i64 0, .int .i64 0, .slice none 0 0, .slice none 0 0, .slice none 0 0, .slice none 0 0, .int .i64 0, .int .i64 0, .slice none 0 0] 35)
  rw [World.size_alloc] at hR
  have hW := Lib.hid (show RdW ((w.alloc (.cells #[.int .i64 D.base, .int .i64 D.pages, vw, vd, vs, vm, .int .i64 D.phase, .int .i64 D.next, vg] 35)).alloc (.cells #[.int .i64 0, .int .i64 0, .slice none 0 0, .slice none 0 0, .slice none 0 0, .slice none 0 0, .int .i64 0, .int .i64 0, .slice none 0 0] 35)) (.agg #[.int .i64 D.base, .int .i64 D.pages, vw, vd, vs, vm, .int .i64 D.phase, .int .i64 D.next, vg]) D from ⟨vw, vd, vs, vm, vg, rfl, a1.below bb, a2.below bb, a3.below bb, a4.below bb, a5.below bb⟩)
  have bb' := Lib.hid bb
  have hA' := Lib.hid hA
  have hR' := Lib.hid hR
  have hz := Lib.hid (show ((w.alloc (.cells #[.int .i64 D.base, .int .i64 D.pages, vw, vd, vs, vm, .int .i64 D.phase, .int .i64 D.next, vg] 35)).alloc (.cells #[.int .i64 0, .int .i64 0, .slice none 0 0, .slice none 0 0, .slice none 0 0, .slice none 0 0, .int .i64 0, .int .i64 0, .slice none 0 0] 35)).heap.size = w.heap.size + 1 + 1 by simp)
  clear a1 a2 a3 a4 a5 bb hA hR
  go_enter Try.func6, Try.ntmps6
  go_wp2_with fail
  generalize (w.alloc (.cells #[.int .i64 D.base, .int .i64 D.pages, vw, vd, vs, vm, .int .i64 D.phase, .int .i64 D.next, vg] 35)).alloc (.cells #[.int .i64 0, .int .i64 0, .slice none 0 0, .slice none 0 0, .slice none 0 0, .slice none 0 0, .int .i64 0, .int .i64 0, .slice none 0 0] 35) = W at *
  refine (formOk_any _ D _ hW.out).mono ?_
  rintro e w1 ⟨hq, b1⟩
  have hq := hq.elim
  have hR1 := heap_below b1 hR'.out
  have hA1 := heap_below b1 hA'.out
  have bb1 := Lib.hid (below_trans bb'.out b1)
  have hW1 := Lib.hid (hW.out.below b1)
  have hz1 := Lib.hid (show w.heap.size + 1 + 1 ≤ w1.heap.size by have := hz.out; have := b1.size; omega)
  have hcn := Lib.hid (fun w => spec_classOf_any n w)
  by_cases hok : TakeOk D n p
  case neg =>
    have y := Lib.hid (show TakeIs D n p zeroD 0 false from .inr ⟨fun h => absurd h hok, rfl, rfl, rfl⟩)
    have hok' := Lib.hid hok
    have n0 := cell_of_heap hR1 0 _ rfl
    have n1 := cell_of_heap hR1 1 _ rfl
    have n2 := cell_of_heap hR1 2 _ rfl
    have n3 := cell_of_heap hR1 3 _ rfl
    have n4 := cell_of_heap hR1 4 _ rfl
    have n5 := cell_of_heap hR1 5 _ rfl
    have n6 := cell_of_heap hR1 6 _ rfl
    have n7 := cell_of_heap hR1 7 _ rfl
    have n8 := cell_of_heap hR1 8 _ rfl
    have z0 := frozen_of_heap hR1 0
    have z1 := frozen_of_heap hR1 1
    have z2 := frozen_of_heap hR1 2
    have z3 := frozen_of_heap hR1 3
    have z4 := frozen_of_heap hR1 4
    have z5 := frozen_of_heap hR1 5
    have z6 := frozen_of_heap hR1 6
    have z7 := frozen_of_heap hR1 7
    have z8 := frozen_of_heap hR1 8
    clear hok b1 hR1 hA1
    rcases hq with ⟨hF, rfl⟩ | ⟨hF, rfl⟩
    case inr =>
      clear hF
      go_wp2_with (go_at_call 20; refine (hcn.out _).mono ?_; rintro e w' ⟨rfl, rfl⟩)
      refine bodyPost_ret (v := .tuple #[zeroS.val zeroD, .int .i64 0, .bool false]) (by simp [results, Try.results6, go_sem, n0, n1, n2, n3, n4, n5, n6, n7, n8, Shape.val, zeroS, zeroD]) rfl ?_
      exact ⟨zeroS, zeroD, 0, false, y.out, rfl, own_zero _ _, Chg.below (bs := [w.heap.size + 1]) bb1.out ((((((((((Chg.refl _ _).put (b := w.heap.size + 1) (by simp) 0 _).put (b := w.heap.size + 1) (by simp) 1 _).put (b := w.heap.size + 1) (by simp) 2 _).put (b := w.heap.size + 1) (by simp) 3 _).put (b := w.heap.size + 1) (by simp) 4 _).put (b := w.heap.size + 1) (by simp) 5 _).put (b := w.heap.size + 1) (by simp) 6 _).put (b := w.heap.size + 1) (by simp) 7 _).put (b := w.heap.size + 1) (by simp) 8 _) bb1.out.size (fun q hq => by rw [List.mem_singleton.1 hq]; omega)⟩
    have hF' := Lib.hid hF
    clear hF
    by_cases e1 : 1 ≤ n ∧ n ≤ 16
    case neg =>
      have hcl := cl_no (n := n) (by omega)
      rw [hcl] at hcn
      clear e1 hcl
      go_wp2_with (go_at_call 20; refine (hcn.out _).mono ?_; rintro e w' ⟨rfl, rfl⟩)
      refine bodyPost_ret (v := .tuple #[zeroS.val zeroD, .int .i64 0, .bool false]) (by simp [results, Try.results6, go_sem, n0, n1, n2, n3, n4, n5, n6, n7, n8, Shape.val, zeroS, zeroD]) rfl ?_
      exact ⟨zeroS, zeroD, 0, false, y.out, rfl, own_zero _ _, Chg.below (bs := [w.heap.size + 1]) bb1.out ((((((((((Chg.refl _ _).put (b := w.heap.size + 1) (by simp) 0 _).put (b := w.heap.size + 1) (by simp) 1 _).put (b := w.heap.size + 1) (by simp) 2 _).put (b := w.heap.size + 1) (by simp) 3 _).put (b := w.heap.size + 1) (by simp) 4 _).put (b := w.heap.size + 1) (by simp) 5 _).put (b := w.heap.size + 1) (by simp) 6 _).put (b := w.heap.size + 1) (by simp) 7 _).put (b := w.heap.size + 1) (by simp) 8 _) bb1.out.size (fun q hq => by rw [List.mem_singleton.1 hq]; omega)⟩
    have hcl := cl_ok e1.1 e1.2
    obtain ⟨hcl1, -, -, -⟩ := hcl
    by_cases e3 : p < 0
    case pos =>
      go_wp2_with (go_at_call 20; refine (hcn.out _).mono ?_; rintro e w' ⟨rfl, rfl⟩)
      refine bodyPost_ret (v := .tuple #[zeroS.val zeroD, .int .i64 0, .bool false]) (by simp [results, Try.results6, go_sem, n0, n1, n2, n3, n4, n5, n6, n7, n8, Shape.val, zeroS, zeroD]) rfl ?_
      exact ⟨zeroS, zeroD, 0, false, y.out, rfl, own_zero _ _, Chg.below (bs := [w.heap.size + 1]) bb1.out ((((((((((Chg.refl _ _).put (b := w.heap.size + 1) (by simp) 0 _).put (b := w.heap.size + 1) (by simp) 1 _).put (b := w.heap.size + 1) (by simp) 2 _).put (b := w.heap.size + 1) (by simp) 3 _).put (b := w.heap.size + 1) (by simp) 4 _).put (b := w.heap.size + 1) (by simp) 5 _).put (b := w.heap.size + 1) (by simp) 6 _).put (b := w.heap.size + 1) (by simp) 7 _).put (b := w.heap.size + 1) (by simp) 8 _) bb1.out.size (fun q hq => by rw [List.mem_singleton.1 hq]; omega)⟩
    have e4 : n < p := by
      rcases Int.lt_or_le n p with h2 | h2
      · exact h2
      · exact absurd ⟨hF'.out, e1.1, e1.2, by omega, h2⟩ hok'.out
    go_wp2_with (go_at_call 20; refine (hcn.out _).mono ?_; rintro e w' ⟨rfl, rfl⟩)
    refine bodyPost_ret (v := .tuple #[zeroS.val zeroD, .int .i64 0, .bool false]) (by simp [results, Try.results6, go_sem, n0, n1, n2, n3, n4, n5, n6, n7, n8, Shape.val, zeroS, zeroD]) rfl ?_
    exact ⟨zeroS, zeroD, 0, false, y.out, rfl, own_zero _ _, Chg.below (bs := [w.heap.size + 1]) bb1.out ((((((((((Chg.refl _ _).put (b := w.heap.size + 1) (by simp) 0 _).put (b := w.heap.size + 1) (by simp) 1 _).put (b := w.heap.size + 1) (by simp) 2 _).put (b := w.heap.size + 1) (by simp) 3 _).put (b := w.heap.size + 1) (by simp) 4 _).put (b := w.heap.size + 1) (by simp) 5 _).put (b := w.heap.size + 1) (by simp) 6 _).put (b := w.heap.size + 1) (by simp) 7 _).put (b := w.heap.size + 1) (by simp) 8 _) bb1.out.size (fun q hq => by rw [List.mem_singleton.1 hq]; omega)⟩
  have hF := hok.1
  have e1 := hok.2.1
  have e2 := hok.2.2.1
  have e3 := hok.2.2.2.1
  have e4 := hok.2.2.2.2
  have hok' := Lib.hid hok
  have hF' := Lib.hid hF
  have hcl := (cl_ok e1 e2).1
  obtain rfl : e = .returned (.bool true) := by
    rcases hq with ⟨_, h⟩ | ⟨h, _⟩
    · exact h
    · exact absurd hF h
  have hown := Lib.hid (sown_any _ D hs'.out w1 hW1.out)
  have f0 := cell_of_heap hA1 0 _ rfl
  have f1 := cell_of_heap hA1 1 _ rfl
  have f2 := cell_of_heap hA1 2 _ rfl
  have f3 := cell_of_heap hA1 3 _ rfl
  have f4 := cell_of_heap hA1 4 _ rfl
  have f5 := cell_of_heap hA1 5 _ rfl
  have f6 := cell_of_heap hA1 6 _ rfl
  have f7 := cell_of_heap hA1 7 _ rfl
  have f8 := cell_of_heap hA1 8 _ rfl
  have hR1' := Lib.hid hR1
  clear hok hq b1 hR1 hA1 hF
  go_wp2_with (go_at_call 20; refine (hcn.out _).mono ?_; rintro e w' ⟨rfl, rfl⟩)
  refine hown.out.mono ?_
  rintro e w2 ⟨S, rfl, ho, b2⟩
  obtain ⟨aw, ad, aS, am, ag, cw, cd, cS, cm, cg, sv, mv, rfl⟩ := Shape.lits ho
  have hv := Lib.hid (VarW.mk_box ho b2.size)
  have bb2 := Lib.hid (below_trans bb1.out b2)
  have hR2 := Lib.hid (heap_below (below_trans b2 (below_box w2 (.cells (Shape.cells ⟨.slice aw D.words.length cw, .slice ad D.dirty.length cd, .slice aS D.spans.length cS, .slice am D.muts.length cm, .slice ag D.grey.length cg, sv, mv⟩ D) 35))) hR1'.out)
  clear ho b2 hown f0 f1 f2 f3 f4 f5 f6 f7 f8
  have hbs := Lib.hid (show w1.heap.size ≤ w2.heap.size from hv.out.le)
  dsimp only [Shape.val]
  dsimp only [Shape.cells] at hv hR2
  go_wp2_with fail
  refine (stake_at _ _ _ D n p hF'.out e1 e2 e3 e4 _ hv.out).mono ?_
  rintro e w3 ⟨hq, b3⟩
  have bb3 := Lib.hid (show Below w.heap.size w w3 from (below_trans bb2.out (below_box w2 _)).trans (b3.mono (by have := hz1.out; omega)))
  have hR3 := (b3.block (w.heap.size + 1) (by have := hz1.out; omega)).trans hR2.out
  clear b3 hv
  rcases hq with ⟨D1, k, j, s, S', hpl, hks, rfl, hv⟩ | ⟨hno, rfl, hv⟩
  case inr =>
    have y := Lib.hid (show TakeIs D n p zeroD 0 false from .inr ⟨fun _ => hno, rfl, rfl, rfl⟩)
    have n0 := cell_of_heap hR3 0 _ rfl
    have n1 := cell_of_heap hR3 1 _ rfl
    have n2 := cell_of_heap hR3 2 _ rfl
    have n3 := cell_of_heap hR3 3 _ rfl
    have n4 := cell_of_heap hR3 4 _ rfl
    have n5 := cell_of_heap hR3 5 _ rfl
    have n6 := cell_of_heap hR3 6 _ rfl
    have n7 := cell_of_heap hR3 7 _ rfl
    have n8 := cell_of_heap hR3 8 _ rfl
    have z0 := frozen_of_heap hR3 0
    have z1 := frozen_of_heap hR3 1
    have z2 := frozen_of_heap hR3 2
    have z3 := frozen_of_heap hR3 3
    have z4 := frozen_of_heap hR3 4
    have z5 := frozen_of_heap hR3 5
    have z6 := frozen_of_heap hR3 6
    have z7 := frozen_of_heap hR3 7
    have z8 := frozen_of_heap hR3 8
    clear hno hv
    go_wp2_with fail
    refine bodyPost_ret (v := .tuple #[zeroS.val zeroD, .int .i64 0, .bool false]) (by simp [results, Try.results6, go_sem, n0, n1, n2, n3, n4, n5, n6, n7, n8, Shape.val, zeroS, zeroD]) rfl ?_
    exact ⟨zeroS, zeroD, 0, false, y.out, rfl, own_zero _ _, Chg.below (bs := [w.heap.size + 1]) bb3.out ((((((((((Chg.refl _ _).put (b := w.heap.size + 1) (by simp) 0 _).put (b := w.heap.size + 1) (by simp) 1 _).put (b := w.heap.size + 1) (by simp) 2 _).put (b := w.heap.size + 1) (by simp) 3 _).put (b := w.heap.size + 1) (by simp) 4 _).put (b := w.heap.size + 1) (by simp) 5 _).put (b := w.heap.size + 1) (by simp) 6 _).put (b := w.heap.size + 1) (by simp) 7 _).put (b := w.heap.size + 1) (by simp) 8 _) bb3.out.size (fun q hq => by rw [List.mem_singleton.1 hq]; omega)⟩
  have hD1 : D1.base = D.base ∧ 0 ≤ s.page := by
    rcases hpl with ⟨rfl, s', hs, _⟩ | ⟨_, _, _, rfl, _⟩
    · rw [hs] at hks
      cases hks
      exact ⟨rfl, (hF'.out.span k s hs).pg0⟩
    · rename_i h1 h2 h3 h4
      have := ins_at h2.1 (freshS D (cl n) k)
      have e : (insD D (cl n) k).spans[k]? = some (freshS D (cl n) k) := this
      rw [e] at hks
      cases hks
      exact ⟨rfl, by simp only [freshS]; omega⟩
  have hane : ((D1.base + atW s (j : Int)) == 0) = false := beq_eq_false_iff_ne.2 (by
    have h1 := hF'.out.geo.1
    have h2 := sz_bd s.cls
    have h3 : 0 ≤ (j : Int) * sz s.cls := Int.mul_nonneg (by omega) h2.1
    have h4 := hD1.1
    have h5 := hD1.2
    unfold atW
    omega)
  have y := Lib.hid (show TakeIs D n p (takeD D1 k s j n p) (D1.base + atW s (j : Int)) true from .inl ⟨hok'.out, D1, k, j, s, hpl, hks, rfl, rfl, rfl⟩)
  generalize D1.base + atW s (j : Int) = a at *
  generalize takeD D1 k s j n p = E at *
  obtain ⟨aw', ad', aS', am', ag', cw', cd', cS', cm', cg', sv', mv', rfl⟩ := Shape.lits hv.own
  have bE := hv.box
  dsimp only [Shape.cells] at bE
  have n0 := cell_of_heap hR3 0 _ rfl
  have n1 := cell_of_heap hR3 1 _ rfl
  have n2 := cell_of_heap hR3 2 _ rfl
  have n3 := cell_of_heap hR3 3 _ rfl
  have n4 := cell_of_heap hR3 4 _ rfl
  have n5 := cell_of_heap hR3 5 _ rfl
  have n6 := cell_of_heap hR3 6 _ rfl
  have n7 := cell_of_heap hR3 7 _ rfl
  have n8 := cell_of_heap hR3 8 _ rfl
  have z0 := frozen_of_heap hR3 0
  have z1 := frozen_of_heap hR3 1
  have z2 := frozen_of_heap hR3 2
  have z3 := frozen_of_heap hR3 3
  have z4 := frozen_of_heap hR3 4
  have z5 := frozen_of_heap hR3 5
  have z6 := frozen_of_heap hR3 6
  have z7 := frozen_of_heap hR3 7
  have z8 := frozen_of_heap hR3 8
  have m0 := cell_of_heap bE 0 _ rfl
  have m1 := cell_of_heap bE 1 _ rfl
  have m2 := cell_of_heap bE 2 _ rfl
  have m3 := cell_of_heap bE 3 _ rfl
  have m4 := cell_of_heap bE 4 _ rfl
  have m5 := cell_of_heap bE 5 _ rfl
  have m6 := cell_of_heap bE 6 _ rfl
  have m7 := cell_of_heap bE 7 _ rfl
  have m8 := cell_of_heap bE 8 _ rfl
  have hv' := Lib.hid hv
  have hRne : ¬ (w2.heap.size = w.heap.size + 1) := by have := hz1.out; have := hbs.out; omega
  have hRne' : ¬ (w.heap.size + 1 = w2.heap.size) := by omega
  clear hpl hks hD1 hv bE hR3
  go_wp2_with fail
  refine bodyPost_ret (v := .tuple #[.agg #[.int .i64 E.base, .int .i64 E.pages, .slice aw' E.words.length cw', .slice ad' E.dirty.length cd', .slice aS' E.spans.length cS', .slice am' E.muts.length cm', .int .i64 E.phase, .int .i64 E.next, .slice ag' E.grey.length cg'], .int .i64 a, .bool true]) (by simp [results, Try.results6, go_sem, n0, n1, n2, n3, n4, n5, n6, n7, n8]) rfl ?_
  exact ⟨_, E, a, true, y.out, rfl, hv'.out.handed bb3.out (R := w.heap.size + 1) (by omega) (by have := hz1.out; omega) ((((((((((Chg.refl _ _).put (b := w.heap.size + 1) (by simp) 0 _).put (b := w.heap.size + 1) (by simp) 1 _).put (b := w.heap.size + 1) (by simp) 2 _).put (b := w.heap.size + 1) (by simp) 3 _).put (b := w.heap.size + 1) (by simp) 4 _).put (b := w.heap.size + 1) (by simp) 5 _).put (b := w.heap.size + 1) (by simp) 6 _).put (b := w.heap.size + 1) (by simp) 7 _).put (b := w.heap.size + 1) (by simp) 8 _)⟩

end Go.Proofs.Ytlcaanafmkelaaa
