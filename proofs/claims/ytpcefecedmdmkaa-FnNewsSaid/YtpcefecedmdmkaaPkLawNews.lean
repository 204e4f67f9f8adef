import Derived.Test.YtpcefecedmdmkaaPkDrawNew
import Derived.Test.YtpcefecedmdmkaaPkHeaps
import Derived.Test.YtpcefecedmdmkaaPkSTake2
import Derived.Test.YtpcefecedmdmkaaPkA
import Derived.Test.YtpcefecedmdmkaaPkNone

/-
  The walk of FnNews, the contracts of the program's WorldNew and of laws.heaps being premises.
-/
namespace Go.Proofs.Ytpcefecedmdmkaa
open Go.RowKit
set_option linter.unusedVariables false

theorem HeapForm.marks0 {D : WD} (h : HeapForm D) : MarksIn D := fun k s hs => by
  have A := h.span k s hs
  have h0 := A.mk0
  have h1 := A.mk1
  have hl := A.lens
  have h16 := (sl_bd s.cls).2
  have hp : (2 : Int) ^ s.lens.length ≤ 2 ^ 16 := by
    have := Nat.pow_le_pow_right (n := 2) (by omega) (show s.lens.length ≤ 16 by omega)
    exact_mod_cast this
  unfold I64
  omega
theorem NewIs.unique {b p m : Int} {D1 D2 : WD} {f1 f2 : Bool} (h1 : NewIs b p m D1 f1) (h2 : NewIs b p m D2 f2) : D2 = D1 ∧ f2 = f1 := by
  rcases h1 with ⟨g, rfl, rfl⟩ | ⟨g, rfl, rfl⟩ <;> rcases h2 with ⟨g', rfl, rfl⟩ | ⟨g', rfl, rfl⟩
  · exact ⟨rfl, rfl⟩
  · exact absurd g g'
  · exact absurd g' g
  · exact ⟨rfl, rfl⟩

set_option maxRecDepth 100000 in
set_option maxHeartbeats 8000000 in
theorem news_walk (hN : ∀ (b p m : Int) (w : World), Calls Try.prog 6 #[.int .i64 b, .int .i64 p, .int .i64 m] w fun e w' => ∃ S D f, NewIs b p m D f ∧ e = .returned (.tuple #[S.val D, .bool f]) ∧ OwnW w' w.heap.size S D ∧ Below w.heap.size w w')
    (hH : ∀ w : World, Calls Try.prog 9 #[] w fun e w' => e = .returned (.bool true) ∧ Below w.heap.size w w')
    (a : Option Addr) (len cap : Nat) (w : World) (hb : Bytes w a len) (ha : 0 < len → ∀ x, a = some x → x.block < w.heap.size) :
    Calls Try.prog 3 #[.slice a len cap] w fun e w' => e = .returned (.bool true) ∧ Below w.heap.size w w' := by
  have hN' := Lib.hid hN
  have hH' := Lib.hid hH
  have hd := Lib.hid (drawNew_any a len cap w hb ha)
  clear hN hH hb ha
  go_enter Try.func3, Try.ntmps3
  go_wp2_with fail
  refine hd.out.mono ?_
  rintro e w1 ⟨b, p, m, rfl, hp0, hp1, b1⟩
  have bb1 := Lib.hid b1
  clear b1
  go_wp2_with fail
  refine (hN'.out b p m _).mono ?_
  rintro e w2 ⟨S, D, f, hn, rfl, h2, b2⟩
  obtain ⟨aw, ad, aS, am, ag, cw, cd, cS, cm, cg, sv, mv, rfl⟩ := Shape.lits h2
  have c2 := below_box w2 (.cells #[.int .i64 D.base, .int .i64 D.pages, .slice aw D.words.length cw, .slice ad D.dirty.length cd, .slice aS D.spans.length cS, .slice am D.muts.length cm, .int .i64 D.phase, .int .i64 D.next, .slice ag D.grey.length cg] 32)
  have x2 := Lib.hid (box_new w2 (.cells #[.int .i64 D.base, .int .i64 D.pages, .slice aw D.words.length cw, .slice ad D.dirty.length cd, .slice aS D.spans.length cS, .slice am D.muts.length cm, .int .i64 D.phase, .int .i64 D.next, .slice ag D.grey.length cg] 32))
  have bb2 := Lib.hid (below_trans bb1.out (below_trans b2 c2))
  have r2 := Lib.hid (h2.rd.below c2)
  have hn2 := Lib.hid hn
  clear hn h2 b2 c2
  dsimp only [Shape.val] at r2 ⊢
  go_upto_region 3 with fail
  generalize w2.alloc (.cells #[.int .i64 D.base, .int .i64 D.pages, .slice aw D.words.length cw, .slice ad D.dirty.length cd, .slice aS D.spans.length cS, .slice am D.muts.length cm, .int .i64 D.phase, .int .i64 D.next, .slice ag D.grey.length cg] 32) = W2 at *
  go_wp2_with fail
  refine (sworldNew_any b p m _).mono ?_
  rintro e w3 ⟨S', D', f', hn, rfl, h3, b3⟩
  obtain ⟨rfl, rfl⟩ := hn.unique hn2.out
  obtain ⟨a3, d3, s3, m3, y3, k3, l3, n3, q3, z3, sv3, mv3, rfl⟩ := Shape.lits h3
  have c3 := below_box w3 (.cells #[.int .i64 D.base, .int .i64 D.pages, .slice a3 D.words.length k3, .slice d3 D.dirty.length l3, .slice s3 D.spans.length n3, .slice m3 D.muts.length q3, .int .i64 D.phase, .int .i64 D.next, .slice y3 D.grey.length z3] 32)
  have bb3 := Lib.hid (below_trans bb2.out (below_trans b3 c3))
  have x3 := Lib.hid (heap_below (below_trans b3 c3) x2.out)
  have r3 := Lib.hid (r2.out.below (below_trans b3 c3))
  clear hn h3 b3 c3 x2 r2 bb2
  dsimp only [Shape.val]
  go_upto_region 4 with fail
  generalize w3.alloc (.cells #[.int .i64 D.base, .int .i64 D.pages, .slice a3 D.words.length k3, .slice d3 D.dirty.length l3, .slice s3 D.spans.length n3, .slice m3 D.muts.length q3, .int .i64 D.phase, .int .i64 D.next, .slice y3 D.grey.length z3] 32) = W3 at *
  rcases hn2.out with ⟨g, hD, rfl⟩ | ⟨g, hD, rfl⟩
  · have hF := Lib.hid (show HeapForm D by rw [hD]; exact newD_form (by obtain ⟨g1, g2, g3, g4, g5, g6, g7⟩ := g; unfold Geo; omega))
    have hmk := Lib.hid hF.out.marks0
    have hu := Lib.hid (show usedN D = 0 by rw [hD]; exact newD_used _ _ _)
    have hpg := Lib.hid (show D.pages = p by rw [hD]; show ((p.toNat : Nat) : Int) = p; obtain ⟨g1, g2, g3, g4, g5, g6, g7⟩ := g; omega)
    have hml : (D.muts.length : Int) = m := by rw [hD]; simp only [newD, List.length_replicate]; obtain ⟨g1, g2, g3, g4, g5, g6, g7⟩ := g; omega
    have hmb : ((D.muts.length : Int) == m) = true := beq_iff_eq.2 hml
    have cO := Lib.hid (fun v w h => formOkI_any v D hmk.out w h)
    have cU := Lib.hid (fun v w h => usedWordsI_any v D hmk.out w h)
    have cE := Lib.hid (fun v w h => freeWordsI_any v D hmk.out w h)
    clear hn2 hD g hml
    have f0 := cell_of_heap x3.out 0 _ rfl
    have f1 := cell_of_heap x3.out 1 _ rfl
    have f2 := cell_of_heap x3.out 2 _ rfl
    have f3 := cell_of_heap x3.out 3 _ rfl
    have f4 := cell_of_heap x3.out 4 _ rfl
    have f5 := cell_of_heap x3.out 5 _ rfl
    have f6 := cell_of_heap x3.out 6 _ rfl
    have f7 := cell_of_heap x3.out 7 _ rfl
    have f8 := cell_of_heap x3.out 8 _ rfl
    go_wp2_with fail
    refine (cO.out _ _ r3.out).mono ?_
    rintro e w4 ⟨hq, b4⟩
    obtain rfl : e = .returned (.bool true) := by
      rcases hq.elim with ⟨_, h2⟩ | ⟨h, _⟩
      · exact h2
      · exact absurd hF.out h
    have bb4 := Lib.hid (below_trans bb3.out b4)
    have x4 := Lib.hid (heap_below b4 x3.out)
    have r4 := Lib.hid (r3.out.below b4)
    clear hq b4
    clear f0 f1 f2 f3 f4 f5 f6 f7 f8
    have f0 := cell_of_heap x4.out 0 _ rfl
    have f1 := cell_of_heap x4.out 1 _ rfl
    have f2 := cell_of_heap x4.out 2 _ rfl
    have f3 := cell_of_heap x4.out 3 _ rfl
    have f4 := cell_of_heap x4.out 4 _ rfl
    have f5 := cell_of_heap x4.out 5 _ rfl
    have f6 := cell_of_heap x4.out 6 _ rfl
    have f7 := cell_of_heap x4.out 7 _ rfl
    have f8 := cell_of_heap x4.out 8 _ rfl
    go_wp2_with fail
    refine (cE.out _ _ r4.out).mono ?_
    rintro e w5 ⟨hq, b5⟩
    obtain rfl : e = .returned (.int .i64 (p * 32)) := by
      obtain ⟨r, rfl, h⟩ := hq
      rcases h with ⟨_, h⟩ | ⟨h, _⟩
      · rw [h, hu.out, hpg.out, Int.sub_zero]
      · exact absurd hF.out h
    have bb5 := Lib.hid (below_trans bb4.out b5)
    have x5 := Lib.hid (heap_below b5 x4.out)
    have r5 := Lib.hid (r4.out.below b5)
    clear hq b5
    clear f0 f1 f2 f3 f4 f5 f6 f7 f8
    have f0 := cell_of_heap x5.out 0 _ rfl
    have f1 := cell_of_heap x5.out 1 _ rfl
    have f2 := cell_of_heap x5.out 2 _ rfl
    have f3 := cell_of_heap x5.out 3 _ rfl
    have f4 := cell_of_heap x5.out 4 _ rfl
    have f5 := cell_of_heap x5.out 5 _ rfl
    have f6 := cell_of_heap x5.out 6 _ rfl
    have f7 := cell_of_heap x5.out 7 _ rfl
    have f8 := cell_of_heap x5.out 8 _ rfl
    go_wp2_with fail
    refine (cU.out _ _ r5.out).mono ?_
    rintro e w6 ⟨hq, b6⟩
    obtain rfl : e = .returned (.int .i64 0) := by
      obtain ⟨r, rfl, h⟩ := hq
      rcases h with ⟨_, h⟩ | ⟨h, _⟩
      · rw [h, hu.out]
      · exact absurd hF.out h
    have bb6 := Lib.hid (below_trans bb5.out b6)
    have x6 := Lib.hid (heap_below b6 x5.out)
    clear hq b6
    clear f0 f1 f2 f3 f4 f5 f6 f7 f8
    have f0 := cell_of_heap x6.out 0 _ rfl
    have f1 := cell_of_heap x6.out 1 _ rfl
    have f2 := cell_of_heap x6.out 2 _ rfl
    have f3 := cell_of_heap x6.out 3 _ rfl
    have f4 := cell_of_heap x6.out 4 _ rfl
    have f5 := cell_of_heap x6.out 5 _ rfl
    have f6 := cell_of_heap x6.out 6 _ rfl
    have f7 := cell_of_heap x6.out 7 _ rfl
    have f8 := cell_of_heap x6.out 8 _ rfl
    go_wp2_with fail
    refine (hH'.out _).mono ?_
    rintro e w7 ⟨rfl, b7⟩
    have bb7 := Lib.hid (below_trans bb6.out b7)
    clear b7
    clear f0 f1 f2 f3 f4 f5 f6 f7 f8
    go_wp2_with fail
    go_ret
    exact ⟨rfl, bb7.out⟩
  · subst hD
    clear hn2 g
    have f0 := cell_of_heap x3.out 0 _ rfl
    have f1 := cell_of_heap x3.out 1 _ rfl
    have f2 := cell_of_heap x3.out 2 _ rfl
    have f3 := cell_of_heap x3.out 3 _ rfl
    have f4 := cell_of_heap x3.out 4 _ rfl
    have f5 := cell_of_heap x3.out 5 _ rfl
    have f6 := cell_of_heap x3.out 6 _ rfl
    have f7 := cell_of_heap x3.out 7 _ rfl
    have f8 := cell_of_heap x3.out 8 _ rfl
    go_wp2_with fail
    refine (none_any _ _ _ _ _ _ _ _ _ _ _).mono ?_
    rintro e w4 ⟨rfl, b4⟩
    have bb4 := Lib.hid (below_trans bb3.out b4)
    clear b4
    clear f0 f1 f2 f3 f4 f5 f6 f7 f8
    go_wp2_with fail
    refine (hH'.out _).mono ?_
    rintro e w7 ⟨rfl, b7⟩
    have bb7 := Lib.hid (below_trans bb4.out b7)
    clear b7
    go_wp2_with fail
    go_ret
    exact ⟨rfl, bb7.out⟩
end Go.Proofs.Ytpcefecedmdmkaa
