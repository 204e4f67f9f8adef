import Derived.Test.YtpcefecedmdmkaaPkHeaps
import Derived.Test.YtpcefecedmdmkaaPkITake
import Derived.Test.YtpcefecedmdmkaaPkIGive
import Derived.Test.YtpcefecedmdmkaaPkA

/-
  The contract of laws.heaps, that of the program's WorldNew at 64, 2, 1 being a premise.
-/
namespace Go.Proofs.Ytpcefecedmdmkaa
open Go.RowKit
set_option linter.unusedVariables false

theorem heap_small {D : WD} (h : D.bulk ≤ 1000) : Small D := Small.of_bulk (by omega)
set_option maxRecDepth 100000 in
set_option maxHeartbeats 16000000 in
theorem heaps_gen (D0 X : WD) (m0 : MarksIn D0) (s0 : Small D0) (mX : MarksIn X) (sX : Small X) (hT : TakeIs D0 3 1 X 64 true) (hF : HeapForm X) (hfind : FindIs X 64 (.returned (.tuple #[.int .i64 0, .int .i64 0])))
    (hadr : AddrIs X 0 1 (.returned (.int .i64 68))) (hused : usedN X = 4) (hpg : X.pages = 2) (hgive : ∀ D' f, GiveIs X 64 D' f → D'.spans = [] ∧ f = true)
    (hnew : ∀ w, Calls Try.prog 6 #[.int .i64 64, .int .i64 2, .int .i64 1] w fun e w' => ∃ S, e = .returned (.tuple #[S.val D0, .bool true]) ∧ OwnW w' w.heap.size S D0 ∧ Below w.heap.size w w') (w : World) :
    Calls Try.prog 9 #[] w fun e w' => e = .returned (.bool true) ∧ Below w.heap.size w w' := by
  have hnew' := Lib.hid (hnew w)
  have cT := Lib.hid (fun v w h => itake_any v D0 3 1 m0 s0 w h)
  have cG := Lib.hid (fun v w h => igive_any v X 64 mX (by unfold I64; omega) sX w h)
  have cF := Lib.hid (fun v w h => findI_any v X mX 64 (by unfold I64; omega) w h)
  have cO := Lib.hid (fun v w h => formOkI_any v X mX w h)
  have cU := Lib.hid (fun v w h => usedWordsI_any v X mX w h)
  have cE := Lib.hid (fun v w h => freeWordsI_any v X mX w h)
  have cA := Lib.hid (fun v w h => addrOfI_any v X mX 0 1 w h)
  have hT' := Lib.hid hT
  have hF' := Lib.hid hF
  have hfind' := Lib.hid hfind
  have hadr' := Lib.hid hadr
  have hused' := Lib.hid hused
  have hpg' := Lib.hid hpg
  have hgive' := Lib.hid hgive
  clear m0 s0 mX sX hT hF hfind hadr hused hpg hgive hnew
  go_enter Try.func9, Try.ntmps9
  go_wp2_with fail
  refine hnew'.out.mono ?_
  rintro e w1 ⟨S1, rfl, h1, b1⟩
  obtain ⟨a1, k1, c1, d1, l1, e1, s1, n1, o1, m1, q1, r1, y1, z1, u1, sv1, mv1, rfl⟩ := h1.lits
  have bb1 := Lib.hid (below_trans b1 (below_box w1 (.cells #[.int .i64 D0.base, .int .i64 D0.pages, .slice a1 k1 c1, .slice d1 l1 e1, .slice s1 n1 o1, .slice m1 q1 r1, .int .i64 D0.phase, .int .i64 D0.next, .slice y1 z1 u1] 32)))
  have bW1 := Lib.hid (box_new w1 (.cells #[.int .i64 D0.base, .int .i64 D0.pages, .slice a1 k1 c1, .slice d1 l1 e1, .slice s1 n1 o1, .slice m1 q1 r1, .int .i64 D0.phase, .int .i64 D0.next, .slice y1 z1 u1] 32))
  have hW1 := Lib.hid (h1.below (below_box w1 (.cells #[.int .i64 D0.base, .int .i64 D0.pages, .slice a1 k1 c1, .slice d1 l1 e1, .slice s1 n1 o1, .slice m1 q1 r1, .int .i64 D0.phase, .int .i64 D0.next, .slice y1 z1 u1] 32)))
  clear h1 b1
  dsimp only [Shape.val]
  go_wp2_with fail
  refine (cT.out _ _ hW1.out.rd).mono ?_
  rintro e w2 ⟨S2, D', a, f, hq, rfl, h2, b2⟩
  obtain ⟨rfl, rfl, rfl⟩ := hq.unique hT'.out
  obtain ⟨a2, k2, c2, d2, l2, e2, s2, n2, o2, m2, q2, r2, y2, z2, u2, sv2, mv2, rfl⟩ := h2.lits
  have bb2 := Lib.hid (below_trans bb1.out (below_trans b2 (below_box w2 (.cells #[.int .i64 X.base, .int .i64 X.pages, .slice a2 k2 c2, .slice d2 l2 e2, .slice s2 n2 o2, .slice m2 q2 r2, .int .i64 X.phase, .int .i64 X.next, .slice y2 z2 u2] 32))))
  have bW2 := Lib.hid (box_new w2 (.cells #[.int .i64 X.base, .int .i64 X.pages, .slice a2 k2 c2, .slice d2 l2 e2, .slice s2 n2 o2, .slice m2 q2 r2, .int .i64 X.phase, .int .i64 X.next, .slice y2 z2 u2] 32))
  have hW2 := Lib.hid (h2.below (below_box w2 (.cells #[.int .i64 X.base, .int .i64 X.pages, .slice a2 k2 c2, .slice d2 l2 e2, .slice s2 n2 o2, .slice m2 q2 r2, .int .i64 X.phase, .int .i64 X.next, .slice y2 z2 u2] 32)))
  clear hq h2 b2 bW1 hW1 bb1
  dsimp only [Shape.val]
  go_wp2_with fail
  refine (cG.out _ _ hW2.out.rd).mono ?_
  rintro e w3 ⟨S3, E, f, hq, rfl, h3, b3⟩
  obtain ⟨he, rfl⟩ := hgive'.out E f hq
  obtain ⟨a3, d3, s3, m3, y3, k3, l3, n3, q3, z3, sv3, mv3, rfl⟩ := Shape.lits h3
  rw [he]
  dsimp only [Shape.val, List.length_nil]
  have b3' := below_box w3 (.cells #[.int .i64 E.base, .int .i64 E.pages, .slice a3 E.words.length k3, .slice d3 E.dirty.length l3, .slice s3 0 n3, .slice m3 E.muts.length q3, .int .i64 E.phase, .int .i64 E.next, .slice y3 E.grey.length z3] 32)
  have bY3 := box_new w3 (.cells #[.int .i64 E.base, .int .i64 E.pages, .slice a3 E.words.length k3, .slice d3 E.dirty.length l3, .slice s3 0 n3, .slice m3 E.muts.length q3, .int .i64 E.phase, .int .i64 E.next, .slice y3 E.grey.length z3] 32)
  have bb3 := Lib.hid (below_trans bb2.out (below_trans b3 b3'))
  have bW3 := Lib.hid (heap_below (below_trans b3 b3') bW2.out)
  have hW3 := Lib.hid (hW2.out.rd.below (below_trans b3 b3'))
  have yL := Lib.hid (fun (w' : World) (hb : Below (w3.alloc (.cells #[.int .i64 E.base, .int .i64 E.pages, .slice a3 E.words.length k3, .slice d3 E.dirty.length l3, .slice s3 0 n3, .slice m3 E.muts.length q3, .int .i64 E.phase, .int .i64 E.next, .slice y3 E.grey.length z3] 32)).heap.size (w3.alloc (.cells #[.int .i64 E.base, .int .i64 E.pages, .slice a3 E.words.length k3, .slice d3 E.dirty.length l3, .slice s3 0 n3, .slice m3 E.muts.length q3, .int .i64 E.phase, .int .i64 E.next, .slice y3 E.grey.length z3] 32)) w') => cell_below hb (cell_of_heap bY3 4 (.slice s3 0 n3) rfl))
  have xL := Lib.hid (fun (w' : World) (hb : Below (w3.alloc (.cells #[.int .i64 E.base, .int .i64 E.pages, .slice a3 E.words.length k3, .slice d3 E.dirty.length l3, .slice s3 0 n3, .slice m3 E.muts.length q3, .int .i64 E.phase, .int .i64 E.next, .slice y3 E.grey.length z3] 32)).heap.size (w3.alloc (.cells #[.int .i64 E.base, .int .i64 E.pages, .slice a3 E.words.length k3, .slice d3 E.dirty.length l3, .slice s3 0 n3, .slice m3 E.muts.length q3, .int .i64 E.phase, .int .i64 E.next, .slice y3 E.grey.length z3] 32)) w') => heap_below hb bW3.out)
  clear hq h3 b3 b3' bY3 he bW2 hW2 bb2
  go_upto_region 4 with fail
  generalize w3.alloc (.cells #[.int .i64 E.base, .int .i64 E.pages, .slice a3 E.words.length k3, .slice d3 E.dirty.length l3, .slice s3 0 n3, .slice m3 E.muts.length q3, .int .i64 E.phase, .int .i64 E.next, .slice y3 E.grey.length z3] 32) = W3 at *
  have f0 := cell_of_heap bW3.out 0 _ rfl
  have f1 := cell_of_heap bW3.out 1 _ rfl
  have f2 := cell_of_heap bW3.out 2 _ rfl
  have f3 := cell_of_heap bW3.out 3 _ rfl
  have f4 := cell_of_heap bW3.out 4 _ rfl
  have f5 := cell_of_heap bW3.out 5 _ rfl
  have f6 := cell_of_heap bW3.out 6 _ rfl
  have f7 := cell_of_heap bW3.out 7 _ rfl
  have f8 := cell_of_heap bW3.out 8 _ rfl
  dsimp only [Shape.val] at hW3
  go_wp2_with fail
  refine (cF.out _ _ hW3.out).mono ?_
  rintro e w4 ⟨hq, b4⟩
  obtain rfl := hfind'.out.unique hq
  have b4' := Lib.hid b4
  have r4 := Lib.hid (hW3.out.below b4)
  have bX4 := xL.out _ b4
  clear hq b4
  clear f0 f1 f2 f3 f4 f5 f6 f7 f8
  have f0 := cell_of_heap bX4 0 _ rfl
  have f1 := cell_of_heap bX4 1 _ rfl
  have f2 := cell_of_heap bX4 2 _ rfl
  have f3 := cell_of_heap bX4 3 _ rfl
  have f4 := cell_of_heap bX4 4 _ rfl
  have f5 := cell_of_heap bX4 5 _ rfl
  have f6 := cell_of_heap bX4 6 _ rfl
  have f7 := cell_of_heap bX4 7 _ rfl
  have f8 := cell_of_heap bX4 8 _ rfl
  clear bX4
  go_wp2_with fail
  refine (cO.out _ _ r4.out).mono ?_
  rintro e w5 ⟨hq, b5⟩
  obtain ⟨-, rfl⟩ : HeapForm X ∧ e = .returned (.bool true) := by
    rcases hq.elim with ⟨h, h2⟩ | ⟨h, _⟩
    · exact ⟨h, h2⟩
    · exact absurd hF'.out h
  clear hq
  have b5' := Lib.hid (below_trans b4'.out b5)
  have r5 := Lib.hid (hW3.out.below b5'.out)
  have bX5 := xL.out _ b5'.out
  have yc5 := yL.out _ b5'.out
  clear b5
  clear f0 f1 f2 f3 f4 f5 f6 f7 f8
  have f0 := cell_of_heap bX5 0 _ rfl
  have f1 := cell_of_heap bX5 1 _ rfl
  have f2 := cell_of_heap bX5 2 _ rfl
  have f3 := cell_of_heap bX5 3 _ rfl
  have f4 := cell_of_heap bX5 4 _ rfl
  have f5 := cell_of_heap bX5 5 _ rfl
  have f6 := cell_of_heap bX5 6 _ rfl
  have f7 := cell_of_heap bX5 7 _ rfl
  have f8 := cell_of_heap bX5 8 _ rfl
  clear bX5
  go_wp2_with fail
  refine (cU.out _ _ r5.out).mono ?_
  rintro e w6 ⟨hq, b6⟩
  obtain rfl : e = .returned (.int .i64 4) := by
    obtain ⟨r, rfl, h⟩ := hq
    rcases h with ⟨_, h⟩ | ⟨h, _⟩
    · rw [h, hused'.out]
    · exact absurd hF'.out h
  clear hq yc5
  have b6' := Lib.hid (below_trans b5'.out b6)
  have r6 := Lib.hid (hW3.out.below b6'.out)
  have bX6 := xL.out _ b6'.out
  have yc6 := yL.out _ b6'.out
  clear b6
  clear f0 f1 f2 f3 f4 f5 f6 f7 f8
  have f0 := cell_of_heap bX6 0 _ rfl
  have f1 := cell_of_heap bX6 1 _ rfl
  have f2 := cell_of_heap bX6 2 _ rfl
  have f3 := cell_of_heap bX6 3 _ rfl
  have f4 := cell_of_heap bX6 4 _ rfl
  have f5 := cell_of_heap bX6 5 _ rfl
  have f6 := cell_of_heap bX6 6 _ rfl
  have f7 := cell_of_heap bX6 7 _ rfl
  have f8 := cell_of_heap bX6 8 _ rfl
  clear bX6
  go_wp2_with fail
  refine (cE.out _ _ r6.out).mono ?_
  rintro e w7 ⟨hq, b7⟩
  obtain rfl : e = .returned (.int .i64 60) := by
    obtain ⟨r, rfl, h⟩ := hq
    rcases h with ⟨_, h⟩ | ⟨h, _⟩
    · rw [h, hused'.out, hpg'.out]; rfl
    · exact absurd hF'.out h
  clear hq yc6
  have b7' := Lib.hid (below_trans b6'.out b7)
  have r7 := Lib.hid (hW3.out.below b7'.out)
  have bX7 := xL.out _ b7'.out
  have yc7 := yL.out _ b7'.out
  clear b7
  clear f0 f1 f2 f3 f4 f5 f6 f7 f8
  have f0 := cell_of_heap bX7 0 _ rfl
  have f1 := cell_of_heap bX7 1 _ rfl
  have f2 := cell_of_heap bX7 2 _ rfl
  have f3 := cell_of_heap bX7 3 _ rfl
  have f4 := cell_of_heap bX7 4 _ rfl
  have f5 := cell_of_heap bX7 5 _ rfl
  have f6 := cell_of_heap bX7 6 _ rfl
  have f7 := cell_of_heap bX7 7 _ rfl
  have f8 := cell_of_heap bX7 8 _ rfl
  clear bX7
  go_wp2_with fail
  refine (cA.out _ _ r7.out).mono ?_
  rintro e w8 ⟨hq, b8⟩
  obtain rfl := hadr'.out.unique hq
  have b8' := Lib.hid (below_trans b7'.out b8)
  clear hq b8
  clear f0 f1 f2 f3 f4 f5 f6 f7 f8
  go_wp2_with fail
  go_ret
  exact ⟨rfl, below_trans bb3.out b8'.out⟩
end Go.Proofs.Ytpcefecedmdmkaa
