/-
  The walk of FnExactSessionNew, the program's own contract being a premise.
-/
import Derived.Test.YtnmgecplagekcaaLawNew
import Derived.Test.YtnmgecplagekcaaSesC
namespace Go.Proofs.Ytnmgecplagekcaa
open Go.RowKit
set_option linter.unusedVariables false

set_option maxRecDepth 100000 in
set_option maxHeartbeats 8000000 in
theorem law_sesNew (b p m : Int) (hI : ∀ (w : World), Calls Try.prog 5 #[.int .i64 b, .int .i64 p, .int .i64 m] w fun e w' => ∃ S D f, NewIs b p m D f ∧ e = .returned (.tuple #[S.ses D, .bool f]) ∧ OwnW w' w.heap.size S D ∧ Below w.heap.size w w') (w : World) :
    Calls Try.prog 3 #[.int .i64 b, .int .i64 p, .int .i64 m] w fun e w' => e = .returned (.bool true) ∧ Below w.heap.size w w' := by
  have hI' := Lib.hid hI
  clear hI
  go_enter Try.func3, Try.ntmps3
  go_wp2_with fail
  refine (sSesNew_any b p m w).mono ?_
  rintro e w1 ⟨S1, D, f, hn1, rfl, h1, b1⟩
  obtain ⟨a1, k1, c1, d1, l1, e1, s1, n1, o1, m1, q1, r1, y1, z1, u1, sv1, mv1, rfl⟩ := h1.lits
  have hn := Lib.hid hn1
  have hm := Lib.hid hn1.markable
  have bX1 := Lib.hid (below_trans b1 (below_box w1 (.cells #[.int .i64 D.base, .int .i64 D.pages, .slice a1 k1 c1, .slice d1 l1 e1, .slice s1 n1 o1, .slice m1 q1 r1, .int .i64 D.phase, .int .i64 D.next, .slice y1 z1 u1, .string ⟨#[]⟩, .int .i64 0, .int .i64 0, .bool false] 33)))
  have x1 := Lib.hid (box_new w1 (.cells #[.int .i64 D.base, .int .i64 D.pages, .slice a1 k1 c1, .slice d1 l1 e1, .slice s1 n1 o1, .slice m1 q1 r1, .int .i64 D.phase, .int .i64 D.next, .slice y1 z1 u1, .string ⟨#[]⟩, .int .i64 0, .int .i64 0, .bool false] 33))
  have hX1 := Lib.hid (h1.below (below_box w1 (.cells #[.int .i64 D.base, .int .i64 D.pages, .slice a1 k1 c1, .slice d1 l1 e1, .slice s1 n1 o1, .slice m1 q1 r1, .int .i64 D.phase, .int .i64 D.next, .slice y1 z1 u1, .string ⟨#[]⟩, .int .i64 0, .int .i64 0, .bool false] 33)))
  have lt1 := Lib.hid h1.lt
  have zz1 := Lib.hid b1.size
  clear hn1 h1 b1
  dsimp only [Shape.ses]
  go_wp2_with fail
  refine (hI'.out _).mono ?_
  rintro e w2 ⟨S2, D', f', hn2, rfl, h2, b2⟩
  obtain ⟨rfl, rfl⟩ := NewIs.unique hn2 hn.out
  obtain ⟨a2, k2, c2, d2, l2, e2, s2, n2, o2, m2, q2, r2, y2, z2, u2, sv2, mv2, rfl⟩ := h2.lits
  have lt2 := Lib.hid h2.lt
  have b2' := Lib.hid b2
  have bX2 := Lib.hid (below_trans bX1.out (below_trans b2 (below_box w2 (.cells #[.int .i64 D.base, .int .i64 D.pages, .slice a2 k2 c2, .slice d2 l2 e2, .slice s2 n2 o2, .slice m2 q2 r2, .int .i64 D.phase, .int .i64 D.next, .slice y2 z2 u2, .string ⟨#[]⟩, .int .i64 0, .int .i64 0, .bool false] 33))))
  have x2 := Lib.hid (heap_below (below_box w2 (.cells #[.int .i64 D.base, .int .i64 D.pages, .slice a2 k2 c2, .slice d2 l2 e2, .slice s2 n2 o2, .slice m2 q2 r2, .int .i64 D.phase, .int .i64 D.next, .slice y2 z2 u2, .string ⟨#[]⟩, .int .i64 0, .int .i64 0, .bool false] 33)) (heap_below b2 x1.out))
  have x9 := Lib.hid (box_new w2 (.cells #[.int .i64 D.base, .int .i64 D.pages, .slice a2 k2 c2, .slice d2 l2 e2, .slice s2 n2 o2, .slice m2 q2 r2, .int .i64 D.phase, .int .i64 D.next, .slice y2 z2 u2, .string ⟨#[]⟩, .int .i64 0, .int .i64 0, .bool false] 33))
  have hX2 := Lib.hid (h2.below (below_box w2 (.cells #[.int .i64 D.base, .int .i64 D.pages, .slice a2 k2 c2, .slice d2 l2 e2, .slice s2 n2 o2, .slice m2 q2 r2, .int .i64 D.phase, .int .i64 D.next, .slice y2 z2 u2, .string ⟨#[]⟩, .int .i64 0, .int .i64 0, .bool false] 33)))
  have hY2 := Lib.hid (hX1.out.below (below_trans b2 (below_box w2 (.cells #[.int .i64 D.base, .int .i64 D.pages, .slice a2 k2 c2, .slice d2 l2 e2, .slice s2 n2 o2, .slice m2 q2 r2, .int .i64 D.phase, .int .i64 D.next, .slice y2 z2 u2, .string ⟨#[]⟩, .int .i64 0, .int .i64 0, .bool false] 33))))
  clear hn2 h2 b2
  dsimp only [Shape.ses]
  have p0 := cell_of_heap x2.out 0 _ rfl
  have p1 := cell_of_heap x2.out 1 _ rfl
  have p2 := cell_of_heap x2.out 2 _ rfl
  have p3 := cell_of_heap x2.out 3 _ rfl
  have p4 := cell_of_heap x2.out 4 _ rfl
  have p5 := cell_of_heap x2.out 5 _ rfl
  have p6 := cell_of_heap x2.out 6 _ rfl
  have p7 := cell_of_heap x2.out 7 _ rfl
  have p8 := cell_of_heap x2.out 8 _ rfl
  have p9 := cell_of_heap x2.out 9 _ rfl
  have p10 := cell_of_heap x2.out 10 _ rfl
  have p11 := cell_of_heap x2.out 11 _ rfl
  have p12 := cell_of_heap x2.out 12 _ rfl
  go_wp2_with fail
  refine (eqSes_same _ _ D _ hX2.out.rd hY2.out.rd).mono ?_
  rintro e w3 ⟨rfl, b3⟩
  have bX3 := Lib.hid (below_trans bX2.out b3)
  have x3 := Lib.hid (heap_below b3 x2.out)
  have x93 := Lib.hid (heap_below b3 x9.out)
  have hX3 := Lib.hid (hX2.out.below b3)
  have hY3 := Lib.hid (hY2.out.below b3)
  have ss3 := Lib.hid b3.size
  clear p0 p1 p2 p3 p4 p5 p6 p7 p8 p9 p10 p11 p12
  clear b3
  have f0 := cell_of_heap x93.out 0 _ rfl
  have f1 := cell_of_heap x93.out 1 _ rfl
  have f2 := cell_of_heap x93.out 2 _ rfl
  have f3 := cell_of_heap x93.out 3 _ rfl
  have f4 := cell_of_heap x93.out 4 _ rfl
  have f5 := cell_of_heap x93.out 5 _ rfl
  have f6 := cell_of_heap x93.out 6 _ rfl
  have f7 := cell_of_heap x93.out 7 _ rfl
  have f8 := cell_of_heap x93.out 8 _ rfl
  have f9 := cell_of_heap x93.out 9 _ rfl
  have f10 := cell_of_heap x93.out 10 _ rfl
  have f11 := cell_of_heap x93.out 11 _ rfl
  have f12 := cell_of_heap x93.out 12 _ rfl
  go_wp2_with fail
  refine (markSes_any _ _ D 1 hm.out (by omega) (by omega) _ hX3.out).mono ?_
  rintro e w4 ⟨rfl, h4, c4⟩
  have z1 := zz1.out
  have z2 := b2'.out.size
  have z3 := ss3.out
  simp only [World.size_alloc] at z2 z3
  have x4 := Lib.hid ((c4.block w1.heap.size (by omega) (fun hq => by have := (lt2.out _ hq).1; simp only [World.size_alloc] at this; omega)).trans x3.out)
  have x94 := Lib.hid ((c4.block w2.heap.size (by omega) (fun hq => by have := (lt2.out _ hq).2; omega)).trans x93.out)
  have bX4 := Lib.hid (Chg.below bX3.out c4 bX3.out.size (fun q hq => by have := (lt2.out _ hq).1; simp only [World.size_alloc] at this; omega))
  have hY4 := Lib.hid (hY3.out.keepLow c4 (w1.heap.size + 1) (fun q hq => by have := (lt1.out _ hq).2; omega) (fun q hq => by have := (lt2.out _ hq).1; simpa only [World.size_alloc] using this))
  have h4' := Lib.hid h4
  have hM := mk_bd hm.out (show (0 : Int) ≤ 1 by omega) (by omega)
  obtain ⟨-, -, -, -, hM0, -⟩ := hM
  have hheld := Lib.hid (fun S => heldSes_yes S D 1 hm.out (by omega) (by omega))
  generalize mk5 D 1 = M at *
  clear h4 c4 z1 z2 z3
  clear f0 f1 f2 f3 f4 f5 f6 f7 f8 f9 f10 f11 f12
  have f0 := cell_of_heap x94.out 0 _ rfl
  have f1 := cell_of_heap x94.out 1 _ rfl
  have f2 := cell_of_heap x94.out 2 _ rfl
  have f3 := cell_of_heap x94.out 3 _ rfl
  have f4 := cell_of_heap x94.out 4 _ rfl
  have f5 := cell_of_heap x94.out 5 _ rfl
  have f6 := cell_of_heap x94.out 6 _ rfl
  have f7 := cell_of_heap x94.out 7 _ rfl
  have f8 := cell_of_heap x94.out 8 _ rfl
  have f9 := cell_of_heap x94.out 9 _ rfl
  have f10 := cell_of_heap x94.out 10 _ rfl
  have f11 := cell_of_heap x94.out 11 _ rfl
  have f12 := cell_of_heap x94.out 12 _ rfl
  go_wp2_with fail
  refine (hheld.out (⟨.slice a2 k2 c2, .slice d2 l2 e2, .slice s2 n2 o2, .slice m2 q2 r2, .slice y2 z2 u2, sv2, mv2⟩ : Shape) _ h4'.out.rd).mono ?_
  rintro e w5 ⟨rfl, b5⟩
  have bX5 := Lib.hid (below_trans bX4.out b5)
  have x5 := Lib.hid (heap_below b5 x4.out)
  have x95 := Lib.hid (heap_below b5 x94.out)
  have hY5 := Lib.hid (hY4.out.below b5)
  have h5' := Lib.hid (h4'.out.below b5)
  clear b5
  clear f0 f1 f2 f3 f4 f5 f6 f7 f8 f9 f10 f11 f12
  go_wp2_with fail
  refine (hI'.out _).mono ?_
  rintro e w6 ⟨S3, D3, f3, hn3, rfl, h6, b6⟩
  obtain ⟨rfl, rfl⟩ := NewIs.unique hn3 hn.out
  obtain ⟨a3, k3, c3, d3, l3, e3, s3, n3, o3, m3, q3, r3, y3, z3, u3, sv3, mv3, rfl⟩ := h6.lits
  have bb6 := below_trans b6 (below_box w6 (.cells #[.int .i64 D.base, .int .i64 D.pages, .slice a3 k3 c3, .slice d3 l3 e3, .slice s3 n3 o3, .slice m3 q3 r3, .int .i64 D.phase, .int .i64 D.next, .slice y3 z3 u3, .string ⟨#[]⟩, .int .i64 0, .int .i64 0, .bool false] 33))
  have bX6 := Lib.hid (below_trans bX5.out bb6)
  have x6 := Lib.hid (heap_below bb6 x5.out)
  have x96 := Lib.hid (heap_below bb6 x95.out)
  have hX6 := Lib.hid (h6.below (below_box w6 (.cells #[.int .i64 D.base, .int .i64 D.pages, .slice a3 k3 c3, .slice d3 l3 e3, .slice s3 n3 o3, .slice m3 q3 r3, .int .i64 D.phase, .int .i64 D.next, .slice y3 z3 u3, .string ⟨#[]⟩, .int .i64 0, .int .i64 0, .bool false] 33)))
  have hY6 := Lib.hid (hY5.out.below bb6)
  have h6' := Lib.hid (h5'.out.below bb6)
  clear hn3 h6 b6 bb6
  dsimp only [Shape.ses]
  have p0 := cell_of_heap x6.out 0 _ rfl
  have p1 := cell_of_heap x6.out 1 _ rfl
  have p2 := cell_of_heap x6.out 2 _ rfl
  have p3 := cell_of_heap x6.out 3 _ rfl
  have p4 := cell_of_heap x6.out 4 _ rfl
  have p5 := cell_of_heap x6.out 5 _ rfl
  have p6 := cell_of_heap x6.out 6 _ rfl
  have p7 := cell_of_heap x6.out 7 _ rfl
  have p8 := cell_of_heap x6.out 8 _ rfl
  have p9 := cell_of_heap x6.out 9 _ rfl
  have p10 := cell_of_heap x6.out 10 _ rfl
  have p11 := cell_of_heap x6.out 11 _ rfl
  have p12 := cell_of_heap x6.out 12 _ rfl
  go_wp2_with fail
  refine (eqSes_same _ _ D _ hX6.out.rd hY6.out.rd).mono ?_
  rintro e w7 ⟨rfl, b7⟩
  have bX7 := Lib.hid (below_trans bX6.out b7)
  have x97 := Lib.hid (heap_below b7 x96.out)
  have h7' := Lib.hid (h6'.out.below b7)
  clear b7
  clear p0 p1 p2 p3 p4 p5 p6 p7 p8 p9 p10 p11 p12
  have f0 := cell_of_heap x97.out 0 _ rfl
  have f1 := cell_of_heap x97.out 1 _ rfl
  have f2 := cell_of_heap x97.out 2 _ rfl
  have f3 := cell_of_heap x97.out 3 _ rfl
  have f4 := cell_of_heap x97.out 4 _ rfl
  have f5 := cell_of_heap x97.out 5 _ rfl
  have f6 := cell_of_heap x97.out 6 _ rfl
  have f7 := cell_of_heap x97.out 7 _ rfl
  have f8 := cell_of_heap x97.out 8 _ rfl
  have f9 := cell_of_heap x97.out 9 _ rfl
  have f10 := cell_of_heap x97.out 10 _ rfl
  have f11 := cell_of_heap x97.out 11 _ rfl
  have f12 := cell_of_heap x97.out 12 _ rfl
  go_wp2_with fail
  refine (hheld.out (⟨.slice a2 k2 c2, .slice d2 l2 e2, .slice s2 n2 o2, .slice m2 q2 r2, .slice y2 z2 u2, sv2, mv2⟩ : Shape) _ h7'.out.rd).mono ?_
  rintro e w8 ⟨rfl, b8⟩
  clear f0 f1 f2 f3 f4 f5 f6 f7 f8 f9 f10 f11 f12
  go_wp2_with fail
  go_ret
  exact ⟨rfl, below_trans bX7.out b8⟩
end Go.Proofs.Ytnmgecplagekcaa
