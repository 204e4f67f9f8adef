import Derived.Test.YtefmejhabakghaaPkICensus
import Derived.Test.YtefmejhabakghaaPkSCensus
import Derived.Test.YtefmejhabakghaaPkP
import Derived.Test.YtefmejhabakghaaPkV
import Derived.Test.YtefmejhabakghaaPkL1
import Derived.Deep.DeepCutAuto
import Derived.Deep.CutRange
import Derived.Deep.RegionWith
import Derived.Outline

/-
  The walk of FnExactCensus, the contracts of the model and of the program being premises.
-/
namespace Go.Proofs.Ytefmejhabakghaa
open Go.RowKit
set_option linter.unusedVariables false

theorem OwnW.capW {w : World} {base : Nat} {S : Shape} {D : WD} (h : OwnW w base S D) : CapW (S.val D) := by
  intro c0 c1 a n c c3 c4 c5 c6 c7 c8 e
  have e2 : S.vw = .slice a n c := by simp [Shape.val] at e; exact e.2.2.1
  rcases h.words.2 with ⟨e3, _⟩ | ⟨g, cap, cur, e3, _, _, hnc, _⟩
  · rw [e3] at e2
    cases e2
    exact Nat.le_refl _
  · rw [e3] at e2
    cases e2
    exact hnc
theorem own_rd {w : World} {base : Nat} {v : Value} {L : List Int} (h : w.ownsRow base 3 1 v L.length (L.map (Value.int .i64))) : Rd w v L := Rd.of_owns h
theorem seqL_rd {w : World} {base : Nat} {v : Value} {k : Int} {n : Nat} (h : w.ownsRow base 3 1 v n ((seqL k n).map (Value.int .i64))) : Rd w v (seqL k n) := Rd.of_owns (by rw [seqL_length]; exact h)

set_option maxRecDepth 100000 in
set_option maxHeartbeats 16000000 in
theorem lawL_census (D : WD) 
    (hS : ∀ (v : Value) (w : World), RdW w v D → Calls Try.prog 10 #[v] w fun e w' => ∃ L u, CensIs D L ∧ e = .returned u ∧ w'.ownsRow w.heap.size 3 1 u L.length (L.map (Value.int .i64)) ∧ Below w.heap.size w w')
    (hI : ∀ (v : Value) (w : World), CapW v → RdW w v D → Calls Try.prog 11 #[v] w fun e w' => ∃ L u, CensIs D L ∧ e = .returned u ∧ w'.ownsRow w.heap.size 3 1 u L.length (L.map (Value.int .i64)) ∧ Below w.heap.size w w')
    (hlen : D.bulk ≤ 1048576 → ∀ L, CensIs D L → L.length ≤ 1048576)
    (v : Value) (w : World) (hr : RdW w v D) :
    Calls Try.prog 4 #[v] w fun e w' => e = .returned (.bool true) ∧ Below w.heap.size w w' := by
  have hS' := Lib.hid hS
  have hI' := Lib.hid hI
  have hlen' := Lib.hid hlen
  clear hS hI hlen
  obtain ⟨aw, ad, aS, am, ag, cw, cd, cS, cm, cg, rfl⟩ := hr.written
  have hr' := Lib.hid hr
  have bb := Lib.hid (below_box w (.cells #[.int .i64 D.base, .int .i64 D.pages, .slice aw D.words.length cw, .slice ad D.dirty.length cd, .slice aS D.spans.length cS, .slice am D.muts.length cm, .int .i64 D.phase, .int .i64 D.next, .slice ag D.grey.length cg] 29))
  have bx := Lib.hid (box_new w (.cells #[.int .i64 D.base, .int .i64 D.pages, .slice aw D.words.length cw, .slice ad D.dirty.length cd, .slice aS D.spans.length cS, .slice am D.muts.length cm, .int .i64 D.phase, .int .i64 D.next, .slice ag D.grey.length cg] 29))
  have hrW := Lib.hid (hr.below bb.out)
  clear hr
  unfold worldV
  go_enter Try.func4, Try.ntmps4
  go_wp2_with fail
  refine (szWorld_any _ D _ (by omega) (by omega) _ hrW.out).mono ?_
  rintro e w1 ⟨r1, rfl, z1, b1⟩
  have t1 := z1.lo
  have bw1 := Lib.hid (below_trans bb.out b1)
  have bx1 := Lib.hid (heap_below b1 bx.out)
  have hr1 := Lib.hid (hr'.out.below bw1.out)
  by_cases c1 : r1 < 0
  · clear z1 b1
    go_wp2_with fail
    go_ret
    exact ⟨rfl, bw1.out⟩
  have hbk := Lib.hid (show D.bulk ≤ 1048576 by have := z1.fits (by omega); omega)
  have hsm := Lib.hid (Small.of_bulk hbk.out)
  have hzz1 := Lib.hid (show w.heap.size + 1 ≤ w1.heap.size by have := b1.size; simpa using this)
  have f0 := cell_of_heap bx1.out 0 _ rfl
  have f1 := cell_of_heap bx1.out 1 _ rfl
  have f2 := cell_of_heap bx1.out 2 _ rfl
  have f3 := cell_of_heap bx1.out 3 _ rfl
  have f4 := cell_of_heap bx1.out 4 _ rfl
  have f5 := cell_of_heap bx1.out 5 _ rfl
  have f6 := cell_of_heap bx1.out 6 _ rfl
  have f7 := cell_of_heap bx1.out 7 _ rfl
  have f8 := cell_of_heap bx1.out 8 _ rfl
  clear z1 b1
  go_wp2_with fail
  refine (toWorld_rd _ D hsm.out _ hr1.out).mono ?_
  rintro e w2 ⟨aw2, ad2, aS2, am2, ag2, cw2, cd2, cS2, cm2, cg2, rfl, h2, b2⟩
  have bw2 := Lib.hid (below_trans bw1.out b2)
  have bx2 := Lib.hid (heap_below b2 bx1.out)
  have h2' := Lib.hid h2
  have hzz2 := Lib.hid b2.size
  clear h2 b2
  clear f0 f1 f2 f3 f4 f5 f6 f7 f8
  unfold worldV
  go_wp2_with fail
  refine (hS'.out _ _ h2'.out).mono ?_
  rintro e w3 ⟨L, u3, hn3, rfl, h3, b3⟩
  obtain ⟨a3, c3, rfl⟩ := own_slice h3
  have hn := Lib.hid hn3
  have hl := Lib.hid (hlen'.out hbk.out L hn3)
  have bw3 := Lib.hid (below_trans bw2.out b3)
  have bA3 := Lib.hid (heap_below b3 bx2.out)
  have hW3 := Lib.hid h3
  have lt3 := Lib.hid (fun q hq => (h3.lt q hq).2)
  have hr3 := Lib.hid (hr'.out.below bw3.out)
  have hzz3 := Lib.hid b3.size
  clear hn3 h3 b3 h2'
  have f0 := cell_of_heap bA3.out 0 _ rfl
  have f1 := cell_of_heap bA3.out 1 _ rfl
  have f2 := cell_of_heap bA3.out 2 _ rfl
  have f3 := cell_of_heap bA3.out 3 _ rfl
  have f4 := cell_of_heap bA3.out 4 _ rfl
  have f5 := cell_of_heap bA3.out 5 _ rfl
  have f6 := cell_of_heap bA3.out 6 _ rfl
  have f7 := cell_of_heap bA3.out 7 _ rfl
  have f8 := cell_of_heap bA3.out 8 _ rfl
  go_wp2_with fail
  refine (toWorld_any _ D hsm.out _ hr3.out).mono ?_
  rintro e w4 ⟨S4, rfl, h4, b4⟩
  have hc4 := Lib.hid h4.capW
  obtain ⟨a4, k4, c4, d4, l4, e4, s4, n4, o4, m4, q4, r4, y4, z4, u4, sv4, mv4, rfl⟩ := h4.lits
  clear f0 f1 f2 f3 f4 f5 f6 f7 f8
  have hmD := Lib.hid (show Markable D from ⟨by have := hbk.out; have h5 : D.spans.length ≤ D.bulk := (by unfold WD.bulk; omega); omega⟩)
  have bw4 := Lib.hid (below_trans bw3.out (below_trans b4 (below_box w4 (.cells #[.int .i64 D.base, .int .i64 D.pages, .slice a4 k4 c4, .slice d4 l4 e4, .slice s4 n4 o4, .slice m4 q4 r4, .int .i64 D.phase, .int .i64 D.next, .slice y4 z4 u4] 36))))
  have bA4 := Lib.hid (heap_below (below_trans b4 (below_box w4 (.cells #[.int .i64 D.base, .int .i64 D.pages, .slice a4 k4 c4, .slice d4 l4 e4, .slice s4 n4 o4, .slice m4 q4 r4, .int .i64 D.phase, .int .i64 D.next, .slice y4 z4 u4] 36))) bA3.out)
  have hW4 := Lib.hid (own_chg hW3.out (Chg.of_below (below_trans b4 (below_box w4 (.cells #[.int .i64 D.base, .int .i64 D.pages, .slice a4 k4 c4, .slice d4 l4 e4, .slice s4 n4 o4, .slice m4 q4 r4, .int .i64 D.phase, .int .i64 D.next, .slice y4 z4 u4] 36))) []) (fun q hq => by simp))
  have bX4 := Lib.hid (box_new w4 (.cells #[.int .i64 D.base, .int .i64 D.pages, .slice a4 k4 c4, .slice d4 l4 e4, .slice s4 n4 o4, .slice m4 q4 r4, .int .i64 D.phase, .int .i64 D.next, .slice y4 z4 u4] 36))
  have hX4 := Lib.hid (h4.below (below_box w4 (.cells #[.int .i64 D.base, .int .i64 D.pages, .slice a4 k4 c4, .slice d4 l4 e4, .slice s4 n4 o4, .slice m4 q4 r4, .int .i64 D.phase, .int .i64 D.next, .slice y4 z4 u4] 36)))
  have lt4 := Lib.hid (fun q hq => (show w3.heap.size ≤ q ∧ q < w4.heap.size from h4.lt q hq))
  have hzz4 := Lib.hid b4.size
  clear h4 b4 hW3 bA3
  dsimp only [Shape.val] at hc4 ⊢
  go_wp2_with fail
  refine (hI'.out _ _ hc4.out hX4.out.rd).mono ?_
  rintro e w5 ⟨L', u5, hn5, rfl, h5, b5⟩
  obtain rfl := CensIs.unique hn5 hn.out
  obtain ⟨a5, c5, rfl⟩ := own_slice h5
  have bw5 := Lib.hid (below_trans bw4.out b5)
  have bA5 := Lib.hid (heap_below b5 bA4.out)
  have hW5 := Lib.hid (own_chg hW4.out (Chg.of_below b5 []) (fun q hq => by simp))
  have bX5 := Lib.hid (heap_below b5 bX4.out)
  have hX5 := Lib.hid (hX4.out.below b5)
  have hG5 := Lib.hid h5
  have lt5 := Lib.hid (fun q hq => (show w4.heap.size + 1 ≤ q ∧ q < w5.heap.size by have := h5.lt q hq; simpa using this))
  have hzz5 := Lib.hid (show w4.heap.size + 1 ≤ w5.heap.size by have := b5.size; simpa using this)
  clear hn5 h5 b5 bA4 hW4 bX4 hX4
  go_wp2_with fail
  refine (eqIntS_same _ _ L _ (own_rd hG5.out) (own_rd hW5.out)).mono ?_
  rintro e w6 ⟨rfl, n6, rfl⟩
  have b6 := below_drewN (Below.refl w5.heap.size w5) n6
  have bw6 := Lib.hid (below_trans bw5.out b6)
  have bA6 := Lib.hid (heap_below b6 bA5.out)
  have hW6 := Lib.hid (own_chg hW5.out (Chg.of_below b6 []) (fun q hq => by simp))
  have bX6 := Lib.hid (heap_below b6 bX5.out)
  have hX6 := Lib.hid (hX5.out.below b6)
  have hG6 := Lib.hid (own_chg hG5.out (Chg.of_below b6 []) (fun q hq => by simp))
  have hr6 := Lib.hid (hr'.out.below bw6.out)
  have hzz6 := Lib.hid b6.size
  generalize w5.drewN n6 = w6 at *
  clear b6 bw5 bA5 hW5 bX5 hX5 hG5
  have f0 := cell_of_heap bA6.out 0 _ rfl
  have f1 := cell_of_heap bA6.out 1 _ rfl
  have f2 := cell_of_heap bA6.out 2 _ rfl
  have f3 := cell_of_heap bA6.out 3 _ rfl
  have f4 := cell_of_heap bA6.out 4 _ rfl
  have f5 := cell_of_heap bA6.out 5 _ rfl
  have f6 := cell_of_heap bA6.out 6 _ rfl
  have f7 := cell_of_heap bA6.out 7 _ rfl
  have f8 := cell_of_heap bA6.out 8 _ rfl
  have g0 := cell_of_heap bX6.out 0 _ rfl
  have g1 := cell_of_heap bX6.out 1 _ rfl
  have g2 := cell_of_heap bX6.out 2 _ rfl
  have g3 := cell_of_heap bX6.out 3 _ rfl
  have g4 := cell_of_heap bX6.out 4 _ rfl
  have g5 := cell_of_heap bX6.out 5 _ rfl
  have g6 := cell_of_heap bX6.out 6 _ rfl
  have g7 := cell_of_heap bX6.out 7 _ rfl
  have g8 := cell_of_heap bX6.out 8 _ rfl
  go_upto_region 10 with fail
  go_cut [31] (fun q wx => q = .bool false ∧ Hid (Below w6.heap.size w6 wx))
  case first =>
    go_region_with (first
      | (go_at_call 7; refine (toWorld_rd _ D hsm.out _ ?_).mono ?_; exact hr6.out; rintro e w7 ⟨aw7, ad7, aS7, am7, ag7, cw7, cd7, cS7, cm7, cg7, rfl, h7, b7⟩; have b77 := Lib.hid (show Below w6.heap.size w6 w7 from ⟨b7.os, b7.tape, b7.output, b7.size, b7.block⟩); have h67 := Lib.hid (hX6.out.rd.below b77.out); have x7 := heap_below b77.out bX6.out; have y0 := cell_of_heap x7 0 _ rfl; have y1 := cell_of_heap x7 1 _ rfl; have y2 := cell_of_heap x7 2 _ rfl; have y3 := cell_of_heap x7 3 _ rfl; have y4 := cell_of_heap x7 4 _ rfl; have y5 := cell_of_heap x7 5 _ rfl; have y6 := cell_of_heap x7 6 _ rfl; have y7 := cell_of_heap x7 7 _ rfl; have y8 := cell_of_heap x7 8 _ rfl; unfold worldV at h7 ⊢; clear b7 x7)
      | (go_at_call 9; refine (eqWorld_same _ _ D _ ?_ ?_).mono ?_; exact h67.out; exact h7; rintro e w8 ⟨rfl, b8⟩; have b88 := Lib.hid (show Below w7.heap.size w7 w8 from ⟨b8.os, b8.tape, b8.output, b8.size, b8.block⟩)))
    all_goals go_wp2_with fail
    all_goals go_meet
    all_goals exact ⟨rfl, below_trans b77.out b88.out⟩
  case rest =>
    obtain ⟨rfl, b7⟩ := hcut
    have bw7 := Lib.hid (below_trans bw6.out b7.out)
    have bA7 := Lib.hid (heap_below b7.out bA6.out)
    have hW7 := Lib.hid (own_chg hW6.out (Chg.of_below b7.out []) (fun q hq => by simp))
    have bX7 := Lib.hid (heap_below b7.out bX6.out)
    have hX7 := Lib.hid (hX6.out.below b7.out)
    have hG7 := Lib.hid (own_chg hG6.out (Chg.of_below b7.out []) (fun q hq => by simp))
    have hzz7 := Lib.hid b7.out.size
    clear b7 bw6 bA6 hW6 bX6 hX6 hG6
    clear f0 f1 f2 f3 f4 f5 f6 f7 f8
    clear g0 g1 g2 g3 g4 g5 g6 g7 g8
    have f0 := cell_of_heap bX7.out 0 _ rfl
    have f1 := cell_of_heap bX7.out 1 _ rfl
    have f2 := cell_of_heap bX7.out 2 _ rfl
    have f3 := cell_of_heap bX7.out 3 _ rfl
    have f4 := cell_of_heap bX7.out 4 _ rfl
    have f5 := cell_of_heap bX7.out 5 _ rfl
    have f6 := cell_of_heap bX7.out 6 _ rfl
    have f7 := cell_of_heap bX7.out 7 _ rfl
    have f8 := cell_of_heap bX7.out 8 _ rfl
    go_wp2_with fail
    refine (markWorld_any _ _ D 1 hmD.out (by omega) (by omega) _ hX7.out).mono ?_
    rintro e w8 ⟨rfl, h8, c8⟩
    have q1 := hzz1.out
    have q2 := hzz2.out
    have q3 := hzz3.out
    have q4 := hzz4.out
    have q5 := hzz5.out
    have q6 := hzz6.out
    have q7 := hzz7.out
    have bA8 := Lib.hid ((c8.block w.heap.size (by omega) (fun hq => by have := lt4.out _ hq; omega)).trans bA7.out)
    have hW8 := Lib.hid (own_chg hW7.out c8 (fun q hq hm => by have := lt4.out _ hm; have := lt3.out _ hq; omega))
    have hG8 := Lib.hid (own_chg hG7.out c8 (fun q hq hm => by have := lt4.out _ hm; have := lt5.out _ hq; omega))
    have bw8 := Lib.hid (Chg.below bw7.out c8 bw7.out.size (fun q hq => by have := lt4.out _ hq; omega))
    have hzz8 := Lib.hid c8.size
    have hM := mk_bd hmD.out (show (0 : Int) ≤ 1 by omega) (by omega)
    obtain ⟨-, -, -, -, hM0, -⟩ := hM
    generalize mk5 D 1 = M at *
    clear h8 c8 q1 q2 q3 q4 q5 q6 q7 bw7 bA7 hW7 bX7 hX7 hG7
    clear f0 f1 f2 f3 f4 f5 f6 f7 f8
    go_wp2_with fail
    refine (eqIntS_same _ _ L _ (own_rd hG8.out) (own_rd hW8.out)).mono ?_
    rintro e w9 ⟨rfl, n9, rfl⟩
    have b9 := below_drewN (Below.refl w8.heap.size w8) n9
    have bw9 := Lib.hid (below_trans bw8.out b9)
    have bA9 := Lib.hid (heap_below b9 bA8.out)
    have hW9 := Lib.hid (own_chg hW8.out (Chg.of_below b9 []) (fun q hq => by simp))
    have hG9 := Lib.hid (own_chg hG8.out (Chg.of_below b9 []) (fun q hq => by simp))
    have hzz9 := Lib.hid b9.size
    generalize w8.drewN n9 = w9 at *
    clear b9 bw8 bA8 hW8 hG8
    have hl1 := hl.out
    go_wp2_with fail
    refine (markIntS_any _ _ 1 L (by omega) (by omega) (by omega) _ hG9.out).mono ?_
    rintro e w10 ⟨rfl, h10, g10⟩
    have c10 := Chg.of_grown g10 (bs := (Value.slice a5 L.length c5).ownBlock.toList) (fun x hx => by rw [hx]; simp)
    have q1 := hzz1.out
    have q2 := hzz2.out
    have q3 := hzz3.out
    have q4 := hzz4.out
    have q5 := hzz5.out
    have q6 := hzz6.out
    have q7 := hzz7.out
    have q8 := hzz8.out
    have q9 := hzz9.out
    have hin5 := fun q (hq : q ∈ (Value.slice a5 L.length c5).ownBlock.toList) => lt5.out q (by simpa using hq)
    have bA10 := Lib.hid ((c10.block w.heap.size (by omega) (fun hq => by have := hin5 _ hq; omega)).trans bA9.out)
    have hW10 := Lib.hid (own_chg hW9.out c10 (fun q hq hm => by have := hin5 _ hm; have := lt3.out _ hq; omega))
    have hG10 := Lib.hid h10
    have bw10 := Lib.hid (Chg.below bw9.out c10 bw9.out.size (fun q hq => by have := hin5 _ hq; omega))
    clear h10 g10 c10 q1 q2 q3 q4 q5 q6 q7 q8 q9 hin5 bw9 bA9 hW9 hG9
    go_wp2_with fail
    refine (heldIntS_yes _ 1 L.length (by omega) (by omega) (by omega) _ (seqL_rd hG10.out)).mono ?_
    rintro e w11 ⟨rfl, rfl⟩
    have hr11 := Lib.hid (hr'.out.below bw10.out)
    have f0 := cell_of_heap bA10.out 0 _ rfl
    have f1 := cell_of_heap bA10.out 1 _ rfl
    have f2 := cell_of_heap bA10.out 2 _ rfl
    have f3 := cell_of_heap bA10.out 3 _ rfl
    have f4 := cell_of_heap bA10.out 4 _ rfl
    have f5 := cell_of_heap bA10.out 5 _ rfl
    have f6 := cell_of_heap bA10.out 6 _ rfl
    have f7 := cell_of_heap bA10.out 7 _ rfl
    have f8 := cell_of_heap bA10.out 8 _ rfl
    go_wp2_with fail
    refine (toWorld_any _ D hsm.out _ hr11.out).mono ?_
    rintro e w12 ⟨S6, rfl, h12, b12⟩
    have hc6 := Lib.hid h12.capW
    have h12' := Lib.hid h12.rd
    have bw12 := Lib.hid (below_trans bw10.out b12)
    have hW12 := Lib.hid (own_chg hW10.out (Chg.of_below b12 []) (fun q hq => by simp))
    have hG12 := Lib.hid (own_chg hG10.out (Chg.of_below b12 []) (fun q hq => by simp))
    clear h12 b12 bw10 bA10 hW10 hG10
    clear f0 f1 f2 f3 f4 f5 f6 f7 f8
    go_wp2_with fail
    refine (hI'.out _ _ hc6.out h12'.out).mono ?_
    rintro e w13 ⟨L', u6, hn6, rfl, h13, b13⟩
    obtain rfl := CensIs.unique hn6 hn.out
    obtain ⟨a6, c6, rfl⟩ := own_slice h13
    have bw13 := Lib.hid (below_trans bw12.out b13)
    have hW13 := Lib.hid (own_chg hW12.out (Chg.of_below b13 []) (fun q hq => by simp))
    have hG13 := Lib.hid (own_chg hG12.out (Chg.of_below b13 []) (fun q hq => by simp))
    have hH13 := Lib.hid h13
    clear hn6 h13 b13 bw12 hW12 hG12 h12'
    go_wp2_with fail
    refine (eqIntS_same _ _ L _ (own_rd hH13.out) (own_rd hW13.out)).mono ?_
    rintro e w14 ⟨rfl, n14, rfl⟩
    have b14 := below_drewN (Below.refl w13.heap.size w13) n14
    have bw14 := Lib.hid (below_trans bw13.out b14)
    have hG14 := Lib.hid (own_chg hG13.out (Chg.of_below b14 []) (fun q hq => by simp))
    generalize w13.drewN n14 = w14 at *
    clear b14 bw13 hW13 hG13 hH13
    go_wp2_with fail
    refine (heldIntS_yes _ 1 L.length (by omega) (by omega) (by omega) _ (seqL_rd hG14.out)).mono ?_
    rintro e w15 ⟨rfl, rfl⟩
    go_wp2_with fail
    go_ret
    exact ⟨rfl, bw14.out⟩
end Go.Proofs.Ytefmejhabakghaa
