import Derived.Test.YtdhiablpobnhcaaGreatThDRB
import Derived.Test.YtdhiablpobnhcaaGreatThP

namespace Go.Proofs.YtdhiablpobnhcaaGreat
open Go.RowKit
set_option linter.unusedVariables false
theorem SeenIs.prev {D : WD} {m : Int} (h : SeenIs D m) (hm : ¬ m < 1) : SeenIs D (m - 1) := by
 obtain ⟨hF, h0, h1, h2⟩ := h
 refine ⟨hF, by omega, by omega, ?_⟩
 rcases h2 with ⟨hp, h⟩ | h | h
 ·exact .inl ⟨hp, by omega⟩
 ·exact .inr (.inl h)
 ·exact .inr (.inr h)
theorem SeenIs.phase {D : WD} {m : Int} (h : SeenIs D m) : D.phase = 1 ∨ D.phase = 2 ∨ D.phase = 3 := by
 obtain ⟨hF, h0, h1, h2⟩ := h
 rcases h2 with ⟨hp, h⟩ | h | h
 ·exact .inl hp
 ·exact .inr (.inl h)
 ·exact .inr (.inr h)
set_option maxRecDepth 100000 in
set_option maxHeartbeats 16000000 in
theorem seen_walk (hH : ∀ w : World, Calls Tryz.prog 18 #[] w fun e w' => e = .returned (.bool true) ∧ Below w.heap.size w w')
  (a : Option Addr) (len cap : Nat) (w : World) (hb : Bytes w a len) (ha : 0 < len → ∀ x, a = some x → x.block < w.heap.size) :
  Calls Tryz.prog 4 #[.slice a len cap] w fun e w' => e = .returned (.bool true) ∧ Below w.heap.size w w' := by
 have hH' := Lib.hid hH
 have hd := Lib.hid (drawSeen_any a len cap w hb ha)
 clear hH hb ha
 go_enter Tryz.func4, Tryz.ntmps4
 go_wp2_with fail
 refine hd.out.mono ?_
 rintro e w1 ⟨v, D, m, ⟨hB, hcw, hcg, hrd⟩, hi, rfl, b1⟩
 obtain ⟨aw, ad, aS, am, ag, cw, cd, cS, cm, cg, rfl⟩ := hrd.written
 have bb1 := Lib.hid (below_trans b1 (below_box w1 (.cells #[.int .i64 D.base, .int .i64 D.pages, .slice aw D.words.length cw, .slice ad D.dirty.length cd, .slice aS D.spans.length cS, .slice am D.muts.length cm, .int .i64 D.phase, .int .i64 D.next, .slice ag D.grey.length cg] 30)))
 have x1 := Lib.hid (box_new w1 (.cells #[.int .i64 D.base, .int .i64 D.pages, .slice aw D.words.length cw, .slice ad D.dirty.length cd, .slice aS D.spans.length cS, .slice am D.muts.length cm, .int .i64 D.phase, .int .i64 D.next, .slice ag D.grey.length cg] 30))
 have o1 := Lib.hid (hrd.below (below_box w1 (.cells #[.int .i64 D.base, .int .i64 D.pages, .slice aw D.words.length cw, .slice ad D.dirty.length cd, .slice aS D.spans.length cS, .slice am D.muts.length cm, .int .i64 D.phase, .int .i64 D.next, .slice ag D.grey.length cg] 30)))
 have hm := Lib.hid hB.fit.marks
 have hi' := Lib.hid hi
 clear hB hcw hcg hrd hi b1 hd
 unfold worldV at o1 ⊢
 go_upto_region 2 with fail
 generalize w1.alloc (.cells #[.int .i64 D.base, .int .i64 D.pages, .slice aw D.words.length cw, .slice ad D.dirty.length cd, .slice aS D.spans.length cS, .slice am D.muts.length cm, .int .i64 D.phase, .int .i64 D.next, .slice ag D.grey.length cg] 30) = W1 at *
 obtain ⟨f0, f1, f2, f3, f4, f5, f6, f7, f8⟩ := cells9 x1.out
 go_wp2_with fail
 refine (seenI_any _ D hm.out m _ o1.out).mono ?_
 rintro e w2 ⟨hq, b2⟩
 have bb2 := Lib.hid (below_trans bb1.out b2)
 have x2 := Lib.hid (heap_below b2 x1.out)
 have o2 := Lib.hid (o1.out.below b2)
 replace hq := hq.elim
 clear b2 bb1 x1 o1
 clear f0 f1 f2 f3 f4 f5 f6 f7 f8
 obtain ⟨f0, f1, f2, f3, f4, f5, f6, f7, f8⟩ := cells9 x2.out
 rcases hq with ⟨hs, rfl⟩ | ⟨hs, rfl⟩
 case inr =>
  have hs' := Lib.hid hs
  clear hs
  go_wp2_with fail
  refine (seen_any _ D m _ o2.out).mono ?_
  rintro e w3 ⟨hq, b3⟩
  obtain rfl := hq.of_no hs'.out
  have bb3 := Lib.hid (below_trans bb2.out b3)
  clear hq b3
  clear f0 f1 f2 f3 f4 f5 f6 f7 f8
  go_wp2_with fail
  refine (hH'.out _).mono ?_
  rintro e w7 ⟨rfl, b7⟩
  have bb7 := Lib.hid (below_trans bb3.out b7)
  clear b7
  go_wp2_with fail
  go_ret
  exact ⟨rfl, bb7.out⟩
 have hs' := Lib.hid hs
 clear hs
 go_wp2_with fail
 refine (seen_any _ D m _ o2.out).mono ?_
 rintro e w3 ⟨hq, b3⟩
 obtain rfl := hq.of_yes hs'.out
 have bb3 := Lib.hid (below_trans bb2.out b3)
 have x3 := Lib.hid (heap_below b3 x2.out)
 have o3 := Lib.hid (o2.out.below b3)
 clear hq b3 bb2 x2 o2
 clear f0 f1 f2 f3 f4 f5 f6 f7 f8
 obtain ⟨f0, f1, f2, f3, f4, f5, f6, f7, f8⟩ := cells9 x3.out
 obtain ⟨p, hp⟩ : ∃ p, p = D.phase := ⟨_, rfl⟩
 have hph := hs'.out.phase
 rw [← hp] at hph
 by_cases hm1 : m < 1
 ·have dm : decide (m < 1) = true := decide_eq_true hm1
  rw [← hp] at f6
  rcases hph with rfl | rfl | rfl
  ·clear hp hm1
   go_wp2_with fail
   refine (hH'.out _).mono ?_
   rintro e w7 ⟨rfl, b7⟩
   have bb7 := Lib.hid (below_trans bb3.out b7)
   clear b7
   clear f0 f1 f2 f3 f4 f5 f6 f7 f8
   go_wp2_with fail
   go_ret
   exact ⟨rfl, bb7.out⟩
  ·clear hp hm1
   go_wp2_with fail
   refine (hH'.out _).mono ?_
   rintro e w7 ⟨rfl, b7⟩
   have bb7 := Lib.hid (below_trans bb3.out b7)
   clear b7
   clear f0 f1 f2 f3 f4 f5 f6 f7 f8
   go_wp2_with fail
   go_ret
   exact ⟨rfl, bb7.out⟩
  ·clear hp hm1
   go_wp2_with fail
   refine (hH'.out _).mono ?_
   rintro e w7 ⟨rfl, b7⟩
   have bb7 := Lib.hid (below_trans bb3.out b7)
   clear b7
   clear f0 f1 f2 f3 f4 f5 f6 f7 f8
   go_wp2_with fail
   go_ret
   exact ⟨rfl, bb7.out⟩
 ·have dm : decide (m < 1) = false := decide_eq_false hm1
  have hpv := Lib.hid (hs'.out.prev hm1)
  have hi2 := hi'.out
  unfold I64 at hi2
  have hw : IntKind.i64.wrap (m - 1) = m - 1 := IntWalk.i64_in _ (by omega)
  clear hi2
  rcases hph with rfl | rfl | rfl
  ·have hp' := Lib.hid hp
   clear hm1 hp
   go_wp2_with fail
   refine (seenI_any _ D hm.out (m - 1) _ o3.out).mono ?_
   rintro e w4 ⟨hq, b4⟩
   obtain rfl := hq.of_yes hpv.out
   have bb4 := Lib.hid (below_trans bb3.out b4)
   have x4 := Lib.hid (heap_below b4 x3.out)
   clear hq b4
   clear f0 f1 f2 f3 f4 f5 f6 f7 f8
   obtain ⟨f0, f1, f2, f3, f4, f5, f6, f7, f8⟩ := cells9 x4.out
   rw [← hp'.out] at f6
   clear hp'
   go_wp2_with fail
   refine (hH'.out _).mono ?_
   rintro e w7 ⟨rfl, b7⟩
   have bb7 := Lib.hid (below_trans bb4.out b7)
   clear b7
   clear f0 f1 f2 f3 f4 f5 f6 f7 f8
   go_wp2_with fail
   go_ret
   exact ⟨rfl, bb7.out⟩
  ·have hp' := Lib.hid hp
   clear hm1 hp
   go_wp2_with fail
   refine (seenI_any _ D hm.out (m - 1) _ o3.out).mono ?_
   rintro e w4 ⟨hq, b4⟩
   obtain rfl := hq.of_yes hpv.out
   have bb4 := Lib.hid (below_trans bb3.out b4)
   have x4 := Lib.hid (heap_below b4 x3.out)
   clear hq b4
   clear f0 f1 f2 f3 f4 f5 f6 f7 f8
   obtain ⟨f0, f1, f2, f3, f4, f5, f6, f7, f8⟩ := cells9 x4.out
   rw [← hp'.out] at f6
   clear hp'
   go_wp2_with fail
   refine (hH'.out _).mono ?_
   rintro e w7 ⟨rfl, b7⟩
   have bb7 := Lib.hid (below_trans bb4.out b7)
   clear b7
   clear f0 f1 f2 f3 f4 f5 f6 f7 f8
   go_wp2_with fail
   go_ret
   exact ⟨rfl, bb7.out⟩
  ·have hp' := Lib.hid hp
   clear hm1 hp
   go_wp2_with fail
   refine (seenI_any _ D hm.out (m - 1) _ o3.out).mono ?_
   rintro e w4 ⟨hq, b4⟩
   obtain rfl := hq.of_yes hpv.out
   have bb4 := Lib.hid (below_trans bb3.out b4)
   have x4 := Lib.hid (heap_below b4 x3.out)
   clear hq b4
   clear f0 f1 f2 f3 f4 f5 f6 f7 f8
   obtain ⟨f0, f1, f2, f3, f4, f5, f6, f7, f8⟩ := cells9 x4.out
   rw [← hp'.out] at f6
   clear hp'
   go_wp2_with fail
   refine (hH'.out _).mono ?_
   rintro e w7 ⟨rfl, b7⟩
   have bb7 := Lib.hid (below_trans bb4.out b7)
   clear b7
   clear f0 f1 f2 f3 f4 f5 f6 f7 f8
   go_wp2_with fail
   go_ret
   exact ⟨rfl, bb7.out⟩
end Go.Proofs.YtdhiablpobnhcaaGreat
