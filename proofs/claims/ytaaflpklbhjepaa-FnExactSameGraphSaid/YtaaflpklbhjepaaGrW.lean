/-
  The contract of the program's SameGraph.
-/
import Derived.Test.YtaaflpklbhjepaaGrV
import Derived.Test.YtaaflpklbhjepaaGrP
namespace Go.Proofs.Ytaaflpklbhjepaa
open Go.RowKit
set_option linter.unusedVariables false

set_option maxRecDepth 100000 in
set_option maxHeartbeats 8000000 in
theorem isame_any (v v' : Value) (D E : GD) (hs : GSmall D) (hs' : GSmall E) (w : World) (hr : RdG w v D) (hr' : RdG w v' E) :
    Calls Try.prog 16 #[v, v'] w fun e w' => IsB (SameG D E) e ∧ Below w.heap.size w w' := by
  obtain ⟨vo, vm, rfl, ro, rm⟩ := hr
  obtain ⟨vo', vm', rfl, ro', rm'⟩ := hr'
  obtain ⟨ao, co, rfl⟩ : ∃ a c, vo = .slice a D.objs.length c := by obtain ⟨a, c, h, _⟩ := ro; exact ⟨a, c, h⟩
  obtain ⟨am, cm, rfl⟩ : ∃ a c, vm = .slice a D.muts.length c := by obtain ⟨a, c, h, _⟩ := rm; exact ⟨a, c, h⟩
  obtain ⟨ao', co', rfl⟩ : ∃ a c, vo' = .slice a E.objs.length c := by obtain ⟨a, c, h, _⟩ := ro'; exact ⟨a, c, h⟩
  obtain ⟨am', cm', rfl⟩ : ∃ a c, vm' = .slice a E.muts.length c := by obtain ⟨a, c, h, _⟩ := rm'; exact ⟨a, c, h⟩
  have bb := Lib.hid (below_trans (below_box w (.cells #[.slice ao D.objs.length co, .slice am D.muts.length cm] 31)) (below_box (w.alloc (.cells #[.slice ao D.objs.length co, .slice am D.muts.length cm] 31)) (.cells #[.slice ao' E.objs.length co', .slice am' E.muts.length cm'] 31)))
  have x2 := box_new (w.alloc (.cells #[.slice ao D.objs.length co, .slice am D.muts.length cm] 31)) (.cells #[.slice ao' E.objs.length co', .slice am' E.muts.length cm'] 31)
  rw [World.size_alloc] at x2
  have x1 := heap_below (below_box (w.alloc (.cells #[.slice ao D.objs.length co, .slice am D.muts.length cm] 31)) (.cells #[.slice ao' E.objs.length co', .slice am' E.muts.length cm'] 31)) (box_new w (.cells #[.slice ao D.objs.length co, .slice am D.muts.length cm] 31))
  have ro1 := Lib.hid (ro.below bb.out)
  have rm1 := Lib.hid (rm.below bb.out)
  have ro2 := Lib.hid (ro'.below bb.out)
  have rm2 := Lib.hid (rm'.below bb.out)
  have g1 := Lib.hid (fun (W : World) (h : Below ((w.alloc (.cells #[.slice ao D.objs.length co, .slice am D.muts.length cm] 31)).alloc (.cells #[.slice ao' E.objs.length co', .slice am' E.muts.length cm'] 31)).heap.size ((w.alloc (.cells #[.slice ao D.objs.length co, .slice am D.muts.length cm] 31)).alloc (.cells #[.slice ao' E.objs.length co', .slice am' E.muts.length cm'] 31)) W) => (⟨_, _, rfl, ro1.out.below h, rm1.out.below h⟩ : RdG W (.agg #[.slice ao D.objs.length co, .slice am D.muts.length cm]) D))
  have g2 := Lib.hid (fun (W : World) (h : Below ((w.alloc (.cells #[.slice ao D.objs.length co, .slice am D.muts.length cm] 31)).alloc (.cells #[.slice ao' E.objs.length co', .slice am' E.muts.length cm'] 31)).heap.size ((w.alloc (.cells #[.slice ao D.objs.length co, .slice am D.muts.length cm] 31)).alloc (.cells #[.slice ao' E.objs.length co', .slice am' E.muts.length cm'] 31)) W) => (⟨_, _, rfl, ro2.out.below h, rm2.out.below h⟩ : RdG W (.agg #[.slice ao' E.objs.length co', .slice am' E.muts.length cm']) E))
  have h1 := Lib.hid hs
  have h2 := Lib.hid hs'
  have h20 := hs.objs
  have h21 := hs.muts
  have h22 := hs'.objs
  have h23 := hs'.muts
  have m0 := cell_of_heap x1 0 _ rfl
  have m1 := cell_of_heap x1 1 _ rfl
  have n0 := cell_of_heap x2 0 _ rfl
  have n1 := cell_of_heap x2 1 _ rfl
  clear x1 x2 ro rm ro' rm' hs hs'
  go_enter Try.func16, Try.ntmps16
  go_wp2_with fail
  generalize (w.alloc (.cells #[.slice ao D.objs.length co, .slice am D.muts.length cm] 31)).alloc (.cells #[.slice ao' E.objs.length co', .slice am' E.muts.length cm'] 31) = W at *
  have M0 := Ext.cell m0
  have M1 := Ext.cell m1
  have N0 := Ext.cell n0
  have N1 := Ext.cell n1
  clear m0 m1 n0 n1
  refine (igraphOk_any _ D h1.out _ (g1.out _ (Below.refl _ _))).mono ?_
  rintro e w1 ⟨hq, b2⟩
  replace hq := hq.elim
  obtain ⟨x, rfl⟩ := Ext.of b2
  clear b2
  rcases hq with ⟨hq, rfl⟩ | ⟨hq, rfl⟩
  case inr =>
    have n := Lib.hid (show ¬ SameG D E from fun h => hq h.1)
    clear hq
    go_wp2_with fail
    go_ret
    exact ⟨IsB.no n.out, below_trans bb.out x.below⟩
  have p1 := Lib.hid hq
  clear hq
  go_wp2_with fail
  refine (igraphOk_any _ E h2.out _ (g2.out _ x.below)).mono ?_
  rintro e w1 ⟨hq, b2⟩
  replace hq := hq.elim
  obtain ⟨y, rfl⟩ := x.then b2
  clear b2
  rcases hq with ⟨hq, rfl⟩ | ⟨hq, rfl⟩
  case inr =>
    have n := Lib.hid (show ¬ SameG D E from fun h => hq h.2.1)
    clear hq
    go_wp2_with fail
    go_ret
    exact ⟨IsB.no n.out, below_trans bb.out y.below⟩
  have p2 := Lib.hid hq
  clear hq
  go_wp2_with fail
  refine (eqFuncO_any _ _ D.objs E.objs _ (ro1.out.below y.below) (ro2.out.below y.below)).mono ?_
  rintro e w1 ⟨hq, b2⟩
  replace hq := hq.elim
  obtain ⟨z, rfl⟩ := y.then b2
  clear b2
  rcases hq with ⟨hq, rfl⟩ | ⟨hq, rfl⟩
  case inr =>
    have n := Lib.hid (show ¬ SameG D E from fun h => hq h.2.2.1)
    clear hq
    go_wp2_with fail
    go_ret
    exact ⟨IsB.no n.out, below_trans bb.out z.below⟩
  have p3 := Lib.hid hq
  clear hq
  go_wp2_with fail
  refine (eqFuncM_any _ _ D.muts E.muts _ (rm1.out.below z.below) (rm2.out.below z.below)).mono ?_
  rintro e w1 ⟨⟨r, rfl, hr⟩, b2⟩
  obtain ⟨u, rfl⟩ := z.then b2
  have q := Lib.hid (show IsB (SameG D E) (.returned (.bool r)) from ⟨_, rfl, hr.trans ⟨fun h => ⟨p1.out, p2.out, p3.out, h⟩, fun h => h.2.2.2⟩⟩)
  clear b2 hr
  go_wp2_with fail
  go_ret
  exact ⟨q.out, below_trans bb.out u.below⟩
end Go.Proofs.Ytaaflpklbhjepaa
