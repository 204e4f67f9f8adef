/-
  The contract of the model's SameGraph.
-/
import Derived.Test.YtaaflpklbhjepaaGrQ
import Derived.Test.YtaaflpklbhjepaaGrG
namespace Go.Proofs.Ytaaflpklbhjepaa
open Go.RowKit
set_option linter.unusedVariables false

set_option maxRecDepth 100000 in
set_option maxHeartbeats 8000000 in
theorem ssame_any (v v' : Value) (D E : GD) (hs : GSmall D) (hs' : GSmall E) (w : World) (hr : RdG w v D) (hr' : RdG w v' E) :
    Calls Try.prog 15 #[v, v'] w fun e w' => IsB (SameG D E) e ∧ Below w.heap.size w w' := by
  obtain ⟨vo, vm, rfl, ro, rm⟩ := hr
  obtain ⟨vo', vm', rfl, ro', rm'⟩ := hr'
  obtain ⟨ao, co, rfl⟩ : ∃ a c, vo = .slice a D.objs.length c := by obtain ⟨a, c, h, _⟩ := ro; exact ⟨a, c, h⟩
  obtain ⟨am, cm, rfl⟩ : ∃ a c, vm = .slice a D.muts.length c := by obtain ⟨a, c, h, _⟩ := rm; exact ⟨a, c, h⟩
  obtain ⟨ao', co', rfl⟩ : ∃ a c, vo' = .slice a E.objs.length c := by obtain ⟨a, c, h, _⟩ := ro'; exact ⟨a, c, h⟩
  obtain ⟨am', cm', rfl⟩ : ∃ a c, vm' = .slice a E.muts.length c := by obtain ⟨a, c, h, _⟩ := rm'; exact ⟨a, c, h⟩
  have bb := Lib.hid (below_trans (below_box w (.cells #[.slice ao D.objs.length co, .slice am D.muts.length cm] 31)) (below_box (w.alloc (.cells #[.slice ao D.objs.length co, .slice am D.muts.length cm] 31)) (.cells #[.slice ao' E.objs.length co', .slice am' E.muts.length cm'] 31)))
  have x2 := box_new (w.alloc (.cells #[.slice ao D.objs.length co, .slice am D.muts.length cm] 31)) (.cells #[.slice ao' E.objs.length co', .slice am' E.muts.length cm'] 31)
  rw [World.size_alloc] at x2
  have x1 := heap_below (below_box (w.alloc (.cells #[.slice ao D.objs.length co, .slice am D.muts.length cm] 31)) (.cells #[.slice ao' E.objs.length co', .slice am' E.muts.length cm'] 31)) (box_new w (.cells #[.slice ao D.objs.length co, .slice am D.muts.length cm] 31))
  have ro1 := Lib.hid (ro.below bb.out)
  have rm1 := Lib.hid (rm.below bb.out)
  have ro2 := Lib.hid (ro'.below bb.out)
  have rm2 := Lib.hid (rm'.below bb.out)
  have g1 := Lib.hid (fun (W : World) (h : Below ((w.alloc (.cells #[.slice ao D.objs.length co, .slice am D.muts.length cm] 31)).alloc (.cells #[.slice ao' E.objs.length co', .slice am' E.muts.length cm'] 31)).heap.size ((w.alloc (.cells #[.slice ao D.objs.length co, .slice am D.muts.length cm] 31)).alloc (.cells #[.slice ao' E.objs.length co', .slice am' E.muts.length cm'] 31)) W) => (⟨_, _, rfl, ro1.out.below h, rm1.out.below h⟩ : RdG W (.agg #[.slice ao D.objs.length co, .slice am D.muts.length cm]) D))
  have g2 := Lib.hid (fun (W : World) (h : Below ((w.alloc (.cells #[.slice ao D.objs.length co, .slice am D.muts.length cm] 31)).alloc (.cells #[.slice ao' E.objs.length co', .slice am' E.muts.length cm'] 31)).heap.size ((w.alloc (.cells #[.slice ao D.objs.length co, .slice am D.muts.length cm] 31)).alloc (.cells #[.slice ao' E.objs.length co', .slice am' E.muts.length cm'] 31)) W) => (⟨_, _, rfl, ro2.out.below h, rm2.out.below h⟩ : RdG W (.agg #[.slice ao' E.objs.length co', .slice am' E.muts.length cm']) E))
  have h1 := Lib.hid hs
  have h2 := Lib.hid hs'
  have h20 := hs.objs
  have h21 := hs.muts
  have h22 := hs'.objs
  have h23 := hs'.muts
  have m0 := cell_of_heap x1 0 _ rfl
  have m1 := cell_of_heap x1 1 _ rfl
  have n0 := cell_of_heap x2 0 _ rfl
  have n1 := cell_of_heap x2 1 _ rfl
  clear x1 x2 ro rm ro' rm' hs hs'
  go_enter Try.func15, Try.ntmps15
  go_wp2_with fail
  generalize (w.alloc (.cells #[.slice ao D.objs.length co, .slice am D.muts.length cm] 31)).alloc (.cells #[.slice ao' E.objs.length co', .slice am' E.muts.length cm'] 31) = W at *
  have M0 := Ext.cell m0
  have M1 := Ext.cell m1
  have N0 := Ext.cell n0
  have N1 := Ext.cell n1
  clear m0 m1 n0 n1
  refine (sgraphOk_any _ D h1.out _ (g1.out _ (Below.refl _ _))).mono ?_
  rintro e w1 ⟨hq, b2⟩
  replace hq := hq.elim
  obtain ⟨x, rfl⟩ := Ext.of b2
  clear b2
  rcases hq with ⟨hq, rfl⟩ | ⟨hq, rfl⟩
  case inr =>
    have n := Lib.hid (show ¬ SameG D E from fun h => hq h.1)
    clear hq
    go_wp2_with fail
    go_ret
    exact ⟨IsB.no n.out, below_trans bb.out x.below⟩
  have p1 := Lib.hid hq
  clear hq
  go_wp2_with fail
  refine (sgraphOk_any _ E h2.out _ (g2.out _ x.below)).mono ?_
  rintro e w1 ⟨hq, b2⟩
  replace hq := hq.elim
  obtain ⟨y, rfl⟩ := x.then b2
  clear b2
  rcases hq with ⟨hq, rfl⟩ | ⟨hq, rfl⟩
  case inr =>
    have n := Lib.hid (show ¬ SameG D E from fun h => hq h.2.1)
    clear hq
    go_wp2_with fail
    go_ret
    exact ⟨IsB.no n.out, below_trans bb.out y.below⟩
  have p2 := Lib.hid hq
  clear hq
  by_cases c1 : D.objs.length = E.objs.length
  case neg =>
    have n := Lib.hid (show ¬ SameG D E from fun h => c1 (by rw [h.2.2.1]))
    have hb : ((D.objs.length : Int) != (E.objs.length : Int)) = true := by rw [bne_iff_ne]; omega
    clear c1
    go_wp2_with fail
    go_ret
    exact ⟨IsB.no n.out, below_trans bb.out y.below⟩
  have hb : ((D.objs.length : Int) != (E.objs.length : Int)) = false := by rw [bne_eq_false_iff_eq]; omega
  by_cases c2 : D.muts.length = E.muts.length
  case neg =>
    have n := Lib.hid (show ¬ SameG D E from fun h => c2 (by rw [h.2.2.2]))
    have hb2 : ((D.muts.length : Int) != (E.muts.length : Int)) = true := by rw [bne_iff_ne]; omega
    clear c1 c2
    go_wp2_with fail
    go_ret
    exact ⟨IsB.no n.out, below_trans bb.out y.below⟩
  have hb2 : ((D.muts.length : Int) != (E.muts.length : Int)) = false := by rw [bne_eq_false_iff_eq]; omega
  have c1' := Lib.hid c1
  have c2' := Lib.hid c2
  go_wp2_with fail
  clear hb hb2
  go_loopw [5] (fun i wr => ∃ k : Nat, k ≤ D.objs.length ∧ i = .int .i64 k ∧ Hid (D.objs.take k = E.objs.take k) ∧ ∃ x : Ext W, wr = x.val) (fun i _ => D.objs.length - (intOf i).toNat)
  case atStart => exact ⟨0, Nat.zero_le _, rfl, Lib.hid rfl, y, rfl⟩
  case round =>
    obtain ⟨k, hk, rfl, hno, x, rfl⟩ := hrel
    by_cases hlt : k < D.objs.length
    · have hlt1 : (k : Int) < (D.objs.length : Int) := by omega
      have hlt2 : (k : Int) < (E.objs.length : Int) := by omega
      obtain ⟨s, hs⟩ : ∃ s, D.objs[k]? = some s := ⟨_, List.getElem?_eq_getElem hlt⟩
      obtain ⟨t, ht⟩ : ∃ s, E.objs[k]? = some s := ⟨_, List.getElem?_eq_getElem (by omega)⟩
      obtain ⟨_, _, he1, _, r1⟩ := ro1.out
      obtain ⟨_, _, he2, _, r2⟩ := ro2.out
      obtain ⟨rfl, rfl⟩ : ao = _ ∧ co = _ := by simpa using he1
      obtain ⟨rfl, rfl⟩ : ao' = _ ∧ co' = _ := by simpa using he2
      obtain ⟨b1, o1, rfl, vl, vp, x0, x1, xl, xp⟩ := r1 k s hs
      obtain ⟨b2, o2, rfl, vl', vp', y0, y1, yl, yp⟩ := r2 k t ht
      obtain ⟨al, cl, rfl⟩ : ∃ a c, vl = .slice a s.p.length c := by obtain ⟨a, c, h, _⟩ := xl; exact ⟨a, c, h⟩
      obtain ⟨ap, cp, rfl⟩ : ∃ a c, vp = .slice a s.v.length c := by obtain ⟨a, c, h, _⟩ := xp; exact ⟨a, c, h⟩
      obtain ⟨al', cl', rfl⟩ : ∃ a c, vl' = .slice a t.p.length c := by obtain ⟨a, c, h, _⟩ := yl; exact ⟨a, c, h⟩
      obtain ⟨ap', cp', rfl⟩ : ∃ a c, vp' = .slice a t.v.length c := by obtain ⟨a, c, h, _⟩ := yp; exact ⟨a, c, h⟩
      have X0 := Ext.cell x0
      have X1 := Ext.cell x1
      have Y0 := Ext.cell y0
      have Y1 := Ext.cell y1
      obtain ⟨d1, hd1⟩ := flagOf (s.p = t.p)
      obtain ⟨d2, hd2⟩ := flagOf (s.v = t.v)
      have hd1' := Lib.hid hd1
      have hd2' := Lib.hid hd2
      have k1 := Lib.hid (fun (u : Ext W) => show Calls Try.prog 32 #[.slice al s.p.length cl, .slice al' t.p.length cl'] u.val fun e w' => e = .returned (.bool d1) ∧ Below u.val.heap.size u.val w' from (l6same_any _ _ s.p t.p _ (xl.below u.below) (yl.below u.below)).mono fun e w' ⟨a, b⟩ => ⟨IsB.at_ d1 hd1'.out a, b⟩)
      have k2 := Lib.hid (fun (u : Ext W) => show Calls Try.prog 32 #[.slice ap s.v.length cp, .slice ap' t.v.length cp'] u.val fun e w' => e = .returned (.bool d2) ∧ Below u.val.heap.size u.val w' from (l6same_any _ _ s.v t.v _ (xp.below u.below) (yp.below u.below)).mono fun e w' ⟨a, b⟩ => ⟨IsB.at_ d2 hd2'.out a, b⟩)
      have hstep := Lib.hid (fun (h : s = t) => take_eq_at hno.out hs ht h)
      have hneq := Lib.hid (fun (h : ¬ s = t) (e : D.objs = E.objs) => h (by rw [e, ht] at hs; cases hs; rfl))
      clear x0 x1 y0 y1 xl xp yl yp hs ht he1 he2 r1 r2 hd1 hd2 c1 c2
      go_wp2_with fail
      cases d1
      case false =>
        have n := Lib.hid (show ¬ SameG D E from fun h => hneq.out (fun e => by have := hd1'.out.2 (by rw [e]); cases this) h.2.2.1)
        refine wp_region_ext x.below (by kernel_rfl) (by kernel_rfl) ?_
        repeat (go_big_quiet_step ((go_at_call 32; exact Ext.call (k1.out _))))
        refine wpQuiet_nil ?_
        intro _ hw'
        obtain ⟨x9, hw''⟩ := hw'
        subst hw''
        go_wp2_with fail
        go_ret
        exact ⟨IsB.no n.out, below_trans bb.out x9.below⟩
      cases d2
      case false =>
        have n := Lib.hid (show ¬ SameG D E from fun h => hneq.out (fun e => by have := hd2'.out.2 (by rw [e]); cases this) h.2.2.1)
        refine wp_region_ext x.below (by kernel_rfl) (by kernel_rfl) ?_
        repeat (go_big_quiet_step ((go_at_call 32; first | (with_reducible exact Ext.call (k1.out _)) | (with_reducible exact Ext.call (k2.out _)))))
        refine wpQuiet_nil ?_
        intro _ hw'
        obtain ⟨x9, hw''⟩ := hw'
        subst hw''
        go_wp2_with fail
        go_ret
        exact ⟨IsB.no n.out, below_trans bb.out x9.below⟩
      have hn2 := Lib.hid (hstep.out (ObD.ext' (hd1'.out.1 rfl) (hd2'.out.1 rfl)))
      refine wp_region_ext x.below (by kernel_rfl) (by kernel_rfl) ?_
      repeat (go_big_quiet_step ((go_at_call 32; first | (with_reducible exact Ext.call (k1.out _)) | (with_reducible exact Ext.call (k2.out _)))))
      refine wpQuiet_nil ?_
      intro _ hw'
      obtain ⟨x9, hw''⟩ := hw'
      subst hw''
      clear X0 X1 Y0 Y1
      go_wp2_with fail
      go_roundw
      case rel => exact ⟨k + 1, by omega, by go_num, hn2, x9, rfl⟩
      case measure => simp [intOf]; omega
    · obtain rfl : k = D.objs.length := by omega
      have p3 := Lib.hid (show D.objs = E.objs from take_eq_all hno.out c1'.out)
      go_wp2_with fail
      go_loopw [6] (fun i wr => ∃ k : Nat, k ≤ D.muts.length ∧ i = .int .i64 k ∧ Hid (D.muts.take k = E.muts.take k) ∧ ∃ x : Ext W, wr = x.val) (fun i _ => D.muts.length - (intOf i).toNat)
      case atStart => exact ⟨0, Nat.zero_le _, rfl, Lib.hid rfl, x, rfl⟩
      case round =>
        obtain ⟨k, hk, rfl, hno, x, rfl⟩ := hrel
        by_cases hlt : k < D.muts.length
        · have hlt1 : (k : Int) < (D.muts.length : Int) := by omega
          have hlt2 : (k : Int) < (E.muts.length : Int) := by omega
          obtain ⟨s, hs⟩ : ∃ s, D.muts[k]? = some s := ⟨_, List.getElem?_eq_getElem hlt⟩
          obtain ⟨t, ht⟩ : ∃ s, E.muts[k]? = some s := ⟨_, List.getElem?_eq_getElem (by omega)⟩
          obtain ⟨_, _, he1, _, r1⟩ := rm1.out
          obtain ⟨_, _, he2, _, r2⟩ := rm2.out
          obtain ⟨rfl, rfl⟩ : am = _ ∧ cm = _ := by simpa using he1
          obtain ⟨rfl, rfl⟩ : am' = _ ∧ cm' = _ := by simpa using he2
          obtain ⟨b1, o1, vl, rfl, x0, xl⟩ := r1 k s hs
          obtain ⟨b2, o2, vl', rfl, y0, yl⟩ := r2 k t ht
          obtain ⟨al, cl, rfl⟩ : ∃ a c, vl = .slice a s.length c := by obtain ⟨a, c, h, _⟩ := xl; exact ⟨a, c, h⟩
          obtain ⟨al', cl', rfl⟩ : ∃ a c, vl' = .slice a t.length c := by obtain ⟨a, c, h, _⟩ := yl; exact ⟨a, c, h⟩
          have X0 := Ext.cell x0
          have Y0 := Ext.cell y0
          obtain ⟨d1, hd1⟩ := flagOf (s = t)
          have hd1' := Lib.hid hd1
          have k1 := Lib.hid (fun (u : Ext W) => show Calls Try.prog 32 #[.slice al s.length cl, .slice al' t.length cl'] u.val fun e w' => e = .returned (.bool d1) ∧ Below u.val.heap.size u.val w' from (l6same_any _ _ s t _ (xl.below u.below) (yl.below u.below)).mono fun e w' ⟨a, b⟩ => ⟨IsB.at_ d1 hd1'.out a, b⟩)
          have hstep := Lib.hid (fun (h : s = t) => take_eq_at hno.out hs ht h)
          have hneq := Lib.hid (fun (h : ¬ s = t) (e : D.muts = E.muts) => h (by rw [e, ht] at hs; cases hs; rfl))
          clear x0 y0 xl yl hs ht he1 he2 r1 r2 hd1 c1 c2
          go_wp2_with fail
          refine wp_region_ext x.below (by kernel_rfl) (by kernel_rfl) ?_
          repeat (go_big_quiet_step ((go_at_call 32; exact Ext.call (k1.out _))))
          refine wpQuiet_nil ?_
          intro _ hw'
          obtain ⟨x9, hw''⟩ := hw'
          subst hw''
          clear X0 Y0
          cases d1
          case false =>
            have n := Lib.hid (show ¬ SameG D E from fun h => hneq.out (fun e => by have := hd1'.out.2 e; cases this) h.2.2.2)
            go_wp2_with fail
            go_ret
            exact ⟨IsB.no n.out, below_trans bb.out x9.below⟩
          have hn2 := Lib.hid (hstep.out (hd1'.out.1 rfl))
          go_wp2_with fail
          go_roundw
          case rel => exact ⟨k + 1, by omega, by go_num, hn2, x9, rfl⟩
          case measure => simp [intOf]; omega
        · obtain rfl : k = D.muts.length := by omega
          have p4 := Lib.hid (show D.muts = E.muts from take_eq_all hno.out c2'.out)
          go_wp2_with fail
          go_ret
          exact ⟨IsB.yes ⟨p1.out, p2.out, p3.out, p4.out⟩, below_trans bb.out x.below⟩
end Go.Proofs.Ytaaflpklbhjepaa
