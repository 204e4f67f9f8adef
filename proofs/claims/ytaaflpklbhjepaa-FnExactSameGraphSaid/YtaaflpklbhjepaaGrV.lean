/-
  The program's sameObj, sameMut; slices.EqualFunc over them.
-/
import Derived.Test.YtaaflpklbhjepaaGrQ
namespace Go.Proofs.Ytaaflpklbhjepaa
open Go.RowKit
set_option linter.unusedVariables false

set_option maxHeartbeats 4000000 in
theorem sameObj_any (s t : ObD) (vl vp vl' vp' : Value) (w : World) (hl : Rd w vl s.p) (hp : Rd w vp s.v) (hl' : Rd w vl' t.p) (hp' : Rd w vp' t.v) :
    Calls Try.prog 34 #[.agg #[vl, vp], .agg #[vl', vp']] w fun e w' => IsB (s = t) e ∧ Below w.heap.size w w' := by
  have ex : s = t ↔ s.p = t.p ∧ s.v = t.v := ⟨fun h => by rw [h]; exact ⟨rfl, rfl⟩, fun ⟨h1, h2⟩ => by cases s; cases t; simp_all⟩
  have ex := Lib.hid ex
  obtain ⟨al, cl, rfl⟩ : ∃ a c, vl = .slice a s.p.length c := by obtain ⟨a, c, h, _⟩ := hl; exact ⟨a, c, h⟩
  obtain ⟨ap, cp, rfl⟩ : ∃ a c, vp = .slice a s.v.length c := by obtain ⟨a, c, h, _⟩ := hp; exact ⟨a, c, h⟩
  obtain ⟨al', cl', rfl⟩ : ∃ a c, vl' = .slice a t.p.length c := by obtain ⟨a, c, h, _⟩ := hl'; exact ⟨a, c, h⟩
  obtain ⟨ap', cp', rfl⟩ : ∃ a c, vp' = .slice a t.v.length c := by obtain ⟨a, c, h, _⟩ := hp'; exact ⟨a, c, h⟩
  have bb := Lib.hid (below_trans (below_box w (.cells #[.slice al s.p.length cl, .slice ap s.v.length cp] 44)) (below_box (w.alloc (.cells #[.slice al s.p.length cl, .slice ap s.v.length cp] 44)) (.cells #[.slice al' t.p.length cl', .slice ap' t.v.length cp'] 44)))
  have x2 := box_new (w.alloc (.cells #[.slice al s.p.length cl, .slice ap s.v.length cp] 44)) (.cells #[.slice al' t.p.length cl', .slice ap' t.v.length cp'] 44)
  rw [World.size_alloc] at x2
  have x1 := heap_below (below_box (w.alloc (.cells #[.slice al s.p.length cl, .slice ap s.v.length cp] 44)) (.cells #[.slice al' t.p.length cl', .slice ap' t.v.length cp'] 44)) (box_new w (.cells #[.slice al s.p.length cl, .slice ap s.v.length cp] 44))
  have hl2 := Lib.hid (hl.below bb.out)
  have hp2 := Lib.hid (hp.below bb.out)
  have hl2' := Lib.hid (hl'.below bb.out)
  have hp2' := Lib.hid (hp'.below bb.out)
  have x1 := Lib.hid x1
  have x2 := Lib.hid x2
  clear hl hp hl' hp'
  go_enter Try.func34, Try.ntmps34
  go_wp2_with fail
  refine (equal_any _ _ s.p t.p _ hl2.out hl2'.out).mono ?_
  rintro e w1 ⟨hq, b2⟩
  replace hq := hq.elim
  have c0 := cell_of_heap (heap_below b2 x1.out) 1 _ rfl
  have d0 := cell_of_heap (heap_below b2 x2.out) 1 _ rfl
  have bw := Lib.hid (below_trans bb.out b2)
  have hp3 := Lib.hid (hp2.out.below b2)
  have hp3' := Lib.hid (hp2'.out.below b2)
  clear b2
  rcases hq with ⟨hq, rfl⟩ | ⟨hq, rfl⟩
  · have h1 := Lib.hid hq
    clear hq
    go_wp2_with fail
    refine (equal_any _ _ s.v t.v _ hp3.out hp3'.out).mono ?_
    rintro e w2 ⟨⟨r, rfl, hr⟩, b3⟩
    have y := Lib.hid (show IsB (s = t) (.returned (.bool r)) from ⟨_, rfl, hr.trans ⟨fun h => ex.out.2 ⟨h1.out, h⟩, fun h => (ex.out.1 h).2⟩⟩)
    have bw3 := Lib.hid (below_trans bw.out b3)
    clear b3 hr
    go_wp2_with fail
    go_ret
    exact ⟨y.out, bw3.out⟩
  · have n := Lib.hid (show ¬ s = t from fun h => hq (ex.out.1 h).1)
    clear hq
    go_wp2_with fail
    go_ret
    exact ⟨IsB.no n.out, bw.out⟩

set_option maxHeartbeats 4000000 in
theorem sameMut_any (s t : List Int) (vl vl' : Value) (w : World) (hl : Rd w vl s) (hl' : Rd w vl' t) :
    Calls Try.prog 36 #[.agg #[vl], .agg #[vl']] w fun e w' => IsB (s = t) e ∧ Below w.heap.size w w' := by
  have bb := Lib.hid (below_trans (below_box w (.cells #[vl] 47)) (below_box (w.alloc (.cells #[vl] 47)) (.cells #[vl'] 47)))
  have hl2 := Lib.hid (hl.below bb.out)
  have hl2' := Lib.hid (hl'.below bb.out)
  clear hl hl'
  go_enter Try.func36, Try.ntmps36
  go_wp2_with fail
  refine (equal_any _ _ s t _ hl2.out hl2'.out).mono ?_
  rintro e w1 ⟨hq, b2⟩
  have hq' := Lib.hid hq
  obtain ⟨r, rfl, _⟩ := hq
  have bw := Lib.hid (below_trans bb.out b2)
  clear b2
  go_wp2_with fail
  go_ret
  exact ⟨hq'.out, bw.out⟩

set_option maxRecDepth 100000 in
set_option maxHeartbeats 4000000 in
theorem eqFuncO_any (v1 v2 : Value) (L M : List ObD) (w : World) (h1 : RdO w v1 L) (h2 : RdO w v2 M) :
    Calls Try.prog 33 #[v1, v2, .func (.func 34) #[] #[]] w fun e w' => IsB (L = M) e ∧ Below w.heap.size w w' := by
  obtain ⟨a1, c1, rfl, hl, r1⟩ := h1
  obtain ⟨a2, c2, rfl, hm, r2⟩ := h2
  unfold maxLen at hl hm
  have r1 := Lib.hid r1
  have r2 := Lib.hid r2
  go_enter Try.func33, Try.ntmps33
  by_cases hn : L.length = M.length
  case neg =>
    have n := Lib.hid (show ¬ L = M from fun h => hn (by rw [h]))
    have hb : ((L.length : Int) != (M.length : Int)) = true := by rw [bne_iff_ne]; omega
    clear hn
    go_wp2_with fail
    go_ret
    exact ⟨IsB.no n.out, Below.refl _ _⟩
  have hb : ((L.length : Int) != (M.length : Int)) = false := by rw [bne_eq_false_iff_eq]; omega
  have hn' := Lib.hid hn
  go_wp2_with fail
  go_loopw [17] (fun i wr => ∃ k : Nat, k ≤ L.length ∧ i = .int .i64 k ∧ Hid (L.take k = M.take k) ∧ ∃ x : Ext w, wr = x.val) (fun i _ => L.length - (intOf i).toNat)
  case atStart => exact ⟨0, Nat.zero_le _, rfl, Lib.hid rfl, Ext.self w, rfl⟩
  case round =>
    obtain ⟨k, hk, rfl, hno, x, rfl⟩ := hrel
    by_cases hlt : k < L.length
    · have hlt1 : (k : Int) < (L.length : Int) := by omega
      have hlt2 : (k : Int) < (M.length : Int) := by omega
      obtain ⟨s, hs⟩ : ∃ s, L[k]? = some s := ⟨_, List.getElem?_eq_getElem hlt⟩
      obtain ⟨t, ht⟩ : ∃ s, M[k]? = some s := ⟨_, List.getElem?_eq_getElem (by omega)⟩
      obtain ⟨b1, o1, rfl, vl, vp, x0, x1, xl, xp⟩ := r1.out k s hs
      obtain ⟨b2, o2, rfl, vl', vp', y0, y1, yl, yp⟩ := r2.out k t ht
      obtain ⟨al, cl, rfl⟩ : ∃ a c, vl = .slice a s.p.length c := by obtain ⟨a, c, h, _⟩ := xl; exact ⟨a, c, h⟩
      obtain ⟨ap, cp, rfl⟩ : ∃ a c, vp = .slice a s.v.length c := by obtain ⟨a, c, h, _⟩ := xp; exact ⟨a, c, h⟩
      obtain ⟨al', cl', rfl⟩ : ∃ a c, vl' = .slice a t.p.length c := by obtain ⟨a, c, h, _⟩ := yl; exact ⟨a, c, h⟩
      obtain ⟨ap', cp', rfl⟩ : ∃ a c, vp' = .slice a t.v.length c := by obtain ⟨a, c, h, _⟩ := yp; exact ⟨a, c, h⟩
      have X0 := Ext.cell x0 x
      have X1 := Ext.cell x1 x
      have Y0 := Ext.cell y0 x
      have Y1 := Ext.cell y1 x
      have bb := Lib.hid (below_trans (below_box x.val (.cells #[.slice al s.p.length cl, .slice ap s.v.length cp] 44)) (below_box _ (.cells #[.slice al' t.p.length cl', .slice ap' t.v.length cp'] 44)))
      have bx := below_box x.val (.cells #[.slice al s.p.length cl, .slice ap s.v.length cp] 44)
      have Y0' := cell_below bx Y0
      have Y1' := cell_below bx Y1
      have bX := Lib.hid (below_trans x.below bb.out)
      have hcall := Lib.hid (sameObj_any s t _ _ _ _ _ (xl.below bX.out) (xp.below bX.out) (yl.below bX.out) (yp.below bX.out))
      have hstep := Lib.hid (fun (h : s = t) => take_eq_at hno.out hs ht h)
      have hneq := Lib.hid (fun (h : ¬ s = t) (e : L = M) => h (by rw [e, ht] at hs; cases hs; rfl))
      clear x0 x1 y0 y1 hn xl xp yl yp hs ht bx
      go_wp2_with fail
      refine hcall.out.mono ?_
      rintro e w2 ⟨hq, b2⟩
      replace hq := hq.elim
      obtain ⟨x3, rfl⟩ := x.then (below_trans bb.out b2)
      clear b2 hcall X0 X1 Y0 Y1 Y0' Y1'
      rcases hq with ⟨hq, rfl⟩ | ⟨hq, rfl⟩
      · have hn2 := Lib.hid (hstep.out hq)
        clear hq
        go_wp2_with fail
        go_roundw
        case rel => exact ⟨k + 1, by omega, by go_num, hn2, x3, rfl⟩
        case measure => simp [intOf]; omega
      · have n := Lib.hid (hneq.out hq)
        clear hq
        go_wp2_with fail
        go_ret
        exact ⟨IsB.no n.out, x3.below⟩
    · obtain rfl : k = L.length := by omega
      have y := Lib.hid (show L = M from take_eq_all hno.out hn'.out)
      go_wp2_with fail
      go_ret
      exact ⟨IsB.yes y.out, x.below⟩
set_option maxRecDepth 100000 in
set_option maxHeartbeats 4000000 in
theorem eqFuncM_any (v1 v2 : Value) (L M : List (List Int)) (w : World) (h1 : RdM w v1 L) (h2 : RdM w v2 M) :
    Calls Try.prog 35 #[v1, v2, .func (.func 36) #[] #[]] w fun e w' => IsB (L = M) e ∧ Below w.heap.size w w' := by
  obtain ⟨a1, c1, rfl, hl, r1⟩ := h1
  obtain ⟨a2, c2, rfl, hm, r2⟩ := h2
  unfold maxLen at hl hm
  have r1 := Lib.hid r1
  have r2 := Lib.hid r2
  go_enter Try.func35, Try.ntmps35
  by_cases hn : L.length = M.length
  case neg =>
    have n := Lib.hid (show ¬ L = M from fun h => hn (by rw [h]))
    have hb : ((L.length : Int) != (M.length : Int)) = true := by rw [bne_iff_ne]; omega
    clear hn
    go_wp2_with fail
    go_ret
    exact ⟨IsB.no n.out, Below.refl _ _⟩
  have hb : ((L.length : Int) != (M.length : Int)) = false := by rw [bne_eq_false_iff_eq]; omega
  have hn' := Lib.hid hn
  go_wp2_with fail
  go_loopw [17] (fun i wr => ∃ k : Nat, k ≤ L.length ∧ i = .int .i64 k ∧ Hid (L.take k = M.take k) ∧ ∃ x : Ext w, wr = x.val) (fun i _ => L.length - (intOf i).toNat)
  case atStart => exact ⟨0, Nat.zero_le _, rfl, Lib.hid rfl, Ext.self w, rfl⟩
  case round =>
    obtain ⟨k, hk, rfl, hno, x, rfl⟩ := hrel
    by_cases hlt : k < L.length
    · have hlt1 : (k : Int) < (L.length : Int) := by omega
      have hlt2 : (k : Int) < (M.length : Int) := by omega
      obtain ⟨s, hs⟩ : ∃ s, L[k]? = some s := ⟨_, List.getElem?_eq_getElem hlt⟩
      obtain ⟨t, ht⟩ : ∃ s, M[k]? = some s := ⟨_, List.getElem?_eq_getElem (by omega)⟩
      obtain ⟨b1, o1, vl, rfl, x0, xl⟩ := r1.out k s hs
      obtain ⟨b2, o2, vl', rfl, y0, yl⟩ := r2.out k t ht
      obtain ⟨al, cl, rfl⟩ : ∃ a c, vl = .slice a s.length c := by obtain ⟨a, c, h, _⟩ := xl; exact ⟨a, c, h⟩
      obtain ⟨al', cl', rfl⟩ : ∃ a c, vl' = .slice a t.length c := by obtain ⟨a, c, h, _⟩ := yl; exact ⟨a, c, h⟩
      have X0 := Ext.cell x0 x
      have Y0 := Ext.cell y0 x
      have bb := Lib.hid (below_trans (below_box x.val (.cells #[.slice al s.length cl] 47)) (below_box _ (.cells #[.slice al' t.length cl'] 47)))
      have bx := below_box x.val (.cells #[.slice al s.length cl] 47)
      have Y0' := cell_below bx Y0
      have bX := Lib.hid (below_trans x.below bb.out)
      have hcall := Lib.hid (sameMut_any s t _ _ _ (xl.below bX.out) (yl.below bX.out))
      have hstep := Lib.hid (fun (h : s = t) => take_eq_at hno.out hs ht h)
      have hneq := Lib.hid (fun (h : ¬ s = t) (e : L = M) => h (by rw [e, ht] at hs; cases hs; rfl))
      clear x0 y0 hn xl yl hs ht bx
      go_wp2_with fail
      refine hcall.out.mono ?_
      rintro e w2 ⟨hq, b2⟩
      replace hq := hq.elim
      obtain ⟨x3, rfl⟩ := x.then (below_trans bb.out b2)
      clear b2 hcall X0 Y0 Y0'
      rcases hq with ⟨hq, rfl⟩ | ⟨hq, rfl⟩
      · have hn2 := Lib.hid (hstep.out hq)
        clear hq
        go_wp2_with fail
        go_roundw
        case rel => exact ⟨k + 1, by omega, by go_num, hn2, x3, rfl⟩
        case measure => simp [intOf]; omega
      · have n := Lib.hid (hneq.out hq)
        clear hq
        go_wp2_with fail
        go_ret
        exact ⟨IsB.no n.out, x3.below⟩
    · obtain rfl : k = L.length := by omega
      have y := Lib.hid (show L = M from take_eq_all hno.out hn'.out)
      go_wp2_with fail
      go_ret
      exact ⟨IsB.yes y.out, x.below⟩
end Go.Proofs.Ytaaflpklbhjepaa
