import Derived.Test.YtefmejhabakghaaPkCensD
import Derived.Test.YtefmejhabakghaaPkOnes
import Derived.Test.YtefmejhabakghaaPkA
import Derived.Test.YtefmejhabakghaaPkM
import Derived.Test.YtefmejhabakghaaPkCaps

/-
  The contract of the program's Census.
-/
namespace Go.Proofs.Ytefmejhabakghaa
open Go.RowKit
set_option linter.unusedVariables false

theorem cL_free (L : List SpanD) (c : Nat) (h : ∀ s, s ∈ L → (s.lens.length : Int) = sl' s.cls) : cL L c 3 = cL L c 0 * sl' (c : Int) - cL L c 1 := by
  induction L with
  | nil => simp [cL]
  | cons s L ih =>
    have h1 := ih (fun t ht => h t (List.mem_cons_of_mem _ ht))
    have h2 := h s (List.mem_cons_self ..)
    have e : ∀ j, cL (s :: L) c j = (if s.cls = (c : Int) then cS s s.lens.length j else 0) + cL L c j := fun j => by unfold cL; simp
    rw [e, e, e, h1]
    by_cases hc : s.cls = (c : Int)
    · rw [if_pos hc, if_pos hc, if_pos hc]
      rw [hc] at h2
      simp only [cS, if_true, show ¬ (1 = 0) by decide, show ¬ (3 = 0) by decide, show ¬ (3 = 1) by decide, show ¬ (3 = 2) by decide, if_false, h2, Int.add_mul, Int.one_mul]
      omega
    · rw [if_neg hc, if_neg hc, if_neg hc, Int.zero_add, Int.zero_add, Int.zero_add]
theorem sum_int (a b : Int) (h : 0 ≤ a + b ∧ a + b ≤ 100000) : IntKind.i64.wrap (a + b) = a + b := IntWalk.i64_in _ (by omega)
theorem cells_row4 (w : World) (t : TypeId) (a b c d : Value) : (w.alloc (.cells #[a, b, c, d] t)).ownsRow w.heap.size t 1 (.slice (some ⟨w.heap.size, 0, none⟩) 4 4) 4 [a, b, c, d] :=
  ⟨rfl, .inr ⟨w.heap.size, 4, _, rfl, Nat.le_refl _, heap_alloc_new w _, Nat.le_refl _, by decide, rfl, rfl⟩⟩
/-- The four numbers of a class. -/
def rowC (D : WD) (c : Nat) : List Int := [cL D.spans c 0, cL D.spans c 1, cL D.spans c 2, cL D.spans c 3]
def rowsC (D : WD) (c : Nat) : List Int := (List.range c).flatMap (rowC D)
theorem rowsC_succ (D : WD) (c : Nat) : rowsC D (c + 1) = rowsC D c ++ rowC D c := by unfold rowsC; rw [List.range_succ, List.flatMap_append]; simp
theorem rowsC_len (D : WD) (c : Nat) : (rowsC D c).length = 4 * c := by
  induction c with
  | zero => rfl
  | succ c ih => rw [rowsC_succ, List.length_append, ih]; simp [rowC]; omega
theorem rowsC_four (D : WD) : rowsC D 4 = cens D := by rfl
theorem slots_at {c v : Int} (h : sl' c = v) (w : World) : Calls Try.prog 66 #[.int .i64 c] w fun e w' => e = .returned (.int .i64 v) ∧ w = w' := by subst h; exact slots_any c w

set_option maxRecDepth 100000 in
set_option maxHeartbeats 4000000 in
theorem icounts_any (B : Nat) (v : Value) (D : WD) (hF : HeapForm D) (c : Nat) (hc : c < 4) (w : World) (hr : RdW w v D) (hB : BoxW w B v) :
    Calls Try.prog 38 #[.pointer (some ⟨B, 0, none⟩), .int .i64 c] w fun e w' => ∃ u, e = .returned u ∧ w'.ownsRow w.heap.size 3 1 u 4 ((rowC D c).map (Value.int .i64)) ∧ Below w.heap.size w w' := by
  have hF' := Lib.hid hF
  have hl12 : D.spans.length ≤ 12 := by have := hF.spans; have := hF.geo.2.2.2.2.1; omega
  have hbd := Lib.hid (fun k j => show 0 ≤ cL (D.spans.take k) c j ∧ cL (D.spans.take k) c j ≤ 192 by
    have h1 := cL_bd (D.spans.take k) (fun t ht => hF.lens16 t (List.mem_of_mem_take ht)) c j
    have h5 : (D.spans.take k).length ≤ D.spans.length := by rw [List.length_take]; omega
    omega)
  obtain ⟨vw, vd, vs, vm, vg, rfl, a1, a2, a3, a4, a5⟩ := hr
  obtain ⟨aS, cS', rfl, hls, hx⟩ := a3
  have hx' := Lib.hid hx
  have g4w := hB.cell 4 _ rfl
  have g4 := Ext.cell g4w
  clear hF hx hls a1 a2 a4 a5 hB
  go_enter Try.func38, Try.ntmps38
  go_wp2_with fail
  go_loopw [5, 6, 7, 15] (fun a b d i wr => ∃ k : Nat, k ≤ D.spans.length ∧ i = .int .i64 k ∧ a = .int .i64 (cL (D.spans.take k) c 0) ∧ b = .int .i64 (cL (D.spans.take k) c 1) ∧ d = .int .i64 (cL (D.spans.take k) c 2) ∧ ∃ x : Ext w, wr = x.val) (fun a b d i _ => D.spans.length - (Go.RowKit.intOf i).toNat)
  case atStart => exact ⟨0, Nat.zero_le _, rfl, rfl, rfl, rfl, Ext.self w, rfl⟩
  case round =>
    obtain ⟨k, hk, rfl, rfl, rfl, rfl, x, rfl⟩ := hrel
    by_cases hlt : k < D.spans.length
    · have hlt1 : (k : Int) < (D.spans.length : Int) := by omega
      obtain ⟨s, hks⟩ : ∃ s, D.spans[k]? = some s := ⟨_, List.getElem?_eq_getElem hlt⟩
      obtain ⟨b1, o1, rfl, hs⟩ := hx'.out k s hks
      have hs' := Lib.hid hs
      obtain ⟨vl, vp, y0, y1, y2, _⟩ := hs
      have y1 := Ext.cell y1
      have y2 := Ext.cell y2
      obtain ⟨m0, m1, hcnt⟩ := hF'.out.white hks
      have hl16 := hF'.out.lens16 s (List.mem_of_getElem? hks)
      have b0 := hbd.out k 0
      have b1' := hbd.out k 1
      have b2 := hbd.out k 2
      have s0 := cL_take hks c 0
      have s1 := cL_take hks c 1
      have s2 := cL_take hks c 2
      have hone := Lib.hid (fun w => ones_any s.mark m0 m1 w)
      have huc := usedCnt_le s s.lens.length
      have hmc := markCnt_le s.mark 16
      have hA := hF'.out.span k s hks
      have hmh : markCnt s.mark 16 = markCnt s.mark s.lens.length := markCnt_high hA.mk0 hA.mk1 hl16
      have hu : IntKind.u64.wrap s.mark = s.mark := IntWalk.u64_in _ (by omega)
      by_cases hcl : s.cls = (c : Int)
      · rw [if_pos hcl] at s0 s1 s2
        have e0 : cL (D.spans.take (k + 1)) c 0 = cL (D.spans.take k) c 0 + 1 := s0
        have e1 : cL (D.spans.take (k + 1)) c 1 = cL (D.spans.take k) c 1 + (usedCnt s s.lens.length : Int) := s1
        have e2 : cL (D.spans.take (k + 1)) c 2 = cL (D.spans.take k) c 2 + (markCnt s.mark 16 : Int) := by rw [hmh]; exact s2
        have E := Lib.hid (And.intro e0 (And.intro e1 e2))
        have w1 : IntKind.i64.wrap (cL (D.spans.take k) c 1 + (usedCnt s s.lens.length : Int)) = cL (D.spans.take k) c 1 + (usedCnt s s.lens.length : Int) := IntWalk.i64_in _ (by omega)
        have w2 : IntKind.i64.wrap (cL (D.spans.take k) c 2 + (markCnt s.mark 16 : Int)) = cL (D.spans.take k) c 2 + (markCnt s.mark 16 : Int) := IntWalk.i64_in _ (by omega)
        rw [hcl] at y1
        clear s0 s1 s2 e0 e1 e2 hcnt hks y0 huc hmc hcl hmh hA
        generalize cL (D.spans.take k) c 0 = z0 at *
        generalize cL (D.spans.take k) c 1 = z1 at *
        generalize cL (D.spans.take k) c 2 = z2 at *
        go_wp2_with fail
        refine (usedSlots_any _ _ s _ (hs'.out.below x.below)).mono ?_
        rintro e w' ⟨rfl, rfl⟩
        go_wp2_with fail
        refine (hone.out _).mono ?_
        rintro e w' ⟨rfl, rfl⟩
        go_wp2_with fail
        go_roundw
        case rel => exact ⟨k + 1, by omega, by go_num, by rw [E.out.1], by rw [E.out.2.1], by rw [E.out.2.2], _, rfl⟩
        case measure => simp [Go.RowKit.intOf]; omega
      · rw [if_neg hcl, Int.add_zero] at s0 s1 s2
        have E := Lib.hid (And.intro s0 (And.intro s1 s2))
        have hcb : (s.cls == (c : Int)) = false := beq_eq_false_iff_ne.2 hcl
        clear s0 s1 s2 hcnt hks y0 huc hmc hcl hmh hA hu
        generalize cL (D.spans.take k) c 0 = z0 at *
        generalize cL (D.spans.take k) c 1 = z1 at *
        generalize cL (D.spans.take k) c 2 = z2 at *
        go_wp2_with fail
        go_roundw
        case rel => exact ⟨k + 1, by omega, by go_num, by rw [E.out.1], by rw [E.out.2.1], by rw [E.out.2.2], x, rfl⟩
        case measure => simp [Go.RowKit.intOf]; omega
    · obtain rfl : k = D.spans.length := by omega
      rw [List.take_length]
      have h3 := cL_free D.spans c (fun s hs => by obtain ⟨k, hk⟩ := List.mem_iff_getElem?.1 hs; exact (hF'.out.span k s hk).lens)
      have b0 := hbd.out D.spans.length 0
      have b1 := hbd.out D.spans.length 1
      have b3 := hbd.out D.spans.length 3
      rw [List.take_length] at b0 b1 b3
      have hrow := Lib.hid (show rowC D c = [cL D.spans c 0, cL D.spans c 1, cL D.spans c 2, cL D.spans c 3] from rfl)
      obtain ⟨S, hS⟩ : ∃ S, sl' (c : Int) = S := ⟨_, rfl⟩
      have hcall := Lib.hid (fun w => slots_at hS w)
      have hsb := sl_bd (c : Int)
      rw [hS] at h3 hsb
      have hm : 0 ≤ cL D.spans c 0 * S ∧ cL D.spans c 0 * S ≤ 1000 := by omega
      have w1 : IntKind.i64.wrap (cL D.spans c 0 * S) = cL D.spans c 0 * S := IntWalk.i64_in _ (by omega)
      have w2 : IntKind.i64.wrap (cL D.spans c 0 * S - cL D.spans c 1) = cL D.spans c 3 := by rw [h3]; exact IntWalk.i64_in _ (by omega)
      clear h3 hS
      generalize cL D.spans c 0 = z0 at *
      generalize cL D.spans c 1 = z1 at *
      generalize cL D.spans c 2 = z2 at *
      generalize cL D.spans c 3 = z3 at *
      go_wp2_with fail
      refine (hcall.out _).mono ?_
      rintro e w' ⟨rfl, rfl⟩
      go_wp2_with fail
      go_ret
      exact ⟨_, rfl, by rw [hrow.out]; exact own_base (cells_row4 x.val 3 _ _ _ _) x.below.size, below_trans x.below (below_box _ _)⟩

set_option maxRecDepth 100000 in
set_option maxHeartbeats 8000000 in
theorem icensus_any (v : Value) (D : WD) (hm : MarksIn D) (w : World) (hr : RdW w v D) :
    Calls Try.prog 11 #[v] w fun e w' => ∃ L u, CensIs D L ∧ e = .returned u ∧ w'.ownsRow w.heap.size 3 1 u L.length (L.map (Value.int .i64)) ∧ Below w.heap.size w w' := by
  have hm' := Lib.hid hm
  clear hm
  obtain ⟨vw, vd, vs, vm, vg, rfl, a1, a2, a3, a4, a5⟩ := hr
  have bx := box_new w (.cells #[.int .i64 D.base, .int .i64 D.pages, vw, vd, vs, vm, .int .i64 D.phase, .int .i64 D.next, vg] 36)
  have bw := below_box w (.cells #[.int .i64 D.base, .int .i64 D.pages, vw, vd, vs, vm, .int .i64 D.phase, .int .i64 D.next, vg] 36)
  have hW := Lib.hid (show RdW (w.alloc (.cells #[.int .i64 D.base, .int .i64 D.pages, vw, vd, vs, vm, .int .i64 D.phase, .int .i64 D.next, vg] 36)) (.agg #[.int .i64 D.base, .int .i64 D.pages, vw, vd, vs, vm, .int .i64 D.phase, .int .i64 D.next, vg]) D from ⟨vw, vd, vs, vm, vg, rfl, a1.below bw, a2.below bw, a3.below bw, a4.below bw, a5.below bw⟩)
  have hBx := Lib.hid (show BoxW (w.alloc (.cells #[.int .i64 D.base, .int .i64 D.pages, vw, vd, vs, vm, .int .i64 D.phase, .int .i64 D.next, vg] 36)) w.heap.size (.agg #[.int .i64 D.base, .int .i64 D.pages, vw, vd, vs, vm, .int .i64 D.phase, .int .i64 D.next, vg]) from ⟨_, rfl, bx⟩)
  have bw' := Lib.hid bw
  clear a1 a2 a3 a4 a5 bx bw
  go_enter Try.func11, Try.ntmps11
  go_wp2_with fail
  refine (formOkI_any _ D hm'.out _ hW.out).mono ?_
  rintro e w1 ⟨hq, b1⟩
  have hq := hq.elim
  obtain ⟨x1, rfl⟩ := Ext.of b1
  clear b1
  generalize w.alloc (.cells #[.int .i64 D.base, .int .i64 D.pages, vw, vd, vs, vm, .int .i64 D.phase, .int .i64 D.next, vg] 36) = W at *
  rcases hq with ⟨hF, rfl⟩ | ⟨hF, rfl⟩
  case inr =>
    have y := Lib.hid (show CensIs D [] from .inr ⟨hF, rfl⟩)
    clear hF
    go_wp2_with fail
    go_ret
    exact ⟨[], _, y.out, rfl, World.ownsRow_nil _ _ _ _, below_trans bw'.out x1.below⟩
  have hF' := Lib.hid hF
  have hxb := Lib.hid x1.below
  clear hF
  go_wp2_with fail
  go_loopw [3, 8] (fun v i wr => ∃ (c : Nat), c ≤ 4 ∧ i = .int .i64 c ∧ wr.ownsRow W.heap.size 3 1 v (rowsC D c).length ((rowsC D c).map (Value.int .i64)) ∧ Below W.heap.size W wr) (fun v i _ => 4 - (Go.RowKit.intOf i).toNat)
  case atStart => exact ⟨0, Nat.zero_le _, rfl, World.ownsRow_nil _ _ _ _, hxb.out⟩
  case round =>
    obtain ⟨c, hc, rfl, hown, hB⟩ := hrel
    have hBs := hB.size
    by_cases hlt : c < 4
    · have hlen := rowsC_len D c
      have hcall := Lib.hid (icounts_any w.heap.size _ D hF'.out c hlt wr (hW.out.below hB) (hBx.out.below hB))
      have hjs := Lib.hid (rowsC_succ D c)
      have hzl : (rowC D c).length = 4 := rfl
      generalize rowC D c = Z at *
      generalize rowsC D c = Y at *
      have hown' := Lib.hid hown
      have hB' := Lib.hid hB
      have hzl' := Lib.hid hzl
      have hlen' := Lib.hid (show Y.length + Z.length ≤ 100 by omega)
      clear hown hB hzl hlen
      go_wp2_with (first
        | (go_at_call 38; refine hcall.out.mono ?_; rintro e w2 ⟨u, rfl, hu0, b2⟩; have hu : w2.ownsRow wr.heap.size 3 1 u Z.length (Z.map (Value.int .i64)) := (by rw [hzl'.out]; exact hu0); obtain ⟨au, cu, rfl⟩ := own_slice hu; have hsrc := Lib.hid (Rd.src (Rd.of_owns hu)); have ho := Lib.hid (own_chg hown'.out (Chg.of_below b2 []) (fun q hq => by simp)); have hB2 := Lib.hid (below_trans hB'.out b2); have hz2 := Lib.hid (show W.heap.size ≤ w2.heap.size from hB2.out.size); clear hu hu0 b2)
        | (at_builtin; refine wpList_app rfl (.tmp 11) (.tmp 13) 22 rfl W.heap.size 3 (.int .i64 0) 1 8 Try.underlying22 infoInt rfl (by decide) _ _ _ rfl ho.out au Z.length cu (Z.map (Value.int .i64)) rfl hsrc.out (by have := hlen'.out; unfold maxLen; omega) (by have := hlen'.out; omega) hz2.out ?_; intro v' w3 hown3 hgrow3))
      have hB3 := row_below hB2.out ho.out hgrow3 hz2.out
      have ho3 : w3.ownsRow W.heap.size 3 1 v' (Y ++ Z).length ((Y ++ Z).map (Value.int .i64)) := by simpa using hown3
      clear hown3 hgrow3
      go_wp2_with fail
      go_roundw
      case rel => exact ⟨c + 1, by omega, by go_num, by rw [hjs.out]; exact ho3, hB3⟩
      case measure => simp [Go.RowKit.intOf]; omega
    · obtain rfl : c = 4 := by omega
      rw [rowsC_four] at hown
      have y := Lib.hid (show CensIs D (cens D) from .inl ⟨hF'.out, rfl⟩)
      have hown2 := Lib.hid hown
      have hb0 := Lib.hid (bw'.out.size)
      clear hown
      go_wp2_with fail
      go_ret
      exact ⟨_, _, y.out, rfl, own_base hown2.out hb0.out, below_trans bw'.out hB⟩
end Go.Proofs.Ytefmejhabakghaa
