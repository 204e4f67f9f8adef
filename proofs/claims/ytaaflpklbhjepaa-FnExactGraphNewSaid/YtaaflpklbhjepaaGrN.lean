/-
  The contract of the model's GraphNew.
-/
import Derived.Test.YtaaflpklbhjepaaGrD
import Derived.Test.YtaaflpklbhjepaaAppG
import Derived.Deep.DeepCutAuto
import Derived.Deep.CutRange
import Derived.Deep.OwnRows
import Derived.Outline
namespace Go.Proofs.Ytaaflpklbhjepaa
open Go.RowKit
set_option linter.unusedVariables false

/-- What GraphNew answers. -/
def GnIs (m : Int) (L : List (List Int)) (f : Bool) : Prop := ((1 ≤ m ∧ m ≤ 3) ∧ L = List.replicate m.toNat (List.replicate 6 0) ∧ f = true) ∨ (¬ (1 ≤ m ∧ m ≤ 3) ∧ L = [] ∧ f = false)
/-- The loop's state. -/
structure GnS (w wr : World) (v5 : Value) (mv : List Value) (k : Nat) : Prop where
  below : Below w.heap.size w wr
  size : w.heap.size + 1 + 1 ≤ wr.heap.size
  boxR : wr.heap[w.heap.size]? = some (.cells #[.slice none 0 0, .slice none 0 0] 31 (0, 0))
  boxB : wr.heap[w.heap.size + 1]? = some (.cells #[.slice none 0 0, v5] 31 (0, 0))
  muts : OwnM wr (w.heap.size + 1 + 1) v5 (List.replicate k (List.replicate 6 0)) mv
  nodup : (mv.filterMap Value.ownBlock).Nodup
theorem GnS.next {w wr Y w1 : World} {v5 v5' : Value} {mv : List Value} {k : Nat} (h : GnS w wr v5 mv k) (hY : Below wr.heap.size wr Y)
    (hr : Y.heap[wr.heap.size]? = some (.cells (madeCells #[.int .i64 0] 6) 3 (0, 0))) (g : Y.grownBy w1 v5.ownBlock) (o : w1.ownsRow (w.heap.size + 1 + 1) 47 1 v5' (k + 1) (mv ++ [.slice (some ⟨wr.heap.size, 0, none⟩) 6 6])) :
    GnS w (w1.setCell ⟨w.heap.size + 1, 1, none⟩ v5') v5' (mv ++ [.slice (some ⟨wr.heap.size, 0, none⟩) 6 6]) (k + 1) := by
  have hsz := h.size
  have lt5 : ∀ q, v5.ownBlock = some q → w.heap.size + 1 + 1 ≤ q := fun q hq => (h.muts.row.lt q hq).1
  have at1 : ∀ {q : Nat} {o : Obj}, q < w.heap.size + 1 + 1 → wr.heap[q]? = some o → w1.heap[q]? = some o := fun {q o} hq ho =>
    grown_block g (by have := hY.size; omega) (fun r hr => by have := lt5 r hr; omega) (heap_below hY ho)
  have cF : Chg [w.heap.size + 1] w1 (w1.setCell ⟨w.heap.size + 1, 1, none⟩ v5') := Chg.of_grown (grown_set w1 (w.heap.size + 1) 1 v5') (by simp)
  have c5 : Chg v5.ownBlock.toList Y w1 := Chg.of_grown g fun x hx => by rw [hx]; simp
  have m1 := h.muts.below hY
  have o1 : Y.ownsRow wr.heap.size 3 1 (.slice (some ⟨wr.heap.size, 0, none⟩) 6 6) 6 (List.replicate 6 (.int .i64 0)) := own_made hr (Nat.le_refl _) (by unfold maxLen; omega)
  have ty : ∀ {x : Value} {n : Nat} {xs : List Value} {t : TypeId} {sz b : Nat}, Y.ownsRow b t sz x n xs → t ≠ 47 → ∀ q, x.ownBlock = some q → q ∉ v5.ownBlock.toList := fun hx ht q hq hm => by
    refine own_types hx m1.row ht q hq ?_
    cases hv : v5.ownBlock with
    | none => rw [hv] at hm; simp at hm
    | some b => rw [hv] at hm; simp at hm; rw [hm]
  have fin : ∀ {x : Value} {n b : Nat} {xs : List Value} {t : TypeId} {sz : Nat}, Y.ownsRow b t sz x n xs → t ≠ 47 → w.heap.size + 1 + 1 ≤ b → (w1.setCell ⟨w.heap.size + 1, 1, none⟩ v5').ownsRow b t sz x n xs := fun hx ht hb =>
    own_chg (own_chg hx c5 (ty hx ht)) cF fun q hq hm => by have := (hx.lt q hq).1; rw [List.mem_singleton.1 hm] at this; omega
  have hl := h.muts.len
  rw [List.length_replicate] at hl
  have e : List.replicate (k + 1) (List.replicate 6 (0 : Int)) = List.replicate k (List.replicate 6 0) ++ [List.replicate 6 0] := List.replicate_succ'
  refine ⟨?_, by have := hY.size; have := c5.size; simp; omega, ?_, heap_setCell_same w1 (w.heap.size + 1) 1 _ _ v5' (at1 (by omega) h.boxB), ⟨?_, by simp [hl], ?_⟩, ?_⟩
  · have e1 : Below w.heap.size w Y := h.below.trans (hY.mono (by omega))
    have e2 : Below w.heap.size w w1 := e1.grown g (by have := hY.size; omega) (fun q hq => by have := lt5 q hq; omega)
    exact Chg.below e2 cF (by have := e2.size; omega) (fun x hx => by rw [List.mem_singleton.1 hx]; omega)
  · rw [heap_setCell_other w1 ⟨w.heap.size + 1, 1, none⟩ w.heap.size v5' (by simp)]
    exact at1 (by omega) h.boxR
  · rw [List.length_replicate]
    exact own_chg o cF fun q hq hm => by have := (o.lt q hq).1; rw [List.mem_singleton.1 hm] at this; omega
  · intro i r u hr' hu
    rw [e] at hr'
    by_cases hi : i < k
    · rw [List.getElem?_append_left (by simpa using hi)] at hr'
      rw [List.getElem?_append_left (by omega)] at hu
      exact fin (m1.inner i r u hr' hu) (by decide) (Nat.le_refl _)
    · have hi2 : i = k := by
        have := (List.getElem?_eq_some_iff.1 hr').1
        simp at this
        omega
      subst hi2
      rw [List.getElem?_append_right (by simp)] at hr'
      rw [List.getElem?_append_right (by omega)] at hu
      simp only [List.length_replicate, Nat.sub_self, List.getElem?_cons_zero, Option.some.injEq] at hr'
      simp only [hl, Nat.sub_self, List.getElem?_cons_zero, Option.some.injEq] at hu
      subst hr'
      subst hu
      exact own_base (fin o1 (by decide) hsz) hsz
  · rw [List.filterMap_append, List.nodup_append]
    refine ⟨h.nodup, by simp [Value.ownBlock], fun a ha c hc eac => ?_⟩
    obtain ⟨x, hx, hxa⟩ := List.mem_filterMap.1 ha
    obtain ⟨i, hi⟩ := List.mem_iff_getElem?.1 hx
    have hik : i < k := by have := (List.getElem?_eq_some_iff.1 hi).1; omega
    have := ((h.muts.inner i (List.replicate 6 0) x (by simp [hik]) hi).lt a hxa).2
    obtain ⟨y, hy, hyc⟩ := List.mem_filterMap.1 hc
    rw [List.mem_singleton] at hy
    subst hy
    simp [Value.ownBlock] at hyc
    omega
theorem GnS.own {w wr wF : World} {m : Nat} {v5 : Value} {mv : List Value} (h : GnS w wr v5 mv m) (hF : Chg [w.heap.size] wr wF) :
    OwnM wF w.heap.size v5 (List.replicate m (List.replicate 6 0)) mv ∧ Below w.heap.size w wF := by
  have m5 : OwnM wF (w.heap.size + 1 + 1) v5 (List.replicate m (List.replicate 6 0)) mv := h.muts.chg hF (fun q hq hm => by have := (h.muts.row.lt q hq).1; rw [List.mem_singleton.1 hm] at this; omega) (fun x hx q hq hm => by
    obtain ⟨i, hi⟩ := List.mem_iff_getElem?.1 hx
    have hl := h.muts.len
    rw [List.length_replicate] at hl
    have hik : i < m := by have := (List.getElem?_eq_some_iff.1 hi).1; omega
    have := ((h.muts.inner i (List.replicate 6 0) x (by simp [hik]) hi).lt q hq).1
    rw [List.mem_singleton.1 hm] at this
    omega)
  exact ⟨⟨own_base m5.row (by omega), m5.len, fun i r v hr hv => own_base (m5.inner i r v hr hv) (by omega)⟩, Chg.below h.below hF h.below.size (fun q hq => by rw [List.mem_singleton.1 hq]; omega)⟩
theorem gnil (w : World) (base : Nat) : OwnM w base (.slice none 0 0) [] [] := ⟨World.ownsRow_nil _ _ _ _, rfl, fun i r u hr => by simp at hr⟩

set_option maxRecDepth 100000 in
set_option maxHeartbeats 8000000 in
theorem sgnew_yes (m : Nat) (h1 : 1 ≤ m) (h3 : m ≤ 3) (w : World) :
    Calls Try.prog 11 #[.int .i64 m] w fun e w' => ∃ v mv, e = .returned (.tuple #[.agg #[.slice none 0 0, v], .bool true]) ∧ OwnM w' w.heap.size v (List.replicate m (List.replicate 6 0)) mv ∧ (mv.filterMap Value.ownBlock).Nodup ∧ Below w.heap.size w w' := by
  go_enter Try.func11, Try.ntmps11
  have b0 := below_box w (.cells #[.slice none 0 0, .slice none 0 0] 31)
  have x0 := box_new w (.cells #[.slice none 0 0, .slice none 0 0] 31)
  have b1 := below_box (w.alloc (.cells #[.slice none 0 0, .slice none 0 0] 31)) (.cells #[.slice none 0 0, .slice none 0 0] 31)
  have x1 := box_new (w.alloc (.cells #[.slice none 0 0, .slice none 0 0] 31)) (.cells #[.slice none 0 0, .slice none 0 0] 31)
  rw [World.size_alloc] at x1
  have st0 := Lib.hid (show GnS w ((w.alloc (.cells #[.slice none 0 0, .slice none 0 0] 31)).alloc (.cells #[.slice none 0 0, .slice none 0 0] 31)) (.slice none 0 0) [] 0 from
    ⟨below_trans b0 b1, by simp, heap_below b1 x0, x1, gnil _ _, by simp⟩)
  clear b0 x0 b1 x1
  go_wp2_with fail
  go_loopw [5] (fun i wr => ∃ (k : Nat) (v5 : Value) (mv : List Value), k ≤ m ∧ i = .int .i64 k ∧ Hid (GnS w wr v5 mv k)) (fun i _ => m - (intOf i).toNat)
  case atStart => exact ⟨0, .slice none 0 0, [], Nat.zero_le _, rfl, st0⟩
  case round =>
    obtain ⟨k, v5, mv, hk, rfl, st⟩ := hrel
    have hsz := Lib.hid st.out.size
    have szb : w.heap.size + 1 + 1 ≤ wr.heap.size := hsz.out
    by_cases hlt : k < m
    · have hlt1 : (k : Int) < (m : Int) := by omega
      have z5 : wr.cell? ⟨w.heap.size + 1, 1, none⟩ = some v5 := cell_of_heap st.out.boxB 1 _ rfl
      have hY := Lib.hid (show Below wr.heap.size wr ((wr.alloc (.cells (madeCells #[.int .i64 0] 6) 3)).alloc (.cells #[.slice (some ⟨wr.heap.size, 0, none⟩) 6 6] 47)).drew from below_drewN (below_trans (below_box wr _) (below_box _ _)) 1)
      have hr := Lib.hid (show ((wr.alloc (.cells (madeCells #[.int .i64 0] 6) 3)).alloc (.cells #[.slice (some ⟨wr.heap.size, 0, none⟩) 6 6] 47)).drew.heap[wr.heap.size]? = some (.cells (madeCells #[.int .i64 0] 6) 3 (0, 0)) from heap_below (below_box _ _) (box_new wr (.cells (madeCells #[.int .i64 0] 6) 3)))
      have z5a := cell_below (below_box wr (.cells (madeCells #[.int .i64 0] 6) 3)) z5
      have z5b := cell_below hY.out z5
      have row5 := Lib.hid (show ((wr.alloc (.cells (madeCells #[.int .i64 0] 6) 3)).alloc (.cells #[.slice (some ⟨wr.heap.size, 0, none⟩) 6 6] 47)).drew.ownsRow (w.heap.size + 1 + 1) 47 1 v5 k mv from by have := own_below st.out.muts.row hY.out; rwa [List.length_replicate] at this)
      have boxB := Lib.hid st.out.boxB
      have hv5 := Lib.hid (show ∀ q, v5.ownBlock = some q → w.heap.size + 1 + 1 ≤ q from fun q hq => (st.out.muts.row.lt q hq).1)
      obtain ⟨a0, c0, rfl⟩ := own_slice row5.out
      have mk6 : ∀ (w : World), (Instr.makeSlice 42 (.int .i64 6) (.int .i64 6)).run Try.prog w = .ok (.slice (some ⟨w.heap.size, 0, none⟩) 6 6) (w.alloc (.cells (madeCells #[.int .i64 0] 6) 3)) := run_make_row' (P := Try.prog) 42 3 (.int .i64 0) 8 Try.underlying42 infoInt rfl .i64 .i64 6 (by omega) (by omega)
      have r3 := Lib.hid (show SrcIs ((wr.alloc (.cells (madeCells #[.int .i64 0] 6) 3)).alloc (.cells #[.slice (some ⟨wr.heap.size, 0, none⟩) 6 6] 47)).drew (some ⟨wr.heap.size + 1, 0, none⟩) 1 1 [.slice (some ⟨wr.heap.size, 0, none⟩) 6 6] from by
        have := src_box (wr.alloc (.cells (madeCells #[.int .i64 0] 6) 3)) (cs := #[.slice (some ⟨wr.heap.size, 0, none⟩) 6 6]) (T := 47) (m := 1) (size := 1) rfl (fun u hu => by simp only [List.mem_singleton] at hu; subst hu; rfl)
        rw [World.size_alloc] at this
        exact this.below (below_drewN (Below.refl _ _) 1))
      have le3 := Lib.hid (Nat.le_trans szb hY.out.size)
      have hB2 : w.heap.size + 1 < w.heap.size + 1 + 1 := Nat.lt_succ_self _
      go_wp2_with fail
      go_region_law (first
        | (refine step_own rfl (wp_app (.tmp 19) (.tmp 22) 29 rfl (w.heap.size + 1 + 1) 47 (.agg #[.slice none 0 0]) 1 24 Try.underlying29 infoMut (by rfl) (by decide) (.slice a0 k c0) k mv rfl row5.out (some ⟨wr.heap.size + 1, 0, none⟩) 1 1 [.slice (some ⟨wr.heap.size, 0, none⟩) 6 6] rfl r3.out (by unfold maxLen; omega) (by omega) le3.out ?_); intro u2 x2 p2 h2; obtain ⟨a5, c5, rfl⟩ := own_slice p2; have boxB2 := St1.at4 hY.out h2 hv5.out hB2 boxB.out; have z5d := cell_of_heap boxB2 1 _ rfl; have f5d := frozen_of_heap boxB2 1; have nst := Lib.hid (GnS.next st.out hY.out hr.out h2 p2); clear p2 h2 boxB2))
      all_goals go_wp2_with fail
      all_goals exact ⟨⟨k + 1, _, _, by omega, by go_num, nst⟩, by simp [intOf]; omega⟩
    · obtain rfl : k = m := by omega
      obtain ⟨a0, c0, rfl⟩ := own_slice st.out.muts.row
      simp only [List.length_replicate] at st
      have boxB := st.out.boxB
      have boxR := st.out.boxR
      have m0 := cell_of_heap boxB 0 _ rfl
      have n0 := cell_of_heap boxR 0 _ rfl
      have z0 := frozen_of_heap boxR 0
      have m1 := cell_of_heap boxB 1 _ rfl
      have n1 := cell_of_heap boxR 1 _ rfl
      have z1 := frozen_of_heap boxR 1
      clear boxB boxR
      go_wp2_with fail
      refine bodyPost_ret (v := .tuple #[.agg #[.slice none 0 0, .slice a0 k c0], .bool true]) (by simp [results, Try.results11, go_sem, n0, n1]) rfl ?_
      obtain ⟨hM, hb⟩ := GnS.own st.out (((Chg.refl [w.heap.size] wr).put (b := w.heap.size) (by simp) 0 _).put (b := w.heap.size) (by simp) 1 _)
      exact ⟨_, mv, rfl, hM, st.out.nodup, hb⟩

set_option maxRecDepth 100000 in
set_option maxHeartbeats 4000000 in
theorem sgnew_no (m : Int) (h : ¬ (1 ≤ m ∧ m ≤ 3)) (w : World) :
    Calls Try.prog 11 #[.int .i64 m] w fun e w' => e = .returned (.tuple #[.agg #[.slice none 0 0, .slice none 0 0], .bool false]) ∧ Below w.heap.size w w' := by
  have b2 := Lib.hid (below_trans (below_box w (.cells #[.slice none 0 0, .slice none 0 0] 31)) (below_box (w.alloc (.cells #[.slice none 0 0, .slice none 0 0] 31)) (.cells #[.slice none 0 0, .slice none 0 0] 31)))
  have x0 := heap_below (below_box (w.alloc (.cells #[.slice none 0 0, .slice none 0 0] 31)) (.cells #[.slice none 0 0, .slice none 0 0] 31)) (box_new w (.cells #[.slice none 0 0, .slice none 0 0] 31))
  have n0 := cell_of_heap x0 0 _ rfl
  have z0 := frozen_of_heap x0 0
  have n1 := cell_of_heap x0 1 _ rfl
  have z1 := frozen_of_heap x0 1
  clear x0
  go_enter Try.func11, Try.ntmps11
  by_cases h1 : m < 1
  · go_wp2_with fail
    refine bodyPost_ret (v := .tuple #[.agg #[.slice none 0 0, .slice none 0 0], .bool false]) (by simp [results, Try.results11, go_sem, n0, n1]) rfl ?_
    exact ⟨rfl, b2.out⟩
  · have h2 : m > 3 := by omega
    go_wp2_with fail
    refine bodyPost_ret (v := .tuple #[.agg #[.slice none 0 0, .slice none 0 0], .bool false]) (by simp [results, Try.results11, go_sem, n0, n1]) rfl ?_
    exact ⟨rfl, b2.out⟩

theorem sgnew_any (m : Int) (w : World) :
    Calls Try.prog 11 #[.int .i64 m] w fun e w' => ∃ L f v mv, GnIs m L f ∧ e = .returned (.tuple #[.agg #[.slice none 0 0, v], .bool f]) ∧ OwnM w' w.heap.size v L mv ∧ (mv.filterMap Value.ownBlock).Nodup ∧ Below w.heap.size w w' := by
  by_cases h : 1 ≤ m ∧ m ≤ 3
  · have := sgnew_yes m.toNat (by omega) (by omega) w
    rw [Int.toNat_of_nonneg (by omega)] at this
    refine this.mono ?_
    rintro e w' ⟨v, mv, he, h1, h2, h3⟩
    exact ⟨_, true, v, mv, .inl ⟨h, rfl, rfl⟩, he, h1, h2, h3⟩
  · refine (sgnew_no m h w).mono ?_
    rintro e w' ⟨he, hb⟩
    exact ⟨[], false, _, [], .inr ⟨h, rfl, rfl⟩, he, gnil _ _, by simp, hb⟩
end Go.Proofs.Ytaaflpklbhjepaa
