/-
  The model's l2new: a World of its own.
-/
import Derived.Test.YtnmgecplagekcaaAppG
import Derived.Deep.DeepCutAuto
import Derived.Deep.CutRange
import Derived.Deep.OwnRows
import Derived.Outline
namespace Go.Proofs.Ytnmgecplagekcaa
open Go.RowKit
set_option linter.unusedVariables false

/-- The fresh World. -/
def newD (b : Int) (p m : Nat) : WD := ⟨b, p, List.replicate (p * 32) 0, List.replicate (p * 4) false, [], List.replicate m (List.replicate 6 0), 0, 0, []⟩

theorem alloc4 (w : World) (a b c d : Obj) : ((((w.alloc a).alloc b).alloc c).alloc d).drew.heap[w.heap.size]? = some a ∧ ((((w.alloc a).alloc b).alloc c).alloc d).drew.heap[w.heap.size + 1]? = some b ∧ ((((w.alloc a).alloc b).alloc c).alloc d).drew.heap[w.heap.size + 1 + 1]? = some c ∧
    ((((w.alloc a).alloc b).alloc c).alloc d).drew.heap[w.heap.size + 1 + 1 + 1]? = some d ∧ Below w.heap.size w ((((w.alloc a).alloc b).alloc c).alloc d).drew ∧ ((((w.alloc a).alloc b).alloc c).alloc d).drew.heap.size = w.heap.size + 1 + 1 + 1 + 1 := by
  obtain ⟨h1, h2, h3, hb⟩ := box3 w a b c
  have hz : (((w.alloc a).alloc b).alloc c).heap.size = w.heap.size + 1 + 1 + 1 := by simp
  have hn := below_box (((w.alloc a).alloc b).alloc c) d
  have h4 := box_new (((w.alloc a).alloc b).alloc c) d
  rw [hz] at h4
  exact ⟨heap_below hn h1, heap_below hn h2, heap_below hn h3, h4, below_drewN (below_trans hb hn) 1, by simp [World.drew]⟩
/-- Behind the first statement: the result's box, the new World's box, its words, its flags. -/
structure NewI (w wr : World) (b : Int) (p B g1 g2 : Nat) : Prop where
  below : Below w.heap.size w wr
  size : wr.heap.size = w.heap.size + 1 + 1 + 1 + 1
  boxR : wr.heap[w.heap.size]? = some (.cells #[.int .i64 0, .int .i64 0, .slice none 0 0, .slice none 0 0, .slice none 0 0, .slice none 0 0, .int .i64 0, .int .i64 0, .slice none 0 0] 29 (0, 0))
  boxB : wr.heap[B]? = some (.cells #[.int .i64 b, .int .i64 p, .slice (some ⟨g1, 0, none⟩) (p * 32) (p * 32), .slice (some ⟨g2, 0, none⟩) (p * 4) (p * 4), .slice none 0 0, .slice none 0 0, .int .i64 0, .int .i64 0, .slice none 0 0] 29 (0, 0))
  r1 : wr.heap[g1]? = some (.cells (madeCells #[.int .i64 0] (p * 32)) 3 (0, 0))
  r2 : wr.heap[g2]? = some (.cells (madeCells #[.bool false] (p * 4)) 4 (0, 0))
  hB : w.heap.size < B ∧ B < w.heap.size + 1 + 1 + 1 + 1
  h1 : w.heap.size < g1 ∧ g1 < w.heap.size + 1 + 1 + 1 + 1
  h2 : w.heap.size < g2 ∧ g2 < w.heap.size + 1 + 1 + 1 + 1

/-- The loop's state. -/
structure NewS (w wr : World) (b : Int) (p B g1 g2 : Nat) (v5 : Value) (mv : List Value) (k : Nat) : Prop where
  below : Below w.heap.size w wr
  size : w.heap.size + 1 + 1 + 1 + 1 ≤ wr.heap.size
  boxR : wr.heap[w.heap.size]? = some (.cells #[.int .i64 0, .int .i64 0, .slice none 0 0, .slice none 0 0, .slice none 0 0, .slice none 0 0, .int .i64 0, .int .i64 0, .slice none 0 0] 29 (0, 0))
  boxB : wr.heap[B]? = some (.cells #[.int .i64 b, .int .i64 p, .slice (some ⟨g1, 0, none⟩) (p * 32) (p * 32), .slice (some ⟨g2, 0, none⟩) (p * 4) (p * 4), .slice none 0 0, v5, .int .i64 0, .int .i64 0, .slice none 0 0] 29 (0, 0))
  r1 : wr.heap[g1]? = some (.cells (madeCells #[.int .i64 0] (p * 32)) 3 (0, 0))
  r2 : wr.heap[g2]? = some (.cells (madeCells #[.bool false] (p * 4)) 4 (0, 0))
  hB : w.heap.size < B ∧ B < w.heap.size + 1 + 1 + 1 + 1
  h1 : w.heap.size < g1 ∧ g1 < w.heap.size + 1 + 1 + 1 + 1
  h2 : w.heap.size < g2 ∧ g2 < w.heap.size + 1 + 1 + 1 + 1
  muts : OwnM wr (w.heap.size + 1 + 1 + 1 + 1) v5 (List.replicate k (List.replicate 6 0)) mv
  nodup : (mv.filterMap Value.ownBlock).Nodup
theorem NewI.start {w wr : World} {b : Int} {p B g1 g2 : Nat} (h : NewI w wr b p B g1 g2) : NewS w wr b p B g1 g2 (.slice none 0 0) [] 0 :=
  ⟨h.below, by have := h.size; omega, h.boxR, h.boxB, h.r1, h.r2, h.hB, h.h1, h.h2, ⟨World.ownsRow_nil _ _ _ _, rfl, fun i r u hr => by simp at hr⟩, by simp⟩
theorem NewS.ne {w wr : World} {b : Int} {p B g1 g2 : Nat} {v5 : Value} {mv : List Value} {k : Nat} (h : NewS w wr b p B g1 g2 v5 mv k) : g1 ≠ B ∧ g2 ≠ B := by
  have hB := h.boxB
  refine ⟨fun e => ?_, fun e => ?_⟩
  · have := h.r1
    rw [e, hB] at this
    simp at this
  · have := h.r2
    rw [e, hB] at this
    simp at this
theorem NewS.next {w wr Y w1 : World} {b : Int} {p B g1 g2 : Nat} {v5 v5' : Value} {mv : List Value} {k : Nat} (h : NewS w wr b p B g1 g2 v5 mv k) (hY : Below wr.heap.size wr Y)
    (hr : Y.heap[wr.heap.size]? = some (.cells (madeCells #[.int .i64 0] 6) 3 (0, 0))) (g : Y.grownBy w1 v5.ownBlock) (o : w1.ownsRow (w.heap.size + 1 + 1 + 1 + 1) 60 1 v5' (k + 1) (mv ++ [.slice (some ⟨wr.heap.size, 0, none⟩) 6 6])) :
    NewS w (w1.setCell ⟨B, 5, none⟩ v5') b p B g1 g2 v5' (mv ++ [.slice (some ⟨wr.heap.size, 0, none⟩) 6 6]) (k + 1) := by
  have hsz := h.size
  have hB := h.hB
  have hn := h.ne
  have lt5 : ∀ q, v5.ownBlock = some q → w.heap.size + 1 + 1 + 1 + 1 ≤ q := fun q hq => (h.muts.row.lt q hq).1
  have at1 : ∀ {q : Nat} {o : Obj}, q < w.heap.size + 1 + 1 + 1 + 1 → wr.heap[q]? = some o → w1.heap[q]? = some o := fun {q o} hq ho =>
    grown_block g (by have := hY.size; omega) (fun r hr => by have := lt5 r hr; omega) (heap_below hY ho)
  have keep : ∀ {q : Nat} {o : Obj}, q < w.heap.size + 1 + 1 + 1 + 1 → q ≠ B → wr.heap[q]? = some o → (w1.setCell ⟨B, 5, none⟩ v5').heap[q]? = some o := fun {q o} hq hne ho => by
    rw [heap_setCell_other w1 ⟨B, 5, none⟩ q v5' (by simpa using hne)]
    exact at1 hq ho
  have cF : Chg [B] w1 (w1.setCell ⟨B, 5, none⟩ v5') := Chg.of_grown (grown_set w1 B 5 v5') (by simp)
  have c5 : Chg v5.ownBlock.toList Y w1 := Chg.of_grown g fun x hx => by rw [hx]; simp
  have m1 := h.muts.below hY
  have o1 : Y.ownsRow wr.heap.size 3 1 (.slice (some ⟨wr.heap.size, 0, none⟩) 6 6) 6 (List.replicate 6 (.int .i64 0)) := own_made hr (Nat.le_refl _) (by unfold maxLen; omega)
  have ty : ∀ {x : Value} {n : Nat} {xs : List Value} {t : TypeId} {sz b : Nat}, Y.ownsRow b t sz x n xs → t ≠ 60 → ∀ q, x.ownBlock = some q → q ∉ v5.ownBlock.toList := fun hx ht q hq hm => by
    refine own_types hx m1.row ht q hq ?_
    cases hv : v5.ownBlock with
    | none => rw [hv] at hm; simp at hm
    | some b => rw [hv] at hm; simp at hm; rw [hm]
  have fin : ∀ {x : Value} {n b : Nat} {xs : List Value} {t : TypeId} {sz : Nat}, Y.ownsRow b t sz x n xs → t ≠ 60 → w.heap.size + 1 + 1 + 1 + 1 ≤ b → (w1.setCell ⟨B, 5, none⟩ v5').ownsRow b t sz x n xs := fun hx ht hb =>
    own_chg (own_chg hx c5 (ty hx ht)) cF fun q hq hm => by have := (hx.lt q hq).1; rw [List.mem_singleton.1 hm] at this; omega
  have hl := h.muts.len
  rw [List.length_replicate] at hl
  have e : List.replicate (k + 1) (List.replicate 6 (0 : Int)) = List.replicate k (List.replicate 6 0) ++ [List.replicate 6 0] := List.replicate_succ'
  refine ⟨?_, by have := hY.size; have := c5.size; simp; omega, keep (by omega) (by omega) h.boxR, heap_setCell_same w1 B 5 _ _ v5' (at1 hB.2 h.boxB), keep h.h1.2 hn.1 h.r1, keep h.h2.2 hn.2 h.r2, hB, h.h1, h.h2, ⟨?_, by simp [hl], ?_⟩, ?_⟩
  · have e1 : Below w.heap.size w Y := h.below.trans (hY.mono (by omega))
    have e2 : Below w.heap.size w w1 := e1.grown g (by have := hY.size; omega) (fun q hq => by have := lt5 q hq; omega)
    exact Chg.below e2 cF (by have := e2.size; omega) (fun x hx => by rw [List.mem_singleton.1 hx]; omega)
  · rw [List.length_replicate]
    exact own_chg o cF fun q hq hm => by have := (o.lt q hq).1; rw [List.mem_singleton.1 hm] at this; omega
  · intro i r u hr' hu
    rw [e] at hr'
    by_cases hi : i < k
    · rw [List.getElem?_append_left (by simpa using hi)] at hr'
      rw [List.getElem?_append_left (by omega)] at hu
      exact fin (m1.inner i r u hr' hu) (by decide) (Nat.le_refl _)
    · have hi2 : i = k := by
        have := (List.getElem?_eq_some_iff.1 hr').1
        simp at this
        omega
      subst hi2
      rw [List.getElem?_append_right (by simp)] at hr'
      rw [List.getElem?_append_right (by omega)] at hu
      simp only [List.length_replicate, Nat.sub_self, List.getElem?_cons_zero, Option.some.injEq] at hr'
      simp only [hl, Nat.sub_self, List.getElem?_cons_zero, Option.some.injEq] at hu
      subst hr'
      subst hu
      exact own_base (fin o1 (by decide) hsz) hsz
  · rw [List.filterMap_append, List.nodup_append]
    refine ⟨h.nodup, by simp [Value.ownBlock], fun a ha c hc eac => ?_⟩
    obtain ⟨x, hx, hxa⟩ := List.mem_filterMap.1 ha
    obtain ⟨i, hi⟩ := List.mem_iff_getElem?.1 hx
    have hik : i < k := by have := (List.getElem?_eq_some_iff.1 hi).1; omega
    have := ((h.muts.inner i (List.replicate 6 0) x (by simp [hik]) hi).lt a hxa).2
    obtain ⟨y, hy, hyc⟩ := List.mem_filterMap.1 hc
    rw [List.mem_singleton] at hy
    subst hy
    simp [Value.ownBlock] at hyc
    omega

theorem NewS.own {w wr wF : World} {b : Int} {p B g1 g2 m : Nat} {v5 : Value} {mv : List Value} (h : NewS w wr b p B g1 g2 v5 mv m) (hp : p ≤ 1024) (hF : Chg [w.heap.size] wr wF) :
    OwnW wF w.heap.size ⟨.slice (some ⟨g1, 0, none⟩) (p * 32) (p * 32), .slice (some ⟨g2, 0, none⟩) (p * 4) (p * 4), .slice none 0 0, v5, .slice none 0 0, [], mv⟩ (newD b p m) ∧ Below w.heap.size w wF := by
  have h1 := h.h1
  have h2 := h.h2
  have o1 : wr.ownsRow w.heap.size 3 1 _ (p * 32) _ := own_made h.r1 (by omega) (by unfold maxLen; omega)
  have o2 : wr.ownsRow w.heap.size 4 1 _ (p * 4) _ := own_made h.r2 (by omega) (by unfold maxLen; omega)
  have f1 := own_chg o1 hF (fun q hq hm => by simp [Value.ownBlock] at hq; rw [List.mem_singleton.1 hm] at hq; omega)
  have f2 := own_chg o2 hF (fun q hq hm => by simp [Value.ownBlock] at hq; rw [List.mem_singleton.1 hm] at hq; omega)
  have m5 : OwnM wF (w.heap.size + 1 + 1 + 1 + 1) v5 (List.replicate m (List.replicate 6 0)) mv := h.muts.chg hF (fun q hq hm => by have := (h.muts.row.lt q hq).1; rw [List.mem_singleton.1 hm] at this; omega) (fun x hx q hq hm => by
    obtain ⟨i, hi⟩ := List.mem_iff_getElem?.1 hx
    have hl := h.muts.len
    rw [List.length_replicate] at hl
    have hik : i < m := by have := (List.getElem?_eq_some_iff.1 hi).1; omega
    have := ((h.muts.inner i (List.replicate 6 0) x (by simp [hik]) hi).lt q hq).1
    rw [List.mem_singleton.1 hm] at this
    omega)
  refine ⟨⟨by simpa [newD] using f1, by simpa [newD] using f2, World.ownsRow_nil _ _ _ _, rfl, fun i s q hs => by simp [newD] at hs, own_base m5.row (by omega), m5.len, fun i r v hr hv => own_base (m5.inner i r v hr hv) (by omega), World.ownsRow_nil _ _ _ _, ?_⟩, Chg.below h.below hF h.below.size (fun q hq => by rw [List.mem_singleton.1 hq]; omega)⟩
  show (((Value.slice (some ⟨g1, 0, none⟩) (p * 32) (p * 32)) :: [] ++ mv ++ [Value.slice none 0 0]).filterMap Value.ownBlock).Nodup
  rw [List.filterMap_append, List.filterMap_append]
  simp only [List.filterMap_cons, List.filterMap_nil, Value.ownBlock, List.append_nil, List.singleton_append, List.nodup_cons]
  refine ⟨fun hm => ?_, h.nodup⟩
  obtain ⟨x, hx, hq⟩ := List.mem_filterMap.1 hm
  obtain ⟨i, hi⟩ := List.mem_iff_getElem?.1 hx
  have hl := h.muts.len
  rw [List.length_replicate] at hl
  have hik : i < m := by have := (List.getElem?_eq_some_iff.1 hi).1; omega
  have := ((h.muts.inner i (List.replicate 6 0) x (by simp [hik]) hi).lt _ hq).1
  omega

set_option maxRecDepth 100000 in
set_option maxHeartbeats 8000000 in
theorem snew_any (b : Int) (p m : Nat) (hp : p ≤ 1024) (hm : m ≤ 1024) (w : World) :
    Calls Try.prog 17 #[.int .i64 b, .int .i64 p, .int .i64 m] w fun e w' => ∃ S, e = .returned (S.val (newD b p m)) ∧ OwnW w' w.heap.size S (newD b p m) ∧ Below w.heap.size w w' := by
  have e1 : ((p * 32 : Nat) : Int) = (p : Int) * 32 := by omega
  have e2 : ((p * 4 : Nat) : Int) = (p : Int) * 4 := by omega
  have m1 := run_make_row' (P := Try.prog) 22 3 (.int .i64 0) 8 Try.underlying22 infoInt rfl .i64 .i64 (p * 32) (by omega) (by omega)
  have m2 := run_make_row' (P := Try.prog) 23 4 (.bool false) 1 Try.underlying23 infoBool rfl .i64 .i64 (p * 4) (by omega) (by omega)
  simp only [e1] at m1
  simp only [e2] at m2
  clear e1 e2
  go_enter Try.func17, Try.ntmps17
  go_upto_region 1 with fail
  go_cut [7] from 9 to 17 (fun q wr => ∃ B g1 g2 : Nat, q = .pointer (some ⟨B, 0, none⟩) ∧ Hid (NewI w wr b p B g1 g2))
  case first =>
    go_region
    all_goals go_wp2_with fail
    all_goals go_meet
    all_goals first
      | exact ⟨w.heap.size + 1 + 1 + 1, w.heap.size + 1, w.heap.size + 1 + 1, rfl, ⟨(alloc4 w _ _ _ _).2.2.2.2.1, (alloc4 w _ _ _ _).2.2.2.2.2, (alloc4 w _ _ _ _).1, (by first | exact (alloc4 w _ _ _ _).2.1 | exact (alloc4 w _ _ _ _).2.2.1 | exact (alloc4 w _ _ _ _).2.2.2.1), (by first | exact (alloc4 w _ _ _ _).2.1 | exact (alloc4 w _ _ _ _).2.2.1 | exact (alloc4 w _ _ _ _).2.2.2.1), (by first | exact (alloc4 w _ _ _ _).2.1 | exact (alloc4 w _ _ _ _).2.2.1 | exact (alloc4 w _ _ _ _).2.2.2.1), by omega, by omega, by omega⟩⟩
      | exact ⟨w.heap.size + 1 + 1, w.heap.size + 1, w.heap.size + 1 + 1 + 1, rfl, ⟨(alloc4 w _ _ _ _).2.2.2.2.1, (alloc4 w _ _ _ _).2.2.2.2.2, (alloc4 w _ _ _ _).1, (by first | exact (alloc4 w _ _ _ _).2.1 | exact (alloc4 w _ _ _ _).2.2.1 | exact (alloc4 w _ _ _ _).2.2.2.1), (by first | exact (alloc4 w _ _ _ _).2.1 | exact (alloc4 w _ _ _ _).2.2.1 | exact (alloc4 w _ _ _ _).2.2.2.1), (by first | exact (alloc4 w _ _ _ _).2.1 | exact (alloc4 w _ _ _ _).2.2.1 | exact (alloc4 w _ _ _ _).2.2.2.1), by omega, by omega, by omega⟩⟩
      | exact ⟨w.heap.size + 1 + 1 + 1, w.heap.size + 1 + 1, w.heap.size + 1, rfl, ⟨(alloc4 w _ _ _ _).2.2.2.2.1, (alloc4 w _ _ _ _).2.2.2.2.2, (alloc4 w _ _ _ _).1, (by first | exact (alloc4 w _ _ _ _).2.1 | exact (alloc4 w _ _ _ _).2.2.1 | exact (alloc4 w _ _ _ _).2.2.2.1), (by first | exact (alloc4 w _ _ _ _).2.1 | exact (alloc4 w _ _ _ _).2.2.1 | exact (alloc4 w _ _ _ _).2.2.2.1), (by first | exact (alloc4 w _ _ _ _).2.1 | exact (alloc4 w _ _ _ _).2.2.1 | exact (alloc4 w _ _ _ _).2.2.2.1), by omega, by omega, by omega⟩⟩
      | exact ⟨w.heap.size + 1 + 1, w.heap.size + 1 + 1 + 1, w.heap.size + 1, rfl, ⟨(alloc4 w _ _ _ _).2.2.2.2.1, (alloc4 w _ _ _ _).2.2.2.2.2, (alloc4 w _ _ _ _).1, (by first | exact (alloc4 w _ _ _ _).2.1 | exact (alloc4 w _ _ _ _).2.2.1 | exact (alloc4 w _ _ _ _).2.2.2.1), (by first | exact (alloc4 w _ _ _ _).2.1 | exact (alloc4 w _ _ _ _).2.2.1 | exact (alloc4 w _ _ _ _).2.2.2.1), (by first | exact (alloc4 w _ _ _ _).2.1 | exact (alloc4 w _ _ _ _).2.2.1 | exact (alloc4 w _ _ _ _).2.2.2.1), by omega, by omega, by omega⟩⟩
      | exact ⟨w.heap.size + 1, w.heap.size + 1 + 1, w.heap.size + 1 + 1 + 1, rfl, ⟨(alloc4 w _ _ _ _).2.2.2.2.1, (alloc4 w _ _ _ _).2.2.2.2.2, (alloc4 w _ _ _ _).1, (by first | exact (alloc4 w _ _ _ _).2.1 | exact (alloc4 w _ _ _ _).2.2.1 | exact (alloc4 w _ _ _ _).2.2.2.1), (by first | exact (alloc4 w _ _ _ _).2.1 | exact (alloc4 w _ _ _ _).2.2.1 | exact (alloc4 w _ _ _ _).2.2.2.1), (by first | exact (alloc4 w _ _ _ _).2.1 | exact (alloc4 w _ _ _ _).2.2.1 | exact (alloc4 w _ _ _ _).2.2.2.1), by omega, by omega, by omega⟩⟩
      | exact ⟨w.heap.size + 1, w.heap.size + 1 + 1 + 1, w.heap.size + 1 + 1, rfl, ⟨(alloc4 w _ _ _ _).2.2.2.2.1, (alloc4 w _ _ _ _).2.2.2.2.2, (alloc4 w _ _ _ _).1, (by first | exact (alloc4 w _ _ _ _).2.1 | exact (alloc4 w _ _ _ _).2.2.1 | exact (alloc4 w _ _ _ _).2.2.2.1), (by first | exact (alloc4 w _ _ _ _).2.1 | exact (alloc4 w _ _ _ _).2.2.1 | exact (alloc4 w _ _ _ _).2.2.2.1), (by first | exact (alloc4 w _ _ _ _).2.1 | exact (alloc4 w _ _ _ _).2.2.1 | exact (alloc4 w _ _ _ _).2.2.2.1), by omega, by omega, by omega⟩⟩
  case rest =>
    obtain ⟨B, g1, g2, rfl, hI⟩ := hcut
    go_wp2_with fail
    go_loopw [8] (fun i wr => ∃ (k : Nat) (v5 : Value) (mv : List Value), k ≤ m ∧ i = .int .i64 k ∧ Hid (NewS w wr b p B g1 g2 v5 mv k)) (fun i _ => m - (intOf i).toNat)
    case atStart => exact ⟨0, .slice none 0 0, [], Nat.zero_le _, rfl, Lib.hid hI.out.start⟩
    case round =>
      obtain ⟨k, v5, mv, hk, rfl, st⟩ := hrel
      have hB := st.out.hB
      have hsz := Lib.hid st.out.size
      have szb : w.heap.size + 1 + 1 + 1 + 1 ≤ wr.heap.size := hsz.out
      by_cases hlt : k < m
      · have hlt1 : (k : Int) < (m : Int) := by omega
        have z5 : wr.cell? ⟨B, 5, none⟩ = some v5 := cell_of_heap st.out.boxB 5 _ rfl
        have hY := Lib.hid (show Below wr.heap.size wr ((wr.alloc (.cells (madeCells #[.int .i64 0] 6) 3)).alloc (.cells #[.slice (some ⟨wr.heap.size, 0, none⟩) 6 6] 60)).drew from below_drewN (below_trans (below_box wr _) (below_box _ _)) 1)
        have hr := Lib.hid (show ((wr.alloc (.cells (madeCells #[.int .i64 0] 6) 3)).alloc (.cells #[.slice (some ⟨wr.heap.size, 0, none⟩) 6 6] 60)).drew.heap[wr.heap.size]? = some (.cells (madeCells #[.int .i64 0] 6) 3 (0, 0)) from heap_below (below_box _ _) (box_new wr (.cells (madeCells #[.int .i64 0] 6) 3)))
        have z5a := cell_below (below_box wr (.cells (madeCells #[.int .i64 0] 6) 3)) z5
        have z5b := cell_below hY.out z5
        have row5 := Lib.hid (show ((wr.alloc (.cells (madeCells #[.int .i64 0] 6) 3)).alloc (.cells #[.slice (some ⟨wr.heap.size, 0, none⟩) 6 6] 60)).drew.ownsRow (w.heap.size + 1 + 1 + 1 + 1) 60 1 v5 k mv from by have := own_below st.out.muts.row hY.out; rwa [List.length_replicate] at this)
        have boxB := Lib.hid st.out.boxB
        have hv5 := Lib.hid (show ∀ q, v5.ownBlock = some q → w.heap.size + 1 + 1 + 1 + 1 ≤ q from fun q hq => (st.out.muts.row.lt q hq).1)
        obtain ⟨a0, c0, rfl⟩ := own_slice row5.out
        have mk6 : ∀ (w : World), (Instr.makeSlice 22 (.int .i64 6) (.int .i64 6)).run Try.prog w = .ok (.slice (some ⟨w.heap.size, 0, none⟩) 6 6) (w.alloc (.cells (madeCells #[.int .i64 0] 6) 3)) := run_make_row' (P := Try.prog) 22 3 (.int .i64 0) 8 Try.underlying22 infoInt rfl .i64 .i64 6 (by omega) (by omega)
        have r3 := Lib.hid (show SrcIs ((wr.alloc (.cells (madeCells #[.int .i64 0] 6) 3)).alloc (.cells #[.slice (some ⟨wr.heap.size, 0, none⟩) 6 6] 60)).drew (some ⟨wr.heap.size + 1, 0, none⟩) 1 1 [.slice (some ⟨wr.heap.size, 0, none⟩) 6 6] from by
          have := src_box (wr.alloc (.cells (madeCells #[.int .i64 0] 6) 3)) (cs := #[.slice (some ⟨wr.heap.size, 0, none⟩) 6 6]) (T := 60) (m := 1) (size := 1) rfl (fun u hu => by simp only [List.mem_singleton] at hu; subst hu; rfl)
          rw [World.size_alloc] at this
          exact this.below (below_drewN (Below.refl _ _) 1))
        have le3 := Lib.hid (Nat.le_trans szb hY.out.size)
        go_wp2_with fail
        go_region_law (first
          | (refine step_own rfl (wp_app (.tmp 24) (.tmp 27) 25 rfl (w.heap.size + 1 + 1 + 1 + 1) 60 (.agg #[.slice none 0 0]) 1 24 Try.underlying25 infoMut (by rfl) (by decide) (.slice a0 k c0) k mv rfl row5.out (some ⟨wr.heap.size + 1, 0, none⟩) 1 1 [.slice (some ⟨wr.heap.size, 0, none⟩) 6 6] rfl r3.out (by unfold maxLen; omega) (by omega) le3.out ?_); intro u2 x2 p2 h2; obtain ⟨a5, c5, rfl⟩ := own_slice p2; have boxB2 := St1.at4 hY.out h2 hv5.out hB.2 boxB.out; have z5d := cell_of_heap boxB2 5 _ rfl; have f5d := frozen_of_heap boxB2 5; have nst := Lib.hid (NewS.next st.out hY.out hr.out h2 p2); clear p2 h2 boxB2))
        all_goals go_wp2_with fail
        all_goals exact ⟨⟨k + 1, _, _, by omega, by go_num, nst⟩, by simp [intOf]; omega⟩
      · obtain rfl : k = m := by omega
        obtain ⟨a0, c0, rfl⟩ := own_slice st.out.muts.row
        simp only [List.length_replicate] at st
        have hneB : ¬ (w.heap.size = B) := by omega
        have boxB := st.out.boxB
        have boxR := st.out.boxR
        have m0 := cell_of_heap boxB 0 _ rfl
        have n0 := cell_of_heap boxR 0 _ rfl
        have z0 := frozen_of_heap boxR 0
        have m1 := cell_of_heap boxB 1 _ rfl
        have n1 := cell_of_heap boxR 1 _ rfl
        have z1 := frozen_of_heap boxR 1
        have m2 := cell_of_heap boxB 2 _ rfl
        have n2 := cell_of_heap boxR 2 _ rfl
        have z2 := frozen_of_heap boxR 2
        have m3 := cell_of_heap boxB 3 _ rfl
        have n3 := cell_of_heap boxR 3 _ rfl
        have z3 := frozen_of_heap boxR 3
        have m4 := cell_of_heap boxB 4 _ rfl
        have n4 := cell_of_heap boxR 4 _ rfl
        have z4 := frozen_of_heap boxR 4
        have m5 := cell_of_heap boxB 5 _ rfl
        have n5 := cell_of_heap boxR 5 _ rfl
        have z5 := frozen_of_heap boxR 5
        have m6 := cell_of_heap boxB 6 _ rfl
        have n6 := cell_of_heap boxR 6 _ rfl
        have z6 := frozen_of_heap boxR 6
        have m7 := cell_of_heap boxB 7 _ rfl
        have n7 := cell_of_heap boxR 7 _ rfl
        have z7 := frozen_of_heap boxR 7
        have m8 := cell_of_heap boxB 8 _ rfl
        have n8 := cell_of_heap boxR 8 _ rfl
        have z8 := frozen_of_heap boxR 8
        clear boxB boxR
        go_wp2_with fail
        refine bodyPost_ret (v := .agg #[.int .i64 b, .int .i64 p, .slice (some ⟨g1, 0, none⟩) (p * 32) (p * 32), .slice (some ⟨g2, 0, none⟩) (p * 4) (p * 4), .slice none 0 0, .slice a0 k c0, .int .i64 0, .int .i64 0, .slice none 0 0]) (by simp [results, Try.results17, go_sem, n0, n1, n2, n3, n4, n5, n6, n7, n8]) rfl ?_
        exact ⟨_, rfl, NewS.own st.out hp ((((((((((Chg.refl [w.heap.size] wr).put (b := w.heap.size) (by simp) 0 _).put (b := w.heap.size) (by simp) 1 _).put (b := w.heap.size) (by simp) 2 _).put (b := w.heap.size) (by simp) 3 _).put (b := w.heap.size) (by simp) 4 _).put (b := w.heap.size) (by simp) 5 _).put (b := w.heap.size) (by simp) 6 _).put (b := w.heap.size) (by simp) 7 _).put (b := w.heap.size) (by simp) 8 _)⟩
end Go.Proofs.Ytnmgecplagekcaa
