/-
  The program's WorldNew: what holds behind the statement that makes the World, and in its loop.
-/
import Derived.Test.YtnmgecplagekcaaSNew2
import Derived.Test.YtnmgecplagekcaaImplD
import Derived.Deep.DeepCutAuto
import Derived.Deep.CutRange
import Derived.Deep.OwnRows
import Derived.Outline
namespace Go.Proofs.Ytnmgecplagekcaa
open Go.RowKit
set_option linter.unusedVariables false

theorem geo_iff {b p m : Int} : Geo b p m ↔ (baseB b = true ∧ inB p 1 12 = true ∧ inB m 1 3 = true) := by
  simp only [Geo, baseB, Bool.and_eq_true, inB_iff, beq_iff_eq]
  constructor
  · rintro ⟨h1, h2, h3, h4, h5, h6, h7⟩; exact ⟨⟨⟨h1, h2⟩, h3⟩, ⟨h4, h5⟩, h6, h7⟩
  · rintro ⟨⟨⟨h1, h2⟩, h3⟩, ⟨h4, h5⟩, h6, h7⟩; exact ⟨h1, h2, h3, h4, h5, h6, h7⟩
theorem alloc5 (w : World) (r a b c d : Obj) : (((((w.alloc r).alloc a).alloc b).alloc c).alloc d).drew.heap[w.heap.size]? = some r ∧ (((((w.alloc r).alloc a).alloc b).alloc c).alloc d).drew.heap[w.heap.size + 1]? = some a ∧
    (((((w.alloc r).alloc a).alloc b).alloc c).alloc d).drew.heap[w.heap.size + 1 + 1]? = some b ∧ (((((w.alloc r).alloc a).alloc b).alloc c).alloc d).drew.heap[w.heap.size + 1 + 1 + 1]? = some c ∧
    (((((w.alloc r).alloc a).alloc b).alloc c).alloc d).drew.heap[w.heap.size + 1 + 1 + 1 + 1]? = some d ∧ Below w.heap.size w (((((w.alloc r).alloc a).alloc b).alloc c).alloc d).drew ∧ (((((w.alloc r).alloc a).alloc b).alloc c).alloc d).drew.heap.size = w.heap.size + 1 + 1 + 1 + 1 + 1 := by
  obtain ⟨h1, h2, h3, h4, hb, hz⟩ := alloc4 w r a b c
  have hz' : ((((w.alloc r).alloc a).alloc b).alloc c).heap.size = w.heap.size + 1 + 1 + 1 + 1 := hz
  have hn := below_box ((((w.alloc r).alloc a).alloc b).alloc c) d
  have h5 := box_new ((((w.alloc r).alloc a).alloc b).alloc c) d
  rw [hz'] at h5
  exact ⟨heap_below hn h1, heap_below hn h2, heap_below hn h3, heap_below hn h4, h5, below_drewN (below_trans (below_trans (below_trans (below_trans (below_box w r) (below_box _ a)) (below_box _ b)) (below_box _ c)) hn) 1, by simp [World.drew]⟩
/-- Behind that statement. -/
structure NewJ (w wr : World) (b : Int) (p m B g1 g2 g3 : Nat) : Prop where
  below : Below w.heap.size w wr
  size : wr.heap.size = w.heap.size + 1 + 1 + 1 + 1 + 1
  boxR : wr.heap[w.heap.size]? = some (.cells #[.int .i64 0, .int .i64 0, .slice none 0 0, .slice none 0 0, .slice none 0 0, .slice none 0 0, .int .i64 0, .int .i64 0, .slice none 0 0] 29 (0, 0))
  boxB : wr.heap[B]? = some (.cells #[.int .i64 b, .int .i64 p, .slice (some ⟨g1, 0, none⟩) (p * 32) (p * 32), .slice (some ⟨g2, 0, none⟩) (p * 4) (p * 4), .slice none 0 0, .slice (some ⟨g3, 0, none⟩) m m, .int .i64 0, .int .i64 0, .slice none 0 0] 29 (0, 0))
  r1 : wr.heap[g1]? = some (.cells (madeCells #[.int .i64 0] (p * 32)) 3 (0, 0))
  r2 : wr.heap[g2]? = some (.cells (madeCells #[.bool false] (p * 4)) 4 (0, 0))
  r3 : wr.heap[g3]? = some (.cells (madeCells #[.slice none 0 0] m) 60 (0, 0))
  hB : w.heap.size < B ∧ B < w.heap.size + 1 + 1 + 1 + 1 + 1
  h1 : w.heap.size < g1 ∧ g1 < w.heap.size + 1 + 1 + 1 + 1 + 1
  h2 : w.heap.size < g2 ∧ g2 < w.heap.size + 1 + 1 + 1 + 1 + 1
  h3 : w.heap.size < g3 ∧ g3 < w.heap.size + 1 + 1 + 1 + 1 + 1
theorem newJ_intro {w wr : World} {b : Int} {p m B g1 g2 g3 : Nat} {q : Value} (hq : q = .pointer (some ⟨B, 0, none⟩))
    (boxB : wr.heap[B]? = some (.cells #[.int .i64 b, .int .i64 p, .slice (some ⟨g1, 0, none⟩) (p * 32) (p * 32), .slice (some ⟨g2, 0, none⟩) (p * 4) (p * 4), .slice none 0 0, .slice (some ⟨g3, 0, none⟩) m m, .int .i64 0, .int .i64 0, .slice none 0 0] 29 (0, 0)))
    (below : Below w.heap.size w wr) (size : wr.heap.size = w.heap.size + 1 + 1 + 1 + 1 + 1)
    (boxR : wr.heap[w.heap.size]? = some (.cells #[.int .i64 0, .int .i64 0, .slice none 0 0, .slice none 0 0, .slice none 0 0, .slice none 0 0, .int .i64 0, .int .i64 0, .slice none 0 0] 29 (0, 0)))
    (r1 : wr.heap[g1]? = some (.cells (madeCells #[.int .i64 0] (p * 32)) 3 (0, 0)))
    (r2 : wr.heap[g2]? = some (.cells (madeCells #[.bool false] (p * 4)) 4 (0, 0)))
    (r3 : wr.heap[g3]? = some (.cells (madeCells #[.slice none 0 0] m) 60 (0, 0)))
    (hB : w.heap.size < B ∧ B < w.heap.size + 1 + 1 + 1 + 1 + 1) (h1 : w.heap.size < g1 ∧ g1 < w.heap.size + 1 + 1 + 1 + 1 + 1) (h2 : w.heap.size < g2 ∧ g2 < w.heap.size + 1 + 1 + 1 + 1 + 1) (h3 : w.heap.size < g3 ∧ g3 < w.heap.size + 1 + 1 + 1 + 1 + 1) :
    ∃ B g1 g2 g3 : Nat, q = .pointer (some ⟨B, 0, none⟩) ∧ Hid (NewJ w wr b p m B g1 g2 g3) :=
  ⟨B, g1, g2, g3, hq, Lib.hid ⟨below, size, boxR, boxB, r1, r2, r3, hB, h1, h2, h3⟩⟩

structure NewT (w wr : World) (b : Int) (p m B g1 g2 g3 : Nat) (mv : List Value) (k : Nat) : Prop where
  below : Below w.heap.size w wr
  size : w.heap.size + 1 + 1 + 1 + 1 + 1 ≤ wr.heap.size
  boxR : wr.heap[w.heap.size]? = some (.cells #[.int .i64 0, .int .i64 0, .slice none 0 0, .slice none 0 0, .slice none 0 0, .slice none 0 0, .int .i64 0, .int .i64 0, .slice none 0 0] 29 (0, 0))
  boxB : wr.heap[B]? = some (.cells #[.int .i64 b, .int .i64 p, .slice (some ⟨g1, 0, none⟩) (p * 32) (p * 32), .slice (some ⟨g2, 0, none⟩) (p * 4) (p * 4), .slice none 0 0, .slice (some ⟨g3, 0, none⟩) m m, .int .i64 0, .int .i64 0, .slice none 0 0] 29 (0, 0))
  r1 : wr.heap[g1]? = some (.cells (madeCells #[.int .i64 0] (p * 32)) 3 (0, 0))
  r2 : wr.heap[g2]? = some (.cells (madeCells #[.bool false] (p * 4)) 4 (0, 0))
  hB : w.heap.size < B ∧ B < w.heap.size + 1 + 1 + 1 + 1 + 1
  h1 : w.heap.size < g1 ∧ g1 < w.heap.size + 1 + 1 + 1 + 1 + 1
  h2 : w.heap.size < g2 ∧ g2 < w.heap.size + 1 + 1 + 1 + 1 + 1
  h3 : w.heap.size < g3 ∧ g3 < w.heap.size + 1 + 1 + 1 + 1 + 1
  row : wr.ownsRow w.heap.size 60 1 (.slice (some ⟨g3, 0, none⟩) m m) m (mv ++ List.replicate (m - k) (.slice none 0 0))
  len : mv.length = k
  inner : ∀ (i : Nat) (u : Value), mv[i]? = some u → wr.ownsRow (w.heap.size + 1 + 1 + 1 + 1 + 1) 3 1 u 6 (List.replicate 6 (.int .i64 0))
  nodup : (mv.filterMap Value.ownBlock).Nodup
theorem NewJ.start {w wr : World} {b : Int} {p m B g1 g2 g3 : Nat} (h : NewJ w wr b p m B g1 g2 g3) (hm : m ≤ 1024) : NewT w wr b p m B g1 g2 g3 [] 0 :=
  ⟨h.below, by have := h.size; omega, h.boxR, h.boxB, h.r1, h.r2, h.hB, h.h1, h.h2, h.h3, by have := h.h3; simpa using own_made h.r3 (show w.heap.size ≤ g3 by omega) (show m ≤ maxLen by unfold maxLen; omega), rfl, fun i u hu => by simp at hu, by simp⟩
theorem NewT.ne {w wr : World} {b : Int} {p m B g1 g2 g3 : Nat} {mv : List Value} {k : Nat} (h : NewT w wr b p m B g1 g2 g3 mv k) : g1 ≠ g3 ∧ g2 ≠ g3 ∧ B ≠ g3 := by
  obtain ⟨hh, _⟩ | ⟨g, cap, cur, hg, _, h3, _⟩ := h.row.2
  · simp at hh
  obtain ⟨rfl, rfl⟩ : g3 = g ∧ m = cap := by simpa using hg
  refine ⟨fun e => ?_, fun e => ?_, fun e => ?_⟩
  · have := h.r1; rw [e, h3] at this; simp at this
  · have := h.r2; rw [e, h3] at this; simp at this
  · have := h.boxB; rw [e, h3] at this; simp at this
theorem NewT.next {w wr Y : World} {b : Int} {p m B g1 g2 g3 : Nat} {mv : List Value} {k : Nat} (h : NewT w wr b p m B g1 g2 g3 mv k) (hk : k < m) (hY : Below wr.heap.size wr Y) (hz : Y.heap.size = wr.heap.size + 1)
    (hr : Y.heap[wr.heap.size]? = some (.cells (madeCells #[.int .i64 0] 6) 3 (0, 0))) :
    NewT w (Y.setCell ⟨g3, k, none⟩ (.slice (some ⟨wr.heap.size, 0, none⟩) 6 6)) b p m B g1 g2 g3 (mv ++ [.slice (some ⟨wr.heap.size, 0, none⟩) 6 6]) (k + 1) := by
  have hsz := h.size
  have hn := h.ne
  have h3 := h.h3
  have hl := h.len
  have keep : ∀ {q : Nat} {o : Obj}, q ≠ g3 → wr.heap[q]? = some o → (Y.setCell ⟨g3, k, none⟩ (.slice (some ⟨wr.heap.size, 0, none⟩) 6 6)).heap[q]? = some o := fun {q o} hne ho => by
    rw [heap_setCell_other Y ⟨g3, k, none⟩ q _ (by simpa using hne)]
    exact heap_below hY ho
  have cF : Chg [g3] Y (Y.setCell ⟨g3, k, none⟩ (.slice (some ⟨wr.heap.size, 0, none⟩) 6 6)) := Chg.of_grown (grown_set Y g3 k _) (by simp)
  have fin : ∀ {x : Value} {n c : Nat} {xs : List Value} {t : TypeId} {sz : Nat}, Y.ownsRow c t sz x n xs → w.heap.size + 1 + 1 + 1 + 1 + 1 ≤ c → (Y.setCell ⟨g3, k, none⟩ (.slice (some ⟨wr.heap.size, 0, none⟩) 6 6)).ownsRow c t sz x n xs := fun hx hc =>
    own_chg hx cF fun q hq hm => by have := (hx.lt q hq).1; rw [List.mem_singleton.1 hm] at this; omega
  have o1 : Y.ownsRow wr.heap.size 3 1 (.slice (some ⟨wr.heap.size, 0, none⟩) 6 6) 6 (List.replicate 6 (.int .i64 0)) := own_made hr (Nat.le_refl _) (by unfold maxLen; omega)
  have hrow := ((own_below h.row hY).stored k (.slice (some ⟨wr.heap.size, 0, none⟩) 6 6)).1
  have hY' := hY.size
  refine ⟨Chg.below (h.below.trans (hY.mono (by omega))) cF (by omega) (fun x hx => by rw [List.mem_singleton.1 hx]; omega), by simp; omega, keep (by omega) h.boxR, keep hn.2.2 h.boxB, keep hn.1 h.r1, keep hn.2.1 h.r2, h.hB, h.h1, h.h2, h.h3, ?_, by simp [hl], ?_, ?_⟩
  · have e : (mv ++ List.replicate (m - k) (Value.slice none 0 0)).set k (.slice (some ⟨wr.heap.size, 0, none⟩) 6 6) = (mv ++ [.slice (some ⟨wr.heap.size, 0, none⟩) 6 6]) ++ List.replicate (m - (k + 1)) (.slice none 0 0) := by
      rw [List.set_append_right _ _ (by omega), hl, Nat.sub_self, show m - k = (m - (k + 1)) + 1 by omega, List.replicate_succ, List.set_cons_zero, List.append_assoc]
      rfl
    rwa [e] at hrow
  · intro i u hu
    by_cases hi : i < k
    · rw [List.getElem?_append_left (by omega)] at hu
      exact fin (own_below (h.inner i u hu) hY) (Nat.le_refl _)
    · have hi2 : i = k := by
        have := (List.getElem?_eq_some_iff.1 hu).1
        simp at this
        omega
      subst hi2
      rw [List.getElem?_append_right (by omega)] at hu
      simp only [hl, Nat.sub_self, List.getElem?_cons_zero, Option.some.injEq] at hu
      subst hu
      exact own_base (fin o1 hsz) hsz
  · rw [List.filterMap_append, List.nodup_append]
    refine ⟨h.nodup, by simp [Value.ownBlock], fun a ha c hc eac => ?_⟩
    obtain ⟨x, hx, hxa⟩ := List.mem_filterMap.1 ha
    obtain ⟨i, hi⟩ := List.mem_iff_getElem?.1 hx
    have := ((h.inner i x hi).lt a hxa).2
    obtain ⟨y, hy, hyc⟩ := List.mem_filterMap.1 hc
    rw [List.mem_singleton] at hy
    subst hy
    simp [Value.ownBlock] at hyc
    omega
theorem NewT.own {w wr wF : World} {b : Int} {p B g1 g2 g3 m : Nat} {mv : List Value} (h : NewT w wr b p m B g1 g2 g3 mv m) (hp : p ≤ 1024) (hF : Chg [w.heap.size] wr wF) :
    OwnW wF w.heap.size ⟨.slice (some ⟨g1, 0, none⟩) (p * 32) (p * 32), .slice (some ⟨g2, 0, none⟩) (p * 4) (p * 4), .slice none 0 0, .slice (some ⟨g3, 0, none⟩) m m, .slice none 0 0, [], mv⟩ (newD b p m) ∧ Below w.heap.size w wF := by
  have h1 := h.h1
  have h2 := h.h2
  have h3 := h.h3
  have o1 : wr.ownsRow w.heap.size 3 1 _ (p * 32) _ := own_made h.r1 (by omega) (by unfold maxLen; omega)
  have o2 : wr.ownsRow w.heap.size 4 1 _ (p * 4) _ := own_made h.r2 (by omega) (by unfold maxLen; omega)
  have o3 := h.row
  rw [Nat.sub_self, List.replicate_zero, List.append_nil] at o3
  have f1 := own_chg o1 hF (fun q hq hm => by simp [Value.ownBlock] at hq; rw [List.mem_singleton.1 hm] at hq; omega)
  have f2 := own_chg o2 hF (fun q hq hm => by simp [Value.ownBlock] at hq; rw [List.mem_singleton.1 hm] at hq; omega)
  have f3 := own_chg o3 hF (fun q hq hm => by simp [Value.ownBlock] at hq; rw [List.mem_singleton.1 hm] at hq; omega)
  have hin : ∀ (i : Nat) (u : Value), mv[i]? = some u → wF.ownsRow w.heap.size 3 1 u 6 (List.replicate 6 (.int .i64 0)) := fun i u hu => own_base (own_chg (h.inner i u hu) hF (fun q hq hm => by have := ((h.inner i u hu).lt q hq).1; rw [List.mem_singleton.1 hm] at this; omega)) (by omega)
  refine ⟨⟨by simpa [newD] using f1, by simpa [newD] using f2, World.ownsRow_nil _ _ _ _, rfl, fun i s q hs => by simp [newD] at hs, by simpa [newD] using f3, by simpa [newD] using h.len, fun i r v hr hv => ?_, World.ownsRow_nil _ _ _ _, ?_⟩, Chg.below h.below hF h.below.size (fun q hq => by rw [List.mem_singleton.1 hq]; omega)⟩
  · obtain rfl : r = List.replicate 6 0 := by
      have hi := List.getElem?_eq_some_iff.1 hr
      obtain ⟨hi, e⟩ := hi
      rw [← e]
      simp [newD]
    simpa using hin i v hv
  · show (((Value.slice (some ⟨g1, 0, none⟩) (p * 32) (p * 32)) :: [] ++ mv ++ [Value.slice none 0 0]).filterMap Value.ownBlock).Nodup
    rw [List.filterMap_append, List.filterMap_append]
    simp only [List.filterMap_cons, List.filterMap_nil, Value.ownBlock, List.append_nil, List.singleton_append, List.nodup_cons]
    refine ⟨fun hm => ?_, h.nodup⟩
    obtain ⟨x, hx, hq⟩ := List.mem_filterMap.1 hm
    obtain ⟨i, hi⟩ := List.mem_iff_getElem?.1 hx
    have := ((h.inner i x hi).lt _ hq).1
    omega
end Go.Proofs.Ytnmgecplagekcaa
