/-
  The model's l2own: the walk's first part (words, flags, spans).
-/
import Derived.Test.YtajogfnlbdiokaaSOwn
import Derived.Deep.DeepCutAuto
import Derived.Deep.CutRange
import Derived.Outline
namespace Go.Proofs.Ytajogfnlbdiokaa
open Go.RowKit
set_option linter.unusedVariables false

theorem step2n {x x' : World} {e : TypeId} {n : Nat} (hn : x.heap.size = n) (g : (x.alloc (.cells #[] e)).grownBy x' (some n)) : Below x.heap.size x x' ∧ n < x'.heap.size := by subst hn; exact step2 g

theorem St1.start {w w1 w2 : World} {A : Array Value} {D : WD} {v1 v2 vs vm vg vw vd : Value}
    (hA : (((w.alloc (.cells A 32)).alloc (.cells #[.int .i64 0, .int .i64 0, .slice none 0 0, .slice none 0 0, .slice none 0 0, .slice none 0 0, .int .i64 0, .int .i64 0, .slice none 0 0] 32)).alloc (.cells #[.int .i64 D.base, .int .i64 D.pages, vw, vd, vs, vm, .int .i64 D.phase, .int .i64 D.next, vg] 32)).heap[w.heap.size]? = some (.cells A 32 (0, 0)))
    (hR : (((w.alloc (.cells A 32)).alloc (.cells #[.int .i64 0, .int .i64 0, .slice none 0 0, .slice none 0 0, .slice none 0 0, .slice none 0 0, .int .i64 0, .int .i64 0, .slice none 0 0] 32)).alloc (.cells #[.int .i64 D.base, .int .i64 D.pages, vw, vd, vs, vm, .int .i64 D.phase, .int .i64 D.next, vg] 32)).heap[w.heap.size + 1]? = some (.cells #[.int .i64 0, .int .i64 0, .slice none 0 0, .slice none 0 0, .slice none 0 0, .slice none 0 0, .int .i64 0, .int .i64 0, .slice none 0 0] 32 (0, 0)))
    (hC : (((w.alloc (.cells A 32)).alloc (.cells #[.int .i64 0, .int .i64 0, .slice none 0 0, .slice none 0 0, .slice none 0 0, .slice none 0 0, .int .i64 0, .int .i64 0, .slice none 0 0] 32)).alloc (.cells #[.int .i64 D.base, .int .i64 D.pages, vw, vd, vs, vm, .int .i64 D.phase, .int .i64 D.next, vg] 32)).heap[w.heap.size + 1 + 1]? = some (.cells #[.int .i64 D.base, .int .i64 D.pages, vw, vd, vs, vm, .int .i64 D.phase, .int .i64 D.next, vg] 32 (0, 0)))
    (hb : Below w.heap.size w (((w.alloc (.cells A 32)).alloc (.cells #[.int .i64 0, .int .i64 0, .slice none 0 0, .slice none 0 0, .slice none 0 0, .slice none 0 0, .int .i64 0, .int .i64 0, .slice none 0 0] 32)).alloc (.cells #[.int .i64 D.base, .int .i64 D.pages, vw, vd, vs, vm, .int .i64 D.phase, .int .i64 D.next, vg] 32)))
    (g1 : ((((w.alloc (.cells A 32)).alloc (.cells #[.int .i64 0, .int .i64 0, .slice none 0 0, .slice none 0 0, .slice none 0 0, .slice none 0 0, .int .i64 0, .int .i64 0, .slice none 0 0] 32)).alloc (.cells #[.int .i64 D.base, .int .i64 D.pages, vw, vd, vs, vm, .int .i64 D.phase, .int .i64 D.next, vg] 32)).alloc (.cells #[] 3)).grownBy w1 (some (w.heap.size + 1 + 1 + 1)))
    (o1 : w1.ownsRow (w.heap.size + 1 + 1 + 1) 3 1 v1 D.words.length (D.words.map (Value.int .i64)))
    (g2 : ((w1.setCell ⟨w.heap.size + 1 + 1, 2, none⟩ v1).alloc (.cells #[] 4)).grownBy w2 (some w1.heap.size))
    (o2 : w2.ownsRow w1.heap.size 4 1 v2 D.dirty.length (D.dirty.map Value.bool)) :
    St1 w ((w2.setCell ⟨w.heap.size + 1 + 1, 3, none⟩ v2).setCell ⟨w.heap.size + 1 + 1, 4, none⟩ (.slice none 0 0)) A D v1 v2 (.slice none 0 0) vm vg [] 0 := by
  generalize hW : ((w.alloc (.cells A 32)).alloc (.cells #[.int .i64 0, .int .i64 0, .slice none 0 0, .slice none 0 0, .slice none 0 0, .slice none 0 0, .int .i64 0, .int .i64 0, .slice none 0 0] 32)).alloc (.cells #[.int .i64 D.base, .int .i64 D.pages, vw, vd, vs, vm, .int .i64 D.phase, .int .i64 D.next, vg] 32) = W at *
  have hz : W.heap.size = w.heap.size + 1 + 1 + 1 := by rw [← hW]; simp
  obtain ⟨b1, z1⟩ := step2 (by rw [hz]; exact g1)
  have A1 := heap_below b1 hA
  have R1 := heap_below b1 hR
  have C1 := heap_below b1 hC
  obtain ⟨C2, k2, z2⟩ := step3 (by omega) C1 g2
  have A2 : w2.heap[w.heap.size]? = some (.cells A 32 (0, 0)) := (k2.block _ (by omega) (by simp only [List.mem_singleton]; omega)).trans A1
  have C3 := heap_setCell_same w2 (w.heap.size + 1 + 1) 3 _ _ v2 C2
  have C4 := heap_setCell_same (w2.setCell ⟨w.heap.size + 1 + 1, 3, none⟩ v2) (w.heap.size + 1 + 1) 4 _ _ (.slice none 0 0) C3
  have kk : Chg [w.heap.size + 1 + 1] w2 ((w2.setCell ⟨w.heap.size + 1 + 1, 3, none⟩ v2).setCell ⟨w.heap.size + 1 + 1, 4, none⟩ (.slice none 0 0)) :=
    (Chg.of_grown (grown_set w2 (w.heap.size + 1 + 1) 3 v2) (by simp)).trans (Chg.of_grown (grown_set (w2.setCell ⟨w.heap.size + 1 + 1, 3, none⟩ v2) (w.heap.size + 1 + 1) 4 (.slice none 0 0)) (by simp))
  have l1 : ∀ q, v1.ownBlock = some q → w.heap.size + 1 + 1 + 1 ≤ q ∧ q < w1.heap.size := o1.lt
  have l2 : ∀ q, v2.ownBlock = some q → w1.heap.size ≤ q ∧ q < w2.heap.size := o2.lt
  refine ⟨?_, ?_, ?_, C4, by simp; omega, ⟨?_, ?_, ⟨World.ownsRow_nil _ _ _ _, rfl, fun i s p hs => by simp at hs⟩, ?_, ?_⟩⟩
  · have e1 : Below w.heap.size w w1 := hb.trans (b1.mono (by omega))
    have e2 := Chg.below e1 k2 (by omega) (fun x hx => by rw [List.mem_singleton.1 hx]; omega)
    exact Chg.below e2 kk (by omega) (fun x hx => by rw [List.mem_singleton.1 hx]; omega)
  · exact (kk.block _ (by omega) (by simp only [List.mem_singleton]; omega)).trans A2
  · exact (kk.block _ (by omega) (by simp only [List.mem_singleton]; omega)).trans ((k2.block _ (by omega) (by simp only [List.mem_singleton]; omega)).trans R1)
  · refine own_chg (own_chg o1 k2 fun q hq hm => ?_) kk fun q hq hm => ?_
    all_goals (rw [List.mem_singleton.1 hm] at hq; have := l1 _ hq; omega)
  · refine own_base (own_chg o2 kk fun q hq hm => ?_) (by omega)
    rw [List.mem_singleton.1 hm] at hq; have := l2 _ hq; omega
  · cases h : v1.ownBlock <;> simp [svInts, h]
  · intro x hx q hq
    have hz3 := kk.size
    simp only [svInts, List.flatMap_nil, List.mem_cons, List.not_mem_nil, or_false] at hx
    rcases hx with rfl | rfl | rfl
    · have := l1 q hq; omega
    · have := l2 q hq; omega
    · cases hq

theorem src_box (w : World) {cs : Array Value} {T : TypeId} {m size : Nat} (hl : cs.size = m * size) (h1 : ∀ u, u ∈ cs.toList → u.oneCell' = true) : SrcIs (w.alloc (.cells cs T)) (some ⟨w.heap.size, 0, none⟩) m size cs.toList := by
  refine ⟨by simpa using hl, fun j u hu => ⟨_, rfl, ?_⟩, h1⟩
  rw [show (⟨w.heap.size, 0, none⟩ : Addr).add j = ⟨w.heap.size, j, none⟩ by rw [Addr.add_lit, Nat.zero_add]]
  exact cell_of_heap (box_new w (.cells cs T)) j u (by simpa using hu)
theorem src_span (w2 : World) (at_ : Addr) (u : Value) (s : SpanD) (a3 a4 : Option Addr) (n3 n4 c3 c4 : Nat) : SrcIs ((w2.setCell at_ u).alloc (.cells #[.int .i64 s.page, .int .i64 s.cls, .int .i64 s.mark, .bool s.swept, .slice a3 n3 c3, .slice a4 n4 c4] 79)) (some ⟨w2.heap.size, 0, none⟩) 1 6 (spanCv s (.slice a3 n3 c3, .slice a4 n4 c4)) := by
  have := src_box (w2.setCell at_ u) (cs := #[.int .i64 s.page, .int .i64 s.cls, .int .i64 s.mark, .bool s.swept, .slice a3 n3 c3, .slice a4 n4 c4]) (T := 79) (m := 1) (size := 6) rfl (by
    intro u hu
    simp only [List.mem_cons, List.not_mem_nil, or_false] at hu
    rcases hu with rfl | rfl | rfl | rfl | rfl | rfl <;> rfl)
  rwa [World.size_setCell] at this
/-- A box, a new row in it: the second append's world. -/
theorem St1.at1 {wr w1 : World} {S6 : Array Value} {T e : TypeId} (g1 : ((wr.alloc (.cells S6 T)).alloc (.cells #[] e)).grownBy w1 (some (wr.heap.size + 1))) :
    w1.heap[wr.heap.size]? = some (.cells S6 T (0, 0)) ∧ Below wr.heap.size wr w1 ∧ wr.heap.size + 1 < w1.heap.size := by
  have hz : (wr.alloc (.cells S6 T)).heap.size = wr.heap.size + 1 := by simp
  obtain ⟨b, z⟩ := step2n hz g1
  exact ⟨heap_below b (box_new wr _), below_trans (below_box wr _) b, z⟩
theorem St1.at2 {wr w1 w2 : World} {S6 : Array Value} {T e : TypeId} {u : Value} {i : Nat} (h1 : w1.heap[wr.heap.size]? = some (.cells S6 T (0, 0))) (b1 : Below wr.heap.size wr w1) (hz : wr.heap.size + 1 < w1.heap.size)
    (g2 : ((w1.setCell ⟨wr.heap.size, i, none⟩ u).alloc (.cells #[] e)).grownBy w2 (some w1.heap.size)) :
    w2.heap[wr.heap.size]? = some (.cells (S6.setIfInBounds i u) T (0, 0)) ∧ Below wr.heap.size wr w2 ∧ w1.heap.size < w2.heap.size := by
  obtain ⟨t2, k2, z2⟩ := step3 (by omega) h1 g2
  exact ⟨t2, Chg.below b1 k2 (by omega) (fun x hx => by rw [List.mem_singleton.1 hx]; omega), z2⟩
theorem St1.at3 {wr w2 : World} (b2 : Below wr.heap.size wr w2) {i : Nat} {u : Value} {X : Array Value} {T : TypeId} : Below wr.heap.size wr ((w2.setCell ⟨wr.heap.size, i, none⟩ u).alloc (.cells X T)) :=
  (b2.setCell (p := ⟨wr.heap.size, i, none⟩) (Nat.le_refl _) u).trans ((below_box _ _).mono (by simpa using b2.size))
theorem St1.at4 {wr w3 Y : World} {v3 : Value} {b base : Nat} {o : Obj} (b3 : Below wr.heap.size wr Y) (g3 : Y.grownBy w3 v3.ownBlock) (hv : ∀ q, v3.ownBlock = some q → base ≤ q) (hb : b < base) (h : wr.heap[b]? = some o) : w3.heap[b]? = some o := by
  have := heap_below b3 h
  exact grown_block g3 (Array.getElem?_eq_some_iff.1 this).1 (fun r hr => by have := hv r hr; omega) this

end Go.Proofs.Ytajogfnlbdiokaa
