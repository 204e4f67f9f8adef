/-
  The program's lineWith, lineOfOp and lineOf.
-/
import Derived.Test.YtjldjeokcpjgkaaDoorTxOp
import Derived.Deep.RegionWith
import Derived.Deep.DeepCutAuto
import Derived.Deep.CutRange
import Derived.Outline
namespace Go.Proofs.YtjldjeokcpjgkaaDoor
open Go.RowKit
set_option linter.unusedVariables false

/-- A line: its word, and pointers to the numbers' places in the event at B, in memory from block lo on. -/
def LinR (lo B : Nat) (ws : List UInt8) (ps : List (Nat × Int)) (e : Ending) (w : World) : Prop :=
  ∃ (X : ByteArray) (a : Option Addr) (c : Nat), e = .returned (.agg #[.string X, .slice a ps.length c]) ∧ X.data.toList = ws ∧ ∀ (j : Nat) (p : Nat × Int), ps[j]? = some p → ∃ b o, a = some ⟨b, o, none⟩ ∧ lo ≤ b ∧ w.cell? ⟨b, o + j, none⟩ = some (.pointer (some ⟨B, p.1, none⟩))
def ptrs (B : Nat) (ps : List (Nat × Int)) : Array Value := (ps.map fun p => Value.pointer (some ⟨B, p.1, none⟩)).toArray
theorem cell_set_other {w : World} {a b : Addr} {v x : Value} (h : w.cell? a = some x) (hn : a.block ≠ b.block) : (w.setCell b v).cell? a = some x := by
  have h1 := heap_setCell_other w b a.block v hn
  unfold World.cell? at h ⊢
  rw [h1]
  exact h
theorem lin_close {B w0 : Nat} {w W w2 : World} {ws : List UInt8} {ps : List (Nat × Int)} {T : TypeId} {a b : Value} {c : Nat} (hw : w0 = w.heap.size) (hlt : w0 < W.heap.size) (hb : Below w.heap.size w W) (h2 : Below W.heap.size W w2) (hr : w2.heap[W.heap.size]? = some (.cells (ptrs B ps) T (0, 0))) (hc : c = ps.length) :
    LinR w.heap.size B ws ps (.returned (.agg #[.string ⟨ws.toArray⟩, .slice (some ⟨W.heap.size, 0, none⟩) c c])) ((w2.setCell ⟨w0, 0, none⟩ a).setCell ⟨w0, 1, none⟩ b) ∧ Below w.heap.size w ((w2.setCell ⟨w0, 0, none⟩ a).setCell ⟨w0, 1, none⟩ b) := by
  subst hw hc
  refine ⟨⟨_, _, _, rfl, rfl, fun j p hp => ⟨_, 0, rfl, by omega, ?_⟩⟩, ((below_trans hb h2).setCell (Nat.le_refl _) _).setCell (Nat.le_refl _) _⟩
  have h := cell_of_heap hr j (.pointer (some ⟨B, p.1, none⟩)) (by simp [ptrs, hp])
  rw [Nat.zero_add]
  exact cell_set_other (cell_set_other h (by simp; omega)) (by simp; omega)
theorem lin_none {B w0 : Nat} {w W w2 : World} {ws : List UInt8} {a b : Value} (hw : w0 = w.heap.size) (hb : Below w.heap.size w W) (h2 : Below W.heap.size W w2) :
    LinR w.heap.size B ws [] (.returned (.agg #[.string ⟨ws.toArray⟩, .slice none 0 0])) ((w2.setCell ⟨w0, 0, none⟩ a).setCell ⟨w0, 1, none⟩ b) ∧ Below w.heap.size w ((w2.setCell ⟨w0, 0, none⟩ a).setCell ⟨w0, 1, none⟩ b) := by
  subst hw
  exact ⟨⟨_, _, _, rfl, rfl, fun j p hp => by simp at hp⟩, ((below_trans hb h2).setCell (Nat.le_refl _) _).setCell (Nat.le_refl _) _⟩
set_option maxRecDepth 100000 in
set_option maxHeartbeats 1000000 in
theorem lineWith_any (s : ByteArray) (a : Option Addr) (n c : Nat) (w : World) : Calls Tryd.prog 43 #[.string s, .slice a n c] w fun e w' => e = .returned (.agg #[.string s, .slice a n c]) ∧ Below w.heap.size w w' := by
  have hb := Lib.hid (below_box w (.cells #[.string ⟨#[]⟩, .slice none 0 0] 52))
  have hC := Lib.hid (box_new w (.cells #[.string ⟨#[]⟩, .slice none 0 0] 52))
  go_enter Tryd.func43, Tryd.ntmps43
  go_upto_region 1 with fail
  generalize w.alloc (.cells #[.string ⟨#[]⟩, .slice none 0 0] 52) = W at *
  have r0 := cell_of_heap hC.out 0 _ rfl
  have r1 := cell_of_heap hC.out 1 _ rfl
  have y0 := frozen_of_heap hC.out 0
  have y1 := frozen_of_heap hC.out 1
  go_wp2_with fail
  refine bodyPost_ret (v := .agg #[.string s, .slice a n c]) (by simp [results, Tryd.results43, go_sem, r0, r1]) rfl ?_
  exact ⟨rfl, (hb.out.setCell (Nat.le_refl _) _).setCell (Nat.le_refl _) _⟩

set_option maxRecDepth 100000 in
set_option maxHeartbeats 8000000 in
theorem ilineOp_any (E : EvD) (B : Nat) (w : World) (hB : w.heap[B]? = some (.cells E.cells 29)) : Calls Tryd.prog 42 #[.pointer (some ⟨B, 1, none⟩)] w fun e w' => LinR w.heap.size B (opL E).1 (opL E).2 e w' ∧ Below w.heap.size w w' := by
  obtain ⟨k, ok, m, h, g, i, n, v, en, base, pages⟩ := E
  dsimp only [EvD.cells] at hB
  have hb := Lib.hid (below_box w (.cells #[.string ⟨#[]⟩, .slice none 0 0] 52))
  have hC := Lib.hid (box_new w (.cells #[.string ⟨#[]⟩, .slice none 0 0] 52))
  have hlt := Lib.hid (show w.heap.size < (w.alloc (.cells #[.string ⟨#[]⟩, .slice none 0 0] 52)).heap.size by rw [World.size_alloc]; omega)
  have hB' := Lib.hid (heap_below hb.out hB)
  by_cases h1 : ok = 1
  · subst h1
    rw [show opL ⟨k, 1, m, h, g, i, n, v, en, base, pages⟩ = ([97, 108, 108, 111, 99], [(2, m), (3, h), (6, n), (7, v)]) by simp [opL]]
    dsimp only
    have c1 := cell_of_heap hB'.out 1 _ rfl
    clear hB 
    go_enter Tryd.func42, Tryd.ntmps42
    go_upto_region 1 with fail
    generalize w.alloc (.cells #[.string ⟨#[]⟩, .slice none 0 0] 52) = W at *
    go_upto_region 3 with fail
    have key := Lib.hid (fun (w2 : World) (b2 : Below ((W.alloc (.cells #[.pointer (some ⟨B, 2, none⟩), .pointer (some ⟨B, 3, none⟩), .pointer (some ⟨B, 6, none⟩), .pointer (some ⟨B, 7, none⟩)] 56)).drew).heap.size ((W.alloc (.cells #[.pointer (some ⟨B, 2, none⟩), .pointer (some ⟨B, 3, none⟩), .pointer (some ⟨B, 6, none⟩), .pointer (some ⟨B, 7, none⟩)] 56)).drew) w2) => show w2.frozen? ⟨w.heap.size, 0, none⟩ = false ∧ w2.frozen? ⟨w.heap.size, 1, none⟩ = false ∧ w2.cell? ⟨w.heap.size, 0, none⟩ = some (.string ⟨#[]⟩) ∧ w2.cell? ⟨w.heap.size, 1, none⟩ = some (.slice none 0 0) ∧ Below W.heap.size W w2 ∧ w2.heap[W.heap.size]? = some (.cells (ptrs B [(2, m), (3, h), (6, n), (7, v)]) 56) from by
      have b3 : Below (W.alloc (.cells #[.pointer (some ⟨B, 2, none⟩), .pointer (some ⟨B, 3, none⟩), .pointer (some ⟨B, 6, none⟩), .pointer (some ⟨B, 7, none⟩)] 56)).heap.size (W.alloc (.cells #[.pointer (some ⟨B, 2, none⟩), .pointer (some ⟨B, 3, none⟩), .pointer (some ⟨B, 6, none⟩), .pointer (some ⟨B, 7, none⟩)] 56)) w2 := ⟨b2.os, b2.tape, b2.output, b2.size, b2.block⟩
      have b4 := below_trans (below_box W (.cells #[.pointer (some ⟨B, 2, none⟩), .pointer (some ⟨B, 3, none⟩), .pointer (some ⟨B, 6, none⟩), .pointer (some ⟨B, 7, none⟩)] 56)) b3
      have h2 := heap_below b4 hC.out
      exact ⟨frozen_of_heap h2 0, frozen_of_heap h2 1, cell_of_heap h2 0 _ rfl, cell_of_heap h2 1 _ rfl, b4, heap_below b3 (box_new W (.cells #[.pointer (some ⟨B, 2, none⟩), .pointer (some ⟨B, 3, none⟩), .pointer (some ⟨B, 6, none⟩), .pointer (some ⟨B, 7, none⟩)] 56))⟩)
    go_region_with (go_at_call 43; refine (lineWith_any ⟨#[97, 108, 108, 111, 99]⟩ (some ⟨W.heap.size, 0, none⟩) 4 4 _).mono ?_; rintro e w2 ⟨rfl, b2⟩; obtain ⟨y0, y1, r0, r1, kk⟩ := key.out w2 b2; have kk' := Lib.hid kk; clear kk b2)
    go_wp2_with fail
    refine bodyPost_ret (v := .agg #[.string ⟨#[97, 108, 108, 111, 99]⟩, .slice (some ⟨W.heap.size, 0, none⟩) 4 4]) (by simp [results, Tryd.results42, go_sem, r0, r1]) rfl ?_
    exact lin_close rfl hlt.out hb.out kk'.out.1 kk'.out.2 rfl
  by_cases h2 : ok = 2
  · subst h2
    rw [show opL ⟨k, 2, m, h, g, i, n, v, en, base, pages⟩ = ([108, 111, 97, 100], [(2, m), (3, h), (5, i), (4, g)]) by simp [opL]]
    dsimp only
    have c1 := cell_of_heap hB'.out 1 _ rfl
    clear hB h1
    go_enter Tryd.func42, Tryd.ntmps42
    go_upto_region 1 with fail
    generalize w.alloc (.cells #[.string ⟨#[]⟩, .slice none 0 0] 52) = W at *
    go_upto_region 5 with fail
    have key := Lib.hid (fun (w2 : World) (b2 : Below ((W.alloc (.cells #[.pointer (some ⟨B, 2, none⟩), .pointer (some ⟨B, 3, none⟩), .pointer (some ⟨B, 5, none⟩), .pointer (some ⟨B, 4, none⟩)] 56)).drew).heap.size ((W.alloc (.cells #[.pointer (some ⟨B, 2, none⟩), .pointer (some ⟨B, 3, none⟩), .pointer (some ⟨B, 5, none⟩), .pointer (some ⟨B, 4, none⟩)] 56)).drew) w2) => show w2.frozen? ⟨w.heap.size, 0, none⟩ = false ∧ w2.frozen? ⟨w.heap.size, 1, none⟩ = false ∧ w2.cell? ⟨w.heap.size, 0, none⟩ = some (.string ⟨#[]⟩) ∧ w2.cell? ⟨w.heap.size, 1, none⟩ = some (.slice none 0 0) ∧ Below W.heap.size W w2 ∧ w2.heap[W.heap.size]? = some (.cells (ptrs B [(2, m), (3, h), (5, i), (4, g)]) 56) from by
      have b3 : Below (W.alloc (.cells #[.pointer (some ⟨B, 2, none⟩), .pointer (some ⟨B, 3, none⟩), .pointer (some ⟨B, 5, none⟩), .pointer (some ⟨B, 4, none⟩)] 56)).heap.size (W.alloc (.cells #[.pointer (some ⟨B, 2, none⟩), .pointer (some ⟨B, 3, none⟩), .pointer (some ⟨B, 5, none⟩), .pointer (some ⟨B, 4, none⟩)] 56)) w2 := ⟨b2.os, b2.tape, b2.output, b2.size, b2.block⟩
      have b4 := below_trans (below_box W (.cells #[.pointer (some ⟨B, 2, none⟩), .pointer (some ⟨B, 3, none⟩), .pointer (some ⟨B, 5, none⟩), .pointer (some ⟨B, 4, none⟩)] 56)) b3
      have h2 := heap_below b4 hC.out
      exact ⟨frozen_of_heap h2 0, frozen_of_heap h2 1, cell_of_heap h2 0 _ rfl, cell_of_heap h2 1 _ rfl, b4, heap_below b3 (box_new W (.cells #[.pointer (some ⟨B, 2, none⟩), .pointer (some ⟨B, 3, none⟩), .pointer (some ⟨B, 5, none⟩), .pointer (some ⟨B, 4, none⟩)] 56))⟩)
    go_region_with (go_at_call 43; refine (lineWith_any ⟨#[108, 111, 97, 100]⟩ (some ⟨W.heap.size, 0, none⟩) 4 4 _).mono ?_; rintro e w2 ⟨rfl, b2⟩; obtain ⟨y0, y1, r0, r1, kk⟩ := key.out w2 b2; have kk' := Lib.hid kk; clear kk b2)
    go_wp2_with fail
    refine bodyPost_ret (v := .agg #[.string ⟨#[108, 111, 97, 100]⟩, .slice (some ⟨W.heap.size, 0, none⟩) 4 4]) (by simp [results, Tryd.results42, go_sem, r0, r1]) rfl ?_
    exact lin_close rfl hlt.out hb.out kk'.out.1 kk'.out.2 rfl
  by_cases h3 : ok = 3
  · subst h3
    rw [show opL ⟨k, 3, m, h, g, i, n, v, en, base, pages⟩ = ([115, 116, 111, 114, 101], [(2, m), (3, h), (5, i), (4, g)]) by simp [opL]]
    dsimp only
    have c1 := cell_of_heap hB'.out 1 _ rfl
    clear hB h1 h2
    go_enter Tryd.func42, Tryd.ntmps42
    go_upto_region 1 with fail
    generalize w.alloc (.cells #[.string ⟨#[]⟩, .slice none 0 0] 52) = W at *
    go_upto_region 7 with fail
    have key := Lib.hid (fun (w2 : World) (b2 : Below ((W.alloc (.cells #[.pointer (some ⟨B, 2, none⟩), .pointer (some ⟨B, 3, none⟩), .pointer (some ⟨B, 5, none⟩), .pointer (some ⟨B, 4, none⟩)] 56)).drew).heap.size ((W.alloc (.cells #[.pointer (some ⟨B, 2, none⟩), .pointer (some ⟨B, 3, none⟩), .pointer (some ⟨B, 5, none⟩), .pointer (some ⟨B, 4, none⟩)] 56)).drew) w2) => show w2.frozen? ⟨w.heap.size, 0, none⟩ = false ∧ w2.frozen? ⟨w.heap.size, 1, none⟩ = false ∧ w2.cell? ⟨w.heap.size, 0, none⟩ = some (.string ⟨#[]⟩) ∧ w2.cell? ⟨w.heap.size, 1, none⟩ = some (.slice none 0 0) ∧ Below W.heap.size W w2 ∧ w2.heap[W.heap.size]? = some (.cells (ptrs B [(2, m), (3, h), (5, i), (4, g)]) 56) from by
      have b3 : Below (W.alloc (.cells #[.pointer (some ⟨B, 2, none⟩), .pointer (some ⟨B, 3, none⟩), .pointer (some ⟨B, 5, none⟩), .pointer (some ⟨B, 4, none⟩)] 56)).heap.size (W.alloc (.cells #[.pointer (some ⟨B, 2, none⟩), .pointer (some ⟨B, 3, none⟩), .pointer (some ⟨B, 5, none⟩), .pointer (some ⟨B, 4, none⟩)] 56)) w2 := ⟨b2.os, b2.tape, b2.output, b2.size, b2.block⟩
      have b4 := below_trans (below_box W (.cells #[.pointer (some ⟨B, 2, none⟩), .pointer (some ⟨B, 3, none⟩), .pointer (some ⟨B, 5, none⟩), .pointer (some ⟨B, 4, none⟩)] 56)) b3
      have h2 := heap_below b4 hC.out
      exact ⟨frozen_of_heap h2 0, frozen_of_heap h2 1, cell_of_heap h2 0 _ rfl, cell_of_heap h2 1 _ rfl, b4, heap_below b3 (box_new W (.cells #[.pointer (some ⟨B, 2, none⟩), .pointer (some ⟨B, 3, none⟩), .pointer (some ⟨B, 5, none⟩), .pointer (some ⟨B, 4, none⟩)] 56))⟩)
    go_region_with (go_at_call 43; refine (lineWith_any ⟨#[115, 116, 111, 114, 101]⟩ (some ⟨W.heap.size, 0, none⟩) 4 4 _).mono ?_; rintro e w2 ⟨rfl, b2⟩; obtain ⟨y0, y1, r0, r1, kk⟩ := key.out w2 b2; have kk' := Lib.hid kk; clear kk b2)
    go_wp2_with fail
    refine bodyPost_ret (v := .agg #[.string ⟨#[115, 116, 111, 114, 101]⟩, .slice (some ⟨W.heap.size, 0, none⟩) 4 4]) (by simp [results, Tryd.results42, go_sem, r0, r1]) rfl ?_
    exact lin_close rfl hlt.out hb.out kk'.out.1 kk'.out.2 rfl
  by_cases h4 : ok = 4
  · subst h4
    rw [show opL ⟨k, 4, m, h, g, i, n, v, en, base, pages⟩ = ([115, 101, 116], [(2, m), (3, h), (5, i), (7, v)]) by simp [opL]]
    dsimp only
    have c1 := cell_of_heap hB'.out 1 _ rfl
    clear hB h1 h2 h3
    go_enter Tryd.func42, Tryd.ntmps42
    go_upto_region 1 with fail
    generalize w.alloc (.cells #[.string ⟨#[]⟩, .slice none 0 0] 52) = W at *
    go_upto_region 9 with fail
    have key := Lib.hid (fun (w2 : World) (b2 : Below ((W.alloc (.cells #[.pointer (some ⟨B, 2, none⟩), .pointer (some ⟨B, 3, none⟩), .pointer (some ⟨B, 5, none⟩), .pointer (some ⟨B, 7, none⟩)] 56)).drew).heap.size ((W.alloc (.cells #[.pointer (some ⟨B, 2, none⟩), .pointer (some ⟨B, 3, none⟩), .pointer (some ⟨B, 5, none⟩), .pointer (some ⟨B, 7, none⟩)] 56)).drew) w2) => show w2.frozen? ⟨w.heap.size, 0, none⟩ = false ∧ w2.frozen? ⟨w.heap.size, 1, none⟩ = false ∧ w2.cell? ⟨w.heap.size, 0, none⟩ = some (.string ⟨#[]⟩) ∧ w2.cell? ⟨w.heap.size, 1, none⟩ = some (.slice none 0 0) ∧ Below W.heap.size W w2 ∧ w2.heap[W.heap.size]? = some (.cells (ptrs B [(2, m), (3, h), (5, i), (7, v)]) 56) from by
      have b3 : Below (W.alloc (.cells #[.pointer (some ⟨B, 2, none⟩), .pointer (some ⟨B, 3, none⟩), .pointer (some ⟨B, 5, none⟩), .pointer (some ⟨B, 7, none⟩)] 56)).heap.size (W.alloc (.cells #[.pointer (some ⟨B, 2, none⟩), .pointer (some ⟨B, 3, none⟩), .pointer (some ⟨B, 5, none⟩), .pointer (some ⟨B, 7, none⟩)] 56)) w2 := ⟨b2.os, b2.tape, b2.output, b2.size, b2.block⟩
      have b4 := below_trans (below_box W (.cells #[.pointer (some ⟨B, 2, none⟩), .pointer (some ⟨B, 3, none⟩), .pointer (some ⟨B, 5, none⟩), .pointer (some ⟨B, 7, none⟩)] 56)) b3
      have h2 := heap_below b4 hC.out
      exact ⟨frozen_of_heap h2 0, frozen_of_heap h2 1, cell_of_heap h2 0 _ rfl, cell_of_heap h2 1 _ rfl, b4, heap_below b3 (box_new W (.cells #[.pointer (some ⟨B, 2, none⟩), .pointer (some ⟨B, 3, none⟩), .pointer (some ⟨B, 5, none⟩), .pointer (some ⟨B, 7, none⟩)] 56))⟩)
    go_region_with (go_at_call 43; refine (lineWith_any ⟨#[115, 101, 116]⟩ (some ⟨W.heap.size, 0, none⟩) 4 4 _).mono ?_; rintro e w2 ⟨rfl, b2⟩; obtain ⟨y0, y1, r0, r1, kk⟩ := key.out w2 b2; have kk' := Lib.hid kk; clear kk b2)
    go_wp2_with fail
    refine bodyPost_ret (v := .agg #[.string ⟨#[115, 101, 116]⟩, .slice (some ⟨W.heap.size, 0, none⟩) 4 4]) (by simp [results, Tryd.results42, go_sem, r0, r1]) rfl ?_
    exact lin_close rfl hlt.out hb.out kk'.out.1 kk'.out.2 rfl
  by_cases h5 : ok = 5
  · subst h5
    rw [show opL ⟨k, 5, m, h, g, i, n, v, en, base, pages⟩ = ([103, 101, 116], [(2, m), (3, h), (5, i)]) by simp [opL]]
    dsimp only
    have c1 := cell_of_heap hB'.out 1 _ rfl
    clear hB h1 h2 h3 h4
    go_enter Tryd.func42, Tryd.ntmps42
    go_upto_region 1 with fail
    generalize w.alloc (.cells #[.string ⟨#[]⟩, .slice none 0 0] 52) = W at *
    go_upto_region 11 with fail
    have key := Lib.hid (fun (w2 : World) (b2 : Below ((W.alloc (.cells #[.pointer (some ⟨B, 2, none⟩), .pointer (some ⟨B, 3, none⟩), .pointer (some ⟨B, 5, none⟩)] 56)).drew).heap.size ((W.alloc (.cells #[.pointer (some ⟨B, 2, none⟩), .pointer (some ⟨B, 3, none⟩), .pointer (some ⟨B, 5, none⟩)] 56)).drew) w2) => show w2.frozen? ⟨w.heap.size, 0, none⟩ = false ∧ w2.frozen? ⟨w.heap.size, 1, none⟩ = false ∧ w2.cell? ⟨w.heap.size, 0, none⟩ = some (.string ⟨#[]⟩) ∧ w2.cell? ⟨w.heap.size, 1, none⟩ = some (.slice none 0 0) ∧ Below W.heap.size W w2 ∧ w2.heap[W.heap.size]? = some (.cells (ptrs B [(2, m), (3, h), (5, i)]) 56) from by
      have b3 : Below (W.alloc (.cells #[.pointer (some ⟨B, 2, none⟩), .pointer (some ⟨B, 3, none⟩), .pointer (some ⟨B, 5, none⟩)] 56)).heap.size (W.alloc (.cells #[.pointer (some ⟨B, 2, none⟩), .pointer (some ⟨B, 3, none⟩), .pointer (some ⟨B, 5, none⟩)] 56)) w2 := ⟨b2.os, b2.tape, b2.output, b2.size, b2.block⟩
      have b4 := below_trans (below_box W (.cells #[.pointer (some ⟨B, 2, none⟩), .pointer (some ⟨B, 3, none⟩), .pointer (some ⟨B, 5, none⟩)] 56)) b3
      have h2 := heap_below b4 hC.out
      exact ⟨frozen_of_heap h2 0, frozen_of_heap h2 1, cell_of_heap h2 0 _ rfl, cell_of_heap h2 1 _ rfl, b4, heap_below b3 (box_new W (.cells #[.pointer (some ⟨B, 2, none⟩), .pointer (some ⟨B, 3, none⟩), .pointer (some ⟨B, 5, none⟩)] 56))⟩)
    go_region_with (go_at_call 43; refine (lineWith_any ⟨#[103, 101, 116]⟩ (some ⟨W.heap.size, 0, none⟩) 3 3 _).mono ?_; rintro e w2 ⟨rfl, b2⟩; obtain ⟨y0, y1, r0, r1, kk⟩ := key.out w2 b2; have kk' := Lib.hid kk; clear kk b2)
    go_wp2_with fail
    refine bodyPost_ret (v := .agg #[.string ⟨#[103, 101, 116]⟩, .slice (some ⟨W.heap.size, 0, none⟩) 3 3]) (by simp [results, Tryd.results42, go_sem, r0, r1]) rfl ?_
    exact lin_close rfl hlt.out hb.out kk'.out.1 kk'.out.2 rfl
  by_cases h6 : ok = 6
  · subst h6
    rw [show opL ⟨k, 6, m, h, g, i, n, v, en, base, pages⟩ = ([100, 114, 111, 112], [(2, m), (3, h)]) by simp [opL]]
    dsimp only
    have c1 := cell_of_heap hB'.out 1 _ rfl
    clear hB h1 h2 h3 h4 h5
    go_enter Tryd.func42, Tryd.ntmps42
    go_upto_region 1 with fail
    generalize w.alloc (.cells #[.string ⟨#[]⟩, .slice none 0 0] 52) = W at *
    go_upto_region 13 with fail
    have key := Lib.hid (fun (w2 : World) (b2 : Below ((W.alloc (.cells #[.pointer (some ⟨B, 2, none⟩), .pointer (some ⟨B, 3, none⟩)] 56)).drew).heap.size ((W.alloc (.cells #[.pointer (some ⟨B, 2, none⟩), .pointer (some ⟨B, 3, none⟩)] 56)).drew) w2) => show w2.frozen? ⟨w.heap.size, 0, none⟩ = false ∧ w2.frozen? ⟨w.heap.size, 1, none⟩ = false ∧ w2.cell? ⟨w.heap.size, 0, none⟩ = some (.string ⟨#[]⟩) ∧ w2.cell? ⟨w.heap.size, 1, none⟩ = some (.slice none 0 0) ∧ Below W.heap.size W w2 ∧ w2.heap[W.heap.size]? = some (.cells (ptrs B [(2, m), (3, h)]) 56) from by
      have b3 : Below (W.alloc (.cells #[.pointer (some ⟨B, 2, none⟩), .pointer (some ⟨B, 3, none⟩)] 56)).heap.size (W.alloc (.cells #[.pointer (some ⟨B, 2, none⟩), .pointer (some ⟨B, 3, none⟩)] 56)) w2 := ⟨b2.os, b2.tape, b2.output, b2.size, b2.block⟩
      have b4 := below_trans (below_box W (.cells #[.pointer (some ⟨B, 2, none⟩), .pointer (some ⟨B, 3, none⟩)] 56)) b3
      have h2 := heap_below b4 hC.out
      exact ⟨frozen_of_heap h2 0, frozen_of_heap h2 1, cell_of_heap h2 0 _ rfl, cell_of_heap h2 1 _ rfl, b4, heap_below b3 (box_new W (.cells #[.pointer (some ⟨B, 2, none⟩), .pointer (some ⟨B, 3, none⟩)] 56))⟩)
    go_region_with (go_at_call 43; refine (lineWith_any ⟨#[100, 114, 111, 112]⟩ (some ⟨W.heap.size, 0, none⟩) 2 2 _).mono ?_; rintro e w2 ⟨rfl, b2⟩; obtain ⟨y0, y1, r0, r1, kk⟩ := key.out w2 b2; have kk' := Lib.hid kk; clear kk b2)
    go_wp2_with fail
    refine bodyPost_ret (v := .agg #[.string ⟨#[100, 114, 111, 112]⟩, .slice (some ⟨W.heap.size, 0, none⟩) 2 2]) (by simp [results, Tryd.results42, go_sem, r0, r1]) rfl ?_
    exact lin_close rfl hlt.out hb.out kk'.out.1 kk'.out.2 rfl
  by_cases h7 : ok = 7
  · subst h7
    rw [show opL ⟨k, 7, m, h, g, i, n, v, en, base, pages⟩ = ([115, 97, 109, 101], [(2, m), (3, h), (4, g)]) by simp [opL]]
    dsimp only
    have c1 := cell_of_heap hB'.out 1 _ rfl
    clear hB h1 h2 h3 h4 h5 h6
    go_enter Tryd.func42, Tryd.ntmps42
    go_upto_region 1 with fail
    generalize w.alloc (.cells #[.string ⟨#[]⟩, .slice none 0 0] 52) = W at *
    go_upto_region 15 with fail
    have key := Lib.hid (fun (w2 : World) (b2 : Below ((W.alloc (.cells #[.pointer (some ⟨B, 2, none⟩), .pointer (some ⟨B, 3, none⟩), .pointer (some ⟨B, 4, none⟩)] 56)).drew).heap.size ((W.alloc (.cells #[.pointer (some ⟨B, 2, none⟩), .pointer (some ⟨B, 3, none⟩), .pointer (some ⟨B, 4, none⟩)] 56)).drew) w2) => show w2.frozen? ⟨w.heap.size, 0, none⟩ = false ∧ w2.frozen? ⟨w.heap.size, 1, none⟩ = false ∧ w2.cell? ⟨w.heap.size, 0, none⟩ = some (.string ⟨#[]⟩) ∧ w2.cell? ⟨w.heap.size, 1, none⟩ = some (.slice none 0 0) ∧ Below W.heap.size W w2 ∧ w2.heap[W.heap.size]? = some (.cells (ptrs B [(2, m), (3, h), (4, g)]) 56) from by
      have b3 : Below (W.alloc (.cells #[.pointer (some ⟨B, 2, none⟩), .pointer (some ⟨B, 3, none⟩), .pointer (some ⟨B, 4, none⟩)] 56)).heap.size (W.alloc (.cells #[.pointer (some ⟨B, 2, none⟩), .pointer (some ⟨B, 3, none⟩), .pointer (some ⟨B, 4, none⟩)] 56)) w2 := ⟨b2.os, b2.tape, b2.output, b2.size, b2.block⟩
      have b4 := below_trans (below_box W (.cells #[.pointer (some ⟨B, 2, none⟩), .pointer (some ⟨B, 3, none⟩), .pointer (some ⟨B, 4, none⟩)] 56)) b3
      have h2 := heap_below b4 hC.out
      exact ⟨frozen_of_heap h2 0, frozen_of_heap h2 1, cell_of_heap h2 0 _ rfl, cell_of_heap h2 1 _ rfl, b4, heap_below b3 (box_new W (.cells #[.pointer (some ⟨B, 2, none⟩), .pointer (some ⟨B, 3, none⟩), .pointer (some ⟨B, 4, none⟩)] 56))⟩)
    go_region_with (go_at_call 43; refine (lineWith_any ⟨#[115, 97, 109, 101]⟩ (some ⟨W.heap.size, 0, none⟩) 3 3 _).mono ?_; rintro e w2 ⟨rfl, b2⟩; obtain ⟨y0, y1, r0, r1, kk⟩ := key.out w2 b2; have kk' := Lib.hid kk; clear kk b2)
    go_wp2_with fail
    refine bodyPost_ret (v := .agg #[.string ⟨#[115, 97, 109, 101]⟩, .slice (some ⟨W.heap.size, 0, none⟩) 3 3]) (by simp [results, Tryd.results42, go_sem, r0, r1]) rfl ?_
    exact lin_close rfl hlt.out hb.out kk'.out.1 kk'.out.2 rfl
  by_cases h8 : ok = 8
  · subst h8
    rw [show opL ⟨k, 8, m, h, g, i, n, v, en, base, pages⟩ = ([99, 111, 112, 121], [(2, m), (3, h), (4, g)]) by simp [opL]]
    dsimp only
    have c1 := cell_of_heap hB'.out 1 _ rfl
    clear hB h1 h2 h3 h4 h5 h6 h7
    go_enter Tryd.func42, Tryd.ntmps42
    go_upto_region 1 with fail
    generalize w.alloc (.cells #[.string ⟨#[]⟩, .slice none 0 0] 52) = W at *
    go_upto_region 17 with fail
    have key := Lib.hid (fun (w2 : World) (b2 : Below ((W.alloc (.cells #[.pointer (some ⟨B, 2, none⟩), .pointer (some ⟨B, 3, none⟩), .pointer (some ⟨B, 4, none⟩)] 56)).drew).heap.size ((W.alloc (.cells #[.pointer (some ⟨B, 2, none⟩), .pointer (some ⟨B, 3, none⟩), .pointer (some ⟨B, 4, none⟩)] 56)).drew) w2) => show w2.frozen? ⟨w.heap.size, 0, none⟩ = false ∧ w2.frozen? ⟨w.heap.size, 1, none⟩ = false ∧ w2.cell? ⟨w.heap.size, 0, none⟩ = some (.string ⟨#[]⟩) ∧ w2.cell? ⟨w.heap.size, 1, none⟩ = some (.slice none 0 0) ∧ Below W.heap.size W w2 ∧ w2.heap[W.heap.size]? = some (.cells (ptrs B [(2, m), (3, h), (4, g)]) 56) from by
      have b3 : Below (W.alloc (.cells #[.pointer (some ⟨B, 2, none⟩), .pointer (some ⟨B, 3, none⟩), .pointer (some ⟨B, 4, none⟩)] 56)).heap.size (W.alloc (.cells #[.pointer (some ⟨B, 2, none⟩), .pointer (some ⟨B, 3, none⟩), .pointer (some ⟨B, 4, none⟩)] 56)) w2 := ⟨b2.os, b2.tape, b2.output, b2.size, b2.block⟩
      have b4 := below_trans (below_box W (.cells #[.pointer (some ⟨B, 2, none⟩), .pointer (some ⟨B, 3, none⟩), .pointer (some ⟨B, 4, none⟩)] 56)) b3
      have h2 := heap_below b4 hC.out
      exact ⟨frozen_of_heap h2 0, frozen_of_heap h2 1, cell_of_heap h2 0 _ rfl, cell_of_heap h2 1 _ rfl, b4, heap_below b3 (box_new W (.cells #[.pointer (some ⟨B, 2, none⟩), .pointer (some ⟨B, 3, none⟩), .pointer (some ⟨B, 4, none⟩)] 56))⟩)
    go_region_with (go_at_call 43; refine (lineWith_any ⟨#[99, 111, 112, 121]⟩ (some ⟨W.heap.size, 0, none⟩) 3 3 _).mono ?_; rintro e w2 ⟨rfl, b2⟩; obtain ⟨y0, y1, r0, r1, kk⟩ := key.out w2 b2; have kk' := Lib.hid kk; clear kk b2)
    go_wp2_with fail
    refine bodyPost_ret (v := .agg #[.string ⟨#[99, 111, 112, 121]⟩, .slice (some ⟨W.heap.size, 0, none⟩) 3 3]) (by simp [results, Tryd.results42, go_sem, r0, r1]) rfl ?_
    exact lin_close rfl hlt.out hb.out kk'.out.1 kk'.out.2 rfl
  by_cases h9 : ok = 9
  · subst h9
    rw [show opL ⟨k, 9, m, h, g, i, n, v, en, base, pages⟩ = ([108, 101, 110], [(2, m), (3, h)]) by simp [opL]]
    dsimp only
    have c1 := cell_of_heap hB'.out 1 _ rfl
    clear hB h1 h2 h3 h4 h5 h6 h7 h8
    go_enter Tryd.func42, Tryd.ntmps42
    go_upto_region 1 with fail
    generalize w.alloc (.cells #[.string ⟨#[]⟩, .slice none 0 0] 52) = W at *
    go_upto_region 19 with fail
    have key := Lib.hid (fun (w2 : World) (b2 : Below ((W.alloc (.cells #[.pointer (some ⟨B, 2, none⟩), .pointer (some ⟨B, 3, none⟩)] 56)).drew).heap.size ((W.alloc (.cells #[.pointer (some ⟨B, 2, none⟩), .pointer (some ⟨B, 3, none⟩)] 56)).drew) w2) => show w2.frozen? ⟨w.heap.size, 0, none⟩ = false ∧ w2.frozen? ⟨w.heap.size, 1, none⟩ = false ∧ w2.cell? ⟨w.heap.size, 0, none⟩ = some (.string ⟨#[]⟩) ∧ w2.cell? ⟨w.heap.size, 1, none⟩ = some (.slice none 0 0) ∧ Below W.heap.size W w2 ∧ w2.heap[W.heap.size]? = some (.cells (ptrs B [(2, m), (3, h)]) 56) from by
      have b3 : Below (W.alloc (.cells #[.pointer (some ⟨B, 2, none⟩), .pointer (some ⟨B, 3, none⟩)] 56)).heap.size (W.alloc (.cells #[.pointer (some ⟨B, 2, none⟩), .pointer (some ⟨B, 3, none⟩)] 56)) w2 := ⟨b2.os, b2.tape, b2.output, b2.size, b2.block⟩
      have b4 := below_trans (below_box W (.cells #[.pointer (some ⟨B, 2, none⟩), .pointer (some ⟨B, 3, none⟩)] 56)) b3
      have h2 := heap_below b4 hC.out
      exact ⟨frozen_of_heap h2 0, frozen_of_heap h2 1, cell_of_heap h2 0 _ rfl, cell_of_heap h2 1 _ rfl, b4, heap_below b3 (box_new W (.cells #[.pointer (some ⟨B, 2, none⟩), .pointer (some ⟨B, 3, none⟩)] 56))⟩)
    go_region_with (go_at_call 43; refine (lineWith_any ⟨#[108, 101, 110]⟩ (some ⟨W.heap.size, 0, none⟩) 2 2 _).mono ?_; rintro e w2 ⟨rfl, b2⟩; obtain ⟨y0, y1, r0, r1, kk⟩ := key.out w2 b2; have kk' := Lib.hid kk; clear kk b2)
    go_wp2_with fail
    refine bodyPost_ret (v := .agg #[.string ⟨#[108, 101, 110]⟩, .slice (some ⟨W.heap.size, 0, none⟩) 2 2]) (by simp [results, Tryd.results42, go_sem, r0, r1]) rfl ?_
    exact lin_close rfl hlt.out hb.out kk'.out.1 kk'.out.2 rfl
  rw [show opL ⟨k, ok, m, h, g, i, n, v, en, base, pages⟩ = ([], []) by simp [opL, h1, h2, h3, h4, h5, h6, h7, h8, h9]]
  dsimp only
  have d1 : (ok == 1) = false := beq_eq_false_iff_ne.2 h1
  have d2 : (ok == 2) = false := beq_eq_false_iff_ne.2 h2
  have d3 : (ok == 3) = false := beq_eq_false_iff_ne.2 h3
  have d4 : (ok == 4) = false := beq_eq_false_iff_ne.2 h4
  have d5 : (ok == 5) = false := beq_eq_false_iff_ne.2 h5
  have d6 : (ok == 6) = false := beq_eq_false_iff_ne.2 h6
  have d7 : (ok == 7) = false := beq_eq_false_iff_ne.2 h7
  have d8 : (ok == 8) = false := beq_eq_false_iff_ne.2 h8
  have d9 : (ok == 9) = false := beq_eq_false_iff_ne.2 h9
  have c1 := cell_of_heap hB'.out 1 _ rfl
  clear hB h1 h2 h3 h4 h5 h6 h7 h8 h9
  go_enter Tryd.func42, Tryd.ntmps42
  go_upto_region 1 with fail
  generalize w.alloc (.cells #[.string ⟨#[]⟩, .slice none 0 0] 52) = W at *
  have r0 := cell_of_heap hC.out 0 _ rfl
  have r1 := cell_of_heap hC.out 1 _ rfl
  have y0 := frozen_of_heap hC.out 0
  have y1 := frozen_of_heap hC.out 1
  go_wp2_with fail
  refine bodyPost_ret (v := .agg #[.string ⟨#[]⟩, .slice none 0 0]) (by simp [results, Tryd.results42, go_sem, r0, r1]) rfl ?_
  exact lin_none (ws := []) rfl hb.out (Below.refl _ _)

set_option maxRecDepth 100000 in
set_option maxHeartbeats 8000000 in
theorem iline_any (E : EvD) (B : Nat) (w : World) (hB : w.heap[B]? = some (.cells E.cells 29)) : Calls Tryd.prog 25 #[.pointer (some ⟨B, 0, none⟩)] w fun e w' => LinR w.heap.size B (evL E).1 (evL E).2 e w' ∧ Below w.heap.size w w' := by
  obtain ⟨k, ok, m, h, g, i, n, v, en, base, pages⟩ := E
  dsimp only [EvD.cells] at hB
  have hb := Lib.hid (below_box w (.cells #[.string ⟨#[]⟩, .slice none 0 0] 52))
  have hC := Lib.hid (box_new w (.cells #[.string ⟨#[]⟩, .slice none 0 0] 52))
  have hlt := Lib.hid (show w.heap.size < (w.alloc (.cells #[.string ⟨#[]⟩, .slice none 0 0] 52)).heap.size by rw [World.size_alloc]; omega)
  have hB' := Lib.hid (heap_below hb.out hB)
  by_cases h1 : k = 1
  · subst h1
    rw [show evL ⟨1, ok, m, h, g, i, n, v, en, base, pages⟩ = opL ⟨1, ok, m, h, g, i, n, v, en, base, pages⟩ by simp [evL]]
    have c1 := cell_of_heap hB'.out 0 _ rfl
    have hcall := Lib.hid (ilineOp_any ⟨1, ok, m, h, g, i, n, v, en, base, pages⟩ B _ hB'.out)
    clear hB 
    go_enter Tryd.func25, Tryd.ntmps25
    go_upto_region 1 with fail
    generalize w.alloc (.cells #[.string ⟨#[]⟩, .slice none 0 0] 52) = W at *
    go_wp2_with fail
    refine hcall.out.mono ?_
    rintro e w2 ⟨⟨X, a, c, rfl, hX, hp⟩, b2⟩
    have h2 := heap_below b2 hC.out
    have y0 := frozen_of_heap h2 0
    have y1 := frozen_of_heap h2 1
    have r0 := cell_of_heap h2 0 _ rfl
    have r1 := cell_of_heap h2 1 _ rfl
    have fin := Lib.hid (show LinR w.heap.size B (opL ⟨1, ok, m, h, g, i, n, v, en, base, pages⟩).1 (opL ⟨1, ok, m, h, g, i, n, v, en, base, pages⟩).2 (.returned (.agg #[.string X, .slice a (opL ⟨1, ok, m, h, g, i, n, v, en, base, pages⟩).2.length c])) ((w2.setCell ⟨w.heap.size, 0, none⟩ (.string X)).setCell ⟨w.heap.size, 1, none⟩ (.slice a (opL ⟨1, ok, m, h, g, i, n, v, en, base, pages⟩).2.length c)) ∧ Below w.heap.size w ((w2.setCell ⟨w.heap.size, 0, none⟩ (.string X)).setCell ⟨w.heap.size, 1, none⟩ (.slice a (opL ⟨1, ok, m, h, g, i, n, v, en, base, pages⟩).2.length c)) from
      ⟨⟨X, a, c, rfl, hX, fun j p hj => (hp j p hj).elim fun b h => h.elim fun o h => ⟨b, o, h.1, Nat.le_trans hb.out.size h.2.1, cell_set_other (cell_set_other h.2.2 (by have := h.2.1; have := hlt.out; simp; omega)) (by have := h.2.1; have := hlt.out; simp; omega)⟩⟩, ((below_trans hb.out b2).setCell (Nat.le_refl _) _).setCell (Nat.le_refl _) _⟩)
    clear hX hp b2 h2 c1
    generalize (opL ⟨1, ok, m, h, g, i, n, v, en, base, pages⟩).2.length = N at *
    go_wp2_with fail
    refine bodyPost_ret (v := .agg #[.string X, .slice a N c]) (by simp [results, Tryd.results25, go_sem, r0, r1]) rfl ?_
    exact fin.out
  by_cases h2 : k = 2
  · subst h2
    rw [show evL ⟨2, ok, m, h, g, i, n, v, en, base, pages⟩ = ([115, 116, 97, 114, 116], []) by simp [evL]]
    dsimp only
    have c1 := cell_of_heap hB'.out 0 _ rfl
    clear hB h1
    go_enter Tryd.func25, Tryd.ntmps25
    go_upto_region 1 with fail
    generalize w.alloc (.cells #[.string ⟨#[]⟩, .slice none 0 0] 52) = W at *
    have key := Lib.hid (fun (w2 : World) (b2 : Below (W).heap.size (W) w2) => show w2.frozen? ⟨w.heap.size, 0, none⟩ = false ∧ w2.frozen? ⟨w.heap.size, 1, none⟩ = false ∧ w2.cell? ⟨w.heap.size, 0, none⟩ = some (.string ⟨#[]⟩) ∧ w2.cell? ⟨w.heap.size, 1, none⟩ = some (.slice none 0 0) ∧ Below W.heap.size W w2 from by
      have b4 := b2
      have h2 := heap_below b4 hC.out
      exact ⟨frozen_of_heap h2 0, frozen_of_heap h2 1, cell_of_heap h2 0 _ rfl, cell_of_heap h2 1 _ rfl, b4⟩)
    go_wp2_with (go_at_call 43; refine (lineWith_any ⟨#[115, 116, 97, 114, 116]⟩ none 0 0 _).mono ?_; rintro e w2 ⟨rfl, b2⟩; obtain ⟨y0, y1, r0, r1, kk⟩ := key.out w2 b2; have kk' := Lib.hid kk; clear kk b2)
    refine bodyPost_ret (v := .agg #[.string ⟨#[115, 116, 97, 114, 116]⟩, .slice none 0 0]) (by simp [results, Tryd.results25, go_sem, r0, r1]) rfl ?_
    exact lin_none rfl hb.out kk'.out
  by_cases h3 : k = 3
  · subst h3
    rw [show evL ⟨3, ok, m, h, g, i, n, v, en, base, pages⟩ = ([115, 116, 101, 112, 115], [(8, en)]) by simp [evL]]
    dsimp only
    have c1 := cell_of_heap hB'.out 0 _ rfl
    clear hB h1 h2
    go_enter Tryd.func25, Tryd.ntmps25
    go_upto_region 1 with fail
    generalize w.alloc (.cells #[.string ⟨#[]⟩, .slice none 0 0] 52) = W at *
    go_upto_region 7 with fail
    have key := Lib.hid (fun (w2 : World) (b2 : Below (W.alloc (.cells #[.pointer (some ⟨B, 8, none⟩)] 56)).heap.size (W.alloc (.cells #[.pointer (some ⟨B, 8, none⟩)] 56)) w2) => show w2.frozen? ⟨w.heap.size, 0, none⟩ = false ∧ w2.frozen? ⟨w.heap.size, 1, none⟩ = false ∧ w2.cell? ⟨w.heap.size, 0, none⟩ = some (.string ⟨#[]⟩) ∧ w2.cell? ⟨w.heap.size, 1, none⟩ = some (.slice none 0 0) ∧ Below W.heap.size W w2 ∧ w2.heap[W.heap.size]? = some (.cells (ptrs B [(8, en)]) 56) from by
      have b3 : Below (W.alloc (.cells #[.pointer (some ⟨B, 8, none⟩)] 56)).heap.size (W.alloc (.cells #[.pointer (some ⟨B, 8, none⟩)] 56)) w2 := ⟨b2.os, b2.tape, b2.output, b2.size, b2.block⟩
      have b4 := below_trans (below_box W (.cells #[.pointer (some ⟨B, 8, none⟩)] 56)) b3
      have h2 := heap_below b4 hC.out
      exact ⟨frozen_of_heap h2 0, frozen_of_heap h2 1, cell_of_heap h2 0 _ rfl, cell_of_heap h2 1 _ rfl, b4, heap_below b3 (box_new W (.cells #[.pointer (some ⟨B, 8, none⟩)] 56))⟩)
    go_wp2_with (go_at_call 43; refine (lineWith_any ⟨#[115, 116, 101, 112, 115]⟩ (some ⟨W.heap.size, 0, none⟩) 1 1 _).mono ?_; rintro e w2 ⟨rfl, b2⟩; obtain ⟨y0, y1, r0, r1, kk⟩ := key.out w2 b2; have kk' := Lib.hid kk; clear kk b2)
    refine bodyPost_ret (v := .agg #[.string ⟨#[115, 116, 101, 112, 115]⟩, .slice (some ⟨W.heap.size, 0, none⟩) 1 1]) (by simp [results, Tryd.results25, go_sem, r0, r1]) rfl ?_
    exact lin_close rfl hlt.out hb.out kk'.out.1 kk'.out.2 rfl
  by_cases h4 : k = 4
  · subst h4
    rw [show evL ⟨4, ok, m, h, g, i, n, v, en, base, pages⟩ = ([109, 111, 118, 101], [(9, base), (10, pages)]) by simp [evL]]
    dsimp only
    have c1 := cell_of_heap hB'.out 0 _ rfl
    clear hB h1 h2 h3
    go_enter Tryd.func25, Tryd.ntmps25
    go_upto_region 1 with fail
    generalize w.alloc (.cells #[.string ⟨#[]⟩, .slice none 0 0] 52) = W at *
    go_upto_region 9 with fail
    have key := Lib.hid (fun (w2 : World) (b2 : Below ((W.alloc (.cells #[.pointer (some ⟨B, 9, none⟩), .pointer (some ⟨B, 10, none⟩)] 56)).drew).heap.size ((W.alloc (.cells #[.pointer (some ⟨B, 9, none⟩), .pointer (some ⟨B, 10, none⟩)] 56)).drew) w2) => show w2.frozen? ⟨w.heap.size, 0, none⟩ = false ∧ w2.frozen? ⟨w.heap.size, 1, none⟩ = false ∧ w2.cell? ⟨w.heap.size, 0, none⟩ = some (.string ⟨#[]⟩) ∧ w2.cell? ⟨w.heap.size, 1, none⟩ = some (.slice none 0 0) ∧ Below W.heap.size W w2 ∧ w2.heap[W.heap.size]? = some (.cells (ptrs B [(9, base), (10, pages)]) 56) from by
      have b3 : Below (W.alloc (.cells #[.pointer (some ⟨B, 9, none⟩), .pointer (some ⟨B, 10, none⟩)] 56)).heap.size (W.alloc (.cells #[.pointer (some ⟨B, 9, none⟩), .pointer (some ⟨B, 10, none⟩)] 56)) w2 := ⟨b2.os, b2.tape, b2.output, b2.size, b2.block⟩
      have b4 := below_trans (below_box W (.cells #[.pointer (some ⟨B, 9, none⟩), .pointer (some ⟨B, 10, none⟩)] 56)) b3
      have h2 := heap_below b4 hC.out
      exact ⟨frozen_of_heap h2 0, frozen_of_heap h2 1, cell_of_heap h2 0 _ rfl, cell_of_heap h2 1 _ rfl, b4, heap_below b3 (box_new W (.cells #[.pointer (some ⟨B, 9, none⟩), .pointer (some ⟨B, 10, none⟩)] 56))⟩)
    go_region_with (go_at_call 43; refine (lineWith_any ⟨#[109, 111, 118, 101]⟩ (some ⟨W.heap.size, 0, none⟩) 2 2 _).mono ?_; rintro e w2 ⟨rfl, b2⟩; obtain ⟨y0, y1, r0, r1, kk⟩ := key.out w2 b2; have kk' := Lib.hid kk; clear kk b2)
    go_wp2_with fail
    refine bodyPost_ret (v := .agg #[.string ⟨#[109, 111, 118, 101]⟩, .slice (some ⟨W.heap.size, 0, none⟩) 2 2]) (by simp [results, Tryd.results25, go_sem, r0, r1]) rfl ?_
    exact lin_close rfl hlt.out hb.out kk'.out.1 kk'.out.2 rfl
  by_cases h5 : k = 5
  · subst h5
    rw [show evL ⟨5, ok, m, h, g, i, n, v, en, base, pages⟩ = ([102, 117, 108, 108], []) by simp [evL]]
    dsimp only
    have c1 := cell_of_heap hB'.out 0 _ rfl
    clear hB h1 h2 h3 h4
    go_enter Tryd.func25, Tryd.ntmps25
    go_upto_region 1 with fail
    generalize w.alloc (.cells #[.string ⟨#[]⟩, .slice none 0 0] 52) = W at *
    have key := Lib.hid (fun (w2 : World) (b2 : Below (W).heap.size (W) w2) => show w2.frozen? ⟨w.heap.size, 0, none⟩ = false ∧ w2.frozen? ⟨w.heap.size, 1, none⟩ = false ∧ w2.cell? ⟨w.heap.size, 0, none⟩ = some (.string ⟨#[]⟩) ∧ w2.cell? ⟨w.heap.size, 1, none⟩ = some (.slice none 0 0) ∧ Below W.heap.size W w2 from by
      have b4 := b2
      have h2 := heap_below b4 hC.out
      exact ⟨frozen_of_heap h2 0, frozen_of_heap h2 1, cell_of_heap h2 0 _ rfl, cell_of_heap h2 1 _ rfl, b4⟩)
    go_wp2_with (go_at_call 43; refine (lineWith_any ⟨#[102, 117, 108, 108]⟩ none 0 0 _).mono ?_; rintro e w2 ⟨rfl, b2⟩; obtain ⟨y0, y1, r0, r1, kk⟩ := key.out w2 b2; have kk' := Lib.hid kk; clear kk b2)
    refine bodyPost_ret (v := .agg #[.string ⟨#[102, 117, 108, 108]⟩, .slice none 0 0]) (by simp [results, Tryd.results25, go_sem, r0, r1]) rfl ?_
    exact lin_none rfl hb.out kk'.out
  by_cases h6 : k = 6
  · subst h6
    rw [show evL ⟨6, ok, m, h, g, i, n, v, en, base, pages⟩ = ([100, 101, 108, 116, 97], []) by simp [evL]]
    dsimp only
    have c1 := cell_of_heap hB'.out 0 _ rfl
    clear hB h1 h2 h3 h4 h5
    go_enter Tryd.func25, Tryd.ntmps25
    go_upto_region 1 with fail
    generalize w.alloc (.cells #[.string ⟨#[]⟩, .slice none 0 0] 52) = W at *
    have key := Lib.hid (fun (w2 : World) (b2 : Below (W).heap.size (W) w2) => show w2.frozen? ⟨w.heap.size, 0, none⟩ = false ∧ w2.frozen? ⟨w.heap.size, 1, none⟩ = false ∧ w2.cell? ⟨w.heap.size, 0, none⟩ = some (.string ⟨#[]⟩) ∧ w2.cell? ⟨w.heap.size, 1, none⟩ = some (.slice none 0 0) ∧ Below W.heap.size W w2 from by
      have b4 := b2
      have h2 := heap_below b4 hC.out
      exact ⟨frozen_of_heap h2 0, frozen_of_heap h2 1, cell_of_heap h2 0 _ rfl, cell_of_heap h2 1 _ rfl, b4⟩)
    go_wp2_with (go_at_call 43; refine (lineWith_any ⟨#[100, 101, 108, 116, 97]⟩ none 0 0 _).mono ?_; rintro e w2 ⟨rfl, b2⟩; obtain ⟨y0, y1, r0, r1, kk⟩ := key.out w2 b2; have kk' := Lib.hid kk; clear kk b2)
    refine bodyPost_ret (v := .agg #[.string ⟨#[100, 101, 108, 116, 97]⟩, .slice none 0 0]) (by simp [results, Tryd.results25, go_sem, r0, r1]) rfl ?_
    exact lin_none rfl hb.out kk'.out
  by_cases h7 : k = 7
  · subst h7
    rw [show evL ⟨7, ok, m, h, g, i, n, v, en, base, pages⟩ = ([99, 114, 97, 115, 104], [(8, en)]) by simp [evL]]
    dsimp only
    have c1 := cell_of_heap hB'.out 0 _ rfl
    clear hB h1 h2 h3 h4 h5 h6
    go_enter Tryd.func25, Tryd.ntmps25
    go_upto_region 1 with fail
    generalize w.alloc (.cells #[.string ⟨#[]⟩, .slice none 0 0] 52) = W at *
    go_upto_region 15 with fail
    have key := Lib.hid (fun (w2 : World) (b2 : Below (W.alloc (.cells #[.pointer (some ⟨B, 8, none⟩)] 56)).heap.size (W.alloc (.cells #[.pointer (some ⟨B, 8, none⟩)] 56)) w2) => show w2.frozen? ⟨w.heap.size, 0, none⟩ = false ∧ w2.frozen? ⟨w.heap.size, 1, none⟩ = false ∧ w2.cell? ⟨w.heap.size, 0, none⟩ = some (.string ⟨#[]⟩) ∧ w2.cell? ⟨w.heap.size, 1, none⟩ = some (.slice none 0 0) ∧ Below W.heap.size W w2 ∧ w2.heap[W.heap.size]? = some (.cells (ptrs B [(8, en)]) 56) from by
      have b3 : Below (W.alloc (.cells #[.pointer (some ⟨B, 8, none⟩)] 56)).heap.size (W.alloc (.cells #[.pointer (some ⟨B, 8, none⟩)] 56)) w2 := ⟨b2.os, b2.tape, b2.output, b2.size, b2.block⟩
      have b4 := below_trans (below_box W (.cells #[.pointer (some ⟨B, 8, none⟩)] 56)) b3
      have h2 := heap_below b4 hC.out
      exact ⟨frozen_of_heap h2 0, frozen_of_heap h2 1, cell_of_heap h2 0 _ rfl, cell_of_heap h2 1 _ rfl, b4, heap_below b3 (box_new W (.cells #[.pointer (some ⟨B, 8, none⟩)] 56))⟩)
    go_wp2_with (go_at_call 43; refine (lineWith_any ⟨#[99, 114, 97, 115, 104]⟩ (some ⟨W.heap.size, 0, none⟩) 1 1 _).mono ?_; rintro e w2 ⟨rfl, b2⟩; obtain ⟨y0, y1, r0, r1, kk⟩ := key.out w2 b2; have kk' := Lib.hid kk; clear kk b2)
    refine bodyPost_ret (v := .agg #[.string ⟨#[99, 114, 97, 115, 104]⟩, .slice (some ⟨W.heap.size, 0, none⟩) 1 1]) (by simp [results, Tryd.results25, go_sem, r0, r1]) rfl ?_
    exact lin_close rfl hlt.out hb.out kk'.out.1 kk'.out.2 rfl
  rw [show evL ⟨k, ok, m, h, g, i, n, v, en, base, pages⟩ = ([], []) by simp [evL, h1, h2, h3, h4, h5, h6, h7]]
  dsimp only
  have d1 : (k == 1) = false := beq_eq_false_iff_ne.2 h1
  have d2 : (k == 2) = false := beq_eq_false_iff_ne.2 h2
  have d3 : (k == 3) = false := beq_eq_false_iff_ne.2 h3
  have d4 : (k == 4) = false := beq_eq_false_iff_ne.2 h4
  have d5 : (k == 5) = false := beq_eq_false_iff_ne.2 h5
  have d6 : (k == 6) = false := beq_eq_false_iff_ne.2 h6
  have d7 : (k == 7) = false := beq_eq_false_iff_ne.2 h7
  have c1 := cell_of_heap hB'.out 0 _ rfl
  clear hB h1 h2 h3 h4 h5 h6 h7
  go_enter Tryd.func25, Tryd.ntmps25
  go_upto_region 1 with fail
  generalize w.alloc (.cells #[.string ⟨#[]⟩, .slice none 0 0] 52) = W at *
  have r0 := cell_of_heap hC.out 0 _ rfl
  have r1 := cell_of_heap hC.out 1 _ rfl
  have y0 := frozen_of_heap hC.out 0
  have y1 := frozen_of_heap hC.out 1
  go_wp2_with fail
  refine bodyPost_ret (v := .agg #[.string ⟨#[]⟩, .slice none 0 0]) (by simp [results, Tryd.results25, go_sem, r0, r1]) rfl ?_
  exact lin_none (ws := []) rfl hb.out (Below.refl _ _)

end Go.Proofs.YtjldjeokcpjgkaaDoor
