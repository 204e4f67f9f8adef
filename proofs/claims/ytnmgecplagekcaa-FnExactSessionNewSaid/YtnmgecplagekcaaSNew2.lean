/-
  The contract of the model's WorldNew.
-/
import Derived.Test.YtnmgecplagekcaaSNew
import Derived.Test.YtnmgecplagekcaaForm
namespace Go.Proofs.Ytnmgecplagekcaa
open Go.RowKit
set_option linter.unusedVariables false

def zeroD : WD := ⟨0, 0, [], [], [], [], 0, 0, []⟩
def zeroS : Shape := ⟨.slice none 0 0, .slice none 0 0, .slice none 0 0, .slice none 0 0, .slice none 0 0, [], []⟩
theorem own_zero (w : World) (base : Nat) : OwnW w base zeroS zeroD :=
  ⟨World.ownsRow_nil _ _ _ _, World.ownsRow_nil _ _ _ _, World.ownsRow_nil _ _ _ _, rfl, fun i s p h => by simp [zeroD] at h, World.ownsRow_nil _ _ _ _, rfl, fun i r v h => by simp [zeroD] at h, World.ownsRow_nil _ _ _ _, (show ([] : List Nat).Nodup from List.nodup_nil)⟩
theorem OwnW.lits {w : World} {base : Nat} {S : Shape} {D : WD} (h : OwnW w base S D) : ∃ a1 n1 c1 a2 n2 c2 a3 n3 c3 a4 n4 c4 a5 n5 c5 sv mv, S = ⟨.slice a1 n1 c1, .slice a2 n2 c2, .slice a3 n3 c3, .slice a4 n4 c4, .slice a5 n5 c5, sv, mv⟩ := by
  obtain ⟨vw, vd, vs, vm, vg, sv, mv⟩ := S
  obtain ⟨a1, c1, h1⟩ := own_slice h.words
  obtain ⟨a2, c2, h2⟩ := own_slice h.dirty
  obtain ⟨a3, c3, h3⟩ := own_slice h.spans
  obtain ⟨a4, c4, h4⟩ := own_slice h.muts
  obtain ⟨a5, c5, h5⟩ := own_slice h.grey
  simp only at h1 h2 h3 h4 h5
  subst h1 h2 h3 h4 h5
  exact ⟨_, _, _, _, _, _, _, _, _, _, _, _, _, _, _, _, _, rfl⟩
theorem OwnW.chg0 {w w' : World} {base : Nat} {S : Shape} {D : WD} {bs : List Nat} (h : OwnW w base S D) (hc : Chg bs w w') (hn : ∀ q, q ∈ bs → q < base) : OwnW w' base S D := by
  have f : ∀ {x : Value} {n : Nat} {xs : List Value} {t : TypeId} {sz : Nat}, w.ownsRow base t sz x n xs → w'.ownsRow base t sz x n xs := fun hx => own_chg hx hc fun q hq hm => by have := (hx.lt q hq).1; have := hn q hm; omega
  exact ⟨f h.words, f h.dirty, f h.spans, h.svl, fun i s p h1 h2 => ⟨f (h.inner i s p h1 h2).1, f (h.inner i s p h1 h2).2⟩, f h.muts, h.mvl, fun i r v h1 h2 => f (h.innerM i r v h1 h2), f h.grey, h.nodup⟩
theorem OwnW.base_le {w : World} {base base' : Nat} {S : Shape} {D : WD} (h : OwnW w base S D) (hb : base' ≤ base) : OwnW w base' S D :=
  ⟨own_base h.words hb, own_base h.dirty hb, own_base h.spans hb, h.svl, fun i s p h1 h2 => ⟨own_base (h.inner i s p h1 h2).1 hb, own_base (h.inner i s p h1 h2).2 hb⟩, own_base h.muts hb, h.mvl, fun i r v h1 h2 => own_base (h.innerM i r v h1 h2) hb, own_base h.grey hb, h.nodup⟩
theorem new_fin {w w2 wF : World} {o : Obj} {S : Shape} {D : WD} (h : OwnW w2 (w.heap.size + 1) S D) (hb : Below (w.alloc o).heap.size (w.alloc o) w2) (hc : Chg [w.heap.size] w2 wF) : OwnW wF w.heap.size S D ∧ Below w.heap.size w wF :=
  ⟨(h.chg0 hc (fun q hq => by rw [List.mem_singleton.1 hq]; omega)).base_le (by omega), Chg.below (below_trans (below_box w o) hb) hc (below_trans (below_box w o) hb).size (fun q hq => by rw [List.mem_singleton.1 hq]; omega)⟩
/-- What WorldNew answers. -/
def NewIs (b p m : Int) (D : WD) (f : Bool) : Prop := (Geo b p m ∧ D = newD b p.toNat m.toNat ∧ f = true) ∨ (¬ Geo b p m ∧ D = zeroD ∧ f = false)

set_option maxRecDepth 100000 in
set_option maxHeartbeats 4000000 in
theorem sworldNew_any (b p m : Int) (w : World) :
    Calls Try.prog 9 #[.int .i64 b, .int .i64 p, .int .i64 m] w fun e w' => ∃ S D f, NewIs b p m D f ∧ e = .returned (.tuple #[S.val D, .bool f]) ∧ OwnW w' w.heap.size S D ∧ Below w.heap.size w w' := by
  have hg := Lib.hid (fun w => geometry_any b p m w)
  by_cases g : Geo b p m
  · have g' := Lib.hid g
    obtain ⟨g1, g2, g3, g4, g5, g6, g7⟩ := g
    have hn := Lib.hid (snew_any b p.toNat m.toNat (by omega) (by omega))
    simp only [Int.toNat_of_nonneg (show 0 ≤ p by omega), Int.toNat_of_nonneg (show 0 ≤ m by omega)] at hn
    go_enter Try.func9, Try.ntmps9
    go_wp2_with (first
      | (go_at_call 16; refine (hg.out _).mono ?_; rintro e w' ⟨hq, rfl⟩; obtain ⟨r, rfl, hr⟩ := hq; obtain rfl : r = true := hr.2 g'.out; clear hr)
      | (go_at_call 17; refine (hn.out _).mono ?_; rintro e w2 ⟨S, rfl, hS, hb⟩; obtain ⟨a1, k1, c1, a2, k2, c2, a3, k3, c3, a4, k4, c4, a5, k5, c5, sv, mv, rfl⟩ := hS.lits; have R2 := heap_below hb (box_new w (.cells #[.int .i64 0, .int .i64 0, .slice none 0 0, .slice none 0 0, .slice none 0 0, .slice none 0 0, .int .i64 0, .int .i64 0, .slice none 0 0] 29)); have n0 := cell_of_heap R2 0 _ rfl; have z0 := frozen_of_heap R2 0; have n1 := cell_of_heap R2 1 _ rfl; have z1 := frozen_of_heap R2 1; have n2 := cell_of_heap R2 2 _ rfl; have z2 := frozen_of_heap R2 2; have n3 := cell_of_heap R2 3 _ rfl; have z3 := frozen_of_heap R2 3; have n4 := cell_of_heap R2 4 _ rfl; have z4 := frozen_of_heap R2 4; have n5 := cell_of_heap R2 5 _ rfl; have z5 := frozen_of_heap R2 5; have n6 := cell_of_heap R2 6 _ rfl; have z6 := frozen_of_heap R2 6; have n7 := cell_of_heap R2 7 _ rfl; have z7 := frozen_of_heap R2 7; have n8 := cell_of_heap R2 8 _ rfl; have z8 := frozen_of_heap R2 8; have H := Lib.hid (And.intro hS hb); clear hS hb R2; dsimp only [Shape.val, newD]))
    refine bodyPost_ret (v := .tuple #[.agg #[.int .i64 b, .int .i64 p.toNat, .slice a1 k1 c1, .slice a2 k2 c2, .slice a3 k3 c3, .slice a4 k4 c4, .int .i64 0, .int .i64 0, .slice a5 k5 c5], .bool true]) (by simp [results, Try.results9, go_sem, n0, n1, n2, n3, n4, n5, n6, n7, n8]) rfl ?_
    obtain ⟨hS, hb⟩ := H.out
    simp only [World.size_alloc] at hS
    exact ⟨_, newD b p.toNat m.toNat, true, .inl ⟨g'.out, rfl, rfl⟩, rfl, new_fin hS hb ((((((((((Chg.refl [w.heap.size] w2).put (b := w.heap.size) (by simp) 0 _).put (b := w.heap.size) (by simp) 1 _).put (b := w.heap.size) (by simp) 2 _).put (b := w.heap.size) (by simp) 3 _).put (b := w.heap.size) (by simp) 4 _).put (b := w.heap.size) (by simp) 5 _).put (b := w.heap.size) (by simp) 6 _).put (b := w.heap.size) (by simp) 7 _).put (b := w.heap.size) (by simp) 8 _)⟩
  · have g' := Lib.hid g
    clear g
    go_enter Try.func9, Try.ntmps9
    go_wp2_with (first
      | (go_at_call 16; refine (hg.out _).mono ?_; rintro e w' ⟨hq, rfl⟩; obtain ⟨r, rfl, hr⟩ := hq; obtain rfl : r = false := (by cases r; rfl; exact absurd (hr.1 rfl) g'.out); clear hr))
    have R2 := box_new w (.cells #[.int .i64 0, .int .i64 0, .slice none 0 0, .slice none 0 0, .slice none 0 0, .slice none 0 0, .int .i64 0, .int .i64 0, .slice none 0 0] 29)
    have n0 := cell_of_heap R2 0 _ rfl
    have n1 := cell_of_heap R2 1 _ rfl
    have n2 := cell_of_heap R2 2 _ rfl
    have n3 := cell_of_heap R2 3 _ rfl
    have n4 := cell_of_heap R2 4 _ rfl
    have n5 := cell_of_heap R2 5 _ rfl
    have n6 := cell_of_heap R2 6 _ rfl
    have n7 := cell_of_heap R2 7 _ rfl
    have n8 := cell_of_heap R2 8 _ rfl
    refine bodyPost_ret (v := .tuple #[zeroS.val zeroD, .bool false]) (by simp [results, Try.results9, go_sem, n0, n1, n2, n3, n4, n5, n6, n7, n8, Shape.val, zeroS, zeroD]) rfl ?_
    exact ⟨zeroS, zeroD, false, .inr ⟨g'.out, rfl, rfl⟩, rfl, own_zero _ _, below_box w _⟩
end Go.Proofs.Ytnmgecplagekcaa
