/-
  What a Graph is as plain data, what it means that a value reads as such data; the laws' eqObj, eqObjS, eqGraph.
-/
import Derived.Test.YtaaflpklbhjepaaWEq
namespace Go.Proofs.Ytaaflpklbhjepaa
open Go.RowKit
set_option linter.unusedVariables false

/-- An object: its pointers, its words. -/
structure ObD where
  p : List Int
  v : List Int
/-- A Graph: its objects, its users' roots. -/
structure GD where
  objs : List ObD
  muts : List (List Int)
def ObD.bulk (o : ObD) : Nat := o.p.length + o.v.length
def bulkO (l : List ObD) : Nat := (l.map ObD.bulk).sum
def GD.bulk (D : GD) : Nat := (D.objs.length + bulkO D.objs) + (D.muts.length + bulkM D.muts)
/-- Two cells from (b, o) on read as the object x. -/
def RdObj (w : World) (b o : Nat) (x : ObD) : Prop :=
  ∃ vp vv, w.cell? ⟨b, o, none⟩ = some vp ∧ w.cell? ⟨b, o + 1, none⟩ = some vv ∧ Rd w vp x.p ∧ Rd w vv x.v
/-- The slice value v reads as the objects L. -/
def RdO (w : World) (v : Value) (L : List ObD) : Prop :=
  ∃ a cap, v = .slice a L.length cap ∧ L.length ≤ maxLen ∧ ∀ j s, L[j]? = some s → ∃ b off, a = some ⟨b, off, none⟩ ∧ RdObj w b (off + j * 2) s
/-- The struct's two values. -/
def RdG (w : World) (v : Value) (D : GD) : Prop :=
  ∃ vo vm, v = .agg #[vo, vm] ∧ RdO w vo D.objs ∧ RdM w vm D.muts
section
variable {w w' : World} {v : Value}
theorem RdObj.below {b o : Nat} {x : ObD} (h : RdObj w b o x) (hb : Below w.heap.size w w') : RdObj w' b o x := by
  obtain ⟨vp, vv, h0, h1, h2, h3⟩ := h
  exact ⟨vp, vv, cell_below hb h0, cell_below hb h1, h2.below hb, h3.below hb⟩
theorem RdO.below {L : List ObD} (h : RdO w v L) (hb : Below w.heap.size w w') : RdO w' v L := by
  obtain ⟨a, cap, rfl, hl, hc⟩ := h
  refine ⟨a, cap, rfl, hl, fun j s hj => ?_⟩
  obtain ⟨b, off, rfl, hx⟩ := hc j s hj
  exact ⟨b, off, rfl, hx.below hb⟩
theorem RdG.below {D : GD} (h : RdG w v D) (hb : Below w.heap.size w w') : RdG w' v D := by
  obtain ⟨vo, vm, rfl, h1, h2⟩ := h
  exact ⟨vo, vm, rfl, h1.below hb, h2.below hb⟩
end

set_option maxHeartbeats 1000000 in
theorem eqObj_same (s : ObD) (vl vp vl' vp' : Value) (w : World) (hl : Rd w vl s.p) (hp : Rd w vp s.v) (hl' : Rd w vl' s.p) (hp' : Rd w vp' s.v) :
    Calls Try.prog 43 #[.agg #[vl, vp], .agg #[vl', vp']] w fun e w' => e = .returned (.bool true) ∧ Below w.heap.size w w' := by
  have bb : Below w.heap.size w ((w.alloc (.cells #[vl, vp] 44)).alloc (.cells #[vl', vp'] 44)) :=
    below_trans (below_box _ _) (below_box _ _)
  have xl := hl.below bb
  have xp := hp.below bb
  have xl' := hl'.below bb
  have xp' := hp'.below bb
  clear hl hp hl' hp'
  go_enter Try.func43, Try.ntmps43
  go_wp2_with fail
  refine (eqIntS_same _ _ s.p _ xl xl').mono ?_
  rintro e w1 ⟨rfl, n, rfl⟩
  go_wp2_with fail
  refine (eqIntS_same _ _ s.v _ (xp.drewN n) (xp'.drewN n)).mono ?_
  rintro e w1 ⟨rfl, m, rfl⟩
  go_wp2_with fail
  go_ret
  exact ⟨rfl, below_trans bb (below_drewN' _)⟩

set_option maxRecDepth 100000 in
set_option maxHeartbeats 2000000 in
theorem eqObjS_same (v1 v2 : Value) (L : List ObD) (w : World) (h1 : RdO w v1 L) (h2 : RdO w v2 L) :
    Calls Try.prog 25 #[v1, v2] w fun e w' => e = .returned (.bool true) ∧ Below w.heap.size w w' := by
  obtain ⟨a1, c1, rfl, hL, r1⟩ := h1
  obtain ⟨a2, c2, rfl, _, r2⟩ := h2
  unfold maxLen at hL
  obtain ⟨r1⟩ : Nonempty (Hid _) := ⟨Lib.hid r1⟩
  obtain ⟨r2⟩ : Nonempty (Hid _) := ⟨Lib.hid r2⟩
  go_enter Try.func25, Try.ntmps25
  go_wp2
  go_loopw [5] (fun i wr => ∃ k : Nat, k ≤ L.length ∧ i = .int .i64 k ∧ Below w.heap.size w wr) (fun i _ => L.length - (intOf i).toNat)
  case atStart => exact ⟨0, Nat.zero_le _, rfl, Below.refl _ _⟩
  case round =>
    obtain ⟨k, hk, rfl, hB⟩ := hrel
    by_cases hlt : k < L.length
    · obtain ⟨s, hs⟩ : ∃ s, L[k]? = some s := ⟨_, List.getElem?_eq_getElem hlt⟩
      obtain ⟨b1, o1, rfl, p1⟩ := r1.out k s hs
      obtain ⟨b2, o2, rfl, p2⟩ := r2.out k s hs
      obtain ⟨vl, vp, x0, x1, xl, xp⟩ := p1.below hB
      obtain ⟨vl', vp', y0, y1, yl, yp⟩ := p2.below hB
      have hlt' : (k : Int) < (L.length : Int) := by omega
      clear hs p1 p2
      go_wp2_with fail
      go_still_tail 8, (by kernel_rfl)
      change wpList _ _ _ _ _ wr.drew
      go_wp2_with fail
      refine (eqObj_same s vl vp vl' vp' wr.drew xl xp yl yp).mono ?_
      rintro e w2 ⟨rfl, b2⟩
      have hB2 := below_trans hB.drew b2
      clear x0 x1 y0 y1 xl xp yl yp hB b2
      go_wp2_with fail
      go_roundw
      case rel => exact ⟨k + 1, by omega, by go_num, hB2⟩
      case measure => simp [intOf]; omega
    · obtain rfl : k = L.length := by omega
      go_wp2
      go_ret
      exact ⟨rfl, hB⟩

set_option maxRecDepth 100000 in
set_option maxHeartbeats 2000000 in
theorem eqGraph_same (v1 v2 : Value) (D : GD) (w : World) (h1 : RdG w v1 D) (h2 : RdG w v2 D) :
    Calls Try.prog 10 #[v1, v2] w fun e w' => e = .returned (.bool true) ∧ Below w.heap.size w w' := by
  obtain ⟨vo, vm, rfl, a1, a2⟩ := h1
  obtain ⟨vo', vm', rfl, c1, c2⟩ := h2
  go_enter Try.func10, Try.ntmps10
  go_wp2_with fail
  have p1 := box_new w (.cells #[vo, vm] 31)
  have b1 := below_box w (.cells #[vo, vm] 31)
  have p2 := box_new (w.alloc (.cells #[vo, vm] 31)) (.cells #[vo', vm'] 31)
  have b2 := below_box (w.alloc (.cells #[vo, vm] 31)) (.cells #[vo', vm'] 31)
  rw [World.size_alloc] at p2
  have bb := below_trans b1 b2
  have p1' := heap_below b2 p1
  obtain ⟨p1⟩ : Nonempty (Hid _) := ⟨Lib.hid p1'⟩
  obtain ⟨p2⟩ : Nonempty (Hid _) := ⟨Lib.hid p2⟩
  clear p1' b1 b2
  refine (eqObjS_same _ _ D.objs _ (a1.below bb) (c1.below bb)).mono ?_
  rintro e w3 ⟨rfl, b3⟩
  have q1 : w3.heap[w.heap.size]? = _ := heap_below b3 p1.out
  have q2 : w3.heap[w.heap.size + 1]? = _ := heap_below b3 p2.out
  have bb3 := below_trans bb b3
  have f1 := cell_of_heap q1 1 _ rfl
  have g1 := cell_of_heap q2 1 _ rfl
  clear b3 q1 q2
  go_wp2_with fail
  refine (eqMutS_same _ _ D.muts _ (a2.below bb3) (c2.below bb3)).mono ?_
  rintro e w4 ⟨rfl, b4⟩
  clear f1 g1
  go_wp2_with fail
  go_ret
  exact ⟨rfl, below_trans bb3 b4⟩
end Go.Proofs.Ytaaflpklbhjepaa
