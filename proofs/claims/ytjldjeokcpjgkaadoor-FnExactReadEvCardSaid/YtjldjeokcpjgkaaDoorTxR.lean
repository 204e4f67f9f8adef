/-
  Rows of events: what reads as one, a copy of one (laws.toEvS), two compared (laws.eqEvS).
-/
import Derived.Test.YtjldjeokcpjgkaaDoorTxTo
namespace Go.Proofs.YtjldjeokcpjgkaaDoor
open Go.RowKit
set_option linter.unusedVariables false
set_option linter.unusedSimpArgs false

/-- The cells from (b, o) on are the event's. -/
def RdEv (w : World) (b o : Nat) (E : EvD) : Prop := ∀ (i : Nat) x, E.cells[i]? = some x → w.cell? ⟨b, o + i, none⟩ = some x
def RdE (w : World) (v : Value) (L : List EvD) : Prop :=
  ∃ a cap, v = .slice a L.length cap ∧ L.length ≤ maxLen ∧ ∀ (j : Nat) E, L[j]? = some E → ∃ b off, a = some ⟨b, off, none⟩ ∧ RdEv w b (off + j * 11) E
theorem RdEv.below {w w' : World} {b o : Nat} {E : EvD} (h : RdEv w b o E) (hb : Below w.heap.size w w') : RdEv w' b o E := fun i x hx => cell_below hb (h i x hx)
theorem RdE.below {w w' : World} {v : Value} {L : List EvD} (h : RdE w v L) (hb : Below w.heap.size w w') : RdE w' v L := by
  obtain ⟨a, c, h1, h2, h3⟩ := h
  exact ⟨a, c, h1, h2, fun j E hE => (h3 j E hE).elim fun b h => h.elim fun off h => ⟨b, off, h.1, h.2.below hb⟩⟩
theorem RdEv.all {w : World} {b o : Nat} {E : EvD} (h : RdEv w b o E) : w.cell? ⟨b, o, none⟩ = some (.int .i64 E.k) ∧ w.cell? ⟨b, o + 1, none⟩ = some (.int .i64 E.ok) ∧ w.cell? ⟨b, o + 2, none⟩ = some (.int .i64 E.m) ∧ w.cell? ⟨b, o + 3, none⟩ = some (.int .i64 E.h) ∧ w.cell? ⟨b, o + 4, none⟩ = some (.int .i64 E.g) ∧ w.cell? ⟨b, o + 5, none⟩ = some (.int .i64 E.i) ∧ w.cell? ⟨b, o + 6, none⟩ = some (.int .i64 E.n) ∧ w.cell? ⟨b, o + 7, none⟩ = some (.int .i64 E.v) ∧ w.cell? ⟨b, o + 8, none⟩ = some (.int .i64 E.en) ∧ w.cell? ⟨b, o + 9, none⟩ = some (.int .i64 E.base) ∧ w.cell? ⟨b, o + 10, none⟩ = some (.int .i64 E.pages) :=
  ⟨h 0 (.int .i64 E.k) rfl, h 1 _ rfl, h 2 _ rfl, h 3 _ rfl, h 4 _ rfl, h 5 _ rfl, h 6 _ rfl, h 7 _ rfl, h 8 _ rfl, h 9 _ rfl, h 10 _ rfl⟩
def zero11 : List Value := [.int .i64 0, .int .i64 0, .int .i64 0, .int .i64 0, .int .i64 0, .int .i64 0, .int .i64 0, .int .i64 0, .int .i64 0, .int .i64 0, .int .i64 0]
def flatE (L : List EvD) : List Value := L.flatMap fun E => E.cells.toList
def rowE (L : List EvD) (k : Nat) : List Value := flatE (L.take k) ++ (List.replicate (L.length - k) zero11).flatten
theorem flatE_len (L : List EvD) : (flatE L).length = L.length * 11 := by
  induction L with
  | nil => rfl
  | cons E L ih =>
    have e : flatE (E :: L) = E.cells.toList ++ flatE L := by simp [flatE]
    rw [e, List.length_append, ih, List.length_cons]
    simp [EvD.cells]; omega
theorem set11 (A B : List Value) (z0 z1 z2 z3 z4 z5 z6 z7 z8 z9 z10 u0 u1 u2 u3 u4 u5 u6 u7 u8 u9 u10 : Value) (m : Nat) (h : A.length = m) :
    (((((((((((A ++ z0 :: z1 :: z2 :: z3 :: z4 :: z5 :: z6 :: z7 :: z8 :: z9 :: z10 :: B).set m u0).set (m + 1) u1).set (m + 2) u2).set (m + 3) u3).set (m + 4) u4).set (m + 5) u5).set (m + 6) u6).set (m + 7) u7).set (m + 8) u8).set (m + 9) u9).set (m + 10) u10 = A ++ u0 :: u1 :: u2 :: u3 :: u4 :: u5 :: u6 :: u7 :: u8 :: u9 :: u10 :: B := by
  subst h
  simp
theorem rowE_next (L : List EvD) (k : Nat) (E : EvD) (h : L[k]? = some E) : (((((((((((rowE L k).set (k * 11) (.int .i64 E.k)).set (k * 11 + 1) (.int .i64 E.ok)).set (k * 11 + 2) (.int .i64 E.m)).set (k * 11 + 3) (.int .i64 E.h)).set (k * 11 + 4) (.int .i64 E.g)).set (k * 11 + 5) (.int .i64 E.i)).set (k * 11 + 6) (.int .i64 E.n)).set (k * 11 + 7) (.int .i64 E.v)).set (k * 11 + 8) (.int .i64 E.en)).set (k * 11 + 9) (.int .i64 E.base)).set (k * 11 + 10) (.int .i64 E.pages) = rowE L (k + 1) := by
  have hk := (List.getElem?_eq_some_iff.1 h).1
  have hE : L[k] = E := (List.getElem?_eq_some_iff.1 h).2
  have e : L.length - k = (L.length - (k + 1)) + 1 := by omega
  have hl : (flatE (L.take k)).length = k * 11 := by rw [flatE_len, List.length_take]; congr 1; omega
  unfold rowE
  rw [e, List.replicate_succ, List.flatten_cons, List.take_succ_eq_append_getElem hk, hE]
  refine (set11 (flatE (L.take k)) _ _ _ _ _ _ _ _ _ _ _ _ _ _ _ _ _ _ _ _ _ _ _ _ hl).trans ?_
  simp [flatE, EvD.cells]
theorem rowE_zero (L : List EvD) : rowE L 0 = (List.replicate L.length zero11).flatten := by simp [rowE, flatE]
theorem rowE_all (L : List EvD) : rowE L L.length = flatE L := by simp [rowE]
theorem made11 (n : Nat) : (madeCells zero11.toArray (n * 11)).toList = (List.replicate n zero11).flatten := by
  induction n with
  | zero => simp [madeCells]
  | succ n ih =>
    have e : (n + 1) * 11 = n * 11 + 1 + 1 + 1 + 1 + 1 + 1 + 1 + 1 + 1 + 1 + 1 := by omega
    have m0 : (n * 11) % 11 = 0 := by omega
    have m1 : (n * 11 + 1) % 11 = 1 := by omega
    have m2 : (n * 11 + 1 + 1) % 11 = 2 := by omega
    have m3 : (n * 11 + 1 + 1 + 1) % 11 = 3 := by omega
    have m4 : (n * 11 + 1 + 1 + 1 + 1) % 11 = 4 := by omega
    have m5 : (n * 11 + 1 + 1 + 1 + 1 + 1) % 11 = 5 := by omega
    have m6 : (n * 11 + 1 + 1 + 1 + 1 + 1 + 1) % 11 = 6 := by omega
    have m7 : (n * 11 + 1 + 1 + 1 + 1 + 1 + 1 + 1) % 11 = 7 := by omega
    have m8 : (n * 11 + 1 + 1 + 1 + 1 + 1 + 1 + 1 + 1) % 11 = 8 := by omega
    have m9 : (n * 11 + 1 + 1 + 1 + 1 + 1 + 1 + 1 + 1 + 1) % 11 = 9 := by omega
    have m10 : (n * 11 + 1 + 1 + 1 + 1 + 1 + 1 + 1 + 1 + 1 + 1) % 11 = 10 := by omega
    have hsz : zero11.toArray.size = 11 := rfl
    have hm : ∀ m, (madeCells zero11.toArray m).toList = (List.range m).map (fun j => zero11.toArray[j % 11]!) := by
      intro m; unfold madeCells; rw [hsz]; simp
    rw [List.replicate_succ', List.flatten_append, ← ih, hm, hm, e]
    simp only [List.range_succ, List.map_append, List.map_cons, List.map_nil, m0, m1, m2, m3, m4, m5, m6, m7, m8, m9, m10, List.append_assoc]
    rfl
theorem infoEv : (Tryd.prog.info? 29).map (fun i => (i.zero, i.size, i.bytes)) = some (some (.agg zero11.toArray), 11, 88) := by kernel_rfl
theorem RdE.of_owns {w : World} {base g : Nat} {L : List EvD} (hl : L.length ≤ maxLen) (h : w.ownsRow base 29 11 (.slice (some ⟨g, 0, none⟩) L.length L.length) L.length (flatE L)) : RdE w (.slice (some ⟨g, 0, none⟩) L.length L.length) L := by
  refine ⟨_, _, rfl, hl, fun j E hE => ⟨g, 0, rfl, fun i x hx => ?_⟩⟩
  have hj := (List.getElem?_eq_some_iff.1 hE).1
  have hi : i < 11 := by have := (Array.getElem?_eq_some_iff.1 hx).1; simpa [EvD.cells] using this
  rw [Nat.zero_add, h.cellAt (j * 11 + i) (by omega)]
  have e : L = L.take j ++ E :: L.drop (j + 1) := by
    have hE' : L[j] = E := (List.getElem?_eq_some_iff.1 hE).2
    rw [← hE', List.getElem_cons_drop, List.take_append_drop]
  have hl2 : (flatE (L.take j)).length = j * 11 := by rw [flatE_len, List.length_take]; congr 1; omega
  have e2 : flatE L = flatE (L.take j) ++ (E.cells.toList ++ flatE (L.drop (j + 1))) := by
    conv => lhs; rw [e]
    simp [flatE]
  rw [e2, List.getElem?_append_right (by omega), hl2, show j * 11 + i - j * 11 = i by omega, List.getElem?_append_left (by simp [EvD.cells]; omega)]
  simpa using hx

set_option maxRecDepth 100000 in
set_option maxHeartbeats 4000000 in
theorem eqOp_ev (E : EvD) (w : World) : Calls Tryd.prog 36 #[.agg #[.int .i64 E.ok, .int .i64 E.m, .int .i64 E.h, .int .i64 E.g, .int .i64 E.i, .int .i64 E.n, .int .i64 E.v], .agg #[.int .i64 E.ok, .int .i64 E.m, .int .i64 E.h, .int .i64 E.g, .int .i64 E.i, .int .i64 E.n, .int .i64 E.v]] w fun e w' => e = .returned (.bool true) ∧ Below w.heap.size w w' := by
  have bb : Below w.heap.size w ((w.alloc (.cells #[.int .i64 E.ok, .int .i64 E.m, .int .i64 E.h, .int .i64 E.g, .int .i64 E.i, .int .i64 E.n, .int .i64 E.v] 27)).alloc (.cells #[.int .i64 E.ok, .int .i64 E.m, .int .i64 E.h, .int .i64 E.g, .int .i64 E.i, .int .i64 E.n, .int .i64 E.v] 27)) := below_trans (below_box _ _) (below_box _ _)
  go_enter Tryd.func36, Tryd.ntmps36
  go_wp2_with fail
  go_ret
  exact ⟨rfl, bb⟩
set_option maxRecDepth 100000 in
set_option maxHeartbeats 4000000 in
theorem eqEv_same (E : EvD) (w : World) : Calls Tryd.prog 12 #[.agg #[.int .i64 E.k, .int .i64 E.ok, .int .i64 E.m, .int .i64 E.h, .int .i64 E.g, .int .i64 E.i, .int .i64 E.n, .int .i64 E.v, .int .i64 E.en, .int .i64 E.base, .int .i64 E.pages], .agg #[.int .i64 E.k, .int .i64 E.ok, .int .i64 E.m, .int .i64 E.h, .int .i64 E.g, .int .i64 E.i, .int .i64 E.n, .int .i64 E.v, .int .i64 E.en, .int .i64 E.base, .int .i64 E.pages]] w fun e w' => e = .returned (.bool true) ∧ Below w.heap.size w w' := by
  have bb := Lib.hid (below_trans (below_box w (.cells #[.int .i64 E.k, .int .i64 E.ok, .int .i64 E.m, .int .i64 E.h, .int .i64 E.g, .int .i64 E.i, .int .i64 E.n, .int .i64 E.v, .int .i64 E.en, .int .i64 E.base, .int .i64 E.pages] 29)) (below_box _ (.cells #[.int .i64 E.k, .int .i64 E.ok, .int .i64 E.m, .int .i64 E.h, .int .i64 E.g, .int .i64 E.i, .int .i64 E.n, .int .i64 E.v, .int .i64 E.en, .int .i64 E.base, .int .i64 E.pages] 29)))
  have h1 := Lib.hid (heap_below (below_box (w.alloc (.cells #[.int .i64 E.k, .int .i64 E.ok, .int .i64 E.m, .int .i64 E.h, .int .i64 E.g, .int .i64 E.i, .int .i64 E.n, .int .i64 E.v, .int .i64 E.en, .int .i64 E.base, .int .i64 E.pages] 29)) (.cells #[.int .i64 E.k, .int .i64 E.ok, .int .i64 E.m, .int .i64 E.h, .int .i64 E.g, .int .i64 E.i, .int .i64 E.n, .int .i64 E.v, .int .i64 E.en, .int .i64 E.base, .int .i64 E.pages] 29)) (box_new w (.cells #[.int .i64 E.k, .int .i64 E.ok, .int .i64 E.m, .int .i64 E.h, .int .i64 E.g, .int .i64 E.i, .int .i64 E.n, .int .i64 E.v, .int .i64 E.en, .int .i64 E.base, .int .i64 E.pages] 29)))
  have h2 := Lib.hid (show ((w.alloc (.cells #[.int .i64 E.k, .int .i64 E.ok, .int .i64 E.m, .int .i64 E.h, .int .i64 E.g, .int .i64 E.i, .int .i64 E.n, .int .i64 E.v, .int .i64 E.en, .int .i64 E.base, .int .i64 E.pages] 29)).alloc (.cells #[.int .i64 E.k, .int .i64 E.ok, .int .i64 E.m, .int .i64 E.h, .int .i64 E.g, .int .i64 E.i, .int .i64 E.n, .int .i64 E.v, .int .i64 E.en, .int .i64 E.base, .int .i64 E.pages] 29)).heap[w.heap.size + 1]? = some (.cells #[.int .i64 E.k, .int .i64 E.ok, .int .i64 E.m, .int .i64 E.h, .int .i64 E.g, .int .i64 E.i, .int .i64 E.n, .int .i64 E.v, .int .i64 E.en, .int .i64 E.base, .int .i64 E.pages] 29 (0, 0)) by
    have h := box_new (w.alloc (.cells #[.int .i64 E.k, .int .i64 E.ok, .int .i64 E.m, .int .i64 E.h, .int .i64 E.g, .int .i64 E.i, .int .i64 E.n, .int .i64 E.v, .int .i64 E.en, .int .i64 E.base, .int .i64 E.pages] 29)) (.cells #[.int .i64 E.k, .int .i64 E.ok, .int .i64 E.m, .int .i64 E.h, .int .i64 E.g, .int .i64 E.i, .int .i64 E.n, .int .i64 E.v, .int .i64 E.en, .int .i64 E.base, .int .i64 E.pages] 29)
    rw [World.size_alloc] at h
    exact h)
  go_enter Tryd.func12, Tryd.ntmps12
  go_upto_region 1 with fail
  generalize (w.alloc (.cells #[.int .i64 E.k, .int .i64 E.ok, .int .i64 E.m, .int .i64 E.h, .int .i64 E.g, .int .i64 E.i, .int .i64 E.n, .int .i64 E.v, .int .i64 E.en, .int .i64 E.base, .int .i64 E.pages] 29)).alloc (.cells #[.int .i64 E.k, .int .i64 E.ok, .int .i64 E.m, .int .i64 E.h, .int .i64 E.g, .int .i64 E.i, .int .i64 E.n, .int .i64 E.v, .int .i64 E.en, .int .i64 E.base, .int .i64 E.pages] 29) = W at *
  have x0 := cell_of_heap h1.out 0 _ rfl
  have x1 := cell_of_heap h1.out 1 _ rfl
  have x2 := cell_of_heap h1.out 2 _ rfl
  have x3 := cell_of_heap h1.out 3 _ rfl
  have x4 := cell_of_heap h1.out 4 _ rfl
  have x5 := cell_of_heap h1.out 5 _ rfl
  have x6 := cell_of_heap h1.out 6 _ rfl
  have x7 := cell_of_heap h1.out 7 _ rfl
  have x8 := cell_of_heap h1.out 8 _ rfl
  have x9 := cell_of_heap h1.out 9 _ rfl
  have x10 := cell_of_heap h1.out 10 _ rfl
  have y0 := cell_of_heap h2.out 0 _ rfl
  have y1 := cell_of_heap h2.out 1 _ rfl
  have y2 := cell_of_heap h2.out 2 _ rfl
  have y3 := cell_of_heap h2.out 3 _ rfl
  have y4 := cell_of_heap h2.out 4 _ rfl
  have y5 := cell_of_heap h2.out 5 _ rfl
  have y6 := cell_of_heap h2.out 6 _ rfl
  have y7 := cell_of_heap h2.out 7 _ rfl
  have y8 := cell_of_heap h2.out 8 _ rfl
  have y9 := cell_of_heap h2.out 9 _ rfl
  have y10 := cell_of_heap h2.out 10 _ rfl
  go_wp2_with fail
  refine (eqOp_ev E W).mono ?_
  rintro e w1 ⟨rfl, b1⟩
  have bb1 := Lib.hid (below_trans bb.out b1)
  have g1 := Lib.hid (heap_below b1 h1.out)
  have g2 := Lib.hid (heap_below b1 h2.out)
  clear b1 x0 y0 x1 y1 x2 y2 x3 y3 x4 y4 x5 y5 x6 y6 x7 y7 x8 y8 x9 y9 x10 y10
  have x0 := cell_of_heap g1.out 0 _ rfl
  have x1 := cell_of_heap g1.out 1 _ rfl
  have x2 := cell_of_heap g1.out 2 _ rfl
  have x3 := cell_of_heap g1.out 3 _ rfl
  have x4 := cell_of_heap g1.out 4 _ rfl
  have x5 := cell_of_heap g1.out 5 _ rfl
  have x6 := cell_of_heap g1.out 6 _ rfl
  have x7 := cell_of_heap g1.out 7 _ rfl
  have x8 := cell_of_heap g1.out 8 _ rfl
  have x9 := cell_of_heap g1.out 9 _ rfl
  have x10 := cell_of_heap g1.out 10 _ rfl
  have y0 := cell_of_heap g2.out 0 _ rfl
  have y1 := cell_of_heap g2.out 1 _ rfl
  have y2 := cell_of_heap g2.out 2 _ rfl
  have y3 := cell_of_heap g2.out 3 _ rfl
  have y4 := cell_of_heap g2.out 4 _ rfl
  have y5 := cell_of_heap g2.out 5 _ rfl
  have y6 := cell_of_heap g2.out 6 _ rfl
  have y7 := cell_of_heap g2.out 7 _ rfl
  have y8 := cell_of_heap g2.out 8 _ rfl
  have y9 := cell_of_heap g2.out 9 _ rfl
  have y10 := cell_of_heap g2.out 10 _ rfl
  go_wp2_with fail
  go_ret
  exact ⟨rfl, bb1.out⟩

set_option maxRecDepth 100000 in
set_option maxHeartbeats 8000000 in
theorem eqEvS_same (v1 v2 : Value) (L : List EvD) (w : World) (h1 : RdE w v1 L) (h2 : RdE w v2 L) :
    Calls Tryd.prog 17 #[v1, v2] w fun e w' => e = .returned (.bool true) ∧ Below w.heap.size w w' := by
  obtain ⟨a1, c1, rfl, hL, r1⟩ := h1
  obtain ⟨a2, c2, rfl, _, r2⟩ := h2
  unfold maxLen at hL
  have r1' := Lib.hid r1
  have r2' := Lib.hid r2
  clear r1 r2
  go_enter Tryd.func17, Tryd.ntmps17
  go_wp2_with fail
  go_loopw [5] (fun i wr => ∃ k : Nat, k ≤ L.length ∧ i = .int .i64 k ∧ Below w.heap.size w wr) (fun i _ => L.length - (Go.RowKit.intOf i).toNat)
  case atStart => exact ⟨0, Nat.zero_le _, rfl, Below.refl _ _⟩
  case round =>
    obtain ⟨k, hk, rfl, hB⟩ := hrel
    by_cases hlt : k < L.length
    · obtain ⟨E, hE⟩ : ∃ E, L[k]? = some E := ⟨_, List.getElem?_eq_getElem hlt⟩
      obtain ⟨b1, o1, rfl, p1⟩ := r1'.out k E hE
      obtain ⟨b2, o2, rfl, p2⟩ := r2'.out k E hE
      obtain ⟨x0, x1, x2, x3, x4, x5, x6, x7, x8, x9, x10⟩ := (p1.below hB).all
      obtain ⟨y0, y1, y2, y3, y4, y5, y6, y7, y8, y9, y10⟩ := (p2.below hB).all
      have hlt' : (k : Int) < (L.length : Int) := by omega
      have hB' := Lib.hid hB
      clear hE p1 p2 hB
      go_wp2_with fail
      go_still_tail 8, (by kernel_rfl)
      change wpList _ _ _ _ _ wr.drew
      go_wp2_with fail
      refine (eqEv_same E wr.drew).mono ?_
      rintro e w2 ⟨rfl, b2⟩
      have hB2 := Lib.hid (below_trans hB'.out.drew b2)
      clear b2 x0 y0 x1 y1 x2 y2 x3 y3 x4 y4 x5 y5 x6 y6 x7 y7 x8 y8 x9 y9 x10 y10
      go_wp2_with fail
      go_roundw
      case rel => exact ⟨k + 1, by omega, by go_num, hB2.out⟩
      case measure => simp [Go.RowKit.intOf]; omega
    · obtain rfl : k = L.length := by omega
      have hB' := Lib.hid hB
      clear hB
      go_wp2_with fail
      go_ret
      exact ⟨rfl, hB'.out⟩

set_option maxRecDepth 100000 in
set_option maxHeartbeats 8000000 in
theorem toEvS_any (v : Value) (L : List EvD) (hs : L.length ≤ 1048576) (w : World) (hr : RdE w v L) :
    Calls Tryd.prog 15 #[v] w fun e w' => ∃ g : Nat, e = .returned (.slice (some ⟨g, 0, none⟩) L.length L.length) ∧ w'.ownsRow w.heap.size 29 11 (.slice (some ⟨g, 0, none⟩) L.length L.length) L.length (flatE L) ∧ Below w.heap.size w w' := by
  obtain ⟨i0, hi, hz0, hz1, hz2⟩ := info_parts infoEv
  obtain ⟨a, cap, rfl, _, hx⟩ := hr
  have hx' := Lib.hid hx
  clear hx
  go_enter Tryd.func15, Tryd.ntmps15
  go_wp2_with (at_make; refine wpList_make_full _ rfl _ _ 39 rfl w.heap.size 29 i0 _ 11 Tryd.underlying39 hi hz0 hz1 .i64 .i64 _ _ L.length rfl rfl rfl rfl (by rw [hz2]; omega) (by unfold maxLen; omega) (Nat.le_refl _) ?_; intro w0 hown0 hgrow0)
  have hB0 := Lib.hid (show Below w.heap.size w w0 from (Below.refl _ _).grown hgrow0 (Nat.le_refl _) (fun k e => by cases e))
  have ho0 := Lib.hid (show w0.ownsRow w.heap.size 29 11 (.slice (some ⟨w.heap.size, 0, none⟩) L.length L.length) L.length (rowE L 0) by
    rw [rowE_zero, ← made11]
    exact hown0)
  clear hown0 hgrow0
  go_wp2_with fail
  go_loopw [4] (fun i wr => ∃ (k : Nat), k ≤ L.length ∧ i = .int .i64 k ∧ wr.ownsRow w.heap.size 29 11 (.slice (some ⟨w.heap.size, 0, none⟩) L.length L.length) L.length (rowE L k) ∧ Below w.heap.size w wr) (fun i _ => L.length - (Go.RowKit.intOf i).toNat)
  case atStart => exact ⟨0, Nat.zero_le _, rfl, ho0.out, hB0.out⟩
  case round =>
    obtain ⟨k, hk, rfl, hown, hB⟩ := hrel
    by_cases hlt : k < L.length
    · obtain ⟨E, hE⟩ : ∃ E, L[k]? = some E := ⟨_, List.getElem?_eq_getElem hlt⟩
      obtain ⟨b1, o1, rfl, p1⟩ := hx'.out k E hE
      obtain ⟨x0, x1, x2, x3, x4, x5, x6, x7, x8, x9, x10⟩ := (p1.below hB).all
      have hlt' : (k : Int) < (L.length : Int) := by omega
      have hnext := Lib.hid (rowE_next L k E hE)
      have hown' := Lib.hid hown
      have hB' := Lib.hid hB
      clear hE p1 hown hB
      go_wp2_with fail
      refine (toEv_any E wr).mono ?_
      rintro e w2 ⟨rfl, b2⟩
      have hlen := hown'.out.1
      have hown2 := own_below hown'.out b2
      have old : ∀ j, j < 11 → ∃ u, w2.cell? ⟨w.heap.size, k * 11 + j, none⟩ = some u := fun j hj => by
        rw [hown2.cellAt (k * 11 + j) (by omega), List.getElem?_eq_getElem (by omega)]
        exact ⟨_, rfl⟩
      obtain ⟨u0, y0⟩ := old 0 (by omega)
      obtain ⟨u1, y1⟩ := old 1 (by omega)
      obtain ⟨u2, y2⟩ := old 2 (by omega)
      obtain ⟨u3, y3⟩ := old 3 (by omega)
      obtain ⟨u4, y4⟩ := old 4 (by omega)
      obtain ⟨u5, y5⟩ := old 5 (by omega)
      obtain ⟨u6, y6⟩ := old 6 (by omega)
      obtain ⟨u7, y7⟩ := old 7 (by omega)
      obtain ⟨u8, y8⟩ := old 8 (by omega)
      obtain ⟨u9, y9⟩ := old 9 (by omega)
      obtain ⟨u10, y10⟩ := old 10 (by omega)
      rw [Nat.add_zero] at y0
      have z0 := hown2.frozenAt (k * 11)
      have z1 := hown2.frozenAt (k * 11 + 1)
      have z2 := hown2.frozenAt (k * 11 + 2)
      have z3 := hown2.frozenAt (k * 11 + 3)
      have z4 := hown2.frozenAt (k * 11 + 4)
      have z5 := hown2.frozenAt (k * 11 + 5)
      have z6 := hown2.frozenAt (k * 11 + 6)
      have z7 := hown2.frozenAt (k * 11 + 7)
      have z8 := hown2.frozenAt (k * 11 + 8)
      have z9 := hown2.frozenAt (k * 11 + 9)
      have z10 := hown2.frozenAt (k * 11 + 10)
      have hst := ((((((((((hown2.stored (k * 11) (.int .i64 E.k)).1.stored (k * 11 + 1) (.int .i64 E.ok)).1.stored (k * 11 + 2) (.int .i64 E.m)).1.stored (k * 11 + 3) (.int .i64 E.h)).1.stored (k * 11 + 4) (.int .i64 E.g)).1.stored (k * 11 + 5) (.int .i64 E.i)).1.stored (k * 11 + 6) (.int .i64 E.n)).1.stored (k * 11 + 7) (.int .i64 E.v)).1.stored (k * 11 + 8) (.int .i64 E.en)).1.stored (k * 11 + 9) (.int .i64 E.base)).1.stored (k * 11 + 10) (.int .i64 E.pages)
      rw [hnext.out] at hst
      have hB2 := (((((((((((below_trans hB'.out b2).setCell (p := ⟨w.heap.size, k * 11, none⟩) (Nat.le_refl _) (.int .i64 E.k)).setCell (p := ⟨w.heap.size, k * 11 + 1, none⟩) (Nat.le_refl _) (.int .i64 E.ok)).setCell (p := ⟨w.heap.size, k * 11 + 2, none⟩) (Nat.le_refl _) (.int .i64 E.m)).setCell (p := ⟨w.heap.size, k * 11 + 3, none⟩) (Nat.le_refl _) (.int .i64 E.h)).setCell (p := ⟨w.heap.size, k * 11 + 4, none⟩) (Nat.le_refl _) (.int .i64 E.g)).setCell (p := ⟨w.heap.size, k * 11 + 5, none⟩) (Nat.le_refl _) (.int .i64 E.i)).setCell (p := ⟨w.heap.size, k * 11 + 6, none⟩) (Nat.le_refl _) (.int .i64 E.n)).setCell (p := ⟨w.heap.size, k * 11 + 7, none⟩) (Nat.le_refl _) (.int .i64 E.v)).setCell (p := ⟨w.heap.size, k * 11 + 8, none⟩) (Nat.le_refl _) (.int .i64 E.en)).setCell (p := ⟨w.heap.size, k * 11 + 9, none⟩) (Nat.le_refl _) (.int .i64 E.base)).setCell (p := ⟨w.heap.size, k * 11 + 10, none⟩) (Nat.le_refl _) (.int .i64 E.pages)
      have hfin := Lib.hid (And.intro hst.1 hB2)
      clear hst hB2 hlen hown2 old b2 x0 x1 x2 x3 x4 x5 x6 x7 x8 x9 x10
      go_wp2_with fail
      go_roundw
      case rel => exact ⟨k + 1, by omega, by go_num, hfin.out.1, hfin.out.2⟩
      case measure => simp [Go.RowKit.intOf]; omega
    · obtain rfl : k = L.length := by omega
      rw [rowE_all] at hown
      have hown' := Lib.hid hown
      have hB' := Lib.hid hB
      clear hown hB
      go_wp2_with fail
      go_ret
      exact ⟨_, rfl, hown'.out, hB'.out⟩
end Go.Proofs.YtjldjeokcpjgkaaDoor
