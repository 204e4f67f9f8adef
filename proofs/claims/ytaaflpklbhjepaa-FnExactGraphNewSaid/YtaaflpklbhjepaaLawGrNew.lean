/-
  The walk of FnExactGraphNew.
-/
import Derived.Test.YtaaflpklbhjepaaGrI
import Derived.Test.YtaaflpklbhjepaaGrM
namespace Go.Proofs.Ytaaflpklbhjepaa
open Go.RowKit
set_option linter.unusedVariables false

theorem GnIs.unique {m : Int} {L L' : List (List Int)} {f f' : Bool} (h : GnIs m L f) (h' : GnIs m L' f') : L' = L ∧ f' = f := by
  rcases h with ⟨g, rfl, rfl⟩ | ⟨g, rfl, rfl⟩ <;> rcases h' with ⟨g', rfl, rfl⟩ | ⟨g', rfl, rfl⟩
  · exact ⟨rfl, rfl⟩
  · exact absurd g g'
  · exact absurd g' g
  · exact ⟨rfl, rfl⟩
theorem sum_rep' (n k : Nat) : (List.replicate n k).sum = n * k := by
  induction n with
  | zero => simp
  | succ n ih => rw [List.replicate_succ, List.sum_cons, ih, Nat.succ_mul]; omega
theorem GnIs.bulk {m : Int} {L : List (List Int)} {f : Bool} (h : GnIs m L f) : bulkM L ≤ 1000 ∧ L.length ≤ 1000 := by
  rcases h with ⟨g, rfl, rfl⟩ | ⟨g, rfl, rfl⟩
  · have : m.toNat ≤ 3 := by omega
    simp only [bulkM, List.map_replicate, List.length_replicate, sum_rep']
    omega
  · exact ⟨by decide, by decide⟩
theorem OwnM.rd {w : World} {base : Nat} {v : Value} {L : List (List Int)} {mv : List Value} (h : OwnM w base v L mv) : RdM w v L := RdM.of_owns h.row h.len h.inner
theorem OwnM.rdg {w : World} {base : Nat} {v : Value} {L : List (List Int)} {mv : List Value} (h : OwnM w base v L mv) : RdG w (.agg #[.slice none 0 0, v]) ⟨[], L⟩ :=
  ⟨_, _, rfl, ⟨none, 0, rfl, by simp, fun j s hj => by simp at hj⟩, h.rd⟩
theorem OwnM.mvlt {w : World} {base : Nat} {v : Value} {L : List (List Int)} {mv : List Value} (h : OwnM w base v L mv) : ∀ q, q ∈ mv.filterMap Value.ownBlock → base ≤ q ∧ q < w.heap.size := fun q hq => by
  obtain ⟨x, hx, hxa⟩ := List.mem_filterMap.1 hq
  obtain ⟨i, hi⟩ := List.mem_iff_getElem?.1 hx
  have hil := (List.getElem?_eq_some_iff.1 hi).1
  obtain ⟨r, hr⟩ : ∃ r, L[i]? = some r := ⟨_, List.getElem?_eq_getElem (by have := h.len; omega)⟩
  exact (h.inner i r x hr hi).lt q hxa

set_option maxRecDepth 100000 in
set_option maxHeartbeats 8000000 in
theorem law_graphNew (m : Int) (w : World) :
    Calls Try.prog 4 #[.int .i64 m] w fun e w' => e = .returned (.bool true) ∧ Below w.heap.size w w' := by
  go_enter Try.func4, Try.ntmps4
  go_wp2_with fail
  refine (sgnew_any m w).mono ?_
  rintro e w1 ⟨L, f, v1, mv1, hn1, rfl, h1, d1, b1⟩
  obtain ⟨a1, c1, rfl⟩ := own_slice h1.row
  have hn := Lib.hid hn1
  have hm := Lib.hid hn1.bulk
  have bX1 := Lib.hid (below_trans b1 (below_box w1 (.cells #[.slice none 0 0, .slice a1 L.length c1] 31)))
  have x1 := Lib.hid (box_new w1 (.cells #[.slice none 0 0, .slice a1 L.length c1] 31))
  have hX1 := Lib.hid (h1.below (below_box w1 (.cells #[.slice none 0 0, .slice a1 L.length c1] 31)))
  have lt1 := Lib.hid (fun q (hq : q ∈ mv1.filterMap Value.ownBlock) => (h1.mvlt q hq).2)
  have lr1 := Lib.hid (fun q (hq : (Value.slice a1 L.length c1).ownBlock = some q) => (h1.row.lt q hq).2)
  have zz1 := Lib.hid b1.size
  clear hn1 h1 b1 d1
  go_wp2_with fail
  refine (ignew_any m _).mono ?_
  rintro e w2 ⟨L', f', v2, mv2, hn2, rfl, h2, d2, b2⟩
  obtain ⟨rfl, rfl⟩ := GnIs.unique hn2 hn.out
  obtain ⟨a2, c2, rfl⟩ := own_slice h2.row
  have d2' := Lib.hid d2
  have lt2 := Lib.hid h2.mvlt
  have b2' := Lib.hid b2
  have bX2 := Lib.hid (below_trans bX1.out (below_trans b2 (below_box w2 (.cells #[.slice none 0 0, (.slice a2 L.length c2)] 31))))
  have x2 := Lib.hid (heap_below (below_box w2 (.cells #[.slice none 0 0, (.slice a2 L.length c2)] 31)) (heap_below b2 x1.out))
  have x9 := Lib.hid (box_new w2 (.cells #[.slice none 0 0, (.slice a2 L.length c2)] 31))
  have hX2 := Lib.hid (h2.below (below_box w2 (.cells #[.slice none 0 0, (.slice a2 L.length c2)] 31)))
  have hY2 := Lib.hid (hX1.out.below (below_trans b2 (below_box w2 (.cells #[.slice none 0 0, (.slice a2 L.length c2)] 31))))
  clear hn2 h2 b2 d2
  have p0 := cell_of_heap x2.out 0 _ rfl
  have p1 := cell_of_heap x2.out 1 _ rfl
  go_wp2_with fail
  refine (eqGraph_same _ _ ⟨[], L⟩ _ hX2.out.rdg hY2.out.rdg).mono ?_
  rintro e w3 ⟨rfl, b3⟩
  have bX3 := Lib.hid (below_trans bX2.out b3)
  have x3 := Lib.hid (heap_below b3 x2.out)
  have x93 := Lib.hid (heap_below b3 x9.out)
  have hX3 := Lib.hid (hX2.out.below b3)
  have hY3 := Lib.hid (hY2.out.below b3)
  have ss3 := Lib.hid b3.size
  clear p0 p1
  clear b3
  have f0 := cell_of_heap x93.out 0 _ rfl
  have f1 := cell_of_heap x93.out 1 _ rfl
  go_wp2_with fail
  refine (markGraph0 _ _ 1 L mv2 d2'.out (by omega) (by have := hm.out; omega) (by have := hm.out; omega) _ hX3.out).mono ?_
  rintro e w4 ⟨rfl, h4, c4⟩
  have z1 := zz1.out
  have z2 := b2'.out.size
  have z3 := ss3.out
  simp only [World.size_alloc] at z2 z3
  have x4 := Lib.hid ((c4.block w1.heap.size (by omega) (fun hq => by have := (lt2.out _ hq).1; simp only [World.size_alloc] at this; omega)).trans x3.out)
  have x94 := Lib.hid ((c4.block w2.heap.size (by omega) (fun hq => by have := (lt2.out _ hq).2; omega)).trans x93.out)
  have bX4 := Lib.hid (Chg.below bX3.out c4 bX3.out.size (fun q hq => by have := (lt2.out _ hq).1; simp only [World.size_alloc] at this; omega))
  have hY4 := Lib.hid (hY3.out.chg c4 (fun q hq hb => by have h1 := lr1.out _ hq; have h2 := (lt2.out _ hb).1; simp only [World.size_alloc] at h2; omega) (fun x hx q hq hb => by have h1 := lt1.out _ (List.mem_filterMap.2 ⟨x, hx, hq⟩); have h2 := (lt2.out _ hb).1; simp only [World.size_alloc] at h2; omega))
  have h4' := Lib.hid h4
  have hM0 : 0 ≤ (markM L 1 L.length).2 := by rw [markM_k L 1 L.length (Nat.le_refl _)]; omega
  have hM1 : (markM L 1 L.length).2 ≤ 100000000000 := by rw [markM_k L 1 L.length (Nat.le_refl _), List.take_length]; have := hm.out; omega
  have hheld := Lib.hid (fun v => heldGraph0 v 1 L (by omega) (by have := hm.out; omega) (by have := hm.out; omega))
  generalize (markM L 1 L.length).2 = M at *
  clear h4 c4 z1 z2 z3
  clear f0 f1
  have f0 := cell_of_heap x94.out 0 _ rfl
  have f1 := cell_of_heap x94.out 1 _ rfl
  go_wp2_with fail
  refine (hheld.out _ _ h4'.out.rd).mono ?_
  rintro e w5 ⟨rfl, b5⟩
  have bX5 := Lib.hid (below_trans bX4.out b5)
  have x5 := Lib.hid (heap_below b5 x4.out)
  have x95 := Lib.hid (heap_below b5 x94.out)
  have hY5 := Lib.hid (hY4.out.below b5)
  have h5' := Lib.hid (h4'.out.below b5)
  clear b5
  clear f0 f1
  go_wp2_with fail
  refine (ignew_any m _).mono ?_
  rintro e w6 ⟨L3, f3, v3, mv3, hn3, rfl, h6, d6, b6⟩
  obtain ⟨rfl, rfl⟩ := GnIs.unique hn3 hn.out
  obtain ⟨a3, c3, rfl⟩ := own_slice h6.row
  have bb6 := below_trans b6 (below_box w6 (.cells #[.slice none 0 0, (.slice a3 L.length c3)] 31))
  have bX6 := Lib.hid (below_trans bX5.out bb6)
  have x6 := Lib.hid (heap_below bb6 x5.out)
  have x96 := Lib.hid (heap_below bb6 x95.out)
  have hX6 := Lib.hid (h6.below (below_box w6 (.cells #[.slice none 0 0, (.slice a3 L.length c3)] 31)))
  have hY6 := Lib.hid (hY5.out.below bb6)
  have h6' := Lib.hid (h5'.out.below bb6)
  clear hn3 h6 b6 bb6 d6
  have p0 := cell_of_heap x6.out 0 _ rfl
  have p1 := cell_of_heap x6.out 1 _ rfl
  go_wp2_with fail
  refine (eqGraph_same _ _ ⟨[], L⟩ _ hX6.out.rdg hY6.out.rdg).mono ?_
  rintro e w7 ⟨rfl, b7⟩
  have bX7 := Lib.hid (below_trans bX6.out b7)
  have x97 := Lib.hid (heap_below b7 x96.out)
  have h7' := Lib.hid (h6'.out.below b7)
  clear b7
  clear p0 p1
  have f0 := cell_of_heap x97.out 0 _ rfl
  have f1 := cell_of_heap x97.out 1 _ rfl
  go_wp2_with fail
  refine (hheld.out _ _ h7'.out.rd).mono ?_
  rintro e w8 ⟨rfl, b8⟩
  clear f0 f1
  go_wp2_with fail
  go_ret
  exact ⟨rfl, below_trans bX7.out b8⟩
end Go.Proofs.Ytaaflpklbhjepaa
