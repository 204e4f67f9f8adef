import Derived.Test.YtpaepkcfdnddgaaGreatCgW
import Derived.Deep.RegionLaw

namespace Go.Proofs.YtpaepkcfdnddgaaGreat
open Go.RowKit
set_option linter.unusedVariables false

theorem grow_trans {a w w' : World} {row : Option Nat} (h : a.grownBy w row) (k : w.grownBy w' row) : a.grownBy w' row :=
  ⟨k.os.trans h.os, k.tape.trans h.tape, k.output.trans h.output, Nat.le_trans h.size k.size, fun j hj e => (k.block j (Nat.lt_of_lt_of_le hj h.size) e).trans (h.block j hj e)⟩
/-- k, k + 1, .. -/
def seqL (k : Int) (n : Nat) : List Int := (List.range n).map fun j : Nat => k + (j : Int)
theorem seqL_length (k : Int) (n : Nat) : (seqL k n).length = n := by simp [seqL]
theorem seqL_at (k : Int) (n j : Nat) (h : j < n) : (seqL k n)[j]?.getD 0 = k + (j : Int) := by simp [seqL, h]

set_option maxHeartbeats 1000000 in
/-- What was marked is still held. -/
theorem heldIntS_yes (v : Value) (k : Int) (n : Nat) (hk0 : -1000000 ≤ k) (hk : k ≤ 1000000000000) (hn : n ≤ 1000000000000000000) (w : World) (h1 : Rd w v (seqL k n)) :
    Calls Tryz.prog 65 #[v, .int .i64 k] w fun e w' => e = .returned (.int .i64 (k + (n : Int))) ∧ w = w' := by
  obtain ⟨a1, c1, rfl, _, r1⟩ := h1
  simp only [seqL_length] at r1 ⊢
  obtain ⟨r1⟩ : Nonempty (Hid _) := ⟨Lib.hid r1⟩
  go_enter Tryz.func65, Tryz.ntmps65
  go_wp2
  go_loop [1, 5] (fun q i => ∃ j : Nat, j ≤ n ∧ q = .int .i64 (k + (j : Int)) ∧ i = .int .i64 j) (fun q i => n - (RowKit.intOf i).toNat)
  case atStart => exact ⟨0, Nat.zero_le _, by simp, rfl⟩
  case round =>
    obtain ⟨j, hj, rfl, rfl⟩ := hrel
    by_cases hlt : j < n
    · obtain ⟨b1, o1, rfl, x1⟩ := r1.out j hlt
      rw [seqL_at k n j hlt] at x1
      go_wp2
      go_round
      case rel => exact ⟨j + 1, by omega, by go_num, by go_num⟩
      case measure => simp [RowKit.intOf]; omega
    · obtain rfl : j = n := by omega
      go_wp2
      go_ret
      exact ⟨rfl, rfl⟩

/-- A row of which the first j are marked. -/
def markL (L : List Int) (k : Int) (j : Nat) : List Int := seqL k j ++ L.drop j
theorem markL_zero (L : List Int) (k : Int) : markL L k 0 = L := by simp [markL, seqL]
theorem markL_all (L : List Int) (k : Int) : markL L k L.length = seqL k L.length := by simp [markL]
theorem markL_length (L : List Int) (k : Int) (j : Nat) (h : j ≤ L.length) : (markL L k j).length = L.length := by simp [markL, seqL]; omega
theorem markL_set (L : List Int) (k : Int) (j : Nat) (h : j < L.length) : (markL L k j).set j (k + (j : Int)) = markL L k (j + 1) := by
  unfold markL
  have e : seqL k (j + 1) = seqL k j ++ [k + (j : Int)] := by simp [seqL, List.range_succ]
  rw [e, List.set_append_right _ _ (by rw [seqL_length]; omega), seqL_length, Nat.sub_self]
  rw [List.drop_eq_getElem_cons h, List.set_cons_zero, List.append_assoc]
  rfl

set_option maxHeartbeats 1000000 in
theorem markIntS_any (base : Nat) (v : Value) (k : Int) (L : List Int) (hk0 : -1000000 ≤ k) (hk : k ≤ 1000000000000) (hL : L.length ≤ 1000000000000000000) (w : World) (h1 : w.ownsRow base 3 1 v L.length (L.map (Value.int .i64))) :
    Calls Tryz.prog 60 #[v, .int .i64 k] w fun e w' => e = .returned (.int .i64 (k + (L.length : Int))) ∧ w'.ownsRow base 3 1 v L.length ((seqL k L.length).map (Value.int .i64)) ∧ w.grownBy w' v.ownBlock := by
  have hv := h1.2
  rcases hv with ⟨rfl, h0⟩ | ⟨g, cap, cur, rfl, hb, _, _, _, _, _⟩
  · obtain rfl : L = [] := List.length_eq_zero_iff.1 h0
    go_enter Tryz.func60, Tryz.ntmps60
    go_wp2
    go_loop [1, 5] (fun q i => q = .int .i64 k ∧ i = .int .i64 0) (fun q i => 0)
    case atStart => exact ⟨rfl, rfl⟩
    case round =>
      obtain ⟨rfl, rfl⟩ := hrel
      go_wp2
      go_ret
      exact ⟨by simp, by simpa [seqL] using h1, World.grownBy.refl _ _⟩
  · go_enter Tryz.func60, Tryz.ntmps60
    go_wp2
    go_loopw [1, 5] (fun q i wr => ∃ j : Nat, j ≤ L.length ∧ q = .int .i64 (k + (j : Int)) ∧ i = .int .i64 j ∧ wr.ownsRow base 3 1 (.slice (some ⟨g, 0, none⟩) L.length cap) L.length ((markL L k j).map (Value.int .i64)) ∧ w.grownBy wr (some g)) (fun q i _ => L.length - (RowKit.intOf i).toNat)
    case atStart => exact ⟨0, Nat.zero_le _, by simp, rfl, by rw [markL_zero]; exact h1, World.grownBy.refl _ _⟩
    case round =>
      obtain ⟨j, hj, rfl, rfl, hown, hgr⟩ := hrel
      by_cases hlt : j < L.length
      · have hc : wr.cell? ⟨g, j, none⟩ = some (.int .i64 ((markL L k j)[j]?.getD 0)) := by
          rw [hown.cellAt j (by omega)]
          have : j < (markL L k j).length := by rw [markL_length L k j hj]; exact hlt
          simp [this]
        have hfz := hown.frozenAt j
        have hst := hown.stored j (.int .i64 (k + (j : Int)))
        rw [← List.map_set, markL_set L k j hlt] at hst
        obtain ⟨hst⟩ : Nonempty (Hid _) := ⟨Lib.hid hst⟩
        go_wp2
        go_roundw
        case rel => exact ⟨j + 1, by omega, by go_num, by go_num, hst.out.1, grow_trans hgr hst.out.2⟩
        case measure => simp [RowKit.intOf]; omega
      · obtain rfl : j = L.length := by omega
        rw [markL_all] at hown
        go_wp2
        go_ret
        exact ⟨rfl, hown, hgr⟩
end Go.Proofs.YtpaepkcfdnddgaaGreat

namespace Go.Proofs.YtpaepkcfdnddgaaGreat
open Go.RowKit
set_option linter.unusedVariables false

/-- The blocks bs alone have turned; new ones may have come. -/
structure Chg (bs : List Nat) (w w' : World) : Prop where
  os : w'.os = w.os
  tape : w'.tape = w.tape
  output : w'.output = w.output
  size : w.heap.size ≤ w'.heap.size
  block : ∀ k, k < w.heap.size → k ∉ bs → w'.heap[k]? = w.heap[k]?
theorem Chg.refl (bs : List Nat) (w : World) : Chg bs w w := ⟨rfl, rfl, rfl, Nat.le_refl _, fun _ _ _ => rfl⟩
theorem Chg.trans {bs : List Nat} {a b c : World} (h : Chg bs a b) (k : Chg bs b c) : Chg bs a c :=
  ⟨k.os.trans h.os, k.tape.trans h.tape, k.output.trans h.output, Nat.le_trans h.size k.size, fun j hj hn => (k.block j (Nat.lt_of_lt_of_le hj h.size) hn).trans (h.block j hj hn)⟩
theorem Chg.mono {bs cs : List Nat} {a b : World} (h : Chg bs a b) (hs : ∀ x, x ∈ bs → x ∈ cs) : Chg cs a b := ⟨h.os, h.tape, h.output, h.size, fun j hj hn => h.block j hj fun hx => hn (hs j hx)⟩
theorem Chg.of_grown {w w' : World} {row : Option Nat} (h : w.grownBy w' row) {bs : List Nat} (hs : ∀ x, row = some x → x ∈ bs) : Chg bs w w' :=
  ⟨h.os, h.tape, h.output, h.size, fun j hj hn => h.block j hj fun e => hn (hs j e.symm)⟩
theorem Chg.of_below {w w' : World} (h : Below w.heap.size w w') (bs : List Nat) : Chg bs w w' := ⟨h.os, h.tape, h.output, h.size, fun j hj _ => h.block j hj⟩
theorem Chg.below {bs : List Nat} {B : Nat} {a w w' : World} (hb : Below B a w) (h : Chg bs w w') (hB : B ≤ w.heap.size) (hs : ∀ x, x ∈ bs → B ≤ x) : Below B a w' :=
  hb.trans ⟨h.os, h.tape, h.output, h.size, fun j hj => h.block j (by omega) fun hx => by have := hs j hx; omega⟩
theorem own_chg {w w' : World} {base size n : Nat} {e : TypeId} {v : Value} {xs : List Value} {bs : List Nat} (h : w.ownsRow base e size v n xs) (hc : Chg bs w w') (hn : ∀ k, v.ownBlock = some k → k ∉ bs) : w'.ownsRow base e size v n xs := by
  refine ⟨h.1, ?_⟩
  rcases h.2 with h0 | ⟨g, cap, cur, rfl, hb, hg, hr⟩
  · exact .inl h0
  · refine .inr ⟨g, cap, cur, rfl, hb, ?_, hr⟩
    rw [hc.block g (Array.getElem?_eq_some_iff.1 hg).1 (hn g rfl)]
    exact hg
theorem own_types {w : World} {b b' size size' n n' : Nat} {e e' : TypeId} {v v' : Value} {xs ys : List Value} (h : w.ownsRow b e size v n xs) (h' : w.ownsRow b' e' size' v' n' ys) (hne : e ≠ e') (k : Nat) (hk : v.ownBlock = some k) : v'.ownBlock ≠ some k := by
  rcases h.2 with ⟨rfl, _⟩ | ⟨g, cap, cur, rfl, _, hg, _⟩
  · simp [Value.ownBlock] at hk
  · rcases h'.2 with ⟨rfl, _⟩ | ⟨g', cap', cur', rfl, _, hg', _⟩
    · simp [Value.ownBlock]
    · intro he
      have e1 : g = k := by simpa [Value.ownBlock] using hk
      have e2 : g' = k := by simpa [Value.ownBlock] using he
      subst e1
      subst e2
      rw [hg] at hg'
      simp at hg'
      exact hne hg'.2

/-- The flags that are marked from k on. -/
def seqB (k : Int) (n : Nat) : List Bool := (List.range n).map fun j : Nat => (k + (j : Int)) % 3 == 0
theorem seqB_length (k : Int) (n : Nat) : (seqB k n).length = n := by simp [seqB]
def markB (L : List Bool) (k : Int) (j : Nat) : List Bool := seqB k j ++ L.drop j
theorem markB_zero (L : List Bool) (k : Int) : markB L k 0 = L := by simp [markB, seqB]
theorem markB_all (L : List Bool) (k : Int) : markB L k L.length = seqB k L.length := by simp [markB]
theorem markB_length (L : List Bool) (k : Int) (j : Nat) (h : j ≤ L.length) : (markB L k j).length = L.length := by simp [markB, seqB]; omega
theorem markB_set (L : List Bool) (k : Int) (j : Nat) (h : j < L.length) : (markB L k j).set j ((k + (j : Int)) % 3 == 0) = markB L k (j + 1) := by
  unfold markB
  have e : seqB k (j + 1) = seqB k j ++ [(k + (j : Int)) % 3 == 0] := by simp [seqB, List.range_succ]
  rw [e, List.set_append_right _ _ (by rw [seqB_length]; omega), seqB_length, Nat.sub_self]
  rw [List.drop_eq_getElem_cons h, List.set_cons_zero, List.append_assoc]
  rfl

set_option maxHeartbeats 1000000 in
theorem markBoolS_any (base : Nat) (v : Value) (k : Int) (L : List Bool) (hk0 : 0 ≤ k) (hk : k ≤ 1000000000000) (hL : L.length ≤ 1000000000000000000) (w : World) (h1 : w.ownsRow base 4 1 v L.length (L.map Value.bool)) :
    Calls Tryz.prog 61 #[v, .int .i64 k] w fun e w' => e = .returned (.int .i64 (k + (L.length : Int))) ∧ w'.ownsRow base 4 1 v L.length ((seqB k L.length).map Value.bool) ∧ w.grownBy w' v.ownBlock := by
  have hv := h1.2
  rcases hv with ⟨rfl, h0⟩ | ⟨g, cap, cur, rfl, hb, _, _, _, _, _⟩
  · obtain rfl : L = [] := List.length_eq_zero_iff.1 h0
    go_enter Tryz.func61, Tryz.ntmps61
    go_wp2
    go_loop [1, 5] (fun q i => q = .int .i64 k ∧ i = .int .i64 0) (fun q i => 0)
    case atStart => exact ⟨rfl, rfl⟩
    case round =>
      obtain ⟨rfl, rfl⟩ := hrel
      go_wp2
      go_ret
      exact ⟨by simp, by simpa [seqB] using h1, World.grownBy.refl _ _⟩
  · go_enter Tryz.func61, Tryz.ntmps61
    go_wp2
    go_loopw [1, 5] (fun q i wr => ∃ j : Nat, j ≤ L.length ∧ q = .int .i64 (k + (j : Int)) ∧ i = .int .i64 j ∧ wr.ownsRow base 4 1 (.slice (some ⟨g, 0, none⟩) L.length cap) L.length ((markB L k j).map Value.bool) ∧ w.grownBy wr (some g)) (fun q i _ => L.length - (RowKit.intOf i).toNat)
    case atStart => exact ⟨0, Nat.zero_le _, by simp, rfl, by rw [markB_zero]; exact h1, World.grownBy.refl _ _⟩
    case round =>
      obtain ⟨j, hj, rfl, rfl, hown, hgr⟩ := hrel
      by_cases hlt : j < L.length
      · have hc : wr.cell? ⟨g, j, none⟩ = some (.bool ((markB L k j)[j]?.getD false)) := by
          rw [hown.cellAt j (by omega)]
          have : j < (markB L k j).length := by rw [markB_length L k j hj]; exact hlt
          simp [this]
        have hfz := hown.frozenAt j
        have hst0 := hown.stored j (.bool ((k + (j : Int)) % 3 == 0))
        rw [← List.map_set, markB_set L k j hlt] at hst0
        have hst := Lib.hid hst0
        clear hst0 hown
        generalize (markB L k j)[j]?.getD false = old at hc
        go_wp2
        go_roundw
        case rel => exact ⟨j + 1, by omega, by go_num, by go_num, hst.out.1, grow_trans hgr hst.out.2⟩
        case measure => simp [RowKit.intOf]; omega
      · obtain rfl : j = L.length := by omega
        rw [markB_all] at hown
        go_wp2
        go_ret
        exact ⟨rfl, hown, hgr⟩

/-! ### The spans -/
def markSpan (s : SpanD) (k : Int) : SpanD := ⟨k, k + 1, k + 2, (k + 3) % 3 == 0, seqL (k + 4) s.lens.length, seqL (k + 4 + (s.lens.length : Int)) s.ptrs.length⟩
def spanEnd (s : SpanD) (k : Int) : Int := k + 4 + (s.lens.length : Int) + (s.ptrs.length : Int)
/-- The spans when the first i are marked; the next mark. -/
def markUp (L : List SpanD) (k : Int) : Nat → List SpanD × Int
  | 0 => (L, k)
  | i + 1 => match L[i]? with
    | some s => ((markUp L k i).1.set i (markSpan s (markUp L k i).2), spanEnd s (markUp L k i).2)
    | none => markUp L k i
theorem markUp_len (L : List SpanD) (k : Int) (i : Nat) : (markUp L k i).1.length = L.length := by
  induction i with
  | zero => rfl
  | succ i ih => unfold markUp; split <;> simp [ih]
theorem markUp_later (L : List SpanD) (k : Int) (i j : Nat) (h : i ≤ j) : (markUp L k i).1[j]? = L[j]? := by
  induction i with
  | zero => rfl
  | succ i ih =>
    unfold markUp
    split
    · rw [List.getElem?_set_ne (by omega)]; exact ih (by omega)
    · exact ih (by omega)
theorem markUp_step (L : List SpanD) (k : Int) (i : Nat) (s : SpanD) (h : L[i]? = some s) : markUp L k (i + 1) = ((markUp L k i).1.set i (markSpan s (markUp L k i).2), spanEnd s (markUp L k i).2) := by
  conv => lhs; unfold markUp
  rw [h]
theorem markUp_none (L : List SpanD) (k : Int) (i : Nat) (h : L[i]? = none) : markUp L k (i + 1) = markUp L k i := by
  conv => lhs; unfold markUp
  rw [h]
theorem markUp_done (L : List SpanD) (k : Int) (i n : Nat) (s : SpanD) (h : L[i]? = some s) (hn : i < n) : (markUp L k n).1[i]? = some (markSpan s (markUp L k i).2) := by
  induction n with
  | zero => omega
  | succ n ih =>
    by_cases e : i = n
    · subst e
      rw [markUp_step L k i s h]
      have : i < (markUp L k i).1.length := by rw [markUp_len]; exact (List.getElem?_eq_some_iff.1 h).1
      simp [this]
    · have hi := ih (by omega)
      cases hL : L[n]? with
      | some t => rw [markUp_step L k n t hL, List.getElem?_set_ne (by omega)]; exact hi
      | none => rw [markUp_none L k n hL]; exact hi
theorem markUp_k (L : List SpanD) (k : Int) (i : Nat) (h : i ≤ L.length) : (markUp L k i).2 = k + 4 * (i : Int) + (bulkS (L.take i) : Int) := by
  induction i with
  | zero => simp [markUp, bulkS]
  | succ i ih =>
    obtain ⟨s, hs⟩ : ∃ s, L[i]? = some s := ⟨_, List.getElem?_eq_getElem (by omega)⟩
    rw [markUp_step L k i s hs, bulkS_take L i s hs]
    simp only [spanEnd, SpanD.bulk]
    rw [ih (by omega)]
    omega

/-- A row of spans and their lists, owned. -/
structure OwnS (w : World) (base : Nat) (v : Value) (L : List SpanD) (sv : List (Value × Value)) : Prop where
  row : w.ownsRow base 73 6 v L.length (flatV L sv)
  len : sv.length = L.length
  inner : ∀ (i : Nat) (s : SpanD) (p : Value × Value), L[i]? = some s → sv[i]? = some p → w.ownsRow base 3 1 p.1 s.lens.length (s.lens.map (Value.int .i64)) ∧ w.ownsRow base 3 1 p.2 s.ptrs.length (s.ptrs.map (Value.int .i64))
def svInts (sv : List (Value × Value)) : List Value := sv.flatMap fun p => [p.1, p.2]
theorem svInts_at (sv : List (Value × Value)) (i : Nat) (p : Value × Value) (h : sv[i]? = some p) : ∃ A B, svInts sv = A ++ p.1 :: p.2 :: B ∧ ∀ j q, j ≠ i → sv[j]? = some q → (q.1 ∈ A ∨ q.1 ∈ B) ∧ (q.2 ∈ A ∨ q.2 ∈ B) := by
  induction sv generalizing i with
  | nil => simp at h
  | cons a sv ih =>
    cases i with
    | zero =>
      simp at h
      subst h
      refine ⟨[], svInts sv, by simp [svInts], fun j q hj hq => ?_⟩
      cases j with
      | zero => exact absurd rfl hj
      | succ j =>
        simp at hq
        have : q ∈ sv := List.mem_of_getElem? hq
        exact ⟨.inr (List.mem_flatMap.2 ⟨q, this, by simp⟩), .inr (List.mem_flatMap.2 ⟨q, this, by simp⟩)⟩
    | succ i =>
      simp at h
      obtain ⟨A, B, e, hq⟩ := ih i h
      refine ⟨a.1 :: a.2 :: A, B, by simp [svInts] at e ⊢; exact e, fun j q hj hjq => ?_⟩
      cases j with
      | zero =>
        simp at hjq
        subst hjq
        exact ⟨.inl (by simp), .inl (by simp)⟩
      | succ j =>
        simp at hjq
        have := hq j q (by omega) hjq
        exact ⟨this.1.imp (by intro h; simp [h]) id, this.2.imp (by intro h; simp [h]) id⟩
/-- No two lists of ints share a block. -/
def Apart (vs : List Value) : Prop := (vs.filterMap Value.ownBlock).Nodup
theorem apart_at {A B : List Value} {u v : Value} (h : Apart (A ++ u :: v :: B)) {k : Nat} :
    (u.ownBlock = some k → v.ownBlock ≠ some k ∧ ∀ x, x ∈ A ∨ x ∈ B → x.ownBlock ≠ some k) ∧ (v.ownBlock = some k → u.ownBlock ≠ some k ∧ ∀ x, x ∈ A ∨ x ∈ B → x.ownBlock ≠ some k) := by
  unfold Apart at h
  rw [List.filterMap_append, List.nodup_append] at h
  obtain ⟨hA, hB, hAB⟩ := h
  refine ⟨fun hu => ⟨fun hv => ?_, fun x hx hk => ?_⟩, fun hv => ⟨fun hu => ?_, fun x hx hk => ?_⟩⟩
  · simp [hu, hv] at hB
  · rcases hx with hx | hx
    · exact hAB k (List.mem_filterMap.2 ⟨x, hx, hk⟩) k (List.mem_filterMap.2 ⟨u, by simp, hu⟩) rfl
    · rw [List.filterMap_cons_some hu, List.nodup_cons] at hB
      exact hB.1 (List.mem_filterMap.2 ⟨x, by simp [hx], hk⟩)
  · simp [hu, hv] at hB
  · rcases hx with hx | hx
    · exact hAB k (List.mem_filterMap.2 ⟨x, hx, hk⟩) k (List.mem_filterMap.2 ⟨v, by simp, hv⟩) rfl
    · have hB2 : ((v :: B).filterMap Value.ownBlock).Nodup := by
        cases hu : u.ownBlock with
        | none => rwa [List.filterMap_cons_none hu] at hB
        | some c => rw [List.filterMap_cons_some hu, List.nodup_cons] at hB; exact hB.2
      rw [List.filterMap_cons_some hv, List.nodup_cons] at hB2
      exact hB2.1 (List.mem_filterMap.2 ⟨x, hx, hk⟩)
theorem flatV_set (L : List SpanD) (sv : List (Value × Value)) (i : Nat) (s s' : SpanD) (p : Value × Value) (h1 : L[i]? = some s) (h2 : sv[i]? = some p) :
    ((((flatV L sv).set (i * 6) (.int .i64 s'.page)).set (i * 6 + 1) (.int .i64 s'.cls)).set (i * 6 + 2) (.int .i64 s'.mark)).set (i * 6 + 3) (.bool s'.swept) = flatV (L.set i s') sv := by
  induction i generalizing L sv with
  | zero =>
    cases L with
    | nil => simp at h1
    | cons a L =>
      cases sv with
      | nil => simp at h2
      | cons q sv =>
        simp at h1 h2
        subst h1; subst h2
        simp [flatV, spanCv]
  | succ i ih =>
    cases L with
    | nil => simp at h1
    | cons a L =>
      cases sv with
      | nil => simp at h2
      | cons q sv =>
        simp at h1 h2
        have := ih L sv h1 h2
        simp only [flatV, List.zip_cons_cons, List.flatMap_cons, List.set_cons_succ] at this ⊢
        rw [← this]
        have e : ∀ (X : List Value) (n : Nat) (u : Value), (spanCv a q ++ X).set (n + 6) u = spanCv a q ++ X.set n u := fun X n u => by
          rw [List.set_append_right _ _ (by simp [spanCv])]
          simp [spanCv]
        rw [show (i + 1) * 6 = i * 6 + 6 by omega, show i * 6 + 6 + 1 = i * 6 + 1 + 6 by omega, show i * 6 + 6 + 2 = i * 6 + 2 + 6 by omega, show i * 6 + 6 + 3 = i * 6 + 3 + 6 by omega, e, e, e, e]
end Go.Proofs.YtpaepkcfdnddgaaGreat

namespace Go.Proofs.YtpaepkcfdnddgaaGreat
open Go.RowKit
set_option linter.unusedVariables false

theorem flatV_same (L : List SpanD) (sv : List (Value × Value)) (i : Nat) (s s' : SpanD) (h1 : L[i]? = some s) (e0 : s'.page = s.page) (e1 : s'.cls = s.cls) (e2 : s'.mark = s.mark) (e3 : s'.swept = s.swept) : flatV (L.set i s') sv = flatV L sv := by
  induction i generalizing L sv with
  | zero =>
    cases L with
    | nil => simp at h1
    | cons a L =>
      cases sv with
      | nil => simp [flatV]
      | cons q sv =>
        simp at h1
        subst h1
        simp [flatV, spanCv, e0, e1, e2, e3]
  | succ i ih =>
    cases L with
    | nil => simp at h1
    | cons a L =>
      cases sv with
      | nil => simp [flatV]
      | cons q sv =>
        simp at h1
        have := ih L sv h1
        simp only [flatV, List.set_cons_succ, List.zip_cons_cons, List.flatMap_cons] at this ⊢
        rw [this]

section
variable {w w' : World} {base : Nat} {v : Value} {L : List SpanD} {sv : List (Value × Value)}
theorem OwnS.chg (h : OwnS w base v L sv) {bs : List Nat} (hc : Chg bs w w') (h1 : ∀ k, v.ownBlock = some k → k ∉ bs) (h2 : ∀ x, x ∈ svInts sv → ∀ k, x.ownBlock = some k → k ∉ bs) : OwnS w' base v L sv :=
  ⟨own_chg h.row hc h1, h.len, fun i s p hs hp => by
    have hm := List.mem_of_getElem? hp
    exact ⟨own_chg (h.inner i s p hs hp).1 hc (h2 p.1 (List.mem_flatMap.2 ⟨p, hm, by simp⟩)), own_chg (h.inner i s p hs hp).2 hc (h2 p.2 (List.mem_flatMap.2 ⟨p, hm, by simp⟩))⟩⟩

theorem OwnS.heads {g n cap : Nat} (h : OwnS w base (.slice (some ⟨g, 0, none⟩) n cap) L sv) (i : Nat) (s s' : SpanD) (p : Value × Value) (hs : L[i]? = some s) (hp : sv[i]? = some p) (el : s'.lens = s.lens) (ep : s'.ptrs = s.ptrs) :
    OwnS ((((w.setCell ⟨g, i * 6, none⟩ (.int .i64 s'.page)).setCell ⟨g, i * 6 + 1, none⟩ (.int .i64 s'.cls)).setCell ⟨g, i * 6 + 2, none⟩ (.int .i64 s'.mark)).setCell ⟨g, i * 6 + 3, none⟩ (.bool s'.swept)) base (.slice (some ⟨g, 0, none⟩) n cap) (L.set i s') sv ∧
    Chg [g] w ((((w.setCell ⟨g, i * 6, none⟩ (.int .i64 s'.page)).setCell ⟨g, i * 6 + 1, none⟩ (.int .i64 s'.cls)).setCell ⟨g, i * 6 + 2, none⟩ (.int .i64 s'.mark)).setCell ⟨g, i * 6 + 3, none⟩ (.bool s'.swept)) := by
  have hn : n = L.length := by
    have := h.row
    rcases this.2 with ⟨hv, _⟩ | ⟨g', cap', cur, hv, _⟩
    · simp at hv
    · simp at hv; omega
  subst hn
  have c1 := Chg.of_grown (grown_set w g (i * 6) (.int .i64 s'.page)) (bs := [g]) (by simp)
  have c2 := Chg.of_grown (grown_set (w.setCell ⟨g, i * 6, none⟩ (.int .i64 s'.page)) g (i * 6 + 1) (.int .i64 s'.cls)) (bs := [g]) (by simp)
  have c3 := Chg.of_grown (grown_set ((w.setCell ⟨g, i * 6, none⟩ (.int .i64 s'.page)).setCell ⟨g, i * 6 + 1, none⟩ (.int .i64 s'.cls)) g (i * 6 + 2) (.int .i64 s'.mark)) (bs := [g]) (by simp)
  have c4 := Chg.of_grown (grown_set (((w.setCell ⟨g, i * 6, none⟩ (.int .i64 s'.page)).setCell ⟨g, i * 6 + 1, none⟩ (.int .i64 s'.cls)).setCell ⟨g, i * 6 + 2, none⟩ (.int .i64 s'.mark)) g (i * 6 + 3) (.bool s'.swept)) (bs := [g]) (by simp)
  have c := ((c1.trans c2).trans c3).trans c4
  refine ⟨⟨?_, by rw [List.length_set]; exact h.len, fun j t q ht hq => ?_⟩, c⟩
  · have hst := (((h.row.stored (i * 6) (.int .i64 s'.page)).1.stored (i * 6 + 1) (.int .i64 s'.cls)).1.stored (i * 6 + 2) (.int .i64 s'.mark)).1.stored (i * 6 + 3) (.bool s'.swept)
    rw [flatV_set L sv i s s' p hs hp] at hst
    rw [List.length_set]
    exact hst.1
  · have hlt := (List.getElem?_eq_some_iff.1 hs).1
    have key : ∃ t0, L[j]? = some t0 ∧ t.lens = t0.lens ∧ t.ptrs = t0.ptrs := by
      by_cases e : j = i
      · subst e
        simp [hlt] at ht
        subst ht
        exact ⟨s, hs, el, ep⟩
      · rw [List.getElem?_set_ne (fun h => e h.symm)] at ht
        exact ⟨t, ht, rfl, rfl⟩
    obtain ⟨t0, h0, e1, e2⟩ := key
    rw [e1, e2]
    have hi := h.inner j t0 q h0 hq
    have ne : ∀ {size m : Nat} {x : Value} {xs : List Value}, w.ownsRow base 3 size x m xs → ∀ k, x.ownBlock = some k → k ∉ [g] := fun hx k hk => by
      have := own_types hx h.row (by decide) k hk
      simp only [List.mem_singleton]
      intro e
      subst e
      exact this rfl
    exact ⟨own_chg hi.1 c (ne hi.1), own_chg hi.2 c (ne hi.2)⟩

theorem OwnS.lists (h : OwnS w base v L sv) (ha : Apart (svInts sv)) (i : Nat) (s s' : SpanD) (p : Value × Value) (hs : L[i]? = some s) (hp : sv[i]? = some p) (e0 : s'.page = s.page) (e1 : s'.cls = s.cls) (e2 : s'.mark = s.mark) (e3 : s'.swept = s.swept)
    (x : Value) (hx : x = p.1 ∨ x = p.2) (hg : w.grownBy w' x.ownBlock)
    (hl : (x = p.1 ∧ s'.ptrs = s.ptrs ∧ w'.ownsRow base 3 1 p.1 s'.lens.length (s'.lens.map (Value.int .i64))) ∨ (x = p.2 ∧ s'.lens = s.lens ∧ w'.ownsRow base 3 1 p.2 s'.ptrs.length (s'.ptrs.map (Value.int .i64)))) :
    OwnS w' base v (L.set i s') sv := by
  have hlt := (List.getElem?_eq_some_iff.1 hs).1
  have hi := h.inner i s p hs hp
  obtain ⟨A, B, hab, hq⟩ := svInts_at sv i p hp
  rw [hab] at ha
  have hc : Chg (x.ownBlock.toList) w w' := Chg.of_grown hg fun y hy => by rw [hy]; simp
  have hxo : ∃ m xs, w.ownsRow base 3 1 x m xs := by
    rcases hx with rfl | rfl
    · exact ⟨_, _, hi.1⟩
    · exact ⟨_, _, hi.2⟩
  obtain ⟨m, xs, hxo⟩ := hxo
  refine ⟨?_, by rw [List.length_set]; exact h.len, fun j t q ht hjq => ?_⟩
  · rw [List.length_set, flatV_same L sv i s s' hs e0 e1 e2 e3]
    refine own_chg h.row hc fun k hk hm => ?_
    cases hxb : x.ownBlock with
    | none => rw [hxb] at hm; simp at hm
    | some c =>
      rw [hxb] at hm
      simp at hm
      subst hm
      exact own_types hxo h.row (by decide) k hxb hk
  · by_cases e : j = i
    · subst e
      simp [hlt] at ht
      subst ht
      rw [hp] at hjq
      cases hjq
      rcases hl with ⟨rfl, ep, ho⟩ | ⟨rfl, el, ho⟩
      · refine ⟨ho, ?_⟩
        rw [ep]
        refine own_chg hi.2 hc fun k hk hm => ?_
        cases hxb : p.1.ownBlock with
        | none => rw [hxb] at hm; simp at hm
        | some c => rw [hxb] at hm; simp at hm; subst hm; exact (apart_at ha).2 hk |>.1 hxb
      · refine ⟨?_, ho⟩
        rw [el]
        refine own_chg hi.1 hc fun k hk hm => ?_
        cases hxb : p.2.ownBlock with
        | none => rw [hxb] at hm; simp at hm
        | some c => rw [hxb] at hm; simp at hm; subst hm; exact (apart_at ha).1 hk |>.1 hxb
    · rw [List.getElem?_set_ne (fun h => e h.symm)] at ht
      have hij := h.inner j t q ht hjq
      have hne := hq j q e hjq
      have ne : ∀ y, y ∈ A ∨ y ∈ B → ∀ k, y.ownBlock = some k → k ∉ x.ownBlock.toList := fun y hy k hk hm => by
        cases hxb : x.ownBlock with
        | none => rw [hxb] at hm; simp at hm
        | some c =>
          rw [hxb] at hm
          simp at hm
          subst hm
          rcases hx with rfl | rfl
          · exact ((apart_at ha).1 hxb).2 y hy hk
          · exact ((apart_at ha).2 hxb).2 y hy hk
      exact ⟨own_chg hij.1 hc (ne q.1 hne.1), own_chg hij.2 hc (ne q.2 hne.2)⟩
end

theorem OwnS.len_eq {w : World} {base g n cap : Nat} {L : List SpanD} {sv : List (Value × Value)} (h : OwnS w base (.slice (some ⟨g, 0, none⟩) n cap) L sv) : n = L.length := by
  rcases h.row.2 with ⟨hv, _⟩ | ⟨g', cap', cur, hv, _⟩
  · simp at hv
  · simp at hv; omega
theorem OwnS.cellOf {w : World} {base g n cap : Nat} {L : List SpanD} {sv : List (Value × Value)} (h : OwnS w base (.slice (some ⟨g, 0, none⟩) n cap) L sv) (i : Nat) (s : SpanD) (p : Value × Value) (hs : L[i]? = some s) (hp : sv[i]? = some p) (j : Nat) (hj : j < 6) :
    w.cell? ⟨g, i * 6 + j, none⟩ = (spanCv s p)[j]? := by
  have hlt := (List.getElem?_eq_some_iff.1 hs).1
  obtain rfl := h.len_eq
  have hrow := h.row
  rw [hrow.cellAt (i * 6 + j) (by omega), flatV_at _ sv i s p hs hp j hj]
theorem OwnS.frz {w : World} {base g n cap : Nat} {L : List SpanD} {sv : List (Value × Value)} (h : OwnS w base (.slice (some ⟨g, 0, none⟩) n cap) L sv) (j : Nat) : w.frozen? ⟨g, j, none⟩ = false := by
  obtain rfl := h.len_eq
  exact h.row.frozenAt j
theorem set_at {α : Type} {L : List α} {i : Nat} {s t : α} (h : L[i]? = some s) : (L.set i t)[i]? = some t := by
  have := (List.getElem?_eq_some_iff.1 h).1
  simp [this]
theorem markSpan_eq (s : SpanD) (k : Int) : markSpan s k = ⟨k, k + 1, k + 1 + 1, (k + 1 + 1 + 1) % 3 == 0, seqL (k + 1 + 1 + 1 + 1) s.lens.length, seqL (k + 1 + 1 + 1 + 1 + (s.lens.length : Int)) s.ptrs.length⟩ := by
  unfold markSpan
  rw [show k + 1 + 1 = k + 2 by omega, show k + 2 + 1 = k + 3 by omega, show k + 3 + 1 = k + 4 by omega]
theorem spanEnd_eq (s : SpanD) (k : Int) : spanEnd s k = k + 1 + 1 + 1 + 1 + (s.lens.length : Int) + (s.ptrs.length : Int) := by unfold spanEnd; omega

set_option maxRecDepth 100000 in
set_option maxHeartbeats 8000000 in
theorem markSpanS_any (base : Nat) (v : Value) (k : Int) (L : List SpanD) (sv : List (Value × Value)) (ha : Apart (svInts sv)) (hk0 : 0 ≤ k) (hk : k + 4 * (L.length : Int) + (bulkS L : Int) ≤ 100000000000) (w : World) (h : OwnS w base v L sv) :
    Calls Tryz.prog 62 #[v, .int .i64 k] w fun e w' => e = .returned (.int .i64 (markUp L k L.length).2) ∧ OwnS w' base v (markUp L k L.length).1 sv ∧ Chg (v.ownBlock.toList ++ (svInts sv).filterMap Value.ownBlock) w w' := by
  have hv := h.row.2
  rcases hv with ⟨rfl, h0⟩ | ⟨g, cap, cur, rfl, hb, _, _, hcap, _, _⟩
  · obtain rfl : L = [] := List.length_eq_zero_iff.1 h0
    have h' := Lib.hid h
    clear h ha
    go_enter Tryz.func62, Tryz.ntmps62
    go_wp2_with fail
    go_loop [1, 5] (fun q i => q = .int .i64 k ∧ i = .int .i64 0) (fun q i => 0)
    case atStart => exact ⟨rfl, rfl⟩
    case round =>
      obtain ⟨rfl, rfl⟩ := hrel
      go_wp2_with fail
      go_ret
      exact ⟨rfl, h'.out, Chg.refl _ _⟩
  · have hK := Lib.hid (markUp_k L k)
    have ha' := Lib.hid ha
    have h' := Lib.hid h
    have hlen := h.len
    have hbl : L.length ≤ 100000000000 := by omega
    clear h ha
    go_enter Tryz.func62, Tryz.ntmps62
    go_wp2_with fail
    go_loopw [1, 5] (fun q i wr => ∃ i' : Nat, i' ≤ L.length ∧ q = .int .i64 (markUp L k i').2 ∧ i = .int .i64 i' ∧ Hid (OwnS wr base (.slice (some ⟨g, 0, none⟩) L.length cap) (markUp L k i').1 sv) ∧ Chg ([g] ++ (svInts sv).filterMap Value.ownBlock) w wr) (fun q i _ => L.length - (RowKit.intOf i).toNat)
    case atStart => exact ⟨0, Nat.zero_le _, rfl, rfl, h'.out, Chg.refl _ _⟩
    case round =>
      obtain ⟨i, hi, rfl, rfl, hown, hch⟩ := hrel
      by_cases hlt : i < L.length
      · obtain ⟨s, hs⟩ : ∃ s, L[i]? = some s := ⟨_, List.getElem?_eq_getElem hlt⟩
        obtain ⟨p, hp⟩ : ∃ p, sv[i]? = some p := ⟨_, List.getElem?_eq_getElem (by omega)⟩
        have hst := Lib.hid (markUp_step L k i s hs)
        have hX := Lib.hid ((markUp_later L k i i (Nat.le_refl _)).trans hs)
        have hXl := Lib.hid (markUp_len L k i)
        have hKi := hK.out i hi
        have hKb := bulkS_take L i s hs
        have hKl := bulkS_le L (i + 1)
        have hkk0 : 0 ≤ (markUp L k i).2 := by omega
        have hkk1 : (markUp L k i).2 + 4 + (s.lens.length : Int) + (s.ptrs.length : Int) ≤ 100000000000 := by
          simp only [SpanD.bulk] at hKb
          omega
        have hrow := hown.out.row
        have hrl := hXl.out
        have hlt1 : (i : Int) < (L.length : Int) := by omega
        have hs' := Lib.hid hs
        have hp' := Lib.hid hp
        have cellOf : ∀ j, j < 6 → ∃ u, wr.cell? ⟨g, i * 6 + j, none⟩ = some u := fun j hj => by
          have hl := hrow.1
          rw [hrl] at hl hrow
          rw [hrow.cellAt (i * 6 + j) (by omega), List.getElem?_eq_getElem (by omega)]
          exact ⟨_, rfl⟩
        obtain ⟨u0, y0⟩ := cellOf 0 (by omega)
        obtain ⟨u1, y1⟩ := cellOf 1 (by omega)
        obtain ⟨u2, y2⟩ := cellOf 2 (by omega)
        obtain ⟨u3, y3⟩ := cellOf 3 (by omega)
        rw [Nat.add_zero] at y0
        have frz : ∀ j, wr.frozen? ⟨g, j, none⟩ = false := fun j => by
          rw [hrl] at hrow
          exact hrow.frozenAt j
        have z0 := frz (i * 6)
        have z1 := frz (i * 6 + 1)
        have z2 := frz (i * 6 + 2)
        have z3 := frz (i * 6 + 3)
        have y4 : wr.cell? ⟨g, i * 6 + 4, none⟩ = some p.1 := by
          rw [hrl] at hrow
          rw [hrow.cellAt (i * 6 + 4) (by omega), flatV_at _ sv i s p hX.out hp 4 (by omega)]
          rfl
        clear cellOf frz hrow hrl hs hp hKi hKb hKl
        generalize hkk : (markUp L k i).2 = kk at *
        have hkk' := Lib.hid hkk
        clear hkk
        have hd := Lib.hid (hown.out.heads i s ⟨kk, kk + 1, kk + 1 + 1, (kk + 1 + 1 + 1) % 3 == 0, s.lens, s.ptrs⟩ p hX.out hp'.out rfl rfl)
        have hc1 := Lib.hid (hd.out.1.inner i _ p (set_at hX.out) hp'.out).1
        have hg := Lib.hid (show ∀ (w' : World) (bs : List Nat), Chg bs wr w' → (∀ x, x ∈ bs → x ∈ [g] ++ (svInts sv).filterMap Value.ownBlock) → Chg ([g] ++ (svInts sv).filterMap Value.ownBlock) w w' from fun _ _ h1 h2 => hch.trans (h1.mono h2))
        have hin := Lib.hid (show ∀ (x : Value) (b : Nat), (x = p.1 ∨ x = p.2) → x.ownBlock = some b → b ∈ [g] ++ (svInts sv).filterMap Value.ownBlock from fun x b hx hb => by
          have hm := List.mem_of_getElem? hp'.out
          refine List.mem_append.2 (.inr (List.mem_filterMap.2 ⟨x, List.mem_flatMap.2 ⟨p, hm, ?_⟩, hb⟩))
          rcases hx with rfl | rfl <;> simp)
        have hX' := Lib.hid (set_at (t := (⟨kk, kk + 1, kk + 1 + 1, (kk + 1 + 1 + 1) % 3 == 0, s.lens, s.ptrs⟩ : SpanD)) hX.out)
        have hms := Lib.hid (markSpan_eq s kk)
        have hme := Lib.hid (spanEnd_eq s kk)
        clear hown hch
        have hll : s.lens.length ≤ 100000000000 := by omega
        have hpl : s.ptrs.length ≤ 100000000000 := by omega
        go_wp2_with fail
        refine (markIntS_any base p.1 (kk + 1 + 1 + 1 + 1) s.lens (by omega) (by omega) (by omega) _ hc1.out).mono ?_
        rintro e w5 ⟨rfl, o5, g5⟩
        have h5 := Lib.hid (hd.out.1.lists ha'.out i _ ⟨kk, kk + 1, kk + 1 + 1, (kk + 1 + 1 + 1) % 3 == 0, seqL (kk + 1 + 1 + 1 + 1) s.lens.length, s.ptrs⟩ p hX'.out hp'.out rfl rfl rfl rfl p.1 (.inl rfl) g5 (.inl ⟨rfl, rfl, by rw [seqL_length]; exact o5⟩))
        have c5 := Lib.hid (Chg.of_grown g5 (bs := p.1.ownBlock.toList) fun y hy => by rw [hy]; simp)
        rw [List.set_set] at h5
        have hX5 := Lib.hid (set_at (t := (⟨kk, kk + 1, kk + 1 + 1, (kk + 1 + 1 + 1) % 3 == 0, seqL (kk + 1 + 1 + 1 + 1) s.lens.length, s.ptrs⟩ : SpanD)) hX.out)
        have y5 : w5.cell? ⟨g, i * 6 + 5, none⟩ = some p.2 := (h5.out.cellOf i _ p hX5.out hp'.out 5 (by omega)).trans rfl
        have hc2 := Lib.hid (h5.out.inner i _ p hX5.out hp'.out).2
        clear o5 g5 y0 y1 y2 y3 y4 z0 z1 z2 z3
        go_wp2_with fail
        refine (markIntS_any base p.2 (kk + 1 + 1 + 1 + 1 + (s.lens.length : Int)) s.ptrs (by omega) (by omega) (by omega) _ hc2.out).mono ?_
        rintro e w6 ⟨rfl, o6, g6⟩
        have h6 := Lib.hid (h5.out.lists ha'.out i _ (markSpan s kk) p hX5.out hp'.out (by rw [hms.out]) (by rw [hms.out]) (by rw [hms.out]) (by rw [hms.out]) p.2 (.inr rfl) g6 (.inr ⟨rfl, by rw [hms.out], by rw [hms.out]; simp only [seqL_length]; exact o6⟩))
        have c6 := Lib.hid (Chg.of_grown g6 (bs := p.2.ownBlock.toList) fun y hy => by rw [hy]; simp)
        rw [List.set_set] at h6
        have hall := Lib.hid (hg.out _ _ ((hd.out.2.mono (cs := [g] ++ (svInts sv).filterMap Value.ownBlock) (fun x hx => by simp at hx; subst hx; simp)).trans ((c5.out.mono (cs := [g] ++ (svInts sv).filterMap Value.ownBlock) (fun x hx => hin.out p.1 x (.inl rfl) (by simpa using hx))).trans (c6.out.mono (cs := [g] ++ (svInts sv).filterMap Value.ownBlock) (fun x hx => hin.out p.2 x (.inr rfl) (by simpa using hx))))) (fun x hx => hx))
        clear o6 g6 y5
        go_wp2_with fail
        go_roundw
        case rel => exact ⟨i + 1, by omega, by rw [hst.out, hme.out], by go_num, by rw [hst.out]; exact h6, hall.out⟩
        case measure => simp [RowKit.intOf]; omega
      · obtain rfl : i = L.length := by omega
        go_wp2_with fail
        go_ret
        exact ⟨rfl, hown.out, hch⟩
end Go.Proofs.YtpaepkcfdnddgaaGreat

namespace Go.Proofs.YtpaepkcfdnddgaaGreat
open Go.RowKit
set_option linter.unusedVariables false

/-- The users' rows when the first i are marked; the next mark. -/
def markM (L : List (List Int)) (k : Int) : Nat → List (List Int) × Int
  | 0 => (L, k)
  | i + 1 => match L[i]? with
    | some r => ((markM L k i).1.set i (seqL (markM L k i).2 r.length), (markM L k i).2 + (r.length : Int))
    | none => markM L k i
theorem markM_len (L : List (List Int)) (k : Int) (i : Nat) : (markM L k i).1.length = L.length := by
  induction i with
  | zero => rfl
  | succ i ih => unfold markM; split <;> simp [ih]
theorem markM_later (L : List (List Int)) (k : Int) (i j : Nat) (h : i ≤ j) : (markM L k i).1[j]? = L[j]? := by
  induction i with
  | zero => rfl
  | succ i ih =>
    unfold markM
    split
    · rw [List.getElem?_set_ne (by omega)]; exact ih (by omega)
    · exact ih (by omega)
theorem markM_step (L : List (List Int)) (k : Int) (i : Nat) (r : List Int) (h : L[i]? = some r) : markM L k (i + 1) = ((markM L k i).1.set i (seqL (markM L k i).2 r.length), (markM L k i).2 + (r.length : Int)) := by
  conv => lhs; unfold markM
  rw [h]
theorem markM_none (L : List (List Int)) (k : Int) (i : Nat) (h : L[i]? = none) : markM L k (i + 1) = markM L k i := by
  conv => lhs; unfold markM
  rw [h]
theorem markM_done (L : List (List Int)) (k : Int) (i n : Nat) (r : List Int) (h : L[i]? = some r) (hn : i < n) : (markM L k n).1[i]? = some (seqL (markM L k i).2 r.length) := by
  induction n with
  | zero => omega
  | succ n ih =>
    by_cases e : i = n
    · subst e
      rw [markM_step L k i r h]
      have : i < (markM L k i).1.length := by rw [markM_len]; exact (List.getElem?_eq_some_iff.1 h).1
      simp [this]
    · have hi := ih (by omega)
      cases hL : L[n]? with
      | some t => rw [markM_step L k n t hL, List.getElem?_set_ne (by omega)]; exact hi
      | none => rw [markM_none L k n hL]; exact hi
theorem bulkM_step (L : List (List Int)) (i : Nat) (r : List Int) (h : L[i]? = some r) : bulkM (L.take (i + 1)) = bulkM (L.take i) + r.length := by
  obtain ⟨hk, rfl⟩ := List.getElem?_eq_some_iff.1 h
  unfold bulkM
  rw [List.take_succ_eq_append_getElem hk, List.map_append, List.sum_append]
  simp [-List.map_take]
theorem bulkM_upto (L : List (List Int)) (i : Nat) : bulkM (L.take i) ≤ bulkM L := by
  have : bulkM L = bulkM (L.take i) + bulkM (L.drop i) := by
    unfold bulkM
    rw [← List.sum_append, ← List.map_append, List.take_append_drop]
  omega
theorem markM_k (L : List (List Int)) (k : Int) (i : Nat) (h : i ≤ L.length) : (markM L k i).2 = k + (bulkM (L.take i) : Int) := by
  induction i with
  | zero => simp [markM, bulkM]
  | succ i ih =>
    obtain ⟨s, hs⟩ : ∃ s, L[i]? = some s := ⟨_, List.getElem?_eq_getElem (by omega)⟩
    rw [markM_step L k i s hs, bulkM_step L i s hs]
    simp only
    rw [ih (by omega)]
    omega

/-- The users' rows, owned. -/
structure OwnM (w : World) (base : Nat) (v : Value) (L : List (List Int)) (mv : List Value) : Prop where
  row : w.ownsRow base 78 1 v L.length mv
  len : mv.length = L.length
  inner : ∀ (i : Nat) (r : List Int) (u : Value), L[i]? = some r → mv[i]? = some u → w.ownsRow base 3 1 u r.length (r.map (Value.int .i64))
theorem mv_at (mv : List Value) (i : Nat) (u : Value) (h : mv[i]? = some u) : ∃ A B, mv = A ++ u :: B ∧ ∀ j q, j ≠ i → mv[j]? = some q → q ∈ A ∨ q ∈ B := by
  induction mv generalizing i with
  | nil => simp at h
  | cons a mv ih =>
    cases i with
    | zero =>
      simp at h
      subst h
      refine ⟨[], mv, rfl, fun j q hj hq => ?_⟩
      cases j with
      | zero => exact absurd rfl hj
      | succ j => exact .inr (List.mem_of_getElem? (by simpa using hq))
    | succ i =>
      simp at h
      obtain ⟨A, B, e, hq⟩ := ih i h
      refine ⟨a :: A, B, by rw [e]; rfl, fun j q hj hjq => ?_⟩
      cases j with
      | zero => simp at hjq; subst hjq; exact .inl (by simp)
      | succ j =>
        simp at hjq
        exact (hq j q (by omega) hjq).imp (by intro h; simp [h]) id
theorem apart_one {A B : List Value} {u : Value} (h : Apart (A ++ u :: B)) {k : Nat} (hu : u.ownBlock = some k) : ∀ x, x ∈ A ∨ x ∈ B → x.ownBlock ≠ some k := by
  unfold Apart at h
  rw [List.filterMap_append, List.nodup_append] at h
  obtain ⟨hA, hB, hAB⟩ := h
  intro x hx hk
  rcases hx with hx | hx
  · exact hAB k (List.mem_filterMap.2 ⟨x, hx, hk⟩) k (List.mem_filterMap.2 ⟨u, by simp, hu⟩) rfl
  · rw [List.filterMap_cons_some hu, List.nodup_cons] at hB
    exact hB.1 (List.mem_filterMap.2 ⟨x, hx, hk⟩)

section
variable {w w' : World} {base : Nat} {v : Value} {L : List (List Int)} {mv : List Value}
theorem OwnM.chg (h : OwnM w base v L mv) {bs : List Nat} (hc : Chg bs w w') (h1 : ∀ k, v.ownBlock = some k → k ∉ bs) (h2 : ∀ x, x ∈ mv → ∀ k, x.ownBlock = some k → k ∉ bs) : OwnM w' base v L mv :=
  ⟨own_chg h.row hc h1, h.len, fun i s p hs hp => own_chg (h.inner i s p hs hp) hc (h2 p (List.mem_of_getElem? hp))⟩
theorem OwnM.list (h : OwnM w base v L mv) (ha : Apart mv) (i : Nat) (r r' : List Int) (u : Value) (hs : L[i]? = some r) (hp : mv[i]? = some u) (hg : w.grownBy w' u.ownBlock)
    (ho : w'.ownsRow base 3 1 u r'.length (r'.map (Value.int .i64))) : OwnM w' base v (L.set i r') mv := by
  have hlt := (List.getElem?_eq_some_iff.1 hs).1
  have hi := h.inner i r u hs hp
  obtain ⟨A, B, hab, hq⟩ := mv_at mv i u hp
  have ha' := ha
  rw [hab] at ha'
  have hc : Chg (u.ownBlock.toList) w w' := Chg.of_grown hg fun y hy => by rw [hy]; simp
  refine ⟨?_, by rw [List.length_set]; exact h.len, fun j t q ht hjq => ?_⟩
  · rw [List.length_set]
    refine own_chg h.row hc fun k hk hm => ?_
    cases hxb : u.ownBlock with
    | none => rw [hxb] at hm; simp at hm
    | some c =>
      rw [hxb] at hm
      simp at hm
      subst hm
      exact own_types hi h.row (by decide) k hxb hk
  · by_cases e : j = i
    · subst e
      simp [hlt] at ht
      subst ht
      rw [hp] at hjq
      cases hjq
      exact ho
    · rw [List.getElem?_set_ne (fun h => e h.symm)] at ht
      refine own_chg (h.inner j t q ht hjq) hc fun k hk hm => ?_
      cases hxb : u.ownBlock with
      | none => rw [hxb] at hm; simp at hm
      | some c =>
        rw [hxb] at hm
        simp at hm
        subst hm
        exact apart_one ha' hxb q (hq j q e hjq) hk
end
theorem OwnM.len_eq {w : World} {base g n cap : Nat} {L : List (List Int)} {mv : List Value} (h : OwnM w base (.slice (some ⟨g, 0, none⟩) n cap) L mv) : n = L.length := by
  rcases h.row.2 with ⟨hv, _⟩ | ⟨g', cap', cur, hv, _⟩
  · simp at hv
  · simp at hv; omega
theorem OwnM.cellOf {w : World} {base g n cap : Nat} {L : List (List Int)} {mv : List Value} (h : OwnM w base (.slice (some ⟨g, 0, none⟩) n cap) L mv) (i : Nat) (u : Value) (hp : mv[i]? = some u) : w.cell? ⟨g, i, none⟩ = some u := by
  obtain rfl := h.len_eq
  have hl := (List.getElem?_eq_some_iff.1 hp).1
  rw [h.row.cellAt i (by have := h.len; omega), hp]

set_option maxRecDepth 100000 in
set_option maxHeartbeats 4000000 in
theorem markMutS_any (base : Nat) (v : Value) (k : Int) (L : List (List Int)) (mv : List Value) (ha : Apart mv) (hk0 : 0 ≤ k) (hk : k + (bulkM L : Int) ≤ 100000000000) (hl : L.length ≤ 100000000000) (w : World) (h : OwnM w base v L mv) :
    Calls Tryz.prog 63 #[v, .int .i64 k] w fun e w' => e = .returned (.int .i64 (markM L k L.length).2) ∧ OwnM w' base v (markM L k L.length).1 mv ∧ Chg (mv.filterMap Value.ownBlock) w w' := by
  have hv := h.row.2
  rcases hv with ⟨rfl, h0⟩ | ⟨g, cap, cur, rfl, hb, _, _, hcap, _, _⟩
  · obtain rfl : L = [] := List.length_eq_zero_iff.1 h0
    have h' := Lib.hid h
    clear h ha
    go_enter Tryz.func63, Tryz.ntmps63
    go_wp2_with fail
    go_loop [1, 5] (fun q i => q = .int .i64 k ∧ i = .int .i64 0) (fun q i => 0)
    case atStart => exact ⟨rfl, rfl⟩
    case round =>
      obtain ⟨rfl, rfl⟩ := hrel
      go_wp2_with fail
      go_ret
      exact ⟨rfl, h'.out, Chg.refl _ _⟩
  · have hK := Lib.hid (markM_k L k)
    have ha' := Lib.hid ha
    have h' := Lib.hid h
    have hlen := h.len
    clear h ha
    go_enter Tryz.func63, Tryz.ntmps63
    go_wp2_with fail
    go_loopw [1, 5] (fun q i wr => ∃ i' : Nat, i' ≤ L.length ∧ q = .int .i64 (markM L k i').2 ∧ i = .int .i64 i' ∧ Hid (OwnM wr base (.slice (some ⟨g, 0, none⟩) L.length cap) (markM L k i').1 mv) ∧ Chg (mv.filterMap Value.ownBlock) w wr) (fun q i _ => L.length - (RowKit.intOf i).toNat)
    case atStart => exact ⟨0, Nat.zero_le _, rfl, rfl, h'.out, Chg.refl _ _⟩
    case round =>
      obtain ⟨i, hi, rfl, rfl, hown, hch⟩ := hrel
      by_cases hlt : i < L.length
      · obtain ⟨r, hs⟩ : ∃ s, L[i]? = some s := ⟨_, List.getElem?_eq_getElem hlt⟩
        obtain ⟨u, hp⟩ : ∃ p, mv[i]? = some p := ⟨_, List.getElem?_eq_getElem (by omega)⟩
        have hst := Lib.hid (markM_step L k i r hs)
        have hX := Lib.hid ((markM_later L k i i (Nat.le_refl _)).trans hs)
        have hKi := hK.out i hi
        have hKb := bulkM_step L i r hs
        have hKl := bulkM_upto L (i + 1)
        have hkk0 : 0 ≤ (markM L k i).2 := by omega
        have hkk1 : (markM L k i).2 + (r.length : Int) ≤ 100000000000 := by omega
        have hlt1 : (i : Int) < (L.length : Int) := by omega
        have hp' := Lib.hid hp
        have y0 := hown.out.cellOf i u hp
        have hin := Lib.hid (hown.out.inner i r u hX.out hp)
        have hch' := Lib.hid hch
        clear hs hp hKi hKb hKl hch
        generalize hkk : (markM L k i).2 = kk at *
        clear hkk
        have hll : r.length ≤ 100000000000 := by omega
        go_wp2_with fail
        refine (markIntS_any base u kk r (by omega) (by omega) (by omega) _ hin.out).mono ?_
        rintro e w5 ⟨rfl, o5, g5⟩
        have h5 := Lib.hid (hown.out.list ha'.out i r (seqL kk r.length) u hX.out hp'.out g5 (by rw [seqL_length]; exact o5))
        have hall := Lib.hid (hch'.out.trans (Chg.of_grown g5 (bs := mv.filterMap Value.ownBlock) fun y hy => List.mem_filterMap.2 ⟨u, List.mem_of_getElem? hp'.out, hy⟩))
        clear o5 g5 y0 hown
        go_wp2_with fail
        go_roundw
        case rel => exact ⟨i + 1, by omega, by rw [hst.out], by go_num, by rw [hst.out]; exact h5, hall.out⟩
        case measure => simp [RowKit.intOf]; omega
      · obtain rfl : i = L.length := by omega
        go_wp2_with fail
        go_ret
        exact ⟨rfl, hown.out, hch⟩

set_option maxHeartbeats 1000000 in
theorem markGc_any (base : Nat) (p q : Int) (v : Value) (k : Int) (L : List Int) (hk0 : 0 ≤ k) (hk : k ≤ 1000000000000) (hL : L.length ≤ 100000000000) (w : World) (h1 : w.ownsRow base 3 1 v L.length (L.map (Value.int .i64))) :
    Calls Tryz.prog 64 #[.agg #[.int .i64 p, .int .i64 q, v], .int .i64 k] w fun e w' => e = .returned (.int .i64 (k + (L.length : Int))) ∧ w'.ownsRow base 3 1 v L.length ((seqL k L.length).map (Value.int .i64)) ∧ Chg v.ownBlock.toList w w' := by
  have bb := below_box w (.cells #[.int .i64 p, .int .i64 q, v] 34)
  have hcall := Lib.hid (markIntS_any base v k L (by omega) hk (by omega) _ (own_below h1 bb))
  have bb' := Lib.hid bb
  clear h1 bb
  go_enter Tryz.func64, Tryz.ntmps64
  go_wp2_with fail
  refine hcall.out.mono ?_
  rintro e w5 ⟨rfl, o5, g5⟩
  have o5' := Lib.hid o5
  have g5' := Lib.hid g5
  clear o5 g5
  go_wp2_with fail
  go_ret
  exact ⟨rfl, o5'.out, (Chg.of_below bb'.out _).trans (Chg.of_grown g5'.out fun y hy => by rw [hy]; simp)⟩
end Go.Proofs.YtpaepkcfdnddgaaGreat

namespace Go.Proofs.YtpaepkcfdnddgaaGreat
open Go.RowKit
set_option linter.unusedVariables false

theorem seqB_at (k : Int) (n j : Nat) (h : j < n) : (seqB k n)[j]?.getD false = ((k + (j : Int)) % 3 == 0) := by simp [seqB, h]

set_option maxHeartbeats 1000000 in
theorem heldBoolS_yes (v : Value) (k : Int) (n : Nat) (hk0 : 0 ≤ k) (hk : k ≤ 1000000000000) (hn : n ≤ 1000000000000000000) (w : World) (h1 : RdB w v (seqB k n)) :
    Calls Tryz.prog 66 #[v, .int .i64 k] w fun e w' => e = .returned (.int .i64 (k + (n : Int))) ∧ w = w' := by
  obtain ⟨a1, c1, rfl, _, r1⟩ := h1
  simp only [seqB_length] at r1 ⊢
  have r1' := Lib.hid r1
  clear r1
  go_enter Tryz.func66, Tryz.ntmps66
  go_wp2
  go_loop [1, 5] (fun q i => ∃ j : Nat, j ≤ n ∧ q = .int .i64 (k + (j : Int)) ∧ i = .int .i64 j) (fun q i => n - (RowKit.intOf i).toNat)
  case atStart => exact ⟨0, Nat.zero_le _, by simp, rfl⟩
  case round =>
    obtain ⟨j, hj, rfl, rfl⟩ := hrel
    by_cases hlt : j < n
    · obtain ⟨b1, o1, rfl, x1⟩ := r1'.out j hlt
      rw [seqB_at k n j hlt] at x1
      go_wp2
      go_round
      case rel => exact ⟨j + 1, by omega, by go_num, by go_num⟩
      case measure => simp [RowKit.intOf]; omega
    · obtain rfl : j = n := by omega
      go_wp2
      go_ret
      exact ⟨rfl, rfl⟩

set_option maxRecDepth 100000 in
set_option maxHeartbeats 4000000 in
theorem heldSpanS_yes (v : Value) (k : Int) (L : List SpanD) (hk0 : 0 ≤ k) (hk : k + 4 * (L.length : Int) + (bulkS L : Int) ≤ 100000000000) (w : World) (h1 : RdS w v (markUp L k L.length).1) :
    Calls Tryz.prog 67 #[v, .int .i64 k] w fun e w' => e = .returned (.int .i64 (markUp L k L.length).2) ∧ w = w' := by
  obtain ⟨a1, c1, rfl, _, r1⟩ := h1
  simp only [markUp_len] at r1 ⊢
  have r1' := Lib.hid r1
  have hK := Lib.hid (markUp_k L k)
  have hbl : L.length ≤ 100000000000 := by omega
  clear r1
  go_enter Tryz.func67, Tryz.ntmps67
  go_wp2_with fail
  go_loop [1, 5] (fun q i => ∃ i' : Nat, i' ≤ L.length ∧ q = .int .i64 (markUp L k i').2 ∧ i = .int .i64 i') (fun q i => L.length - (RowKit.intOf i).toNat)
  case atStart => exact ⟨0, Nat.zero_le _, rfl, rfl⟩
  case round =>
    obtain ⟨i, hi, rfl, rfl⟩ := hrel
    by_cases hlt : i < L.length
    · obtain ⟨s, hs⟩ : ∃ s, L[i]? = some s := ⟨_, List.getElem?_eq_getElem hlt⟩
      have hst := Lib.hid (markUp_step L k i s hs)
      have hKi := hK.out i hi
      have hKb := bulkS_take L i s hs
      have hKl := bulkS_le L (i + 1)
      have hkk0 : 0 ≤ (markUp L k i).2 := by omega
      have hkk1 : (markUp L k i).2 + 4 + (s.lens.length : Int) + (s.ptrs.length : Int) ≤ 100000000000 := by
        simp only [SpanD.bulk] at hKb
        omega
      have hlt1 : (i : Int) < (L.length : Int) := by omega
      have hme := Lib.hid (spanEnd_eq s (markUp L k i).2)
      obtain ⟨b1, o1, rfl, hr⟩ := r1'.out i _ (markUp_done L k i L.length s hs hlt)
      rw [markSpan_eq] at hr
      obtain ⟨vl, vp, y0, y1, y2, y3, y4, y5, hl, hp⟩ := hr
      have hl' := Lib.hid hl
      have hp' := Lib.hid hp
      clear hs hKi hKb hKl hl hp
      generalize (markUp L k i).2 = kk at *
      have hll : s.lens.length ≤ 100000000000 := by omega
      have hpl : s.ptrs.length ≤ 100000000000 := by omega
      go_wp2_with fail
      refine (heldIntS_yes vl (kk + 1 + 1 + 1 + 1) s.lens.length (by omega) (by omega) (by omega) _ hl'.out).mono ?_
      rintro e w5 ⟨rfl, rfl⟩
      go_wp2_with fail
      refine (heldIntS_yes vp (kk + 1 + 1 + 1 + 1 + (s.lens.length : Int)) s.ptrs.length (by omega) (by omega) (by omega) _ hp'.out).mono ?_
      rintro e w5 ⟨rfl, rfl⟩
      go_wp2_with fail
      go_round
      case rel => exact ⟨i + 1, by omega, by rw [hst.out, hme.out], by go_num⟩
      case measure => simp [RowKit.intOf]; omega
    · obtain rfl : i = L.length := by omega
      go_wp2_with fail
      go_ret
      exact ⟨rfl, rfl⟩

set_option maxRecDepth 100000 in
set_option maxHeartbeats 4000000 in
theorem heldMutS_yes (v : Value) (k : Int) (L : List (List Int)) (hk0 : 0 ≤ k) (hk : k + (bulkM L : Int) ≤ 100000000000) (hlL : L.length ≤ 100000000000) (w : World) (h1 : RdM w v (markM L k L.length).1) :
    Calls Tryz.prog 68 #[v, .int .i64 k] w fun e w' => e = .returned (.int .i64 (markM L k L.length).2) ∧ w = w' := by
  obtain ⟨a1, c1, rfl, _, r1⟩ := h1
  simp only [markM_len] at r1 ⊢
  have r1' := Lib.hid r1
  have hK := Lib.hid (markM_k L k)
  clear r1
  go_enter Tryz.func68, Tryz.ntmps68
  go_wp2_with fail
  go_loop [1, 5] (fun q i => ∃ i' : Nat, i' ≤ L.length ∧ q = .int .i64 (markM L k i').2 ∧ i = .int .i64 i') (fun q i => L.length - (RowKit.intOf i).toNat)
  case atStart => exact ⟨0, Nat.zero_le _, rfl, rfl⟩
  case round =>
    obtain ⟨i, hi, rfl, rfl⟩ := hrel
    by_cases hlt : i < L.length
    · obtain ⟨r, hs⟩ : ∃ s, L[i]? = some s := ⟨_, List.getElem?_eq_getElem hlt⟩
      have hst := Lib.hid (markM_step L k i r hs)
      have hKi := hK.out i hi
      have hKb := bulkM_step L i r hs
      have hKl := bulkM_upto L (i + 1)
      have hkk0 : 0 ≤ (markM L k i).2 := by omega
      have hkk1 : (markM L k i).2 + (r.length : Int) ≤ 100000000000 := by omega
      have hlt1 : (i : Int) < (L.length : Int) := by omega
      obtain ⟨b1, o1, vr, rfl, y0, hr⟩ := r1'.out i _ (markM_done L k i L.length r hs hlt)
      have hr' := Lib.hid hr
      clear hs hKi hKb hKl hr
      generalize (markM L k i).2 = kk at *
      have hll : r.length ≤ 100000000000 := by omega
      go_wp2_with fail
      refine (heldIntS_yes vr kk r.length (by omega) (by omega) (by omega) _ hr'.out).mono ?_
      rintro e w5 ⟨rfl, rfl⟩
      go_wp2_with fail
      go_round
      case rel => exact ⟨i + 1, by omega, by rw [hst.out], by go_num⟩
      case measure => simp [RowKit.intOf]; omega
    · obtain rfl : i = L.length := by omega
      go_wp2_with fail
      go_ret
      exact ⟨rfl, rfl⟩

set_option maxHeartbeats 1000000 in
theorem heldGc_yes (p q : Int) (v : Value) (k : Int) (n : Nat) (hk0 : 0 ≤ k) (hk : k ≤ 1000000000000) (hn : n ≤ 100000000000) (w : World) (h1 : Rd w v (seqL k n)) :
    Calls Tryz.prog 69 #[.agg #[.int .i64 p, .int .i64 q, v], .int .i64 k] w fun e w' => e = .returned (.int .i64 (k + (n : Int))) ∧ Below w.heap.size w w' := by
  have bb := below_box w (.cells #[.int .i64 p, .int .i64 q, v] 34)
  have hcall := Lib.hid (heldIntS_yes v k n (by omega) hk (by omega) _ (h1.below bb))
  have bb' := Lib.hid bb
  clear h1 bb
  go_enter Tryz.func69, Tryz.ntmps69
  go_wp2_with fail
  refine hcall.out.mono ?_
  rintro e w5 ⟨rfl, rfl⟩
  go_wp2_with fail
  go_ret
  exact ⟨rfl, bb'.out⟩
end Go.Proofs.YtpaepkcfdnddgaaGreat

namespace Go.Proofs.YtpaepkcfdnddgaaGreat
open Go.RowKit
set_option linter.unusedVariables false

/-- No block of A is one of B. -/
def Dis (A B : List Value) : Prop := ∀ x, x ∈ A → ∀ y, y ∈ B → ∀ k, x.ownBlock = some k → y.ownBlock ≠ some k
theorem Dis.symm {A B : List Value} (h : Dis A B) : Dis B A := fun x hx y hy k h1 h2 => h y hy x hx k h2 h1
theorem dis_of_nodup {A B X : List Value} (h : (X.filterMap Value.ownBlock).Nodup) (hs : (A ++ B).Sublist X) : Dis A B := by
  have h' := h.sublist (hs.filterMap Value.ownBlock)
  rw [List.filterMap_append, List.nodup_append] at h'
  intro x hx y hy k h1 h2
  exact h'.2.2 k (List.mem_filterMap.2 ⟨x, hx, h1⟩) k (List.mem_filterMap.2 ⟨y, hy, h2⟩) rfl
theorem Dis.cons_left {A B : List Value} {a : Value} (h1 : Dis [a] B) (h2 : Dis A B) : Dis (a :: A) B := by
  intro x hx y hy
  rcases List.mem_cons.1 hx with rfl | hx
  · exact h1 x (by simp) y hy
  · exact h2 x hx y hy
theorem Dis.cons_right {A B : List Value} {b : Value} (h1 : Dis A [b]) (h2 : Dis A B) : Dis A (b :: B) := (h1.symm.cons_left h2.symm).symm
/-- The blocks of these values. -/
def blks (A : List Value) : List Nat := A.filterMap Value.ownBlock
theorem Dis.not_mem {A B : List Value} (h : Dis A B) {x : Value} (hx : x ∈ A) {k : Nat} (hk : x.ownBlock = some k) : k ∉ blks B := fun hm => by
  obtain ⟨y, hy, e⟩ := List.mem_filterMap.1 hm
  exact h x hx y hy k hk e
def Typ (w : World) (x : Value) (t : TypeId) : Prop := ∃ b size n xs, w.ownsRow b t size x n xs
theorem Typ.dis {w : World} {A B : List Value} {t t' : TypeId} (ha : ∀ x, x ∈ A → Typ w x t) (hb : ∀ x, x ∈ B → Typ w x t') (hne : t ≠ t') : Dis A B := by
  intro x hx y hy k h1
  obtain ⟨_, _, _, _, r1⟩ := ha x hx
  obtain ⟨_, _, _, _, r2⟩ := hb y hy
  exact own_types r1 r2 hne k h1

section
variable {w : World} {base : Nat} {S : Shape} {D : WD}
theorem OwnW.ownS (h : OwnW w base S D) : OwnS w base S.vs D.spans S.sv := ⟨h.spans, h.svl, h.inner⟩
theorem OwnW.ownM (h : OwnW w base S D) : OwnM w base S.vm D.muts S.mv := ⟨h.muts, h.mvl, h.innerM⟩
theorem OwnW.tS (h : OwnW w base S D) : ∀ x, x ∈ svInts S.sv → Typ w x 3 := by
  intro x hx
  obtain ⟨p, hp, hx⟩ := List.mem_flatMap.1 hx
  obtain ⟨i, hi⟩ := List.mem_iff_getElem?.1 hp
  have hlt := (List.getElem?_eq_some_iff.1 hi).1
  obtain ⟨s, hs⟩ : ∃ s, D.spans[i]? = some s := ⟨_, List.getElem?_eq_getElem (by have := h.svl; omega)⟩
  have := h.inner i s p hs hi
  simp at hx
  rcases hx with rfl | rfl
  · exact ⟨_, _, _, _, this.1⟩
  · exact ⟨_, _, _, _, this.2⟩
theorem OwnW.tM (h : OwnW w base S D) : ∀ x, x ∈ S.mv → Typ w x 3 := by
  intro x hx
  obtain ⟨i, hi⟩ := List.mem_iff_getElem?.1 hx
  have hlt := (List.getElem?_eq_some_iff.1 hi).1
  obtain ⟨s, hs⟩ : ∃ s, D.muts[i]? = some s := ⟨_, List.getElem?_eq_getElem (by have := h.mvl; omega)⟩
  exact ⟨_, _, _, _, h.innerM i s x hs hi⟩
theorem one_t {x : Value} {t : TypeId} (h : Typ w x t) : ∀ y, y ∈ [x] → Typ w y t := fun y hy => by rw [List.mem_singleton.1 hy]; exact h
structure Parts (S : Shape) : Prop where
  d01 : Dis [S.vw] [S.vd]
  d02 : Dis [S.vw] (S.vs :: svInts S.sv)
  d03 : Dis [S.vw] (S.vm :: S.mv)
  d04 : Dis [S.vw] [S.vg]
  d12 : Dis [S.vd] (S.vs :: svInts S.sv)
  d13 : Dis [S.vd] (S.vm :: S.mv)
  d14 : Dis [S.vd] [S.vg]
  d23 : Dis (S.vs :: svInts S.sv) (S.vm :: S.mv)
  d24 : Dis (S.vs :: svInts S.sv) [S.vg]
  d34 : Dis (S.vm :: S.mv) [S.vg]
  sv : Apart (svInts S.sv)
  mv : Apart S.mv
theorem OwnW.parts (h : OwnW w base S D) : Parts S := by
  have tw := one_t (show Typ w S.vw 3 from ⟨_, _, _, _, h.words⟩)
  have td := one_t (show Typ w S.vd 4 from ⟨_, _, _, _, h.dirty⟩)
  have ts := one_t (show Typ w S.vs 73 from ⟨_, _, _, _, h.spans⟩)
  have tm := one_t (show Typ w S.vm 78 from ⟨_, _, _, _, h.muts⟩)
  have tg := one_t (show Typ w S.vg 3 from ⟨_, _, _, _, h.grey⟩)
  have hS := h.tS
  have hM := h.tM
  have hn : (((([S.vw] ++ svInts S.sv) ++ S.mv) ++ [S.vg]).filterMap Value.ownBlock).Nodup := h.nodup
  have eA : ([S.vw] ++ svInts S.sv).Sublist ((([S.vw] ++ svInts S.sv) ++ S.mv) ++ [S.vg]) := (List.sublist_append_left _ _).trans (List.sublist_append_left _ _)
  have eB : (([S.vw] ++ svInts S.sv) ++ S.mv).Sublist ((([S.vw] ++ svInts S.sv) ++ S.mv) ++ [S.vg]) := List.sublist_append_left _ _
  have wM : ([S.vw] ++ S.mv).Sublist (([S.vw] ++ svInts S.sv) ++ S.mv) := List.Sublist.append (List.sublist_append_left _ _) (List.Sublist.refl _)
  have sM : (svInts S.sv ++ S.mv).Sublist (([S.vw] ++ svInts S.sv) ++ S.mv) := List.Sublist.append (List.sublist_append_right _ _) (List.Sublist.refl _)
  have wG : ([S.vw] ++ [S.vg]).Sublist ((([S.vw] ++ svInts S.sv) ++ S.mv) ++ [S.vg]) := List.Sublist.append ((List.sublist_append_left _ _).trans (List.sublist_append_left _ _)) (List.Sublist.refl _)
  have sG : (svInts S.sv ++ [S.vg]).Sublist ((([S.vw] ++ svInts S.sv) ++ S.mv) ++ [S.vg]) := List.Sublist.append ((List.sublist_append_right _ _).trans (List.sublist_append_left _ _)) (List.Sublist.refl _)
  have mG : (S.mv ++ [S.vg]).Sublist ((([S.vw] ++ svInts S.sv) ++ S.mv) ++ [S.vg]) := List.Sublist.append (List.sublist_append_right _ _) (List.Sublist.refl _)
  have s1 : (svInts S.sv).Sublist ((([S.vw] ++ svInts S.sv) ++ S.mv) ++ [S.vg]) := (List.sublist_append_left _ _).trans sG
  have m1 : S.mv.Sublist ((([S.vw] ++ svInts S.sv) ++ S.mv) ++ [S.vg]) := (List.sublist_append_left _ _).trans mG
  have ws := dis_of_nodup hn eA
  have wm := dis_of_nodup hn (wM.trans eB)
  have sm := dis_of_nodup hn (sM.trans eB)
  have wg := dis_of_nodup hn wG
  have sg := dis_of_nodup hn sG
  have mg := dis_of_nodup hn mG
  exact ⟨Typ.dis tw td (by decide), (Typ.dis tw ts (by decide)).cons_right ws, (Typ.dis tw tm (by decide)).cons_right wm, wg,
    (Typ.dis td ts (by decide)).cons_right (Typ.dis td hS (by decide)), (Typ.dis td tm (by decide)).cons_right (Typ.dis td hM (by decide)), Typ.dis td tg (by decide),
    ((Typ.dis ts tm (by decide)).cons_right (Typ.dis ts hM (by decide))).cons_left ((Typ.dis hS tm (by decide)).cons_right sm), (Typ.dis ts tg (by decide)).cons_left sg, (Typ.dis tm tg (by decide)).cons_left mg,
    hn.sublist (s1.filterMap _), hn.sublist (m1.filterMap _)⟩
/-- All blocks of a World. -/
def Shape.all (S : Shape) : List Value := [S.vw] ++ [S.vd] ++ (S.vs :: svInts S.sv) ++ (S.vm :: S.mv) ++ [S.vg]
theorem OwnW.lt (h : OwnW w base S D) : ∀ k, k ∈ blks S.all → base ≤ k ∧ k < w.heap.size := by
  intro k hk
  obtain ⟨x, hx, hxk⟩ := List.mem_filterMap.1 hk
  have hS := h.inner
  simp only [Shape.all, List.mem_append, List.mem_cons, List.not_mem_nil, or_false] at hx
  rcases hx with (((rfl | rfl) | (rfl | hx)) | (rfl | hx)) | rfl
  · exact h.words.lt k hxk
  · exact h.dirty.lt k hxk
  · exact h.spans.lt k hxk
  · obtain ⟨p, hp, hx⟩ := List.mem_flatMap.1 hx
    obtain ⟨i, hi⟩ := List.mem_iff_getElem?.1 hp
    have hlt := (List.getElem?_eq_some_iff.1 hi).1
    obtain ⟨s, hs⟩ : ∃ s, D.spans[i]? = some s := ⟨_, List.getElem?_eq_getElem (by have := h.svl; omega)⟩
    have := h.inner i s p hs hi
    simp at hx
    rcases hx with rfl | rfl
    · exact this.1.lt k hxk
    · exact this.2.lt k hxk
  · exact h.muts.lt k hxk
  · obtain ⟨i, hi⟩ := List.mem_iff_getElem?.1 hx
    have hlt := (List.getElem?_eq_some_iff.1 hi).1
    obtain ⟨s, hs⟩ : ∃ s, D.muts[i]? = some s := ⟨_, List.getElem?_eq_getElem (by have := h.mvl; omega)⟩
    exact (h.innerM i s x hs hi).lt k hxk
  · exact h.grey.lt k hxk
end

/-- A World that is marked from k on; the next mark. -/
def mk1 (D : WD) (k : Int) : Int := k + (D.words.length : Int)
def mk2 (D : WD) (k : Int) : Int := mk1 D k + (D.dirty.length : Int)
def mk3 (D : WD) (k : Int) : Int := (markUp D.spans (mk2 D k) D.spans.length).2
def mk4 (D : WD) (k : Int) : Int := (markM D.muts (mk3 D k) D.muts.length).2
def mk5 (D : WD) (k : Int) : Int := mk4 D k + (D.grey.length : Int)
def markD (D : WD) (k : Int) : WD := ⟨D.base, D.pages, seqL k D.words.length, seqB (mk1 D k) D.dirty.length, (markUp D.spans (mk2 D k) D.spans.length).1, (markM D.muts (mk3 D k) D.muts.length).1, D.phase, D.next, seqL (mk4 D k) D.grey.length⟩
/-- Not too great to be marked. -/
structure Markable (D : WD) : Prop where
  b : D.bulk + 4 * D.spans.length ≤ 10000000000
theorem mk_bd {D : WD} {k : Int} (h : Markable D) (h0 : 0 ≤ k) (h1 : k ≤ 10000000000) :
    0 ≤ mk1 D k ∧ 0 ≤ mk2 D k ∧ 0 ≤ mk3 D k ∧ 0 ≤ mk4 D k ∧ 0 ≤ mk5 D k ∧ mk1 D k ≤ 100000000000 ∧ mk2 D k + 4 * (D.spans.length : Int) + (bulkS D.spans : Int) ≤ 100000000000 ∧ mk3 D k + (bulkM D.muts : Int) ≤ 100000000000 ∧ mk4 D k ≤ 100000000000 ∧ D.words.length ≤ 100000000000 ∧ D.dirty.length ≤ 100000000000 ∧ D.muts.length ≤ 100000000000 ∧ D.grey.length ≤ 100000000000 ∧ mk5 D k ≤ 100000000000 := by
  have hb := h.b
  have e3 : mk3 D k = mk2 D k + 4 * (D.spans.length : Int) + (bulkS D.spans : Int) := by
    unfold mk3
    rw [markUp_k D.spans _ _ (Nat.le_refl _), List.take_length]
  have e4 : mk4 D k = mk3 D k + (bulkM D.muts : Int) := by
    unfold mk4
    rw [markM_k D.muts _ _ (Nat.le_refl _), List.take_length]
  unfold WD.bulk at hb
  have e1 : mk1 D k = k + (D.words.length : Int) := rfl
  have e2 : mk2 D k = mk1 D k + (D.dirty.length : Int) := rfl
  have e5 : mk5 D k = mk4 D k + (D.grey.length : Int) := rfl
  omega

theorem chg_one {w w' : World} {x : Value} (h : w.grownBy w' x.ownBlock) : Chg (blks [x]) w w' := Chg.of_grown h fun y hy => by simp [blks, hy]
theorem sub_all {A : List Value} {S : Shape} (h : ∀ x, x ∈ A → x ∈ S.all) : ∀ k, k ∈ blks A → k ∈ blks S.all := fun k hk => by
  obtain ⟨x, hx, e⟩ := List.mem_filterMap.1 hk
  exact List.mem_filterMap.2 ⟨x, h x hx, e⟩

set_option maxRecDepth 100000 in
set_option maxHeartbeats 4000000 in
theorem markWorld_any (base : Nat) (S : Shape) (D : WD) (k : Int) (hm : Markable D) (hk0 : 0 ≤ k) (hk : k ≤ 10000000000) (w : World) (h : OwnW w base S D) :
    Calls Tryz.prog 20 #[S.val D, .int .i64 k] w fun e w' => e = .returned (.int .i64 (mk5 D k)) ∧ OwnW w' base S (markD D k) ∧ Chg (blks S.all) w w' := by
  obtain ⟨m1, m2, m3, m4, m5, n1, n2, n3, n4, l1, l2, l3, l4, _⟩ := mk_bd hm hk0 hk
  have P := Lib.hid h.parts
  have hlt := Lib.hid h.lt
  have hnd := Lib.hid h.nodup
  obtain ⟨vw, vd, vs, vm, vg, sv, mv⟩ := S
  unfold Shape.val
  have bb := below_box w (.cells #[.int .i64 D.base, .int .i64 D.pages, vw, vd, vs, vm, .int .i64 D.phase, .int .i64 D.next, vg] 36)
  have bn := box_new w (.cells #[.int .i64 D.base, .int .i64 D.pages, vw, vd, vs, vm, .int .i64 D.phase, .int .i64 D.next, vg] 36)
  have hz := World.size_alloc w (.cells #[.int .i64 D.base, .int .i64 D.pages, vw, vd, vs, vm, .int .i64 D.phase, .int .i64 D.next, vg] 36)
  have h' := Lib.hid (h.below bb)
  have hbox := Lib.hid (fun (wr : World) (hc : Chg (blks (Shape.mk vw vd vs vm vg sv mv).all) (w.alloc (.cells #[.int .i64 D.base, .int .i64 D.pages, vw, vd, vs, vm, .int .i64 D.phase, .int .i64 D.next, vg] 36)) wr) =>
    ((hc.block w.heap.size (by rw [hz]; omega) (fun hm => by have := (hlt.out _ hm).2; omega)).trans bn : wr.heap[w.heap.size]? = _))
  have bb' := Lib.hid bb
  clear h bb bn hz hm
  go_enter Tryz.func20, Tryz.ntmps20
  go_wp2_with fail
  generalize w.alloc (.cells #[.int .i64 D.base, .int .i64 D.pages, vw, vd, vs, vm, .int .i64 D.phase, .int .i64 D.next, vg] 36) = W at *
  refine (markIntS_any base vw k D.words (by omega) (by omega) (by omega) W h'.out.words).mono ?_
  rintro e w1 ⟨rfl, o1, g1⟩
  have c1 := chg_one g1
  have a1 := Lib.hid (c1.mono (sub_all (S := ⟨vw, vd, vs, vm, vg, sv, mv⟩) (fun x hx => by simp [Shape.all] at hx ⊢; simp [hx])))
  have wo1 := Lib.hid o1
  have di1 := Lib.hid (own_chg h'.out.dirty c1 fun q hq => P.out.d01.symm.not_mem (by simp) hq)
  have sp1 := Lib.hid (h'.out.ownS.chg c1 (fun q hq => P.out.d02.symm.not_mem (by simp) hq) (fun x hx q hq => P.out.d02.symm.not_mem (by simp [hx]) hq))
  have mu1 := Lib.hid (h'.out.ownM.chg c1 (fun q hq => P.out.d03.symm.not_mem (by simp) hq) (fun x hx q hq => P.out.d03.symm.not_mem (by simp [hx]) hq))
  have gr1 := Lib.hid (own_chg h'.out.grey c1 fun q hq => P.out.d04.symm.not_mem (by simp) hq)
  have f3 := cell_of_heap (hbox.out w1 a1.out) 3 _ rfl
  clear o1 g1 c1 h'
  go_wp2_with fail
  refine (markBoolS_any base vd (mk1 D k) D.dirty m1 (by omega) (by omega) w1 di1.out).mono ?_
  rintro e w2 ⟨rfl, o2, g2⟩
  have c2 := chg_one g2
  have a2 := Lib.hid (a1.out.trans (c2.mono (sub_all (S := ⟨vw, vd, vs, vm, vg, sv, mv⟩) (fun x hx => by simp [Shape.all] at hx ⊢; simp [hx]))))
  have di2 := Lib.hid o2
  have wo2 := Lib.hid (own_chg wo1.out c2 fun q hq => P.out.d01.not_mem (by simp) hq)
  have sp2 := Lib.hid (sp1.out.chg c2 (fun q hq => P.out.d12.symm.not_mem (by simp) hq) (fun x hx q hq => P.out.d12.symm.not_mem (by simp [hx]) hq))
  have mu2 := Lib.hid (mu1.out.chg c2 (fun q hq => P.out.d13.symm.not_mem (by simp) hq) (fun x hx q hq => P.out.d13.symm.not_mem (by simp [hx]) hq))
  have gr2 := Lib.hid (own_chg gr1.out c2 fun q hq => P.out.d14.symm.not_mem (by simp) hq)
  have f4 := cell_of_heap (hbox.out w2 a2.out) 4 _ rfl
  clear o2 g2 c2 wo1 di1 sp1 mu1 gr1 f3 a1
  go_wp2_with fail
  refine (markSpanS_any base vs (mk2 D k) D.spans sv P.out.sv m2 (by omega) w2 sp2.out).mono ?_
  rintro e w3 ⟨rfl, o3, c3'⟩
  have c3 : Chg (blks (vs :: svInts sv)) w2 w3 := c3'.mono fun x hx => by
    rw [blks, List.filterMap_cons]
    cases hv : vs.ownBlock with
    | none => rw [hv] at hx; simpa using hx
    | some c => rw [hv] at hx; simpa using hx
  have a3 := Lib.hid (a2.out.trans (c3.mono (sub_all (S := ⟨vw, vd, vs, vm, vg, sv, mv⟩) (fun x hx => by simp [Shape.all] at hx ⊢; rcases hx with hx | hx <;> simp [hx]))))
  have sp3 := Lib.hid o3
  have wo3 := Lib.hid (own_chg wo2.out c3 fun q hq => P.out.d02.not_mem (by simp) hq)
  have di3 := Lib.hid (own_chg di2.out c3 fun q hq => P.out.d12.not_mem (by simp) hq)
  have mu3 := Lib.hid (mu2.out.chg c3 (fun q hq => P.out.d23.symm.not_mem (by simp) hq) (fun x hx q hq => P.out.d23.symm.not_mem (by simp [hx]) hq))
  have gr3 := Lib.hid (own_chg gr2.out c3 fun q hq => P.out.d24.symm.not_mem (by simp) hq)
  have f5 := cell_of_heap (hbox.out w3 a3.out) 5 _ rfl
  clear o3 c3 c3' wo2 di2 sp2 mu2 gr2 f4 a2
  go_wp2_with fail
  refine (markMutS_any base vm (mk3 D k) D.muts mv P.out.mv m3 (by omega) (by omega) w3 mu3.out).mono ?_
  rintro e w4 ⟨rfl, o4, c4'⟩
  have c4 : Chg (blks (vm :: mv)) w3 w4 := c4'.mono fun x hx => by
    obtain ⟨y, hy, hyx⟩ := List.mem_filterMap.1 hx
    exact List.mem_filterMap.2 ⟨y, by simp [hy], hyx⟩
  have a4 := Lib.hid (a3.out.trans (c4.mono (sub_all (S := ⟨vw, vd, vs, vm, vg, sv, mv⟩) (fun x hx => by simp [Shape.all] at hx ⊢; rcases hx with hx | hx <;> simp [hx]))))
  have mu4 := Lib.hid o4
  have wo4 := Lib.hid (own_chg wo3.out c4 fun q hq => P.out.d03.not_mem (by simp) hq)
  have di4 := Lib.hid (own_chg di3.out c4 fun q hq => P.out.d13.not_mem (by simp) hq)
  have sp4 := Lib.hid (sp3.out.chg c4 (fun q hq => P.out.d23.not_mem (by simp) hq) (fun x hx q hq => P.out.d23.not_mem (by simp [hx]) hq))
  have gr4 := Lib.hid (own_chg gr3.out c4 fun q hq => P.out.d34.symm.not_mem (by simp) hq)
  have f6 := cell_of_heap (hbox.out w4 a4.out) 6 _ rfl
  have f7 := cell_of_heap (hbox.out w4 a4.out) 7 _ rfl
  have f8 := cell_of_heap (hbox.out w4 a4.out) 8 _ rfl
  clear o4 c4 c4' wo3 di3 sp3 mu3 gr3 f5 a3
  go_wp2_with fail
  refine (markGc_any base D.phase D.next vg (mk4 D k) D.grey m4 (by omega) (by omega) w4 gr4.out).mono ?_
  rintro e w5 ⟨rfl, o5, c5'⟩
  have c5 : Chg (blks [vg]) w4 w5 := c5'.mono fun x hx => by
    cases hv : vg.ownBlock with
    | none => rw [hv] at hx; simp at hx
    | some c => rw [hv] at hx; simp at hx; subst hx; simp [blks, hv]
  have a5 := Lib.hid (a4.out.trans (c5.mono (sub_all (S := ⟨vw, vd, vs, vm, vg, sv, mv⟩) (fun x hx => by simp [Shape.all] at hx ⊢; simp [hx]))))
  have gr5 := Lib.hid o5
  have wo5 := Lib.hid (own_chg wo4.out c5 fun q hq => P.out.d04.not_mem (by simp) hq)
  have di5 := Lib.hid (own_chg di4.out c5 fun q hq => P.out.d14.not_mem (by simp) hq)
  have sp5 := Lib.hid (sp4.out.chg c5 (fun q hq => P.out.d24.not_mem (by simp) hq) (fun x hx q hq => P.out.d24.not_mem (by simp [hx]) hq))
  have mu5 := Lib.hid (mu4.out.chg c5 (fun q hq => P.out.d34.not_mem (by simp) hq) (fun x hx q hq => P.out.d34.not_mem (by simp [hx]) hq))
  clear o5 c5 c5' wo4 di4 sp4 mu4 gr4 f6 f7 f8 a4
  go_wp2_with fail
  go_ret
  have e1 : (markD D k).spans.length = D.spans.length := markUp_len _ _ _
  have e2 : (markD D k).muts.length = D.muts.length := markM_len _ _ _
  refine ⟨rfl, ⟨?_, ?_, ?_, ?_, ?_, ?_, ?_, ?_, ?_, ?_⟩, (Chg.of_below bb'.out _).trans a5.out⟩
  · simpa [markD, seqL_length] using wo5.out
  · simpa [markD, seqB_length] using di5.out
  · exact sp5.out.row
  · exact sp5.out.len
  · exact sp5.out.inner
  · exact mu5.out.row
  · exact mu5.out.len
  · exact mu5.out.inner
  · simpa [markD, seqL_length] using gr5.out
  · exact hnd.out

set_option maxRecDepth 100000 in
set_option maxHeartbeats 4000000 in
theorem heldWorld_yes (v : Value) (D : WD) (k : Int) (hm : Markable D) (hk0 : 0 ≤ k) (hk : k ≤ 10000000000) (w : World) (hr : RdW w v (markD D k)) :
    Calls Tryz.prog 21 #[v, .int .i64 k] w fun e w' => e = .returned (.int .i64 (mk5 D k)) ∧ Below w.heap.size w w' := by
  obtain ⟨m1, m2, m3, m4, m5, n1, n2, n3, n4, l1, l2, l3, l4, n5⟩ := mk_bd hm hk0 hk
  obtain ⟨vw, vd, vs, vm, vg, rfl, a1, a2, a3, a4, a5⟩ := hr
  have bb := below_box w (.cells #[.int .i64 D.base, .int .i64 D.pages, vw, vd, vs, vm, .int .i64 D.phase, .int .i64 D.next, vg] 36)
  have r1 := Lib.hid (heldIntS_yes vw k D.words.length (by omega) (by omega) (by omega) _ (a1.below bb))
  have r2 := Lib.hid (heldBoolS_yes vd (mk1 D k) D.dirty.length m1 (by omega) (by omega) _ (a2.below bb))
  have r3 := Lib.hid (heldSpanS_yes vs (mk2 D k) D.spans m2 (by omega) _ (a3.below bb))
  have r4 := Lib.hid (heldMutS_yes vm (mk3 D k) D.muts m3 (by omega) (by omega) _ (a4.below bb))
  have r5 := Lib.hid (heldGc_yes D.phase D.next vg (mk4 D k) D.grey.length m4 (by omega) (by omega) _ (a5.below bb))
  have bb' := Lib.hid bb
  clear a1 a2 a3 a4 a5 bb hm
  unfold markD
  have e1 : 0 ≤ k + (D.words.length : Int) := m1
  have e2 : 0 ≤ mk1 D k + (D.dirty.length : Int) := m2
  have e3 : 0 ≤ (markUp D.spans (mk2 D k) D.spans.length).2 := m3
  have e4 : 0 ≤ (markM D.muts (mk3 D k) D.muts.length).2 := m4
  have e5 : 0 ≤ mk4 D k + (D.grey.length : Int) := m5
  go_enter Tryz.func21, Tryz.ntmps21
  go_wp2_with fail
  refine r1.out.mono ?_
  rintro e w1 ⟨rfl, rfl⟩
  go_wp2_with fail
  refine r2.out.mono ?_
  rintro e w1 ⟨rfl, rfl⟩
  go_wp2_with fail
  refine r3.out.mono ?_
  rintro e w1 ⟨rfl, rfl⟩
  go_wp2_with fail
  refine r4.out.mono ?_
  rintro e w1 ⟨rfl, rfl⟩
  go_wp2_with fail
  refine r5.out.mono ?_
  rintro e w1 ⟨rfl, b5⟩
  go_wp2_with fail
  go_ret
  exact ⟨rfl, below_trans bb'.out b5⟩
end Go.Proofs.YtpaepkcfdnddgaaGreat

namespace Go.Proofs.YtpaepkcfdnddgaaGreat
open Go.RowKit
set_option linter.unusedVariables false

/-- The source yields these cells. -/
structure SrcIs (w : World) (A : Option Addr) (m size : Nat) (news : List Value) : Prop where
  len : news.length = m * size
  at_ : ∀ j u, news[j]? = some u → ∃ a, A = some a ∧ w.cell? (a.add j) = some u
  one : ∀ u, u ∈ news → u.oneCell' = true
theorem SrcIs.below {w w' : World} {A : Option Addr} {m size : Nat} {news : List Value} (h : SrcIs w A m size news) (hb : Below w.heap.size w w') : SrcIs w' A m size news :=
  ⟨h.len, fun j u hu => by obtain ⟨a, e, hc⟩ := h.at_ j u hu; exact ⟨a, e, cell_below hb hc⟩, h.one⟩
theorem SrcIs.none (w : World) (A : Option Addr) (size : Nat) : SrcIs w A 0 size [] := ⟨by simp, fun j u h => by simp at h, fun u h => by simp at h⟩

theorem wp_app {P : Program} {w : World} {o : Oper} {a : Act} {K : Act → World → Prop} {Q : Exit → Act → World → Prop} (s x : Operand) (t : TypeId)
    (ho : o.op = .call { callee := .builtin .append, args := #[s, x], argTypes := #[t, t] })
    (base : Nat) (e : TypeId) (z : Value) (size bytes : Nat) (ht : P.underlying t = some (.slice e)) (hinfo : (P.info? e).map (fun i => (i.zero, i.size, i.bytes)) = some (some z, size, bytes)) (hzs : z.cells.size = size) (hsz : 0 < size)
    (v : Value) (n : Nat) (xs : List Value) (hs : a.eval s = v) (hown : w.ownsRow base e size v n xs)
    (A : Option Addr) (m c : Nat) (news : List Value) (hx : a.eval x = .slice A m c) (hr : SrcIs w A m size news)
    (h63 : n + m ≤ maxLen) (hbytes : (n + m) * bytes ≤ 140737488355328) (hbase : base ≤ w.heap.size)
    (h : ∀ v' w', w'.ownsRow base e size v' (n + m) (xs ++ news) → w.grownBy w' v.ownBlock → K (a.put o.dst v') w') : o.wp P a w K Q := by
  obtain ⟨i, hi, hz, hsize, hby⟩ := info_parts hinfo
  rcases A with _ | ad
  · have hnews : news = [] := by
      rcases news with _ | ⟨u, l⟩
      · rfl
      · obtain ⟨ad, e, _⟩ := hr.at_ 0 u rfl
        cases e
    have hm : m = 0 := by
      have := hr.len
      rw [hnews] at this
      rcases Nat.eq_zero_or_pos m with h0 | h0
      · exact h0
      · have := Nat.mul_pos h0 hsz
        simp at *
        omega
    subst hm
    subst hnews
    have hrun : (Builtin.append_ #[t, t] o.type #[v, .slice none 0 c]).run P w = .ok v w := by
      rcases hown.2 with ⟨rfl, rfl⟩ | ⟨g, cap, cur, rfl, _, _, hnc, _⟩
      · simp [Builtin.append_, run_underlying ht, sizeOf, typeInfo, hi, Builtin.lenOf, Builtin.firstCells]
      · simp [Builtin.append_, run_underlying ht, sizeOf, typeInfo, hi, Builtin.lenOf, Builtin.firstCells, hnc, storeCells]
    have hk := h v w (by simpa using hown) (World.grownBy.refl w _)
    unfold Oper.wp execOp
    simp only [ho, resolve, invoke, builtin, Sem.run_bind, Sem.run_pure, Result.andThen_ok, List.map_toArray, List.map_cons, List.map_nil, hs, hx, hrun]
    exact hk
  · exact wp_append_own _ s x t ho base e i z size bytes ht hi hz hsize hby hzs hsz v n xs hs hown ad m c news hx hr.len
      (fun j u hu => by obtain ⟨a, e, hc⟩ := hr.at_ j u hu; cases e; exact hc) hr.one h63 hbytes hbase fun v' w' h1 h2 _ => h v' w' h1 h2
theorem wpList_app {P : Program} {w : World} {ops : Array Oper} {rest : List Oper} {o : Oper} {a : Act} {Q : Exit → Act → World → Prop} (hgd : o.guard = none) (s x : Operand) (t : TypeId)
    (ho : o.op = .call { callee := .builtin .append, args := #[s, x], argTypes := #[t, t] })
    (base : Nat) (e : TypeId) (z : Value) (size bytes : Nat) (ht : P.underlying t = some (.slice e)) (hinfo : (P.info? e).map (fun i => (i.zero, i.size, i.bytes)) = some (some z, size, bytes)) (hzs : z.cells.size = size) (hsz : 0 < size)
    (v : Value) (n : Nat) (xs : List Value) (hs : a.eval s = v) (hown : w.ownsRow base e size v n xs)
    (A : Option Addr) (m c : Nat) (news : List Value) (hx : a.eval x = .slice A m c) (hr : SrcIs w A m size news)
    (h63 : n + m ≤ maxLen) (hbytes : (n + m) * bytes ≤ 140737488355328) (hbase : base ≤ w.heap.size)
    (h : ∀ v' w', w'.ownsRow base e size v' (n + m) (xs ++ news) → w.grownBy w' v.ownBlock → wpList P ops Q rest (a.put o.dst v') w') : wpList P ops Q (o :: rest) a w :=
  wpList_plain hgd fun _ hK => wp_app s x t ho base e z size bytes ht hinfo hzs hsz v n xs hs hown A m c news hx hr h63 hbytes hbase fun v' w' h2 h3 => hK _ _ (h v' w' h2 h3)
theorem own_empty (w : World) (e : TypeId) (size : Nat) : (w.alloc (.cells #[] e)).ownsRow w.heap.size e size (.slice (some ⟨w.heap.size, 0, none⟩) 0 0) 0 [] :=
  ⟨by simp, .inr ⟨w.heap.size, 0, #[], rfl, Nat.le_refl _, box_new w _, Nat.le_refl _, by unfold maxLen; omega, by simp, by simp⟩⟩
/-- What a slice that reads as ints, bools yields. -/
theorem Rd.src {w : World} {A : Option Addr} {c : Nat} {L : List Int} (h : Rd w (.slice A L.length c) L) : SrcIs w A L.length 1 (L.map (Value.int .i64)) := by
  obtain ⟨a, c', he, _, hx⟩ := h
  obtain ⟨rfl, _⟩ : A = a ∧ c = c' := by simpa using he
  refine ⟨by simp, fun j u hu => ?_, fun u hu => by obtain ⟨x, _, rfl⟩ := List.mem_map.1 hu; rfl⟩
  have hj : j < L.length := by have := (List.getElem?_eq_some_iff.1 hu).1; simpa using this
  obtain ⟨b, o, rfl, hc⟩ := hx j hj
  refine ⟨_, rfl, ?_⟩
  rw [show (⟨b, o, none⟩ : Addr).add j = ⟨b, o + j, none⟩ from Addr.add_lit .., hc]
  simpa [hj] using hu
theorem RdB.src {w : World} {A : Option Addr} {c : Nat} {L : List Bool} (h : RdB w (.slice A L.length c) L) : SrcIs w A L.length 1 (L.map Value.bool) := by
  obtain ⟨a, c', he, _, hx⟩ := h
  obtain ⟨rfl, _⟩ : A = a ∧ c = c' := by simpa using he
  refine ⟨by simp, fun j u hu => ?_, fun u hu => by obtain ⟨x, _, rfl⟩ := List.mem_map.1 hu; rfl⟩
  have hj : j < L.length := by have := (List.getElem?_eq_some_iff.1 hu).1; simpa using this
  obtain ⟨b, o, rfl, hc⟩ := hx j hj
  refine ⟨_, rfl, ?_⟩
  rw [show (⟨b, o, none⟩ : Addr).add j = ⟨b, o + j, none⟩ from Addr.add_lit .., hc]
  simpa [hj] using hu
theorem step_own {P : Program} {ops : Array Oper} {o : Oper} {a : Act} {w : World} {K : Act → World → Prop} {Q : Exit → Act → World → Prop} {E : Prop} (hg : o.guard = none) (h : o.wp P a w K Q) :
    if Region.wanted o (yielded ops a.tmps) = true then Oper.wp P o a w K Q else E := by
  rw [if_pos (by simp [Region.wanted, hg])]
  exact h
theorem own_slice {w : World} {base size n : Nat} {e : TypeId} {v : Value} {xs : List Value} (h : w.ownsRow base e size v n xs) : ∃ a c, v = .slice a n c := by
  rcases h.2 with ⟨rfl, rfl⟩ | ⟨g, cap, cur, rfl, _⟩
  · exact ⟨none, 0, rfl⟩
  · exact ⟨_, _, rfl⟩
theorem grown_block {w w' : World} {row : Option Nat} (h : w.grownBy w' row) {b : Nat} (hb : b < w.heap.size) (hne : ∀ r, row = some r → b ≠ r) {o : Obj} (ho : w.heap[b]? = some o) : w'.heap[b]? = some o :=
  (h.block b hb (fun e => hne b e.symm rfl)).trans ho
theorem src_box (w : World) {cs : Array Value} {T : TypeId} {m size : Nat} (hl : cs.size = m * size) (h1 : ∀ u, u ∈ cs.toList → u.oneCell' = true) : SrcIs (w.alloc (.cells cs T)) (some ⟨w.heap.size, 0, none⟩) m size cs.toList := by
  refine ⟨by simpa using hl, fun j u hu => ⟨_, rfl, ?_⟩, h1⟩
  rw [show (⟨w.heap.size, 0, none⟩ : Addr).add j = ⟨w.heap.size, j, none⟩ by rw [Addr.add_lit, Nat.zero_add]]
  exact cell_of_heap (box_new w (.cells cs T)) j u (by simpa using hu)
theorem St1.at4 {wr w3 Y : World} {v3 : Value} {b base : Nat} {o : Obj} (b3 : Below wr.heap.size wr Y) (g3 : Y.grownBy w3 v3.ownBlock) (hv : ∀ q, v3.ownBlock = some q → base ≤ q) (hb : b < base) (h : wr.heap[b]? = some o) : w3.heap[b]? = some o := by
  have := heap_below b3 h
  exact grown_block g3 (Array.getElem?_eq_some_iff.1 this).1 (fun r hr => by have := hv r hr; omega) this

theorem OwnM.below {w w' : World} {base : Nat} {v : Value} {L : List (List Int)} {mv : List Value} (h : OwnM w base v L mv) (hb : Below w.heap.size w w') : OwnM w' base v L mv := h.chg (Chg.of_below hb []) (fun _ _ => by simp) (fun _ _ _ _ => by simp)

theorem own_made {w : World} {g n base : Nat} {z : Value} {e : TypeId} (hg : w.heap[g]? = some (.cells (madeCells #[z] n) e (0, 0))) (hb : base ≤ g) (hn : n ≤ maxLen) : w.ownsRow base e 1 (.slice (some ⟨g, 0, none⟩) n n) n (List.replicate n z) :=
  ⟨by simp, .inr ⟨g, n, madeCells #[z] n, rfl, hb, hg, Nat.le_refl _, hn, by simp [size_madeCells], by rw [toList_madeCells_one]; simp⟩⟩
theorem Chg.put {bs : List Nat} {w w' : World} (h : Chg bs w w') {b : Nat} (hb : b ∈ bs) (i : Nat) (v : Value) : Chg bs w (w'.setCell ⟨b, i, none⟩ v) :=
  h.trans (Chg.of_grown (grown_set w' b i v) (fun x hx => by cases hx; exact hb))
end Go.Proofs.YtpaepkcfdnddgaaGreat
