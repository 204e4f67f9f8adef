/-
  The contracts of the laws' 'mark..' functions: every number of a World that owns its lists is overwritten; no list but its own turns.
-/
import Derived.Test.YtnmgecplagekcaaInts
import Derived.Test.YtnmgecplagekcaaWWorld
namespace Go.Proofs.Ytnmgecplagekcaa
open Go.RowKit
set_option linter.unusedVariables false

/-- The blocks bs alone have turned; new ones may have come. -/
structure Chg (bs : List Nat) (w w' : World) : Prop where
  os : w'.os = w.os
  tape : w'.tape = w.tape
  output : w'.output = w.output
  size : w.heap.size ≤ w'.heap.size
  block : ∀ k, k < w.heap.size → k ∉ bs → w'.heap[k]? = w.heap[k]?
theorem Chg.refl (bs : List Nat) (w : World) : Chg bs w w := ⟨rfl, rfl, rfl, Nat.le_refl _, fun _ _ _ => rfl⟩
theorem Chg.trans {bs : List Nat} {a b c : World} (h : Chg bs a b) (k : Chg bs b c) : Chg bs a c :=
  ⟨k.os.trans h.os, k.tape.trans h.tape, k.output.trans h.output, Nat.le_trans h.size k.size, fun j hj hn => (k.block j (Nat.lt_of_lt_of_le hj h.size) hn).trans (h.block j hj hn)⟩
theorem Chg.mono {bs cs : List Nat} {a b : World} (h : Chg bs a b) (hs : ∀ x, x ∈ bs → x ∈ cs) : Chg cs a b := ⟨h.os, h.tape, h.output, h.size, fun j hj hn => h.block j hj fun hx => hn (hs j hx)⟩
theorem Chg.of_grown {w w' : World} {row : Option Nat} (h : w.grownBy w' row) {bs : List Nat} (hs : ∀ x, row = some x → x ∈ bs) : Chg bs w w' :=
  ⟨h.os, h.tape, h.output, h.size, fun j hj hn => h.block j hj fun e => hn (hs j e.symm)⟩
theorem Chg.of_below {w w' : World} (h : Below w.heap.size w w') (bs : List Nat) : Chg bs w w' := ⟨h.os, h.tape, h.output, h.size, fun j hj _ => h.block j hj⟩
theorem Chg.below {bs : List Nat} {B : Nat} {a w w' : World} (hb : Below B a w) (h : Chg bs w w') (hB : B ≤ w.heap.size) (hs : ∀ x, x ∈ bs → B ≤ x) : Below B a w' :=
  hb.trans ⟨h.os, h.tape, h.output, h.size, fun j hj => h.block j (by omega) fun hx => by have := hs j hx; omega⟩
theorem own_chg {w w' : World} {base size n : Nat} {e : TypeId} {v : Value} {xs : List Value} {bs : List Nat} (h : w.ownsRow base e size v n xs) (hc : Chg bs w w') (hn : ∀ k, v.ownBlock = some k → k ∉ bs) : w'.ownsRow base e size v n xs := by
  refine ⟨h.1, ?_⟩
  rcases h.2 with h0 | ⟨g, cap, cur, rfl, hb, hg, hr⟩
  · exact .inl h0
  · refine .inr ⟨g, cap, cur, rfl, hb, ?_, hr⟩
    rw [hc.block g (Array.getElem?_eq_some_iff.1 hg).1 (hn g rfl)]
    exact hg
theorem own_types {w : World} {b b' size size' n n' : Nat} {e e' : TypeId} {v v' : Value} {xs ys : List Value} (h : w.ownsRow b e size v n xs) (h' : w.ownsRow b' e' size' v' n' ys) (hne : e ≠ e') (k : Nat) (hk : v.ownBlock = some k) : v'.ownBlock ≠ some k := by
  rcases h.2 with ⟨rfl, _⟩ | ⟨g, cap, cur, rfl, _, hg, _⟩
  · simp [Value.ownBlock] at hk
  · rcases h'.2 with ⟨rfl, _⟩ | ⟨g', cap', cur', rfl, _, hg', _⟩
    · simp [Value.ownBlock]
    · intro he
      have e1 : g = k := by simpa [Value.ownBlock] using hk
      have e2 : g' = k := by simpa [Value.ownBlock] using he
      subst e1
      subst e2
      rw [hg] at hg'
      simp at hg'
      exact hne hg'.2

/-- The flags that are marked from k on. -/
def seqB (k : Int) (n : Nat) : List Bool := (List.range n).map fun j : Nat => (k + (j : Int)) % 3 == 0
theorem seqB_length (k : Int) (n : Nat) : (seqB k n).length = n := by simp [seqB]
def markB (L : List Bool) (k : Int) (j : Nat) : List Bool := seqB k j ++ L.drop j
theorem markB_zero (L : List Bool) (k : Int) : markB L k 0 = L := by simp [markB, seqB]
theorem markB_all (L : List Bool) (k : Int) : markB L k L.length = seqB k L.length := by simp [markB]
theorem markB_length (L : List Bool) (k : Int) (j : Nat) (h : j ≤ L.length) : (markB L k j).length = L.length := by simp [markB, seqB]; omega
theorem markB_set (L : List Bool) (k : Int) (j : Nat) (h : j < L.length) : (markB L k j).set j ((k + (j : Int)) % 3 == 0) = markB L k (j + 1) := by
  unfold markB
  have e : seqB k (j + 1) = seqB k j ++ [(k + (j : Int)) % 3 == 0] := by simp [seqB, List.range_succ]
  rw [e, List.set_append_right _ _ (by rw [seqB_length]; omega), seqB_length, Nat.sub_self]
  rw [List.drop_eq_getElem_cons h, List.set_cons_zero, List.append_assoc]
  rfl

set_option maxHeartbeats 1000000 in
theorem markBoolS_any (base : Nat) (v : Value) (k : Int) (L : List Bool) (hk0 : 0 ≤ k) (hk : k ≤ 1000000000000) (hL : L.length ≤ 1000000000000000000) (w : World) (h1 : w.ownsRow base 4 1 v L.length (L.map Value.bool)) :
    Calls Try.prog 30 #[v, .int .i64 k] w fun e w' => e = .returned (.int .i64 (k + (L.length : Int))) ∧ w'.ownsRow base 4 1 v L.length ((seqB k L.length).map Value.bool) ∧ w.grownBy w' v.ownBlock := by
  have hv := h1.2
  rcases hv with ⟨rfl, h0⟩ | ⟨g, cap, cur, rfl, hb, _, _, _, _, _⟩
  · obtain rfl : L = [] := List.length_eq_zero_iff.1 h0
    go_enter Try.func30, Try.ntmps30
    go_wp2
    go_loop [1, 5] (fun q i => q = .int .i64 k ∧ i = .int .i64 0) (fun q i => 0)
    case atStart => exact ⟨rfl, rfl⟩
    case round =>
      obtain ⟨rfl, rfl⟩ := hrel
      go_wp2
      go_ret
      exact ⟨by simp, by simpa [seqB] using h1, World.grownBy.refl _ _⟩
  · go_enter Try.func30, Try.ntmps30
    go_wp2
    go_loopw [1, 5] (fun q i wr => ∃ j : Nat, j ≤ L.length ∧ q = .int .i64 (k + (j : Int)) ∧ i = .int .i64 j ∧ wr.ownsRow base 4 1 (.slice (some ⟨g, 0, none⟩) L.length cap) L.length ((markB L k j).map Value.bool) ∧ w.grownBy wr (some g)) (fun q i _ => L.length - (intOf i).toNat)
    case atStart => exact ⟨0, Nat.zero_le _, by simp, rfl, by rw [markB_zero]; exact h1, World.grownBy.refl _ _⟩
    case round =>
      obtain ⟨j, hj, rfl, rfl, hown, hgr⟩ := hrel
      by_cases hlt : j < L.length
      · have hc : wr.cell? ⟨g, j, none⟩ = some (.bool ((markB L k j)[j]?.getD false)) := by
          rw [hown.cellAt j (by omega)]
          have : j < (markB L k j).length := by rw [markB_length L k j hj]; exact hlt
          simp [this]
        have hfz := hown.frozenAt j
        have hst0 := hown.stored j (.bool ((k + (j : Int)) % 3 == 0))
        rw [← List.map_set, markB_set L k j hlt] at hst0
        have hst := Lib.hid hst0
        clear hst0 hown
        generalize (markB L k j)[j]?.getD false = old at hc
        go_wp2
        go_roundw
        case rel => exact ⟨j + 1, by omega, by go_num, by go_num, hst.out.1, grow_trans hgr hst.out.2⟩
        case measure => simp [intOf]; omega
      · obtain rfl : j = L.length := by omega
        rw [markB_all] at hown
        go_wp2
        go_ret
        exact ⟨rfl, hown, hgr⟩

/-! ### The spans -/
def markSpan (s : SpanD) (k : Int) : SpanD := ⟨k, k + 1, k + 2, (k + 3) % 3 == 0, seqL (k + 4) s.lens.length, seqL (k + 4 + (s.lens.length : Int)) s.ptrs.length⟩
def spanEnd (s : SpanD) (k : Int) : Int := k + 4 + (s.lens.length : Int) + (s.ptrs.length : Int)
/-- The spans when the first i are marked; the next mark. -/
def markUp (L : List SpanD) (k : Int) : Nat → List SpanD × Int
  | 0 => (L, k)
  | i + 1 => match L[i]? with
    | some s => ((markUp L k i).1.set i (markSpan s (markUp L k i).2), spanEnd s (markUp L k i).2)
    | none => markUp L k i
theorem markUp_len (L : List SpanD) (k : Int) (i : Nat) : (markUp L k i).1.length = L.length := by
  induction i with
  | zero => rfl
  | succ i ih => unfold markUp; split <;> simp [ih]
theorem markUp_later (L : List SpanD) (k : Int) (i j : Nat) (h : i ≤ j) : (markUp L k i).1[j]? = L[j]? := by
  induction i with
  | zero => rfl
  | succ i ih =>
    unfold markUp
    split
    · rw [List.getElem?_set_ne (by omega)]; exact ih (by omega)
    · exact ih (by omega)
theorem markUp_step (L : List SpanD) (k : Int) (i : Nat) (s : SpanD) (h : L[i]? = some s) : markUp L k (i + 1) = ((markUp L k i).1.set i (markSpan s (markUp L k i).2), spanEnd s (markUp L k i).2) := by
  conv => lhs; unfold markUp
  rw [h]
theorem markUp_none (L : List SpanD) (k : Int) (i : Nat) (h : L[i]? = none) : markUp L k (i + 1) = markUp L k i := by
  conv => lhs; unfold markUp
  rw [h]
theorem markUp_done (L : List SpanD) (k : Int) (i n : Nat) (s : SpanD) (h : L[i]? = some s) (hn : i < n) : (markUp L k n).1[i]? = some (markSpan s (markUp L k i).2) := by
  induction n with
  | zero => omega
  | succ n ih =>
    by_cases e : i = n
    · subst e
      rw [markUp_step L k i s h]
      have : i < (markUp L k i).1.length := by rw [markUp_len]; exact (List.getElem?_eq_some_iff.1 h).1
      simp [this]
    · have hi := ih (by omega)
      cases hL : L[n]? with
      | some t => rw [markUp_step L k n t hL, List.getElem?_set_ne (by omega)]; exact hi
      | none => rw [markUp_none L k n hL]; exact hi
theorem markUp_k (L : List SpanD) (k : Int) (i : Nat) (h : i ≤ L.length) : (markUp L k i).2 = k + 4 * (i : Int) + (bulkS (L.take i) : Int) := by
  induction i with
  | zero => simp [markUp, bulkS]
  | succ i ih =>
    obtain ⟨s, hs⟩ : ∃ s, L[i]? = some s := ⟨_, List.getElem?_eq_getElem (by omega)⟩
    rw [markUp_step L k i s hs, bulkS_take L i s hs]
    simp only [spanEnd, SpanD.bulk]
    rw [ih (by omega)]
    omega

/-- A row of spans and their lists, owned. -/
structure OwnS (w : World) (base : Nat) (v : Value) (L : List SpanD) (sv : List (Value × Value)) : Prop where
  row : w.ownsRow base 63 6 v L.length (flatV L sv)
  len : sv.length = L.length
  inner : ∀ (i : Nat) (s : SpanD) (p : Value × Value), L[i]? = some s → sv[i]? = some p → w.ownsRow base 3 1 p.1 s.lens.length (s.lens.map (Value.int .i64)) ∧ w.ownsRow base 3 1 p.2 s.ptrs.length (s.ptrs.map (Value.int .i64))
def svInts (sv : List (Value × Value)) : List Value := sv.flatMap fun p => [p.1, p.2]
theorem svInts_at (sv : List (Value × Value)) (i : Nat) (p : Value × Value) (h : sv[i]? = some p) : ∃ A B, svInts sv = A ++ p.1 :: p.2 :: B ∧ ∀ j q, j ≠ i → sv[j]? = some q → (q.1 ∈ A ∨ q.1 ∈ B) ∧ (q.2 ∈ A ∨ q.2 ∈ B) := by
  induction sv generalizing i with
  | nil => simp at h
  | cons a sv ih =>
    cases i with
    | zero =>
      simp at h
      subst h
      refine ⟨[], svInts sv, by simp [svInts], fun j q hj hq => ?_⟩
      cases j with
      | zero => exact absurd rfl hj
      | succ j =>
        simp at hq
        have : q ∈ sv := List.mem_of_getElem? hq
        exact ⟨.inr (List.mem_flatMap.2 ⟨q, this, by simp⟩), .inr (List.mem_flatMap.2 ⟨q, this, by simp⟩)⟩
    | succ i =>
      simp at h
      obtain ⟨A, B, e, hq⟩ := ih i h
      refine ⟨a.1 :: a.2 :: A, B, by simp [svInts] at e ⊢; exact e, fun j q hj hjq => ?_⟩
      cases j with
      | zero =>
        simp at hjq
        subst hjq
        exact ⟨.inl (by simp), .inl (by simp)⟩
      | succ j =>
        simp at hjq
        have := hq j q (by omega) hjq
        exact ⟨this.1.imp (by intro h; simp [h]) id, this.2.imp (by intro h; simp [h]) id⟩
/-- No two lists of ints share a block. -/
def Apart (vs : List Value) : Prop := (vs.filterMap Value.ownBlock).Nodup
theorem apart_at {A B : List Value} {u v : Value} (h : Apart (A ++ u :: v :: B)) {k : Nat} :
    (u.ownBlock = some k → v.ownBlock ≠ some k ∧ ∀ x, x ∈ A ∨ x ∈ B → x.ownBlock ≠ some k) ∧ (v.ownBlock = some k → u.ownBlock ≠ some k ∧ ∀ x, x ∈ A ∨ x ∈ B → x.ownBlock ≠ some k) := by
  unfold Apart at h
  rw [List.filterMap_append, List.nodup_append] at h
  obtain ⟨hA, hB, hAB⟩ := h
  refine ⟨fun hu => ⟨fun hv => ?_, fun x hx hk => ?_⟩, fun hv => ⟨fun hu => ?_, fun x hx hk => ?_⟩⟩
  · simp [hu, hv] at hB
  · rcases hx with hx | hx
    · exact hAB k (List.mem_filterMap.2 ⟨x, hx, hk⟩) k (List.mem_filterMap.2 ⟨u, by simp, hu⟩) rfl
    · rw [List.filterMap_cons_some hu, List.nodup_cons] at hB
      exact hB.1 (List.mem_filterMap.2 ⟨x, by simp [hx], hk⟩)
  · simp [hu, hv] at hB
  · rcases hx with hx | hx
    · exact hAB k (List.mem_filterMap.2 ⟨x, hx, hk⟩) k (List.mem_filterMap.2 ⟨v, by simp, hv⟩) rfl
    · have hB2 : ((v :: B).filterMap Value.ownBlock).Nodup := by
        cases hu : u.ownBlock with
        | none => rwa [List.filterMap_cons_none hu] at hB
        | some c => rw [List.filterMap_cons_some hu, List.nodup_cons] at hB; exact hB.2
      rw [List.filterMap_cons_some hv, List.nodup_cons] at hB2
      exact hB2.1 (List.mem_filterMap.2 ⟨x, hx, hk⟩)
theorem flatV_set (L : List SpanD) (sv : List (Value × Value)) (i : Nat) (s s' : SpanD) (p : Value × Value) (h1 : L[i]? = some s) (h2 : sv[i]? = some p) :
    ((((flatV L sv).set (i * 6) (.int .i64 s'.page)).set (i * 6 + 1) (.int .i64 s'.cls)).set (i * 6 + 2) (.int .i64 s'.mark)).set (i * 6 + 3) (.bool s'.swept) = flatV (L.set i s') sv := by
  induction i generalizing L sv with
  | zero =>
    cases L with
    | nil => simp at h1
    | cons a L =>
      cases sv with
      | nil => simp at h2
      | cons q sv =>
        simp at h1 h2
        subst h1; subst h2
        simp [flatV, spanCv]
  | succ i ih =>
    cases L with
    | nil => simp at h1
    | cons a L =>
      cases sv with
      | nil => simp at h2
      | cons q sv =>
        simp at h1 h2
        have := ih L sv h1 h2
        simp only [flatV, List.zip_cons_cons, List.flatMap_cons, List.set_cons_succ] at this ⊢
        rw [← this]
        have e : ∀ (X : List Value) (n : Nat) (u : Value), (spanCv a q ++ X).set (n + 6) u = spanCv a q ++ X.set n u := fun X n u => by
          rw [List.set_append_right _ _ (by simp [spanCv])]
          simp [spanCv]
        rw [show (i + 1) * 6 = i * 6 + 6 by omega, show i * 6 + 6 + 1 = i * 6 + 1 + 6 by omega, show i * 6 + 6 + 2 = i * 6 + 2 + 6 by omega, show i * 6 + 6 + 3 = i * 6 + 3 + 6 by omega, e, e, e, e]
end Go.Proofs.Ytnmgecplagekcaa
