/-
  The contracts of the laws' 'markMutS', 'markGc'.
-/
import Derived.Test.YtnmgecplagekcaaMarkS
namespace Go.Proofs.Ytnmgecplagekcaa
open Go.RowKit
set_option linter.unusedVariables false

/-- The users' rows when the first i are marked; the next mark. -/
def markM (L : List (List Int)) (k : Int) : Nat → List (List Int) × Int
  | 0 => (L, k)
  | i + 1 => match L[i]? with
    | some r => ((markM L k i).1.set i (seqL (markM L k i).2 r.length), (markM L k i).2 + (r.length : Int))
    | none => markM L k i
theorem markM_len (L : List (List Int)) (k : Int) (i : Nat) : (markM L k i).1.length = L.length := by
  induction i with
  | zero => rfl
  | succ i ih => unfold markM; split <;> simp [ih]
theorem markM_later (L : List (List Int)) (k : Int) (i j : Nat) (h : i ≤ j) : (markM L k i).1[j]? = L[j]? := by
  induction i with
  | zero => rfl
  | succ i ih =>
    unfold markM
    split
    · rw [List.getElem?_set_ne (by omega)]; exact ih (by omega)
    · exact ih (by omega)
theorem markM_step (L : List (List Int)) (k : Int) (i : Nat) (r : List Int) (h : L[i]? = some r) : markM L k (i + 1) = ((markM L k i).1.set i (seqL (markM L k i).2 r.length), (markM L k i).2 + (r.length : Int)) := by
  conv => lhs; unfold markM
  rw [h]
theorem markM_none (L : List (List Int)) (k : Int) (i : Nat) (h : L[i]? = none) : markM L k (i + 1) = markM L k i := by
  conv => lhs; unfold markM
  rw [h]
theorem markM_done (L : List (List Int)) (k : Int) (i n : Nat) (r : List Int) (h : L[i]? = some r) (hn : i < n) : (markM L k n).1[i]? = some (seqL (markM L k i).2 r.length) := by
  induction n with
  | zero => omega
  | succ n ih =>
    by_cases e : i = n
    · subst e
      rw [markM_step L k i r h]
      have : i < (markM L k i).1.length := by rw [markM_len]; exact (List.getElem?_eq_some_iff.1 h).1
      simp [this]
    · have hi := ih (by omega)
      cases hL : L[n]? with
      | some t => rw [markM_step L k n t hL, List.getElem?_set_ne (by omega)]; exact hi
      | none => rw [markM_none L k n hL]; exact hi
theorem bulkM_step (L : List (List Int)) (i : Nat) (r : List Int) (h : L[i]? = some r) : bulkM (L.take (i + 1)) = bulkM (L.take i) + r.length := by
  obtain ⟨hk, rfl⟩ := List.getElem?_eq_some_iff.1 h
  unfold bulkM
  rw [List.take_succ_eq_append_getElem hk, List.map_append, List.sum_append]
  simp [-List.map_take]
theorem bulkM_upto (L : List (List Int)) (i : Nat) : bulkM (L.take i) ≤ bulkM L := by
  have : bulkM L = bulkM (L.take i) + bulkM (L.drop i) := by
    unfold bulkM
    rw [← List.sum_append, ← List.map_append, List.take_append_drop]
  omega
theorem markM_k (L : List (List Int)) (k : Int) (i : Nat) (h : i ≤ L.length) : (markM L k i).2 = k + (bulkM (L.take i) : Int) := by
  induction i with
  | zero => simp [markM, bulkM]
  | succ i ih =>
    obtain ⟨s, hs⟩ : ∃ s, L[i]? = some s := ⟨_, List.getElem?_eq_getElem (by omega)⟩
    rw [markM_step L k i s hs, bulkM_step L i s hs]
    simp only
    rw [ih (by omega)]
    omega

/-- The users' rows, owned. -/
structure OwnM (w : World) (base : Nat) (v : Value) (L : List (List Int)) (mv : List Value) : Prop where
  row : w.ownsRow base 60 1 v L.length mv
  len : mv.length = L.length
  inner : ∀ (i : Nat) (r : List Int) (u : Value), L[i]? = some r → mv[i]? = some u → w.ownsRow base 3 1 u r.length (r.map (Value.int .i64))
theorem mv_at (mv : List Value) (i : Nat) (u : Value) (h : mv[i]? = some u) : ∃ A B, mv = A ++ u :: B ∧ ∀ j q, j ≠ i → mv[j]? = some q → q ∈ A ∨ q ∈ B := by
  induction mv generalizing i with
  | nil => simp at h
  | cons a mv ih =>
    cases i with
    | zero =>
      simp at h
      subst h
      refine ⟨[], mv, rfl, fun j q hj hq => ?_⟩
      cases j with
      | zero => exact absurd rfl hj
      | succ j => exact .inr (List.mem_of_getElem? (by simpa using hq))
    | succ i =>
      simp at h
      obtain ⟨A, B, e, hq⟩ := ih i h
      refine ⟨a :: A, B, by rw [e]; rfl, fun j q hj hjq => ?_⟩
      cases j with
      | zero => simp at hjq; subst hjq; exact .inl (by simp)
      | succ j =>
        simp at hjq
        exact (hq j q (by omega) hjq).imp (by intro h; simp [h]) id
theorem apart_one {A B : List Value} {u : Value} (h : Apart (A ++ u :: B)) {k : Nat} (hu : u.ownBlock = some k) : ∀ x, x ∈ A ∨ x ∈ B → x.ownBlock ≠ some k := by
  unfold Apart at h
  rw [List.filterMap_append, List.nodup_append] at h
  obtain ⟨hA, hB, hAB⟩ := h
  intro x hx hk
  rcases hx with hx | hx
  · exact hAB k (List.mem_filterMap.2 ⟨x, hx, hk⟩) k (List.mem_filterMap.2 ⟨u, by simp, hu⟩) rfl
  · rw [List.filterMap_cons_some hu, List.nodup_cons] at hB
    exact hB.1 (List.mem_filterMap.2 ⟨x, hx, hk⟩)

section
variable {w w' : World} {base : Nat} {v : Value} {L : List (List Int)} {mv : List Value}
theorem OwnM.chg (h : OwnM w base v L mv) {bs : List Nat} (hc : Chg bs w w') (h1 : ∀ k, v.ownBlock = some k → k ∉ bs) (h2 : ∀ x, x ∈ mv → ∀ k, x.ownBlock = some k → k ∉ bs) : OwnM w' base v L mv :=
  ⟨own_chg h.row hc h1, h.len, fun i s p hs hp => own_chg (h.inner i s p hs hp) hc (h2 p (List.mem_of_getElem? hp))⟩
theorem OwnM.list (h : OwnM w base v L mv) (ha : Apart mv) (i : Nat) (r r' : List Int) (u : Value) (hs : L[i]? = some r) (hp : mv[i]? = some u) (hg : w.grownBy w' u.ownBlock)
    (ho : w'.ownsRow base 3 1 u r'.length (r'.map (Value.int .i64))) : OwnM w' base v (L.set i r') mv := by
  have hlt := (List.getElem?_eq_some_iff.1 hs).1
  have hi := h.inner i r u hs hp
  obtain ⟨A, B, hab, hq⟩ := mv_at mv i u hp
  have ha' := ha
  rw [hab] at ha'
  have hc : Chg (u.ownBlock.toList) w w' := Chg.of_grown hg fun y hy => by rw [hy]; simp
  refine ⟨?_, by rw [List.length_set]; exact h.len, fun j t q ht hjq => ?_⟩
  · rw [List.length_set]
    refine own_chg h.row hc fun k hk hm => ?_
    cases hxb : u.ownBlock with
    | none => rw [hxb] at hm; simp at hm
    | some c =>
      rw [hxb] at hm
      simp at hm
      subst hm
      exact own_types hi h.row (by decide) k hxb hk
  · by_cases e : j = i
    · subst e
      simp [hlt] at ht
      subst ht
      rw [hp] at hjq
      cases hjq
      exact ho
    · rw [List.getElem?_set_ne (fun h => e h.symm)] at ht
      refine own_chg (h.inner j t q ht hjq) hc fun k hk hm => ?_
      cases hxb : u.ownBlock with
      | none => rw [hxb] at hm; simp at hm
      | some c =>
        rw [hxb] at hm
        simp at hm
        subst hm
        exact apart_one ha' hxb q (hq j q e hjq) hk
end
theorem OwnM.len_eq {w : World} {base g n cap : Nat} {L : List (List Int)} {mv : List Value} (h : OwnM w base (.slice (some ⟨g, 0, none⟩) n cap) L mv) : n = L.length := by
  rcases h.row.2 with ⟨hv, _⟩ | ⟨g', cap', cur, hv, _⟩
  · simp at hv
  · simp at hv; omega
theorem OwnM.cellOf {w : World} {base g n cap : Nat} {L : List (List Int)} {mv : List Value} (h : OwnM w base (.slice (some ⟨g, 0, none⟩) n cap) L mv) (i : Nat) (u : Value) (hp : mv[i]? = some u) : w.cell? ⟨g, i, none⟩ = some u := by
  obtain rfl := h.len_eq
  have hl := (List.getElem?_eq_some_iff.1 hp).1
  rw [h.row.cellAt i (by have := h.len; omega), hp]

set_option maxRecDepth 100000 in
set_option maxHeartbeats 4000000 in
theorem markMutS_any (base : Nat) (v : Value) (k : Int) (L : List (List Int)) (mv : List Value) (ha : Apart mv) (hk0 : 0 ≤ k) (hk : k + (bulkM L : Int) ≤ 100000000000) (hl : L.length ≤ 100000000000) (w : World) (h : OwnM w base v L mv) :
    Calls Try.prog 32 #[v, .int .i64 k] w fun e w' => e = .returned (.int .i64 (markM L k L.length).2) ∧ OwnM w' base v (markM L k L.length).1 mv ∧ Chg (mv.filterMap Value.ownBlock) w w' := by
  have hv := h.row.2
  rcases hv with ⟨rfl, h0⟩ | ⟨g, cap, cur, rfl, hb, _, _, hcap, _, _⟩
  · obtain rfl : L = [] := List.length_eq_zero_iff.1 h0
    have h' := Lib.hid h
    clear h ha
    go_enter Try.func32, Try.ntmps32
    go_wp2_with fail
    go_loop [1, 5] (fun q i => q = .int .i64 k ∧ i = .int .i64 0) (fun q i => 0)
    case atStart => exact ⟨rfl, rfl⟩
    case round =>
      obtain ⟨rfl, rfl⟩ := hrel
      go_wp2_with fail
      go_ret
      exact ⟨rfl, h'.out, Chg.refl _ _⟩
  · have hK := Lib.hid (markM_k L k)
    have ha' := Lib.hid ha
    have h' := Lib.hid h
    have hlen := h.len
    clear h ha
    go_enter Try.func32, Try.ntmps32
    go_wp2_with fail
    go_loopw [1, 5] (fun q i wr => ∃ i' : Nat, i' ≤ L.length ∧ q = .int .i64 (markM L k i').2 ∧ i = .int .i64 i' ∧ Hid (OwnM wr base (.slice (some ⟨g, 0, none⟩) L.length cap) (markM L k i').1 mv) ∧ Chg (mv.filterMap Value.ownBlock) w wr) (fun q i _ => L.length - (intOf i).toNat)
    case atStart => exact ⟨0, Nat.zero_le _, rfl, rfl, h'.out, Chg.refl _ _⟩
    case round =>
      obtain ⟨i, hi, rfl, rfl, hown, hch⟩ := hrel
      by_cases hlt : i < L.length
      · obtain ⟨r, hs⟩ : ∃ s, L[i]? = some s := ⟨_, List.getElem?_eq_getElem hlt⟩
        obtain ⟨u, hp⟩ : ∃ p, mv[i]? = some p := ⟨_, List.getElem?_eq_getElem (by omega)⟩
        have hst := Lib.hid (markM_step L k i r hs)
        have hX := Lib.hid ((markM_later L k i i (Nat.le_refl _)).trans hs)
        have hKi := hK.out i hi
        have hKb := bulkM_step L i r hs
        have hKl := bulkM_upto L (i + 1)
        have hkk0 : 0 ≤ (markM L k i).2 := by omega
        have hkk1 : (markM L k i).2 + (r.length : Int) ≤ 100000000000 := by omega
        have hlt1 : (i : Int) < (L.length : Int) := by omega
        have hp' := Lib.hid hp
        have y0 := hown.out.cellOf i u hp
        have hin := Lib.hid (hown.out.inner i r u hX.out hp)
        have hch' := Lib.hid hch
        clear hs hp hKi hKb hKl hch
        generalize hkk : (markM L k i).2 = kk at *
        clear hkk
        have hll : r.length ≤ 100000000000 := by omega
        go_wp2_with fail
        refine (markIntS_any base u kk r (by omega) (by omega) (by omega) _ hin.out).mono ?_
        rintro e w5 ⟨rfl, o5, g5⟩
        have h5 := Lib.hid (hown.out.list ha'.out i r (seqL kk r.length) u hX.out hp'.out g5 (by rw [seqL_length]; exact o5))
        have hall := Lib.hid (hch'.out.trans (Chg.of_grown g5 (bs := mv.filterMap Value.ownBlock) fun y hy => List.mem_filterMap.2 ⟨u, List.mem_of_getElem? hp'.out, hy⟩))
        clear o5 g5 y0 hown
        go_wp2_with fail
        go_roundw
        case rel => exact ⟨i + 1, by omega, by rw [hst.out], by go_num, by rw [hst.out]; exact h5, hall.out⟩
        case measure => simp [intOf]; omega
      · obtain rfl : i = L.length := by omega
        go_wp2_with fail
        go_ret
        exact ⟨rfl, hown.out, hch⟩

set_option maxHeartbeats 1000000 in
theorem markGc_any (base : Nat) (p q : Int) (v : Value) (k : Int) (L : List Int) (hk0 : 0 ≤ k) (hk : k ≤ 1000000000000) (hL : L.length ≤ 100000000000) (w : World) (h1 : w.ownsRow base 3 1 v L.length (L.map (Value.int .i64))) :
    Calls Try.prog 33 #[.agg #[.int .i64 p, .int .i64 q, v], .int .i64 k] w fun e w' => e = .returned (.int .i64 (k + (L.length : Int))) ∧ w'.ownsRow base 3 1 v L.length ((seqL k L.length).map (Value.int .i64)) ∧ Chg v.ownBlock.toList w w' := by
  have bb := below_box w (.cells #[.int .i64 p, .int .i64 q, v] 27)
  have hcall := Lib.hid (markIntS_any base v k L (by omega) hk (by omega) _ (own_below h1 bb))
  have bb' := Lib.hid bb
  clear h1 bb
  go_enter Try.func33, Try.ntmps33
  go_wp2_with fail
  refine hcall.out.mono ?_
  rintro e w5 ⟨rfl, o5, g5⟩
  have o5' := Lib.hid o5
  have g5' := Lib.hid g5
  clear o5 g5
  go_wp2_with fail
  go_ret
  exact ⟨rfl, o5'.out, (Chg.of_below bb'.out _).trans (Chg.of_grown g5'.out fun y hy => by rw [hy]; simp)⟩
end Go.Proofs.Ytnmgecplagekcaa
