import Derived.Test.YtpaepkcfdnddgaaGreatCgM
import Derived.Test.YtpaepkcfdnddgaaGreatCgW
import Derived.Test.YtpaepkcfdnddgaaGreatCgMX
import Derived.Test.YtpaepkcfdnddgaaGreatCgIW1
import Derived.Test.YtpaepkcfdnddgaaGreatCgV
import Derived.Test.YtpaepkcfdnddgaaGreatCgISO
import Derived.Test.YtpaepkcfdnddgaaGreatCgN

namespace Go.Proofs.YtpaepkcfdnddgaaGreat
open Go.RowKit
set_option linter.unusedVariables false

/-- M is L, but that from a on n numbers are turned as G says. -/
def TurnedL (G : Int → Int → Prop) (L M : List Int) (a n : Nat) : Prop :=
  M.length = L.length ∧ ∀ i, (a ≤ i → i < a + n → G (L[i]?.getD 0) (M[i]?.getD 0)) ∧ (¬ (a ≤ i ∧ i < a + n) → M[i]?.getD 0 = L[i]?.getD 0)
theorem TurnedL.zero (G : Int → Int → Prop) (L : List Int) (a : Nat) : TurnedL G L L a 0 := ⟨rfl, fun i => ⟨fun h1 h2 => by omega, fun _ => rfl⟩⟩
theorem TurnedL.succ {G : Int → Int → Prop} {L M : List Int} {a n : Nat} {r : Int} (h : TurnedL G L M a n) (hn : a + n < L.length) (hr : G (L[a + n]?.getD 0) r) : TurnedL G L (M.set (a + n) r) a (n + 1) := by
  refine ⟨by simp [h.1], fun i => ⟨fun h1 h2 => ?_, fun h1 => ?_⟩⟩
  · by_cases e : i = a + n
    · subst e
      rw [List.getElem?_set_self (by rw [h.1]; exact hn)]
      exact hr
    · rw [List.getElem?_set_ne (by omega)]
      exact (h.2 i).1 h1 (by omega)
  · rw [List.getElem?_set_ne (by omega)]
    exact (h.2 i).2 (by omega)

set_option maxRecDepth 100000 in
set_option maxHeartbeats 4000000 in
theorem turnAll_any (F : FuncId) (p : Value) (hcf : ∀ (x : Int) (w : World), (callFunc F #[p, .int .i64 x]).run Tryz.prog w = .ok (.enter F #[p, .int .i64 x]) w) (G : Int → Int → Prop) (base b N C a n c : Nat) (L : List Int) (hL : L.length = N) (w : World)
    (hown : w.ownsRow base 3 1 (.slice (some ⟨b, 0, none⟩) N C) N (L.map (Value.int .i64))) (han : a + n ≤ N) (hN : N ≤ 10000000)
    (hturn : ∀ (i : Nat), a ≤ i → i < a + n → ∀ W, Chg [b] w W → Calls Tryz.prog F #[p, .int .i64 (L[i]?.getD 0)] W fun e W' => (∃ r, e = .returned (.int .i64 r) ∧ G (L[i]?.getD 0) r) ∧ Below W.heap.size W W') :
    Calls Tryz.prog 105 #[.slice (some ⟨b, a, none⟩) n c, .func (.func F) #[p] #[]] w fun e w' => e = .returned (.tuple #[]) ∧ ∃ M, TurnedL G L M a n ∧ w'.ownsRow base 3 1 (.slice (some ⟨b, 0, none⟩) N C) N (M.map (Value.int .i64)) ∧ Chg [b] w w' := by
  have hturn' := Lib.hid hturn
  have hown' := Lib.hid hown
  have hL' := Lib.hid hL
  clear hturn hown hL
  go_enter Tryz.func105, Tryz.ntmps105
  go_wp2_with fail
  go_loopw [4, 5, 8] (fun _ _ i wr => ∃ (j : Nat) (M : List Int), j ≤ n ∧ i = .int .i64 j ∧ Hid (TurnedL G L M a j) ∧ Hid (wr.ownsRow base 3 1 (.slice (some ⟨b, 0, none⟩) N C) N (M.map (Value.int .i64))) ∧ Hid (Chg [b] w wr)) (fun _ _ i _ => n - (RowKit.intOf i).toNat)
  case atStart => exact ⟨0, L, Nat.zero_le _, rfl, Lib.hid (TurnedL.zero G L a), hown', Lib.hid (Chg.refl _ _)⟩
  case round =>
    obtain ⟨j, M, hj, rfl, hT, hO, hC⟩ := hrel
    by_cases hlt : j < n
    · have hlt' : (j : Int) < (n : Int) := by omega
      have hMl : M.length = N := by rw [hT.out.1, hL'.out]
      have hx : M[a + j]?.getD 0 = L[a + j]?.getD 0 := (hT.out.2 (a + j)).2 (by omega)
      have c1 : wr.cell? ⟨b, a + j, none⟩ = some (.int .i64 (L[a + j]?.getD 0)) := by
        rw [hO.out.cellAt (a + j) (by omega), List.getElem?_map, ← hx]
        rw [List.getElem?_eq_getElem (show a + j < M.length by omega)]
        rfl
      have hcall := Lib.hid (hturn'.out (a + j) (by omega) (by omega) wr hC.out)
      have hsucc := Lib.hid (fun r (h : G (L[a + j]?.getD 0) r) => hT.out.succ (by rw [hL'.out]; omega) h)
      have hblt := Lib.hid (hO.out.lt b rfl).2
      clear hMl hx
      generalize L[a + j]?.getD 0 = x at *
      go_wp2_with fail
      refine hcall.out.mono ?_
      rintro e w2 ⟨⟨r, rfl, hr⟩, b2⟩
      have hO2 := Lib.hid (own_below hO.out b2)
      have hC2 := Lib.hid (hC.out.trans (Chg.of_below b2 [b]))
      have c2 : ∃ u, w2.cell? ⟨b, a + j, none⟩ = some u := ⟨_, cell_below b2 c1⟩
      obtain ⟨u, c2⟩ := c2
      have f2 := hO2.out.frozenAt (a + j)
      have hst := Lib.hid (hO2.out.stored (a + j) (.int .i64 r))
      have hT2 := Lib.hid (hsucc.out r hr)
      have hC3 := Lib.hid (show Chg [b] w (w2.setCell ⟨b, a + j, none⟩ (.int .i64 r)) from hC2.out.trans (Chg.of_grown hst.out.2 (fun x hx => by cases hx; simp)))
      have hO3 := Lib.hid (show (w2.setCell ⟨b, a + j, none⟩ (.int .i64 r)).ownsRow base 3 1 (.slice (some ⟨b, 0, none⟩) N C) N ((M.set (a + j) r).map (Value.int .i64)) by rw [List.map_set]; exact hst.out.1)
      clear hr b2 c1
      go_wp2_with fail
      go_roundw
      case rel => exact ⟨j + 1, _, by omega, by go_num, hT2, hO3, hC3⟩
      case measure => simp [RowKit.intOf]; omega
    · obtain rfl : j = n := by omega
      go_wp2_with fail
      go_end0
      exact ⟨rfl, M, hT.out, hO.out, hC.out⟩
end Go.Proofs.YtpaepkcfdnddgaaGreat

namespace Go.Proofs.YtpaepkcfdnddgaaGreat
open Go.RowKit
set_option linter.unusedVariables false

/-- Word i is a pointer of slot j of span k. -/
def PtrAt (D : WD) (k j i : Nat) : Prop := ∃ s, D.spans[k]? = some s ∧ j < s.lens.length ∧ atW s (j : Int) ≤ (i : Int) ∧ (i : Int) < atW s (j : Int) + s.ptrs[j]?.getD 0
theorem WSlot.unique {D : WD} (hF : HeapForm D) {i k k' j j' t t' : Nat} {s s' : SpanD} (h1 : WSlot D i k s j t) (h1' : WSlot D i k' s' j' t') : k = k' ∧ j = j' := by
  have p := h1.page hF
  have p' := h1'.page hF
  have hk : k = k' := by
    rcases Nat.lt_trichotomy k k' with h | h | h
    · have := pages_up hF h1.1 h1'.1 h; omega
    · exact h
    · have := pages_up hF h1'.1 h1.1 h; omega
  subst hk
  obtain rfl : s = s' := by have := h1.1; rw [h1'.1] at this; exact (Option.some.inj this).symm
  have A := hF.span k s h1.1
  have e := h1.2.2.1
  have e' := h1'.2.2.1
  have l := h1.2.2.2
  have l' := h1'.2.2.2
  refine ⟨rfl, ?_⟩
  have hz := sz_pos A.cls
  unfold atW at e e'
  have hm : (j : Int) * sz s.cls + (t : Int) = (j' : Int) * sz s.cls + (t' : Int) := by omega
  have d1 : ((j : Int) * sz s.cls + (t : Int)) / sz s.cls = (j : Int) := by rw [Int.add_comm, Int.add_mul_ediv_right _ _ (by omega), Int.ediv_eq_zero_of_lt (by omega) l]; omega
  have d2 : ((j' : Int) * sz s.cls + (t' : Int)) / sz s.cls = (j' : Int) := by rw [Int.add_comm, Int.add_mul_ediv_right _ _ (by omega), Int.ediv_eq_zero_of_lt (by omega) l']; omega
  rw [hm] at d1
  omega
theorem PtrAt.slot {D : WD} (hF : HeapForm D) {k j i : Nat} (h : PtrAt D k j i) : ∃ s t, WSlot D i k s j t ∧ (t : Int) < s.ptrs[j]?.getD 0 := by
  obtain ⟨s, hs, hj, h1, h2⟩ := h
  have A := hF.span k s hs
  have Q := A.slot j hj
  have := Q.p1
  have := Q.l1
  exact ⟨s, ((i : Int) - atW s (j : Int)).toNat, ⟨hs, hj, by omega, by omega⟩, by omega⟩
theorem PtrAt.unique {D : WD} (hF : HeapForm D) {i k k' j j' : Nat} (h : PtrAt D k j i) (h' : PtrAt D k' j' i) : k = k' ∧ j = j' := by
  obtain ⟨s, t, h1, _⟩ := h.slot hF
  obtain ⟨s', t', h1', _⟩ := h'.slot hF
  exact h1.unique hF h1'
/-- .. of a slot ahead of slot J of span K. -/
def PtrB (D : WD) (K J i : Nat) : Prop := ∃ k j, (k < K ∨ k = K ∧ j < J) ∧ PtrAt D k j i
/-- M is L, but that the pointers ahead of slot J of span K are turned as G says. -/
def WordsTd (D : WD) (G : Int → Int → Prop) (L M : List Int) (K J : Nat) : Prop :=
  M.length = L.length ∧ ∀ i, (PtrB D K J i → G (L[i]?.getD 0) (M[i]?.getD 0)) ∧ (¬ PtrB D K J i → M[i]?.getD 0 = L[i]?.getD 0)
theorem WordsTd.zero (D : WD) (G : Int → Int → Prop) (L : List Int) : WordsTd D G L L 0 0 :=
  ⟨rfl, fun i => ⟨fun ⟨k, j, h, _⟩ => by omega, fun _ => rfl⟩⟩
theorem WordsTd.span {D : WD} {G : Int → Int → Prop} {L M : List Int} {K : Nat} {s : SpanD} (hs : D.spans[K]? = some s) (h : WordsTd D G L M K s.lens.length) : WordsTd D G L M (K + 1) 0 := by
  have e : ∀ i, PtrB D (K + 1) 0 i ↔ PtrB D K s.lens.length i := fun i => ⟨fun ⟨k, j, h1, h2⟩ => by
      rcases Nat.lt_or_ge k K with hk | hk
      · exact ⟨k, j, .inl hk, h2⟩
      · obtain rfl : k = K := by omega
        obtain ⟨s', hs', hj, _⟩ := id h2
        rw [hs] at hs'
        cases hs'
        exact ⟨_, j, .inr ⟨rfl, hj⟩, h2⟩,
    fun ⟨k, j, h1, h2⟩ => ⟨k, j, .inl (by omega), h2⟩⟩
  exact ⟨h.1, fun i => ⟨fun hp => (h.2 i).1 ((e i).1 hp), fun hn => (h.2 i).2 fun hp => hn ((e i).2 hp)⟩⟩
/-- The pointers of one slot more are turned. -/
theorem WordsTd.slot {D : WD} (hF : HeapForm D) {G : Int → Int → Prop} {L M M' : List Int} {K J A n : Nat} {s : SpanD} (hs : D.spans[K]? = some s) (hJ : J < s.lens.length) (hA : atW s (J : Int) = (A : Int)) (hn : s.ptrs[J]?.getD 0 = (n : Int))
    (h : WordsTd D G L M K J) (h' : TurnedL G M M' A n) : WordsTd D G L M' K (J + 1) := by
  have here : ∀ i, PtrAt D K J i ↔ (A ≤ i ∧ i < A + n) := fun i => ⟨fun ⟨s', hs', _, h1, h2⟩ => by
      rw [hs] at hs'
      cases hs'
      omega, fun ⟨h1, h2⟩ => ⟨s, hs, hJ, by omega, by omega⟩⟩
  have e : ∀ i, PtrB D K (J + 1) i ↔ (PtrB D K J i ∨ PtrAt D K J i) := fun i => ⟨fun ⟨k, j, h1, h2⟩ => by
      by_cases hx : k = K ∧ j = J
      · exact .inr (hx.1 ▸ hx.2 ▸ h2)
      · exact .inl ⟨k, j, by omega, h2⟩,
    fun hx => hx.elim (fun ⟨k, j, h1, h2⟩ => ⟨k, j, by omega, h2⟩) fun hx => ⟨K, J, by omega, hx⟩⟩
  refine ⟨h'.1.trans h.1, fun i => ⟨fun hp => ?_, fun hn' => ?_⟩⟩
  · by_cases hx : A ≤ i ∧ i < A + n
    · have hb : ¬ PtrB D K J i := fun ⟨k, j, h1, h2⟩ => by
        have := h2.unique hF ((here i).2 hx)
        omega
      rw [← (h.2 i).2 hb]
      exact (h'.2 i).1 hx.1 hx.2
    · rw [(h'.2 i).2 hx]
      exact (h.2 i).1 (((e i).1 hp).resolve_right fun hq => hx ((here i).1 hq))
  · have hx : ¬ (A ≤ i ∧ i < A + n) := fun hx => hn' ((e i).2 (.inr ((here i).2 hx)))
    rw [(h'.2 i).2 hx]
    exact (h.2 i).2 fun hq => hn' ((e i).2 (.inl hq))
/-- What turnLeads does to the data. -/
def LeadsIs (G : Int → Int → Prop) (D E : WD) : Prop := ∃ (gr : List Int) (mu : List (List Int)) (wo : List Int), TurnedL G D.grey gr 0 D.grey.length ∧ (mu.length = D.muts.length ∧ ∀ (m : Nat) (r r' : List Int), D.muts[m]? = some r → mu[m]? = some r' → TurnedL G r r' 0 r.length) ∧
  WordsTd D G D.words wo D.spans.length 0 ∧ E = { D with grey := gr, muts := mu, words := wo }
end Go.Proofs.YtpaepkcfdnddgaaGreat

namespace Go.Proofs.YtpaepkcfdnddgaaGreat
open Go.RowKit
set_option linter.unusedVariables false

theorem turnAll_none (F : FuncId) (p : Value) (A : Option Addr) (c : Nat) (w : World) :
    Calls Tryz.prog 105 #[.slice A 0 c, .func (.func F) #[p] #[]] w fun e w' => e = .returned (.tuple #[]) ∧ w = w' := by
  go_enter Tryz.func105, Tryz.ntmps105
  go_wp2_with fail
  go_loop [4, 5, 8] (fun _ _ i => i = .int .i64 0) (fun _ _ i => 0)
  case atStart => rfl
  case round =>
    obtain rfl := hrel
    go_wp2_with fail
    go_end0
    exact ⟨rfl, rfl⟩
/-- A whole row. -/
theorem turnRow_any (F : FuncId) (p : Value) (hcf : ∀ (x : Int) (w : World), (callFunc F #[p, .int .i64 x]).run Tryz.prog w = .ok (.enter F #[p, .int .i64 x]) w) (G : Int → Int → Prop) (base : Nat) (v : Value) (L : List Int) (hL : L.length ≤ 10000000) (w : World)
    (hown : w.ownsRow base 3 1 v L.length (L.map (Value.int .i64)))
    (hturn : ∀ (i : Nat), i < L.length → ∀ W, Chg (blks [v]) w W → Calls Tryz.prog F #[p, .int .i64 (L[i]?.getD 0)] W fun e W' => (∃ r, e = .returned (.int .i64 r) ∧ G (L[i]?.getD 0) r) ∧ Below W.heap.size W W') :
    Calls Tryz.prog 105 #[v, .func (.func F) #[p] #[]] w fun e w' => e = .returned (.tuple #[]) ∧ ∃ M, TurnedL G L M 0 L.length ∧ w'.ownsRow base 3 1 v M.length (M.map (Value.int .i64)) ∧ Chg (blks [v]) w w' := by
  rcases Nat.eq_zero_or_pos L.length with h0 | h0
  · obtain ⟨a, c, rfl⟩ := own_slice hown
    rw [h0]
    refine (turnAll_none F p a c w).mono ?_
    rintro e w' ⟨rfl, rfl⟩
    exact ⟨rfl, L, TurnedL.zero G L 0, by rw [← h0]; exact hown, Chg.refl _ _⟩
  · obtain ⟨b, c, rfl⟩ := head_of hown h0
    have hb : blks [Value.slice (some ⟨b, 0, none⟩) L.length c] = [b] := rfl
    rw [hb] at hturn ⊢
    refine (turnAll_any F p hcf G base b L.length c 0 L.length c L rfl w hown (by omega) hL (fun i _ h2 W hW => hturn i (by omega) W hW)).mono ?_
    rintro e w' ⟨rfl, M, h1, h2, h3⟩
    exact ⟨rfl, M, h1, by rw [h1.1]; exact h2, h3⟩

theorem allI_at {L : List Int} (h : AllI L) (i : Nat) : I64 (L[i]?.getD 0) := by
  cases e : L[i]? with
  | none => constructor <;> decide
  | some y => exact h y (List.mem_of_getElem? e)
theorem Chg.grown1 {w w' : World} {u : Value} (c : Chg (blks [u]) w w') : w.grownBy w' u.ownBlock :=
  ⟨c.os, c.tape, c.output, c.size, fun k hk hne => c.block k hk (fun hm => by
    obtain ⟨x, hx, he⟩ := List.mem_filterMap.1 hm
    rw [List.mem_singleton.1 hx] at he
    exact hne he.symm)⟩
/-- The roots of the users ahead of m are turned. -/
def MutsTd (G : Int → Int → Prop) (L M : List (List Int)) (m : Nat) : Prop :=
  M.length = L.length ∧ ∀ (k : Nat) (r r' : List Int), L[k]? = some r → M[k]? = some r' → (k < m → TurnedL G r r' 0 r.length) ∧ (m ≤ k → r' = r)
theorem MutsTd.zero (G : Int → Int → Prop) (L : List (List Int)) : MutsTd G L L 0 := ⟨rfl, fun k r r' h h' => ⟨fun hk => by omega, fun _ => by rw [h] at h'; exact (Option.some.inj h').symm⟩⟩
theorem MutsTd.succ {G : Int → Int → Prop} {L M : List (List Int)} {m : Nat} {r r' : List Int} (h : MutsTd G L M m) (hr : L[m]? = some r) (ht : TurnedL G r r' 0 r.length) : MutsTd G L (M.set m r') (m + 1) := by
  have hm := (List.getElem?_eq_some_iff.1 hr).1
  refine ⟨by simp [h.1], fun k q q' h1 h2 => ?_⟩
  by_cases e : k = m
  · subst e
    rw [List.getElem?_set_self (by rw [h.1]; exact hm)] at h2
    rw [hr] at h1
    cases h1
    cases h2
    exact ⟨fun _ => ht, fun hk => by omega⟩
  · rw [List.getElem?_set_ne (by omega)] at h2
    exact ⟨fun hk => (h.2 k q q' h1 h2).1 (by omega), fun hk => (h.2 k q q' h1 h2).2 (by omega)⟩
theorem MutsTd.at {G : Int → Int → Prop} {L M : List (List Int)} {m : Nat} {r : List Int} (h : MutsTd G L M m) (hr : L[m]? = some r) : M[m]? = some r := by
  have hm := (List.getElem?_eq_some_iff.1 hr).1
  have hm' : m < M.length := by rw [h.1]; exact hm
  have e : M[m]? = some M[m] := List.getElem?_eq_getElem hm'
  rw [e, (h.2 m r _ hr e).2 (Nat.le_refl _)]
/-- One user's roots are another list. -/
theorem VarW.putRow {w w' : World} {base B : Nat} {S : Shape} {D : WD} (h : VarW w base B S D) (m : Nat) (r : List Int) (u : Value) (hs : D.muts[m]? = some r) (hp : S.mv[m]? = some u) (c : Chg (blks [u]) w w') {L : List Int}
    (hL : w'.ownsRow base 3 1 u L.length (L.map (Value.int .i64))) : VarW w' base B S { D with muts := D.muts.set m L } := by
  have hr := h.own.ownM.list h.own.parts.mv m r L u hs hp c.grown1 hL
  exact (h.putMuts (L := D.muts.set m L) (c.mono fun x hx => by
    obtain ⟨y, hy, he⟩ := List.mem_filterMap.1 hx
    rw [List.mem_singleton.1 hy] at he
    exact List.mem_filterMap.2 ⟨u, List.mem_cons_of_mem _ (List.mem_of_getElem? hp), he⟩) hr).1

set_option maxRecDepth 100000 in
set_option maxHeartbeats 16000000 in
theorem turnLeads_any (F : FuncId) (p : Value) (hcf : ∀ (x : Int) (w : World), (callFunc F #[p, .int .i64 x]).run Tryz.prog w = .ok (.enter F #[p, .int .i64 x]) w) (G : Int → Int → Prop) (base B : Nat) (S : Shape) (D : WD) (hF : HeapForm D) (hI : FitD D) (hg : D.grey.length ≤ 2000000) (w : World) (hw : VarW w base B S D)
    (hturn : ∀ x, I64 x → ∀ W, Chg (blks S.all) w W → Calls Tryz.prog F #[p, .int .i64 x] W fun e W' => (∃ r, e = .returned (.int .i64 r) ∧ G x r) ∧ Below W.heap.size W W') :
    Calls Tryz.prog 58 #[.pointer (some ⟨B, 0, none⟩), .func (.func F) #[p] #[]] w fun e w' => e = .returned (.tuple #[]) ∧ (∃ E, LeadsIs G D E ∧ VarW w' base B S E) ∧ Chg (blks S.all) w w' := by
  have hturn' := Lib.hid hturn
  have hF' := Lib.hid hF
  have hI' := Lib.hid hI
  obtain ⟨ag, cg, hvg⟩ := own_slice hw.own.grey
  have g8 := hw.cell 8 S.vg rfl
  rw [hvg] at g8
  have hmu : D.muts.length ≤ 3 := by have := hF.geo.2.2.2.2.2.2; omega
  have hmu1 : 0 < D.muts.length := by have := hF.geo.2.2.2.2.2.1; omega
  have hsp : D.spans.length ≤ 12 := by have := hF.spans; have := hF.geo.2.2.2.2.1; omega
  have hgl : (blks [S.vg]) = blks [.slice ag D.grey.length cg] := by rw [hvg]
  have hrow := Lib.hid (turnRow_any F p hcf G base (.slice ag D.grey.length cg) D.grey (by omega) w (by rw [← hvg]; exact hw.own.grey) (fun i _ W hW => hturn _ (allI_at hI.grey i) W (hW.mono (by rw [← hgl]; exact in_all (by simp [Shape.all])))))
  have hgl' := Lib.hid hgl
  have hvg' := Lib.hid hvg
  have hw' := Lib.hid hw
  have hsp' := Lib.hid hsp
  clear hturn hF hI hw hvg hgl hsp
  go_enter Tryz.func58, Tryz.ntmps58
  go_wp2_with fail
  refine hrow.out.mono ?_
  rintro e w1 ⟨rfl, gr, hT, hO, hC⟩
  have c1 := Lib.hid (show Chg (blks S.all) w w1 from hC.mono (by rw [← hgl'.out]; exact in_all (by simp [Shape.all])))
  have hv1 := Lib.hid ((hw'.out.putGrey (L := gr) (by rw [hgl'.out]; exact hC) (by rw [hvg'.out]; exact hO)).1)
  have hTg := Lib.hid hT
  have hl := hT.1
  obtain ⟨gm, cm, hvm⟩ : ∃ g cap, S.vm = .slice (some ⟨g, 0, none⟩) D.muts.length cap := by
    rcases hv1.out.own.ownM.row.2 with ⟨_, hz⟩ | ⟨g, cap, cur, e, _⟩
    · exact absurd hz (by show D.muts.length ≠ 0; omega)
    · exact ⟨g, cap, e⟩
  have g5 := hv1.out.cell 5 S.vm rfl
  rw [hvm] at g5
  have hvm' := Lib.hid hvm
  clear hC hT hO hl hvm g8
  go_wp2_with fail
  clear g5
  go_loopw [4, 19] (fun _ i wr => ∃ (m : Nat) (mu : List (List Int)), m ≤ D.muts.length ∧ i = .int .i64 m ∧ Hid (MutsTd G D.muts mu m) ∧ Hid (VarW wr base B S { D with grey := gr, muts := mu }) ∧ Hid (Chg (blks S.all) w wr)) (fun _ i _ => D.muts.length - (RowKit.intOf i).toNat)
  case atStart => exact ⟨0, D.muts, Nat.zero_le _, rfl, Lib.hid (MutsTd.zero G D.muts), hv1, c1⟩
  case round =>
    obtain ⟨m, mu, hm, rfl, hM, hV, hC⟩ := hrel
    have g5 := hV.out.cell 5 S.vm rfl
    have g4 := hV.out.cell 4 S.vs rfl
    rw [hvm'.out] at g5
    by_cases hlt : m < D.muts.length
    · obtain ⟨r, hr⟩ : ∃ r, D.muts[m]? = some r := ⟨_, List.getElem?_eq_getElem hlt⟩
      have hmr := hM.out.at hr
      have hoM := hV.out.own.ownM
      obtain ⟨u, hu⟩ : ∃ u, S.mv[m]? = some u := ⟨_, List.getElem?_eq_getElem (by rw [hoM.len]; show m < mu.length; rw [hM.out.1]; exact hlt)⟩
      have hin := hoM.inner m r u hmr hu
      have hrw := hoM.row
      rw [hvm'.out] at hrw
      have q0 : wr.cell? ⟨gm, m, none⟩ = some u := by
        have hrl : ({ D with grey := gr, muts := mu } : WD).muts.length = D.muts.length := hM.out.1
        rw [hrl] at hrw
        rw [hrw.cellAt m (by omega)]
        exact hu
      have hsub : ∀ x, x ∈ blks [u] → x ∈ blks S.all := in_all (by simp [Shape.all, List.mem_of_getElem? hu])
      have hr6 := hF'.out.roots m r hr
      have hcall := Lib.hid (turnRow_any F p hcf G base u r (by omega) wr hin (fun i _ W hW => hturn'.out _ (allI_at (hI'.out.muts r (List.mem_of_getElem? hr)) i) W (hC.out.trans (hW.mono hsub))))
      have hsub' := Lib.hid hsub
      have hlt' : (m : Int) < (D.muts.length : Int) := by omega
      have hr' := Lib.hid hr
      have hmr' := Lib.hid hmr
      have hu' := Lib.hid hu
      have hltH := Lib.hid hlt
      clear hr hmr hu hoM hin hrw hsub hr6
      go_wp2_with fail
      refine hcall.out.mono ?_
      rintro e w2 ⟨rfl, r2, hT2, hO2, hC2⟩
      have hV2 := Lib.hid (hV.out.putRow m r u hmr'.out hu'.out hC2 hO2)
      have hM2 := Lib.hid (hM.out.succ hr'.out hT2)
      have hC3 := Lib.hid (hC.out.trans (hC2.mono hsub'.out))
      clear hT2 hO2 hC2 q0 g5 g4
      go_wp2_with fail
      go_roundw
      case rel => exact ⟨m + 1, _, by omega, by go_num, hM2, hV2, hC3⟩
      case measure => simp [RowKit.intOf]; omega
    · obtain rfl : m = D.muts.length := by omega
      obtain ⟨gs, cs, hvs⟩ : ∃ a c, S.vs = .slice a D.spans.length c := own_slice hV.out.own.spans
      rw [hvs] at g4
      have hvs' := Lib.hid hvs
      clear hvs g5
      go_wp2_with fail
      clear g4
      have hM0 := Lib.hid hM.out
      have hV0 := Lib.hid (show VarW wr base B S { D with grey := gr, muts := mu, words := D.words } from hV.out)
      have hC0 := Lib.hid hC.out
      have hk12 := hsp'.out
      go_loopw [5, 38] (fun _ i wr => ∃ (k : Nat) (M : List Int), k ≤ D.spans.length ∧ i = .int .i64 k ∧ Hid (WordsTd D G D.words M k 0) ∧ Hid (VarW wr base B S { D with grey := gr, muts := mu, words := M }) ∧ Hid (Chg (blks S.all) w wr)) (fun _ i _ => D.spans.length - (RowKit.intOf i).toNat)
      case atStart => exact ⟨0, D.words, Nat.zero_le _, rfl, Lib.hid (WordsTd.zero D G D.words), hV0, hC0⟩
      case round =>
        obtain ⟨k, M, hk, rfl, hW, hV, hC⟩ := hrel
        by_cases hlt : k < D.spans.length
        · obtain ⟨s, hs⟩ : ∃ s, D.spans[k]? = some s := ⟨_, List.getElem?_eq_getElem hlt⟩
          have g4 := hV.out.cell 4 S.vs rfl
          have a3 := hV.out.rd.parts.2.2.1
          rw [hvs'.out] at g4 a3
          obtain ⟨aS, cS, hee, hsl, hx⟩ := a3
          obtain ⟨b1, o1, hb1, vl, vp, q0, q1, q2, q3, q4, q5, ⟨al, cl, rfl, hll, -⟩, -⟩ := hx k s hs
          obtain rfl : gs = some ⟨b1, o1, none⟩ := by simp at hee; rw [hee.1, hb1]
          have hA := hF'.out.span k s hs
          have hl16 : s.lens.length ≤ 16 := by have := hA.lens; unfold sl' at this; (repeat' split at this) <;> omega
          have hA' := Lib.hid hA
          have hs' := Lib.hid hs
          have hlt' : (k : Int) < (D.spans.length : Int) := by omega
          have hltH := Lib.hid hlt
          have hl16' := Lib.hid hl16
          have hk13 := hsp'.out
          clear hee hsl hx hb1 q0 q1 q2 q3 q5 hll hA hs hl16
          go_wp2_with fail
          clear g4 q4
          obtain ⟨wo, rfl⟩ : ∃ wo : World, wo = wr := ⟨_, rfl⟩
          go_loopw [6, 50] (fun _ i wr => ∃ (j : Nat) (M : List Int), j ≤ s.lens.length ∧ i = .int .i64 j ∧ Hid (WordsTd D G D.words M k j) ∧ Hid (VarW wr base B S { D with grey := gr, muts := mu, words := M }) ∧ Hid (Chg (blks S.all) w wr)) (fun _ i _ => s.lens.length - (RowKit.intOf i).toNat)
          case atStart => exact ⟨0, M, Nat.zero_le _, rfl, hW, hV, hC⟩
          case round =>
            obtain ⟨j, M, hj, rfl, hW, hV, hC⟩ := hrel
            by_cases hlj : j < s.lens.length
            · have hlj' : (j : Int) < (s.lens.length : Int) := by omega
              have hQ := hA'.out.slot j hlj
              obtain ⟨n, hn⟩ := Int.eq_ofNat_of_zero_le hQ.p0
              have hMl : (M.length : Int) = D.pages * 32 := by rw [hW.out.1]; exact hF'.out.words
              have hin : SlotIn ({ D with grey := gr, muts := mu, words := M } : WD) s j := ⟨hA'.out.cls, hA'.out.lens, hA'.out.ptrs, hlj, hA'.out.pg0, hA'.out.pg1, hMl, hF'.out.dirty, hF'.out.geo.2.2.2.2.1⟩
              have hbd : 0 ≤ atW s (j : Int) ∧ atW s (j : Int) + sz s.cls ≤ D.pages * 32 ∧ 2 ≤ sz s.cls ∧ sz s.cls ≤ 16 ∧ (j : Int) ≤ 15 ∧ atW s (j : Int) ≤ 1000 := hin.bd
              have hl17 := hl16'.out
              obtain ⟨A, hAe⟩ := Int.eq_ofNat_of_zero_le hbd.1
              have hsum : A + n ≤ M.length := by have := hQ.p1; have := hQ.l1; omega
              have hM400 : M.length ≤ 400 := by have := hF'.out.geo.2.2.2.2.1; omega
              obtain ⟨gw, cw, hvw⟩ := hV.out.headW (show 0 < M.length by omega)
              have hown := hV.out.own.words
              rw [hvw] at hown
              have hcw : M.length ≤ cw := by
                rcases hown.2 with ⟨h0, _⟩ | ⟨g, cap, cur, e, _, _, hnc, _⟩
                · simp at h0
                · simp at e; rw [e.2]; exact hnc
              have hpl : (ptrW ({ D with grey := gr, muts := mu, words := M } : WD) s j).length = n := by
                unfold ptrW; rw [hAe, hn]; simp; omega
              have hPW := Lib.hid (pointerWords_at gw 0 cw B _ ({ D with grey := gr, muts := mu, words := M } : WD) k j s hs'.out hin hQ.p0 (by have := hQ.p1; have := hQ.l1; omega) (fun c0 c1 a nn c c3 c4 c5 c6 c7 c8 e => by
                simp only [Shape.val, Value.agg.injEq] at e
                have e2 := congrArg (fun x : Array Value => x[2]?) e
                simp [hvw] at e2
                rw [e2.2.1.symm, e2.2.2.symm]
                exact hcw) ⟨_, _, _, _, _, _, _, _, by rw [Shape.val, hvw]⟩ wr hV.out.rd hV.out.boxW)
              rw [hpl, hAe, Int.toNat_natCast, Nat.zero_add] at hPW
              have hgw : ∀ x, x ∈ [gw] → x ∈ blks S.all := fun x hx => by
                rw [List.mem_singleton.1 hx]
                exact List.mem_filterMap.2 ⟨S.vw, by simp [Shape.all], by rw [hvw]; rfl⟩
              have hnot : ∀ i, A ≤ i → i < A + n → M[i]?.getD 0 = D.words[i]?.getD 0 := fun i h1 h2 => (hW.out.2 i).2 fun ⟨k', j', h3, h4⟩ => by
                have := h4.unique hF'.out (show PtrAt D k j i from ⟨s, hs'.out, hlj, by omega, by omega⟩)
                omega
              have hTA := Lib.hid (fun (x : Ext wr) => turnAll_any F p hcf G base gw M.length cw A n (cw - A) M rfl x.val (own_below hown x.below) hsum (by omega) (fun i h1 h2 W hW' => by
                rw [hnot i h1 h2]
                exact hturn'.out _ (allI_at hI'.out.words i) W ((hC.out.trans (Chg.of_below x.below _)).trans (hW'.mono hgw))))
              have hAn := Lib.hid (And.intro hAe hn)
              have hvwH := Lib.hid hvw
              have hgwH := Lib.hid hgw
              have hljH := Lib.hid hlj
              clear hQ hMl hin hbd hsum hown hcw hpl hgw hnot hvw hAe hn hM400
              go_wp2_with fail
              refine hPW.out.mono ?_
              rintro e w2 ⟨rfl, b2⟩
              have hV2 := Lib.hid (hV.out.below b2)
              have hC2 := Lib.hid (hC.out.trans (Chg.of_below b2 (blks S.all)))
              go_wp2_with fail
              refine (hTA.out ⟨w2, b2⟩).mono ?_
              rintro e w3 ⟨rfl, M2, hT, hO, hC3⟩
              have hW3 := Lib.hid (hW.out.slot hF'.out hs'.out hljH.out hAn.out.1 hAn.out.2 hT)
              have hCw : Chg (blks [S.vw]) w2 w3 := by rw [show blks [S.vw] = [gw] by rw [hvwH.out]; rfl]; exact hC3
              have hV3 := Lib.hid (show VarW w3 base B S { D with grey := gr, muts := mu, words := M2 } from (hV2.out.putWords (L := M2) hCw (by rw [hvwH.out, hT.1]; exact hO)).1)
              have hC4 := Lib.hid (hC2.out.trans (hC3.mono hgwH.out))
              clear hT hO hC3 hCw b2
              go_wp2_with fail
              go_roundw
              case rel => exact ⟨j + 1, M2, by omega, by go_num, hW3, hV3, hC4⟩
              case measure => simp [RowKit.intOf]; omega
            · obtain rfl : j = s.lens.length := by omega
              have hW3 := Lib.hid (hW.out.span hs'.out)
              have hltK := hltH.out
              have hk14 := hsp'.out
              go_wp2_with fail
              go_roundw
              case rel => exact ⟨k + 1, M, by have := hltH.out; omega, by go_num, hW3, hV, hC⟩
              case measure => (have := hltH.out; simp [RowKit.intOf]; omega)
        · obtain rfl : k = D.spans.length := by omega
          have hE := Lib.hid (show ∃ E, LeadsIs G D E ∧ VarW wr base B S E from ⟨_, ⟨gr, mu, M, hTg.out, ⟨hM0.out.1, fun m r r' h1 h2 => (hM0.out.2 m r r' h1 h2).1 (List.getElem?_eq_some_iff.1 h1).1⟩, hW.out, rfl⟩, hV.out⟩)
          go_wp2_with fail
          go_end0
          exact ⟨rfl, hE.out, hC.out⟩
end Go.Proofs.YtpaepkcfdnddgaaGreat

namespace Go.Proofs.YtpaepkcfdnddgaaGreat
open Go.RowKit
set_option linter.unusedVariables false

def DoomAt (D : WD) (k j i : Nat) : Prop := ∃ s, D.spans[k]? = some s ∧ j < s.lens.length ∧ DoomP D k j ∧ atW s (j : Int) ≤ (i : Int) ∧ (i : Int) < atW s (j : Int) + s.lens[j]?.getD 0
def DoomB (D : WD) (K J i : Nat) : Prop := ∃ k j, (k < K ∨ k = K ∧ j < J) ∧ DoomAt D k j i
/-- M is D's words, but that those of doomed objects ahead of slot J of span K are 0. -/
def ZeroTd (D : WD) (M : List Int) (K J : Nat) : Prop := M.length = D.words.length ∧ ∀ i : Nat, (DoomB D K J i → M[i]?.getD 0 = 0) ∧ (¬ DoomB D K J i → M[i]?.getD 0 = D.words[i]?.getD 0)
theorem ZeroTd.zero (D : WD) : ZeroTd D D.words 0 0 := ⟨rfl, fun i => ⟨fun ⟨k, j, h, _⟩ => by omega, fun _ => rfl⟩⟩
theorem doomB_succ {D : WD} {K J : Nat} (i : Nat) : DoomB D K (J + 1) i ↔ (DoomB D K J i ∨ DoomAt D K J i) :=
  ⟨fun ⟨k, j, h1, h2⟩ => by
    by_cases hx : k = K ∧ j = J
    · exact .inr (hx.1 ▸ hx.2 ▸ h2)
    · exact .inl ⟨k, j, by omega, h2⟩,
  fun hx => hx.elim (fun ⟨k, j, h1, h2⟩ => ⟨k, j, by omega, h2⟩) fun hx => ⟨K, J, by omega, hx⟩⟩
theorem ZeroTd.span {D : WD} {M : List Int} {K : Nat} {s : SpanD} (hs : D.spans[K]? = some s) (h : ZeroTd D M K s.lens.length) : ZeroTd D M (K + 1) 0 := by
  have e : ∀ i, DoomB D (K + 1) 0 i ↔ DoomB D K s.lens.length i := fun i => ⟨fun ⟨k, j, h1, h2⟩ => by
      rcases Nat.lt_or_ge k K with hk | hk
      · exact ⟨k, j, .inl hk, h2⟩
      · obtain rfl : k = K := by omega
        obtain ⟨s', hs', hj, _⟩ := id h2
        rw [hs] at hs'
        cases hs'
        exact ⟨_, j, .inr ⟨rfl, hj⟩, h2⟩,
    fun ⟨k, j, h1, h2⟩ => ⟨k, j, .inl (by omega), h2⟩⟩
  exact ⟨h.1, fun i => ⟨fun hp => (h.2 i).1 ((e i).1 hp), fun hn => (h.2 i).2 fun hp => hn ((e i).2 hp)⟩⟩
theorem ZeroTd.skip {D : WD} {M : List Int} {K J : Nat} (h : ZeroTd D M K J) (hn : ∀ i, ¬ DoomAt D K J i) : ZeroTd D M K (J + 1) :=
  ⟨h.1, fun i => ⟨fun hp => (h.2 i).1 (((doomB_succ i).1 hp).resolve_right (hn i)), fun hq => (h.2 i).2 fun hp => hq ((doomB_succ i).2 (.inl hp))⟩⟩
theorem zeroK_at (L : List Int) (A : Nat) : ∀ (n i : Nat), (zeroK L A n)[i]?.getD 0 = if A ≤ i ∧ i < A + n then 0 else L[i]?.getD 0
  | 0, i => by rw [if_neg (by omega)]; rfl
  | n + 1, i => by
    show ((zeroK L A n).set (A + n) 0)[i]?.getD 0 = _
    by_cases e : i = A + n
    · subst e
      rw [if_pos (by omega)]
      by_cases hl : A + n < (zeroK L A n).length
      · rw [List.getElem?_set_self hl]; rfl
      · rw [List.getElem?_eq_none (by rw [List.length_set]; omega)]; rfl
    · rw [List.getElem?_set_ne (by omega), zeroK_at L A n i]
      by_cases h : A ≤ i ∧ i < A + n
      · rw [if_pos h, if_pos (by omega)]
      · rw [if_neg h, if_neg (by omega)]
theorem ZeroTd.slot {D : WD} {M : List Int} {K J A n : Nat} {s : SpanD} (hs : D.spans[K]? = some s) (hJ : J < s.lens.length) (hA : atW s (J : Int) = (A : Int)) (hn : s.lens[J]?.getD 0 = (n : Int)) (hd : DoomP D K J) (h : ZeroTd D M K J) : ZeroTd D (zeroK M A n) K (J + 1) := by
  have here : ∀ i, DoomAt D K J i ↔ (A ≤ i ∧ i < A + n) := fun i => ⟨fun ⟨s', hs', _, _, h1, h2⟩ => by
      rw [hs] at hs'
      cases hs'
      omega, fun ⟨h1, h2⟩ => ⟨s, hs, hJ, hd, by omega, by omega⟩⟩
  refine ⟨by rw [zeroK_len]; exact h.1, fun i => ⟨fun hp => ?_, fun hq => ?_⟩⟩
  · rw [zeroK_at]
    by_cases hx : A ≤ i ∧ i < A + n
    · rw [if_pos hx]
    · rw [if_neg hx]
      exact (h.2 i).1 (((doomB_succ i).1 hp).resolve_right fun hy => hx ((here i).1 hy))
  · have hx : ¬ (A ≤ i ∧ i < A + n) := fun hx => hq ((doomB_succ i).2 (.inr ((here i).2 hx)))
    rw [zeroK_at, if_neg hx]
    exact (h.2 i).2 fun hp => hq ((doomB_succ i).2 (.inl hp))

theorem zero_chg (g A : Nat) : ∀ (n : Nat) (w : World) {bs : List Nat}, g ∈ bs → Chg bs w (w.setCells g A (List.replicate n (.int .i64 0)))
  | 0, w, bs, _ => Chg.refl bs w
  | n + 1, w, bs, h => by
    rw [setCells_last]
    exact (zero_chg g A n w h).put h (A + n) _
theorem markR {D : WD} (hF : HeapForm D) {k j : Nat} {s : SpanD} (hs : D.spans[k]? = some s) (hj : j < s.lens.length) : 0 ≤ s.mark ∧ s.mark ≤ 9223372036854775807 ∧ j ≤ 16 := by
  have A := hF.span k s hs
  have h1 := A.lens
  have h2 := (sl_bd s.cls).2
  have h3 := A.mk1
  have h4 := pow16 (k := s.lens.length) (by omega)
  have e : ((2 : Int) ^ s.lens.length) = ((2 ^ s.lens.length : Nat) : Int) := by simp
  rw [e] at h3
  exact ⟨A.mk0, by omega, by omega⟩

set_option maxRecDepth 100000 in
set_option maxHeartbeats 16000000 in
theorem clearDoomed_any (base B : Nat) (S : Shape) (D : WD) (hF : HeapForm D) (w : World) (hw : VarW w base B S D) :
    Calls Tryz.prog 102 #[.pointer (some ⟨B, 0, none⟩)] w fun e w' => e = .returned (.tuple #[]) ∧ (∃ M, ZeroTd D M D.spans.length 0 ∧ VarW w' base B S { D with words := M }) ∧ Chg (blks S.all) w w' := by
  have hF' := Lib.hid hF
  have hsp : D.spans.length ≤ 12 := by have := hF.spans; have := hF.geo.2.2.2.2.1; omega
  have hsp' := Lib.hid hsp
  obtain ⟨gs, cs, hvs⟩ : ∃ a c, S.vs = .slice a D.spans.length c := own_slice hw.own.spans
  have g4 := hw.cell 4 S.vs rfl
  rw [hvs] at g4
  have hvs' := Lib.hid hvs
  have hw' := Lib.hid hw
  clear hF hw hvs
  go_enter Tryz.func102, Tryz.ntmps102
  go_wp2_with fail
  clear g4
  go_loopw [2, 3, 12] (fun _ _ i wr => ∃ (k : Nat) (M : List Int), k ≤ D.spans.length ∧ i = .int .i64 k ∧ Hid (ZeroTd D M k 0) ∧ Hid (VarW wr base B S { D with words := M }) ∧ Hid (Chg (blks S.all) w wr)) (fun _ _ i _ => D.spans.length - (RowKit.intOf i).toNat)
  case atStart => exact ⟨0, D.words, Nat.zero_le _, rfl, Lib.hid (ZeroTd.zero D), hw', Lib.hid (Chg.refl _ _)⟩
  case round =>
    obtain ⟨k, M, hk, rfl, hW, hV, hC⟩ := hrel
    by_cases hlt : k < D.spans.length
    · obtain ⟨s, hs⟩ : ∃ s, D.spans[k]? = some s := ⟨_, List.getElem?_eq_getElem hlt⟩
      obtain ⟨g0, c0, hg0⟩ := hV.out.headS (show 0 < D.spans.length by omega)
      obtain ⟨p, hp⟩ := hV.out.svAt hs
      have g4 := hV.out.cell 4 S.vs rfl
      rw [hvs'.out] at g4
      obtain rfl : gs = some ⟨g0, 0, none⟩ := by have e := hvs'.out; rw [hg0] at e; simp at e; exact e.1.symm
      have hA := hF'.out.span k s hs
      have hl16 : s.lens.length ≤ 16 := by have := hA.lens; unfold sl' at this; (repeat' split at this) <;> omega
      have hl1 : 0 < s.lens.length := by have := hA.lens; have := hA.cls; have := sl_some hA.cls; omega
      obtain ⟨gl, cl, hgl⟩ := head_of (hV.out.own.inner k s p hs hp).1 hl1
      obtain ⟨-, -, -, -, q4, -⟩ := hV.out.six hg0 hs hp
      rw [hgl] at q4
      have hg0' := Lib.hid hg0
      have hp' := Lib.hid hp
      have hgl' := Lib.hid hgl
      have hA' := Lib.hid hA
      have hs' := Lib.hid hs
      have hlt' : (k : Int) < (D.spans.length : Int) := by omega
      have hltH := Lib.hid hlt
      have hl16' := Lib.hid hl16
      have hk13 := hsp'.out
      clear hA hs hl16 hl1 hg0 hp hgl
      go_wp2_with fail
      clear g4 q4
      obtain ⟨wo, rfl⟩ : ∃ wo : World, wo = wr := ⟨_, rfl⟩
      go_loopw [4, 5, 6, 26] (fun _ _ _ i wr => ∃ (j : Nat) (M : List Int), j ≤ s.lens.length ∧ i = .int .i64 j ∧ Hid (ZeroTd D M k j) ∧ Hid (VarW wr base B S { D with words := M }) ∧ Hid (Chg (blks S.all) w wr)) (fun _ _ _ i _ => s.lens.length - (RowKit.intOf i).toNat)
      case atStart => exact ⟨0, M, Nat.zero_le _, rfl, hW, hV, hC⟩
      case round =>
        obtain ⟨j, M, hj, rfl, hW, hV, hC⟩ := hrel
        by_cases hlj : j < s.lens.length
        · have hi := hV.out.own.inner k s p hs'.out hp'.out
          have hrs := Lib.hid (show RdSpan wr g0 (k * 6) s from by
            obtain ⟨x0, x1, x2, x3, x4, x5⟩ := hV.out.six hg0'.out hs'.out hp'.out
            exact ⟨_, _, x0, x1, x2, x3, x4, x5, Rd.of_owns hi.1, Rd.of_owns hi.2⟩)
          obtain ⟨c1, c2⟩ := ints_cell hi.1 hgl'.out j hlj
          have hlj' : (j : Int) < (s.lens.length : Int) := by omega
          have hl17 := hl16'.out
          have hQ := hA'.out.slot j hlj
          obtain ⟨n, hn⟩ := Int.eq_ofNat_of_zero_le hQ.l0
          have hMl : (M.length : Int) = D.pages * 32 := by rw [hW.out.1]; exact hF'.out.words
          have hin : SlotIn ({ D with words := M } : WD) s j := ⟨hA'.out.cls, hA'.out.lens, hA'.out.ptrs, hlj, hA'.out.pg0, hA'.out.pg1, hMl, hF'.out.dirty, hF'.out.geo.2.2.2.2.1⟩
          have hbd : 0 ≤ atW s (j : Int) ∧ atW s (j : Int) + sz s.cls ≤ D.pages * 32 ∧ 2 ≤ sz s.cls ∧ sz s.cls ≤ 16 ∧ (j : Int) ≤ 15 ∧ atW s (j : Int) ≤ 1000 := hin.bd
          obtain ⟨A, hAe⟩ := Int.eq_ofNat_of_zero_le hbd.1
          have hsum : A + n ≤ M.length := by have := hQ.l1; omega
          have hAlt : A < M.length := by omega
          have hA1000 : A ≤ 1000 := by omega
          have hn16 : n ≤ 16 := by have := hQ.l1; omega
          obtain ⟨gw, cw, hvw⟩ := hV.out.headW (show 0 < M.length by omega)
          have hown := hV.out.own.words
          rw [hvw] at hown
          have hcw : M.length ≤ cw ∧ cw ≤ 9223372036854775807 := by
            rcases hown.2 with ⟨h0, _⟩ | ⟨g, cap, cur, e, _, _, hnc, hm, _⟩
            · simp at h0
            · simp at e; unfold maxLen at hm; rw [e.2]; exact ⟨hnc, hm⟩
          have hfw := Lib.hid (hAe ▸ firstWord_any g0 (k * 6) s (j : Int) hA'.out.pg0 (by have := hA'.out.pg1; have := hF'.out.geo.2.2.2.2.1; omega) (by omega) (by omega) wr hrs.out : Calls Tryz.prog 142 #[.pointer (some ⟨g0, k * 6, none⟩), .int .i64 j] wr fun e w' => e = .returned (.int .i64 (A : Int)) ∧ Drawn wr w')
          have hdm := Lib.hid (fun (x : Ext wr) => idoomed_any B _ ({ D with words := M } : WD) k j s hs'.out (markR hF'.out hs'.out hlj) x.val (hV.out.below x.below).rd (hV.out.below x.below).boxW)
          have hyes := Lib.hid (fun (h : DoomP D k j) => hW.out.slot hs'.out hlj hAe hn h)
          have hno := Lib.hid (fun (h : ¬ DoomP D k j ∨ n = 0) => hW.out.skip (fun i hi => by
            obtain ⟨s2, h1, h2, h3, h4, h5⟩ := hi
            rcases h with h | h
            · exact h h3
            · rw [hs'.out] at h1
              cases h1
              omega))
          have hvwH := Lib.hid hvw
          have hcwH := Lib.hid hcw
          have hsumH := Lib.hid hsum
          have hAltH := Lib.hid hAlt
          have hljH := Lib.hid hlj
          rw [hn] at c1
          clear hi hQ hMl hin hbd hown hcw hvw hAe hn hsum hAlt
          go_wp2_with fail
          refine hfw.out.mono ?_
          rintro e w2 ⟨rfl, b2⟩
          have b2' := Lib.hid b2.below
          clear b2
          by_cases hn0 : n = 0
          · have hW2 := Lib.hid (hno.out (.inr hn0))
            have hV2 := Lib.hid (hV.out.below b2'.out)
            have hC2 := Lib.hid (hC.out.trans (Chg.of_below b2'.out (blks S.all)))
            have hd0 : decide ((0 : Int) < (n : Int)) = false := decide_eq_false (by omega)
            have hd1 : ¬ (0 : Int) < (n : Int) := by omega
            go_wp2_with fail
            go_roundw
            case rel => exact ⟨j + 1, M, by have := hljH.out; omega, by go_num, hW2, hV2, hC2⟩
            case measure => (have := hljH.out; simp [RowKit.intOf]; omega)
          have hd0 : decide ((0 : Int) < (n : Int)) = true := decide_eq_true (by omega)
          have hd1 : (0 : Int) < (n : Int) := by omega
          go_wp2_with fail
          refine (hdm.out ⟨w2, b2'.out⟩).mono ?_
          rintro e w3 ⟨hq, b3⟩
          have bb := Lib.hid (below_trans b2'.out b3)
          have hV3 := Lib.hid (hV.out.below bb.out)
          have hC3 := Lib.hid (hC.out.trans (Chg.of_below bb.out (blks S.all)))
          clear b3
          rcases hq.elim with ⟨hP, rfl⟩ | ⟨hP, rfl⟩
          · have hW2 := Lib.hid (hyes.out hP)
            clear hq hP
            have g2 := hV3.out.cell 2 (.slice (some ⟨gw, 0, none⟩) M.length cw) (by rw [← hvwH.out]; rfl)
            have hrw := hV3.out.own.words
            rw [hvwH.out] at hrw
            have hAe9 : (A : Int) ≤ (A : Int) + (n : Int) := by omega
            have hwc1 := hcwH.out.1
            have hwc2 := hcwH.out.2
            have hcl : ∀ ty, (Builtin.clear_ #[22] ty #[.slice (some ⟨gw, A, none⟩) n (cw - A)]).run Tryz.prog w3 = .ok (.tuple #[]) (w3.setCells gw A (List.replicate n (.int .i64 0))) := fun ty =>
              Lib.run_clear_slice w3 22 3 ty (.int .i64 0) Tryz.underlying22 zeroInt rfl rfl gw A n _ (by omega) (fun i hi => by have := hsumH.out; rw [hrw.cellAt (A + i) (by show A + i < M.length * 1; omega)]; simp; omega) (fun i hi => hrw.frozenAt (A + i))
            have hz5 := hV3.out.zero (g := gw) (cap := cw) hvwH.out A n
            have hV5 := Lib.hid hz5.1
            have hC5 := Lib.hid (hC3.out.trans (zero_chg gw A n w3 (bs := blks S.all) (List.mem_filterMap.2 ⟨S.vw, by simp [Shape.all], by rw [hvwH.out]; rfl⟩)))
            have hsl := cut_words (g := gw) (n := M.length) (c := cw) hAltH.out hsumH.out hwc1 ((A : Int) + (n : Int)) rfl
            clear hrw hz5
            go_wp2_with fail
            go_roundw
            case rel => exact ⟨j + 1, _, by have := hljH.out; omega, by go_num, hW2, hV5, hC5⟩
            case measure => (have := hljH.out; simp [RowKit.intOf]; omega)
          · have hW2 := Lib.hid (hno.out (.inl hP))
            clear hq hP
            go_wp2_with fail
            go_roundw
            case rel => exact ⟨j + 1, M, by have := hljH.out; omega, by go_num, hW2, hV3, hC3⟩
            case measure => (have := hljH.out; simp [RowKit.intOf]; omega)
        · obtain rfl : j = s.lens.length := by omega
          have hW3 := Lib.hid (hW.out.span hs'.out)
          have hltK := hltH.out
          have hk14 := hsp'.out
          go_wp2_with fail
          go_roundw
          case rel => exact ⟨k + 1, M, by have := hltH.out; omega, by go_num, hW3, hV, hC⟩
          case measure => (have := hltH.out; simp [RowKit.intOf]; omega)
    · obtain rfl : k = D.spans.length := by omega
      have hE := Lib.hid (show ∃ M, ZeroTd D M D.spans.length 0 ∧ VarW wr base B S { D with words := M } from ⟨M, hW.out, hV.out⟩)
      go_wp2_with fail
      go_end0
      exact ⟨rfl, hE.out, hC.out⟩
end Go.Proofs.YtpaepkcfdnddgaaGreat
