/-
  The contract of the laws' 'markSpanS'.
-/
import Derived.Test.YtnmgecplagekcaaMark
namespace Go.Proofs.Ytnmgecplagekcaa
open Go.RowKit
set_option linter.unusedVariables false

theorem flatV_same (L : List SpanD) (sv : List (Value × Value)) (i : Nat) (s s' : SpanD) (h1 : L[i]? = some s) (e0 : s'.page = s.page) (e1 : s'.cls = s.cls) (e2 : s'.mark = s.mark) (e3 : s'.swept = s.swept) : flatV (L.set i s') sv = flatV L sv := by
  induction i generalizing L sv with
  | zero =>
    cases L with
    | nil => simp at h1
    | cons a L =>
      cases sv with
      | nil => simp [flatV]
      | cons q sv =>
        simp at h1
        subst h1
        simp [flatV, spanCv, e0, e1, e2, e3]
  | succ i ih =>
    cases L with
    | nil => simp at h1
    | cons a L =>
      cases sv with
      | nil => simp [flatV]
      | cons q sv =>
        simp at h1
        have := ih L sv h1
        simp only [flatV, List.set_cons_succ, List.zip_cons_cons, List.flatMap_cons] at this ⊢
        rw [this]

section
variable {w w' : World} {base : Nat} {v : Value} {L : List SpanD} {sv : List (Value × Value)}
theorem OwnS.chg (h : OwnS w base v L sv) {bs : List Nat} (hc : Chg bs w w') (h1 : ∀ k, v.ownBlock = some k → k ∉ bs) (h2 : ∀ x, x ∈ svInts sv → ∀ k, x.ownBlock = some k → k ∉ bs) : OwnS w' base v L sv :=
  ⟨own_chg h.row hc h1, h.len, fun i s p hs hp => by
    have hm := List.mem_of_getElem? hp
    exact ⟨own_chg (h.inner i s p hs hp).1 hc (h2 p.1 (List.mem_flatMap.2 ⟨p, hm, by simp⟩)), own_chg (h.inner i s p hs hp).2 hc (h2 p.2 (List.mem_flatMap.2 ⟨p, hm, by simp⟩))⟩⟩

theorem OwnS.heads {g n cap : Nat} (h : OwnS w base (.slice (some ⟨g, 0, none⟩) n cap) L sv) (i : Nat) (s s' : SpanD) (p : Value × Value) (hs : L[i]? = some s) (hp : sv[i]? = some p) (el : s'.lens = s.lens) (ep : s'.ptrs = s.ptrs) :
    OwnS ((((w.setCell ⟨g, i * 6, none⟩ (.int .i64 s'.page)).setCell ⟨g, i * 6 + 1, none⟩ (.int .i64 s'.cls)).setCell ⟨g, i * 6 + 2, none⟩ (.int .i64 s'.mark)).setCell ⟨g, i * 6 + 3, none⟩ (.bool s'.swept)) base (.slice (some ⟨g, 0, none⟩) n cap) (L.set i s') sv ∧
    Chg [g] w ((((w.setCell ⟨g, i * 6, none⟩ (.int .i64 s'.page)).setCell ⟨g, i * 6 + 1, none⟩ (.int .i64 s'.cls)).setCell ⟨g, i * 6 + 2, none⟩ (.int .i64 s'.mark)).setCell ⟨g, i * 6 + 3, none⟩ (.bool s'.swept)) := by
  have hn : n = L.length := by
    have := h.row
    rcases this.2 with ⟨hv, _⟩ | ⟨g', cap', cur, hv, _⟩
    · simp at hv
    · simp at hv; omega
  subst hn
  have c1 := Chg.of_grown (grown_set w g (i * 6) (.int .i64 s'.page)) (bs := [g]) (by simp)
  have c2 := Chg.of_grown (grown_set (w.setCell ⟨g, i * 6, none⟩ (.int .i64 s'.page)) g (i * 6 + 1) (.int .i64 s'.cls)) (bs := [g]) (by simp)
  have c3 := Chg.of_grown (grown_set ((w.setCell ⟨g, i * 6, none⟩ (.int .i64 s'.page)).setCell ⟨g, i * 6 + 1, none⟩ (.int .i64 s'.cls)) g (i * 6 + 2) (.int .i64 s'.mark)) (bs := [g]) (by simp)
  have c4 := Chg.of_grown (grown_set (((w.setCell ⟨g, i * 6, none⟩ (.int .i64 s'.page)).setCell ⟨g, i * 6 + 1, none⟩ (.int .i64 s'.cls)).setCell ⟨g, i * 6 + 2, none⟩ (.int .i64 s'.mark)) g (i * 6 + 3) (.bool s'.swept)) (bs := [g]) (by simp)
  have c := ((c1.trans c2).trans c3).trans c4
  refine ⟨⟨?_, by rw [List.length_set]; exact h.len, fun j t q ht hq => ?_⟩, c⟩
  · have hst := (((h.row.stored (i * 6) (.int .i64 s'.page)).1.stored (i * 6 + 1) (.int .i64 s'.cls)).1.stored (i * 6 + 2) (.int .i64 s'.mark)).1.stored (i * 6 + 3) (.bool s'.swept)
    rw [flatV_set L sv i s s' p hs hp] at hst
    rw [List.length_set]
    exact hst.1
  · have hlt := (List.getElem?_eq_some_iff.1 hs).1
    have key : ∃ t0, L[j]? = some t0 ∧ t.lens = t0.lens ∧ t.ptrs = t0.ptrs := by
      by_cases e : j = i
      · subst e
        simp [hlt] at ht
        subst ht
        exact ⟨s, hs, el, ep⟩
      · rw [List.getElem?_set_ne (fun h => e h.symm)] at ht
        exact ⟨t, ht, rfl, rfl⟩
    obtain ⟨t0, h0, e1, e2⟩ := key
    rw [e1, e2]
    have hi := h.inner j t0 q h0 hq
    have ne : ∀ {size m : Nat} {x : Value} {xs : List Value}, w.ownsRow base 3 size x m xs → ∀ k, x.ownBlock = some k → k ∉ [g] := fun hx k hk => by
      have := own_types hx h.row (by decide) k hk
      simp only [List.mem_singleton]
      intro e
      subst e
      exact this rfl
    exact ⟨own_chg hi.1 c (ne hi.1), own_chg hi.2 c (ne hi.2)⟩

theorem OwnS.lists (h : OwnS w base v L sv) (ha : Apart (svInts sv)) (i : Nat) (s s' : SpanD) (p : Value × Value) (hs : L[i]? = some s) (hp : sv[i]? = some p) (e0 : s'.page = s.page) (e1 : s'.cls = s.cls) (e2 : s'.mark = s.mark) (e3 : s'.swept = s.swept)
    (x : Value) (hx : x = p.1 ∨ x = p.2) (hg : w.grownBy w' x.ownBlock)
    (hl : (x = p.1 ∧ s'.ptrs = s.ptrs ∧ w'.ownsRow base 3 1 p.1 s'.lens.length (s'.lens.map (Value.int .i64))) ∨ (x = p.2 ∧ s'.lens = s.lens ∧ w'.ownsRow base 3 1 p.2 s'.ptrs.length (s'.ptrs.map (Value.int .i64)))) :
    OwnS w' base v (L.set i s') sv := by
  have hlt := (List.getElem?_eq_some_iff.1 hs).1
  have hi := h.inner i s p hs hp
  obtain ⟨A, B, hab, hq⟩ := svInts_at sv i p hp
  rw [hab] at ha
  have hc : Chg (x.ownBlock.toList) w w' := Chg.of_grown hg fun y hy => by rw [hy]; simp
  have hxo : ∃ m xs, w.ownsRow base 3 1 x m xs := by
    rcases hx with rfl | rfl
    · exact ⟨_, _, hi.1⟩
    · exact ⟨_, _, hi.2⟩
  obtain ⟨m, xs, hxo⟩ := hxo
  refine ⟨?_, by rw [List.length_set]; exact h.len, fun j t q ht hjq => ?_⟩
  · rw [List.length_set, flatV_same L sv i s s' hs e0 e1 e2 e3]
    refine own_chg h.row hc fun k hk hm => ?_
    cases hxb : x.ownBlock with
    | none => rw [hxb] at hm; simp at hm
    | some c =>
      rw [hxb] at hm
      simp at hm
      subst hm
      exact own_types hxo h.row (by decide) k hxb hk
  · by_cases e : j = i
    · subst e
      simp [hlt] at ht
      subst ht
      rw [hp] at hjq
      cases hjq
      rcases hl with ⟨rfl, ep, ho⟩ | ⟨rfl, el, ho⟩
      · refine ⟨ho, ?_⟩
        rw [ep]
        refine own_chg hi.2 hc fun k hk hm => ?_
        cases hxb : p.1.ownBlock with
        | none => rw [hxb] at hm; simp at hm
        | some c => rw [hxb] at hm; simp at hm; subst hm; exact (apart_at ha).2 hk |>.1 hxb
      · refine ⟨?_, ho⟩
        rw [el]
        refine own_chg hi.1 hc fun k hk hm => ?_
        cases hxb : p.2.ownBlock with
        | none => rw [hxb] at hm; simp at hm
        | some c => rw [hxb] at hm; simp at hm; subst hm; exact (apart_at ha).1 hk |>.1 hxb
    · rw [List.getElem?_set_ne (fun h => e h.symm)] at ht
      have hij := h.inner j t q ht hjq
      have hne := hq j q e hjq
      have ne : ∀ y, y ∈ A ∨ y ∈ B → ∀ k, y.ownBlock = some k → k ∉ x.ownBlock.toList := fun y hy k hk hm => by
        cases hxb : x.ownBlock with
        | none => rw [hxb] at hm; simp at hm
        | some c =>
          rw [hxb] at hm
          simp at hm
          subst hm
          rcases hx with rfl | rfl
          · exact ((apart_at ha).1 hxb).2 y hy hk
          · exact ((apart_at ha).2 hxb).2 y hy hk
      exact ⟨own_chg hij.1 hc (ne q.1 hne.1), own_chg hij.2 hc (ne q.2 hne.2)⟩
end

theorem OwnS.len_eq {w : World} {base g n cap : Nat} {L : List SpanD} {sv : List (Value × Value)} (h : OwnS w base (.slice (some ⟨g, 0, none⟩) n cap) L sv) : n = L.length := by
  rcases h.row.2 with ⟨hv, _⟩ | ⟨g', cap', cur, hv, _⟩
  · simp at hv
  · simp at hv; omega
theorem OwnS.cellOf {w : World} {base g n cap : Nat} {L : List SpanD} {sv : List (Value × Value)} (h : OwnS w base (.slice (some ⟨g, 0, none⟩) n cap) L sv) (i : Nat) (s : SpanD) (p : Value × Value) (hs : L[i]? = some s) (hp : sv[i]? = some p) (j : Nat) (hj : j < 6) :
    w.cell? ⟨g, i * 6 + j, none⟩ = (spanCv s p)[j]? := by
  have hlt := (List.getElem?_eq_some_iff.1 hs).1
  obtain rfl := h.len_eq
  have hrow := h.row
  rw [hrow.cellAt (i * 6 + j) (by omega), flatV_at _ sv i s p hs hp j hj]
theorem OwnS.frz {w : World} {base g n cap : Nat} {L : List SpanD} {sv : List (Value × Value)} (h : OwnS w base (.slice (some ⟨g, 0, none⟩) n cap) L sv) (j : Nat) : w.frozen? ⟨g, j, none⟩ = false := by
  obtain rfl := h.len_eq
  exact h.row.frozenAt j
theorem set_at {α : Type} {L : List α} {i : Nat} {s t : α} (h : L[i]? = some s) : (L.set i t)[i]? = some t := by
  have := (List.getElem?_eq_some_iff.1 h).1
  simp [this]
theorem markSpan_eq (s : SpanD) (k : Int) : markSpan s k = ⟨k, k + 1, k + 1 + 1, (k + 1 + 1 + 1) % 3 == 0, seqL (k + 1 + 1 + 1 + 1) s.lens.length, seqL (k + 1 + 1 + 1 + 1 + (s.lens.length : Int)) s.ptrs.length⟩ := by
  unfold markSpan
  rw [show k + 1 + 1 = k + 2 by omega, show k + 2 + 1 = k + 3 by omega, show k + 3 + 1 = k + 4 by omega]
theorem spanEnd_eq (s : SpanD) (k : Int) : spanEnd s k = k + 1 + 1 + 1 + 1 + (s.lens.length : Int) + (s.ptrs.length : Int) := by unfold spanEnd; omega

set_option maxRecDepth 100000 in
set_option maxHeartbeats 8000000 in
theorem markSpanS_any (base : Nat) (v : Value) (k : Int) (L : List SpanD) (sv : List (Value × Value)) (ha : Apart (svInts sv)) (hk0 : 0 ≤ k) (hk : k + 4 * (L.length : Int) + (bulkS L : Int) ≤ 100000000000) (w : World) (h : OwnS w base v L sv) :
    Calls Try.prog 31 #[v, .int .i64 k] w fun e w' => e = .returned (.int .i64 (markUp L k L.length).2) ∧ OwnS w' base v (markUp L k L.length).1 sv ∧ Chg (v.ownBlock.toList ++ (svInts sv).filterMap Value.ownBlock) w w' := by
  have hv := h.row.2
  rcases hv with ⟨rfl, h0⟩ | ⟨g, cap, cur, rfl, hb, _, _, hcap, _, _⟩
  · obtain rfl : L = [] := List.length_eq_zero_iff.1 h0
    have h' := Lib.hid h
    clear h ha
    go_enter Try.func31, Try.ntmps31
    go_wp2_with fail
    go_loop [1, 5] (fun q i => q = .int .i64 k ∧ i = .int .i64 0) (fun q i => 0)
    case atStart => exact ⟨rfl, rfl⟩
    case round =>
      obtain ⟨rfl, rfl⟩ := hrel
      go_wp2_with fail
      go_ret
      exact ⟨rfl, h'.out, Chg.refl _ _⟩
  · have hK := Lib.hid (markUp_k L k)
    have ha' := Lib.hid ha
    have h' := Lib.hid h
    have hlen := h.len
    have hbl : L.length ≤ 100000000000 := by omega
    clear h ha
    go_enter Try.func31, Try.ntmps31
    go_wp2_with fail
    go_loopw [1, 5] (fun q i wr => ∃ i' : Nat, i' ≤ L.length ∧ q = .int .i64 (markUp L k i').2 ∧ i = .int .i64 i' ∧ Hid (OwnS wr base (.slice (some ⟨g, 0, none⟩) L.length cap) (markUp L k i').1 sv) ∧ Chg ([g] ++ (svInts sv).filterMap Value.ownBlock) w wr) (fun q i _ => L.length - (intOf i).toNat)
    case atStart => exact ⟨0, Nat.zero_le _, rfl, rfl, h'.out, Chg.refl _ _⟩
    case round =>
      obtain ⟨i, hi, rfl, rfl, hown, hch⟩ := hrel
      by_cases hlt : i < L.length
      · obtain ⟨s, hs⟩ : ∃ s, L[i]? = some s := ⟨_, List.getElem?_eq_getElem hlt⟩
        obtain ⟨p, hp⟩ : ∃ p, sv[i]? = some p := ⟨_, List.getElem?_eq_getElem (by omega)⟩
        have hst := Lib.hid (markUp_step L k i s hs)
        have hX := Lib.hid ((markUp_later L k i i (Nat.le_refl _)).trans hs)
        have hXl := Lib.hid (markUp_len L k i)
        have hKi := hK.out i hi
        have hKb := bulkS_take L i s hs
        have hKl := bulkS_le L (i + 1)
        have hkk0 : 0 ≤ (markUp L k i).2 := by omega
        have hkk1 : (markUp L k i).2 + 4 + (s.lens.length : Int) + (s.ptrs.length : Int) ≤ 100000000000 := by
          simp only [SpanD.bulk] at hKb
          omega
        have hrow := hown.out.row
        have hrl := hXl.out
        have hlt1 : (i : Int) < (L.length : Int) := by omega
        have hs' := Lib.hid hs
        have hp' := Lib.hid hp
        have cellOf : ∀ j, j < 6 → ∃ u, wr.cell? ⟨g, i * 6 + j, none⟩ = some u := fun j hj => by
          have hl := hrow.1
          rw [hrl] at hl hrow
          rw [hrow.cellAt (i * 6 + j) (by omega), List.getElem?_eq_getElem (by omega)]
          exact ⟨_, rfl⟩
        obtain ⟨u0, y0⟩ := cellOf 0 (by omega)
        obtain ⟨u1, y1⟩ := cellOf 1 (by omega)
        obtain ⟨u2, y2⟩ := cellOf 2 (by omega)
        obtain ⟨u3, y3⟩ := cellOf 3 (by omega)
        rw [Nat.add_zero] at y0
        have frz : ∀ j, wr.frozen? ⟨g, j, none⟩ = false := fun j => by
          rw [hrl] at hrow
          exact hrow.frozenAt j
        have z0 := frz (i * 6)
        have z1 := frz (i * 6 + 1)
        have z2 := frz (i * 6 + 2)
        have z3 := frz (i * 6 + 3)
        have y4 : wr.cell? ⟨g, i * 6 + 4, none⟩ = some p.1 := by
          rw [hrl] at hrow
          rw [hrow.cellAt (i * 6 + 4) (by omega), flatV_at _ sv i s p hX.out hp 4 (by omega)]
          rfl
        clear cellOf frz hrow hrl hs hp hKi hKb hKl
        generalize hkk : (markUp L k i).2 = kk at *
        have hkk' := Lib.hid hkk
        clear hkk
        have hd := Lib.hid (hown.out.heads i s ⟨kk, kk + 1, kk + 1 + 1, (kk + 1 + 1 + 1) % 3 == 0, s.lens, s.ptrs⟩ p hX.out hp'.out rfl rfl)
        have hc1 := Lib.hid (hd.out.1.inner i _ p (set_at hX.out) hp'.out).1
        have hg := Lib.hid (show ∀ (w' : World) (bs : List Nat), Chg bs wr w' → (∀ x, x ∈ bs → x ∈ [g] ++ (svInts sv).filterMap Value.ownBlock) → Chg ([g] ++ (svInts sv).filterMap Value.ownBlock) w w' from fun _ _ h1 h2 => hch.trans (h1.mono h2))
        have hin := Lib.hid (show ∀ (x : Value) (b : Nat), (x = p.1 ∨ x = p.2) → x.ownBlock = some b → b ∈ [g] ++ (svInts sv).filterMap Value.ownBlock from fun x b hx hb => by
          have hm := List.mem_of_getElem? hp'.out
          refine List.mem_append.2 (.inr (List.mem_filterMap.2 ⟨x, List.mem_flatMap.2 ⟨p, hm, ?_⟩, hb⟩))
          rcases hx with rfl | rfl <;> simp)
        have hX' := Lib.hid (set_at (t := (⟨kk, kk + 1, kk + 1 + 1, (kk + 1 + 1 + 1) % 3 == 0, s.lens, s.ptrs⟩ : SpanD)) hX.out)
        have hms := Lib.hid (markSpan_eq s kk)
        have hme := Lib.hid (spanEnd_eq s kk)
        clear hown hch
        have hll : s.lens.length ≤ 100000000000 := by omega
        have hpl : s.ptrs.length ≤ 100000000000 := by omega
        go_wp2_with fail
        refine (markIntS_any base p.1 (kk + 1 + 1 + 1 + 1) s.lens (by omega) (by omega) (by omega) _ hc1.out).mono ?_
        rintro e w5 ⟨rfl, o5, g5⟩
        have h5 := Lib.hid (hd.out.1.lists ha'.out i _ ⟨kk, kk + 1, kk + 1 + 1, (kk + 1 + 1 + 1) % 3 == 0, seqL (kk + 1 + 1 + 1 + 1) s.lens.length, s.ptrs⟩ p hX'.out hp'.out rfl rfl rfl rfl p.1 (.inl rfl) g5 (.inl ⟨rfl, rfl, by rw [seqL_length]; exact o5⟩))
        have c5 := Lib.hid (Chg.of_grown g5 (bs := p.1.ownBlock.toList) fun y hy => by rw [hy]; simp)
        rw [List.set_set] at h5
        have hX5 := Lib.hid (set_at (t := (⟨kk, kk + 1, kk + 1 + 1, (kk + 1 + 1 + 1) % 3 == 0, seqL (kk + 1 + 1 + 1 + 1) s.lens.length, s.ptrs⟩ : SpanD)) hX.out)
        have y5 : w5.cell? ⟨g, i * 6 + 5, none⟩ = some p.2 := (h5.out.cellOf i _ p hX5.out hp'.out 5 (by omega)).trans rfl
        have hc2 := Lib.hid (h5.out.inner i _ p hX5.out hp'.out).2
        clear o5 g5 y0 y1 y2 y3 y4 z0 z1 z2 z3
        go_wp2_with fail
        refine (markIntS_any base p.2 (kk + 1 + 1 + 1 + 1 + (s.lens.length : Int)) s.ptrs (by omega) (by omega) (by omega) _ hc2.out).mono ?_
        rintro e w6 ⟨rfl, o6, g6⟩
        have h6 := Lib.hid (h5.out.lists ha'.out i _ (markSpan s kk) p hX5.out hp'.out (by rw [hms.out]) (by rw [hms.out]) (by rw [hms.out]) (by rw [hms.out]) p.2 (.inr rfl) g6 (.inr ⟨rfl, by rw [hms.out], by rw [hms.out]; simp only [seqL_length]; exact o6⟩))
        have c6 := Lib.hid (Chg.of_grown g6 (bs := p.2.ownBlock.toList) fun y hy => by rw [hy]; simp)
        rw [List.set_set] at h6
        have hall := Lib.hid (hg.out _ _ ((hd.out.2.mono (cs := [g] ++ (svInts sv).filterMap Value.ownBlock) (fun x hx => by simp at hx; subst hx; simp)).trans ((c5.out.mono (cs := [g] ++ (svInts sv).filterMap Value.ownBlock) (fun x hx => hin.out p.1 x (.inl rfl) (by simpa using hx))).trans (c6.out.mono (cs := [g] ++ (svInts sv).filterMap Value.ownBlock) (fun x hx => hin.out p.2 x (.inr rfl) (by simpa using hx))))) (fun x hx => hx))
        clear o6 g6 y5
        go_wp2_with fail
        go_roundw
        case rel => exact ⟨i + 1, by omega, by rw [hst.out, hme.out], by go_num, by rw [hst.out]; exact h6, hall.out⟩
        case measure => simp [intOf]; omega
      · obtain rfl : i = L.length := by omega
        go_wp2_with fail
        go_ret
        exact ⟨rfl, hown.out, hch⟩
end Go.Proofs.Ytnmgecplagekcaa
