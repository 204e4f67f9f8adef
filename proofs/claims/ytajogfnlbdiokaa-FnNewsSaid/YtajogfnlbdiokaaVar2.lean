/-
  A World in a variable: one cell of a span, of its lists, of a user's roots is set.
-/
import Derived.Test.YtajogfnlbdiokaaVar
namespace Go.Proofs.Ytajogfnlbdiokaa
open Go.RowKit
set_option linter.unusedVariables false

theorem flatV_set1 (L : List SpanD) (sv : List (Value × Value)) (i j : Nat) (s s' : SpanD) (p : Value × Value) (u : Value) (h1 : L[i]? = some s) (h2 : sv[i]? = some p) (hj : j < 6) (he : (spanCv s p).set j u = spanCv s' p) :
    (flatV L sv).set (i * 6 + j) u = flatV (L.set i s') sv := by
  induction i generalizing L sv with
  | zero =>
    cases L with
    | nil => simp at h1
    | cons a L =>
      cases sv with
      | nil => simp at h2
      | cons q sv =>
        simp at h1 h2
        subst h1; subst h2
        simp only [flatV, List.zip_cons_cons, List.flatMap_cons, List.set_cons_zero]
        rw [List.set_append_left _ _ (by simp [spanCv]; omega), Nat.zero_mul, Nat.zero_add, he]
  | succ i ih =>
    cases L with
    | nil => simp at h1
    | cons a L =>
      cases sv with
      | nil => simp at h2
      | cons q sv =>
        simp at h1 h2
        have := ih L sv h1 h2
        simp only [flatV, List.zip_cons_cons, List.flatMap_cons, List.set_cons_succ] at this ⊢
        rw [← this, List.set_append_right _ _ (by simp [spanCv]; omega)]
        rw [show (i + 1) * 6 + j - (spanCv a q).length = i * 6 + j by simp [spanCv]; omega]

section
variable {w w' : World} {base B : Nat} {S : Shape} {D : WD}
/-- One of a span's own cells is set. -/
theorem OwnS.head1 {v : Value} {L : List SpanD} {sv : List (Value × Value)} {g cap : Nat} (h : OwnS w base (.slice (some ⟨g, 0, none⟩) L.length cap) L sv) (i j : Nat) (s s' : SpanD) (p : Value × Value) (u : Value) (hs : L[i]? = some s) (hp : sv[i]? = some p) (hj : j < 4)
    (he : (spanCv s p).set j u = spanCv s' p) (el : s'.lens = s.lens) (ep : s'.ptrs = s.ptrs) :
    OwnS (w.setCell ⟨g, i * 6 + j, none⟩ u) base (.slice (some ⟨g, 0, none⟩) L.length cap) (L.set i s') sv ∧ Chg [g] w (w.setCell ⟨g, i * 6 + j, none⟩ u) := by
  have c := Chg.of_grown (grown_set w g (i * 6 + j) u) (bs := [g]) (by simp)
  refine ⟨⟨?_, by rw [List.length_set]; exact h.len, fun q t r ht hq => ?_⟩, c⟩
  · have hst := h.row.stored (i * 6 + j) u
    rw [flatV_set1 L sv i j s s' p u hs hp (by omega) he] at hst
    rw [List.length_set]
    exact hst.1
  · have hlt := (List.getElem?_eq_some_iff.1 hs).1
    have key : ∃ t0, L[q]? = some t0 ∧ t.lens = t0.lens ∧ t.ptrs = t0.ptrs := by
      by_cases e : q = i
      · subst e
        simp [hlt] at ht
        subst ht
        exact ⟨s, hs, el, ep⟩
      · rw [List.getElem?_set_ne (fun h => e h.symm)] at ht
        exact ⟨t, ht, rfl, rfl⟩
    obtain ⟨t0, h0, e1, e2⟩ := key
    rw [e1, e2]
    have hi := h.inner q t0 r h0 hq
    have ne : ∀ {size m : Nat} {x : Value} {xs : List Value}, w.ownsRow base 3 size x m xs → ∀ k, x.ownBlock = some k → k ∉ [g] := fun hx k hk => by
      have := own_types hx h.row (by decide) k hk
      simp only [List.mem_singleton]
      intro e
      subst e
      exact this rfl
    exact ⟨own_chg hi.1 c (ne hi.1), own_chg hi.2 c (ne hi.2)⟩
theorem VarW.head (h : VarW w base B S D) {g cap : Nat} (hg : S.vs = .slice (some ⟨g, 0, none⟩) D.spans.length cap) (i j : Nat) (s s' : SpanD) (p : Value × Value) (u : Value) (hs : D.spans[i]? = some s) (hp : S.sv[i]? = some p) (hj : j < 4)
    (he : (spanCv s p).set j u = spanCv s' p) (el : s'.lens = s.lens) (ep : s'.ptrs = s.ptrs) :
    VarW (w.setCell ⟨g, i * 6 + j, none⟩ u) base B S { D with spans := D.spans.set i s' } ∧ Below base w (w.setCell ⟨g, i * 6 + j, none⟩ u) := by
  have ho := h.own.ownS
  rw [hg] at ho
  have hst := ho.head1 (v := S.vs) i j s s' p u hs hp hj he el ep
  refine h.putSpans (L := D.spans.set i s') (hst.2.mono fun x hx => ?_) (by rw [hg]; exact hst.1)
  rw [List.mem_singleton.1 hx]
  exact List.mem_filterMap.2 ⟨S.vs, by simp, by rw [hg]; rfl⟩
theorem VarW.mark (h : VarW w base B S D) {g cap : Nat} (hg : S.vs = .slice (some ⟨g, 0, none⟩) D.spans.length cap) (i : Nat) (s : SpanD) (p : Value × Value) (m : Int) (hs : D.spans[i]? = some s) (hp : S.sv[i]? = some p) :
    VarW (w.setCell ⟨g, i * 6 + 2, none⟩ (.int .i64 m)) base B S { D with spans := D.spans.set i { s with mark := m } } ∧ Below base w (w.setCell ⟨g, i * 6 + 2, none⟩ (.int .i64 m)) :=
  h.head hg i 2 s _ p _ hs hp (by omega) rfl rfl rfl
theorem VarW.swept (h : VarW w base B S D) {g cap : Nat} (hg : S.vs = .slice (some ⟨g, 0, none⟩) D.spans.length cap) (i : Nat) (s : SpanD) (p : Value × Value) (m : Bool) (hs : D.spans[i]? = some s) (hp : S.sv[i]? = some p) :
    VarW (w.setCell ⟨g, i * 6 + 3, none⟩ (.bool m)) base B S { D with spans := D.spans.set i { s with swept := m } } ∧ Below base w (w.setCell ⟨g, i * 6 + 3, none⟩ (.bool m)) :=
  h.head hg i 3 s _ p _ hs hp (by omega) rfl rfl rfl
theorem VarW.svAt (h : VarW w base B S D) {i : Nat} {s : SpanD} (hs : D.spans[i]? = some s) : ∃ p, S.sv[i]? = some p :=
  ⟨_, List.getElem?_eq_getElem (by have := h.own.svl; have := (List.getElem?_eq_some_iff.1 hs).1; omega)⟩
theorem chg_x {x : Value} {g cap n i : Nat} {u : Value} (hx : x = .slice (some ⟨g, 0, none⟩) n cap) : w.grownBy (w.setCell ⟨g, i, none⟩ u) x.ownBlock := by
  rw [hx]
  exact grown_set w g i u
theorem VarW.lens (h : VarW w base B S D) {g cap : Nat} (k i : Nat) (s : SpanD) (p : Value × Value) (x : Int) (hs : D.spans[k]? = some s) (hp : S.sv[k]? = some p) (hg : p.1 = .slice (some ⟨g, 0, none⟩) s.lens.length cap) :
    VarW (w.setCell ⟨g, i, none⟩ (.int .i64 x)) base B S { D with spans := D.spans.set k { s with lens := s.lens.set i x } } ∧ Below base w (w.setCell ⟨g, i, none⟩ (.int .i64 x)) := by
  have ho := h.own.ownS
  have hi := (ho.inner k s p hs hp).1
  rw [hg] at hi
  have hst := hi.stored i (.int .i64 x)
  have hr := ho.lists h.own.parts.sv k s { s with lens := s.lens.set i x } p hs hp rfl rfl rfl rfl p.1 (.inl rfl) (chg_x hg) (.inl ⟨rfl, rfl, by rw [hg, List.length_set, List.map_set]; exact hst.1⟩)
  refine h.putSpans (L := D.spans.set k _) (Chg.of_grown (chg_x (u := .int .i64 x) (i := i) hg) fun y hy => ?_) hr
  exact List.mem_filterMap.2 ⟨p.1, List.mem_cons_of_mem _ (List.mem_flatMap.2 ⟨p, List.mem_of_getElem? hp, by simp⟩), hy⟩
theorem VarW.ptrs (h : VarW w base B S D) {g cap : Nat} (k i : Nat) (s : SpanD) (p : Value × Value) (x : Int) (hs : D.spans[k]? = some s) (hp : S.sv[k]? = some p) (hg : p.2 = .slice (some ⟨g, 0, none⟩) s.ptrs.length cap) :
    VarW (w.setCell ⟨g, i, none⟩ (.int .i64 x)) base B S { D with spans := D.spans.set k { s with ptrs := s.ptrs.set i x } } ∧ Below base w (w.setCell ⟨g, i, none⟩ (.int .i64 x)) := by
  have ho := h.own.ownS
  have hi := (ho.inner k s p hs hp).2
  rw [hg] at hi
  have hst := hi.stored i (.int .i64 x)
  have hr := ho.lists h.own.parts.sv k s { s with ptrs := s.ptrs.set i x } p hs hp rfl rfl rfl rfl p.2 (.inr rfl) (chg_x hg) (.inr ⟨rfl, rfl, by rw [hg, List.length_set, List.map_set]; exact hst.1⟩)
  refine h.putSpans (L := D.spans.set k _) (Chg.of_grown (chg_x (u := .int .i64 x) (i := i) hg) fun y hy => ?_) hr
  exact List.mem_filterMap.2 ⟨p.2, List.mem_cons_of_mem _ (List.mem_flatMap.2 ⟨p, List.mem_of_getElem? hp, by simp⟩), hy⟩
theorem head_of {v : Value} {L : List Int} (h : w.ownsRow base 3 1 v L.length (L.map (Value.int .i64))) (hl : 0 < L.length) : ∃ g cap, v = .slice (some ⟨g, 0, none⟩) L.length cap := by
  rcases h.2 with ⟨_, h0⟩ | ⟨g, cap, cur, e, _⟩
  · omega
  · exact ⟨g, cap, e⟩
/-- A user's root is set. -/
theorem VarW.root (h : VarW w base B S D) {g cap : Nat} (m i : Nat) (r : List Int) (u : Value) (x : Int) (hs : D.muts[m]? = some r) (hp : S.mv[m]? = some u) (hg : u = .slice (some ⟨g, 0, none⟩) r.length cap) :
    VarW (w.setCell ⟨g, i, none⟩ (.int .i64 x)) base B S { D with muts := D.muts.set m (r.set i x) } ∧ Below base w (w.setCell ⟨g, i, none⟩ (.int .i64 x)) := by
  have ho := h.own.ownM
  have hi := ho.inner m r u hs hp
  rw [hg] at hi
  have hst := hi.stored i (.int .i64 x)
  have hr := ho.list h.own.parts.mv m r (r.set i x) u hs hp (chg_x hg) (by rw [hg, List.length_set, List.map_set]; exact hst.1)
  refine h.putMuts (L := D.muts.set m _) (Chg.of_grown (chg_x (u := .int .i64 x) (i := i) hg) fun y hy => ?_) hr
  exact List.mem_filterMap.2 ⟨u, List.mem_cons_of_mem _ (List.mem_of_getElem? hp), hy⟩

/-- Blocks of a span's lists, of the spans, of the variable: no two are one. -/
theorem VarW.nes (h : VarW w base B S D) {gs cs gl cl gp cp : Nat} {k : Nat} {s : SpanD} {p : Value × Value} (hg : S.vs = .slice (some ⟨gs, 0, none⟩) D.spans.length cs) (hs : D.spans[k]? = some s) (hp : S.sv[k]? = some p)
    (h1 : p.1 = .slice (some ⟨gl, 0, none⟩) s.lens.length cl) (h2 : p.2 = .slice (some ⟨gp, 0, none⟩) s.ptrs.length cp) : gl ≠ gs ∧ gp ≠ gs ∧ gl ≠ gp ∧ B ≠ gs ∧ B ≠ gl ∧ B ≠ gp := by
  have hi := h.own.inner k s p hs hp
  have hr := h.own.spans
  rw [hg] at hr
  rw [h1, h2] at hi
  have hm := List.mem_of_getElem? hp
  have n1 : gl ≠ gs := fun e => own_types hi.1 hr (by decide) gl rfl (by rw [e]; rfl)
  have n2 : gp ≠ gs := fun e => own_types hi.2 hr (by decide) gp rfl (by rw [e]; rfl)
  have n3 : gl ≠ gp := by
    obtain ⟨A, C, hab, _⟩ := svInts_at S.sv k p hp
    have ha := h.own.parts.sv
    rw [hab] at ha
    intro e
    exact ((apart_at ha (k := gl)).1 (by rw [h1]; rfl)).1 (by rw [h2, e]; rfl)
  have inS : ∀ x, x ∈ S.all → ∀ q, x.ownBlock = some q → B ≠ q := fun x hx q hq e => h.ne (by rw [e]; exact List.mem_filterMap.2 ⟨x, hx, hq⟩)
  have mS : ∀ x, x = p.1 ∨ x = p.2 → x ∈ S.all := fun x hx => by
    have : x ∈ svInts S.sv := List.mem_flatMap.2 ⟨p, hm, by rcases hx with rfl | rfl <;> simp⟩
    simp [Shape.all, this]
  exact ⟨n1, n2, n3, inS S.vs (by simp [Shape.all]) gs (by rw [hg]; rfl), inS p.1 (mS _ (.inl rfl)) gl (by rw [h1]; rfl), inS p.2 (mS _ (.inr rfl)) gp (by rw [h2]; rfl)⟩

/-- The cells that a walk reads of span k. -/
theorem VarW.spanAt (h : VarW w base B S D) {g cap : Nat} (hg : S.vs = .slice (some ⟨g, 0, none⟩) D.spans.length cap) {k : Nat} {s : SpanD} {p : Value × Value} (hs : D.spans[k]? = some s) (hp : S.sv[k]? = some p) (j : Nat) (hj : j < 6) :
    w.cell? ⟨g, k * 6 + j, none⟩ = (spanCv s p)[j]? := by
  have ho := h.own.ownS
  rw [hg] at ho
  exact ho.cellOf k s p hs hp j hj
theorem VarW.six (h : VarW w base B S D) {g cap : Nat} (hg : S.vs = .slice (some ⟨g, 0, none⟩) D.spans.length cap) {k : Nat} {s : SpanD} {p : Value × Value} (hs : D.spans[k]? = some s) (hp : S.sv[k]? = some p) :
    w.cell? ⟨g, k * 6, none⟩ = some (.int .i64 s.page) ∧ w.cell? ⟨g, k * 6 + 1, none⟩ = some (.int .i64 s.cls) ∧ w.cell? ⟨g, k * 6 + 2, none⟩ = some (.int .i64 s.mark) ∧ w.cell? ⟨g, k * 6 + 3, none⟩ = some (.bool s.swept) ∧ w.cell? ⟨g, k * 6 + 4, none⟩ = some p.1 ∧ w.cell? ⟨g, k * 6 + 5, none⟩ = some p.2 :=
  ⟨h.spanAt hg hs hp 0 (by omega), h.spanAt hg hs hp 1 (by omega), h.spanAt hg hs hp 2 (by omega), h.spanAt hg hs hp 3 (by omega), h.spanAt hg hs hp 4 (by omega), h.spanAt hg hs hp 5 (by omega)⟩
theorem VarW.frzS (h : VarW w base B S D) {g cap : Nat} (hg : S.vs = .slice (some ⟨g, 0, none⟩) D.spans.length cap) (j : Nat) : w.frozen? ⟨g, j, none⟩ = false := by
  have ho := h.own.ownS
  rw [hg] at ho
  exact ho.frz j
theorem ints_cell {v : Value} {L : List Int} {g cap : Nat} (h : w.ownsRow base 3 1 v L.length (L.map (Value.int .i64))) (hv : v = .slice (some ⟨g, 0, none⟩) L.length cap) (i : Nat) (hi : i < L.length) :
    w.cell? ⟨g, i, none⟩ = some (.int .i64 (L[i]?.getD 0)) ∧ w.frozen? ⟨g, i, none⟩ = false := by
  subst hv
  refine ⟨?_, h.frozenAt i⟩
  rw [h.cellAt i (by omega)]
  simp [hi]
end
end Go.Proofs.Ytajogfnlbdiokaa
