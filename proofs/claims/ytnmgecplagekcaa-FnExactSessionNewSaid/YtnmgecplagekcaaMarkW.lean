/-
  The contracts of the laws' 'markWorld', 'heldWorld'.
-/
import Derived.Test.YtnmgecplagekcaaHeld
namespace Go.Proofs.Ytnmgecplagekcaa
open Go.RowKit
set_option linter.unusedVariables false

/-- No block of A is one of B. -/
def Dis (A B : List Value) : Prop := ∀ x, x ∈ A → ∀ y, y ∈ B → ∀ k, x.ownBlock = some k → y.ownBlock ≠ some k
theorem Dis.symm {A B : List Value} (h : Dis A B) : Dis B A := fun x hx y hy k h1 h2 => h y hy x hx k h2 h1
theorem dis_of_nodup {A B X : List Value} (h : (X.filterMap Value.ownBlock).Nodup) (hs : (A ++ B).Sublist X) : Dis A B := by
  have h' := h.sublist (hs.filterMap Value.ownBlock)
  rw [List.filterMap_append, List.nodup_append] at h'
  intro x hx y hy k h1 h2
  exact h'.2.2 k (List.mem_filterMap.2 ⟨x, hx, h1⟩) k (List.mem_filterMap.2 ⟨y, hy, h2⟩) rfl
theorem Dis.cons_left {A B : List Value} {a : Value} (h1 : Dis [a] B) (h2 : Dis A B) : Dis (a :: A) B := by
  intro x hx y hy
  rcases List.mem_cons.1 hx with rfl | hx
  · exact h1 x (by simp) y hy
  · exact h2 x hx y hy
theorem Dis.cons_right {A B : List Value} {b : Value} (h1 : Dis A [b]) (h2 : Dis A B) : Dis A (b :: B) := (h1.symm.cons_left h2.symm).symm
/-- The blocks of these values. -/
def blks (A : List Value) : List Nat := A.filterMap Value.ownBlock
theorem Dis.not_mem {A B : List Value} (h : Dis A B) {x : Value} (hx : x ∈ A) {k : Nat} (hk : x.ownBlock = some k) : k ∉ blks B := fun hm => by
  obtain ⟨y, hy, e⟩ := List.mem_filterMap.1 hm
  exact h x hx y hy k hk e
def Typ (w : World) (x : Value) (t : TypeId) : Prop := ∃ b size n xs, w.ownsRow b t size x n xs
theorem Typ.dis {w : World} {A B : List Value} {t t' : TypeId} (ha : ∀ x, x ∈ A → Typ w x t) (hb : ∀ x, x ∈ B → Typ w x t') (hne : t ≠ t') : Dis A B := by
  intro x hx y hy k h1
  obtain ⟨_, _, _, _, r1⟩ := ha x hx
  obtain ⟨_, _, _, _, r2⟩ := hb y hy
  exact own_types r1 r2 hne k h1

section
variable {w : World} {base : Nat} {S : Shape} {D : WD}
theorem OwnW.ownS (h : OwnW w base S D) : OwnS w base S.vs D.spans S.sv := ⟨h.spans, h.svl, h.inner⟩
theorem OwnW.ownM (h : OwnW w base S D) : OwnM w base S.vm D.muts S.mv := ⟨h.muts, h.mvl, h.innerM⟩
theorem OwnW.tS (h : OwnW w base S D) : ∀ x, x ∈ svInts S.sv → Typ w x 3 := by
  intro x hx
  obtain ⟨p, hp, hx⟩ := List.mem_flatMap.1 hx
  obtain ⟨i, hi⟩ := List.mem_iff_getElem?.1 hp
  have hlt := (List.getElem?_eq_some_iff.1 hi).1
  obtain ⟨s, hs⟩ : ∃ s, D.spans[i]? = some s := ⟨_, List.getElem?_eq_getElem (by have := h.svl; omega)⟩
  have := h.inner i s p hs hi
  simp at hx
  rcases hx with rfl | rfl
  · exact ⟨_, _, _, _, this.1⟩
  · exact ⟨_, _, _, _, this.2⟩
theorem OwnW.tM (h : OwnW w base S D) : ∀ x, x ∈ S.mv → Typ w x 3 := by
  intro x hx
  obtain ⟨i, hi⟩ := List.mem_iff_getElem?.1 hx
  have hlt := (List.getElem?_eq_some_iff.1 hi).1
  obtain ⟨s, hs⟩ : ∃ s, D.muts[i]? = some s := ⟨_, List.getElem?_eq_getElem (by have := h.mvl; omega)⟩
  exact ⟨_, _, _, _, h.innerM i s x hs hi⟩
theorem one_t {x : Value} {t : TypeId} (h : Typ w x t) : ∀ y, y ∈ [x] → Typ w y t := fun y hy => by rw [List.mem_singleton.1 hy]; exact h
structure Parts (S : Shape) : Prop where
  d01 : Dis [S.vw] [S.vd]
  d02 : Dis [S.vw] (S.vs :: svInts S.sv)
  d03 : Dis [S.vw] (S.vm :: S.mv)
  d04 : Dis [S.vw] [S.vg]
  d12 : Dis [S.vd] (S.vs :: svInts S.sv)
  d13 : Dis [S.vd] (S.vm :: S.mv)
  d14 : Dis [S.vd] [S.vg]
  d23 : Dis (S.vs :: svInts S.sv) (S.vm :: S.mv)
  d24 : Dis (S.vs :: svInts S.sv) [S.vg]
  d34 : Dis (S.vm :: S.mv) [S.vg]
  sv : Apart (svInts S.sv)
  mv : Apart S.mv
theorem OwnW.parts (h : OwnW w base S D) : Parts S := by
  have tw := one_t (show Typ w S.vw 3 from ⟨_, _, _, _, h.words⟩)
  have td := one_t (show Typ w S.vd 4 from ⟨_, _, _, _, h.dirty⟩)
  have ts := one_t (show Typ w S.vs 63 from ⟨_, _, _, _, h.spans⟩)
  have tm := one_t (show Typ w S.vm 60 from ⟨_, _, _, _, h.muts⟩)
  have tg := one_t (show Typ w S.vg 3 from ⟨_, _, _, _, h.grey⟩)
  have hS := h.tS
  have hM := h.tM
  have hn : (((([S.vw] ++ svInts S.sv) ++ S.mv) ++ [S.vg]).filterMap Value.ownBlock).Nodup := h.nodup
  have eA : ([S.vw] ++ svInts S.sv).Sublist ((([S.vw] ++ svInts S.sv) ++ S.mv) ++ [S.vg]) := (List.sublist_append_left _ _).trans (List.sublist_append_left _ _)
  have eB : (([S.vw] ++ svInts S.sv) ++ S.mv).Sublist ((([S.vw] ++ svInts S.sv) ++ S.mv) ++ [S.vg]) := List.sublist_append_left _ _
  have wM : ([S.vw] ++ S.mv).Sublist (([S.vw] ++ svInts S.sv) ++ S.mv) := List.Sublist.append (List.sublist_append_left _ _) (List.Sublist.refl _)
  have sM : (svInts S.sv ++ S.mv).Sublist (([S.vw] ++ svInts S.sv) ++ S.mv) := List.Sublist.append (List.sublist_append_right _ _) (List.Sublist.refl _)
  have wG : ([S.vw] ++ [S.vg]).Sublist ((([S.vw] ++ svInts S.sv) ++ S.mv) ++ [S.vg]) := List.Sublist.append ((List.sublist_append_left _ _).trans (List.sublist_append_left _ _)) (List.Sublist.refl _)
  have sG : (svInts S.sv ++ [S.vg]).Sublist ((([S.vw] ++ svInts S.sv) ++ S.mv) ++ [S.vg]) := List.Sublist.append ((List.sublist_append_right _ _).trans (List.sublist_append_left _ _)) (List.Sublist.refl _)
  have mG : (S.mv ++ [S.vg]).Sublist ((([S.vw] ++ svInts S.sv) ++ S.mv) ++ [S.vg]) := List.Sublist.append (List.sublist_append_right _ _) (List.Sublist.refl _)
  have s1 : (svInts S.sv).Sublist ((([S.vw] ++ svInts S.sv) ++ S.mv) ++ [S.vg]) := (List.sublist_append_left _ _).trans sG
  have m1 : S.mv.Sublist ((([S.vw] ++ svInts S.sv) ++ S.mv) ++ [S.vg]) := (List.sublist_append_left _ _).trans mG
  have ws := dis_of_nodup hn eA
  have wm := dis_of_nodup hn (wM.trans eB)
  have sm := dis_of_nodup hn (sM.trans eB)
  have wg := dis_of_nodup hn wG
  have sg := dis_of_nodup hn sG
  have mg := dis_of_nodup hn mG
  exact ⟨Typ.dis tw td (by decide), (Typ.dis tw ts (by decide)).cons_right ws, (Typ.dis tw tm (by decide)).cons_right wm, wg,
    (Typ.dis td ts (by decide)).cons_right (Typ.dis td hS (by decide)), (Typ.dis td tm (by decide)).cons_right (Typ.dis td hM (by decide)), Typ.dis td tg (by decide),
    ((Typ.dis ts tm (by decide)).cons_right (Typ.dis ts hM (by decide))).cons_left ((Typ.dis hS tm (by decide)).cons_right sm), (Typ.dis ts tg (by decide)).cons_left sg, (Typ.dis tm tg (by decide)).cons_left mg,
    hn.sublist (s1.filterMap _), hn.sublist (m1.filterMap _)⟩
/-- All blocks of a World. -/
def Shape.all (S : Shape) : List Value := [S.vw] ++ [S.vd] ++ (S.vs :: svInts S.sv) ++ (S.vm :: S.mv) ++ [S.vg]
theorem OwnW.lt (h : OwnW w base S D) : ∀ k, k ∈ blks S.all → base ≤ k ∧ k < w.heap.size := by
  intro k hk
  obtain ⟨x, hx, hxk⟩ := List.mem_filterMap.1 hk
  have hS := h.inner
  simp only [Shape.all, List.mem_append, List.mem_cons, List.not_mem_nil, or_false] at hx
  rcases hx with (((rfl | rfl) | (rfl | hx)) | (rfl | hx)) | rfl
  · exact h.words.lt k hxk
  · exact h.dirty.lt k hxk
  · exact h.spans.lt k hxk
  · obtain ⟨p, hp, hx⟩ := List.mem_flatMap.1 hx
    obtain ⟨i, hi⟩ := List.mem_iff_getElem?.1 hp
    have hlt := (List.getElem?_eq_some_iff.1 hi).1
    obtain ⟨s, hs⟩ : ∃ s, D.spans[i]? = some s := ⟨_, List.getElem?_eq_getElem (by have := h.svl; omega)⟩
    have := h.inner i s p hs hi
    simp at hx
    rcases hx with rfl | rfl
    · exact this.1.lt k hxk
    · exact this.2.lt k hxk
  · exact h.muts.lt k hxk
  · obtain ⟨i, hi⟩ := List.mem_iff_getElem?.1 hx
    have hlt := (List.getElem?_eq_some_iff.1 hi).1
    obtain ⟨s, hs⟩ : ∃ s, D.muts[i]? = some s := ⟨_, List.getElem?_eq_getElem (by have := h.mvl; omega)⟩
    exact (h.innerM i s x hs hi).lt k hxk
  · exact h.grey.lt k hxk
end

/-- A World that is marked from k on; the next mark. -/
def mk1 (D : WD) (k : Int) : Int := k + (D.words.length : Int)
def mk2 (D : WD) (k : Int) : Int := mk1 D k + (D.dirty.length : Int)
def mk3 (D : WD) (k : Int) : Int := (markUp D.spans (mk2 D k) D.spans.length).2
def mk4 (D : WD) (k : Int) : Int := (markM D.muts (mk3 D k) D.muts.length).2
def mk5 (D : WD) (k : Int) : Int := mk4 D k + (D.grey.length : Int)
def markD (D : WD) (k : Int) : WD := ⟨D.base, D.pages, seqL k D.words.length, seqB (mk1 D k) D.dirty.length, (markUp D.spans (mk2 D k) D.spans.length).1, (markM D.muts (mk3 D k) D.muts.length).1, D.phase, D.next, seqL (mk4 D k) D.grey.length⟩
/-- Not too great to be marked. -/
structure Markable (D : WD) : Prop where
  b : D.bulk + 4 * D.spans.length ≤ 10000000000
theorem mk_bd {D : WD} {k : Int} (h : Markable D) (h0 : 0 ≤ k) (h1 : k ≤ 10000000000) :
    0 ≤ mk1 D k ∧ 0 ≤ mk2 D k ∧ 0 ≤ mk3 D k ∧ 0 ≤ mk4 D k ∧ 0 ≤ mk5 D k ∧ mk1 D k ≤ 100000000000 ∧ mk2 D k + 4 * (D.spans.length : Int) + (bulkS D.spans : Int) ≤ 100000000000 ∧ mk3 D k + (bulkM D.muts : Int) ≤ 100000000000 ∧ mk4 D k ≤ 100000000000 ∧ D.words.length ≤ 100000000000 ∧ D.dirty.length ≤ 100000000000 ∧ D.muts.length ≤ 100000000000 ∧ D.grey.length ≤ 100000000000 ∧ mk5 D k ≤ 100000000000 := by
  have hb := h.b
  have e3 : mk3 D k = mk2 D k + 4 * (D.spans.length : Int) + (bulkS D.spans : Int) := by
    unfold mk3
    rw [markUp_k D.spans _ _ (Nat.le_refl _), List.take_length]
  have e4 : mk4 D k = mk3 D k + (bulkM D.muts : Int) := by
    unfold mk4
    rw [markM_k D.muts _ _ (Nat.le_refl _), List.take_length]
  unfold WD.bulk at hb
  have e1 : mk1 D k = k + (D.words.length : Int) := rfl
  have e2 : mk2 D k = mk1 D k + (D.dirty.length : Int) := rfl
  have e5 : mk5 D k = mk4 D k + (D.grey.length : Int) := rfl
  omega

theorem chg_one {w w' : World} {x : Value} (h : w.grownBy w' x.ownBlock) : Chg (blks [x]) w w' := Chg.of_grown h fun y hy => by simp [blks, hy]
theorem sub_all {A : List Value} {S : Shape} (h : ∀ x, x ∈ A → x ∈ S.all) : ∀ k, k ∈ blks A → k ∈ blks S.all := fun k hk => by
  obtain ⟨x, hx, e⟩ := List.mem_filterMap.1 hk
  exact List.mem_filterMap.2 ⟨x, h x hx, e⟩

set_option maxRecDepth 100000 in
set_option maxHeartbeats 4000000 in
theorem markWorld_any (base : Nat) (S : Shape) (D : WD) (k : Int) (hm : Markable D) (hk0 : 0 ≤ k) (hk : k ≤ 10000000000) (w : World) (h : OwnW w base S D) :
    Calls Try.prog 14 #[S.val D, .int .i64 k] w fun e w' => e = .returned (.int .i64 (mk5 D k)) ∧ OwnW w' base S (markD D k) ∧ Chg (blks S.all) w w' := by
  obtain ⟨m1, m2, m3, m4, m5, n1, n2, n3, n4, l1, l2, l3, l4, _⟩ := mk_bd hm hk0 hk
  have P := Lib.hid h.parts
  have hlt := Lib.hid h.lt
  have hnd := Lib.hid h.nodup
  obtain ⟨vw, vd, vs, vm, vg, sv, mv⟩ := S
  unfold Shape.val
  have bb := below_box w (.cells #[.int .i64 D.base, .int .i64 D.pages, vw, vd, vs, vm, .int .i64 D.phase, .int .i64 D.next, vg] 29)
  have bn := box_new w (.cells #[.int .i64 D.base, .int .i64 D.pages, vw, vd, vs, vm, .int .i64 D.phase, .int .i64 D.next, vg] 29)
  have hz := World.size_alloc w (.cells #[.int .i64 D.base, .int .i64 D.pages, vw, vd, vs, vm, .int .i64 D.phase, .int .i64 D.next, vg] 29)
  have h' := Lib.hid (h.below bb)
  have hbox := Lib.hid (fun (wr : World) (hc : Chg (blks (Shape.mk vw vd vs vm vg sv mv).all) (w.alloc (.cells #[.int .i64 D.base, .int .i64 D.pages, vw, vd, vs, vm, .int .i64 D.phase, .int .i64 D.next, vg] 29)) wr) =>
    ((hc.block w.heap.size (by rw [hz]; omega) (fun hm => by have := (hlt.out _ hm).2; omega)).trans bn : wr.heap[w.heap.size]? = _))
  have bb' := Lib.hid bb
  clear h bb bn hz hm
  go_enter Try.func14, Try.ntmps14
  go_wp2_with fail
  generalize w.alloc (.cells #[.int .i64 D.base, .int .i64 D.pages, vw, vd, vs, vm, .int .i64 D.phase, .int .i64 D.next, vg] 29) = W at *
  refine (markIntS_any base vw k D.words (by omega) (by omega) (by omega) W h'.out.words).mono ?_
  rintro e w1 ⟨rfl, o1, g1⟩
  have c1 := chg_one g1
  have a1 := Lib.hid (c1.mono (sub_all (S := ⟨vw, vd, vs, vm, vg, sv, mv⟩) (fun x hx => by simp [Shape.all] at hx ⊢; simp [hx])))
  have wo1 := Lib.hid o1
  have di1 := Lib.hid (own_chg h'.out.dirty c1 fun q hq => P.out.d01.symm.not_mem (by simp) hq)
  have sp1 := Lib.hid (h'.out.ownS.chg c1 (fun q hq => P.out.d02.symm.not_mem (by simp) hq) (fun x hx q hq => P.out.d02.symm.not_mem (by simp [hx]) hq))
  have mu1 := Lib.hid (h'.out.ownM.chg c1 (fun q hq => P.out.d03.symm.not_mem (by simp) hq) (fun x hx q hq => P.out.d03.symm.not_mem (by simp [hx]) hq))
  have gr1 := Lib.hid (own_chg h'.out.grey c1 fun q hq => P.out.d04.symm.not_mem (by simp) hq)
  have f3 := cell_of_heap (hbox.out w1 a1.out) 3 _ rfl
  clear o1 g1 c1 h'
  go_wp2_with fail
  refine (markBoolS_any base vd (mk1 D k) D.dirty m1 (by omega) (by omega) w1 di1.out).mono ?_
  rintro e w2 ⟨rfl, o2, g2⟩
  have c2 := chg_one g2
  have a2 := Lib.hid (a1.out.trans (c2.mono (sub_all (S := ⟨vw, vd, vs, vm, vg, sv, mv⟩) (fun x hx => by simp [Shape.all] at hx ⊢; simp [hx]))))
  have di2 := Lib.hid o2
  have wo2 := Lib.hid (own_chg wo1.out c2 fun q hq => P.out.d01.not_mem (by simp) hq)
  have sp2 := Lib.hid (sp1.out.chg c2 (fun q hq => P.out.d12.symm.not_mem (by simp) hq) (fun x hx q hq => P.out.d12.symm.not_mem (by simp [hx]) hq))
  have mu2 := Lib.hid (mu1.out.chg c2 (fun q hq => P.out.d13.symm.not_mem (by simp) hq) (fun x hx q hq => P.out.d13.symm.not_mem (by simp [hx]) hq))
  have gr2 := Lib.hid (own_chg gr1.out c2 fun q hq => P.out.d14.symm.not_mem (by simp) hq)
  have f4 := cell_of_heap (hbox.out w2 a2.out) 4 _ rfl
  clear o2 g2 c2 wo1 di1 sp1 mu1 gr1 f3 a1
  go_wp2_with fail
  refine (markSpanS_any base vs (mk2 D k) D.spans sv P.out.sv m2 (by omega) w2 sp2.out).mono ?_
  rintro e w3 ⟨rfl, o3, c3'⟩
  have c3 : Chg (blks (vs :: svInts sv)) w2 w3 := c3'.mono fun x hx => by
    rw [blks, List.filterMap_cons]
    cases hv : vs.ownBlock with
    | none => rw [hv] at hx; simpa using hx
    | some c => rw [hv] at hx; simpa using hx
  have a3 := Lib.hid (a2.out.trans (c3.mono (sub_all (S := ⟨vw, vd, vs, vm, vg, sv, mv⟩) (fun x hx => by simp [Shape.all] at hx ⊢; rcases hx with hx | hx <;> simp [hx]))))
  have sp3 := Lib.hid o3
  have wo3 := Lib.hid (own_chg wo2.out c3 fun q hq => P.out.d02.not_mem (by simp) hq)
  have di3 := Lib.hid (own_chg di2.out c3 fun q hq => P.out.d12.not_mem (by simp) hq)
  have mu3 := Lib.hid (mu2.out.chg c3 (fun q hq => P.out.d23.symm.not_mem (by simp) hq) (fun x hx q hq => P.out.d23.symm.not_mem (by simp [hx]) hq))
  have gr3 := Lib.hid (own_chg gr2.out c3 fun q hq => P.out.d24.symm.not_mem (by simp) hq)
  have f5 := cell_of_heap (hbox.out w3 a3.out) 5 _ rfl
  clear o3 c3 c3' wo2 di2 sp2 mu2 gr2 f4 a2
  go_wp2_with fail
  refine (markMutS_any base vm (mk3 D k) D.muts mv P.out.mv m3 (by omega) (by omega) w3 mu3.out).mono ?_
  rintro e w4 ⟨rfl, o4, c4'⟩
  have c4 : Chg (blks (vm :: mv)) w3 w4 := c4'.mono fun x hx => by
    obtain ⟨y, hy, hyx⟩ := List.mem_filterMap.1 hx
    exact List.mem_filterMap.2 ⟨y, by simp [hy], hyx⟩
  have a4 := Lib.hid (a3.out.trans (c4.mono (sub_all (S := ⟨vw, vd, vs, vm, vg, sv, mv⟩) (fun x hx => by simp [Shape.all] at hx ⊢; rcases hx with hx | hx <;> simp [hx]))))
  have mu4 := Lib.hid o4
  have wo4 := Lib.hid (own_chg wo3.out c4 fun q hq => P.out.d03.not_mem (by simp) hq)
  have di4 := Lib.hid (own_chg di3.out c4 fun q hq => P.out.d13.not_mem (by simp) hq)
  have sp4 := Lib.hid (sp3.out.chg c4 (fun q hq => P.out.d23.not_mem (by simp) hq) (fun x hx q hq => P.out.d23.not_mem (by simp [hx]) hq))
  have gr4 := Lib.hid (own_chg gr3.out c4 fun q hq => P.out.d34.symm.not_mem (by simp) hq)
  have f6 := cell_of_heap (hbox.out w4 a4.out) 6 _ rfl
  have f7 := cell_of_heap (hbox.out w4 a4.out) 7 _ rfl
  have f8 := cell_of_heap (hbox.out w4 a4.out) 8 _ rfl
  clear o4 c4 c4' wo3 di3 sp3 mu3 gr3 f5 a3
  go_wp2_with fail
  refine (markGc_any base D.phase D.next vg (mk4 D k) D.grey m4 (by omega) (by omega) w4 gr4.out).mono ?_
  rintro e w5 ⟨rfl, o5, c5'⟩
  have c5 : Chg (blks [vg]) w4 w5 := c5'.mono fun x hx => by
    cases hv : vg.ownBlock with
    | none => rw [hv] at hx; simp at hx
    | some c => rw [hv] at hx; simp at hx; subst hx; simp [blks, hv]
  have a5 := Lib.hid (a4.out.trans (c5.mono (sub_all (S := ⟨vw, vd, vs, vm, vg, sv, mv⟩) (fun x hx => by simp [Shape.all] at hx ⊢; simp [hx]))))
  have gr5 := Lib.hid o5
  have wo5 := Lib.hid (own_chg wo4.out c5 fun q hq => P.out.d04.not_mem (by simp) hq)
  have di5 := Lib.hid (own_chg di4.out c5 fun q hq => P.out.d14.not_mem (by simp) hq)
  have sp5 := Lib.hid (sp4.out.chg c5 (fun q hq => P.out.d24.not_mem (by simp) hq) (fun x hx q hq => P.out.d24.not_mem (by simp [hx]) hq))
  have mu5 := Lib.hid (mu4.out.chg c5 (fun q hq => P.out.d34.not_mem (by simp) hq) (fun x hx q hq => P.out.d34.not_mem (by simp [hx]) hq))
  clear o5 c5 c5' wo4 di4 sp4 mu4 gr4 f6 f7 f8 a4
  go_wp2_with fail
  go_ret
  have e1 : (markD D k).spans.length = D.spans.length := markUp_len _ _ _
  have e2 : (markD D k).muts.length = D.muts.length := markM_len _ _ _
  refine ⟨rfl, ⟨?_, ?_, ?_, ?_, ?_, ?_, ?_, ?_, ?_, ?_⟩, (Chg.of_below bb'.out _).trans a5.out⟩
  · simpa [markD, seqL_length] using wo5.out
  · simpa [markD, seqB_length] using di5.out
  · exact sp5.out.row
  · exact sp5.out.len
  · exact sp5.out.inner
  · exact mu5.out.row
  · exact mu5.out.len
  · exact mu5.out.inner
  · simpa [markD, seqL_length] using gr5.out
  · exact hnd.out

set_option maxRecDepth 100000 in
set_option maxHeartbeats 4000000 in
theorem heldWorld_yes (v : Value) (D : WD) (k : Int) (hm : Markable D) (hk0 : 0 ≤ k) (hk : k ≤ 10000000000) (w : World) (hr : RdW w v (markD D k)) :
    Calls Try.prog 15 #[v, .int .i64 k] w fun e w' => e = .returned (.int .i64 (mk5 D k)) ∧ Below w.heap.size w w' := by
  obtain ⟨m1, m2, m3, m4, m5, n1, n2, n3, n4, l1, l2, l3, l4, n5⟩ := mk_bd hm hk0 hk
  obtain ⟨vw, vd, vs, vm, vg, rfl, a1, a2, a3, a4, a5⟩ := hr
  have bb := below_box w (.cells #[.int .i64 D.base, .int .i64 D.pages, vw, vd, vs, vm, .int .i64 D.phase, .int .i64 D.next, vg] 29)
  have r1 := Lib.hid (heldIntS_yes vw k D.words.length (by omega) (by omega) (by omega) _ (a1.below bb))
  have r2 := Lib.hid (heldBoolS_yes vd (mk1 D k) D.dirty.length m1 (by omega) (by omega) _ (a2.below bb))
  have r3 := Lib.hid (heldSpanS_yes vs (mk2 D k) D.spans m2 (by omega) _ (a3.below bb))
  have r4 := Lib.hid (heldMutS_yes vm (mk3 D k) D.muts m3 (by omega) (by omega) _ (a4.below bb))
  have r5 := Lib.hid (heldGc_yes D.phase D.next vg (mk4 D k) D.grey.length m4 (by omega) (by omega) _ (a5.below bb))
  have bb' := Lib.hid bb
  clear a1 a2 a3 a4 a5 bb hm
  unfold markD
  have e1 : 0 ≤ k + (D.words.length : Int) := m1
  have e2 : 0 ≤ mk1 D k + (D.dirty.length : Int) := m2
  have e3 : 0 ≤ (markUp D.spans (mk2 D k) D.spans.length).2 := m3
  have e4 : 0 ≤ (markM D.muts (mk3 D k) D.muts.length).2 := m4
  have e5 : 0 ≤ mk4 D k + (D.grey.length : Int) := m5
  go_enter Try.func15, Try.ntmps15
  go_wp2_with fail
  refine r1.out.mono ?_
  rintro e w1 ⟨rfl, rfl⟩
  go_wp2_with fail
  refine r2.out.mono ?_
  rintro e w1 ⟨rfl, rfl⟩
  go_wp2_with fail
  refine r3.out.mono ?_
  rintro e w1 ⟨rfl, rfl⟩
  go_wp2_with fail
  refine r4.out.mono ?_
  rintro e w1 ⟨rfl, rfl⟩
  go_wp2_with fail
  refine r5.out.mono ?_
  rintro e w1 ⟨rfl, b5⟩
  go_wp2_with fail
  go_ret
  exact ⟨rfl, below_trans bb'.out b5⟩
end Go.Proofs.Ytnmgecplagekcaa
