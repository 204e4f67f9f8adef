import Derived.Test.YtpaepkcfdnddgaaGreatCgIM1
import Derived.Test.YtpaepkcfdnddgaaGreatCgRF
import Derived.Test.YtpaepkcfdnddgaaGreatCgIC
import Derived.Test.YtpaepkcfdnddgaaGreatCgSM
import Derived.Test.YtpaepkcfdnddgaaGreatCgV
import Derived.Test.YtpaepkcfdnddgaaGreatCgBL
import Derived.Test.YtpaepkcfdnddgaaGreatCgIPU

namespace Go.Proofs.YtpaepkcfdnddgaaGreat
open Go.RowKit
set_option linter.unusedVariables false

def falsesK (L : List Bool) : Nat → List Bool
  | 0 => L
  | n + 1 => (falsesK L n).set n false
theorem falsesK_len (L : List Bool) : ∀ n, (falsesK L n).length = L.length
  | 0 => rfl
  | n + 1 => by show ((falsesK L n).set n false).length = _; rw [List.length_set, falsesK_len L n]
theorem falsesK_at (L : List Bool) : ∀ n i, i < n → (falsesK L n)[i]?.getD false = false
  | 0, i, h => by omega
  | n + 1, i, h => by
    show ((falsesK L n).set n false)[i]?.getD false = false
    by_cases e : i = n
    · subst e
      by_cases hl : i < (falsesK L i).length
      · rw [List.getElem?_set_self hl]; rfl
      · rw [List.getElem?_eq_none (by rw [List.length_set]; omega)]; rfl
    · rw [List.getElem?_set_ne (by omega)]
      exact falsesK_at L n i (by omega)
/-- Nothing is dirty. -/
def AllFalse (D : WD) (X : List Bool) : Prop := X.length = D.dirty.length ∧ ∀ i : Nat, X[i]?.getD false = false
theorem AllFalse.of (D : WD) : AllFalse D (falsesK D.dirty D.dirty.length) := ⟨falsesK_len _ _, fun i => by
  by_cases h : i < D.dirty.length
  · exact falsesK_at _ _ i h
  · rw [List.getElem?_eq_none (by rw [falsesK_len]; omega)]; rfl⟩
def ImageIs (D E : WD) : Prop := ∃ (X : List Bool) (Z : List Int), AllFalse D X ∧ ZeroTd D Z D.spans.length 0 ∧ LeadsIs (RefV D) { D with dirty := X, words := Z } E
theorem HeapForm.dirty' {D : WD} (h : HeapForm D) {X : List Bool} (hX : X.length = D.dirty.length) : HeapForm { D with dirty := X } :=
  ⟨h.geo, h.words, by show (X.length : Int) = _; rw [hX]; exact h.dirty, h.spans, h.ph0, h.ph1, fun k s hs => have A := h.span k s hs; ⟨A.pg0, A.pg1, A.prev, A.cls, A.lens, A.ptrs, A.slot, A.mk0, A.mk1⟩, h.zero, h.roots⟩
theorem HeapForm.words' {D : WD} (h : HeapForm D) {Z : List Int} (hZ : ZeroTd D Z D.spans.length 0) : HeapForm { D with words := Z } :=
  ⟨h.geo, by show (Z.length : Int) = _; rw [hZ.1]; exact h.words, h.dirty, h.spans, h.ph0, h.ph1, fun k s hs => have A := h.span k s hs; ⟨A.pg0, A.pg1, A.prev, A.cls, A.lens, A.ptrs, A.slot, A.mk0, A.mk1⟩, fun i hi hu => by
    by_cases hd : DoomB D D.spans.length 0 i
    · exact (hZ.2 i).1 hd
    · have := (hZ.2 i).2 hd
      show Z[i]?.getD 0 = 0
      rw [this]
      exact h.zero i (by rw [← hZ.1]; exact hi) hu, h.roots⟩
theorem FitD.words' {D : WD} (h : FitD D) {Z : List Int} (hZ : ZeroTd D Z D.spans.length 0) (X : List Bool) : FitD { D with dirty := X, words := Z } :=
  ⟨h.base, h.pages, fun x hx => by
    obtain ⟨i, hi, rfl⟩ := List.getElem_of_mem hx
    have e : Z[i]?.getD 0 = Z[i] := by rw [List.getElem?_eq_getElem hi]; rfl
    rw [← e]
    by_cases hd : DoomB D D.spans.length 0 i
    · rw [(hZ.2 i).1 hd]; constructor <;> decide
    · rw [(hZ.2 i).2 hd]; exact allI_at h.words i, h.spans, h.muts, h.phase, h.next, h.grey⟩
theorem zeroBool (w : World) : (zeroValue 4).run Tryz.prog w = .ok (.bool false) w := by kernel_rfl
theorem VarW.falses {w : World} {base B : Nat} {S : Shape} {D : WD} {g cap : Nat} (h : VarW w base B S D) (hg : S.vd = .slice (some ⟨g, 0, none⟩) D.dirty.length cap) (n : Nat) :
    VarW (w.setCells g 0 (List.replicate n (.bool false))) base B S { D with dirty := falsesK D.dirty n } ∧ Below base w (w.setCells g 0 (List.replicate n (.bool false))) := by
  induction n with
  | zero => exact ⟨h, Below.refl _ _⟩
  | succ n ih =>
    rw [setCells_last, Nat.zero_add]
    have := ih.1.dirty (g := g) (cap := cap) (by rw [hg, falsesK_len]) n false
    exact ⟨this.1, ih.2.trans this.2⟩
theorem rowCells {w : World} {base size n : Nat} {e : TypeId} {v : Value} {xs : List Value} (h : w.ownsRow base e size v n xs) {q : Nat} (hq : v.ownBlock = some q) : ∃ cur, w.heap[q]? = some (.cells cur e (0, 0)) := by
  rcases h.2 with ⟨rfl, _⟩ | ⟨g, cap, cur, rfl, _, hh, _⟩
  · cases hq
  · cases hq
    exact ⟨cur, hh⟩
theorem OwnW.cellsAt {w : World} {base : Nat} {S : Shape} {D : WD} (h : OwnW w base S D) {q : Nat} (hq : q ∈ blks S.all) : ∃ cur e, w.heap[q]? = some (.cells cur e (0, 0)) := by
  obtain ⟨x, hx, e⟩ := List.mem_filterMap.1 hq
  simp only [Shape.all, List.mem_append, List.mem_cons, List.not_mem_nil, or_false] at hx
  rcases hx with (((rfl | rfl) | (rfl | hx)) | (rfl | hx)) | rfl
  · exact (rowCells h.words e).imp fun _ h => ⟨_, h⟩
  · exact (rowCells h.dirty e).imp fun _ h => ⟨_, h⟩
  · exact (rowCells h.spans e).imp fun _ h => ⟨_, h⟩
  · obtain ⟨p, hp, hm⟩ := List.mem_flatMap.1 hx
    obtain ⟨i, hi⟩ := List.mem_iff_getElem?.1 hp
    have hl := (List.getElem?_eq_some_iff.1 hi).1
    have hs : D.spans[i]? = some (D.spans[i]'(by have := h.svl; omega)) := List.getElem?_eq_getElem _
    have hi2 := h.inner i _ p hs hi
    simp only [List.mem_cons, List.not_mem_nil, or_false] at hm
    rcases hm with rfl | rfl
    · exact (rowCells hi2.1 e).imp fun _ h => ⟨_, h⟩
    · exact (rowCells hi2.2 e).imp fun _ h => ⟨_, h⟩
  · exact (rowCells h.muts e).imp fun _ h => ⟨_, h⟩
  · obtain ⟨i, hi⟩ := List.mem_iff_getElem?.1 hx
    have hl := (List.getElem?_eq_some_iff.1 hi).1
    have hs : D.muts[i]? = some (D.muts[i]'(by have := h.mvl; omega)) := List.getElem?_eq_getElem _
    exact (rowCells (h.innerM i _ x hs hi) e).imp fun _ h => ⟨_, h⟩
  · exact (rowCells h.grey e).imp fun _ h => ⟨_, h⟩
theorem ViewIs.kept {D D' : WD} {w w' : World} {V B0 g n base B : Nat} {N : DataW Unit} {S : Shape} (hv : ViewIs D w V B0 g n N) (h : VarW w base B S D') (hs : Chg (blks S.all) w w') (hV : V ∉ blks S.all) : ViewIs D w' V B0 g n N := by
  have hlt : V < w.heap.size := (Array.getElem?_eq_some_iff.1 hv.box).1
  obtain ⟨es, clock, hb, F, hsz, hD⟩ := hv.own
  have hgl : g < w.heap.size := (Array.getElem?_eq_some_iff.1 hb).1
  have hg : g ∉ blks S.all := fun hm => by
    obtain ⟨cur, e, hc⟩ := h.own.cellsAt hm
    have := hc.symm.trans hb
    simp at this
  exact ⟨(hs.block V hlt hV).trans hv.box, ⟨es, clock, (hs.block g hgl hg).trans hb, F, hsz, hD⟩, hv.is⟩
end Go.Proofs.YtpaepkcfdnddgaaGreat

namespace Go.Proofs.YtpaepkcfdnddgaaGreat
open Go.RowKit
set_option linter.unusedVariables false

theorem base_chg {S : Shape} {D : WD} {w w' a : World} {base B : Nat} (h : VarW w base B S D) (hb : Below a.heap.size a w) (hle : a.heap.size ≤ base) (c : Chg (blks S.all) w w') : Below a.heap.size a w' :=
  Chg.below hb c hb.size (fun q hq => Nat.le_trans hle (h.own.lt q hq).1)

theorem falses_chg (g : Nat) : ∀ (n : Nat) (w : World) {bs : List Nat}, g ∈ bs → Chg bs w (w.setCells g 0 (List.replicate n (.bool false)))
  | 0, w, bs, _ => Chg.refl bs w
  | n + 1, w, bs, h => by
    rw [setCells_last]
    exact (falses_chg g n w h).put h (0 + n) _

theorem img_fin {D : WD} {w w6 wF : World} {b : Nat} {S0 : Shape} {E0 : WD} (h : OwnW w6 (b + 1) S0 E0) (hb : Below b w w6) (hc : Chg [b] w6 wF) (S : Shape) (E : WD) (hE : ImageIs D E) {e : Ending} (he : e = .returned (S.val E)) (hS : S0 = S := by rfl) (hE0 : E0 = E := by rfl) (hbw : b ≤ w6.heap.size := by omega) :
    (∃ S E, e = .returned (S.val E) ∧ ImageIs D E ∧ OwnW wF b S E) ∧ Below b w wF := by
  subst hS hE0
  exact ⟨⟨_, _, he, hE, (h.chg0 hc (fun q hq => by rw [List.mem_singleton.1 hq]; omega)).base_le (by omega)⟩, Chg.below hb hc hbw (fun q hq => by rw [List.mem_singleton.1 hq]; exact Nat.le_refl _)⟩

set_option maxRecDepth 100000 in
set_option maxHeartbeats 16000000 in
theorem withRefs_any (B0 : Nat) (v : Value) (D : WD) (hs : Small D) (hF : HeapForm D) (hI : FitD D) (hg : D.grey.length ≤ 2000000) (w : World) (hr : RdW w v D) (hB : BoxW w B0 v) :
    Calls Tryz.prog 56 #[.pointer (some ⟨B0, 0, none⟩)] w fun e w' => (∃ S E, e = .returned (S.val E) ∧ ImageIs D E ∧ OwnW w' w.heap.size S E) ∧ Below w.heap.size w w' := by
  have bb0 := Lib.hid (below_box w (.cells #[.int .i64 0, .int .i64 0, .slice none 0 0, .slice none 0 0, .slice none 0 0, .slice none 0 0, .int .i64 0, .int .i64 0, .slice none 0 0] 36))
  have x0 := Lib.hid (box_new w (.cells #[.int .i64 0, .int .i64 0, .slice none 0 0, .slice none 0 0, .slice none 0 0, .slice none 0 0, .int .i64 0, .int .i64 0, .slice none 0 0] 36))
  have hcp := Lib.hid (copyOf_any B0 v D hs _ (hr.below bb0.out) (hB.below bb0.out))
  have hr' := Lib.hid hr
  have hB' := Lib.hid hB
  have hF' := Lib.hid hF
  have hI' := Lib.hid hI
  have hdl : 0 < D.dirty.length := by have := hF.dirty; have := hF.geo.2.2.2.1; omega
  have hdm : D.dirty.length ≤ 48 := by have := hF.dirty; have := hF.geo.2.2.2.2.1; omega
  clear hs hr hB hF hI
  go_enter Tryz.func56, Tryz.ntmps56
  go_wp2_with fail
  refine hcp.out.mono ?_
  rintro e w2 ⟨S, rfl, ho, b2⟩
  obtain ⟨aw, ad, aS, am, ag, cw, cd, cS, cm, cg, sv, mv, rfl⟩ := Shape.lits ho
  have hv := VarW.mk_box ho b2.size
  obtain ⟨gd, cd', hgd⟩ := hv.headD hdl
  obtain ⟨rfl, rfl⟩ : ad = some ⟨gd, 0, none⟩ ∧ cd = cd' := by simpa using hgd
  have bW := Lib.hid (below_trans (below_trans bb0.out b2) (below_box w2 (.cells #[.int .i64 D.base, .int .i64 D.pages, .slice aw D.words.length cw, .slice (some ⟨gd, 0, none⟩) D.dirty.length cd, .slice aS D.spans.length cS, .slice am D.muts.length cm, .int .i64 D.phase, .int .i64 D.next, .slice ag D.grey.length cg] 36)))
  have xW := Lib.hid (heap_below (below_trans b2 (below_box w2 (.cells #[.int .i64 D.base, .int .i64 D.pages, .slice aw D.words.length cw, .slice (some ⟨gd, 0, none⟩) D.dirty.length cd, .slice aS D.spans.length cS, .slice am D.muts.length cm, .int .i64 D.phase, .int .i64 D.next, .slice ag D.grey.length cg] 36))) x0.out)
  have hvH := Lib.hid (show VarW (w2.alloc (.cells #[.int .i64 D.base, .int .i64 D.pages, .slice aw D.words.length cw, .slice (some ⟨gd, 0, none⟩) D.dirty.length cd, .slice aS D.spans.length cS, .slice am D.muts.length cm, .int .i64 D.phase, .int .i64 D.next, .slice ag D.grey.length cg] 36)) (w.heap.size + 1) w2.heap.size _ D by have h := hv; rw [World.size_alloc] at h; exact h)
  have hlow : w.heap.size < w2.heap.size := by have := b2.size; rw [World.size_alloc] at this; omega
  have hlowH := Lib.hid hlow
  clear ho b2 hv hgd hlow
  dsimp only [Shape.val]
  go_upto_region 2 with fail
  generalize w2.alloc (.cells #[.int .i64 D.base, .int .i64 D.pages, .slice aw D.words.length cw, .slice (some ⟨gd, 0, none⟩) D.dirty.length cd, .slice aS D.spans.length cS, .slice am D.muts.length cm, .int .i64 D.phase, .int .i64 D.next, .slice ag D.grey.length cg] 36) = W at *
  have g3 := hvH.out.cell 3 (.slice (some ⟨gd, 0, none⟩) D.dirty.length cd) rfl
  have hrd : W.ownsRow (w.heap.size + 1) 4 1 (.slice (some ⟨gd, 0, none⟩) D.dirty.length cd) D.dirty.length (D.dirty.map Value.bool) := hvH.out.own.dirty
  have hcl : ∀ ty, (Builtin.clear_ #[23] ty #[.slice (some ⟨gd, 0, none⟩) D.dirty.length cd]).run Tryz.prog W = .ok (.tuple #[]) (W.setCells gd 0 (List.replicate D.dirty.length (.bool false))) := fun ty =>
    Lib.run_clear_slice W 23 4 ty (.bool false) Tryz.underlying23 zeroBool rfl rfl gd 0 D.dirty.length _ (by omega) (fun i hi => by rw [hrd.cellAt (0 + i) (by omega)]; simp; omega) (fun i hi => hrd.frozenAt (0 + i))
  have hz := hvH.out.falses (g := gd) (cap := cd) rfl D.dirty.length
  have hV2 := Lib.hid hz.1
  have hC2 := Lib.hid (falses_chg gd D.dirty.length W (bs := blks (⟨.slice aw D.words.length cw, .slice (some ⟨gd, 0, none⟩) D.dirty.length cd, .slice aS D.spans.length cS, .slice am D.muts.length cm, .slice ag D.grey.length cg, sv, mv⟩ : Shape).all) (List.mem_filterMap.2 ⟨.slice (some ⟨gd, 0, none⟩) D.dirty.length cd, by simp [Shape.all], rfl⟩))
  have hcd := Lib.hid (clearDoomed_any (w.heap.size + 1) w2.heap.size _ _ (hF'.out.dirty' (falsesK_len D.dirty D.dirty.length)) _ hV2.out)
  clear hz hrd
  go_wp2_with fail
  clear g3 hcl
  refine hcd.out.mono ?_
  rintro e w4 ⟨rfl, ⟨Z, hZ, hV4⟩, hC4⟩
  have hZ' := Lib.hid (show ZeroTd D Z D.spans.length 0 from hZ)
  have hC5 := Lib.hid (hC2.out.trans hC4)
  have hV5 := Lib.hid hV4
  have b4 := Lib.hid (Chg.below bW.out hC5.out bW.out.size (fun q hq => Nat.le_of_lt (Nat.lt_of_lt_of_le (Nat.lt_succ_self _) (hvH.out.own.lt q hq).1)))
  have hvo := Lib.hid (viewOf_new B0 v D hF'.out w4 (hr'.out.below b4.out) (hB'.out.below b4.out))
  clear hZ hV4 hC4
  go_wp2_with fail
  refine hvo.out.mono ?_
  rintro e w5 ⟨V, g, n, N, rfl, hvw, hVge, b5⟩
  have hV6 := Lib.hid (hV5.out.below b5)
  have hVn : V ∉ blks (⟨.slice aw D.words.length cw, .slice (some ⟨gd, 0, none⟩) D.dirty.length cd, .slice aS D.spans.length cS, .slice am D.muts.length cm, .slice ag D.grey.length cg, sv, mv⟩ : Shape).all := fun hm => by have := (hV5.out.own.lt V hm).2; omega
  have htl := Lib.hid (turnLeads_any 103 (.pointer (some ⟨V, 0, none⟩)) (fun x w => by kernel_rfl) (RefV D) (w.heap.size + 1) w2.heap.size _ _ (hF'.out.dirty' (falsesK_len D.dirty D.dirty.length) |>.words' hZ'.out) (hI'.out.words' hZ'.out _) hg w5 hV6.out (fun x hx W hW => irefOf_at V B0 g n N D hF'.out x hx W (hvw.kept hV6.out hW hVn)))
  have b5' := Lib.hid b5
  clear hvw hVge b5 hVn
  go_wp2_with fail
  refine htl.out.mono ?_
  rintro e w6 ⟨rfl, ⟨E, hE, hV7⟩, hC6⟩
  have hE' := Lib.hid (show ImageIs D E from ⟨_, Z, AllFalse.of D, hZ'.out, hE⟩)
  have hnR : w.heap.size ∉ blks (⟨.slice aw D.words.length cw, .slice (some ⟨gd, 0, none⟩) D.dirty.length cd, .slice aS D.spans.length cS, .slice am D.muts.length cm, .slice ag D.grey.length cg, sv, mv⟩ : Shape).all := fun hm => by have := (hvH.out.own.lt _ hm).1; omega
  have x4 := (hC5.out.block w.heap.size (Array.getElem?_eq_some_iff.1 xW.out).1 hnR).trans xW.out
  have x5 := heap_below b5'.out x4
  have x6 := (hC6.block w.heap.size (Array.getElem?_eq_some_iff.1 x5).1 hnR).trans x5
  have b6 := Lib.hid (Chg.below (below_trans b4.out b5'.out) hC6 (below_trans b4.out b5'.out).size (fun q hq => Nat.le_of_lt (Nat.lt_of_lt_of_le (Nat.lt_succ_self _) (hvH.out.own.lt q hq).1)))
  have hV8 := Lib.hid hV7
  have p0x := hV7.cell 0 (.int .i64 E.base) rfl
  have p1x := hV7.cell 1 (.int .i64 E.pages) rfl
  have p2x := hV7.cell 2 (.slice aw D.words.length cw) rfl
  have p3x := hV7.cell 3 (.slice (some ⟨gd, 0, none⟩) D.dirty.length cd) rfl
  have p4x := hV7.cell 4 (.slice aS D.spans.length cS) rfl
  have p5x := hV7.cell 5 (.slice am D.muts.length cm) rfl
  have p6x := hV7.cell 6 (.int .i64 E.phase) rfl
  have p7x := hV7.cell 7 (.int .i64 E.next) rfl
  have p8x := hV7.cell 8 (.slice ag D.grey.length cg) rfl
  have n0x := cell_of_heap x6 0 _ rfl
  have z0x := frozen_of_heap x6 0
  have n1x := cell_of_heap x6 1 _ rfl
  have z1x := frozen_of_heap x6 1
  have n2x := cell_of_heap x6 2 _ rfl
  have z2x := frozen_of_heap x6 2
  have n3x := cell_of_heap x6 3 _ rfl
  have z3x := frozen_of_heap x6 3
  have n4x := cell_of_heap x6 4 _ rfl
  have z4x := frozen_of_heap x6 4
  have n5x := cell_of_heap x6 5 _ rfl
  have z5x := frozen_of_heap x6 5
  have n6x := cell_of_heap x6 6 _ rfl
  have z6x := frozen_of_heap x6 6
  have n7x := cell_of_heap x6 7 _ rfl
  have z7x := frozen_of_heap x6 7
  have n8x := cell_of_heap x6 8 _ rfl
  have z8x := frozen_of_heap x6 8
  clear hE hC6 hV7 x4 x5 x6 hnR
  go_wp2_with fail
  refine bodyPost_ret (v := .agg #[.int .i64 E.base, .int .i64 E.pages, .slice aw D.words.length cw, .slice (some ⟨gd, 0, none⟩) D.dirty.length cd, .slice aS D.spans.length cS, .slice am D.muts.length cm, .int .i64 E.phase, .int .i64 E.next, .slice ag D.grey.length cg]) (by simp [results, Tryz.results56, go_sem, n0x, n1x, n2x, n3x, n4x, n5x, n6x, n7x, n8x]) rfl ?_
  have hE9 := hE'.out
  have hbw := b6.out.size
  exact img_fin (b := w.heap.size) hV8.out.own b6.out ((((((((((Chg.refl [w.heap.size] _).put (b := w.heap.size) (by simp) 0 _).put (b := w.heap.size) (by simp) 1 _).put (b := w.heap.size) (by simp) 2 _).put (b := w.heap.size) (by simp) 3 _).put (b := w.heap.size) (by simp) 4 _).put (b := w.heap.size) (by simp) 5 _).put (b := w.heap.size) (by simp) 6 _).put (b := w.heap.size) (by simp) 7 _).put (b := w.heap.size) (by simp) 8 _) (⟨.slice aw D.words.length cw, .slice (some ⟨gd, 0, none⟩) D.dirty.length cd, .slice aS D.spans.length cS, .slice am D.muts.length cm, .slice ag D.grey.length cg, sv, mv⟩ : Shape) E hE9 rfl
end Go.Proofs.YtpaepkcfdnddgaaGreat

namespace Go.Proofs.YtpaepkcfdnddgaaGreat
open Go.Proofs Go.RowKit
set_option linter.unusedVariables false

/-- The texts of the first k writers, joined. -/
def Joined (P : Nat → ByteArray → Prop) (k : Nat) (l : List UInt8) : Prop := ∃ bs : List ByteArray, bs.length = k ∧ (∀ i b, bs[i]? = some b → P i b) ∧ l = bs.flatMap fun b => b.data.toList
theorem Joined.zero (P : Nat → ByteArray → Prop) : Joined P 0 [] := ⟨[], rfl, fun i b h => by simp at h, rfl⟩
theorem Joined.succ {P : Nat → ByteArray → Prop} {k : Nat} {l : List UInt8} {b : ByteArray} (h : Joined P k l) (hb : P k b) : Joined P (k + 1) (l ++ b.data.toList) := by
  obtain ⟨bs, h1, h2, rfl⟩ := h
  refine ⟨bs ++ [b], by simp [h1], fun i c hc => ?_, by simp⟩
  rcases Nat.lt_trichotomy i bs.length with hi | hi | hi
  · rw [List.getElem?_append_left hi] at hc
    exact h2 i c hc
  · subst hi
    rw [List.getElem?_append_right (Nat.le_refl _), Nat.sub_self] at hc
    obtain rfl : b = c := by simpa using hc
    rw [h1]
    exact hb
  · rw [List.getElem?_eq_none (by simp; omega)] at hc
    cases hc

set_option maxRecDepth 100000 in
set_option maxHeartbeats 8000000 in
theorem written_any (P : Nat → ByteArray → Prop) (fs : List FuncId) (hfs : fs.length ≤ 8) (B0 : Nat) (v : Value) (D : WD) (hs : Small D) (hI : FitD D) (hg : D.grey.length ≤ 2000000) (w : World) (a : Option Addr) (c : Nat)
    (hws : ∀ (k : Nat) (F : FuncId), fs[k]? = some F → ∃ b off, a = some ⟨b, off, none⟩ ∧ w.cell? ⟨b, off + k, none⟩ = some (.func (.func F) #[] #[]))
    (hcf : ∀ (F : FuncId), F ∈ fs → ∀ (x : Value) (w : World), (callFunc F #[x]).run Tryz.prog w = .ok (.enter F #[x]) w)
    (hOk : ∀ W : World, Below w.heap.size w W → Calls Tryz.prog 53 #[v] W fun e w' => IsB (Right D) e ∧ Below W.heap.size W w')
    (hcall : Right D → ∀ (S : Shape) (E : WD), ImageIs D E → ∀ (k : Nat) (F : FuncId), fs[k]? = some F → ∀ (B1 : Nat) (W : World), RdW W (S.val E) E → BoxW W B1 (S.val E) →
      Calls Tryz.prog F #[.pointer (some ⟨B1, 0, none⟩)] W fun e w' => (∃ b, e = .returned (.string b) ∧ P k b ∧ b.size ≤ 1000000) ∧ Below W.heap.size W w')
    (hr : RdW w v D) (hB : BoxW w B0 v) :
    Calls Tryz.prog 33 #[.pointer (some ⟨B0, 0, none⟩), .slice a fs.length c] w fun e w' =>
      ((Right D ∧ ∃ l, e = .returned (.string ⟨l.toArray⟩) ∧ Joined P fs.length l) ∨ (¬ Right D ∧ e = .returned (.string ⟨#[]⟩))) ∧ Below w.heap.size w w' := by
  have hOk' := Lib.hid (hOk w (Below.refl _ _))
  have hcall' := Lib.hid hcall
  have hcf' := Lib.hid hcf
  have hws' := Lib.hid hws
  have hr' := Lib.hid hr
  have hB' := Lib.hid hB
  have hs' := Lib.hid hs
  have hI' := Lib.hid hI
  obtain ⟨vw, vd, vs, vm, vg, rfl, a1, a2, a3, a4, a5⟩ := hr
  obtain ⟨cs, he, hh⟩ := hB
  obtain rfl := (Value.agg.inj he).symm
  have f0 := cell_of_heap hh 0 (.int .i64 D.base) rfl
  have f1 := cell_of_heap hh 1 (.int .i64 D.pages) rfl
  have f2 := cell_of_heap hh 2 vw rfl
  have f3 := cell_of_heap hh 3 vd rfl
  have f4 := cell_of_heap hh 4 vs rfl
  have f5 := cell_of_heap hh 5 vm rfl
  have f6 := cell_of_heap hh 6 (.int .i64 D.phase) rfl
  have f7 := cell_of_heap hh 7 (.int .i64 D.next) rfl
  have f8 := cell_of_heap hh 8 vg rfl
  clear hOk hcall hcf hws a1 a2 a3 a4 a5 he hh hs hI
  go_enter Tryz.func33, Tryz.ntmps33
  go_wp2_with fail
  refine hOk'.out.mono ?_
  rintro e w1 ⟨hq, b1⟩
  have b1' := Lib.hid b1
  clear b1 f0 f1 f2 f3 f4 f5 f6 f7 f8
  rcases hq.elim with ⟨hR, rfl⟩ | ⟨hR, rfl⟩
  case inr =>
    have y := Lib.hid hR
    clear hq hR
    go_wp2_with fail
    go_ret
    exact ⟨.inr ⟨y.out, rfl⟩, b1'.out⟩
  have hR' := Lib.hid hR
  have hwr := Lib.hid (withRefs_any B0 _ D hs'.out hR.1 hI'.out hg w1 (hr'.out.below b1'.out) (hB'.out.below b1'.out))
  clear hq hR
  go_wp2_with fail
  refine hwr.out.mono ?_
  rintro e w2 ⟨⟨S, E, rfl, hE, ho⟩, b2⟩
  obtain ⟨aw, ad, aS, am, ag, cw, cd, cS, cm, cg, sv, mv, rfl⟩ := Shape.lits ho
  have b3 := Lib.hid (below_trans b1'.out b2)
  have hE' := Lib.hid hE
  have ho' := Lib.hid ho
  clear hE ho b2
  dsimp only [Shape.val]
  have hrd := Lib.hid (ho'.out.rd.below (below_box w2 (.cells #[.int .i64 E.base, .int .i64 E.pages, .slice aw E.words.length cw, .slice ad E.dirty.length cd, .slice aS E.spans.length cS, .slice am E.muts.length cm, .int .i64 E.phase, .int .i64 E.next, .slice ag E.grey.length cg] 36)))
  have hbx := Lib.hid (show BoxW (w2.alloc (.cells #[.int .i64 E.base, .int .i64 E.pages, .slice aw E.words.length cw, .slice ad E.dirty.length cd, .slice aS E.spans.length cS, .slice am E.muts.length cm, .int .i64 E.phase, .int .i64 E.next, .slice ag E.grey.length cg] 36)) w2.heap.size _ from ⟨_, rfl, box_new w2 (.cells #[.int .i64 E.base, .int .i64 E.pages, .slice aw E.words.length cw, .slice ad E.dirty.length cd, .slice aS E.spans.length cS, .slice am E.muts.length cm, .int .i64 E.phase, .int .i64 E.next, .slice ag E.grey.length cg] 36)⟩)
  have hfr := Lib.hid (show Lib.IsBuilder 101 5 (w2.heap.size + 1) (w2.heap.size + 1) [] ((w2.alloc (.cells #[.int .i64 E.base, .int .i64 E.pages, .slice aw E.words.length cw, .slice ad E.dirty.length cd, .slice aS E.spans.length cS, .slice am E.muts.length cm, .int .i64 E.phase, .int .i64 E.next, .slice ag E.grey.length cg] 36)).alloc (.cells #[.pointer none, .slice none 0 0] 101)) by have h := Lib.fresh_isBuilder 101 5 (w2.alloc (.cells #[.int .i64 E.base, .int .i64 E.pages, .slice aw E.words.length cw, .slice ad E.dirty.length cd, .slice aS E.spans.length cS, .slice am E.muts.length cm, .int .i64 E.phase, .int .i64 E.next, .slice ag E.grey.length cg] 36)); rw [World.size_alloc] at h; exact h)
  have hb0 := Lib.hid (below_box (w2.alloc (.cells #[.int .i64 E.base, .int .i64 E.pages, .slice aw E.words.length cw, .slice ad E.dirty.length cd, .slice aS E.spans.length cS, .slice am E.muts.length cm, .int .i64 E.phase, .int .i64 E.next, .slice ag E.grey.length cg] 36)) (.cells #[.pointer none, .slice none 0 0] 101))
  have hb4 := Lib.hid (below_trans b3.out (below_box w2 (.cells #[.int .i64 E.base, .int .i64 E.pages, .slice aw E.words.length cw, .slice ad E.dirty.length cd, .slice aS E.spans.length cS, .slice am E.muts.length cm, .int .i64 E.phase, .int .i64 E.next, .slice ag E.grey.length cg] 36)))
  have hz4 := Lib.hid (World.size_alloc w2 (.cells #[.int .i64 E.base, .int .i64 E.pages, .slice aw E.words.length cw, .slice ad E.dirty.length cd, .slice aS E.spans.length cS, .slice am E.muts.length cm, .int .i64 E.phase, .int .i64 E.next, .slice ag E.grey.length cg] 36))
  go_wp2_with fail
  go_loopw [8, 18] (fun _ i wr => ∃ (k : Nat) (l : List UInt8), k ≤ fs.length ∧ i = .int .i64 k ∧ Hid (Joined P k l) ∧ l.length ≤ k * 1000000 ∧ Hid (Lib.IsBuilder 101 5 (w2.heap.size + 1) (w2.heap.size + 1) (Lib.byteCells l) wr) ∧ Hid (Below (w2.alloc (.cells #[.int .i64 E.base, .int .i64 E.pages, .slice aw E.words.length cw, .slice ad E.dirty.length cd, .slice aS E.spans.length cS, .slice am E.muts.length cm, .int .i64 E.phase, .int .i64 E.next, .slice ag E.grey.length cg] 36)).heap.size (w2.alloc (.cells #[.int .i64 E.base, .int .i64 E.pages, .slice aw E.words.length cw, .slice ad E.dirty.length cd, .slice aS E.spans.length cS, .slice am E.muts.length cm, .int .i64 E.phase, .int .i64 E.next, .slice ag E.grey.length cg] 36)) wr)) (fun _ i _ => fs.length - (RowKit.intOf i).toNat)
  case atStart => exact ⟨0, [], Nat.zero_le _, rfl, Lib.hid (Joined.zero P), by simp, hfr, hb0⟩
  case round =>
    obtain ⟨k, l, hk, rfl, hJ, hl, hBd, hw3⟩ := hrel
    have hwr := Lib.hid (below_trans hb4.out hw3.out)
    by_cases hlt : k < fs.length
    · obtain ⟨F, hFk⟩ : ∃ F, fs[k]? = some F := ⟨_, List.getElem?_eq_getElem hlt⟩
      obtain ⟨b1, o1, rfl, q0⟩ := hws'.out k F hFk
      have q0' := cell_below hwr.out q0
      have hlt' : (k : Int) < (fs.length : Int) := by omega
      have hcfF := fun w => hcf'.out F (List.mem_of_getElem? hFk) (.pointer (some ⟨w2.heap.size, 0, none⟩)) w
      have hcl := Lib.hid (hcall'.out hR'.out _ E hE'.out k F hFk w2.heap.size wr (hrd.out.below hw3.out) (hbx.out.below hw3.out))
      have hsz := Lib.hid hw3.out.size
      clear q0 hFk
      go_wp2_with fail
      refine hcl.out.mono ?_
      rintro e w5 ⟨⟨b, rfl, hPb, hbs⟩, b5⟩
      have hB5 := Lib.hid (Bld.cells hBd.out b5)
      have hJ2 := Lib.hid (hJ.out.succ hPb)
      have hw5 := Lib.hid (below_trans hw3.out b5)
      have hbl : b.data.toList.length = b.size := by simp
      have hl2 := Lib.hid (show (l ++ b.data.toList).length ≤ (k + 1) * 1000000 by rw [List.length_append, hbl]; omega)
      have hwr5 := Lib.hid (bwrite_any (w2.heap.size + 1) (w2.heap.size + 1) _ b w5 hB5.out (by rw [Lib.byteCells_length]; omega) (by have := hw5.out.size; rw [hz4.out] at this; exact this))
      clear hPb hbs b5 hbl
      go_wp2_with fail
      refine hwr5.out.mono ?_
      rintro e w6 ⟨rfl, h6, b6⟩
      have hB6 := Lib.hid (show Lib.IsBuilder 101 5 (w2.heap.size + 1) (w2.heap.size + 1) (Lib.byteCells (l ++ b.data.toList)) w6 from .inr (by rw [Lib.byteCells_append]; exact h6))
      have hw6 := Lib.hid (show Below (w2.alloc (.cells #[.int .i64 E.base, .int .i64 E.pages, .slice aw E.words.length cw, .slice ad E.dirty.length cd, .slice aS E.spans.length cS, .slice am E.muts.length cm, .int .i64 E.phase, .int .i64 E.next, .slice ag E.grey.length cg] 36)).heap.size (w2.alloc (.cells #[.int .i64 E.base, .int .i64 E.pages, .slice aw E.words.length cw, .slice ad E.dirty.length cd, .slice aS E.spans.length cS, .slice am E.muts.length cm, .int .i64 E.phase, .int .i64 E.next, .slice ag E.grey.length cg] 36)) w6 from hw5.out.trans (by rw [hz4.out]; exact b6))
      clear h6 b6 hcfF q0'
      go_wp2_with fail
      go_roundw
      case rel => exact ⟨k + 1, _, by omega, by go_num, hJ2, hl2.out, hB6, hw6⟩
      case measure => simp [RowKit.intOf]; omega
    · obtain rfl : k = fs.length := by omega
      have hst := Lib.hid (Tryz.Builder_String_any (w2.heap.size + 1) (w2.heap.size + 1) l wr hBd.out (by have := hw3.out.size; rw [hz4.out] at this; exact this))
      go_wp2_with fail
      refine hst.out.mono ?_
      rintro e w7 ⟨rfl, b7⟩
      have hw7 := Lib.hid (below_trans hb4.out (hw3.out.trans (by rw [hz4.out]; exact b7) : Below (w2.alloc (.cells #[.int .i64 E.base, .int .i64 E.pages, .slice aw E.words.length cw, .slice ad E.dirty.length cd, .slice aS E.spans.length cS, .slice am E.muts.length cm, .int .i64 E.phase, .int .i64 E.next, .slice ag E.grey.length cg] 36)).heap.size (w2.alloc (.cells #[.int .i64 E.base, .int .i64 E.pages, .slice aw E.words.length cw, .slice ad E.dirty.length cd, .slice aS E.spans.length cS, .slice am E.muts.length cm, .int .i64 E.phase, .int .i64 E.next, .slice ag E.grey.length cg] 36)) w7))
      clear b7
      go_wp2_with fail
      go_ret
      exact ⟨.inl ⟨hR'.out, l, rfl, hJ.out⟩, hw7.out⟩
end Go.Proofs.YtpaepkcfdnddgaaGreat

namespace Go.Proofs.YtpaepkcfdnddgaaGreat
open Go.RowKit
set_option linter.unusedVariables false

theorem TurnedL.refs {D : WD} {L M : List Int} (h : TurnedL (RefV D) L M 0 L.length) : RefsOf D L M :=
  ⟨h.1, fun i a hi => by
    have hl := (List.getElem?_eq_some_iff.1 hi).1
    have := (h.2 i).1 (Nat.zero_le _) (by omega)
    rwa [hi, Option.getD_some] at this⟩
theorem RefsOf.append {D : WD} {L M L' M' : List Int} (h : RefsOf D L M) (h' : RefsOf D L' M') : RefsOf D (L ++ L') (M ++ M') := by
  refine ⟨by simp [h.1, h'.1], fun i a hi => ?_⟩
  by_cases hl : i < L.length
  · rw [List.getElem?_append_left hl] at hi
    rw [List.getElem?_append_left (by rw [h.1]; exact hl)]
    exact h.2 i a hi
  · rw [List.getElem?_append_right (by omega)] at hi
    rw [List.getElem?_append_right (by have := h.1; omega), h.1]
    exact h'.2 _ a hi
theorem RefsOf.flat {D : WD} : ∀ (Ls Ms : List (List Int)), Ms.length = Ls.length → (∀ (m : Nat) (r r' : List Int), Ls[m]? = some r → Ms[m]? = some r' → TurnedL (RefV D) r r' 0 r.length) → RefsOf D Ls.flatten Ms.flatten
  | [], [], _, _ => RefsOf.nil D
  | [], _ :: _, h, _ => by simp at h
  | _ :: _, [], h, _ => by simp at h
  | L :: Ls, M :: Ms, h, hp => by
    rw [List.flatten_cons, List.flatten_cons]
    exact (hp 0 L M rfl rfl).refs.append (RefsOf.flat Ls Ms (by simpa using h) (fun m r r' h1 h2 => hp (m + 1) r r' (by simpa using h1) (by simpa using h2)))
theorem ImageIs.meta_ {D E : WD} (h : ImageIs D E) : MetaIs D (secB 71 (ints (roundN E)) ++ secB 83 (ints (spansP E E.spans.length)) ++ secB 82 (ints (leadsN E))) := by
  obtain ⟨X, Z, hX, hZ, gr, mu, wo, h1, ⟨h2, h3⟩, h4, rfl⟩ := h
  refine ⟨mu.flatten, gr, RefsOf.flat D.muts mu h2 h3, TurnedL.refs h1, ?_⟩
  have e1 : roundN ({ D with dirty := X, grey := gr, muts := mu, words := wo } : WD) = roundN D := by
    show [D.pages, D.phase, D.next, (mu.length : Int)] = [D.pages, D.phase, D.next, (D.muts.length : Int)]
    rw [h2]
  have e2 : leadsN ({ D with dirty := X, grey := gr, muts := mu, words := wo } : WD) = mu.flatten ++ ((D.grey.length : Int) :: gr) := by
    show mu.flatten ++ ((gr.length : Int) :: gr) = _
    rw [h1.1]
  show secB 71 (ints (roundN ({ D with dirty := X, grey := gr, muts := mu, words := wo } : WD))) ++ secB 83 (ints (spansP D D.spans.length)) ++ secB 82 (ints (leadsN ({ D with dirty := X, grey := gr, muts := mu, words := wo } : WD))) = _
  rw [e1, e2]
end Go.Proofs.YtpaepkcfdnddgaaGreat

namespace Go.Proofs.YtpaepkcfdnddgaaGreat
open Go.RowKit
set_option linter.unusedVariables false

theorem RefV.of_zero {D : WD} {r : Int} (h : RefV D 0 r) : r = 0 := by
  rcases h with ⟨_, h⟩ | ⟨h, _⟩ | ⟨h, _⟩
  · exact h
  · exact absurd rfl h
  · exact absurd rfl h
theorem allI_of_at {L : List Int} (h : ∀ i, i < L.length → I64 (L[i]?.getD 0)) : AllI L := fun x hx => by
  obtain ⟨i, hi, rfl⟩ := List.getElem_of_mem hx
  have := h i hi
  rwa [List.getElem?_eq_getElem hi] at this
theorem TurnedL.allI {D : WD} (hF : HeapForm D) {L M : List Int} (h : TurnedL (RefV D) L M 0 L.length) : AllI M :=
  allI_of_at fun i hi => RefV.i64 hF ((h.2 i).1 (Nat.zero_le _) (by have := h.1; omega))
theorem ImageIs.form {D E : WD} (hF : HeapForm D) (h : ImageIs D E) : HeapForm E := by
  obtain ⟨X, Z, hX, hZ, gr, mu, wo, h1, ⟨h2, h3⟩, h4, rfl⟩ := h
  have h2' : mu.length = D.muts.length := h2
  have h5 : wo.length = Z.length := h4.1
  have B : HeapForm { D with dirty := X, words := Z } := (hF.dirty' hX.1).words' hZ
  refine ⟨?_, ?_, B.dirty, B.spans, B.ph0, B.ph1, fun k s hs => have A := B.span k s hs; ⟨A.pg0, A.pg1, A.prev, A.cls, A.lens, A.ptrs, A.slot, A.mk0, A.mk1⟩, fun i hi hu => ?_, fun k r' hk => ?_⟩
  · show Geo D.base D.pages (mu.length : Int)
    rw [h2']
    exact hF.geo
  · show (wo.length : Int) = D.pages * 32
    rw [h5]
    exact B.words
  · have hz : Z[i]?.getD 0 = 0 := B.zero i (by show i < Z.length; rw [← h5]; exact hi) hu
    show wo[i]?.getD 0 = 0
    by_cases hp : PtrB { D with dirty := X, words := Z } D.spans.length 0 i
    · have h6 : RefV D (Z[i]?.getD 0) (wo[i]?.getD 0) := (h4.2 i).1 hp
      rw [hz] at h6
      exact h6.of_zero
    · exact ((h4.2 i).2 hp).trans hz
  · have hk' : mu[k]? = some r' := hk
    obtain ⟨hlt, _⟩ := List.getElem?_eq_some_iff.1 hk'
    have hr : D.muts[k]? = some (D.muts[k]'(by omega)) := List.getElem?_eq_getElem _
    exact (h3 k _ r' hr hk').1.trans (hF.roots k _ hr)
theorem ImageIs.fit {D E : WD} (hF : HeapForm D) (hI : FitD D) (h : ImageIs D E) : FitD E := by
  obtain ⟨X, Z, hX, hZ, gr, mu, wo, h1, ⟨h2, h3⟩, h4, rfl⟩ := h
  have h2' : mu.length = D.muts.length := h2
  refine ⟨hI.base, hI.pages, allI_of_at fun i hi => ?_, hI.spans, fun r' hr' => ?_, hI.phase, hI.next, TurnedL.allI hF h1⟩
  · show I64 (wo[i]?.getD 0)
    by_cases hp : PtrB { D with dirty := X, words := Z } D.spans.length 0 i
    · exact RefV.i64 hF ((h4.2 i).1 hp)
    · have h6 : wo[i]?.getD 0 = Z[i]?.getD 0 := (h4.2 i).2 hp
      rw [h6]
      exact allI_at (hI.words' hZ X).words i
  · obtain ⟨k, hk, rfl⟩ := List.getElem_of_mem hr'
    have hk' : k < mu.length := hk
    exact TurnedL.allI hF (h3 k _ _ (List.getElem?_eq_getElem (by omega)) (List.getElem?_eq_getElem hk))
theorem ImageIs.same {D E : WD} (h : ImageIs D E) : roundN E = roundN D ∧ spansP E E.spans.length = spansP D D.spans.length ∧ E.muts.length = D.muts.length ∧ E.grey.length = D.grey.length := by
  obtain ⟨X, Z, hX, hZ, gr, mu, wo, h1, ⟨h2, h3⟩, h4, rfl⟩ := h
  have h2' : mu.length = D.muts.length := h2
  refine ⟨?_, rfl, h2', h1.1⟩
  show [D.pages, D.phase, D.next, (mu.length : Int)] = [D.pages, D.phase, D.next, (D.muts.length : Int)]
  rw [h2']
theorem flat_six : ∀ (L : List (List Int)), (∀ r, r ∈ L → r.length = 6) → L.flatten.length = 6 * L.length
  | [], _ => rfl
  | r :: L, h => by
    rw [List.flatten_cons, List.length_append, flat_six L (fun r hr => h r (List.mem_cons_of_mem _ hr)), h r (List.mem_cons_self ..), List.length_cons]
    omega
theorem HeapForm.flat {D : WD} (h : HeapForm D) : D.muts.length ≤ 3 ∧ D.muts.flatten.length ≤ 1000 := by
  have h1 := h.geo.2.2.2.2.2.2
  have h2 := flat_six D.muts fun r hr => by
    obtain ⟨k, hk, rfl⟩ := List.getElem_of_mem hr
    exact h.roots k _ (List.getElem?_eq_getElem hk)
  omega
end Go.Proofs.YtpaepkcfdnddgaaGreat
