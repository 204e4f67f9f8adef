/-
  The contracts of the model's l2empty, l2drop.
-/
import Derived.Test.YtajogfnlbdiokaaSGive
import Derived.Deep.RegionLaw
namespace Go.Proofs.Ytajogfnlbdiokaa
open Go.RowKit
set_option linter.unusedVariables false

/-- No slot is used. -/
def EmptyS (s : SpanD) : Prop := ∀ i, i < s.lens.length → ¬ 0 < s.lens[i]?.getD 0
set_option maxHeartbeats 1000000 in
theorem sempty_any (s : SpanD) (vl vp : Value) (w : World) (hl : Rd w vl s.lens) :
    Calls Try.prog 91 #[spanV s vl vp] w fun e w' => IsB (EmptyS s) e ∧ Below w.heap.size w w' := by
  unfold spanV
  obtain ⟨al, cl, rfl, hll, xl⟩ := hl
  unfold maxLen at hll
  have bb := below_box w (.cells #[.int .i64 s.page, .int .i64 s.cls, .int .i64 s.mark, .bool s.swept, .slice al s.lens.length cl, vp] 79)
  have bn := box_new w (.cells #[.int .i64 s.page, .int .i64 s.cls, .int .i64 s.mark, .bool s.swept, .slice al s.lens.length cl, vp] 79)
  have xl' := Lib.hid (fun j (hj : j < s.lens.length) => (xl j hj).elim fun b h => h.elim fun o h => (⟨b, o, h.1, cell_below bb h.2⟩ : ∃ b o, al = some ⟨b, o, none⟩ ∧ (w.alloc _).cell? ⟨b, o + j, none⟩ = some (.int .i64 (s.lens[j]?.getD 0))))
  have f4 := cell_of_heap bn 4 _ rfl
  have bb' := Lib.hid bb
  clear xl bb bn
  go_enter Try.func91, Try.ntmps91
  go_wp2_with fail
  generalize w.alloc (.cells #[.int .i64 s.page, .int .i64 s.cls, .int .i64 s.mark, .bool s.swept, .slice al s.lens.length cl, vp] 79) = W at *
  go_loop [3] (fun i => ∃ k : Nat, k ≤ s.lens.length ∧ i = .int .i64 k ∧ Hid (∀ i, i < k → ¬ 0 < s.lens[i]?.getD 0)) (fun i => s.lens.length - (intOf i).toNat)
  case atStart => exact ⟨0, Nat.zero_le _, rfl, fun i hi => absurd hi (by omega)⟩
  case round =>
    obtain ⟨k, hk, rfl, hz⟩ := hrel
    by_cases hlt : k < s.lens.length
    · have hlt1 : (k : Int) < (s.lens.length : Int) := by omega
      obtain ⟨bl, ol, rfl, xk⟩ := xl'.out k hlt
      have hno := Lib.hid (fun (h : EmptyS s) => h k hlt)
      have hyes := Lib.hid (fun (h : ¬ 0 < s.lens[k]?.getD 0) => (fun i (hi : i < k + 1) => if e : i = k then by subst e; exact h else hz.out i (by omega) : ∀ i, i < k + 1 → ¬ 0 < s.lens[i]?.getD 0))
      clear hz
      generalize s.lens[k]?.getD 0 = l at *
      by_cases hl : 0 < l
      · have n := Lib.hid (show ¬ EmptyS s from fun h => hno.out h hl)
        go_wp2_with fail
        go_ret
        exact ⟨IsB.no n.out, bb'.out⟩
      · have hy := Lib.hid (hyes.out hl)
        go_wp2_with fail
        go_round
        case rel => exact ⟨k + 1, by omega, by go_num, hy⟩
        case measure => simp [intOf]; omega
    · obtain rfl : k = s.lens.length := by omega
      have y := Lib.hid (show EmptyS s from hz.out)
      clear hz
      go_wp2_with fail
      go_ret
      exact ⟨IsB.yes y.out, bb'.out⟩

section
variable {w w1 : World} {base B : Nat} {S : Shape} {D : WD}
/-- The variable's spans are others now: an owned row of them. -/
theorem VarW.newSpans (h : VarW w base B S D) {v : Value} {L : List SpanD} {sv : List (Value × Value)} (r : OwnS w base v L sv) (hn : (({ S with vs := v, sv := sv } : Shape).ints.filterMap Value.ownBlock).Nodup)
    (hB : ∀ x, x ∈ v :: svInts sv → x.ownBlock ≠ some B) :
    VarW (w.setCell ⟨B, 4, none⟩ v) base B { S with vs := v, sv := sv } { D with spans := L } ∧ Below base w (w.setCell ⟨B, 4, none⟩ v) := by
  have c := Chg.of_grown (grown_set w B 4 v) (bs := [B]) (by simp)
  have hne : ∀ k, k ∈ blks S.all → k ∉ [B] := fun k hk hm => h.ne (by rw [List.mem_singleton.1 hm] at hk; exact hk)
  have hm : ∀ x, x ∈ S.all → ∀ q, x.ownBlock = some q → q ∉ [B] := fun x hx q hq => hne q (List.mem_filterMap.2 ⟨x, hx, hq⟩)
  refine ⟨⟨?_, ?_, h.le, ?_⟩, (Below.refl _ _).setCell (p := ⟨B, 4, none⟩) h.le _⟩
  · have := heap_setCell_same w B 4 _ _ v h.box
    simpa [Shape.cells] using this
  · refine .mk' (own_chg h.own.words c (hm _ (by simp [Shape.all]))) (own_chg h.own.dirty c (hm _ (by simp [Shape.all]))) (r.chg c (fun q hq hm => hB v (by simp) (by rw [hq, List.mem_singleton.1 hm])) (fun x hx q hq hm => hB x (by simp [hx]) (by rw [hq, List.mem_singleton.1 hm])))
      (h.own.ownM.chg c (hm _ (by simp [Shape.all])) (fun x hx => hm x (by simp [Shape.all, hx]))) (own_chg h.own.grey c (hm _ (by simp [Shape.all]))) hn
  · intro hB2
    obtain ⟨x, hx, hxB⟩ := List.mem_filterMap.1 hB2
    simp only [Shape.all, List.mem_append, List.mem_cons, List.not_mem_nil, or_false] at hx
    have old : ∀ y, y ∈ S.all → y.ownBlock ≠ some B := fun y hy e => h.ne (List.mem_filterMap.2 ⟨y, hy, e⟩)
    rcases hx with (((rfl | rfl) | (rfl | hx)) | (rfl | hx)) | rfl
    · exact old _ (by simp [Shape.all]) hxB
    · exact old _ (by simp [Shape.all]) hxB
    · exact hB _ (by simp) hxB
    · exact hB x (by simp [hx]) hxB
    · exact old _ (by simp [Shape.all]) hxB
    · exact old x (by simp [Shape.all, hx]) hxB
    · exact old _ (by simp [Shape.all]) hxB
end

theorem flatV_take (L : List SpanD) (sv : List (Value × Value)) (k : Nat) (h : sv.length = L.length) : (flatV L sv).take (k * 6) = flatV (L.take k) (sv.take k) := by
  induction k generalizing L sv with
  | zero => simp [flatV]
  | succ k ih =>
    cases L with
    | nil => simp [flatV]
    | cons s L =>
      cases sv with
      | nil => simp at h
      | cons p sv =>
        have := ih L sv (by simpa using h)
        simp only [flatV, List.take_succ_cons, List.zip_cons_cons, List.flatMap_cons] at this ⊢
        rw [← this, show (k + 1) * 6 = (spanCv s p).length + k * 6 by simp [spanCv]; omega, List.take_length_add_append]
theorem flatV_drop (L : List SpanD) (sv : List (Value × Value)) (k : Nat) (h : sv.length = L.length) : (flatV L sv).drop (k * 6) = flatV (L.drop k) (sv.drop k) := by
  induction k generalizing L sv with
  | zero => simp
  | succ k ih =>
    cases L with
    | nil =>
      cases sv with
      | nil => simp [flatV]
      | cons p sv => simp at h
    | cons s L =>
      cases sv with
      | nil => simp at h
      | cons p sv =>
        have := ih L sv (by simpa using h)
        simp only [flatV, List.drop_succ_cons, List.zip_cons_cons, List.flatMap_cons] at this ⊢
        rw [← this, show (k + 1) * 6 = (spanCv s p).length + k * 6 by simp [spanCv]; omega, List.drop_append]
        simp
theorem flatV_app (L M : List SpanD) (sv mv : List (Value × Value)) (h : sv.length = L.length) : flatV (L ++ M) (sv ++ mv) = flatV L sv ++ flatV M mv := by
  unfold flatV
  rw [List.zip_append (by omega), List.flatMap_append]
theorem oneV (L : List SpanD) (sv : List (Value × Value)) (h : ∀ p, p ∈ sv → p.1.oneCell' = true ∧ p.2.oneCell' = true) : ∀ u, u ∈ flatV L sv → u.oneCell' = true := by
  intro u hu
  obtain ⟨x, hx, hu⟩ := List.mem_flatMap.1 hu
  have hp := h x.2 (List.of_mem_zip hx).2
  simp only [spanCv, List.mem_cons, List.not_mem_nil, or_false] at hu
  rcases hu with rfl | rfl | rfl | rfl | rfl | rfl
  · rfl
  · rfl
  · rfl
  · rfl
  · exact hp.1
  · exact hp.2
theorem step_own {P : Program} {ops : Array Oper} {o : Oper} {a : Act} {w : World} {K : Act → World → Prop} {Q : Exit → Act → World → Prop} {E : Prop} (hg : o.guard = none) (h : o.wp P a w K Q) :
    if Region.wanted o (yielded ops a.tmps) = true then Oper.wp P o a w K Q else E := by
  rw [if_pos (by simp [Region.wanted, hg])]
  exact h
theorem oneV_own {w : World} {base : Nat} {v : Value} {L : List SpanD} {sv : List (Value × Value)} (h : OwnS w base v L sv) : ∀ u, u ∈ flatV L sv → u.oneCell' = true := by
  refine oneV L sv fun p hp => ?_
  obtain ⟨i, hi⟩ := List.mem_iff_getElem?.1 hp
  have hlt := (List.getElem?_eq_some_iff.1 hi).1
  obtain ⟨s, hs⟩ : ∃ s, L[i]? = some s := ⟨_, List.getElem?_eq_getElem (by have := h.len; omega)⟩
  have hin := h.inner i s p hs hi
  have one : ∀ {n : Nat} {x : Value} {xs : List Value}, w.ownsRow base 3 1 x n xs → x.oneCell' = true := fun hx => by
    rcases hx.2 with ⟨rfl, _⟩ | ⟨g, cap, cur, rfl, _⟩ <;> rfl
  exact ⟨one hin.1, one hin.2⟩
theorem own_slice {w : World} {base size n : Nat} {e : TypeId} {v : Value} {xs : List Value} (h : w.ownsRow base e size v n xs) : ∃ a c, v = .slice a n c := by
  rcases h.2 with ⟨rfl, rfl⟩ | ⟨g, cap, cur, rfl, _⟩
  · exact ⟨none, 0, rfl⟩
  · exact ⟨_, _, rfl⟩
theorem erase_eq {α : Type} (L : List α) (k : Nat) : L.eraseIdx k = L.take k ++ L.drop (k + 1) := List.eraseIdx_eq_take_drop_succ L k
theorem svInts_app (a b : List (Value × Value)) : svInts (a ++ b) = svInts a ++ svInts b := by simp [svInts]
theorem svInts_sub (sv : List (Value × Value)) (k : Nat) : (svInts (sv.eraseIdx k)).Sublist (svInts sv) := by
  induction sv generalizing k with
  | nil => simp
  | cons a sv ih =>
    cases k with
    | zero => exact List.sublist_append_right [a.1, a.2] (svInts sv)
    | succ k => exact (List.Sublist.refl [a.1, a.2]).append (ih k)
theorem OwnS.erase {w : World} {base : Nat} {v : Value} {L : List SpanD} {sv : List (Value × Value)} (hin : ∀ (i : Nat) (s : SpanD) (p : Value × Value), L[i]? = some s → sv[i]? = some p → w.ownsRow base 3 1 p.1 s.lens.length (s.lens.map (Value.int .i64)) ∧ w.ownsRow base 3 1 p.2 s.ptrs.length (s.ptrs.map (Value.int .i64)))
    (hl : sv.length = L.length) (k : Nat) (hk : k < L.length) {base' : Nat} (hb : base ≤ base') (hr : w.ownsRow base' 79 6 v (k + (L.length - (k + 1))) ((flatV L sv).take (k * 6) ++ (flatV L sv).drop ((k + 1) * 6))) : OwnS w base v (L.eraseIdx k) (sv.eraseIdx k) := by
  have e : (flatV L sv).take (k * 6) ++ (flatV L sv).drop ((k + 1) * 6) = flatV (L.eraseIdx k) (sv.eraseIdx k) := by
    rw [flatV_take L sv k hl, flatV_drop L sv (k + 1) hl, erase_eq, erase_eq, flatV_app]
    simp [hl]
  have len : (L.eraseIdx k).length = k + (L.length - (k + 1)) := by rw [List.length_eraseIdx]; simp [hk]; omega
  refine ⟨?_, by rw [List.length_eraseIdx, List.length_eraseIdx, hl], fun i s p hs hp => ?_⟩
  · rw [len, ← e]
    exact own_base hr hb
  · rw [List.getElem?_eraseIdx] at hs hp
    split at hs
    · rename_i hik
      rw [if_pos hik] at hp
      exact hin i s p hs hp
    · rename_i hik
      rw [if_neg hik] at hp
      exact hin (i + 1) s p hs hp


set_option maxRecDepth 100000 in
set_option maxHeartbeats 8000000 in
theorem sdrop_any (base B : Nat) (S : Shape) (D : WD) (k : Nat) (s : SpanD) (hk : D.spans[k]? = some s) (hls : D.spans.length ≤ 1000) (w : World) (h : VarW w base B S D) :
    Calls Try.prog 92 #[.pointer (some ⟨B, 0, none⟩), .int .i64 k] w fun e w' => e = .returned (.tuple #[]) ∧ (∃ S', VarW w' base B S' { D with spans := D.spans.eraseIdx k }) ∧ Below base w w' := by
  have hkl := (List.getElem?_eq_some_iff.1 hk).1
  have hkl1 : (k : Int) < (D.spans.length : Int) := by omega
  obtain ⟨gs, cs, hgs⟩ := h.headS (by omega)
  have hcs : D.spans.length ≤ cs := by
    rcases h.own.spans.2 with ⟨hv, _⟩ | ⟨g, cap, cur, hv, _, _, hc, _⟩
    · rw [hgs] at hv; simp at hv
    · rw [hgs] at hv; simp at hv; omega
  have hsmall : cs ≤ 9223372036854775807 := by
    rcases h.own.spans.2 with ⟨hv, _⟩ | ⟨g, cap, cur, hv, _, _, _, hc, _⟩
    · rw [hgs] at hv; simp at hv
    · rw [hgs] at hv; simp at hv; unfold maxLen at hc; omega
  have g4 := h.cell 4 S.vs rfl
  rw [hgs] at g4
  have f4 := h.frz 4
  have hBlt := h.lt
  have hgl : gs < w.heap.size := (h.own.lt gs (List.mem_filterMap.2 ⟨S.vs, by simp [Shape.all], by rw [hgs]; rfl⟩)).2
  have g4b := cell_below (below_box w (.cells #[] 79)) g4
  have hwr : IntKind.i64.wrap ((k : Int) + 1) = (k : Int) + 1 := IntWalk.i64_in _ (by omega)
  have hk0 : (0 : Int) ≤ (k : Int) + 1 := by omega
  have hk1 : ((k : Int) + 1).toNat = k + 1 := by omega
  have hk2 : (k : Int) + 1 ≤ (D.spans.length : Int) := by omega
  have hkc : k ≤ cs := by omega
  have hkk : (k : Int) ≤ (k : Int) + 1 := by omega
  have hkn : k + 1 ≤ D.spans.length := by omega
  obtain ⟨i0, hi, hz0, hz1, hz2⟩ := info_parts infoSpan
  have hown0 := Lib.hid (show (w.alloc (.cells #[] 79)).drew.ownsRow w.heap.size 79 6 (.slice (some ⟨w.heap.size, 0, none⟩) 0 0) 0 [] from
    ⟨by simp, .inr ⟨w.heap.size, 0, #[], rfl, Nat.le_refl _, box_new w _, Nat.le_refl _, by unfold maxLen; omega, by simp, by simp⟩⟩)
  have hrow := h.own.spans
  rw [hgs] at hrow
  have hfl := flatV_len D.spans S.sv h.own.svl
  have hcell := Lib.hid (show ∀ (w' : World), Below w.heap.size w w' → ∀ j u, (flatV D.spans S.sv)[j]? = some u → w'.cell? ⟨gs, j, none⟩ = some u from fun w' hb j u hu => by
    have hj := (List.getElem?_eq_some_iff.1 hu).1
    refine cell_below hb ?_
    rw [hrow.cellAt j (by omega)]
    exact hu)
  have hb0 := Lib.hid (show Below w.heap.size w (w.alloc (.cells #[] 79)).drew from below_drewN (below_box w _) 1)
  have hsrc := Lib.hid (show ∀ j u, ((flatV D.spans S.sv).take (k * 6))[j]? = some u → (w.alloc (.cells #[] 79)).drew.cell? ((⟨gs, 0, none⟩ : Addr).add j) = some u from fun j u hu => by
    rw [show (⟨gs, 0, none⟩ : Addr).add j = ⟨gs, j, none⟩ by rw [Addr.add_lit, Nat.zero_add]]
    refine hcell.out _ hb0.out j u ?_
    have hj := (List.getElem?_eq_some_iff.1 hu).1
    rw [List.length_take] at hj
    rwa [List.getElem?_take_of_lt (by omega)] at hu)
  have hlen := Lib.hid (show ((flatV D.spans S.sv).take (k * 6)).length = k * 6 by rw [List.length_take, hfl]; omega)
  have hone0 := oneV_own h.own.ownS
  have hone := Lib.hid (show ∀ u, u ∈ (flatV D.spans S.sv).take (k * 6) → u.oneCell' = true from fun u hu => hone0 u (List.mem_of_mem_take hu))
  have hone2 := Lib.hid (show ∀ u, u ∈ (flatV D.spans S.sv).drop ((k + 1) * 6) → u.oneCell' = true from fun u hu => hone0 u (List.mem_of_mem_drop hu))
  have hlen2 := Lib.hid (show ((flatV D.spans S.sv).drop ((k + 1) * 6)).length = (D.spans.length - (k + 1)) * 6 by rw [List.length_drop, hfl]; omega)
  have hfin := Lib.hid (show ∀ (v2 : Value) (w2 : World), Below w.heap.size w w2 → w2.ownsRow w.heap.size 79 6 v2 (k + (D.spans.length - (k + 1))) ((flatV D.spans S.sv).take (k * 6) ++ (flatV D.spans S.sv).drop ((k + 1) * 6)) →
      (∃ S', VarW (w2.setCell ⟨B, 4, none⟩ v2) base B S' { D with spans := D.spans.eraseIdx k }) ∧ Below base w (w2.setCell ⟨B, 4, none⟩ v2) from fun v2 w2 hb hr => by
    have hv := h.below hb
    have hle := h.le
    have hS : OwnS w2 base v2 (D.spans.eraseIdx k) (S.sv.eraseIdx k) := OwnS.erase hv.own.inner h.own.svl k hkl (by omega) hr
    have hnew := hv.newSpans hS ?_ ?_
    · exact ⟨⟨_, hnew.1⟩, (hb.mono (by omega)).trans hnew.2⟩
    · have hsub : (({ S with vs := v2, sv := S.sv.eraseIdx k } : Shape).ints).Sublist S.ints := by
        show ((S.vw :: (svInts (S.sv.eraseIdx k))) ++ S.mv ++ [S.vg]).Sublist ((S.vw :: svInts S.sv) ++ S.mv ++ [S.vg])
        exact (((svInts_sub S.sv k).cons_cons _).append (List.Sublist.refl _)).append (List.Sublist.refl _)
      exact h.own.nodup.sublist (hsub.filterMap _)
    · intro x hx
      rcases List.mem_cons.1 hx with rfl | hx
      · intro e
        have := (hr.lt B e).1
        omega
      · intro e
        exact h.ne (List.mem_filterMap.2 ⟨x, by have := (svInts_sub S.sv k).subset hx; simp [Shape.all, this], e⟩))
  clear hk hgs h hrow hfl hone0
  by_cases hne : cs = k + 1
  · subst hne
    have hz0' := Lib.hid (show D.spans.length - (k + 1) = 0 by omega)
    have hz1' := Lib.hid (show (flatV D.spans S.sv).drop ((k + 1) * 6) = [] from List.length_eq_zero_iff.1 (by rw [hlen2.out, hz0'.out]))
    go_enter Try.func92, Try.ntmps92
    go_wp2_with fail
    go_region_law (first
      | (refine step_own rfl (wp_append_own _ (.tmp 5) (.tmp 11) 27 rfl w.heap.size 79 i0 _ 6 80 Try.underlying27 hi hz0 hz1 hz2 rfl (by decide) _ 0 [] rfl hown0.out ⟨gs, 0, none⟩ k _ ((flatV D.spans S.sv).take (k * 6)) rfl hlen.out hsrc.out hone.out (by unfold maxLen; omega) (by omega) (by simp) ?_); intro v1 w1 hown1 hgrow1 hnil1; have hb1 := Lib.hid (show Below w.heap.size w w1 from hb0.out.grown hgrow1 hb0.out.size (fun q hq => by cases hq; exact Nat.le_refl _)); have hown1' := Lib.hid (show w1.ownsRow w.heap.size 79 6 v1 k ((flatV D.spans S.sv).take (k * 6)) by simpa using hown1); have g4c := cell_below hb1.out g4; clear hnil1 hgrow1 hown1)
      | (refine step_own rfl (wp_append_own _ (.tmp 12) (.tmp 19) 27 rfl w.heap.size 79 i0 _ 6 80 Try.underlying27 hi hz0 hz1 hz2 rfl (by decide) v1 k _ rfl hown1'.out ⟨gs, 0, none⟩ 0 _ ([] : List Value) rfl rfl (fun j u h => by simp at h) (fun u h => by simp at h) (by unfold maxLen; omega) (by omega) hb1.out.size ?_); intro v2 w2 hown2 hgrow2 hnil2; obtain ⟨a2, c2, rfl⟩ := own_slice hown2; have hb2 := Lib.hid (show Below w.heap.size w w2 from hb1.out.grown hgrow2 hb1.out.size (fun q hq => (hown1'.out.lt q hq).1)); have hown2' := Lib.hid (show w2.ownsRow w.heap.size 79 6 _ (k + (D.spans.length - (k + 1))) ((flatV D.spans S.sv).take (k * 6) ++ (flatV D.spans S.sv).drop ((k + 1) * 6)) by rw [hz0'.out, hz1'.out]; exact hown2); have g4d := cell_below hb2.out g4; have f4d : w2.frozen? ⟨B, 4, none⟩ = false := (World.frozen?_of_block (hb2.out.block B hBlt)).trans f4; clear hnil2 hgrow2 hown2))
    all_goals go_wp2
    all_goals go_end0
    all_goals exact ⟨rfl, hfin.out _ _ hb2.out (by have := hown2'.out; exact this)⟩
  · have hsrc2 := Lib.hid (show ∀ (w' : World), Below w.heap.size w w' → ∀ j u, ((flatV D.spans S.sv).drop ((k + 1) * 6))[j]? = some u → w'.cell? ((⟨gs, (k + 1) * 6, none⟩ : Addr).add j) = some u from fun w' hb j u hu => by
      rw [show (⟨gs, (k + 1) * 6, none⟩ : Addr).add j = ⟨gs, (k + 1) * 6 + j, none⟩ from Addr.add_lit ..]
      refine hcell.out _ hb _ u ?_
      rwa [List.getElem?_drop] at hu)
    go_enter Try.func92, Try.ntmps92
    go_wp2_with fail
    go_region_law (first
      | (refine step_own rfl (wp_append_own _ (.tmp 5) (.tmp 11) 27 rfl w.heap.size 79 i0 _ 6 80 Try.underlying27 hi hz0 hz1 hz2 rfl (by decide) _ 0 [] rfl hown0.out ⟨gs, 0, none⟩ k _ ((flatV D.spans S.sv).take (k * 6)) rfl hlen.out hsrc.out hone.out (by unfold maxLen; omega) (by omega) (by simp) ?_); intro v1 w1 hown1 hgrow1 hnil1; have hb1 := Lib.hid (show Below w.heap.size w w1 from hb0.out.grown hgrow1 hb0.out.size (fun q hq => by cases hq; exact Nat.le_refl _)); have hown1' := Lib.hid (show w1.ownsRow w.heap.size 79 6 v1 k ((flatV D.spans S.sv).take (k * 6)) by simpa using hown1); have g4c := cell_below hb1.out g4; clear hnil1 hgrow1 hown1)
      | (refine step_own rfl (wp_append_own _ (.tmp 12) (.tmp 19) 27 rfl w.heap.size 79 i0 _ 6 80 Try.underlying27 hi hz0 hz1 hz2 rfl (by decide) v1 k _ rfl hown1'.out ⟨gs, (k + 1) * 6, none⟩ (D.spans.length - (k + 1)) _ ((flatV D.spans S.sv).drop ((k + 1) * 6)) rfl hlen2.out (hsrc2.out _ hb1.out) hone2.out (by unfold maxLen; omega) (by omega) hb1.out.size ?_); intro v2 w2 hown2 hgrow2 hnil2; obtain ⟨a2, c2, rfl⟩ := own_slice hown2; have hb2 := Lib.hid (show Below w.heap.size w w2 from hb1.out.grown hgrow2 hb1.out.size (fun q hq => (hown1'.out.lt q hq).1)); have hown2' := Lib.hid hown2; have g4d := cell_below hb2.out g4; have f4d : w2.frozen? ⟨B, 4, none⟩ = false := (World.frozen?_of_block (hb2.out.block B hBlt)).trans f4; clear hnil2 hgrow2 hown2))
    all_goals go_wp2
    all_goals go_end0
    all_goals exact ⟨rfl, hfin.out _ _ hb2.out hown2'.out⟩
end Go.Proofs.Ytajogfnlbdiokaa
