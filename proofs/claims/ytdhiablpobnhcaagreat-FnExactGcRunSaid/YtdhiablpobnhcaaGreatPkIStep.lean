import Derived.Test.YtdhiablpobnhcaaGreatPkIStepA
import Derived.Test.YtdhiablpobnhcaaGreatPkIIdx
import Derived.ScopeJumps
import Derived.WalkMore

/-
  The contracts of the steps of the program's phases, and of phaseOf.
-/
namespace Go.Proofs.YtdhiablpobnhcaaGreat
open Go.RowKit
set_option linter.unusedVariables false
set_option linter.unusedSimpArgs false

/-- At a jump: the slots, and what the world meets. -/
def AtAct (A : Act) (R : World → Prop) (a : Act) (w : World) : Prop := a = A ∧ R w

set_option maxRecDepth 100000 in
set_option maxHeartbeats 8000000 in
theorem istep_0 (base B : Nat) (S : Shape) (D : WD) (hG : Going D) (hp : D.phase = 0) (w0 : World) (h : VarW w0 base B S D) :
    Calls Tryz.prog 248 #[.agg #[], .pointer (some ⟨B, 0, none⟩)] w0 fun e w' => e = .returned (.tuple #[]) ∧ SteppedTo D base B w' ∧ Below base w0 w' := by
  have hle0 := Nat.le_of_lt (Nat.lt_of_le_of_lt h.le h.lt)
  have h' := Lib.hid (h.below (below_box w0 (.cells #[] 171)))
  have b0 := Lib.hid (show Below base w0 (w0.alloc (.cells #[] 171)) from (below_box w0 (.cells #[] 171)).mono hle0)
  have hle := Lib.hid (show base ≤ (w0.alloc (.cells #[] 171)).heap.size by simp; omega)
  have hG' := Lib.hid hG
  have hp' := Lib.hid hp
  clear h
  generalize hw : w0.alloc (.cells #[] 171) = w at h' b0 hle
  have hw' := Lib.hid hw
  have h := h'.out
  have g6 := h.cell 6 (.int .i64 0) (by rw [← hp]; rfl)
  have f6 := h.frz 6
  have y := Lib.hid (show SteppedTo D base B w from ⟨S, D, .inl ⟨hp, rfl⟩, h⟩)
  clear h hG hp g6 f6 hw
  go_enter Tryz.func248, Tryz.ntmps248
  go_wp2_with fail
  go_end0
  rw [hw'.out]
  exact ⟨rfl, y.out, b0.out⟩
set_option maxRecDepth 100000 in
set_option maxHeartbeats 8000000 in
theorem istep_3 (base B : Nat) (S : Shape) (D : WD) (hG : Going D) (hp : D.phase = 3) (w0 : World) (h : VarW w0 base B S D) :
    Calls Tryz.prog 239 #[.agg #[], .pointer (some ⟨B, 0, none⟩)] w0 fun e w' => e = .returned (.tuple #[]) ∧ SteppedTo D base B w' ∧ Below base w0 w' := by
  have hle0 := Nat.le_of_lt (Nat.lt_of_le_of_lt h.le h.lt)
  have h' := Lib.hid (h.below (below_box w0 (.cells #[] 169)))
  have b0 := Lib.hid (show Below base w0 (w0.alloc (.cells #[] 169)) from (below_box w0 (.cells #[] 169)).mono hle0)
  have hle := Lib.hid (show base ≤ (w0.alloc (.cells #[] 169)).heap.size by simp; omega)
  have hG' := Lib.hid hG
  have hp' := Lib.hid hp
  clear h
  generalize hw : w0.alloc (.cells #[] 169) = w at h' b0 hle
  have hw' := Lib.hid hw
  have h := h'.out
  have g6 := h.cell 6 (.int .i64 3) (by rw [← hp]; rfl)
  have f6 := h.frz 6
  have v1 := h.phase 4
  have y := Lib.hid (show SteppedTo D base B _ from ⟨S, _, .inr (.inr (.inr (.inl ⟨hp, rfl⟩))), v1.1⟩)
  have b1 := Lib.hid v1.2
  clear h hG hp v1 hw
  go_enter Tryz.func239, Tryz.ntmps239
  go_upto_region 1 with fail
  rw [hw'.out]
  go_wp2_with fail
  go_end0
  exact ⟨rfl, y.out, b0.out.trans b1.out⟩
set_option maxRecDepth 100000 in
set_option maxHeartbeats 8000000 in
theorem istep_1 (base B : Nat) (S : Shape) (D : WD) (hG : Going D) (hp : D.phase = 1) (w0 : World) (h : VarW w0 base B S D) :
    Calls Tryz.prog 236 #[.agg #[], .pointer (some ⟨B, 0, none⟩)] w0 fun e w' => e = .returned (.tuple #[]) ∧ SteppedTo D base B w' ∧ Below base w0 w' := by
  have hle0 := Nat.le_of_lt (Nat.lt_of_le_of_lt h.le h.lt)
  have h' := Lib.hid (h.below (below_box w0 (.cells #[] 167)))
  have b0 := Lib.hid (show Below base w0 (w0.alloc (.cells #[] 167)) from (below_box w0 (.cells #[] 167)).mono hle0)
  have hle := Lib.hid (show base ≤ (w0.alloc (.cells #[] 167)).heap.size by simp; omega)
  have hG' := Lib.hid hG
  have hp' := Lib.hid hp
  clear h
  generalize hw : w0.alloc (.cells #[] 167) = w at h' b0 hle
  have hw' := Lib.hid hw
  have h := h'.out
  have g6 := h.cell 6 (.int .i64 1) (by rw [← hp]; rfl)
  have f6 := h.frz 6
  obtain ⟨am, cm, hvm⟩ := own_slice h.own.muts
  have hvm' := Lib.hid hvm
  have hml : D.muts.length ≤ 9223372036854775807 := by have hmx := h.rd.parts.2.2.2.1; obtain ⟨_, _, _, hml, _⟩ := hmx; unfold maxLen at hml; omega
  have g7 := h.cell 7 (.int .i64 D.next) rfl
  have g5 := h.cell 5 S.vm rfl
  rw [hvm] at g5
  have f7 := h.frz 7
  have n0 := hG.gc.2.1.1
  have n1 := hG.gc.2.1.2.1
  clear h hG hp hvm hw
  by_cases c : D.next = (D.muts.length : Int)
  case pos =>
    have hc := Lib.hid c
    have d1 : (D.next == (D.muts.length : Int)) = true := beq_iff_eq.2 c
    have v1 := h'.out.phase 2
    have v2 := Lib.hid (v1.1.next 0)
    have y := Lib.hid (show ∀ w', Below w.heap.size w w' → VarW ((w'.setCell ⟨B, 6, none⟩ (.int .i64 2)).setCell ⟨B, 7, none⟩ (.int .i64 0)) base B S { D with phase := 2, next := 0 } ∧ Below base w0 ((w'.setCell ⟨B, 6, none⟩ (.int .i64 2)).setCell ⟨B, 7, none⟩ (.int .i64 0)) from fun w' hb =>
      have v1 := (h'.out.below hb).phase 2
      have v2 := v1.1.next 0
      ⟨v2.1, b0.out.trans ((hb.mono hle.out).trans (v1.2.trans v2.2))⟩)
    clear v1 v2
    clear c n0 n1
    go_enter Tryz.func236, Tryz.ntmps236
    go_wp2_with fail
    rw [hw'.out]
    refine wp_scope_jumps 0 (AtAct ({ tmps := #[.agg #[], .pointer (some ⟨B, 0, none⟩), .pointer (some ⟨w0.heap.size, 0, none⟩), undef, .pointer (some ⟨B, 0, none⟩), .pointer (some ⟨B, 0, none⟩), .pointer (some ⟨B, 6, none⟩), .pointer (some ⟨B, 7, none⟩), .int .i64 D.next, .pointer (some ⟨B, 0, none⟩), .pointer (some ⟨B, 0, none⟩), .pointer (some ⟨B, 5, none⟩), .slice am D.muts.length cm, .int .i64 (D.muts.length : Int), .bool true, undef, undef, undef, undef, undef, undef, undef, undef, undef, undef, undef, undef, undef, undef, undef, undef, undef, undef, undef, undef, undef, undef, undef, undef, undef, undef, undef, undef, undef, undef, undef, undef], defers := [] }) fun w' => Hid (Below w.heap.size w w')) (fun _ _ => 0) rfl ?first ?pass
    case first =>
      go_wp2_with fail
      go_quiet (fail)
      go_wp2_with fail
      go_step3
      exact ⟨rfl, rfl, Lib.hid (below_drewN (Below.refl _ _) nq)⟩
    case pass =>
      rintro a' w1 ⟨rfl, hb1⟩
      have g6' := cell_below hb1.out g6
      have g7' := cell_below hb1.out g7
      have f6' := (h'.out.below hb1.out).frz 6
      have f7' := (h'.out.below hb1.out).frz 7
      have z := Lib.hid (y.out _ hb1.out)
      clear g6 g7 g5 f6 f7 y
      go_wp2_with fail
      simp only [Exit.jump]
      go_end0
      exact ⟨rfl, ⟨S, { D with phase := 2, next := 0 }, .inr (.inl ⟨hp'.out, .inr ⟨hc.out, rfl⟩⟩), z.out.1⟩, z.out.2⟩
  obtain ⟨n, hn⟩ := nat_of n0
  have hn' := Lib.hid hn
  have d1 : (D.next == (D.muts.length : Int)) = false := beq_eq_false_iff_ne.2 c
  rw [hn] at g7 c d1
  have hnl : n < D.muts.length := by omega
  have hnl1 : (n : Int) < (D.muts.length : Int) := by omega
  obtain ⟨r, hr⟩ : ∃ r, D.muts[n]? = some r := ⟨_, List.getElem?_eq_getElem hnl⟩
  have hr' := Lib.hid hr
  obtain ⟨u, hu⟩ : ∃ u, S.mv[n]? = some u := ⟨_, List.getElem?_eq_getElem (by have := h'.out.own.mvl; omega)⟩
  obtain ⟨ar, cr, rfl⟩ := own_slice (h'.out.own.innerM n r u hr hu)
  have hu' := Lib.hid hu
  obtain ⟨gm, cm', hgm⟩ : ∃ g c, S.vm = .slice (some ⟨g, 0, none⟩) D.muts.length c := by
    rcases h'.out.own.muts.2 with ⟨_, h0⟩ | ⟨g, cap, cur, e, _⟩
    · omega
    · exact ⟨g, cap, e⟩
  obtain ⟨rfl, rfl⟩ : am = some ⟨gm, 0, none⟩ ∧ cm = cm' := by have := hvm'.out.symm.trans hgm; simpa using this
  have xr : w.cell? ⟨gm, n, none⟩ = some (.slice ar r.length cr) := by
    have hrow := h'.out.own.muts
    rw [hgm] at hrow
    have := hrow.cellAt n (by have := h'.out.own.mvl; omega)
    rw [this]
    exact hu
  have hr6 := Lib.hid (show r.length = 6 from hG'.out.form.roots n r hr)
  clear hr hu hgm n0 n1 c
  go_enter Tryz.func236, Tryz.ntmps236
  go_wp2_with fail
  rw [hw'.out]
  go_step3
  go_wp2_with fail
  go_quiet (fail)
  go_upto_region 2 with fail
  have v1 := Lib.hid (h'.out.drewN nq)
  have B1 := Lib.hid (show Below base w0 (w.drewN nq) from below_drewN b0.out nq)
  have hle1 := Lib.hid (show base ≤ (w.drewN nq).heap.size from hle.out)
  have g5' : (w.drewN nq).cell? ⟨B, 5, none⟩ = some (.slice (some ⟨gm, 0, none⟩) D.muts.length cm) := g5
  have g7' : (w.drewN nq).cell? ⟨B, 7, none⟩ = some (.int .i64 (n : Int)) := g7
  have xr' : (w.drewN nq).cell? ⟨gm, n, none⟩ = some (.slice ar r.length cr) := xr
  generalize w.drewN nq = w1 at *
  clear g5 g6 g7 f6 f7 xr d1
  refine wp_region_lateW (fun w' => w'.cell? ⟨B, 5, none⟩ = some (.slice (some ⟨gm, 0, none⟩) D.muts.length cm) ∧ w'.cell? ⟨B, 7, none⟩ = some (.int .i64 (n : Int)) ∧ w'.cell? ⟨gm, n, none⟩ = some (.slice ar r.length cr)) (fun j => j == 14) (by kernel_rfl) ?_
  intro w3 hw3
  have v3 := Lib.hid (show VarW w3 base B S D from hw3 ▸ v1.out.drew)
  have B3 := Lib.hid (show Below base w0 w3 from hw3 ▸ below_drewN B1.out 1)
  have hle3 := Lib.hid (show base ≤ w3.heap.size from hw3 ▸ hle1.out)
  have h0 : (fun w' => w'.cell? ⟨B, 5, none⟩ = some (.slice (some ⟨gm, 0, none⟩) D.muts.length cm) ∧ w'.cell? ⟨B, 7, none⟩ = some (.int .i64 (n : Int)) ∧ w'.cell? ⟨gm, n, none⟩ = some (.slice ar r.length cr)) w3 := hw3 ▸ ⟨g5', g7', xr'⟩
  clear hw3 g5' g7' xr'
  have hvw := Lib.hid (viewOf_new B _ D hG'.out.form w3 v3.out.rd v3.out.boxW)
  have hcall := Lib.hid (fun (w4 : World) (V g m : Nat) (M : DataW Unit) (hb : Below w3.heap.size w3 w4) (hvi : ViewIs D w4 V B g m M) (hge : w3.heap.size ≤ V) =>
    ishadeAll_any base B V g m M S D r ar cr hG'.out (hG'.out.ints.muts r (List.mem_of_getElem? hr'.out)) (by have := hr6.out; omega) w4 (v3.out.below hb) hvi (fun hm => by
      rcases List.mem_cons.1 hm with rfl | hm
      · have := v3.out.lt
        omega
      · have := (v3.out.own.lt V hm).2
        omega) fun w' S' E hv hs hm => hs.roots hv hm hr'.out hu'.out)
  refine wpLate_free (i := 0) (v := ?vq1) rfl (by kernel_rfl) (by kernel_rfl) (by kernel_rfl) rfl (fun _ _ _ h => h) (Or.inl ⟨by rfl, ?hyq1⟩) (fun _ => h0) ?restq1
  case hyq1 => (intro w _; go_simp; try with_reducible rfl)
  try simp only [Act.put, List.setIfInBounds_toArray, List.set_cons_zero, List.set_cons_succ]
  refine wpLate_free (i := 2) (v := ?vq2) rfl (by kernel_rfl) (by kernel_rfl) (by kernel_rfl) rfl (fun _ _ _ h => h) (Or.inl ⟨by rfl, ?hyq2⟩) (fun _ => h0) ?restq2
  case hyq2 => (intro w _; go_simp; try with_reducible rfl)
  try simp only [Act.put, List.setIfInBounds_toArray, List.set_cons_zero, List.set_cons_succ]
  refine wpLate_free (i := 3) (v := ?vq3) rfl (by kernel_rfl) (by kernel_rfl) (by kernel_rfl) rfl (fun _ _ _ h => h) (Or.inl ⟨by rfl, ?hyq3⟩) (fun _ => h0) ?restq3
  case hyq3 => (intro w _; go_simp; try with_reducible rfl)
  try simp only [Act.put, List.setIfInBounds_toArray, List.set_cons_zero, List.set_cons_succ]
  refine wpLate_free (i := 4) (v := ?vq4) rfl (by kernel_rfl) (by kernel_rfl) (by kernel_rfl) rfl (fun _ _ _ h => h) (Or.inl ⟨by rfl, ?hyq4⟩) (fun _ => h0) ?restq4
  case hyq4 => (intro w _; go_simp; try with_reducible rfl)
  try simp only [Act.put, List.setIfInBounds_toArray, List.set_cons_zero, List.set_cons_succ]
  refine wpLate_take (i := 5) (v := ?vq5) rfl (by kernel_rfl) (by kernel_rfl) (by kernel_rfl) (by kernel_rfl) (fun j hj => by simp at hj; subst hj; kernel_rfl) (fun _ _ _ h => h) (Or.inl ⟨by rfl, ?hyq5⟩) (by exact h0) ?restq5
  case hyq5 => (intro w hSw; (try dsimp only at hSw); obtain ⟨s0, s1, s2⟩ := hSw; go_simp; try with_reducible rfl)
  try simp only [Act.put, List.setIfInBounds_toArray, List.set_cons_zero, List.set_cons_succ]
  refine wpLate_free (i := 6) (v := ?vq6) rfl (by kernel_rfl) (by kernel_rfl) (by kernel_rfl) rfl (fun _ _ _ h => h) (Or.inl ⟨by rfl, ?hyq6⟩) (fun _ => h0) ?restq6
  case hyq6 => (intro w _; go_simp; try with_reducible rfl)
  try simp only [Act.put, List.setIfInBounds_toArray, List.set_cons_zero, List.set_cons_succ]
  refine wpLate_free (i := 7) (v := ?vq7) rfl (by kernel_rfl) (by kernel_rfl) (by kernel_rfl) rfl (fun _ _ _ h => h) (Or.inl ⟨by rfl, ?hyq7⟩) (fun _ => h0) ?restq7
  case hyq7 => (intro w _; go_simp; try with_reducible rfl)
  try simp only [Act.put, List.setIfInBounds_toArray, List.set_cons_zero, List.set_cons_succ]
  refine wpLate_free (i := 8) (v := ?vq8) rfl (by kernel_rfl) (by kernel_rfl) (by kernel_rfl) rfl (fun _ _ _ h => h) (Or.inl ⟨by rfl, ?hyq8⟩) (fun _ => h0) ?restq8
  case hyq8 => (intro w _; go_simp; try with_reducible rfl)
  try simp only [Act.put, List.setIfInBounds_toArray, List.set_cons_zero, List.set_cons_succ]
  refine wpLate_free (i := 9) (v := ?vq9) rfl (by kernel_rfl) (by kernel_rfl) (by kernel_rfl) rfl (fun _ _ _ h => h) (Or.inl ⟨by rfl, ?hyq9⟩) (fun _ => h0) ?restq9
  case hyq9 => (intro w _; go_simp; try with_reducible rfl)
  try simp only [Act.put, List.setIfInBounds_toArray, List.set_cons_zero, List.set_cons_succ]
  refine wpLate_take (i := 10) (v := ?vq10) rfl (by kernel_rfl) (by kernel_rfl) (by kernel_rfl) (by kernel_rfl) (fun j hj => by simp at hj; subst hj; kernel_rfl) (fun _ _ _ h => h) (Or.inl ⟨by rfl, ?hyq10⟩) (by exact h0) ?restq10
  case hyq10 => (intro w hSw; (try dsimp only at hSw); obtain ⟨s0, s1, s2⟩ := hSw; go_simp; try with_reducible rfl)
  try simp only [Act.put, List.setIfInBounds_toArray, List.set_cons_zero, List.set_cons_succ]
  refine wpLate_free (i := 11) (v := ?vq11) rfl (by kernel_rfl) (by kernel_rfl) (by kernel_rfl) rfl (fun _ _ _ h => h) (Or.inl ⟨by rfl, ?hyq11⟩) (fun _ => h0) ?restq11
  case hyq11 => (intro w _; go_simp; try with_reducible rfl)
  try simp only [Act.put, List.setIfInBounds_toArray, List.set_cons_zero, List.set_cons_succ]
  refine wpLate_free (i := 12) (v := ?vq12) rfl (by kernel_rfl) (by kernel_rfl) (by kernel_rfl) rfl (fun _ _ _ h => h) (Or.inl ⟨by rfl, ?hyq12⟩) (fun _ => h0) ?restq12
  case hyq12 => (intro w _; go_simp; try with_reducible rfl)
  try simp only [Act.put, List.setIfInBounds_toArray, List.set_cons_zero, List.set_cons_succ]
  refine wpLate_take (i := 13) (v := ?vq13) rfl (by kernel_rfl) (by kernel_rfl) (by kernel_rfl) (by kernel_rfl) (fun j hj => by simp at hj; subst hj; kernel_rfl) (fun _ _ _ h => h) (Or.inl ⟨by rfl, ?hyq13⟩) (by exact h0) ?restq13
  case hyq13 => (intro w hSw; (try dsimp only at hSw); obtain ⟨s0, s1, s2⟩ := hSw; go_simp; try with_reducible rfl)
  try simp only [Act.put, List.setIfInBounds_toArray, List.set_cons_zero, List.set_cons_succ]
  refine wpLate_all (rs := [1]) (by kernel_rfl) (by simp) ?_
  intro i hi
  simp only [List.mem_cons, List.not_mem_nil, or_false] at hi
  subst hi
  refine wpLate_step (i := 1) rfl (fun K hK => ?_)
  go_simp
  go_wp2_with (go_at_call 49; refine hvw.out.mono ?_; rintro e w4 ⟨V, g, m, M, rfl, hvi, hge, b4⟩; have hvi' := Lib.hid hvi; have hge' := Lib.hid hge; have b4' := Lib.hid b4; clear hvi hge b4)
  refine hK.out _ _ (fun _ => ⟨cell_below b4'.out h0.1, cell_below b4'.out h0.2.1, cell_below b4'.out h0.2.2⟩) ?_
  clear hK K
  try simp only [Act.put, List.setIfInBounds_toArray, List.set_cons_zero, List.set_cons_succ]
  refine wpLate_all (rs := [14]) (by kernel_rfl) (by simp) ?_
  intro i hi
  simp only [List.mem_cons, List.not_mem_nil, or_false] at hi
  subst hi
  refine wpLate_step (i := 14) rfl (fun K hK => ?_)
  go_simp
  go_wp2_with (go_at_call 237; refine (hcall.out w4 V g m M b4'.out hvi'.out hge'.out).mono ?_; rintro e w5 ⟨rfl, S4, E4, st⟩; have st4 := Lib.hid st; clear st)
  refine hK.out _ _ (fun h => Bool.noConfusion ((h 14 (by kernel_rfl)).symm.trans (show _ = true by kernel_rfl))) ?_
  clear hK K
  try simp only [Act.put, List.setIfInBounds_toArray, List.set_cons_zero, List.set_cons_succ]
  refine wpLate_done (by kernel_rfl) ?_ _
  have hgo := Lib.hid (st4.out.is.going (hG'.out.ints.muts r (List.mem_of_getElem? hr'.out)) hG'.out)
  have g7 := st4.out.var.cell 7 (.int .i64 (n : Int)) (by show some (Value.int .i64 E4.next) = _; rw [hgo.out.2.2.2.2.1, hn'.out])
  have f7 := st4.out.var.frz 7
  have v5 := st4.out.var.next ((n : Int) + 1)
  have y := Lib.hid (show SteppedTo D base B _ from ⟨S4, _, .inr (.inl ⟨hp'.out, .inl ⟨r, E4, by rw [hn'.out]; omega, by rw [hn'.out]; exact hr'.out, shades_nz st4.out.is hG'.out.form, by rw [hn'.out]⟩⟩), v5.1⟩)
  have b5 := Lib.hid ((B3.out.trans (b4'.out.mono hle3.out)).trans (st4.out.bel.trans v5.2))
  clear v5 h0 hcall hvw
  go_wp2_with fail
  try rw [Exit.noGoto_ret]
  refine bodyPost_ret (v := .tuple #[]) (by simp [results, Tryz.results236, go_sem]) rfl ?_
  exact ⟨rfl, y.out, b5.out⟩
set_option maxRecDepth 100000 in
set_option maxHeartbeats 8000000 in
theorem istep_2 (base B : Nat) (S : Shape) (D : WD) (hG : Going D) (hp : D.phase = 2) (w0 : World) (h : VarW w0 base B S D) :
    Calls Tryz.prog 238 #[.agg #[], .pointer (some ⟨B, 0, none⟩)] w0 fun e w' => e = .returned (.tuple #[]) ∧ SteppedTo D base B w' ∧ Below base w0 w' := by
  have hle0 := Nat.le_of_lt (Nat.lt_of_le_of_lt h.le h.lt)
  have h' := Lib.hid (h.below (below_box w0 (.cells #[] 168)))
  have b0 := Lib.hid (show Below base w0 (w0.alloc (.cells #[] 168)) from (below_box w0 (.cells #[] 168)).mono hle0)
  have hle := Lib.hid (show base ≤ (w0.alloc (.cells #[] 168)).heap.size by simp; omega)
  have hG' := Lib.hid hG
  have hp' := Lib.hid hp
  clear h
  generalize hw : w0.alloc (.cells #[] 168) = w at h' b0 hle
  have hw' := Lib.hid hw
  have h := h'.out
  have g6 := h.cell 6 (.int .i64 2) (by rw [← hp]; rfl)
  have f6 := h.frz 6
  obtain ⟨ag, cg, hvg⟩ := own_slice h.own.grey
  have g8 := h.cell 8 S.vg rfl
  rw [hvg] at g8
  rcases List.eq_nil_or_concat D.grey with hg | ⟨G, a, hg⟩
  · have hg1 := Lib.hid hg
    rw [hg] at g8
    clear h hG hp hvg hg hw
    go_enter Tryz.func238, Tryz.ntmps238
    go_wp2_with fail
    rw [hw'.out]
    refine wp_scope_jumps 0 (AtAct ({ tmps := #[.agg #[], .pointer (some ⟨B, 0, none⟩), .pointer (some ⟨w0.heap.size, 0, none⟩), undef, .pointer (some ⟨B, 0, none⟩), .pointer (some ⟨B, 0, none⟩), .pointer (some ⟨B, 6, none⟩), .pointer (some ⟨B, 8, none⟩), .slice ag 0 cg, .int .i64 0, .bool true, undef, undef, undef, undef, undef, undef, undef], defers := [] }) fun w' => Hid (Below w.heap.size w w')) (fun _ _ => 0) rfl ?first ?pass
    case first =>
      go_wp2_with fail
      go_step3
      exact ⟨rfl, rfl, Lib.hid (Below.refl _ _)⟩
    case pass =>
      rintro a' w1 ⟨rfl, hb1⟩
      have g6' := cell_below hb1.out g6
      have f6' := (h'.out.below hb1.out).frz 6
      have z := Lib.hid ((h'.out.below hb1.out).phase 3)
      clear g6 f6 g8
      go_wp2_with fail
      simp only [Exit.jump]
      go_end0
      exact ⟨rfl, ⟨S, { D with phase := 3 }, .inr (.inr (.inl ⟨hp'.out, .inr ⟨hg1.out, rfl⟩⟩)), z.out.1⟩, b0.out.trans ((hb1.out.mono hle.out).trans z.out.2)⟩
  rw [List.concat_eq_append] at hg
  have hm : D.grey.length = G.length + 1 := by rw [hg]; simp
  have hg' := Lib.hid hg
  have hgl := hG.greyLen
  obtain ⟨k, j, ho, _⟩ := hG.gc.1.2.2 a (by rw [hg]; simp)
  obtain ⟨s, hks, _, _, _⟩ := obj_slot hG.form ho
  have ho' := Lib.hid ho
  have hks' := Lib.hid hks
  rw [hm] at g8
  have d1 : ((G.length : Int) + 1 == 0) = false := beq_eq_false_iff_ne.2 (by omega)
  have hvw := Lib.hid (viewOf_new B _ D hG.form w h.rd h.boxW)
  have hsc := Lib.hid (fun (w4 : World) (V g m : Nat) (M : DataW Unit) (hb : Below w.heap.size w w4) (hvi : ViewIs D w4 V B g m M) (hge : w.heap.size ≤ V) =>
    iscan_any base B V g m M S D G a k j s hG'.out hg'.out ho'.out hks'.out w4 (h'.out.below hb) hvi (fun hm => by
      rcases List.mem_cons.1 hm with rfl | hm
      · have := h'.out.lt
        omega
      · have := (h'.out.own.lt V hm).2
        omega))
  have hgl' : G.length ≤ 1000 := by omega
  clear h hG hp hvg hg hm ho hks hgl hw
  go_enter Tryz.func238, Tryz.ntmps238
  go_wp2_with fail
  rw [hw'.out]
  go_step3
  go_wp2_with fail
  go_wp2_with fail
  refine hvw.out.mono ?_
  rintro e w4 ⟨V, g, m, M, rfl, hvi, hge, b4⟩
  have hs2 := Lib.hid (hsc.out w4 V g m M b4 hvi hge)
  have b4' := Lib.hid (b0.out.trans (b4.mono hle.out))
  clear hvi hge b4 hsc hvw
  go_wp2_with fail
  refine hs2.out.mono ?_
  rintro e w5 ⟨rfl, ⟨S5, E5, hsh, hv5⟩, b5⟩
  have y := Lib.hid (show SteppedTo D base B w5 from ⟨S5, E5, .inr (.inr (.inl ⟨hp'.out, .inl ⟨G, a, k, j, s, hg'.out, ho'.out, hks'.out, hsh⟩⟩)), hv5⟩)
  have b5' := Lib.hid (b4'.out.trans b5)
  clear hsh hv5 b5 hs2
  go_wp2_with fail
  try rw [Exit.noGoto_ret]
  refine bodyPost_ret (v := .tuple #[]) (by simp [results, Tryz.results238, go_sem]) rfl ?_
  exact ⟨rfl, y.out, b5'.out⟩
set_option maxRecDepth 100000 in
set_option maxHeartbeats 8000000 in
theorem istep_4 (base B : Nat) (S : Shape) (D : WD) (hG : Going D) (hp : D.phase = 4) (w0 : World) (h : VarW w0 base B S D) :
    Calls Tryz.prog 240 #[.agg #[], .pointer (some ⟨B, 0, none⟩)] w0 fun e w' => e = .returned (.tuple #[]) ∧ SteppedTo D base B w' ∧ Below base w0 w' := by
  have hle0 := Nat.le_of_lt (Nat.lt_of_le_of_lt h.le h.lt)
  have h' := Lib.hid (h.below (below_box w0 (.cells #[] 170)))
  have b0 := Lib.hid (show Below base w0 (w0.alloc (.cells #[] 170)) from (below_box w0 (.cells #[] 170)).mono hle0)
  have hle := Lib.hid (show base ≤ (w0.alloc (.cells #[] 170)).heap.size by simp; omega)
  have hG' := Lib.hid hG
  have hp' := Lib.hid hp
  clear h
  generalize hw : w0.alloc (.cells #[] 170) = w at h' b0 hle
  have hw' := Lib.hid hw
  have h := h'.out
  have g6 := h.cell 6 (.int .i64 4) (by rw [← hp]; rfl)
  have f6 := h.frz 6
  obtain ⟨aS, cS, hvs⟩ := own_slice h.own.spans
  have hvs' := Lib.hid hvs
  have g4 := h.cell 4 S.vs rfl
  rw [hvs] at g4
  have hls : D.spans.length ≤ 1000 := by have := hG.form.spans; have := hG.form.geo.2.2.2.2.1; omega
  have hrs := h.rd.parts.2.2.1
  rw [hvs] at hrs
  have hix := Lib.hid (idx_unswept (.slice aS D.spans.length cS) D.spans w hrs)
  clear h hG hp hvs hrs hw
  by_cases hall : ∀ s, s ∈ D.spans → s.swept = true
  · have hall' := Lib.hid hall
    clear hall
    go_enter Tryz.func240, Tryz.ntmps240
    go_wp2_with fail
    rw [hw'.out]
    refine wp_scope_jumps 0 (AtAct ({ tmps := #[.agg #[], .pointer (some ⟨B, 0, none⟩), .pointer (some ⟨w0.heap.size, 0, none⟩), undef, .int .i64 (-1), undef, .pointer (some ⟨B, 0, none⟩), .pointer (some ⟨B, 0, none⟩), .pointer (some ⟨B, 4, none⟩), .slice aS D.spans.length cS, .int .i64 (-1), .int .i64 (-1), .bool true, undef, undef, undef, undef, undef, undef, undef, undef, undef, undef, undef, undef, undef, undef, undef, undef, undef, undef, undef, undef, undef, undef, undef], defers := [] }) fun w' => Hid (VarW w' base B S D) ∧ Hid (Below base w0 w')) (fun _ _ => 0) rfl ?first ?pass
    case first =>
      go_wp2_with fail
      refine hix.out.mono ?_
      rintro e w1 ⟨r, rfl, hf, b1⟩
      have b1' := Lib.hid (b0.out.trans (b1.mono hle.out))
      have v1 := Lib.hid (h'.out.below b1)
      obtain rfl : r = -1 := by
        rcases hf.out with ⟨k, s, _, hks, hsw, _⟩ | ⟨hr, _⟩
        · have := hall'.out s (List.mem_of_getElem? hks)
          rw [hsw] at this
          cases this
        · exact hr
      clear b1 hix hf g6 g4 f6
      go_wp2_with fail
      go_step3
      exact ⟨rfl, rfl, v1, b1'⟩
    case pass =>
      rintro a' w1 ⟨rfl, v1, b1'⟩
      clear g6 g4 f6 hix
      have g6' := v1.out.cell 6 (.int .i64 D.phase) rfl
      have g4' := v1.out.cell 4 S.vs rfl
      rw [hvs'.out] at g4'
      have f6' := v1.out.frz 6
      have v2 := Lib.hid (v1.out.phase 0)
      have B2 := Lib.hid (b1'.out.trans v2.out.2)
      go_wp2_with fail
      go_loopw [25] (fun i wr => ∃ k : Nat, k ≤ D.spans.length ∧ i = .int .i64 k ∧ Hid (VarW wr base B S { D with phase := 0, spans := freshK D.spans k }) ∧ Hid (Below base w0 wr)) (fun i _ => D.spans.length - (Go.RowKit.intOf i).toNat)
      case atStart => exact ⟨0, Nat.zero_le _, rfl, Lib.hid v2.out.1, B2⟩
      case round =>
        clear g6' g4' f6'
        obtain ⟨k, hk, rfl, hv, hB⟩ := hrel
        have g4 := hv.out.cell 4 S.vs rfl
        rw [hvs'.out] at g4
        by_cases hlt : k < D.spans.length
        · have hlt1 : (k : Int) < (D.spans.length : Int) := by omega
          obtain ⟨s, hks⟩ : ∃ s, D.spans[k]? = some s := ⟨_, List.getElem?_eq_getElem hlt⟩
          obtain ⟨hk1, hk2⟩ := freshK_next hks
          have hgs0 : ∃ g c, S.vs = .slice (some ⟨g, 0, none⟩) (freshK D.spans k).length c := hv.out.headS (by show 0 < (freshK D.spans k).length; rw [freshK_len]; omega)
          obtain ⟨gs, cs, hgs⟩ := hgs0
          obtain ⟨p, hp⟩ := hv.out.svAt (i := k) (s := s) hk1
          have hgs2 := hgs
          rw [freshK_len] at hgs2
          obtain ⟨rfl, rfl⟩ : aS = some ⟨gs, 0, none⟩ ∧ cS = cs := by have := hvs'.out.symm.trans hgs2; simpa using this
          have x3 := (hv.out.six (D := { D with phase := 0, spans := freshK D.spans k }) hgs hk1 hp).2.2.2.1
          have f3 := hv.out.frzS (D := { D with phase := 0, spans := freshK D.spans k }) hgs (k * 6 + 3)
          have v3 := hv.out.swept (D := { D with phase := 0, spans := freshK D.spans k }) hgs k s p false hk1 hp
          have hv3 := Lib.hid (show VarW _ base B S { D with phase := 0, spans := freshK D.spans (k + 1) } from by rw [hk2]; exact v3.1)
          have hB3 := Lib.hid (hB.out.trans v3.2)
          clear hks hk1 hk2 hgs hgs2 hp v3
          go_wp2_with fail
          go_roundw
          case rel => exact ⟨k + 1, by omega, by go_num, hv3, hB3⟩
          case measure => simp [Go.RowKit.intOf]; omega
        · obtain rfl : k = D.spans.length := by omega
          have y := Lib.hid (show SteppedTo D base B wr from ⟨S, { D with phase := 0, spans := D.spans.map freshenS }, .inr (.inr (.inr (.inr ⟨hp'.out, .inr ⟨hall'.out, rfl⟩⟩))), by have := hv.out; rwa [freshK_all] at this⟩)
          go_wp2_with fail
          simp only [Exit.jump]
          go_end0
          exact ⟨rfl, y.out, hB.out⟩
  · have hall' := Lib.hid hall
    clear hall
    go_enter Tryz.func240, Tryz.ntmps240
    go_wp2_with fail
    rw [hw'.out]
    go_step3
    go_wp2_with fail
    refine hix.out.mono ?_
    rintro e w1 ⟨r, rfl, hf, b1⟩
    have b1' := Lib.hid (b0.out.trans (b1.mono hle.out))
    have v1 := Lib.hid (h'.out.below b1)
    clear b1 hix g6 g4 f6
    rcases hf.out with ⟨k, s, hr, hks, hsw, hprev⟩ | ⟨hr, hno⟩
    case inr => exact absurd (fun s hs => by have := hno s hs; cases h : s.swept <;> simp_all) hall'.out
    subst hr
    have hu := Lib.hid (show Unswept D k s from ⟨hks, hsw, fun q t hq ht => by have := hprev q t hq ht; cases h : t.swept <;> simp_all⟩)
    have hsp := Lib.hid (isweep_any base B S D k s hG'.out.form hks w1 v1.out)
    have d1 : decide ((k : Int) < 0) = false := decide_eq_false (by omega)
    clear hks hsw hprev hf
    go_wp2_with fail
    refine hsp.out.mono ?_
    rintro e w2 ⟨rfl, ⟨S2, E2, hsi, hv2⟩, b2⟩
    have y := Lib.hid (show SteppedTo D base B w2 from ⟨S2, E2, .inr (.inr (.inr (.inr ⟨hp'.out, .inl ⟨k, s, hu.out, hsi⟩⟩))), hv2⟩)
    have b2' := Lib.hid (b1'.out.trans b2)
    clear hsi hv2 b2 hsp
    go_wp2_with fail
    try rw [Exit.noGoto_ret]
    refine bodyPost_ret (v := .tuple #[]) (by simp [results, Tryz.results240, go_sem]) rfl ?_
    exact ⟨rfl, y.out, b2'.out⟩

set_option maxHeartbeats 1000000 in
theorem phaseOf_0 (B : Nat) (w : World) (g6 : w.cell? ⟨B, 6, none⟩ = some (.int .i64 0)) : Calls Tryz.prog 99 #[.pointer (some ⟨B, 0, none⟩)] w fun e w' => e = .returned (.iface 171 (.agg #[])) ∧ w = w' := by
  go_enter Tryz.func99, Tryz.ntmps99
  go_wp2_with fail
  go_ret
  exact ⟨rfl, rfl⟩
theorem stepOf_0 (w : World) : (method (Tryz.prog.types.size + Made.depth) 171 (.agg #[]) "loop.example/g00690/impl.step").run Tryz.prog w = .ok (248, .agg #[]) w := by kernel_rfl
set_option maxHeartbeats 1000000 in
theorem phaseOf_1 (B : Nat) (w : World) (g6 : w.cell? ⟨B, 6, none⟩ = some (.int .i64 1)) : Calls Tryz.prog 99 #[.pointer (some ⟨B, 0, none⟩)] w fun e w' => e = .returned (.iface 167 (.agg #[])) ∧ w = w' := by
  go_enter Tryz.func99, Tryz.ntmps99
  go_wp2_with fail
  go_ret
  exact ⟨rfl, rfl⟩
theorem stepOf_1 (w : World) : (method (Tryz.prog.types.size + Made.depth) 167 (.agg #[]) "loop.example/g00690/impl.step").run Tryz.prog w = .ok (236, .agg #[]) w := by kernel_rfl
set_option maxHeartbeats 1000000 in
theorem phaseOf_2 (B : Nat) (w : World) (g6 : w.cell? ⟨B, 6, none⟩ = some (.int .i64 2)) : Calls Tryz.prog 99 #[.pointer (some ⟨B, 0, none⟩)] w fun e w' => e = .returned (.iface 168 (.agg #[])) ∧ w = w' := by
  go_enter Tryz.func99, Tryz.ntmps99
  go_wp2_with fail
  go_ret
  exact ⟨rfl, rfl⟩
theorem stepOf_2 (w : World) : (method (Tryz.prog.types.size + Made.depth) 168 (.agg #[]) "loop.example/g00690/impl.step").run Tryz.prog w = .ok (238, .agg #[]) w := by kernel_rfl
set_option maxHeartbeats 1000000 in
theorem phaseOf_3 (B : Nat) (w : World) (g6 : w.cell? ⟨B, 6, none⟩ = some (.int .i64 3)) : Calls Tryz.prog 99 #[.pointer (some ⟨B, 0, none⟩)] w fun e w' => e = .returned (.iface 169 (.agg #[])) ∧ w = w' := by
  go_enter Tryz.func99, Tryz.ntmps99
  go_wp2_with fail
  go_ret
  exact ⟨rfl, rfl⟩
theorem stepOf_3 (w : World) : (method (Tryz.prog.types.size + Made.depth) 169 (.agg #[]) "loop.example/g00690/impl.step").run Tryz.prog w = .ok (239, .agg #[]) w := by kernel_rfl
set_option maxHeartbeats 1000000 in
theorem phaseOf_4 (B : Nat) (w : World) (g6 : w.cell? ⟨B, 6, none⟩ = some (.int .i64 4)) : Calls Tryz.prog 99 #[.pointer (some ⟨B, 0, none⟩)] w fun e w' => e = .returned (.iface 170 (.agg #[])) ∧ w = w' := by
  go_enter Tryz.func99, Tryz.ntmps99
  go_wp2_with fail
  go_ret
  exact ⟨rfl, rfl⟩
theorem stepOf_4 (w : World) : (method (Tryz.prog.types.size + Made.depth) 170 (.agg #[]) "loop.example/g00690/impl.step").run Tryz.prog w = .ok (240, .agg #[]) w := by kernel_rfl
end Go.Proofs.YtdhiablpobnhcaaGreat
