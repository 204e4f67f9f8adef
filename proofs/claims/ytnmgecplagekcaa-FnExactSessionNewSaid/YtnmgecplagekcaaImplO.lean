/-
  The program's WorldNew: its contract where the numbers make a World.
-/
import Derived.Test.YtnmgecplagekcaaImplI
namespace Go.Proofs.Ytnmgecplagekcaa
open Go.RowKit
set_option linter.unusedVariables false
set_option linter.unusedSimpArgs false

def putZ (a : Act) (x8 x23 x24 x25 x26 x27 x28 x29 x30 x31 x32 x33 : Value) : Act := ((((((((((((a.put (some 8) x8).put (some 23) x23).put (some 24) x24).put (some 25) x25).put (some 26) x26).put (some 27) x27).put (some 28) x28).put (some 29) x29).put (some 30) x30).put (some 31) x31).put (some 32) x32).put (some 33) x33)
theorem newZV_step {b p m : Int} {l l' : Nat → Bool} {i : Nat} {x23 x24 x25 x26 x28 x29 x31 : Value} (h : NewZV b p m l x23 x24 x25 x26 x28 x29 x31) (hl : ∀ j, j ≠ i → l' j = l j) (hi : i = 4 ∨ i = 7 ∨ i = 9 ∨ i = 10 ∨ i = 11 ∨ i = 12) : NewZV b p m l' x23 x24 x25 x26 x28 x29 x31 := by
  unfold NewZV at *
  rw [hl 0 (by omega), hl 1 (by omega), hl 2 (by omega), hl 3 (by omega), hl 5 (by omega), hl 6 (by omega), hl 8 (by omega)]
  exact h
set_option maxRecDepth 100000 in
set_option maxHeartbeats 40000000 in
theorem iworldNew_yes (b : Int) (p m : Nat) (g : Geo b p m) (w : World) :
    Calls Try.prog 10 #[.int .i64 b, .int .i64 p, .int .i64 m] w fun e w' => ∃ S, e = .returned (.tuple #[S.val (newD b p m), .bool true]) ∧ OwnW w' w.heap.size S (newD b p m) ∧ Below w.heap.size w w' := by
  obtain ⟨g1, g2, g3⟩ := geo_iff.1 g
  have cb := Lib.hid (fun w => baseOk_eq g1 w)
  have cp := Lib.hid (fun w => pagesOk_eq g2 w)
  have cm := Lib.hid (fun w => isIn_eq g3 w)
  obtain ⟨-, -, -, hp0, hp1, hm0, hm1⟩ := g
  have hp' := Lib.hid (show p ≤ 1024 by omega)
  have hm' := Lib.hid (show m ≤ 1024 by omega)
  have cw := Lib.hid (fun w => wordsOf_any p (by omega) (by omega) w)
  have cc := Lib.hid (fun w => cardsOf_at p (by omega) (by omega) w)
  have e1 : ((p * 32 : Nat) : Int) = (p : Int) * 32 := by omega
  have e2 : ((p * 4 : Nat) : Int) = (p : Int) * 4 := by omega
  have m1 := run_make_row' (P := Try.prog) 22 3 (.int .i64 0) 8 Try.underlying22 infoInt rfl .i64 .i64 (p * 32) (by omega) (by omega)
  have m2 := run_make_row' (P := Try.prog) 23 4 (.bool false) 1 Try.underlying23 infoBool rfl .i64 .i64 (p * 4) (by omega) (by omega)
  simp only [e1] at m1
  simp only [e2] at m2
  have bx := Lib.hid (box_new w (.cells zeroBox 29))
  have bb := Lib.hid (below_box w (.cells zeroBox 29))
  clear e1 e2 g1 g2 g3
  go_enter Try.func10, Try.ntmps10
  go_upto_region 3 with (first
    | (go_at_call 18; refine (cb.out _).mono ?_; rintro e w' ⟨rfl, rfl⟩)
    | (go_at_call 19; refine (cp.out _).mono ?_; rintro e w' ⟨rfl, rfl⟩)
    | (go_at_call 20; refine (cm.out _).mono ?_; rintro e w' ⟨rfl, rfl⟩))
  refine wp_region_invA (fun a l a' wr => ∃ x8 x23 x24 x25 x26 x27 x28 x29 x30 x31 x32 x33 mv, a' = putZ a x8 x23 x24 x25 x26 x27 x28 x29 x30 x31 x32 x33 ∧ Hid (NewZV b p m (fun j => l.getD j false) x23 x24 x25 x26 x28 x29 x31) ∧ Hid (NewZ w wr b p m (fun j => l.getD j false) x8 x27 x30 x32 x33 mv)) (by kernel_rfl) ?_ ?_ ?_
  · refine ⟨undef, undef, undef, undef, undef, undef, undef, undef, undef, undef, undef, undef, [], ?_, Lib.hid ?_, Lib.hid ?_⟩
    · simp only [putZ, Act.put, List.setIfInBounds_toArray, List.set_cons_zero, List.set_cons_succ]
    · unfold NewZV
      simp
    · exact ⟨below_drewN bb.out 1, by simp [World.drew], bx.out, by simp, by simp, by simp, by simp, by simp, by simp, by simp⟩
  · intro l a' wr i hls hI hr
    obtain ⟨x8, x23, x24, x25, x26, x27, x28, x29, x30, x31, x32, x33, mv, rfl, hV, hZ⟩ := hI
    have hls' : l.size = 13 := hls
    have hlt : i < 13 := ready_lt hr
    have hn := Lib.hid (not_listed (ready_not hr))
    have hne := Lib.hid (show ∀ j, j ≠ i → (l.setIfInBounds i true).getD j false = l.getD j false from fun j h => getD_set_ne false (Ne.symm h))
    have hself := Lib.hid (show (l.setIfInBounds i true).getD i false = true from listed_at (by omega))
    clear hls hls'
    rcases (show i = 0 ∨ i = 1 ∨ i = 2 ∨ i = 3 ∨ i = 4 ∨ i = 5 ∨ i = 6 ∨ i = 7 ∨ i = 8 ∨ i = 9 ∨ i = 10 ∨ i = 11 ∨ i = 12 by omega) with rfl | rfl | rfl | rfl | rfl | rfl | rfl | rfl | rfl | rfl | rfl | rfl | rfl
    · refine wpOp_step rfl (fun K hK0 => ?_)
      have hK := Lib.hid hK0
      clear hK0
      simp only [putZ, Act.put, List.setIfInBounds_toArray, List.set_cons_zero, List.set_cons_succ]
      go_simp
      refine hK.out _ _ ?_
      clear hK K
      exact ⟨x8, (.int .i64 b), x24, x25, x26, x27, x28, x29, x30, x31, x32, x33, mv, by simp only [putZ, Act.put, List.setIfInBounds_toArray, List.set_cons_zero, List.set_cons_succ], Lib.hid ⟨fun e => rfl, fun e => hV.out.2.1 ((hne.out 1 (by decide)).symm.trans e), fun e => hV.out.2.2.1 ((hne.out 2 (by decide)).symm.trans e), fun e => hV.out.2.2.2.1 ((hne.out 3 (by decide)).symm.trans e), fun e => hV.out.2.2.2.2.1 ((hne.out 5 (by decide)).symm.trans e), fun e => hV.out.2.2.2.2.2.1 ((hne.out 6 (by decide)).symm.trans e), fun e => hV.out.2.2.2.2.2.2 ((hne.out 8 (by decide)).symm.trans e)⟩, Lib.hid (hZ.out.skip fun j hj => hne.out j (by omega))⟩
    · refine wpOp_step rfl (fun K hK0 => ?_)
      have hK := Lib.hid hK0
      clear hK0
      simp only [putZ, Act.put, List.setIfInBounds_toArray, List.set_cons_zero, List.set_cons_succ]
      go_simp
      refine hK.out _ _ ?_
      clear hK K
      exact ⟨x8, x23, (.int .i64 p), x25, x26, x27, x28, x29, x30, x31, x32, x33, mv, by simp only [putZ, Act.put, List.setIfInBounds_toArray, List.set_cons_zero, List.set_cons_succ], Lib.hid ⟨fun e => hV.out.1 ((hne.out 0 (by decide)).symm.trans e), fun e => rfl, fun e => hV.out.2.2.1 ((hne.out 2 (by decide)).symm.trans e), fun e => hV.out.2.2.2.1 ((hne.out 3 (by decide)).symm.trans e), fun e => hV.out.2.2.2.2.1 ((hne.out 5 (by decide)).symm.trans e), fun e => hV.out.2.2.2.2.2.1 ((hne.out 6 (by decide)).symm.trans e), fun e => hV.out.2.2.2.2.2.2 ((hne.out 8 (by decide)).symm.trans e)⟩, Lib.hid (hZ.out.skip fun j hj => hne.out j (by omega))⟩
    · refine wpOp_step rfl (fun K hK0 => ?_)
      have hK := Lib.hid hK0
      clear hK0
      simp only [putZ, Act.put, List.setIfInBounds_toArray, List.set_cons_zero, List.set_cons_succ]
      go_simp
      refine hK.out _ _ ?_
      clear hK K
      exact ⟨x8, x23, x24, (.int .i64 p), x26, x27, x28, x29, x30, x31, x32, x33, mv, by simp only [putZ, Act.put, List.setIfInBounds_toArray, List.set_cons_zero, List.set_cons_succ], Lib.hid ⟨fun e => hV.out.1 ((hne.out 0 (by decide)).symm.trans e), fun e => hV.out.2.1 ((hne.out 1 (by decide)).symm.trans e), fun e => rfl, fun e => hV.out.2.2.2.1 ((hne.out 3 (by decide)).symm.trans e), fun e => hV.out.2.2.2.2.1 ((hne.out 5 (by decide)).symm.trans e), fun e => hV.out.2.2.2.2.2.1 ((hne.out 6 (by decide)).symm.trans e), fun e => hV.out.2.2.2.2.2.2 ((hne.out 8 (by decide)).symm.trans e)⟩, Lib.hid (hZ.out.skip fun j hj => hne.out j (by omega))⟩
    · have d2 := dep_done hr 2 (by kernel_rfl)
      obtain rfl := hV.out.2.2.1 d2
      refine wpOp_step rfl (fun K hK0 => ?_)
      have hK := Lib.hid hK0
      clear hK0
      simp only [putZ, Act.put, List.setIfInBounds_toArray, List.set_cons_zero, List.set_cons_succ]
      go_simp
      go_wp2_with (go_at_call 21; refine (cw.out _).mono ?_; rintro e w' ⟨rfl, rfl⟩)
      refine hK.out _ _ ?_
      clear hK K
      exact ⟨x8, x23, x24, (.int .i64 p), (.int .i64 (p * 32)), x27, x28, x29, x30, x31, x32, x33, mv, by simp only [putZ, Act.put, List.setIfInBounds_toArray, List.set_cons_zero, List.set_cons_succ], Lib.hid ⟨fun e => hV.out.1 ((hne.out 0 (by decide)).symm.trans e), fun e => hV.out.2.1 ((hne.out 1 (by decide)).symm.trans e), fun e => hV.out.2.2.1 ((hne.out 2 (by decide)).symm.trans e), fun e => rfl, fun e => hV.out.2.2.2.2.1 ((hne.out 5 (by decide)).symm.trans e), fun e => hV.out.2.2.2.2.2.1 ((hne.out 6 (by decide)).symm.trans e), fun e => hV.out.2.2.2.2.2.2 ((hne.out 8 (by decide)).symm.trans e)⟩, Lib.hid (hZ.out.skip fun j hj => hne.out j (by omega))⟩
    · have d3 := dep_done hr 3 (by kernel_rfl)
      obtain rfl := hV.out.2.2.2.1 d3
      refine wpOp_step rfl (fun K hK0 => ?_)
      have hK := Lib.hid hK0
      clear hK0
      simp only [putZ, Act.put, List.setIfInBounds_toArray, List.set_cons_zero, List.set_cons_succ]
      go_simp
      refine hK.out _ _ ?_
      clear hK K
      exact ⟨x8, x23, x24, x25, (.int .i64 (p * 32)), (.slice (some ⟨wr.heap.size, 0, none⟩) (p * 32) (p * 32)), x28, x29, x30, x31, x32, x33, mv, by simp only [putZ, Act.put, List.setIfInBounds_toArray, List.set_cons_zero, List.set_cons_succ], Lib.hid (newZV_step hV.out hne.out (by omega)), Lib.hid (hZ.out.words hp'.out hn.out hself.out hne.out)⟩
    · refine wpOp_step rfl (fun K hK0 => ?_)
      have hK := Lib.hid hK0
      clear hK0
      simp only [putZ, Act.put, List.setIfInBounds_toArray, List.set_cons_zero, List.set_cons_succ]
      go_simp
      refine hK.out _ _ ?_
      clear hK K
      exact ⟨x8, x23, x24, x25, x26, x27, (.int .i64 p), x29, x30, x31, x32, x33, mv, by simp only [putZ, Act.put, List.setIfInBounds_toArray, List.set_cons_zero, List.set_cons_succ], Lib.hid ⟨fun e => hV.out.1 ((hne.out 0 (by decide)).symm.trans e), fun e => hV.out.2.1 ((hne.out 1 (by decide)).symm.trans e), fun e => hV.out.2.2.1 ((hne.out 2 (by decide)).symm.trans e), fun e => hV.out.2.2.2.1 ((hne.out 3 (by decide)).symm.trans e), fun e => rfl, fun e => hV.out.2.2.2.2.2.1 ((hne.out 6 (by decide)).symm.trans e), fun e => hV.out.2.2.2.2.2.2 ((hne.out 8 (by decide)).symm.trans e)⟩, Lib.hid (hZ.out.skip fun j hj => hne.out j (by omega))⟩
    · have d5 := dep_done hr 5 (by kernel_rfl)
      obtain rfl := hV.out.2.2.2.2.1 d5
      refine wpOp_step rfl (fun K hK0 => ?_)
      have hK := Lib.hid hK0
      clear hK0
      simp only [putZ, Act.put, List.setIfInBounds_toArray, List.set_cons_zero, List.set_cons_succ]
      go_simp
      go_wp2_with (go_at_call 22; refine (cc.out _).mono ?_; rintro e w' ⟨rfl, rfl⟩)
      refine hK.out _ _ ?_
      clear hK K
      exact ⟨x8, x23, x24, x25, x26, x27, (.int .i64 p), (.int .i64 (p * 4)), x30, x31, x32, x33, mv, by simp only [putZ, Act.put, List.setIfInBounds_toArray, List.set_cons_zero, List.set_cons_succ], Lib.hid ⟨fun e => hV.out.1 ((hne.out 0 (by decide)).symm.trans e), fun e => hV.out.2.1 ((hne.out 1 (by decide)).symm.trans e), fun e => hV.out.2.2.1 ((hne.out 2 (by decide)).symm.trans e), fun e => hV.out.2.2.2.1 ((hne.out 3 (by decide)).symm.trans e), fun e => hV.out.2.2.2.2.1 ((hne.out 5 (by decide)).symm.trans e), fun e => rfl, fun e => hV.out.2.2.2.2.2.2 ((hne.out 8 (by decide)).symm.trans e)⟩, Lib.hid (hZ.out.skip fun j hj => hne.out j (by omega))⟩
    · have d6 := dep_done hr 6 (by kernel_rfl)
      obtain rfl := hV.out.2.2.2.2.2.1 d6
      refine wpOp_step rfl (fun K hK0 => ?_)
      have hK := Lib.hid hK0
      clear hK0
      simp only [putZ, Act.put, List.setIfInBounds_toArray, List.set_cons_zero, List.set_cons_succ]
      go_simp
      refine hK.out _ _ ?_
      clear hK K
      exact ⟨x8, x23, x24, x25, x26, x27, x28, (.int .i64 (p * 4)), (.slice (some ⟨wr.heap.size, 0, none⟩) (p * 4) (p * 4)), x31, x32, x33, mv, by simp only [putZ, Act.put, List.setIfInBounds_toArray, List.set_cons_zero, List.set_cons_succ], Lib.hid (newZV_step hV.out hne.out (by omega)), Lib.hid (hZ.out.cards hp'.out hn.out hself.out hne.out)⟩
    · refine wpOp_step rfl (fun K hK0 => ?_)
      have hK := Lib.hid hK0
      clear hK0
      simp only [putZ, Act.put, List.setIfInBounds_toArray, List.set_cons_zero, List.set_cons_succ]
      go_simp
      refine hK.out _ _ ?_
      clear hK K
      exact ⟨x8, x23, x24, x25, x26, x27, x28, x29, x30, (.int .i64 m), x32, x33, mv, by simp only [putZ, Act.put, List.setIfInBounds_toArray, List.set_cons_zero, List.set_cons_succ], Lib.hid ⟨fun e => hV.out.1 ((hne.out 0 (by decide)).symm.trans e), fun e => hV.out.2.1 ((hne.out 1 (by decide)).symm.trans e), fun e => hV.out.2.2.1 ((hne.out 2 (by decide)).symm.trans e), fun e => hV.out.2.2.2.1 ((hne.out 3 (by decide)).symm.trans e), fun e => hV.out.2.2.2.2.1 ((hne.out 5 (by decide)).symm.trans e), fun e => hV.out.2.2.2.2.2.1 ((hne.out 6 (by decide)).symm.trans e), fun e => rfl⟩, Lib.hid (hZ.out.skip fun j hj => hne.out j (by omega))⟩
    · have d8 := dep_done hr 8 (by kernel_rfl)
      obtain rfl := hV.out.2.2.2.2.2.2 d8
      refine wpOp_step rfl (fun K hK0 => ?_)
      have hK := Lib.hid hK0
      clear hK0
      simp only [putZ, Act.put, List.setIfInBounds_toArray, List.set_cons_zero, List.set_cons_succ]
      go_simp
      go_wp2_with (go_at_call 23; refine (newMuts_any m hm'.out _).mono ?_; rintro e w2 ⟨g, mw, rfl, hl, ho, hi, hf, hb⟩)
      refine hK.out _ _ ?_
      clear hK K
      exact ⟨x8, x23, x24, x25, x26, x27, x28, x29, x30, (.int .i64 m), (sl g m), x33, valsM (rep6 m) mw, by simp only [putZ, Act.put, List.setIfInBounds_toArray, List.set_cons_zero, List.set_cons_succ], Lib.hid (newZV_step hV.out hne.out (by omega)), Lib.hid (hZ.out.users hb (ownM_of (hl.trans (rep6_len m).symm) (by rw [rep6_len]; exact ho) hi) hf.1 hn.out hself.out hne.out)⟩
    · have d0 := dep_done hr 0 (by kernel_rfl)
      have d1 := dep_done hr 1 (by kernel_rfl)
      have d4 := dep_done hr 4 (by kernel_rfl)
      have d7 := dep_done hr 7 (by kernel_rfl)
      have d9 := dep_done hr 9 (by kernel_rfl)
      obtain rfl := hV.out.1 d0
      obtain rfl := hV.out.2.1 d1
      obtain ⟨a27, c27, rfl⟩ := own_slice (hZ.out.r4 d4)
      obtain ⟨a30, c30, rfl⟩ := own_slice (hZ.out.r7 d7)
      obtain ⟨a32, c32, rfl⟩ := own_slice (hZ.out.r9 d9).1.row
      refine wpOp_step rfl (fun K hK0 => ?_)
      have hK := Lib.hid hK0
      clear hK0
      simp only [putZ, Act.put, List.setIfInBounds_toArray, List.set_cons_zero, List.set_cons_succ]
      go_simp
      refine hK.out _ _ ?_
      clear hK K
      exact ⟨_, _, _, _, _, _, _, _, _, _, _, _, mv, by simp only [putZ, Act.put, List.setIfInBounds_toArray, List.set_cons_zero, List.set_cons_succ], Lib.hid (newZV_step hV.out hne.out (by omega)), Lib.hid (hZ.out.built d4 d7 d9 hn.out hne.out)⟩
    · refine wpOp_step rfl (fun K hK0 => ?_)
      have hK := Lib.hid hK0
      clear hK0
      simp only [putZ, Act.put, List.setIfInBounds_toArray, List.set_cons_zero, List.set_cons_succ]
      go_simp
      refine hK.out _ _ ?_
      clear hK K
      exact ⟨(.pointer (some ⟨wr.heap.size, 0, none⟩)), x23, x24, x25, x26, x27, x28, x29, x30, x31, x32, x33, mv, by simp only [putZ, Act.put, List.setIfInBounds_toArray, List.set_cons_zero, List.set_cons_succ], Lib.hid (newZV_step hV.out hne.out (by omega)), Lib.hid (hZ.out.boxed hn.out hne.out)⟩
    · have d10 := dep_done hr 10 (by kernel_rfl)
      have d11 := dep_done hr 11 (by kernel_rfl)
      obtain ⟨rfl, d4, d7, d9⟩ := hZ.out.x10 d10
      obtain ⟨B, rfl, hB0, hB1, _⟩ := hZ.out.x11 d11
      obtain ⟨a27, c27, rfl⟩ := own_slice (hZ.out.r4 d4)
      obtain ⟨a30, c30, rfl⟩ := own_slice (hZ.out.r7 d7)
      obtain ⟨a32, c32, rfl⟩ := own_slice (hZ.out.r9 d9).1.row
      have hq := hB1 hn.out
      have rf := Lib.hid (refill wr B _ _ _ _ _ _ _ _ _ _ (.int .i64 b) (.int .i64 p) (.slice a27 (p * 32) c27) (.slice a30 (p * 4) c30) (.slice none 0 0) (.slice a32 (rep6 m).length c32) (.int .i64 0) (.int .i64 0) (.slice none 0 0) hq)
      have n0 := cell_of_heap hq 0 _ rfl
      have z0 := frozen_of_heap hq 0
      have n1 := cell_of_heap hq 1 _ rfl
      have z1 := frozen_of_heap hq 1
      have n2 := cell_of_heap hq 2 _ rfl
      have z2 := frozen_of_heap hq 2
      have n3 := cell_of_heap hq 3 _ rfl
      have z3 := frozen_of_heap hq 3
      have n4 := cell_of_heap hq 4 _ rfl
      have z4 := frozen_of_heap hq 4
      have n5 := cell_of_heap hq 5 _ rfl
      have z5 := frozen_of_heap hq 5
      have n6 := cell_of_heap hq 6 _ rfl
      have z6 := frozen_of_heap hq 6
      have n7 := cell_of_heap hq 7 _ rfl
      have z7 := frozen_of_heap hq 7
      have n8 := cell_of_heap hq 8 _ rfl
      have z8 := frozen_of_heap hq 8
      clear hq hB1 hB0
      refine wpOp_step rfl (fun K hK0 => ?_)
      have hK := Lib.hid hK0
      clear hK0
      simp only [putZ, Act.put, List.setIfInBounds_toArray, List.set_cons_zero, List.set_cons_succ]
      go_simp
      refine hK.out _ _ ?_
      clear hK K
      exact ⟨_, _, _, _, _, _, _, _, _, _, _, _, mv, by simp only [putZ, Act.put, List.setIfInBounds_toArray, List.set_cons_zero, List.set_cons_succ], Lib.hid (newZV_step hV.out hne.out (by omega)), Lib.hid (hZ.out.stored d10 d11 hn.out rf.out.2 rf.out.1 hself.out hne.out)⟩
  · intro l a' wr hls hI hr
    obtain ⟨x8, x23, x24, x25, x26, x27, x28, x29, x30, x31, x32, x33, mv, rfl, hV, hZ⟩ := hI
    have hd := all_done hls (by kernel_rfl) hr
    have d4 := hd 4 (by decide)
    have d7 := hd 7 (by decide)
    have d9 := hd 9 (by decide)
    have d11 := hd 11 (by decide)
    have d12 := hd 12 (by decide)
    obtain ⟨a27, c27, rfl⟩ := own_slice (hZ.out.r4 d4)
    obtain ⟨a30, c30, rfl⟩ := own_slice (hZ.out.r7 d7)
    obtain ⟨a32, c32, rfl⟩ := own_slice (hZ.out.r9 d9).1.row
    obtain ⟨B, rfl, hB0, _, hB1⟩ := hZ.out.x11 d11
    have boxB := hB1 d12
    have boxR := hZ.out.boxR
    have m0' := cell_of_heap boxB 0 _ rfl
    have n0 := cell_of_heap boxR 0 _ rfl
    have z0 := frozen_of_heap boxR 0
    have m1' := cell_of_heap boxB 1 _ rfl
    have n1 := cell_of_heap boxR 1 _ rfl
    have z1 := frozen_of_heap boxR 1
    have m2' := cell_of_heap boxB 2 _ rfl
    have n2 := cell_of_heap boxR 2 _ rfl
    have z2 := frozen_of_heap boxR 2
    have m3' := cell_of_heap boxB 3 _ rfl
    have n3 := cell_of_heap boxR 3 _ rfl
    have z3 := frozen_of_heap boxR 3
    have m4' := cell_of_heap boxB 4 _ rfl
    have n4 := cell_of_heap boxR 4 _ rfl
    have z4 := frozen_of_heap boxR 4
    have m5' := cell_of_heap boxB 5 _ rfl
    have n5 := cell_of_heap boxR 5 _ rfl
    have z5 := frozen_of_heap boxR 5
    have m6' := cell_of_heap boxB 6 _ rfl
    have n6 := cell_of_heap boxR 6 _ rfl
    have z6 := frozen_of_heap boxR 6
    have m7' := cell_of_heap boxB 7 _ rfl
    have n7 := cell_of_heap boxR 7 _ rfl
    have z7 := frozen_of_heap boxR 7
    have m8' := cell_of_heap boxB 8 _ rfl
    have n8 := cell_of_heap boxR 8 _ rfl
    have z8 := frozen_of_heap boxR 8
    have hneB : ¬ (w.heap.size = B) := by omega
    have hZ' := Lib.hid (hZ.out.own (l := fun j => l.getD j false) d4 d7 d9 ((((((((((Chg.refl [w.heap.size] wr).put (b := w.heap.size) (by simp) 0 (.int .i64 b)).put (b := w.heap.size) (by simp) 1 (.int .i64 p)).put (b := w.heap.size) (by simp) 2 (.slice a27 (p * 32) c27)).put (b := w.heap.size) (by simp) 3 (.slice a30 (p * 4) c30)).put (b := w.heap.size) (by simp) 4 (.slice none 0 0)).put (b := w.heap.size) (by simp) 5 (.slice a32 (rep6 m).length c32)).put (b := w.heap.size) (by simp) 6 (.int .i64 0)).put (b := w.heap.size) (by simp) 7 (.int .i64 0)).put (b := w.heap.size) (by simp) 8 (.slice none 0 0)))
    clear boxB boxR hd hB0 hB1 hr hls hV hZ d4 d7 d9 d11 d12
    simp only [putZ, Act.put, List.setIfInBounds_toArray, List.set_cons_zero, List.set_cons_succ]
    go_wp2_with fail
    refine bodyPost_ret (v := .tuple #[.agg (fullBox b p (.slice a27 (p * 32) c27) (.slice a30 (p * 4) c30) (.slice a32 (rep6 m).length c32)), .bool true]) (by simp [results, Try.results10, go_sem, n0, n1, n2, n3, n4, n5, n6, n7, n8]) rfl ?_
    exact ⟨_, rfl, hZ'.out⟩
end Go.Proofs.Ytnmgecplagekcaa
