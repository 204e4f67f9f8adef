/-
  FnExactCardsOf returns true for all ints, and changes nothing that was there. No conditions.
-/
import Derived.Test.YtagjhmbchgdlcaaRows
import Derived.Test.YtagjhmbchgdlcaaSpecCards
import Derived.Test.YtagjhmbchgdlcaaInts
import Derived.ChangeOld
import Derived.Below
import Derived.WalkKit
import Derived.ProofKit
import Derived.OpenShut
import Derived.ShutString
namespace Go.Proofs.Ytagjhmbchgdlcaa.fnExactCardsOf
open Go.ChangeShapes Go.WideShapes Go.ChangeAt Go.RowKit
open Go.ChangeMaps (open_string shut_string)
set_option linter.unusedVariables false      -- a walk need not use every 'w<i>' (that an integer argument fits its kind)

theorem own : ownKnob Try.prog.godebug = none := by kernel_rfl

theorem laidOut : laidOutB Try.prog = true := by kernel_rfl

theorem grown_of_below {w w' : World} (h : Below w.heap.size w w') : w.grownBy w' none := ⟨h.os, h.tape, h.output, h.size, fun k hk _ => h.block k hk⟩
theorem own_below {w w' : World} {base size n : Nat} {e : TypeId} {v : Value} {xs : List Value} (h : w.ownsRow base e size v n xs) (hb : Below w.heap.size w w') : w'.ownsRow base e size v n xs :=
  h.kept (grown_of_below hb) (by cases v.ownBlock <;> simp)
theorem own_apart {w w1 w' : World} {base base' size n n' : Nat} {e : TypeId} {v v' : Value} {xs ys : List Value} (h : w.ownsRow base e size v n xs) (hlt : w.heap.size ≤ base') (hb : Below w.heap.size w w1) (h' : w1.ownsRow base' e size v' n' ys) (hg : w1.grownBy w' v'.ownBlock) : w'.ownsRow base e size v n xs := by
  refine (own_below h hb).kept hg ?_
  cases hv : v.ownBlock with
  | none => exact .inl rfl
  | some k =>
    refine .inr fun he => ?_
    have h1 := (h.lt k hv).2
    have h2 := (h'.lt k he.symm).1
    omega

theorem cards_short (f m : Int) : (cardsL f m).length ≤ 5 := by
  unfold cardsL
  split
  · simp
  · rw [upto_length]
    exact cnt_le (by omega) (by omega)

set_option maxHeartbeats 1000000 in
theorem walk (a0 : Int) (a1 : Int) (w : World) :
    Calls Try.prog 8 #[.int .i64 a0, .int .i64 a1] w fun e w' => e = .returned (.bool true) ∧ Below w.heap.size w w' := by
  have hs := cards_short a0 a1
  have hL : (cardsL a0 a1).length ≤ maxLen := by unfold maxLen; omega
  obtain ⟨L, hLe⟩ : ∃ L, L = cardsL a0 a1 := ⟨_, rfl⟩
  have c1 := spec_cardsOf_any a0 a1
  have c2 := cardsOf_any a0 a1
  rw [← hLe] at hs hL c1 c2
  clear hLe
  obtain ⟨c1⟩ : Nonempty (Hid _) := ⟨Lib.hid c1⟩
  obtain ⟨c2⟩ : Nonempty (Hid _) := ⟨Lib.hid c2⟩
  go_enter Try.func8, Try.ntmps8
  go_wp2_with fail
  refine (c1.out _).mono ?_
  rintro e w1 ⟨v0, rfl, o0, b0⟩
  go_wp2_with fail
  refine (c2.out _).mono ?_
  rintro e w2 ⟨v1, rfl, o1, b1⟩
  have o0' := own_below o0 b1
  go_wp2_with fail
  refine (eqIntS_same _ _ L hL _ (Rd.of_owns o1) (Rd.of_owns o0')).mono ?_
  rintro e w3 ⟨rfl, n3, rfl⟩
  go_wp2_with fail
  refine (markIntS_any _ _ 1 L (by omega) (by omega) (by omega) _ (show (w2.drewN n3).ownsRow _ 3 1 v1 _ _ from o1)).mono ?_
  rintro e w4 ⟨rfl, o4, g4⟩
  have o0'' := own_apart o0 (Nat.le_refl _) b1 o1 (show w2.grownBy w4 _ from ⟨g4.os, g4.tape, g4.output, g4.size, g4.block⟩)
  have hr4 : Rd w4 v1 (seqL 1 L.length) := Rd.of_owns (by rw [seqL_length]; exact o4)
  go_wp2_with fail
  refine (heldIntS_yes _ 1 L.length (by omega) (by omega) (by omega) _ hr4).mono ?_
  rintro e w5 ⟨rfl, rfl⟩
  go_wp2_with fail
  refine (c2.out _).mono ?_
  rintro e w6 ⟨v2, rfl, o6, b6⟩
  have o0t := own_below o0'' b6
  have o4' := own_below o4 b6
  go_wp2_with fail
  refine (eqIntS_same _ _ L hL _ (Rd.of_owns o6) (Rd.of_owns o0t)).mono ?_
  rintro e w7 ⟨rfl, n7, rfl⟩
  have hr7 : Rd (w6.drewN n7) v1 (seqL 1 L.length) := Rd.of_owns (by rw [seqL_length]; exact o4')
  go_wp2_with fail
  refine (heldIntS_yes _ 1 L.length (by omega) (by omega) (by omega) _ hr7).mono ?_
  rintro e w8 ⟨rfl, rfl⟩
  have s0 := b0.size
  have s1 := b1.size
  have hb2 : Below w.heap.size w w2 := b0.trans (b1.mono s0)
  have hb4 : Below w.heap.size w w4 := row_below (below_drewN hb2 n3) (show (w2.drewN n3).ownsRow w.heap.size 3 1 v1 _ _ from ⟨o1.1, o1.2.imp id fun ⟨g, cap, cur, h1, h2, h3⟩ => ⟨g, cap, cur, h1, Nat.le_trans s0 h2, h3⟩⟩) g4 (by simp; omega)
  have s4 := hb4.size
  have hb6 : Below w.heap.size w (w6.drewN n7) := below_drewN (hb4.trans (b6.mono s4)) n7
  go_wp2_with fail
  go_ret
  exact ⟨rfl, hb6⟩

/-! ### THE ROW's STEP: WRITTEN OUT: LEAVE IT -/
set_option maxRecDepth 100000 in
theorem lifted (os : Os) (started : os.Started) (H : Type) (enc : TypeId × Value → H) :
    ReturnsInHanded {} Try.checked os 8 .any (Rows.fnExactCardsOfSpec.pre6 enc Try.prog Try.f8 Rows.fnExactCardsOfRow.domain false) (Rows.fnExactCardsOfSpec.post enc Try.prog Try.f8 false true false false) := by
  refine returnsInHanded_of_change (C := Try.checked) own started (by kernel_rfl) Try.func8
    (ChangeSpec.witness6 (enc := enc) (C := Try.checked) false ⟨#[], #[.int .i64 0, .int .i64 0], []⟩ 8 (by kernel_rfl) (by kernel_rfl) (by kernel_rfl) (by kernel_rfl)) ?_
  intro W base args ds gs before hval0 hW hcnd _
  have hval : ∀ (j : Nat) t v, Try.f8.params[j]? = some t → args[j]? = some v → Value.okWide Try.prog W .any base t v := hval0
  have hW' := hW
  obtain ⟨p, q, hA0, hV, rfl, hfz, hnd⟩ := hW
  have hA : DataW.TrodAll enc Try.prog W 0 (fun _ => true) true Try.f8.params.toList args.toList ds p := hA0
  rw [Try.params8] at hA hval
  obtain ⟨v0, vs0, d0, ds0, p0, q0, hargs, rfl, rfl, h0, r0⟩ := trodAll_cons hA
  obtain ⟨v1, vs1, d1, ds1, p1, q1, rfl, rfl, rfl, h1, r1⟩ := trodAll_cons r0
  obtain ⟨rfl, rfl, rfl⟩ := trodAll_nil r1
  obtain rfl : args = #[v0, v1] := by cases args; simp_all
  obtain ⟨rfl, rfl⟩ := trodVars_none hV
  obtain ⟨a0, rfl, rfl, rfl, w0⟩ := open_int Try.underlying3 (hval 0 3 v0 rfl rfl) h0
  obtain ⟨a1, rfl, rfl, rfl, w1⟩ := open_int Try.underlying3 (hval 1 3 v1 rfl rfl) h1
  clear hA0 hval0
  refine (walk a0 a1 W).mono fun e W' ⟨he, bel⟩ => ?_
  subst he
  exact ⟨_, rfl, _, _, _, [], _, [], hW', trodAll_mk1 (shut_bool Try.underlying4 _), (trodAll_cons_mk (shut_int Try.underlying3 w0) (trodAll_cons_mk (shut_int Try.underlying3 w1) trodAll_mk0)), rfl, bel.frame _, fun h => by cases h⟩

theorem over : Rows.fnExactCardsOfRow.holds Try.pinned (OpenSpec.ofChange Rows.fnExactCardsOfSpec) :=
  OpenClaim.holds_of_wide 8 Try.f8 rfl rfl rfl rfl rfl rfl rfl ⟨rfl, rfl, rfl, rfl, rfl⟩ rfl rfl rfl rfl rfl (by kernel_rfl) Try.func8 (by kernel_rfl)
    (of_decide_eq_true (by kernel_rfl)) (by unfold Func.isWrapper; first | (rw [if_pos (by decide +kernel)]; kernel_rfl) | (rw [if_neg (by decide +kernel)]; exact ⟨rfl, rfl⟩))
    (fun os started H enc _ => lifted os started H enc)

/-- ████ THE STATEMENT ████ -/
theorem proved : Rows.FnExactCardsOfSaid :=
  over
end Go.Proofs.Ytagjhmbchgdlcaa.fnExactCardsOf
