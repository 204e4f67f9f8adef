/-
  FnCards returns true for all bytes, and changes nothing that was there. No conditions.
-/
import Derived.Test.YtagjhmbchgdlcaaRows
import Derived.Test.YtagjhmbchgdlcaaAlive
import Derived.StillTailTactics
import Derived.RangeFuncBox
import Derived.WalkKit
import Derived.ProofKit
import Derived.OpenShut
import Derived.ShutString
import Derived.ChangeOld
import Derived.Below
namespace Go.Proofs.Ytagjhmbchgdlcaa.fnCards
open Go.ChangeShapes Go.WideShapes Go.ChangeAt Go.RowKit
open Go.ChangeMaps (open_string shut_string)
set_option linter.unusedVariables false

theorem own : ownKnob Try.prog.godebug = none := by kernel_rfl
theorem laidOut : laidOutB Try.prog = true := by kernel_rfl

/-- WHAT THE WALK IS TOLD OF A SLICE OF INTEGERS THAT CAME IN: it is nil; or it leads to a row of 'cap' cells, the numbers 'zs' (the first 'len' are its elements, the rest its spare room), each fitting its kind. -/
def IsRow (k : IntKind) (w : World) (a : Option Addr) (len cap : Nat) (zs : List Int) : Prop :=
  (a = none ∧ len = 0 ∧ cap = 0 ∧ zs = []) ∨
  ∃ x, a = some x ∧ len ≤ cap ∧ cap ≤ maxLen ∧ zs.length = cap ∧ (∀ i, i < zs.length → w.cell? (x.add i) = some (.int k (zs.getD i 0))) ∧ ∀ n ∈ zs, (Lit.int k n).wf = true

theorem cell_lt {w : World} {a : Addr} {v : Value} (h : w.cell? a = some v) : a.block < w.heap.size := by
  apply Decidable.byContradiction
  intro hn
  have : w.heap[a.block]? = none := Array.getElem?_eq_none (by omega)
  simp [World.cell?, this] at h
theorem bytes_of_row {w : World} {a : Option Addr} {len cap : Nat} {zs : List Int} (h : IsRow .u8 w a len cap zs) : Bytes w a len := by
  rcases h with ⟨rfl, rfl, rfl, rfl⟩ | ⟨x, rfl, hl, hm, hz, hcell, hwz⟩
  · exact ⟨by unfold maxLen; omega, fun j hj => absurd hj (by omega)⟩
  · refine ⟨by omega, fun j hj => ?_⟩
    obtain ⟨b, off, spot⟩ := x
    have hc0 := hcell 0 (by omega)
    obtain rfl : spot = none := by simpa [Addr.add] using World.cell?_spot hc0
    have hc := hcell j (by omega)
    rw [Addr.add_lit] at hc
    have hw := hwz (zs.getD j 0) (by
      have : j < zs.length := by omega
      simp [List.getD, this])
    have hb := bounds_u8 hw
    exact ⟨b, off, zs.getD j 0, rfl, hb.1, by omega, hc⟩
theorem low_of_row {w : World} {a : Option Addr} {len cap : Nat} {zs : List Int} (h : IsRow .u8 w a len cap zs) (h0 : 0 < len) : ∀ x, a = some x → x.block < w.heap.size := by
  rcases h with ⟨rfl, rfl, rfl, rfl⟩ | ⟨x, rfl, hl, hm, hz, hcell, hwz⟩
  · intro x hx; cases hx
  · intro y hy
    obtain rfl := Option.some.inj hy
    have hc := cell_lt (hcell 0 (by omega))
    simpa [Addr.add] using hc

theorem cardsL_on {f n : Int} (h1 : 0 ≤ f) (h2 : f ≤ 1000000) (h3 : 1 ≤ n) (h4 : n ≤ 32) : cardsL f n = upto f (cnt f n) := by
  unfold cardsL; rw [if_neg (by omega)]
theorem mem_upto {f n : Int} (h1 : 0 ≤ f) (h3 : 1 ≤ n) (k : Nat) (hk : (k : Int) < n) : (f + (k : Int)) / 8 ∈ upto f (cnt f n) := by
  unfold upto cnt
  rw [List.mem_map]
  refine ⟨((f + (k : Int)) / 8 - f / 8).toNat, ?_, by omega⟩
  rw [List.mem_range]
  omega
theorem cnt_last {f n : Int} {q : Nat} (h : cnt f n = q + 1) : (f + n - 1) / 8 = f / 8 + (q : Int) := by
  unfold cnt at h; omega

set_option maxHeartbeats 1000000 in
theorem walk (a0 : Option Addr) (len0 cap0 : Nat) (z0 : List Int) (w : World) (w0 : IsRow .u8 w a0 len0 cap0 z0) :
    Calls Try.prog 4 #[.slice a0 len0 cap0] w fun e w' => e = .returned (.bool true) ∧ Below w.heap.size w w' := by
  have hb := Lib.hid (bytes_of_row w0)
  have ha := Lib.hid (low_of_row w0)
  clear w0
  go_enter Try.func4, Try.ntmps4
  go_wp2_with fail
  refine (drawCardsOf_any a0 len0 cap0 w hb.out ha.out).mono ?_
  rintro e w1 ⟨f, n, rfl, hf0, hf1, hn0, hn1, b1⟩
  by_cases hno : f < 0 ∨ 1000000 < f ∨ n < 1 ∨ 32 < n
  · have hc := Lib.hid (cardsOf_no f n hno)
    have hs := Lib.hid b1.size
    have b1h := Lib.hid b1
    by_cases t1 : f < 0
    · clear hno b1
      go_wp2_with (first | (go_at_call 15; refine (hc.out _).mono ?_; rintro e w' ⟨rfl, rfl⟩) | (go_at_call 11; refine (sizes_true _).mono ?_; rintro e w2 ⟨rfl, b2⟩))
      go_ret
      exact ⟨rfl, b1h.out.trans (b2.mono hs.out)⟩
    by_cases t2 : 1000000 < f
    · clear hno b1
      go_wp2_with (first | (go_at_call 15; refine (hc.out _).mono ?_; rintro e w' ⟨rfl, rfl⟩) | (go_at_call 11; refine (sizes_true _).mono ?_; rintro e w2 ⟨rfl, b2⟩))
      go_ret
      exact ⟨rfl, b1h.out.trans (b2.mono hs.out)⟩
    by_cases t3 : n < 1
    · clear hno b1
      go_wp2_with (first | (go_at_call 15; refine (hc.out _).mono ?_; rintro e w' ⟨rfl, rfl⟩) | (go_at_call 11; refine (sizes_true _).mono ?_; rintro e w2 ⟨rfl, b2⟩))
      go_ret
      exact ⟨rfl, b1h.out.trans (b2.mono hs.out)⟩
    have t4 : 32 < n := by omega
    clear hno b1
    go_wp2_with (first | (go_at_call 15; refine (hc.out _).mono ?_; rintro e w' ⟨rfl, rfl⟩) | (go_at_call 11; refine (sizes_true _).mono ?_; rintro e w2 ⟨rfl, b2⟩))
    go_ret
    exact ⟨rfl, b1h.out.trans (b2.mono hs.out)⟩
  · have g1 : 0 ≤ f := by omega
    have g2 : f ≤ 1000000 := by omega
    have g3 : 1 ≤ n := by omega
    have g4 : n ≤ 32 := by omega
    clear hno
    go_wp2_with fail
    refine (cardsOf_any f n _).mono ?_
    rintro e w2 ⟨v, rfl, ho, b2⟩
    rw [cardsL_on g1 g2 g3 g4, upto_length] at ho
    obtain ⟨q, hq⟩ : ∃ q, cnt f n = q + 1 := ⟨cnt f n - 1, by have := cnt_pos (f := f) g3; omega⟩
    have hq5 : q < 5 := by have := cnt_le (f := f) g3 g4; omega
    have hmem := Lib.hid (mem_upto g1 g3)
    rw [hq] at ho hmem
    have hl := cnt_last hq
    have hrd := Lib.hid (Rd.of_owns (w := w2) (base := w1.heap.size) (v := v) (L := upto f (q + 1)) (by rw [upto_length]; exact ho))
    obtain ⟨g, cap, rfl⟩ := ownsRow_succ ho
    have c0 : w2.cell? ⟨g, 0, none⟩ = some (.int .i64 (f / 8)) := by
      rw [ho.cellAt 0 (by omega)]; simp [upto]
    have cq : w2.cell? ⟨g, q, none⟩ = some (.int .i64 (f / 8 + (q : Int))) := by
      rw [ho.cellAt q (by omega)]; simp [upto]
    have b12 := Lib.hid (b1.trans (b2.mono b1.size))
    have hU : (upto f (q + 1)).length ≤ maxLen := by rw [upto_length]; unfold maxLen; omega
    have hlh := Lib.hid hl
    clear hl b1 b2 ho hq
    go_wp2_with fail
    go_loop [6] (fun i => ∃ k : Nat, (k : Int) ≤ n ∧ i = .int .i64 k) (fun i => n.toNat - (intOf i).toNat)
    case atStart => exact ⟨0, by omega, rfl⟩
    case round =>
      obtain ⟨k, hk, rfl⟩ := hrel
      by_cases hlt : (k : Int) < n
      · go_wp2_with (go_at_call 16; refine (has_yes _ _ (upto f (q + 1)) hU _ hrd.out (hmem.out k hlt)).mono ?_; rintro e w' ⟨rfl, rfl⟩)
        go_round
        case rel => exact ⟨k + 1, by omega, by go_num⟩
        case measure => simp [intOf]; omega
      · have hl := hlh.out
        clear hk
        go_wp2_with fail
        have e1 : IntKind.i64.wrap (f.tdiv 8) = f / 8 := by rw [Int.tdiv_eq_ediv_of_nonneg g1]; exact IntWalk.i64_in _ (by omega)
        have e2 : IntKind.i64.wrap (f + n) = f + n := IntWalk.i64_in _ (by omega)
        have e3 : IntKind.i64.wrap (f + n - 1) = f + n - 1 := IntWalk.i64_in _ (by omega)
        have e4 : IntKind.i64.wrap ((f + n - 1).tdiv 8) = f / 8 + (q : Int) := by rw [Int.tdiv_eq_ediv_of_nonneg (by omega), hl]; exact IntWalk.i64_in _ (by omega)
        have e5 : IntKind.i64.wrap (f / 8 + (q : Int) - f / 8) = (q : Int) := by rw [show f / 8 + (q : Int) - f / 8 = (q : Int) by omega]; exact IntWalk.i64_in _ (by omega)
        have e6 : IntKind.i64.wrap (q : Int) = (q : Int) := IntWalk.i64_in _ (by omega)
        have e7 : IntKind.i64.wrap ((q : Int) + 1) = (q : Int) + 1 := IntWalk.i64_in _ (by omega)
        have e8 : f / 8 + (q : Int) - f / 8 = (q : Int) := by omega
        have e9 : (q : Int) < (q : Int) + 1 := by omega
        clear hl
        go_still_tail 37, (by kernel_rfl)
        clear e1 e2 e3 e4 e5 e6 e7 e8 e9
        change wpList _ _ _ _ _ w2.drew
        go_wp2_with (go_at_call 11; refine (sizes_true _).mono ?_; rintro e w3 ⟨rfl, b3⟩)
        go_ret
        exact ⟨rfl, b12.out.drew.trans (b3.mono b12.out.size)⟩

/-! ### THE ROW's STEP: WRITTEN OUT: LEAVE IT -/
set_option maxRecDepth 100000 in
theorem lifted (os : Os) (started : os.Started) (H : Type) (enc : TypeId × Value → H) :
    ReturnsInHanded {} Try.checked os 4 .any (Rows.fnCardsSpec.pre6 enc Try.prog Try.f4 Rows.fnCardsRow.domain false) (Rows.fnCardsSpec.post enc Try.prog Try.f4 false true false false) := by
  refine returnsInHanded_of_change (C := Try.checked) own started (by kernel_rfl) Try.func4
    (ChangeSpec.witness6 (enc := enc) (C := Try.checked) false ⟨#[], #[.slice none 0 0], []⟩ 8 (by kernel_rfl) (by kernel_rfl) (by kernel_rfl) (by kernel_rfl)) ?_
  intro W base args ds gs before hval0 hW hcnd _
  have hval : ∀ (j : Nat) t v, Try.f4.params[j]? = some t → args[j]? = some v → Value.okWide Try.prog W .any base t v := hval0
  have hW' := hW
  obtain ⟨p, q, hA0, hV, rfl, hfz, hnd⟩ := hW
  have hA : DataW.TrodAll enc Try.prog W 0 (fun _ => true) true Try.f4.params.toList args.toList ds p := hA0
  rw [Try.params4] at hA hval
  obtain ⟨v0, vs0, d0, ds0, p0, q0, hargs, rfl, rfl, h0, r0⟩ := trodAll_cons hA
  obtain ⟨rfl, rfl, rfl⟩ := trodAll_nil r0
  obtain rfl : args = #[v0] := by cases args; simp_all
  obtain ⟨rfl, rfl⟩ := trodVars_none hV
  obtain ⟨a0, len0, cap0, rfl⟩ := okWide_slice Try.underlying22 (hval 0 22 v0 rfl rfl)
  have k0 := h0
  have lt0 : ∀ x ∈ p0, x.block < W.heap.size := by obtain ⟨m, hm⟩ := k0; exact DataW.trod_lt m _ _ _ hm
  obtain ⟨z0, w0⟩ : ∃ zs, IsRow .u8 W a0 len0 cap0 zs := by
    obtain ⟨fuel, hf⟩ := h0
    rcases open_ints Try.underlying22 Try.underlying5 (by kernel_rfl) hf with ⟨hcs, _⟩ | ⟨x, l, c, zs, hcs, _, hl, hm, hz, _, hcell, hwz⟩
    · simp [Value.cells] at hcs
      obtain ⟨rfl, rfl, rfl⟩ := hcs
      exact ⟨[], .inl ⟨rfl, rfl, rfl, rfl⟩⟩
    · simp [Value.cells] at hcs
      obtain ⟨rfl, rfl, rfl⟩ := hcs
      exact ⟨zs, .inr ⟨_, rfl, hl, hm, by simpa using hz, hcell, hwz⟩⟩
  clear hA0 hval0
  refine (walk a0 len0 cap0 z0 W w0).mono fun e W' ⟨he, bel⟩ => ?_
  subst he
  exact ⟨_, rfl, _, _, _, [], _, [], hW', trodAll_mk1 (shut_bool Try.underlying4 _), (trodAll_cons_mk (Below.trod laidOut (by kernel_rfl) (of_decide_eq_true (by kernel_rfl)) k0 bel lt0) trodAll_mk0), rfl, bel.frame _, fun h => by cases h⟩

theorem over : Rows.fnCardsRow.holds Try.pinned (OpenSpec.ofChange Rows.fnCardsSpec) :=
  OpenClaim.holds_of_wide 4 Try.f4 rfl rfl rfl rfl rfl rfl rfl ⟨rfl, rfl, rfl, rfl, rfl⟩ rfl rfl rfl rfl rfl (by kernel_rfl) Try.func4 (by kernel_rfl)
    (of_decide_eq_true (by kernel_rfl)) (by unfold Func.isWrapper; first | (rw [if_pos (by decide +kernel)]; kernel_rfl) | (rw [if_neg (by decide +kernel)]; exact ⟨rfl, rfl⟩))
    (fun os started H enc _ => lifted os started H enc)

/-- ████ THE STATEMENT ████ -/
theorem proved : Rows.FnCardsSaid := over
end Go.Proofs.Ytagjhmbchgdlcaa.fnCards
