import Derived.Test.YtajogfnlbdiokaaImplN
import Derived.Test.YtajogfnlbdiokaaImplO
import Derived.Test.YtajogfnlbdiokaaMgNw
import Derived.WalkKit
import Derived.ProofKit
import Derived.OpenShut
import Derived.ShutString
import Derived.ChangeOld
import Derived.Below

/-
  The program's WorldNew where the numbers make no World.
-/
namespace Go.Proofs.Ytajogfnlbdiokaa
open Go.RowKit
set_option linter.unusedVariables false

set_option maxRecDepth 100000 in
set_option maxHeartbeats 4000000 in
theorem iworldNew_no (b p m : Int) (g : ¬ Geo b p m) (w : World) :
    Calls Try.prog 12 #[.int .i64 b, .int .i64 p, .int .i64 m] w fun e w' => e = .returned (.tuple #[zeroS.val zeroD, .bool false]) ∧ Below w.heap.size w w' := by
  have g' : ¬ (baseB b = true ∧ inB p 1 12 = true ∧ inB m 1 3 = true) := fun h => g (geo_iff.2 h)
  clear g
  have R2 := box_new w (.cells #[.int .i64 0, .int .i64 0, .slice none 0 0, .slice none 0 0, .slice none 0 0, .slice none 0 0, .int .i64 0, .int .i64 0, .slice none 0 0] 32)
  have n0 := cell_of_heap R2 0 _ rfl
  have n1 := cell_of_heap R2 1 _ rfl
  have n2 := cell_of_heap R2 2 _ rfl
  have n3 := cell_of_heap R2 3 _ rfl
  have n4 := cell_of_heap R2 4 _ rfl
  have n5 := cell_of_heap R2 5 _ rfl
  have n6 := cell_of_heap R2 6 _ rfl
  have n7 := cell_of_heap R2 7 _ rfl
  have n8 := cell_of_heap R2 8 _ rfl
  clear R2
  cases h1 : baseB b with
  | false =>
    have cb := Lib.hid (fun w => baseOk_eq h1 w)
    clear g'
    go_enter Try.func12, Try.ntmps12
    go_wp2_with (first
      | (go_at_call 44; refine (cb.out _).mono ?_; rintro e w' ⟨rfl, rfl⟩))
    refine bodyPost_ret (v := .tuple #[zeroS.val zeroD, .bool false]) (by simp [results, Try.results12, go_sem, n0, n1, n2, n3, n4, n5, n6, n7, n8, Shape.val, zeroS, zeroD]) rfl ?_
    exact ⟨rfl, below_box w _⟩
  | true =>
    have cb := Lib.hid (fun w => baseOk_eq h1 w)
    cases h2 : inB p 1 12 with
    | false =>
      have cp := Lib.hid (fun w => pagesOk_eq h2 w)
      clear g'
      go_enter Try.func12, Try.ntmps12
      go_wp2_with (first
        | (go_at_call 44; refine (cb.out _).mono ?_; rintro e w' ⟨rfl, rfl⟩)
        | (go_at_call 45; refine (cp.out _).mono ?_; rintro e w' ⟨rfl, rfl⟩))
      refine bodyPost_ret (v := .tuple #[zeroS.val zeroD, .bool false]) (by simp [results, Try.results12, go_sem, n0, n1, n2, n3, n4, n5, n6, n7, n8, Shape.val, zeroS, zeroD]) rfl ?_
      exact ⟨rfl, below_box w _⟩
    | true =>
      have cp := Lib.hid (fun w => pagesOk_eq h2 w)
      have h3 : inB m 1 3 = false := by
        cases h3 : inB m 1 3 with
        | false => rfl
        | true => exact absurd ⟨h1, h2, h3⟩ g'
      have cm := Lib.hid (fun w => isIn_eq h3 w)
      clear g'
      go_enter Try.func12, Try.ntmps12
      go_wp2_with (first
        | (go_at_call 44; refine (cb.out _).mono ?_; rintro e w' ⟨rfl, rfl⟩)
        | (go_at_call 45; refine (cp.out _).mono ?_; rintro e w' ⟨rfl, rfl⟩)
        | (go_at_call 46; refine (cm.out _).mono ?_; rintro e w' ⟨rfl, rfl⟩))
      refine bodyPost_ret (v := .tuple #[zeroS.val zeroD, .bool false]) (by simp [results, Try.results12, go_sem, n0, n1, n2, n3, n4, n5, n6, n7, n8, Shape.val, zeroS, zeroD]) rfl ?_
      exact ⟨rfl, below_box w _⟩
end Go.Proofs.Ytajogfnlbdiokaa

/-
  The contract of the program's WorldNew.
-/
namespace Go.Proofs.Ytajogfnlbdiokaa
open Go.RowKit
set_option linter.unusedVariables false

theorem iworldNew_any (b p m : Int) (w : World) :
    Calls Try.prog 12 #[.int .i64 b, .int .i64 p, .int .i64 m] w fun e w' => ∃ S D f, NewIs b p m D f ∧ e = .returned (.tuple #[S.val D, .bool f]) ∧ OwnW w' w.heap.size S D ∧ Below w.heap.size w w' := by
  by_cases g : Geo b p m
  · have h := g
    obtain ⟨-, -, -, h1, h2, h3, h4⟩ := h
    obtain ⟨pn, rfl⟩ := Int.eq_ofNat_of_zero_le (show 0 ≤ p by omega)
    obtain ⟨mn, rfl⟩ := Int.eq_ofNat_of_zero_le (show 0 ≤ m by omega)
    exact (iworldNew_yes b pn mn g w).mono fun e w' ⟨S, he, hS, hb⟩ => ⟨S, newD b pn mn, true, .inl ⟨g, by simp, rfl⟩, he, hS, hb⟩
  · exact (iworldNew_no b p m g w).mono fun e w' ⟨he, hb⟩ => ⟨zeroS, zeroD, false, .inr ⟨g, rfl, rfl⟩, he, own_zero _ _, hb⟩
end Go.Proofs.Ytajogfnlbdiokaa

/-
  FnNews returns true for all bytes, and changes nothing that was there. No conditions.
-/
namespace Go.Proofs.Ytajogfnlbdiokaa
open Go.RowKit
theorem heaps_any (w : World) : Calls Try.prog 15 #[] w fun e w' => e = .returned (.bool true) ∧ Below w.heap.size w w' :=
  heaps_gen (newD 64 2 1) hD (newD_form (by unfold Geo; omega)).marks0 (heap_small (by decide)) hD_form.marks0 (heap_small (by decide)) hD_take hD_form hD_find hD_addr hD_used rfl (fun D' f h => hD_give h)
    (fun w => (iworldNew_any 64 2 1 w).mono fun e w' ⟨S, D, f, hn, he, ho, hb⟩ => by
      rcases hn with ⟨_, rfl, rfl⟩ | ⟨h, _⟩
      · exact ⟨S, he, ho, hb⟩
      · exact absurd (show Geo 64 2 1 by unfold Geo; omega) h) w
end Go.Proofs.Ytajogfnlbdiokaa
namespace Go.Proofs.Ytajogfnlbdiokaa.fnNews
open Go.ChangeShapes Go.WideShapes Go.ChangeAt Go.RowKit
open Go.ChangeMaps (open_string shut_string)
set_option linter.unusedVariables false

theorem own : ownKnob Try.prog.godebug = none := by kernel_rfl
theorem laidOut : laidOutB Try.prog = true := by kernel_rfl

/-- WHAT THE WALK IS TOLD OF A SLICE OF INTEGERS THAT CAME IN: it is nil; or it leads to a row of 'cap' cells, the numbers 'zs' (the first 'len' are its elements, the rest its spare room), each fitting its kind. -/
def IsRow (k : IntKind) (w : World) (a : Option Addr) (len cap : Nat) (zs : List Int) : Prop :=
  (a = none ∧ len = 0 ∧ cap = 0 ∧ zs = []) ∨
  ∃ x, a = some x ∧ len ≤ cap ∧ cap ≤ maxLen ∧ zs.length = cap ∧ (∀ i, i < zs.length → w.cell? (x.add i) = some (.int k (zs.getD i 0))) ∧ ∀ n ∈ zs, (Lit.int k n).wf = true

theorem bytes_of_row {w : World} {a : Option Addr} {len cap : Nat} {zs : List Int} (h : IsRow .u8 w a len cap zs) : Bytes w a len := by
  rcases h with ⟨rfl, rfl, rfl, rfl⟩ | ⟨x, rfl, hl, hm, hz, hcell, hwz⟩
  · exact ⟨by unfold maxLen; omega, fun j hj => absurd hj (by omega)⟩
  · refine ⟨by omega, fun j hj => ?_⟩
    obtain ⟨b, off, spot⟩ := x
    have hc0 := hcell 0 (by omega)
    obtain rfl : spot = none := by simpa [Addr.add] using World.cell?_spot hc0
    have hc := hcell j (by omega)
    rw [Addr.add_lit] at hc
    have hw := hwz (zs.getD j 0) (by
      have : j < zs.length := by omega
      simp [List.getD, this])
    have hb := bounds_u8 hw
    exact ⟨b, off, zs.getD j 0, rfl, hb.1, by omega, hc⟩
theorem low_of_row {w : World} {a : Option Addr} {len cap : Nat} {zs : List Int} (h : IsRow .u8 w a len cap zs) (h0 : 0 < len) : ∀ x, a = some x → x.block < w.heap.size := by
  rcases h with ⟨rfl, rfl, rfl, rfl⟩ | ⟨x, rfl, hl, hm, hz, hcell, hwz⟩
  · intro x hx; cases hx
  · intro y hy
    obtain rfl := Option.some.inj hy
    have hc := cell_lt (hcell 0 (by omega))
    simpa [Addr.add] using hc

set_option maxRecDepth 100000 in
theorem lifted (os : Os) (started : os.Started) (H : Type) (enc : TypeId × Value → H) :
    ReturnsInHanded {} Try.checked os 3 .any (Rows.fnNewsSpec.pre6 enc Try.prog Try.f3 Rows.fnNewsRow.domain false) (Rows.fnNewsSpec.post enc Try.prog Try.f3 false true false false) := by
  refine returnsInHanded_of_change (C := Try.checked) own started (by kernel_rfl) Try.func3
    (ChangeSpec.witness6 (enc := enc) (C := Try.checked) false ⟨#[], #[.slice none 0 0], []⟩ 8 (by kernel_rfl) (by kernel_rfl) (by kernel_rfl) (by kernel_rfl)) ?_
  intro W base args ds gs before hval0 hW hcnd _
  have hval : ∀ (j : Nat) t v, Try.f3.params[j]? = some t → args[j]? = some v → Value.okWide Try.prog W .any base t v := hval0
  have hW' := hW
  obtain ⟨p, q, hA0, hV, rfl, hfz, hnd⟩ := hW
  have hA : DataW.TrodAll enc Try.prog W 0 (fun _ => true) true Try.f3.params.toList args.toList ds p := hA0
  rw [Try.params3] at hA hval
  obtain ⟨v0, vs0, d0, ds0, p0, q0, hargs, rfl, rfl, h0, r0⟩ := trodAll_cons hA
  obtain ⟨rfl, rfl, rfl⟩ := trodAll_nil r0
  obtain rfl : args = #[v0] := by cases args; simp_all
  obtain ⟨rfl, rfl⟩ := trodVars_none hV
  obtain ⟨a0, len0, cap0, rfl⟩ := okWide_slice Try.underlying22 (hval 0 22 v0 rfl rfl)
  have k0 := h0
  have lt0 : ∀ x ∈ p0, x.block < W.heap.size := by obtain ⟨m, hm⟩ := k0; exact DataW.trod_lt m _ _ _ hm
  obtain ⟨z0, w0⟩ : ∃ zs, IsRow .u8 W a0 len0 cap0 zs := by
    obtain ⟨fuel, hf⟩ := h0
    rcases open_ints Try.underlying22 Try.underlying5 (by kernel_rfl) hf with ⟨hcs, _⟩ | ⟨x, l, c, zs, hcs, _, hl, hm, hz, _, hcell, hwz⟩
    · simp [Value.cells] at hcs
      obtain ⟨rfl, rfl, rfl⟩ := hcs
      exact ⟨[], .inl ⟨rfl, rfl, rfl, rfl⟩⟩
    · simp [Value.cells] at hcs
      obtain ⟨rfl, rfl, rfl⟩ := hcs
      exact ⟨zs, .inr ⟨_, rfl, hl, hm, by simpa using hz, hcell, hwz⟩⟩
  clear hA0 hval0
  refine (news_walk (fun b p m w => iworldNew_any b p m w) (fun w => heaps_any w) a0 len0 cap0 W (bytes_of_row w0) (low_of_row w0)).mono fun e W' ⟨he, bel⟩ => ?_
  subst he
  exact ⟨_, rfl, _, _, _, [], _, [], hW', trodAll_mk1 (shut_bool Try.underlying4 _), (trodAll_cons_mk (Below.trod laidOut (by kernel_rfl) (of_decide_eq_true (by kernel_rfl)) k0 bel lt0) trodAll_mk0), rfl, bel.frame _, fun h => by cases h⟩

theorem over : Rows.fnNewsRow.holds Try.pinned (OpenSpec.ofChange Rows.fnNewsSpec) :=
  OpenClaim.holds_of_wide 3 Try.f3 rfl rfl rfl rfl rfl rfl rfl ⟨rfl, rfl, rfl, rfl, rfl⟩ rfl rfl rfl rfl rfl (by kernel_rfl) Try.func3 (by kernel_rfl)
    (of_decide_eq_true (by kernel_rfl)) (by unfold Func.isWrapper; first | (rw [if_pos (by decide +kernel)]; kernel_rfl) | (rw [if_neg (by decide +kernel)]; exact ⟨rfl, rfl⟩))
    (fun os started H enc _ => lifted os started H enc)

/-- ████ THE STATEMENT ████ -/
theorem proved : Rows.FnNewsSaid := over
end Go.Proofs.Ytajogfnlbdiokaa.fnNews
