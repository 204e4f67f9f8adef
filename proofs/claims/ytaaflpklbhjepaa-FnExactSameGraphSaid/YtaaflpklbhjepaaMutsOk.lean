/-
  The contract of the program's mutsOk.
-/
import Derived.Test.YtaaflpklbhjepaaIsIn
import Derived.Test.YtaaflpklbhjepaaIsB
import Derived.StillTailTactics
namespace Go.Proofs.Ytaaflpklbhjepaa
open Go.RowKit
set_option linter.unusedVariables false

/-- The lists of roots are as they should be. -/
def MutsForm (L : List (List Int)) : Prop := 1 ≤ L.length ∧ L.length ≤ 3 ∧ ∀ (j : Nat) (r : List Int), L[j]? = some r → r.length = 6
set_option maxHeartbeats 1000000 in
theorem mutsOk_any (v : Value) (L : List (List Int)) (w : World) (hr : RdM w v L) : Calls Try.prog 22 #[v] w fun e w' => IsB (MutsForm L) e ∧ w = w' := by
  obtain ⟨am, cm, rfl, hlm, xm⟩ := hr
  unfold maxLen at hlm
  have xm' := Lib.hid xm
  clear xm
  go_enter Try.func22, Try.ntmps22
  go_wp2_with fail
  go_loop [6] (fun i => ∃ i' : Nat, i' ≤ L.length ∧ i = .int .i64 i' ∧ Hid (∀ (j : Nat) (r : List Int), j < i' → L[j]? = some r → r.length = 6)) (fun i => L.length - (intOf i).toNat)
  case atStart => exact ⟨0, Nat.zero_le _, rfl, fun j r hj => absurd hj (by omega)⟩
  case round =>
    obtain ⟨i, hi, rfl, hz⟩ := hrel
    by_cases hil : i < L.length
    · have hil1 : (i : Int) < (L.length : Int) := by omega
      obtain ⟨r, hr⟩ : ∃ r, L[i]? = some r := ⟨_, List.getElem?_eq_getElem hil⟩
      obtain ⟨bm, om, vr, rfl, xc, xr⟩ := xm'.out i r hr
      obtain ⟨ar, cr, rfl, hlr, _⟩ := xr
      unfold maxLen at hlr
      have hr' := Lib.hid hr
      clear hr
      by_cases h6 : (r.length : Int) = 6
      · have hn := Lib.hid (show ∀ (j : Nat) (r : List Int), j < i + 1 → L[j]? = some r → r.length = 6 from fun j r2 hj hr2 => if e : j = i then by subst e; rw [hr'.out] at hr2; cases hr2; omega else hz.out j r2 (by omega) hr2)
        have hb6 : ((r.length : Int) != 6) = false := by rw [bne_eq_false_iff_eq]; exact h6
        clear h6 hz
        go_wp2_with fail
        go_round
        case rel => exact ⟨i + 1, by omega, by go_num, hn⟩
        case measure => simp [intOf]; omega
      · have n := Lib.hid (show ¬ MutsForm L from fun h => h6 (by have := h.2.2 i r hr'.out; omega))
        have hb6 : ((r.length : Int) != 6) = true := by rw [bne_iff_ne]; exact h6
        clear h6 hz
        go_wp2_with fail
        go_ret
        exact ⟨IsB.no n.out, rfl⟩
    · obtain rfl : i = L.length := by omega
      have hall := Lib.hid (show inB (L.length : Int) 1 3 = true ↔ MutsForm L from by
        rw [inB_iff]
        exact ⟨fun h => ⟨by omega, by omega, fun k r hr => hz.out k r (List.getElem?_eq_some_iff.1 hr).1 hr⟩, fun h => ⟨by have := h.1; omega, by have := h.2.1; omega⟩⟩)
      clear hz
      go_wp2_with (go_at_call 23; refine (isIn_any _ _ _ _).mono ?_; rintro e w' ⟨rfl, rfl⟩)
      go_ret
      exact ⟨⟨_, rfl, hall.out⟩, rfl⟩

end Go.Proofs.Ytaaflpklbhjepaa
