/-
  The walk of FnExactScriptText.
-/
import Derived.Test.YtjldjeokcpjgkaaDoorTxW
namespace Go.Proofs.YtjldjeokcpjgkaaDoor
open Go.RowKit
set_option linter.unusedVariables false

set_option maxHeartbeats 1000000 in
theorem szEvS_no (v : Value) (L : List EvD) (w : World) (hr : RdE w v L) (h : 1048576 < L.length) : Calls Tryd.prog 13 #[v, .int .i64 1048576] w fun e w' => e = .returned (.int .i64 (-1)) ∧ w = w' := by
  obtain ⟨a, c, rfl, hl, _⟩ := hr
  unfold maxLen at hl
  have h1 : (1048576 : Int) - (L.length : Int) < 0 := by omega
  go_enter Tryd.func13, Tryd.ntmps13
  go_wp2_with fail
  go_ret
  exact ⟨rfl, rfl⟩
set_option maxHeartbeats 1000000 in
theorem szEvS_yes (v : Value) (L : List EvD) (w : World) (hr : RdE w v L) (h : L.length ≤ 1048576) : Calls Tryd.prog 13 #[v, .int .i64 1048576] w fun e w' => (∃ r : Int, e = .returned (.int .i64 r) ∧ 0 ≤ r) ∧ w = w' := by
  obtain ⟨a, c, rfl, hl, _⟩ := hr
  have h1 : 0 ≤ (1048576 : Int) - (L.length : Int) := by omega
  have y := Lib.hid h1
  clear hl
  go_enter Tryd.func13, Tryd.ntmps13
  go_wp2_with fail
  go_ret
  exact ⟨⟨_, rfl, y.out⟩, rfl⟩

set_option maxRecDepth 100000 in
set_option maxHeartbeats 4000000 in
theorem law_scriptText (L : List EvD) (hf : FitL L) (v : Value) (w : World) (ht : TabP w) (hr : RdE w v L) : Calls Tryd.prog 5 #[v] w fun e w' => e = .returned (.bool true) ∧ Below w.heap.size w w' := by
  have hf' := Lib.hid hf
  have ht' := Lib.hid ht
  have hr' := Lib.hid hr
  by_cases hs : L.length ≤ 1048576
  case neg =>
    have hsz := Lib.hid (szEvS_no v L w hr (by omega))
    clear hf ht hr hs
    go_enter Tryd.func5, Tryd.ntmps5
    go_wp2_with fail
    refine hsz.out.mono ?_
    rintro e w1 ⟨rfl, rfl⟩
    go_wp2_with fail
    go_ret
    exact ⟨rfl, Below.refl _ _⟩
  have hsz := Lib.hid (szEvS_yes v L w hr hs)
  have hml : L.length ≤ maxLen := by unfold maxLen; omega
  have hml' := Lib.hid hml
  have hs' := Lib.hid hs
  clear hf ht hr hml hs
  go_enter Tryd.func5, Tryd.ntmps5
  go_wp2_with fail
  refine hsz.out.mono ?_
  rintro e w1 ⟨⟨r, rfl, hr0⟩, rfl⟩
  go_wp2_with fail
  refine (toEvS_any v L hs'.out w hr'.out).mono ?_
  rintro e w2 ⟨g2, rfl, o2, b2⟩
  have r2 := Lib.hid (RdE.of_owns hml'.out o2)
  have bb2 := Lib.hid b2
  clear o2 b2
  go_wp2_with fail
  refine (sscript_any _ L hs'.out hf'.out w2 r2.out).mono ?_
  rintro e w3 ⟨hq, b3⟩
  have hS := Lib.hid hq
  obtain ⟨X, rfl, _⟩ := hq
  have bb3 := Lib.hid (below_trans bb2.out b3)
  clear b3
  go_wp2_with fail
  refine (toEvS_any v L hs'.out w3 (hr'.out.below bb3.out)).mono ?_
  rintro e w4 ⟨g4, rfl, o4, b4⟩
  have r4 := Lib.hid (RdE.of_owns hml'.out o4)
  have bb4 := Lib.hid (below_trans bb3.out b4)
  clear o4 b4
  go_wp2_with fail
  refine (iscript_any _ L hs'.out hf'.out w4 (ht'.out.below bb4.out) r4.out).mono ?_
  rintro e w5 ⟨hq, b5⟩
  obtain rfl := StrIs.unique hS.out hq
  have r5 := Lib.hid (r4.out.below b5)
  have bb5 := Lib.hid (below_trans bb4.out b5)
  clear hq b5
  go_wp2_with fail
  refine (toEvS_any v L hs'.out w5 (hr'.out.below bb5.out)).mono ?_
  rintro e w6 ⟨g6, rfl, o6, b6⟩
  have r6 := Lib.hid (RdE.of_owns hml'.out o6)
  have r5' := Lib.hid (r5.out.below b6)
  have bb6 := Lib.hid (below_trans bb5.out b6)
  clear o6 b6
  go_wp2_with fail
  refine (eqEvS_same _ _ L w6 r5'.out r6.out).mono ?_
  rintro e w7 ⟨rfl, b7⟩
  have bb7 := Lib.hid (below_trans bb6.out b7)
  clear b7
  go_wp2_with fail
  go_ret
  exact ⟨rfl, bb7.out⟩
end Go.Proofs.YtjldjeokcpjgkaaDoor
