import Derived.Test.YtdhiablpobnhcaaGreatPkSKept
import Derived.Test.YtdhiablpobnhcaaGreatPkSPtrsOk

/-
  The contract of the model's WorldOk.
-/
namespace Go.Proofs.YtdhiablpobnhcaaGreat
open Go.RowKit
set_option linter.unusedVariables false

set_option maxRecDepth 100000 in
set_option maxHeartbeats 4000000 in
theorem sworldOk_any (v : Value) (D : WD) (hcap : CapG v) (w : World) (hr : RdW w v D) :
    Calls Tryz.prog 24 #[v] w fun e w' => IsB (Right D) e ∧ Below w.heap.size w w' := by
  have hcap' := Lib.hid hcap
  clear hcap
  obtain ⟨vw, vd, vs, vm, vg, rfl, a1, a2, a3, a4, a5⟩ := hr
  have bx := box_new w (.cells #[.int .i64 D.base, .int .i64 D.pages, vw, vd, vs, vm, .int .i64 D.phase, .int .i64 D.next, vg] 30)
  have bw := below_box w (.cells #[.int .i64 D.base, .int .i64 D.pages, vw, vd, vs, vm, .int .i64 D.phase, .int .i64 D.next, vg] 30)
  have hW := Lib.hid (show RdW (w.alloc (.cells #[.int .i64 D.base, .int .i64 D.pages, vw, vd, vs, vm, .int .i64 D.phase, .int .i64 D.next, vg] 30)) (.agg #[.int .i64 D.base, .int .i64 D.pages, vw, vd, vs, vm, .int .i64 D.phase, .int .i64 D.next, vg]) D from ⟨vw, vd, vs, vm, vg, rfl, a1.below bw, a2.below bw, a3.below bw, a4.below bw, a5.below bw⟩)
  have hBx := Lib.hid (show BoxW (w.alloc (.cells #[.int .i64 D.base, .int .i64 D.pages, vw, vd, vs, vm, .int .i64 D.phase, .int .i64 D.next, vg] 30)) w.heap.size (.agg #[.int .i64 D.base, .int .i64 D.pages, vw, vd, vs, vm, .int .i64 D.phase, .int .i64 D.next, vg]) from ⟨_, rfl, bx⟩)
  have bw' := Lib.hid bw
  clear a1 a2 a3 a4 a5 bx bw
  go_enter Tryz.func24, Tryz.ntmps24
  go_wp2_with fail
  refine (formOk_any _ D _ hW.out).mono ?_
  rintro e w1 ⟨hq, b1⟩
  replace hq := hq.elim
  have hr1 := Lib.hid (hW.out.below b1)
  have hB1 := Lib.hid (hBx.out.below b1)
  have bb1 := Lib.hid (below_trans bw'.out b1)
  clear b1
  rcases hq with ⟨hF, rfl⟩ | ⟨hF, rfl⟩
  case inr =>
    have n := Lib.hid (IsB.no (right_no1 hF))
    clear hF
    go_wp2_with fail
    go_ret
    exact ⟨n.out, bb1.out⟩
  have hF' := Lib.hid hF
  have h2 := Lib.hid (sgcOk_any w.heap.size _ D hF hcap'.out w1 hr1.out hB1.out)
  clear hF
  go_wp2_with fail
  refine h2.out.mono ?_
  rintro e w2 ⟨hq, b2⟩
  replace hq := hq.elim
  have hr2 := Lib.hid (hr1.out.below b2)
  have hB2 := Lib.hid (hB1.out.below b2)
  have bb2 := Lib.hid (below_trans bb1.out b2)
  clear b2 h2
  rcases hq with ⟨hG, rfl⟩ | ⟨hG, rfl⟩
  case inr =>
    have n := Lib.hid (IsB.no (right_no2 hG))
    clear hG
    go_wp2_with fail
    go_ret
    exact ⟨n.out, bb2.out⟩
  have hG' := Lib.hid hG
  have h3 := Lib.hid (spointersOk_any w.heap.size _ D hF'.out w2 hr2.out hB2.out)
  clear hG
  go_wp2_with fail
  refine h3.out.mono ?_
  rintro e w3 ⟨hq, b3⟩
  replace hq := hq.elim
  have hr3 := Lib.hid (hr2.out.below b3)
  have hB3 := Lib.hid (hB2.out.below b3)
  have bb3 := Lib.hid (below_trans bb2.out b3)
  clear b3 h3
  rcases hq with ⟨hS, rfl⟩ | ⟨hS, rfl⟩
  case inr =>
    have n := Lib.hid (IsB.no (right_no3 hS))
    clear hS
    go_wp2_with fail
    go_ret
    exact ⟨n.out, bb3.out⟩
  have hS' := Lib.hid hS
  have h4 := Lib.hid (skeptOk_any w.heap.size _ D hF'.out hG'.out.1.2 w3 hr3.out hB3.out)
  clear hS
  go_wp2_with fail
  refine h4.out.mono ?_
  rintro e w4 ⟨hq, b4⟩
  obtain ⟨r, rfl, hrr⟩ := hq
  have n := Lib.hid (show IsB (Right D) (.returned (.bool r)) from ⟨r, rfl, hrr.trans ⟨fun h => ⟨hF'.out, hG'.out, hS'.out, h⟩, fun h => h.2.2.2⟩⟩)
  have bb4 := Lib.hid (below_trans bb3.out b4)
  clear b4 h4 hrr
  go_wp2_with fail
  go_ret
  exact ⟨n.out, bb4.out⟩
end Go.Proofs.YtdhiablpobnhcaaGreat
