import Derived.Test.YtefmejhabakghaaPkQ

/-
  The contract of the model's Colour.
-/
namespace Go.Proofs.Ytefmejhabakghaa
open Go.RowKit
set_option linter.unusedVariables false

/-- How what is at a stands. -/
def ColIs (D : WD) (a r : Int) : Prop :=
  (¬ (HeapForm D ∧ HasObj D a) ∧ r = 0) ∨ (HeapForm D ∧ HasObj D a ∧ ((a ∈ D.grey ∧ r = 2) ∨ (a ∉ D.grey ∧ ((MarkedObj D a ∧ r = 3) ∨ (¬ MarkedObj D a ∧ r = 1)))))
set_option maxRecDepth 100000 in
set_option maxHeartbeats 4000000 in
theorem scolour_any (v : Value) (D : WD) (a : Int) (w : World) (hr : RdW w v D) :
    Calls Try.prog 6 #[v, .int .i64 a] w fun e w' => (∃ r : Int, e = .returned (.int .i64 r) ∧ ColIs D a r) ∧ Below w.heap.size w w' := by
  obtain ⟨vw, vd, vs, vm, vg, rfl, a1, a2, a3, a4, a5⟩ := hr
  have bx := box_new w (.cells #[.int .i64 D.base, .int .i64 D.pages, vw, vd, vs, vm, .int .i64 D.phase, .int .i64 D.next, vg] 36)
  have bw := below_box w (.cells #[.int .i64 D.base, .int .i64 D.pages, vw, vd, vs, vm, .int .i64 D.phase, .int .i64 D.next, vg] 36)
  have hW := Lib.hid (show RdW (w.alloc (.cells #[.int .i64 D.base, .int .i64 D.pages, vw, vd, vs, vm, .int .i64 D.phase, .int .i64 D.next, vg] 36)) (.agg #[.int .i64 D.base, .int .i64 D.pages, vw, vd, vs, vm, .int .i64 D.phase, .int .i64 D.next, vg]) D from ⟨vw, vd, vs, vm, vg, rfl, a1.below bw, a2.below bw, a3.below bw, a4.below bw, a5.below bw⟩)
  have hBx := Lib.hid (show BoxW (w.alloc (.cells #[.int .i64 D.base, .int .i64 D.pages, vw, vd, vs, vm, .int .i64 D.phase, .int .i64 D.next, vg] 36)) w.heap.size (.agg #[.int .i64 D.base, .int .i64 D.pages, vw, vd, vs, vm, .int .i64 D.phase, .int .i64 D.next, vg]) from ⟨_, rfl, bx⟩)
  have bw' := Lib.hid bw
  clear a1 a2 a3 a4 a5 bx bw
  go_enter Try.func6, Try.ntmps6
  go_wp2_with fail
  refine (find_any _ D a _ hW.out).mono ?_
  rintro e w1 ⟨⟨r, q, rfl, hq⟩, b1⟩
  have bb1 := Lib.hid (below_trans bw'.out b1)
  have hW1 := Lib.hid (hW.out.below b1)
  have hB1 := Lib.hid (hBx.out.below b1)
  have hq' := Lib.hid hq
  clear b1 hq
  rcases hq'.out with ⟨k, j, hF, ho, rfl, rfl⟩ | ⟨hn, rfl, rfl⟩
  case inr =>
    have n := Lib.hid (show ColIs D a 0 from .inl ⟨fun ⟨hF, k, j, ho⟩ => hn hF k j ho, rfl⟩)
    clear hn hq'
    go_wp2_with fail
    go_ret
    exact ⟨⟨_, rfl, n.out⟩, bb1.out⟩
  have hF' := Lib.hid hF
  have ho' := Lib.hid ho
  clear hF ho hq'
  obtain ⟨s, hs, hj, _⟩ := id ho'.out
  have A := hF'.out.span k s hs
  have hl := A.lens
  have h16 := (sl_bd s.cls).2
  have hk0 : decide ((k : Int) < 0) = false := decide_eq_false (by omega)
  have hgr := Lib.hid hW1.out.parts.2.2.2.2
  have hcall := Lib.hid (smarked_any w.heap.size _ D k j s hs (by omega) w1 hW1.out hB1.out)
  have g8 := hB1.out.cell 8 _ rfl
  clear hs hj A hl h16
  go_wp2_with fail
  refine (shas_any _ a D.grey _ hgr.out).mono ?_
  rintro e w2 ⟨hq, rfl⟩
  rcases hq.elim with ⟨hm, rfl⟩ | ⟨hm, rfl⟩
  · have y := Lib.hid (show ColIs D a 2 from .inr ⟨hF'.out, ⟨k, j, ho'.out⟩, .inl ⟨hm, rfl⟩⟩)
    clear hm hq
    go_wp2_with fail
    go_ret
    exact ⟨⟨_, rfl, y.out⟩, bb1.out⟩
  have hm' := Lib.hid hm
  clear hm hq
  go_wp2_with fail
  refine hcall.out.mono ?_
  rintro e w3 ⟨hq, b3⟩
  have bb3 := Lib.hid (below_trans bb1.out b3)
  rcases hq.elim with ⟨hd, rfl⟩ | ⟨hd, rfl⟩
  · have y := Lib.hid (show ColIs D a 3 from .inr ⟨hF'.out, ⟨k, j, ho'.out⟩, .inr ⟨hm'.out, .inl ⟨⟨k, j, ho'.out, hd⟩, rfl⟩⟩⟩)
    clear hd hq b3
    go_wp2_with fail
    go_ret
    exact ⟨⟨_, rfl, y.out⟩, bb3.out⟩
  · have y := Lib.hid (show ColIs D a 1 from .inr ⟨hF'.out, ⟨k, j, ho'.out⟩, .inr ⟨hm'.out, .inr ⟨fun h => hd ((MarkedObj.at_ hF'.out ho'.out).1 h), rfl⟩⟩⟩)
    clear hd hq b3
    go_wp2_with fail
    go_ret
    exact ⟨⟨_, rfl, y.out⟩, bb3.out⟩
end Go.Proofs.Ytefmejhabakghaa
