/-
  What Pointers answers; the model's Pointers.
-/
import Derived.Test.YtajogfnlbdiokaaSPtrs
import Derived.Test.YtajogfnlbdiokaaTakeD
namespace Go.Proofs.Ytajogfnlbdiokaa
open Go.RowKit
set_option linter.unusedVariables false

/-- The pointers that are not 0 of the object at addr. -/
def PtrIs (D : WD) (addr : Int) (L : List Int) : Prop :=
  (∃ (k j : Nat) (s : SpanD), HeapForm D ∧ IsObj D addr k j ∧ D.spans[k]? = some s ∧ L = nz (ptrW D s j)) ∨ ((HeapForm D → ∀ k j, ¬ IsObj D addr k j) ∧ L = [])
theorem PtrIs.unique {D : WD} {addr : Int} {L L' : List Int} (h : PtrIs D addr L) (h' : PtrIs D addr L') : L' = L := by
  rcases h with ⟨k, j, s, hF, ho, hs, rfl⟩ | ⟨hn, rfl⟩ <;> rcases h' with ⟨k', j', s', hF', ho', hs', rfl⟩ | ⟨hn', rfl⟩
  · obtain ⟨rfl, rfl⟩ := ho.unique hF ho'
    rw [hs] at hs'
    cases hs'
    rfl
  · exact absurd ho (hn' hF k j)
  · exact absurd ho' (hn hF' k' j')
  · rfl
theorem obj_slot {D : WD} {addr : Int} {k j : Nat} (hF : HeapForm D) (ho : IsObj D addr k j) : ∃ s, D.spans[k]? = some s ∧ SlotIn D s j ∧ 0 ≤ s.ptrs[j]?.getD 0 ∧ s.ptrs[j]?.getD 0 ≤ sz s.cls := by
  obtain ⟨s, hks, hjl, hl, ha⟩ := ho
  have h := (hF.span k s hks).slot j hjl
  exact ⟨s, hks, hF.slotIn hks hjl, h.p0, by have := h.p1; have := h.l1; omega⟩

set_option maxRecDepth 100000 in
set_option maxHeartbeats 4000000 in
theorem spointers_any (v : Value) (D : WD) (addr : Int) (w : World) (hr : RdW w v D) :
    Calls Try.prog 28 #[v, .int .i64 addr] w fun e w' => ∃ L u, PtrIs D addr L ∧ e = .returned u ∧ w'.ownsRow w.heap.size 3 1 u L.length (L.map (Value.int .i64)) ∧ Below w.heap.size w w' := by
  obtain ⟨vw, vd, vs, vm, vg, rfl, a1, a2, a3, a4, a5⟩ := hr
  have bx := box_new w (.cells #[.int .i64 D.base, .int .i64 D.pages, vw, vd, vs, vm, .int .i64 D.phase, .int .i64 D.next, vg] 32)
  have bw := below_box w (.cells #[.int .i64 D.base, .int .i64 D.pages, vw, vd, vs, vm, .int .i64 D.phase, .int .i64 D.next, vg] 32)
  have hW := Lib.hid (show RdW (w.alloc (.cells #[.int .i64 D.base, .int .i64 D.pages, vw, vd, vs, vm, .int .i64 D.phase, .int .i64 D.next, vg] 32)) (.agg #[.int .i64 D.base, .int .i64 D.pages, vw, vd, vs, vm, .int .i64 D.phase, .int .i64 D.next, vg]) D from ⟨vw, vd, vs, vm, vg, rfl, a1.below bw, a2.below bw, a3.below bw, a4.below bw, a5.below bw⟩)
  have hBx := Lib.hid (show BoxW (w.alloc (.cells #[.int .i64 D.base, .int .i64 D.pages, vw, vd, vs, vm, .int .i64 D.phase, .int .i64 D.next, vg] 32)) w.heap.size (.agg #[.int .i64 D.base, .int .i64 D.pages, vw, vd, vs, vm, .int .i64 D.phase, .int .i64 D.next, vg]) from ⟨_, rfl, bx⟩)
  have bw' := Lib.hid bw
  clear a1 a2 a3 a4 a5 bx bw
  go_enter Try.func28, Try.ntmps28
  go_wp2_with fail
  refine (find_any _ D addr _ hW.out).mono ?_
  rintro e w1 ⟨hq, b1⟩
  have b1' := Lib.hid (below_trans bw'.out b1)
  obtain ⟨r, q, rfl, hq⟩ := hq
  rcases hq with ⟨k, j, hF, ho, rfl, rfl⟩ | ⟨hn, rfl, rfl⟩
  case inr =>
    have y := Lib.hid (show PtrIs D addr [] from .inr ⟨hn, rfl⟩)
    clear hn b1
    go_wp2_with fail
    go_ret
    exact ⟨[], _, y.out, rfl, World.ownsRow_nil _ _ _ _, b1'.out⟩
  obtain ⟨s, hks, hin, p0, p1⟩ := obj_slot hF ho
  have y := Lib.hid (show PtrIs D addr (nz (ptrW D s j)) from .inl ⟨k, j, s, hF, ho, hks, rfl⟩)
  have hcall := Lib.hid (sptrs_any w.heap.size _ D k j s hks hin p0 p1 w1 (hW.out.below b1) (hBx.out.below b1))
  clear hF ho hks hin p0 p1 b1
  go_wp2_with fail
  refine hcall.out.mono ?_
  rintro e w2 ⟨u, rfl, hown, b2⟩
  have hown' := Lib.hid (own_base (base' := w.heap.size) hown b1'.out.size)
  have b2' := Lib.hid (below_trans b1'.out b2)
  clear hown b2
  go_wp2_with fail
  go_ret
  exact ⟨_, _, y.out, rfl, hown'.out, b2'.out⟩
end Go.Proofs.Ytajogfnlbdiokaa
