/-
  The contract of the laws' 'sizes': it answers true. And the draws of a class and of cards.
-/
import Derived.Test.YtagjhmbchgdlcaaClassOf
import Derived.Test.YtagjhmbchgdlcaaSpecCards
import Derived.Test.YtagjhmbchgdlcaaDraw
namespace Go.Proofs.Ytagjhmbchgdlcaa
open Go.RowKit
set_option linter.unusedVariables false

theorem size_eq {c v : Int} (h : sz c = v) (w : World) : Calls Try.prog 12 #[.int .i64 c] w fun e w' => e = .returned (.int .i64 v) ∧ w = w' := by
  rw [← h]; exact size_any c w
theorem slots_eq {c v : Int} (h : sl c = v) (w : World) : Calls Try.prog 13 #[.int .i64 c] w fun e w' => e = .returned (.int .i64 v) ∧ w = w' := by
  rw [← h]; exact slots_any c w
theorem classOf_eq {c v : Int} (h : cl c = v) (w : World) : Calls Try.prog 10 #[.int .i64 c] w fun e w' => e = .returned (.int .i64 v) ∧ w = w' := by
  rw [← h]; exact classOf_any c w

theorem Rd.grown {w w' : World} {v : Value} {L : List Int} {row : Option Nat} (h : Rd w v L) (hg : w.grownBy w' row) (hne : ∀ b, v.ownBlock = some b → some b ≠ row) : Rd w' v L := by
  obtain ⟨a, cap, rfl, hc⟩ := h
  refine ⟨a, cap, rfl, fun j hj => ?_⟩
  obtain ⟨b, off, rfl, hx⟩ := hc j hj
  exact ⟨b, off, rfl, hg.cell hx (hne b rfl)⟩
theorem rd_alloc (w : World) (t : TypeId) (L : List Int) : Rd (w.alloc (.cells (L.map (Value.int .i64)).toArray t)) (.slice (some ⟨w.heap.size, 0, none⟩) L.length L.length) L := by
  refine ⟨_, _, rfl, fun j hj => ⟨_, _, rfl, ?_⟩⟩
  rw [Nat.zero_add]
  exact cell_of_heap (alloc_new w _) j _ (by simp [hj])

set_option maxHeartbeats 1000000 in
theorem sizes_true (w : World) : Calls Try.prog 11 #[] w fun e w' => e = .returned (.bool true) ∧ Below w.heap.size w w' := by
  go_enter Try.func11, Try.ntmps11
  go_wp2_with fail
  refine (size_eq (v := 8) rfl _).mono ?_
  rintro e w' ⟨rfl, rfl⟩
  go_wp2_with fail
  refine (slots_eq (v := 4) rfl _).mono ?_
  rintro e w' ⟨rfl, rfl⟩
  go_wp2_with fail
  refine (classOf_eq (v := 2) rfl _).mono ?_
  rintro e w' ⟨rfl, rfl⟩
  go_wp2_with fail
  refine (cardsOf_any 7 2 _).mono ?_
  rintro e w1 ⟨v, rfl, ho, hb⟩
  have hr : Rd (w1.alloc (.cells #[.int .i64 0, .int .i64 1] 3)) v [0, 1] := Rd.of_owns (ho.alloc _)
  have hr2 : Rd (w1.alloc (.cells #[.int .i64 0, .int .i64 1] 3)) (.slice (some ⟨w1.heap.size, 0, none⟩) 2 2) [0, 1] := rd_alloc w1 3 [0, 1]
  go_wp2_with fail
  refine (sameInts_same _ _ [0, 1] (by decide) _ hr hr2).mono ?_
  rintro e w2 ⟨rfl, n, rfl⟩
  go_wp2_with fail
  go_ret
  exact ⟨rfl, below_drewN (hb.alloc hb.size _) n⟩

set_option maxHeartbeats 1000000 in
theorem drawClassOf_any (a : Option Addr) (len cap : Nat) (w : World) (hb : Bytes w a len) (ha : 0 < len → ∀ x, a = some x → x.block < w.heap.size) :
    Calls Try.prog 9 #[.slice a len cap] w fun e w' => ∃ n : Int, e = .returned (.int .i64 n) ∧ -1 ≤ n ∧ n ≤ 18 ∧ Below w.heap.size w w' := by
  go_enter Try.func9, Try.ntmps9
  go_wp2_with fail
  refine (new_any a len cap w hb ha).mono ?_
  rintro e w1 ⟨B, rfl, b1, h1⟩
  go_wp2_with fail
  refine (below_at h1 20 (by omega)).mono ?_
  rintro e w2 ⟨x, rfl, h0, h20, b2, h2⟩
  go_wp2_with fail
  go_ret
  exact ⟨_, rfl, by omega, by omega, b1.trans (h1.below b2)⟩

set_option maxHeartbeats 1000000 in
theorem drawCardsOf_any (a : Option Addr) (len cap : Nat) (w : World) (hb : Bytes w a len) (ha : 0 < len → ∀ x, a = some x → x.block < w.heap.size) :
    Calls Try.prog 14 #[.slice a len cap] w fun e w' => ∃ f n : Int, e = .returned (.tuple #[.int .i64 f, .int .i64 n]) ∧ -1 ≤ f ∧ f ≤ 4611686018427387904 ∧ -1 ≤ n ∧ n ≤ 33 ∧ Below w.heap.size w w' := by
  go_enter Try.func14, Try.ntmps14
  go_wp2_with fail
  refine (new_any a len cap w hb ha).mono ?_
  rintro e w1 ⟨B, rfl, b1, h1⟩
  go_wp2_with fail
  refine (below_at h1 70 (by omega)).mono ?_
  rintro e w2 ⟨x, rfl, h0, h70, b2, h2⟩
  go_wp2_with fail
  refine (once_at h2 12 (by omega)).mono ?_
  rintro e w3 ⟨x3, rfl, b3, h3⟩
  cases x3
  · go_wp2_with fail
    refine (below_at h3 35 (by omega)).mono ?_
    rintro e w4 ⟨x4, rfl, h04, h44, b4, h4⟩
    go_wp2_with fail
    go_ret2
    exact ⟨_, _, rfl, by omega, by omega, by omega, by omega, ((b1.trans (h1.below b2)).trans (h2.below b3)).trans (h3.below b4)⟩
  · have b3' : Below w3.heap.size w3 (w3.alloc (.cells #[.int .i64 1000000, .int .i64 1000001, .int .i64 4611686018427387904] 3)) := (Below.refl _ _).alloc (Nat.le_refl _) _
    have h3' := h3.kept b3'
    have hB3 := h3.lt
    have hr : ∀ w', (w3.alloc (.cells #[.int .i64 1000000, .int .i64 1000001, .int .i64 4611686018427387904] 3)).grownBy w' (some B) → Rd w' (.slice (some ⟨w3.heap.size, 0, none⟩) 3 3) [1000000, 1000001, 4611686018427387904] := fun w' hg =>
      (rd_alloc w3 3 [1000000, 1000001, 4611686018427387904]).grown hg fun b e he => by
        have e1 : w3.heap.size = b := by simpa [Value.ownBlock] using e
        have e2 : b = B := by simpa using he
        omega
    obtain ⟨hr⟩ : Nonempty (Hid _) := ⟨Lib.hid hr⟩
    go_wp2_with fail
    refine (pickInt_at h3' _ [1000000, 1000001, 4611686018427387904] (by decide) (by decide) hr.out).mono ?_
    rintro e w4 ⟨y, rfl, hy, b4, h4⟩
    have hy1 : -1 ≤ y ∧ y ≤ 4611686018427387904 := by
      simp at hy
      rcases hy with rfl | rfl | rfl <;> omega
    clear hy hr
    go_wp2_with fail
    refine (below_at h4 35 (by omega)).mono ?_
    rintro e w5 ⟨x4, rfl, h04, h44, b5, h5⟩
    go_wp2_with fail
    go_ret2
    exact ⟨_, _, rfl, hy1.1, hy1.2, by omega, by omega, ((((b1.trans (h1.below b2)).trans (h2.below b3)).trans (b3'.mono (by have := h3.le; omega))).trans (h3'.below b4)).trans (h4.below b5)⟩
end Go.Proofs.Ytagjhmbchgdlcaa
