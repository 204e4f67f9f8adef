import Derived.Test.YtpcefecedmdmkaaPkDraw

/-
  The contract of DrawWorldNew.
-/
namespace Go.Proofs.Ytpcefecedmdmkaa
open Go.RowKit
set_option linter.unusedVariables false

theorem rd_new (w : World) (t : TypeId) (L : List Int) (hL : L.length ≤ 1000) : Rd (w.alloc (.cells (L.map (Value.int .i64)).toArray t)) (.slice (some ⟨w.heap.size, 0, none⟩) L.length L.length) L := by
  refine ⟨_, _, rfl, by unfold maxLen; omega, fun j hj => ⟨_, _, rfl, ?_⟩⟩
  rw [Nat.zero_add]
  exact cell_of_heap (alloc_new w _) j _ (by simp [hj])
theorem rd_grown {w w' : World} {g n c B : Nat} {L : List Int} (h : Rd w (.slice (some ⟨g, 0, none⟩) n c) L) (hg : w.grownBy w' (some B)) (hne : g ≠ B) : Rd w' (.slice (some ⟨g, 0, none⟩) n c) L := by
  obtain ⟨a, c', he, hm, hx⟩ := h
  refine ⟨a, c', he, hm, fun j hj => ?_⟩
  obtain ⟨b, o, ha, hc⟩ := hx j hj
  have hb : b = g := by
    have : some (⟨g, 0, none⟩ : Addr) = some ⟨b, o, none⟩ := by simp at he; rw [he.1]; exact ha
    simp at this
    exact this.1.symm
  exact ⟨b, o, ha, (World.cell?_of_block (hg.block b (cell_lt hc) (fun e => hne (hb.symm.trans (by simpa using e))))).trans hc⟩
set_option maxRecDepth 100000 in
set_option maxHeartbeats 4000000 in
theorem drawNew_any (a : Option Addr) (len cap : Nat) (w : World) (hb : Bytes w a len) (ha : 0 < len → ∀ x, a = some x → x.block < w.heap.size) :
    Calls Try.prog 5 #[.slice a len cap] w fun e w' => ∃ b p m : Int, e = .returned (.tuple #[.int .i64 b, .int .i64 p, .int .i64 m]) ∧ 0 ≤ p ∧ p ≤ 13 ∧ Below w.heap.size w w' := by
  have hnew := Lib.hid (new_any a len cap w hb ha)
  clear hb ha
  go_enter Try.func5, Try.ntmps5
  go_wp2_with fail
  refine hnew.out.mono ?_
  rintro e w1 ⟨B, rfl, b1, h1⟩
  have bb1 := Lib.hid b1
  have hh1 := Lib.hid h1
  clear b1 h1
  have c1 : Below w1.heap.size w1 (w1.alloc (.cells #[.int .i64 32, .int .i64 64, .int .i64 1024, .int .i64 1048576, .int .i64 1048608, .int .i64 0, .int .i64 33, .int .i64 (-32)] 3)) := (Below.refl _ _).alloc (Nat.le_refl _) _
  have hk1 := Lib.hid (hh1.out.kept c1)
  have hB1 := hh1.out.lt
  have hr1 := Lib.hid (show ∀ w', (w1.alloc (.cells #[.int .i64 32, .int .i64 64, .int .i64 1024, .int .i64 1048576, .int .i64 1048608, .int .i64 0, .int .i64 33, .int .i64 (-32)] 3)).grownBy w' (some B) → Rd w' (.slice (some ⟨w1.heap.size, 0, none⟩) 8 8) [32, 64, 1024, 1048576, 1048608, 0, 33, -32] from fun w' hg =>
    rd_grown (rd_new w1 3 [32, 64, 1024, 1048576, 1048608, 0, 33, -32] (by decide)) hg (by omega))
  have bc1 := Lib.hid (show Below w.heap.size w (w1.alloc (.cells #[.int .i64 32, .int .i64 64, .int .i64 1024, .int .i64 1048576, .int .i64 1048608, .int .i64 0, .int .i64 33, .int .i64 (-32)] 3)) from bb1.out.trans (c1.mono bb1.out.size))
  clear c1 hB1
  go_wp2_with fail
  refine (pickInt_at hk1.out _ [32, 64, 1024, 1048576, 1048608, 0, 33, -32] (by decide) hr1.out).mono ?_
  rintro e w2 ⟨b, rfl, hy1, g1, a1⟩
  have bb2 := Lib.hid (bc1.out.trans (hk1.out.below g1))
  have hh2 := Lib.hid a1
  clear hy1 g1 a1
  have c2 : Below w2.heap.size w2 (w2.alloc (.cells #[.int .i64 1, .int .i64 2, .int .i64 5, .int .i64 12, .int .i64 13, .int .i64 0] 3)) := (Below.refl _ _).alloc (Nat.le_refl _) _
  have hk2 := Lib.hid (hh2.out.kept c2)
  have hB2 := hh2.out.lt
  have hr2 := Lib.hid (show ∀ w', (w2.alloc (.cells #[.int .i64 1, .int .i64 2, .int .i64 5, .int .i64 12, .int .i64 13, .int .i64 0] 3)).grownBy w' (some B) → Rd w' (.slice (some ⟨w2.heap.size, 0, none⟩) 6 6) [1, 2, 5, 12, 13, 0] from fun w' hg =>
    rd_grown (rd_new w2 3 [1, 2, 5, 12, 13, 0] (by decide)) hg (by omega))
  have bc2 := Lib.hid (show Below w.heap.size w (w2.alloc (.cells #[.int .i64 1, .int .i64 2, .int .i64 5, .int .i64 12, .int .i64 13, .int .i64 0] 3)) from bb2.out.trans (c2.mono bb2.out.size))
  clear c2 hB2
  go_wp2_with fail
  refine (pickInt_at hk2.out _ [1, 2, 5, 12, 13, 0] (by decide) hr2.out).mono ?_
  rintro e w3 ⟨p, rfl, hy2, g2, a2⟩
  have bb3 := Lib.hid (bc2.out.trans (hk2.out.below g2))
  have hh3 := Lib.hid a2
  have hp : 0 ≤ p ∧ p ≤ 13 := by
    simp at hy2
    rcases hy2 with rfl | rfl | rfl | rfl | rfl | rfl <;> omega
  clear hy2 g2 a2
  have c3 : Below w3.heap.size w3 (w3.alloc (.cells #[.int .i64 1, .int .i64 2, .int .i64 3, .int .i64 4, .int .i64 0] 3)) := (Below.refl _ _).alloc (Nat.le_refl _) _
  have hk3 := Lib.hid (hh3.out.kept c3)
  have hB3 := hh3.out.lt
  have hr3 := Lib.hid (show ∀ w', (w3.alloc (.cells #[.int .i64 1, .int .i64 2, .int .i64 3, .int .i64 4, .int .i64 0] 3)).grownBy w' (some B) → Rd w' (.slice (some ⟨w3.heap.size, 0, none⟩) 5 5) [1, 2, 3, 4, 0] from fun w' hg =>
    rd_grown (rd_new w3 3 [1, 2, 3, 4, 0] (by decide)) hg (by omega))
  have bc3 := Lib.hid (show Below w.heap.size w (w3.alloc (.cells #[.int .i64 1, .int .i64 2, .int .i64 3, .int .i64 4, .int .i64 0] 3)) from bb3.out.trans (c3.mono bb3.out.size))
  clear c3 hB3
  go_wp2_with fail
  refine (pickInt_at hk3.out _ [1, 2, 3, 4, 0] (by decide) hr3.out).mono ?_
  rintro e w4 ⟨m, rfl, hy3, g3, a3⟩
  have bb4 := Lib.hid (bc3.out.trans (hk3.out.below g3))
  have hh4 := Lib.hid a3
  clear hy3 g3 a3
  have hp' := Lib.hid hp
  clear hp
  go_wp2_with fail
  refine bodyPost_ret (v := .tuple #[.int .i64 b, .int .i64 p, .int .i64 m]) (by simp [results, Try.results5, go_sem]) rfl ?_
  exact ⟨b, p, m, rfl, hp'.out.1, hp'.out.2, bb4.out⟩
end Go.Proofs.Ytpcefecedmdmkaa
