import Derived.Test.YtefmejhabakghaaPkA
import Derived.Test.YtefmejhabakghaaPkN
import Derived.Test.YtefmejhabakghaaPkSColour

/-
  The contract of the program's Colour, and that of slices.Contains at ints.
-/
namespace Go.Proofs.Ytefmejhabakghaa
open Go.RowKit
set_option linter.unusedVariables false

/-- The first place of x in L, or -1. -/
def IdxI (L : List Int) (x r : Int) : Prop := (0 ≤ r ↔ x ∈ L) ∧ -1 ≤ r ∧ r ≤ (L.length : Int)
set_option maxHeartbeats 1000000 in
theorem iindex_any (v : Value) (x : Int) (L : List Int) (w : World) (h1 : Rd w v L) :
    Calls Try.prog 49 #[v, .int .i64 x] w fun e w' => (∃ r : Int, e = .returned (.int .i64 r) ∧ Hid (IdxI L x r)) ∧ w = w' := by
  obtain ⟨a1, c1, rfl, hL, r1⟩ := h1
  unfold maxLen at hL
  have r1 := Lib.hid r1
  go_enter Try.func49, Try.ntmps49
  go_wp2_with fail
  go_loop [8] (fun i => ∃ k : Nat, k ≤ L.length ∧ i = .int .i64 k ∧ Hid (x ∉ L.take k)) (fun i => L.length - (Go.RowKit.intOf i).toNat)
  case atStart => exact ⟨0, Nat.zero_le _, rfl, Lib.hid (by simp)⟩
  case round =>
    obtain ⟨k, hk, rfl, hno⟩ := hrel
    by_cases hlt : k < L.length
    · have hlt1 : (k : Int) < (L.length : Int) := by omega
      obtain ⟨b1, o1, rfl, x1⟩ := r1.out k hlt
      have hno' := Lib.hid (show ¬ L[k]?.getD 0 = x → x ∉ L.take (k + 1) from fun h => by
        rw [List.take_succ_eq_append_getElem hlt]
        simp only [hlt, getElem?_pos, Option.getD_some] at h
        simp only [List.mem_append, List.mem_singleton, not_or]
        exact ⟨hno.out, fun e => h e.symm⟩)
      have hyes := Lib.hid (show L[k]?.getD 0 = x → x ∈ L from fun h => by
        rw [← h, List.getElem?_eq_getElem hlt]
        exact List.getElem_mem hlt)
      clear hno
      generalize L[k]?.getD 0 = y at *
      by_cases he : y = x
      · have z := Lib.hid (show IdxI L x (k : Int) from ⟨⟨fun _ => hyes.out he, fun _ => by omega⟩, by omega, by omega⟩)
        subst he
        clear hno' hyes
        go_wp2_with fail
        go_ret
        exact ⟨⟨_, rfl, z⟩, rfl⟩
      · have hn := Lib.hid (hno'.out he)
        have hb : (x == y) = false := beq_eq_false_iff_ne.2 (fun e => he e.symm)
        clear hno' hyes
        go_wp2_with fail
        go_round
        case rel => exact ⟨k + 1, by omega, by go_num, hn⟩
        case measure => simp [Go.RowKit.intOf]; omega
    · obtain rfl : k = L.length := by omega
      have z := Lib.hid (show IdxI L x (-1) from ⟨⟨fun h => absurd h (by omega), fun h => absurd h (by simpa using hno.out)⟩, by omega, by omega⟩)
      go_wp2_with fail
      go_ret
      exact ⟨⟨_, rfl, z⟩, rfl⟩
set_option maxHeartbeats 1000000 in
theorem icontains_any (v : Value) (x : Int) (L : List Int) (w : World) (h1 : Rd w v L) :
    Calls Try.prog 30 #[v, .int .i64 x] w fun e w' => IsB (x ∈ L) e ∧ w = w' := by
  have hl : L.length ≤ 9223372036854775807 := by obtain ⟨_, _, _, hl, _⟩ := h1; unfold maxLen at hl; omega
  have hcall := Lib.hid (iindex_any v x L w h1)
  clear h1
  go_enter Try.func30, Try.ntmps30
  go_wp2_with fail
  refine hcall.out.mono ?_
  rintro e w1 ⟨⟨r, rfl, hf⟩, rfl⟩
  have y := Lib.hid (show IsB (x ∈ L) (.returned (.bool (decide (0 ≤ r)))) from ⟨_, rfl, by rw [decide_eq_true_iff]; exact hf.out.1⟩)
  clear hcall hf
  go_wp2_with fail
  go_ret
  exact ⟨y.out, rfl⟩

theorem ColIs.unique {D : WD} {a r q : Int} (h1 : ColIs D a r) (h2 : ColIs D a q) : r = q := by
  unfold ColIs at h1 h2
  by_cases hF : HeapForm D ∧ HasObj D a
  · by_cases hg : a ∈ D.grey
    · simp only [hF, hg, and_self, not_true_eq_false, false_and, true_and, false_or, or_false] at h1 h2; omega
    · by_cases hm : MarkedObj D a
      · simp only [hF, hg, hm, and_self, not_true_eq_false, not_false_eq_true, false_and, true_and, false_or, or_false] at h1 h2; omega
      · simp only [hF, hg, hm, and_self, not_true_eq_false, not_false_eq_true, false_and, true_and, false_or] at h1 h2; omega
  · simp only [hF, not_false_eq_true, true_and] at h1 h2
    rcases h1 with h1 | h1
    · rcases h2 with h2 | h2
      · omega
      · exact absurd ⟨h2.1, h2.2.1⟩ hF
    · exact absurd ⟨h1.1, h1.2.1⟩ hF
def ColE (D : WD) (a : Int) (e : Ending) : Prop := ∃ r : Int, e = .returned (.int .i64 r) ∧ ColIs D a r
theorem ColE.unique {D : WD} {a : Int} {e e' : Ending} (h : ColE D a e) (h' : ColE D a e') : e = e' := by
  obtain ⟨r, rfl, hr⟩ := h
  obtain ⟨q, rfl, hq⟩ := h'
  rw [hr.unique hq]

set_option maxRecDepth 100000 in
set_option maxHeartbeats 4000000 in
theorem icolour_any (v : Value) (D : WD) (hm : MarksIn D) (addr : Int) (ha : I64 addr) (w : World) (hr : RdW w v D) :
    Calls Try.prog 8 #[v, .int .i64 addr] w fun e w' => ColE D addr e ∧ Below w.heap.size w w' := by
  have hm' := Lib.hid hm
  have ha' := Lib.hid ha
  clear hm ha
  obtain ⟨vw, vd, vs, vm, vg, rfl, a1, a2, a3, a4, a5⟩ := hr
  have bx := box_new w (.cells #[.int .i64 D.base, .int .i64 D.pages, vw, vd, vs, vm, .int .i64 D.phase, .int .i64 D.next, vg] 36)
  have bw := below_box w (.cells #[.int .i64 D.base, .int .i64 D.pages, vw, vd, vs, vm, .int .i64 D.phase, .int .i64 D.next, vg] 36)
  have hW := Lib.hid (show RdW (w.alloc (.cells #[.int .i64 D.base, .int .i64 D.pages, vw, vd, vs, vm, .int .i64 D.phase, .int .i64 D.next, vg] 36)) (.agg #[.int .i64 D.base, .int .i64 D.pages, vw, vd, vs, vm, .int .i64 D.phase, .int .i64 D.next, vg]) D from ⟨vw, vd, vs, vm, vg, rfl, a1.below bw, a2.below bw, a3.below bw, a4.below bw, a5.below bw⟩)
  have hBx := Lib.hid (show BoxW (w.alloc (.cells #[.int .i64 D.base, .int .i64 D.pages, vw, vd, vs, vm, .int .i64 D.phase, .int .i64 D.next, vg] 36)) w.heap.size (.agg #[.int .i64 D.base, .int .i64 D.pages, vw, vd, vs, vm, .int .i64 D.phase, .int .i64 D.next, vg]) from ⟨_, rfl, bx⟩)
  have bw' := Lib.hid bw
  clear a1 a2 a3 a4 a5 bx bw
  go_enter Try.func8, Try.ntmps8
  go_wp2_with fail
  refine (findI_any _ D hm'.out addr ha'.out _ hW.out).mono ?_
  rintro e w1 ⟨⟨r, q, rfl, hq⟩, b1⟩
  have bb1 := Lib.hid (below_trans bw'.out b1)
  have hW1 := Lib.hid (hW.out.below b1)
  have hB1 := Lib.hid (hBx.out.below b1)
  have hq' := Lib.hid hq
  clear b1 hq
  rcases hq'.out with ⟨k, j, hF, ho, rfl, rfl⟩ | ⟨hn, rfl, rfl⟩
  case inr =>
    have n := Lib.hid (show ColIs D addr 0 from .inl ⟨fun ⟨hF, k, j, ho⟩ => hn hF k j ho, rfl⟩)
    clear hn hq'
    go_wp2_with fail
    go_ret
    exact ⟨⟨_, rfl, n.out⟩, bb1.out⟩
  have hF' := Lib.hid hF
  have ho' := Lib.hid ho
  clear hF ho hq'
  obtain ⟨s, hs, hj, _⟩ := id ho'.out
  have A := hF'.out.span k s hs
  have hmk := hm'.out k s hs
  have hm0 := A.mk0
  have hl := A.lens
  have h16 := (sl_bd s.cls).2
  unfold I64 at hmk
  have hcall := Lib.hid (imarked_any w.heap.size _ D k j s hs ⟨hm0, hmk.2, by omega⟩ w1 hW1.out hB1.out)
  have hk0 : decide ((k : Int) < 0) = false := decide_eq_false (by omega)
  have hgr := Lib.hid hW1.out.parts.2.2.2.2
  have g8 := hB1.out.cell 8 _ rfl
  clear hs hj A hmk hm0 hl h16
  go_wp2_with fail
  refine (icontains_any _ addr D.grey _ hgr.out).mono ?_
  rintro e w2 ⟨hq, rfl⟩
  rcases hq.elim with ⟨hm, rfl⟩ | ⟨hm, rfl⟩
  · have y := Lib.hid (show ColIs D addr 2 from .inr ⟨hF'.out, ⟨k, j, ho'.out⟩, .inl ⟨hm, rfl⟩⟩)
    clear hm hq
    go_wp2_with fail
    go_ret
    exact ⟨⟨_, rfl, y.out⟩, bb1.out⟩
  have hgn := Lib.hid hm
  clear hm hq
  go_wp2_with fail
  refine hcall.out.mono ?_
  rintro e w3 ⟨hq, b3⟩
  have bb3 := Lib.hid (below_trans bb1.out b3)
  rcases hq.elim with ⟨hd, rfl⟩ | ⟨hd, rfl⟩
  · have y := Lib.hid (show ColIs D addr 3 from .inr ⟨hF'.out, ⟨k, j, ho'.out⟩, .inr ⟨hgn.out, .inl ⟨⟨k, j, ho'.out, hd⟩, rfl⟩⟩⟩)
    clear hd hq b3
    go_wp2_with fail
    go_ret
    exact ⟨⟨_, rfl, y.out⟩, bb3.out⟩
  · have y := Lib.hid (show ColIs D addr 1 from .inr ⟨hF'.out, ⟨k, j, ho'.out⟩, .inr ⟨hgn.out, .inr ⟨fun h => hd ((MarkedObj.at_ hF'.out ho'.out).1 h), rfl⟩⟩⟩)
    clear hd hq b3
    go_wp2_with fail
    go_ret
    exact ⟨⟨_, rfl, y.out⟩, bb3.out⟩
end Go.Proofs.Ytefmejhabakghaa
