/-
  The model's l3ptrs and Pointers.
-/
import Derived.Test.YtajogfnlbdiokaaPtrs2
import Derived.Test.YtajogfnlbdiokaaFind
namespace Go.Proofs.Ytajogfnlbdiokaa
open Go.RowKit
set_option linter.unusedVariables false

set_option maxRecDepth 100000 in
set_option maxHeartbeats 4000000 in
theorem sptrs_any (B : Nat) (v : Value) (D : WD) (k j : Nat) (s : SpanD) (hks : D.spans[k]? = some s) (hin : SlotIn D s j) (hp0 : 0 ≤ s.ptrs[j]?.getD 0) (hp1 : s.ptrs[j]?.getD 0 ≤ sz s.cls) (w : World) (hr : RdW w v D) (hB : BoxW w B v) :
    Calls Try.prog 95 #[.pointer (some ⟨B, 0, none⟩), .int .i64 k, .int .i64 j] w fun e w' => ∃ u, e = .returned u ∧ w'.ownsRow w.heap.size 3 1 u (nz (ptrW D s j)).length ((nz (ptrW D s j)).map (Value.int .i64)) ∧ Below w.heap.size w w' := by
  obtain ⟨vw, vd, vs, vm, vg, rfl, a1, a2, a3, a4, a5⟩ := hr
  obtain ⟨cs, he, hh⟩ := hB
  obtain rfl := (Value.agg.inj he).symm
  obtain ⟨aW, cW, rfl, hlw, xw⟩ := id a1
  have hbd := hin.bd
  have hwd := hin.words
  have hpg := hin.pg
  have hpg0 := hin.pg0
  have hpg1 := hin.pg1
  obtain ⟨bw, ow, rfl, _⟩ := xw 0 (by omega)
  obtain ⟨aS, cS, rfl, hsl, hx⟩ := a3
  obtain ⟨b1, o1, rfl, hrs⟩ := hx k s hks
  obtain ⟨vl, vp, x0, x1, x2, x3, x4, x5, xl, xp⟩ := hrs
  obtain ⟨al, cl, rfl, hll, _⟩ := xl
  obtain ⟨ap, cp, rfl, hpl, xp⟩ := xp
  have hj := hin.j
  have hjp : j < s.ptrs.length := by have := hin.lens; have := hin.ptrs; omega
  obtain ⟨bp, op, rfl, xj⟩ := xp j hjp
  have g4 := cell_of_heap hh 4 (.slice (some ⟨b1, o1, none⟩) D.spans.length cS) rfl
  have g2 := cell_of_heap hh 2 (.slice (some ⟨bw, ow, none⟩) D.words.length cW) rfl
  have hkl1 : (k : Int) < (D.spans.length : Int) := by have := (List.getElem?_eq_some_iff.1 hks).1; omega
  have hjp1 : (j : Int) < (s.ptrs.length : Int) := by omega
  have hat := Lib.hid (fun w' => at_any s (.slice al s.lens.length cl) (.slice (some ⟨bp, op, none⟩) s.ptrs.length cp) (j : Int) (by omega) (by omega) (by omega) (by omega) w')
  obtain ⟨A, hA⟩ := Int.eq_ofNat_of_zero_le hbd.1
  obtain ⟨P, hP⟩ := Int.eq_ofNat_of_zero_le hp0
  have hsum : A + P ≤ D.words.length := by omega
  have hP16 : P ≤ 16 := by omega
  have hA16 : A ≤ 1000 := by omega
  have hpt : ptrW D s j = (D.words.drop A).take P := by unfold ptrW; rw [hA, hP]; rfl
  have hlen : ((D.words.drop A).take P).length = P := by simp; omega
  rw [hpt]
  have y := Lib.hid (Rd.part a1 hsum cW)
  rw [hP] at xj
  rw [hA] at hat
  unfold maxLen at hlw hpl hsl hll
  generalize (D.words.drop A).take P = L at *
  have G4 := Lib.hid g4
  have G2 := Lib.hid g2
  have X5 := Lib.hid x5
  have XJ := Lib.hid xj
  obtain ⟨i0, hi, hz0, hz1, hz2⟩ := info_parts info3
  have hsumI : (A : Int) + (P : Int) ≤ (D.words.length : Int) := by omega
  clear a1 a2 a4 a5 he hh xw hx xp hbd hwd hpg hpg0 hpg1 hks hin hp0 hp1 hA hP hpt hj hjp hsum
  go_enter Try.func95, Try.ntmps95
  go_wp2_with (go_at_call 124; refine (hat.out _).mono ?_; rintro e w2 ⟨rfl, b2⟩)
  clear g4 g2 x0 x1 x2 x3 x4 x5 xj
  go_loopw [7, 9] (fun v i wr => ∃ m : Nat, m ≤ P ∧ i = .int .i64 m ∧ wr.ownsRow w.heap.size 3 1 v (nz (L.take m)).length ((nz (L.take m)).map (Value.int .i64)) ∧ Below w.heap.size w wr) (fun v i _ => P - (intOf i).toNat)
  case atStart => exact ⟨0, Nat.zero_le _, rfl, World.ownsRow_nil _ _ _ _, b2⟩
  case round =>
    obtain ⟨m, hm, rfl, hown, hB⟩ := hrel
    have g4 := cell_below hB G4.out
    have g2 := cell_below hB G2.out
    have x5 := cell_below hB X5.out
    have xj := cell_below hB XJ.out
    by_cases hlt : m < P
    · obtain ⟨b', o', he, xi⟩ := (y.out.below hB).elim fun a' h => h.elim fun c' h => by
        obtain ⟨he, _, hx⟩ := h
        obtain ⟨b', o', hq, hc⟩ := hx m (by omega)
        exact (⟨b', o', by simp at he; rw [he.1]; exact hq, hc⟩ : ∃ b' o', some (⟨bw, ow + A, none⟩ : Addr) = some ⟨b', o', none⟩ ∧ wr.cell? ⟨b', o' + m, none⟩ = some (.int .i64 (L[m]?.getD 0)))
      obtain ⟨rfl, rfl⟩ : bw = b' ∧ ow + A = o' := by simpa using he
      rw [Nat.add_assoc] at xi
      have e5 : ((A : Int) + (m : Int)).toNat = A + m := by omega
      have e6 : (A : Int) + (m : Int) < (D.words.length : Int) := by omega
      have hmP : (m : Int) < (P : Int) := by omega
      have hlt2 : m < L.length := by omega
      clear he
      by_cases hz : L[m]?.getD 0 = 0
      · have ho2 := Lib.hid (show wr.ownsRow w.heap.size 3 1 _ (nz (L.take (m + 1))).length ((nz (L.take (m + 1))).map (Value.int .i64)) by rw [nz_zero hlt2 hz]; exact hown)
        rw [hz] at xi
        have hB' := Lib.hid hB
        clear hown hB hz
        go_wp2_with fail
        go_roundw
        case rel => exact ⟨m + 1, by omega, by go_num, ho2.out, hB'.out⟩
        case measure => simp [intOf]; omega
      · have hBs := hB.size
        have hle := nz_le L m
        have e2 := Lib.hid (nz_succ hlt2 hz)
        generalize L[m]?.getD 0 = x at *
        have hzb : (x == 0) = false := beq_eq_false_iff_ne.2 hz
        go_wp2_with (at_builtin; refine wpList_append_own _ rfl _ _ 25 rfl w.heap.size 3 i0 (.int .i64 0) 1 8 Try.underlying25 hi hz0 hz1 hz2 rfl (by decide) _ _ _ rfl (hown.alloc _) ⟨wr.heap.size, 0, none⟩ 1 1 [.int .i64 x] rfl rfl (cell_one _ _ _) (by simp [Value.oneCell']) (by unfold maxLen; omega) (by omega) (by simp; omega) ?_; intro v' w1 hown' hgrow _)
        have hB' := row_below (hB.alloc hBs _) (hown.alloc _) hgrow (by simp; omega)
        have ho2 : w1.ownsRow w.heap.size 3 1 v' (nz (L.take (m + 1))).length ((nz (L.take (m + 1))).map (Value.int .i64)) := by rw [e2.out]; simpa using hown'
        clear hown' hgrow hown hB hBs xj xi g4 g2 x5
        go_wp2_with fail
        go_roundw
        case rel => exact ⟨m + 1, by omega, by go_num, ho2, hB'⟩
        case measure => simp [intOf]; omega
    · obtain rfl : m = P := by omega
      rw [List.take_of_length_le (by omega)] at hown
      have hown' := Lib.hid hown
      clear hown
      go_wp2_with fail
      go_ret
      exact ⟨_, rfl, hown'.out, hB⟩
end Go.Proofs.Ytajogfnlbdiokaa
