import Derived.Test.YtdhiablpobnhcaaGreatPkP

/-
  The program's pointerWords: what slice it hands back; how it reads.
-/
namespace Go.Proofs.YtdhiablpobnhcaaGreat
open Go.RowKit
set_option linter.unusedVariables false

theorem ptrs_rd {v : Value} {D : WD} {k j : Nat} {s : SpanD} (hin : SlotIn D s j) (hp0 : 0 ≤ s.ptrs[j]?.getD 0) (hp1 : s.ptrs[j]?.getD 0 ≤ sz s.cls) {bw ow cW : Nat} (hv : ∃ c0 c1 c3 c4 c5 c6 c7 c8, v = .agg #[c0, c1, .slice (some ⟨bw, ow, none⟩) D.words.length cW, c3, c4, c5, c6, c7, c8]) {w : World} (hr : RdW w v D) :
    Rd w (.slice (some ⟨bw, ow + (atW s (j : Int)).toNat, none⟩) (ptrW D s j).length (cW - (atW s (j : Int)).toNat)) (ptrW D s j) := by
  obtain ⟨c0, c1, c3, c4, c5, c6, c7, c8, rfl⟩ := hv
  have a1 := hr.parts.1
  have hbd := hin.bd
  have hwd := hin.words
  obtain ⟨A, hA⟩ := Int.eq_ofNat_of_zero_le hbd.1
  obtain ⟨P, hP⟩ := Int.eq_ofNat_of_zero_le hp0
  have hpt : ptrW D s j = (D.words.drop A).take P := by unfold ptrW; rw [hA, hP]; rfl
  have hsum : A + P ≤ D.words.length := by have := hin.pg; omega
  have hlen : ((D.words.drop A).take P).length = P := by simp; omega
  rw [hpt, hlen, hA, Int.toNat_natCast]
  exact Rd.part a1 hsum _
theorem words_some {w : World} {v : Value} {D : WD} (hr : RdW w v D) (hl : 0 < D.words.length) : ∃ bw ow cW, ∃ c0 c1 c3 c4 c5 c6 c7 c8, v = .agg #[c0, c1, .slice (some ⟨bw, ow, none⟩) D.words.length cW, c3, c4, c5, c6, c7, c8] := by
  obtain ⟨vw, vd, vs, vm, vg, rfl, ⟨aW, cW, rfl, _, xw⟩, _⟩ := hr
  obtain ⟨bw, ow, rfl, _⟩ := xw 0 hl
  exact ⟨bw, ow, cW, _, _, _, _, _, _, _, _, rfl⟩

set_option maxRecDepth 100000 in
set_option maxHeartbeats 4000000 in
theorem pointerWords_at (bw ow cW : Nat) (B : Nat) (v : Value) (D : WD) (k j : Nat) (s : SpanD) (hks : D.spans[k]? = some s) (hin : SlotIn D s j) (hp0 : 0 ≤ s.ptrs[j]?.getD 0) (hp1 : s.ptrs[j]?.getD 0 ≤ sz s.cls) (hcap : CapW v) (hv : ∃ c0 c1 c3 c4 c5 c6 c7 c8, v = .agg #[c0, c1, .slice (some ⟨bw, ow, none⟩) D.words.length cW, c3, c4, c5, c6, c7, c8]) (w : World) (hr : RdW w v D) (hB : BoxW w B v) :
    Calls Tryz.prog 116 #[.pointer (some ⟨B, 0, none⟩), .agg #[.int .i64 k, .int .i64 j]] w fun e w' => e = .returned (.slice (some ⟨bw, ow + (atW s (j : Int)).toNat, none⟩) (ptrW D s j).length (cW - (atW s (j : Int)).toNat)) ∧ Below w.heap.size w w' := by
  obtain ⟨vw, vd, vs, vm, vg, rfl, a1, a2, a3, a4, a5⟩ := hr
  obtain ⟨cs, he, hh⟩ := hB
  obtain rfl := (Value.agg.inj he).symm
  obtain ⟨aW, cW', rfl, hlw, xw⟩ := id a1
  have hc := hcap _ _ _ _ _ _ _ _ _ _ _ rfl
  have hbd := hin.bd
  have hwd := hin.words
  have hpg := hin.pg
  have hpg0 := hin.pg0
  have hpg1 := hin.pg1
  obtain ⟨bw', ow', rfl, _⟩ := xw 0 (by omega)
  obtain ⟨rfl, rfl, rfl⟩ : bw' = bw ∧ ow' = ow ∧ cW' = cW := by
    obtain ⟨c0, c1, c3, c4, c5, c6, c7, c8, e⟩ := hv
    simp only [Value.agg.injEq, Array.mk.injEq, List.cons.injEq, Value.slice.injEq, Option.some.injEq, Addr.mk.injEq, true_and, and_true] at e
    exact ⟨e.2.2.1.1.1, e.2.2.1.1.2, e.2.2.1.2⟩
  clear hv
  obtain ⟨aS, cS, rfl, hsl, hx⟩ := a3
  obtain ⟨b1, o1, rfl, hrs⟩ := hx k s hks
  have bb := below_box w (.cells #[.int .i64 k, .int .i64 j] 69)
  have bx := box_new w (.cells #[.int .i64 k, .int .i64 j] 69)
  have hrs' := hrs.below bb
  have hfw := Lib.hid (fun (w' : World) (h : RdSpan w' b1 (o1 + k * 6) s) => firstWord_any b1 (o1 + k * 6) s (j : Int) (by omega) (by omega) (by omega) (by omega) w' h)
  have hrs2 := Lib.hid hrs'
  obtain ⟨vl, vp, x0, x1, x2, x3, x4, x5, xl, xp⟩ := hrs'
  obtain ⟨ap, cp, rfl, hpl, xp⟩ := xp
  have hj := hin.j
  have hjp : j < s.ptrs.length := by have := hin.lens; have := hin.ptrs; omega
  obtain ⟨bp, op, rfl, xj⟩ := xp j hjp
  have g4 := cell_below bb (cell_of_heap hh 4 _ rfl)
  have g2 := cell_below bb (cell_of_heap hh 2 _ rfl)
  have q0 := cell_of_heap bx 0 _ rfl
  have q1 := cell_of_heap bx 1 _ rfl
  have hkl1 : (k : Int) < (D.spans.length : Int) := by have := (List.getElem?_eq_some_iff.1 hks).1; omega
  have hjp1 : (j : Int) < (s.ptrs.length : Int) := by omega
  obtain ⟨A, hA⟩ := Int.eq_ofNat_of_zero_le hbd.1
  obtain ⟨P, hP⟩ := Int.eq_ofNat_of_zero_le hp0
  have hsum : A + P ≤ D.words.length := by omega
  have hA2 : A + 2 ≤ D.words.length := by omega
  have hP16 : P ≤ 16 := by omega
  have hpt : ptrW D s j = (D.words.drop A).take P := by unfold ptrW; rw [hA, hP]; rfl
  have hlen : ((D.words.drop A).take P).length = P := by simp; omega
  rw [hpt, hlen, hA, Int.toNat_natCast]
  have y := Lib.hid (fun c' => Rd.part a1 hsum c')
  have bb' := Lib.hid bb
  rw [hP] at xj
  rw [hA] at hfw
  unfold maxLen at hlw hpl hsl
  have e0 : ¬ cW' = A := by omega
  have e1 : IntKind.i64.wrap ((A : Int) + (P : Int)) = (A : Int) + (P : Int) := IntWalk.i64_in _ (by omega)
  have e2 : (A : Int) ≤ (A : Int) + (P : Int) := by omega
  have e3 : (A : Int) + (P : Int) ≤ (cW' : Int) := by omega
  have e4 : (0 : Int) ≤ (A : Int) + (P : Int) := by omega
  have e5 : ((A : Int) + (P : Int)).toNat = A + P := by omega
  have hc' := Lib.hid hc
  clear a1 a2 a4 a5 he hh xw hx hrs xl xp hbd hwd hpg hpg0 hpg1 hks hin hp0 hp1 hA hP hpt hlen hcap bb bx x0 x1 x2 x3 x4 hj hjp hsum hc hA2
  go_enter Tryz.func116, Tryz.ntmps116
  go_upto_region 1 with fail
  generalize w.alloc (.cells #[.int .i64 k, .int .i64 j] 69) = W at *
  go_quiet (fail)
  go_wp2_with (go_at_call 162; refine (hfw.out _ ?_).mono ?_; (first | exact hrs2.out | exact hrs2.out.drewN 1); rintro e w' ⟨rfl, dr⟩; obtain ⟨m, rfl⟩ := dr)
  go_quiet (fail)
  go_wp2_with fail
  go_ret
  exact ⟨rfl, below_drewN (below_drewN bb'.out _) _⟩
end Go.Proofs.YtdhiablpobnhcaaGreat
