import Derived.Test.YtpaepkcfdnddgaaGreatCgP
import Derived.Test.YtpaepkcfdnddgaaGreatCgN
import Derived.Test.YtpaepkcfdnddgaaGreatCgV
import Derived.Test.YtpaepkcfdnddgaaGreatCgQ
import Derived.Maps.RangeWalk
import Derived.Test.YtpaepkcfdnddgaaGreatCgSW

namespace Go.Proofs.YtpaepkcfdnddgaaGreat
open Go.RowKit
set_option linter.unusedVariables false

theorem ptrs_rd {v : Value} {D : WD} {k j : Nat} {s : SpanD} (hin : SlotIn D s j) (hp0 : 0 ≤ s.ptrs[j]?.getD 0) (hp1 : s.ptrs[j]?.getD 0 ≤ sz s.cls) {bw ow cW : Nat} (hv : ∃ c0 c1 c3 c4 c5 c6 c7 c8, v = .agg #[c0, c1, .slice (some ⟨bw, ow, none⟩) D.words.length cW, c3, c4, c5, c6, c7, c8]) {w : World} (hr : RdW w v D) :
    Rd w (.slice (some ⟨bw, ow + (atW s (j : Int)).toNat, none⟩) (ptrW D s j).length (cW - (atW s (j : Int)).toNat)) (ptrW D s j) := by
  obtain ⟨c0, c1, c3, c4, c5, c6, c7, c8, rfl⟩ := hv
  have a1 := hr.parts.1
  have hbd := hin.bd
  have hwd := hin.words
  obtain ⟨A, hA⟩ := Int.eq_ofNat_of_zero_le hbd.1
  obtain ⟨P, hP⟩ := Int.eq_ofNat_of_zero_le hp0
  have hpt : ptrW D s j = (D.words.drop A).take P := by unfold ptrW; rw [hA, hP]; rfl
  have hsum : A + P ≤ D.words.length := by have := hin.pg; omega
  have hlen : ((D.words.drop A).take P).length = P := by simp; omega
  rw [hpt, hlen, hA, Int.toNat_natCast]
  exact Rd.part a1 hsum _
theorem words_some {w : World} {v : Value} {D : WD} (hr : RdW w v D) (hl : 0 < D.words.length) : ∃ bw ow cW, ∃ c0 c1 c3 c4 c5 c6 c7 c8, v = .agg #[c0, c1, .slice (some ⟨bw, ow, none⟩) D.words.length cW, c3, c4, c5, c6, c7, c8] := by
  obtain ⟨vw, vd, vs, vm, vg, rfl, ⟨aW, cW, rfl, _, xw⟩, _⟩ := hr
  obtain ⟨bw, ow, rfl, _⟩ := xw 0 hl
  exact ⟨bw, ow, cW, _, _, _, _, _, _, _, _, rfl⟩

set_option maxRecDepth 100000 in
set_option maxHeartbeats 4000000 in
theorem pointerWords_at (bw ow cW : Nat) (B : Nat) (v : Value) (D : WD) (k j : Nat) (s : SpanD) (hks : D.spans[k]? = some s) (hin : SlotIn D s j) (hp0 : 0 ≤ s.ptrs[j]?.getD 0) (hp1 : s.ptrs[j]?.getD 0 ≤ sz s.cls) (hcap : CapW v) (hv : ∃ c0 c1 c3 c4 c5 c6 c7 c8, v = .agg #[c0, c1, .slice (some ⟨bw, ow, none⟩) D.words.length cW, c3, c4, c5, c6, c7, c8]) (w : World) (hr : RdW w v D) (hB : BoxW w B v) :
    Calls Tryz.prog 106 #[.pointer (some ⟨B, 0, none⟩), .agg #[.int .i64 k, .int .i64 j]] w fun e w' => e = .returned (.slice (some ⟨bw, ow + (atW s (j : Int)).toNat, none⟩) (ptrW D s j).length (cW - (atW s (j : Int)).toNat)) ∧ Below w.heap.size w w' := by
  obtain ⟨vw, vd, vs, vm, vg, rfl, a1, a2, a3, a4, a5⟩ := hr
  obtain ⟨cs, he, hh⟩ := hB
  obtain rfl := (Value.agg.inj he).symm
  obtain ⟨aW, cW', rfl, hlw, xw⟩ := id a1
  have hc := hcap _ _ _ _ _ _ _ _ _ _ _ rfl
  have hbd := hin.bd
  have hwd := hin.words
  have hpg := hin.pg
  have hpg0 := hin.pg0
  have hpg1 := hin.pg1
  obtain ⟨bw', ow', rfl, _⟩ := xw 0 (by omega)
  obtain ⟨rfl, rfl, rfl⟩ : bw' = bw ∧ ow' = ow ∧ cW' = cW := by
    obtain ⟨c0, c1, c3, c4, c5, c6, c7, c8, e⟩ := hv
    simp only [Value.agg.injEq, Array.mk.injEq, List.cons.injEq, Value.slice.injEq, Option.some.injEq, Addr.mk.injEq, true_and, and_true] at e
    exact ⟨e.2.2.1.1.1, e.2.2.1.1.2, e.2.2.1.2⟩
  clear hv
  obtain ⟨aS, cS, rfl, hsl, hx⟩ := a3
  obtain ⟨b1, o1, rfl, hrs⟩ := hx k s hks
  have bb := below_box w (.cells #[.int .i64 k, .int .i64 j] 126)
  have bx := box_new w (.cells #[.int .i64 k, .int .i64 j] 126)
  have hrs' := hrs.below bb
  have hfw := Lib.hid (fun (w' : World) (h : RdSpan w' b1 (o1 + k * 6) s) => firstWord_any b1 (o1 + k * 6) s (j : Int) (by omega) (by omega) (by omega) (by omega) w' h)
  have hrs2 := Lib.hid hrs'
  obtain ⟨vl, vp, x0, x1, x2, x3, x4, x5, xl, xp⟩ := hrs'
  obtain ⟨ap, cp, rfl, hpl, xp⟩ := xp
  have hj := hin.j
  have hjp : j < s.ptrs.length := by have := hin.lens; have := hin.ptrs; omega
  obtain ⟨bp, op, rfl, xj⟩ := xp j hjp
  have g4 := cell_below bb (cell_of_heap hh 4 _ rfl)
  have g2 := cell_below bb (cell_of_heap hh 2 _ rfl)
  have q0 := cell_of_heap bx 0 _ rfl
  have q1 := cell_of_heap bx 1 _ rfl
  have hkl1 : (k : Int) < (D.spans.length : Int) := by have := (List.getElem?_eq_some_iff.1 hks).1; omega
  have hjp1 : (j : Int) < (s.ptrs.length : Int) := by omega
  obtain ⟨A, hA⟩ := Int.eq_ofNat_of_zero_le hbd.1
  obtain ⟨P, hP⟩ := Int.eq_ofNat_of_zero_le hp0
  have hsum : A + P ≤ D.words.length := by omega
  have hA2 : A + 2 ≤ D.words.length := by omega
  have hP16 : P ≤ 16 := by omega
  have hpt : ptrW D s j = (D.words.drop A).take P := by unfold ptrW; rw [hA, hP]; rfl
  have hlen : ((D.words.drop A).take P).length = P := by simp; omega
  rw [hpt, hlen, hA, Int.toNat_natCast]
  have y := Lib.hid (fun c' => Rd.part a1 hsum c')
  have bb' := Lib.hid bb
  rw [hP] at xj
  rw [hA] at hfw
  unfold maxLen at hlw hpl hsl
  have e0 : ¬ cW' = A := by omega
  have e1 : IntKind.i64.wrap ((A : Int) + (P : Int)) = (A : Int) + (P : Int) := IntWalk.i64_in _ (by omega)
  have e2 : (A : Int) ≤ (A : Int) + (P : Int) := by omega
  have e3 : (A : Int) + (P : Int) ≤ (cW' : Int) := by omega
  have e4 : (0 : Int) ≤ (A : Int) + (P : Int) := by omega
  have e5 : ((A : Int) + (P : Int)).toNat = A + P := by omega
  have hc' := Lib.hid hc
  clear a1 a2 a4 a5 he hh xw hx hrs xl xp hbd hwd hpg hpg0 hpg1 hks hin hp0 hp1 hA hP hpt hlen hcap bb bx x0 x1 x2 x3 x4 hj hjp hsum hc hA2
  go_enter Tryz.func106, Tryz.ntmps106
  go_upto_region 1 with fail
  generalize w.alloc (.cells #[.int .i64 k, .int .i64 j] 126) = W at *
  go_quiet (fail)
  go_wp2_with (go_at_call 142; refine (hfw.out _ ?_).mono ?_; (first | exact hrs2.out | exact hrs2.out.drewN 1); rintro e w' ⟨rfl, dr⟩; obtain ⟨m, rfl⟩ := dr)
  go_quiet (fail)
  go_wp2_with fail
  go_ret
  exact ⟨rfl, below_drewN (below_drewN bb'.out _) _⟩
end Go.Proofs.YtpaepkcfdnddgaaGreat

namespace Go.Proofs.YtpaepkcfdnddgaaGreat
open Go.RowKit
set_option linter.unusedVariables false

set_option maxHeartbeats 1000000 in
theorem zcS_any (V : Nat) (Bz : Nat) (P : Int → Prop) (x : Int) (hx : I64 x) (w : World) (hc : w.cell? ⟨Bz, 0, none⟩ = some (.func (.func 152) #[.pointer (some ⟨V, 0, none⟩)] #[])) (hP : Calls Tryz.prog 152 #[.pointer (some ⟨V, 0, none⟩), .int .i64 x] w fun e w'' => IsB (P x) e ∧ Below w.heap.size w w'') :
    Calls Tryz.prog 169 #[.int .i64 x, .pointer (some ⟨Bz, 0, none⟩)] w fun e w' => IsB (x ≠ 0 ∧ ¬ P x) e ∧ Below w.heap.size w w' := by
  have hP' := Lib.hid hP
  clear hP
  by_cases c : x = 0
  · have y := Lib.hid (IsB.no (P := x ≠ 0 ∧ ¬ P x) fun h => h.1 c)
    subst c
    clear hc
    go_enter Tryz.func169, Tryz.ntmps169
    go_wp2_with fail
    go_ret
    exact ⟨y.out, Below.refl _ _⟩
  have d : (x != 0) = true := bne_iff_ne.2 c
  have hcx := Lib.hid c
  clear c
  go_enter Tryz.func169, Tryz.ntmps169
  go_wp2_with fail
  refine hP'.out.mono ?_
  rintro e w1 ⟨⟨r, rfl, hr⟩, b1⟩
  have y := Lib.hid (show IsB (x ≠ 0 ∧ ¬ P x) (.returned (.bool (!r))) from ⟨_, rfl, by rw [← hr]; have := hcx.out; cases r <;> simp [this]⟩)
  have b1' := Lib.hid b1
  clear hr b1 hP'
  go_wp2_with fail
  go_ret
  exact ⟨y.out, b1'.out⟩

set_option maxRecDepth 100000 in
set_option maxHeartbeats 4000000 in
theorem zidxS_any (V : Nat) (Bz : Nat) (P : Int → Prop) (v : Value) (L : List Int) (hL : AllI L) (w : World) (hr : Rd w v L) (hc : w.cell? ⟨Bz, 0, none⟩ = some (.func (.func 152) #[.pointer (some ⟨V, 0, none⟩)] #[])) (hP : ∀ (x : Int) (w' : World), I64 x → Below w.heap.size w w' → Calls Tryz.prog 152 #[.pointer (some ⟨V, 0, none⟩), .int .i64 x] w' fun e w'' => IsB (P x) e ∧ Below w'.heap.size w' w'') :
    Calls Tryz.prog 173 #[v, .func (.func 169) #[] #[.pointer (some ⟨Bz, 0, none⟩)]] w fun e w' => ∃ r : Int, e = .returned (.int .i64 r) ∧ Hid (0 ≤ r ↔ ∃ a, a ∈ L ∧ a ≠ 0 ∧ ¬ P a) ∧ Below w.heap.size w w' := by
  have hP' := Lib.hid hP
  have hL' := Lib.hid hL
  have hc' := Lib.hid hc
  obtain ⟨a1, c1, rfl, hl, r1⟩ := hr
  unfold maxLen at hl
  have r1 := Lib.hid r1
  clear hP hL hc
  go_enter Tryz.func173, Tryz.ntmps173
  go_wp2_with fail
  go_loopw [8] (fun i wr => ∃ k : Nat, k ≤ L.length ∧ i = .int .i64 k ∧ Hid (ZeroOr P (L.take k)) ∧ Hid (Below w.heap.size w wr)) (fun i _ => L.length - (Go.RowKit.intOf i).toNat)
  case atStart => exact ⟨0, Nat.zero_le _, rfl, Lib.hid (fun a h => by simp at h), Lib.hid (Below.refl _ _)⟩
  case round =>
    obtain ⟨k, hk, rfl, hno, hB⟩ := hrel
    by_cases hlt : k < L.length
    · have hlt1 : (k : Int) < (L.length : Int) := by omega
      obtain ⟨b1, o1, rfl, x0⟩ := r1.out k hlt
      have x1 := cell_below hB.out x0
      have hmem := Lib.hid (show L[k]?.getD 0 ∈ L by rw [List.getElem?_eq_getElem hlt]; exact List.getElem_mem hlt)
      have hyes := Lib.hid (show ¬ (L[k]?.getD 0 ≠ 0 ∧ ¬ P (L[k]?.getD 0)) → ZeroOr P (L.take (k + 1)) from fun h a ha => by
        rw [take_one hlt] at ha
        rcases List.mem_append.1 ha with m | m
        · exact hno.out a m
        · rw [List.mem_singleton.1 m]
          exact Classical.byContradiction fun h2 => h ⟨fun e => h2 (.inl e), fun e => h2 (.inr e)⟩)
      clear x0
      have hx := hL'.out _ hmem.out
      generalize L[k]?.getD 0 = x at *
      have hcall := Lib.hid (zcS_any V Bz P x hx wr (cell_below hB.out hc'.out) (hP'.out x wr hx hB.out))
      have hlen : k ≤ 9223372036854775807 := by omega
      clear hx
      go_wp2_with fail
      refine hcall.out.mono ?_
      rintro e w2 ⟨hq, b2⟩
      replace hq := hq.elim
      have hB2 := Lib.hid (below_trans hB.out b2)
      clear b2 hcall x1
      rcases hq with ⟨hq, rfl⟩ | ⟨hq, rfl⟩
      · have y := Lib.hid (show 0 ≤ (k : Int) ↔ ∃ a, a ∈ L ∧ a ≠ 0 ∧ ¬ P a from ⟨fun _ => ⟨x, hmem.out, hq⟩, fun _ => by omega⟩)
        clear hq
        go_wp2_with fail
        go_ret
        exact ⟨_, rfl, y, hB2.out⟩
      · have hn := Lib.hid (hyes.out hq)
        clear hq
        go_wp2_with fail
        go_roundw
        case rel => exact ⟨k + 1, by omega, by go_num, hn, hB2⟩
        case measure => simp [Go.RowKit.intOf]; omega
    obtain rfl : k = L.length := by omega
    have y := Lib.hid (show 0 ≤ (-1 : Int) ↔ ∃ a, a ∈ L ∧ a ≠ 0 ∧ ¬ P a from ⟨fun h => absurd h (by omega), fun h => absurd (show ZeroOr P L by simpa using hno.out) (zeroOr_not.1 h)⟩)
    go_wp2_with fail
    go_ret
    exact ⟨_, rfl, y, hB.out⟩

set_option maxHeartbeats 1000000 in
theorem zconS_any (V : Nat) (Bz : Nat) (P : Int → Prop) (v : Value) (L : List Int) (hL : AllI L) (w : World) (hr : Rd w v L) (hc : w.cell? ⟨Bz, 0, none⟩ = some (.func (.func 152) #[.pointer (some ⟨V, 0, none⟩)] #[])) (hP : ∀ (x : Int) (w' : World), I64 x → Below w.heap.size w w' → Calls Tryz.prog 152 #[.pointer (some ⟨V, 0, none⟩), .int .i64 x] w' fun e w'' => IsB (P x) e ∧ Below w'.heap.size w' w'') :
    Calls Tryz.prog 168 #[v, .func (.func 169) #[] #[.pointer (some ⟨Bz, 0, none⟩)]] w fun e w' => IsB (∃ a, a ∈ L ∧ a ≠ 0 ∧ ¬ P a) e ∧ Below w.heap.size w w' := by
  have hcall := Lib.hid (zidxS_any V Bz P v L hL w hr hc hP)
  clear hr hc hP hL
  go_enter Tryz.func168, Tryz.ntmps168
  go_wp2_with fail
  refine hcall.out.mono ?_
  rintro e w1 ⟨r, rfl, hf, b1⟩
  have y := Lib.hid (show IsB (∃ a, a ∈ L ∧ a ≠ 0 ∧ ¬ P a) (.returned (.bool (decide (0 ≤ r)))) from ⟨_, rfl, by rw [decide_eq_true_iff]; exact hf.out⟩)
  have b1' := Lib.hid b1
  clear b1 hcall hf
  go_wp2_with fail
  go_ret
  exact ⟨y.out, b1'.out⟩

set_option maxHeartbeats 1000000 in
theorem zeroOrS_any (V : Nat) (P : Int → Prop) (v : Value) (L : List Int) (hL : AllI L) (w : World) (hr : Rd w v L) (hP : ∀ (x : Int) (w' : World), I64 x → Below w.heap.size w w' → Calls Tryz.prog 152 #[.pointer (some ⟨V, 0, none⟩), .int .i64 x] w' fun e w'' => IsB (P x) e ∧ Below w'.heap.size w' w'') :
    Calls Tryz.prog 151 #[v, .func (.func 152) #[.pointer (some ⟨V, 0, none⟩)] #[]] w fun e w' => IsB (ZeroOr P L) e ∧ Below w.heap.size w w' := by
  have bb := Lib.hid (below_box w (.cells #[.func (.func 152) #[.pointer (some ⟨V, 0, none⟩)] #[]] 79))
  have bx := box_new w (.cells #[.func (.func 152) #[.pointer (some ⟨V, 0, none⟩)] #[]] 79)
  have hcall := Lib.hid (zconS_any V w.heap.size P v L hL _ (hr.below bb.out) (cell_of_heap bx 0 _ rfl) (fun x w' hx hb => hP x w' hx (below_trans bb.out hb)))
  have hmf : ∀ (fn : Fn) (first cap : Array Value) (w : World), (Instr.makeFunc fn first cap).run Tryz.prog w = .ok (.func fn first cap) w := fun _ _ _ _ => rfl
  clear hr hP hL bx
  go_enter Tryz.func151, Tryz.ntmps151
  go_wp2_with fail
  refine hcall.out.mono ?_
  rintro e w1 ⟨⟨r, rfl, hr⟩, b1⟩
  have y := Lib.hid (show IsB (ZeroOr P L) (.returned (.bool (!r))) from ⟨_, rfl, by
    have h2 := hr.trans (zeroOr_not (P := P) (L := L))
    cases r
    · simp only [Bool.not_false, true_iff]
      exact Classical.byContradiction fun h => by have := h2.2 h; cases this
    · simp only [Bool.not_true, Bool.false_eq_true, false_iff]
      exact h2.1 rfl⟩)
  have b1' := Lib.hid (below_trans bb.out b1)
  clear b1 hcall hr
  go_wp2_with fail
  go_ret
  exact ⟨y.out, b1'.out⟩

set_option maxHeartbeats 1000000 in
theorem zcK_any (B1 B2 : Nat) (Bz : Nat) (P : Int → Prop) (x : Int) (hx : I64 x) (w : World) (hc : w.cell? ⟨Bz, 0, none⟩ = some (.func (.func 161) #[] #[.pointer (some ⟨B1, 0, none⟩), .pointer (some ⟨B2, 0, none⟩)])) (hP : Calls Tryz.prog 161 #[.int .i64 x, .pointer (some ⟨B1, 0, none⟩), .pointer (some ⟨B2, 0, none⟩)] w fun e w'' => IsB (P x) e ∧ Below w.heap.size w w'') :
    Calls Tryz.prog 169 #[.int .i64 x, .pointer (some ⟨Bz, 0, none⟩)] w fun e w' => IsB (x ≠ 0 ∧ ¬ P x) e ∧ Below w.heap.size w w' := by
  have hP' := Lib.hid hP
  clear hP
  by_cases c : x = 0
  · have y := Lib.hid (IsB.no (P := x ≠ 0 ∧ ¬ P x) fun h => h.1 c)
    subst c
    clear hc
    go_enter Tryz.func169, Tryz.ntmps169
    go_wp2_with fail
    go_ret
    exact ⟨y.out, Below.refl _ _⟩
  have d : (x != 0) = true := bne_iff_ne.2 c
  have hcx := Lib.hid c
  clear c
  go_enter Tryz.func169, Tryz.ntmps169
  go_wp2_with fail
  refine hP'.out.mono ?_
  rintro e w1 ⟨⟨r, rfl, hr⟩, b1⟩
  have y := Lib.hid (show IsB (x ≠ 0 ∧ ¬ P x) (.returned (.bool (!r))) from ⟨_, rfl, by rw [← hr]; have := hcx.out; cases r <;> simp [this]⟩)
  have b1' := Lib.hid b1
  clear hr b1 hP'
  go_wp2_with fail
  go_ret
  exact ⟨y.out, b1'.out⟩

set_option maxRecDepth 100000 in
set_option maxHeartbeats 4000000 in
theorem zidxK_any (B1 B2 : Nat) (Bz : Nat) (P : Int → Prop) (v : Value) (L : List Int) (hL : AllI L) (w : World) (hr : Rd w v L) (hc : w.cell? ⟨Bz, 0, none⟩ = some (.func (.func 161) #[] #[.pointer (some ⟨B1, 0, none⟩), .pointer (some ⟨B2, 0, none⟩)])) (hP : ∀ (x : Int) (w' : World), I64 x → Below w.heap.size w w' → Calls Tryz.prog 161 #[.int .i64 x, .pointer (some ⟨B1, 0, none⟩), .pointer (some ⟨B2, 0, none⟩)] w' fun e w'' => IsB (P x) e ∧ Below w'.heap.size w' w'') :
    Calls Tryz.prog 173 #[v, .func (.func 169) #[] #[.pointer (some ⟨Bz, 0, none⟩)]] w fun e w' => ∃ r : Int, e = .returned (.int .i64 r) ∧ Hid (0 ≤ r ↔ ∃ a, a ∈ L ∧ a ≠ 0 ∧ ¬ P a) ∧ Below w.heap.size w w' := by
  have hP' := Lib.hid hP
  have hL' := Lib.hid hL
  have hc' := Lib.hid hc
  obtain ⟨a1, c1, rfl, hl, r1⟩ := hr
  unfold maxLen at hl
  have r1 := Lib.hid r1
  clear hP hL hc
  go_enter Tryz.func173, Tryz.ntmps173
  go_wp2_with fail
  go_loopw [8] (fun i wr => ∃ k : Nat, k ≤ L.length ∧ i = .int .i64 k ∧ Hid (ZeroOr P (L.take k)) ∧ Hid (Below w.heap.size w wr)) (fun i _ => L.length - (Go.RowKit.intOf i).toNat)
  case atStart => exact ⟨0, Nat.zero_le _, rfl, Lib.hid (fun a h => by simp at h), Lib.hid (Below.refl _ _)⟩
  case round =>
    obtain ⟨k, hk, rfl, hno, hB⟩ := hrel
    by_cases hlt : k < L.length
    · have hlt1 : (k : Int) < (L.length : Int) := by omega
      obtain ⟨b1, o1, rfl, x0⟩ := r1.out k hlt
      have x1 := cell_below hB.out x0
      have hmem := Lib.hid (show L[k]?.getD 0 ∈ L by rw [List.getElem?_eq_getElem hlt]; exact List.getElem_mem hlt)
      have hyes := Lib.hid (show ¬ (L[k]?.getD 0 ≠ 0 ∧ ¬ P (L[k]?.getD 0)) → ZeroOr P (L.take (k + 1)) from fun h a ha => by
        rw [take_one hlt] at ha
        rcases List.mem_append.1 ha with m | m
        · exact hno.out a m
        · rw [List.mem_singleton.1 m]
          exact Classical.byContradiction fun h2 => h ⟨fun e => h2 (.inl e), fun e => h2 (.inr e)⟩)
      clear x0
      have hx := hL'.out _ hmem.out
      generalize L[k]?.getD 0 = x at *
      have hcall := Lib.hid (zcK_any B1 B2 Bz P x hx wr (cell_below hB.out hc'.out) (hP'.out x wr hx hB.out))
      have hlen : k ≤ 9223372036854775807 := by omega
      clear hx
      go_wp2_with fail
      refine hcall.out.mono ?_
      rintro e w2 ⟨hq, b2⟩
      replace hq := hq.elim
      have hB2 := Lib.hid (below_trans hB.out b2)
      clear b2 hcall x1
      rcases hq with ⟨hq, rfl⟩ | ⟨hq, rfl⟩
      · have y := Lib.hid (show 0 ≤ (k : Int) ↔ ∃ a, a ∈ L ∧ a ≠ 0 ∧ ¬ P a from ⟨fun _ => ⟨x, hmem.out, hq⟩, fun _ => by omega⟩)
        clear hq
        go_wp2_with fail
        go_ret
        exact ⟨_, rfl, y, hB2.out⟩
      · have hn := Lib.hid (hyes.out hq)
        clear hq
        go_wp2_with fail
        go_roundw
        case rel => exact ⟨k + 1, by omega, by go_num, hn, hB2⟩
        case measure => simp [Go.RowKit.intOf]; omega
    obtain rfl : k = L.length := by omega
    have y := Lib.hid (show 0 ≤ (-1 : Int) ↔ ∃ a, a ∈ L ∧ a ≠ 0 ∧ ¬ P a from ⟨fun h => absurd h (by omega), fun h => absurd (show ZeroOr P L by simpa using hno.out) (zeroOr_not.1 h)⟩)
    go_wp2_with fail
    go_ret
    exact ⟨_, rfl, y, hB.out⟩

set_option maxHeartbeats 1000000 in
theorem zconK_any (B1 B2 : Nat) (Bz : Nat) (P : Int → Prop) (v : Value) (L : List Int) (hL : AllI L) (w : World) (hr : Rd w v L) (hc : w.cell? ⟨Bz, 0, none⟩ = some (.func (.func 161) #[] #[.pointer (some ⟨B1, 0, none⟩), .pointer (some ⟨B2, 0, none⟩)])) (hP : ∀ (x : Int) (w' : World), I64 x → Below w.heap.size w w' → Calls Tryz.prog 161 #[.int .i64 x, .pointer (some ⟨B1, 0, none⟩), .pointer (some ⟨B2, 0, none⟩)] w' fun e w'' => IsB (P x) e ∧ Below w'.heap.size w' w'') :
    Calls Tryz.prog 168 #[v, .func (.func 169) #[] #[.pointer (some ⟨Bz, 0, none⟩)]] w fun e w' => IsB (∃ a, a ∈ L ∧ a ≠ 0 ∧ ¬ P a) e ∧ Below w.heap.size w w' := by
  have hcall := Lib.hid (zidxK_any B1 B2 Bz P v L hL w hr hc hP)
  clear hr hc hP hL
  go_enter Tryz.func168, Tryz.ntmps168
  go_wp2_with fail
  refine hcall.out.mono ?_
  rintro e w1 ⟨r, rfl, hf, b1⟩
  have y := Lib.hid (show IsB (∃ a, a ∈ L ∧ a ≠ 0 ∧ ¬ P a) (.returned (.bool (decide (0 ≤ r)))) from ⟨_, rfl, by rw [decide_eq_true_iff]; exact hf.out⟩)
  have b1' := Lib.hid b1
  clear b1 hcall hf
  go_wp2_with fail
  go_ret
  exact ⟨y.out, b1'.out⟩

set_option maxHeartbeats 1000000 in
theorem zeroOrK_any (B1 B2 : Nat) (P : Int → Prop) (v : Value) (L : List Int) (hL : AllI L) (w : World) (hr : Rd w v L) (hP : ∀ (x : Int) (w' : World), I64 x → Below w.heap.size w w' → Calls Tryz.prog 161 #[.int .i64 x, .pointer (some ⟨B1, 0, none⟩), .pointer (some ⟨B2, 0, none⟩)] w' fun e w'' => IsB (P x) e ∧ Below w'.heap.size w' w'') :
    Calls Tryz.prog 151 #[v, .func (.func 161) #[] #[.pointer (some ⟨B1, 0, none⟩), .pointer (some ⟨B2, 0, none⟩)]] w fun e w' => IsB (ZeroOr P L) e ∧ Below w.heap.size w w' := by
  have bb := Lib.hid (below_box w (.cells #[.func (.func 161) #[] #[.pointer (some ⟨B1, 0, none⟩), .pointer (some ⟨B2, 0, none⟩)]] 79))
  have bx := box_new w (.cells #[.func (.func 161) #[] #[.pointer (some ⟨B1, 0, none⟩), .pointer (some ⟨B2, 0, none⟩)]] 79)
  have hcall := Lib.hid (zconK_any B1 B2 w.heap.size P v L hL _ (hr.below bb.out) (cell_of_heap bx 0 _ rfl) (fun x w' hx hb => hP x w' hx (below_trans bb.out hb)))
  have hmf : ∀ (fn : Fn) (first cap : Array Value) (w : World), (Instr.makeFunc fn first cap).run Tryz.prog w = .ok (.func fn first cap) w := fun _ _ _ _ => rfl
  clear hr hP hL bx
  go_enter Tryz.func151, Tryz.ntmps151
  go_wp2_with fail
  refine hcall.out.mono ?_
  rintro e w1 ⟨⟨r, rfl, hr⟩, b1⟩
  have y := Lib.hid (show IsB (ZeroOr P L) (.returned (.bool (!r))) from ⟨_, rfl, by
    have h2 := hr.trans (zeroOr_not (P := P) (L := L))
    cases r
    · simp only [Bool.not_false, true_iff]
      exact Classical.byContradiction fun h => by have := h2.2 h; cases this
    · simp only [Bool.not_true, Bool.false_eq_true, false_iff]
      exact h2.1 rfl⟩)
  have b1' := Lib.hid (below_trans bb.out b1)
  clear b1 hcall hr
  go_wp2_with fail
  go_ret
  exact ⟨y.out, b1'.out⟩
end Go.Proofs.YtpaepkcfdnddgaaGreat

namespace Go.Proofs.YtpaepkcfdnddgaaGreat
open Go.RowKit
open Go.Maps (Keyed)
set_option linter.unusedVariables false

/-- How many entries the map in block g has. -/
def metLen (w : World) (g : Nat) : Nat := match w.heap[g]? with
  | some (.map es _) => es.size
  | _ => 0
theorem metLen_eq {w : World} {g n : Nat} {M : DataW Unit} {S : List Int} (h : OwnB w g n M) (hM : MetIs M S) (hn : S.Nodup) : metLen w g = S.length := by
  have hp : S.Perm (intKeys M) := CollectedI.perm (left := fun _ => false) ⟨hn, fun x => by rw [← hM.has]; simp⟩ h mapLaw Tryz.underlying3 (fun _ => rfl)
  obtain ⟨es, clock, hb, F, hs, rfl⟩ := h
  unfold metLen
  rw [hb, hp.length_eq]
  simp [intKeys, length_sorted]
theorem own_init {w : World} {base : Nat} {a : Option Addr} {c : Nat} {T : List Int} {x : Int} (h : w.ownsRow base 3 1 (.slice a (T.length + 1) c) (T ++ [x]).length ((T ++ [x]).map (Value.int .i64))) :
    ∃ g, a = some ⟨g, 0, none⟩ ∧ T.length + 1 ≤ c ∧ c ≤ maxLen ∧ w.cell? ⟨g, T.length, none⟩ = some (.int .i64 x) ∧ w.ownsRow base 3 1 (.slice (some ⟨g, 0, none⟩) T.length c) T.length (T.map (Value.int .i64)) := by
  rcases h.2 with ⟨h0, _⟩ | ⟨g, cap, cur, he, hb, hg, hnc, hcm, hcs, ht⟩
  · simp at h0
  · simp only [Value.slice.injEq, List.length_append, List.length_cons, List.length_nil, Nat.zero_add] at he
    obtain ⟨rfl, _, rfl⟩ := he
    simp only [List.length_append, List.length_cons, List.length_nil, Nat.zero_add, Nat.mul_one, List.map_append, List.map_cons, List.map_nil] at hnc ht
    refine ⟨g, rfl, hnc, hcm, ?_, by simp, .inr ⟨g, c, cur, rfl, hb, hg, by omega, hcm, hcs, ?_⟩⟩
    · rw [cell_of_row w g T.length cur _ (0, 0) hg]
      have := congrArg (fun l => l[T.length]?) ht
      simpa [List.getElem?_take] using this
    · have := congrArg (List.take T.length) ht
      rw [List.take_take, Nat.min_eq_left (by omega)] at this
      rw [Nat.mul_one, this, List.take_left' (by simp)]
theorem ptrW_i64 {D : WD} (h : AllI D.words) (s : SpanD) (j : Nat) : AllI (ptrW D s j) := fun x hx => h x (List.mem_of_mem_drop (List.mem_of_mem_take hx))
theorem World.below_none {w wr w2 w3 : World} {g : Nat} (hg : w2.grownBy w3 (some g)) (h1 : Below w.heap.size w wr) (h2 : Below wr.heap.size wr w2) (hg2 : w.heap.size ≤ g) : Below w.heap.size w w3 :=
  (below_trans h1 h2).grown hg (by have := h1.size; have := h2.size; omega) (fun q hq => by cases hq; exact hg2)
/-- Between two rounds: S is met (in map M, block g), T is open. -/
structure SpSt (D : WD) (F : Nat → Nat → Prop) (fr : List Int) (w wr : World) (g : Nat) (v : Value) (S T : List Int) : Prop where
  st : GoSt D F fr S T
  i64 : AllI T
  len : T.length ≤ fr.length + 16 * S.length
  met : ∃ M, MetIs M S ∧ OwnB wr g S.length M
  own : wr.ownsRow w.heap.size 3 1 v T.length (T.map (Value.int .i64))
  below : Below w.heap.size w wr
  lo : w.heap.size ≤ g
theorem SpSt.next {D : WD} {F : Nat → Nat → Prop} {fr S T : List Int} {w wr w2 : World} {g : Nat} {v : Value} (h : SpSt D F fr w wr g v S T) (hb : Below wr.heap.size wr w2) : SpSt D F fr w w2 g v S T :=
  ⟨h.st, h.i64, h.len, by obtain ⟨M, h1, h2⟩ := h.met; exact ⟨M, h1, h2.below hb⟩, own_below h.own hb, below_trans h.below hb, h.lo⟩
theorem SpSt.mlen {D : WD} {F : Nat → Nat → Prop} {fr S T : List Int} {w wr : World} {g : Nat} {v : Value} (h : SpSt D F fr w wr g v S T) : metLen wr g = S.length := by
  obtain ⟨M, h1, h2⟩ := h.met
  exact metLen_eq h2 h1 h.st.nodup
theorem mem_snoc {T : List Int} {x : Int} (a : Int) : a ∈ T ++ [x] ↔ a = x ∨ a ∈ T := by
  rw [List.mem_append, List.mem_singleton]; exact Or.comm
theorem SpSt.skip {D : WD} {F : Nat → Nat → Prop} {fr S T : List Int} {x : Int} {w wr w2 : World} {g : Nat} {v v' : Value} (h : SpSt D F fr w wr g v S (T ++ [x])) (hx : ¬ HasObj D x ∨ x ∈ S) (ho : wr.ownsRow w.heap.size 3 1 v' T.length (T.map (Value.int .i64))) (hb : Below wr.heap.size wr w2) : SpSt D F fr w w2 g v' S T :=
  SpSt.next ⟨h.st.skip mem_snoc hx, fun a ha => h.i64 a (List.mem_append.2 (.inl ha)), by have := h.len; rw [List.length_append] at this; omega, h.met, ho, h.below, h.lo⟩ hb

end Go.Proofs.YtpaepkcfdnddgaaGreat

namespace Go.Proofs.YtpaepkcfdnddgaaGreat
open Go.RowKit
open Go.Maps (Keyed)
set_option linter.unusedVariables false

/-- The step of a range over a map of places. -/
theorem next_place (w : World) {ops : Array Oper} {rest : List Oper} {o : Oper} {a : Act} {Q : Exit → Act → World → Prop} (hg : o.guard = none) (it : Operand) (hop : o.op = Op.next it false)
    (b r n : Nat) (D : DataW Unit) (left : Lit → Bool) (cnt : Nat) (hit : a.eval it = .pointer (some ⟨r, 0, none⟩)) (h : w.ranges Tryz.prog 3 placeElem b r n D left cnt)
    (hDone : cnt = 0 → (∀ kl, left kl = false) → wpList Tryz.prog ops Q rest (a.put o.dst (.tuple #[.bool false])) w)
    (hMore : ∀ (x c d : Int) (w' : World) (cnt' : Nat), I64 x → left (.int .i64 x) = true → (∀ zd, D.atKey (.int .i64 x) zd = dat c d) → w'.ranges Tryz.prog 3 placeElem b r n D (fun z => left z && !z.sameKey (.int .i64 x)) cnt' → cnt' < cnt →
      w.grownBy w' (some r) → w'.heap.size = w.heap.size → (Instr.entry (.pointer (some ⟨r, 0, none⟩))).run Tryz.prog w' = .ok (.tuple #[.int .i64 x, .agg #[.int .i64 c, .int .i64 d]]) w' → wpList Tryz.prog ops Q rest (a.put o.dst (.tuple #[.bool true, .int .i64 x, .agg #[.int .i64 c, .int .i64 d]])) w') :
    wpList Tryz.prog ops Q (o :: rest) a w :=
  wpList_next_ranges w hg it hop 3 mapLaw placeElem (Value.int .i64) (fun p : Int × Int => .agg #[.int .i64 p.1, .int .i64 p.2])
    (fun key kl hkey => by obtain ⟨x, rfl, _⟩ := Maps.keyOf_int_inv (q := .i64) Tryz.underlying3 hkey; exact ⟨x, rfl⟩) (fun v y hv => by obtain ⟨c, d, rfl, _⟩ := placeElem_inv hv; exact ⟨(c, d), rfl⟩)
    b r n D left cnt hit h hDone (fun x p kl y w' cnt' hkey hlk hv hat hrg hlt hgr hsz hen => by
      obtain ⟨x', ex, rfl, hwx⟩ := Maps.keyOf_int_inv (q := .i64) Tryz.underlying3 hkey
      cases ex
      obtain ⟨c, d, hcd, rfl⟩ := placeElem_inv hv
      obtain ⟨c', d'⟩ := p
      simp only [Value.agg.injEq, Array.mk.injEq, List.cons.injEq, Value.int.injEq, true_and, and_true] at hcd
      obtain ⟨rfl, rfl⟩ := hcd
      exact hMore x c' d' w' cnt' (i64_wf hwx) hlk hat hrg hlt hgr hsz hen)
theorem sameKey_int (a x : Int) : (Lit.int .i64 a).sameKey (.int .i64 x) = decide (a = x) := by
  by_cases e : a = x
  · subst e; simp [Lit.sameKey]
  · simp [Lit.sameKey, e]
/-- Each place that has come satisfies P. -/
def Came (D : WD) (M : DataW Unit) (left : Lit → Bool) (P : Int → Nat → Nat → SpanD → Prop) : Prop :=
  ∀ a k j s, Maps.has M (.int .i64 a) = true → left (.int .i64 a) = false → IsObj D a k j → D.spans[k]? = some s → P a k j s
theorem Came.start (D : WD) (M : DataW Unit) (P : Int → Nat → Nat → SpanD → Prop) : Came D M (Maps.has M) P := fun a k j s h1 h2 => by rw [h1] at h2; cases h2
theorem Came.step {D : WD} {M : DataW Unit} {left : Lit → Bool} {P : Int → Nat → Nat → SpanD → Prop} (hF : HeapForm D) (h : Came D M left P) {x : Int} {k j : Nat} {s : SpanD} (ho : IsObj D x k j) (hs : D.spans[k]? = some s) (hp : P x k j s) :
    Came D M (fun z => left z && !z.sameKey (.int .i64 x)) P := by
  intro a k' j' s' h1 h2 ho' hs'
  by_cases e : a = x
  · subst e
    obtain ⟨rfl, rfl⟩ := ho'.unique hF ho
    rw [hs] at hs'
    cases hs'
    exact hp
  · refine h a k' j' s' h1 ?_ ho' hs'
    simpa [sameKey_int, e] using h2
theorem Came.done {D : WD} {M : DataW Unit} {left : Lit → Bool} {P : Int → Nat → Nat → SpanD → Prop} (h : Came D M left P) (hl : ∀ kl, left kl = false) (hP : PlacesIs D M D.spans.length 0) :
    ∀ a k j s, Ahead D.spans.length 0 k j → IsObj D a k j → D.spans[k]? = some s → P a k j s :=
  fun a k j s ha ho hs => h a k j s ((hP.has a).2 ⟨k, j, ha, ho⟩) (hl _) ho hs

set_option maxRecDepth 100000 in
set_option maxHeartbeats 8000000 in
theorem pLed (V B g n : Nat) (M : DataW Unit) (v : Value) (D : WD) (hF : HeapForm D) (hW : AllI D.words) (hM : ∀ r, r ∈ D.muts → AllI r) (hcap : CapW v) (w : World) (hr : RdW w v D) (hB : BoxW w B v) (hv : ViewIs D w V B g n M) :
    Calls Tryz.prog 130 #[.pointer (some ⟨V, 0, none⟩)] w fun e w' => IsB (Stays D) e ∧ Below w.heap.size w w' := by
  have hr' := Lib.hid hr
  have hB' := Lib.hid hB
  have hF' := Lib.hid hF
  have hW' := Lib.hid hW
  have hM' := Lib.hid hM
  have hcap' := Lib.hid hcap
  have hv' := Lib.hid hv
  have hC0 := Lib.hid (fun (w' : World) (hb : Below w.heap.size w w') => cell_below hb (cell_of_heap hv.box 0 (.pointer (some ⟨B, 0, none⟩)) rfl))
  have hC1 := Lib.hid (fun (w' : World) (hb : Below w.heap.size w w') => cell_below hb (cell_of_heap hv.box 1 (.map (some g)) rfl))
  have hst := Lib.hid (fun (x : Int) (w' : World) (hx : I64 x) (hb : Below w.heap.size w w') => vstays_any V B g n M v D hF x hx w' (hr.below hb) (hB.below hb) (hv.below hb))
  obtain ⟨bw, ow, cW, hv3⟩ := words_some hr (by have := hF.words; have := hF.geo.2.2.2.1; omega)
  have hv3 := Lib.hid hv3
  obtain ⟨vw, vd, vs, vm, vg, rfl, a1, a2, a3, a4, a5⟩ := hr
  obtain ⟨aM, cM, rfl, hml, hxm⟩ := a4
  have hxm' := Lib.hid hxm
  unfold maxLen at hml
  have G5 := Lib.hid (fun (w' : World) (hb : Below w.heap.size w w') => cell_below hb (hB.cell 5 (.slice aM D.muts.length cM) rfl))
  have hmu := hF.geo.2.2.2.2.2.2
  have hmf : ∀ (fn : Fn) (first cap : Array Value) (w : World), (Instr.makeFunc fn first cap).run Tryz.prog w = .ok (.func fn first cap) w := fun _ _ _ _ => rfl
  have c0 := hC0.out _ (Below.refl _ _)
  have g5 := G5.out _ (Below.refl _ _)
  clear a1 a2 a3 a5 hB hF hW hM hcap hv hxm
  go_enter Tryz.func130, Tryz.ntmps130
  go_wp2_with fail
  clear c0 g5
  go_loopw [14] (fun i wr => ∃ m : Nat, m ≤ D.muts.length ∧ i = .int .i64 m ∧ Hid (∀ q r, q < m → D.muts[q]? = some r → AllLive D r) ∧ Hid (Below w.heap.size w wr)) (fun i _ => D.muts.length - (Go.RowKit.intOf i).toNat)
  case atStart => exact ⟨0, Nat.zero_le _, rfl, Lib.hid (fun q r h => absurd h (by omega)), Lib.hid (Below.refl _ _)⟩
  case round =>
    obtain ⟨m, hm, rfl, hok, hb⟩ := hrel
    have c0 := hC0.out _ hb.out
    have g5 := G5.out _ hb.out
    by_cases hlt : m < D.muts.length
    · have hlt1 : (m : Int) < (D.muts.length : Int) := by omega
      obtain ⟨r, hmr⟩ : ∃ r, D.muts[m]? = some r := ⟨_, List.getElem?_eq_getElem hlt⟩
      obtain ⟨bM, oM, vr, rfl, xm0, hrd⟩ := hxm'.out m r hmr
      obtain ⟨ar, cr, rfl, hrl, xr⟩ := id hrd
      have xm := cell_below hb.out xm0
      have hz := Lib.hid (zeroOrS_any V (ObjP D (fun k j => ¬ DoomP D k j)) _ r (hM'.out r (List.mem_of_getElem? hmr)) wr (hrd.below hb.out) (fun x w' hx hb2 => hst.out x w' hx (below_trans hb.out hb2)))
      have hyes := Lib.hid (show AllLive D r → ∀ q r, q < m + 1 → D.muts[q]? = some r → AllLive D r from fun h q r2 hq hr2 => if e : q = m then by subst e; rw [hmr] at hr2; cases hr2; exact h else hok.out q r2 (by omega) hr2)
      have hnot := Lib.hid (show ¬ AllLive D r → ¬ Stays D from fun h h2 => h (h2.1 r (List.mem_of_getElem? hmr)))
      clear xm0 hrd xr hmr hrl
      go_wp2_with fail
      refine hz.out.mono ?_
      rintro e w2 ⟨hq, b2⟩
      replace hq := hq.elim
      have hb2 := Lib.hid (below_trans hb.out b2)
      clear b2 hz c0 g5 xm
      rcases hq with ⟨hq, rfl⟩ | ⟨hq, rfl⟩
      · have hn := Lib.hid (hyes.out hq)
        clear hq
        go_wp2_with fail
        go_roundw
        case rel => exact ⟨m + 1, by omega, by go_num, hn, hb2⟩
        case measure => simp [Go.RowKit.intOf]; omega
      · have y := Lib.hid (IsB.no (hnot.out hq))
        clear hq
        go_wp2_with fail
        go_ret
        exact ⟨y.out, hb2.out⟩
    obtain rfl : m = D.muts.length := by omega
    have hroots := Lib.hid (show ∀ r, r ∈ D.muts → AllLive D r from fun r hr => by obtain ⟨q, hq⟩ := List.mem_iff_getElem?.1 hr; exact hok.out q r (List.getElem?_eq_some_iff.1 hq).1 hq)
    have c1 := hC1.out _ hb.out
    have hOw := Lib.hid ((hv'.out.below hb.out).own)
    clear hok
    go_wp2_with (at_range; refine wpList_range_own _ rfl _ 142 rfl 3 126 mapLaw Tryz.underlying142 placeElem g n M rfl hOw.out ?_; intro w0 hrg0 hg0 hs0)
    have hb0 := Lib.hid (hb.out.grown hg0 hb.out.size (fun q hq => by cases hq))
    have hrs := Lib.hid (show w.heap.size ≤ wr.heap.size from hb.out.size)
    have hrg := Lib.hid hrg0
    clear c0 c1 g5 hg0 hs0 hrg0 hb hOw
    generalize wr.heap.size = R at *
    go_frame
    go_loopw [5] (fun _ wj => ∃ left cnt, Hid (wj.ranges Tryz.prog 3 placeElem g R n M left cnt) ∧ Hid (Came D M left fun a k j s => ¬ DoomP D k j → AllLive D (ptrW D s j)) ∧ Hid (Below w.heap.size w wj)) (fun _ wj => wj.rangeLeft g R)
    case atStart => exact ⟨_, _, hrg, Lib.hid (Came.start _ _ _), hb0⟩
    case round =>
      clear hrg hb0
      obtain ⟨left, cnt, hrg, hcame, hb⟩ := hrel
      go_wp2_with (at_next; refine next_place _ rfl _ rfl g _ n M left cnt rfl hrg.out ?_ ?_)
      · intro hc0 hl0
        have y := Lib.hid (IsB.yes (P := Stays D) ⟨hroots.out, hcame.out.done hl0 hv'.out.is⟩)
        clear hc0 hl0
        go_wp2_with fail
        go_ret
        exact ⟨y.out, hb.out⟩
      · intro x c d w1 cnt1 hx64 hlx hat hrg1 hlt1 hg1 hs1 hen
        obtain ⟨k, j, hah, ho⟩ := (hv'.out.is.has x).1 (Maps.has_true_of_atKey hat)
        obtain ⟨rfl, rfl⟩ := dat_inj ((hat (dat 0 0)).symm.trans (hv'.out.is.is x k j (dat 0 0) hah ho))
        obtain ⟨s, hks, hin, p0, p1⟩ := obj_slot hF'.out ho
        have hrgO := Lib.hid hrg.out
        have hrg1' := Lib.hid hrg1
        have hb1 := Lib.hid (hb.out.grown hg1 hb.out.size (fun q hq => by cases hq; exact hrs.out))
        obtain ⟨dm, hdm⟩ := flag_of (DoomP D k j)
        obtain ⟨z, hz⟩ := flag_of (AllLive D (ptrW D s j))
        have hdmc := Lib.hid (fun (w' : World) (hb : Below w.heap.size w w') => (idoomed_any B _ D k j s hks (SlotIn.mk16 hF'.out hks hin.j) w' (hr'.out.below hb) (hB'.out.below hb)).mono fun e w'' ⟨h1, h2⟩ => (⟨h1.at_ dm hdm, h2⟩ : e = Ending.returned (.bool dm) ∧ Below w'.heap.size w' w''))
        have hpw := Lib.hid (fun (w' : World) (hb : Below w.heap.size w w') => pointerWords_at bw ow cW B _ D k j s hks hin p0 p1 hcap'.out hv3.out w' (hr'.out.below hb) (hB'.out.below hb))
        have hprd := Lib.hid (fun (w' : World) (hb : Below w.heap.size w w') => ptrs_rd (k := k) hin p0 p1 hv3.out (hr'.out.below hb))
        have hzc := Lib.hid (fun (w' : World) (hb : Below w.heap.size w w') => (zeroOrS_any V (ObjP D (fun k j => ¬ DoomP D k j)) _ (ptrW D s j) (ptrW_i64 hW'.out s j) w' (hprd.out w' hb) (fun x w'' hx hb2 => hst.out x w'' hx (below_trans hb hb2))).mono fun e w'' ⟨h1, h2⟩ => (⟨h1.at_ z hz, h2⟩ : e = Ending.returned (.bool z) ∧ Below w'.heap.size w' w''))
        have hstep := Lib.hid (show (dm = true ∨ z = true) → Came D M (fun z => left z && !z.sameKey (.int .i64 x)) (fun a k j s => ¬ DoomP D k j → AllLive D (ptrW D s j)) from fun h => hcame.out.step hF'.out ho hks (fun hd => h.elim (fun h => absurd (hdm.1 h) hd) hz.1))
        have hnot := Lib.hid (show dm = false → z = false → ¬ Stays D from fun h1 h2 h => by
          have := hz.2 (h.2 x k j s hah ho hks (fun hd => by have := hdm.2 hd; rw [h1] at this; cases this))
          rw [h2] at this
          cases this)
        have bb := Lib.hid (below_box w1 (.cells #[.int .i64 k, .int .i64 j] 126))
        have bx := Lib.hid (box_new w1 (.cells #[.int .i64 k, .int .i64 j] 126))
        have hbW := Lib.hid (below_trans hb1.out bb.out)
        have hrgW := Lib.hid (hrg1.alloc (.cells #[.int .i64 k, .int .i64 j] 126))
        have hmeas : ∀ (w' : World), (∃ l, w'.ranges Tryz.prog 3 placeElem g R n M l cnt1) → w'.rangeLeft g R < wr.rangeLeft g R := by
          rintro w' ⟨l, h⟩
          have e1 := h.left_eq
          have e2 := hrgO.out.left_eq
          omega
        have hmeas := Lib.hid hmeas
        clear hat hrg1 hlt1 hg1 hs1 hlx ho hah hks hin p0 p1 hdm hz hrg hcame hb hrgO
        go_upto_region 10 with fail
        clear hen
        have c0 := hC0.out _ hbW.out
        have q0 := cell_of_heap bx.out 0 (.int .i64 k) rfl
        have q1 := cell_of_heap bx.out 1 (.int .i64 j) rfl
        clear bx
        generalize w1.alloc (.cells #[.int .i64 k, .int .i64 j] 126) = W1 at *
        have C0 := Ext.cell c0
        have Q0 := Ext.cell q0
        have Q1 := Ext.cell q1
        clear c0 q0 q1
        generalize (ptrW D s j).length = np at *
        cases dm
        case true =>
          refine wp_region_ext (Below.refl _ _) (by kernel_rfl) (by kernel_rfl) ?_
          repeat (go_big_quiet_step ((go_at_call 143; exact Ext.call (hdmc.out _ (below_trans hbW.out (Ext.below _))))))
          refine wpQuiet_nil ?_
          intro _ hw'
          obtain ⟨x9, hw''⟩ := hw'
          subst hw''
          have hrg4 := Lib.hid (hrgW.out.kept (grown_of_below x9.below) (by simp) (by simp))
          have hb4 := Lib.hid (below_trans hbW.out x9.below)
          have hn := Lib.hid (hstep.out (.inl rfl))
          go_wp2_with fail
          go_roundw
          case rel => exact ⟨_, _, hrg4, hn, hb4⟩
          case measure => exact hmeas.out _ ⟨_, hrg4.out⟩
        case false =>
          refine wp_region_ext (Below.refl _ _) (by kernel_rfl) (by kernel_rfl) ?_
          repeat (go_big_quiet_step ((first | (go_at_call 143; exact Ext.call (hdmc.out _ (below_trans hbW.out (Ext.below _)))) | (go_at_call 106; exact Ext.call (hpw.out _ (below_trans hbW.out (Ext.below _)))) | (go_at_call 151; exact Ext.call (hzc.out _ (below_trans hbW.out (Ext.below _)))))))
          refine wpQuiet_nil ?_
          intro _ hw'
          obtain ⟨x9, hw''⟩ := hw'
          subst hw''
          have hrg6 := Lib.hid (hrgW.out.kept (grown_of_below x9.below) (by simp) (by simp))
          have hb6 := Lib.hid (below_trans hbW.out x9.below)
          cases z
          · have y := Lib.hid (IsB.no (hnot.out rfl rfl))
            go_wp2_with fail
            go_ret
            exact ⟨y.out, hb6.out⟩
          · have hn := Lib.hid (hstep.out (.inr rfl))
            go_wp2_with fail
            go_roundw
            case rel => exact ⟨_, _, hrg6, hn, hb6⟩
            case measure => exact hmeas.out _ ⟨_, hrg6.out⟩
end Go.Proofs.YtpaepkcfdnddgaaGreat

namespace Go.Proofs.YtpaepkcfdnddgaaGreat
open Go.RowKit
open Go.Maps (Keyed)
set_option linter.unusedVariables false

set_option maxRecDepth 100000 in
set_option maxHeartbeats 4000000 in
theorem kc_any (Bv V B g n : Nat) (M : DataW Unit) (v : Value) (D : WD) (k j : Nat) (s : SpanD) (hks : D.spans[k]? = some s) (hm : 0 ≤ s.mark ∧ s.mark ≤ 9223372036854775807 ∧ j ≤ 16) (w : World) (hr : RdW w v D) (hB : BoxW w B v) (hv : ViewIs D w V B g n M) (hbv : w.cell? ⟨Bv, 0, none⟩ = some (.pointer (some ⟨V, 0, none⟩))) :
    Calls Tryz.prog 159 #[.agg #[.int .i64 k, .int .i64 j], .pointer (some ⟨Bv, 0, none⟩)] w fun e w' => IsB (¬ MarkedP D k j) e ∧ Below w.heap.size w w' := by
  have bb := below_box w (.cells #[.int .i64 k, .int .i64 j] 126)
  have bx := box_new w (.cells #[.int .i64 k, .int .i64 j] 126)
  obtain ⟨mk, hmk⟩ := flag_of (MarkedP D k j)
  have hcall := Lib.hid (fun (w' : World) (hb : Below w.heap.size w w') => (imarked_any B v D k j s hks hm w' (hr.below hb) (hB.below hb)).mono fun e w'' ⟨h1, h2⟩ => (⟨h1.at_ mk hmk, h2⟩ : e = Ending.returned (.bool mk) ∧ Below w'.heap.size w' w''))
  have y := Lib.hid (show IsB (¬ MarkedP D k j) (.returned (.bool (!mk))) from ⟨_, rfl, by rw [← hmk]; cases mk <;> simp⟩)
  have c0 := cell_below bb (cell_of_heap hv.box 0 (.pointer (some ⟨B, 0, none⟩)) rfl)
  have v0 := cell_below bb hbv
  have q0 := cell_of_heap bx 0 (.int .i64 k) rfl
  have q1 := cell_of_heap bx 1 (.int .i64 j) rfl
  have bb' := Lib.hid bb
  clear hr hB hv hbv hks hm hmk bb bx
  go_enter Tryz.func159, Tryz.ntmps159
  go_upto_region 1 with fail
  generalize w.alloc (.cells #[.int .i64 k, .int .i64 j] 126) = W at *
  have C0 := Ext.cell c0
  have V0 := Ext.cell v0
  have Q0 := Ext.cell q0
  have Q1 := Ext.cell q1
  clear c0 v0 q0 q1
  refine wp_region_ext (Below.refl _ _) (by kernel_rfl) (by kernel_rfl) ?_
  repeat (go_big_quiet_step ((go_at_call 160; exact Ext.call (hcall.out _ (below_trans bb'.out (Ext.below _))))))
  refine wpQuiet_nil ?_
  intro _ hw'
  obtain ⟨x9, hw''⟩ := hw'
  subst hw''
  go_wp2_with fail
  go_ret
  exact ⟨y.out, below_trans bb'.out x9.below⟩

set_option maxRecDepth 100000 in
set_option maxHeartbeats 8000000 in
theorem spreadB_any (V B gv n : Nat) (Mv : DataW Unit) (v : Value) (D : WD) (hF : HeapForm D) (hI : AllI D.words) (hcap : CapW v) (af : Option Addr) (cf : Nat) (fr : List Int) (hfI : AllI fr) (hfr : fr.length ≤ 1048576) (Bv : Nat) (w : World) (hr : RdW w v D) (hB : BoxW w B v) (hv : ViewIs D w V B gv n Mv) (hf : Rd w (.slice af fr.length cf) fr) (hbv : w.cell? ⟨Bv, 0, none⟩ = some (.pointer (some ⟨V, 0, none⟩))) :
    Calls Tryz.prog 158 #[.pointer (some ⟨V, 0, none⟩), .slice af fr.length cf, .func (.func 159) #[] #[.pointer (some ⟨Bv, 0, none⟩)]] w fun e w' => ∃ g' S, Hid (S.Nodup ∧ ∀ a, a ∈ S ↔ Led D (fun k j => ¬ MarkedP D k j) fr a) ∧ e = .returned (.map (some g')) ∧ Hid (∃ M, MetIs M S ∧ OwnB w' g' S.length M) ∧ w.heap.size ≤ g' ∧ Below w.heap.size w w' := by
  have hF' := Lib.hid hF
  have hI' := Lib.hid hI
  have hcap' := Lib.hid hcap
  have hr' := Lib.hid hr
  have hB' := Lib.hid hB
  have hv' := Lib.hid hv
  have hfI' := Lib.hid hfI
  have hf' := Lib.hid hf
  have hbv' := Lib.hid hbv
  have c00 := Lib.hid (cell_of_heap hv.box 0 (.pointer (some ⟨B, 0, none⟩)) rfl)
  have bb := Lib.hid (below_box w (.map #[] 0))
  have hmk := @run_makeMap Tryz.prog
  have hown0 := Lib.hid (show OwnB (w.alloc (.map #[] 0)) w.heap.size 0 (.map []) from World.ownsMap_made w Tryz.prog 3 boolElem)
  have hcall := Lib.hid (listInt_any af fr.length cf (fr.map (Value.int .i64)) hfr _ (Rd.src (hf.below bb.out)))
  clear hF hI hcap hr hB hv hfI hf hbv
  go_enter Tryz.func158, Tryz.ntmps158
  go_wp2_with fail
  refine hcall.out.mono ?_
  rintro e w1 ⟨v1, rfl, ho1, b1⟩
  have st1 := Lib.hid (show SpSt D (fun k j => ¬ MarkedP D k j) fr w w1 w.heap.size v1 [] fr from ⟨GoSt.zero _ _ _, hfI'.out, by simp, ⟨_, MetIs.zero, hown0.out.below b1⟩, own_base (base' := w.heap.size) ho1 (by simp), below_trans bb.out b1, Nat.le_refl _⟩)
  clear ho1 b1 hcall hmk
  go_wp2_with fail
  go_loopw [8] (fun v wr => ∃ S T : List Int, Hid (SpSt D (fun k j => ¬ MarkedP D k j) fr w wr w.heap.size v S T)) (fun v wr => lenV v + 17 * (384 - metLen wr w.heap.size))
  case atStart => exact ⟨[], fr, st1⟩
  case round =>
    clear st1
    obtain ⟨S, T, st⟩ := hrel
    have hml := st.out.mlen
    have hlenS : S.length ≤ 384 := st.out.st.len hF'.out
    have hl := st.out.len
    obtain ⟨au, cu, hu⟩ := own_slice st.out.own
    rcases List.eq_nil_or_concat T with rfl | ⟨T, x, rfl⟩
    · subst hu
      go_wp2_with fail
      go_ret
      exact ⟨_, S, Lib.hid ⟨st.out.st.nodup, fun a => st.out.st.done a⟩, rfl, Lib.hid st.out.met, Nat.le_refl _, st.out.below⟩
    rw [List.concat_eq_append] at st hu hl
    have e1 : (T ++ [x]).length = T.length + 1 := by simp
    rw [e1] at hu hl
    subst hu
    obtain ⟨gu, hgu, hcap, hcm, x0, htail⟩ := own_init st.out.own
    subst hgu
    have hx64 := st.out.i64 x (by simp)
    have hkey := Lib.hid (key_i64 hx64)
    obtain ⟨M, hM, hOM⟩ := st.out.met
    have hM' := Lib.hid hM
    have hOM' := Lib.hid hOM
    have hw := Lib.hid st.out.below
    have htail' := Lib.hid htail
    have hvr := Lib.hid (hv'.out.below hw.out)
    have c0 := cell_of_heap hvr.out.box 0 (.pointer (some ⟨B, 0, none⟩)) rfl
    have c1 := cell_of_heap hvr.out.box 1 (.map (some gv)) rfl
    have hpos : (0 : Int) < ((T.length + 1 : Nat) : Int) := by omega
    have hcm' : cu ≤ 9223372036854775807 := by unfold maxLen at hcm; omega
    have hsub : IntKind.i64.wrap (((T.length + 1 : Nat) : Int) - 1) = (T.length : Int) := (IntWalk.i64_in _ (by omega)).trans (by omega)
    have hlt0 : (T.length : Int) < ((T.length + 1 : Nat) : Int) := by omega
    have hle0 : (T.length : Int) ≤ (cu : Int) := by omega
    clear hM hOM hcm htail hx64
    by_cases hh : ∃ k j, IsObj D x k j
    case neg =>
      have h1 := Lib.hid (show Maps.has Mv (.int .i64 x) = false from by
        cases h : Maps.has Mv (.int .i64 x)
        · rfl
        · obtain ⟨k, j, _, ho⟩ := (hvr.out.is.has x).1 h
          exact absurd ⟨k, j, ho⟩ hh)
      have h2 := Lib.hid (show Mv.atKey (.int .i64 x) (dat 0 0) = dat 0 0 from Maps.atKey_of_not_has h1.out _)
      have st2 := Lib.hid (fun w2 (hb : Below wr.heap.size wr w2) => st.out.skip (.inl fun ⟨k, j, h⟩ => hh ⟨k, j, h⟩) htail'.out hb)
      have st3 := Lib.hid (st2.out _ (below_box wr (.cells #[.int .i64 0, .int .i64 0] 126)))
      clear hh st
      go_wp2_with (at_lookup; refine lookup_place _ rfl rfl _ _ rfl gv n Mv rfl hvr.out.own _ _ rfl hkey.out false h1.out 0 0 h2.out ?_)
      go_roundw
      case rel => exact ⟨S, T, st3⟩
      case measure => rw [st3.out.mlen, hml]; simp only [lenV]; omega
    obtain ⟨k, j, ho⟩ := hh
    obtain ⟨s, hks, hin, p0, p1⟩ := obj_slot hF'.out ho
    have ho' := Lib.hid ho
    have hks' := Lib.hid hks
    have hin' := Lib.hid hin
    have hk := Lib.hid (show Ahead D.spans.length 0 k j from .inl (List.getElem?_eq_some_iff.1 hks).1)
    have h1 := Lib.hid ((hvr.out.is.has x).2 ⟨k, j, hk.out, ho⟩)
    have h2 := Lib.hid (hvr.out.is.is x k j (dat 0 0) hk.out ho)
    have bb2 := Lib.hid (below_box wr (.cells #[.int .i64 k, .int .i64 j] 126))
    have bx2 := Lib.hid (box_new wr (.cells #[.int .i64 k, .int .i64 j] 126))
    have hl3 := Lib.hid (hM'.out.look x)
    have hOM2 := Lib.hid (hOM'.out.below bb2.out)
    by_cases hxS : x ∈ S
    · have st2 := Lib.hid (st.out.skip (.inr hxS) htail'.out bb2.out)
      have h3 := Lib.hid (show M.atKey (.int .i64 x) (flag false) = flag true by rw [hl3.out]; simp [hxS])
      have hlk := look_met hOM2.out hkey.out h3.out
      clear ho hks hin p0 p1 hxS st
      go_wp2_with (at_lookup; refine lookup_place _ rfl rfl _ _ rfl gv n Mv rfl hvr.out.own _ _ rfl hkey.out true h1.out (k : Int) (j : Int) h2.out ?_)
      go_roundw
      case rel => exact ⟨S, T, st2⟩
      case measure => rw [st2.out.mlen, hml]; simp only [lenV]; omega
    have h3 := Lib.hid (show M.atKey (.int .i64 x) (flag false) = flag false by rw [hl3.out]; simp [hxS])
    have hpw := Lib.hid (fun (w' : World) (hb : Below w.heap.size w w') => pointerWords_any B v D k j s hks hin p0 p1 hcap'.out w' (hr'.out.below hb) (hB'.out.below hb))
    have hxS' := Lib.hid hxS
    have hlk := look_met hOM2.out hkey.out h3.out
    have hne := Lib.hid (show some wr.heap.size ≠ some w.heap.size from fun e => by have := hOM'.out.lt; simp at e; omega)
    have hne2 := Lib.hid (hOM'.out.ne_row htail'.out)
    obtain ⟨mk, hmk⟩ := flag_of (¬ MarkedP D k j)
    have hfoll := Lib.hid (fun (w' : World) (hb : Below w.heap.size w w') => (kc_any Bv V B gv n Mv v D k j s hks (SlotIn.mk16 hF'.out hks hin.j) w' (hr'.out.below hb) (hB'.out.below hb) (hv'.out.below hb) (cell_below hb hbv'.out)).mono fun e w'' ⟨h1, h2⟩ => (⟨h1.at_ mk hmk, h2⟩ : e = Ending.returned (.bool mk) ∧ Below w'.heap.size w' w''))
    have hmk' := Lib.hid hmk
    clear hmk
    clear ho hks hin p0 p1 hxS
    cases mk
    case false =>
      go_wp2_with (first
        | (at_lookup; refine lookup_place _ rfl rfl _ _ rfl gv n Mv rfl hvr.out.own _ _ rfl hkey.out true h1.out (k : Int) (j : Int) h2.out ?_)
        | (at_mapUpdate; refine wpList_mapUpdate_own _ rfl _ _ _ 157 rfl 3 4 mapLaw Tryz.underlying157 boolElem w.heap.size S.length M rfl hOM2.out (by unfold maxLen; omega) _ _ (.int .i64 x) rfl rfl hkey.out (flag true) [] (boolElem_mk true) ?_; intro w3 hown3 hgrow3; have y0 := World.grownBy.cell hgrow3 (cell_of_heap bx2.out 0 (.int .i64 k) rfl) hne.out; have y1 := World.grownBy.cell hgrow3 (cell_of_heap bx2.out 1 (.int .i64 j) rfl) hne.out)
        | (go_at_call 159; refine (hfoll.out _ ?_).mono ?_; (exact World.below_none hgrow3 hw.out bb2.out (Nat.le_refl _)); rintro e w4 ⟨rfl, b4⟩))
      have M3 := Lib.hid (hM'.out.put x)
      have own3 := Lib.hid ((htail'.out.alloc (.cells #[.int .i64 k, .int .i64 j] 126)).kept hgrow3 (.inr hne2.out))
      have w3b := Lib.hid (show Below w.heap.size w w3 from Below.grown (below_trans hw.out bb2.out) hgrow3 (by have := hw.out.size; have := bb2.out.size; omega) (fun q hq => by cases hq; exact Nat.le_refl _))
      have w4b := Lib.hid (below_trans w3b.out b4)
      have own4 := Lib.hid (own_below own3.out b4)
      have hown4 := Lib.hid (show OwnB w4 w.heap.size (S.length + 1) _ from OwnB.below hown3 b4)
      have st2 := Lib.hid (st.out.st.put (S' := x :: S) (T'' := T) hF'.out mem_snoc ho'.out hks'.out (List.nodup_cons.2 ⟨hxS'.out, st.out.st.nodup⟩) (fun a => List.mem_cons) (fun hf => by have := hmk'.out.2 hf; cases this) (fun _ => rfl))
      have h384 := st2.out.len hF'.out
      have st7 := Lib.hid (show SpSt D (fun k j => ¬ MarkedP D k j) fr w w4 w.heap.size _ (x :: S) T from ⟨st2.out, fun a ha => st.out.i64 a (List.mem_append.2 (.inl ha)), by simp only [List.length_cons]; omega, ⟨_, M3.out, hown4.out⟩, own4.out, w4b.out, Nat.le_refl _⟩)
      clear hgrow3 hown3 b4 hlk x0
      go_wp2_with fail
      go_roundw
      case rel => exact ⟨x :: S, T, st7⟩
      case measure => rw [st7.out.mlen, hml]; simp only [lenV, List.length_cons] at h384 ⊢; omega
    case true =>
      go_wp2_with (first
        | (at_lookup; refine lookup_place _ rfl rfl _ _ rfl gv n Mv rfl hvr.out.own _ _ rfl hkey.out true h1.out (k : Int) (j : Int) h2.out ?_)
        | (at_mapUpdate; refine wpList_mapUpdate_own _ rfl _ _ _ 157 rfl 3 4 mapLaw Tryz.underlying157 boolElem w.heap.size S.length M rfl hOM2.out (by unfold maxLen; omega) _ _ (.int .i64 x) rfl rfl hkey.out (flag true) [] (boolElem_mk true) ?_; intro w3 hown3 hgrow3; have y0 := World.grownBy.cell hgrow3 (cell_of_heap bx2.out 0 (.int .i64 k) rfl) hne.out; have y1 := World.grownBy.cell hgrow3 (cell_of_heap bx2.out 1 (.int .i64 j) rfl) hne.out)
        | (go_at_call 159; refine (hfoll.out _ ?_).mono ?_; (exact World.below_none hgrow3 hw.out bb2.out (Nat.le_refl _)); rintro e w4 ⟨rfl, b4⟩))
      have M3 := Lib.hid (hM'.out.put x)
      have own3 := Lib.hid ((htail'.out.alloc (.cells #[.int .i64 k, .int .i64 j] 126)).kept hgrow3 (.inr hne2.out))
      have w3b := Lib.hid (show Below w.heap.size w w3 from Below.grown (below_trans hw.out bb2.out) hgrow3 (by have := hw.out.size; have := bb2.out.size; omega) (fun q hq => by cases hq; exact Nat.le_refl _))
      have w4b := Lib.hid (below_trans w3b.out b4)
      have own4 := Lib.hid (own_below own3.out b4)
      have hown4 := Lib.hid (show OwnB w4 w.heap.size (S.length + 1) _ from OwnB.below hown3 b4)
      have D0 := cell_below w4b.out c00.out
      have Y0 := cell_below b4 y0
      have Y1 := cell_below b4 y1
      have hl16 := obj_ptrs hF'.out ho'.out hks'.out
      clear c0 c1 y0 y1 hgrow3 hown3 b4 hlk x0
      have st2 := Lib.hid (st.out.st.put (S' := x :: S) (T'' := T ++ ptrW D s j) hF'.out mem_snoc ho'.out hks'.out (List.nodup_cons.2 ⟨hxS'.out, st.out.st.nodup⟩) (fun a => List.mem_cons) (fun _ b _ => List.mem_append) (fun hn => absurd (hmk'.out.1 (by simp)) hn))
      have hi64 := Lib.hid (show AllI (T ++ ptrW D s j) from fun a ha => (List.mem_append.1 ha).elim (fun h => st.out.i64 a (List.mem_append.2 (.inl h))) (ptrW_i64 hI'.out s j a))
      have hle4 := Lib.hid w4b.out.size
      clear st
      generalize ptrW D s j = Z at *
      go_region_law (first
        | (refine step_own rfl (wp_app (.tmp 50) (.tmp 56) 22 rfl w.heap.size 3 (.int .i64 0) 1 8 Tryz.underlying22 infoInt rfl (by decide) _ T.length _ rfl own6.out A Z.length c (Z.map (Value.int .i64)) rfl src6.out (by unfold maxLen; omega) (by omega) hle6.out ?_); intro v7 w7 o7 g7)
        | (go_simp; go_wp2_with (go_at_call 106; refine (hpw.out _ ?_).mono ?_; (first | exact w4b.out | exact below_drewN w4b.out 1 | exact below_drewN w4b.out 2); rintro e w6 ⟨A, c, rfl, hrd, h16, b6⟩; have b66 := Lib.hid (show Below w4.heap.size w4 w6 from ⟨b6.os, b6.tape, b6.output, b6.size, b6.block⟩); have src6 := Lib.hid (Rd.src hrd); have own6 := Lib.hid (own_below own4.out b66.out); have hle6 := Lib.hid (Nat.le_trans hle4.out b66.out.size); clear hrd b6)))
      all_goals
        obtain ⟨a7, c7, hv7⟩ := own_slice o7
        subst hv7
        have st7 := Lib.hid (show SpSt D (fun k j => ¬ MarkedP D k j) fr w w7 w.heap.size _ (x :: S) (T ++ Z) from ⟨st2.out, hi64.out, by simp only [List.length_append, List.length_cons]; omega, ⟨_, M3.out, World.ownsMap.kept (OwnB.below hown4.out b66.out) g7 (fun e => hown4.out.ne_row own4.out e.symm)⟩, by simpa using o7, (below_trans w4b.out b66.out).grown g7 hle6.out (fun q hq => (own6.out.lt q hq).1), Nat.le_refl _⟩)
        have h384 := st2.out.len hF'.out
        clear o7 g7
        go_simp
        go_wp2_with fail
        go_roundw
        case rel => exact ⟨x :: S, T ++ Z, st7⟩
        case measure => rw [st7.out.mlen, hml]; simp only [lenV, List.length_cons] at h384 ⊢; omega
end Go.Proofs.YtpaepkcfdnddgaaGreat

namespace Go.Proofs.YtpaepkcfdnddgaaGreat
open Go.RowKit
set_option linter.unusedVariables false

/-- The first of L of which P holds; -1: none. -/
def FirstIs (L : List SpanD) (P : SpanD → Prop) (r : Int) : Prop := (∃ (k : Nat) (s : SpanD), r = k ∧ L[k]? = some s ∧ P s ∧ ∀ q t, q < k → L[q]? = some t → ¬ P t) ∨ (r = -1 ∧ ∀ s, s ∈ L → ¬ P s)
theorem FirstIs.ge {L : List SpanD} {P : SpanD → Prop} {r : Int} (h : FirstIs L P r) : (0 ≤ r ↔ ∃ s, s ∈ L ∧ P s) ∧ -1 ≤ r ∧ r ≤ (L.length : Int) := by
  rcases h with ⟨k, s, rfl, hs, hp, _⟩ | ⟨rfl, hn⟩
  · have := (List.getElem?_eq_some_iff.1 hs).1
    exact ⟨⟨fun _ => ⟨s, List.mem_of_getElem? hs, hp⟩, fun _ => by omega⟩, by omega, by omega⟩
  · exact ⟨⟨fun h => absurd h (by omega), fun ⟨s, hs, hp⟩ => absurd hp (hn s hs)⟩, by omega, by omega⟩

set_option maxHeartbeats 1000000 in
theorem cswept_any (s : SpanD) (al : Option Addr) (cl : Nat) (ap : Option Addr) (cp : Nat) (w : World) :
    Calls Tryz.prog 154 #[.agg #[.int .i64 s.page, .int .i64 s.cls, .int .i64 s.mark, .bool s.swept, .slice al s.lens.length cl, .slice ap s.ptrs.length cp]] w fun e w' => IsB (s.swept = true) e ∧ Below w.heap.size w w' := by
  have bb := Lib.hid (below_box w (.cells #[.int .i64 s.page, .int .i64 s.cls, .int .i64 s.mark, .bool s.swept, .slice al s.lens.length cl, .slice ap s.ptrs.length cp] 73))
  have y := Lib.hid (show IsB (s.swept = true) (.returned (.bool s.swept)) from ⟨_, rfl, Iff.rfl⟩)
  go_enter Tryz.func154, Tryz.ntmps154
  go_wp2_with fail
  go_ret
  exact ⟨y.out, bb.out⟩


set_option maxHeartbeats 1000000 in
theorem cmarked_any (s : SpanD) (al : Option Addr) (cl : Nat) (ap : Option Addr) (cp : Nat) (w : World) :
    Calls Tryz.prog 155 #[.agg #[.int .i64 s.page, .int .i64 s.cls, .int .i64 s.mark, .bool s.swept, .slice al s.lens.length cl, .slice ap s.ptrs.length cp]] w fun e w' => IsB (s.mark ≠ 0) e ∧ Below w.heap.size w w' := by
  have bb := Lib.hid (below_box w (.cells #[.int .i64 s.page, .int .i64 s.cls, .int .i64 s.mark, .bool s.swept, .slice al s.lens.length cl, .slice ap s.ptrs.length cp] 73))
  have y := Lib.hid (show IsB (s.mark ≠ 0) (.returned (.bool (s.mark != 0))) from ⟨_, rfl, bne_iff_ne⟩)
  go_enter Tryz.func155, Tryz.ntmps155
  go_wp2_with fail
  go_ret
  exact ⟨y.out, bb.out⟩


set_option maxHeartbeats 1000000 in
theorem cboth0 (pg c mk : Int) (sw : Bool) (al : Option Addr) (nl cl : Nat) (ap : Option Addr) (np cp : Nat) (w : World) :
    Calls Tryz.prog 156 #[.agg #[.int .i64 pg, .int .i64 c, .int .i64 mk, .bool sw, .slice al nl cl, .slice ap np cp]] w fun e w' => IsB (sw = true ∧ mk ≠ 0) e ∧ Below w.heap.size w w' := by
  have bb := Lib.hid (below_box w (.cells #[.int .i64 pg, .int .i64 c, .int .i64 mk, .bool sw, .slice al nl cl, .slice ap np cp] 73))
  cases sw
  · have y := Lib.hid (IsB.no (P := false = true ∧ mk ≠ 0) fun h => absurd h.1 (by decide))
    go_enter Tryz.func156, Tryz.ntmps156
    go_wp2_with fail
    go_ret
    exact ⟨y.out, bb.out⟩
  · have y := Lib.hid (show IsB (True ∧ mk ≠ 0) (.returned (.bool (mk != 0))) from ⟨_, rfl, by rw [bne_iff_ne]; simp⟩)
    go_enter Tryz.func156, Tryz.ntmps156
    go_wp2_with fail
    go_ret
    exact ⟨y.out, bb.out⟩
theorem cboth_any (s : SpanD) (al : Option Addr) (cl : Nat) (ap : Option Addr) (cp : Nat) (w : World) :
    Calls Tryz.prog 156 #[.agg #[.int .i64 s.page, .int .i64 s.cls, .int .i64 s.mark, .bool s.swept, .slice al s.lens.length cl, .slice ap s.ptrs.length cp]] w fun e w' => IsB (s.swept = true ∧ s.mark ≠ 0) e ∧ Below w.heap.size w w' := cboth0 s.page s.cls s.mark s.swept al _ cl ap _ cp w

set_option maxRecDepth 100000 in
set_option maxHeartbeats 4000000 in
theorem idx_cswept (v : Value) (L : List SpanD) (w : World) (hr : RdS w v L) :
    Calls Tryz.prog 149 #[v, .func (.func 154) #[] #[]] w fun e w' => ∃ r : Int, e = .returned (.int .i64 r) ∧ Hid (FirstIs L (fun s => s.swept = true) r) ∧ Below w.heap.size w w' := by
  have hr' := Lib.hid hr
  obtain ⟨aS, cS, rfl, hl, _⟩ := hr
  unfold maxLen at hl
  go_enter Tryz.func149, Tryz.ntmps149
  go_wp2_with fail
  go_loopw [8] (fun i wr => ∃ k : Nat, k ≤ L.length ∧ i = .int .i64 k ∧ Hid (∀ q t, q < k → L[q]? = some t → ¬ (fun s => s.swept = true) t) ∧ Hid (Below w.heap.size w wr)) (fun i _ => L.length - (Go.RowKit.intOf i).toNat)
  case atStart => exact ⟨0, Nat.zero_le _, rfl, Lib.hid (fun q t h => absurd h (by omega)), Lib.hid (Below.refl _ _)⟩
  case round =>
    obtain ⟨k, hk, rfl, hno, hB⟩ := hrel
    by_cases hlt : k < L.length
    · have hlt1 : (k : Int) < (L.length : Int) := by omega
      obtain ⟨s, hks⟩ : ∃ s, L[k]? = some s := ⟨_, List.getElem?_eq_getElem hlt⟩
      obtain ⟨b1, o1, rfl, vl, vp, x0, x1, x2, x3, x4, x5, ⟨al, cl, rfl, _⟩, ⟨ap, cp, rfl, _⟩⟩ := (hr'.out.below hB.out).at_ k s hks
      have hcall := Lib.hid (cswept_any s al cl ap cp wr)
      have hks' := Lib.hid hks
      clear hks
      go_wp2_with fail
      refine hcall.out.mono ?_
      rintro e w2 ⟨hq, b2⟩
      replace hq := hq.elim
      have hB2 := Lib.hid (below_trans hB.out b2)
      clear b2 hcall x0 x1 x2 x3 x4 x5
      rcases hq with ⟨hq, rfl⟩ | ⟨hq, rfl⟩
      · have y := Lib.hid (show FirstIs L (fun s => s.swept = true) (k : Int) from .inl ⟨k, s, rfl, hks'.out, hq, hno.out⟩)
        clear hq
        go_wp2_with fail
        go_ret
        exact ⟨_, rfl, y, hB2.out⟩
      · have hn := Lib.hid (show ∀ q t, q < k + 1 → L[q]? = some t → ¬ (fun s => s.swept = true) t from fun q t hq2 ht => if e : q = k then by subst e; rw [hks'.out] at ht; cases ht; exact hq else hno.out q t (by omega) ht)
        clear hq
        go_wp2_with fail
        go_roundw
        case rel => exact ⟨k + 1, by omega, by go_num, hn, hB2⟩
        case measure => simp [Go.RowKit.intOf]; omega
    obtain rfl : k = L.length := by omega
    have y := Lib.hid (show FirstIs L (fun s => s.swept = true) (-1) from .inr ⟨rfl, fun s hs => by obtain ⟨q, hq⟩ := List.mem_iff_getElem?.1 hs; exact hno.out q s (List.getElem?_eq_some_iff.1 hq).1 hq⟩)
    go_wp2_with fail
    go_ret
    exact ⟨_, rfl, y, hB.out⟩

set_option maxHeartbeats 1000000 in
theorem con_cswept (v : Value) (L : List SpanD) (w : World) (hr : RdS w v L) :
    Calls Tryz.prog 124 #[v, .func (.func 154) #[] #[]] w fun e w' => IsB (∃ s, s ∈ L ∧ (fun s => s.swept = true) s) e ∧ Below w.heap.size w w' := by
  have hl : L.length ≤ 9223372036854775807 := by obtain ⟨_, _, _, hl, _⟩ := hr; unfold maxLen at hl; omega
  have hcall := Lib.hid (idx_cswept v L w hr)
  clear hr
  go_enter Tryz.func124, Tryz.ntmps124
  go_wp2_with fail
  refine hcall.out.mono ?_
  rintro e w1 ⟨r, rfl, hf, b1⟩
  have y := Lib.hid (show IsB (∃ s, s ∈ L ∧ (fun s => s.swept = true) s) (.returned (.bool (decide (0 ≤ r)))) from ⟨_, rfl, by rw [decide_eq_true_iff]; exact hf.out.ge.1⟩)
  have b1' := Lib.hid b1
  clear b1 hcall hf
  go_wp2_with fail
  go_ret
  exact ⟨y.out, b1'.out⟩

set_option maxRecDepth 100000 in
set_option maxHeartbeats 4000000 in
theorem idx_cmarked (v : Value) (L : List SpanD) (w : World) (hr : RdS w v L) :
    Calls Tryz.prog 149 #[v, .func (.func 155) #[] #[]] w fun e w' => ∃ r : Int, e = .returned (.int .i64 r) ∧ Hid (FirstIs L (fun s => s.mark ≠ 0) r) ∧ Below w.heap.size w w' := by
  have hr' := Lib.hid hr
  obtain ⟨aS, cS, rfl, hl, _⟩ := hr
  unfold maxLen at hl
  go_enter Tryz.func149, Tryz.ntmps149
  go_wp2_with fail
  go_loopw [8] (fun i wr => ∃ k : Nat, k ≤ L.length ∧ i = .int .i64 k ∧ Hid (∀ q t, q < k → L[q]? = some t → ¬ (fun s => s.mark ≠ 0) t) ∧ Hid (Below w.heap.size w wr)) (fun i _ => L.length - (Go.RowKit.intOf i).toNat)
  case atStart => exact ⟨0, Nat.zero_le _, rfl, Lib.hid (fun q t h => absurd h (by omega)), Lib.hid (Below.refl _ _)⟩
  case round =>
    obtain ⟨k, hk, rfl, hno, hB⟩ := hrel
    by_cases hlt : k < L.length
    · have hlt1 : (k : Int) < (L.length : Int) := by omega
      obtain ⟨s, hks⟩ : ∃ s, L[k]? = some s := ⟨_, List.getElem?_eq_getElem hlt⟩
      obtain ⟨b1, o1, rfl, vl, vp, x0, x1, x2, x3, x4, x5, ⟨al, cl, rfl, _⟩, ⟨ap, cp, rfl, _⟩⟩ := (hr'.out.below hB.out).at_ k s hks
      have hcall := Lib.hid (cmarked_any s al cl ap cp wr)
      have hks' := Lib.hid hks
      clear hks
      go_wp2_with fail
      refine hcall.out.mono ?_
      rintro e w2 ⟨hq, b2⟩
      replace hq := hq.elim
      have hB2 := Lib.hid (below_trans hB.out b2)
      clear b2 hcall x0 x1 x2 x3 x4 x5
      rcases hq with ⟨hq, rfl⟩ | ⟨hq, rfl⟩
      · have y := Lib.hid (show FirstIs L (fun s => s.mark ≠ 0) (k : Int) from .inl ⟨k, s, rfl, hks'.out, hq, hno.out⟩)
        clear hq
        go_wp2_with fail
        go_ret
        exact ⟨_, rfl, y, hB2.out⟩
      · have hn := Lib.hid (show ∀ q t, q < k + 1 → L[q]? = some t → ¬ (fun s => s.mark ≠ 0) t from fun q t hq2 ht => if e : q = k then by subst e; rw [hks'.out] at ht; cases ht; exact hq else hno.out q t (by omega) ht)
        clear hq
        go_wp2_with fail
        go_roundw
        case rel => exact ⟨k + 1, by omega, by go_num, hn, hB2⟩
        case measure => simp [Go.RowKit.intOf]; omega
    obtain rfl : k = L.length := by omega
    have y := Lib.hid (show FirstIs L (fun s => s.mark ≠ 0) (-1) from .inr ⟨rfl, fun s hs => by obtain ⟨q, hq⟩ := List.mem_iff_getElem?.1 hs; exact hno.out q s (List.getElem?_eq_some_iff.1 hq).1 hq⟩)
    go_wp2_with fail
    go_ret
    exact ⟨_, rfl, y, hB.out⟩

set_option maxHeartbeats 1000000 in
theorem con_cmarked (v : Value) (L : List SpanD) (w : World) (hr : RdS w v L) :
    Calls Tryz.prog 124 #[v, .func (.func 155) #[] #[]] w fun e w' => IsB (∃ s, s ∈ L ∧ (fun s => s.mark ≠ 0) s) e ∧ Below w.heap.size w w' := by
  have hl : L.length ≤ 9223372036854775807 := by obtain ⟨_, _, _, hl, _⟩ := hr; unfold maxLen at hl; omega
  have hcall := Lib.hid (idx_cmarked v L w hr)
  clear hr
  go_enter Tryz.func124, Tryz.ntmps124
  go_wp2_with fail
  refine hcall.out.mono ?_
  rintro e w1 ⟨r, rfl, hf, b1⟩
  have y := Lib.hid (show IsB (∃ s, s ∈ L ∧ (fun s => s.mark ≠ 0) s) (.returned (.bool (decide (0 ≤ r)))) from ⟨_, rfl, by rw [decide_eq_true_iff]; exact hf.out.ge.1⟩)
  have b1' := Lib.hid b1
  clear b1 hcall hf
  go_wp2_with fail
  go_ret
  exact ⟨y.out, b1'.out⟩

set_option maxRecDepth 100000 in
set_option maxHeartbeats 4000000 in
theorem idx_cboth (v : Value) (L : List SpanD) (w : World) (hr : RdS w v L) :
    Calls Tryz.prog 149 #[v, .func (.func 156) #[] #[]] w fun e w' => ∃ r : Int, e = .returned (.int .i64 r) ∧ Hid (FirstIs L (fun s => s.swept = true ∧ s.mark ≠ 0) r) ∧ Below w.heap.size w w' := by
  have hr' := Lib.hid hr
  obtain ⟨aS, cS, rfl, hl, _⟩ := hr
  unfold maxLen at hl
  go_enter Tryz.func149, Tryz.ntmps149
  go_wp2_with fail
  go_loopw [8] (fun i wr => ∃ k : Nat, k ≤ L.length ∧ i = .int .i64 k ∧ Hid (∀ q t, q < k → L[q]? = some t → ¬ (fun s => s.swept = true ∧ s.mark ≠ 0) t) ∧ Hid (Below w.heap.size w wr)) (fun i _ => L.length - (Go.RowKit.intOf i).toNat)
  case atStart => exact ⟨0, Nat.zero_le _, rfl, Lib.hid (fun q t h => absurd h (by omega)), Lib.hid (Below.refl _ _)⟩
  case round =>
    obtain ⟨k, hk, rfl, hno, hB⟩ := hrel
    by_cases hlt : k < L.length
    · have hlt1 : (k : Int) < (L.length : Int) := by omega
      obtain ⟨s, hks⟩ : ∃ s, L[k]? = some s := ⟨_, List.getElem?_eq_getElem hlt⟩
      obtain ⟨b1, o1, rfl, vl, vp, x0, x1, x2, x3, x4, x5, ⟨al, cl, rfl, _⟩, ⟨ap, cp, rfl, _⟩⟩ := (hr'.out.below hB.out).at_ k s hks
      have hcall := Lib.hid (cboth_any s al cl ap cp wr)
      have hks' := Lib.hid hks
      clear hks
      go_wp2_with fail
      refine hcall.out.mono ?_
      rintro e w2 ⟨hq, b2⟩
      replace hq := hq.elim
      have hB2 := Lib.hid (below_trans hB.out b2)
      clear b2 hcall x0 x1 x2 x3 x4 x5
      rcases hq with ⟨hq, rfl⟩ | ⟨hq, rfl⟩
      · have y := Lib.hid (show FirstIs L (fun s => s.swept = true ∧ s.mark ≠ 0) (k : Int) from .inl ⟨k, s, rfl, hks'.out, hq, hno.out⟩)
        clear hq
        go_wp2_with fail
        go_ret
        exact ⟨_, rfl, y, hB2.out⟩
      · have hn := Lib.hid (show ∀ q t, q < k + 1 → L[q]? = some t → ¬ (fun s => s.swept = true ∧ s.mark ≠ 0) t from fun q t hq2 ht => if e : q = k then by subst e; rw [hks'.out] at ht; cases ht; exact hq else hno.out q t (by omega) ht)
        clear hq
        go_wp2_with fail
        go_roundw
        case rel => exact ⟨k + 1, by omega, by go_num, hn, hB2⟩
        case measure => simp [Go.RowKit.intOf]; omega
    obtain rfl : k = L.length := by omega
    have y := Lib.hid (show FirstIs L (fun s => s.swept = true ∧ s.mark ≠ 0) (-1) from .inr ⟨rfl, fun s hs => by obtain ⟨q, hq⟩ := List.mem_iff_getElem?.1 hs; exact hno.out q s (List.getElem?_eq_some_iff.1 hq).1 hq⟩)
    go_wp2_with fail
    go_ret
    exact ⟨_, rfl, y, hB.out⟩

set_option maxHeartbeats 1000000 in
theorem con_cboth (v : Value) (L : List SpanD) (w : World) (hr : RdS w v L) :
    Calls Tryz.prog 124 #[v, .func (.func 156) #[] #[]] w fun e w' => IsB (∃ s, s ∈ L ∧ (fun s => s.swept = true ∧ s.mark ≠ 0) s) e ∧ Below w.heap.size w w' := by
  have hl : L.length ≤ 9223372036854775807 := by obtain ⟨_, _, _, hl, _⟩ := hr; unfold maxLen at hl; omega
  have hcall := Lib.hid (idx_cboth v L w hr)
  clear hr
  go_enter Tryz.func124, Tryz.ntmps124
  go_wp2_with fail
  refine hcall.out.mono ?_
  rintro e w1 ⟨r, rfl, hf, b1⟩
  have y := Lib.hid (show IsB (∃ s, s ∈ L ∧ (fun s => s.swept = true ∧ s.mark ≠ 0) s) (.returned (.bool (decide (0 ≤ r)))) from ⟨_, rfl, by rw [decide_eq_true_iff]; exact hf.out.ge.1⟩)
  have b1' := Lib.hid b1
  clear b1 hcall hf
  go_wp2_with fail
  go_ret
  exact ⟨y.out, b1'.out⟩
end Go.Proofs.YtpaepkcfdnddgaaGreat

namespace Go.Proofs.YtpaepkcfdnddgaaGreat
open Go.RowKit
open Go.Maps (Keyed)
set_option linter.unusedVariables false

set_option maxRecDepth 100000 in
set_option maxHeartbeats 4000000 in
theorem pGreyEmpty (V B g n : Nat) (M : DataW Unit) (v : Value) (D : WD) (w : World) (hr : RdW w v D) (hB : BoxW w B v) (hv : ViewIs D w V B g n M) :
    Calls Tryz.prog 132 #[.pointer (some ⟨V, 0, none⟩)] w fun e w' => IsB (D.grey = []) e ∧ Below w.heap.size w w' := by
  have c0 := cell_of_heap hv.box 0 (.pointer (some ⟨B, 0, none⟩)) rfl
  obtain ⟨vw, vd, vs, vm, vg, rfl, a1, a2, a3, a4, a5⟩ := hr
  obtain ⟨ag, cg, rfl, hl, _⟩ := a5
  unfold maxLen at hl
  have g8 := hB.cell 8 _ rfl
  clear a1 a2 a3 a4 hB hv
  by_cases c : D.grey = []
  · have y := Lib.hid (IsB.yes c)
    have hz : D.grey.length = 0 := by rw [c]; rfl
    rw [hz] at g8
    clear c
    go_enter Tryz.func132, Tryz.ntmps132
    go_wp2_with fail
    go_ret
    exact ⟨y.out, Below.refl _ _⟩
  · have y := Lib.hid (IsB.no c)
    have hz : ¬ D.grey.length = 0 := fun h => c (List.length_eq_zero_iff.1 h)
    have hz1 : ((D.grey.length : Int) == 0) = false := beq_eq_false_iff_ne.2 (by omega)
    clear c
    go_enter Tryz.func132, Tryz.ntmps132
    go_wp2_with fail
    go_ret
    exact ⟨by simpa [hz, hz1] using y.out, Below.refl _ _⟩

set_option maxRecDepth 100000 in
set_option maxHeartbeats 4000000 in
theorem pNext (V B g n : Nat) (M : DataW Unit) (v : Value) (D : WD) (w : World) (hr : RdW w v D) (hB : BoxW w B v) (hv : ViewIs D w V B g n M) :
    Calls Tryz.prog 133 #[.pointer (some ⟨V, 0, none⟩)] w fun e w' => IsB ((D.phase = 1 → 0 ≤ D.next ∧ D.next ≤ (D.muts.length : Int)) ∧ (D.phase ≠ 1 → D.next = 0)) e ∧ Below w.heap.size w w' := by
  have c0 := cell_of_heap hv.box 0 (.pointer (some ⟨B, 0, none⟩)) rfl
  obtain ⟨vw, vd, vs, vm, vg, rfl, a1, a2, a3, a4, a5⟩ := hr
  obtain ⟨aM, cM, rfl, hml, _⟩ := a4
  unfold maxLen at hml
  have g5 := hB.cell 5 _ rfl
  have g6 := hB.cell 6 _ rfl
  have g7 := hB.cell 7 _ rfl
  have hP := Lib.hid (Iff.refl ((D.phase = 1 → 0 ≤ D.next ∧ D.next ≤ (D.muts.length : Int)) ∧ (D.phase ≠ 1 → D.next = 0)))
  clear a1 a2 a3 a5 hB hv
  by_cases c : D.phase = 1
  · have y := Lib.hid (show IsB ((D.phase = 1 → 0 ≤ D.next ∧ D.next ≤ (D.muts.length : Int)) ∧ (D.phase ≠ 1 → D.next = 0)) (.returned (.bool (inB D.next 0 (D.muts.length : Int)))) from ⟨_, rfl, by rw [inB_iff]; exact ⟨fun h => ⟨fun _ => h, fun h2 => absurd c h2⟩, fun h => h.1 c⟩⟩)
    rw [c] at g6
    clear hP
    generalize ((D.phase = 1 → 0 ≤ D.next ∧ D.next ≤ (D.muts.length : Int)) ∧ (D.phase ≠ 1 → D.next = 0)) = P at *
    clear c
    go_enter Tryz.func133, Tryz.ntmps133
    go_wp2_with fail
    go_quiet ((go_at_call 100; exact Calls.quiet_of_same ((isIn_any _ _ _ _).mono fun _ _ ⟨a, b⟩ => ⟨a, b.symm⟩)))
    go_wp2_with fail
    go_ret
    exact ⟨y.out, below_drewN (Below.refl _ _) _⟩
  · have y := Lib.hid (show IsB ((D.phase = 1 → 0 ≤ D.next ∧ D.next ≤ (D.muts.length : Int)) ∧ (D.phase ≠ 1 → D.next = 0)) (.returned (.bool (D.next == 0))) from ⟨_, rfl, by rw [beq_iff_eq]; exact ⟨fun h => ⟨fun h2 => absurd h2 c, fun _ => h⟩, fun h => h.2 c⟩⟩)
    have d : (D.phase == 1) = false := beq_eq_false_iff_ne.2 c
    clear hP
    generalize ((D.phase = 1 → 0 ≤ D.next ∧ D.next ≤ (D.muts.length : Int)) ∧ (D.phase ≠ 1 → D.next = 0)) = P at *
    clear c
    go_enter Tryz.func133, Tryz.ntmps133
    go_wp2_with fail
    go_ret
    exact ⟨y.out, Below.refl _ _⟩

set_option maxRecDepth 100000 in
set_option maxHeartbeats 4000000 in
theorem pSwept (V B g n : Nat) (M : DataW Unit) (v : Value) (D : WD) (w : World) (hr : RdW w v D) (hB : BoxW w B v) (hv : ViewIs D w V B g n M) :
    Calls Tryz.prog 134 #[.pointer (some ⟨V, 0, none⟩)] w fun e w' => IsB (¬ ∃ s, s ∈ D.spans ∧ (s.swept = true)) e ∧ Below w.heap.size w w' := by
  have c0 := cell_of_heap hv.box 0 (.pointer (some ⟨B, 0, none⟩)) rfl
  obtain ⟨vw, vd, vs, vm, vg, rfl, a1, a2, a3, a4, a5⟩ := hr
  have hcall := Lib.hid (con_cswept _ D.spans w a3)
  obtain ⟨aS, cS, rfl, _⟩ := a3
  have g4 := hB.cell 4 _ rfl
  clear a1 a2 a4 a5 hB hv
  go_enter Tryz.func134, Tryz.ntmps134
  go_wp2_with fail
  refine hcall.out.mono ?_
  rintro e w1 ⟨⟨r, rfl, hr⟩, b1⟩
  have y := Lib.hid (show IsB (¬ ∃ s, s ∈ D.spans ∧ (s.swept = true)) (.returned (.bool (!r))) from ⟨_, rfl, by rw [← hr]; cases r <;> simp⟩)
  have b1' := Lib.hid b1
  clear hr b1 hcall
  go_wp2_with fail
  go_ret
  exact ⟨y.out, b1'.out⟩

set_option maxRecDepth 100000 in
set_option maxHeartbeats 4000000 in
theorem pMarked (V B g n : Nat) (M : DataW Unit) (v : Value) (D : WD) (w : World) (hr : RdW w v D) (hB : BoxW w B v) (hv : ViewIs D w V B g n M) :
    Calls Tryz.prog 135 #[.pointer (some ⟨V, 0, none⟩)] w fun e w' => IsB (¬ ∃ s, s ∈ D.spans ∧ (s.mark ≠ 0)) e ∧ Below w.heap.size w w' := by
  have c0 := cell_of_heap hv.box 0 (.pointer (some ⟨B, 0, none⟩)) rfl
  obtain ⟨vw, vd, vs, vm, vg, rfl, a1, a2, a3, a4, a5⟩ := hr
  have hcall := Lib.hid (con_cmarked _ D.spans w a3)
  obtain ⟨aS, cS, rfl, _⟩ := a3
  have g4 := hB.cell 4 _ rfl
  clear a1 a2 a4 a5 hB hv
  go_enter Tryz.func135, Tryz.ntmps135
  go_wp2_with fail
  refine hcall.out.mono ?_
  rintro e w1 ⟨⟨r, rfl, hr⟩, b1⟩
  have y := Lib.hid (show IsB (¬ ∃ s, s ∈ D.spans ∧ (s.mark ≠ 0)) (.returned (.bool (!r))) from ⟨_, rfl, by rw [← hr]; cases r <;> simp⟩)
  have b1' := Lib.hid b1
  clear hr b1 hcall
  go_wp2_with fail
  go_ret
  exact ⟨y.out, b1'.out⟩

set_option maxRecDepth 100000 in
set_option maxHeartbeats 4000000 in
theorem pBoth (V B g n : Nat) (M : DataW Unit) (v : Value) (D : WD) (w : World) (hr : RdW w v D) (hB : BoxW w B v) (hv : ViewIs D w V B g n M) :
    Calls Tryz.prog 136 #[.pointer (some ⟨V, 0, none⟩)] w fun e w' => IsB (¬ ∃ s, s ∈ D.spans ∧ (s.swept = true ∧ s.mark ≠ 0)) e ∧ Below w.heap.size w w' := by
  have c0 := cell_of_heap hv.box 0 (.pointer (some ⟨B, 0, none⟩)) rfl
  obtain ⟨vw, vd, vs, vm, vg, rfl, a1, a2, a3, a4, a5⟩ := hr
  have hcall := Lib.hid (con_cboth _ D.spans w a3)
  obtain ⟨aS, cS, rfl, _⟩ := a3
  have g4 := hB.cell 4 _ rfl
  clear a1 a2 a4 a5 hB hv
  go_enter Tryz.func136, Tryz.ntmps136
  go_wp2_with fail
  refine hcall.out.mono ?_
  rintro e w1 ⟨⟨r, rfl, hr⟩, b1⟩
  have y := Lib.hid (show IsB (¬ ∃ s, s ∈ D.spans ∧ (s.swept = true ∧ s.mark ≠ 0)) (.returned (.bool (!r))) from ⟨_, rfl, by rw [← hr]; cases r <;> simp⟩)
  have b1' := Lib.hid b1
  clear hr b1 hcall
  go_wp2_with fail
  go_ret
  exact ⟨y.out, b1'.out⟩

set_option maxRecDepth 100000 in
set_option maxHeartbeats 4000000 in
theorem pGrey (V B g n : Nat) (M : DataW Unit) (v : Value) (D : WD) (hF : HeapForm D) (hI : AllI D.grey) (w : World) (hr : RdW w v D) (hB : BoxW w B v) (hv : ViewIs D w V B g n M) :
    Calls Tryz.prog 131 #[.pointer (some ⟨V, 0, none⟩)] w fun e w' => IsB (GreyMarked D D.grey) e ∧ Below w.heap.size w w' := by
  have hr' := Lib.hid hr
  have hB' := Lib.hid hB
  have hF' := Lib.hid hF
  have hI' := Lib.hid hI
  have hv' := Lib.hid hv
  have c0 := cell_of_heap hv.box 0 (.pointer (some ⟨B, 0, none⟩)) rfl
  obtain ⟨vw, vd, vs, vm, vg, rfl, a1, a2, a3, a4, a5⟩ := hr
  obtain ⟨ag, cg, rfl, hl, xg⟩ := a5
  have xg' := Lib.hid xg
  unfold maxLen at hl
  have bb := Lib.hid (below_box w (.map #[] 0))
  have g8 := cell_below bb.out (hB.cell 8 _ rfl)
  have c0 := cell_below bb.out c0
  have hmk := @run_makeMap Tryz.prog
  have hown0 := Lib.hid (show OwnB (w.alloc (.map #[] 0)) w.heap.size 0 (.map []) from World.ownsMap_made w Tryz.prog 3 boolElem)
  clear a1 a2 a3 a4 xg hB hF hI hv
  go_enter Tryz.func131, Tryz.ntmps131
  go_wp2_with fail
  clear g8 c0 hmk
  go_loopw [16] (fun i wr => ∃ (k : Nat) (S : List Int), k ≤ D.grey.length ∧ i = .int .i64 k ∧ Hid (∀ a, a ∈ S ↔ a ∈ D.grey.take k) ∧ Hid (GreyMarked D (D.grey.take k)) ∧ Hid (∃ M2, MetIs M2 S ∧ OwnB wr w.heap.size k M2) ∧ Hid (Below w.heap.size w wr)) (fun i _ => D.grey.length - (Go.RowKit.intOf i).toNat)
  case atStart => exact ⟨0, [], Nat.zero_le _, rfl, Lib.hid (fun a => by simp), Lib.hid (by simpa using GreyMarked.nil D), Lib.hid ⟨_, MetIs.zero, hown0.out⟩, bb⟩
  case round =>
    obtain ⟨k, S, hk, rfl, hS, hgm, hM, hB⟩ := hrel
    by_cases hlt : k < D.grey.length
    · have hlt1 : (k : Int) < (D.grey.length : Int) := by omega
      obtain ⟨bg, og, rfl, x0⟩ := xg'.out k hlt
      have x1 := cell_below hB.out x0
      have hx64 := hI'.out (D.grey[k]?.getD 0) (by rw [List.getElem?_eq_getElem hlt]; exact List.getElem_mem hlt)
      have hno1 := Lib.hid (GreyMarked.no1 (D := D) hlt)
      have hno2 := Lib.hid (GreyMarked.no2 (D := D) hlt)
      have hsn := Lib.hid (show MarkedObj D (D.grey[k]?.getD 0) → D.grey[k]?.getD 0 ∉ D.grey.take k → GreyMarked D (D.grey.take (k + 1)) from fun hm hx => by rw [take_one hlt]; exact hgm.out.snoc hm hx)
      have hS2 := Lib.hid (show ∀ a, a ∈ D.grey[k]?.getD 0 :: S ↔ a ∈ D.grey.take (k + 1) from fun a => by rw [take_one hlt, List.mem_append, List.mem_singleton, List.mem_cons, hS.out]; exact Or.comm)
      clear x0
      generalize D.grey[k]?.getD 0 = x at *
      have hkey := Lib.hid (key_i64 hx64)
      obtain ⟨M2, hM1, hM2⟩ := hM.out
      have hM1' := Lib.hid hM1
      have hM2' := Lib.hid hM2
      by_cases hxS : x ∈ S
      · have hlk := look_met hM2 hkey.out (show M2.atKey (.int .i64 x) (flag false) = flag true by rw [hM1.look x]; simp [hxS])
        have y := Lib.hid (IsB.no (hno2.out ((hS.out x).1 hxS)))
        clear hM1 hM2 hxS hx64
        go_wp2_with fail
        go_ret
        exact ⟨y.out, hB.out⟩
      have hlk := look_met hM2 hkey.out (show M2.atKey (.int .i64 x) (flag false) = flag false by rw [hM1.look x]; simp [hxS])
      have hmk := Lib.hid (vmarked_any V B g n M _ D hF'.out x hx64 wr (hr'.out.below hB.out) (hB'.out.below hB.out) (hv'.out.below hB.out))
      have hnS := Lib.hid (show x ∉ D.grey.take k from fun h => hxS ((hS.out x).2 h))
      clear hM1 hM2 hxS hx64
      go_wp2_with fail
      refine hmk.out.mono ?_
      rintro e w1 ⟨hq, b1⟩
      replace hq := hq.elim
      have hB1 := Lib.hid (below_trans hB.out b1)
      have hM3 := Lib.hid (hM2'.out.below b1)
      clear b1 hmk hlk x1
      rcases hq with ⟨hq, rfl⟩ | ⟨hq, rfl⟩
      case inr =>
        have y := Lib.hid (IsB.no (hno1.out hq))
        clear hq
        go_wp2_with fail
        go_ret
        exact ⟨y.out, hB1.out⟩
      have hn := Lib.hid (hsn.out hq hnS.out)
      clear hq
      go_wp2_with (at_mapUpdate; refine wpList_mapUpdate_own _ rfl _ _ _ 157 rfl 3 4 mapLaw Tryz.underlying157 boolElem w.heap.size k M2 rfl hM3.out (by unfold maxLen; omega) _ _ (.int .i64 x) rfl rfl hkey.out (flag true) [] (boolElem_mk true) ?_; intro w3 hown3 hgrow3)
      have hB3 := Lib.hid (hB1.out.grown hgrow3 hB1.out.size (fun q hq => by cases hq; exact Nat.le_refl _))
      have hMM := Lib.hid (show ∃ M3, MetIs M3 (x :: S) ∧ OwnB w3 w.heap.size (k + 1) M3 from ⟨_, hM1'.out.put x, hown3⟩)
      clear hown3 hgrow3
      go_wp2_with fail
      go_roundw
      case rel => exact ⟨k + 1, x :: S, by omega, by go_num, hS2, hn, hMM, hB3⟩
      case measure => simp [Go.RowKit.intOf]; omega
    obtain rfl : k = D.grey.length := by omega
    have y := Lib.hid (IsB.yes (P := GreyMarked D D.grey) (by simpa using hgm.out))
    go_wp2_with fail
    go_ret
    exact ⟨y.out, hB.out⟩
end Go.Proofs.YtpaepkcfdnddgaaGreat
