import Derived.Test.YtpaepkcfdnddgaaGreatCgW
import Derived.Test.YtpaepkcfdnddgaaGreatCgA
import Derived.Test.YtpaepkcfdnddgaaGreatCgV
import Derived.Deep.CutRange
import Derived.Outline
import Derived.Test.YtpaepkcfdnddgaaGreatCgF2

namespace Go.Proofs.YtpaepkcfdnddgaaGreat
open Go.RowKit
set_option linter.unusedVariables false

def nz (L : List Int) : List Int := L.filter fun x => x != 0
theorem nz_zero {L : List Int} {k : Nat} (h : k < L.length) (hz : L[k]?.getD 0 = 0) : nz (L.take (k + 1)) = nz (L.take k) := by
  have e : L[k] = 0 := by simpa [List.getElem?_eq_getElem h] using hz
  unfold nz
  rw [List.take_succ_eq_append_getElem h, List.filter_append, e]
  simp
theorem nz_succ {L : List Int} {k : Nat} (h : k < L.length) (hz : ¬ L[k]?.getD 0 = 0) : nz (L.take (k + 1)) = nz (L.take k) ++ [L[k]?.getD 0] := by
  have e : L[k]?.getD 0 = L[k] := by simp [List.getElem?_eq_getElem h]
  rw [e] at hz ⊢
  unfold nz
  rw [List.take_succ_eq_append_getElem h, List.filter_append]
  simp [hz]
theorem nz_le (L : List Int) (k : Nat) : (nz (L.take k)).length ≤ k := Nat.le_trans (List.length_filter_le _ _) (by rw [List.length_take]; omega)

set_option maxRecDepth 100000 in
set_option maxHeartbeats 4000000 in
theorem withoutZeros_any (a : Option Addr) (c : Nat) (L : List Int) (hl : L.length ≤ 1048576) (w : World) (hr : Rd w (.slice a L.length c) L) :
    Calls Tryz.prog 170 #[.slice a L.length c] w fun e w' => ∃ v, e = .returned v ∧ w'.ownsRow w.heap.size 3 1 v (nz L).length ((nz L).map (Value.int .i64)) ∧ Below w.heap.size w w' := by
  have hr' := Lib.hid hr
  have hl' := Lib.hid hl
  obtain ⟨i0, hi, hz0, hz1, hz2⟩ := info_parts info3
  clear hr
  go_enter Tryz.func170, Tryz.ntmps170
  go_wp2_with fail
  go_loopw [3, 8] (fun v i wr => ∃ k : Nat, k ≤ L.length ∧ i = .int .i64 k ∧ wr.ownsRow w.heap.size 3 1 v (nz (L.take k)).length ((nz (L.take k)).map (Value.int .i64)) ∧ Below w.heap.size w wr) (fun v i _ => L.length - (RowKit.intOf i).toNat)
  case atStart => exact ⟨0, Nat.zero_le _, rfl, World.ownsRow_nil _ _ _ _, Below.refl _ _⟩
  case round =>
    obtain ⟨k, hk, rfl, hown, hB⟩ := hrel
    by_cases hlt : k < L.length
    · obtain ⟨a', c', he, hll, xl⟩ := hr'.out.below hB
      obtain ⟨b, o, rfl, xj⟩ := xl k hlt
      obtain ⟨rfl, rfl⟩ : some (⟨b, o, none⟩ : Addr) = a ∧ c' = c := by simp at he; exact ⟨he.1.symm, he.2.symm⟩
      have hlt1 : (k : Int) < (L.length : Int) := by omega
      clear he xl hll
      by_cases hz : L[k]?.getD 0 = 0
      · have ho2 := Lib.hid (show wr.ownsRow w.heap.size 3 1 _ (nz (L.take (k + 1))).length ((nz (L.take (k + 1))).map (Value.int .i64)) by rw [nz_zero hlt hz]; exact hown)
        rw [hz] at xj
        have hB' := Lib.hid hB
        clear hown hB hz
        go_wp2_with fail
        go_roundw
        case rel => exact ⟨k + 1, by omega, by go_num, ho2.out, hB'.out⟩
        case measure => simp [RowKit.intOf]; omega
      · have hBs := hB.size
        have hle := nz_le L k
        have e2 := Lib.hid (nz_succ hlt hz)
        generalize L[k]?.getD 0 = x at *
        have hzb : (x == 0) = false := beq_eq_false_iff_ne.2 hz
        go_wp2_with (at_builtin; refine wpList_append_own _ rfl _ _ 22 rfl w.heap.size 3 i0 (.int .i64 0) 1 8 Tryz.underlying22 hi hz0 hz1 hz2 rfl (by decide) _ _ _ rfl (hown.alloc _) ⟨wr.heap.size, 0, none⟩ 1 1 [.int .i64 x] rfl rfl (cell_one _ _ _) (by simp [Value.oneCell']) (by unfold maxLen; omega) (by omega) (by simp; omega) ?_; intro v' w1 hown' hgrow _)
        have hB' := row_below (hB.alloc hBs _) (hown.alloc _) hgrow (by simp; omega)
        have ho2 : w1.ownsRow w.heap.size 3 1 v' (nz (L.take (k + 1))).length ((nz (L.take (k + 1))).map (Value.int .i64)) := by rw [e2.out]; simpa using hown'
        clear hown' hgrow hown hB hBs xj
        go_wp2_with fail
        go_roundw
        case rel => exact ⟨k + 1, by omega, by go_num, ho2, hB'⟩
        case measure => simp [RowKit.intOf]; omega
    · obtain rfl : k = L.length := by omega
      rw [List.take_length] at hown
      have hown' := Lib.hid hown
      clear hown
      go_wp2_with fail
      go_ret
      exact ⟨_, rfl, hown'.out, hB⟩
end Go.Proofs.YtpaepkcfdnddgaaGreat

namespace Go.Proofs.YtpaepkcfdnddgaaGreat
open Go.RowKit
set_option linter.unusedVariables false

def ptrW (D : WD) (s : SpanD) (j : Nat) : List Int := (D.words.drop (atW s (j : Int)).toNat).take (s.ptrs[j]?.getD 0).toNat
theorem Rd.part {w : World} {b o c : Nat} {L : List Int} (h : Rd w (.slice (some ⟨b, o, none⟩) L.length c) L) {lo n : Nat} (hle : lo + n ≤ L.length) (c' : Nat) : Rd w (.slice (some ⟨b, o + lo, none⟩) n c') ((L.drop lo).take n) := by
  obtain ⟨a', c0, he, hm, hx⟩ := h
  have hln : ((L.drop lo).take n).length = n := by simp; omega
  refine ⟨some ⟨b, o + lo, none⟩, c', by rw [hln], by rw [hln]; omega, fun j hj => ?_⟩
  rw [hln] at hj
  obtain ⟨b', o', he', hc⟩ := hx (lo + j) (by omega)
  obtain ⟨rfl, rfl⟩ : b' = b ∧ o' = o := by
    have : some (⟨b, o, none⟩ : Addr) = some ⟨b', o', none⟩ := by simp at he; rw [he.1]; exact he'
    simp at this
    exact ⟨this.1.symm, this.2.symm⟩
  refine ⟨_, _, rfl, ?_⟩
  rw [show o' + lo + j = o' + (lo + j) by omega, hc]
  simp [List.getElem?_drop, hj]
/-- The words' slice has room for its words. -/
def CapW (v : Value) : Prop := ∀ c0 c1 a n c c3 c4 c5 c6 c7 c8, v = .agg #[c0, c1, .slice a n c, c3, c4, c5, c6, c7, c8] → n ≤ c

set_option maxRecDepth 100000 in
set_option maxHeartbeats 4000000 in
theorem pointerWords_any (B : Nat) (v : Value) (D : WD) (k j : Nat) (s : SpanD) (hks : D.spans[k]? = some s) (hin : SlotIn D s j) (hp0 : 0 ≤ s.ptrs[j]?.getD 0) (hp1 : s.ptrs[j]?.getD 0 ≤ sz s.cls) (hcap : CapW v) (w : World) (hr : RdW w v D) (hB : BoxW w B v) :
    Calls Tryz.prog 106 #[.pointer (some ⟨B, 0, none⟩), .agg #[.int .i64 k, .int .i64 j]] w fun e w' => ∃ A c, e = .returned (.slice A (ptrW D s j).length c) ∧ Rd w' (.slice A (ptrW D s j).length c) (ptrW D s j) ∧ (ptrW D s j).length ≤ 16 ∧ Below w.heap.size w w' := by
  obtain ⟨vw, vd, vs, vm, vg, rfl, a1, a2, a3, a4, a5⟩ := hr
  obtain ⟨cs, he, hh⟩ := hB
  obtain rfl := (Value.agg.inj he).symm
  obtain ⟨aW, cW, rfl, hlw, xw⟩ := id a1
  have hc := hcap _ _ _ _ _ _ _ _ _ _ _ rfl
  have hbd := hin.bd
  have hwd := hin.words
  have hpg := hin.pg
  have hpg0 := hin.pg0
  have hpg1 := hin.pg1
  obtain ⟨bw, ow, rfl, _⟩ := xw 0 (by omega)
  obtain ⟨aS, cS, rfl, hsl, hx⟩ := a3
  obtain ⟨b1, o1, rfl, hrs⟩ := hx k s hks
  have bb := below_box w (.cells #[.int .i64 k, .int .i64 j] 126)
  have bx := box_new w (.cells #[.int .i64 k, .int .i64 j] 126)
  have hrs' := hrs.below bb
  have hfw := Lib.hid (fun (w' : World) (h : RdSpan w' b1 (o1 + k * 6) s) => firstWord_any b1 (o1 + k * 6) s (j : Int) (by omega) (by omega) (by omega) (by omega) w' h)
  have hrs2 := Lib.hid hrs'
  obtain ⟨vl, vp, x0, x1, x2, x3, x4, x5, xl, xp⟩ := hrs'
  obtain ⟨ap, cp, rfl, hpl, xp⟩ := xp
  have hj := hin.j
  have hjp : j < s.ptrs.length := by have := hin.lens; have := hin.ptrs; omega
  obtain ⟨bp, op, rfl, xj⟩ := xp j hjp
  have g4 := cell_below bb (cell_of_heap hh 4 _ rfl)
  have g2 := cell_below bb (cell_of_heap hh 2 _ rfl)
  have q0 := cell_of_heap bx 0 _ rfl
  have q1 := cell_of_heap bx 1 _ rfl
  have hkl1 : (k : Int) < (D.spans.length : Int) := by have := (List.getElem?_eq_some_iff.1 hks).1; omega
  have hjp1 : (j : Int) < (s.ptrs.length : Int) := by omega
  obtain ⟨A, hA⟩ := Int.eq_ofNat_of_zero_le hbd.1
  obtain ⟨P, hP⟩ := Int.eq_ofNat_of_zero_le hp0
  have hsum : A + P ≤ D.words.length := by omega
  have hA2 : A + 2 ≤ D.words.length := by omega
  have hP16 : P ≤ 16 := by omega
  have hpt : ptrW D s j = (D.words.drop A).take P := by unfold ptrW; rw [hA, hP]; rfl
  have hlen : ((D.words.drop A).take P).length = P := by simp; omega
  rw [hpt, hlen]
  have y := Lib.hid (fun c' => Rd.part a1 hsum c')
  have bb' := Lib.hid bb
  rw [hP] at xj
  rw [hA] at hfw
  unfold maxLen at hlw hpl hsl
  have e0 : ¬ cW = A := by omega
  have e1 : IntKind.i64.wrap ((A : Int) + (P : Int)) = (A : Int) + (P : Int) := IntWalk.i64_in _ (by omega)
  have e2 : (A : Int) ≤ (A : Int) + (P : Int) := by omega
  have e3 : (A : Int) + (P : Int) ≤ (cW : Int) := by omega
  have e4 : (0 : Int) ≤ (A : Int) + (P : Int) := by omega
  have e5 : ((A : Int) + (P : Int)).toNat = A + P := by omega
  have hc' := Lib.hid hc
  clear a1 a2 a4 a5 he hh xw hx hrs xl xp hbd hwd hpg hpg0 hpg1 hks hin hp0 hp1 hA hP hpt hlen hcap bb bx x0 x1 x2 x3 x4 hj hjp hsum hc hA2
  go_enter Tryz.func106, Tryz.ntmps106
  go_upto_region 1 with fail
  generalize w.alloc (.cells #[.int .i64 k, .int .i64 j] 126) = W at *
  go_quiet (fail)
  go_wp2_with (go_at_call 142; refine (hfw.out _ ?_).mono ?_; (first | exact hrs2.out | exact hrs2.out.drewN 1); rintro e w' ⟨rfl, dr⟩; obtain ⟨m, rfl⟩ := dr)
  go_quiet (fail)
  go_wp2_with fail
  go_ret
  exact ⟨_, _, rfl, (y.out _).below (below_drewN (below_drewN bb'.out _) _), hP16, below_drewN (below_drewN bb'.out _) _⟩
end Go.Proofs.YtpaepkcfdnddgaaGreat

namespace Go.Proofs.YtpaepkcfdnddgaaGreat
open Go.RowKit
set_option linter.unusedVariables false

set_option maxRecDepth 100000 in
set_option maxHeartbeats 4000000 in
theorem sptrs_any (B : Nat) (v : Value) (D : WD) (k j : Nat) (s : SpanD) (hks : D.spans[k]? = some s) (hin : SlotIn D s j) (hp0 : 0 ≤ s.ptrs[j]?.getD 0) (hp1 : s.ptrs[j]?.getD 0 ≤ sz s.cls) (w : World) (hr : RdW w v D) (hB : BoxW w B v) :
    Calls Tryz.prog 114 #[.pointer (some ⟨B, 0, none⟩), .int .i64 k, .int .i64 j] w fun e w' => ∃ u, e = .returned u ∧ w'.ownsRow w.heap.size 3 1 u (nz (ptrW D s j)).length ((nz (ptrW D s j)).map (Value.int .i64)) ∧ Below w.heap.size w w' := by
  obtain ⟨vw, vd, vs, vm, vg, rfl, a1, a2, a3, a4, a5⟩ := hr
  obtain ⟨cs, he, hh⟩ := hB
  obtain rfl := (Value.agg.inj he).symm
  obtain ⟨aW, cW, rfl, hlw, xw⟩ := id a1
  have hbd := hin.bd
  have hwd := hin.words
  have hpg := hin.pg
  have hpg0 := hin.pg0
  have hpg1 := hin.pg1
  obtain ⟨bw, ow, rfl, _⟩ := xw 0 (by omega)
  obtain ⟨aS, cS, rfl, hsl, hx⟩ := a3
  obtain ⟨b1, o1, rfl, hrs⟩ := hx k s hks
  obtain ⟨vl, vp, x0, x1, x2, x3, x4, x5, xl, xp⟩ := hrs
  obtain ⟨al, cl, rfl, hll, _⟩ := xl
  obtain ⟨ap, cp, rfl, hpl, xp⟩ := xp
  have hj := hin.j
  have hjp : j < s.ptrs.length := by have := hin.lens; have := hin.ptrs; omega
  obtain ⟨bp, op, rfl, xj⟩ := xp j hjp
  have g4 := cell_of_heap hh 4 (.slice (some ⟨b1, o1, none⟩) D.spans.length cS) rfl
  have g2 := cell_of_heap hh 2 (.slice (some ⟨bw, ow, none⟩) D.words.length cW) rfl
  have hkl1 : (k : Int) < (D.spans.length : Int) := by have := (List.getElem?_eq_some_iff.1 hks).1; omega
  have hjp1 : (j : Int) < (s.ptrs.length : Int) := by omega
  have hat := Lib.hid (fun w' => at_any s (.slice al s.lens.length cl) (.slice (some ⟨bp, op, none⟩) s.ptrs.length cp) (j : Int) (by omega) (by omega) (by omega) (by omega) w')
  obtain ⟨A, hA⟩ := Int.eq_ofNat_of_zero_le hbd.1
  obtain ⟨P, hP⟩ := Int.eq_ofNat_of_zero_le hp0
  have hsum : A + P ≤ D.words.length := by omega
  have hP16 : P ≤ 16 := by omega
  have hA16 : A ≤ 1000 := by omega
  have hpt : ptrW D s j = (D.words.drop A).take P := by unfold ptrW; rw [hA, hP]; rfl
  have hlen : ((D.words.drop A).take P).length = P := by simp; omega
  rw [hpt]
  have y := Lib.hid (Rd.part a1 hsum cW)
  rw [hP] at xj
  rw [hA] at hat
  unfold maxLen at hlw hpl hsl hll
  generalize (D.words.drop A).take P = L at *
  have G4 := Lib.hid g4
  have G2 := Lib.hid g2
  have X5 := Lib.hid x5
  have XJ := Lib.hid xj
  obtain ⟨i0, hi, hz0, hz1, hz2⟩ := info_parts info3
  have hsumI : (A : Int) + (P : Int) ≤ (D.words.length : Int) := by omega
  clear a1 a2 a4 a5 he hh xw hx xp hbd hwd hpg hpg0 hpg1 hks hin hp0 hp1 hA hP hpt hj hjp hsum
  go_enter Tryz.func114, Tryz.ntmps114
  go_wp2_with (go_at_call 49; refine (hat.out _).mono ?_; rintro e w2 ⟨rfl, b2⟩)
  clear g4 g2 x0 x1 x2 x3 x4 x5 xj
  go_loopw [7, 9] (fun v i wr => ∃ m : Nat, m ≤ P ∧ i = .int .i64 m ∧ wr.ownsRow w.heap.size 3 1 v (nz (L.take m)).length ((nz (L.take m)).map (Value.int .i64)) ∧ Below w.heap.size w wr) (fun v i _ => P - (RowKit.intOf i).toNat)
  case atStart => exact ⟨0, Nat.zero_le _, rfl, World.ownsRow_nil _ _ _ _, b2⟩
  case round =>
    obtain ⟨m, hm, rfl, hown, hB⟩ := hrel
    have g4 := cell_below hB G4.out
    have g2 := cell_below hB G2.out
    have x5 := cell_below hB X5.out
    have xj := cell_below hB XJ.out
    by_cases hlt : m < P
    · obtain ⟨b', o', he, xi⟩ := (y.out.below hB).elim fun a' h => h.elim fun c' h => by
        obtain ⟨he, _, hx⟩ := h
        obtain ⟨b', o', hq, hc⟩ := hx m (by omega)
        exact (⟨b', o', by simp at he; rw [he.1]; exact hq, hc⟩ : ∃ b' o', some (⟨bw, ow + A, none⟩ : Addr) = some ⟨b', o', none⟩ ∧ wr.cell? ⟨b', o' + m, none⟩ = some (.int .i64 (L[m]?.getD 0)))
      obtain ⟨rfl, rfl⟩ : bw = b' ∧ ow + A = o' := by simpa using he
      rw [Nat.add_assoc] at xi
      have e5 : ((A : Int) + (m : Int)).toNat = A + m := by omega
      have e6 : (A : Int) + (m : Int) < (D.words.length : Int) := by omega
      have hmP : (m : Int) < (P : Int) := by omega
      have hlt2 : m < L.length := by omega
      clear he
      by_cases hz : L[m]?.getD 0 = 0
      · have ho2 := Lib.hid (show wr.ownsRow w.heap.size 3 1 _ (nz (L.take (m + 1))).length ((nz (L.take (m + 1))).map (Value.int .i64)) by rw [nz_zero hlt2 hz]; exact hown)
        rw [hz] at xi
        have hB' := Lib.hid hB
        clear hown hB hz
        go_wp2_with fail
        go_roundw
        case rel => exact ⟨m + 1, by omega, by go_num, ho2.out, hB'.out⟩
        case measure => simp [RowKit.intOf]; omega
      · have hBs := hB.size
        have hle := nz_le L m
        have e2 := Lib.hid (nz_succ hlt2 hz)
        generalize L[m]?.getD 0 = x at *
        have hzb : (x == 0) = false := beq_eq_false_iff_ne.2 hz
        go_wp2_with (at_builtin; refine wpList_append_own _ rfl _ _ 22 rfl w.heap.size 3 i0 (.int .i64 0) 1 8 Tryz.underlying22 hi hz0 hz1 hz2 rfl (by decide) _ _ _ rfl (hown.alloc _) ⟨wr.heap.size, 0, none⟩ 1 1 [.int .i64 x] rfl rfl (cell_one _ _ _) (by simp [Value.oneCell']) (by unfold maxLen; omega) (by omega) (by simp; omega) ?_; intro v' w1 hown' hgrow _)
        have hB' := row_below (hB.alloc hBs _) (hown.alloc _) hgrow (by simp; omega)
        have ho2 : w1.ownsRow w.heap.size 3 1 v' (nz (L.take (m + 1))).length ((nz (L.take (m + 1))).map (Value.int .i64)) := by rw [e2.out]; simpa using hown'
        clear hown' hgrow hown hB hBs xj xi g4 g2 x5
        go_wp2_with fail
        go_roundw
        case rel => exact ⟨m + 1, by omega, by go_num, ho2, hB'⟩
        case measure => simp [RowKit.intOf]; omega
    · obtain rfl : m = P := by omega
      rw [List.take_of_length_le (by omega)] at hown
      have hown' := Lib.hid hown
      clear hown
      go_wp2_with fail
      go_ret
      exact ⟨_, rfl, hown'.out, hB⟩
end Go.Proofs.YtpaepkcfdnddgaaGreat

namespace Go.Proofs.YtpaepkcfdnddgaaGreat
open Go.RowKit
set_option linter.unusedVariables false

/-- The pointers that are not 0 of the object at addr. -/
def PtrIs (D : WD) (addr : Int) (L : List Int) : Prop :=
  (∃ (k j : Nat) (s : SpanD), HeapForm D ∧ IsObj D addr k j ∧ D.spans[k]? = some s ∧ L = nz (ptrW D s j)) ∨ ((HeapForm D → ∀ k j, ¬ IsObj D addr k j) ∧ L = [])
theorem PtrIs.unique {D : WD} {addr : Int} {L L' : List Int} (h : PtrIs D addr L) (h' : PtrIs D addr L') : L' = L := by
  rcases h with ⟨k, j, s, hF, ho, hs, rfl⟩ | ⟨hn, rfl⟩ <;> rcases h' with ⟨k', j', s', hF', ho', hs', rfl⟩ | ⟨hn', rfl⟩
  · obtain ⟨rfl, rfl⟩ := ho.unique hF ho'
    rw [hs] at hs'
    cases hs'
    rfl
  · exact absurd ho (hn' hF k j)
  · exact absurd ho' (hn hF' k' j')
  · rfl
theorem obj_slot {D : WD} {addr : Int} {k j : Nat} (hF : HeapForm D) (ho : IsObj D addr k j) : ∃ s, D.spans[k]? = some s ∧ SlotIn D s j ∧ 0 ≤ s.ptrs[j]?.getD 0 ∧ s.ptrs[j]?.getD 0 ≤ sz s.cls := by
  obtain ⟨s, hks, hjl, hl, ha⟩ := ho
  have h := (hF.span k s hks).slot j hjl
  exact ⟨s, hks, hF.slotIn hks hjl, h.p0, by have := h.p1; have := h.l1; omega⟩

end Go.Proofs.YtpaepkcfdnddgaaGreat

namespace Go.Proofs.YtpaepkcfdnddgaaGreat
open Go.RowKit
set_option linter.unusedVariables false

/-- The roots of user m have been looked at. -/
def SeenP (D : WD) (m : Int) : Prop := (D.phase = 1 ∧ m < D.next) ∨ D.phase = 2 ∨ D.phase = 3
def SeenIs (D : WD) (m : Int) : Prop := HeapForm D ∧ 0 ≤ m ∧ m < (D.muts.length : Int) ∧ SeenP D m
theorem BoxW.cell {w : World} {B : Nat} {cs : Array Value} (h : BoxW w B (.agg cs)) (j : Nat) (u : Value) (hu : cs[j]? = some u) : w.cell? ⟨B, j, none⟩ = some u := by
  obtain ⟨cs', he, hh⟩ := h
  obtain rfl := (Value.agg.inj he).symm
  exact cell_of_heap hh j u hu

set_option maxHeartbeats 1000000 in
theorem l3seen_any (B : Nat) (v : Value) (D : WD) (m : Int) (w : World) (hr : RdW w v D) (hB : BoxW w B v) :
    Calls Tryz.prog 116 #[.pointer (some ⟨B, 0, none⟩), .int .i64 m] w fun e w' => IsB (SeenP D m) e ∧ w = w' := by
  obtain ⟨vw, vd, vs, vm, vg, rfl, _⟩ := hr
  have g6 := hB.cell 6 _ rfl
  have g7 := hB.cell 7 _ rfl
  have hP := Lib.hid (show SeenP D m ↔ ((D.phase = 1 ∧ m < D.next) ∨ D.phase = 2 ∨ D.phase = 3) from Iff.rfl)
  clear hB
  generalize SeenP D m = P at *
  generalize D.phase = ph at *
  generalize D.next = nx at *
  by_cases c2 : ph = 2
  · subst c2
    have y := Lib.hid (IsB.yes (hP.out.2 (.inr (.inl rfl))))
    clear hP
    go_enter Tryz.func116, Tryz.ntmps116
    go_wp2_with fail
    go_ret
    exact ⟨y.out, rfl⟩
  by_cases c3 : ph = 3
  · subst c3
    have y := Lib.hid (IsB.yes (hP.out.2 (.inr (.inr rfl))))
    clear hP
    go_enter Tryz.func116, Tryz.ntmps116
    go_wp2_with fail
    go_ret
    exact ⟨y.out, rfl⟩
  by_cases c1 : ph = 1
  · subst c1
    by_cases c4 : m < nx
    · have y := Lib.hid (IsB.yes (hP.out.2 (.inl ⟨rfl, c4⟩)))
      clear hP
      go_enter Tryz.func116, Tryz.ntmps116
      go_wp2_with fail
      go_ret
      exact ⟨y.out, rfl⟩
    · have y := Lib.hid (IsB.no (fun h => c4 ((hP.out.1 h).elim (fun h => h.2) fun h => h.elim (fun h => absurd h (by decide)) fun h => absurd h (by decide))))
      clear hP
      go_enter Tryz.func116, Tryz.ntmps116
      go_wp2_with fail
      go_ret
      exact ⟨y.out, rfl⟩
  · have y := Lib.hid (IsB.no (fun h => (hP.out.1 h).elim (fun h => c1 h.1) fun h => h.elim c2 c3))
    have d1 : (ph == 1) = false := beq_eq_false_iff_ne.2 c1
    have d2 : (ph == 2) = false := beq_eq_false_iff_ne.2 c2
    have d3 : (ph == 3) = false := beq_eq_false_iff_ne.2 c3
    clear hP c1 c2 c3
    go_enter Tryz.func116, Tryz.ntmps116
    go_wp2_with fail
    go_ret
    exact ⟨y.out, rfl⟩

set_option maxHeartbeats 1000000 in
theorem hasSeen_any (B : Nat) (v : Value) (D : WD) (m : Int) (w : World) (hr : RdW w v D) (hB : BoxW w B v) :
    Calls Tryz.prog 162 #[.pointer (some ⟨B, 0, none⟩), .int .i64 m] w fun e w' => IsB (SeenP D m) e ∧ w = w' := by
  obtain ⟨vw, vd, vs, vm, vg, rfl, _⟩ := hr
  have g6 := hB.cell 6 _ rfl
  have g7 := hB.cell 7 _ rfl
  have hP := Lib.hid (show SeenP D m ↔ ((D.phase = 1 ∧ m < D.next) ∨ D.phase = 2 ∨ D.phase = 3) from Iff.rfl)
  clear hB
  generalize SeenP D m = P at *
  generalize D.phase = ph at *
  generalize D.next = nx at *
  by_cases c2 : ph = 2
  · subst c2
    have y := Lib.hid (IsB.yes (hP.out.2 (.inr (.inl rfl))))
    clear hP
    go_enter Tryz.func162, Tryz.ntmps162
    go_wp2_with fail
    go_ret
    exact ⟨y.out, rfl⟩
  by_cases c3 : ph = 3
  · subst c3
    have y := Lib.hid (IsB.yes (hP.out.2 (.inr (.inr rfl))))
    clear hP
    go_enter Tryz.func162, Tryz.ntmps162
    go_wp2_with fail
    go_ret
    exact ⟨y.out, rfl⟩
  by_cases c1 : ph = 1
  · subst c1
    by_cases c4 : m < nx
    · have y := Lib.hid (IsB.yes (hP.out.2 (.inl ⟨rfl, c4⟩)))
      clear hP
      go_enter Tryz.func162, Tryz.ntmps162
      go_wp2_with fail
      go_ret
      exact ⟨by simpa [c4] using y.out, rfl⟩
    · have y := Lib.hid (IsB.no (fun h => c4 ((hP.out.1 h).elim (fun h => h.2) fun h => h.elim (fun h => absurd h (by decide)) fun h => absurd h (by decide))))
      clear hP
      go_enter Tryz.func162, Tryz.ntmps162
      go_wp2_with fail
      go_ret
      exact ⟨by simpa [c4] using y.out, rfl⟩
  · have y := Lib.hid (IsB.no (fun h => (hP.out.1 h).elim (fun h => c1 h.1) fun h => h.elim c2 c3))
    have d1 : (ph == 1) = false := beq_eq_false_iff_ne.2 c1
    have d2 : (ph == 2) = false := beq_eq_false_iff_ne.2 c2
    have d3 : (ph == 3) = false := beq_eq_false_iff_ne.2 c3
    clear hP c1 c2 c3
    go_enter Tryz.func162, Tryz.ntmps162
    go_wp2_with fail
    go_ret
    exact ⟨y.out, rfl⟩

end Go.Proofs.YtpaepkcfdnddgaaGreat

namespace Go.Proofs.YtpaepkcfdnddgaaGreat
open Go.RowKit
open Go.Maps (Keyed)
set_option linter.unusedVariables false

/-- A view of the World in block B: the block V, the map g of its places. -/
structure ViewIs (D : WD) (w : World) (V B g n : Nat) (M : DataW Unit) : Prop where
  box : w.heap[V]? = some (.cells #[.pointer (some ⟨B, 0, none⟩), .map (some g)] 145 (0, 0))
  own : OwnP w g n M
  is : PlacesIs D M D.spans.length 0
theorem ViewIs.below {D : WD} {w w' : World} {V B g n : Nat} {M : DataW Unit} (h : ViewIs D w V B g n M) (hb : Below w.heap.size w w') : ViewIs D w' V B g n M := ⟨heap_below hb h.box, h.own.below hb, h.is⟩

set_option maxRecDepth 100000 in
set_option maxHeartbeats 4000000 in
theorem viewOf_new (B : Nat) (v : Value) (D : WD) (hF : HeapForm D) (w : World) (hr : RdW w v D) (hB : BoxW w B v) :
    Calls Tryz.prog 98 #[.pointer (some ⟨B, 0, none⟩)] w fun e w' => ∃ V g n M, e = .returned (.pointer (some ⟨V, 0, none⟩)) ∧ ViewIs D w' V B g n M ∧ w.heap.size ≤ V ∧ Below w.heap.size w w' := by
  have hcall := Lib.hid (places_any B v D hF w hr hB)
  clear hF hr hB
  go_enter Tryz.func98, Tryz.ntmps98
  go_wp2_with fail
  refine hcall.out.mono ?_
  rintro e w2 ⟨g, n, M, rfl, hown, hP, b2⟩
  have bx := box_new w2 (.cells #[.pointer (some ⟨B, 0, none⟩), .map (some g)] 145)
  have bb := below_box w2 (.cells #[.pointer (some ⟨B, 0, none⟩), .map (some g)] 145)
  have y := Lib.hid (show ViewIs D (w2.alloc (.cells #[.pointer (some ⟨B, 0, none⟩), .map (some g)] 145)) w2.heap.size B g n M from ⟨bx, hown.below bb, hP⟩)
  have b3 := Lib.hid (below_trans b2 bb)
  have hge := Lib.hid b2.size
  clear hown hP b2 bx bb
  go_wp2_with fail
  go_ret
  exact ⟨_, _, _, _, rfl, y.out, hge.out, b3.out⟩

theorem viewOf_any (B : Nat) (v : Value) (D : WD) (hF : HeapForm D) (w : World) (hr : RdW w v D) (hB : BoxW w B v) :
    Calls Tryz.prog 98 #[.pointer (some ⟨B, 0, none⟩)] w fun e w' => ∃ V g n M, e = .returned (.pointer (some ⟨V, 0, none⟩)) ∧ ViewIs D w' V B g n M ∧ Below w.heap.size w w' :=
  (viewOf_new B v D hF w hr hB).mono fun e w' ⟨V, g, n, M, h1, h2, _, h3⟩ => ⟨V, g, n, M, h1, h2, h3⟩

set_option maxRecDepth 100000 in
set_option maxHeartbeats 4000000 in
theorem vpointers_any (V B g n : Nat) (M : DataW Unit) (v : Value) (D : WD) (hF : HeapForm D) (addr : Int) (ha : I64 addr) (hcap : CapW v) (w : World) (hr : RdW w v D) (hB : BoxW w B v) (hv : ViewIs D w V B g n M) :
    Calls Tryz.prog 157 #[.pointer (some ⟨V, 0, none⟩), .int .i64 addr] w fun e w' => ∃ L u, PtrIs D addr L ∧ e = .returned u ∧ w'.ownsRow w.heap.size 3 1 u L.length (L.map (Value.int .i64)) ∧ Below w.heap.size w w' := by
  have hF' := Lib.hid hF
  have hr' := Lib.hid hr
  have hB' := Lib.hid hB
  have hv' := Lib.hid hv
  have hkey := Lib.hid (key_i64 ha)
  have c0 := cell_of_heap hv.box 0 (.pointer (some ⟨B, 0, none⟩)) rfl
  have c1 := cell_of_heap hv.box 1 (.map (some g)) rfl
  have hcap' := Lib.hid hcap
  clear hF hr hB hv ha hcap
  by_cases hh : ∃ k j, IsObj D addr k j
  · obtain ⟨k, j, ho⟩ := hh
    obtain ⟨s, hks, hin, p0, p1⟩ := obj_slot hF'.out ho
    have hk := Lib.hid (show Ahead D.spans.length 0 k j from .inl (List.getElem?_eq_some_iff.1 hks).1)
    have h1 := Lib.hid ((hv'.out.is.has addr).2 ⟨k, j, hk.out, ho⟩)
    have h2 := Lib.hid (hv'.out.is.is addr k j (dat 0 0) hk.out ho)
    have y := Lib.hid (show PtrIs D addr (nz (ptrW D s j)) from .inl ⟨k, j, s, hF'.out, ho, hks, rfl⟩)
    have bb := below_box w (.cells #[.int .i64 k, .int .i64 j] 126)
    have bx := box_new w (.cells #[.int .i64 k, .int .i64 j] 126)
    have d0 := Lib.hid (cell_below bb c0)
    have q0 := Lib.hid (cell_of_heap bx 0 (.int .i64 k) rfl)
    have q1 := Lib.hid (cell_of_heap bx 1 (.int .i64 j) rfl)
    have bb' := Lib.hid bb
    have hpw := Lib.hid (fun (w' : World) (hb : Below w.heap.size w w') => pointerWords_any B v D k j s hks hin p0 p1 hcap'.out w' (hr'.out.below hb) (hB'.out.below hb))
    clear ho hks hin p0 p1 bb bx
    go_enter Tryz.func157, Tryz.ntmps157
    go_wp2_with (at_lookup; refine lookup_place _ rfl rfl _ _ rfl g n M rfl hv'.out.own _ _ rfl hkey.out true h1.out (k : Int) (j : Int) h2.out ?_)
    go_upto_region 4 with fail
    clear c0 c1
    generalize w.alloc (.cells #[.int .i64 k, .int .i64 j] 126) = W at *
    have D0 := Ext.cell d0.out
    have Q0 := Ext.cell q0.out
    have Q1 := Ext.cell q1.out
    have z0 := d0.out
    have z1 := q0.out
    have z2 := q1.out
    go_region_with (first
      | (go_at_call 106; refine (hpw.out _ ?_).mono ?_; (first | exact bb'.out | exact below_drewN bb'.out 1 | exact below_drewN bb'.out 2); rintro e w6 ⟨A, c, rfl, hrd, h16, b6⟩; have hrd' := Lib.hid hrd; have b6' := Lib.hid (show Below w.heap.size w w6 from below_trans bb'.out ⟨b6.os, b6.tape, b6.output, b6.size, b6.block⟩); clear hrd b6)
      | (go_at_call 170; refine (withoutZeros_any _ _ _ ?_ _ ?_).mono ?_; (omega); (exact hrd'.out); rintro e w7 ⟨u, rfl, hown, b7⟩; have hown' := Lib.hid (own_base (base' := w.heap.size) hown b6'.out.size); have b7' := Lib.hid (below_trans b6'.out b7); clear hown b7))
    all_goals go_wp2_with fail
    all_goals go_ret
    all_goals exact ⟨_, _, y.out, rfl, hown'.out, b7'.out⟩
  · have h1 := Lib.hid (show Maps.has M (.int .i64 addr) = false from by
      cases h : Maps.has M (.int .i64 addr)
      · rfl
      · obtain ⟨k, j, _, ho⟩ := (hv'.out.is.has addr).1 h
        exact absurd ⟨k, j, ho⟩ hh)
    have h2 := Lib.hid (show M.atKey (.int .i64 addr) (dat 0 0) = dat 0 0 from Maps.atKey_of_not_has h1.out _)
    have y := Lib.hid (show PtrIs D addr [] from .inr ⟨fun _ k j h => hh ⟨k, j, h⟩, rfl⟩)
    clear hh
    go_enter Tryz.func157, Tryz.ntmps157
    go_wp2_with (at_lookup; refine lookup_place _ rfl rfl _ _ rfl g n M rfl hv'.out.own _ _ rfl hkey.out false h1.out 0 0 h2.out ?_)
    go_ret
    exact ⟨[], _, y.out, rfl, World.ownsRow_nil _ _ _ _, below_box _ _⟩

end Go.Proofs.YtpaepkcfdnddgaaGreat
