/-
  The words of an object that hold its pointers: the program's pointerWords.
-/
import Derived.Test.YtajogfnlbdiokaaPtrs
import Derived.Test.YtajogfnlbdiokaaSGive
import Derived.Deep.CutRange
import Derived.Outline
namespace Go.Proofs.Ytajogfnlbdiokaa
open Go.RowKit
set_option linter.unusedVariables false

def ptrW (D : WD) (s : SpanD) (j : Nat) : List Int := (D.words.drop (atW s (j : Int)).toNat).take (s.ptrs[j]?.getD 0).toNat
theorem Rd.part {w : World} {b o c : Nat} {L : List Int} (h : Rd w (.slice (some ⟨b, o, none⟩) L.length c) L) {lo n : Nat} (hle : lo + n ≤ L.length) (c' : Nat) : Rd w (.slice (some ⟨b, o + lo, none⟩) n c') ((L.drop lo).take n) := by
  obtain ⟨a', c0, he, hm, hx⟩ := h
  have hln : ((L.drop lo).take n).length = n := by simp; omega
  refine ⟨some ⟨b, o + lo, none⟩, c', by rw [hln], by rw [hln]; omega, fun j hj => ?_⟩
  rw [hln] at hj
  obtain ⟨b', o', he', hc⟩ := hx (lo + j) (by omega)
  obtain ⟨rfl, rfl⟩ : b' = b ∧ o' = o := by
    have : some (⟨b, o, none⟩ : Addr) = some ⟨b', o', none⟩ := by simp at he; rw [he.1]; exact he'
    simp at this
    exact ⟨this.1.symm, this.2.symm⟩
  refine ⟨_, _, rfl, ?_⟩
  rw [show o' + lo + j = o' + (lo + j) by omega, hc]
  simp [List.getElem?_drop, hj]
/-- The words' slice has room for its words. -/
def CapW (v : Value) : Prop := ∀ c0 c1 a n c c3 c4 c5 c6 c7 c8, v = .agg #[c0, c1, .slice a n c, c3, c4, c5, c6, c7, c8] → n ≤ c

set_option maxRecDepth 100000 in
set_option maxHeartbeats 4000000 in
theorem pointerWords_any (B : Nat) (v : Value) (D : WD) (k j : Nat) (s : SpanD) (hks : D.spans[k]? = some s) (hin : SlotIn D s j) (hp0 : 0 ≤ s.ptrs[j]?.getD 0) (hp1 : s.ptrs[j]?.getD 0 ≤ sz s.cls) (hcap : CapW v) (w : World) (hr : RdW w v D) (hB : BoxW w B v) :
    Calls Try.prog 141 #[.pointer (some ⟨B, 0, none⟩), .agg #[.int .i64 k, .int .i64 j]] w fun e w' => ∃ A c, e = .returned (.slice A (ptrW D s j).length c) ∧ Rd w' (.slice A (ptrW D s j).length c) (ptrW D s j) ∧ (ptrW D s j).length ≤ 16 ∧ Below w.heap.size w w' := by
  obtain ⟨vw, vd, vs, vm, vg, rfl, a1, a2, a3, a4, a5⟩ := hr
  obtain ⟨cs, he, hh⟩ := hB
  obtain rfl := (Value.agg.inj he).symm
  obtain ⟨aW, cW, rfl, hlw, xw⟩ := id a1
  have hc := hcap _ _ _ _ _ _ _ _ _ _ _ rfl
  have hbd := hin.bd
  have hwd := hin.words
  have hpg := hin.pg
  have hpg0 := hin.pg0
  have hpg1 := hin.pg1
  obtain ⟨bw, ow, rfl, _⟩ := xw 0 (by omega)
  obtain ⟨aS, cS, rfl, hsl, hx⟩ := a3
  obtain ⟨b1, o1, rfl, hrs⟩ := hx k s hks
  have bb := below_box w (.cells #[.int .i64 k, .int .i64 j] 93)
  have bx := box_new w (.cells #[.int .i64 k, .int .i64 j] 93)
  have hrs' := hrs.below bb
  have hfw := Lib.hid (fun (w' : World) (h : RdSpan w' b1 (o1 + k * 6) s) => firstWord_any b1 (o1 + k * 6) s (j : Int) (by omega) (by omega) (by omega) (by omega) w' h)
  have hrs2 := Lib.hid hrs'
  obtain ⟨vl, vp, x0, x1, x2, x3, x4, x5, xl, xp⟩ := hrs'
  obtain ⟨ap, cp, rfl, hpl, xp⟩ := xp
  have hj := hin.j
  have hjp : j < s.ptrs.length := by have := hin.lens; have := hin.ptrs; omega
  obtain ⟨bp, op, rfl, xj⟩ := xp j hjp
  have g4 := cell_below bb (cell_of_heap hh 4 _ rfl)
  have g2 := cell_below bb (cell_of_heap hh 2 _ rfl)
  have q0 := cell_of_heap bx 0 _ rfl
  have q1 := cell_of_heap bx 1 _ rfl
  have hkl1 : (k : Int) < (D.spans.length : Int) := by have := (List.getElem?_eq_some_iff.1 hks).1; omega
  have hjp1 : (j : Int) < (s.ptrs.length : Int) := by omega
  obtain ⟨A, hA⟩ := Int.eq_ofNat_of_zero_le hbd.1
  obtain ⟨P, hP⟩ := Int.eq_ofNat_of_zero_le hp0
  have hsum : A + P ≤ D.words.length := by omega
  have hA2 : A + 2 ≤ D.words.length := by omega
  have hP16 : P ≤ 16 := by omega
  have hpt : ptrW D s j = (D.words.drop A).take P := by unfold ptrW; rw [hA, hP]; rfl
  have hlen : ((D.words.drop A).take P).length = P := by simp; omega
  rw [hpt, hlen]
  have y := Lib.hid (fun c' => Rd.part a1 hsum c')
  have bb' := Lib.hid bb
  rw [hP] at xj
  rw [hA] at hfw
  unfold maxLen at hlw hpl hsl
  have e0 : ¬ cW = A := by omega
  have e1 : IntKind.i64.wrap ((A : Int) + (P : Int)) = (A : Int) + (P : Int) := IntWalk.i64_in _ (by omega)
  have e2 : (A : Int) ≤ (A : Int) + (P : Int) := by omega
  have e3 : (A : Int) + (P : Int) ≤ (cW : Int) := by omega
  have e4 : (0 : Int) ≤ (A : Int) + (P : Int) := by omega
  have e5 : ((A : Int) + (P : Int)).toNat = A + P := by omega
  have hc' := Lib.hid hc
  clear a1 a2 a4 a5 he hh xw hx hrs xl xp hbd hwd hpg hpg0 hpg1 hks hin hp0 hp1 hA hP hpt hlen hcap bb bx x0 x1 x2 x3 x4 hj hjp hsum hc hA2
  go_enter Try.func141, Try.ntmps141
  go_upto_region 1 with fail
  generalize w.alloc (.cells #[.int .i64 k, .int .i64 j] 93) = W at *
  go_quiet (fail)
  go_wp2_with (go_at_call 75; refine (hfw.out _ ?_).mono ?_; (first | exact hrs2.out | exact hrs2.out.drewN 1); rintro e w' ⟨rfl, dr⟩; obtain ⟨m, rfl⟩ := dr)
  go_quiet (fail)
  go_wp2_with fail
  go_ret
  exact ⟨_, _, rfl, (y.out _).below (below_drewN (below_drewN bb'.out _) _), hP16, below_drewN (below_drewN bb'.out _) _⟩
end Go.Proofs.Ytajogfnlbdiokaa
