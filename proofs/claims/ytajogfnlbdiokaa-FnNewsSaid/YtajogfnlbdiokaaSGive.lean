/-
  The contract of the model's l2give: an object is taken away, but not its span.
-/
import Derived.Test.YtajogfnlbdiokaaSDirty
import Derived.Test.YtajogfnlbdiokaaVar2
import Derived.Test.YtajogfnlbdiokaaImplB
import Derived.Test.YtajogfnlbdiokaaFind
namespace Go.Proofs.Ytajogfnlbdiokaa
open Go.RowKit
set_option linter.unusedVariables false

theorem wrap_pow {i : Nat} (h1 : i ≤ 16) : wrap64 ((2 : Int) ^ i) = 2 ^ i := by
  have hp := pow16 h1
  have e : ((2 : Int) ^ i) = ((2 ^ i : Nat) : Int) := (Int.natCast_pow 2 i).symm
  rw [e]
  generalize 2 ^ i = p at hp ⊢
  exact IntWalk.wrap64_in _ (by omega)
/-- n words from A on are 0. -/
def zeroK (L : List Int) (A : Nat) : Nat → List Int
  | 0 => L
  | n + 1 => (zeroK L A n).set (A + n) 0
theorem zeroK_len (L : List Int) (A n : Nat) : (zeroK L A n).length = L.length := by
  induction n with
  | zero => rfl
  | succ n ih => unfold zeroK; rw [List.length_set, ih]
def giveS (s : SpanD) (j : Nat) : SpanD := { s with lens := s.lens.set j 0, ptrs := s.ptrs.set j 0, mark := bits .andNot .i64 s.mark (2 ^ j) }
def giveD (D : WD) (k : Nat) (s : SpanD) (j : Nat) : WD :=
  { D with words := zeroK D.words (atW s (j : Int)).toNat (sz s.cls).toNat, dirty := dirtyUp D.dirty (atW s (j : Int)) (sz s.cls), spans := D.spans.set k (giveS s j) }
/-- What a slot's words need. -/
structure SlotIn (D : WD) (s : SpanD) (j : Nat) : Prop where
  cls : sl' s.cls ≠ 0
  lens : (s.lens.length : Int) = sl' s.cls
  ptrs : (s.ptrs.length : Int) = sl' s.cls
  j : j < s.lens.length
  pg0 : 0 ≤ s.page
  pg1 : s.page < D.pages
  words : (D.words.length : Int) = D.pages * 32
  dirty : (D.dirty.length : Int) = D.pages * 4
  pg : D.pages ≤ 12
theorem SlotIn.bd {D : WD} {s : SpanD} {j : Nat} (h : SlotIn D s j) : 0 ≤ atW s (j : Int) ∧ atW s (j : Int) + sz s.cls ≤ D.pages * 32 ∧ 2 ≤ sz s.cls ∧ sz s.cls ≤ 16 ∧ (j : Int) ≤ 15 ∧ atW s (j : Int) ≤ 1000 := by
  have h1 := h.lens
  have h2 := h.j
  have h3 := slot_in (c := s.cls) (i := (j : Int)) (t := sz s.cls - 1) (by omega) (by omega) (by have := sz_pos h.cls; omega) (by omega)
  have h4 := sz_pos h.cls
  have h5 := sz_bd s.cls
  have h6 := sl_bd s.cls
  have h7 := h.pg0
  have h8 := h.pg1
  have h9 := h.pg
  unfold atW
  omega

set_option maxRecDepth 100000 in
set_option maxHeartbeats 8000000 in
theorem sgive_any (base B : Nat) (S : Shape) (D : WD) (k j : Nat) (s : SpanD) (hk : D.spans[k]? = some s) (hin : SlotIn D s j) (w : World) (h : VarW w base B S D) :
    Calls Try.prog 90 #[.pointer (some ⟨B, 0, none⟩), .int .i64 k, .int .i64 j] w fun e w' => e = .returned (.tuple #[]) ∧ VarW w' base B S (giveD D k s j) ∧ Below base w w' := by
  have hbd := hin.bd
  have hkl := (List.getElem?_eq_some_iff.1 hk).1
  obtain ⟨p, hp⟩ := h.svAt hk
  obtain ⟨gs, cs, hgs⟩ := h.headS (by omega)
  obtain ⟨gw, cw, hgw⟩ := h.headW (by have := hin.words; have := hin.pg0; have := hin.pg1; omega)
  obtain ⟨gl, cl, hgl⟩ := head_of (h.own.inner k s p hk hp).1 (by have := hin.j; omega)
  obtain ⟨gp, cp, hgp⟩ := head_of (h.own.inner k s p hk hp).2 (by have := hin.j; have := hin.lens; have := hin.ptrs; omega)
  have hj := hin.j
  have hjp : j < s.ptrs.length := by have := hin.lens; have := hin.ptrs; omega
  have hwl := hin.words
  have hdl := hin.dirty
  have hpg := hin.pg
  have hpg0 := hin.pg0
  have hpg1 := hin.pg1
  obtain ⟨A, hA⟩ := Int.eq_ofNat_of_zero_le hbd.1
  obtain ⟨z, hz⟩ := Int.eq_ofNat_of_zero_le (show 0 ≤ sz s.cls by omega)
  have hb2 : A + z ≤ D.words.length := by omega
  have hzb : 2 ≤ z ∧ z ≤ 16 := by omega
  obtain ⟨hz1, hz2⟩ := hzb
  have hA2 : A ≤ 1000 := by omega
  have hdd : (A : Int) + (z : Int) ≤ 8 * (D.dirty.length : Int) := by omega
  have hj15 : (j : Int) ≤ 15 := hbd.2.2.2.2.1
  have hjl1 : (j : Int) < (s.lens.length : Int) := by omega
  have hjp1 : (j : Int) < (s.ptrs.length : Int) := by omega
  have hkl1 : (k : Int) < (D.spans.length : Int) := by omega
  have hat := Lib.hid (fun (w : World) => (hA ▸ at_any s p.1 p.2 (j : Int) hpg0 (by omega) (by omega) (by omega) w :
    Calls Try.prog 124 #[spanV s p.1 p.2, .int .i64 j] w fun e w' => e = .returned (.int .i64 (A : Int)) ∧ Below w.heap.size w w'))
  have hcs := Lib.hid (fun (w : World) => spec_size_eq (v := (z : Int)) hz w)
  have hA' := Lib.hid hA
  have hz' := Lib.hid hz
  have hsl := Lib.hid (show D.spans.length ≤ 1000000000 ∨ True from .inr trivial)
  have hmx := (h.rd.parts.2.2.1)
  obtain ⟨_, _, _, hsm, _⟩ := hmx
  unfold maxLen at hsm
  have hk' := Lib.hid hk
  have hp' := Lib.hid hp
  have hgs' := Lib.hid hgs
  have hgw' := Lib.hid hgw
  have hgl' := Lib.hid hgl
  have hgp' := Lib.hid hgp
  have h' := Lib.hid h
  have hle := Lib.hid (Nat.le_of_lt (Nat.lt_of_le_of_lt h.le h.lt))
  have g4 := h.cell 4 S.vs rfl
  rw [hgs] at g4
  obtain ⟨x0, x1, x2, x3, x4, x5⟩ := h.six hgs hk hp
  clear hk hp hgs hgw hgl hgp h hA hz hbd hin hwl hdl hpg1
  go_enter Try.func90, Try.ntmps90
  go_wp2_with fail
  refine (hat.out _).mono ?_
  rintro e w1 ⟨rfl, b1⟩
  have v1 := Lib.hid (h'.out.below b1)
  have B1 := Lib.hid (b1.mono hle.out)
  clear b1 g4 x0 x1 x2 x3 x4 x5
  go_wp2_with fail
  go_loopw [8] (fun i wr => ∃ t : Nat, t ≤ z ∧ i = .int .i64 t ∧ Hid (VarW wr base B S { D with words := zeroK D.words A t }) ∧ Hid (Below base w wr)) (fun i _ => z - (intOf i).toNat)
  case atStart => exact ⟨0, Nat.zero_le _, rfl, v1, B1⟩
  case round =>
    obtain ⟨t, ht, rfl, hv, hB⟩ := hrel
    have x1 := (hv.out.six hgs'.out hk'.out hp'.out).2.1
    by_cases htl : t < z
    · have htl1 : (t : Int) < (z : Int) := by omega
      have hAt1 : (A : Int) + (t : Int) < (D.words.length : Int) := by omega
      have hgw2 : S.vw = .slice (some ⟨gw, 0, none⟩) (zeroK D.words A t).length cw := by rw [zeroK_len]; exact hgw'.out
      have hset := Lib.hid (hv.out.word hgw2 (A + t) 0)
      have hc := ints_cell hv.out.own.words hgw2 (A + t) (by simp only [zeroK_len]; omega)
      obtain ⟨c1, c2⟩ := hc
      have g2 := hv.out.cell 2 S.vw rfl
      rw [hgw'.out] at g2
      clear hv hgw2
      generalize (zeroK D.words A t)[A + t]?.getD 0 = old at c1
      go_wp2_with (go_at_call 121; refine (hcs.out _).mono ?_; rintro e w' ⟨rfl, rfl⟩)
      go_roundw
      case rel => exact ⟨t + 1, by omega, by go_num, hset.out.1, hB.out.trans hset.out.2⟩
      case measure => simp [intOf]; omega
    · obtain rfl : t = z := by omega
      have hd := Lib.hid (sdirty_any base B S { D with words := zeroK D.words A t } (A : Int) (t : Int) (by omega) (by omega) (by omega) (by omega) hdd wr hv.out)
      go_wp2_with (go_at_call 121; refine (hcs.out _).mono ?_; rintro e w' ⟨rfl, rfl⟩)
      refine hd.out.mono ?_
      rintro e w2 ⟨rfl, v2, B2⟩
      have hv2 := Lib.hid v2
      have hB2 := Lib.hid (hB.out.trans B2)
      obtain ⟨_, _, x2, _, x4, x5⟩ := v2.six hgs'.out hk'.out hp'.out
      rw [hgl'.out] at x4
      rw [hgp'.out] at x5
      obtain ⟨n1, n2, n3, n4, n5, n6⟩ := v2.nes hgs'.out hk'.out hp'.out hgl'.out hgp'.out
      obtain ⟨c1, c2⟩ := ints_cell (v2.own.inner k s p hk'.out hp'.out).1 hgl'.out j hj
      obtain ⟨d1, d2⟩ := ints_cell (v2.own.inner k s p hk'.out hp'.out).2 hgp'.out j hjp
      have f2 := v2.frzS hgs'.out (k * 6 + 2)
      have s1 := v2.lens k j s p 0 hk'.out hp'.out hgl'.out
      have hk2 := Lib.hid (set_at (t := ({ s with lens := s.lens.set j 0 } : SpanD)) hk'.out)
      have s2 := s1.1.ptrs k j _ p 0 hk2.out hp'.out hgp'.out
      have hk3 := Lib.hid (set_at (t := ({ s with lens := s.lens.set j 0, ptrs := s.ptrs.set j 0 } : SpanD)) hk2.out)
      have s3 := s2.1.mark (g := gs) (cap := cs) (by simp only [List.length_set]; exact hgs'.out) k _ p (bits .andNot .i64 s.mark (2 ^ j)) hk3.out hp'.out
      have s3' := Lib.hid (show VarW _ base B S (giveD D k s j) from by simpa only [giveD, giveS, hA'.out, hz'.out, List.set_set, Int.toNat_natCast] using s3.1)
      have B3 := Lib.hid (((hB2.out.trans s1.2).trans s2.2).trans s3.2)
      generalize s.lens[j]?.getD 0 = o3 at c1
      generalize s.ptrs[j]?.getD 0 = o4 at d1
      clear v2 B2 hd x1 s1 s2 s3
      go_wp2_with fail
      go_region
      all_goals go_wp2
      all_goals go_end0
      rw [wrap_pow (show j ≤ 16 by omega)]
      exact ⟨rfl, s3'.out.drew, below_drewN B3.out 1⟩
end Go.Proofs.Ytajogfnlbdiokaa
