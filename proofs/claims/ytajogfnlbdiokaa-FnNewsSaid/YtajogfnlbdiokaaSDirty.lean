/-
  The contract of the model's l2dirty: the cards of a row of words are dirty.
-/
import Derived.Test.YtajogfnlbdiokaaVar
import Derived.Test.YtajogfnlbdiokaaSpecCards
import Derived.Test.YtajogfnlbdiokaaExt
namespace Go.Proofs.Ytajogfnlbdiokaa
open Go.RowKit
set_option linter.unusedVariables false

/-- The first k cards of the words from f on are dirty. -/
def dirtyK (L : List Bool) (f : Int) : Nat → List Bool
  | 0 => L
  | k + 1 => (dirtyK L f k).set (f / 8 + (k : Int)).toNat true
def dirtyUp (L : List Bool) (f m : Int) : List Bool := dirtyK L f (cnt f m)
theorem dirtyK_len (L : List Bool) (f : Int) (k : Nat) : (dirtyK L f k).length = L.length := by
  induction k with
  | zero => rfl
  | succ k ih => unfold dirtyK; rw [List.length_set, ih]
theorem dirtyUp_len (L : List Bool) (f m : Int) : (dirtyUp L f m).length = L.length := dirtyK_len _ _ _
theorem upto_at (f : Int) (n k : Nat) (h : k < n) : (upto f n)[k]?.getD 0 = f / 8 + (k : Int) := by simp [upto, h]

set_option maxRecDepth 100000 in
set_option maxHeartbeats 4000000 in
theorem sdirty_any (base B : Nat) (S : Shape) (D : WD) (f m : Int) (hf0 : 0 ≤ f) (hf : f ≤ 1000000) (hm1 : 1 ≤ m) (hm : m ≤ 32) (hc : f + m ≤ 8 * (D.dirty.length : Int)) (w : World) (h : VarW w base B S D) :
    Calls Try.prog 123 #[.pointer (some ⟨B, 0, none⟩), .int .i64 f, .int .i64 m] w fun e w' => e = .returned (.tuple #[]) ∧ VarW w' base B S { D with dirty := dirtyUp D.dirty f m } ∧ Below base w w' := by
  have hcnt := cnt_le (f := f) hm1 hm
  have h' := Lib.hid h
  have hD := h.headD (by omega)
  obtain ⟨gd, cd, hgd⟩ := hD
  have hgd' := Lib.hid hgd
  have hle := Lib.hid (Nat.le_of_lt (Nat.lt_of_le_of_lt h.le h.lt))
  have hvd := Lib.hid h.own.dirty
  have hbx := Lib.hid h.box
  have hcall := Lib.hid (spec_cardsOf_in f m hf0 hf hm1 hm w)
  clear h hgd
  go_enter Try.func123, Try.ntmps123
  go_wp2_with fail
  refine hcall.out.mono ?_
  rintro e w1 ⟨v, rfl, hrow, b1⟩
  have hv1 := Lib.hid (h'.out.below b1)
  have hB1 := Lib.hid (b1.mono hle.out)
  have hrl := Lib.hid (Rd.of_owns (L := upto f (cnt f m)) (by rw [upto_length]; exact hrow))
  have hne := Lib.hid (show ∀ k, v.ownBlock = some k → k ≠ gd from fun k hk e => by
    have h1 := (hrow.lt k hk).1
    have h2 := (h'.out.own.lt gd (List.mem_filterMap.2 ⟨S.vd, by simp [Shape.all], by rw [hgd'.out]; rfl⟩)).2
    omega)
  have hrow' := Lib.hid hrow
  clear hrow b1 hcall
  obtain ⟨al, cl, rfl, hll, hj1⟩ := hrl.out
  clear hj1
  rw [upto_length] at hll
  have hrow2 := Lib.hid (show w1.ownsRow w.heap.size 3 1 (.slice al (cnt f m) cl) (cnt f m) ((upto f (cnt f m)).map (Value.int .i64)) by have := hrow'.out; rw [upto_length] at this; exact this)
  clear hrow' hrl
  simp only [upto_length]
  unfold maxLen at hll
  go_wp2_with fail
  go_loopw [7] (fun i wr => ∃ k : Nat, k ≤ cnt f m ∧ i = .int .i64 k ∧ Hid (VarW wr base B S { D with dirty := dirtyK D.dirty f k }) ∧ Hid (wr.ownsRow w.heap.size 3 1 (.slice al (cnt f m) cl) (cnt f m) ((upto f (cnt f m)).map (Value.int .i64))) ∧ Hid (Below base w wr)) (fun i _ => cnt f m - (intOf i).toNat)
  case atStart => exact ⟨0, Nat.zero_le _, rfl, hv1, hrow2, hB1⟩
  case round =>
    obtain ⟨k, hk, rfl, hv, hro, hB⟩ := hrel
    by_cases hlt : k < cnt f m
    · have hlt1 : (k : Int) < (cnt f m : Int) := by omega
      have hle2 := cnt_lt hlt
      obtain ⟨al', cl', he, hj3, xl⟩ := Rd.of_owns (L := upto f (cnt f m)) (v := .slice al (cnt f m) cl) (by rw [upto_length]; exact hro.out)
      obtain ⟨bl, ol, hal, xk⟩ := xl k (by rw [upto_length]; exact hlt)
      rw [upto_at f _ k hlt] at xk
      obtain ⟨rfl, hj2, rfl⟩ : al = al' ∧ cnt f m = (upto f (cnt f m)).length ∧ cl = cl' := by simpa using he
      subst hal
      have hidx : 0 ≤ f / 8 + (k : Int) := by omega
      obtain ⟨c, hcc⟩ := Int.eq_ofNat_of_zero_le hidx
      have hcl : c < D.dirty.length := by omega
      rw [hcc] at xk
      have hcl1 : (c : Int) < (D.dirty.length : Int) := by omega
      have hdl : (dirtyK D.dirty f k).length = D.dirty.length := dirtyK_len _ _ _
      have g3 := hv.out.cell 3 S.vd rfl
      rw [hgd'.out] at g3
      have hrD := hv.out.own.dirty
      have hgd2 : S.vd = .slice (some ⟨gd, 0, none⟩) (dirtyK D.dirty f k).length cd := by rw [hdl]; exact hgd'.out
      rw [hgd2] at hrD
      have hcd : wr.cell? ⟨gd, c, none⟩ = some (.bool ((dirtyK D.dirty f k)[c]?.getD false)) := by
        rw [hrD.cellAt c (by omega)]
        simp [show c < (dirtyK D.dirty f k).length by omega]
      have hfr := hrD.frozenAt c
      have hset := Lib.hid (hv.out.dirty hgd2 c true)
      have hkeep := Lib.hid (World.ownsRow.kept hro.out (grown_set wr gd c (.bool true)) (.inr fun e => hne.out bl (by simp [Value.ownBlock]) (by simpa [Value.ownBlock] using e)))
      have hstep := Lib.hid (show dirtyK D.dirty f (k + 1) = (dirtyK D.dirty f k).set c true by
        show (dirtyK D.dirty f k).set (f / 8 + (k : Int)).toNat true = _
        rw [hcc]; rfl)
      clear hj2 hj3 hro hv hrD he xl hgd2 hcc hidx hdl hle2
      generalize (dirtyK D.dirty f k)[c]?.getD false = old at hcd
      go_wp2_with fail
      go_region
      all_goals go_wp2_with fail
      all_goals go_roundw
      all_goals first
        | exact ⟨k + 1, by omega, by go_num, by rw [hstep.out]; exact hset.out.1.drew, World.ownsRow.drew hkeep.out, below_drewN (hB.out.trans hset.out.2) 1⟩
        | (simp [intOf]; omega)
    · obtain rfl : k = cnt f m := by omega
      go_wp2_with fail
      go_end0
      exact ⟨rfl, hv.out, hB.out⟩
end Go.Proofs.Ytajogfnlbdiokaa
