import Derived.Test.YtpaepkcfdnddgaaGreatCgV
import Derived.RangeFuncWrites
import Derived.Lib.SliceRun
import Derived.Deep.DeepCutAuto
import Derived.Deep.CutRange
import Derived.Outline

namespace Go.Proofs.YtpaepkcfdnddgaaGreat
open Go.RowKit Go.Shelf
set_option linter.unusedVariables false

attribute [local go_sem] Oper.semAt_some

theorem VarW.chg {w w' : World} {base B : Nat} {S : Shape} {D : WD} (h : VarW w base B S D) {bs : List Nat} (c : Chg bs w w') (hn : ∀ k, k ∈ blks S.all → k ∉ bs) (hB : B ∉ bs) : VarW w' base B S D :=
  ⟨(c.block B h.lt hB).trans h.box, h.own.chg c hn, h.le, h.ne⟩
/-- A card that is told, kept within the cards. -/
def clampC (f m x : Int) : Int := if f / 8 ≤ x ∧ x < f / 8 + (cnt f m : Int) then x else f / 8
theorem clampC_in {f m : Int} (hm : 1 ≤ m) (x : Int) : f / 8 ≤ clampC f m x ∧ clampC f m x < f / 8 + (cnt f m : Int) := by
  have := cnt_pos (f := f) hm
  unfold clampC
  split <;> omega
theorem clampC_at {f m : Int} {k : Nat} (h : k < cnt f m) : clampC f m (f / 8 + (k : Int)) = f / 8 + (k : Int) := by
  unfold clampC
  rw [if_pos (by omega)]
def dirtyL (f m : Int) (L : List Bool) (pre : List Int) : List Bool := pre.foldl (fun L x => L.set (clampC f m x).toNat true) L
theorem dirtyL_snoc (f m : Int) (L : List Bool) (pre : List Int) (x : Int) : dirtyL f m L (pre ++ [x]) = (dirtyL f m L pre).set (clampC f m x).toNat true := by simp [dirtyL]
theorem dirtyL_upto (f m : Int) (L : List Bool) (k : Nat) (h : k ≤ cnt f m) : dirtyL f m L (upto f k) = dirtyK L f k := by
  induction k with
  | zero => rfl
  | succ k ih => rw [upto_succ, dirtyL_snoc, clampC_at (by omega), ih (by omega)]; rfl
theorem dirtyL_len (f m : Int) (L : List Bool) (pre : List Int) : (dirtyL f m L pre).length = L.length := by
  unfold dirtyL
  induction pre generalizing L with
  | nil => rfl
  | cons x pre ih => rw [List.foldl_cons, ih, List.length_set]

/-- What holds in the loop. -/
structure SoilI (base B bx : Nat) (S : Shape) (D : WD) (f m : Int) (w0 : World) (pre : List Int) (W : World) : Prop where
  var : VarW W base B S { D with dirty := dirtyL f m D.dirty pre }
  box : Boxed W bx 55 (.pointer (some ⟨B, 0, none⟩))
  bel : Below base w0 W
theorem soil_own {base B bx n0 : Nat} {S : Shape} {D : WD} {f m : Int} {w0 : World} (hold : ∀ q, q ∈ blks S.all → q < n0) (hB : B < n0) (hbx : bx < n0) (hb0 : base ≤ w0.heap.size) : OwnFrom n0 (SoilI base B bx S D f m w0) := by
  intro pre W W' row h hg hr
  have c : Chg row.toList W W' := Chg.of_grown hg fun x hx => by rw [hx]; simp
  have hm : ∀ q, q ∈ row.toList → n0 ≤ q := fun q hq => by
    cases row with
    | none => simp at hq
    | some r => simp at hq; subst hq; exact (hr q rfl).1
  refine ⟨h.var.chg c (fun k hk hq => by have := hold k hk; have := hm k hq; omega) (fun hq => by have := hm B hq; omega), h.box.kept hg fun e => by have := (hr bx e.symm).1; omega, ?_⟩
  have hz := h.bel.size
  have hle := h.var.le
  exact Chg.below h.bel c (by omega) fun x hx => by have := hm x hx; omega

end Go.Proofs.YtpaepkcfdnddgaaGreat

namespace Go.Proofs.YtpaepkcfdnddgaaGreat
open Go.RowKit
set_option linter.unusedVariables false

theorem elemInts : Tryz.prog.elem 22 = 3 := by kernel_rfl
theorem undInts : Tryz.prog.underlying 22 = some (.slice (Tryz.prog.elem 22)) := by rw [elemInts]; exact Tryz.underlying22
theorem sizeInts (w : World) : (sizeOf (Tryz.prog.elem 22)).run Tryz.prog w = .ok 1 w := by kernel_rfl
theorem zeroInt (w : World) : (zeroValue 3).run Tryz.prog w = .ok (.int .i64 0) w := by kernel_rfl
theorem setCells_last (g : Nat) (v : Value) : ∀ (n o : Nat) (w : World), w.setCells g o (List.replicate (n + 1) v) = (w.setCells g o (List.replicate n v)).setCell ⟨g, o + n, none⟩ v
  | 0, o, w => rfl
  | n + 1, o, w => by
    show (w.setCell ⟨g, o, none⟩ v).setCells g (o + 1) (List.replicate (n + 1) v) = ((w.setCell ⟨g, o, none⟩ v).setCells g (o + 1) (List.replicate n v)).setCell ⟨g, o + (n + 1), none⟩ v
    rw [setCells_last g v n (o + 1) _, show o + 1 + n = o + (n + 1) by omega]
theorem VarW.zero {w : World} {base B : Nat} {S : Shape} {D : WD} {g cap : Nat} (h : VarW w base B S D) (hg : S.vw = .slice (some ⟨g, 0, none⟩) D.words.length cap) (A : Nat) (n : Nat) :
    VarW (w.setCells g A (List.replicate n (.int .i64 0))) base B S { D with words := zeroK D.words A n } ∧ Below base w (w.setCells g A (List.replicate n (.int .i64 0))) := by
  induction n with
  | zero => exact ⟨h, Below.refl _ _⟩
  | succ n ih =>
    rw [setCells_last]
    have := ih.1.word (g := g) (cap := cap) (by rw [hg, zeroK_len]) (A + n) 0
    exact ⟨this.1, ih.2.trans this.2⟩
/-- The words of a slot. -/
theorem cut_words {g n c A z : Nat} (hA : A < n) (hz : A + z ≤ n) (hn : n ≤ c) (i : Int) (hi : i = (A : Int) + (z : Int)) (w : World) :
    (Instr.slice 22 (.slice (some ⟨g, 0, none⟩) n c) (some (.int .i64 (A : Int))) (some (.int .i64 i)) none).run Tryz.prog w = .ok (.slice (some ⟨g, A, none⟩) z (c - A)) w := by
  subst hi
  rw [run_slice_lh w 22 _ n c undInts .i64 .i64 (A : Int) ((A : Int) + (z : Int)) (by omega) (by omega) (by omega), sizeInts]
  have e1 : ((A : Int) + (z : Int)).toNat = A + z := by omega
  have e2 : (A : Int).toNat = A := by omega
  simp only [Result.andThen, sliced, e1, e2]
  rw [if_neg (by omega), show A + z - A = z by omega]
  simp [Addr.add]
  intro h
  omega

end Go.Proofs.YtpaepkcfdnddgaaGreat
