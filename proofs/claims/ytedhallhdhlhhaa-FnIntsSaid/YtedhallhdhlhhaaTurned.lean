/-
  Plain, and rows: a row of bytes that []byte(s) made; bits of it turned one by one; what GetSection finds in it then.
-/
import Derived.Test.YtedhallhdhlhhaaSec7
import Derived.Test.YtedhallhdhlhhaaByX
namespace Go.Proofs.Ytedhallhdhlhhaa
open Go.RowKit
set_option linter.unusedVariables false

/-- The first bytes of block g, a row that []byte(s) made. -/
def MRow (w : World) (g : Nat) (l : List UInt8) : Prop := ∃ cs : Array Value, w.heap[g]? = some (.cells cs 5 (cs.size, cs.size + 1)) ∧ l.length ≤ cs.size ∧ ∀ j (h : j < l.length), cs[j]? = some (u8v l[j])
theorem MRow.cell {w : World} {g : Nat} {l : List UInt8} (h : MRow w g l) (j : Nat) (hj : j < l.length) : w.cell? ⟨g, j, none⟩ = some (.int .u8 (l[j].toNat : Int)) := by
  obtain ⟨cs, hh, _, hc⟩ := h
  have e : w.cell? ⟨g, j, none⟩ = cs[j]? := by simp [World.cell?, hh]
  rw [e, hc j hj]
  rfl
theorem MRow.free {w : World} {g : Nat} {l : List UInt8} (h : MRow w g l) (j : Nat) (hj : j < l.length) : w.frozen? ⟨g, j, none⟩ = false := by
  obtain ⟨cs, hh, hl, _⟩ := h
  simp only [World.frozen?, hh, Bool.and_eq_false_iff, decide_eq_false_iff_not]
  left
  omega
theorem MRow.set {w : World} {g : Nat} {l : List UInt8} (h : MRow w g l) (j : Nat) (hj : j < l.length) (b : UInt8) : MRow (w.setCell ⟨g, j, none⟩ (.int .u8 (b.toNat : Int))) g (l.set j b) := by
  obtain ⟨cs, hh, hl, hc⟩ := h
  refine ⟨cs.setIfInBounds j (u8v b), ?_, by simpa using hl, fun k hk => ?_⟩
  · have e : (w.setCell ⟨g, j, none⟩ (.int .u8 (b.toNat : Int))).heap[g]? = some (.cells (cs.setIfInBounds j (u8v b)) 5 (cs.size, cs.size + 1)) := by
      simp [World.setCell, Array.getElem?_modify, hh]
      rfl
    rw [e]
    simp
  · rw [List.length_set] at hk
    by_cases hkj : j = k
    · subst hkj
      have hjs : j < cs.size := by omega
      simp [hjs]
    · rw [Array.getElem?_setIfInBounds_ne hkj, hc k hk, List.getElem_set_ne hkj]
theorem MRow.drew {w : World} {g : Nat} {l : List UInt8} (h : MRow w g l) : MRow w.drew g l := h
theorem MRow.below {w w' : World} {g : Nat} {l : List UInt8} (h : MRow w g l) (hb : Below w.heap.size w w') : MRow w' g l := by
  obtain ⟨cs, hh, hl, hc⟩ := h
  exact ⟨cs, (hb.block g (Array.getElem?_eq_some_iff.1 hh).1).trans hh, hl, hc⟩
/-- []byte(s). -/
theorem conv_bytes (w : World) (s : ByteArray) : ∃ cap W, (convert 9 22 (.string s)).run Try.prog w = .ok (.slice (some ⟨w.heap.size, 0, none⟩) s.size cap) W ∧ MRow W w.heap.size s.data.toList ∧ Below w.heap.size w W := by
  have h := run_bytes_of_string (P := Try.prog) w 9 22 5 s Try.underlying9 Try.underlying22 Try.underlying5
  refine ⟨_, _, h, ?_, ?_⟩
  · refine ⟨bytesRow s (grownCap w s.size 0 5), heap_alloc_new w.drew _, ?_, fun j hj => ?_⟩
    · have : s.data.toList.length = s.size := by simp
      rw [this]
      simp [bytesRow]
    · have hj' : j < s.data.size := by simpa using hj
      rw [bytesRow_at s _ j hj']
      rfl
  · have := below_box w.drew (.cells (bytesRow s (grownCap w s.size 0 5)) 5 ((bytesRow s (grownCap w s.size 0 5)).size, (bytesRow s (grownCap w s.size 0 5)).size + 1))
    exact ⟨this.os, this.tape, this.output, this.size, this.block⟩
/-- string(b) of the whole row. -/
theorem MRow.str {w : World} {g cap : Nat} {l : List UInt8} (h : MRow w g l) : (convert 22 9 (.slice (some ⟨g, 0, none⟩) l.length cap)).run Try.prog w = .ok (.string ⟨l.toArray⟩) w :=
  run_convert_bytes_back w 22 9 5 ⟨g, 0, none⟩ cap l Try.underlying22 Try.underlying5 Try.underlying9 (fun j hj => by
    rw [add_at, Nat.zero_add]
    exact h.cell j hj)

/-- One bit more. -/
def turnMore (t : Nat → Bool) (p : Nat) : Nat → Bool := fun q => t q || q == p
def bB (b0 b1 b2 b3 b4 b5 b6 b7 : Bool) : Nat := (if b0 then 128 else 0) + (if b1 then 64 else 0) + (if b2 then 32 else 0) + (if b3 then 16 else 0) + (if b4 then 8 else 0) + (if b5 then 4 else 0) + (if b6 then 2 else 0) + (if b7 then 1 else 0)
theorem turnB_eq (t : Nat → Bool) (j : Nat) : turnB t j = bB (t (8 * j)) (t (8 * j + 1)) (t (8 * j + 2)) (t (8 * j + 3)) (t (8 * j + 4)) (t (8 * j + 5)) (t (8 * j + 6)) (t (8 * j + 7)) := rfl
theorem flip0 : ∀ a b c d e f g : Bool, bB true a b c d e f g = bB false a b c d e f g ^^^ 128 := by decide
theorem flip1 : ∀ a b c d e f g : Bool, bB a true b c d e f g = bB a false b c d e f g ^^^ 64 := by decide
theorem flip2 : ∀ a b c d e f g : Bool, bB a b true c d e f g = bB a b false c d e f g ^^^ 32 := by decide
theorem flip3 : ∀ a b c d e f g : Bool, bB a b c true d e f g = bB a b c false d e f g ^^^ 16 := by decide
theorem flip4 : ∀ a b c d e f g : Bool, bB a b c d true e f g = bB a b c d false e f g ^^^ 8 := by decide
theorem flip5 : ∀ a b c d e f g : Bool, bB a b c d e true f g = bB a b c d e false f g ^^^ 4 := by decide
theorem flip6 : ∀ a b c d e f g : Bool, bB a b c d e f true g = bB a b c d e f false g ^^^ 2 := by decide
theorem flip7 : ∀ a b c d e f g : Bool, bB a b c d e f g true = bB a b c d e f g false ^^^ 1 := by decide
theorem more_at (t : Nat → Bool) (p : Nat) : turnMore t p p = true := by simp [turnMore]
theorem more_ne (t : Nat → Bool) (p q : Nat) (h : q ≠ p) : turnMore t p q = t q := by simp [turnMore, h]
theorem turnB_other (t : Nat → Bool) (p j : Nat) (h : j ≠ p / 8) : turnB (turnMore t p) j = turnB t j := by
  rw [turnB_eq, turnB_eq, more_ne t p _ (by omega), more_ne t p _ (by omega), more_ne t p _ (by omega), more_ne t p _ (by omega), more_ne t p _ (by omega), more_ne t p _ (by omega), more_ne t p _ (by omega), more_ne t p _ (by omega)]
theorem turnB_more (t : Nat → Bool) (p : Nat) (h : t p = false) : turnB (turnMore t p) (p / 8) = turnB t (p / 8) ^^^ (128 / 2 ^ (p % 8)) := by
  have key : p % 8 = 0 ∨ p % 8 = 1 ∨ p % 8 = 2 ∨ p % 8 = 3 ∨ p % 8 = 4 ∨ p % 8 = 5 ∨ p % 8 = 6 ∨ p % 8 = 7 := by omega
  rw [turnB_eq, turnB_eq]
  rcases key with e | e | e | e | e | e | e | e
  · have hp : 8 * (p / 8) = p := by omega
    rw [more_ne t p (8 * (p / 8) + 1) (by omega), more_ne t p (8 * (p / 8) + 2) (by omega), more_ne t p (8 * (p / 8) + 3) (by omega), more_ne t p (8 * (p / 8) + 4) (by omega), more_ne t p (8 * (p / 8) + 5) (by omega), more_ne t p (8 * (p / 8) + 6) (by omega), more_ne t p (8 * (p / 8) + 7) (by omega), e]
    simp only [hp, more_at, h]
    exact flip0 _ _ _ _ _ _ _
  · have hp : 8 * (p / 8) + 1 = p := by omega
    rw [more_ne t p (8 * (p / 8)) (by omega), more_ne t p (8 * (p / 8) + 2) (by omega), more_ne t p (8 * (p / 8) + 3) (by omega), more_ne t p (8 * (p / 8) + 4) (by omega), more_ne t p (8 * (p / 8) + 5) (by omega), more_ne t p (8 * (p / 8) + 6) (by omega), more_ne t p (8 * (p / 8) + 7) (by omega), e]
    simp only [hp, more_at, h]
    exact flip1 _ _ _ _ _ _ _
  · have hp : 8 * (p / 8) + 2 = p := by omega
    rw [more_ne t p (8 * (p / 8)) (by omega), more_ne t p (8 * (p / 8) + 1) (by omega), more_ne t p (8 * (p / 8) + 3) (by omega), more_ne t p (8 * (p / 8) + 4) (by omega), more_ne t p (8 * (p / 8) + 5) (by omega), more_ne t p (8 * (p / 8) + 6) (by omega), more_ne t p (8 * (p / 8) + 7) (by omega), e]
    simp only [hp, more_at, h]
    exact flip2 _ _ _ _ _ _ _
  · have hp : 8 * (p / 8) + 3 = p := by omega
    rw [more_ne t p (8 * (p / 8)) (by omega), more_ne t p (8 * (p / 8) + 1) (by omega), more_ne t p (8 * (p / 8) + 2) (by omega), more_ne t p (8 * (p / 8) + 4) (by omega), more_ne t p (8 * (p / 8) + 5) (by omega), more_ne t p (8 * (p / 8) + 6) (by omega), more_ne t p (8 * (p / 8) + 7) (by omega), e]
    simp only [hp, more_at, h]
    exact flip3 _ _ _ _ _ _ _
  · have hp : 8 * (p / 8) + 4 = p := by omega
    rw [more_ne t p (8 * (p / 8)) (by omega), more_ne t p (8 * (p / 8) + 1) (by omega), more_ne t p (8 * (p / 8) + 2) (by omega), more_ne t p (8 * (p / 8) + 3) (by omega), more_ne t p (8 * (p / 8) + 5) (by omega), more_ne t p (8 * (p / 8) + 6) (by omega), more_ne t p (8 * (p / 8) + 7) (by omega), e]
    simp only [hp, more_at, h]
    exact flip4 _ _ _ _ _ _ _
  · have hp : 8 * (p / 8) + 5 = p := by omega
    rw [more_ne t p (8 * (p / 8)) (by omega), more_ne t p (8 * (p / 8) + 1) (by omega), more_ne t p (8 * (p / 8) + 2) (by omega), more_ne t p (8 * (p / 8) + 3) (by omega), more_ne t p (8 * (p / 8) + 4) (by omega), more_ne t p (8 * (p / 8) + 6) (by omega), more_ne t p (8 * (p / 8) + 7) (by omega), e]
    simp only [hp, more_at, h]
    exact flip5 _ _ _ _ _ _ _
  · have hp : 8 * (p / 8) + 6 = p := by omega
    rw [more_ne t p (8 * (p / 8)) (by omega), more_ne t p (8 * (p / 8) + 1) (by omega), more_ne t p (8 * (p / 8) + 2) (by omega), more_ne t p (8 * (p / 8) + 3) (by omega), more_ne t p (8 * (p / 8) + 4) (by omega), more_ne t p (8 * (p / 8) + 5) (by omega), more_ne t p (8 * (p / 8) + 7) (by omega), e]
    simp only [hp, more_at, h]
    exact flip6 _ _ _ _ _ _ _
  · have hp : 8 * (p / 8) + 7 = p := by omega
    rw [more_ne t p (8 * (p / 8)) (by omega), more_ne t p (8 * (p / 8) + 1) (by omega), more_ne t p (8 * (p / 8) + 2) (by omega), more_ne t p (8 * (p / 8) + 3) (by omega), more_ne t p (8 * (p / 8) + 4) (by omega), more_ne t p (8 * (p / 8) + 5) (by omega), more_ne t p (8 * (p / 8) + 6) (by omega), e]
    simp only [hp, more_at, h]
    exact flip7 _ _ _ _ _ _ _

theorem xorL_at (a b : List UInt8) (j : Nat) (ha : j < a.length) (hb : j < b.length) (h : j < (xorL a b).length) : (xorL a b)[j] = a[j] ^^^ b[j] := List.getElem_zipWith (f := fun x y : UInt8 => x ^^^ y) (l := a) (l' := b) (i := j) (h := h)
theorem turnL_at (t : Nat → Bool) (n j : Nat) (h : j < (turnL t n).length) : (turnL t n)[j] = (turnB t j).toUInt8 := by unfold turnL; simp
theorem turnL_length (t : Nat → Bool) (n : Nat) : (turnL t n).length = n := by simp [turnL]
/-- A bit more is turned: one byte is another. -/
theorem xorL_more (D : List UInt8) (t : Nat → Bool) (p : Nat) (hp : p / 8 < D.length) (h : t p = false) (x : UInt8) (hx : x.toNat = ((xorL D (turnL t D.length))[p / 8]?.getD 0).toNat ^^^ (128 / 2 ^ (p % 8))) :
    (xorL D (turnL t D.length)).set (p / 8) x = xorL D (turnL (turnMore t p) D.length) := by
  have l1 := xorL_length D (turnL t D.length) (turnL_length t _).symm
  have l2 := xorL_length D (turnL (turnMore t p) D.length) (turnL_length _ _).symm
  apply List.ext_getElem
  · rw [List.length_set, l1, l2]
  · intro j h1 h2
    have hj : j < D.length := by rw [l2] at h2; exact h2
    rw [xorL_at D (turnL (turnMore t p) D.length) j hj (by rw [turnL_length]; exact hj) h2, turnL_at]
    by_cases e : j = p / 8
    · subst e
      rw [List.getElem_set_self]
      apply UInt8.toNat_inj.1
      rw [hx, List.getElem?_eq_getElem (by rw [l1]; exact hp)]
      simp only [Option.getD_some]
      rw [xorL_at D (turnL t D.length) (p / 8) hj (by rw [turnL_length]; exact hj) (by rw [l1]; exact hj), turnL_at, turnB_more t p h, UInt8.toNat_xor, UInt8.toNat_xor]
      have b1 := turnB_lt t (p / 8)
      have b2 := turnB_lt (turnMore t p) (p / 8)
      rw [turnB_more t p h] at b2
      have e : ∀ y : Nat, y < 256 → (y.toUInt8).toNat = y := fun y hy => by simp [Nat.toUInt8]; omega
      rw [e _ b1, e _ b2, Nat.xor_assoc]
    · rw [List.getElem_set_ne (Ne.symm e), xorL_at D (turnL t D.length) j hj (by rw [turnL_length]; exact hj) (by rw [l1]; exact hj), turnL_at, turnB_other t p j e]
theorem turnL_none (D : List UInt8) (t : Nat → Bool) (h : ∀ p, t p = false) : xorL D (turnL t D.length) = D := by
  have l1 := xorL_length D (turnL t D.length) (turnL_length t _).symm
  apply List.ext_getElem
  · exact l1
  · intro j h1 h2
    rw [xorL_at D (turnL t D.length) j h2 (by rw [turnL_length]; exact h2) h1, turnL_at]
    have : turnB t j = 0 := by rw [turnB_eq]; simp only [h]; rfl
    rw [this]
    apply UInt8.toNat_inj.1
    rw [UInt8.toNat_xor]
    show D[j].toNat ^^^ 0 = _
    rw [Nat.xor_zero]

/-- A section whose sum is not the body's. -/
theorem getS_bad (tag : UInt8) (n : Nat) (hn : n ≤ 200000) (R : List UInt8) (hR : R.length = n + 4) (h : getW (R.drop n) ≠ crc (R.take n)) : getS (tag :: (pi (n : Int) ++ R)) 0 = noSec 2 := by
  unfold getS
  rw [if_neg (by simp; omega)]
  have d1 : (tag :: (pi (n : Int) ++ R)).drop ((0 : Int).toNat + 1) = pi (n : Int) ++ R := rfl
  have hg := getN_pi (n := (n : Int)) (by omega) (by omega) R
  rw [d1, hg]
  simp only
  rw [if_neg (by omega), Int.toNat_natCast]
  have d2 : (tag :: (pi (n : Int) ++ R)).drop ((0 : Int).toNat + 1 + (pi (n : Int)).length) = R := by
    rw [← List.drop_drop, d1, List.drop_left' rfl]
  have d3 : (tag :: (pi (n : Int) ++ R)).drop ((0 : Int).toNat + 1 + (pi (n : Int)).length + n) = R.drop n := by
    rw [← List.drop_drop, d2]
  have n1 : ¬ (tag :: (pi (n : Int) ++ R)).length < (0 : Int).toNat + 1 + (pi (n : Int)).length + n + 4 := by
    rw [List.length_cons, List.length_append, hR]
    show ¬ _ < 0 + 1 + _ + _ + 4
    omega
  rw [if_neg n1, d2, d3, if_pos h]
end Go.Proofs.Ytedhallhdhlhhaa
