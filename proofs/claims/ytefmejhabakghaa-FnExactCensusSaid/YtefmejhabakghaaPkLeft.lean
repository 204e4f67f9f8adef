import Derived.Test.YtefmejhabakghaaPkA
import Derived.Test.YtefmejhabakghaaPkQ
import Derived.Test.YtefmejhabakghaaPkOnes

/-
  Plain: how many steps are left, as the model counts them and as the program does.
-/
namespace Go.Proofs.Ytefmejhabakghaa
open Go.RowKit
set_option linter.unusedVariables false

theorem markCnt_le (m : Int) (j : Nat) : markCnt m j ≤ j := by
  induction j with
  | zero => exact Nat.le_refl _
  | succ j ih =>
    show markCnt m j + (if m / 2 ^ j % 2 = 1 then 1 else 0) ≤ j + 1
    split <;> omega
theorem markCnt_high {m : Int} {n k : Nat} (h0 : 0 ≤ m) (h : m < 2 ^ n) (hk : n ≤ k) : markCnt m k = markCnt m n := by
  induction k with
  | zero => rw [show n = 0 by omega]
  | succ k ih =>
    by_cases e : n = k + 1
    · rw [e]
    · have hnk : n ≤ k := by omega
      have h2 : m / 2 ^ k = 0 := by
        refine Int.ediv_eq_zero_of_lt h0 (Int.lt_of_lt_of_le h ?_)
        have := Nat.pow_le_pow_right (show 0 < 2 by omega) hnk
        have e1 : ((2 : Int) ^ n) = ((2 ^ n : Nat) : Int) := by simp
        have e2 : ((2 : Int) ^ k) = ((2 ^ k : Nat) : Int) := by simp
        rw [e1, e2]
        omega
      show markCnt m k + (if m / 2 ^ k % 2 = 1 then 1 else 0) = _
      rw [h2, if_neg (by decide), ih hnk]
      rfl
/-- How many of the first j slots hold an object that is not marked. -/
def whiteS (s : SpanD) : Nat → Nat
  | 0 => 0
  | j + 1 => whiteS s j + if 0 < s.lens[j]?.getD 0 ∧ ¬ s.mark / 2 ^ j % 2 = 1 then 1 else 0
theorem whiteS_le (s : SpanD) (j : Nat) : whiteS s j ≤ j := by
  induction j with
  | zero => exact Nat.le_refl _
  | succ j ih =>
    show whiteS s j + (if 0 < s.lens[j]?.getD 0 ∧ ¬ s.mark / 2 ^ j % 2 = 1 then 1 else 0) ≤ j + 1
    split <;> omega
theorem whiteS_yes {s : SpanD} {j : Nat} (h : 0 < s.lens[j]?.getD 0) (hm : ¬ bitI s.mark j) : whiteS s (j + 1) = whiteS s j + 1 := by
  show whiteS s j + (if 0 < s.lens[j]?.getD 0 ∧ ¬ s.mark / 2 ^ j % 2 = 1 then 1 else 0) = _
  rw [if_pos ⟨h, hm⟩]
theorem whiteS_no {s : SpanD} {j : Nat} (h : 0 < s.lens[j]?.getD 0 → bitI s.mark j) : whiteS s (j + 1) = whiteS s j := by
  show whiteS s j + (if 0 < s.lens[j]?.getD 0 ∧ ¬ s.mark / 2 ^ j % 2 = 1 then 1 else 0) = _
  rw [if_neg (fun hh => hh.2 (h hh.1))]
  rfl
theorem white_used {s : SpanD} (hb : ∀ i, i < s.lens.length → bitI s.mark i → 0 < s.lens[i]?.getD 0) : ∀ j, j ≤ s.lens.length → whiteS s j + markCnt s.mark j = usedCnt s j := by
  intro j
  induction j with
  | zero => intro _; rw [usedCnt_zero]; rfl
  | succ j ih =>
    intro hj
    have h1 := ih (by omega)
    rw [usedCnt_succ s j (by omega)]
    have h2 := hb j (by omega)
    show whiteS s j + (if 0 < s.lens[j]?.getD 0 ∧ ¬ s.mark / 2 ^ j % 2 = 1 then 1 else 0) + (markCnt s.mark j + if s.mark / 2 ^ j % 2 = 1 then 1 else 0) = _
    by_cases hm : s.mark / 2 ^ j % 2 = 1
    · have hl := h2 hm
      rw [if_neg (fun hh => hh.2 hm), if_pos hm, if_pos hl]
      omega
    · by_cases hl : 0 < s.lens[j]?.getD 0
      · rw [if_pos ⟨hl, hm⟩, if_neg hm, if_pos hl]
        omega
      · rw [if_neg (fun hh => hl hh.1), if_neg hm, if_neg hl]
        omega
/-- In the first k spans: objects that are not marked; spans that are not swept. -/
def whiteK (D : WD) : Nat → Nat
  | 0 => 0
  | k + 1 => whiteK D k + (match D.spans[k]? with | some s => whiteS s s.lens.length | none => 0)
def unsK (D : WD) : Nat → Nat
  | 0 => 0
  | k + 1 => unsK D k + (match D.spans[k]? with | some s => if s.swept = true then 0 else 1 | none => 0)
theorem whiteK_succ {D : WD} {k : Nat} {s : SpanD} (hs : D.spans[k]? = some s) : whiteK D (k + 1) = whiteK D k + whiteS s s.lens.length := by
  show whiteK D k + (match D.spans[k]? with | some s => whiteS s s.lens.length | none => 0) = _
  rw [hs]
theorem unsK_succ {D : WD} {k : Nat} {s : SpanD} (hs : D.spans[k]? = some s) : unsK D (k + 1) = unsK D k + if s.swept = true then 0 else 1 := by
  show unsK D k + (match D.spans[k]? with | some s => if s.swept = true then 0 else 1 | none => 0) = _
  rw [hs]
theorem unsK_le (D : WD) (k : Nat) (hk : k ≤ D.spans.length) : unsK D k ≤ k := by
  induction k with
  | zero => exact Nat.le_refl _
  | succ k ih =>
    obtain ⟨s, hs⟩ : ∃ s, D.spans[k]? = some s := ⟨_, List.getElem?_eq_getElem (by omega)⟩
    rw [unsK_succ hs]
    have := ih (by omega)
    split <;> omega
theorem unsK_all {D : WD} (h : ∀ s, s ∈ D.spans → s.swept = false) (k : Nat) (hk : k ≤ D.spans.length) : unsK D k = k := by
  induction k with
  | zero => rfl
  | succ k ih =>
    obtain ⟨s, hs⟩ : ∃ s, D.spans[k]? = some s := ⟨_, List.getElem?_eq_getElem (by omega)⟩
    rw [unsK_succ hs, ih (by omega), if_neg (by rw [h s (List.mem_of_getElem? hs)]; decide)]
theorem whiteK_le {D : WD} (hl : ∀ s, s ∈ D.spans → s.lens.length ≤ 16) (k : Nat) (hk : k ≤ D.spans.length) : whiteK D k ≤ 16 * k := by
  induction k with
  | zero => exact Nat.le_refl _
  | succ k ih =>
    obtain ⟨s, hs⟩ : ∃ s, D.spans[k]? = some s := ⟨_, List.getElem?_eq_getElem (by omega)⟩
    rw [whiteK_succ hs]
    have := ih (by omega)
    have := whiteS_le s s.lens.length
    have := hl s (List.mem_of_getElem? hs)
    omega
theorem HeapForm.lens16 {D : WD} (hF : HeapForm D) : ∀ s, s ∈ D.spans → s.lens.length ≤ 16 := fun s hs => by
  obtain ⟨k, hk⟩ := List.mem_iff_getElem?.1 hs
  have := (hF.span k s hk).lens
  have := (sl_bd s.cls).2
  omega
/-- What the program counts for a span is what the model does. -/
theorem HeapForm.white {D : WD} (hF : HeapForm D) {k : Nat} {s : SpanD} (hs : D.spans[k]? = some s) : 0 ≤ s.mark ∧ s.mark < 65536 ∧ whiteS s s.lens.length + markCnt s.mark 16 = usedCnt s s.lens.length := by
  have A := hF.span k s hs
  have h16 := hF.lens16 s (List.mem_of_getElem? hs)
  have h1 := A.mk1
  have h0 := A.mk0
  have e1 : ((2 : Int) ^ s.lens.length) = ((2 ^ s.lens.length : Nat) : Int) := by simp
  have h2 := Nat.pow_le_pow_right (show 0 < 2 by omega) h16
  refine ⟨h0, by omega, ?_⟩
  rw [markCnt_high h0 h1 h16]
  refine white_used (fun i hi hb => ?_) _ (Nat.le_refl _)
  rcases Int.lt_or_le 0 (s.lens[i]?.getD 0) with h | h
  · exact h
  · have := (A.slot i hi).l0
    exact absurd hb ((A.slot i hi).bit (by omega))
def leftN (D : WD) : Int :=
  if D.phase = 0 then 0 else if D.phase = 4 then 1 + (unsK D D.spans.length : Int) else if D.phase = 3 then 2 + (D.spans.length : Int)
  else if D.phase = 2 then 3 + (D.spans.length : Int) + (whiteK D D.spans.length : Int) + (D.grey.length : Int)
  else 4 + (D.spans.length : Int) + (whiteK D D.spans.length : Int) + (D.grey.length : Int) + (D.muts.length : Int) - D.next
def LeftIs (D : WD) (e : Ending) : Prop := ∃ r : Int, e = .returned (.int .i64 r) ∧ ((Right D ∧ r = leftN D) ∨ (¬ Right D ∧ r = 0))
theorem LeftIs.unique {D : WD} {e e2 : Ending} (h1 : LeftIs D e) (h2 : LeftIs D e2) : e = e2 := by
  obtain ⟨a, rfl, h1⟩ := h1
  obtain ⟨b, rfl, h2⟩ := h2
  rcases h1 with ⟨h, rfl⟩ | ⟨h, rfl⟩ <;> rcases h2 with ⟨h', rfl⟩ | ⟨h', rfl⟩
  · rfl
  · exact absurd h h'
  · exact absurd h' h
  · rfl
theorem leftN_0 {D : WD} (h : D.phase = 0) : leftN D = 0 := by unfold leftN; rw [if_pos h]
theorem leftN_4 {D : WD} (h : D.phase = 4) : leftN D = 1 + (unsK D D.spans.length : Int) := by unfold leftN; rw [if_neg (by omega), if_pos h]
theorem leftN_3 {D : WD} (h : D.phase = 3) : leftN D = 2 + (D.spans.length : Int) := by unfold leftN; rw [if_neg (by omega), if_neg (by omega), if_pos h]
theorem leftN_2 {D : WD} (h : D.phase = 2) : leftN D = 3 + (D.spans.length : Int) + (whiteK D D.spans.length : Int) + (D.grey.length : Int) := by unfold leftN; rw [if_neg (by omega), if_neg (by omega), if_neg (by omega), if_pos h]
theorem leftN_1 {D : WD} (h : D.phase = 1) : leftN D = 4 + (D.spans.length : Int) + (whiteK D D.spans.length : Int) + (D.grey.length : Int) + (D.muts.length : Int) - D.next := by unfold leftN; rw [if_neg (by omega), if_neg (by omega), if_neg (by omega), if_neg (by omega)]
theorem Right.greyLen {D : WD} (h : Right D) : D.grey.length ≤ 384 :=
  nodup_range (n := 384) (lo := D.base) h.2.1.1.2.1 fun a ha => obj_range h.1 ((h.2.1.1.2.2 a ha).elim fun k hk => hk.elim fun j hj => ⟨k, j, hj.1⟩)
/-- Ahead of the sweep no span is swept. -/
theorem Right.uns {D : WD} (h : Right D) (hp : D.phase ≠ 4) : unsK D D.spans.length = D.spans.length :=
  unsK_all (fun s hs => by
    cases e : s.swept
    · rfl
    · exact absurd ((h.2.1.2.2 s hs).1 e) hp) _ (Nat.le_refl _)
end Go.Proofs.Ytefmejhabakghaa
