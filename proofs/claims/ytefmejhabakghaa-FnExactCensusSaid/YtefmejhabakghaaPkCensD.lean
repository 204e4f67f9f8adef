import Derived.Test.YtefmejhabakghaaPkLeft

/-
  What Census counts, as plain data.
-/
namespace Go.Proofs.Ytefmejhabakghaa
open Go.RowKit
set_option linter.unusedVariables false

/-- What a span adds to number j of its class, its first i slots counted. -/
def cS (s : SpanD) (i j : Nat) : Int :=
  if j = 0 then 1 else if j = 1 then (usedCnt s i : Int) else if j = 2 then (markCnt s.mark i : Int) else if j = 3 then (i : Int) - (usedCnt s i : Int) else 0
def cL (L : List SpanD) (c j : Nat) : Int := (L.map fun s => if s.cls = (c : Int) then cS s s.lens.length j else 0).sum
def tab (f : Nat → Nat → Int) : List Int := (List.range 16).map fun q => f (q / 4) (q % 4)
def cens (D : WD) : List Int := tab (cL D.spans)
def CensIs (D : WD) (L : List Int) : Prop := (HeapForm D ∧ L = cens D) ∨ (¬ HeapForm D ∧ L = [])
theorem CensIs.unique {D : WD} {L M : List Int} (h : CensIs D L) (h' : CensIs D M) : M = L := by
  rcases h with ⟨h, rfl⟩ | ⟨h, rfl⟩ <;> rcases h' with ⟨h', rfl⟩ | ⟨h', rfl⟩ <;> first | rfl | exact absurd h h' | exact absurd h' h
theorem tab_length (f : Nat → Nat → Int) : (tab f).length = 16 := by unfold tab; simp
theorem CensIs.len {D : WD} {L : List Int} (h : CensIs D L) : L.length ≤ 1048576 := by
  rcases h with ⟨_, rfl⟩ | ⟨_, rfl⟩
  · unfold cens; rw [tab_length]; omega
  · simp
theorem tab_at (f : Nat → Nat → Int) (c j : Nat) (hc : c < 4) (hj : j < 4) : (tab f)[4 * c + j]? = some (f c j) := by
  unfold tab
  rw [List.getElem?_map, List.getElem?_range (by omega)]
  simp only [Option.map_some]
  rw [show (4 * c + j) / 4 = c by omega, show (4 * c + j) % 4 = j by omega]
theorem tab_set (f : Nat → Nat → Int) (c j : Nat) (x : Int) (hc : c < 4) (hj : j < 4) : (tab f).set (4 * c + j) x = tab fun c' j' => if c' = c ∧ j' = j then x else f c' j' := by
  apply List.ext_getElem?
  intro q
  by_cases hq : q < 16
  · rw [List.getElem?_set]
    unfold tab
    rw [List.getElem?_map, List.getElem?_map, List.getElem?_range hq, List.length_map, List.length_range]
    simp only [Option.map_some]
    by_cases e : 4 * c + j = q
    · rw [if_pos e, if_pos (by omega), if_pos ⟨by omega, by omega⟩]
    · rw [if_neg e, if_neg (by omega)]
  · rw [List.getElem?_eq_none (by rw [List.length_set, tab_length]; omega), List.getElem?_eq_none (by rw [tab_length]; omega)]
theorem cL_snoc (L : List SpanD) (s : SpanD) (c j : Nat) : cL (L ++ [s]) c j = cL L c j + if s.cls = (c : Int) then cS s s.lens.length j else 0 := by
  unfold cL
  rw [List.map_append, List.sum_append]
  simp
theorem cL_take {D : WD} {k : Nat} {s : SpanD} (h : D.spans[k]? = some s) (c j : Nat) : cL (D.spans.take (k + 1)) c j = cL (D.spans.take k) c j + if s.cls = (c : Int) then cS s s.lens.length j else 0 := by
  have hlt := (List.getElem?_eq_some_iff.1 h).1
  have e : D.spans[k] = s := (List.getElem?_eq_some_iff.1 h).2
  rw [List.take_succ_eq_append_getElem hlt, cL_snoc, e]
theorem cS_bd (s : SpanD) (i j : Nat) (hi : i ≤ 16) : 0 ≤ cS s i j ∧ cS s i j ≤ 16 := by
  have h1 := usedCnt_le s i
  have h2 := markCnt_le s.mark i
  unfold cS
  split
  · omega
  · split
    · omega
    · split
      · omega
      · split <;> omega
theorem cL_bd (L : List SpanD) (hl : ∀ s, s ∈ L → s.lens.length ≤ 16) (c j : Nat) : 0 ≤ cL L c j ∧ cL L c j ≤ 16 * (L.length : Int) := by
  induction L with
  | nil => simp [cL]
  | cons s L ih =>
    have h1 := ih (fun t ht => hl t (List.mem_cons_of_mem _ ht))
    have h2 := cS_bd s s.lens.length j (hl s (List.mem_cons_self ..))
    have e : cL (s :: L) c j = (if s.cls = (c : Int) then cS s s.lens.length j else 0) + cL L c j := by unfold cL; simp
    rw [e, List.length_cons]
    split <;> omega
/-- The counts when k spans and i slots of the next one are counted. -/
def cG (L : List SpanD) (s : SpanD) (k i c j : Nat) : Int := cL (L.take k) c j + if s.cls = (c : Int) then cS s i j else 0
theorem cG_bd {D : WD} (hF : HeapForm D) (s : SpanD) (k i c j : Nat) (hi : i ≤ 16) : 0 ≤ cG D.spans s k i c j ∧ cG D.spans s k i c j ≤ 1000 := by
  have h1 := cL_bd (D.spans.take k) (fun t ht => hF.lens16 t (List.mem_of_mem_take ht)) c j
  have h2 := cS_bd s i j hi
  have h3 := hF.geo
  have h4 : (D.spans.take k).length ≤ D.spans.length := by rw [List.length_take]; omega
  have h5 : D.spans.length ≤ 12 := by have := hF.spans; have := hF.geo.2.2.2.2.1; omega
  unfold cG
  split <;> omega
theorem cG_open (L : List SpanD) (s : SpanD) (k c : Nat) (hc : s.cls = (c : Int)) : (fun c' j' => if c' = c ∧ j' = 0 then cL (L.take k) c 0 + 1 else cL (L.take k) c' j') = cG L s k 0 := by
  funext c' j'
  unfold cG cS
  rw [hc]
  by_cases h1 : c' = c
  · subst h1
    by_cases h2 : j' = 0
    · subst h2; simp
    · rw [if_neg (by omega), if_pos rfl, if_neg h2]
      simp [usedCnt_zero, markCnt]
  · rw [if_neg (by omega), if_neg (by omega)]; simp
theorem cG_free (L : List SpanD) (s : SpanD) (k i c : Nat) (hc : s.cls = (c : Int)) (hi : i < s.lens.length) (h0 : ¬ 0 < s.lens[i]?.getD 0) (hm : ¬ bitI s.mark i) :
    (fun c' j' => if c' = c ∧ j' = 3 then cG L s k i c 3 + 1 else cG L s k i c' j') = cG L s k (i + 1) := by
  have hu := usedCnt_succ s i hi
  rw [if_neg h0] at hu
  have hk : markCnt s.mark (i + 1) = markCnt s.mark i := by unfold bitI at hm; simp only [markCnt]; rw [if_neg hm]; rfl
  funext c' j'
  unfold cG cS
  rw [hc, hu, hk]
  by_cases h1 : c' = c
  · subst h1
    by_cases h2 : j' = 3
    · subst h2; simp; omega
    · rw [if_neg (by omega)]; simp [h2]
  · rw [if_neg (by omega), if_neg (by omega)]; simp [show ¬ ((c : Int) = (c' : Int)) by omega]
theorem cG_used (L : List SpanD) (s : SpanD) (k i c : Nat) (hc : s.cls = (c : Int)) (hi : i < s.lens.length) (h0 : 0 < s.lens[i]?.getD 0) (hm : ¬ bitI s.mark i) :
    (fun c' j' => if c' = c ∧ j' = 1 then cG L s k i c 1 + 1 else cG L s k i c' j') = cG L s k (i + 1) := by
  have hu := usedCnt_succ s i hi
  rw [if_pos h0] at hu
  have hk : markCnt s.mark (i + 1) = markCnt s.mark i := by unfold bitI at hm; simp only [markCnt]; rw [if_neg hm]; rfl
  funext c' j'
  unfold cG cS
  rw [hc, hu, hk]
  by_cases h1 : c' = c
  · subst h1
    by_cases h2 : j' = 1
    · subst h2; simp; omega
    · rw [if_neg (by omega)]; simp [h2]
      split <;> first | rfl | (split <;> first | rfl | (split <;> omega))
  · rw [if_neg (by omega), if_neg (by omega)]; simp [show ¬ ((c : Int) = (c' : Int)) by omega]
theorem cG_marked (L : List SpanD) (s : SpanD) (k i c : Nat) (hc : s.cls = (c : Int)) (hi : i < s.lens.length) (h0 : 0 < s.lens[i]?.getD 0) (hm : bitI s.mark i) :
    (fun c' j' => if c' = c ∧ j' = 2 then cG L s k i c 2 + 1 else if c' = c ∧ j' = 1 then cG L s k i c 1 + 1 else cG L s k i c' j') = cG L s k (i + 1) := by
  have hu := usedCnt_succ s i hi
  rw [if_pos h0] at hu
  have hk : markCnt s.mark (i + 1) = markCnt s.mark i + 1 := by unfold bitI at hm; simp only [markCnt]; rw [if_pos hm]
  funext c' j'
  unfold cG cS
  rw [hc, hu, hk]
  by_cases h1 : c' = c
  · subst h1
    by_cases h2 : j' = 1
    · subst h2; simp; omega
    · by_cases h3 : j' = 2
      · subst h3; simp; omega
      · rw [if_neg (by omega), if_neg (by omega)]; simp [h2, h3]
        split <;> first | rfl | (split <;> omega)
  · rw [if_neg (by omega), if_neg (by omega), if_neg (by omega)]; simp [show ¬ ((c : Int) = (c' : Int)) by omega]
theorem cG_done {D : WD} {k : Nat} {s : SpanD} (h : D.spans[k]? = some s) : cG D.spans s k s.lens.length = cL (D.spans.take (k + 1)) := by
  funext c j
  rw [cL_take h]
  rfl
end Go.Proofs.Ytefmejhabakghaa
