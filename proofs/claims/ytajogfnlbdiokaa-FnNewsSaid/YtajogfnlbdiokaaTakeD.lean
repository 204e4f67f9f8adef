/-
  What Take and Give answer, as plain data; each answer is told by its arguments alone, and none is too great to be marked.
-/
import Derived.Test.YtajogfnlbdiokaaSNew2
import Derived.Test.YtajogfnlbdiokaaSDrop
import Derived.Test.YtajogfnlbdiokaaImplR
import Derived.Test.YtajogfnlbdiokaaClassOf
namespace Go.Proofs.Ytajogfnlbdiokaa
open Go.RowKit
set_option linter.unusedVariables false

/-! ### Give -/
def GiveIs (D : WD) (addr : Int) (D' : WD) (f : Bool) : Prop :=
  (∃ k j s, HeapForm D ∧ IsObj D addr k j ∧ D.spans[k]? = some s ∧ f = true ∧
    ((EmptyS (giveS s j) ∧ D' = { giveD D k s j with spans := (giveD D k s j).spans.eraseIdx k }) ∨ (¬ EmptyS (giveS s j) ∧ D' = giveD D k s j))) ∨
  ((HeapForm D → ∀ k j, ¬ IsObj D addr k j) ∧ D' = zeroD ∧ f = false)
theorem GiveIs.unique {D : WD} {addr : Int} {D1 D2 : WD} {f1 f2 : Bool} (h1 : GiveIs D addr D1 f1) (h2 : GiveIs D addr D2 f2) : D2 = D1 ∧ f2 = f1 := by
  rcases h1 with ⟨k, j, s, hF, ho, hs, rfl, he⟩ | ⟨hn, rfl, rfl⟩ <;> rcases h2 with ⟨k', j', s', hF', ho', hs', rfl, he'⟩ | ⟨hn', rfl, rfl⟩
  · obtain ⟨rfl, rfl⟩ := ho.unique hF ho'
    rw [hs] at hs'
    cases hs'
    rcases he with ⟨e, rfl⟩ | ⟨e, rfl⟩ <;> rcases he' with ⟨e', rfl⟩ | ⟨e', rfl⟩
    · exact ⟨rfl, rfl⟩
    · exact absurd e e'
    · exact absurd e' e
    · exact ⟨rfl, rfl⟩
  · exact absurd ho (hn' hF k j)
  · exact absurd ho' (hn hF' k' j')
  · exact ⟨rfl, rfl⟩
theorem sum_set (L : List SpanD) (k : Nat) (s t : SpanD) (hs : L[k]? = some s) (hb : t.bulk = s.bulk) : bulkS (L.set k t) = bulkS L := by
  induction L generalizing k with
  | nil => simp at hs
  | cons a L ih =>
    cases k with
    | zero =>
      simp at hs
      subst hs
      simp [bulkS, hb]
    | succ k =>
      have := ih k (by simpa using hs)
      simp only [bulkS, List.set_cons_succ, List.map_cons, List.sum_cons] at this ⊢
      omega
theorem sum_erase (L : List SpanD) (k : Nat) : bulkS (L.eraseIdx k) ≤ bulkS L := by
  induction L generalizing k with
  | nil => simp [bulkS]
  | cons a L ih =>
    cases k with
    | zero => simp [bulkS]
    | succ k =>
      have := ih k
      simp only [bulkS, List.eraseIdx_cons_succ, List.map_cons, List.sum_cons] at this ⊢
      omega
theorem giveD_bulk {D : WD} {k j : Nat} {s : SpanD} (hs : D.spans[k]? = some s) : (giveD D k s j).bulk = D.bulk ∧ (giveD D k s j).spans.length = D.spans.length := by
  have h1 : bulkS (D.spans.set k (giveS s j)) = bulkS D.spans := sum_set _ _ _ _ hs (by simp [giveS, SpanD.bulk])
  refine ⟨?_, by simp [giveD]⟩
  simp only [WD.bulk, giveD, zeroK_len, dirtyUp_len, List.length_set, h1]
theorem GiveIs.markable {D : WD} {addr : Int} {D' : WD} {f : Bool} (h : GiveIs D addr D' f) (hs : D.bulk ≤ 1048576) : Markable D' := by
  rcases h with ⟨k, j, s, hF, ho, hk, rfl, he⟩ | ⟨hn, rfl, rfl⟩
  · obtain ⟨h1, h2⟩ := giveD_bulk (j := j) hk
    have h3 : D.spans.length ≤ D.bulk := by unfold WD.bulk; omega
    rcases he with ⟨e, rfl⟩ | ⟨e, rfl⟩
    · have h4 := sum_erase (giveD D k s j).spans k
      have h5 : ((giveD D k s j).spans.eraseIdx k).length ≤ (giveD D k s j).spans.length := List.length_eraseIdx_le _ _
      refine ⟨?_⟩
      unfold WD.bulk at h1 ⊢
      simp only at *
      unfold WD.bulk at hs h3
      omega
    · exact ⟨by omega⟩
  · exact ⟨by decide⟩

/-! ### Take -/
/-- There is no slot left in a span of class c ahead of span k. -/
def FullUp (D : WD) (c : Int) (k : Nat) : Prop := ∀ (i : Nat) (s : SpanD), i < k → D.spans[i]? = some s → s.cls = c → ∀ j, j < s.lens.length → s.lens[j]?.getD 0 ≠ 0
/-- A new span at page k. -/
def freshS (D : WD) (c : Int) (k : Nat) : SpanD := ⟨(k : Int), c, 0, D.phase == 4, List.replicate (sl' c).toNat 0, List.replicate (sl' c).toNat 0⟩
def insD (D : WD) (c : Int) (k : Nat) : WD := { D with spans := D.spans.take k ++ freshS D c k :: D.spans.drop k }
/-- The next object of class c comes to slot j of span k of D1. -/
def PlaceIs (D : WD) (c : Int) (D1 : WD) (k j : Nat) : Prop :=
  (D1 = D ∧ ∃ s, D.spans[k]? = some s ∧ s.cls = c ∧ j < s.lens.length ∧ s.lens[j]?.getD 0 = 0 ∧ (∀ i, i < j → s.lens[i]?.getD 0 ≠ 0) ∧ FullUp D c k) ∨
  (FullUp D c D.spans.length ∧ FreePg D k ∧ (k : Int) ≠ D.pages ∧ D1 = insD D c k ∧ j = 0)
/-- There is no such place. -/
def NoPlace (D : WD) (c : Int) : Prop := FullUp D c D.spans.length ∧ ∃ k : Nat, FreePg D k ∧ (k : Int) = D.pages
def takeS (s : SpanD) (j : Nat) (n p : Int) : SpanD := { s with lens := s.lens.set j n, ptrs := s.ptrs.set j p }
def takeD (D : WD) (k : Nat) (s : SpanD) (j : Nat) (n p : Int) : WD :=
  { D with dirty := dirtyUp D.dirty (atW s (j : Int)) n, spans := D.spans.set k (takeS s j n p) }
def TakeOk (D : WD) (n p : Int) : Prop := HeapForm D ∧ 1 ≤ n ∧ n ≤ 16 ∧ 0 ≤ p ∧ p ≤ n
def TakeIs (D : WD) (n p : Int) (D' : WD) (a : Int) (f : Bool) : Prop :=
  (TakeOk D n p ∧ ∃ D1 k j s, PlaceIs D (cl n) D1 k j ∧ D1.spans[k]? = some s ∧ D' = takeD D1 k s j n p ∧ a = D1.base + atW s (j : Int) ∧ f = true) ∨
  ((TakeOk D n p → NoPlace D (cl n)) ∧ D' = zeroD ∧ a = 0 ∧ f = false)
theorem FreePg.unique {D : WD} {k k' : Nat} (h : FreePg D k) (h' : FreePg D k') : k = k' := by
  have key : ∀ {a b : Nat}, FreePg D a → FreePg D b → ¬ a < b := fun {a b} ha hb hlt => by
    obtain ⟨s, hs⟩ : ∃ s, D.spans[a]? = some s := ⟨_, List.getElem?_eq_getElem (by have := hb.1; omega)⟩
    exact ha.2.2 s hs (hb.2.1 a s hlt hs)
  have h1 := key h h'
  have h2 := key h' h
  omega
theorem PlaceIs.unique {D : WD} {c : Int} {D1 D2 : WD} {k j k' j' : Nat} (h : PlaceIs D c D1 k j) (h' : PlaceIs D c D2 k' j') : D2 = D1 ∧ k' = k ∧ j' = j := by
  rcases h with ⟨rfl, s, hs, hc, hj, h0, hb, hf⟩ | ⟨hf, hp, hn, rfl, rfl⟩ <;> rcases h' with ⟨rfl, s', hs', hc', hj', h0', hb', hf'⟩ | ⟨hf', hp', hn', rfl, rfl⟩
  · have e : k' = k := by
      rcases Nat.lt_trichotomy k k' with h | h | h
      · exact absurd h0 (hf' k s h hs hc j hj)
      · exact h.symm
      · exact absurd h0' (hf k' s' h hs' hc' j' hj')
    subst e
    rw [hs] at hs'
    cases hs'
    refine ⟨rfl, rfl, ?_⟩
    rcases Nat.lt_trichotomy j j' with h | h | h
    · exact absurd h0 (hb' j h)
    · exact h.symm
    · exact absurd h0' (hb j' h)
  · exact absurd h0 (hf' k s (List.getElem?_eq_some_iff.1 hs).1 hs hc j hj)
  · exact absurd h0' (hf k' s' (List.getElem?_eq_some_iff.1 hs').1 hs' hc' j' hj')
  · obtain rfl := hp.unique hp'
    exact ⟨rfl, rfl, rfl⟩
theorem PlaceIs.some {D : WD} {c : Int} {D1 : WD} {k j : Nat} (h : PlaceIs D c D1 k j) : ¬ NoPlace D c := by
  rintro ⟨hf, q, hq, hn⟩
  rcases h with ⟨rfl, s, hs, hc, hj, h0, hb, _⟩ | ⟨_, hp, hn', rfl, rfl⟩
  · exact absurd h0 (hf k s (List.getElem?_eq_some_iff.1 hs).1 hs hc j hj)
  · obtain rfl := hp.unique hq
    exact hn' hn
theorem TakeIs.unique {D : WD} {n p : Int} {D1 D2 : WD} {a1 a2 : Int} {f1 f2 : Bool} (h : TakeIs D n p D1 a1 f1) (h' : TakeIs D n p D2 a2 f2) : D2 = D1 ∧ a2 = a1 ∧ f2 = f1 := by
  rcases h with ⟨ok, E, k, j, s, hp, hs, rfl, rfl, rfl⟩ | ⟨hn, rfl, rfl, rfl⟩ <;> rcases h' with ⟨ok', E', k', j', s', hp', hs', rfl, rfl, rfl⟩ | ⟨hn', rfl, rfl, rfl⟩
  · obtain ⟨rfl, rfl, rfl⟩ := hp.unique hp'
    rw [hs] at hs'
    cases hs'
    exact ⟨rfl, rfl, rfl⟩
  · exact absurd (hn' ok) hp.some
  · exact absurd (hn ok') hp'.some
  · exact ⟨rfl, rfl, rfl⟩
theorem takeD_bulk {D : WD} {k j : Nat} {s : SpanD} {n p : Int} (hs : D.spans[k]? = some s) : (takeD D k s j n p).bulk = D.bulk ∧ (takeD D k s j n p).spans.length = D.spans.length := by
  have h1 : bulkS (D.spans.set k (takeS s j n p)) = bulkS D.spans := sum_set _ _ _ _ hs (by simp [takeS, SpanD.bulk])
  refine ⟨?_, by simp [takeD]⟩
  simp only [WD.bulk, takeD, dirtyUp_len, List.length_set, h1]
theorem insD_bulk (D : WD) (c : Int) (k : Nat) : (insD D c k).bulk ≤ D.bulk + 33 ∧ (insD D c k).spans.length ≤ D.spans.length + 1 := by
  have hl : (D.spans.take k ++ freshS D c k :: D.spans.drop k).length = D.spans.length + 1 := by
    have := congrArg List.length (List.take_append_drop k D.spans)
    simp only [List.length_append, List.length_cons] at this ⊢
    omega
  have hb : bulkS (D.spans.take k ++ freshS D c k :: D.spans.drop k) = bulkS D.spans + (freshS D c k).bulk := by
    have := congrArg bulkS (List.take_append_drop k D.spans)
    simp only [bulkS, List.map_append, List.sum_append, List.map_cons, List.sum_cons] at this ⊢
    omega
  have hf : (freshS D c k).bulk ≤ 32 := by
    have := (sl_bd c).2
    simp only [freshS, SpanD.bulk, List.length_replicate]
    omega
  refine ⟨?_, by show (D.spans.take k ++ freshS D c k :: D.spans.drop k).length ≤ _; omega⟩
  simp only [WD.bulk, insD]
  omega
theorem TakeIs.markable {D : WD} {n p : Int} {D' : WD} {a : Int} {f : Bool} (h : TakeIs D n p D' a f) (hs : D.bulk ≤ 1048576) : Markable D' := by
  rcases h with ⟨ok, E, k, j, s, hp, hk, rfl, rfl, rfl⟩ | ⟨hn, rfl, rfl, rfl⟩
  · obtain ⟨h1, h2⟩ := takeD_bulk (j := j) (n := n) (p := p) hk
    have h3 : D.spans.length ≤ D.bulk := by unfold WD.bulk; omega
    refine ⟨?_⟩
    rw [h1, h2]
    rcases hp with ⟨rfl, _⟩ | ⟨_, _, _, rfl, _⟩
    · omega
    · have := insD_bulk D (cl n) k
      omega
  · exact ⟨by decide⟩
theorem cl_ok {n : Int} (h1 : 1 ≤ n) (h2 : n ≤ 16) : 0 ≤ cl n ∧ cl n ≤ 3 ∧ sl' (cl n) ≠ 0 ∧ n ≤ sz (cl n) := by
  unfold cl
  rw [if_neg (by omega)]
  (repeat' split) <;> simp [sl', sz] <;> omega
theorem cl_no {n : Int} (h : n < 1 ∨ 16 < n) : cl n = -1 := by
  unfold cl
  rcases h with h | h
  · rw [if_pos h]
  · rw [if_neg (by omega), if_neg (by omega), if_neg (by omega), if_neg (by omega), if_neg (by omega)]
theorem HeapForm.slotIn {D : WD} (h : HeapForm D) {k j : Nat} {s : SpanD} (hk : D.spans[k]? = some s) (hj : j < s.lens.length) : SlotIn D s j := by
  have A := h.span k s hk
  have g := h.geo
  exact ⟨A.cls, A.lens, A.ptrs, hj, A.pg0, A.pg1, h.words, h.dirty, g.2.2.2.2.1⟩
end Go.Proofs.Ytajogfnlbdiokaa
