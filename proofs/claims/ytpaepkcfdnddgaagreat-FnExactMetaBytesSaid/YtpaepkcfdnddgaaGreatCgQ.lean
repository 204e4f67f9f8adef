import Derived.Test.YtpaepkcfdnddgaaGreatCgP
import Derived.Deep.CutRange
import Derived.Outline
import Derived.Test.YtpaepkcfdnddgaaGreatCgA
import Derived.Test.YtpaepkcfdnddgaaGreatCgV

namespace Go.Proofs.YtpaepkcfdnddgaaGreat
open Go.RowKit
set_option linter.unusedVariables false

def Asc (L : List Int) : Prop := L.Pairwise (· < ·)
theorem Asc.ext : ∀ {L R : List Int}, Asc L → Asc R → (∀ y, y ∈ L ↔ y ∈ R) → L = R
  | [], [], _, _, _ => rfl
  | [], b :: R, _, _, h => absurd ((h b).2 (List.mem_cons_self ..)) (by simp)
  | a :: L, [], _, _, h => absurd ((h a).1 (List.mem_cons_self ..)) (by simp)
  | a :: L, b :: R, h1, h2, h => by
    have p1 := List.pairwise_cons.1 h1
    have p2 := List.pairwise_cons.1 h2
    have e : a = b := by
      rcases List.mem_cons.1 ((h a).1 (List.mem_cons_self ..)) with e | m
      · exact e
      · rcases List.mem_cons.1 ((h b).2 (List.mem_cons_self ..)) with e | m'
        · exact e.symm
        · have := p2.1 a m
          have := p1.1 b m'
          omega
    subst e
    refine congrArg (a :: ·) (Asc.ext p1.2 p2.2 fun y => ?_)
    constructor
    · intro hy
      rcases List.mem_cons.1 ((h y).1 (List.mem_cons_of_mem _ hy)) with e | m
      · have := p1.1 y hy
        omega
      · exact m
    · intro hy
      rcases List.mem_cons.1 ((h y).2 (List.mem_cons_of_mem _ hy)) with e | m
      · have := p2.1 y hy
        omega
      · exact m
def PutIs (L : List Int) (x : Int) (R : List Int) : Prop := Asc R ∧ (∀ y, y ∈ R ↔ y = x ∨ y ∈ L) ∧ R.length ≤ L.length + 1
/-- The state of the loop behind k elements: f: the new one is in. -/
def PutSt (L : List Int) (x : Int) (k : Nat) (f : Bool) (O : List Int) : Prop :=
  (f = false ∧ O = L.take k ∧ ∀ y, y ∈ L.take k → y < x) ∨
  (f = true ∧ ∃ A B, O = A ++ x :: B ∧ L.take k = A ++ B ∧ (∀ y, y ∈ A → y < x) ∧ (∀ y, y ∈ B → x < y) ∧ B ≠ [])
theorem PutSt.len {L : List Int} {x : Int} {k : Nat} {f : Bool} {O : List Int} (h : PutSt L x k f O) (hk : k ≤ L.length) : O.length ≤ k + 1 := by
  rcases h with ⟨_, rfl, _⟩ | ⟨_, A, B, rfl, e, _⟩
  · rw [List.length_take]; omega
  · have := congrArg List.length e
    rw [List.length_take, List.length_append] at this
    simp only [List.length_append, List.length_cons]
    omega
theorem PutSt.low {L : List Int} {x : Int} {k : Nat} {O : List Int} (h : PutSt L x k false O) (hk : k < L.length) (hx : L[k]?.getD 0 < x) : PutSt L x (k + 1) false (O ++ [L[k]?.getD 0]) := by
  rcases h with ⟨_, rfl, h⟩ | ⟨h, _⟩
  · refine .inl ⟨rfl, (take_one hk).symm, fun y hy => ?_⟩
    rw [take_one hk] at hy
    rcases List.mem_append.1 hy with m | m
    · exact h y m
    · rw [List.mem_singleton.1 m]; exact hx
  · cases h
theorem PutSt.here {L : List Int} {x : Int} {k : Nat} {O : List Int} (h : PutSt L x k false O) (hk : k < L.length) (hx : x < L[k]?.getD 0) : PutSt L x (k + 1) true (O ++ [x] ++ [L[k]?.getD 0]) := by
  rcases h with ⟨_, rfl, h⟩ | ⟨h, _⟩
  · refine .inr ⟨rfl, L.take k, [L[k]?.getD 0], by simp, take_one hk, h, fun y hy => ?_, by simp⟩
    rw [List.mem_singleton.1 hy]; exact hx
  · cases h
theorem PutSt.high {L : List Int} {x : Int} {k : Nat} {O : List Int} (h : PutSt L x k true O) (ha : Asc L) (hk : k < L.length) : PutSt L x (k + 1) true (O ++ [L[k]?.getD 0]) := by
  rcases h with ⟨h, _⟩ | ⟨_, A, B, rfl, e, h1, h2, h3⟩
  · cases h
  · refine .inr ⟨rfl, A, B ++ [L[k]?.getD 0], by simp, by rw [take_one hk, e, List.append_assoc], h1, fun y hy => ?_, by simp⟩
    rcases List.mem_append.1 hy with m | m
    · exact h2 y m
    · rw [List.mem_singleton.1 m]
      obtain ⟨b, hb⟩ := List.exists_mem_of_ne_nil _ h3
      have hlt : b < L[k]?.getD 0 := by
        have hp : Asc (L.take (k + 1)) := List.Pairwise.sublist (List.take_sublist _ _) ha
        rw [take_one hk, e] at hp
        exact (List.pairwise_append.1 hp).2.2 b (List.mem_append.2 (.inr hb)) _ (List.mem_singleton.2 rfl)
      have := h2 b hb
      omega
theorem PutSt.end1 {L : List Int} {x : Int} {O : List Int} (h : PutSt L x L.length true O) (ha : Asc L) : PutIs L x O := by
  have hlen := h.len (Nat.le_refl _)
  rcases h with ⟨h, _⟩ | ⟨_, A, B, rfl, e, h1, h2, h3⟩
  · cases h
  · rw [List.take_length] at e
    subst e
    obtain ⟨pA, pB, pAB⟩ := List.pairwise_append.1 ha
    refine ⟨List.pairwise_append.2 ⟨pA, List.pairwise_cons.2 ⟨h2, pB⟩, fun a hA b hb => ?_⟩, fun y => ?_, hlen⟩
    · rcases List.mem_cons.1 hb with rfl | m
      · exact h1 a hA
      · exact pAB a hA b m
    · simp only [List.mem_append, List.mem_cons]
      constructor
      · rintro (h | h | h)
        · exact .inr (.inl h)
        · exact .inl h
        · exact .inr (.inr h)
      · rintro (h | h | h)
        · exact .inr (.inl h)
        · exact .inl h
        · exact .inr (.inr h)
theorem PutSt.end0 {L : List Int} {x : Int} {O : List Int} (h : PutSt L x L.length false O) (ha : Asc L) : PutIs L x (O ++ [x]) := by
  rcases h with ⟨_, rfl, h⟩ | ⟨h, _⟩
  · rw [List.take_length] at h ⊢
    refine ⟨List.pairwise_append.2 ⟨ha, List.pairwise_singleton _ _, fun a hA b hb => by rw [List.mem_singleton.1 hb]; exact h a hA⟩, fun y => ?_, by simp⟩
    simp only [List.mem_append, List.mem_singleton]
    exact Or.comm
  · cases h
theorem PutIs.found {L : List Int} {x : Int} (ha : Asc L) {k : Nat} (hk : k < L.length) (hx : L[k]?.getD 0 = x) : PutIs L x L := by
  refine ⟨ha, fun y => ⟨.inr, fun h => ?_⟩, by omega⟩
  rcases h with rfl | h
  · rw [← hx, List.getElem?_eq_getElem hk]
    exact List.getElem_mem hk
  · exact h
end Go.Proofs.YtpaepkcfdnddgaaGreat

namespace Go.Proofs.YtpaepkcfdnddgaaGreat
open Go.RowKit
set_option linter.unusedVariables false

def HasObj (D : WD) (a : Int) : Prop := ∃ k j, IsObj D a k j
/-- The object at a is one from which F goes on, and has the pointer b. -/
def Leads (D : WD) (F : Nat → Nat → Prop) (a b : Int) : Prop := ∃ (k j : Nat) (s : SpanD), IsObj D a k j ∧ D.spans[k]? = some s ∧ F k j ∧ b ∈ ptrW D s j
inductive Led (D : WD) (F : Nat → Nat → Prop) (fr : List Int) : Int → Prop
  | start {a : Int} : a ∈ fr → HasObj D a → Led D F fr a
  | step {a b : Int} : Led D F fr a → Leads D F a b → HasObj D b → Led D F fr b
theorem Led.obj {D : WD} {F : Nat → Nat → Prop} {fr : List Int} {a : Int} (h : Led D F fr a) : HasObj D a := by cases h <;> assumption
theorem Led.congr {D : WD} {F : Nat → Nat → Prop} {fr fr' : List Int} (hf : ∀ a, HasObj D a → (a ∈ fr ↔ a ∈ fr')) {a : Int} (h : Led D F fr a) : Led D F fr' a := by
  induction h with
  | start h1 h2 => exact .start ((hf _ h2).1 h1) h2
  | step h1 h2 h3 ih => exact .step ih h2 h3

/-- S is met, T is open. -/
structure GoSt (D : WD) (F : Nat → Nat → Prop) (fr S T : List Int) : Prop where
  nodup : S.Nodup
  met : ∀ a, a ∈ S → Led D F fr a
  todo : ∀ a, a ∈ T → HasObj D a → Led D F fr a
  first : ∀ a, a ∈ fr → HasObj D a → a ∈ S ∨ a ∈ T
  next : ∀ a b, a ∈ S → Leads D F a b → HasObj D b → b ∈ S ∨ b ∈ T
section
variable {D : WD} {F : Nat → Nat → Prop} {fr S T : List Int}
theorem GoSt.zero (D : WD) (F : Nat → Nat → Prop) (fr : List Int) : GoSt D F fr [] fr :=
  ⟨List.nodup_nil, fun a h => absurd h (by simp), fun a h o => .start h o, fun a h _ => .inr h, fun a b h => absurd h (by simp)⟩
theorem GoSt.skip {x : Int} {T' : List Int} (h : GoSt D F fr S T) (hT : ∀ a, a ∈ T ↔ a = x ∨ a ∈ T') (hx : ¬ HasObj D x ∨ x ∈ S) : GoSt D F fr S T' := by
  have key : ∀ b, HasObj D b → (b ∈ S ∨ b ∈ T) → b ∈ S ∨ b ∈ T' := fun b ho hb => by
    rcases hb with hb | hb
    · exact .inl hb
    · rcases (hT b).1 hb with rfl | hb
      · exact hx.elim (fun hn => absurd ho hn) .inl
      · exact .inr hb
  exact ⟨h.nodup, h.met, fun a ha ho => h.todo a ((hT a).2 (.inr ha)) ho, fun a ha ho => key a ho (h.first a ha ho), fun a b ha hl ho => key b ho (h.next a b ha hl ho)⟩
theorem GoSt.put {x : Int} {k j : Nat} {s : SpanD} {S' T' T'' : List Int} (hF : HeapForm D) (h : GoSt D F fr S T) (hT : ∀ a, a ∈ T ↔ a = x ∨ a ∈ T') (ho : IsObj D x k j) (hs : D.spans[k]? = some s) (hn : S'.Nodup) (hS : ∀ a, a ∈ S' ↔ a = x ∨ a ∈ S)
    (hyes : F k j → ∀ b, HasObj D b → (b ∈ T'' ↔ b ∈ T' ∨ b ∈ ptrW D s j)) (hno : ¬ F k j → T'' = T') : GoSt D F fr S' T'' := by
  have hlx : Led D F fr x := h.todo x ((hT x).2 (.inl rfl)) ⟨k, j, ho⟩
  have old : ∀ b, HasObj D b → b ∈ T' → b ∈ T'' := fun b hb m => by
    by_cases hf : F k j
    · exact (hyes hf b hb).2 (.inl m)
    · rw [hno hf]; exact m
  have key : ∀ b, HasObj D b → (b ∈ S ∨ b ∈ T) → b ∈ S' ∨ b ∈ T'' := fun b hb hc => by
    rcases hc with hc | hc
    · exact .inl ((hS b).2 (.inr hc))
    · rcases (hT b).1 hc with rfl | hc
      · exact .inl ((hS b).2 (.inl rfl))
      · exact .inr (old b hb hc)
  refine ⟨hn, fun a ha => ?_, fun a ha hoa => ?_, fun a ha hoa => key a hoa (h.first a ha hoa), fun a b ha hl hob => ?_⟩
  · rcases (hS a).1 ha with rfl | ha
    · exact hlx
    · exact h.met a ha
  · by_cases hf : F k j
    · rcases (hyes hf a hoa).1 ha with m | m
      · exact h.todo a ((hT a).2 (.inr m)) hoa
      · exact .step hlx ⟨k, j, s, ho, hs, hf, m⟩ hoa
    · rw [hno hf] at ha
      exact h.todo a ((hT a).2 (.inr ha)) hoa
  · rcases (hS a).1 ha with rfl | ha
    · obtain ⟨k', j', s', ho', hs', hf, hm⟩ := hl
      obtain ⟨rfl, rfl⟩ := ho'.unique hF ho
      rw [hs] at hs'
      cases hs'
      exact .inr ((hyes hf b hob).2 (.inr hm))
    · exact key b hob (h.next a b ha hl hob)
theorem GoSt.done (h : GoSt D F fr S []) (a : Int) : a ∈ S ↔ Led D F fr a := by
  refine ⟨h.met a, fun hl => ?_⟩
  induction hl with
  | start h1 h2 => exact (h.first _ h1 h2).elim id fun m => absurd m (by simp)
  | step h1 h2 h3 ih => exact (h.next _ _ ih h2 h3).elim id fun m => absurd m (by simp)
end

theorem nodup_range {n : Nat} : ∀ {L : List Int} {lo : Int}, L.Nodup → (∀ a, a ∈ L → lo ≤ a ∧ a < lo + n) → L.length ≤ n := by
  induction n with
  | zero =>
    intro L lo _ h
    cases L with
    | nil => simp
    | cons a L => have := h a (List.mem_cons_self ..); omega
  | succ n ih =>
    intro L lo hn h
    have h2 := ih (L := L.erase (lo + n)) (lo := lo) (hn.erase _) fun a ha => by
      have hm := (List.Nodup.mem_erase_iff hn).1 ha
      have := h a hm.2
      have := hm.1
      omega
    have := List.length_erase (a := lo + (n : Int)) (l := L)
    split at this <;> omega
theorem obj_range {D : WD} (hF : HeapForm D) {a : Int} (h : HasObj D a) : D.base ≤ a ∧ a < D.base + (384 : Nat) := by
  obtain ⟨k, j, s, hs, hj, _, rfl⟩ := h
  have A := hF.span k s hs
  have l := A.lens
  have i1 := slot_in (c := s.cls) (i := (j : Int)) (t := 0) (by omega) (by omega) (by omega) (by have := sz_pos A.cls; omega)
  have := A.pg0
  have := A.pg1
  have := hF.geo.2.2.2.2.1
  unfold atW
  omega
theorem GoSt.len {D : WD} {F : Nat → Nat → Prop} {fr S T : List Int} (hF : HeapForm D) (h : GoSt D F fr S T) : S.length ≤ 384 :=
  nodup_range h.nodup fun a ha => obj_range hF (h.met a ha).obj
theorem Asc.nodup {L : List Int} (h : Asc L) : L.Nodup := List.Pairwise.imp (fun hab => by omega) h
theorem ptrW_len (D : WD) (s : SpanD) (j : Nat) : (ptrW D s j).length ≤ (s.ptrs[j]?.getD 0).toNat := by unfold ptrW; rw [List.length_take]; omega
theorem obj_ptrs {D : WD} (hF : HeapForm D) {a : Int} {k j : Nat} {s : SpanD} (ho : IsObj D a k j) (hs : D.spans[k]? = some s) : (ptrW D s j).length ≤ 16 := by
  obtain ⟨s', hs', hin, p0, p1⟩ := obj_slot hF ho
  rw [hs] at hs'
  cases hs'
  have := ptrW_len D s j
  have := sz_bd s.cls
  omega
theorem nz_mem {L : List Int} {b : Int} (hb : b ≠ 0) : b ∈ nz L ↔ b ∈ L := by
  unfold nz
  rw [List.mem_filter]
  simp [hb]
theorem nz_mem_iff {L : List Int} {b : Int} : b ∈ nz L ↔ b ∈ L ∧ b ≠ 0 := by
  unfold nz
  rw [List.mem_filter]
  simp
theorem obj_ne {D : WD} (hF : HeapForm D) {a : Int} (h : HasObj D a) : a ≠ 0 := by
  have := obj_range hF h
  have := hF.geo.1
  omega

/-- What Reach answers. -/
def ReachIs (D : WD) (fr L : List Int) : Prop :=
  (HeapForm D ∧ Asc L ∧ ∀ a, a ∈ L ↔ Led D (fun _ _ => True) fr a) ∨ (¬ HeapForm D ∧ L = [])
theorem ReachIs.unique {D : WD} {fr L L' : List Int} (h : ReachIs D fr L) (h' : ReachIs D fr L') : L' = L := by
  rcases h with ⟨hF, a, m⟩ | ⟨hn, rfl⟩ <;> rcases h' with ⟨hF', a', m'⟩ | ⟨hn', rfl⟩
  · exact Asc.ext a' a fun y => (m' y).trans (m y).symm
  · exact absurd hF hn'
  · exact absurd hF' hn
  · rfl
theorem ReachIs.len {D : WD} {fr L : List Int} (h : ReachIs D fr L) : L.length ≤ 1048576 := by
  rcases h with ⟨hF, a, m⟩ | ⟨_, rfl⟩
  · have := nodup_range (n := 384) (lo := D.base) a.nodup fun x hx => obj_range hF ((m x).1 hx).obj
    omega
  · exact Nat.zero_le _
end Go.Proofs.YtpaepkcfdnddgaaGreat

namespace Go.Proofs.YtpaepkcfdnddgaaGreat
open Go.RowKit
set_option linter.unusedVariables false

/-- Slot j of span k is marked. -/
def MarkedP (D : WD) (k j : Nat) : Prop := ∃ s, D.spans[k]? = some s ∧ bitI s.mark j
/-- The object in slot j of span k is about to be swept up. -/
def DoomP (D : WD) (k j : Nat) : Prop := D.phase = 4 ∧ ∃ s, D.spans[k]? = some s ∧ s.swept = false ∧ ¬ bitI s.mark j
/-- 0, or the address of an object that stays. -/
def Live (D : WD) (a : Int) : Prop := a = 0 ∨ ∃ k j, IsObj D a k j ∧ ¬ DoomP D k j
def AllLive (D : WD) (L : List Int) : Prop := ∀ a, a ∈ L → Live D a
/-- Each pointer of each object of the first k spans, and of the first j slots of the next, that stays leads to such a one. -/
def SlotsLive (D : WD) (K J : Nat) : Prop := ∀ a k j s, Ahead K J k j → IsObj D a k j → D.spans[k]? = some s → ¬ DoomP D k j → AllLive D (ptrW D s j)
def Stays (D : WD) : Prop := (∀ r, r ∈ D.muts → AllLive D r) ∧ SlotsLive D D.spans.length 0
/-- There is a marked object at a. -/
def MarkedObj (D : WD) (a : Int) : Prop := ∃ k j, IsObj D a k j ∧ MarkedP D k j
def GreyMarked (D : WD) (L : List Int) : Prop := L.Nodup ∧ ∀ a, a ∈ L → MarkedObj D a
def GreyRight (D : WD) : Prop := (D.grey ≠ [] → D.phase = 1 ∨ D.phase = 2) ∧ GreyMarked D D.grey
def NextRight (D : WD) : Prop := 0 ≤ D.next ∧ D.next ≤ (D.muts.length : Int) ∧ (0 < D.next → D.phase = 1)
def SpanRight (D : WD) (s : SpanD) : Prop := (s.swept = true → D.phase = 4) ∧ (s.mark ≠ 0 → D.phase ≠ 0 ∧ s.swept = false)
def GcRight (D : WD) : Prop := GreyRight D ∧ NextRight D ∧ ∀ s, s ∈ D.spans → SpanRight D s
/-- b is a pointer of an object whose address is in L. -/
def PtrsOf (D : WD) (L : List Int) (b : Int) : Prop := ∃ a k j s, a ∈ L ∧ IsObj D a k j ∧ D.spans[k]? = some s ∧ b ∈ ptrW D s j
/-- What is got at from the pointers of Grey through objects that are not marked. -/
inductive Coming (D : WD) : Int → Prop
  | start {b : Int} : PtrsOf D D.grey b → HasObj D b → Coming D b
  | step {a b : Int} : Coming D a → Leads D (fun k j => ¬ MarkedP D k j) a b → HasObj D b → Coming D b
def Kept (D : WD) (a : Int) : Prop := a = 0 ∨ Coming D a ∨ MarkedObj D a
def AllKept (D : WD) (L : List Int) : Prop := ∀ a, a ∈ L → Kept D a
def SlotsKept (D : WD) (K J : Nat) : Prop := ∀ a k j s, Ahead K J k j → IsObj D a k j → D.spans[k]? = some s → MarkedP D k j → AllKept D (ptrW D s j)
def MutsKept (D : WD) (M : Nat) : Prop := ∀ (m : Nat) (r : List Int), m < M → D.muts[m]? = some r → SeenP D m → AllKept D r
def KeptRight (D : WD) : Prop := D.phase ≠ 0 → D.phase ≠ 4 → MutsKept D D.muts.length ∧ SlotsKept D D.spans.length 0
/-- It may go on. -/
def Right (D : WD) : Prop := HeapForm D ∧ GcRight D ∧ Stays D ∧ KeptRight D

theorem Coming.of_led {D : WD} {fr : List Int} (hf : ∀ a, HasObj D a → (a ∈ fr ↔ PtrsOf D D.grey a)) (a : Int) : Led D (fun k j => ¬ MarkedP D k j) fr a ↔ Coming D a := by
  constructor
  · intro h
    induction h with
    | start h1 h2 => exact .start ((hf _ h2).1 h1) h2
    | step h1 h2 h3 ih => exact .step ih h2 h3
  · intro h
    induction h with
    | start h1 h2 => exact .start ((hf _ h2).2 h1) h2
    | step h1 h2 h3 ih => exact .step ih h2 h3
theorem Coming.obj {D : WD} {a : Int} (h : Coming D a) : HasObj D a := by cases h <;> assumption
theorem Live.zero (D : WD) : Live D 0 := .inl rfl
theorem AllLive.nil (D : WD) : AllLive D [] := fun a h => absurd h (by simp)
theorem AllLive.nz {D : WD} {L : List Int} : AllLive D (nz L) ↔ AllLive D L :=
  ⟨fun h a ha => if e : a = 0 then .inl e else h a ((nz_mem e).2 ha), fun h a ha => h a (nz_mem_iff.1 ha).1⟩
theorem AllKept.nz {D : WD} {L : List Int} : AllKept D (nz L) ↔ AllKept D L :=
  ⟨fun h a ha => if e : a = 0 then .inl e else h a ((nz_mem e).2 ha), fun h a ha => h a (nz_mem_iff.1 ha).1⟩
theorem DoomP.iff {D : WD} {k j : Nat} {s : SpanD} (hs : D.spans[k]? = some s) : DoomP D k j ↔ D.phase = 4 ∧ s.swept = false ∧ ¬ bitI s.mark j :=
  ⟨fun ⟨h, t, ht, h1⟩ => by rw [hs] at ht; cases ht; exact ⟨h, h1⟩, fun ⟨h, h1⟩ => ⟨h, s, hs, h1⟩⟩
theorem MarkedP.iff {D : WD} {k j : Nat} {s : SpanD} (hs : D.spans[k]? = some s) : MarkedP D k j ↔ bitI s.mark j :=
  ⟨fun ⟨t, ht, h1⟩ => by rw [hs] at ht; cases ht; exact h1, fun h => ⟨s, hs, h⟩⟩
theorem Live.at_ {D : WD} (hF : HeapForm D) {a : Int} {k j : Nat} (ho : IsObj D a k j) : Live D a ↔ ¬ DoomP D k j := by
  constructor
  · rintro (rfl | ⟨k', j', ho', hd⟩)
    · exact absurd rfl (obj_ne hF ⟨k, j, ho⟩)
    · obtain ⟨rfl, rfl⟩ := ho'.unique hF ho
      exact hd
  · exact fun h => .inr ⟨k, j, ho, h⟩
theorem Live.none {D : WD} {a : Int} (hn : a ≠ 0) (h : ¬ HasObj D a) : ¬ Live D a := by
  rintro (e | ⟨k, j, ho, _⟩)
  · exact hn e
  · exact h ⟨k, j, ho⟩
theorem MarkedObj.at_ {D : WD} (hF : HeapForm D) {a : Int} {k j : Nat} (ho : IsObj D a k j) : MarkedObj D a ↔ MarkedP D k j :=
  ⟨fun ⟨k', j', ho', h⟩ => by obtain ⟨rfl, rfl⟩ := ho'.unique hF ho; exact h, fun h => ⟨k, j, ho, h⟩⟩
section
variable {D : WD} {K : Nat} {s : SpanD}
theorem slots_step {P : Int → Nat → Nat → SpanD → Prop} {K J : Nat} {s : SpanD} (hs : D.spans[K]? = some s) (h : ∀ a k j t, Ahead K J k j → IsObj D a k j → D.spans[k]? = some t → P a k j t) (h1 : ∀ a, IsObj D a K J → P a K J s) :
    ∀ a k j t, Ahead K (J + 1) k j → IsObj D a k j → D.spans[k]? = some t → P a k j t := by
  intro a k j t ha ho ht
  rcases ha with ha | ⟨rfl, ha⟩
  · exact h a k j t (.inl ha) ho ht
  · by_cases e : j = J
    · subst e
      rw [hs] at ht
      cases ht
      exact h1 a ho
    · exact h a k j t (.inr ⟨rfl, by omega⟩) ho ht
theorem slots_next {P : Int → Nat → Nat → SpanD → Prop} (hs : D.spans[K]? = some s) (h : ∀ a k j t, Ahead K s.lens.length k j → IsObj D a k j → D.spans[k]? = some t → P a k j t) :
    ∀ a k j t, Ahead (K + 1) 0 k j → IsObj D a k j → D.spans[k]? = some t → P a k j t := by
  intro a k j t ha ho ht
  rcases ha with ha | ⟨_, ha⟩
  · by_cases e : k = K
    · subst e
      have ho' := ho
      obtain ⟨t', ht', hj, _⟩ := ho
      rw [hs] at ht'
      cases ht'
      exact h a k j t (.inr ⟨rfl, hj⟩) ho' ht
    · exact h a k j t (.inl (by omega)) ho ht
  · omega
theorem SlotsLive.zero (D : WD) : SlotsLive D 0 0 := fun a k j s h => by unfold Ahead at h; omega
theorem SlotsLive.step {J : Nat} (h : SlotsLive D K J) (hs : D.spans[K]? = some s) (h1 : ∀ a, IsObj D a K J → ¬ DoomP D K J → AllLive D (ptrW D s J)) : SlotsLive D K (J + 1) :=
  slots_step (P := fun a k j t => ¬ DoomP D k j → AllLive D (ptrW D t j)) hs h h1
theorem SlotsLive.next (h : SlotsLive D K s.lens.length) (hs : D.spans[K]? = some s) : SlotsLive D (K + 1) 0 :=
  slots_next (P := fun a k j t => ¬ DoomP D k j → AllLive D (ptrW D t j)) hs h
theorem SlotsKept.zero (D : WD) : SlotsKept D 0 0 := fun a k j s h => by unfold Ahead at h; omega
theorem SlotsKept.step {J : Nat} (h : SlotsKept D K J) (hs : D.spans[K]? = some s) (h1 : ∀ a, IsObj D a K J → MarkedP D K J → AllKept D (ptrW D s J)) : SlotsKept D K (J + 1) :=
  slots_step (P := fun a k j t => MarkedP D k j → AllKept D (ptrW D t j)) hs h h1
theorem SlotsKept.next (h : SlotsKept D K s.lens.length) (hs : D.spans[K]? = some s) : SlotsKept D (K + 1) 0 :=
  slots_next (P := fun a k j t => MarkedP D k j → AllKept D (ptrW D t j)) hs h
end
theorem right_no1 {D : WD} (h : ¬ HeapForm D) : ¬ Right D := fun h' => h h'.1
theorem right_no2 {D : WD} (h : ¬ GcRight D) : ¬ Right D := fun h' => h h'.2.1
theorem right_no3 {D : WD} (h : ¬ Stays D) : ¬ Right D := fun h' => h h'.2.2.1
theorem right_no4 {D : WD} (h : ¬ KeptRight D) : ¬ Right D := fun h' => h h'.2.2.2
end Go.Proofs.YtpaepkcfdnddgaaGreat

namespace Go.Proofs.YtpaepkcfdnddgaaGreat
open Go.RowKit
set_option linter.unusedVariables false

set_option maxRecDepth 100000 in
set_option maxHeartbeats 1000000 in
theorem smarked_any (B : Nat) (v : Value) (D : WD) (k j : Nat) (s : SpanD) (hks : D.spans[k]? = some s) (hj : j ≤ 16) (w : World) (hr : RdW w v D) (hB : BoxW w B v) :
    Calls Tryz.prog 94 #[.pointer (some ⟨B, 0, none⟩), .int .i64 k, .int .i64 j] w fun e w' => IsB (MarkedP D k j) e ∧ Below w.heap.size w w' := by
  obtain ⟨vw, vd, vs, vm, vg, rfl, a1, a2, a3, a4, a5⟩ := hr
  obtain ⟨aS, cS, rfl, hsl, hx⟩ := a3
  obtain ⟨b1, o1, rfl, hrs⟩ := hx k s hks
  obtain ⟨vl, vp, x0, x1, x2, x3, x4, x5, xl, xp⟩ := hrs
  have g4 := hB.cell 4 _ rfl
  have hkl1 : (k : Int) < (D.spans.length : Int) := by have := (List.getElem?_eq_some_iff.1 hks).1; omega
  have y := Lib.hid (show IsB (MarkedP D k j) (.returned (.bool (bits BinOp.and IntKind.i64 (s.mark / 2 ^ j) 1 == 1))) from ⟨_, rfl, by rw [beq_iff_eq, i64_and1, MarkedP.iff hks]; exact Iff.rfl⟩)
  clear a1 a2 a4 a5 hB hx xl xp x0 x1 x3 x4 x5 hks
  go_enter Tryz.func94, Tryz.ntmps94
  go_wp2_with fail
  go_ret
  exact ⟨y.out, Below.refl _ _⟩

/-- The slot's object is about to be swept up. -/
def DoomS (D : WD) (s : SpanD) (j : Nat) : Prop := D.phase = 4 ∧ s.swept = false ∧ 0 < s.lens[j]?.getD 0 ∧ ¬ bitI s.mark j
theorem DoomS.iff {D : WD} {k j : Nat} {s : SpanD} (hs : D.spans[k]? = some s) (hl : 0 < s.lens[j]?.getD 0) : DoomS D s j ↔ DoomP D k j :=
  ⟨fun h => (DoomP.iff hs).2 ⟨h.1, h.2.1, h.2.2.2⟩, fun h => have h := (DoomP.iff hs).1 h; ⟨h.1, h.2.1, hl, h.2.2⟩⟩

set_option maxRecDepth 100000 in
set_option maxHeartbeats 1000000 in
theorem sdoomed_any (B : Nat) (v : Value) (D : WD) (k j : Nat) (s : SpanD) (hks : D.spans[k]? = some s) (hj : j < s.lens.length) (h16 : j ≤ 16) (w : World) (hr : RdW w v D) (hB : BoxW w B v) :
    Calls Tryz.prog 50 #[.pointer (some ⟨B, 0, none⟩), .int .i64 k, .int .i64 j] w fun e w' => IsB (DoomS D s j) e ∧ Below w.heap.size w w' := by
  have hcall := Lib.hid (smarked_any B v D k j s hks h16 w hr hB)
  obtain ⟨vw, vd, vs, vm, vg, rfl, a1, a2, a3, a4, a5⟩ := hr
  obtain ⟨aS, cS, rfl, hsl, hx⟩ := a3
  obtain ⟨b1, o1, rfl, hrs⟩ := hx k s hks
  obtain ⟨vl, vp, x0, x1, x2, x3, x4, x5, xl, xp⟩ := hrs
  obtain ⟨al, cl, rfl, hll, xl⟩ := xl
  obtain ⟨bl, ol, rfl, xj⟩ := xl j hj
  have g4 := hB.cell 4 _ rfl
  have g6 := hB.cell 6 _ rfl
  have hkl1 : (k : Int) < (D.spans.length : Int) := by have := (List.getElem?_eq_some_iff.1 hks).1; omega
  have hj1 : (j : Int) < (s.lens.length : Int) := by omega
  have hM := Lib.hid (MarkedP.iff hks (j := j))
  have hP := Lib.hid (show DoomS D s j ↔ _ from (Iff.rfl : _ ↔ (D.phase = 4 ∧ s.swept = false ∧ 0 < s.lens[j]?.getD 0 ∧ ¬ bitI s.mark j)))
  clear a1 a2 a4 a5 hB hx xl x0 x1 x2 x5 hks xp hsl hll hj
  generalize DoomS D s j = P at *
  generalize bitI s.mark j = mk at *
  generalize s.lens[j]?.getD 0 = l at *
  generalize D.phase = ph at *
  generalize s.swept = sw at *
  by_cases c1 : ph = 4
  case neg =>
    have n := Lib.hid (IsB.no (P := P) fun h => c1 (hP.out.1 h).1)
    have d1 : (ph == 4) = false := beq_eq_false_iff_ne.2 c1
    clear hP c1
    go_enter Tryz.func50, Tryz.ntmps50
    go_wp2_with fail
    go_ret
    exact ⟨n.out, Below.refl _ _⟩
  subst c1
  cases sw
  case true =>
    have n := Lib.hid (IsB.no (P := P) fun h => by have := (hP.out.1 h).2.1; cases this)
    clear hP
    go_enter Tryz.func50, Tryz.ntmps50
    go_wp2_with fail
    go_ret
    exact ⟨n.out, Below.refl _ _⟩
  by_cases c2 : 0 < l
  case neg =>
    have n := Lib.hid (IsB.no (P := P) fun h => c2 (hP.out.1 h).2.2.1)
    clear hP
    go_enter Tryz.func50, Tryz.ntmps50
    go_wp2_with fail
    go_ret
    exact ⟨n.out, Below.refl _ _⟩
  have y := Lib.hid (show P ↔ ¬ MarkedP D k j from by rw [hP.out, hM.out]; exact ⟨fun h => h.2.2.2, fun h => ⟨rfl, rfl, c2, h⟩⟩)
  clear hP hM
  go_enter Tryz.func50, Tryz.ntmps50
  go_wp2_with fail
  refine hcall.out.mono ?_
  rintro e w1 ⟨⟨r, rfl, hr⟩, b1⟩
  have z := Lib.hid (show IsB P (.returned (.bool (!r))) from ⟨_, rfl, by rw [y.out, ← hr]; cases r <;> simp⟩)
  have b1' := Lib.hid b1
  clear hr b1 hcall
  go_wp2_with fail
  go_ret
  exact ⟨z.out, b1'.out⟩

set_option maxRecDepth 100000 in
set_option maxHeartbeats 1000000 in
theorem slive_any (B : Nat) (v : Value) (D : WD) (hF : HeapForm D) (a : Int) (w : World) (hr : RdW w v D) (hB : BoxW w B v) :
    Calls Tryz.prog 145 #[.pointer (some ⟨B, 0, none⟩), .int .i64 a] w fun e w' => IsB (Live D a) e ∧ Below w.heap.size w w' := by
  by_cases c : a = 0
  · have y := Lib.hid (IsB.yes (show Live D a from .inl c))
    subst c
    clear hr hB
    go_enter Tryz.func145, Tryz.ntmps145
    go_wp2_with fail
    go_ret
    exact ⟨y.out, Below.refl _ _⟩
  have d : (a == 0) = false := beq_eq_false_iff_ne.2 c
  have hr' := Lib.hid hr
  have hB' := Lib.hid hB
  have hF' := Lib.hid hF
  have hc := Lib.hid c
  have hcall := Lib.hid (find_at B v D hF a w hr hB)
  clear hr hB hF c
  go_enter Tryz.func145, Tryz.ntmps145
  go_wp2_with fail
  refine hcall.out.mono ?_
  rintro e w1 ⟨⟨r, q, rfl, hq⟩, b1⟩
  rcases hq with ⟨k, j, _, ho, rfl, rfl⟩ | ⟨hn, rfl, rfl⟩
  case inr =>
    have y := Lib.hid (IsB.no (Live.none hc.out fun ⟨k, j, ho⟩ => hn hF'.out k j ho))
    have b1' := Lib.hid b1
    clear hn b1
    go_wp2_with fail
    go_ret
    exact ⟨y.out, b1'.out⟩
  obtain ⟨s, hks, hin, p0, p1⟩ := obj_slot hF'.out ho
  have hl : 0 < s.lens[j]?.getD 0 := by
    obtain ⟨t, ht, _, h, _⟩ := ho
    rw [hks] at ht
    cases ht
    exact h
  have hy := Lib.hid ((not_congr (DoomS.iff hks hl)).trans (Live.at_ hF'.out ho).symm)
  have h2 := Lib.hid (sdoomed_any B v D k j s hks hin.j (by have := hin.bd; omega) w1 (hr'.out.below b1) (hB'.out.below b1))
  have b1' := Lib.hid b1
  clear ho hks hin p0 p1 hl b1 hcall
  go_wp2_with fail
  refine h2.out.mono ?_
  rintro e w2 ⟨⟨r, rfl, hr⟩, b2⟩
  have z := Lib.hid (show IsB (Live D a) (.returned (.bool (!r))) from ⟨_, rfl, by rw [← hy.out, ← hr]; cases r <;> simp⟩)
  have b2' := Lib.hid (below_trans b1'.out b2)
  clear hr b2 h2
  go_wp2_with fail
  go_ret
  exact ⟨z.out, b2'.out⟩

set_option maxRecDepth 100000 in
set_option maxHeartbeats 1000000 in
theorem sallLive_any (B : Nat) (v : Value) (D : WD) (hF : HeapForm D) (vl : Value) (L : List Int) (w : World) (hr : RdW w v D) (hB : BoxW w B v) (hl : Rd w vl L) :
    Calls Tryz.prog 112 #[.pointer (some ⟨B, 0, none⟩), vl] w fun e w' => IsB (AllLive D L) e ∧ Below w.heap.size w w' := by
  have hr' := Lib.hid hr
  have hB' := Lib.hid hB
  have hF' := Lib.hid hF
  obtain ⟨a1, c1, rfl, hL, r1⟩ := hl
  unfold maxLen at hL
  have r1 := Lib.hid r1
  clear hr hB hF
  go_enter Tryz.func112, Tryz.ntmps112
  go_wp2_with fail
  go_loopw [5] (fun i wr => ∃ k : Nat, k ≤ L.length ∧ i = .int .i64 k ∧ Hid (AllLive D (L.take k)) ∧ Below w.heap.size w wr) (fun i _ => L.length - (RowKit.intOf i).toNat)
  case atStart => exact ⟨0, Nat.zero_le _, rfl, AllLive.nil D, Below.refl _ _⟩
  case round =>
    obtain ⟨k, hk, rfl, hno, hb⟩ := hrel
    by_cases hlt : k < L.length
    · have hlt1 : (k : Int) < (L.length : Int) := by omega
      obtain ⟨b1, o1, rfl, x0⟩ := r1.out k hlt
      have x1 := cell_below hb x0
      have hyes := Lib.hid (show Live D (L[k]?.getD 0) → AllLive D (L.take (k + 1)) from fun h a ha => by
        rw [take_one hlt] at ha
        rcases List.mem_append.1 ha with m | m
        · exact hno.out a m
        · rw [List.mem_singleton.1 m]; exact h)
      have hnot := Lib.hid (show ¬ Live D (L[k]?.getD 0) → ¬ AllLive D L from fun h ha => h (ha _ (by rw [List.getElem?_eq_getElem hlt]; exact List.getElem_mem hlt)))
      clear hno x0
      generalize L[k]?.getD 0 = y at *
      have hcall := Lib.hid (slive_any B v D hF'.out y wr (hr'.out.below hb) (hB'.out.below hb))
      have hb' := Lib.hid hb
      clear hb
      go_wp2_with fail
      refine hcall.out.mono ?_
      rintro e w2 ⟨hq, b2⟩
      replace hq := hq.elim
      have hb2 := Lib.hid (below_trans hb'.out b2)
      clear b2 x1 hcall
      rcases hq with ⟨hq, rfl⟩ | ⟨hq, rfl⟩
      · have hn := Lib.hid (hyes.out hq)
        clear hq
        go_wp2_with fail
        go_roundw
        case rel => exact ⟨k + 1, by omega, by go_num, hn, hb2.out⟩
        case measure => simp [RowKit.intOf]; omega
      · have n := Lib.hid (IsB.no (hnot.out hq))
        clear hq
        go_wp2_with fail
        go_ret
        exact ⟨n.out, hb2.out⟩
    · obtain rfl : k = L.length := by omega
      have n := Lib.hid (IsB.yes (P := AllLive D L) (by simpa using hno.out))
      have hb' := Lib.hid hb
      clear hb
      go_wp2_with fail
      go_ret
      exact ⟨n.out, hb'.out⟩
end Go.Proofs.YtpaepkcfdnddgaaGreat

namespace Go.Proofs.YtpaepkcfdnddgaaGreat
open Go.RowKit
set_option linter.unusedVariables false

set_option maxHeartbeats 1000000 in
theorem shas_any (v : Value) (x : Int) (L : List Int) (w : World) (h1 : Rd w v L) :
    Calls Tryz.prog 111 #[v, .int .i64 x] w fun e w' => IsB (x ∈ L) e ∧ w = w' := by
  obtain ⟨a1, c1, rfl, hL, r1⟩ := h1
  unfold maxLen at hL
  have r1 := Lib.hid r1
  go_enter Tryz.func111, Tryz.ntmps111
  go_wp2_with fail
  go_loop [5] (fun i => ∃ k : Nat, k ≤ L.length ∧ i = .int .i64 k ∧ Hid (x ∉ L.take k)) (fun i => L.length - (RowKit.intOf i).toNat)
  case atStart => exact ⟨0, Nat.zero_le _, rfl, Lib.hid (by simp)⟩
  case round =>
    obtain ⟨k, hk, rfl, hno⟩ := hrel
    by_cases hlt : k < L.length
    · have hlt1 : (k : Int) < (L.length : Int) := by omega
      obtain ⟨b1, o1, rfl, x1⟩ := r1.out k hlt
      have hno' := Lib.hid (show ¬ L[k]?.getD 0 = x → x ∉ L.take (k + 1) from fun h => by
        rw [List.take_succ_eq_append_getElem hlt]
        simp only [hlt, getElem?_pos, Option.getD_some] at h
        simp only [List.mem_append, List.mem_singleton, not_or]
        exact ⟨hno.out, fun e => h e.symm⟩)
      have hyes := Lib.hid (show L[k]?.getD 0 = x → x ∈ L from fun h => by
        rw [← h, List.getElem?_eq_getElem hlt]
        exact List.getElem_mem hlt)
      clear hno
      generalize L[k]?.getD 0 = y at *
      by_cases he : y = x
      · have y := Lib.hid (IsB.yes (hyes.out he))
        subst he
        clear hno' hyes
        go_wp2_with fail
        go_ret
        exact ⟨y.out, rfl⟩
      · have hn := Lib.hid (hno'.out he)
        have hb : (y == x) = false := beq_eq_false_iff_ne.2 he
        clear hno' hyes
        go_wp2_with fail
        go_round
        case rel => exact ⟨k + 1, by omega, by go_num, hn⟩
        case measure => simp [RowKit.intOf]; omega
    · obtain rfl : k = L.length := by omega
      have n := Lib.hid (IsB.no (P := x ∈ L) (by simpa using hno.out))
      go_wp2_with fail
      go_ret
      exact ⟨n.out, rfl⟩
end Go.Proofs.YtpaepkcfdnddgaaGreat

namespace Go.Proofs.YtpaepkcfdnddgaaGreat
open Go.RowKit
set_option linter.unusedVariables false

def OwnQ (w : World) (base : Nat) (v : Value) (L : List Int) : Prop :=
  (v = .slice none 0 0 ∧ L = []) ∨
  ∃ g o cap cur, v = .slice (some ⟨g, o, none⟩) L.length cap ∧ base ≤ g ∧ w.heap[g]? = some (.cells cur 3 (0, 0)) ∧ L.length ≤ cap ∧ cap ≤ maxLen ∧ o + cap ≤ cur.size ∧ (cur.toList.drop o).take L.length = L.map (Value.int .i64)
section
variable {w w' : World} {base : Nat} {v : Value} {L : List Int}
theorem OwnQ.of_row (h : w.ownsRow base 3 1 v L.length (L.map (Value.int .i64))) : OwnQ w base v L := by
  rcases h.2 with ⟨rfl, h0⟩ | ⟨g, cap, cur, rfl, hb, hg, hnc, hcm, hcs, ht⟩
  · exact .inl ⟨rfl, List.length_eq_zero_iff.1 h0⟩
  · exact .inr ⟨g, 0, cap, cur, rfl, hb, hg, hnc, hcm, by omega, by simpa using ht⟩
theorem OwnQ.kept {row : Option Nat} (h : OwnQ w base v L) (hg : w.grownBy w' row) (hne : v.ownBlock = none ∨ v.ownBlock ≠ row) : OwnQ w' base v L := by
  rcases h with h | ⟨g, o, cap, cur, rfl, hb, hgg, rest⟩
  · exact .inl h
  · refine .inr ⟨g, o, cap, cur, rfl, hb, ?_, rest⟩
    rw [hg.block g (Array.getElem?_eq_some_iff.1 hgg).1 (by simpa [Value.ownBlock] using hne)]
    exact hgg
theorem OwnQ.below (h : OwnQ w base v L) (hb : Below w.heap.size w w') : OwnQ w' base v L := h.kept (grown_of_below hb) (by cases v.ownBlock <;> simp)
theorem OwnQ.lt (h : OwnQ w base v L) : ∀ k, v.ownBlock = some k → base ≤ k ∧ k < w.heap.size := by
  intro k hk
  rcases h with ⟨rfl, _⟩ | ⟨g, o, cap, cur, rfl, hb, hgg, _⟩
  · simp [Value.ownBlock] at hk
  · simp [Value.ownBlock] at hk
    subst hk
    exact ⟨hb, (Array.getElem?_eq_some_iff.1 hgg).1⟩
theorem OwnQ.rd (h : OwnQ w base v L) : Rd w v L := by
  rcases h with ⟨rfl, rfl⟩ | ⟨g, o, cap, cur, rfl, hb, hgg, hnc, hcm, hoc, ht⟩
  · exact ⟨none, 0, rfl, by simp, fun j hj => by simp at hj⟩
  · refine ⟨_, _, rfl, by omega, fun j hj => ⟨g, o, rfl, ?_⟩⟩
    rw [show (⟨g, o + j, none⟩ : Addr) = ⟨g, o + j, none⟩ from rfl, cell_of_row w g (o + j) cur _ (0, 0) hgg]
    have := congrArg (fun l => l[j]?) ht
    simp only [List.getElem?_take, hj, if_true, List.getElem?_drop, List.getElem?_map] at this
    rw [show cur[o + j]? = cur.toList[o + j]? by simp, this]
    simp [hj]
/-- What stands behind the head. -/
theorem OwnQ.tail {g o cap : Nat} {x : Int} (h : OwnQ w base (.slice (some ⟨g, o, none⟩) (L.length + 1) cap) (x :: L)) (o' : Nat) (ho : o' = o + 1 ∨ (cap = 1 ∧ o' = o)) :
    OwnQ w base (.slice (some ⟨g, o', none⟩) L.length (cap - 1)) L := by
  rcases h with ⟨h, _⟩ | ⟨g', o1, cap', cur, he, hb, hgg, hnc, hcm, hoc, ht⟩
  · simp at h
  · simp only [Value.slice.injEq, Option.some.injEq, Addr.mk.injEq, and_true] at he
    obtain ⟨⟨rfl, rfl⟩, _, rfl⟩ := he
    simp only [List.length_cons] at hnc ht
    rcases ho with rfl | ⟨rfl, rfl⟩
    · refine .inr ⟨g, o + 1, cap - 1, cur, rfl, hb, hgg, by omega, by omega, by omega, ?_⟩
      have := congrArg List.tail ht
      simp only [List.map_cons, List.tail_cons] at this
      rw [← this, show cur.toList.drop (o + 1) = (cur.toList.drop o).drop 1 by rw [List.drop_drop]]
      generalize cur.toList.drop o = Z
      cases Z <;> simp
    · have hl : L = [] := List.length_eq_zero_iff.1 (by omega)
      subst hl
      exact .inr ⟨g, _, 0, cur, rfl, hb, hgg, by simp, by omega, by omega, by simp⟩

theorem OwnQ.run_app (ty : TypeId) (h : OwnQ w base v L) (A : Option Addr) (m c : Nat) (R : List Int) (hm : R.length = m) (hr : SrcIs w A m 1 (R.map (Value.int .i64))) (h63 : L.length + m ≤ 16777216) (hbase : base ≤ w.heap.size) :
    ∃ v' w', (Builtin.append_ #[22, 22] ty #[v, .slice A m c]).run Tryz.prog w = .ok v' w' ∧ OwnQ w' base v' (L ++ R) ∧ w.grownBy w' v.ownBlock ∧ (v'.ownBlock = v.ownBlock ∨ OwnQ w' w.heap.size v' (L ++ R)) := by
  obtain ⟨i, hi, hz, hsize, hby⟩ := info_parts infoInt
  have ht : Tryz.prog.underlying 22 = some (.slice 3) := Tryz.underlying22
  have hl : (R.map (Value.int .i64)).length = m * i.size := by rw [hsize]; simpa using hm
  rcases Nat.eq_zero_or_pos m with h0 | h0
  · subst h0
    have hR : R = [] := List.length_eq_zero_iff.1 hm
    subst hR
    refine ⟨v, w, ?_, by simpa using h, World.grownBy.refl w _, .inl rfl⟩
    rcases h with ⟨rfl, rfl⟩ | ⟨g, o, cap, cur, rfl, hb, hgg, hnc, hcm, hoc, hcut⟩
    · rcases A with _ | ad <;> simp [Builtin.append_, run_underlying ht, sizeOf, typeInfo, hi, Builtin.lenOf, Builtin.firstCells, loadCells, loadCellsFrom]
    · rcases A with _ | ad <;> simp [Builtin.append_, run_underlying ht, sizeOf, typeInfo, hi, Builtin.lenOf, Builtin.firstCells, hnc, storeCells, loadCells, loadCellsFrom]
  obtain ⟨ad, rfl⟩ : ∃ ad, A = some ad := by
    rcases R with _ | ⟨x, R⟩
    · simp at hm; omega
    · obtain ⟨ad, e, _⟩ := hr.at_ 0 (.int .i64 x) (by simp)
      exact ⟨ad, e⟩
  have hnews : ∀ j u, (R.map (Value.int .i64))[j]? = some u → w.cell? (ad.add j) = some u := fun j u hu => by obtain ⟨a, e, hc⟩ := hr.at_ j u hu; cases e; exact hc
  have grown : ∀ (old : Nat), old < L.length + m → ∀ (row : Option Nat),
      OwnQ (w.drew.alloc (.cells ((L.map (Value.int .i64)).toArray ++ (R.map (Value.int .i64)).toArray ++ Builtin.zeroCells (Value.int .i64 0).cells (grownCap w (L.length + m) old 3 - (L.length + m))) 3)) w.heap.size (.slice (some ⟨w.heap.size, 0, none⟩) (L.length + m) (grownCap w (L.length + m) old 3)) (L ++ R) ∧
      w.grownBy (w.drew.alloc (.cells ((L.map (Value.int .i64)).toArray ++ (R.map (Value.int .i64)).toArray ++ Builtin.zeroCells (Value.int .i64 0).cells (grownCap w (L.length + m) old 3 - (L.length + m))) 3)) row := by
    intro old ho row
    have hge := grownCap_ge w (L.length + m) old 3
    have hcm : grownCap w (L.length + m) old 3 ≤ maxLen := grownCap_le_maxLen w (L.length + m) old 3 (by unfold maxLen; omega)
    refine ⟨.inr ⟨w.heap.size, 0, _, _, by rw [List.length_append, hm], Nat.le_refl _, heap_alloc_new w.drew _, by rw [List.length_append, hm]; exact hge, hcm, ?_, ?_⟩, ⟨rfl, rfl, rfl, by simp, fun k hk _ => Go.heap_alloc_old w.drew _ hk⟩⟩
    · simp only [Array.size_append, List.size_toArray, size_zeroCells, List.length_map, hm]
      rw [show ((Value.int .i64 0).cells).size = 1 from rfl]
      omega
    · simp only [Array.toList_append, List.append_assoc, List.drop_zero]
      rw [← List.append_assoc, ← List.map_append]
      exact List.take_left' (by simp)
  rcases h with ⟨rfl, rfl⟩ | ⟨g, o, cap, cur, rfl, hb, hgg, hnc, hcm, hoc, hcut⟩
  · have hr := run_append_nil (P := Tryz.prog) w 22 ty 3 i (.int .i64 0) ht hi hz ad m c _ hl hnews h0 (by omega) (by rw [hby]; omega)
    have hgr := grown 0 (by simpa using h0) (Value.ownBlock (.slice none 0 0))
    simp only [List.length_nil, Nat.zero_add, List.nil_append, List.map_nil, Array.empty_append] at hgr ⊢
    refine ⟨_, _, hr, ?_, hgr.2, .inr hgr.1⟩
    rcases hgr.1 with ⟨h1, _⟩ | ⟨g, o, cap, cur, h1, h2, h3⟩
    · simp at h1
    · exact .inr ⟨g, o, cap, cur, h1, Nat.le_trans hbase h2, h3⟩
  · by_cases hroom : L.length + m ≤ cap
    · have hf := run_firstCells_some (P := Tryz.prog) w i.size m ad m c _ hl hnews
      have hst := run_storeCells_at Tryz.prog g (o + L.length * i.size) 3 (R.map (Value.int .i64)) 0 cur w hgg (by rw [hl, hsize]; omega) (fun u hu => hr.one u hu)
      simp only [Nat.add_zero] at hst
      refine ⟨.slice (some ⟨g, o, none⟩) (L.length + m) cap, _, by simp [Builtin.append_, run_underlying ht, sizeOf, typeInfo, hi, Builtin.lenOf, hroom, hf, Addr.add_lit, hst]; rfl, .inr ⟨g, o, cap, _, by rw [List.length_append, hm], hb, setRow_heap w g cur _ _ _ hgg, by rw [List.length_append, hm]; exact hroom, hcm, ?_, ?_⟩, ⟨rfl, rfl, rfl, by simp, fun k _ hk => setRow_other w g k _ (fun e => hk (by simp [Value.ownBlock, e]))⟩, .inl rfl⟩
      · simp only [List.size_toArray, List.length_append, List.length_take, List.length_drop, Array.length_toList, hl, hsize]
        omega
      · rw [hsize, Nat.mul_one, List.toList_toArray, List.drop_append_of_le_length (by have hq : cur.toList.length = cur.size := Array.length_toList; rw [List.length_take, hq]; omega)]
        have e : List.drop o (List.take (o + L.length) cur.toList) = L.map (Value.int .i64) := by rw [List.drop_take, Nat.add_sub_cancel_left]; exact hcut
        rw [e, ← List.append_assoc, ← List.map_append]
        exact List.take_left' (by simp)
    · have holds : ∀ j u, (L.map (Value.int .i64))[j]? = some u → w.cell? ((⟨g, o, none⟩ : Addr).add j) = some u := fun j u hu => by
        have hj : j < L.length := by have := (List.getElem?_eq_some_iff.1 hu).1; simpa using this
        rw [Addr.add_lit, cell_of_row w g (o + j) cur _ (0, 0) hgg, show cur[o + j]? = cur.toList[o + j]? by simp]
        have := congrArg (fun l => l[j]?) hcut
        simp only [List.getElem?_take, hj, if_true, List.getElem?_drop] at this
        rw [this]
        exact hu
      have hr := run_append_grow (P := Tryz.prog) w 22 ty 3 i (.int .i64 0) ht hi hz ⟨g, o, none⟩ L.length cap _ (by rw [hsize]; simp) holds ad m c _ hl hnews (by omega) (by omega) (growslice_fits (by omega) (by rw [hby]; omega))
      have hgr := grown cap (by omega) (Value.ownBlock (.slice (some ⟨g, o, none⟩) L.length cap))
      refine ⟨_, _, hr, ?_, hgr.2, .inr hgr.1⟩
      rcases hgr.1 with ⟨h1, _⟩ | ⟨g, o, cap, cur, h1, h2, h3⟩
      · simp at h1
      · exact .inr ⟨g, o, cap, cur, h1, Nat.le_trans hbase h2, h3⟩
end
theorem wpList_appQ {w : World} {base : Nat} {v : Value} {L : List Int} {ops : Array Oper} {rest : List Oper} {o : Oper} {a : Act} {Q : Exit → Act → World → Prop} (hgd : o.guard = none) (s x : Operand)
    (ho : o.op = .call { callee := .builtin .append, args := #[s, x], argTypes := #[22, 22] })
    (hs : a.eval s = v) (hown : OwnQ w base v L) (A : Option Addr) (m c : Nat) (R : List Int) (hx : a.eval x = .slice A m c) (hm : R.length = m) (hr : SrcIs w A m 1 (R.map (Value.int .i64)))
    (h63 : L.length + m ≤ 16777216) (hbase : base ≤ w.heap.size)
    (h : ∀ v' w', OwnQ w' base v' (L ++ R) → w.grownBy w' v.ownBlock → (v'.ownBlock = v.ownBlock ∨ OwnQ w' w.heap.size v' (L ++ R)) → wpList Tryz.prog ops Q rest (a.put o.dst v') w') : wpList Tryz.prog ops Q (o :: rest) a w := by
  refine wpList_plain hgd fun _ hK => ?_
  obtain ⟨v', w', hrun, h2, h3, h4⟩ := OwnQ.run_app o.type hown A m c R hm hr h63 hbase
  unfold Oper.wp execOp
  simp only [ho, resolve, invoke, builtin, Sem.run_bind, Sem.run_pure, Result.andThen_ok, List.map_toArray, List.map_cons, List.map_nil, hs, hx, hrun]
  exact hK _ _ (h v' w' h2 h3 h4)
/-- The two lists lie in different blocks. -/
def ApartV (u v : Value) : Prop := ∀ q, u.ownBlock = some q → v.ownBlock ≠ some q
end Go.Proofs.YtpaepkcfdnddgaaGreat

namespace Go.Proofs.YtpaepkcfdnddgaaGreat
open Go.RowKit
set_option linter.unusedVariables false

set_option maxRecDepth 100000 in
set_option maxHeartbeats 4000000 in
theorem sput_fresh (base : Nat) (u0 : Value) (L : List Int) (x : Int) (ha : Asc L) (hl : L.length ≤ 1048576) (w : World) (hbase : base ≤ w.heap.size) (hown : w.ownsRow base 3 1 u0 L.length (L.map (Value.int .i64))) :
    Calls Tryz.prog 117 #[u0, .int .i64 x] w fun e w' => ∃ u R, PutIs L x R ∧ e = .returned u ∧ w'.ownsRow base 3 1 u R.length (R.map (Value.int .i64)) ∧ (u = u0 ∨ w'.ownsRow w.heap.size 3 1 u R.length (R.map (Value.int .i64))) ∧ Below w.heap.size w w' := by
  obtain ⟨a, c, rfl⟩ := own_slice hown
  have ha' := Lib.hid ha
  have hown0 := Lib.hid hown
  have hr' := Lib.hid (Rd.of_owns hown)
  obtain ⟨i0, hi, hz0, hz1, hz2⟩ := info_parts info3
  have hb' := Lib.hid hbase
  clear ha hown hbase
  go_enter Tryz.func117, Tryz.ntmps117
  go_wp2_with fail
  go_loopw [5, 6, 7] (fun v d i wr => ∃ (k : Nat) (f : Bool) (O : List Int), k ≤ L.length ∧ i = .int .i64 k ∧ d = .bool f ∧ Hid (PutSt L x k f O) ∧ wr.ownsRow w.heap.size 3 1 v O.length (O.map (Value.int .i64)) ∧ Below w.heap.size w wr) (fun v d i _ => L.length - (RowKit.intOf i).toNat)
  case atStart => exact ⟨0, false, [], Nat.zero_le _, rfl, rfl, .inl ⟨rfl, rfl, fun y hy => by simp at hy⟩, World.ownsRow_nil _ _ _ _, Below.refl _ _⟩
  case round =>
    obtain ⟨k, f, O, hk, rfl, rfl, st, hown, hB⟩ := hrel
    have hBs := hB.size
    have hle := st.out.len hk
    by_cases hlt : k < L.length
    · obtain ⟨a', c', he, hll, xl⟩ := hr'.out
      obtain ⟨b, o, rfl, xj0⟩ := xl k hlt
      have hc := Lib.hid (fun (w' : World) (hb : Below w.heap.size w w') => cell_below hb xj0)
      have xj := hc.out _ hB
      clear xj0
      obtain ⟨rfl, rfl⟩ : some (⟨b, o, none⟩ : Addr) = a ∧ c' = c := by simp at he; exact ⟨he.1.symm, he.2.symm⟩
      have hlt1 : (k : Int) < (L.length : Int) := by omega
      clear he xl hll
      by_cases hx : L[k]?.getD 0 = x
      · have y := Lib.hid (PutIs.found ha'.out hlt hx)
        rw [hx] at xj
        have hB' := Lib.hid hB
        clear hB hown hx
        go_wp2_with fail
        go_ret
        exact ⟨_, _, y.out, rfl, own_chg hown0.out (Chg.of_below hB'.out []) (fun q hq => by simp), .inl rfl, hB'.out⟩
      cases f
      · have s1 := Lib.hid (fun h => st.out.low hlt h)
        have s2 := Lib.hid (fun h => st.out.here hlt h)
        generalize L[k]?.getD 0 = y at *
        have hxb : (y == x) = false := beq_eq_false_iff_ne.2 hx
        by_cases hxy : x < y
        · have st2 := Lib.hid (s2.out hxy)
          clear st s1 s2
          go_upto_region 10 with (at_builtin; refine wpList_append_own _ rfl _ _ 22 rfl w.heap.size 3 i0 (.int .i64 0) 1 8 Tryz.underlying22 hi hz0 hz1 hz2 rfl (by decide) _ _ _ rfl (hown.alloc _) ⟨wr.heap.size, 0, none⟩ 1 1 [.int .i64 x] rfl rfl (cell_one _ _ _) (by simp [Value.oneCell']) (by unfold maxLen; omega) (by omega) (by simp; omega) ?_; intro v1 w1 hown1 hgrow1 _)
          have hB1 := row_below (hB.alloc hBs _) (hown.alloc _) hgrow1 (by simp; omega)
          have ho1 : w1.ownsRow w.heap.size 3 1 v1 (O ++ [x]).length ((O ++ [x]).map (Value.int .i64)) := by simpa using hown1
          have hB1s := hB1.size
          have xj1 := hc.out _ hB1
          have hlen2 : (O ++ [x]).length = O.length + 1 := by simp
          clear hown1 hgrow1 hown hB xj hBs
          go_wp2_with (at_builtin; refine wpList_append_own _ rfl _ _ 22 rfl w.heap.size 3 i0 (.int .i64 0) 1 8 Tryz.underlying22 hi hz0 hz1 hz2 rfl (by decide) _ _ _ rfl (ho1.alloc _) ⟨w1.heap.size, 0, none⟩ 1 1 [.int .i64 y] rfl rfl (cell_one _ _ _) (by simp [Value.oneCell']) (by unfold maxLen; omega) (by omega) (by simp; omega) ?_; intro v2 w2 hown2 hgrow2 _)
          have hB2 := row_below (hB1.alloc hB1s _) (ho1.alloc _) hgrow2 (by simp; omega)
          have ho2 : w2.ownsRow w.heap.size 3 1 v2 (O ++ [x] ++ [y]).length ((O ++ [x] ++ [y]).map (Value.int .i64)) := by simpa using hown2
          clear hown2 hgrow2 ho1 hB1 xj1 hB1s
          go_wp2_with fail
          go_roundw
          case rel => exact ⟨k + 1, true, _, by omega, by go_num, rfl, st2, ho2, hB2⟩
          case measure => simp [RowKit.intOf]; omega
        · have st2 := Lib.hid (s1.out (by omega))
          clear st s1 s2
          go_wp2_with (at_builtin; refine wpList_append_own _ rfl _ _ 22 rfl w.heap.size 3 i0 (.int .i64 0) 1 8 Tryz.underlying22 hi hz0 hz1 hz2 rfl (by decide) _ _ _ rfl (hown.alloc _) ⟨wr.heap.size, 0, none⟩ 1 1 [.int .i64 y] rfl rfl (cell_one _ _ _) (by simp [Value.oneCell']) (by unfold maxLen; omega) (by omega) (by simp; omega) ?_; intro v2 w2 hown2 hgrow2 _)
          have hB2 := row_below (hB.alloc hBs _) (hown.alloc _) hgrow2 (by simp; omega)
          have ho2 : w2.ownsRow w.heap.size 3 1 v2 (O ++ [y]).length ((O ++ [y]).map (Value.int .i64)) := by simpa using hown2
          clear hown2 hgrow2 hown hB xj hBs
          go_wp2_with fail
          go_roundw
          case rel => exact ⟨k + 1, false, _, by omega, by go_num, rfl, st2, ho2, hB2⟩
          case measure => simp [RowKit.intOf]; omega
      · have st2 := Lib.hid (st.out.high ha'.out hlt)
        generalize L[k]?.getD 0 = y at *
        have hxb : (y == x) = false := beq_eq_false_iff_ne.2 hx
        clear st
        go_wp2_with (at_builtin; refine wpList_append_own _ rfl _ _ 22 rfl w.heap.size 3 i0 (.int .i64 0) 1 8 Tryz.underlying22 hi hz0 hz1 hz2 rfl (by decide) _ _ _ rfl (hown.alloc _) ⟨wr.heap.size, 0, none⟩ 1 1 [.int .i64 y] rfl rfl (cell_one _ _ _) (by simp [Value.oneCell']) (by unfold maxLen; omega) (by omega) (by simp; omega) ?_; intro v2 w2 hown2 hgrow2 _)
        have hB2 := row_below (hB.alloc hBs _) (hown.alloc _) hgrow2 (by simp; omega)
        have ho2 : w2.ownsRow w.heap.size 3 1 v2 (O ++ [y]).length ((O ++ [y]).map (Value.int .i64)) := by simpa using hown2
        clear hown2 hgrow2 hown hB xj hBs
        go_wp2_with fail
        go_roundw
        case rel => exact ⟨k + 1, true, _, by omega, by go_num, rfl, st2, ho2, hB2⟩
        case measure => simp [RowKit.intOf]; omega
    · obtain rfl : k = L.length := by omega
      cases f
      · have y := Lib.hid (st.out.end0 ha'.out)
        clear st
        go_wp2_with (at_builtin; refine wpList_append_own _ rfl _ _ 22 rfl w.heap.size 3 i0 (.int .i64 0) 1 8 Tryz.underlying22 hi hz0 hz1 hz2 rfl (by decide) _ _ _ rfl (hown.alloc _) ⟨wr.heap.size, 0, none⟩ 1 1 [.int .i64 x] rfl rfl (cell_one _ _ _) (by simp [Value.oneCell']) (by unfold maxLen; omega) (by omega) (by simp; omega) ?_; intro v2 w2 hown2 hgrow2 _)
        have hB2 := Lib.hid (row_below (hB.alloc hBs _) (hown.alloc _) hgrow2 (by simp; omega))
        have ho2 := Lib.hid (show w2.ownsRow w.heap.size 3 1 v2 (O ++ [x]).length ((O ++ [x]).map (Value.int .i64)) by simpa using hown2)
        clear hown2 hgrow2 hown hB hBs
        go_wp2_with fail
        go_ret
        exact ⟨_, _, y.out, rfl, own_base ho2.out hb'.out, .inr ho2.out, hB2.out⟩
      · have y := Lib.hid (st.out.end1 ha'.out)
        have ho2 := Lib.hid hown
        have hB2 := Lib.hid hB
        clear st hown hB
        go_wp2_with fail
        go_ret
        exact ⟨_, _, y.out, rfl, own_base ho2.out hb'.out, .inr ho2.out, hB2.out⟩
theorem sput_any (base : Nat) (u0 : Value) (L : List Int) (x : Int) (ha : Asc L) (hl : L.length ≤ 1048576) (w : World) (hbase : base ≤ w.heap.size) (hown : w.ownsRow base 3 1 u0 L.length (L.map (Value.int .i64))) :
    Calls Tryz.prog 117 #[u0, .int .i64 x] w fun e w' => ∃ u R, PutIs L x R ∧ e = .returned u ∧ w'.ownsRow base 3 1 u R.length (R.map (Value.int .i64)) ∧ Below w.heap.size w w' :=
  (sput_fresh base u0 L x ha hl w hbase hown).mono fun _ _ ⟨u, R, h1, h2, h3, _, h4⟩ => ⟨u, R, h1, h2, h3, h4⟩
end Go.Proofs.YtpaepkcfdnddgaaGreat

namespace Go.Proofs.YtpaepkcfdnddgaaGreat
open Go.RowKit
set_option linter.unusedVariables false

def lenV : Value → Nat
  | .slice _ n _ => n
  | _ => 0
structure TwoL (w wr : World) (u v : Value) (S T : List Int) : Prop where
  own : wr.ownsRow w.heap.size 3 1 u S.length (S.map (Value.int .i64))
  que : OwnQ wr w.heap.size v T
  apart : ApartV u v
  below : Below w.heap.size w wr
section
variable {w wr w2 : World} {u v : Value} {S T : List Int}
theorem TwoL.next (h : TwoL w wr u v S T) (hb : Below wr.heap.size wr w2) : TwoL w w2 u v S T := ⟨own_below h.own hb, h.que.below hb, h.apart, below_trans h.below hb⟩
theorem TwoL.tail (h : TwoL w wr u v S T) {v' : Value} {T' : List Int} (hq : OwnQ wr w.heap.size v' T') (hv : v'.ownBlock = v.ownBlock) : TwoL w wr u v' S T' :=
  ⟨h.own, hq, fun q hq => by rw [hv]; exact h.apart q hq, h.below⟩
theorem TwoL.put (h : TwoL w wr u v S T) {u' : Value} {S' : List Int} (hb : Below wr.heap.size wr w2) (ho : w2.ownsRow w.heap.size 3 1 u' S'.length (S'.map (Value.int .i64))) (hf : u' = u ∨ w2.ownsRow wr.heap.size 3 1 u' S'.length (S'.map (Value.int .i64))) : TwoL w w2 u' v S' T := by
  refine ⟨ho, h.que.below hb, fun q hq hv => ?_, below_trans h.below hb⟩
  rcases hf with rfl | hf
  · exact h.apart q hq hv
  · have h1 := (hf.lt q hq).1
    have h2 := (h.que.lt q hv).2
    omega
theorem TwoL.app (h : TwoL w wr u v S T) {v' : Value} {T' : List Int} (hg : wr.grownBy w2 v.ownBlock) (hq : OwnQ w2 w.heap.size v' T') (hf : v'.ownBlock = v.ownBlock ∨ OwnQ w2 wr.heap.size v' T') : TwoL w w2 u v' S T' := by
  refine ⟨h.own.kept hg ?_, hq, fun q hu hv => ?_, h.below.grown hg h.below.size fun k hk => (h.que.lt k hk).1⟩
  · cases e : u.ownBlock with
    | none => exact .inl rfl
    | some q => exact .inr fun e2 => h.apart q e e2.symm
  · rcases hf with e | hf
    · exact h.apart q hu (e ▸ hv)
    · have h1 := (hf.lt q hv).1
      have h2 := (h.own.lt q hu).2
      omega
end
theorem OwnQ.shape {w : World} {base : Nat} {v : Value} {L : List Int} (h : OwnQ w base v L) : ∃ a c, v = .slice a L.length c := by
  rcases h with ⟨rfl, rfl⟩ | ⟨g, o, cap, cur, rfl, _⟩
  · exact ⟨none, 0, rfl⟩
  · exact ⟨_, _, rfl⟩
/-- A queue that is not empty: its head, and how it is cut. -/
theorem OwnQ.cons {w : World} {base : Nat} {v : Value} {x : Int} {T : List Int} (h : OwnQ w base v (x :: T)) :
    ∃ g o cap, v = .slice (some ⟨g, o, none⟩) (T.length + 1) cap ∧ w.cell? ⟨g, o, none⟩ = some (.int .i64 x) ∧ T.length + 1 ≤ cap ∧ cap ≤ maxLen ∧ ∀ o', (o' = o + 1 ∨ (cap = 1 ∧ o' = o)) → OwnQ w base (.slice (some ⟨g, o', none⟩) T.length (cap - 1)) T := by
  rcases id h with ⟨_, h0⟩ | ⟨g, o, cap, cur, rfl, hb, hg, hnc, hcm, hoc, ht⟩
  · cases h0
  · refine ⟨g, o, cap, rfl, ?_, hnc, hcm, fun o' ho => OwnQ.tail (by simpa using h) o' ho⟩
    obtain ⟨a, c, he, _, hx⟩ := h.rd
    obtain ⟨b', off, hq, hc⟩ := hx 0 (by simp)
    simp only [Value.slice.injEq] at he
    rw [← he.1] at hq
    simp only [Option.some.injEq, Addr.mk.injEq, and_true] at hq
    obtain ⟨rfl, rfl⟩ := hq
    simpa using hc
theorem step_len {w wr : World} {u v : Value} {S T S' T' : List Int} (h : T'.length + 17 * (384 - S'.length) < T.length + 17 * (384 - S.length)) (hu : ∃ a c, u = .slice a S.length c) (hv : ∃ a c, v = .slice a T.length c) {u' v' : Value} (hu' : ∃ a c, u' = .slice a S'.length c) (hv' : ∃ a c, v' = .slice a T'.length c) :
    lenV v' + 17 * (384 - lenV u') < lenV v + 17 * (384 - lenV u) := by
  obtain ⟨_, _, rfl⟩ := hu
  obtain ⟨_, _, rfl⟩ := hv
  obtain ⟨_, _, rfl⟩ := hu'
  obtain ⟨_, _, rfl⟩ := hv'
  exact h
end Go.Proofs.YtpaepkcfdnddgaaGreat

namespace Go.Proofs.YtpaepkcfdnddgaaGreat
open Go.RowKit
set_option linter.unusedVariables false
set_option linter.unusedSimpArgs false

theorem HasObj.no {D : WD} {a : Int} (h : ∀ k j, ¬ IsObj D a k j) : ¬ HasObj D a := fun ⟨k, j, ho⟩ => h k j ho
theorem PutIs.len' {L R : List Int} {x : Int} (hn : L.Nodup) (hx : x ∉ L) (h : PutIs L x R) : R.length = L.length + 1 := by
  have hp : (x :: L).Perm R := (List.perm_ext_iff_of_nodup (List.nodup_cons.2 ⟨hx, hn⟩) h.1.nodup).2 fun a => by rw [h.2.1, List.mem_cons]
  exact hp.length_eq.symm
theorem nz_len16 {D : WD} (hF : HeapForm D) {a : Int} {k j : Nat} {s : SpanD} (ho : IsObj D a k j) (hs : D.spans[k]? = some s) : (nz (ptrW D s j)).length ≤ 16 :=
  Nat.le_trans (List.length_filter_le _ _) (obj_ptrs hF ho hs)
end Go.Proofs.YtpaepkcfdnddgaaGreat
