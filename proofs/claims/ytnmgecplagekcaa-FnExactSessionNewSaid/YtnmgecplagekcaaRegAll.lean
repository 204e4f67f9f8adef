/-
  More about a region that draws its order, met by an invariant: what an operation waits for is done; where none may come up, all are done.
-/
import Derived.Test.YtnmgecplagekcaaRegInv
namespace Go.Proofs.Ytnmgecplagekcaa
open Go.RowKit
set_option linter.unusedVariables false

/-- Operation i waits for operation j. -/
def depB (ops : Array Oper) (i j : Nat) : Bool := match ops[i]? with
  | none => false
  | some o => o.after.any fun e => Region.binds .any e && e.on == j
theorem dep_done {ops : Array Oper} {l : Array Bool} {i : Nat} (hr : i ∈ Region.ready .any ops l) (j : Nat) (hj : depB ops i j = true) : l.getD j false = true := by
  unfold depB at hj
  cases ho : ops[i]? with
  | none => simp [ho] at hj
  | some o =>
    simp only [ho] at hj
    obtain ⟨e, he, h2⟩ := Array.any_eq_true'.1 hj
    simp only [Bool.and_eq_true, beq_iff_eq] at h2
    have := ready_dep hr ho e he h2.1
    rw [h2.2] at this
    exact this
/-- Each waits for earlier ones alone. -/
def lowB (ops : Array Oper) : Bool := (List.range ops.size).all fun i => match ops[i]? with
  | none => true
  | some o => o.after.all fun e => !Region.binds .any e || decide (e.on < i)
theorem all_done {ops : Array Oper} {l : Array Bool} (hl : l.size = ops.size) (hlow : lowB ops = true) (h : Region.ready .any ops l = []) : ∀ i, i < ops.size → l.getD i false = true := by
  intro i
  induction i using Nat.strongRecOn with
  | _ i ih =>
    intro hi
    cases e : l.getD i false
    case true => rfl
    case false =>
      exfalso
      have hi' : i < l.size := by omega
      have e1 : l.getD i true = false := by
        simp only [Array.getD, hi', dif_pos] at e ⊢
        exact e
      have ho : ops[i]? = some ops[i] := Array.getElem?_eq_getElem hi
      have h1 := (List.all_eq_true.1 hlow) i (List.mem_range.2 hi)
      simp only [ho] at h1
      have hm : i ∈ Region.ready .any ops l := by
        unfold Region.ready
        refine List.mem_filter.2 ⟨List.mem_range.2 hi, ?_⟩
        simp only [e1, Bool.not_false, Bool.true_and, ho, Option.map_some, Option.getD_some]
        refine Array.all_eq_true_iff_forall_mem.2 fun x hx => ?_
        have h2 := (Array.all_eq_true_iff_forall_mem.1 h1) x hx
        cases hb : Region.binds .any x
        · rfl
        · simp only [hb, Bool.not_true, Bool.false_or, decide_eq_true_eq] at h2 ⊢
          exact ih x.on h2 (by omega)
      rw [h] at hm
      cases hm
/-- What is listed behind operation i: itself, and what was. -/
theorem listed_self {l : Array Bool} {i : Nat} : ∀ j, (l.setIfInBounds i true).getD j false = true → j = i ∨ l.getD j false = true := fun j h => by
  by_cases e : i = j
  · exact .inl e.symm
  · right
    simp only [Array.getD_eq_getD_getElem?, Array.getElem?_setIfInBounds] at h ⊢
    rw [if_neg e] at h
    exact h
theorem listed_at {l : Array Bool} {i : Nat} (h : i < l.size) : (l.setIfInBounds i true).getD i false = true := by
  simp [Array.getD_eq_getD_getElem?, h]
theorem not_listed {l : Array Bool} {i : Nat} (h : l.getD i true = false) : l.getD i false = false := by
  rcases Nat.lt_or_ge i l.size with h' | h'
  · simpa [Array.getD, h'] using h
  · simp [Array.getD, Nat.not_lt.2 h']
/-- The same, the invariant being said of the frame at the region's head. -/
theorem wp_region_invA {P : Program} {id : Nat} {ops : Array Oper} {Q : Exit → Act → World → Prop} {a : Act} {w : World} (Inv : Act → Array Bool → Act → World → Prop) (hm : P.follows .mixedOrders = true)
    (h0 : Inv a (Array.replicate ops.size false) a w.drew)
    (hs : ∀ (l : Array Bool) (a' : Act) (w' : World) (i : Nat), l.size = ops.size → Inv a l a' w' → i ∈ Region.ready .any ops l → wpOp P ops Q i (Inv a (l.setIfInBounds i true)) a' w')
    (he : ∀ (l : Array Bool) (a' : Act) (w' : World), l.size = ops.size → Inv a l a' w' → Region.ready .any ops l = [] → Q .normal a' w') : (Code.region id ops true).wp P Q a w :=
  wp_region_inv hm (Inv a) h0 hs he
end Go.Proofs.Ytnmgecplagekcaa
