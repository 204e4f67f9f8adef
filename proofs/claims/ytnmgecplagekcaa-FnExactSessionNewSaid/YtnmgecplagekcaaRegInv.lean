/-
  A region that draws its order, met by an invariant over what is done so far: each operation once, whatever the order.
-/
import Derived.Test.YtnmgecplagekcaaWData
import Derived.Orders
namespace Go.Proofs.Ytnmgecplagekcaa
open Go.RowKit
set_option linter.unusedVariables false

theorem ready_lt {md : Region.Mode} {ops : Array Oper} {l : Array Bool} {i : Nat} (h : i ∈ Region.ready md ops l) : i < ops.size := by
  unfold Region.ready at h
  exact List.mem_range.1 (List.mem_filter.1 h).1
theorem ready_not {md : Region.Mode} {ops : Array Oper} {l : Array Bool} {i : Nat} (h : i ∈ Region.ready md ops l) : l.getD i true = false := by
  unfold Region.ready at h
  have := (List.mem_filter.1 h).2
  simp only [Bool.and_eq_true, Bool.not_eq_true'] at this
  exact this.1
/-- What an operation waits for is done. -/
theorem ready_dep {md : Region.Mode} {ops : Array Oper} {l : Array Bool} {i : Nat} (h : i ∈ Region.ready md ops l) {o : Oper} (ho : ops[i]? = some o) : ∀ e ∈ o.after, Region.binds md e = true → l.getD e.on false = true := by
  unfold Region.ready at h
  have := (List.mem_filter.1 h).2
  simp only [Bool.and_eq_true, ho, Option.map_some, Option.getD_some] at this
  intro e he hb
  have h2 := (Array.all_eq_true_iff_forall_mem.1 this.2) e he
  simpa [hb] using h2
def undone (l : Array Bool) : Nat := l.toList.countP (fun b => !b)
theorem undone_set {l : Array Bool} {i : Nat} (hi : i < l.size) (h : l.getD i true = false) : undone (l.setIfInBounds i true) + 1 = undone l := by
  have hb : l.toList[i]? = some false := by
    have e : l[i] = false := by simpa [Array.getD, hi] using h
    simp [hi, e]
  unfold undone
  rw [Array.toList_setIfInBounds]
  generalize l.toList = L at hb
  clear h hi
  induction L generalizing i with
  | nil => simp at hb
  | cons x L ih =>
    cases i with
    | zero =>
      simp at hb
      subst hb
      simp
    | succ i =>
      simp at hb
      have := ih hb
      cases x <;> simp at this ⊢ <;> omega
theorem wp_region_inv {P : Program} {id : Nat} {ops : Array Oper} {Q : Exit → Act → World → Prop} {a : Act} {w : World} (hm : P.follows .mixedOrders = true) (Inv : Array Bool → Act → World → Prop)
    (h0 : Inv (Array.replicate ops.size false) a { w with drawn := w.drawn + 1 })
    (hs : ∀ (l : Array Bool) (a : Act) (w : World) (i : Nat), l.size = ops.size → Inv l a w → i ∈ Region.ready .any ops l → wpOp P ops Q i (Inv (l.setIfInBounds i true)) a w)
    (he : ∀ (l : Array Bool) (a : Act) (w : World), l.size = ops.size → Inv l a w → Region.ready .any ops l = [] → Q .normal a w) : (Code.region id ops true).wp P Q a w := by
  refine wp_region_any hm ?_
  have key : ∀ (fuel : Nat) (l : Array Bool) (a : Act) (w : World), l.size = ops.size → undone l ≤ fuel → Inv l a w → wpAny P .any ops Q fuel l a w := by
    intro fuel
    induction fuel with
    | zero =>
      intro l a w hl hu hi
      have hr : Region.ready .any ops l = [] := by
        cases hr : Region.ready .any ops l with
        | nil => rfl
        | cons i rest =>
          have hi' : i ∈ Region.ready .any ops l := by rw [hr]; simp
          have := undone_set (by rw [hl]; exact ready_lt hi') (ready_not hi')
          omega
      exact ⟨hr, he l a w hl hi hr⟩
    | succ fuel ih =>
      intro l a w hl hu hi
      refine ⟨fun hr => he l a w hl hi hr, fun i hr => ?_⟩
      refine wpOp_mono (fun a' w' h' => ih _ a' w' (by simpa using hl) ?_ h') (hs l a w i hl hi hr)
      have := undone_set (by rw [hl]; exact ready_lt hr) (ready_not hr)
      omega
  exact key ops.size _ a _ (by simp) (by unfold undone; exact Nat.le_trans List.countP_le_length (by simp)) h0
end Go.Proofs.Ytnmgecplagekcaa
