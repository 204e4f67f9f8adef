/-
  The walk of FnExactWorldNew, the program's own contract being a premise.
-/
import Derived.Test.YtnmgecplagekcaaSNew2
import Derived.Test.YtnmgecplagekcaaMarkW
import Derived.Test.YtnmgecplagekcaaWEq
namespace Go.Proofs.Ytnmgecplagekcaa
open Go.RowKit
set_option linter.unusedVariables false

theorem NewIs.unique {b p m : Int} {D D' : WD} {f f' : Bool} (h : NewIs b p m D f) (h' : NewIs b p m D' f') : D' = D ∧ f' = f := by
  rcases h with ⟨g, rfl, rfl⟩ | ⟨g, rfl, rfl⟩ <;> rcases h' with ⟨g', rfl, rfl⟩ | ⟨g', rfl, rfl⟩
  · exact ⟨rfl, rfl⟩
  · exact absurd g g'
  · exact absurd g' g
  · exact ⟨rfl, rfl⟩
theorem sum_rep (n k : Nat) : (List.replicate n k).sum = n * k := by
  induction n with
  | zero => simp
  | succ n ih => rw [List.replicate_succ, List.sum_cons, ih, Nat.succ_mul]; omega
theorem NewIs.markable {b p m : Int} {D : WD} {f : Bool} (h : NewIs b p m D f) : Markable D := by
  rcases h with ⟨⟨-, -, -, h1, h2, h3, h4⟩, rfl, rfl⟩ | ⟨g, rfl, rfl⟩
  · refine ⟨?_⟩
    have h5 : p.toNat ≤ 12 := by omega
    have h6 : m.toNat ≤ 3 := by omega
    simp only [WD.bulk, newD, bulkS, bulkM, List.length_replicate, List.map_replicate, sum_rep, List.length_nil, List.map_nil, List.sum_nil]
    omega
  · exact ⟨by decide⟩
theorem OwnW.keepLow {w w' : World} {base : Nat} {S : Shape} {D : WD} {bs : List Nat} (h : OwnW w base S D) (hc : Chg bs w w') (hi : Nat) (hl : ∀ q, q ∈ blks S.all → q < hi) (hn : ∀ q, q ∈ bs → hi ≤ q) : OwnW w' base S D := by
  have mem : ∀ {x : Value} {q : Nat}, x ∈ S.all → x.ownBlock = some q → q ∉ bs := fun hx hq hm => by
    have h1 := hl _ (List.mem_filterMap.2 ⟨_, hx, hq⟩)
    have h2 := hn _ hm
    omega
  have f : ∀ {x : Value} {n : Nat} {xs : List Value} {t : TypeId} {sz : Nat}, x ∈ S.all → w.ownsRow base t sz x n xs → w'.ownsRow base t sz x n xs := fun hm hx => own_chg hx hc fun q hq => mem hm hq
  exact ⟨f (by simp [Shape.all]) h.words, f (by simp [Shape.all]) h.dirty, f (by simp [Shape.all]) h.spans, h.svl, fun i s p h1 h2 => by
      have hp := List.mem_of_getElem? h2
      have e1 : p.1 ∈ svInts S.sv := List.mem_flatMap.2 ⟨p, hp, by simp⟩
      have e2 : p.2 ∈ svInts S.sv := List.mem_flatMap.2 ⟨p, hp, by simp⟩
      exact ⟨f (by simp [Shape.all, e1]) (h.inner i s p h1 h2).1, f (by simp [Shape.all, e2]) (h.inner i s p h1 h2).2⟩,
    f (by simp [Shape.all]) h.muts, h.mvl, fun i r v h1 h2 => f (by simp [Shape.all, List.mem_of_getElem? h2]) (h.innerM i r v h1 h2), f (by simp [Shape.all]) h.grey, h.nodup⟩

end Go.Proofs.Ytnmgecplagekcaa
