import Derived.Test.YtpcefecedmdmkaaPkSTake
import Derived.Test.YtpcefecedmdmkaaPkSOwn4

/-
  The contracts of the model's Take and Give.
-/
namespace Go.Proofs.Ytpcefecedmdmkaa
open Go.RowKit
set_option linter.unusedVariables false

theorem Shape.lits {w : World} {base : Nat} {S : Shape} {D : WD} (h : OwnW w base S D) : ∃ aw ad aS am ag cw cd cS cm cg sv mv, S = ⟨.slice aw D.words.length cw, .slice ad D.dirty.length cd, .slice aS D.spans.length cS, .slice am D.muts.length cm, .slice ag D.grey.length cg, sv, mv⟩ := by
  obtain ⟨vw, vd, vs, vm, vg, sv, mv⟩ := S
  obtain ⟨a1, c1, h1⟩ := own_slice h.words
  obtain ⟨a2, c2, h2⟩ := own_slice h.dirty
  obtain ⟨a3, c3, h3⟩ := own_slice h.spans
  obtain ⟨a4, c4, h4⟩ := own_slice h.muts
  obtain ⟨a5, c5, h5⟩ := own_slice h.grey
  simp only at h1 h2 h3 h4 h5
  subst h1 h2 h3 h4 h5
  exact ⟨_, _, _, _, _, _, _, _, _, _, _, _, rfl⟩
/-- A World of its own comes into a variable of its own. -/
theorem VarW.mk_box {w : World} {base : Nat} {S : Shape} {D : WD} (h : OwnW w base S D) (hb : base ≤ w.heap.size) : VarW (w.alloc (.cells (S.cells D) 32)) base w.heap.size S D :=
  ⟨box_new w _, h.below (below_box w _), hb, fun hm => by have := (h.lt _ hm).2; omega⟩
/-- The variable's World is handed back through block R. -/
theorem VarW.handed {w wr wF : World} {base B R : Nat} {S : Shape} {D : WD} (h : VarW wr base B S D) (hb : Below w.heap.size w wr) (h1 : w.heap.size ≤ R) (h2 : R < base) (hc : Chg [R] wr wF) : OwnW wF w.heap.size S D ∧ Below w.heap.size w wF :=
  ⟨(h.own.chg0 hc (fun q hq => by rw [List.mem_singleton.1 hq]; omega)).base_le (by omega), Chg.below hb hc hb.size (fun q hq => by rw [List.mem_singleton.1 hq]; omega)⟩

end Go.Proofs.Ytpcefecedmdmkaa
