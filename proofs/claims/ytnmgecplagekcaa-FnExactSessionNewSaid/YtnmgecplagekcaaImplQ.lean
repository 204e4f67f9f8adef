/-
  The contract of the program's WorldNew.
-/
import Derived.Test.YtnmgecplagekcaaImplO
import Derived.Test.YtnmgecplagekcaaImplP
namespace Go.Proofs.Ytnmgecplagekcaa
open Go.RowKit
set_option linter.unusedVariables false

theorem iworldNew_any (b p m : Int) (w : World) :
    Calls Try.prog 10 #[.int .i64 b, .int .i64 p, .int .i64 m] w fun e w' => ∃ S D f, NewIs b p m D f ∧ e = .returned (.tuple #[S.val D, .bool f]) ∧ OwnW w' w.heap.size S D ∧ Below w.heap.size w w' := by
  by_cases g : Geo b p m
  · have h := g
    obtain ⟨-, -, -, h1, h2, h3, h4⟩ := h
    obtain ⟨pn, rfl⟩ := Int.eq_ofNat_of_zero_le (show 0 ≤ p by omega)
    obtain ⟨mn, rfl⟩ := Int.eq_ofNat_of_zero_le (show 0 ≤ m by omega)
    exact (iworldNew_yes b pn mn g w).mono fun e w' ⟨S, he, hS, hb⟩ => ⟨S, newD b pn mn, true, .inl ⟨g, by simp, rfl⟩, he, hS, hb⟩
  · exact (iworldNew_no b p m g w).mono fun e w' ⟨he, hb⟩ => ⟨zeroS, zeroD, false, .inr ⟨g, rfl, rfl⟩, he, own_zero _ _, hb⟩
end Go.Proofs.Ytnmgecplagekcaa
