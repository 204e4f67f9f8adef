import Derived.Test.YtpaepkcfdnddgaaGreatCgL1
import Derived.Test.YtpaepkcfdnddgaaGreatCgSW
import Derived.Test.YtpaepkcfdnddgaaGreatCgP

namespace Go.Proofs.YtpaepkcfdnddgaaGreat
open Go.RowKit
set_option linter.unusedVariables false

theorem row_cap {w : World} {base size n : Nat} {e : TypeId} {v : Value} {xs : List Value} (h : w.ownsRow base e size v n xs) {a : Option Addr} {m c : Nat} (hv : v = .slice a m c) : m ≤ c := by
  rcases h.2 with ⟨e3, _⟩ | ⟨g, cap, cur, e3, _, _, hnc, _⟩
  · rw [e3] at hv
    cases hv
    exact Nat.le_refl _
  · rw [e3] at hv
    cases hv
    exact hnc
theorem OwnW.capWords {w : World} {base : Nat} {S : Shape} {D : WD} (h : OwnW w base S D) : CapW (S.val D) := by
  intro c0 c1 a n c c3 c4 c5 c6 c7 c8 e
  exact row_cap h.words (by simp [Shape.val] at e; exact e.2.2.1)
theorem OwnW.capGrey {w : World} {base : Nat} {S : Shape} {D : WD} (h : OwnW w base S D) : CapG (S.val D) := by
  intro c0 c1 c2 c3 c4 c5 c6 c7 a n c e
  exact row_cap h.grey (by simp [Shape.val] at e; exact e.2.2.2.2.2.2.2.2)
theorem toWorld_rdc (v : Value) (D : WD) (hs : Small D) (w : World) (hr : RdW w v D) :
    Calls Tryz.prog 9 #[v] w fun e w' => ∃ aw ad aS am ag cw cd cS cm cg, e = .returned (worldV D aw ad aS am ag cw cd cS cm cg) ∧ RdW w' (worldV D aw ad aS am ag cw cd cS cm cg) D ∧ CapW (worldV D aw ad aS am ag cw cd cS cm cg) ∧ CapG (worldV D aw ad aS am ag cw cd cS cm cg) ∧ Below w.heap.size w w' :=
  (toWorld_any v D hs w hr).mono fun e w' ⟨S, he, ho, hb⟩ => by
    obtain ⟨aw, ad, aS, am, ag, cw, cd, cS, cm, cg, hv⟩ := ho.rd.written
    refine ⟨aw, ad, aS, am, ag, cw, cd, cS, cm, cg, by rw [he, hv], ?_, ?_, ?_, hb⟩
    · rw [← hv]; exact ho.rd
    · rw [← hv]; exact ho.capWords
    · rw [← hv]; exact ho.capGrey
end Go.Proofs.YtpaepkcfdnddgaaGreat
