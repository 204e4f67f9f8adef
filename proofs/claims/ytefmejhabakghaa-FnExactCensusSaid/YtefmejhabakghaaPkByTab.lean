import Derived.Test.YtefmejhabakghaaPkCensD
import Derived.Test.YtefmejhabakghaaPkM

/-
  Rows that are made and stored into: general lemmas, and a table of 4 times 4 numbers.
-/
namespace Go.Proofs.Ytefmejhabakghaa
open Go.RowKit
set_option linter.unusedVariables false

theorem int_made {w : World} {g n base : Nat} {z : Value} {e : TypeId} (hg : w.heap[g]? = some (.cells (madeCells #[z] n) e (0, 0))) (hb : base ≤ g) (hn : n ≤ maxLen) : w.ownsRow base e 1 (.slice (some ⟨g, 0, none⟩) n n) n (List.replicate n z) :=
  ⟨by simp, .inr ⟨g, n, _, rfl, hb, hg, Nat.le_refl _, hn, by simp [size_madeCells], by rw [toList_madeCells_one]; simp⟩⟩
theorem row_stays {B : Nat} {a w w' : World} {size : Nat} {e : TypeId} {v : Value} {n : Nat} {xs : List Value} (h : Below B a w) (hr : w.ownsRow B e size v n xs) (hg : w.grownBy w' v.ownBlock) (hB : B ≤ w.heap.size) : Below B a w' :=
  h.grown hg hB fun k hk => (hr.lt k hk).1
theorem tab_store {w : World} {base g cap : Nat} {f : Nat → Nat → Int} (hown : w.ownsRow base 3 1 (.slice (some ⟨g, 0, none⟩) 16 cap) 16 ((tab f).map (Value.int .i64))) (c j q : Nat) (hc : c < 4) (hj : j < 4) (hq : q = 4 * c + j) :
    w.cell? ⟨g, q, none⟩ = some (.int .i64 (f c j)) ∧ w.frozen? ⟨g, q, none⟩ = false ∧
      ∀ x, (w.setCell ⟨g, q, none⟩ (.int .i64 x)).ownsRow base 3 1 (.slice (some ⟨g, 0, none⟩) 16 cap) 16 ((tab fun c' j' => if c' = c ∧ j' = j then x else f c' j').map (Value.int .i64)) ∧ w.grownBy (w.setCell ⟨g, q, none⟩ (.int .i64 x)) (some g) := by
  subst hq
  refine ⟨?_, hown.frozenAt _, fun x => ?_⟩
  · rw [hown.cellAt _ (by omega), List.getElem?_map, tab_at f c j hc hj]; rfl
  · have h := hown.stored (4 * c + j) (.int .i64 x)
    rw [← List.map_set, tab_set f c j x hc hj] at h
    exact h
end Go.Proofs.Ytefmejhabakghaa
