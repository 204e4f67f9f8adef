import Derived.Test.YtefmejhabakghaaPkQ
import Derived.Test.YtefmejhabakghaaPkN
import Derived.Deep.DeepCutAuto
import Derived.Deep.CutRange
import Derived.Outline

/-
  The contract of the model's l3gcOk.
-/
namespace Go.Proofs.Ytefmejhabakghaa
open Go.RowKit
set_option linter.unusedVariables false

/-- Grey's slice has room for its addresses. -/
def CapG (v : Value) : Prop := ∀ c0 c1 c2 c3 c4 c5 c6 c7 a n c, v = .agg #[c0, c1, c2, c3, c4, c5, c6, c7, .slice a n c] → n ≤ c
theorem GreyMarked.nil (D : WD) : GreyMarked D [] := ⟨List.nodup_nil, fun a h => by simp at h⟩
theorem GreyMarked.snoc {D : WD} {L : List Int} {x : Int} (h : GreyMarked D L) (hm : MarkedObj D x) (hx : x ∉ L) : GreyMarked D (L ++ [x]) :=
  ⟨List.nodup_append.2 ⟨h.1, by simp, fun a ha b hb => by obtain rfl := List.mem_singleton.1 hb; exact fun e => hx (e ▸ ha)⟩, fun a ha => (List.mem_append.1 ha).elim (h.2 a) fun hb => by rw [List.mem_singleton.1 hb]; exact hm⟩
theorem GreyMarked.no1 {D : WD} {k : Nat} (hk : k < D.grey.length) (hm : ¬ MarkedObj D (D.grey[k]?.getD 0)) : ¬ GreyMarked D D.grey := fun h => hm (h.2 _ (by rw [List.getElem?_eq_getElem hk]; exact List.getElem_mem hk))
theorem GreyMarked.no2 {D : WD} {k : Nat} (hk : k < D.grey.length) (hm : D.grey[k]?.getD 0 ∈ D.grey.take k) : ¬ GreyMarked D D.grey := fun h => by
  obtain ⟨i, hi, e⟩ := List.mem_iff_getElem.1 hm
  rw [List.length_take] at hi
  rw [List.getElem_take, List.getElem?_eq_getElem hk] at e
  exact (List.pairwise_iff_getElem.1 h.1 i k (by omega) hk (by omega)) e
theorem GreyMarked.obj {D : WD} (h : GreyMarked D D.grey) : ∀ a, a ∈ D.grey → HasObj D a := fun a ha => by
  obtain ⟨k, j, ho, _⟩ := h.2 a ha
  exact ⟨k, j, ho⟩

end Go.Proofs.Ytefmejhabakghaa
