/-
  The contract of the model's l2span: is a span as it should be?
-/
import Derived.Test.YtnmgecplagekcaaForm
namespace Go.Proofs.Ytnmgecplagekcaa
open Go.RowKit
set_option linter.unusedVariables false

def bitI (mark : Int) (i : Nat) : Prop := mark / 2 ^ i % 2 = 1
structure SlotOk (s : SpanD) (i : Nat) : Prop where
  l0 : 0 ≤ s.lens[i]?.getD 0
  l1 : s.lens[i]?.getD 0 ≤ sz s.cls
  p0 : 0 ≤ s.ptrs[i]?.getD 0
  p1 : s.ptrs[i]?.getD 0 ≤ s.lens[i]?.getD 0
  bit : s.lens[i]?.getD 0 = 0 → ¬ bitI s.mark i
def PrevLt (D : WD) (k : Nat) (s : SpanD) : Prop := ∀ s', k ≠ 0 → D.spans[k - 1]? = some s' → s'.page < s.page
structure SpanAt (D : WD) (k : Nat) (s : SpanD) : Prop where
  pg0 : 0 ≤ s.page
  pg1 : s.page < D.pages
  prev : PrevLt D k s
  cls : sl' s.cls ≠ 0
  lens : (s.lens.length : Int) = sl' s.cls
  ptrs : (s.ptrs.length : Int) = sl' s.cls
  slot : ∀ i, i < s.lens.length → SlotOk s i
  mk0 : 0 ≤ s.mark
  mk1 : s.mark < 2 ^ s.lens.length

end Go.Proofs.Ytnmgecplagekcaa
