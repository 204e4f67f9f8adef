/-
  Worlds that extend a given one: all that was there is as it was. A region that draws its order, whose operations read what was there, and whose callees make memory at most, is walked once.
-/
import Derived.Test.YtjldjeokcpjgkaaDoorWData
import Derived.Deep.Quiet
import Derived.BigQuiet
namespace Go.Proofs.YtjldjeokcpjgkaaDoor
open Go.RowKit
set_option linter.unusedVariables false

/-- A world in which all of W is as it was. -/
structure Ext (W : World) where
  val : World
  below : Below W.heap.size W val
def Ext.self (W : World) : Ext W := ⟨W, Below.refl _ _⟩
instance Ext.inh (W : World) : Nonempty (Ext W) := ⟨Ext.self W⟩
theorem Ext.cell {W : World} {a : Addr} {v : Value} (h : W.cell? a = some v) : ∀ x : Ext W, x.val.cell? a = some v := fun x => cell_below x.below h
theorem Ext.then {W : World} (x : Ext W) {w' : World} (h : Below x.val.heap.size x.val w') : ∃ y : Ext W, w' = y.val := ⟨⟨w', below_trans x.below h⟩, rfl⟩
theorem Ext.of {W w' : World} (h : Below W.heap.size W w') : ∃ y : Ext W, w' = y.val := ⟨⟨w', h⟩, rfl⟩
theorem Ext.size {W : World} (x : Ext W) : W.heap.size ≤ x.val.heap.size := x.below.size
/-- A callee that makes memory at most, met in the class. -/
theorem Ext.call {P : Program} {W : World} {f : FuncId} {args : Array Value} {x : Ext W} {v : Value} (h : Calls P f args x.val fun e w' => e = .returned v ∧ Below x.val.heap.size x.val w') :
    Calls P f args x.val fun e w'' => e = .returned v ∧ ∃ y : Ext W, w'' = y.val :=
  h.mono fun _ _ ⟨a, b⟩ => ⟨a, x.then b⟩
/-- .. that leaves the world alone. -/
theorem Ext.same {P : Program} {W : World} {f : FuncId} {args : Array Value} {x : Ext W} {v : Value} (h : Calls P f args x.val fun e w' => e = .returned v ∧ x.val = w') :
    Calls P f args x.val fun e w'' => e = .returned v ∧ ∃ y : Ext W, w'' = y.val :=
  h.mono fun _ _ ⟨a, b⟩ => ⟨a, x, b.symm⟩
theorem Ext.drew {W : World} (x : Ext W) : Below W.heap.size W { x.val with drawn := x.val.drawn + 1 } := ⟨x.below.os, x.below.tape, x.below.output, x.below.size, x.below.block⟩
/-- THE REGION, walked in the text's order. -/
theorem wp_region_ext {P : Program} {id : Nat} {Q : Exit → Act → World → Prop} {a : Act} {W w : World} {l : List Oper} (hb : Below W.heap.size W w) (hm : P.follows .mixedOrders = true) (hB : Region.lexB .any l.toArray = true)
    (h : wpQuiet P l.toArray (fun w' => ∃ x : Ext W, w' = x.val) (fun a' => ∀ w', (∃ x : Ext W, w' = x.val) → Q .normal a' w') l a) : (Code.region id l.toArray true).wp P Q a w :=
  wp_region_quiet (C := fun w' => ∃ x : Ext W, w' = x.val) hm hB ⟨⟨{ w with drawn := w.drawn + 1 }, ⟨hb.os, hb.tape, hb.output, hb.size, hb.block⟩⟩, rfl⟩ (by simpa using h)
end Go.Proofs.YtjldjeokcpjgkaaDoor
