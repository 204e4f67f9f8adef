import Derived.Test.YtpaepkcfdnddgaaGreatCgF2
import Derived.Test.YtpaepkcfdnddgaaGreatCgW
import Derived.Deep.RegionWith

namespace Go.Proofs.YtpaepkcfdnddgaaGreat
open Go.RowKit
set_option linter.unusedVariables false

/-- A World's nine values, written out. -/
def worldV (D : WD) (aw ad aS am ag : Option Addr) (cw cd cS cm cg : Nat) : Value :=
  .agg #[.int .i64 D.base, .int .i64 D.pages, .slice aw D.words.length cw, .slice ad D.dirty.length cd, .slice aS D.spans.length cS, .slice am D.muts.length cm, .int .i64 D.phase, .int .i64 D.next, .slice ag D.grey.length cg]
theorem RdW.written {w : World} {v : Value} {D : WD} (h : RdW w v D) : ∃ aw ad aS am ag cw cd cS cm cg, v = worldV D aw ad aS am ag cw cd cS cm cg := by
  obtain ⟨vw, vd, vs, vm, vg, rfl, ⟨aw, cw, rfl, _⟩, ⟨ad, cd, rfl, _⟩, ⟨aS, cS, rfl, _⟩, ⟨am, cm, rfl, _⟩, ⟨ag, cg, rfl, _⟩⟩ := h
  exact ⟨aw, ad, aS, am, ag, cw, cd, cS, cm, cg, rfl⟩
theorem toWorld_rd (v : Value) (D : WD) (hs : Small D) (w : World) (hr : RdW w v D) :
    Calls Tryz.prog 9 #[v] w fun e w' => ∃ aw ad aS am ag cw cd cS cm cg, e = .returned (worldV D aw ad aS am ag cw cd cS cm cg) ∧ RdW w' (worldV D aw ad aS am ag cw cd cS cm cg) D ∧ Below w.heap.size w w' :=
  (toWorld_any v D hs w hr).mono fun e w' ⟨S, he, ho, hb⟩ => by
    obtain ⟨aw, ad, aS, am, ag, cw, cd, cS, cm, cg, hv⟩ := ho.rd.written
    refine ⟨aw, ad, aS, am, ag, cw, cd, cS, cm, cg, by rw [he, hv], ?_, hb⟩
    rw [← hv]
    exact ho.rd

end Go.Proofs.YtpaepkcfdnddgaaGreat
