import Derived.Test.YtilkidaihbhfpaaGreatTsF2
import Derived.Test.YtilkidaihbhfpaaGreatTsW
import Derived.Deep.RegionWith

set_option maxRecDepth 100000
set_option maxHeartbeats 16000000
namespace Go.Proofs.YtilkidaihbhfpaaGreat
open Go.RowKit
set_option linter.unusedVariables false
def zlw (D:WD) (aw ad aS am ag:Option Addr) (cw cd cS cm cg:Nat):Value :=
 .agg #[.int .i64 D.base,.int .i64 D.pages,.slice aw D.words.length cw,.slice ad D.dirty.length cd,.slice aS D.spans.length cS,.slice am D.muts.length cm,.int .i64 D.phase,.int .i64 D.next,.slice ag D.grey.length cg]
theorem RdW.written {w:World} {v:Value} {D:WD} (h:RdW w v D):∃ aw ad aS am ag cw cd cS cm cg,v=zlw D aw ad aS am ag cw cd cS cm cg:=by
 obtain ⟨vw,vd,vs,vm,vg,rfl,⟨aw,cw,rfl,_⟩,⟨ad,cd,rfl,_⟩,⟨aS,cS,rfl,_⟩,⟨am,cm,rfl,_⟩,⟨ag,cg,rfl,_⟩⟩:=h
 exact ⟨aw,ad,aS,am,ag,cw,cd,cS,cm,cg,rfl⟩
end Go.Proofs.YtilkidaihbhfpaaGreat
