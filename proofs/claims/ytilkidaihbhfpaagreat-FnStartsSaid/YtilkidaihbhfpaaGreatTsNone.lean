import Derived.Test.YtilkidaihbhfpaaGreatTsW

set_option maxRecDepth 100000
set_option maxHeartbeats 16000000
namespace Go.Proofs.YtilkidaihbhfpaaGreat
open Go.RowKit
set_option linter.unusedVariables false
theorem zpq (c1 vd vs c6 c7 vg:Value) (a m:Option Addr) (k q:Nat) (w:World) :
  Calls Tryz.prog 19 #[.agg #[.int .i64 0,c1,.slice a 0 k,vd,vs,.slice m 0 q,c6,c7,vg]] w fun e w'=>e=.returned (.bool true)∧Below w.heap.size w w':=by
 have bb:=zaa (Z5 w (.cells #[.int .i64 0,c1,.slice a 0 k,vd,vs,.slice m 0 q,c6,c7,vg] 30))
 go_enter Tryz.func19,Tryz.ntmps19
 go_wp2_with fail
 go_ret
 exact ⟨rfl,bb.out⟩
end Go.Proofs.YtilkidaihbhfpaaGreat
