import Derived.Test.YtjjamgeoompbkaaGreatTdSTake
import Derived.Test.YtjjamgeoompbkaaGreatTdSOwn4

set_option maxRecDepth 100000
set_option maxHeartbeats 16000000
set_option linter.all false
namespace Go.Proofs.YtjjamgeoompbkaaGreat
open Go.RowKit
open Go.Proofs.Tryz
theorem Y9.lits{w:World}{base:Nat}{S:Y9}{D:WD}(h:OwnW w base S D):∃aw ad aS am ag cw cd cS cm cg sv mv,S=⟨.slice aw D.words.length cw,.slice ad D.dirty.length cd,.slice aS D.spans.length cS,.slice am D.muts.length cm,.slice ag D.grey.length cg,sv,mv⟩:=by
 obtain⟨vw,vd,vs,vm,vg,sv,mv⟩:=S;obtain⟨a1,c1,h1⟩:=X0 h.words;obtain⟨a2,c2,h2⟩:=X0 h.dirty;obtain⟨a3,c3,h3⟩:=X0 h.spans;obtain⟨a4,c4,h4⟩:=X0 h.muts;obtain⟨a5,c5,h5⟩:=X0 h.grey;simp only at h1 h2 h3 h4 h5;subst h1 h2 h3 h4 h5;exact⟨_,_,_,_,_,_,_,_,_,_,_,_,rfl⟩
theorem VarW.mk_box{w:World}{base:Nat}{S:Y9}{D:WD}(h:OwnW w base S D)(hb:base≤w.heap.size):VarW (w.alloc (.cells (S.cells D) 37)) base w.heap.size S D :=
 ⟨Y8 w _,h.below (Y2 w _),hb,fun hm=>by have:=(h.lt _ hm).2;omega⟩
end Go.Proofs.YtjjamgeoompbkaaGreat
