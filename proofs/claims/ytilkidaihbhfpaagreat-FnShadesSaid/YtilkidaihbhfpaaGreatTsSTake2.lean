import Derived.Test.YtilkidaihbhfpaaGreatTsSTake
import Derived.Test.YtilkidaihbhfpaaGreatTsSOwn4

set_option maxRecDepth 100000
set_option maxHeartbeats 16000000
namespace Go.Proofs.YtilkidaihbhfpaaGreat
open Go.RowKit
set_option linter.unusedVariables false
theorem Y2.lits {w:World} {base:Nat} {S:Y2} {D:WD} (h:OwnW w base S D):∃ aw ad aS am ag cw cd cS cm cg sv mv,S=⟨.slice aw D.words.length cw,.slice ad D.dirty.length cd,.slice aS D.spans.length cS,.slice am D.muts.length cm,.slice ag D.grey.length cg,sv,mv⟩:=by
 obtain ⟨vw,vd,vs,vm,vg,sv,mv⟩:=S
 obtain ⟨a1,c1,h1⟩:=Y4 h.words
 obtain ⟨a2,c2,h2⟩:=Y4 h.dirty
 obtain ⟨a3,c3,h3⟩:=Y4 h.spans
 obtain ⟨a4,c4,h4⟩:=Y4 h.muts
 obtain ⟨a5,c5,h5⟩:=Y4 h.grey
 simp only at h1 h2 h3 h4 h5
 subst h1 h2 h3 h4 h5
 exact ⟨_,_,_,_,_,_,_,_,_,_,_,_,rfl⟩
theorem VarW.mk_box {w:World} {base:Nat} {S:Y2} {D:WD} (h:OwnW w base S D) (hb:base≤w.heap.size):VarW (w.alloc (.cells (S.cells D) 30)) base w.heap.size S D :=
 ⟨Y6 w _,h.below (Z5 w _),hb,fun hm=>by have:=(h.lt _ hm).2;omega⟩
theorem VarW.handed {w wr wF:World} {base B R:Nat} {S:Y2} {D:WD} (h:VarW wr base B S D) (hb:Below w.heap.size w wr) (h1:w.heap.size≤R) (h2:R<base) (hc:Chg [R] wr wF):OwnW wF w.heap.size S D∧Below w.heap.size w wF :=
 ⟨(h.own.chg0 hc (fun q hq=>by rw [List.mem_singleton.1 hq];omega)).base_le (by omega),Chg.below hb hc hb.size (fun q hq=>by rw [List.mem_singleton.1 hq];omega)⟩
end Go.Proofs.YtilkidaihbhfpaaGreat
