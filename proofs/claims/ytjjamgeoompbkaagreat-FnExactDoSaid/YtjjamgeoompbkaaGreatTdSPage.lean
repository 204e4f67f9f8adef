import Derived.Test.YtjjamgeoompbkaaGreatTdCut

set_option maxRecDepth 100000
set_option maxHeartbeats 16000000
set_option linter.all false
namespace Go.Proofs.YtjjamgeoompbkaaGreat
open Go.RowKit
open Go.Proofs.Tryz
theorem R9(w:World)(a b c:Obj):(((w.alloc a).alloc b).alloc c).drew.heap[w.heap.size]?=some a∧(((w.alloc a).alloc b).alloc c).drew.heap[w.heap.size+1]?=some b∧(((w.alloc a).alloc b).alloc c).drew.heap[w.heap.size+1+1]?=some c ∧
  Below w.heap.size w (((w.alloc a).alloc b).alloc c).drew∧(((w.alloc a).alloc b).alloc c).drew.heap.size=w.heap.size+1+1+1:=by
 obtain⟨h1,h2,h3,hb⟩:=box3 w a b c;exact⟨h1,h2,h3,below_drewN hb 1,by simp[World.drew]⟩
structure PageI(w wr:World)(c:Int)(ph:Bool)(k ns C g1 g2:Nat):Prop where
 below:Below w.heap.size w wr
 size:wr.heap.size=w.heap.size+1+1+1
 boxC:wr.heap[C]?=some (.cells #[.int .i64 k,.int .i64 c,.int .i64 0,.bool ph,.slice (some ⟨g1,0,none⟩) ns ns,.slice (some ⟨g2,0,none⟩) ns ns] 93 (0,0))
 r1:wr.heap[g1]?=some (.cells (madeCells #[.int .i64 0] ns) 3 (0,0))
 r2:wr.heap[g2]?=some (.cells (madeCells #[.int .i64 0] ns) 3 (0,0))
 hC:w.heap.size≤C∧C<w.heap.size+1+1+1
 h1:w.heap.size≤g1∧g1<w.heap.size+1+1+1
 h2:w.heap.size≤g2∧g2<w.heap.size+1+1+1
 ne:g1≠g2
theorem zpi{c v:Int}(h:sl' c=v)(w:World):Calls prog 119 #[.int .i64 c] w fun e w'=>e=.returned (.int .i64 v)∧w=w':=by
 rw[←h];exact zhe c w
end Go.Proofs.YtjjamgeoompbkaaGreat
