import Derived.Test.YtjjamgeoompbkaaGreatTdRegAll
import Derived.Test.YtjjamgeoompbkaaGreatTdPR
import Derived.Test.YtjjamgeoompbkaaGreatTdSSpecDo

set_option maxRecDepth 100000
set_option maxHeartbeats 16000000
set_option linter.all false
namespace Go.Proofs.YtjjamgeoompbkaaGreat
open Go.RowKit
open Go.Proofs.Tryz
abbrev zkh(S:Y9)(E:WD):Array Value:=#[.int .i64 E.base,.int .i64 E.pages,S.vw,S.vd,S.vs,S.vm,.int .i64 E.phase,.int .i64 E.next,S.vg]
abbrev zvz:Array Value:=#[.int .i64 0,.int .i64 0,.slice none 0 0,.slice none 0 0,.slice none 0 0,.slice none 0 0,.int .i64 0,.int .i64 0,.slice none 0 0]
structure TwoI(w0 w:World)(lC l8 l9 l10 l11:Bool)(S:Y9)(E:WD)(c x:Int)(t6 t7:Value):Prop where
 below:Below w0.heap.size w0 w
 own:lC=true→OwnW w w0.heap.size S E
 b6:l8=true→∃B,t6=.pointer (some ⟨B,0,none⟩)∧w0.heap.size≤B∧B<w.heap.size∧(lC=true→B∉blks S.all)∧(l10=false→w.heap[B]?=some (.cells zvz 37 (0,0)))∧(l10=true→w.heap[B]?=some (.cells (zkh S E) 37 (0,0)))
 b7:l9=true→∃A,t7=.pointer (some ⟨A,0,none⟩)∧w0.heap.size≤A∧A<w.heap.size∧(lC=true→A∉blks S.all)∧(l11=false→w.heap[A]?=some (.cells #[.int .i64 0,.int .i64 0] 39 (0,0)))∧(l11=true→w.heap[A]?=some (.cells #[.int .i64 c,.int .i64 x] 39 (0,0)))
 d10:l10=true→lC=true∧l8=true
 d11:l11=true→lC=true∧l9=true
section
variable {w0 w w':World} {lC l8 l9 l10 l11:Bool} {S:Y9} {E:WD} {c x:Int} {t6 t7:Value}
theorem TwoI.start(w0:World){w:World}(hb:Below w0.heap.size w0 w)(S:Y9)(E:WD)(c x:Int)(t6 t7:Value):TwoI w0 w false false false false false S E c x t6 t7 :=
 ⟨hb,by simp,by simp,by simp,by simp,by simp⟩
theorem TwoI.grow(h:TwoI w0 w lC l8 l9 l10 l11 S E c x t6 t7)(hb:Below w.heap.size w w'):TwoI w0 w' lC l8 l9 l10 l11 S E c x t6 t7 :=
 ⟨h.below.trans (hb.mono h.below.size),fun e=>(h.own e).below hb,
  fun e=>by obtain⟨B,h1,h2,h3,h4,h5,h6⟩:=h.b6 e;exact⟨B,h1,h2,by have:=hb.size;omega,h4,fun e=>Z8 hb (h5 e),fun e=>Z8 hb (h6 e)⟩,
  fun e=>by obtain⟨B,h1,h2,h3,h4,h5,h6⟩:=h.b7 e;exact⟨B,h1,h2,by have:=hb.size;omega,h4,fun e=>Z8 hb (h5 e),fun e=>Z8 hb (h6 e)⟩,h.d10,h.d11⟩
theorem TwoI.call{S1:Y9}{E1:WD}{c1 x1:Int}(h:TwoI w0 w false l8 l9 l10 l11 S E c x t6 t7)(hb:Below w.heap.size w w')(ho:OwnW w' w.heap.size S1 E1):TwoI w0 w' true l8 l9 l10 l11 S1 E1 c1 x1 t6 t7:=by
 have g:=h.grow hb;have hs:=h.below.size;have n10:l10=false:=by cases e:l10;rfl;have:=(h.d10 e).1;cases this
 have n11:l11=false:=by cases e:l11;rfl;have:=(h.d11 e).1;cases this
 have far:∀q,q∈blks S1.all→w.heap.size≤q:=fun q hq=>(ho.lt q hq).1;refine⟨g.below,fun _=>ho.base_le hs,fun e=>?_,fun e=>?_,fun e=>(by rw[n10]at e;cases e),fun e=>(by rw[n11]at e;cases e)⟩
 ·obtain⟨B,h1,h2,h3,h4,h5,h6⟩:=h.b6 e
  exact⟨B,h1,h2,by have:=hb.size;omega,fun _ hm=>by have:=far _ hm;omega,fun e=>Z8 hb (h5 e),fun e=>by rw[n10]at e;cases e⟩
 ·obtain⟨B,h1,h2,h3,h4,h5,h6⟩:=h.b7 e
  exact⟨B,h1,h2,by have:=hb.size;omega,fun _ hm=>by have:=far _ hm;omega,fun e=>Z8 hb (h5 e),fun e=>by rw[n11]at e;cases e⟩
theorem TwoI.box6(h:TwoI w0 w lC false l9 l10 l11 S E c x t6 t7):TwoI w0 (w.alloc (.cells zvz 37)) lC true l9 l10 l11 S E c x (.pointer (some ⟨w.heap.size,0,none⟩)) t7:=by
 have g:=h.grow (Y2 w (.cells zvz 37));have hs:=h.below.size;have n10:l10=false:=by cases e:l10;rfl;have:=(h.d10 e).2;cases this
 exact⟨g.below,g.own,fun _=>⟨_,rfl,hs,by simp,fun e hm=>by have:=((h.own e).lt _ hm).2;omega,fun _=>Y8 _ _,fun e=>by rw[n10]at e;cases e⟩,g.b7,fun e=>(by rw[n10]at e;cases e),g.d11⟩
theorem TwoI.box7(h:TwoI w0 w lC l8 false l10 l11 S E c x t6 t7):TwoI w0 (w.alloc (.cells #[.int .i64 0,.int .i64 0] 39)) lC l8 true l10 l11 S E c x t6 (.pointer (some ⟨w.heap.size,0,none⟩)):=by
 have g:=h.grow (Y2 w (.cells #[.int .i64 0,.int .i64 0] 39));have hs:=h.below.size;have n11:l11=false:=by cases e:l11;rfl;have:=(h.d11 e).2;cases this
 exact⟨g.below,g.own,g.b6,fun _=>⟨_,rfl,hs,by simp,fun e hm=>by have:=((h.own e).lt _ hm).2;omega,fun _=>Y8 _ _,fun e=>by rw[n11]at e;cases e⟩,g.d10,fun e=>(by rw[n11]at e;cases e)⟩
theorem TwoI.fill6{B:Nat}(h:TwoI w0 w true true l9 false l11 S E c x (.pointer (some ⟨B,0,none⟩)) t7)(hc:Chg [B] w w')(hB:w'.heap[B]?=some (.cells (zkh S E) 37 (0,0))):TwoI w0 w' true true l9 true l11 S E c x (.pointer (some ⟨B,0,none⟩)) t7:=by
 obtain⟨B1,e1,h2,h3,h4,h5,_⟩:=h.b6 rfl;obtain rfl:B=B1:=by simpa using e1
 have hz:=h5 rfl;refine⟨Chg.below h.below hc h.below.size (fun q hq=>by rw[List.mem_singleton.1 hq];exact h2),fun _=>(h.own rfl).chg hc (fun q hq hm=>h4 rfl (by rw[←List.mem_singleton.1 hm];exact hq)),fun _=>⟨B,rfl,h2,by have:=hc.size;omega,h4,fun e=>(by cases e),fun _=>hB⟩,fun e=>?_,fun _=>⟨rfl,rfl⟩,h.d11⟩;obtain⟨A,g1,g2,g3,g4,g5,g6⟩:=h.b7 e
 have hne:A∉[B]:=fun hm=>by
  obtain rfl:=List.mem_singleton.1 hm
  cases e1:l11
  ·have:=(g5 e1).symm.trans hz;simp at this
  ·have:=(g6 e1).symm.trans hz;simp at this
 exact⟨A,g1,g2,by have:=hc.size;omega,g4,fun e=>(hc.block A g3 hne).trans (g5 e),fun e=>(hc.block A g3 hne).trans (g6 e)⟩
theorem TwoI.fill7{A:Nat}(h:TwoI w0 w true l8 true l10 false S E c x t6 (.pointer (some ⟨A,0,none⟩)))(hc:Chg [A] w w')(hA:w'.heap[A]?=some (.cells #[.int .i64 c,.int .i64 x] 39 (0,0))):TwoI w0 w' true l8 true l10 true S E c x t6 (.pointer (some ⟨A,0,none⟩)):=by
 obtain⟨A1,e1,h2,h3,h4,h5,_⟩:=h.b7 rfl;obtain rfl:A=A1:=by simpa using e1
 have hz:=h5 rfl;refine⟨Chg.below h.below hc h.below.size (fun q hq=>by rw[List.mem_singleton.1 hq];exact h2),fun _=>(h.own rfl).chg hc (fun q hq hm=>h4 rfl (by rw[←List.mem_singleton.1 hm];exact hq)),fun e=>?_,fun _=>⟨A,rfl,h2,by have:=hc.size;omega,h4,fun e=>(by cases e),fun _=>hA⟩,h.d10,fun _=>⟨rfl,rfl⟩⟩;obtain⟨B,g1,g2,g3,g4,g5,g6⟩:=h.b6 e
 have hne:B∉[A]:=fun hm=>by
  obtain rfl:=List.mem_singleton.1 hm
  cases e1:l10
  ·have:=(g5 e1).symm.trans hz;simp at this
  ·have:=(g6 e1).symm.trans hz;simp at this
 exact⟨B,g1,g2,by have:=hc.size;omega,g4,fun e=>(hc.block B g3 hne).trans (g5 e),fun e=>(hc.block B g3 hne).trans (g6 e)⟩
end
end Go.Proofs.YtjjamgeoompbkaaGreat
