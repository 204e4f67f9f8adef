import Derived.Test.YtjjamgeoompbkaaGreatTdTwo
import Derived.Test.YtjjamgeoompbkaaGreatTdCaps

set_option maxRecDepth 100000
set_option maxHeartbeats 16000000
set_option linter.all false
namespace Go.Proofs.YtjjamgeoompbkaaGreat
open Go.RowKit
open Go.Proofs.Tryz
theorem zpf(k m h g i n v:Int)(w:World) :
  Calls prog 8 #[.agg #[.int .i64 k,.int .i64 m,.int .i64 h,.int .i64 g,.int .i64 i,.int .i64 n,.int .i64 v]] w fun e w'=>e=.returned (.agg #[.int .i64 k,.int .i64 m,.int .i64 h,.int .i64 g,.int .i64 i,.int .i64 n,.int .i64 v])∧Below w.heap.size w w':=by
 obtain⟨hA0,hR0,hC0,bb0⟩:=box3 w (.cells #[.int .i64 k,.int .i64 m,.int .i64 h,.int .i64 g,.int .i64 i,.int .i64 n,.int .i64 v] 31) (.cells #[.int .i64 0,.int .i64 0,.int .i64 0,.int .i64 0,.int .i64 0,.int .i64 0,.int .i64 0] 43) (.cells #[.int .i64 0,.int .i64 0,.int .i64 0,.int .i64 0,.int .i64 0,.int .i64 0,.int .i64 0] 43);have hA:=Z0 hA0;have hR:=Z0 hR0;have hC:=Z0 hC0;have bb:=Z0 bb0;clear hA0 hR0 hC0 bb0;go_enter func8,ntmps8;go_upto_region 2 with fail;generalize ((w.alloc (.cells #[.int .i64 k,.int .i64 m,.int .i64 h,.int .i64 g,.int .i64 i,.int .i64 n,.int .i64 v] 31)).alloc (.cells #[.int .i64 0,.int .i64 0,.int .i64 0,.int .i64 0,.int .i64 0,.int .i64 0,.int .i64 0] 43)).alloc (.cells #[.int .i64 0,.int .i64 0,.int .i64 0,.int .i64 0,.int .i64 0,.int .i64 0,.int .i64 0] 43)=W at *;have c0:=Z6 hA.out 0 (.int .i64 k) rfl;have c1:=Z6 hA.out 1 (.int .i64 m) rfl;have c2:=Z6 hA.out 2 (.int .i64 h) rfl;have c3:=Z6 hA.out 3 (.int .i64 g) rfl;have c4:=Z6 hA.out 4 (.int .i64 i) rfl;have c5:=Z6 hA.out 5 (.int .i64 n) rfl;have c6:=Z6 hA.out 6 (.int .i64 v) rfl;have r0:=Z6 hR.out 0 (.int .i64 0) rfl;have y0:=Z9 hR.out 0;have r1:=Z6 hR.out 1 (.int .i64 0) rfl;have y1:=Z9 hR.out 1;have r2:=Z6 hR.out 2 (.int .i64 0) rfl;have y2:=Z9 hR.out 2;have r3:=Z6 hR.out 3 (.int .i64 0) rfl;have y3:=Z9 hR.out 3;have r4:=Z6 hR.out 4 (.int .i64 0) rfl;have y4:=Z9 hR.out 4;have r5:=Z6 hR.out 5 (.int .i64 0) rfl;have y5:=Z9 hR.out 5;have r6:=Z6 hR.out 6 (.int .i64 0) rfl;have y6:=Z9 hR.out 6;have u0:=Z6 hC.out 0 (.int .i64 0) rfl;have z0:=Z9 hC.out 0;have u1:=Z6 hC.out 1 (.int .i64 0) rfl;have z1:=Z9 hC.out 1;have u2:=Z6 hC.out 2 (.int .i64 0) rfl;have z2:=Z9 hC.out 2;have u3:=Z6 hC.out 3 (.int .i64 0) rfl;have z3:=Z9 hC.out 3;have u4:=Z6 hC.out 4 (.int .i64 0) rfl;have z4:=Z9 hC.out 4;have u5:=Z6 hC.out 5 (.int .i64 0) rfl;have z5:=Z9 hC.out 5;have u6:=Z6 hC.out 6 (.int .i64 0) rfl;have z6:=Z9 hC.out 6;go_wp2_with fail;refine bodyPost_ret (v:=.agg #[.int .i64 k,.int .i64 m,.int .i64 h,.int .i64 g,.int .i64 i,.int .i64 n,.int .i64 v]) (by simp[results,results8,go_sem,r0,r1,r2,r3,r4,r5,r6,y0,y1,y2,y3,y4,y5,y6,u0,u1,u2,u3,u4,u5,u6,z0,z1,z2,z3,z4,z5,z6]) rfl ?_;exact⟨rfl,Chg.below bb.out (((((((((((((((Chg.refl [w.heap.size+1,w.heap.size+1+1] W).put (b:=w.heap.size+1+1) (by simp) 0 _).put (b:=w.heap.size+1+1) (by simp) 1 _).put (b:=w.heap.size+1+1) (by simp) 2 _).put (b:=w.heap.size+1+1) (by simp) 3 _).put (b:=w.heap.size+1+1) (by simp) 4 _).put (b:=w.heap.size+1+1) (by simp) 5 _).put (b:=w.heap.size+1+1) (by simp) 6 _).put (b:=w.heap.size+1) (by simp) 0 _).put (b:=w.heap.size+1) (by simp) 1 _).put (b:=w.heap.size+1) (by simp) 2 _).put (b:=w.heap.size+1) (by simp) 3 _).put (b:=w.heap.size+1) (by simp) 4 _).put (b:=w.heap.size+1) (by simp) 5 _).put (b:=w.heap.size+1) (by simp) 6 _) bb.out.size (fun q hq=>by simp only[List.mem_cons,List.not_mem_nil,or_false]at hq;omega)⟩
theorem zln(c x:Int)(w:World) :
  Calls prog 11 #[.agg #[.int .i64 c,.int .i64 x],.agg #[.int .i64 c,.int .i64 x]] w fun e w'=>e=.returned (.bool true)∧Below w.heap.size w w':=by
 have bb:Below w.heap.size w ((w.alloc (.cells #[.int .i64 c,.int .i64 x] 39)).alloc (.cells #[.int .i64 c,.int .i64 x] 39)):=Z7 (Y2 _ _) (Y2 _ _);go_enter func11,ntmps11;go_wp2_with fail;go_ret;exact⟨rfl,bb⟩
theorem zta(w:World)(A:Nat)(T:TypeId)(x0 x1 v0 v1:Value)(h:w.heap[A]?=some (.cells #[x0,x1] T (0,0))) :
  ((w.setCell ⟨A,0,none⟩ v0).setCell ⟨A,1,none⟩ v1).heap[A]?=some (.cells #[v0,v1] T (0,0))∧Chg [A] w ((w.setCell ⟨A,0,none⟩ v0).setCell ⟨A,1,none⟩ v1):=by
 have a0:=heap_setCell_same _ A 0 _ _ v0 h;have a1:=heap_setCell_same _ A 1 _ _ v1 a0;refine⟨by simpa using a1,?_⟩;exact((Chg.refl [A] w).put (by simp) 0 v0).put (by simp) 1 v1
theorem zee.markable{D E:WD}{o:OpD}{c x:Int}(h:zee D o E c x)(hf:FitD D)(hv:I64 o.v):zjs E:=by
 rcases h with⟨r,_,h⟩|⟨_,rfl,_,_⟩
 ·exact(DoIs.right r (r.going hf) hv h).2.markable
 ·exact⟨by decide⟩
theorem zji(n j:Nat):(Array.replicate n false).getD j false=false:=by
 simp only[Array.getD_eq_getD_getElem?,Array.getElem?_replicate]
 split<;>rfl
theorem zpk{l:Array Bool}{i:Nat}(h:i<l.size)(j:Nat):(l.setIfInBounds i true).getD j false=if j=i then true else l.getD j false:=by
 split
 ·next e=>subst e;exact zzj h
 ·next e=>exact getD_set_ne false (Ne.symm e)
structure DoV(w:World)(D:WD)(o:OpD)(V O:Value)(b0 b1 b2 b3 b4 b5 b6 b7:Bool)(S:Y9)(E:WD)(c x:Int)(y0 y1 y2 y3 y4 y5 y6 y7:Value):Prop where
 p0:b0=true→y0=V
 p1:b1=true→b4=false→RdW w y1 D∧CapW y1∧CapG y1
 p2:b2=true→y2=O
 p3:b3=true→y3=O
 p4:b4=true→y4=.tuple #[S.val E,.agg #[.int .i64 c,.int .i64 x]]∧zee D o E c x
 p5:b5=true→b4=true∧y5=.tuple #[S.val E,.agg #[.int .i64 c,.int .i64 x]]
 p6:b6=true→b4=true∧y6=S.val E
 p7:b7=true→b4=true∧y7=.agg #[.int .i64 c,.int .i64 x]
section
variable {w w':World} {D E:WD} {o:OpD} {V O:Value} {b0 b1 b2 b3 b4 b5 b6 b7:Bool} {S:Y9} {c x:Int} {y0 y1 y2 y3 y4 y5 y6 y7:Value}
theorem DoV.start(w:World)(D:WD)(o:OpD)(V O:Value)(S:Y9)(E:WD)(c x:Int)(y0 y1 y2 y3 y4 y5 y6 y7:Value):DoV w D o V O false false false false false false false false S E c x y0 y1 y2 y3 y4 y5 y6 y7 :=
 ⟨by simp,by simp,by simp,by simp,by simp,by simp,by simp,by simp⟩
theorem DoV.grow(h:DoV w D o V O b0 b1 b2 b3 b4 b5 b6 b7 S E c x y0 y1 y2 y3 y4 y5 y6 y7)(hb:Below w.heap.size w w'):DoV w' D o V O b0 b1 b2 b3 b4 b5 b6 b7 S E c x y0 y1 y2 y3 y4 y5 y6 y7 :=
 ⟨h.p0,fun e f=>⟨(h.p1 e f).1.below hb,(h.p1 e f).2⟩,h.p2,h.p3,h.p4,h.p5,h.p6,h.p7⟩
theorem DoV.late(h:DoV w D o V O b0 b1 b2 b3 true b5 b6 b7 S E c x y0 y1 y2 y3 y4 y5 y6 y7):DoV w' D o V O b0 b1 b2 b3 true b5 b6 b7 S E c x y0 y1 y2 y3 y4 y5 y6 y7 :=
 ⟨h.p0,fun _ e=>(by cases e),h.p2,h.p3,h.p4,h.p5,h.p6,h.p7⟩
theorem DoV.s0(h:DoV w D o V O b0 b1 b2 b3 b4 b5 b6 b7 S E c x y0 y1 y2 y3 y4 y5 y6 y7):DoV w D o V O true b1 b2 b3 b4 b5 b6 b7 S E c x V y1 y2 y3 y4 y5 y6 y7 :=
 ⟨fun _=>rfl,h.p1,h.p2,h.p3,h.p4,h.p5,h.p6,h.p7⟩
theorem DoV.s1{y:Value}(h:DoV w D o V O b0 b1 b2 b3 b4 b5 b6 b7 S E c x y0 y1 y2 y3 y4 y5 y6 y7)(hy:RdW w y D∧CapW y∧CapG y):DoV w D o V O b0 true b2 b3 b4 b5 b6 b7 S E c x y0 y y2 y3 y4 y5 y6 y7 :=
 ⟨h.p0,fun _ _=>hy,h.p2,h.p3,h.p4,h.p5,h.p6,h.p7⟩
theorem DoV.s2(h:DoV w D o V O b0 b1 b2 b3 b4 b5 b6 b7 S E c x y0 y1 y2 y3 y4 y5 y6 y7):DoV w D o V O b0 b1 true b3 b4 b5 b6 b7 S E c x y0 y1 O y3 y4 y5 y6 y7 :=
 ⟨h.p0,h.p1,fun _=>rfl,h.p3,h.p4,h.p5,h.p6,h.p7⟩
theorem DoV.s3(h:DoV w D o V O b0 b1 b2 b3 b4 b5 b6 b7 S E c x y0 y1 y2 y3 y4 y5 y6 y7):DoV w D o V O b0 b1 b2 true b4 b5 b6 b7 S E c x y0 y1 y2 O y4 y5 y6 y7 :=
 ⟨h.p0,h.p1,h.p2,fun _=>rfl,h.p4,h.p5,h.p6,h.p7⟩
theorem DoV.s4{S1:Y9}{E1:WD}{c1 x1:Int}(h:DoV w D o V O b0 b1 b2 b3 false b5 b6 b7 S E c x y0 y1 y2 y3 y4 y5 y6 y7)(hd:zee D o E1 c1 x1):DoV w' D o V O b0 b1 b2 b3 true b5 b6 b7 S1 E1 c1 x1 y0 y1 y2 y3 (.tuple #[S1.val E1,.agg #[.int .i64 c1,.int .i64 x1]]) y5 y6 y7 :=
 ⟨h.p0,fun _ e=>(by cases e),h.p2,h.p3,fun _=>⟨rfl,hd⟩,fun e=>(by have:=(h.p5 e).1;cases this),fun e=>(by have:=(h.p6 e).1;cases this),fun e=>(by have:=(h.p7 e).1;cases this)⟩
theorem DoV.s5(h:DoV w D o V O b0 b1 b2 b3 b4 b5 b6 b7 S E c x y0 y1 y2 y3 y4 y5 y6 y7)(e4:b4=true):DoV w D o V O b0 b1 b2 b3 b4 true b6 b7 S E c x y0 y1 y2 y3 y4 (.tuple #[S.val E,.agg #[.int .i64 c,.int .i64 x]]) y6 y7 :=
 ⟨h.p0,h.p1,h.p2,h.p3,h.p4,fun _=>⟨e4,rfl⟩,h.p6,h.p7⟩
theorem DoV.s6(h:DoV w D o V O b0 b1 b2 b3 b4 b5 b6 b7 S E c x y0 y1 y2 y3 y4 y5 y6 y7)(e4:b4=true):DoV w D o V O b0 b1 b2 b3 b4 b5 true b7 S E c x y0 y1 y2 y3 y4 y5 (S.val E) y7 :=
 ⟨h.p0,h.p1,h.p2,h.p3,h.p4,h.p5,fun _=>⟨e4,rfl⟩,h.p7⟩
theorem DoV.s7(h:DoV w D o V O b0 b1 b2 b3 b4 b5 b6 b7 S E c x y0 y1 y2 y3 y4 y5 y6 y7)(e4:b4=true):DoV w D o V O b0 b1 b2 b3 b4 b5 b6 true S E c x y0 y1 y2 y3 y4 y5 y6 (.agg #[.int .i64 c,.int .i64 x]) :=
 ⟨h.p0,h.p1,h.p2,h.p3,h.p4,h.p5,h.p6,fun _=>⟨e4,rfl⟩⟩
end
end Go.Proofs.YtjjamgeoompbkaaGreat
