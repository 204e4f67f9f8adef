import Derived.Test.YtilkidaihbhfpaaGreatTsSW
import Derived.Test.YtilkidaihbhfpaaGreatTsSTake2
import Derived.Test.YtilkidaihbhfpaaGreatTsSOwn4
import Derived.Test.YtilkidaihbhfpaaGreatTsDO
import Derived.Test.YtilkidaihbhfpaaGreatTsRR
import Derived.Test.YtilkidaihbhfpaaGreatTsR

set_option maxRecDepth 100000
set_option maxHeartbeats 16000000
namespace Go.Proofs.YtilkidaihbhfpaaGreat
open Go.RowKit
set_option linter.unusedVariables false
set_option linter.unusedSimpArgs false
def zii (D:WD) (o:OpD) (D':WD) (c x:Int):Prop :=
 (U0 D∧zix o.kind∧DoIs D o D' c x)∨(¬ (U0 D∧zix o.kind)∧D'=zeroD∧c=1∧x=0)
theorem zii.unique {D D1 D2:WD} {o:OpD} {c1 x1 c2 x2:Int} (h:zii D o D1 c1 x1) (g:zii D o D2 c2 x2):D2=D1∧c2=c1∧x2=x1:=by
 rcases h with ⟨r,k,h⟩ | ⟨n,rfl,rfl,rfl⟩ <;> rcases g with ⟨r',k',g⟩ | ⟨n',rfl,rfl,rfl⟩
 ·exact h.unique r.1 g
 ·exact absurd ⟨r,k⟩ n'
 ·exact absurd ⟨r',k'⟩ n
 ·exact ⟨rfl,rfl,rfl⟩
theorem zhp (v:Value) (D:WD) (o:OpD) (hs:zgk D) (hf:FitD D) (hg:CapG v) (w:World) (hr:RdW w v D) :
  Calls Tryz.prog 88 #[v,o.val] w fun e w'=>∃ S D' c x,zii D o D' c x∧e=.returned (.tuple #[S.val D',.agg #[.int .i64 c,.int .i64 x]])∧OwnW w' w.heap.size S D'∧Below w.heap.size w w':=by
 have hs':=zaa hs
 have hg':=zaa hg
 have hf':=zaa hf
 clear hs hg hf
 obtain ⟨k,m,h,g,i,n,v0⟩:=o
 obtain ⟨vw,vd,vs,vm,vg,rfl,a1,a2,a3,a4,a5⟩:=hr
 have b1:=Z5 w (.cells #[.int .i64 D.base,.int .i64 D.pages,vw,vd,vs,vm,.int .i64 D.phase,.int .i64 D.next,vg] 30)
 have b2:=Z5 (w.alloc (.cells #[.int .i64 D.base,.int .i64 D.pages,vw,vd,vs,vm,.int .i64 D.phase,.int .i64 D.next,vg] 30)) (.cells #[.int .i64 k,.int .i64 m,.int .i64 h,.int .i64 g,.int .i64 i,.int .i64 n,.int .i64 v0] 118)
 have b3:=Z5 ((w.alloc (.cells #[.int .i64 D.base,.int .i64 D.pages,vw,vd,vs,vm,.int .i64 D.phase,.int .i64 D.next,vg] 30)).alloc (.cells #[.int .i64 k,.int .i64 m,.int .i64 h,.int .i64 g,.int .i64 i,.int .i64 n,.int .i64 v0] 118)) (.cells #[.int .i64 0,.int .i64 0,.slice none 0 0,.slice none 0 0,.slice none 0 0,.slice none 0 0,.int .i64 0,.int .i64 0,.slice none 0 0] 30)
 have b4:=Z5 (((w.alloc (.cells #[.int .i64 D.base,.int .i64 D.pages,vw,vd,vs,vm,.int .i64 D.phase,.int .i64 D.next,vg] 30)).alloc (.cells #[.int .i64 k,.int .i64 m,.int .i64 h,.int .i64 g,.int .i64 i,.int .i64 n,.int .i64 v0] 118)).alloc (.cells #[.int .i64 0,.int .i64 0,.slice none 0 0,.slice none 0 0,.slice none 0 0,.slice none 0 0,.int .i64 0,.int .i64 0,.slice none 0 0] 30)) (.cells #[.int .i64 0,.int .i64 0] 114)
 have bb:=Z4 b1 (Z4 b2 (Z4 b3 b4))
 have hA':=zaa (Z6 (Z4 b2 (Z4 b3 b4)) (Y6 w (.cells #[.int .i64 D.base,.int .i64 D.pages,vw,vd,vs,vm,.int .i64 D.phase,.int .i64 D.next,vg] 30)))
 have hO:=Y6 (w.alloc (.cells #[.int .i64 D.base,.int .i64 D.pages,vw,vd,vs,vm,.int .i64 D.phase,.int .i64 D.next,vg] 30)) (.cells #[.int .i64 k,.int .i64 m,.int .i64 h,.int .i64 g,.int .i64 i,.int .i64 n,.int .i64 v0] 118)
 have hZ:=Y6 ((w.alloc (.cells #[.int .i64 D.base,.int .i64 D.pages,vw,vd,vs,vm,.int .i64 D.phase,.int .i64 D.next,vg] 30)).alloc (.cells #[.int .i64 k,.int .i64 m,.int .i64 h,.int .i64 g,.int .i64 i,.int .i64 n,.int .i64 v0] 118)) (.cells #[.int .i64 0,.int .i64 0,.slice none 0 0,.slice none 0 0,.slice none 0 0,.slice none 0 0,.int .i64 0,.int .i64 0,.slice none 0 0] 30)
 have hY:=Y6 (((w.alloc (.cells #[.int .i64 D.base,.int .i64 D.pages,vw,vd,vs,vm,.int .i64 D.phase,.int .i64 D.next,vg] 30)).alloc (.cells #[.int .i64 k,.int .i64 m,.int .i64 h,.int .i64 g,.int .i64 i,.int .i64 n,.int .i64 v0] 118)).alloc (.cells #[.int .i64 0,.int .i64 0,.slice none 0 0,.slice none 0 0,.slice none 0 0,.slice none 0 0,.int .i64 0,.int .i64 0,.slice none 0 0] 30)) (.cells #[.int .i64 0,.int .i64 0] 114)
 simp only [World.size_alloc] at hO hZ hY
 have hO':=zaa (Z6 (Z4 b3 b4) hO)
 have hR':=zaa (And.intro (Z6 b4 hZ) hY)
 have hW:=zaa (show RdW ((((w.alloc (.cells #[.int .i64 D.base,.int .i64 D.pages,vw,vd,vs,vm,.int .i64 D.phase,.int .i64 D.next,vg] 30)).alloc (.cells #[.int .i64 k,.int .i64 m,.int .i64 h,.int .i64 g,.int .i64 i,.int .i64 n,.int .i64 v0] 118)).alloc (.cells #[.int .i64 0,.int .i64 0,.slice none 0 0,.slice none 0 0,.slice none 0 0,.slice none 0 0,.int .i64 0,.int .i64 0,.slice none 0 0] 30)).alloc (.cells #[.int .i64 0,.int .i64 0] 114)) (.agg #[.int .i64 D.base,.int .i64 D.pages,vw,vd,vs,vm,.int .i64 D.phase,.int .i64 D.next,vg]) D from ⟨vw,vd,vs,vm,vg,rfl,a1.below bb,a2.below bb,a3.below bb,a4.below bb,a5.below bb⟩)
 have bb':=zaa bb
 have hz:=zaa (show ((((w.alloc (.cells #[.int .i64 D.base,.int .i64 D.pages,vw,vd,vs,vm,.int .i64 D.phase,.int .i64 D.next,vg] 30)).alloc (.cells #[.int .i64 k,.int .i64 m,.int .i64 h,.int .i64 g,.int .i64 i,.int .i64 n,.int .i64 v0] 118)).alloc (.cells #[.int .i64 0,.int .i64 0,.slice none 0 0,.slice none 0 0,.slice none 0 0,.slice none 0 0,.int .i64 0,.int .i64 0,.slice none 0 0] 30)).alloc (.cells #[.int .i64 0,.int .i64 0] 114)).heap.size=w.heap.size+1+1+1+1 by simp)
 unfold OpD.val OpD.cells
 clear a1 a2 a3 a4 a5 b1 b2 b3 b4 bb hO hZ hY
 obtain ⟨f0,f1,f2,f3,f4,f5,f6,f7,f8⟩:=U5 hA'.out
 go_enter Tryz.func88,Tryz.ntmps88
 go_upto_region 1 with fail
 generalize ((((w.alloc (.cells #[.int .i64 D.base,.int .i64 D.pages,vw,vd,vs,vm,.int .i64 D.phase,.int .i64 D.next,vg] 30)).alloc (.cells #[.int .i64 k,.int .i64 m,.int .i64 h,.int .i64 g,.int .i64 i,.int .i64 n,.int .i64 v0] 118)).alloc (.cells #[.int .i64 0,.int .i64 0,.slice none 0 0,.slice none 0 0,.slice none 0 0,.slice none 0 0,.int .i64 0,.int .i64 0,.slice none 0 0] 30)).alloc (.cells #[.int .i64 0,.int .i64 0] 114))=W at *
 go_wp2_with fail
 refine (zik _ D hg'.out _ hW.out).mono ?_
 rintro e w1 ⟨hq,b1⟩
 replace hq:=hq.elim
 clear f0 f1 f2 f3 f4 f5 f6 f7 f8
 have hA1:=zaa (Z6 b1 hA'.out)
 have hO1:=zaa (Z6 b1 hO'.out)
 have hR1:=zaa (And.intro (Z6 b1 hR'.out.1) (Z6 b1 hR'.out.2))
 have bb1:=zaa (Z4 bb'.out b1)
 have hW1:=zaa (hW.out.below b1)
 have hz1:=zaa (show w.heap.size+1+1+1+1≤w1.heap.size by have:=hz.out;have:=b1.size;omega)
 have q0:=Z0 hO1.out 0 (.int .i64 k) rfl
 clear b1
 rcases hq with ⟨hG,rfl⟩ | ⟨hG,rfl⟩
 case inr =>
  obtain ⟨n0,z0,n1,z1,n2,z2,n3,z3,n4,z4,n5,z5,n6,z6,n7,z7,n8,z8⟩:=zfv hR1.out.1
  have a0:=Z0 hR1.out.2 0 (.int .i64 0) rfl
  have b0:=Z3 hR1.out.2 0
  have a1:=Z0 hR1.out.2 1 (.int .i64 0) rfl
  have b1:=Z3 hR1.out.2 1
  have y:=zaa (show zii D ⟨k,m,h,g,i,n,v0⟩ zeroD 1 0 from .inr ⟨fun e=>hG e.1,rfl,rfl,rfl⟩)
  go_wp2_with fail
  refine bodyPost_ret (v:=.tuple #[zey.val zeroD,.agg #[.int .i64 1,.int .i64 0]]) (by simp [results,Tryz.results88,go_sem,n0,n1,n2,n3,n4,n5,n6,n7,n8,z0,z1,z2,z3,z4,z5,z6,z7,z8,a0,a1,b0,b1,Y2.val,zey,zeroD]) rfl ?_
  exact ⟨zey,zeroD,1,0,y.out,rfl,zfy _ _,Chg.below bb1.out ((((Chg.refl [w.heap.size+1+1,w.heap.size+1+1+1] _).put9 (b:=w.heap.size+1+1) (by simp) _ _ _ _ _ _ _ _ _).put (b:=w.heap.size+1+1+1) (by simp) 0 _).put (b:=w.heap.size+1+1+1) (by simp) 1 _) bb1.out.size (fun q hq=>by simp only [List.mem_cons,List.not_mem_nil,or_false] at hq;omega)⟩
 have hG':=zaa hG
 clear hG
 by_cases c1:k<1
 ·have d1:decide (k<1)=true:=decide_eq_true c1
  obtain ⟨n0,z0,n1,z1,n2,z2,n3,z3,n4,z4,n5,z5,n6,z6,n7,z7,n8,z8⟩:=zfv hR1.out.1
  have a0:=Z0 hR1.out.2 0 (.int .i64 0) rfl
  have b0:=Z3 hR1.out.2 0
  have a1:=Z0 hR1.out.2 1 (.int .i64 0) rfl
  have b1:=Z3 hR1.out.2 1
  have y:=zaa (show zii D ⟨k,m,h,g,i,n,v0⟩ zeroD 1 0 from .inr ⟨fun e=>by have h1:1≤k∧k≤9:=e.2;omega,rfl,rfl,rfl⟩)
  go_wp2_with fail
  refine bodyPost_ret (v:=.tuple #[zey.val zeroD,.agg #[.int .i64 1,.int .i64 0]]) (by simp [results,Tryz.results88,go_sem,n0,n1,n2,n3,n4,n5,n6,n7,n8,z0,z1,z2,z3,z4,z5,z6,z7,z8,a0,a1,b0,b1,Y2.val,zey,zeroD]) rfl ?_
  exact ⟨zey,zeroD,1,0,y.out,rfl,zfy _ _,Chg.below bb1.out ((((Chg.refl [w.heap.size+1+1,w.heap.size+1+1+1] _).put9 (b:=w.heap.size+1+1) (by simp) _ _ _ _ _ _ _ _ _).put (b:=w.heap.size+1+1+1) (by simp) 0 _).put (b:=w.heap.size+1+1+1) (by simp) 1 _) bb1.out.size (fun q hq=>by simp only [List.mem_cons,List.not_mem_nil,or_false] at hq;omega)⟩
 by_cases c2:9<k
 ·have d1:decide (k<1)=false:=decide_eq_false c1
  have d2:decide (9<k)=true:=decide_eq_true c2
  obtain ⟨n0,z0,n1,z1,n2,z2,n3,z3,n4,z4,n5,z5,n6,z6,n7,z7,n8,z8⟩:=zfv hR1.out.1
  have a0:=Z0 hR1.out.2 0 (.int .i64 0) rfl
  have b0:=Z3 hR1.out.2 0
  have a1:=Z0 hR1.out.2 1 (.int .i64 0) rfl
  have b1:=Z3 hR1.out.2 1
  have y:=zaa (show zii D ⟨k,m,h,g,i,n,v0⟩ zeroD 1 0 from .inr ⟨fun e=>by have h1:1≤k∧k≤9:=e.2;omega,rfl,rfl,rfl⟩)
  go_wp2_with fail
  refine bodyPost_ret (v:=.tuple #[zey.val zeroD,.agg #[.int .i64 1,.int .i64 0]]) (by simp [results,Tryz.results88,go_sem,n0,n1,n2,n3,n4,n5,n6,n7,n8,z0,z1,z2,z3,z4,z5,z6,z7,z8,a0,a1,b0,b1,Y2.val,zey,zeroD]) rfl ?_
  exact ⟨zey,zeroD,1,0,y.out,rfl,zfy _ _,Chg.below bb1.out ((((Chg.refl [w.heap.size+1+1,w.heap.size+1+1+1] _).put9 (b:=w.heap.size+1+1) (by simp) _ _ _ _ _ _ _ _ _).put (b:=w.heap.size+1+1+1) (by simp) 0 _).put (b:=w.heap.size+1+1+1) (by simp) 1 _) bb1.out.size (fun q hq=>by simp only [List.mem_cons,List.not_mem_nil,or_false] at hq;omega)⟩
 have hk:=zaa (show zix k by unfold zix;omega)
 have d1:decide (k<1)=false:=decide_eq_false c1
 have d2:decide (9<k)=false:=decide_eq_false c2
 clear c1
 obtain ⟨f0,f1,f2,f3,f4,f5,f6,f7,f8⟩:=U5 hA1.out
 have hown:=zaa (sown_any _ D hs'.out w1 hW1.out)
 go_wp2_with fail
 refine hown.out.mono ?_
 rintro e w2 ⟨S,rfl,ho,b2⟩
 obtain ⟨aw,ad,aS,am,ag,cw,cd,cS,cm,cg,sv,mv,rfl⟩:=Y2.lits ho
 have hv:=zaa (VarW.mk_box ho b2.size)
 have bX:=Z4 b2 (Z5 w2 (.cells (Y2.cells ⟨.slice aw D.words.length cw,.slice ad D.dirty.length cd,.slice aS D.spans.length cS,.slice am D.muts.length cm,.slice ag D.grey.length cg,sv,mv⟩ D) 30))
 have bb2:=zaa (Z4 bb1.out bX)
 have hR2:=zaa (And.intro (Z6 bX hR1.out.1) (Z6 bX hR1.out.2))
 have hO2:=Z6 bX hO1.out
 have hbs:=zaa (show w1.heap.size≤w2.heap.size from b2.size)
 clear ho b2 bX hown f0 f1 f2 f3 f4 f5 f6 f7 f8 q0 d1 d2
 dsimp only [Y2.val]
 dsimp only [Y2.cells] at hv hR2 hO2 bb2
 have o0:=Z0 hO2 0 (.int .i64 k) rfl
 have o1:=Z0 hO2 1 (.int .i64 m) rfl
 have o2:=Z0 hO2 2 (.int .i64 h) rfl
 have o3:=Z0 hO2 3 (.int .i64 g) rfl
 have o4:=Z0 hO2 4 (.int .i64 i) rfl
 have o5:=Z0 hO2 5 (.int .i64 n) rfl
 have o6:=Z0 hO2 6 (.int .i64 v0) rfl
 have hdo:=zaa (zxs _ _ _ D ⟨k,m,h,g,i,n,v0⟩ ⟨hG'.out.1,hG'.out.2.1,hf'.out.intsIn⟩ hG'.out.rootsObj _ hv.out)
 unfold OpD.val OpD.cells at hdo
 clear hO2
 go_upto_region 4 with fail
 generalize w2.alloc (.cells #[.int .i64 D.base,.int .i64 D.pages,.slice aw D.words.length cw,.slice ad D.dirty.length cd,.slice aS D.spans.length cS,.slice am D.muts.length cm,.int .i64 D.phase,.int .i64 D.next,.slice ag D.grey.length cg] 30)=W2 at *
 go_wp2_with fail
 refine hdo.out.mono ?_
 rintro e w3 ⟨⟨c,x,S',E,hd,rfl,hv3,-⟩,b3⟩
 obtain ⟨aw',ad',aS',am',ag',cw',cd',cS',cm',cg',sv',mv',rfl⟩:=Y2.lits hv3.own
 have y:=zaa (show zii D ⟨k,m,h,g,i,n,v0⟩ E c x from .inl ⟨hG'.out,hk.out,hd⟩)
 have hR3:=And.intro ((b3.block (w.heap.size+1+1) (by have:=hz1.out;omega)).trans hR2.out.1) ((b3.block (w.heap.size+1+1+1) (by have:=hz1.out;omega)).trans hR2.out.2)
 have bb3:=Z4 (bb2.out.trans (b3.mono (by have:=hz1.out;omega))) (Z5 w3 (.cells #[.int .i64 c,.int .i64 x] 114))
 have hR4:=zaa (And.intro (Z6 (Z5 w3 (.cells #[.int .i64 c,.int .i64 x] 114)) hR3.1) (Z6 (Z5 w3 (.cells #[.int .i64 c,.int .i64 x] 114)) hR3.2))
 have hv4:=zaa (hv3.below (Z5 w3 (.cells #[.int .i64 c,.int .i64 x] 114)))
 have hY4:=zaa (Y6 w3 (.cells #[.int .i64 c,.int .i64 x] 114))
 have bb4:=zaa bb3
 have hvl:=zaa (show w1.heap.size≤w2.heap.size∧w2.heap.size<w3.heap.size from ⟨hbs.out,hv3.lt⟩)
 clear hd hv3 b3 hR3 bb3 hdo hv o0 o1 o2 o3 o4 o5 o6
 go_upto_region 5 with fail
 generalize w3.alloc (.cells #[.int .i64 c,.int .i64 x] 114)=W5 at *
 have bE:=hv4.out.box
 dsimp only [Y2.cells] at bE
 obtain ⟨m0,m1,m2,m3,m4,m5,m6,m7,m8⟩:=U5 bE
 obtain ⟨n0,z0,n1,z1,n2,z2,n3,z3,n4,z4,n5,z5,n6,z6,n7,z7,n8,z8⟩:=zfv hR4.out.1
 have a0:=Z0 hR4.out.2 0 (.int .i64 0) rfl
 have b0:=Z3 hR4.out.2 0
 have a1:=Z0 hR4.out.2 1 (.int .i64 0) rfl
 have b1:=Z3 hR4.out.2 1
 have i0:=Z0 hY4.out 0 (.int .i64 c) rfl
 have i1:=Z0 hY4.out 1 (.int .i64 x) rfl
 have e1:¬ (w2.heap.size=w.heap.size+1+1):=by have:=hvl.out;have:=hz1.out;omega
 have e2:¬ (w.heap.size+1+1=w2.heap.size):=fun e=>e1 e.symm
 have e3:¬ (w3.heap.size=w.heap.size+1+1):=by have:=hvl.out;have:=hz1.out;omega
 have e4:¬ (w.heap.size+1+1=w3.heap.size):=fun e=>e3 e.symm
 have e5:¬ (w2.heap.size=w.heap.size+1+1+1):=by have:=hvl.out;have:=hz1.out;omega
 have e6:¬ (w3.heap.size=w.heap.size+1+1+1):=by have:=hvl.out;have:=hz1.out;omega
 clear bE
 refine T6 (fun w'=>w'.cell? ⟨w2.heap.size,0,none⟩=some (.int .i64 E.base)∧w'.cell? ⟨w2.heap.size,1,none⟩=some (.int .i64 E.pages)∧w'.cell? ⟨w2.heap.size,2,none⟩=some (.slice aw' E.words.length cw')∧w'.cell? ⟨w2.heap.size,3,none⟩=some (.slice ad' E.dirty.length cd')∧w'.cell? ⟨w2.heap.size,4,none⟩=some (.slice aS' E.spans.length cS')∧w'.cell? ⟨w2.heap.size,5,none⟩=some (.slice am' E.muts.length cm')∧w'.cell? ⟨w2.heap.size,6,none⟩=some (.int .i64 E.phase)∧w'.cell? ⟨w2.heap.size,7,none⟩=some (.int .i64 E.next)∧w'.cell? ⟨w2.heap.size,8,none⟩=some (.slice ag' E.grey.length cg')∧w'.cell? ⟨w3.heap.size,0,none⟩=some (.int .i64 c)∧w'.cell? ⟨w3.heap.size,1,none⟩=some (.int .i64 x)) (fun j=>j == 3) (by kernel_rfl) ?_
 intro wd hwd
 have cRd:=zaa (show Chg [w.heap.size+1+1,w.heap.size+1+1+1] W5 wd from by rw [hwd];exact (Chg.of_below (below_drewN (Below.refl W5.heap.size W5) 1) [w.heap.size+1+1,w.heap.size+1+1+1]))
 have vRd:=zaa (show wd.heap[w2.heap.size]?=some _ from by rw [hwd];exact hv4.out.box)
 have yRd:=zaa (show wd.heap[w3.heap.size]?=some _ from by rw [hwd];exact hY4.out)
 have rRd:=zaa (show (wd.heap[w.heap.size+1+1]?=some _)∧(wd.heap[w.heap.size+1+1+1]?=some _) from by rw [hwd];exact hR4.out)
 clear hwd
 have hS:=zaa (show ∀ w',Chg [w.heap.size+1+1,w.heap.size+1+1+1] W5 w'→(fun w'=>w'.cell? ⟨w2.heap.size,0,none⟩=some (.int .i64 E.base)∧w'.cell? ⟨w2.heap.size,1,none⟩=some (.int .i64 E.pages)∧w'.cell? ⟨w2.heap.size,2,none⟩=some (.slice aw' E.words.length cw')∧w'.cell? ⟨w2.heap.size,3,none⟩=some (.slice ad' E.dirty.length cd')∧w'.cell? ⟨w2.heap.size,4,none⟩=some (.slice aS' E.spans.length cS')∧w'.cell? ⟨w2.heap.size,5,none⟩=some (.slice am' E.muts.length cm')∧w'.cell? ⟨w2.heap.size,6,none⟩=some (.int .i64 E.phase)∧w'.cell? ⟨w2.heap.size,7,none⟩=some (.int .i64 E.next)∧w'.cell? ⟨w2.heap.size,8,none⟩=some (.slice ag' E.grey.length cg')∧w'.cell? ⟨w3.heap.size,0,none⟩=some (.int .i64 c)∧w'.cell? ⟨w3.heap.size,1,none⟩=some (.int .i64 x)) w' from fun w' c=>(have v6:=(c.block _ hv4.out.lt (by simp only [List.mem_cons,List.not_mem_nil,or_false];omega)).trans hv4.out.box;have y6:=(c.block _ (Array.getElem?_eq_some_iff.1 hY4.out).1 (by simp only [List.mem_cons,List.not_mem_nil,or_false];omega)).trans hY4.out;⟨Z0 v6 0 _ rfl,Z0 v6 1 _ rfl,Z0 v6 2 _ rfl,Z0 v6 3 _ rfl,Z0 v6 4 _ rfl,Z0 v6 5 _ rfl,Z0 v6 6 _ rfl,Z0 v6 7 _ rfl,Z0 v6 8 _ rfl,Z0 y6 0 _ rfl,Z0 y6 1 _ rfl⟩))
 have h0:(fun w'=>w'.cell? ⟨w2.heap.size,0,none⟩=some (.int .i64 E.base)∧w'.cell? ⟨w2.heap.size,1,none⟩=some (.int .i64 E.pages)∧w'.cell? ⟨w2.heap.size,2,none⟩=some (.slice aw' E.words.length cw')∧w'.cell? ⟨w2.heap.size,3,none⟩=some (.slice ad' E.dirty.length cd')∧w'.cell? ⟨w2.heap.size,4,none⟩=some (.slice aS' E.spans.length cS')∧w'.cell? ⟨w2.heap.size,5,none⟩=some (.slice am' E.muts.length cm')∧w'.cell? ⟨w2.heap.size,6,none⟩=some (.int .i64 E.phase)∧w'.cell? ⟨w2.heap.size,7,none⟩=some (.int .i64 E.next)∧w'.cell? ⟨w2.heap.size,8,none⟩=some (.slice ag' E.grey.length cg')∧w'.cell? ⟨w3.heap.size,0,none⟩=some (.int .i64 c)∧w'.cell? ⟨w3.heap.size,1,none⟩=some (.int .i64 x)) wd:=⟨Z0 vRd.out 0 _ rfl,Z0 vRd.out 1 _ rfl,Z0 vRd.out 2 _ rfl,Z0 vRd.out 3 _ rfl,Z0 vRd.out 4 _ rfl,Z0 vRd.out 5 _ rfl,Z0 vRd.out 6 _ rfl,Z0 vRd.out 7 _ rfl,Z0 vRd.out 8 _ rfl,Z0 yRd.out 0 _ rfl,Z0 yRd.out 1 _ rfl⟩
 obtain ⟨n0,z0,n1,z1,n2,z2,n3,z3,n4,z4,n5,z5,n6,z6,n7,z7,n8,z8⟩:=zfv rRd.out.1
 have a0:=Z0 rRd.out.2 0 (.int .i64 0) rfl
 have b0:=Z3 rRd.out.2 0
 have a1:=Z0 rRd.out.2 1 (.int .i64 0) rfl
 have b1:=Z3 rRd.out.2 1
 refine X2 (i:=0) (v:=?vq1) rfl (by kernel_rfl) (by kernel_rfl) (by kernel_rfl) (by kernel_rfl) (fun j hj=>by simp at hj;subst hj;kernel_rfl) (fun _ _ _ h=>h) (Or.inl ⟨by rfl,?hq1⟩) (by exact h0) ?rq1
 case hq1=>(intro w hSw;(try dsimp only at hSw);obtain ⟨t0,t1,t2,t3,t4,t5,t6,t7,t8,t9,t10⟩:=hSw;go_simp;try with_reducible rfl)
 try simp only [Act.put,zab,zac,zad]
 refine X2 (i:=1) (v:=?vq2) rfl (by kernel_rfl) (by kernel_rfl) (by kernel_rfl) (by kernel_rfl) (fun j hj=>by simp at hj;subst hj;kernel_rfl) (fun _ _ _ h=>h) (Or.inl ⟨by rfl,?hq2⟩) (by exact h0) ?rq2
 case hq2=>(intro w hSw;(try dsimp only at hSw);obtain ⟨t0,t1,t2,t3,t4,t5,t6,t7,t8,t9,t10⟩:=hSw;go_simp;try with_reducible rfl)
 try simp only [Act.put,zab,zac,zad]
 refine V6 (rs:=[2]) (by kernel_rfl) (by simp) ?_
 intro i hi
 simp only [List.mem_cons,List.not_mem_nil,or_false] at hi
 subst hi
 refine X8 (i:=2) rfl (fun K hK=>?_)
 go_simp
 refine hK.out _ _ (fun _=>(hS.out _ (cRd.out.put9 (b:=w.heap.size+1+1) (by simp) _ _ _ _ _ _ _ _ _))) ?_
 clear hK K
 try simp only [Act.put,zab,zac,zad]
 refine V6 (rs:=[3]) (by kernel_rfl) (by simp) ?_
 intro i hi
 simp only [List.mem_cons,List.not_mem_nil,or_false] at hi
 subst hi
 refine X8 (i:=3) rfl (fun K hK=>?_)
 go_simp
 refine hK.out _ _ (fun h=>Bool.noConfusion ((h 3 (by kernel_rfl)).symm.trans (show _=true by kernel_rfl))) ?_
 clear hK K
 try simp only [Act.put,zab,zac,zad]
 refine P3 (by kernel_rfl) ?_ _
 go_wp2_with fail
 refine bodyPost_ret (v:=.tuple #[.agg #[.int .i64 E.base,.int .i64 E.pages,.slice aw' E.words.length cw',.slice ad' E.dirty.length cd',.slice aS' E.spans.length cS',.slice am' E.muts.length cm',.int .i64 E.phase,.int .i64 E.next,.slice ag' E.grey.length cg'],.agg #[.int .i64 c,.int .i64 x]]) (by simp [results,Tryz.results88,go_sem,n0,n1,n2,n3,n4,n5,n6,n7,n8,z0,z1,z2,z3,z4,z5,z6,z7,z8,a0,a1,b0,b1]) rfl ?_
 exact ⟨_,E,c,x,y.out,rfl,(hv4.out.own.chg0 (bs:=[w.heap.size+1+1,w.heap.size+1+1+1]) (((cRd.out.put9 (b:=w.heap.size+1+1) (by simp) _ _ _ _ _ _ _ _ _).put (b:=w.heap.size+1+1+1) (by simp) 0 _).put (b:=w.heap.size+1+1+1) (by simp) 1 _) (fun q hq=>by simp only [List.mem_cons,List.not_mem_nil,or_false] at hq;have:=hz1.out;omega)).base_le (by have:=hz1.out;omega),Chg.below bb4.out (((cRd.out.put9 (b:=w.heap.size+1+1) (by simp) _ _ _ _ _ _ _ _ _).put (b:=w.heap.size+1+1+1) (by simp) 0 _).put (b:=w.heap.size+1+1+1) (by simp) 1 _) bb4.out.size (fun q hq=>by simp only [List.mem_cons,List.not_mem_nil,or_false] at hq;omega)⟩
end Go.Proofs.YtilkidaihbhfpaaGreat
