import Derived.Test.YtilkidaihbhfpaaGreatTsRR
import Derived.Test.YtilkidaihbhfpaaGreatTsV
import Derived.Test.YtilkidaihbhfpaaGreatTsQ
import Derived.Test.YtilkidaihbhfpaaGreatTsSW
import Derived.Test.YtilkidaihbhfpaaGreatTsSSpecDo
import Derived.Test.YtilkidaihbhfpaaGreatTsCaps

set_option maxRecDepth 100000
set_option maxHeartbeats 16000000
namespace Go.Proofs.YtilkidaihbhfpaaGreat
open Go.RowKit
set_option linter.unusedVariables false
def prO1:OpD:=⟨1,0,0,0,0,2,1⟩
def prO2:OpD:=⟨1,0,1,0,0,2,1⟩
def prO3:OpD:=⟨3,0,0,1,0,0,0⟩
def prO4:OpD:=⟨6,0,1,0,0,0,0⟩
def prS1:Y3:=⟨0,0,0,false,[2,0,0,0,0,0,0,0,0,0,0,0,0,0,0,0],[1,0,0,0,0,0,0,0,0,0,0,0,0,0,0,0]⟩
def prS:Y3:=⟨0,0,0,false,[2,2,0,0,0,0,0,0,0,0,0,0,0,0,0,0],[1,1,0,0,0,0,0,0,0,0,0,0,0,0,0,0]⟩
def prW (words:List Int) (dirty:List Bool) (spans:List Y3) (roots:List Int):WD:=⟨64,2,words,dirty,spans,[roots],0,0,[]⟩
def prD0:WD:=newD 64 2 1
def prD1:WD:=prW (List.replicate 64 0) [true,false,false,false,false,false,false,false] [prS1] [64,0,0,0,0,0]
def prD2:WD:=prW (List.replicate 64 0) [true,false,false,false,false,false,false,false] [prS] [64,66,0,0,0,0]
def prD3:WD:=prW (66 :: List.replicate 63 0) [true,false,false,false,false,false,false,false] [prS] [64,66,0,0,0,0]
def prD:WD:=prW (66 :: List.replicate 63 0) [true,false,false,false,false,false,false,false] [prS] [64,0,0,0,0,0]
theorem pr_do1:DoIs prD0 prO1 prD1 0 0:=by
 refine .inr (.inr ⟨⟨by decide,by decide⟩,.inr (.inr (.inr (.inr ⟨?_,?_,?_,?_,rfl⟩))),.inl ⟨rfl,.inl ⟨insD prD0 0 0,0,0,F3 prD0 0 0,zgp (insD prD0 0 0) 0 (F3 prD0 0 0) 0 2 1,?_,rfl,?_,by rfl,rfl⟩,rfl⟩⟩)
 ·exact ⟨by decide,by decide,by decide,by decide⟩
 ·intro h;unfold L3 prO1 at h;simp at h
 ·intro h;unfold N2 prO1 at h;simp at h
 ·intro h;unfold zle prO1;decide
 ·exact .inr ⟨fun i s h=>by simp [prD0,newD] at h,⟨by simp [prD0,newD],fun j s h=>absurd h (by omega),fun s h=>by simp [prD0,newD] at h⟩,by simp [prD0,newD],rfl,rfl⟩
 ·exact ⟨_,rfl,.inr ⟨fun h=>h.1 rfl,rfl⟩⟩
theorem pr_do2:DoIs prD1 prO2 prD2 0 0:=by
 refine .inr (.inr ⟨⟨by decide,by decide⟩,.inr (.inr (.inr (.inr ⟨?_,?_,?_,?_,rfl⟩))),.inl ⟨rfl,.inl ⟨prD1,0,1,prS1,zgp prD1 0 prS1 1 2 1,?_,rfl,?_,by rfl,rfl⟩,rfl⟩⟩)
 ·exact ⟨by decide,by decide,by decide,by decide⟩
 ·intro h;unfold L3 prO2 at h;simp at h
 ·intro h;unfold N2 prO2 at h;simp at h
 ·intro h;unfold zle prO2;decide
 ·refine .inl ⟨rfl,prS1,rfl,rfl,by decide,rfl,fun i hi=>?_,fun i s h=>absurd h (by omega)⟩
  obtain rfl:i=0:=by omega
  decide
 ·exact ⟨_,rfl,.inr ⟨fun h=>h.1 rfl,rfl⟩⟩
theorem pr_obj {W:List Int} {d:List Bool} {R:List Int}:U3 (prW W d [prS] R) 64 0 0:=⟨prS,rfl,by decide,by decide,by rfl⟩
theorem pr_do3:DoIs prD2 prO3 prD3 0 0:=by
 refine .inr (.inr ⟨⟨by decide,by decide⟩,.inr (.inr (.inr (.inr ⟨?_,?_,?_,?_,rfl⟩))),.inr (.inr (.inr (.inr ⟨.inr (.inl rfl),0,0,prS,pr_obj,rfl,.inr ⟨?_,.inr (.inl ⟨rfl,⟨prD2,prD2,?_,.inr ⟨?_,?_⟩,by rfl⟩,rfl⟩),rfl⟩⟩)))⟩)
 ·exact ⟨by decide,by decide,by decide,by decide⟩
 ·intro h;exact ⟨by decide,by decide⟩
 ·intro h;decide
 ·intro h;unfold prO3 at h;simp at h
 ·exact ⟨fun _=>⟨by decide,by decide⟩,fun h=>by unfold prO3 at h;simp at h⟩
 ·exact .inr ⟨fun h=>by rcases h with h | h <;> exact absurd h (by decide),rfl⟩
 ·intro h;rcases h with ⟨h,_⟩ | h | h <;> exact absurd h (by decide)
 ·exact .inr ⟨fun h=>by rcases h with h | h <;> exact absurd h (by decide),rfl⟩
theorem pr_do4:DoIs prD3 prO4 prD 0 0:=by
 refine .inr (.inr ⟨⟨by decide,by decide⟩,.inr (.inr (.inr (.inr ⟨?_,?_,?_,?_,rfl⟩))),.inr (.inl ⟨rfl,by rfl,rfl,rfl⟩)⟩)
 ·exact ⟨by decide,by decide,by decide,by decide⟩
 ·intro h;unfold L3 prO4 at h;simp at h
 ·intro h;unfold N2 prO4 at h;simp at h
 ·intro h;unfold prO4 at h;simp at h
theorem zkx:U0 prD0∧U1 prD0:=by
 have g:Geo 64 (2:Nat) (1:Nat):=by unfold Geo;omega
 exact ⟨znl g,zqu g⟩
theorem zkw:U0 prD1∧U1 prD1:=pr_do1.right zkx.1 zkx.2 ⟨by decide,by decide⟩
theorem zkv:U0 prD2∧U1 prD2:=pr_do2.right zkw.1 zkw.2 ⟨by decide,by decide⟩
theorem zku:U0 prD3∧U1 prD3:=pr_do3.right zkv.1 zkv.2 ⟨by decide,by decide⟩
theorem zky:U0 prD∧U1 prD:=pr_do4.right zku.1 zku.2 ⟨by decide,by decide⟩
theorem zqo (w:World) (B:Nat) (T:TypeId) (x0 x1 x2 x3 x4 x5 x6 x7 x8 v0 v1 v2 v3 v4 v5 v6 v7 v8:Value) (h:w.heap[B]?=some (.cells #[x0,x1,x2,x3,x4,x5,x6,x7,x8] T (0,0))) :
  (((((((((w.setCell ⟨B,0,none⟩ v0).setCell ⟨B,1,none⟩ v1).setCell ⟨B,2,none⟩ v2).setCell ⟨B,3,none⟩ v3).setCell ⟨B,4,none⟩ v4).setCell ⟨B,5,none⟩ v5).setCell ⟨B,6,none⟩ v6).setCell ⟨B,7,none⟩ v7).setCell ⟨B,8,none⟩ v8).heap[B]?=some (.cells #[v0,v1,v2,v3,v4,v5,v6,v7,v8] T (0,0))∧Chg [B] w (((((((((w.setCell ⟨B,0,none⟩ v0).setCell ⟨B,1,none⟩ v1).setCell ⟨B,2,none⟩ v2).setCell ⟨B,3,none⟩ v3).setCell ⟨B,4,none⟩ v4).setCell ⟨B,5,none⟩ v5).setCell ⟨B,6,none⟩ v6).setCell ⟨B,7,none⟩ v7).setCell ⟨B,8,none⟩ v8):=by
 have a0:=heap_setCell_same _ B 0 _ _ v0 h
 have a1:=heap_setCell_same _ B 1 _ _ v1 a0
 have a2:=heap_setCell_same _ B 2 _ _ v2 a1
 have a3:=heap_setCell_same _ B 3 _ _ v3 a2
 have a4:=heap_setCell_same _ B 4 _ _ v4 a3
 have a5:=heap_setCell_same _ B 5 _ _ v5 a4
 have a6:=heap_setCell_same _ B 6 _ _ v6 a5
 have a7:=heap_setCell_same _ B 7 _ _ v7 a6
 have a8:=heap_setCell_same _ B 8 _ _ v8 a7
 refine ⟨by simpa using a8,?_⟩
 exact (((((((((Chg.refl [B] w).put (by simp) 0 v0).put (by simp) 1 v1).put (by simp) 2 v2).put (by simp) 3 v3).put (by simp) 4 v4).put (by simp) 5 v5).put (by simp) 6 v6).put (by simp) 7 v7).put (by simp) 8 v8
theorem prD0_new:zzs 64 2 1 prD0 true:=.inl ⟨by unfold Geo;omega,rfl,rfl⟩
theorem zyv {b p m:Int} {D1 D2:WD} {f1 f2:Bool} (h1:zzs b p m D1 f1) (h2:zzs b p m D2 f2):D2=D1∧f2=f1:=by
 rcases h1 with ⟨g,rfl,rfl⟩ | ⟨g,rfl,rfl⟩ <;> rcases h2 with ⟨g',rfl,rfl⟩ | ⟨g',rfl,rfl⟩
 ·exact ⟨rfl,rfl⟩
 ·exact absurd g g'
 ·exact absurd g' g
 ·exact ⟨rfl,rfl⟩
theorem pair_gen (D0 D1 D2 D3 D4:WD) (n0:zzs 64 2 1 D0 true)
  (k1:zii D0 prO1 D1 0 0) (k2:zii D1 prO2 D2 0 0) (k3:zii D2 prO3 D3 0 0) (k4:zii D3 prO4 D4 0 0)
  (s0:zgk D0) (s1:zgk D1) (s2:zgk D2) (s3:zgk D3) (f0:FitD D0) (f1:FitD D1) (f2:FitD D2) (f3:FitD D3) (w:World) :
  Calls Tryz.prog 45 #[] w fun e w'=>∃ S,e=.returned (S.val D4)∧OwnW w' w.heap.size S D4∧Below w.heap.size w w':=by
 have hn0:=zaa n0
 have hk1:=zaa k1
 have hd1:=zaa (fun v w cg hr=>zhp v D0 prO1 s0 f0 cg w hr)
 have hk2:=zaa k2
 have hd2:=zaa (fun v w cg hr=>zhp v D1 prO2 s1 f1 cg w hr)
 have hk3:=zaa k3
 have hd3:=zaa (fun v w cg hr=>zhp v D2 prO3 s2 f2 cg w hr)
 have hk4:=zaa k4
 have hd4:=zaa (fun v w cg hr=>zhp v D3 prO4 s3 f3 cg w hr)
 clear n0 k1 k2 k3 k4 s0 s1 s2 s3 f0 f1 f2 f3
 have bR:=zaa (Z5 w (.cells #[.int .i64 0,.int .i64 0,.slice none 0 0,.slice none 0 0,.slice none 0 0,.slice none 0 0,.int .i64 0,.int .i64 0,.slice none 0 0] 30))
 have rR:=zaa (Y6 w (.cells #[.int .i64 0,.int .i64 0,.slice none 0 0,.slice none 0 0,.slice none 0 0,.slice none 0 0,.int .i64 0,.int .i64 0,.slice none 0 0] 30))
 have hsz:=zaa (show (w.alloc (.cells #[.int .i64 0,.int .i64 0,.slice none 0 0,.slice none 0 0,.slice none 0 0,.slice none 0 0,.int .i64 0,.int .i64 0,.slice none 0 0] 30)).heap.size=w.heap.size+1 by simp)
 go_enter Tryz.func45,Tryz.ntmps45
 go_upto_region 1 with fail
 generalize w.alloc (.cells #[.int .i64 0,.int .i64 0,.slice none 0 0,.slice none 0 0,.slice none 0 0,.slice none 0 0,.int .i64 0,.int .i64 0,.slice none 0 0] 30)=W at *
 go_wp2_with fail
 refine (zpi 64 2 1 _).mono ?_
 rintro e w1 ⟨S1,E,f,hn,rfl,h1,b1⟩
 obtain ⟨rfl,rfl⟩:=zyv hn hn0.out
 obtain ⟨aw1,ad1,aS1,am1,ag1,cw1,cd1,cS1,cm1,cg1,sv1,mv1,rfl⟩:=Y2.lits h1
 have bb1:=zaa (Z4 bR.out (Z4 b1 (Z5 w1 (.cells #[.int .i64 D0.base,.int .i64 D0.pages,.slice aw1 D0.words.length cw1,.slice ad1 D0.dirty.length cd1,.slice aS1 D0.spans.length cS1,.slice am1 D0.muts.length cm1,.int .i64 D0.phase,.int .i64 D0.next,.slice ag1 D0.grey.length cg1] 30))))
 have rR1:=zaa (Z6 (Z4 b1 (Z5 w1 (.cells #[.int .i64 D0.base,.int .i64 D0.pages,.slice aw1 D0.words.length cw1,.slice ad1 D0.dirty.length cd1,.slice aS1 D0.spans.length cS1,.slice am1 D0.muts.length cm1,.int .i64 D0.phase,.int .i64 D0.next,.slice ag1 D0.grey.length cg1] 30))) rR.out)
 have x1:=zaa (Y6 w1 (.cells #[.int .i64 D0.base,.int .i64 D0.pages,.slice aw1 D0.words.length cw1,.slice ad1 D0.dirty.length cd1,.slice aS1 D0.spans.length cS1,.slice am1 D0.muts.length cm1,.int .i64 D0.phase,.int .i64 D0.next,.slice ag1 D0.grey.length cg1] 30))
 have o1:=zaa (h1.below (Z5 w1 (.cells #[.int .i64 D0.base,.int .i64 D0.pages,.slice aw1 D0.words.length cw1,.slice ad1 D0.dirty.length cd1,.slice aS1 D0.spans.length cS1,.slice am1 D0.muts.length cm1,.int .i64 D0.phase,.int .i64 D0.next,.slice ag1 D0.grey.length cg1] 30)))
 have hV:=zaa (show w.heap.size<w1.heap.size by have:=hsz.out;have:=b1.size;omega)
 have hV1:=zaa (show w1.heap.size<(w1.alloc (.cells #[.int .i64 D0.base,.int .i64 D0.pages,.slice aw1 D0.words.length cw1,.slice ad1 D0.dirty.length cd1,.slice aS1 D0.spans.length cS1,.slice am1 D0.muts.length cm1,.int .i64 D0.phase,.int .i64 D0.next,.slice ag1 D0.grey.length cg1] 30)).heap.size by simp)
 clear hn h1 b1 rR hn0
 dsimp only [Y2.val]
 go_upto_region 2 with fail
 generalize w1.alloc (.cells #[.int .i64 D0.base,.int .i64 D0.pages,.slice aw1 D0.words.length cw1,.slice ad1 D0.dirty.length cd1,.slice aS1 D0.spans.length cS1,.slice am1 D0.muts.length cm1,.int .i64 D0.phase,.int .i64 D0.next,.slice ag1 D0.grey.length cg1] 30)=W1 at *
 obtain ⟨f0,f1,f2,f3,f4,f5,f6,f7,f8⟩:=U5 x1.out
 go_wp2_with fail
 refine (hd1.out _ _ o1.out.capGrey o1.out.rd).mono ?_
 rintro e w2 ⟨S2,E,c,x,hq,rfl,h2,b2⟩
 obtain ⟨rfl,rfl,rfl⟩:=hq.unique hk1.out
 obtain ⟨aw2,ad2,aS2,am2,ag2,cw2,cd2,cS2,cm2,cg2,sv2,mv2,rfl⟩:=Y2.lits h2
 have bb2a:=zaa (Z4 bb1.out b2)
 have rR2a:=zaa (Z6 b2 rR1.out)
 have x2a:=zaa (Z6 b2 x1.out)
 have o2a:=zaa h2
 have sz2:=zaa b2.size
 clear hq h2 b2 hk1 hd1
 clear f0 f1 f2 f3 f4 f5 f6 f7 f8
 obtain ⟨n0,z0,n1,z1,n2,z2,n3,z3,n4,z4,n5,z5,n6,z6,n7,z7,n8,z8⟩:=zfv x2a.out
 dsimp only [Y2.val]
 go_upto_region 3 with fail
 have rf:=zqo w2 w1.heap.size 30 (.int .i64 D0.base) (.int .i64 D0.pages) (.slice aw1 D0.words.length cw1) (.slice ad1 D0.dirty.length cd1) (.slice aS1 D0.spans.length cS1) (.slice am1 D0.muts.length cm1) (.int .i64 D0.phase) (.int .i64 D0.next) (.slice ag1 D0.grey.length cg1) (.int .i64 D1.base) (.int .i64 D1.pages) (.slice aw2 D1.words.length cw2) (.slice ad2 D1.dirty.length cd2) (.slice aS2 D1.spans.length cS2) (.slice am2 D1.muts.length cm2) (.int .i64 D1.phase) (.int .i64 D1.next) (.slice ag2 D1.grey.length cg2) x2a.out
 generalize (((((((((w2.setCell ⟨w1.heap.size,0,none⟩ (.int .i64 D1.base)).setCell ⟨w1.heap.size,1,none⟩ (.int .i64 D1.pages)).setCell ⟨w1.heap.size,2,none⟩ (.slice aw2 D1.words.length cw2)).setCell ⟨w1.heap.size,3,none⟩ (.slice ad2 D1.dirty.length cd2)).setCell ⟨w1.heap.size,4,none⟩ (.slice aS2 D1.spans.length cS2)).setCell ⟨w1.heap.size,5,none⟩ (.slice am2 D1.muts.length cm2)).setCell ⟨w1.heap.size,6,none⟩ (.int .i64 D1.phase)).setCell ⟨w1.heap.size,7,none⟩ (.int .i64 D1.next)).setCell ⟨w1.heap.size,8,none⟩ (.slice ag2 D1.grey.length cg2))=W2 at *
 have x2:=zaa rf.1
 have cc:=rf.2
 have o2:=zaa (o2a.out.chg0 cc (fun q hq=>by rw [List.mem_singleton.1 hq];exact hV1.out))
 have bb2:=zaa (Chg.below bb2a.out cc bb2a.out.size (fun q hq=>by rw [List.mem_singleton.1 hq];exact Nat.le_of_lt hV.out))
 have rR2:=zaa ((cc.block _ (Array.getElem?_eq_some_iff.1 rR2a.out).1 (fun hq=>by have:=hV.out;have:=List.mem_singleton.1 hq;omega)).trans rR2a.out)
 have hV2:=zaa (show w1.heap.size<W2.heap.size from Nat.lt_of_lt_of_le hV1.out (Nat.le_trans sz2.out cc.size))
 clear n0 n1 n2 n3 n4 n5 n6 n7 n8 z0 z1 z2 z3 z4 z5 z6 z7 z8
 clear rf cc o2a bb2a rR2a x2a x1 o1 rR1 bb1 sz2
 obtain ⟨f0,f1,f2,f3,f4,f5,f6,f7,f8⟩:=U5 x2.out
 go_wp2_with fail
 refine (hd2.out _ _ o2.out.capGrey o2.out.rd).mono ?_
 rintro e w3 ⟨S3,E,c,x,hq,rfl,h3,b3⟩
 obtain ⟨rfl,rfl,rfl⟩:=hq.unique hk2.out
 obtain ⟨aw3,ad3,aS3,am3,ag3,cw3,cd3,cS3,cm3,cg3,sv3,mv3,rfl⟩:=Y2.lits h3
 have bb3a:=zaa (Z4 bb2.out b3)
 have rR3a:=zaa (Z6 b3 rR2.out)
 have x3a:=zaa (Z6 b3 x2.out)
 have o3a:=zaa h3
 have sz3:=zaa b3.size
 clear hq h3 b3 hk2 hd2
 clear f0 f1 f2 f3 f4 f5 f6 f7 f8
 obtain ⟨n0,z0,n1,z1,n2,z2,n3,z3,n4,z4,n5,z5,n6,z6,n7,z7,n8,z8⟩:=zfv x3a.out
 dsimp only [Y2.val]
 go_upto_region 4 with fail
 have rf:=zqo w3 w1.heap.size 30 (.int .i64 D1.base) (.int .i64 D1.pages) (.slice aw2 D1.words.length cw2) (.slice ad2 D1.dirty.length cd2) (.slice aS2 D1.spans.length cS2) (.slice am2 D1.muts.length cm2) (.int .i64 D1.phase) (.int .i64 D1.next) (.slice ag2 D1.grey.length cg2) (.int .i64 D2.base) (.int .i64 D2.pages) (.slice aw3 D2.words.length cw3) (.slice ad3 D2.dirty.length cd3) (.slice aS3 D2.spans.length cS3) (.slice am3 D2.muts.length cm3) (.int .i64 D2.phase) (.int .i64 D2.next) (.slice ag3 D2.grey.length cg3) x3a.out
 generalize (((((((((w3.setCell ⟨w1.heap.size,0,none⟩ (.int .i64 D2.base)).setCell ⟨w1.heap.size,1,none⟩ (.int .i64 D2.pages)).setCell ⟨w1.heap.size,2,none⟩ (.slice aw3 D2.words.length cw3)).setCell ⟨w1.heap.size,3,none⟩ (.slice ad3 D2.dirty.length cd3)).setCell ⟨w1.heap.size,4,none⟩ (.slice aS3 D2.spans.length cS3)).setCell ⟨w1.heap.size,5,none⟩ (.slice am3 D2.muts.length cm3)).setCell ⟨w1.heap.size,6,none⟩ (.int .i64 D2.phase)).setCell ⟨w1.heap.size,7,none⟩ (.int .i64 D2.next)).setCell ⟨w1.heap.size,8,none⟩ (.slice ag3 D2.grey.length cg3))=W3 at *
 have x3:=zaa rf.1
 have cc:=rf.2
 have o3:=zaa (o3a.out.chg0 cc (fun q hq=>by rw [List.mem_singleton.1 hq];exact hV2.out))
 have bb3:=zaa (Chg.below bb3a.out cc bb3a.out.size (fun q hq=>by rw [List.mem_singleton.1 hq];exact Nat.le_of_lt hV.out))
 have rR3:=zaa ((cc.block _ (Array.getElem?_eq_some_iff.1 rR3a.out).1 (fun hq=>by have:=hV.out;have:=List.mem_singleton.1 hq;omega)).trans rR3a.out)
 have hV3:=zaa (show w1.heap.size<W3.heap.size from Nat.lt_of_lt_of_le hV2.out (Nat.le_trans sz3.out cc.size))
 clear n0 n1 n2 n3 n4 n5 n6 n7 n8 z0 z1 z2 z3 z4 z5 z6 z7 z8
 clear rf cc o3a bb3a rR3a x3a x2 o2 rR2 bb2 sz3
 obtain ⟨f0,f1,f2,f3,f4,f5,f6,f7,f8⟩:=U5 x3.out
 go_wp2_with fail
 refine (hd3.out _ _ o3.out.capGrey o3.out.rd).mono ?_
 rintro e w4 ⟨S4,E,c,x,hq,rfl,h4,b4⟩
 obtain ⟨rfl,rfl,rfl⟩:=hq.unique hk3.out
 obtain ⟨aw4,ad4,aS4,am4,ag4,cw4,cd4,cS4,cm4,cg4,sv4,mv4,rfl⟩:=Y2.lits h4
 have bb4a:=zaa (Z4 bb3.out b4)
 have rR4a:=zaa (Z6 b4 rR3.out)
 have x4a:=zaa (Z6 b4 x3.out)
 have o4a:=zaa h4
 have sz4:=zaa b4.size
 clear hq h4 b4 hk3 hd3
 clear f0 f1 f2 f3 f4 f5 f6 f7 f8
 obtain ⟨n0,z0,n1,z1,n2,z2,n3,z3,n4,z4,n5,z5,n6,z6,n7,z7,n8,z8⟩:=zfv x4a.out
 dsimp only [Y2.val]
 go_upto_region 5 with fail
 have rf:=zqo w4 w1.heap.size 30 (.int .i64 D2.base) (.int .i64 D2.pages) (.slice aw3 D2.words.length cw3) (.slice ad3 D2.dirty.length cd3) (.slice aS3 D2.spans.length cS3) (.slice am3 D2.muts.length cm3) (.int .i64 D2.phase) (.int .i64 D2.next) (.slice ag3 D2.grey.length cg3) (.int .i64 D3.base) (.int .i64 D3.pages) (.slice aw4 D3.words.length cw4) (.slice ad4 D3.dirty.length cd4) (.slice aS4 D3.spans.length cS4) (.slice am4 D3.muts.length cm4) (.int .i64 D3.phase) (.int .i64 D3.next) (.slice ag4 D3.grey.length cg4) x4a.out
 generalize (((((((((w4.setCell ⟨w1.heap.size,0,none⟩ (.int .i64 D3.base)).setCell ⟨w1.heap.size,1,none⟩ (.int .i64 D3.pages)).setCell ⟨w1.heap.size,2,none⟩ (.slice aw4 D3.words.length cw4)).setCell ⟨w1.heap.size,3,none⟩ (.slice ad4 D3.dirty.length cd4)).setCell ⟨w1.heap.size,4,none⟩ (.slice aS4 D3.spans.length cS4)).setCell ⟨w1.heap.size,5,none⟩ (.slice am4 D3.muts.length cm4)).setCell ⟨w1.heap.size,6,none⟩ (.int .i64 D3.phase)).setCell ⟨w1.heap.size,7,none⟩ (.int .i64 D3.next)).setCell ⟨w1.heap.size,8,none⟩ (.slice ag4 D3.grey.length cg4))=W4 at *
 have x4:=zaa rf.1
 have cc:=rf.2
 have o4:=zaa (o4a.out.chg0 cc (fun q hq=>by rw [List.mem_singleton.1 hq];exact hV3.out))
 have bb4:=zaa (Chg.below bb4a.out cc bb4a.out.size (fun q hq=>by rw [List.mem_singleton.1 hq];exact Nat.le_of_lt hV.out))
 have rR4:=zaa ((cc.block _ (Array.getElem?_eq_some_iff.1 rR4a.out).1 (fun hq=>by have:=hV.out;have:=List.mem_singleton.1 hq;omega)).trans rR4a.out)
 have hV4:=zaa (show w1.heap.size<W4.heap.size from Nat.lt_of_lt_of_le hV3.out (Nat.le_trans sz4.out cc.size))
 clear n0 n1 n2 n3 n4 n5 n6 n7 n8 z0 z1 z2 z3 z4 z5 z6 z7 z8
 clear rf cc o4a bb4a rR4a x4a x3 o3 rR3 bb3 sz4
 obtain ⟨f0,f1,f2,f3,f4,f5,f6,f7,f8⟩:=U5 x4.out
 go_wp2_with fail
 refine (hd4.out _ _ o4.out.capGrey o4.out.rd).mono ?_
 rintro e w5 ⟨S5,E,c,x,hq,rfl,h5,b5⟩
 obtain ⟨rfl,rfl,rfl⟩:=hq.unique hk4.out
 obtain ⟨aw5,ad5,aS5,am5,ag5,cw5,cd5,cS5,cm5,cg5,sv5,mv5,rfl⟩:=Y2.lits h5
 have bb5a:=zaa (Z4 bb4.out b5)
 have rR5a:=zaa (Z6 b5 rR4.out)
 have x5a:=zaa (Z6 b5 x4.out)
 have o5a:=zaa h5
 have sz5:=zaa b5.size
 clear hq h5 b5 hk4 hd4
 clear f0 f1 f2 f3 f4 f5 f6 f7 f8
 obtain ⟨n0,z0,n1,z1,n2,z2,n3,z3,n4,z4,n5,z5,n6,z6,n7,z7,n8,z8⟩:=zfv x5a.out
 dsimp only [Y2.val]
 go_upto_region 6 with fail
 have rf:=zqo w5 w1.heap.size 30 (.int .i64 D3.base) (.int .i64 D3.pages) (.slice aw4 D3.words.length cw4) (.slice ad4 D3.dirty.length cd4) (.slice aS4 D3.spans.length cS4) (.slice am4 D3.muts.length cm4) (.int .i64 D3.phase) (.int .i64 D3.next) (.slice ag4 D3.grey.length cg4) (.int .i64 D4.base) (.int .i64 D4.pages) (.slice aw5 D4.words.length cw5) (.slice ad5 D4.dirty.length cd5) (.slice aS5 D4.spans.length cS5) (.slice am5 D4.muts.length cm5) (.int .i64 D4.phase) (.int .i64 D4.next) (.slice ag5 D4.grey.length cg5) x5a.out
 generalize (((((((((w5.setCell ⟨w1.heap.size,0,none⟩ (.int .i64 D4.base)).setCell ⟨w1.heap.size,1,none⟩ (.int .i64 D4.pages)).setCell ⟨w1.heap.size,2,none⟩ (.slice aw5 D4.words.length cw5)).setCell ⟨w1.heap.size,3,none⟩ (.slice ad5 D4.dirty.length cd5)).setCell ⟨w1.heap.size,4,none⟩ (.slice aS5 D4.spans.length cS5)).setCell ⟨w1.heap.size,5,none⟩ (.slice am5 D4.muts.length cm5)).setCell ⟨w1.heap.size,6,none⟩ (.int .i64 D4.phase)).setCell ⟨w1.heap.size,7,none⟩ (.int .i64 D4.next)).setCell ⟨w1.heap.size,8,none⟩ (.slice ag5 D4.grey.length cg5))=W5 at *
 have x5:=zaa rf.1
 have cc:=rf.2
 have o5:=zaa (o5a.out.chg0 cc (fun q hq=>by rw [List.mem_singleton.1 hq];exact hV4.out))
 have bb5:=zaa (Chg.below bb5a.out cc bb5a.out.size (fun q hq=>by rw [List.mem_singleton.1 hq];exact Nat.le_of_lt hV.out))
 have rR5:=zaa ((cc.block _ (Array.getElem?_eq_some_iff.1 rR5a.out).1 (fun hq=>by have:=hV.out;have:=List.mem_singleton.1 hq;omega)).trans rR5a.out)
 have hV5:=zaa (show w1.heap.size<W5.heap.size from Nat.lt_of_lt_of_le hV4.out (Nat.le_trans sz5.out cc.size))
 clear n0 n1 n2 n3 n4 n5 n6 n7 n8 z0 z1 z2 z3 z4 z5 z6 z7 z8
 clear rf cc o5a bb5a rR5a x5a x4 o4 rR4 bb4 sz5
 obtain ⟨f0,f1,f2,f3,f4,f5,f6,f7,f8⟩:=U5 x5.out
 obtain ⟨n0,z0,n1,z1,n2,z2,n3,z3,n4,z4,n5,z5,n6,z6,n7,z7,n8,z8⟩:=zfv rR5.out
 have hne:¬ (w1.heap.size=w.heap.size):=by have:=hV.out;omega
 have hne':¬ (w.heap.size=w1.heap.size):=fun e=>hne e.symm
 go_wp2_with fail
 refine bodyPost_ret (v:=(.agg #[.int .i64 D4.base,.int .i64 D4.pages,.slice aw5 D4.words.length cw5,.slice ad5 D4.dirty.length cd5,.slice aS5 D4.spans.length cS5,.slice am5 D4.muts.length cm5,.int .i64 D4.phase,.int .i64 D4.next,.slice ag5 D4.grey.length cg5])) (by simp [results,Tryz.results45,go_sem,n0,n1,n2,n3,n4,n5,n6,n7,n8]) rfl ?_
 have rf:=zqo W5 w.heap.size 30 (.int .i64 0) (.int .i64 0) (.slice none 0 0) (.slice none 0 0) (.slice none 0 0) (.slice none 0 0) (.int .i64 0) (.int .i64 0) (.slice none 0 0) (.int .i64 D4.base) (.int .i64 D4.pages) (.slice aw5 D4.words.length cw5) (.slice ad5 D4.dirty.length cd5) (.slice aS5 D4.spans.length cS5) (.slice am5 D4.muts.length cm5) (.int .i64 D4.phase) (.int .i64 D4.next) (.slice ag5 D4.grey.length cg5) rR5.out
 exact ⟨_,rfl,(o5.out.chg0 rf.2 (fun q hq=>by rw [List.mem_singleton.1 hq];have:=hV.out;have:=hV4.out;omega)).base (by have:=hV.out;have:=hV4.out;omega),Chg.below bb5.out rf.2 bb5.out.size (fun q hq=>by rw [List.mem_singleton.1 hq];exact Nat.le_refl _)⟩
theorem zht (D:WD) (h:D.bulk≤1000):zgk D:=zgk.of_bulk (by omega)
theorem pair_any (w:World):Calls Tryz.prog 45 #[] w fun e w'=>∃ S,e=.returned (S.val prD)∧OwnW w' w.heap.size S prD∧Below w.heap.size w w' :=
 pair_gen prD0 prD1 prD2 prD3 prD prD0_new (.inl ⟨zkx.1,⟨by decide,by decide⟩,pr_do1⟩) (.inl ⟨zkw.1,⟨by decide,by decide⟩,pr_do2⟩) (.inl ⟨zkv.1,⟨by decide,by decide⟩,pr_do3⟩) (.inl ⟨zku.1,⟨by decide,by decide⟩,pr_do4⟩)
  (zht _ (by decide)) (zht _ (by decide)) (zht _ (by decide)) (zht _ (by decide)) zkx.2.fit zkw.2.fit zkv.2.fit zku.2.fit w
end Go.Proofs.YtilkidaihbhfpaaGreat
