import Derived.Test.YtilkidaihbhfpaaGreatTsPR
import Derived.Test.YtilkidaihbhfpaaGreatTsG
import Derived.Test.YtilkidaihbhfpaaGreatTsLeft
import Derived.Test.YtilkidaihbhfpaaGreatTsGCI
import Derived.Test.YtilkidaihbhfpaaGreatTsILeft
import Derived.Test.YtilkidaihbhfpaaGreatTsCaps
import Derived.Test.YtilkidaihbhfpaaGreatTsRR

set_option maxRecDepth 100000
set_option maxHeartbeats 16000000
namespace Go.Proofs.YtilkidaihbhfpaaGreat
open Go.RowKit
set_option linter.unusedVariables false
def prG (ph nx mk:Int) (sw:Bool) (grey:List Int):WD :=
 ⟨64,2,66 :: List.replicate 63 0,[true,false,false,false,false,false,false,false],[{ prS with mark:=mk,swept:=sw }],[[64,0,0,0,0,0]],ph,nx,grey⟩
theorem ztt (ph nx mk:Int) (sw:Bool) (g:List Int):U3 (prG ph nx mk sw g) 64 0 0:=⟨{ prS with mark:=mk,swept:=sw },rfl,by show 0<16;decide,by show (0:Int)<2;decide,by show (64:Int)+(0*32+0*2)=64;decide⟩
theorem zts (ph nx mk:Int) (sw:Bool) (g:List Int):U3 (prG ph nx mk sw g) 66 0 1:=⟨{ prS with mark:=mk,swept:=sw },rfl,by show 1<16;decide,by show (0:Int)<2;decide,by show (64:Int)+(0*32+1*2)=66;decide⟩
theorem zvm (nx:Int):V1 (prG 1 nx 0 false []) 64 (prG 1 nx 1 false [64]):=.inl ⟨0,0,{ prS with mark:=0,swept:=false },.inl rfl,ztt _ _ _ _ _,rfl,by unfold bitI;decide,rfl⟩
theorem zon (ph nx:Int) (h:ph=1∨ph=2) (g:List Int):V1 (prG ph nx 1 false g) 66 (prG ph nx 3 false (g ++ [66])):=.inl ⟨0,1,{ prS with mark:=1,swept:=false },h,zts _ _ _ _ _,rfl,by unfold bitI;decide,rfl⟩
theorem prG_1:zet (prG 1 0 0 false []) (prG 1 1 1 false [64]):=.inr (.inl ⟨rfl,.inl ⟨[64,0,0,0,0,0],prG 1 0 1 false [64],by decide,rfl,.cons (zvm 0) (.nil _),rfl⟩⟩)
theorem prG_2:zet (prG 1 1 1 false [64]) (prG 2 0 1 false [64]):=.inr (.inl ⟨rfl,.inr ⟨rfl,rfl⟩⟩)
theorem prG_3:zet (prG 2 0 1 false [64]) (prG 2 0 3 false [66]):=.inr (.inr (.inl ⟨rfl,.inl ⟨[],64,0,0,{ prS with mark:=1,swept:=false },rfl,ztt _ _ _ _ _,rfl,.cons (zon 2 0 (.inr rfl) []) (.nil _)⟩⟩))
theorem prG_4:zet (prG 2 0 3 false [66]) (prG 2 0 3 false []):=.inr (.inr (.inl ⟨rfl,.inl ⟨[],66,0,1,{ prS with mark:=3,swept:=false },rfl,zts _ _ _ _ _,rfl,.nil _⟩⟩))
theorem prG_5:zet (prG 2 0 3 false []) (prG 3 0 3 false []):=.inr (.inr (.inl ⟨rfl,.inr ⟨rfl,rfl⟩⟩))
theorem prG_6:zet (prG 3 0 3 false []) (prG 4 0 3 false []):=.inr (.inr (.inr (.inl ⟨rfl,rfl⟩)))
theorem zqs:U2 (prG 4 0 3 false []) 0 16=prG 4 0 3 false []:=by rfl
theorem prG_7:zet (prG 4 0 3 false []) (prG 4 0 0 true []):=by
 refine .inr (.inr (.inr (.inr ⟨rfl,.inl ⟨0,{ prS with mark:=3,swept:=false },⟨rfl,rfl,fun q t h=>absurd h (by omega)⟩,{ prS with mark:=3,swept:=false },?_,.inr ⟨?_,?_⟩⟩⟩)))
 ·show (U2 (prG 4 0 3 false []) 0 16).spans[0]?=_
  rw [zqs];rfl
 ·intro h;exact h 0 (by show 0<16;decide) (by show (0:Int)<2;decide)
 ·show _=P8 (U2 (prG 4 0 3 false []) 0 16) 0 _
  rw [zqs];rfl
theorem prG_8:zet (prG 4 0 0 true []) (prG 0 0 0 false []):=by
 refine .inr (.inr (.inr (.inr ⟨rfl,.inr ⟨fun s hs=>?_,rfl⟩⟩)))
 obtain rfl:s={ prS with mark:=0,swept:=true }:=by simpa [prG] using hs
 rfl
theorem prG_all:zfh 8 (prG 1 0 0 false []) (prG 0 0 0 false []) :=
 .more (.more (.more (.more (.more (.more (.more (.more (.none _) prG_1) prG_2) prG_3) prG_4) prG_5) prG_6) prG_7) prG_8
theorem prG_left:zjq (prG 1 0 0 false [])=8:=by rfl
theorem zvl (D E X Y Z:WD) (kS:ziu D E true) (kL:ziw E (.returned (.int .i64 8))) (kR:zoa E 8 X) (kP:zhh E Y) (kZ:zhz Y 66 Z)
  (hx0:X.phase=0) (hx1:X.spans.length=1) (hy0:Y.next=1) (hy1:Y.grey.length=1) (hz:Z.grey.length=2) (sD:zgk D) (fD:FitD D) (sE:zgk E) (fE:FitD E) (sY:zgk Y) (fY:FitD Y)
  (hp:∀ w,Calls Tryz.prog 45 #[] w fun e w'=>∃ S,e=.returned (S.val D)∧OwnW w' w.heap.size S D∧Below w.heap.size w w') (w:World) :
  Calls Tryz.prog 20 #[] w fun e w'=>e=.returned (.bool true)∧Below w.heap.size w w':=by
 have hp':=zaa (hp w)
 have cS:=zaa (fun v w c h=>zov v D sD fD c w h)
 have cL:=zaa (fun v w c h=>zrb v E fE c w h)
 have cR:=zaa (fun v w c h=>zoy v E 8 sE fE c w h)
 have cP:=zaa (fun v w c h=>zsr v E sE fE c w h)
 have cZ:=zaa (fun v w c h=>zka v Y 66 (by unfold I64;omega) sY fY c w h)
 have kS':=zaa kS
 have kL':=zaa kL
 have kR':=zaa kR
 have kP':=zaa kP
 have kZ':=zaa kZ
 have fE':=zaa fE
 have d0:(X.phase == 0)=true:=beq_iff_eq.2 hx0
 have d1:((X.spans.length:Int) == 1)=true:=beq_iff_eq.2 (by rw [hx1];rfl)
 have d2:(Y.next == 1)=true:=beq_iff_eq.2 hy0
 have d3:((Y.grey.length:Int) == 1)=true:=beq_iff_eq.2 (by rw [hy1];rfl)
 have d4:((Z.grey.length:Int) == 2)=true:=beq_iff_eq.2 (by rw [hz];rfl)
 clear kS kL kR kP kZ hx0 hx1 hy0 hy1 hz sD fD sE fE sY fY hp
 go_enter Tryz.func20,Tryz.ntmps20
 go_wp2_with fail
 refine hp'.out.mono ?_
 rintro e w1 ⟨S1,rfl,h1,b1⟩
 obtain ⟨aw1,ad1,aS1,am1,ag1,cw1,cd1,cS1,cm1,cg1,sv1,mv1,rfl⟩:=Y2.lits h1
 have hc1:=zaa h1.capWords
 have o1:=zaa h1.rd
 have bb1:=zaa b1
 clear h1 b1 hp'
 dsimp only [Y2.val] at hc1 o1 ⊢
 go_wp2_with fail
 refine (cS.out _ _ hc1.out o1.out).mono ?_
 rintro e w2 ⟨S2,E',f,hq,rfl,h2,b2⟩
 obtain ⟨rfl,rfl⟩:=hq.unique kS'.out
 obtain ⟨aw2,ad2,aS2,am2,ag2,cw2,cd2,cS2,cm2,cg2,sv2,mv2,rfl⟩:=Y2.lits h2
 have bb2:=zaa (Z4 bb1.out (Z4 b2 (Z5 w2 (.cells #[.int .i64 E.base,.int .i64 E.pages,.slice aw2 E.words.length cw2,.slice ad2 E.dirty.length cd2,.slice aS2 E.spans.length cS2,.slice am2 E.muts.length cm2,.int .i64 E.phase,.int .i64 E.next,.slice ag2 E.grey.length cg2] 30))))
 have x2:=zaa (Y6 w2 (.cells #[.int .i64 E.base,.int .i64 E.pages,.slice aw2 E.words.length cw2,.slice ad2 E.dirty.length cd2,.slice aS2 E.spans.length cS2,.slice am2 E.muts.length cm2,.int .i64 E.phase,.int .i64 E.next,.slice ag2 E.grey.length cg2] 30))
 have hc2:=zaa h2.capWords
 have o2:=zaa (h2.below (Z5 w2 (.cells #[.int .i64 E.base,.int .i64 E.pages,.slice aw2 E.words.length cw2,.slice ad2 E.dirty.length cd2,.slice aS2 E.spans.length cS2,.slice am2 E.muts.length cm2,.int .i64 E.phase,.int .i64 E.next,.slice ag2 E.grey.length cg2] 30))).rd
 clear hq h2 b2 hc1 o1 bb1 cS
 dsimp only [Y2.val] at hc2 o2 ⊢
 go_upto_region 2 with fail
 generalize w2.alloc (.cells #[.int .i64 E.base,.int .i64 E.pages,.slice aw2 E.words.length cw2,.slice ad2 E.dirty.length cd2,.slice aS2 E.spans.length cS2,.slice am2 E.muts.length cm2,.int .i64 E.phase,.int .i64 E.next,.slice ag2 E.grey.length cg2] 30)=W2 at *
 obtain ⟨f0,f1,f2,f3,f4,f5,f6,f7,f8⟩:=U5 x2.out
 go_wp2_with fail
 refine (cL.out _ _ hc2.out o2.out).mono ?_
 rintro e w3 ⟨hq,b3⟩
 obtain rfl:=hq.unique kL'.out
 have bb3:=zaa (Z4 bb2.out b3)
 have x3:=zaa (Z6 b3 x2.out)
 have o3:=zaa (o2.out.below b3)
 clear hq b3 bb2 x2 o2 cL
 clear f0 f1 f2 f3 f4 f5 f6 f7 f8
 obtain ⟨f0,f1,f2,f3,f4,f5,f6,f7,f8⟩:=U5 x3.out
 go_wp2_with fail
 refine (cR.out _ _ hc2.out o3.out).mono ?_
 rintro e w4 ⟨S4,X',hq,rfl,h4,b4⟩
 obtain rfl:=zoa.unique fE'.out hq kR'.out
 obtain ⟨aw4,ad4,aS4,am4,ag4,cw4,cd4,cS4,cm4,cg4,sv4,mv4,rfl⟩:=Y2.lits h4
 have c4:=Z4 b4 (Z5 w4 (.cells #[.int .i64 X.base,.int .i64 X.pages,.slice aw4 X.words.length cw4,.slice ad4 X.dirty.length cd4,.slice aS4 X.spans.length cS4,.slice am4 X.muts.length cm4,.int .i64 X.phase,.int .i64 X.next,.slice ag4 X.grey.length cg4] 30))
 have bb4:=zaa (Z4 bb3.out c4)
 have x4:=zaa (Z6 c4 x3.out)
 have y4:=zaa (Y6 w4 (.cells #[.int .i64 X.base,.int .i64 X.pages,.slice aw4 X.words.length cw4,.slice ad4 X.dirty.length cd4,.slice aS4 X.spans.length cS4,.slice am4 X.muts.length cm4,.int .i64 X.phase,.int .i64 X.next,.slice ag4 X.grey.length cg4] 30))
 have o4:=zaa (o3.out.below c4)
 clear hq h4 b4 c4 bb3 x3 o3 cR
 clear f0 f1 f2 f3 f4 f5 f6 f7 f8
 dsimp only [Y2.val]
 go_upto_region 4 with fail
 generalize w4.alloc (.cells #[.int .i64 X.base,.int .i64 X.pages,.slice aw4 X.words.length cw4,.slice ad4 X.dirty.length cd4,.slice aS4 X.spans.length cS4,.slice am4 X.muts.length cm4,.int .i64 X.phase,.int .i64 X.next,.slice ag4 X.grey.length cg4] 30)=W4 at *
 obtain ⟨f0,f1,f2,f3,f4,f5,f6,f7,f8⟩:=U5 x4.out
 go_wp2_with fail
 refine (cP.out _ _ hc2.out o4.out).mono ?_
 rintro e w5 ⟨S5,Y',hq,rfl,h5,b5⟩
 obtain rfl:=hq.unique kP'.out
 obtain ⟨aw5,ad5,aS5,am5,ag5,cw5,cd5,cS5,cm5,cg5,sv5,mv5,rfl⟩:=Y2.lits h5
 have c5:=Z4 b5 (Z5 w5 (.cells #[.int .i64 Y.base,.int .i64 Y.pages,.slice aw5 Y.words.length cw5,.slice ad5 Y.dirty.length cd5,.slice aS5 Y.spans.length cS5,.slice am5 Y.muts.length cm5,.int .i64 Y.phase,.int .i64 Y.next,.slice ag5 Y.grey.length cg5] 30))
 have bb5:=zaa (Z4 bb4.out c5)
 have y5:=zaa (Z6 c5 y4.out)
 have x5:=zaa (Y6 w5 (.cells #[.int .i64 Y.base,.int .i64 Y.pages,.slice aw5 Y.words.length cw5,.slice ad5 Y.dirty.length cd5,.slice aS5 Y.spans.length cS5,.slice am5 Y.muts.length cm5,.int .i64 Y.phase,.int .i64 Y.next,.slice ag5 Y.grey.length cg5] 30))
 have hc5:=zaa h5.capWords
 have o5:=zaa (h5.below (Z5 w5 (.cells #[.int .i64 Y.base,.int .i64 Y.pages,.slice aw5 Y.words.length cw5,.slice ad5 Y.dirty.length cd5,.slice aS5 Y.spans.length cS5,.slice am5 Y.muts.length cm5,.int .i64 Y.phase,.int .i64 Y.next,.slice ag5 Y.grey.length cg5] 30))).rd
 clear hq h5 b5 c5 bb4 x4 y4 o4 cP hc2
 clear f0 f1 f2 f3 f4 f5 f6 f7 f8
 dsimp only [Y2.val] at hc5 o5 ⊢
 go_upto_region 5 with fail
 generalize w5.alloc (.cells #[.int .i64 Y.base,.int .i64 Y.pages,.slice aw5 Y.words.length cw5,.slice ad5 Y.dirty.length cd5,.slice aS5 Y.spans.length cS5,.slice am5 Y.muts.length cm5,.int .i64 Y.phase,.int .i64 Y.next,.slice ag5 Y.grey.length cg5] 30)=W5 at *
 obtain ⟨f0,f1,f2,f3,f4,f5,f6,f7,f8⟩:=U5 x5.out
 obtain ⟨g0,g1,g2,g3,g4,g5,g6,g7,g8⟩:=U5 y5.out
 go_wp2_with fail
 refine (cZ.out _ _ hc5.out o5.out).mono ?_
 rintro e w6 ⟨S6,Z',hq,rfl,h6,b6⟩
 obtain rfl:=hq.unique kZ'.out
 obtain ⟨aw6,ad6,aS6,am6,ag6,cw6,cd6,cS6,cm6,cg6,sv6,mv6,rfl⟩:=Y2.lits h6
 have bb6:=zaa (Z4 bb5.out b6)
 clear hq h6 b6 bb5 x5 y5 o5 cZ
 clear f0 f1 f2 f3 f4 f5 f6 f7 f8 g0 g1 g2 g3 g4 g5 g6 g7 g8
 dsimp only [Y2.val]
 have q1:∀ w:World,(Instr.field 30 (.agg #[.int .i64 Z.base,.int .i64 Z.pages,.slice aw6 Z.words.length cw6,.slice ad6 Z.dirty.length cd6,.slice aS6 Z.spans.length cS6,.slice am6 Z.muts.length cm6,.int .i64 Z.phase,.int .i64 Z.next,.slice ag6 Z.grey.length cg6]) 6).run Tryz.prog w=.ok (.agg #[.int .i64 Z.phase,.int .i64 Z.next,.slice ag6 Z.grey.length cg6]) w:=fun _=>by kernel_rfl
 have q2:∀ w:World,(Instr.field 28 (.agg #[.int .i64 Z.phase,.int .i64 Z.next,.slice ag6 Z.grey.length cg6]) 2).run Tryz.prog w=.ok (.slice ag6 Z.grey.length cg6) w:=fun _=>by kernel_rfl
 go_wp2_with fail
 go_ret
 exact ⟨rfl,bb6.out⟩
theorem zfc:U0 (prG 1 0 0 false [])∧U1 (prG 1 0 0 false []):=⟨zgc zky.1 rfl,zjx zky.1 zky.2 rfl⟩
theorem zoo:U0 (prG 1 1 1 false [64])∧U1 (prG 1 1 1 false [64]):=⟨prG_1.right zfc.1 zfc.2,prG_1.going zfc.2⟩
theorem zok (w:World):Calls Tryz.prog 20 #[] w fun e w'=>e=.returned (.bool true)∧Below w.heap.size w w' :=
 zvl prD (prG 1 0 0 false []) (prG 0 0 0 false []) (prG 1 1 1 false [64]) (prG 1 1 3 false [64,66])
  (.inl ⟨zky.1,rfl,rfl,rfl⟩) ⟨8,rfl,.inl ⟨zfc.1,prG_left.symm⟩⟩ (.inl ⟨zfc.1,⟨by decide,by decide⟩,prG_all⟩) (.inl ⟨zfc.1,prG_1⟩) (.inl ⟨zoo.1,zon 1 1 (.inl rfl) [64]⟩)
  rfl rfl rfl rfl rfl (zht _ (by decide)) zky.2.fit (zht _ (by decide)) zfc.2.fit (zht _ (by decide)) zoo.2.fit pair_any w
end Go.Proofs.YtilkidaihbhfpaaGreat
