import Derived.Test.YtilkidaihbhfpaaGreatTsAt1
import Derived.Test.YtilkidaihbhfpaaGreatTsGCI
import Derived.Test.YtilkidaihbhfpaaGreatTsILeft
import Derived.Test.YtilkidaihbhfpaaGreatTsNone
import Derived.Test.YtilkidaihbhfpaaGreatTsG
import Derived.Test.YtilkidaihbhfpaaGreatTsRR

set_option maxRecDepth 100000
set_option maxHeartbeats 16000000
namespace Go.Proofs.YtilkidaihbhfpaaGreat
open Go.RowKit
set_option linter.unusedVariables false
theorem zuv {D:WD} (hR:U0 D) (hp:D.phase=0):0<zjq { D with phase:=1 }:=by
 have hn:D.next=0:=by
  obtain ⟨n0,n1,n2⟩:=hR.2.1.2.1
  by_cases h:0<D.next
  ·have:=n2 h;omega
  ·omega
 unfold zjq
 rw [if_neg (show ¬ ((1:Int)=0) by omega),if_neg (show ¬ ((1:Int)=4) by omega),if_neg (show ¬ ((1:Int)=3) by omega),if_neg (show ¬ ((1:Int)=2) by omega)]
 show 0<4+(D.spans.length:Int)+(zfu { D with phase:=1 } D.spans.length:Int)+(D.grey.length:Int)+(D.muts.length:Int)-D.next
 omega
theorem zsb (hH:∀ w:World,Calls Tryz.prog 20 #[] w fun e w'=>e=.returned (.bool true)∧Below w.heap.size w w')
  (a:Option Addr) (len cap:Nat) (w:World) (hb:zlj w a len) (ha:0<len→∀ x,a=some x→x.block<w.heap.size) :
  Calls Tryz.prog 4 #[.slice a len cap] w fun e w'=>e=.returned (.bool true)∧Below w.heap.size w w':=by
 have hH':=zaa hH
 have hd:=zaa (znu a len cap w hb ha)
 clear hH hb ha
 go_enter Tryz.func4,Tryz.ntmps4
 go_wp2_with fail
 refine hd.out.mono ?_
 rintro e w1 ⟨v,D,⟨hB,hcw,hcg,hrd⟩,rfl,b1⟩
 obtain ⟨aw,ad,aS,am,ag,cw,cd,cS,cm,cg,rfl⟩:=hrd.written
 have bb1:=zaa (Z4 b1 (Z5 w1 (.cells #[.int .i64 D.base,.int .i64 D.pages,.slice aw D.words.length cw,.slice ad D.dirty.length cd,.slice aS D.spans.length cS,.slice am D.muts.length cm,.int .i64 D.phase,.int .i64 D.next,.slice ag D.grey.length cg] 30)))
 have x1:=zaa (Y6 w1 (.cells #[.int .i64 D.base,.int .i64 D.pages,.slice aw D.words.length cw,.slice ad D.dirty.length cd,.slice aS D.spans.length cS,.slice am D.muts.length cm,.int .i64 D.phase,.int .i64 D.next,.slice ag D.grey.length cg] 30))
 have o1:=zaa (hrd.below (Z5 w1 (.cells #[.int .i64 D.base,.int .i64 D.pages,.slice aw D.words.length cw,.slice ad D.dirty.length cd,.slice aS D.spans.length cS,.slice am D.muts.length cm,.int .i64 D.phase,.int .i64 D.next,.slice ag D.grey.length cg] 30)))
 have hB':=zaa hB
 have hcw':=zaa hcw
 have hcg':=zaa hcg
 clear hB hcw hcg hrd b1 hd
 unfold zlw at o1 hcw' hcg' ⊢
 go_upto_region 2 with fail
 generalize w1.alloc (.cells #[.int .i64 D.base,.int .i64 D.pages,.slice aw D.words.length cw,.slice ad D.dirty.length cd,.slice aS D.spans.length cS,.slice am D.muts.length cm,.int .i64 D.phase,.int .i64 D.next,.slice ag D.grey.length cg] 30)=W1 at *
 obtain ⟨f0,f1,f2,f3,f4,f5,f6,f7,f8⟩:=U5 x1.out
 go_wp2_with fail
 refine (zov _ D (zoj hB'.out) hB'.out.fit hcw'.out _ o1.out).mono ?_
 rintro e w2 ⟨S2,E,f,hq,rfl,h2,b2⟩
 obtain ⟨aw2,ad2,aS2,am2,ag2,cw2,cd2,cS2,cm2,cg2,sv2,mv2,rfl⟩:=Y2.lits h2
 have c2:=Z4 b2 (Z5 w2 (.cells #[.int .i64 E.base,.int .i64 E.pages,.slice aw2 E.words.length cw2,.slice ad2 E.dirty.length cd2,.slice aS2 E.spans.length cS2,.slice am2 E.muts.length cm2,.int .i64 E.phase,.int .i64 E.next,.slice ag2 E.grey.length cg2] 30))
 have bb2:=zaa (Z4 bb1.out c2)
 have x2:=zaa (Z6 c2 x1.out)
 have o2:=zaa (o1.out.below c2)
 have y2:=zaa (Y6 w2 (.cells #[.int .i64 E.base,.int .i64 E.pages,.slice aw2 E.words.length cw2,.slice ad2 E.dirty.length cd2,.slice aS2 E.spans.length cS2,.slice am2 E.muts.length cm2,.int .i64 E.phase,.int .i64 E.next,.slice ag2 E.grey.length cg2] 30))
 have hc2:=zaa h2.capWords
 have p2:=zaa (h2.below (Z5 w2 (.cells #[.int .i64 E.base,.int .i64 E.pages,.slice aw2 E.words.length cw2,.slice ad2 E.dirty.length cd2,.slice aS2 E.spans.length cS2,.slice am2 E.muts.length cm2,.int .i64 E.phase,.int .i64 E.next,.slice ag2 E.grey.length cg2] 30))).rd
 have hq':=zaa hq
 clear hq h2 b2 c2 bb1 x1 o1
 clear f0 f1 f2 f3 f4 f5 f6 f7 f8
 dsimp only [Y2.val] at hc2 p2 ⊢
 go_upto_region 3 with fail
 generalize w2.alloc (.cells #[.int .i64 E.base,.int .i64 E.pages,.slice aw2 E.words.length cw2,.slice ad2 E.dirty.length cd2,.slice aS2 E.spans.length cS2,.slice am2 E.muts.length cm2,.int .i64 E.phase,.int .i64 E.next,.slice ag2 E.grey.length cg2] 30)=W2 at *
 obtain ⟨f0,f1,f2,f3,f4,f5,f6,f7,f8⟩:=U5 x2.out
 go_wp2_with fail
 refine (zik _ D hcg'.out _ o2.out).mono ?_
 rintro e w3 ⟨hr,b3⟩
 replace hr:=hr.elim
 have bb3:=zaa (Z4 bb2.out b3)
 have x3:=zaa (Z6 b3 x2.out)
 have y3:=zaa (Z6 b3 y2.out)
 have p3:=zaa (p2.out.below b3)
 clear b3 bb2 x2 o2 y2 p2
 clear f0 f1 f2 f3 f4 f5 f6 f7 f8
 obtain ⟨f0,f1,f2,f3,f4,f5,f6,f7,f8⟩:=U5 x3.out
 obtain ⟨g0,g1,g2,g3,g4,g5,g6,g7,g8⟩:=U5 y3.out
 rcases hq'.out with ⟨hR,hp,hE,rfl⟩ | ⟨hN,hE,rfl⟩
 ·obtain rfl:e=.returned (.bool true):=by
   rcases hr with ⟨_,h⟩ | ⟨h,_⟩
   ·exact h
   ·exact absurd hR h
  have dp:(D.phase == 0)=true:=beq_iff_eq.2 hp
  have hRE:=zaa (show U0 E by rw [hE];exact zgc hR hp)
  have hfE:=zaa (show FitD E by rw [hE];exact (zjx hR (hR.going hB'.out.fit) hp).fit)
  have dE:(E.phase == 1)=true:=beq_iff_eq.2 (by rw [hE])
  have hlE:=zaa (show 0<zjq E by rw [hE];exact zuv hR hp)
  clear hr hR hp hE hq'
  go_wp2_with fail
  refine (J4 _ E hfE.out hc2.out _ p3.out).mono ?_
  rintro e w4 ⟨hq,b4⟩
  obtain rfl:=hq.of_yes hRE.out
  have bb4:=zaa (Z4 bb3.out b4)
  have y4:=zaa (Z6 b4 y3.out)
  have p4:=zaa (p3.out.below b4)
  clear hq b4 bb3 x3 y3 p3
  clear f0 f1 f2 f3 f4 f5 f6 f7 f8 g0 g1 g2 g3 g4 g5 g6 g7 g8
  obtain ⟨g0,g1,g2,g3,g4,g5,g6,g7,g8⟩:=U5 y4.out
  go_wp2_with fail
  refine (zrb _ E hfE.out hc2.out _ p4.out).mono ?_
  rintro e w5 ⟨hq,b5⟩
  obtain ⟨r,rfl,hr⟩:∃ r:Int,e=.returned (.int .i64 r)∧0<r:=by
   obtain ⟨r,rfl,h⟩:=hq
   rcases h with ⟨_,rfl⟩ | ⟨h,_⟩
   ·exact ⟨_,rfl,hlE.out⟩
   ·exact absurd hRE.out h
  have dr:decide (r > 0)=true:=decide_eq_true hr
  have bb5:=zaa (Z4 bb4.out b5)
  clear hq b5 bb4 y4 p4
  clear g0 g1 g2 g3 g4 g5 g6 g7 g8
  go_wp2_with fail
  refine (hH'.out _).mono ?_
  rintro e w7 ⟨rfl,b7⟩
  have bb7:=zaa (Z4 bb5.out b7)
  clear b7
  go_wp2_with fail
  go_ret
  exact ⟨rfl,bb7.out⟩
 ·subst hE
  rcases hr with ⟨hR,rfl⟩ | ⟨hR,rfl⟩
  ·have dp:(D.phase == 0)=false:=beq_eq_false_iff_ne.2 fun h=>hN ⟨hR,h⟩
   clear hN hR hq'
   go_wp2_with fail
   refine (zpq _ _ _ _ _ _ _ _ _ _ _).mono ?_
   rintro e w4 ⟨rfl,b4⟩
   have bb4:=zaa (Z4 bb3.out b4)
   clear b4
   clear f0 f1 f2 f3 f4 f5 f6 f7 f8 g0 g1 g2 g3 g4 g5 g6 g7 g8
   go_wp2_with fail
   refine (hH'.out _).mono ?_
   rintro e w7 ⟨rfl,b7⟩
   have bb7:=zaa (Z4 bb4.out b7)
   clear b7
   go_wp2_with fail
   go_ret
   exact ⟨rfl,bb7.out⟩
  ·clear hN hR hq'
   go_wp2_with fail
   refine (zpq _ _ _ _ _ _ _ _ _ _ _).mono ?_
   rintro e w4 ⟨rfl,b4⟩
   have bb4:=zaa (Z4 bb3.out b4)
   clear b4
   clear f0 f1 f2 f3 f4 f5 f6 f7 f8 g0 g1 g2 g3 g4 g5 g6 g7 g8
   go_wp2_with fail
   refine (hH'.out _).mono ?_
   rintro e w7 ⟨rfl,b7⟩
   have bb7:=zaa (Z4 bb4.out b7)
   clear b7
   go_wp2_with fail
   go_ret
   exact ⟨rfl,bb7.out⟩
end Go.Proofs.YtilkidaihbhfpaaGreat
