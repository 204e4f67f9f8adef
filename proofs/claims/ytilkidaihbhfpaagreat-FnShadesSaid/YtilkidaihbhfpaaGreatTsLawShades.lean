import Derived.Test.YtilkidaihbhfpaaGreatTsDRB
import Derived.Test.YtilkidaihbhfpaaGreatTsAt1
import Derived.Test.YtilkidaihbhfpaaGreatTsGCI
import Derived.Test.YtilkidaihbhfpaaGreatTsNone
import Derived.Test.YtilkidaihbhfpaaGreatTsSameInts
import Derived.Test.YtilkidaihbhfpaaGreatTsRR
import Derived.Test.YtilkidaihbhfpaaGreatTsColP

set_option maxRecDepth 100000
set_option maxHeartbeats 16000000
namespace Go.Proofs.YtilkidaihbhfpaaGreat
open Go.RowKit
set_option linter.unusedVariables false
theorem zsg {D E:WD} {a:Int} (h:zgo D) (hs:V1 D a E):zgk E:=by
 have h1:=h.size
 rcases hs with ⟨k,j,s,_,_,hk,_,rfl⟩ | ⟨_,rfl⟩
 ·exact zgk.of_bulk (by rw [(zve (a:=a) (j:=j) hk).1];omega)
 ·exact zgk.of_bulk (by omega)
theorem zsf (hH:∀ w:World,Calls Tryz.prog 20 #[] w fun e w'=>e=.returned (.bool true)∧Below w.heap.size w w')
  (a:Option Addr) (len cap:Nat) (w:World) (hb:zlj w a len) (ha:0<len→∀ x,a=some x→x.block<w.heap.size) :
  Calls Tryz.prog 6 #[.slice a len cap] w fun e w'=>e=.returned (.bool true)∧Below w.heap.size w w':=by
 have hH':=zaa hH
 have hd:=zaa (zpv a len cap w hb ha)
 clear hH hb ha
 go_enter Tryz.func6,Tryz.ntmps6
 go_wp2_with fail
 refine hd.out.mono ?_
 rintro e w1 ⟨v,D,m,⟨hB,hcw,hcg,hrd⟩,hi,rfl,b1⟩
 obtain ⟨aw,ad,aS,am,ag,cw,cd,cS,cm,cg,rfl⟩:=hrd.written
 have bb1:=zaa (Z4 b1 (Z5 w1 (.cells #[.int .i64 D.base,.int .i64 D.pages,.slice aw D.words.length cw,.slice ad D.dirty.length cd,.slice aS D.spans.length cS,.slice am D.muts.length cm,.int .i64 D.phase,.int .i64 D.next,.slice ag D.grey.length cg] 30)))
 have x1:=zaa (Y6 w1 (.cells #[.int .i64 D.base,.int .i64 D.pages,.slice aw D.words.length cw,.slice ad D.dirty.length cd,.slice aS D.spans.length cS,.slice am D.muts.length cm,.int .i64 D.phase,.int .i64 D.next,.slice ag D.grey.length cg] 30))
 have o1:=zaa (hrd.below (Z5 w1 (.cells #[.int .i64 D.base,.int .i64 D.pages,.slice aw D.words.length cw,.slice ad D.dirty.length cd,.slice aS D.spans.length cS,.slice am D.muts.length cm,.int .i64 D.phase,.int .i64 D.next,.slice ag D.grey.length cg] 30)))
 have hB':=zaa hB
 have hcw':=zaa hcw
 have hcg':=zaa hcg
 have hi':=zaa hi
 clear hB hcw hcg hrd hi b1 hd
 unfold zlw at o1 hcw' hcg' ⊢
 go_upto_region 2 with fail
 generalize w1.alloc (.cells #[.int .i64 D.base,.int .i64 D.pages,.slice aw D.words.length cw,.slice ad D.dirty.length cd,.slice aS D.spans.length cS,.slice am D.muts.length cm,.int .i64 D.phase,.int .i64 D.next,.slice ag D.grey.length cg] 30)=W1 at *
 obtain ⟨f0,f1,f2,f3,f4,f5,f6,f7,f8⟩:=U5 x1.out
 go_wp2_with fail
 refine (zka _ D m hi'.out (zoj hB'.out) hB'.out.fit hcw'.out _ o1.out).mono ?_
 rintro e w2 ⟨S2,E,hq,rfl,h2,b2⟩
 obtain ⟨aw2,ad2,aS2,am2,ag2,cw2,cd2,cS2,cm2,cg2,sv2,mv2,rfl⟩:=Y2.lits h2
 have c2:=Z4 b2 (Z5 w2 (.cells #[.int .i64 E.base,.int .i64 E.pages,.slice aw2 E.words.length cw2,.slice ad2 E.dirty.length cd2,.slice aS2 E.spans.length cS2,.slice am2 E.muts.length cm2,.int .i64 E.phase,.int .i64 E.next,.slice ag2 E.grey.length cg2] 30))
 have bb2:=zaa (Z4 bb1.out c2)
 have x2:=zaa (Z6 c2 x1.out)
 have o2:=zaa (o1.out.below c2)
 have y2:=zaa (Y6 w2 (.cells #[.int .i64 E.base,.int .i64 E.pages,.slice aw2 E.words.length cw2,.slice ad2 E.dirty.length cd2,.slice aS2 E.spans.length cS2,.slice am2 E.muts.length cm2,.int .i64 E.phase,.int .i64 E.next,.slice ag2 E.grey.length cg2] 30))
 have hc2:=zaa h2.capWords
 have p2:=zaa (h2.below (Z5 w2 (.cells #[.int .i64 E.base,.int .i64 E.pages,.slice aw2 E.words.length cw2,.slice ad2 E.dirty.length cd2,.slice aS2 E.spans.length cS2,.slice am2 E.muts.length cm2,.int .i64 E.phase,.int .i64 E.next,.slice ag2 E.grey.length cg2] 30))).rd
 have hq':=zaa hq
 clear hq h2 b2 c2 bb1 x1 o1
 clear f0 f1 f2 f3 f4 f5 f6 f7 f8
 dsimp only [Y2.val] at hc2 p2 ⊢
 go_upto_region 3 with fail
 generalize w2.alloc (.cells #[.int .i64 E.base,.int .i64 E.pages,.slice aw2 E.words.length cw2,.slice ad2 E.dirty.length cd2,.slice aS2 E.spans.length cS2,.slice am2 E.muts.length cm2,.int .i64 E.phase,.int .i64 E.next,.slice ag2 E.grey.length cg2] 30)=W2 at *
 obtain ⟨f0,f1,f2,f3,f4,f5,f6,f7,f8⟩:=U5 x2.out
 go_wp2_with fail
 refine (zik _ D hcg'.out _ o2.out).mono ?_
 rintro e w3 ⟨hr,b3⟩
 replace hr:=hr.elim
 have bb3:=zaa (Z4 bb2.out b3)
 have x3:=zaa (Z6 b3 x2.out)
 have y3:=zaa (Z6 b3 y2.out)
 have p3:=zaa (p2.out.below b3)
 have o3:=zaa (o2.out.below b3)
 clear b3 bb2 x2 o2 y2 p2
 clear f0 f1 f2 f3 f4 f5 f6 f7 f8
 obtain ⟨f0,f1,f2,f3,f4,f5,f6,f7,f8⟩:=U5 x3.out
 obtain ⟨g0,g1,g2,g3,g4,g5,g6,g7,g8⟩:=U5 y3.out
 rcases hr with ⟨hR,rfl⟩ | ⟨hR,rfl⟩
 case inr =>
  obtain rfl:E=zeroD:=by
   rcases hq'.out with ⟨h,_⟩ | ⟨_,h⟩
   ·exact absurd h hR
   ·exact h
  clear hR hq'
  go_wp2_with fail
  refine (zpq _ _ _ _ _ _ _ _ _ _ _).mono ?_
  rintro e w4 ⟨rfl,b4⟩
  have bb4:=zaa (Z4 bb3.out b4)
  clear b4
  clear f0 f1 f2 f3 f4 f5 f6 f7 f8
  clear g0 g1 g2 g3 g4 g5 g6 g7 g8
  go_wp2_with fail
  refine (hH'.out _).mono ?_
  rintro e w7 ⟨rfl,b7⟩
  have bb7:=zaa (Z4 bb4.out b7)
  clear b7
  go_wp2_with fail
  go_ret
  exact ⟨rfl,bb7.out⟩
 have hR':=zaa hR
 have hS:=zaa (show V1 D m E from by
  rcases hq'.out with ⟨_,h⟩ | ⟨h,_⟩
  ·exact h
  ·exact absurd hR h)
 have hRE:=zaa (hS.out.right hR)
 have hGE:=zaa (hS.out.going hi'.out (hR.going hB'.out.fit))
 have hsE:=zaa (zsg hB'.out hS.out)
 clear hR hq'
 go_wp2_with fail
 refine (zka _ E m hi'.out hsE.out hGE.out.fit hc2.out _ p3.out).mono ?_
 rintro e w4 ⟨S3,F,hq,rfl,h4,b4⟩
 obtain ⟨aw3,ad3,aS3,am3,ag3,cw3,cd3,cS3,cm3,cg3,sv3,mv3,rfl⟩:=Y2.lits h4
 have c4:=Z4 b4 (Z5 w4 (.cells #[.int .i64 F.base,.int .i64 F.pages,.slice aw3 F.words.length cw3,.slice ad3 F.dirty.length cd3,.slice aS3 F.spans.length cS3,.slice am3 F.muts.length cm3,.int .i64 F.phase,.int .i64 F.next,.slice ag3 F.grey.length cg3] 30))
 have bb4:=zaa (Z4 bb3.out c4)
 have x4:=zaa (Z6 c4 x3.out)
 have y4:=zaa (Z6 c4 y3.out)
 have o4:=zaa (o3.out.below c4)
 have p4:=zaa (p3.out.below c4)
 have z4:=zaa (Y6 w4 (.cells #[.int .i64 F.base,.int .i64 F.pages,.slice aw3 F.words.length cw3,.slice ad3 F.dirty.length cd3,.slice aS3 F.spans.length cS3,.slice am3 F.muts.length cm3,.int .i64 F.phase,.int .i64 F.next,.slice ag3 F.grey.length cg3] 30))
 have hT:=zaa (show V1 E m F from by
  rcases hq with ⟨_,h⟩ | ⟨h,_⟩
  ·exact h
  ·exact absurd hRE.out h)
 clear hq h4 b4 c4 bb3 x3 y3 o3 p3
 clear f0 f1 f2 f3 f4 f5 f6 f7 f8
 clear g0 g1 g2 g3 g4 g5 g6 g7 g8
 dsimp only [Y2.val] at ⊢
 go_upto_region 6 with fail
 generalize w4.alloc (.cells #[.int .i64 F.base,.int .i64 F.pages,.slice aw3 F.words.length cw3,.slice ad3 F.dirty.length cd3,.slice aS3 F.spans.length cS3,.slice am3 F.muts.length cm3,.int .i64 F.phase,.int .i64 F.next,.slice ag3 F.grey.length cg3] 30)=W4 at *
 obtain ⟨f0,f1,f2,f3,f4,f5,f6,f7,f8⟩:=U5 x4.out
 go_wp2_with fail
 refine (zhr _ D m _ o4.out).mono ?_
 rintro e w5 ⟨⟨r,rfl,hr⟩,b5⟩
 have bb5:=zaa (Z4 bb4.out b5)
 have x5:=zaa (Z6 b5 x4.out)
 have y5:=zaa (Z6 b5 y4.out)
 have z5:=zaa (Z6 b5 z4.out)
 have o5:=zaa (o4.out.below b5)
 have p5:=zaa (p4.out.below b5)
 have hr':=zaa hr
 clear hr b5 bb4 x4 y4 z4 o4 p4
 clear f0 f1 f2 f3 f4 f5 f6 f7 f8
 by_cases c1:D.phase=1
 ·have hp:D.phase=1∨D.phase=2:=.inl c1
  have d1:(D.phase == 1)=true:=beq_iff_eq.2 c1
  by_cases cr:r=1
  ·subst cr
   clear c1
   obtain ⟨f0,f1,f2,f3,f4,f5,f6,f7,f8⟩:=U5 x5.out
   obtain ⟨g0,g1,g2,g3,g4,g5,g6,g7,g8⟩:=U5 y5.out
   obtain ⟨h0,h1,h2,h3,h4,h5,h6,h7,h8⟩:=U5 z5.out
   obtain ⟨eg,rfl⟩:=V1.white hR'.out hS.out hT.out hp hr'.out
   obtain ⟨q,hq⟩:∃ q,q=D.grey.length:=⟨_,rfl⟩
   have hl:F.grey.length=q+1:=by rw [eg,hq];simp
   have hat:F.grey[q]?.getD 0=m:=by rw [eg,hq];simp
   have pg:=p5.out.parts.2.2.2.2
   rw [← hq] at f8
   obtain ⟨bg,og,rfl,xe⟩:=pg.at1 q (by omega)
   rw [hat] at xe
   have hq18:=pg.elim fun _ h=>h.elim fun _ h=>h.2.1
   obtain ⟨Q,hQ⟩:∃ Q,Q=q+1:=⟨_,rfl⟩
   rw [hl,← hQ] at g8 h8 hq18
   unfold maxLen at hq18
   have p6:=p5.out
   rw [hl,← hQ] at p6
   have p6':=zaa p6
   have hc3:=hc2.out
   rw [hl,← hQ] at hc3
   have hc3':=zaa hc3
   clear p6 hc3
   have n1:((Q:Int) == (q:Int)+1)=true:=beq_iff_eq.2 (by omega)
   have n2:(Q:Int)-1=(q:Int):=by omega
   have hQ1:Q≤q+1:=by omega
   have hQ2:q+1≤Q:=by omega
   clear hq hl hat eg pg hT hS hr' hQ
   go_wp2_with fail
   refine (J4 _ F hGE.out.fit hc3'.out _ p6'.out).mono ?_
   rintro e w6 ⟨hq,b6⟩
   obtain rfl:=hq.of_yes hRE.out
   have bb6:=zaa (Z4 bb5.out b6)
   clear hq b6 xe
   clear f0 f1 f2 f3 f4 f5 f6 f7 f8
   clear g0 g1 g2 g3 g4 g5 g6 g7 g8
   clear h0 h1 h2 h3 h4 h5 h6 h7 h8
   go_wp2_with fail
   refine (hH'.out _).mono ?_
   rintro e w7 ⟨rfl,b7⟩
   have bb7:=zaa (Z4 bb6.out b7)
   clear b7
   go_wp2_with fail
   go_ret
   exact ⟨rfl,bb7.out⟩
  ·have dr:(r == 1)=false:=beq_eq_false_iff_ne.2 cr
   have hn:¬ ((D.phase=1∨D.phase=2)∧zlv D m 1):=fun h=>cr (hr'.out.unique h.2).symm
   clear c1 hp cr
   obtain ⟨f0,f1,f2,f3,f4,f5,f6,f7,f8⟩:=U5 x5.out
   obtain ⟨g0,g1,g2,g3,g4,g5,g6,g7,g8⟩:=U5 y5.out
   obtain rfl:=V1.other hR'.out hS.out hn
   have og:=zaa (o5.out.parts.2.2.2.2)
   have pg:=zaa (p5.out.parts.2.2.2.2)
   clear hn hT hS
   go_wp2_with fail
   refine (zhs _ _ _ _ pg.out og.out).mono ?_
   rintro e w6 ⟨rfl,n6,rfl⟩
   have b6:Below w5.heap.size w5 (w5.drewN n6):=below_drewN (Below.refl _ _) n6
   have bb6:=zaa (Z4 bb5.out b6)
   have y6:=zaa (Z6 b6 y5.out)
   have p6:=zaa (p5.out.below b6)
   generalize w5.drewN n6=W6 at *
   clear b6 og pg
   clear f0 f1 f2 f3 f4 f5 f6 f7 f8
   clear g0 g1 g2 g3 g4 g5 g6 g7 g8
   obtain ⟨g0,g1,g2,g3,g4,g5,g6,g7,g8⟩:=U5 y6.out
   go_wp2_with fail
   refine (zhr _ _ m _ p6.out).mono ?_
   rintro e w7 ⟨⟨r2,rfl,hr2⟩,b7⟩
   obtain rfl:=hr'.out.unique hr2
   have bb7:=zaa (Z4 bb6.out b7)
   clear hr2 b7
   clear g0 g1 g2 g3 g4 g5 g6 g7 g8
   go_wp2_with fail
   refine (hH'.out _).mono ?_
   rintro e w8 ⟨rfl,b8⟩
   have bb8:=zaa (Z4 bb7.out b8)
   clear b8
   go_wp2_with fail
   go_ret
   exact ⟨rfl,bb8.out⟩
 have d1:(D.phase == 1)=false:=beq_eq_false_iff_ne.2 c1
 by_cases c2:D.phase=2
 ·have hp:D.phase=1∨D.phase=2:=.inr c2
  have d2:(D.phase == 2)=true:=beq_iff_eq.2 c2
  by_cases cr:r=1
  ·subst cr
   clear c1 c2
   obtain ⟨f0,f1,f2,f3,f4,f5,f6,f7,f8⟩:=U5 x5.out
   obtain ⟨g0,g1,g2,g3,g4,g5,g6,g7,g8⟩:=U5 y5.out
   obtain ⟨h0,h1,h2,h3,h4,h5,h6,h7,h8⟩:=U5 z5.out
   obtain ⟨eg,rfl⟩:=V1.white hR'.out hS.out hT.out hp hr'.out
   obtain ⟨q,hq⟩:∃ q,q=D.grey.length:=⟨_,rfl⟩
   have hl:F.grey.length=q+1:=by rw [eg,hq];simp
   have hat:F.grey[q]?.getD 0=m:=by rw [eg,hq];simp
   have pg:=p5.out.parts.2.2.2.2
   rw [← hq] at f8
   obtain ⟨bg,og,rfl,xe⟩:=pg.at1 q (by omega)
   rw [hat] at xe
   have hq18:=pg.elim fun _ h=>h.elim fun _ h=>h.2.1
   obtain ⟨Q,hQ⟩:∃ Q,Q=q+1:=⟨_,rfl⟩
   rw [hl,← hQ] at g8 h8 hq18
   unfold maxLen at hq18
   have p6:=p5.out
   rw [hl,← hQ] at p6
   have p6':=zaa p6
   have hc3:=hc2.out
   rw [hl,← hQ] at hc3
   have hc3':=zaa hc3
   clear p6 hc3
   have n1:((Q:Int) == (q:Int)+1)=true:=beq_iff_eq.2 (by omega)
   have n2:(Q:Int)-1=(q:Int):=by omega
   have hQ1:Q≤q+1:=by omega
   have hQ2:q+1≤Q:=by omega
   clear hq hl hat eg pg hT hS hr' hQ
   go_wp2_with fail
   refine (J4 _ F hGE.out.fit hc3'.out _ p6'.out).mono ?_
   rintro e w6 ⟨hq,b6⟩
   obtain rfl:=hq.of_yes hRE.out
   have bb6:=zaa (Z4 bb5.out b6)
   clear hq b6 xe
   clear f0 f1 f2 f3 f4 f5 f6 f7 f8
   clear g0 g1 g2 g3 g4 g5 g6 g7 g8
   clear h0 h1 h2 h3 h4 h5 h6 h7 h8
   go_wp2_with fail
   refine (hH'.out _).mono ?_
   rintro e w7 ⟨rfl,b7⟩
   have bb7:=zaa (Z4 bb6.out b7)
   clear b7
   go_wp2_with fail
   go_ret
   exact ⟨rfl,bb7.out⟩
  ·have dr:(r == 1)=false:=beq_eq_false_iff_ne.2 cr
   have hn:¬ ((D.phase=1∨D.phase=2)∧zlv D m 1):=fun h=>cr (hr'.out.unique h.2).symm
   clear c1 c2 hp cr
   obtain ⟨f0,f1,f2,f3,f4,f5,f6,f7,f8⟩:=U5 x5.out
   obtain ⟨g0,g1,g2,g3,g4,g5,g6,g7,g8⟩:=U5 y5.out
   obtain rfl:=V1.other hR'.out hS.out hn
   have og:=zaa (o5.out.parts.2.2.2.2)
   have pg:=zaa (p5.out.parts.2.2.2.2)
   clear hn hT hS
   go_wp2_with fail
   refine (zhs _ _ _ _ pg.out og.out).mono ?_
   rintro e w6 ⟨rfl,n6,rfl⟩
   have b6:Below w5.heap.size w5 (w5.drewN n6):=below_drewN (Below.refl _ _) n6
   have bb6:=zaa (Z4 bb5.out b6)
   have y6:=zaa (Z6 b6 y5.out)
   have p6:=zaa (p5.out.below b6)
   generalize w5.drewN n6=W6 at *
   clear b6 og pg
   clear f0 f1 f2 f3 f4 f5 f6 f7 f8
   clear g0 g1 g2 g3 g4 g5 g6 g7 g8
   obtain ⟨g0,g1,g2,g3,g4,g5,g6,g7,g8⟩:=U5 y6.out
   go_wp2_with fail
   refine (zhr _ _ m _ p6.out).mono ?_
   rintro e w7 ⟨⟨r2,rfl,hr2⟩,b7⟩
   obtain rfl:=hr'.out.unique hr2
   have bb7:=zaa (Z4 bb6.out b7)
   clear hr2 b7
   clear g0 g1 g2 g3 g4 g5 g6 g7 g8
   go_wp2_with fail
   refine (hH'.out _).mono ?_
   rintro e w8 ⟨rfl,b8⟩
   have bb8:=zaa (Z4 bb7.out b8)
   clear b8
   go_wp2_with fail
   go_ret
   exact ⟨rfl,bb8.out⟩
 ·have d2:(D.phase == 2)=false:=beq_eq_false_iff_ne.2 c2
  have hn:¬ ((D.phase=1∨D.phase=2)∧zlv D m 1):=fun h=>h.1.elim c1 c2
  clear c1 c2
  obtain ⟨f0,f1,f2,f3,f4,f5,f6,f7,f8⟩:=U5 x5.out
  obtain ⟨g0,g1,g2,g3,g4,g5,g6,g7,g8⟩:=U5 y5.out
  obtain rfl:=V1.other hR'.out hS.out hn
  have og:=zaa (o5.out.parts.2.2.2.2)
  have pg:=zaa (p5.out.parts.2.2.2.2)
  clear hn hT hS
  go_wp2_with fail
  refine (zhs _ _ _ _ pg.out og.out).mono ?_
  rintro e w6 ⟨rfl,n6,rfl⟩
  have b6:Below w5.heap.size w5 (w5.drewN n6):=below_drewN (Below.refl _ _) n6
  have bb6:=zaa (Z4 bb5.out b6)
  have y6:=zaa (Z6 b6 y5.out)
  have p6:=zaa (p5.out.below b6)
  generalize w5.drewN n6=W6 at *
  clear b6 og pg
  clear f0 f1 f2 f3 f4 f5 f6 f7 f8
  clear g0 g1 g2 g3 g4 g5 g6 g7 g8
  obtain ⟨g0,g1,g2,g3,g4,g5,g6,g7,g8⟩:=U5 y6.out
  go_wp2_with fail
  refine (zhr _ _ m _ p6.out).mono ?_
  rintro e w7 ⟨⟨r2,rfl,hr2⟩,b7⟩
  obtain rfl:=hr'.out.unique hr2
  have bb7:=zaa (Z4 bb6.out b7)
  clear hr2 b7
  clear g0 g1 g2 g3 g4 g5 g6 g7 g8
  go_wp2_with fail
  refine (hH'.out _).mono ?_
  rintro e w8 ⟨rfl,b8⟩
  have bb8:=zaa (Z4 bb7.out b8)
  clear b8
  go_wp2_with fail
  go_ret
  exact ⟨rfl,bb8.out⟩
end Go.Proofs.YtilkidaihbhfpaaGreat
