import Derived.Test.YtilkidaihbhfpaaGreatTsSDoB
import Derived.Test.YtilkidaihbhfpaaGreatTsTU
import Derived.Test.YtilkidaihbhfpaaGreatTsF2

set_option maxRecDepth 100000
set_option maxHeartbeats 16000000
namespace Go.Proofs.YtilkidaihbhfpaaGreat
open Go.RowKit
set_option linter.unusedVariables false
set_option linter.unusedSimpArgs false
theorem J7.rest {D D1:WD} {c:Int} {k j:Nat} (h:J7 D c D1 k j):D1.muts=D.muts∧D1.base=D.base∧D1.phase=D.phase∧D1.words=D.words∧D1.grey=D.grey∧D1.next=D.next∧D1.pages=D.pages:=by
 rcases h with ⟨rfl,_⟩ | ⟨_,_,_,rfl,_⟩
 ·exact ⟨rfl,rfl,rfl,rfl,rfl,rfl,rfl⟩
 ·exact ⟨rfl,rfl,rfl,rfl,rfl,rfl,rfl⟩
theorem zfb {D:WD} {M H:Nat} {r:List Int} (h:D.muts[M]?=some r) (x:Int):M8 D (M:Int) (H:Int) x={ D with muts:=D.muts.set M (r.set H x) }:=by
 unfold M8
 rw [Int.toNat_natCast,Int.toNat_natCast,h]
 rfl
theorem zvj (base B:Nat) (S:Y2) (D:WD) (k m h g i n v:Int) (hG:U1 D) (hm:0≤m∧m<(D.muts.length:Int)) (hh:HOk h) (hsz:zle n v) (w:World) (hv:VarW w base B S D) :
  Calls Tryz.prog 150 #[.pointer (some ⟨B,0,none⟩),OpD.val ⟨k,m,h,g,i,n,v⟩] w fun e w'=>(∃ c,e=.returned (.int .i64 c)∧∃ S' E,ziz D ⟨k,m,h,g,i,n,v⟩ E c∧VarW w' base B S' E∧T8 w w' B S S')∧Below base w w':=by
 unfold OpD.val OpD.cells
 obtain ⟨M,rfl⟩:=Int.eq_ofNat_of_zero_le hm.1
 obtain ⟨H,rfl⟩:=Int.eq_ofNat_of_zero_le hh.1
 have hM:M<D.muts.length:=by have:=hm.2;omega
 obtain ⟨r,hr⟩:∃ r,D.muts[M]?=some r:=⟨_,List.getElem?_eq_getElem hM⟩
 have hr6:=hG.form.roots M r hr
 have hH6:H<r.length:=by have:=hh.2;omega
 have hle:=zaa (Nat.le_of_lt (Nat.lt_of_le_of_lt hv.le hv.lt))
 have bb:=Z5 w (.cells #[.int .i64 k,.int .i64 (M:Int),.int .i64 (H:Int),.int .i64 g,.int .i64 i,.int .i64 n,.int .i64 v] 118)
 have bx:=Y6 w (.cells #[.int .i64 k,.int .i64 (M:Int),.int .i64 (H:Int),.int .i64 g,.int .i64 i,.int .i64 n,.int .i64 v] 118)
 have hBb:=zaa (bb.mono hle.out)
 have hTb:=zaa (T8.of_below B S bb)
 have hv0:=zaa (hv.below bb)
 have hq:=zaa bx
 have hz0:=zaa (show w.heap.size<(w.alloc (.cells #[.int .i64 k,.int .i64 (M:Int),.int .i64 (H:Int),.int .i64 g,.int .i64 i,.int .i64 n,.int .i64 v] 118)).heap.size by simp)
 have hnb:=zaa (show w.heap.size ∉ B :: blks S.all from fun hm=>by
  rcases List.mem_cons.1 hm with e | hm
  ·have:=hv.lt
   omega
  ·have:=(hv.own.lt _ hm).2
   omega)
 have hst:=zaa (zxf base B S D n v hG.form hsz.1 hsz.2.1 hsz.2.2.1 hsz.2.2.2 (w.alloc (.cells #[.int .i64 k,.int .i64 (M:Int),.int .i64 (H:Int),.int .i64 g,.int .i64 i,.int .i64 n,.int .i64 v] 118)) hv0.out)
 have hF':=zaa hG.form
 have hr':=zaa hr
 have hsz':=zaa hsz
 have hmm:=zaa (show D.muts.length≤3 by have:=hG.form.geo.2.2.2.2.2.2;omega)
 have hM1:(M:Int)<(D.muts.length:Int):=by omega
 have hH1:(H:Int)<(r.length:Int):=by omega
 have hH6':=zaa hH6
 clear hG hm hh hr hv bb bx hsz
 go_enter Tryz.func150,Tryz.ntmps150
 go_wp2_with fail
 generalize w.alloc (.cells #[.int .i64 k,.int .i64 (M:Int),.int .i64 (H:Int),.int .i64 g,.int .i64 i,.int .i64 n,.int .i64 v] 118)=W at *
 refine hst.out.mono ?_
 rintro e w1 ⟨hq1,b1⟩
 have hB1:=zaa (hBb.out.trans b1)
 clear hst b1
 rcases hq1 with ⟨D1,kk,jj,s,S1,hp,hs1,rfl,hv1,ht1⟩ | ⟨hno,rfl,hv1,ht1⟩
 case inr =>
  have y:=zaa (show ziz D ⟨k,(M:Int),(H:Int),g,i,n,v⟩ D 5 from .inr ⟨hno,rfl,rfl⟩)
  have hv1':=zaa hv1
  have hT1:=zaa (hTb.out.trans ht1)
  clear hno hv1 ht1
  go_wp2_with fail
  go_ret
  exact ⟨⟨_,rfl,S,D,y.out,hv1'.out,hT1.out⟩,hB1.out⟩
 have hq1:Hid (w1.heap[w.heap.size]?=some (.cells #[.int .i64 k,.int .i64 (M:Int),.int .i64 (H:Int),.int .i64 g,.int .i64 i,.int .i64 n,.int .i64 v] 118 (0,0))):=zaa ((ht1.chg.block w.heap.size hz0.out hnb.out).trans hq.out)
 have hfm:=zop hF'.out hsz'.out.1 hsz'.out.2.1 hp hs1 hsz'.out.2.2.1 hsz'.out.2.2.2
 have hrest:=hp.rest
 have hkl:=(List.getElem?_eq_some_iff.1 hs1).1
 have hkt:(zgp D1 kk s jj n v).spans[kk]?=some (M7 s jj n v):=zhb hs1
 have hob:U3 (zgp D1 kk s jj n v) (D1.base+atW s (jj:Int)) kk jj:=⟨M7 s jj n v,hkt,by simpa [M7] using hfm.2,by have:=hsz'.out.1;simp [M7,hfm.2];omega,rfl⟩
 have hrange:=hob.range hfm.1
 have hbase:32≤D1.base:=hfm.1.geo.1
 have hbase2:(zgp D1 kk s jj n v).base=D1.base:=rfl
 have hane:=zaa (show (D1.base+atW s (jj:Int))≠0 by omega)
 have hy:=zaa (show ∀ D3,zlf (zgp D1 kk s jj n v) kk jj D3→ziz D ⟨k,(M:Int),(H:Int),g,i,n,v⟩ (M8 D3 (M:Int) (H:Int) (D1.base+atW s (jj:Int))) 0 from fun D3 hk=>.inl ⟨D1,kk,jj,s,D3,hp,hs1,hk,rfl,rfl⟩)
 have hmu:(zgp D1 kk s jj n v).muts=D.muts:=hrest.1
 have hob':=zaa hob
 have hkt':=zaa hkt
 have hF2:=zaa hfm.1
 have hmu':=zaa hmu
 have hv1':=zaa hv1
 have hT1:=zaa (hTb.out.trans ht1)
 clear hp hs1 ht1 hfm hrest hkl hob hrange hbase hbase2 hmu hkt hv1
 generalize D1.base+atW s (jj:Int)=a at *
 generalize zgp D1 kk s jj n v=D2 at *
 generalize M7 s jj n v=t at *
 have d1:(a == 0)=false:=beq_eq_false_iff_ne.2 hane.out
 have hfind:=zaa (zff B _ D2 hF2.out a w1 hv1'.out.rd hv1'.out.boxW)
 go_wp2_with fail
 refine hfind.out.mono ?_
 rintro e w2 ⟨⟨r1,r2,rfl,hq2⟩,b2⟩
 obtain ⟨rfl,rfl⟩:r1=(kk:Int)∧r2=(jj:Int):=by
  rcases hq2 with ⟨k',j',_,ho2,rfl,rfl⟩ | ⟨hn,_⟩
  ·obtain ⟨rfl,rfl⟩:=ho2.unique hF2.out hob'.out
   exact ⟨rfl,rfl⟩
  ·exact absurd hob'.out (hn hF2.out kk jj)
 have hv2:=zaa (hv1'.out.below b2)
 have hB2:=zaa (hB1.out.trans (b2.mono (by have:=hv1'.out.le;have:=hv1'.out.lt;omega)))
 have hq3:Hid (w2.heap[w.heap.size]?=some (.cells #[.int .i64 k,.int .i64 (M:Int),.int .i64 (H:Int),.int .i64 g,.int .i64 i,.int .i64 n,.int .i64 v] 118 (0,0))):=zaa (Z6 b2 hq1.out)
 have hT2:=zaa (hT1.out.below b2)
 clear hq2 b2 hfind hv1' hq1 hT1 hTb
 have g6:=hv2.out.cell 6 (.int .i64 D2.phase) rfl
 have hkl0:=(List.getElem?_eq_some_iff.1 hkt'.out).1
 obtain ⟨p,hp⟩:=hv2.out.svAt hkt'.out
 obtain ⟨gs,cs,hgs⟩:=hv2.out.headS (by omega)
 have g4:=hv2.out.cell 4 S1.vs rfl
 rw [hgs] at g4
 obtain ⟨x0,x1,x2,x3,x4,x5⟩:=hv2.out.six hgs hkt'.out hp
 have hkl1:(kk:Int)<(D2.spans.length:Int):=by omega
 have hsl:D2.spans.length≤12:=by have:=hF2.out.spans;have:=hF2.out.geo.2.2.2.2.1;omega
 have hgs':=zaa hgs
 have hp':=zaa hp
 clear hgs hp x0 x1 x4 x5
 by_cases hph:D2.phase=0
 ·have d2:(D2.phase != 0)=false:=by rw [hph];rfl
  have hkp:=zaa (show zlf D2 kk jj D2 from ⟨t,hkt'.out,.inr ⟨fun e=>e.1 hph,rfl⟩⟩)
  clear hph x2
  have y:=zaa (hy.out _ hkp.out)
  have hmr:D2.muts[M]?=some r:=by show D2.muts[M]?=some r;rw [hmu'.out];exact hr'.out
  obtain ⟨gm,cm,gr,cr,R⟩:=hv2.out.rootAt hmr hH6'.out
  have g5:=hv2.out.cell 5 S1.vm rfl
  rw [R.vm] at g5
  have c0:=R.xm
  have c1:=R.xr
  have fr:=R.frz
  have q1:=Z0 hq3.out 1 (.int .i64 (M:Int)) rfl
  have q2:=Z0 hq3.out 2 (.int .i64 (H:Int)) rfl
  have hML:(M:Int)<(D2.muts.length:Int):=by show (M:Int)<(D2.muts.length:Int);rw [hmu'.out];exact hM1
  have vr:=hv2.out.root M H r _ a hmr R.mv rfl
  have hv9:=zaa (show VarW _ base B S1 (M8 D2 (M:Int) (H:Int) a) from by rw [zfb hmr];exact vr.1)
  have hB9:=zaa (hB2.out.trans vr.2)
  have hT9:=zaa (hT2.out.own_set (zie R.mv) H (.int .i64 a))
  generalize r[H]?.getD 0=old at c1
  clear R vr hmr
  go_wp2_with fail
  go_region
  all_goals go_wp2_with fail
  all_goals go_ret
  all_goals exact ⟨⟨_,rfl,S1,_,y.out,hv9.out.drew,hT9.out.below (below_drewN (Below.refl _ _) 1)⟩,below_drewN hB9.out 1⟩
 have d2:(D2.phase != 0)=true:=bne_iff_ne.2 hph
 have hph':=zaa hph
 clear hph
 cases hsw:t.swept
 case true =>
  rw [hsw] at x3
  have hkp:=zaa (show zlf D2 kk jj D2 from ⟨t,hkt'.out,.inr ⟨fun e=>by rw [hsw] at e;exact absurd e.2 (by decide),rfl⟩⟩)
  clear hsw x2
  have y:=zaa (hy.out _ hkp.out)
  have hmr:D2.muts[M]?=some r:=by show D2.muts[M]?=some r;rw [hmu'.out];exact hr'.out
  obtain ⟨gm,cm,gr,cr,R⟩:=hv2.out.rootAt hmr hH6'.out
  have g5:=hv2.out.cell 5 S1.vm rfl
  rw [R.vm] at g5
  have c0:=R.xm
  have c1:=R.xr
  have fr:=R.frz
  have q1:=Z0 hq3.out 1 (.int .i64 (M:Int)) rfl
  have q2:=Z0 hq3.out 2 (.int .i64 (H:Int)) rfl
  have hML:(M:Int)<(D2.muts.length:Int):=by show (M:Int)<(D2.muts.length:Int);rw [hmu'.out];exact hM1
  have vr:=hv2.out.root M H r _ a hmr R.mv rfl
  have hv9:=zaa (show VarW _ base B S1 (M8 D2 (M:Int) (H:Int) a) from by rw [zfb hmr];exact vr.1)
  have hB9:=zaa (hB2.out.trans vr.2)
  have hT9:=zaa (hT2.out.own_set (zie R.mv) H (.int .i64 a))
  generalize r[H]?.getD 0=old at c1
  clear R vr hmr
  go_wp2_with fail
  go_region
  all_goals go_wp2_with fail
  all_goals go_ret
  all_goals exact ⟨⟨_,rfl,S1,_,y.out,hv9.out.drew,hT9.out.below (below_drewN (Below.refl _ _) 1)⟩,below_drewN hB9.out 1⟩
 rw [hsw] at x3
 have hj16:=zaa (show jj≤16 from by obtain ⟨t',ht',hj,_⟩:=hob'.out;rw [hkt'.out] at ht';cases ht';exact (zek hF2.out hkt'.out hj).2.2)
 have hj1:(jj:Int)≤16:=by have:=hj16.out;omega
 have hkp:=zaa (show zlf D2 kk jj { D2 with spans:=D2.spans.set kk { t with mark:=bits .or .i64 t.mark ((2:Int) ^ jj) } } from ⟨t,hkt'.out,.inl ⟨hph'.out,hsw,rfl⟩⟩)
 have f2:=hv2.out.frzS hgs'.out (kk*6+2)
 have v3:=hv2.out.mark hgs'.out kk t p (bits .or .i64 t.mark ((2:Int) ^ jj)) hkt'.out hp'.out
 have hv3:=zaa v3.1.drew
 have hB3:=zaa (show Below base w (w2.setCell ⟨gs,kk*6+2,none⟩ (.int .i64 (bits .or .i64 t.mark ((2:Int) ^ jj)))).drew from below_drewN (hB2.out.trans v3.2) 1)
 have hT3:=zaa (show T8 w (w2.setCell ⟨gs,kk*6+2,none⟩ (.int .i64 (bits .or .i64 t.mark ((2:Int) ^ jj)))).drew B S S1 from (hT2.out.own_set (mem_vs hgs'.out) _ _).below (below_drewN (Below.refl _ _) 1))
 have hqs:=zaa (show gs≠w.heap.size from fun e=>by
  have hrow:=hv2.out.own.spans
  rw [hgs'.out] at hrow
  obtain ⟨cur,hc⟩:∃ cur,w2.heap[gs]?=some (.cells cur 97 (0,0)):=by
   rcases hrow.2 with ⟨hx,_⟩ | ⟨g,cap,cur,hx,_,hh,_⟩
   ·cases hx
   ·cases hx
    exact ⟨cur,hh⟩
  rw [e,hq3.out] at hc
  cases hc)
 have hq4:Hid ((w2.setCell ⟨gs,kk*6+2,none⟩ (.int .i64 (bits .or .i64 t.mark ((2:Int) ^ jj)))).drew.heap[w.heap.size]?=some (.cells #[.int .i64 k,.int .i64 (M:Int),.int .i64 (H:Int),.int .i64 g,.int .i64 i,.int .i64 n,.int .i64 v] 118 (0,0))):=zaa ((heap_setCell_other w2 ⟨gs,kk*6+2,none⟩ w.heap.size _ (by simpa using hqs.out.symm)).trans hq3.out)
 clear hsw v3
 go_wp2_with fail
 go_region
 rw [zpg hj16.out]
 generalize (w2.setCell ⟨gs,kk*6+2,none⟩ (.int .i64 (bits .or .i64 t.mark ((2:Int) ^ jj)))).drew=w3 at *
 clear g4 g6 x2 x3 f2
 have y:=zaa (hy.out _ hkp.out)
 have hmr:({ D2 with spans:=D2.spans.set kk { t with mark:=bits .or .i64 t.mark ((2:Int) ^ jj) } }:WD).muts[M]?=some r:=by show D2.muts[M]?=some r;rw [hmu'.out];exact hr'.out
 obtain ⟨gm,cm,gr,cr,R⟩:=hv3.out.rootAt hmr hH6'.out
 have g5:=hv3.out.cell 5 S1.vm rfl
 rw [R.vm] at g5
 have c0:=R.xm
 have c1:=R.xr
 have fr:=R.frz
 have q1:=Z0 hq4.out 1 (.int .i64 (M:Int)) rfl
 have q2:=Z0 hq4.out 2 (.int .i64 (H:Int)) rfl
 have hML:(M:Int)<(({ D2 with spans:=D2.spans.set kk { t with mark:=bits .or .i64 t.mark ((2:Int) ^ jj) } }:WD).muts.length:Int):=by show (M:Int)<(D2.muts.length:Int);rw [hmu'.out];exact hM1
 have vr:=hv3.out.root M H r _ a hmr R.mv rfl
 have hv9:=zaa (show VarW _ base B S1 (M8 ({ D2 with spans:=D2.spans.set kk { t with mark:=bits .or .i64 t.mark ((2:Int) ^ jj) } }:WD) (M:Int) (H:Int) a) from by rw [zfb hmr];exact vr.1)
 have hB9:=zaa (hB3.out.trans vr.2)
 have hT9:=zaa (hT3.out.own_set (zie R.mv) H (.int .i64 a))
 generalize r[H]?.getD 0=old at c1
 clear R vr hmr
 go_wp2_with fail
 go_region
 all_goals go_wp2_with fail
 all_goals go_ret
 all_goals exact ⟨⟨_,rfl,S1,_,y.out,hv9.out.drew,hT9.out.below (below_drewN (Below.refl _ _) 1)⟩,below_drewN hB9.out 1⟩
end Go.Proofs.YtilkidaihbhfpaaGreat
