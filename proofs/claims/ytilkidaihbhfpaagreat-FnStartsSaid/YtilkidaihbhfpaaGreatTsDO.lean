import Derived.Test.YtilkidaihbhfpaaGreatTsSDoP
import Derived.Deep.QuietTactic

set_option maxRecDepth 100000
set_option maxHeartbeats 16000000
namespace Go.Proofs.YtilkidaihbhfpaaGreat
open Go.RowKit
set_option linter.unusedVariables false
set_option linter.unusedSimpArgs false
theorem sdo_1 (base B:Nat) (S:Y2) (D:WD) (m h g i n v:Int) (hG:U1 D) (hR:F0 D) (w:World) (hv:VarW w base B S D) :
  Calls Tryz.prog 114 #[.pointer (some ⟨B,0,none⟩),OpD.val ⟨1,m,h,g,i,n,v⟩] w fun e w'=>zih D ⟨1,m,h,g,i,n,v⟩ base B S w e w'∧Below base w w':=by
 have hG':=zaa hG
 have hR':=zaa hR
 have hle:=zaa (Nat.le_of_lt (Nat.lt_of_le_of_lt hv.le hv.lt))
 have bb:=Z4 (Z5 w (.cells #[.int .i64 1,.int .i64 m,.int .i64 h,.int .i64 g,.int .i64 i,.int .i64 n,.int .i64 v] 118)) (Z5 (w.alloc (.cells #[.int .i64 1,.int .i64 m,.int .i64 h,.int .i64 g,.int .i64 i,.int .i64 n,.int .i64 v] 118)) (.cells #[.int .i64 0,.int .i64 0] 114))
 have bx:=Z6 (Z5 (w.alloc (.cells #[.int .i64 1,.int .i64 m,.int .i64 h,.int .i64 g,.int .i64 i,.int .i64 n,.int .i64 v] 118)) (.cells #[.int .i64 0,.int .i64 0] 114)) (Y6 w (.cells #[.int .i64 1,.int .i64 m,.int .i64 h,.int .i64 g,.int .i64 i,.int .i64 n,.int .i64 v] 118))
 have ba:=Y6 (w.alloc (.cells #[.int .i64 1,.int .i64 m,.int .i64 h,.int .i64 g,.int .i64 i,.int .i64 n,.int .i64 v] 118)) (.cells #[.int .i64 0,.int .i64 0] 114)
 rw [World.size_alloc] at ba
 have hBb:=zaa (bb.mono hle.out)
 have hTb:=zaa (T8.of_below B S bb)
 have hv0:=zaa (hv.below bb)
 have hq:=zaa bx
 have ha:=zaa ba
 have hnb:=zaa (show ∀ q,w.heap.size≤q→q ∉ B :: blks S.all from fun q hq hm=>by
  rcases List.mem_cons.1 hm with e | hm
  ·have:=hv.lt
   omega
  ·have:=(hv.own.lt _ hm).2
   omega)
 have hz0:=zaa (show ((w.alloc (.cells #[.int .i64 1,.int .i64 m,.int .i64 h,.int .i64 g,.int .i64 i,.int .i64 n,.int .i64 v] 118)).alloc (.cells #[.int .i64 0,.int .i64 0] 114)).heap.size=w.heap.size+1+1 by simp)
 obtain ⟨cd,hcd⟩:=X0.total D ⟨1,m,h,g,i,n,v⟩
 have hcd':=zaa hcd
 obtain ⟨am,cm,hvm⟩:=Y4 hv0.out.own.muts
 have hvm':=zaa hvm
 have hmr:=hv0.out.rd.parts.2.2.2.1
 have hfirst:=zaa (fun (w':World) (hb:Below ((w.alloc (.cells #[.int .i64 1,.int .i64 m,.int .i64 h,.int .i64 g,.int .i64 i,.int .i64 n,.int .i64 v] 118)).alloc (.cells #[.int .i64 0,.int .i64 0] 114)).heap.size ((w.alloc (.cells #[.int .i64 1,.int .i64 m,.int .i64 h,.int .i64 g,.int .i64 i,.int .i64 n,.int .i64 v] 118)).alloc (.cells #[.int .i64 0,.int .i64 0] 114)) w')=>(J9 ⟨1,m,h,g,i,n,v⟩ D S.vm w' ⟨by show (1:Int)≤1;omega,by show (1:Int)≤9;omega⟩ (hmr.below hb) hG'.out.form.roots).mono fun e w'' ⟨⟨c,h1,h2⟩,h3⟩=>(⟨by rw [h1,hcd'.out.unique h2],h3⟩:e=Ending.returned (.int .i64 cd)∧Below w'.heap.size w' w''))
 rw [hvm] at hfirst
 have g5:=hv0.out.cell 5 S.vm rfl
 rw [hvm] at g5
 have X5:=Ext.cell g5
 have Q0:=Ext.cell (Z0 bx 0 (.int .i64 1) rfl)
 have Q1:=Ext.cell (Z0 bx 1 (.int .i64 m) rfl)
 have Q2:=Ext.cell (Z0 bx 2 (.int .i64 h) rfl)
 have Q3:=Ext.cell (Z0 bx 3 (.int .i64 g) rfl)
 have Q4:=Ext.cell (Z0 bx 4 (.int .i64 i) rfl)
 have Q5:=Ext.cell (Z0 bx 5 (.int .i64 n) rfl)
 have Q6:=Ext.cell (Z0 bx 6 (.int .i64 v) rfl)
 have q0:=Z0 bx 0 (.int .i64 1) rfl
 have hcd0:=zaa hcd
 unfold OpD.val OpD.cells at *
 clear hG hR hv bb bx ba hcd hvm hmr g5
 go_enter Tryz.func114,Tryz.ntmps114
 go_wp2_with fail
 generalize (w.alloc (.cells #[.int .i64 1,.int .i64 m,.int .i64 h,.int .i64 g,.int .i64 i,.int .i64 n,.int .i64 v] 118)).alloc (.cells #[.int .i64 0,.int .i64 0] 114)=W at *
 clear q0
 refine Y5 (Below.refl _ _) (by kernel_rfl) (by kernel_rfl) ?_
 repeat (go_big_quiet_step ((go_at_call 149;exact Ext.call (hfirst.out _ (Ext.below _)))))
 refine wpQuiet_nil ?_
 intro _ hw'
 obtain ⟨x9,hw''⟩:=hw'
 subst hw''
 have hv1:=zaa (hv0.out.below x9.below)
 have hB1:=zaa (hBb.out.trans (x9.below.mono (by have:=hz0.out;have:=hle.out;omega)))
 have hT1:=zaa (hTb.out.below x9.below)
 have hq1:Hid (x9.val.heap[w.heap.size]?=some (.cells #[.int .i64 1,.int .i64 m,.int .i64 h,.int .i64 g,.int .i64 i,.int .i64 n,.int .i64 v] 118 (0,0))):=zaa (Z6 x9.below hq.out)
 have ha1:Hid (x9.val.heap[w.heap.size+1]?=some (.cells #[.int .i64 0,.int .i64 0] 114 (0,0))):=zaa (Z6 x9.below ha.out)
 have hz1:=zaa (show w.heap.size+1+1≤x9.val.heap.size from by have:=x9.below.size;have:=hz0.out;omega)
 generalize x9.val=w1 at *
 clear X5 Q0 Q1 Q2 Q3 Q4 Q5 Q6 hfirst hv0 hBb hTb hq ha hz0
 have a0:=Z0 ha1.out 0 (.int .i64 0) rfl
 have a1:=Z0 ha1.out 1 (.int .i64 0) rfl
 have z0:=Z3 ha1.out 0
 have z1:=Z3 ha1.out 1
 by_cases hc:cd=0
 case neg =>
  have d1:(cd != 0)=true:=bne_iff_ne.2 hc
  have y:=zaa (show DoIs D ⟨1,m,h,g,i,n,v⟩ D cd 0 from .inr (.inl ⟨⟨by show (1:Int)≤1;omega,by show (1:Int)≤9;omega⟩,hcd'.out,hc,rfl,rfl⟩))
  have hans:=zaa (show w.heap.size+1 ∉ B :: blks S.all from hnb.out _ (by omega))
  clear hc hcd' hcd0
  go_wp2_with fail
  refine bodyPost_ret (v:=.agg #[.int .i64 cd,.int .i64 0]) (by simp [results,Tryz.results114,go_sem,a0,a1,z0,z1]) rfl ?_
  have hch:Chg [w.heap.size+1] w1 _:=((Chg.refl _ _).put (b:=w.heap.size+1) (by simp) 0 (.int .i64 cd)).put (b:=w.heap.size+1) (by simp) 1 (.int .i64 0)
  exact Q9 y.out hv1.out hT1.out hB1.out (by have:=hle.out;omega) (by omega) hans.out hch
 have d1:(cd != 0)=false:=by rw [hc];rfl
 rw [hc] at hcd'
 obtain ⟨hmo,hug,huo,hs1⟩:=hcd'.out.zero
 have hmo':=zaa hmo
 have hug':=zaa hug
 have huo':=zaa huo
 have hs1':=zaa hs1
 have hk:=zaa (show ∀ E c x,zlk D ⟨1,m,h,g,i,n,v⟩ E c x→DoIs D ⟨1,m,h,g,i,n,v⟩ E c x from fun E c x h=>.inr (.inr ⟨⟨by show (1:Int)≤1;omega,by show (1:Int)≤9;omega⟩,hcd'.out,h⟩))
 obtain ⟨M,rfl⟩:=Int.eq_ofNat_of_zero_le (show 0≤m from hmo.1)
 obtain ⟨H,rfl⟩:=Int.eq_ofNat_of_zero_le (show 0≤h from hmo.2.2.1)
 have hML:(M:Int)<(D.muts.length:Int):=hmo.2.1
 obtain ⟨r,hr⟩:∃ r,D.muts[M]?=some r:=⟨_,List.getElem?_eq_getElem (by omega)⟩
 have hr6:=hG'.out.form.roots M r hr
 have hH6:H<r.length:=by have hx:(H:Int)<6:=hmo.2.2.2;omega
 have hHL:(H:Int)<(r.length:Int):=by omega
 have hroot:=zaa (show V4 D (M:Int) (H:Int)=r[H]?.getD 0 by unfold V4;rw [Int.toNat_natCast,Int.toNat_natCast,hr];rfl)
 have hrx:=zaa (show ∀ x:Nat,V4 D (M:Int) (x:Int)=r[x]?.getD 0 from fun x=>by unfold V4;rw [Int.toNat_natCast,Int.toNat_natCast,hr];rfl)
 obtain ⟨gm,cm',gr,cr,R⟩:=hv1.out.rootAt hr hH6
 obtain ⟨rfl,rfl⟩:am=some ⟨gm,0,none⟩∧cm=cm':=by have:=hvm'.out.symm.trans R.vm;simpa using this
 have g5:=hv1.out.cell 5 S.vm rfl
 rw [R.vm] at g5
 have c0:=R.xm
 have c1:=R.xr
 have fr:=R.frz
 have hmv:=zaa R.mv
 have hrn:=zaa (show gr ∈ blks S.all from zie R.mv)
 have hr':=zaa hr
 have hmm:=zaa (show D.muts.length≤3 by have:=hG'.out.form.geo.2.2.2.2.2.2;omega)
 have hH6':=zaa hH6
 have q0:=Z0 hq1.out 0 (.int .i64 1) rfl
 have q1:=Z0 hq1.out 1 (.int .i64 (M:Int)) rfl
 have q2:=Z0 hq1.out 2 (.int .i64 (H:Int)) rfl
 have q3:=Z0 hq1.out 3 (.int .i64 g) rfl
 have q4:=Z0 hq1.out 4 (.int .i64 i) rfl
 have q5:=Z0 hq1.out 5 (.int .i64 n) rfl
 have q6:=Z0 hq1.out 6 (.int .i64 v) rfl
 have hgq:=zaa (show ¬ gr=w.heap.size∧¬ gr=w.heap.size+1 from ⟨fun e=>hnb.out _ (Nat.le_refl _) (by rw [← e];exact List.mem_cons_of_mem _ hrn.out),fun e=>hnb.out _ (by omega:w.heap.size≤w.heap.size+1) (by rw [← e];exact List.mem_cons_of_mem _ hrn.out)⟩)
 have hg1:=hgq.out.1
 have hg2:=hgq.out.2
 have hg3:¬ w.heap.size=gr:=fun e=>hg1 e.symm
 have hg4:¬ w.heap.size+1=gr:=fun e=>hg2 e.symm
 clear hmo hug huo hs1 hc hr hr6 hH6 R hcd0
 go_wp2_with fail
 go_quiet (fail)
 have hv2:=zaa (hv1.out.drewN nq)
 have hB2:=zaa (below_drewN hB1.out nq)
 have hT2:=zaa (hT1.out.below (below_drewN (Below.refl _ _) nq))
 have hq2:Hid ((w1.drewN nq).heap[w.heap.size]?=some (.cells #[.int .i64 1,.int .i64 (M:Int),.int .i64 (H:Int),.int .i64 g,.int .i64 i,.int .i64 n,.int .i64 v] 118 (0,0))):=zaa hq1.out
 have ha2:Hid ((w1.drewN nq).heap[w.heap.size+1]?=some (.cells #[.int .i64 0,.int .i64 0] 114 (0,0))):=zaa ha1.out
 have hz2:Hid (w.heap.size+1+1≤(w1.drewN nq).heap.size):=zaa hz1.out
 replace g5:(w1.drewN nq).cell? ⟨B,5,none⟩=_:=g5
 replace c0:(w1.drewN nq).cell? ⟨gm,M,none⟩=_:=c0
 replace c1:(w1.drewN nq).cell? ⟨gr,H,none⟩=_:=c1
 replace fr:(w1.drewN nq).frozen? ⟨gr,H,none⟩=_:=fr
 replace a0:(w1.drewN nq).cell? ⟨w.heap.size+1,0,none⟩=_:=a0
 replace a1:(w1.drewN nq).cell? ⟨w.heap.size+1,1,none⟩=_:=a1
 replace z0:(w1.drewN nq).frozen? ⟨w.heap.size+1,0,none⟩=_:=z0
 replace z1:(w1.drewN nq).frozen? ⟨w.heap.size+1,1,none⟩=_:=z1
 replace q0:(w1.drewN nq).cell? ⟨w.heap.size,0,none⟩=_:=q0
 replace q1:(w1.drewN nq).cell? ⟨w.heap.size,1,none⟩=_:=q1
 replace q2:(w1.drewN nq).cell? ⟨w.heap.size,2,none⟩=_:=q2
 replace q3:(w1.drewN nq).cell? ⟨w.heap.size,3,none⟩=_:=q3
 replace q4:(w1.drewN nq).cell? ⟨w.heap.size,4,none⟩=_:=q4
 replace q5:(w1.drewN nq).cell? ⟨w.heap.size,5,none⟩=_:=q5
 replace q6:(w1.drewN nq).cell? ⟨w.heap.size,6,none⟩=_:=q6
 generalize w1.drewN nq=w2 at *
 clear hv1 hB1 hT1 hq1 ha1 hz1
 have hal:=zaa (zvj base B S D 1 (M:Int) (H:Int) g i n v hG'.out ⟨hmo'.out.1,hmo'.out.2.1⟩ hmo'.out.2.2 (by first | exact hs1'.out rfl | exact hs1'.out trivial) w2 hv2.out)
 unfold OpD.val OpD.cells at hal
 clear c1
 go_wp2_with fail
 refine hal.out.mono ?_
 rintro e w3 ⟨⟨c,rfl,S3,E,hA,hv3,hT3⟩,b3⟩
 have ha3:Hid (w3.heap[w.heap.size+1]?=some (.cells #[.int .i64 0,.int .i64 0] 114 (0,0))):=zaa ((hT3.chg.block _ (by have:=hz2.out;omega) (hnb.out _ (by omega))).trans ha2.out)
 have y:=zaa (hk.out E c 0 (.inl ⟨rfl,hA,rfl⟩))
 have hTE:=zaa (hT2.out.trans hT3)
 have hBE:=zaa (hB2.out.trans b3)
 have hvE:=zaa hv3
 have hans:=zaa (hT3.fresh (hnb.out (w.heap.size+1) (by omega)) (by have:=hz2.out;omega))
 clear hA hv3 hT3 b3 hal a0 a1 z0 z1 g5 c0 fr q0 q1 q2 q3 q4 q5 q6
 have a0:=Z0 ha3.out 0 (.int .i64 0) rfl
 have a1:=Z0 ha3.out 1 (.int .i64 0) rfl
 have z0:=Z3 ha3.out 0
 have z1:=Z3 ha3.out 1
 go_wp2_with fail
 refine bodyPost_ret (v:=.agg #[.int .i64 c,.int .i64 0]) (by simp [results,Tryz.results114,go_sem,a0,a1,z0,z1]) rfl ?_
 have hch:Chg [w.heap.size+1] w3 _:=((Chg.refl _ _).put (b:=w.heap.size+1) (by simp) 0 (.int .i64 c)).put (b:=w.heap.size+1) (by simp) 1 (.int .i64 0)
 exact Q9 y.out hvE.out hTE.out hBE.out (by have:=hle.out;omega) (by omega) hans.out hch
theorem sdo_2 (base B:Nat) (S:Y2) (D:WD) (m h g i n v:Int) (hG:U1 D) (hR:F0 D) (w:World) (hv:VarW w base B S D) :
  Calls Tryz.prog 114 #[.pointer (some ⟨B,0,none⟩),OpD.val ⟨2,m,h,g,i,n,v⟩] w fun e w'=>zih D ⟨2,m,h,g,i,n,v⟩ base B S w e w'∧Below base w w':=by
 have hG':=zaa hG
 have hR':=zaa hR
 have hle:=zaa (Nat.le_of_lt (Nat.lt_of_le_of_lt hv.le hv.lt))
 have bb:=Z4 (Z5 w (.cells #[.int .i64 2,.int .i64 m,.int .i64 h,.int .i64 g,.int .i64 i,.int .i64 n,.int .i64 v] 118)) (Z5 (w.alloc (.cells #[.int .i64 2,.int .i64 m,.int .i64 h,.int .i64 g,.int .i64 i,.int .i64 n,.int .i64 v] 118)) (.cells #[.int .i64 0,.int .i64 0] 114))
 have bx:=Z6 (Z5 (w.alloc (.cells #[.int .i64 2,.int .i64 m,.int .i64 h,.int .i64 g,.int .i64 i,.int .i64 n,.int .i64 v] 118)) (.cells #[.int .i64 0,.int .i64 0] 114)) (Y6 w (.cells #[.int .i64 2,.int .i64 m,.int .i64 h,.int .i64 g,.int .i64 i,.int .i64 n,.int .i64 v] 118))
 have ba:=Y6 (w.alloc (.cells #[.int .i64 2,.int .i64 m,.int .i64 h,.int .i64 g,.int .i64 i,.int .i64 n,.int .i64 v] 118)) (.cells #[.int .i64 0,.int .i64 0] 114)
 rw [World.size_alloc] at ba
 have hBb:=zaa (bb.mono hle.out)
 have hTb:=zaa (T8.of_below B S bb)
 have hv0:=zaa (hv.below bb)
 have hq:=zaa bx
 have ha:=zaa ba
 have hnb:=zaa (show ∀ q,w.heap.size≤q→q ∉ B :: blks S.all from fun q hq hm=>by
  rcases List.mem_cons.1 hm with e | hm
  ·have:=hv.lt
   omega
  ·have:=(hv.own.lt _ hm).2
   omega)
 have hz0:=zaa (show ((w.alloc (.cells #[.int .i64 2,.int .i64 m,.int .i64 h,.int .i64 g,.int .i64 i,.int .i64 n,.int .i64 v] 118)).alloc (.cells #[.int .i64 0,.int .i64 0] 114)).heap.size=w.heap.size+1+1 by simp)
 obtain ⟨cd,hcd⟩:=X0.total D ⟨2,m,h,g,i,n,v⟩
 have hcd':=zaa hcd
 obtain ⟨am,cm,hvm⟩:=Y4 hv0.out.own.muts
 have hvm':=zaa hvm
 have hmr:=hv0.out.rd.parts.2.2.2.1
 have hfirst:=zaa (fun (w':World) (hb:Below ((w.alloc (.cells #[.int .i64 2,.int .i64 m,.int .i64 h,.int .i64 g,.int .i64 i,.int .i64 n,.int .i64 v] 118)).alloc (.cells #[.int .i64 0,.int .i64 0] 114)).heap.size ((w.alloc (.cells #[.int .i64 2,.int .i64 m,.int .i64 h,.int .i64 g,.int .i64 i,.int .i64 n,.int .i64 v] 118)).alloc (.cells #[.int .i64 0,.int .i64 0] 114)) w')=>(J9 ⟨2,m,h,g,i,n,v⟩ D S.vm w' ⟨by show (1:Int)≤2;omega,by show (2:Int)≤9;omega⟩ (hmr.below hb) hG'.out.form.roots).mono fun e w'' ⟨⟨c,h1,h2⟩,h3⟩=>(⟨by rw [h1,hcd'.out.unique h2],h3⟩:e=Ending.returned (.int .i64 cd)∧Below w'.heap.size w' w''))
 rw [hvm] at hfirst
 have g5:=hv0.out.cell 5 S.vm rfl
 rw [hvm] at g5
 have X5:=Ext.cell g5
 have Q0:=Ext.cell (Z0 bx 0 (.int .i64 2) rfl)
 have Q1:=Ext.cell (Z0 bx 1 (.int .i64 m) rfl)
 have Q2:=Ext.cell (Z0 bx 2 (.int .i64 h) rfl)
 have Q3:=Ext.cell (Z0 bx 3 (.int .i64 g) rfl)
 have Q4:=Ext.cell (Z0 bx 4 (.int .i64 i) rfl)
 have Q5:=Ext.cell (Z0 bx 5 (.int .i64 n) rfl)
 have Q6:=Ext.cell (Z0 bx 6 (.int .i64 v) rfl)
 have q0:=Z0 bx 0 (.int .i64 2) rfl
 have hcd0:=zaa hcd
 unfold OpD.val OpD.cells at *
 clear hG hR hv bb bx ba hcd hvm hmr g5
 go_enter Tryz.func114,Tryz.ntmps114
 go_wp2_with fail
 generalize (w.alloc (.cells #[.int .i64 2,.int .i64 m,.int .i64 h,.int .i64 g,.int .i64 i,.int .i64 n,.int .i64 v] 118)).alloc (.cells #[.int .i64 0,.int .i64 0] 114)=W at *
 clear q0
 refine Y5 (Below.refl _ _) (by kernel_rfl) (by kernel_rfl) ?_
 repeat (go_big_quiet_step ((go_at_call 149;exact Ext.call (hfirst.out _ (Ext.below _)))))
 refine wpQuiet_nil ?_
 intro _ hw'
 obtain ⟨x9,hw''⟩:=hw'
 subst hw''
 have hv1:=zaa (hv0.out.below x9.below)
 have hB1:=zaa (hBb.out.trans (x9.below.mono (by have:=hz0.out;have:=hle.out;omega)))
 have hT1:=zaa (hTb.out.below x9.below)
 have hq1:Hid (x9.val.heap[w.heap.size]?=some (.cells #[.int .i64 2,.int .i64 m,.int .i64 h,.int .i64 g,.int .i64 i,.int .i64 n,.int .i64 v] 118 (0,0))):=zaa (Z6 x9.below hq.out)
 have ha1:Hid (x9.val.heap[w.heap.size+1]?=some (.cells #[.int .i64 0,.int .i64 0] 114 (0,0))):=zaa (Z6 x9.below ha.out)
 have hz1:=zaa (show w.heap.size+1+1≤x9.val.heap.size from by have:=x9.below.size;have:=hz0.out;omega)
 generalize x9.val=w1 at *
 clear X5 Q0 Q1 Q2 Q3 Q4 Q5 Q6 hfirst hv0 hBb hTb hq ha hz0
 have a0:=Z0 ha1.out 0 (.int .i64 0) rfl
 have a1:=Z0 ha1.out 1 (.int .i64 0) rfl
 have z0:=Z3 ha1.out 0
 have z1:=Z3 ha1.out 1
 by_cases hc:cd=0
 case neg =>
  have d1:(cd != 0)=true:=bne_iff_ne.2 hc
  have y:=zaa (show DoIs D ⟨2,m,h,g,i,n,v⟩ D cd 0 from .inr (.inl ⟨⟨by show (1:Int)≤2;omega,by show (2:Int)≤9;omega⟩,hcd'.out,hc,rfl,rfl⟩))
  have hans:=zaa (show w.heap.size+1 ∉ B :: blks S.all from hnb.out _ (by omega))
  clear hc hcd' hcd0
  go_wp2_with fail
  refine bodyPost_ret (v:=.agg #[.int .i64 cd,.int .i64 0]) (by simp [results,Tryz.results114,go_sem,a0,a1,z0,z1]) rfl ?_
  have hch:Chg [w.heap.size+1] w1 _:=((Chg.refl _ _).put (b:=w.heap.size+1) (by simp) 0 (.int .i64 cd)).put (b:=w.heap.size+1) (by simp) 1 (.int .i64 0)
  exact Q9 y.out hv1.out hT1.out hB1.out (by have:=hle.out;omega) (by omega) hans.out hch
 have d1:(cd != 0)=false:=by rw [hc];rfl
 rw [hc] at hcd'
 obtain ⟨hmo,hug,huo,hs1⟩:=hcd'.out.zero
 have hmo':=zaa hmo
 have hug':=zaa hug
 have huo':=zaa huo
 have hs1':=zaa hs1
 have hk:=zaa (show ∀ E c x,zlk D ⟨2,m,h,g,i,n,v⟩ E c x→DoIs D ⟨2,m,h,g,i,n,v⟩ E c x from fun E c x h=>.inr (.inr ⟨⟨by show (1:Int)≤2;omega,by show (2:Int)≤9;omega⟩,hcd'.out,h⟩))
 obtain ⟨M,rfl⟩:=Int.eq_ofNat_of_zero_le (show 0≤m from hmo.1)
 obtain ⟨H,rfl⟩:=Int.eq_ofNat_of_zero_le (show 0≤h from hmo.2.2.1)
 have hML:(M:Int)<(D.muts.length:Int):=hmo.2.1
 obtain ⟨r,hr⟩:∃ r,D.muts[M]?=some r:=⟨_,List.getElem?_eq_getElem (by omega)⟩
 have hr6:=hG'.out.form.roots M r hr
 have hH6:H<r.length:=by have hx:(H:Int)<6:=hmo.2.2.2;omega
 have hHL:(H:Int)<(r.length:Int):=by omega
 have hroot:=zaa (show V4 D (M:Int) (H:Int)=r[H]?.getD 0 by unfold V4;rw [Int.toNat_natCast,Int.toNat_natCast,hr];rfl)
 have hrx:=zaa (show ∀ x:Nat,V4 D (M:Int) (x:Int)=r[x]?.getD 0 from fun x=>by unfold V4;rw [Int.toNat_natCast,Int.toNat_natCast,hr];rfl)
 obtain ⟨gm,cm',gr,cr,R⟩:=hv1.out.rootAt hr hH6
 obtain ⟨rfl,rfl⟩:am=some ⟨gm,0,none⟩∧cm=cm':=by have:=hvm'.out.symm.trans R.vm;simpa using this
 have g5:=hv1.out.cell 5 S.vm rfl
 rw [R.vm] at g5
 have c0:=R.xm
 have c1:=R.xr
 have fr:=R.frz
 have hmv:=zaa R.mv
 have hrn:=zaa (show gr ∈ blks S.all from zie R.mv)
 have hr':=zaa hr
 have hmm:=zaa (show D.muts.length≤3 by have:=hG'.out.form.geo.2.2.2.2.2.2;omega)
 have hH6':=zaa hH6
 have q0:=Z0 hq1.out 0 (.int .i64 2) rfl
 have q1:=Z0 hq1.out 1 (.int .i64 (M:Int)) rfl
 have q2:=Z0 hq1.out 2 (.int .i64 (H:Int)) rfl
 have q3:=Z0 hq1.out 3 (.int .i64 g) rfl
 have q4:=Z0 hq1.out 4 (.int .i64 i) rfl
 have q5:=Z0 hq1.out 5 (.int .i64 n) rfl
 have q6:=Z0 hq1.out 6 (.int .i64 v) rfl
 have hgq:=zaa (show ¬ gr=w.heap.size∧¬ gr=w.heap.size+1 from ⟨fun e=>hnb.out _ (Nat.le_refl _) (by rw [← e];exact List.mem_cons_of_mem _ hrn.out),fun e=>hnb.out _ (by omega:w.heap.size≤w.heap.size+1) (by rw [← e];exact List.mem_cons_of_mem _ hrn.out)⟩)
 have hg1:=hgq.out.1
 have hg2:=hgq.out.2
 have hg3:¬ w.heap.size=gr:=fun e=>hg1 e.symm
 have hg4:¬ w.heap.size+1=gr:=fun e=>hg2 e.symm
 clear hmo hug huo hs1 hc hr hr6 hH6 R hcd0
 go_wp2_with fail
 go_quiet (fail)
 have hv2:=zaa (hv1.out.drewN nq)
 have hB2:=zaa (below_drewN hB1.out nq)
 have hT2:=zaa (hT1.out.below (below_drewN (Below.refl _ _) nq))
 have hq2:Hid ((w1.drewN nq).heap[w.heap.size]?=some (.cells #[.int .i64 2,.int .i64 (M:Int),.int .i64 (H:Int),.int .i64 g,.int .i64 i,.int .i64 n,.int .i64 v] 118 (0,0))):=zaa hq1.out
 have ha2:Hid ((w1.drewN nq).heap[w.heap.size+1]?=some (.cells #[.int .i64 0,.int .i64 0] 114 (0,0))):=zaa ha1.out
 have hz2:Hid (w.heap.size+1+1≤(w1.drewN nq).heap.size):=zaa hz1.out
 replace g5:(w1.drewN nq).cell? ⟨B,5,none⟩=_:=g5
 replace c0:(w1.drewN nq).cell? ⟨gm,M,none⟩=_:=c0
 replace c1:(w1.drewN nq).cell? ⟨gr,H,none⟩=_:=c1
 replace fr:(w1.drewN nq).frozen? ⟨gr,H,none⟩=_:=fr
 replace a0:(w1.drewN nq).cell? ⟨w.heap.size+1,0,none⟩=_:=a0
 replace a1:(w1.drewN nq).cell? ⟨w.heap.size+1,1,none⟩=_:=a1
 replace z0:(w1.drewN nq).frozen? ⟨w.heap.size+1,0,none⟩=_:=z0
 replace z1:(w1.drewN nq).frozen? ⟨w.heap.size+1,1,none⟩=_:=z1
 replace q0:(w1.drewN nq).cell? ⟨w.heap.size,0,none⟩=_:=q0
 replace q1:(w1.drewN nq).cell? ⟨w.heap.size,1,none⟩=_:=q1
 replace q2:(w1.drewN nq).cell? ⟨w.heap.size,2,none⟩=_:=q2
 replace q3:(w1.drewN nq).cell? ⟨w.heap.size,3,none⟩=_:=q3
 replace q4:(w1.drewN nq).cell? ⟨w.heap.size,4,none⟩=_:=q4
 replace q5:(w1.drewN nq).cell? ⟨w.heap.size,5,none⟩=_:=q5
 replace q6:(w1.drewN nq).cell? ⟨w.heap.size,6,none⟩=_:=q6
 generalize w1.drewN nq=w2 at *
 clear hv1 hB1 hT1 hq1 ha1 hz1
 have hgo:=hug'.out (show L3 2 by unfold L3;omega)
 obtain ⟨G,rfl⟩:=Int.eq_ofNat_of_zero_le (show 0≤g from hgo.1)
 have hG6:=zaa (show G<r.length by have hx:(G:Int)<6:=hgo.2;have:=hG'.out.form.roots M r hr'.out;omega)
 have hGL:(G:Int)<(r.length:Int):=by have:=hG6.out;omega
 have hrg:=zaa (hrx.out G)
 have hgo':=zaa hgo
 clear hgo
 obtain ⟨kk,j,s,ho,hks⟩:=hR'.out.at_ (m:=(M:Int)) (x:=(H:Int)) (huo'.out (show N2 2 by unfold N2;omega))
 have hobj:=zaa (show ∀ E c x,((¬ J8 2 i s j∧E=D∧c=4∧x=0)∨(J8 2 i s j∧OnIs D ⟨2,(M:Int),(H:Int),(G:Int),i,n,v⟩ s j (atW s (j:Int)+i).toNat E x∧c=0))→DoIs D ⟨2,(M:Int),(H:Int),(G:Int),i,n,v⟩ E c x from fun E c x h=>hk.out E c x (.inr (.inr (.inr (.inr ⟨by show N2 2;unfold N2;omega,kk,j,s,ho,hks,h⟩)))))
 rw [hroot.out] at ho
 obtain ⟨s',hks2,hin,p0,p1⟩:=N0 hG'.out.form ho
 rw [hks] at hks2
 obtain rfl:=Option.some.inj hks2
 have hfind:=zaa (zff B _ D hG'.out.form (r[H]?.getD 0) w2 hv2.out.rd hv2.out.boxW)
 have ho':=zaa ho
 have hks':=zaa hks
 have hin':=zaa hin
 have hsl:=(hG'.out.form.span kk s hks).slot j hin.j
 have hsl':=zaa hsl
 clear ho hks hks2 hin p0 p1 hsl
 generalize r[H]?.getD 0=x0 at *
 go_wp2_with fail
 refine hfind.out.mono ?_
 rintro e w3 ⟨⟨r1,r2,rfl,hqq⟩,b3⟩
 obtain ⟨rfl,rfl⟩:r1=(kk:Int)∧r2=(j:Int):=by
  rcases hqq with ⟨k',j',_,ho2,rfl,rfl⟩ | ⟨hn,_⟩
  ·obtain ⟨rfl,rfl⟩:=ho2.unique hG'.out.form ho'.out
   exact ⟨rfl,rfl⟩
  ·exact absurd ho'.out (hn hG'.out.form kk j)
 have hv3:=zaa (hv2.out.below b3)
 have hB3:=zaa (hB2.out.trans (b3.mono (by have:=hz2.out;have:=hle.out;omega)))
 have hT3:=zaa (hT2.out.below b3)
 have hq3:Hid (w3.heap[w.heap.size]?=some (.cells #[.int .i64 2,.int .i64 (M:Int),.int .i64 (H:Int),.int .i64 (G:Int),.int .i64 i,.int .i64 n,.int .i64 v] 118 (0,0))):=zaa (Z6 b3 hq2.out)
 have ha3:Hid (w3.heap[w.heap.size+1]?=some (.cells #[.int .i64 0,.int .i64 0] 114 (0,0))):=zaa (Z6 b3 ha2.out)
 have hz3:=zaa (show w.heap.size+1+1≤w3.heap.size from by have:=b3.size;have:=hz2.out;omega)
 clear hqq b3 hfind hv2 hB2 hT2 hq2 ha2 hz2 a0 a1 z0 z1 g5 c0 c1 fr q0 q1 q2 q3 q4 q5 q6
 have hkl0:=(List.getElem?_eq_some_iff.1 hks'.out).1
 have hkl1:(kk:Int)<(D.spans.length:Int):=by omega
 have hls:D.spans.length≤12:=by have:=hG'.out.form.spans;have:=hG'.out.form.geo.2.2.2.2.1;omega
 obtain ⟨p,hp⟩:=hv3.out.svAt hks'.out
 obtain ⟨gs,cs,hgs⟩:=hv3.out.headS (by omega)
 obtain ⟨gl,cl,hgl⟩:=N7 (hv3.out.own.inner kk s p hks'.out hp).1 (by have:=hin'.out.j;omega)
 obtain ⟨gp,cp,hgp⟩:=N7 (hv3.out.own.inner kk s p hks'.out hp).2 (by have:=hin'.out.j;have:=hin'.out.lens;have:=hin'.out.ptrs;omega)
 have g4:=hv3.out.cell 4 S.vs rfl
 rw [hgs] at g4
 obtain ⟨x0',x1,x2,x3,x4,x5⟩:=hv3.out.six hgs hks'.out hp
 rw [hgl] at x4
 rw [hgp] at x5
 have cL:=(Y7 (hv3.out.own.inner kk s p hks'.out hp).1 hgl j hin'.out.j).1
 have cP:=(Y7 (hv3.out.own.inner kk s p hks'.out hp).2 hgp j (by have:=hin'.out.j;have:=hin'.out.lens;have:=hin'.out.ptrs;omega)).1
 have hjl1:(j:Int)<(s.lens.length:Int):=by have:=hin'.out.j;omega
 have hjp1:(j:Int)<(s.ptrs.length:Int):=by have:=hin'.out.j;have:=hin'.out.lens;have:=hin'.out.ptrs;omega
 have hll:s.lens.length≤16∧s.ptrs.length≤16:=by have:=hin'.out.lens;have:=hin'.out.ptrs;have:=(E7 s.cls).2;omega
 clear hgs hgl hgp hp hkl0
 go_upto_region 22 with fail
 have b4:=Z5 w3 (.cells #[.int .i64 s.page,.int .i64 s.cls,.int .i64 s.mark,.bool s.swept,.slice (some ⟨gl,0,none⟩) s.lens.length cl,.slice (some ⟨gp,0,none⟩) s.ptrs.length cp] 97)
 have bS:=Y6 w3 (.cells #[.int .i64 s.page,.int .i64 s.cls,.int .i64 s.mark,.bool s.swept,.slice (some ⟨gl,0,none⟩) s.lens.length cl,.slice (some ⟨gp,0,none⟩) s.ptrs.length cp] 97)
 have hv4:=zaa (hv3.out.below b4)
 have hB4:=zaa (hB3.out.trans (b4.mono (by have:=hz3.out;have:=hle.out;omega)))
 have hT4:=zaa (hT3.out.below b4)
 have hq4:Hid ((w3.alloc (.cells #[.int .i64 s.page,.int .i64 s.cls,.int .i64 s.mark,.bool s.swept,.slice (some ⟨gl,0,none⟩) s.lens.length cl,.slice (some ⟨gp,0,none⟩) s.ptrs.length cp] 97)).heap[w.heap.size]?=some (.cells #[.int .i64 2,.int .i64 (M:Int),.int .i64 (H:Int),.int .i64 (G:Int),.int .i64 i,.int .i64 n,.int .i64 v] 118 (0,0))):=zaa (Z6 b4 hq3.out)
 have ha4:Hid ((w3.alloc (.cells #[.int .i64 s.page,.int .i64 s.cls,.int .i64 s.mark,.bool s.swept,.slice (some ⟨gl,0,none⟩) s.lens.length cl,.slice (some ⟨gp,0,none⟩) s.ptrs.length cp] 97)).heap[w.heap.size+1]?=some (.cells #[.int .i64 0,.int .i64 0] 114 (0,0))):=zaa (Z6 b4 ha3.out)
 have hz4:=zaa (show w.heap.size+1+1≤(w3.alloc (.cells #[.int .i64 s.page,.int .i64 s.cls,.int .i64 s.mark,.bool s.swept,.slice (some ⟨gl,0,none⟩) s.lens.length cl,.slice (some ⟨gp,0,none⟩) s.ptrs.length cp] 97)).heap.size from by have:=b4.size;have:=hz3.out;omega)
 have hs4:=zaa bS
 have cL4:=Z7 b4 cL
 have cP4:=Z7 b4 cP
 have hsb:w.heap.size+1+1≤w3.heap.size:=hz3.out
 clear g4 x0' x1 x2 x3 x4 x5 cL cP b4 bS hv3 hB3 hT3 hq3 ha3 hz3
 have hne:=zaa hsb
 generalize hsx:w3.heap.size=sx at *
 generalize w3.alloc (.cells #[.int .i64 s.page,.int .i64 s.cls,.int .i64 s.mark,.bool s.swept,.slice (some ⟨gl,0,none⟩) s.lens.length cl,.slice (some ⟨gp,0,none⟩) s.ptrs.length cp] 97)=w4 at *
 obtain ⟨ib,hib⟩:=J5 (J8 2 i s j)
 have hib':=zaa hib
 have hix:=zaa (fun (w':World)=>(sindex_2 (M:Int) (H:Int) (G:Int) i n v (s.lens[j]?.getD 0) (s.ptrs[j]?.getD 0) w').mono fun e w'' ⟨h1,h2⟩=>(⟨h1.at_ ib hib,h2⟩:e=Ending.returned (.bool ib)∧Below w'.heap.size w' w''))
 unfold OpD.val OpD.cells at hix
 have SL:=Ext.cell (Z0 hs4.out 4 (.slice (some ⟨gl,0,none⟩) s.lens.length cl) rfl)
 have SP:=Ext.cell (Z0 hs4.out 5 (.slice (some ⟨gp,0,none⟩) s.ptrs.length cp) rfl)
 have CL:=Ext.cell cL4
 have CP:=Ext.cell cP4
 have Q0:=Ext.cell (Z0 hq4.out 0 (.int .i64 2) rfl)
 have Q1:=Ext.cell (Z0 hq4.out 1 (.int .i64 (M:Int)) rfl)
 have Q2:=Ext.cell (Z0 hq4.out 2 (.int .i64 (H:Int)) rfl)
 have Q3:=Ext.cell (Z0 hq4.out 3 (.int .i64 (G:Int)) rfl)
 have Q4:=Ext.cell (Z0 hq4.out 4 (.int .i64 i) rfl)
 have Q5:=Ext.cell (Z0 hq4.out 5 (.int .i64 n) rfl)
 have Q6:=Ext.cell (Z0 hq4.out 6 (.int .i64 v) rfl)
 have hsx':=zaa hsx
 clear hib cL4 cP4 hsx
 refine Y5 (Below.refl _ _) (by kernel_rfl) (by kernel_rfl) ?_
 repeat (go_big_quiet_step ((go_at_call 151;exact Ext.call (hix.out _))))
 refine wpQuiet_nil ?_
 intro _ hw'
 obtain ⟨x9,hw''⟩:=hw'
 subst hw''
 have hv5:=zaa (hv4.out.below x9.below)
 have hB5:=zaa (hB4.out.trans (x9.below.mono (by have:=hz4.out;have:=hle.out;omega)))
 have hT5:=zaa (hT4.out.below x9.below)
 have hq5:Hid (x9.val.heap[w.heap.size]?=some (.cells #[.int .i64 2,.int .i64 (M:Int),.int .i64 (H:Int),.int .i64 (G:Int),.int .i64 i,.int .i64 n,.int .i64 v] 118 (0,0))):=zaa (Z6 x9.below hq4.out)
 have ha5:Hid (x9.val.heap[w.heap.size+1]?=some (.cells #[.int .i64 0,.int .i64 0] 114 (0,0))):=zaa (Z6 x9.below ha4.out)
 have hz5:=zaa (show w.heap.size+1+1≤x9.val.heap.size from by have:=x9.below.size;have:=hz4.out;omega)
 have hs5:Hid (x9.val.heap[sx]?=some (.cells #[.int .i64 s.page,.int .i64 s.cls,.int .i64 s.mark,.bool s.swept,.slice (some ⟨gl,0,none⟩) s.lens.length cl,.slice (some ⟨gp,0,none⟩) s.ptrs.length cp] 97 (0,0))):=zaa (Z6 x9.below hs4.out)
 have cL5:=CL x9
 generalize x9.val=w5 at *
 clear SL SP CL CP Q0 Q1 Q2 Q3 Q4 Q5 Q6 hix hv4 hB4 hT4 hq4 ha4 hz4 hs4
 have hans:=zaa (show w.heap.size+1 ∉ B :: blks S.all from hnb.out _ (by omega))
 cases ib
 case false =>
  have y:=zaa (hobj.out D 4 0 (.inl ⟨fun h=>(by have:=hib'.out.2 h;cases this),rfl,rfl,rfl⟩))
  have a0:=Z0 ha5.out 0 (.int .i64 0) rfl
  have a1:=Z0 ha5.out 1 (.int .i64 0) rfl
  have z0:=Z3 ha5.out 0
  have z1:=Z3 ha5.out 1
  clear cL5
  go_wp2_with fail
  refine bodyPost_ret (v:=.agg #[.int .i64 4,.int .i64 0]) (by simp [results,Tryz.results114,go_sem,a0,a1,z0,z1]) rfl ?_
  have hch:Chg [w.heap.size+1] w5 _:=((Chg.refl _ _).put (b:=w.heap.size+1) (by simp) 0 (.int .i64 4)).put (b:=w.heap.size+1) (by simp) 1 (.int .i64 0)
  exact Q9 y.out hv5.out hT5.out hB5.out (by have:=hle.out;omega) (by omega) hans.out hch
 have hI:=zaa (hib'.out.1 rfl)
 obtain ⟨A,hA⟩:=Int.eq_ofNat_of_zero_le hin'.out.bd.1
 have hA2:A≤1000:=by have:=hin'.out.bd.2.2.2.2.2;omega
 have hat:=zaa (fun (w':World)=>(hA ▸ zit s (.slice (some ⟨gl,0,none⟩) s.lens.length cl) (.slice (some ⟨gp,0,none⟩) s.ptrs.length cp) (j:Int) hin'.out.pg0 (by have:=hin'.out.pg1;have:=hin'.out.pg;omega) (by omega) (by omega) w':Calls Tryz.prog 117 #[zgz s (.slice (some ⟨gl,0,none⟩) s.lens.length cl) (.slice (some ⟨gp,0,none⟩) s.ptrs.length cp),.int .i64 j] w' fun e w''=>e=.returned (.int .i64 (A:Int))∧Below w'.heap.size w' w''))
 unfold zgz at hat
 have hi0:0≤i:=by have h1:=hsl'.out.p0;have h2:=hI.out.1;have h3:=hI.out.2;omega
 obtain ⟨I,rfl⟩:=Int.eq_ofNat_of_zero_le hi0
 have hil:(I:Int)<s.lens[j]?.getD 0:=by have h1:=hsl'.out.p1;have h2:=hI.out.1;have h3:=hI.out.2;omega
 have hwl:A+I<D.words.length:=by have h1:=hsl'.out.l1;have h2:=hin'.out.bd.2.1;have h3:=hin'.out.words;omega
 have hI2:I≤16:=by have h1:=hsl'.out.l1;have:=hin'.out.bd.2.2.2.1;omega
 have hpp:=zaa (show (atW s (j:Int)+(I:Int)).toNat=A+I by omega)
 clear hi0 hil
 have T0:=Ext.cell (Z0 hs5.out 0 (.int .i64 s.page) rfl)
 have T1:=Ext.cell (Z0 hs5.out 1 (.int .i64 s.cls) rfl)
 have T2:=Ext.cell (Z0 hs5.out 2 (.int .i64 s.mark) rfl)
 have T3:=Ext.cell (Z0 hs5.out 3 (.bool s.swept) rfl)
 have T4:=Ext.cell (Z0 hs5.out 4 (.slice (some ⟨gl,0,none⟩) s.lens.length cl) rfl)
 have T5:=Ext.cell (Z0 hs5.out 5 (.slice (some ⟨gp,0,none⟩) s.ptrs.length cp) rfl)
 have Q0:=Ext.cell (Z0 hq5.out 0 (.int .i64 2) rfl)
 have Q1:=Ext.cell (Z0 hq5.out 1 (.int .i64 (M:Int)) rfl)
 have Q2:=Ext.cell (Z0 hq5.out 2 (.int .i64 (H:Int)) rfl)
 have Q3:=Ext.cell (Z0 hq5.out 3 (.int .i64 (G:Int)) rfl)
 have Q4:=Ext.cell (Z0 hq5.out 4 (.int .i64 (I:Int)) rfl)
 have Q5:=Ext.cell (Z0 hq5.out 5 (.int .i64 n) rfl)
 have Q6:=Ext.cell (Z0 hq5.out 6 (.int .i64 v) rfl)
 clear hA
 go_wp2_with fail
 refine Y5 (Below.refl _ _) (by kernel_rfl) (by kernel_rfl) ?_
 repeat (go_big_quiet_step ((go_at_call 117;exact Ext.call (hat.out _))))
 refine wpQuiet_nil ?_
 intro _ hw'
 obtain ⟨x9,hw''⟩:=hw'
 subst hw''
 have hv6:=zaa (hv5.out.below x9.below)
 have hB6:=zaa (hB5.out.trans (x9.below.mono (by have:=hz5.out;have:=hle.out;omega)))
 have hT6:=zaa (hT5.out.below x9.below)
 have hq6:Hid (x9.val.heap[w.heap.size]?=some (.cells #[.int .i64 2,.int .i64 (M:Int),.int .i64 (H:Int),.int .i64 (G:Int),.int .i64 (I:Int),.int .i64 n,.int .i64 v] 118 (0,0))):=zaa (Z6 x9.below hq5.out)
 have ha6:Hid (x9.val.heap[w.heap.size+1]?=some (.cells #[.int .i64 0,.int .i64 0] 114 (0,0))):=zaa (Z6 x9.below ha5.out)
 have hz6:=zaa (show w.heap.size+1+1≤x9.val.heap.size from by have:=x9.below.size;have:=hz5.out;omega)
 have hs6:Hid (x9.val.heap[sx]?=some (.cells #[.int .i64 s.page,.int .i64 s.cls,.int .i64 s.mark,.bool s.swept,.slice (some ⟨gl,0,none⟩) s.lens.length cl,.slice (some ⟨gp,0,none⟩) s.ptrs.length cp] 97 (0,0))):=zaa (Z6 x9.below hs5.out)
 have cL6:=Z7 x9.below cL5
 generalize x9.val=w6 at *
 clear T0 T1 T2 T3 T4 T5 Q0 Q1 Q2 Q3 Q4 Q5 Q6 hat hv5 hB5 hT5 hq5 ha5 hz5 hs5 cL5
 have q0:=Z0 hq6.out 0 (.int .i64 2) rfl
 have q1:=Z0 hq6.out 1 (.int .i64 (M:Int)) rfl
 have q2:=Z0 hq6.out 2 (.int .i64 (H:Int)) rfl
 have q3:=Z0 hq6.out 3 (.int .i64 (G:Int)) rfl
 have q4:=Z0 hq6.out 4 (.int .i64 (I:Int)) rfl
 have q5:=Z0 hq6.out 5 (.int .i64 n) rfl
 have q6:=Z0 hq6.out 6 (.int .i64 v) rfl
 have a0:=Z0 ha6.out 0 (.int .i64 0) rfl
 have a1:=Z0 ha6.out 1 (.int .i64 0) rfl
 have z0:=Z3 ha6.out 0
 have z1:=Z3 ha6.out 1
 obtain ⟨gw,cw,hgw⟩:=hv6.out.headW (by omega)
 have g2:=hv6.out.cell 2 S.vw rfl
 rw [hgw] at g2
 have xw:=(Y7 hv6.out.own.words hgw (A+I) hwl).1
 have fw:=(Y7 hv6.out.own.words hgw (A+I) hwl).2
 have hwL:(A:Int)+(I:Int)<(D.words.length:Int):=by omega
 have hgw':=zaa hgw
 have hww:=hin'.out.words
 have hdd:=hin'.out.dirty
 have hpg:=hin'.out.pg
 have y:=zaa (hobj.out (M8 D (M:Int) (G:Int) (D.words[A+I]?.getD 0)) 0 0 (.inr ⟨hI.out,.inl ⟨rfl,by rw [hpp.out],rfl⟩,rfl⟩))
 have cG:=(Y7 (hv6.out.own.innerM M r _ hr'.out hmv.out) rfl G hG6.out).1
 have fG:=(Y7 (hv6.out.own.innerM M r _ hr'.out hmv.out) rfl G hG6.out).2
 have vr:=hv6.out.root M G r _ (D.words[A+I]?.getD 0) hr'.out hmv.out rfl
 have hvE:=zaa (show VarW _ base B S (M8 D (M:Int) (G:Int) (D.words[A+I]?.getD 0)) from by rw [zfb hr'.out];exact vr.1)
 have hBE:=zaa (hB6.out.trans vr.2)
 have hTE:=zaa (hT6.out.own_set hrn.out G (.int .i64 (D.words[A+I]?.getD 0)))
 generalize D.words[A+I]?.getD 0=x at *
 generalize r[G]?.getD 0=old at *
 clear hgw cL6 vr
 go_wp2_with fail
 go_region
 all_goals go_wp2_with fail
 refine bodyPost_ret (v:=.agg #[.int .i64 0,.int .i64 0]) (by simp [results,Tryz.results114,go_sem,a0,a1,z0,z1]) rfl ?_
 have hch:Chg [w.heap.size+1] (w6.setCell ⟨gr,G,none⟩ (.int .i64 x)).drew _:=((Chg.refl _ _).put (b:=w.heap.size+1) (by simp) 0 (.int .i64 0)).put (b:=w.heap.size+1) (by simp) 1 (.int .i64 0)
 exact Q9 y.out hvE.out.drew (hTE.out.below (below_drewN (Below.refl _ _) 1)) (below_drewN hBE.out 1) (by have:=hle.out;omega) (by omega) hans.out hch
theorem sdo_3 (base B:Nat) (S:Y2) (D:WD) (m h g i n v:Int) (hG:U1 D) (hR:F0 D) (w:World) (hv:VarW w base B S D) :
  Calls Tryz.prog 114 #[.pointer (some ⟨B,0,none⟩),OpD.val ⟨3,m,h,g,i,n,v⟩] w fun e w'=>zih D ⟨3,m,h,g,i,n,v⟩ base B S w e w'∧Below base w w':=by
 have hG':=zaa hG
 have hR':=zaa hR
 have hle:=zaa (Nat.le_of_lt (Nat.lt_of_le_of_lt hv.le hv.lt))
 have bb:=Z4 (Z5 w (.cells #[.int .i64 3,.int .i64 m,.int .i64 h,.int .i64 g,.int .i64 i,.int .i64 n,.int .i64 v] 118)) (Z5 (w.alloc (.cells #[.int .i64 3,.int .i64 m,.int .i64 h,.int .i64 g,.int .i64 i,.int .i64 n,.int .i64 v] 118)) (.cells #[.int .i64 0,.int .i64 0] 114))
 have bx:=Z6 (Z5 (w.alloc (.cells #[.int .i64 3,.int .i64 m,.int .i64 h,.int .i64 g,.int .i64 i,.int .i64 n,.int .i64 v] 118)) (.cells #[.int .i64 0,.int .i64 0] 114)) (Y6 w (.cells #[.int .i64 3,.int .i64 m,.int .i64 h,.int .i64 g,.int .i64 i,.int .i64 n,.int .i64 v] 118))
 have ba:=Y6 (w.alloc (.cells #[.int .i64 3,.int .i64 m,.int .i64 h,.int .i64 g,.int .i64 i,.int .i64 n,.int .i64 v] 118)) (.cells #[.int .i64 0,.int .i64 0] 114)
 rw [World.size_alloc] at ba
 have hBb:=zaa (bb.mono hle.out)
 have hTb:=zaa (T8.of_below B S bb)
 have hv0:=zaa (hv.below bb)
 have hq:=zaa bx
 have ha:=zaa ba
 have hnb:=zaa (show ∀ q,w.heap.size≤q→q ∉ B :: blks S.all from fun q hq hm=>by
  rcases List.mem_cons.1 hm with e | hm
  ·have:=hv.lt
   omega
  ·have:=(hv.own.lt _ hm).2
   omega)
 have hz0:=zaa (show ((w.alloc (.cells #[.int .i64 3,.int .i64 m,.int .i64 h,.int .i64 g,.int .i64 i,.int .i64 n,.int .i64 v] 118)).alloc (.cells #[.int .i64 0,.int .i64 0] 114)).heap.size=w.heap.size+1+1 by simp)
 obtain ⟨cd,hcd⟩:=X0.total D ⟨3,m,h,g,i,n,v⟩
 have hcd':=zaa hcd
 obtain ⟨am,cm,hvm⟩:=Y4 hv0.out.own.muts
 have hvm':=zaa hvm
 have hmr:=hv0.out.rd.parts.2.2.2.1
 have hfirst:=zaa (fun (w':World) (hb:Below ((w.alloc (.cells #[.int .i64 3,.int .i64 m,.int .i64 h,.int .i64 g,.int .i64 i,.int .i64 n,.int .i64 v] 118)).alloc (.cells #[.int .i64 0,.int .i64 0] 114)).heap.size ((w.alloc (.cells #[.int .i64 3,.int .i64 m,.int .i64 h,.int .i64 g,.int .i64 i,.int .i64 n,.int .i64 v] 118)).alloc (.cells #[.int .i64 0,.int .i64 0] 114)) w')=>(J9 ⟨3,m,h,g,i,n,v⟩ D S.vm w' ⟨by show (1:Int)≤3;omega,by show (3:Int)≤9;omega⟩ (hmr.below hb) hG'.out.form.roots).mono fun e w'' ⟨⟨c,h1,h2⟩,h3⟩=>(⟨by rw [h1,hcd'.out.unique h2],h3⟩:e=Ending.returned (.int .i64 cd)∧Below w'.heap.size w' w''))
 rw [hvm] at hfirst
 have g5:=hv0.out.cell 5 S.vm rfl
 rw [hvm] at g5
 have X5:=Ext.cell g5
 have Q0:=Ext.cell (Z0 bx 0 (.int .i64 3) rfl)
 have Q1:=Ext.cell (Z0 bx 1 (.int .i64 m) rfl)
 have Q2:=Ext.cell (Z0 bx 2 (.int .i64 h) rfl)
 have Q3:=Ext.cell (Z0 bx 3 (.int .i64 g) rfl)
 have Q4:=Ext.cell (Z0 bx 4 (.int .i64 i) rfl)
 have Q5:=Ext.cell (Z0 bx 5 (.int .i64 n) rfl)
 have Q6:=Ext.cell (Z0 bx 6 (.int .i64 v) rfl)
 have q0:=Z0 bx 0 (.int .i64 3) rfl
 have hcd0:=zaa hcd
 unfold OpD.val OpD.cells at *
 clear hG hR hv bb bx ba hcd hvm hmr g5
 go_enter Tryz.func114,Tryz.ntmps114
 go_wp2_with fail
 generalize (w.alloc (.cells #[.int .i64 3,.int .i64 m,.int .i64 h,.int .i64 g,.int .i64 i,.int .i64 n,.int .i64 v] 118)).alloc (.cells #[.int .i64 0,.int .i64 0] 114)=W at *
 clear q0
 refine Y5 (Below.refl _ _) (by kernel_rfl) (by kernel_rfl) ?_
 repeat (go_big_quiet_step ((go_at_call 149;exact Ext.call (hfirst.out _ (Ext.below _)))))
 refine wpQuiet_nil ?_
 intro _ hw'
 obtain ⟨x9,hw''⟩:=hw'
 subst hw''
 have hv1:=zaa (hv0.out.below x9.below)
 have hB1:=zaa (hBb.out.trans (x9.below.mono (by have:=hz0.out;have:=hle.out;omega)))
 have hT1:=zaa (hTb.out.below x9.below)
 have hq1:Hid (x9.val.heap[w.heap.size]?=some (.cells #[.int .i64 3,.int .i64 m,.int .i64 h,.int .i64 g,.int .i64 i,.int .i64 n,.int .i64 v] 118 (0,0))):=zaa (Z6 x9.below hq.out)
 have ha1:Hid (x9.val.heap[w.heap.size+1]?=some (.cells #[.int .i64 0,.int .i64 0] 114 (0,0))):=zaa (Z6 x9.below ha.out)
 have hz1:=zaa (show w.heap.size+1+1≤x9.val.heap.size from by have:=x9.below.size;have:=hz0.out;omega)
 generalize x9.val=w1 at *
 clear X5 Q0 Q1 Q2 Q3 Q4 Q5 Q6 hfirst hv0 hBb hTb hq ha hz0
 have a0:=Z0 ha1.out 0 (.int .i64 0) rfl
 have a1:=Z0 ha1.out 1 (.int .i64 0) rfl
 have z0:=Z3 ha1.out 0
 have z1:=Z3 ha1.out 1
 by_cases hc:cd=0
 case neg =>
  have d1:(cd != 0)=true:=bne_iff_ne.2 hc
  have y:=zaa (show DoIs D ⟨3,m,h,g,i,n,v⟩ D cd 0 from .inr (.inl ⟨⟨by show (1:Int)≤3;omega,by show (3:Int)≤9;omega⟩,hcd'.out,hc,rfl,rfl⟩))
  have hans:=zaa (show w.heap.size+1 ∉ B :: blks S.all from hnb.out _ (by omega))
  clear hc hcd' hcd0
  go_wp2_with fail
  refine bodyPost_ret (v:=.agg #[.int .i64 cd,.int .i64 0]) (by simp [results,Tryz.results114,go_sem,a0,a1,z0,z1]) rfl ?_
  have hch:Chg [w.heap.size+1] w1 _:=((Chg.refl _ _).put (b:=w.heap.size+1) (by simp) 0 (.int .i64 cd)).put (b:=w.heap.size+1) (by simp) 1 (.int .i64 0)
  exact Q9 y.out hv1.out hT1.out hB1.out (by have:=hle.out;omega) (by omega) hans.out hch
 have d1:(cd != 0)=false:=by rw [hc];rfl
 rw [hc] at hcd'
 obtain ⟨hmo,hug,huo,hs1⟩:=hcd'.out.zero
 have hmo':=zaa hmo
 have hug':=zaa hug
 have huo':=zaa huo
 have hs1':=zaa hs1
 have hk:=zaa (show ∀ E c x,zlk D ⟨3,m,h,g,i,n,v⟩ E c x→DoIs D ⟨3,m,h,g,i,n,v⟩ E c x from fun E c x h=>.inr (.inr ⟨⟨by show (1:Int)≤3;omega,by show (3:Int)≤9;omega⟩,hcd'.out,h⟩))
 obtain ⟨M,rfl⟩:=Int.eq_ofNat_of_zero_le (show 0≤m from hmo.1)
 obtain ⟨H,rfl⟩:=Int.eq_ofNat_of_zero_le (show 0≤h from hmo.2.2.1)
 have hML:(M:Int)<(D.muts.length:Int):=hmo.2.1
 obtain ⟨r,hr⟩:∃ r,D.muts[M]?=some r:=⟨_,List.getElem?_eq_getElem (by omega)⟩
 have hr6:=hG'.out.form.roots M r hr
 have hH6:H<r.length:=by have hx:(H:Int)<6:=hmo.2.2.2;omega
 have hHL:(H:Int)<(r.length:Int):=by omega
 have hroot:=zaa (show V4 D (M:Int) (H:Int)=r[H]?.getD 0 by unfold V4;rw [Int.toNat_natCast,Int.toNat_natCast,hr];rfl)
 have hrx:=zaa (show ∀ x:Nat,V4 D (M:Int) (x:Int)=r[x]?.getD 0 from fun x=>by unfold V4;rw [Int.toNat_natCast,Int.toNat_natCast,hr];rfl)
 obtain ⟨gm,cm',gr,cr,R⟩:=hv1.out.rootAt hr hH6
 obtain ⟨rfl,rfl⟩:am=some ⟨gm,0,none⟩∧cm=cm':=by have:=hvm'.out.symm.trans R.vm;simpa using this
 have g5:=hv1.out.cell 5 S.vm rfl
 rw [R.vm] at g5
 have c0:=R.xm
 have c1:=R.xr
 have fr:=R.frz
 have hmv:=zaa R.mv
 have hrn:=zaa (show gr ∈ blks S.all from zie R.mv)
 have hr':=zaa hr
 have hmm:=zaa (show D.muts.length≤3 by have:=hG'.out.form.geo.2.2.2.2.2.2;omega)
 have hH6':=zaa hH6
 have q0:=Z0 hq1.out 0 (.int .i64 3) rfl
 have q1:=Z0 hq1.out 1 (.int .i64 (M:Int)) rfl
 have q2:=Z0 hq1.out 2 (.int .i64 (H:Int)) rfl
 have q3:=Z0 hq1.out 3 (.int .i64 g) rfl
 have q4:=Z0 hq1.out 4 (.int .i64 i) rfl
 have q5:=Z0 hq1.out 5 (.int .i64 n) rfl
 have q6:=Z0 hq1.out 6 (.int .i64 v) rfl
 have hgq:=zaa (show ¬ gr=w.heap.size∧¬ gr=w.heap.size+1 from ⟨fun e=>hnb.out _ (Nat.le_refl _) (by rw [← e];exact List.mem_cons_of_mem _ hrn.out),fun e=>hnb.out _ (by omega:w.heap.size≤w.heap.size+1) (by rw [← e];exact List.mem_cons_of_mem _ hrn.out)⟩)
 have hg1:=hgq.out.1
 have hg2:=hgq.out.2
 have hg3:¬ w.heap.size=gr:=fun e=>hg1 e.symm
 have hg4:¬ w.heap.size+1=gr:=fun e=>hg2 e.symm
 clear hmo hug huo hs1 hc hr hr6 hH6 R hcd0
 go_wp2_with fail
 go_quiet (fail)
 have hv2:=zaa (hv1.out.drewN nq)
 have hB2:=zaa (below_drewN hB1.out nq)
 have hT2:=zaa (hT1.out.below (below_drewN (Below.refl _ _) nq))
 have hq2:Hid ((w1.drewN nq).heap[w.heap.size]?=some (.cells #[.int .i64 3,.int .i64 (M:Int),.int .i64 (H:Int),.int .i64 g,.int .i64 i,.int .i64 n,.int .i64 v] 118 (0,0))):=zaa hq1.out
 have ha2:Hid ((w1.drewN nq).heap[w.heap.size+1]?=some (.cells #[.int .i64 0,.int .i64 0] 114 (0,0))):=zaa ha1.out
 have hz2:Hid (w.heap.size+1+1≤(w1.drewN nq).heap.size):=zaa hz1.out
 replace g5:(w1.drewN nq).cell? ⟨B,5,none⟩=_:=g5
 replace c0:(w1.drewN nq).cell? ⟨gm,M,none⟩=_:=c0
 replace c1:(w1.drewN nq).cell? ⟨gr,H,none⟩=_:=c1
 replace fr:(w1.drewN nq).frozen? ⟨gr,H,none⟩=_:=fr
 replace a0:(w1.drewN nq).cell? ⟨w.heap.size+1,0,none⟩=_:=a0
 replace a1:(w1.drewN nq).cell? ⟨w.heap.size+1,1,none⟩=_:=a1
 replace z0:(w1.drewN nq).frozen? ⟨w.heap.size+1,0,none⟩=_:=z0
 replace z1:(w1.drewN nq).frozen? ⟨w.heap.size+1,1,none⟩=_:=z1
 replace q0:(w1.drewN nq).cell? ⟨w.heap.size,0,none⟩=_:=q0
 replace q1:(w1.drewN nq).cell? ⟨w.heap.size,1,none⟩=_:=q1
 replace q2:(w1.drewN nq).cell? ⟨w.heap.size,2,none⟩=_:=q2
 replace q3:(w1.drewN nq).cell? ⟨w.heap.size,3,none⟩=_:=q3
 replace q4:(w1.drewN nq).cell? ⟨w.heap.size,4,none⟩=_:=q4
 replace q5:(w1.drewN nq).cell? ⟨w.heap.size,5,none⟩=_:=q5
 replace q6:(w1.drewN nq).cell? ⟨w.heap.size,6,none⟩=_:=q6
 generalize w1.drewN nq=w2 at *
 clear hv1 hB1 hT1 hq1 ha1 hz1
 have hgo:=hug'.out (show L3 3 by unfold L3;omega)
 obtain ⟨G,rfl⟩:=Int.eq_ofNat_of_zero_le (show 0≤g from hgo.1)
 have hG6:=zaa (show G<r.length by have hx:(G:Int)<6:=hgo.2;have:=hG'.out.form.roots M r hr'.out;omega)
 have hGL:(G:Int)<(r.length:Int):=by have:=hG6.out;omega
 have hrg:=zaa (hrx.out G)
 have hgo':=zaa hgo
 clear hgo
 obtain ⟨kk,j,s,ho,hks⟩:=hR'.out.at_ (m:=(M:Int)) (x:=(H:Int)) (huo'.out (show N2 3 by unfold N2;omega))
 have hobj:=zaa (show ∀ E c x,((¬ J8 3 i s j∧E=D∧c=4∧x=0)∨(J8 3 i s j∧OnIs D ⟨3,(M:Int),(H:Int),(G:Int),i,n,v⟩ s j (atW s (j:Int)+i).toNat E x∧c=0))→DoIs D ⟨3,(M:Int),(H:Int),(G:Int),i,n,v⟩ E c x from fun E c x h=>hk.out E c x (.inr (.inr (.inr (.inr ⟨by show N2 3;unfold N2;omega,kk,j,s,ho,hks,h⟩)))))
 rw [hroot.out] at ho
 obtain ⟨s',hks2,hin,p0,p1⟩:=N0 hG'.out.form ho
 rw [hks] at hks2
 obtain rfl:=Option.some.inj hks2
 have hfind:=zaa (zff B _ D hG'.out.form (r[H]?.getD 0) w2 hv2.out.rd hv2.out.boxW)
 have ho':=zaa ho
 have hks':=zaa hks
 have hin':=zaa hin
 have hsl:=(hG'.out.form.span kk s hks).slot j hin.j
 have hsl':=zaa hsl
 clear ho hks hks2 hin p0 p1 hsl
 generalize r[H]?.getD 0=x0 at *
 go_wp2_with fail
 refine hfind.out.mono ?_
 rintro e w3 ⟨⟨r1,r2,rfl,hqq⟩,b3⟩
 obtain ⟨rfl,rfl⟩:r1=(kk:Int)∧r2=(j:Int):=by
  rcases hqq with ⟨k',j',_,ho2,rfl,rfl⟩ | ⟨hn,_⟩
  ·obtain ⟨rfl,rfl⟩:=ho2.unique hG'.out.form ho'.out
   exact ⟨rfl,rfl⟩
  ·exact absurd ho'.out (hn hG'.out.form kk j)
 have hv3:=zaa (hv2.out.below b3)
 have hB3:=zaa (hB2.out.trans (b3.mono (by have:=hz2.out;have:=hle.out;omega)))
 have hT3:=zaa (hT2.out.below b3)
 have hq3:Hid (w3.heap[w.heap.size]?=some (.cells #[.int .i64 3,.int .i64 (M:Int),.int .i64 (H:Int),.int .i64 (G:Int),.int .i64 i,.int .i64 n,.int .i64 v] 118 (0,0))):=zaa (Z6 b3 hq2.out)
 have ha3:Hid (w3.heap[w.heap.size+1]?=some (.cells #[.int .i64 0,.int .i64 0] 114 (0,0))):=zaa (Z6 b3 ha2.out)
 have hz3:=zaa (show w.heap.size+1+1≤w3.heap.size from by have:=b3.size;have:=hz2.out;omega)
 clear hqq b3 hfind hv2 hB2 hT2 hq2 ha2 hz2 a0 a1 z0 z1 g5 c0 c1 fr q0 q1 q2 q3 q4 q5 q6
 have hkl0:=(List.getElem?_eq_some_iff.1 hks'.out).1
 have hkl1:(kk:Int)<(D.spans.length:Int):=by omega
 have hls:D.spans.length≤12:=by have:=hG'.out.form.spans;have:=hG'.out.form.geo.2.2.2.2.1;omega
 obtain ⟨p,hp⟩:=hv3.out.svAt hks'.out
 obtain ⟨gs,cs,hgs⟩:=hv3.out.headS (by omega)
 obtain ⟨gl,cl,hgl⟩:=N7 (hv3.out.own.inner kk s p hks'.out hp).1 (by have:=hin'.out.j;omega)
 obtain ⟨gp,cp,hgp⟩:=N7 (hv3.out.own.inner kk s p hks'.out hp).2 (by have:=hin'.out.j;have:=hin'.out.lens;have:=hin'.out.ptrs;omega)
 have g4:=hv3.out.cell 4 S.vs rfl
 rw [hgs] at g4
 obtain ⟨x0',x1,x2,x3,x4,x5⟩:=hv3.out.six hgs hks'.out hp
 rw [hgl] at x4
 rw [hgp] at x5
 have cL:=(Y7 (hv3.out.own.inner kk s p hks'.out hp).1 hgl j hin'.out.j).1
 have cP:=(Y7 (hv3.out.own.inner kk s p hks'.out hp).2 hgp j (by have:=hin'.out.j;have:=hin'.out.lens;have:=hin'.out.ptrs;omega)).1
 have hjl1:(j:Int)<(s.lens.length:Int):=by have:=hin'.out.j;omega
 have hjp1:(j:Int)<(s.ptrs.length:Int):=by have:=hin'.out.j;have:=hin'.out.lens;have:=hin'.out.ptrs;omega
 have hll:s.lens.length≤16∧s.ptrs.length≤16:=by have:=hin'.out.lens;have:=hin'.out.ptrs;have:=(E7 s.cls).2;omega
 clear hgs hgl hgp hp hkl0
 go_upto_region 22 with fail
 have b4:=Z5 w3 (.cells #[.int .i64 s.page,.int .i64 s.cls,.int .i64 s.mark,.bool s.swept,.slice (some ⟨gl,0,none⟩) s.lens.length cl,.slice (some ⟨gp,0,none⟩) s.ptrs.length cp] 97)
 have bS:=Y6 w3 (.cells #[.int .i64 s.page,.int .i64 s.cls,.int .i64 s.mark,.bool s.swept,.slice (some ⟨gl,0,none⟩) s.lens.length cl,.slice (some ⟨gp,0,none⟩) s.ptrs.length cp] 97)
 have hv4:=zaa (hv3.out.below b4)
 have hB4:=zaa (hB3.out.trans (b4.mono (by have:=hz3.out;have:=hle.out;omega)))
 have hT4:=zaa (hT3.out.below b4)
 have hq4:Hid ((w3.alloc (.cells #[.int .i64 s.page,.int .i64 s.cls,.int .i64 s.mark,.bool s.swept,.slice (some ⟨gl,0,none⟩) s.lens.length cl,.slice (some ⟨gp,0,none⟩) s.ptrs.length cp] 97)).heap[w.heap.size]?=some (.cells #[.int .i64 3,.int .i64 (M:Int),.int .i64 (H:Int),.int .i64 (G:Int),.int .i64 i,.int .i64 n,.int .i64 v] 118 (0,0))):=zaa (Z6 b4 hq3.out)
 have ha4:Hid ((w3.alloc (.cells #[.int .i64 s.page,.int .i64 s.cls,.int .i64 s.mark,.bool s.swept,.slice (some ⟨gl,0,none⟩) s.lens.length cl,.slice (some ⟨gp,0,none⟩) s.ptrs.length cp] 97)).heap[w.heap.size+1]?=some (.cells #[.int .i64 0,.int .i64 0] 114 (0,0))):=zaa (Z6 b4 ha3.out)
 have hz4:=zaa (show w.heap.size+1+1≤(w3.alloc (.cells #[.int .i64 s.page,.int .i64 s.cls,.int .i64 s.mark,.bool s.swept,.slice (some ⟨gl,0,none⟩) s.lens.length cl,.slice (some ⟨gp,0,none⟩) s.ptrs.length cp] 97)).heap.size from by have:=b4.size;have:=hz3.out;omega)
 have hs4:=zaa bS
 have cL4:=Z7 b4 cL
 have cP4:=Z7 b4 cP
 have hsb:w.heap.size+1+1≤w3.heap.size:=hz3.out
 clear g4 x0' x1 x2 x3 x4 x5 cL cP b4 bS hv3 hB3 hT3 hq3 ha3 hz3
 have hne:=zaa hsb
 generalize hsx:w3.heap.size=sx at *
 generalize w3.alloc (.cells #[.int .i64 s.page,.int .i64 s.cls,.int .i64 s.mark,.bool s.swept,.slice (some ⟨gl,0,none⟩) s.lens.length cl,.slice (some ⟨gp,0,none⟩) s.ptrs.length cp] 97)=w4 at *
 obtain ⟨ib,hib⟩:=J5 (J8 3 i s j)
 have hib':=zaa hib
 have hix:=zaa (fun (w':World)=>(sindex_3 (M:Int) (H:Int) (G:Int) i n v (s.lens[j]?.getD 0) (s.ptrs[j]?.getD 0) w').mono fun e w'' ⟨h1,h2⟩=>(⟨h1.at_ ib hib,h2⟩:e=Ending.returned (.bool ib)∧Below w'.heap.size w' w''))
 unfold OpD.val OpD.cells at hix
 have SL:=Ext.cell (Z0 hs4.out 4 (.slice (some ⟨gl,0,none⟩) s.lens.length cl) rfl)
 have SP:=Ext.cell (Z0 hs4.out 5 (.slice (some ⟨gp,0,none⟩) s.ptrs.length cp) rfl)
 have CL:=Ext.cell cL4
 have CP:=Ext.cell cP4
 have Q0:=Ext.cell (Z0 hq4.out 0 (.int .i64 3) rfl)
 have Q1:=Ext.cell (Z0 hq4.out 1 (.int .i64 (M:Int)) rfl)
 have Q2:=Ext.cell (Z0 hq4.out 2 (.int .i64 (H:Int)) rfl)
 have Q3:=Ext.cell (Z0 hq4.out 3 (.int .i64 (G:Int)) rfl)
 have Q4:=Ext.cell (Z0 hq4.out 4 (.int .i64 i) rfl)
 have Q5:=Ext.cell (Z0 hq4.out 5 (.int .i64 n) rfl)
 have Q6:=Ext.cell (Z0 hq4.out 6 (.int .i64 v) rfl)
 have hsx':=zaa hsx
 clear hib cL4 cP4 hsx
 refine Y5 (Below.refl _ _) (by kernel_rfl) (by kernel_rfl) ?_
 repeat (go_big_quiet_step ((go_at_call 151;exact Ext.call (hix.out _))))
 refine wpQuiet_nil ?_
 intro _ hw'
 obtain ⟨x9,hw''⟩:=hw'
 subst hw''
 have hv5:=zaa (hv4.out.below x9.below)
 have hB5:=zaa (hB4.out.trans (x9.below.mono (by have:=hz4.out;have:=hle.out;omega)))
 have hT5:=zaa (hT4.out.below x9.below)
 have hq5:Hid (x9.val.heap[w.heap.size]?=some (.cells #[.int .i64 3,.int .i64 (M:Int),.int .i64 (H:Int),.int .i64 (G:Int),.int .i64 i,.int .i64 n,.int .i64 v] 118 (0,0))):=zaa (Z6 x9.below hq4.out)
 have ha5:Hid (x9.val.heap[w.heap.size+1]?=some (.cells #[.int .i64 0,.int .i64 0] 114 (0,0))):=zaa (Z6 x9.below ha4.out)
 have hz5:=zaa (show w.heap.size+1+1≤x9.val.heap.size from by have:=x9.below.size;have:=hz4.out;omega)
 have hs5:Hid (x9.val.heap[sx]?=some (.cells #[.int .i64 s.page,.int .i64 s.cls,.int .i64 s.mark,.bool s.swept,.slice (some ⟨gl,0,none⟩) s.lens.length cl,.slice (some ⟨gp,0,none⟩) s.ptrs.length cp] 97 (0,0))):=zaa (Z6 x9.below hs4.out)
 have cL5:=CL x9
 generalize x9.val=w5 at *
 clear SL SP CL CP Q0 Q1 Q2 Q3 Q4 Q5 Q6 hix hv4 hB4 hT4 hq4 ha4 hz4 hs4
 have hans:=zaa (show w.heap.size+1 ∉ B :: blks S.all from hnb.out _ (by omega))
 cases ib
 case false =>
  have y:=zaa (hobj.out D 4 0 (.inl ⟨fun h=>(by have:=hib'.out.2 h;cases this),rfl,rfl,rfl⟩))
  have a0:=Z0 ha5.out 0 (.int .i64 0) rfl
  have a1:=Z0 ha5.out 1 (.int .i64 0) rfl
  have z0:=Z3 ha5.out 0
  have z1:=Z3 ha5.out 1
  clear cL5
  go_wp2_with fail
  refine bodyPost_ret (v:=.agg #[.int .i64 4,.int .i64 0]) (by simp [results,Tryz.results114,go_sem,a0,a1,z0,z1]) rfl ?_
  have hch:Chg [w.heap.size+1] w5 _:=((Chg.refl _ _).put (b:=w.heap.size+1) (by simp) 0 (.int .i64 4)).put (b:=w.heap.size+1) (by simp) 1 (.int .i64 0)
  exact Q9 y.out hv5.out hT5.out hB5.out (by have:=hle.out;omega) (by omega) hans.out hch
 have hI:=zaa (hib'.out.1 rfl)
 obtain ⟨A,hA⟩:=Int.eq_ofNat_of_zero_le hin'.out.bd.1
 have hA2:A≤1000:=by have:=hin'.out.bd.2.2.2.2.2;omega
 have hat:=zaa (fun (w':World)=>(hA ▸ zit s (.slice (some ⟨gl,0,none⟩) s.lens.length cl) (.slice (some ⟨gp,0,none⟩) s.ptrs.length cp) (j:Int) hin'.out.pg0 (by have:=hin'.out.pg1;have:=hin'.out.pg;omega) (by omega) (by omega) w':Calls Tryz.prog 117 #[zgz s (.slice (some ⟨gl,0,none⟩) s.lens.length cl) (.slice (some ⟨gp,0,none⟩) s.ptrs.length cp),.int .i64 j] w' fun e w''=>e=.returned (.int .i64 (A:Int))∧Below w'.heap.size w' w''))
 unfold zgz at hat
 have hi0:0≤i:=by have h1:=hsl'.out.p0;have h2:=hI.out.1;have h3:=hI.out.2;omega
 obtain ⟨I,rfl⟩:=Int.eq_ofNat_of_zero_le hi0
 have hil:(I:Int)<s.lens[j]?.getD 0:=by have h1:=hsl'.out.p1;have h2:=hI.out.1;have h3:=hI.out.2;omega
 have hwl:A+I<D.words.length:=by have h1:=hsl'.out.l1;have h2:=hin'.out.bd.2.1;have h3:=hin'.out.words;omega
 have hI2:I≤16:=by have h1:=hsl'.out.l1;have:=hin'.out.bd.2.2.2.1;omega
 have hpp:=zaa (show (atW s (j:Int)+(I:Int)).toNat=A+I by omega)
 clear hi0 hil
 have T0:=Ext.cell (Z0 hs5.out 0 (.int .i64 s.page) rfl)
 have T1:=Ext.cell (Z0 hs5.out 1 (.int .i64 s.cls) rfl)
 have T2:=Ext.cell (Z0 hs5.out 2 (.int .i64 s.mark) rfl)
 have T3:=Ext.cell (Z0 hs5.out 3 (.bool s.swept) rfl)
 have T4:=Ext.cell (Z0 hs5.out 4 (.slice (some ⟨gl,0,none⟩) s.lens.length cl) rfl)
 have T5:=Ext.cell (Z0 hs5.out 5 (.slice (some ⟨gp,0,none⟩) s.ptrs.length cp) rfl)
 have Q0:=Ext.cell (Z0 hq5.out 0 (.int .i64 3) rfl)
 have Q1:=Ext.cell (Z0 hq5.out 1 (.int .i64 (M:Int)) rfl)
 have Q2:=Ext.cell (Z0 hq5.out 2 (.int .i64 (H:Int)) rfl)
 have Q3:=Ext.cell (Z0 hq5.out 3 (.int .i64 (G:Int)) rfl)
 have Q4:=Ext.cell (Z0 hq5.out 4 (.int .i64 (I:Int)) rfl)
 have Q5:=Ext.cell (Z0 hq5.out 5 (.int .i64 n) rfl)
 have Q6:=Ext.cell (Z0 hq5.out 6 (.int .i64 v) rfl)
 clear hA
 go_wp2_with fail
 refine Y5 (Below.refl _ _) (by kernel_rfl) (by kernel_rfl) ?_
 repeat (go_big_quiet_step ((go_at_call 117;exact Ext.call (hat.out _))))
 refine wpQuiet_nil ?_
 intro _ hw'
 obtain ⟨x9,hw''⟩:=hw'
 subst hw''
 have hv6:=zaa (hv5.out.below x9.below)
 have hB6:=zaa (hB5.out.trans (x9.below.mono (by have:=hz5.out;have:=hle.out;omega)))
 have hT6:=zaa (hT5.out.below x9.below)
 have hq6:Hid (x9.val.heap[w.heap.size]?=some (.cells #[.int .i64 3,.int .i64 (M:Int),.int .i64 (H:Int),.int .i64 (G:Int),.int .i64 (I:Int),.int .i64 n,.int .i64 v] 118 (0,0))):=zaa (Z6 x9.below hq5.out)
 have ha6:Hid (x9.val.heap[w.heap.size+1]?=some (.cells #[.int .i64 0,.int .i64 0] 114 (0,0))):=zaa (Z6 x9.below ha5.out)
 have hz6:=zaa (show w.heap.size+1+1≤x9.val.heap.size from by have:=x9.below.size;have:=hz5.out;omega)
 have hs6:Hid (x9.val.heap[sx]?=some (.cells #[.int .i64 s.page,.int .i64 s.cls,.int .i64 s.mark,.bool s.swept,.slice (some ⟨gl,0,none⟩) s.lens.length cl,.slice (some ⟨gp,0,none⟩) s.ptrs.length cp] 97 (0,0))):=zaa (Z6 x9.below hs5.out)
 have cL6:=Z7 x9.below cL5
 generalize x9.val=w6 at *
 clear T0 T1 T2 T3 T4 T5 Q0 Q1 Q2 Q3 Q4 Q5 Q6 hat hv5 hB5 hT5 hq5 ha5 hz5 hs5 cL5
 have q0:=Z0 hq6.out 0 (.int .i64 3) rfl
 have q1:=Z0 hq6.out 1 (.int .i64 (M:Int)) rfl
 have q2:=Z0 hq6.out 2 (.int .i64 (H:Int)) rfl
 have q3:=Z0 hq6.out 3 (.int .i64 (G:Int)) rfl
 have q4:=Z0 hq6.out 4 (.int .i64 (I:Int)) rfl
 have q5:=Z0 hq6.out 5 (.int .i64 n) rfl
 have q6:=Z0 hq6.out 6 (.int .i64 v) rfl
 have a0:=Z0 ha6.out 0 (.int .i64 0) rfl
 have a1:=Z0 ha6.out 1 (.int .i64 0) rfl
 have z0:=Z3 ha6.out 0
 have z1:=Z3 ha6.out 1
 have hst0:=zux base B S D 3 (M:Int) (H:Int) (G:Int) (I:Int) n v (A+I) hG'.out ⟨hmo'.out.1,hmo'.out.2.1⟩ hgo'.out hwl w6 hv6.out
 unfold OpD.val OpD.cells at hst0
 rw [Int.natCast_add] at hst0
 have hst:=zaa hst0
 have hww:=hin'.out.words
 have hpg:=hin'.out.pg
 clear hst0 cL6
 go_wp2_with fail
 refine hst.out.mono ?_
 rintro e w7 ⟨rfl,⟨S7,E,hS,v7,t7⟩,b7⟩
 have y:=zaa (hobj.out E 0 0 (.inr ⟨hI.out,.inr (.inl ⟨rfl,by rw [hpp.out];exact hS,rfl⟩),rfl⟩))
 have hv7:=zaa v7
 have hB7:=zaa (hB6.out.trans b7)
 have hT7:=zaa (hT6.out.trans t7)
 have ha7:Hid (w7.heap[w.heap.size+1]?=some (.cells #[.int .i64 0,.int .i64 0] 114 (0,0))):=zaa ((t7.chg.block _ (by have:=hz6.out;omega) hans.out).trans ha6.out)
 have hans7:=zaa (t7.fresh hans.out (by have:=hz6.out;omega))
 clear v7 b7 t7 hS hst a0 a1 z0 z1 q0 q1 q2 q3 q4 q5 q6
 have a0:=Z0 ha7.out 0 (.int .i64 0) rfl
 have a1:=Z0 ha7.out 1 (.int .i64 0) rfl
 have z0:=Z3 ha7.out 0
 have z1:=Z3 ha7.out 1
 go_wp2_with fail
 refine bodyPost_ret (v:=.agg #[.int .i64 0,.int .i64 0]) (by simp [results,Tryz.results114,go_sem,a0,a1,z0,z1]) rfl ?_
 have hch:Chg [w.heap.size+1] w7 _:=((Chg.refl _ _).put (b:=w.heap.size+1) (by simp) 0 (.int .i64 0)).put (b:=w.heap.size+1) (by simp) 1 (.int .i64 0)
 exact Q9 y.out hv7.out hT7.out hB7.out (by have:=hle.out;omega) (by omega) hans7.out hch
theorem sdo_4 (base B:Nat) (S:Y2) (D:WD) (m h g i n v:Int) (hG:U1 D) (hR:F0 D) (w:World) (hv:VarW w base B S D) :
  Calls Tryz.prog 114 #[.pointer (some ⟨B,0,none⟩),OpD.val ⟨4,m,h,g,i,n,v⟩] w fun e w'=>zih D ⟨4,m,h,g,i,n,v⟩ base B S w e w'∧Below base w w':=by
 have hG':=zaa hG
 have hR':=zaa hR
 have hle:=zaa (Nat.le_of_lt (Nat.lt_of_le_of_lt hv.le hv.lt))
 have bb:=Z4 (Z5 w (.cells #[.int .i64 4,.int .i64 m,.int .i64 h,.int .i64 g,.int .i64 i,.int .i64 n,.int .i64 v] 118)) (Z5 (w.alloc (.cells #[.int .i64 4,.int .i64 m,.int .i64 h,.int .i64 g,.int .i64 i,.int .i64 n,.int .i64 v] 118)) (.cells #[.int .i64 0,.int .i64 0] 114))
 have bx:=Z6 (Z5 (w.alloc (.cells #[.int .i64 4,.int .i64 m,.int .i64 h,.int .i64 g,.int .i64 i,.int .i64 n,.int .i64 v] 118)) (.cells #[.int .i64 0,.int .i64 0] 114)) (Y6 w (.cells #[.int .i64 4,.int .i64 m,.int .i64 h,.int .i64 g,.int .i64 i,.int .i64 n,.int .i64 v] 118))
 have ba:=Y6 (w.alloc (.cells #[.int .i64 4,.int .i64 m,.int .i64 h,.int .i64 g,.int .i64 i,.int .i64 n,.int .i64 v] 118)) (.cells #[.int .i64 0,.int .i64 0] 114)
 rw [World.size_alloc] at ba
 have hBb:=zaa (bb.mono hle.out)
 have hTb:=zaa (T8.of_below B S bb)
 have hv0:=zaa (hv.below bb)
 have hq:=zaa bx
 have ha:=zaa ba
 have hnb:=zaa (show ∀ q,w.heap.size≤q→q ∉ B :: blks S.all from fun q hq hm=>by
  rcases List.mem_cons.1 hm with e | hm
  ·have:=hv.lt
   omega
  ·have:=(hv.own.lt _ hm).2
   omega)
 have hz0:=zaa (show ((w.alloc (.cells #[.int .i64 4,.int .i64 m,.int .i64 h,.int .i64 g,.int .i64 i,.int .i64 n,.int .i64 v] 118)).alloc (.cells #[.int .i64 0,.int .i64 0] 114)).heap.size=w.heap.size+1+1 by simp)
 obtain ⟨cd,hcd⟩:=X0.total D ⟨4,m,h,g,i,n,v⟩
 have hcd':=zaa hcd
 obtain ⟨am,cm,hvm⟩:=Y4 hv0.out.own.muts
 have hvm':=zaa hvm
 have hmr:=hv0.out.rd.parts.2.2.2.1
 have hfirst:=zaa (fun (w':World) (hb:Below ((w.alloc (.cells #[.int .i64 4,.int .i64 m,.int .i64 h,.int .i64 g,.int .i64 i,.int .i64 n,.int .i64 v] 118)).alloc (.cells #[.int .i64 0,.int .i64 0] 114)).heap.size ((w.alloc (.cells #[.int .i64 4,.int .i64 m,.int .i64 h,.int .i64 g,.int .i64 i,.int .i64 n,.int .i64 v] 118)).alloc (.cells #[.int .i64 0,.int .i64 0] 114)) w')=>(J9 ⟨4,m,h,g,i,n,v⟩ D S.vm w' ⟨by show (1:Int)≤4;omega,by show (4:Int)≤9;omega⟩ (hmr.below hb) hG'.out.form.roots).mono fun e w'' ⟨⟨c,h1,h2⟩,h3⟩=>(⟨by rw [h1,hcd'.out.unique h2],h3⟩:e=Ending.returned (.int .i64 cd)∧Below w'.heap.size w' w''))
 rw [hvm] at hfirst
 have g5:=hv0.out.cell 5 S.vm rfl
 rw [hvm] at g5
 have X5:=Ext.cell g5
 have Q0:=Ext.cell (Z0 bx 0 (.int .i64 4) rfl)
 have Q1:=Ext.cell (Z0 bx 1 (.int .i64 m) rfl)
 have Q2:=Ext.cell (Z0 bx 2 (.int .i64 h) rfl)
 have Q3:=Ext.cell (Z0 bx 3 (.int .i64 g) rfl)
 have Q4:=Ext.cell (Z0 bx 4 (.int .i64 i) rfl)
 have Q5:=Ext.cell (Z0 bx 5 (.int .i64 n) rfl)
 have Q6:=Ext.cell (Z0 bx 6 (.int .i64 v) rfl)
 have q0:=Z0 bx 0 (.int .i64 4) rfl
 have hcd0:=zaa hcd
 unfold OpD.val OpD.cells at *
 clear hG hR hv bb bx ba hcd hvm hmr g5
 go_enter Tryz.func114,Tryz.ntmps114
 go_wp2_with fail
 generalize (w.alloc (.cells #[.int .i64 4,.int .i64 m,.int .i64 h,.int .i64 g,.int .i64 i,.int .i64 n,.int .i64 v] 118)).alloc (.cells #[.int .i64 0,.int .i64 0] 114)=W at *
 clear q0
 refine Y5 (Below.refl _ _) (by kernel_rfl) (by kernel_rfl) ?_
 repeat (go_big_quiet_step ((go_at_call 149;exact Ext.call (hfirst.out _ (Ext.below _)))))
 refine wpQuiet_nil ?_
 intro _ hw'
 obtain ⟨x9,hw''⟩:=hw'
 subst hw''
 have hv1:=zaa (hv0.out.below x9.below)
 have hB1:=zaa (hBb.out.trans (x9.below.mono (by have:=hz0.out;have:=hle.out;omega)))
 have hT1:=zaa (hTb.out.below x9.below)
 have hq1:Hid (x9.val.heap[w.heap.size]?=some (.cells #[.int .i64 4,.int .i64 m,.int .i64 h,.int .i64 g,.int .i64 i,.int .i64 n,.int .i64 v] 118 (0,0))):=zaa (Z6 x9.below hq.out)
 have ha1:Hid (x9.val.heap[w.heap.size+1]?=some (.cells #[.int .i64 0,.int .i64 0] 114 (0,0))):=zaa (Z6 x9.below ha.out)
 have hz1:=zaa (show w.heap.size+1+1≤x9.val.heap.size from by have:=x9.below.size;have:=hz0.out;omega)
 generalize x9.val=w1 at *
 clear X5 Q0 Q1 Q2 Q3 Q4 Q5 Q6 hfirst hv0 hBb hTb hq ha hz0
 have a0:=Z0 ha1.out 0 (.int .i64 0) rfl
 have a1:=Z0 ha1.out 1 (.int .i64 0) rfl
 have z0:=Z3 ha1.out 0
 have z1:=Z3 ha1.out 1
 by_cases hc:cd=0
 case neg =>
  have d1:(cd != 0)=true:=bne_iff_ne.2 hc
  have y:=zaa (show DoIs D ⟨4,m,h,g,i,n,v⟩ D cd 0 from .inr (.inl ⟨⟨by show (1:Int)≤4;omega,by show (4:Int)≤9;omega⟩,hcd'.out,hc,rfl,rfl⟩))
  have hans:=zaa (show w.heap.size+1 ∉ B :: blks S.all from hnb.out _ (by omega))
  clear hc hcd' hcd0
  go_wp2_with fail
  refine bodyPost_ret (v:=.agg #[.int .i64 cd,.int .i64 0]) (by simp [results,Tryz.results114,go_sem,a0,a1,z0,z1]) rfl ?_
  have hch:Chg [w.heap.size+1] w1 _:=((Chg.refl _ _).put (b:=w.heap.size+1) (by simp) 0 (.int .i64 cd)).put (b:=w.heap.size+1) (by simp) 1 (.int .i64 0)
  exact Q9 y.out hv1.out hT1.out hB1.out (by have:=hle.out;omega) (by omega) hans.out hch
 have d1:(cd != 0)=false:=by rw [hc];rfl
 rw [hc] at hcd'
 obtain ⟨hmo,hug,huo,hs1⟩:=hcd'.out.zero
 have hmo':=zaa hmo
 have hug':=zaa hug
 have huo':=zaa huo
 have hs1':=zaa hs1
 have hk:=zaa (show ∀ E c x,zlk D ⟨4,m,h,g,i,n,v⟩ E c x→DoIs D ⟨4,m,h,g,i,n,v⟩ E c x from fun E c x h=>.inr (.inr ⟨⟨by show (1:Int)≤4;omega,by show (4:Int)≤9;omega⟩,hcd'.out,h⟩))
 obtain ⟨M,rfl⟩:=Int.eq_ofNat_of_zero_le (show 0≤m from hmo.1)
 obtain ⟨H,rfl⟩:=Int.eq_ofNat_of_zero_le (show 0≤h from hmo.2.2.1)
 have hML:(M:Int)<(D.muts.length:Int):=hmo.2.1
 obtain ⟨r,hr⟩:∃ r,D.muts[M]?=some r:=⟨_,List.getElem?_eq_getElem (by omega)⟩
 have hr6:=hG'.out.form.roots M r hr
 have hH6:H<r.length:=by have hx:(H:Int)<6:=hmo.2.2.2;omega
 have hHL:(H:Int)<(r.length:Int):=by omega
 have hroot:=zaa (show V4 D (M:Int) (H:Int)=r[H]?.getD 0 by unfold V4;rw [Int.toNat_natCast,Int.toNat_natCast,hr];rfl)
 have hrx:=zaa (show ∀ x:Nat,V4 D (M:Int) (x:Int)=r[x]?.getD 0 from fun x=>by unfold V4;rw [Int.toNat_natCast,Int.toNat_natCast,hr];rfl)
 obtain ⟨gm,cm',gr,cr,R⟩:=hv1.out.rootAt hr hH6
 obtain ⟨rfl,rfl⟩:am=some ⟨gm,0,none⟩∧cm=cm':=by have:=hvm'.out.symm.trans R.vm;simpa using this
 have g5:=hv1.out.cell 5 S.vm rfl
 rw [R.vm] at g5
 have c0:=R.xm
 have c1:=R.xr
 have fr:=R.frz
 have hmv:=zaa R.mv
 have hrn:=zaa (show gr ∈ blks S.all from zie R.mv)
 have hr':=zaa hr
 have hmm:=zaa (show D.muts.length≤3 by have:=hG'.out.form.geo.2.2.2.2.2.2;omega)
 have hH6':=zaa hH6
 have q0:=Z0 hq1.out 0 (.int .i64 4) rfl
 have q1:=Z0 hq1.out 1 (.int .i64 (M:Int)) rfl
 have q2:=Z0 hq1.out 2 (.int .i64 (H:Int)) rfl
 have q3:=Z0 hq1.out 3 (.int .i64 g) rfl
 have q4:=Z0 hq1.out 4 (.int .i64 i) rfl
 have q5:=Z0 hq1.out 5 (.int .i64 n) rfl
 have q6:=Z0 hq1.out 6 (.int .i64 v) rfl
 have hgq:=zaa (show ¬ gr=w.heap.size∧¬ gr=w.heap.size+1 from ⟨fun e=>hnb.out _ (Nat.le_refl _) (by rw [← e];exact List.mem_cons_of_mem _ hrn.out),fun e=>hnb.out _ (by omega:w.heap.size≤w.heap.size+1) (by rw [← e];exact List.mem_cons_of_mem _ hrn.out)⟩)
 have hg1:=hgq.out.1
 have hg2:=hgq.out.2
 have hg3:¬ w.heap.size=gr:=fun e=>hg1 e.symm
 have hg4:¬ w.heap.size+1=gr:=fun e=>hg2 e.symm
 clear hmo hug huo hs1 hc hr hr6 hH6 R hcd0
 go_wp2_with fail
 go_quiet (fail)
 have hv2:=zaa (hv1.out.drewN nq)
 have hB2:=zaa (below_drewN hB1.out nq)
 have hT2:=zaa (hT1.out.below (below_drewN (Below.refl _ _) nq))
 have hq2:Hid ((w1.drewN nq).heap[w.heap.size]?=some (.cells #[.int .i64 4,.int .i64 (M:Int),.int .i64 (H:Int),.int .i64 g,.int .i64 i,.int .i64 n,.int .i64 v] 118 (0,0))):=zaa hq1.out
 have ha2:Hid ((w1.drewN nq).heap[w.heap.size+1]?=some (.cells #[.int .i64 0,.int .i64 0] 114 (0,0))):=zaa ha1.out
 have hz2:Hid (w.heap.size+1+1≤(w1.drewN nq).heap.size):=zaa hz1.out
 replace g5:(w1.drewN nq).cell? ⟨B,5,none⟩=_:=g5
 replace c0:(w1.drewN nq).cell? ⟨gm,M,none⟩=_:=c0
 replace c1:(w1.drewN nq).cell? ⟨gr,H,none⟩=_:=c1
 replace fr:(w1.drewN nq).frozen? ⟨gr,H,none⟩=_:=fr
 replace a0:(w1.drewN nq).cell? ⟨w.heap.size+1,0,none⟩=_:=a0
 replace a1:(w1.drewN nq).cell? ⟨w.heap.size+1,1,none⟩=_:=a1
 replace z0:(w1.drewN nq).frozen? ⟨w.heap.size+1,0,none⟩=_:=z0
 replace z1:(w1.drewN nq).frozen? ⟨w.heap.size+1,1,none⟩=_:=z1
 replace q0:(w1.drewN nq).cell? ⟨w.heap.size,0,none⟩=_:=q0
 replace q1:(w1.drewN nq).cell? ⟨w.heap.size,1,none⟩=_:=q1
 replace q2:(w1.drewN nq).cell? ⟨w.heap.size,2,none⟩=_:=q2
 replace q3:(w1.drewN nq).cell? ⟨w.heap.size,3,none⟩=_:=q3
 replace q4:(w1.drewN nq).cell? ⟨w.heap.size,4,none⟩=_:=q4
 replace q5:(w1.drewN nq).cell? ⟨w.heap.size,5,none⟩=_:=q5
 replace q6:(w1.drewN nq).cell? ⟨w.heap.size,6,none⟩=_:=q6
 generalize w1.drewN nq=w2 at *
 clear hv1 hB1 hT1 hq1 ha1 hz1
 obtain ⟨kk,j,s,ho,hks⟩:=hR'.out.at_ (m:=(M:Int)) (x:=(H:Int)) (huo'.out (show N2 4 by unfold N2;omega))
 have hobj:=zaa (show ∀ E c x,((¬ J8 4 i s j∧E=D∧c=4∧x=0)∨(J8 4 i s j∧OnIs D ⟨4,(M:Int),(H:Int),g,i,n,v⟩ s j (atW s (j:Int)+i).toNat E x∧c=0))→DoIs D ⟨4,(M:Int),(H:Int),g,i,n,v⟩ E c x from fun E c x h=>hk.out E c x (.inr (.inr (.inr (.inr ⟨by show N2 4;unfold N2;omega,kk,j,s,ho,hks,h⟩)))))
 rw [hroot.out] at ho
 obtain ⟨s',hks2,hin,p0,p1⟩:=N0 hG'.out.form ho
 rw [hks] at hks2
 obtain rfl:=Option.some.inj hks2
 have hfind:=zaa (zff B _ D hG'.out.form (r[H]?.getD 0) w2 hv2.out.rd hv2.out.boxW)
 have ho':=zaa ho
 have hks':=zaa hks
 have hin':=zaa hin
 have hsl:=(hG'.out.form.span kk s hks).slot j hin.j
 have hsl':=zaa hsl
 clear ho hks hks2 hin p0 p1 hsl
 generalize r[H]?.getD 0=x0 at *
 go_wp2_with fail
 refine hfind.out.mono ?_
 rintro e w3 ⟨⟨r1,r2,rfl,hqq⟩,b3⟩
 obtain ⟨rfl,rfl⟩:r1=(kk:Int)∧r2=(j:Int):=by
  rcases hqq with ⟨k',j',_,ho2,rfl,rfl⟩ | ⟨hn,_⟩
  ·obtain ⟨rfl,rfl⟩:=ho2.unique hG'.out.form ho'.out
   exact ⟨rfl,rfl⟩
  ·exact absurd ho'.out (hn hG'.out.form kk j)
 have hv3:=zaa (hv2.out.below b3)
 have hB3:=zaa (hB2.out.trans (b3.mono (by have:=hz2.out;have:=hle.out;omega)))
 have hT3:=zaa (hT2.out.below b3)
 have hq3:Hid (w3.heap[w.heap.size]?=some (.cells #[.int .i64 4,.int .i64 (M:Int),.int .i64 (H:Int),.int .i64 g,.int .i64 i,.int .i64 n,.int .i64 v] 118 (0,0))):=zaa (Z6 b3 hq2.out)
 have ha3:Hid (w3.heap[w.heap.size+1]?=some (.cells #[.int .i64 0,.int .i64 0] 114 (0,0))):=zaa (Z6 b3 ha2.out)
 have hz3:=zaa (show w.heap.size+1+1≤w3.heap.size from by have:=b3.size;have:=hz2.out;omega)
 clear hqq b3 hfind hv2 hB2 hT2 hq2 ha2 hz2 a0 a1 z0 z1 g5 c0 c1 fr q0 q1 q2 q3 q4 q5 q6
 have hkl0:=(List.getElem?_eq_some_iff.1 hks'.out).1
 have hkl1:(kk:Int)<(D.spans.length:Int):=by omega
 have hls:D.spans.length≤12:=by have:=hG'.out.form.spans;have:=hG'.out.form.geo.2.2.2.2.1;omega
 obtain ⟨p,hp⟩:=hv3.out.svAt hks'.out
 obtain ⟨gs,cs,hgs⟩:=hv3.out.headS (by omega)
 obtain ⟨gl,cl,hgl⟩:=N7 (hv3.out.own.inner kk s p hks'.out hp).1 (by have:=hin'.out.j;omega)
 obtain ⟨gp,cp,hgp⟩:=N7 (hv3.out.own.inner kk s p hks'.out hp).2 (by have:=hin'.out.j;have:=hin'.out.lens;have:=hin'.out.ptrs;omega)
 have g4:=hv3.out.cell 4 S.vs rfl
 rw [hgs] at g4
 obtain ⟨x0',x1,x2,x3,x4,x5⟩:=hv3.out.six hgs hks'.out hp
 rw [hgl] at x4
 rw [hgp] at x5
 have cL:=(Y7 (hv3.out.own.inner kk s p hks'.out hp).1 hgl j hin'.out.j).1
 have cP:=(Y7 (hv3.out.own.inner kk s p hks'.out hp).2 hgp j (by have:=hin'.out.j;have:=hin'.out.lens;have:=hin'.out.ptrs;omega)).1
 have hjl1:(j:Int)<(s.lens.length:Int):=by have:=hin'.out.j;omega
 have hjp1:(j:Int)<(s.ptrs.length:Int):=by have:=hin'.out.j;have:=hin'.out.lens;have:=hin'.out.ptrs;omega
 have hll:s.lens.length≤16∧s.ptrs.length≤16:=by have:=hin'.out.lens;have:=hin'.out.ptrs;have:=(E7 s.cls).2;omega
 clear hgs hgl hgp hp hkl0
 go_upto_region 22 with fail
 have b4:=Z5 w3 (.cells #[.int .i64 s.page,.int .i64 s.cls,.int .i64 s.mark,.bool s.swept,.slice (some ⟨gl,0,none⟩) s.lens.length cl,.slice (some ⟨gp,0,none⟩) s.ptrs.length cp] 97)
 have bS:=Y6 w3 (.cells #[.int .i64 s.page,.int .i64 s.cls,.int .i64 s.mark,.bool s.swept,.slice (some ⟨gl,0,none⟩) s.lens.length cl,.slice (some ⟨gp,0,none⟩) s.ptrs.length cp] 97)
 have hv4:=zaa (hv3.out.below b4)
 have hB4:=zaa (hB3.out.trans (b4.mono (by have:=hz3.out;have:=hle.out;omega)))
 have hT4:=zaa (hT3.out.below b4)
 have hq4:Hid ((w3.alloc (.cells #[.int .i64 s.page,.int .i64 s.cls,.int .i64 s.mark,.bool s.swept,.slice (some ⟨gl,0,none⟩) s.lens.length cl,.slice (some ⟨gp,0,none⟩) s.ptrs.length cp] 97)).heap[w.heap.size]?=some (.cells #[.int .i64 4,.int .i64 (M:Int),.int .i64 (H:Int),.int .i64 g,.int .i64 i,.int .i64 n,.int .i64 v] 118 (0,0))):=zaa (Z6 b4 hq3.out)
 have ha4:Hid ((w3.alloc (.cells #[.int .i64 s.page,.int .i64 s.cls,.int .i64 s.mark,.bool s.swept,.slice (some ⟨gl,0,none⟩) s.lens.length cl,.slice (some ⟨gp,0,none⟩) s.ptrs.length cp] 97)).heap[w.heap.size+1]?=some (.cells #[.int .i64 0,.int .i64 0] 114 (0,0))):=zaa (Z6 b4 ha3.out)
 have hz4:=zaa (show w.heap.size+1+1≤(w3.alloc (.cells #[.int .i64 s.page,.int .i64 s.cls,.int .i64 s.mark,.bool s.swept,.slice (some ⟨gl,0,none⟩) s.lens.length cl,.slice (some ⟨gp,0,none⟩) s.ptrs.length cp] 97)).heap.size from by have:=b4.size;have:=hz3.out;omega)
 have hs4:=zaa bS
 have cL4:=Z7 b4 cL
 have cP4:=Z7 b4 cP
 have hsb:w.heap.size+1+1≤w3.heap.size:=hz3.out
 clear g4 x0' x1 x2 x3 x4 x5 cL cP b4 bS hv3 hB3 hT3 hq3 ha3 hz3
 have hne:=zaa hsb
 generalize hsx:w3.heap.size=sx at *
 generalize w3.alloc (.cells #[.int .i64 s.page,.int .i64 s.cls,.int .i64 s.mark,.bool s.swept,.slice (some ⟨gl,0,none⟩) s.lens.length cl,.slice (some ⟨gp,0,none⟩) s.ptrs.length cp] 97)=w4 at *
 obtain ⟨ib,hib⟩:=J5 (J8 4 i s j)
 have hib':=zaa hib
 have hix:=zaa (fun (w':World)=>(sindex_4 (M:Int) (H:Int) g i n v (s.lens[j]?.getD 0) (s.ptrs[j]?.getD 0) w').mono fun e w'' ⟨h1,h2⟩=>(⟨h1.at_ ib hib,h2⟩:e=Ending.returned (.bool ib)∧Below w'.heap.size w' w''))
 unfold OpD.val OpD.cells at hix
 have SL:=Ext.cell (Z0 hs4.out 4 (.slice (some ⟨gl,0,none⟩) s.lens.length cl) rfl)
 have SP:=Ext.cell (Z0 hs4.out 5 (.slice (some ⟨gp,0,none⟩) s.ptrs.length cp) rfl)
 have CL:=Ext.cell cL4
 have CP:=Ext.cell cP4
 have Q0:=Ext.cell (Z0 hq4.out 0 (.int .i64 4) rfl)
 have Q1:=Ext.cell (Z0 hq4.out 1 (.int .i64 (M:Int)) rfl)
 have Q2:=Ext.cell (Z0 hq4.out 2 (.int .i64 (H:Int)) rfl)
 have Q3:=Ext.cell (Z0 hq4.out 3 (.int .i64 g) rfl)
 have Q4:=Ext.cell (Z0 hq4.out 4 (.int .i64 i) rfl)
 have Q5:=Ext.cell (Z0 hq4.out 5 (.int .i64 n) rfl)
 have Q6:=Ext.cell (Z0 hq4.out 6 (.int .i64 v) rfl)
 have hsx':=zaa hsx
 clear hib cL4 cP4 hsx
 refine Y5 (Below.refl _ _) (by kernel_rfl) (by kernel_rfl) ?_
 repeat (go_big_quiet_step ((go_at_call 151;exact Ext.call (hix.out _))))
 refine wpQuiet_nil ?_
 intro _ hw'
 obtain ⟨x9,hw''⟩:=hw'
 subst hw''
 have hv5:=zaa (hv4.out.below x9.below)
 have hB5:=zaa (hB4.out.trans (x9.below.mono (by have:=hz4.out;have:=hle.out;omega)))
 have hT5:=zaa (hT4.out.below x9.below)
 have hq5:Hid (x9.val.heap[w.heap.size]?=some (.cells #[.int .i64 4,.int .i64 (M:Int),.int .i64 (H:Int),.int .i64 g,.int .i64 i,.int .i64 n,.int .i64 v] 118 (0,0))):=zaa (Z6 x9.below hq4.out)
 have ha5:Hid (x9.val.heap[w.heap.size+1]?=some (.cells #[.int .i64 0,.int .i64 0] 114 (0,0))):=zaa (Z6 x9.below ha4.out)
 have hz5:=zaa (show w.heap.size+1+1≤x9.val.heap.size from by have:=x9.below.size;have:=hz4.out;omega)
 have hs5:Hid (x9.val.heap[sx]?=some (.cells #[.int .i64 s.page,.int .i64 s.cls,.int .i64 s.mark,.bool s.swept,.slice (some ⟨gl,0,none⟩) s.lens.length cl,.slice (some ⟨gp,0,none⟩) s.ptrs.length cp] 97 (0,0))):=zaa (Z6 x9.below hs4.out)
 have cL5:=CL x9
 generalize x9.val=w5 at *
 clear SL SP CL CP Q0 Q1 Q2 Q3 Q4 Q5 Q6 hix hv4 hB4 hT4 hq4 ha4 hz4 hs4
 have hans:=zaa (show w.heap.size+1 ∉ B :: blks S.all from hnb.out _ (by omega))
 cases ib
 case false =>
  have y:=zaa (hobj.out D 4 0 (.inl ⟨fun h=>(by have:=hib'.out.2 h;cases this),rfl,rfl,rfl⟩))
  have a0:=Z0 ha5.out 0 (.int .i64 0) rfl
  have a1:=Z0 ha5.out 1 (.int .i64 0) rfl
  have z0:=Z3 ha5.out 0
  have z1:=Z3 ha5.out 1
  clear cL5
  go_wp2_with fail
  refine bodyPost_ret (v:=.agg #[.int .i64 4,.int .i64 0]) (by simp [results,Tryz.results114,go_sem,a0,a1,z0,z1]) rfl ?_
  have hch:Chg [w.heap.size+1] w5 _:=((Chg.refl _ _).put (b:=w.heap.size+1) (by simp) 0 (.int .i64 4)).put (b:=w.heap.size+1) (by simp) 1 (.int .i64 0)
  exact Q9 y.out hv5.out hT5.out hB5.out (by have:=hle.out;omega) (by omega) hans.out hch
 have hI:=zaa (hib'.out.1 rfl)
 obtain ⟨A,hA⟩:=Int.eq_ofNat_of_zero_le hin'.out.bd.1
 have hA2:A≤1000:=by have:=hin'.out.bd.2.2.2.2.2;omega
 have hat:=zaa (fun (w':World)=>(hA ▸ zit s (.slice (some ⟨gl,0,none⟩) s.lens.length cl) (.slice (some ⟨gp,0,none⟩) s.ptrs.length cp) (j:Int) hin'.out.pg0 (by have:=hin'.out.pg1;have:=hin'.out.pg;omega) (by omega) (by omega) w':Calls Tryz.prog 117 #[zgz s (.slice (some ⟨gl,0,none⟩) s.lens.length cl) (.slice (some ⟨gp,0,none⟩) s.ptrs.length cp),.int .i64 j] w' fun e w''=>e=.returned (.int .i64 (A:Int))∧Below w'.heap.size w' w''))
 unfold zgz at hat
 have hi0:0≤i:=by have h1:=hsl'.out.p0;have h2:=hI.out.1;have h3:=hI.out.2;omega
 obtain ⟨I,rfl⟩:=Int.eq_ofNat_of_zero_le hi0
 have hil:(I:Int)<s.lens[j]?.getD 0:=by have h1:=hsl'.out.p1;have h2:=hI.out.1;have h3:=hI.out.2;omega
 have hwl:A+I<D.words.length:=by have h1:=hsl'.out.l1;have h2:=hin'.out.bd.2.1;have h3:=hin'.out.words;omega
 have hI2:I≤16:=by have h1:=hsl'.out.l1;have:=hin'.out.bd.2.2.2.1;omega
 have hpp:=zaa (show (atW s (j:Int)+(I:Int)).toNat=A+I by omega)
 clear hi0 hil
 have T0:=Ext.cell (Z0 hs5.out 0 (.int .i64 s.page) rfl)
 have T1:=Ext.cell (Z0 hs5.out 1 (.int .i64 s.cls) rfl)
 have T2:=Ext.cell (Z0 hs5.out 2 (.int .i64 s.mark) rfl)
 have T3:=Ext.cell (Z0 hs5.out 3 (.bool s.swept) rfl)
 have T4:=Ext.cell (Z0 hs5.out 4 (.slice (some ⟨gl,0,none⟩) s.lens.length cl) rfl)
 have T5:=Ext.cell (Z0 hs5.out 5 (.slice (some ⟨gp,0,none⟩) s.ptrs.length cp) rfl)
 have Q0:=Ext.cell (Z0 hq5.out 0 (.int .i64 4) rfl)
 have Q1:=Ext.cell (Z0 hq5.out 1 (.int .i64 (M:Int)) rfl)
 have Q2:=Ext.cell (Z0 hq5.out 2 (.int .i64 (H:Int)) rfl)
 have Q3:=Ext.cell (Z0 hq5.out 3 (.int .i64 g) rfl)
 have Q4:=Ext.cell (Z0 hq5.out 4 (.int .i64 (I:Int)) rfl)
 have Q5:=Ext.cell (Z0 hq5.out 5 (.int .i64 n) rfl)
 have Q6:=Ext.cell (Z0 hq5.out 6 (.int .i64 v) rfl)
 clear hA
 go_wp2_with fail
 refine Y5 (Below.refl _ _) (by kernel_rfl) (by kernel_rfl) ?_
 repeat (go_big_quiet_step ((go_at_call 117;exact Ext.call (hat.out _))))
 refine wpQuiet_nil ?_
 intro _ hw'
 obtain ⟨x9,hw''⟩:=hw'
 subst hw''
 have hv6:=zaa (hv5.out.below x9.below)
 have hB6:=zaa (hB5.out.trans (x9.below.mono (by have:=hz5.out;have:=hle.out;omega)))
 have hT6:=zaa (hT5.out.below x9.below)
 have hq6:Hid (x9.val.heap[w.heap.size]?=some (.cells #[.int .i64 4,.int .i64 (M:Int),.int .i64 (H:Int),.int .i64 g,.int .i64 (I:Int),.int .i64 n,.int .i64 v] 118 (0,0))):=zaa (Z6 x9.below hq5.out)
 have ha6:Hid (x9.val.heap[w.heap.size+1]?=some (.cells #[.int .i64 0,.int .i64 0] 114 (0,0))):=zaa (Z6 x9.below ha5.out)
 have hz6:=zaa (show w.heap.size+1+1≤x9.val.heap.size from by have:=x9.below.size;have:=hz5.out;omega)
 have hs6:Hid (x9.val.heap[sx]?=some (.cells #[.int .i64 s.page,.int .i64 s.cls,.int .i64 s.mark,.bool s.swept,.slice (some ⟨gl,0,none⟩) s.lens.length cl,.slice (some ⟨gp,0,none⟩) s.ptrs.length cp] 97 (0,0))):=zaa (Z6 x9.below hs5.out)
 have cL6:=Z7 x9.below cL5
 generalize x9.val=w6 at *
 clear T0 T1 T2 T3 T4 T5 Q0 Q1 Q2 Q3 Q4 Q5 Q6 hat hv5 hB5 hT5 hq5 ha5 hz5 hs5 cL5
 have q0:=Z0 hq6.out 0 (.int .i64 4) rfl
 have q1:=Z0 hq6.out 1 (.int .i64 (M:Int)) rfl
 have q2:=Z0 hq6.out 2 (.int .i64 (H:Int)) rfl
 have q3:=Z0 hq6.out 3 (.int .i64 g) rfl
 have q4:=Z0 hq6.out 4 (.int .i64 (I:Int)) rfl
 have q5:=Z0 hq6.out 5 (.int .i64 n) rfl
 have q6:=Z0 hq6.out 6 (.int .i64 v) rfl
 have a0:=Z0 ha6.out 0 (.int .i64 0) rfl
 have a1:=Z0 ha6.out 1 (.int .i64 0) rfl
 have z0:=Z3 ha6.out 0
 have z1:=Z3 ha6.out 1
 obtain ⟨gw,cw,hgw⟩:=hv6.out.headW (by omega)
 have g2:=hv6.out.cell 2 S.vw rfl
 rw [hgw] at g2
 have xw:=(Y7 hv6.out.own.words hgw (A+I) hwl).1
 have fw:=(Y7 hv6.out.own.words hgw (A+I) hwl).2
 have hwL:(A:Int)+(I:Int)<(D.words.length:Int):=by omega
 have hgw':=zaa hgw
 have hww:=hin'.out.words
 have hdd:=hin'.out.dirty
 have hpg:=hin'.out.pg
 have y:=zaa (hobj.out { D with words:=D.words.set (A+I) v,dirty:=zfr D.dirty ((A:Int)+(I:Int)) 1 } 0 0 (.inr ⟨hI.out,.inr (.inr (.inl ⟨rfl,by rw [hpp.out,Int.natCast_add],rfl⟩)),rfl⟩))
 have vr:=hv6.out.word hgw (A+I) v
 have hv7:=zaa vr.1.drew
 have hB7:=zaa (show Below base w (w6.setCell ⟨gw,A+I,none⟩ (.int .i64 v)).drew from below_drewN (hB6.out.trans vr.2) 1)
 have hT7:=zaa (show T8 w (w6.setCell ⟨gw,A+I,none⟩ (.int .i64 v)).drew B S S from (hT6.out.own_set (zmd hgw) _ _).below (below_drewN (Below.refl _ _) 1))
 have hne7:=zaa (show gw≠w.heap.size+1 from fun e=>hans.out (by rw [← e];exact List.mem_cons_of_mem _ (zmd hgw)))
 have ha7:Hid ((w6.setCell ⟨gw,A+I,none⟩ (.int .i64 v)).drew.heap[w.heap.size+1]?=some (.cells #[.int .i64 0,.int .i64 0] 114 (0,0))):=zaa ((heap_setCell_other w6 ⟨gw,A+I,none⟩ _ _ (by simpa using hne7.out.symm)).trans ha6.out)
 have hz7:=zaa (show w.heap.size+1+1≤(w6.setCell ⟨gw,A+I,none⟩ (.int .i64 v)).drew.heap.size from by have:=hz6.out;show _≤(w6.setCell ⟨gw,A+I,none⟩ (.int .i64 v)).heap.size;rw [World.size_setCell];exact this)
 have hd:=zaa (L5 base B S { D with words:=D.words.set (A+I) v } ((A:Int)+(I:Int)) 1 (by omega) (by omega) (by omega) (by omega) (by show (A:Int)+(I:Int)+1≤8*(D.dirty.length:Int);omega) _ hv7.out)
 generalize D.words[A+I]?.getD 0=old at *
 clear hgw cL6 vr
 go_wp2_with fail
 go_region
 generalize (w6.setCell ⟨gw,A+I,none⟩ (.int .i64 v)).drew=w7 at *
 clear a0 a1 z0 z1 q0 q1 q2 q3 q4 q5 q6 g2 xw fw
 go_wp2_with fail
 refine hd.out.mono ?_
 rintro e w8 ⟨rfl,v8,b8,c8⟩
 have hv8:=zaa v8
 have hB8:=zaa (hB7.out.trans b8)
 have hT8:=zaa (hT7.out.chgAll c8)
 have ha8:Hid (w8.heap[w.heap.size+1]?=some (.cells #[.int .i64 0,.int .i64 0] 114 (0,0))):=zaa ((c8.block _ (by have:=hz7.out;omega) hans.out).trans ha7.out)
 clear v8 b8 c8 hd
 have a0:=Z0 ha8.out 0 (.int .i64 0) rfl
 have a1:=Z0 ha8.out 1 (.int .i64 0) rfl
 have z0:=Z3 ha8.out 0
 have z1:=Z3 ha8.out 1
 go_wp2_with fail
 refine bodyPost_ret (v:=.agg #[.int .i64 0,.int .i64 0]) (by simp [results,Tryz.results114,go_sem,a0,a1,z0,z1]) rfl ?_
 have hch:Chg [w.heap.size+1] w8 _:=((Chg.refl _ _).put (b:=w.heap.size+1) (by simp) 0 (.int .i64 0)).put (b:=w.heap.size+1) (by simp) 1 (.int .i64 0)
 exact Q9 y.out hv8.out hT8.out hB8.out (by have:=hle.out;omega) (by omega) hans.out hch
theorem sdo_5 (base B:Nat) (S:Y2) (D:WD) (m h g i n v:Int) (hG:U1 D) (hR:F0 D) (w:World) (hv:VarW w base B S D) :
  Calls Tryz.prog 114 #[.pointer (some ⟨B,0,none⟩),OpD.val ⟨5,m,h,g,i,n,v⟩] w fun e w'=>zih D ⟨5,m,h,g,i,n,v⟩ base B S w e w'∧Below base w w':=by
 have hG':=zaa hG
 have hR':=zaa hR
 have hle:=zaa (Nat.le_of_lt (Nat.lt_of_le_of_lt hv.le hv.lt))
 have bb:=Z4 (Z5 w (.cells #[.int .i64 5,.int .i64 m,.int .i64 h,.int .i64 g,.int .i64 i,.int .i64 n,.int .i64 v] 118)) (Z5 (w.alloc (.cells #[.int .i64 5,.int .i64 m,.int .i64 h,.int .i64 g,.int .i64 i,.int .i64 n,.int .i64 v] 118)) (.cells #[.int .i64 0,.int .i64 0] 114))
 have bx:=Z6 (Z5 (w.alloc (.cells #[.int .i64 5,.int .i64 m,.int .i64 h,.int .i64 g,.int .i64 i,.int .i64 n,.int .i64 v] 118)) (.cells #[.int .i64 0,.int .i64 0] 114)) (Y6 w (.cells #[.int .i64 5,.int .i64 m,.int .i64 h,.int .i64 g,.int .i64 i,.int .i64 n,.int .i64 v] 118))
 have ba:=Y6 (w.alloc (.cells #[.int .i64 5,.int .i64 m,.int .i64 h,.int .i64 g,.int .i64 i,.int .i64 n,.int .i64 v] 118)) (.cells #[.int .i64 0,.int .i64 0] 114)
 rw [World.size_alloc] at ba
 have hBb:=zaa (bb.mono hle.out)
 have hTb:=zaa (T8.of_below B S bb)
 have hv0:=zaa (hv.below bb)
 have hq:=zaa bx
 have ha:=zaa ba
 have hnb:=zaa (show ∀ q,w.heap.size≤q→q ∉ B :: blks S.all from fun q hq hm=>by
  rcases List.mem_cons.1 hm with e | hm
  ·have:=hv.lt
   omega
  ·have:=(hv.own.lt _ hm).2
   omega)
 have hz0:=zaa (show ((w.alloc (.cells #[.int .i64 5,.int .i64 m,.int .i64 h,.int .i64 g,.int .i64 i,.int .i64 n,.int .i64 v] 118)).alloc (.cells #[.int .i64 0,.int .i64 0] 114)).heap.size=w.heap.size+1+1 by simp)
 obtain ⟨cd,hcd⟩:=X0.total D ⟨5,m,h,g,i,n,v⟩
 have hcd':=zaa hcd
 obtain ⟨am,cm,hvm⟩:=Y4 hv0.out.own.muts
 have hvm':=zaa hvm
 have hmr:=hv0.out.rd.parts.2.2.2.1
 have hfirst:=zaa (fun (w':World) (hb:Below ((w.alloc (.cells #[.int .i64 5,.int .i64 m,.int .i64 h,.int .i64 g,.int .i64 i,.int .i64 n,.int .i64 v] 118)).alloc (.cells #[.int .i64 0,.int .i64 0] 114)).heap.size ((w.alloc (.cells #[.int .i64 5,.int .i64 m,.int .i64 h,.int .i64 g,.int .i64 i,.int .i64 n,.int .i64 v] 118)).alloc (.cells #[.int .i64 0,.int .i64 0] 114)) w')=>(J9 ⟨5,m,h,g,i,n,v⟩ D S.vm w' ⟨by show (1:Int)≤5;omega,by show (5:Int)≤9;omega⟩ (hmr.below hb) hG'.out.form.roots).mono fun e w'' ⟨⟨c,h1,h2⟩,h3⟩=>(⟨by rw [h1,hcd'.out.unique h2],h3⟩:e=Ending.returned (.int .i64 cd)∧Below w'.heap.size w' w''))
 rw [hvm] at hfirst
 have g5:=hv0.out.cell 5 S.vm rfl
 rw [hvm] at g5
 have X5:=Ext.cell g5
 have Q0:=Ext.cell (Z0 bx 0 (.int .i64 5) rfl)
 have Q1:=Ext.cell (Z0 bx 1 (.int .i64 m) rfl)
 have Q2:=Ext.cell (Z0 bx 2 (.int .i64 h) rfl)
 have Q3:=Ext.cell (Z0 bx 3 (.int .i64 g) rfl)
 have Q4:=Ext.cell (Z0 bx 4 (.int .i64 i) rfl)
 have Q5:=Ext.cell (Z0 bx 5 (.int .i64 n) rfl)
 have Q6:=Ext.cell (Z0 bx 6 (.int .i64 v) rfl)
 have q0:=Z0 bx 0 (.int .i64 5) rfl
 have hcd0:=zaa hcd
 unfold OpD.val OpD.cells at *
 clear hG hR hv bb bx ba hcd hvm hmr g5
 go_enter Tryz.func114,Tryz.ntmps114
 go_wp2_with fail
 generalize (w.alloc (.cells #[.int .i64 5,.int .i64 m,.int .i64 h,.int .i64 g,.int .i64 i,.int .i64 n,.int .i64 v] 118)).alloc (.cells #[.int .i64 0,.int .i64 0] 114)=W at *
 clear q0
 refine Y5 (Below.refl _ _) (by kernel_rfl) (by kernel_rfl) ?_
 repeat (go_big_quiet_step ((go_at_call 149;exact Ext.call (hfirst.out _ (Ext.below _)))))
 refine wpQuiet_nil ?_
 intro _ hw'
 obtain ⟨x9,hw''⟩:=hw'
 subst hw''
 have hv1:=zaa (hv0.out.below x9.below)
 have hB1:=zaa (hBb.out.trans (x9.below.mono (by have:=hz0.out;have:=hle.out;omega)))
 have hT1:=zaa (hTb.out.below x9.below)
 have hq1:Hid (x9.val.heap[w.heap.size]?=some (.cells #[.int .i64 5,.int .i64 m,.int .i64 h,.int .i64 g,.int .i64 i,.int .i64 n,.int .i64 v] 118 (0,0))):=zaa (Z6 x9.below hq.out)
 have ha1:Hid (x9.val.heap[w.heap.size+1]?=some (.cells #[.int .i64 0,.int .i64 0] 114 (0,0))):=zaa (Z6 x9.below ha.out)
 have hz1:=zaa (show w.heap.size+1+1≤x9.val.heap.size from by have:=x9.below.size;have:=hz0.out;omega)
 generalize x9.val=w1 at *
 clear X5 Q0 Q1 Q2 Q3 Q4 Q5 Q6 hfirst hv0 hBb hTb hq ha hz0
 have a0:=Z0 ha1.out 0 (.int .i64 0) rfl
 have a1:=Z0 ha1.out 1 (.int .i64 0) rfl
 have z0:=Z3 ha1.out 0
 have z1:=Z3 ha1.out 1
 by_cases hc:cd=0
 case neg =>
  have d1:(cd != 0)=true:=bne_iff_ne.2 hc
  have y:=zaa (show DoIs D ⟨5,m,h,g,i,n,v⟩ D cd 0 from .inr (.inl ⟨⟨by show (1:Int)≤5;omega,by show (5:Int)≤9;omega⟩,hcd'.out,hc,rfl,rfl⟩))
  have hans:=zaa (show w.heap.size+1 ∉ B :: blks S.all from hnb.out _ (by omega))
  clear hc hcd' hcd0
  go_wp2_with fail
  refine bodyPost_ret (v:=.agg #[.int .i64 cd,.int .i64 0]) (by simp [results,Tryz.results114,go_sem,a0,a1,z0,z1]) rfl ?_
  have hch:Chg [w.heap.size+1] w1 _:=((Chg.refl _ _).put (b:=w.heap.size+1) (by simp) 0 (.int .i64 cd)).put (b:=w.heap.size+1) (by simp) 1 (.int .i64 0)
  exact Q9 y.out hv1.out hT1.out hB1.out (by have:=hle.out;omega) (by omega) hans.out hch
 have d1:(cd != 0)=false:=by rw [hc];rfl
 rw [hc] at hcd'
 obtain ⟨hmo,hug,huo,hs1⟩:=hcd'.out.zero
 have hmo':=zaa hmo
 have hug':=zaa hug
 have huo':=zaa huo
 have hs1':=zaa hs1
 have hk:=zaa (show ∀ E c x,zlk D ⟨5,m,h,g,i,n,v⟩ E c x→DoIs D ⟨5,m,h,g,i,n,v⟩ E c x from fun E c x h=>.inr (.inr ⟨⟨by show (1:Int)≤5;omega,by show (5:Int)≤9;omega⟩,hcd'.out,h⟩))
 obtain ⟨M,rfl⟩:=Int.eq_ofNat_of_zero_le (show 0≤m from hmo.1)
 obtain ⟨H,rfl⟩:=Int.eq_ofNat_of_zero_le (show 0≤h from hmo.2.2.1)
 have hML:(M:Int)<(D.muts.length:Int):=hmo.2.1
 obtain ⟨r,hr⟩:∃ r,D.muts[M]?=some r:=⟨_,List.getElem?_eq_getElem (by omega)⟩
 have hr6:=hG'.out.form.roots M r hr
 have hH6:H<r.length:=by have hx:(H:Int)<6:=hmo.2.2.2;omega
 have hHL:(H:Int)<(r.length:Int):=by omega
 have hroot:=zaa (show V4 D (M:Int) (H:Int)=r[H]?.getD 0 by unfold V4;rw [Int.toNat_natCast,Int.toNat_natCast,hr];rfl)
 have hrx:=zaa (show ∀ x:Nat,V4 D (M:Int) (x:Int)=r[x]?.getD 0 from fun x=>by unfold V4;rw [Int.toNat_natCast,Int.toNat_natCast,hr];rfl)
 obtain ⟨gm,cm',gr,cr,R⟩:=hv1.out.rootAt hr hH6
 obtain ⟨rfl,rfl⟩:am=some ⟨gm,0,none⟩∧cm=cm':=by have:=hvm'.out.symm.trans R.vm;simpa using this
 have g5:=hv1.out.cell 5 S.vm rfl
 rw [R.vm] at g5
 have c0:=R.xm
 have c1:=R.xr
 have fr:=R.frz
 have hmv:=zaa R.mv
 have hrn:=zaa (show gr ∈ blks S.all from zie R.mv)
 have hr':=zaa hr
 have hmm:=zaa (show D.muts.length≤3 by have:=hG'.out.form.geo.2.2.2.2.2.2;omega)
 have hH6':=zaa hH6
 have q0:=Z0 hq1.out 0 (.int .i64 5) rfl
 have q1:=Z0 hq1.out 1 (.int .i64 (M:Int)) rfl
 have q2:=Z0 hq1.out 2 (.int .i64 (H:Int)) rfl
 have q3:=Z0 hq1.out 3 (.int .i64 g) rfl
 have q4:=Z0 hq1.out 4 (.int .i64 i) rfl
 have q5:=Z0 hq1.out 5 (.int .i64 n) rfl
 have q6:=Z0 hq1.out 6 (.int .i64 v) rfl
 have hgq:=zaa (show ¬ gr=w.heap.size∧¬ gr=w.heap.size+1 from ⟨fun e=>hnb.out _ (Nat.le_refl _) (by rw [← e];exact List.mem_cons_of_mem _ hrn.out),fun e=>hnb.out _ (by omega:w.heap.size≤w.heap.size+1) (by rw [← e];exact List.mem_cons_of_mem _ hrn.out)⟩)
 have hg1:=hgq.out.1
 have hg2:=hgq.out.2
 have hg3:¬ w.heap.size=gr:=fun e=>hg1 e.symm
 have hg4:¬ w.heap.size+1=gr:=fun e=>hg2 e.symm
 clear hmo hug huo hs1 hc hr hr6 hH6 R hcd0
 go_wp2_with fail
 go_quiet (fail)
 have hv2:=zaa (hv1.out.drewN nq)
 have hB2:=zaa (below_drewN hB1.out nq)
 have hT2:=zaa (hT1.out.below (below_drewN (Below.refl _ _) nq))
 have hq2:Hid ((w1.drewN nq).heap[w.heap.size]?=some (.cells #[.int .i64 5,.int .i64 (M:Int),.int .i64 (H:Int),.int .i64 g,.int .i64 i,.int .i64 n,.int .i64 v] 118 (0,0))):=zaa hq1.out
 have ha2:Hid ((w1.drewN nq).heap[w.heap.size+1]?=some (.cells #[.int .i64 0,.int .i64 0] 114 (0,0))):=zaa ha1.out
 have hz2:Hid (w.heap.size+1+1≤(w1.drewN nq).heap.size):=zaa hz1.out
 replace g5:(w1.drewN nq).cell? ⟨B,5,none⟩=_:=g5
 replace c0:(w1.drewN nq).cell? ⟨gm,M,none⟩=_:=c0
 replace c1:(w1.drewN nq).cell? ⟨gr,H,none⟩=_:=c1
 replace fr:(w1.drewN nq).frozen? ⟨gr,H,none⟩=_:=fr
 replace a0:(w1.drewN nq).cell? ⟨w.heap.size+1,0,none⟩=_:=a0
 replace a1:(w1.drewN nq).cell? ⟨w.heap.size+1,1,none⟩=_:=a1
 replace z0:(w1.drewN nq).frozen? ⟨w.heap.size+1,0,none⟩=_:=z0
 replace z1:(w1.drewN nq).frozen? ⟨w.heap.size+1,1,none⟩=_:=z1
 replace q0:(w1.drewN nq).cell? ⟨w.heap.size,0,none⟩=_:=q0
 replace q1:(w1.drewN nq).cell? ⟨w.heap.size,1,none⟩=_:=q1
 replace q2:(w1.drewN nq).cell? ⟨w.heap.size,2,none⟩=_:=q2
 replace q3:(w1.drewN nq).cell? ⟨w.heap.size,3,none⟩=_:=q3
 replace q4:(w1.drewN nq).cell? ⟨w.heap.size,4,none⟩=_:=q4
 replace q5:(w1.drewN nq).cell? ⟨w.heap.size,5,none⟩=_:=q5
 replace q6:(w1.drewN nq).cell? ⟨w.heap.size,6,none⟩=_:=q6
 generalize w1.drewN nq=w2 at *
 clear hv1 hB1 hT1 hq1 ha1 hz1
 obtain ⟨kk,j,s,ho,hks⟩:=hR'.out.at_ (m:=(M:Int)) (x:=(H:Int)) (huo'.out (show N2 5 by unfold N2;omega))
 have hobj:=zaa (show ∀ E c x,((¬ J8 5 i s j∧E=D∧c=4∧x=0)∨(J8 5 i s j∧OnIs D ⟨5,(M:Int),(H:Int),g,i,n,v⟩ s j (atW s (j:Int)+i).toNat E x∧c=0))→DoIs D ⟨5,(M:Int),(H:Int),g,i,n,v⟩ E c x from fun E c x h=>hk.out E c x (.inr (.inr (.inr (.inr ⟨by show N2 5;unfold N2;omega,kk,j,s,ho,hks,h⟩)))))
 rw [hroot.out] at ho
 obtain ⟨s',hks2,hin,p0,p1⟩:=N0 hG'.out.form ho
 rw [hks] at hks2
 obtain rfl:=Option.some.inj hks2
 have hfind:=zaa (zff B _ D hG'.out.form (r[H]?.getD 0) w2 hv2.out.rd hv2.out.boxW)
 have ho':=zaa ho
 have hks':=zaa hks
 have hin':=zaa hin
 have hsl:=(hG'.out.form.span kk s hks).slot j hin.j
 have hsl':=zaa hsl
 clear ho hks hks2 hin p0 p1 hsl
 generalize r[H]?.getD 0=x0 at *
 go_wp2_with fail
 refine hfind.out.mono ?_
 rintro e w3 ⟨⟨r1,r2,rfl,hqq⟩,b3⟩
 obtain ⟨rfl,rfl⟩:r1=(kk:Int)∧r2=(j:Int):=by
  rcases hqq with ⟨k',j',_,ho2,rfl,rfl⟩ | ⟨hn,_⟩
  ·obtain ⟨rfl,rfl⟩:=ho2.unique hG'.out.form ho'.out
   exact ⟨rfl,rfl⟩
  ·exact absurd ho'.out (hn hG'.out.form kk j)
 have hv3:=zaa (hv2.out.below b3)
 have hB3:=zaa (hB2.out.trans (b3.mono (by have:=hz2.out;have:=hle.out;omega)))
 have hT3:=zaa (hT2.out.below b3)
 have hq3:Hid (w3.heap[w.heap.size]?=some (.cells #[.int .i64 5,.int .i64 (M:Int),.int .i64 (H:Int),.int .i64 g,.int .i64 i,.int .i64 n,.int .i64 v] 118 (0,0))):=zaa (Z6 b3 hq2.out)
 have ha3:Hid (w3.heap[w.heap.size+1]?=some (.cells #[.int .i64 0,.int .i64 0] 114 (0,0))):=zaa (Z6 b3 ha2.out)
 have hz3:=zaa (show w.heap.size+1+1≤w3.heap.size from by have:=b3.size;have:=hz2.out;omega)
 clear hqq b3 hfind hv2 hB2 hT2 hq2 ha2 hz2 a0 a1 z0 z1 g5 c0 c1 fr q0 q1 q2 q3 q4 q5 q6
 have hkl0:=(List.getElem?_eq_some_iff.1 hks'.out).1
 have hkl1:(kk:Int)<(D.spans.length:Int):=by omega
 have hls:D.spans.length≤12:=by have:=hG'.out.form.spans;have:=hG'.out.form.geo.2.2.2.2.1;omega
 obtain ⟨p,hp⟩:=hv3.out.svAt hks'.out
 obtain ⟨gs,cs,hgs⟩:=hv3.out.headS (by omega)
 obtain ⟨gl,cl,hgl⟩:=N7 (hv3.out.own.inner kk s p hks'.out hp).1 (by have:=hin'.out.j;omega)
 obtain ⟨gp,cp,hgp⟩:=N7 (hv3.out.own.inner kk s p hks'.out hp).2 (by have:=hin'.out.j;have:=hin'.out.lens;have:=hin'.out.ptrs;omega)
 have g4:=hv3.out.cell 4 S.vs rfl
 rw [hgs] at g4
 obtain ⟨x0',x1,x2,x3,x4,x5⟩:=hv3.out.six hgs hks'.out hp
 rw [hgl] at x4
 rw [hgp] at x5
 have cL:=(Y7 (hv3.out.own.inner kk s p hks'.out hp).1 hgl j hin'.out.j).1
 have cP:=(Y7 (hv3.out.own.inner kk s p hks'.out hp).2 hgp j (by have:=hin'.out.j;have:=hin'.out.lens;have:=hin'.out.ptrs;omega)).1
 have hjl1:(j:Int)<(s.lens.length:Int):=by have:=hin'.out.j;omega
 have hjp1:(j:Int)<(s.ptrs.length:Int):=by have:=hin'.out.j;have:=hin'.out.lens;have:=hin'.out.ptrs;omega
 have hll:s.lens.length≤16∧s.ptrs.length≤16:=by have:=hin'.out.lens;have:=hin'.out.ptrs;have:=(E7 s.cls).2;omega
 clear hgs hgl hgp hp hkl0
 go_upto_region 22 with fail
 have b4:=Z5 w3 (.cells #[.int .i64 s.page,.int .i64 s.cls,.int .i64 s.mark,.bool s.swept,.slice (some ⟨gl,0,none⟩) s.lens.length cl,.slice (some ⟨gp,0,none⟩) s.ptrs.length cp] 97)
 have bS:=Y6 w3 (.cells #[.int .i64 s.page,.int .i64 s.cls,.int .i64 s.mark,.bool s.swept,.slice (some ⟨gl,0,none⟩) s.lens.length cl,.slice (some ⟨gp,0,none⟩) s.ptrs.length cp] 97)
 have hv4:=zaa (hv3.out.below b4)
 have hB4:=zaa (hB3.out.trans (b4.mono (by have:=hz3.out;have:=hle.out;omega)))
 have hT4:=zaa (hT3.out.below b4)
 have hq4:Hid ((w3.alloc (.cells #[.int .i64 s.page,.int .i64 s.cls,.int .i64 s.mark,.bool s.swept,.slice (some ⟨gl,0,none⟩) s.lens.length cl,.slice (some ⟨gp,0,none⟩) s.ptrs.length cp] 97)).heap[w.heap.size]?=some (.cells #[.int .i64 5,.int .i64 (M:Int),.int .i64 (H:Int),.int .i64 g,.int .i64 i,.int .i64 n,.int .i64 v] 118 (0,0))):=zaa (Z6 b4 hq3.out)
 have ha4:Hid ((w3.alloc (.cells #[.int .i64 s.page,.int .i64 s.cls,.int .i64 s.mark,.bool s.swept,.slice (some ⟨gl,0,none⟩) s.lens.length cl,.slice (some ⟨gp,0,none⟩) s.ptrs.length cp] 97)).heap[w.heap.size+1]?=some (.cells #[.int .i64 0,.int .i64 0] 114 (0,0))):=zaa (Z6 b4 ha3.out)
 have hz4:=zaa (show w.heap.size+1+1≤(w3.alloc (.cells #[.int .i64 s.page,.int .i64 s.cls,.int .i64 s.mark,.bool s.swept,.slice (some ⟨gl,0,none⟩) s.lens.length cl,.slice (some ⟨gp,0,none⟩) s.ptrs.length cp] 97)).heap.size from by have:=b4.size;have:=hz3.out;omega)
 have hs4:=zaa bS
 have cL4:=Z7 b4 cL
 have cP4:=Z7 b4 cP
 have hsb:w.heap.size+1+1≤w3.heap.size:=hz3.out
 clear g4 x0' x1 x2 x3 x4 x5 cL cP b4 bS hv3 hB3 hT3 hq3 ha3 hz3
 have hne:=zaa hsb
 generalize hsx:w3.heap.size=sx at *
 generalize w3.alloc (.cells #[.int .i64 s.page,.int .i64 s.cls,.int .i64 s.mark,.bool s.swept,.slice (some ⟨gl,0,none⟩) s.lens.length cl,.slice (some ⟨gp,0,none⟩) s.ptrs.length cp] 97)=w4 at *
 obtain ⟨ib,hib⟩:=J5 (J8 5 i s j)
 have hib':=zaa hib
 have hix:=zaa (fun (w':World)=>(sindex_5 (M:Int) (H:Int) g i n v (s.lens[j]?.getD 0) (s.ptrs[j]?.getD 0) w').mono fun e w'' ⟨h1,h2⟩=>(⟨h1.at_ ib hib,h2⟩:e=Ending.returned (.bool ib)∧Below w'.heap.size w' w''))
 unfold OpD.val OpD.cells at hix
 have SL:=Ext.cell (Z0 hs4.out 4 (.slice (some ⟨gl,0,none⟩) s.lens.length cl) rfl)
 have SP:=Ext.cell (Z0 hs4.out 5 (.slice (some ⟨gp,0,none⟩) s.ptrs.length cp) rfl)
 have CL:=Ext.cell cL4
 have CP:=Ext.cell cP4
 have Q0:=Ext.cell (Z0 hq4.out 0 (.int .i64 5) rfl)
 have Q1:=Ext.cell (Z0 hq4.out 1 (.int .i64 (M:Int)) rfl)
 have Q2:=Ext.cell (Z0 hq4.out 2 (.int .i64 (H:Int)) rfl)
 have Q3:=Ext.cell (Z0 hq4.out 3 (.int .i64 g) rfl)
 have Q4:=Ext.cell (Z0 hq4.out 4 (.int .i64 i) rfl)
 have Q5:=Ext.cell (Z0 hq4.out 5 (.int .i64 n) rfl)
 have Q6:=Ext.cell (Z0 hq4.out 6 (.int .i64 v) rfl)
 have hsx':=zaa hsx
 clear hib cL4 cP4 hsx
 refine Y5 (Below.refl _ _) (by kernel_rfl) (by kernel_rfl) ?_
 repeat (go_big_quiet_step ((go_at_call 151;exact Ext.call (hix.out _))))
 refine wpQuiet_nil ?_
 intro _ hw'
 obtain ⟨x9,hw''⟩:=hw'
 subst hw''
 have hv5:=zaa (hv4.out.below x9.below)
 have hB5:=zaa (hB4.out.trans (x9.below.mono (by have:=hz4.out;have:=hle.out;omega)))
 have hT5:=zaa (hT4.out.below x9.below)
 have hq5:Hid (x9.val.heap[w.heap.size]?=some (.cells #[.int .i64 5,.int .i64 (M:Int),.int .i64 (H:Int),.int .i64 g,.int .i64 i,.int .i64 n,.int .i64 v] 118 (0,0))):=zaa (Z6 x9.below hq4.out)
 have ha5:Hid (x9.val.heap[w.heap.size+1]?=some (.cells #[.int .i64 0,.int .i64 0] 114 (0,0))):=zaa (Z6 x9.below ha4.out)
 have hz5:=zaa (show w.heap.size+1+1≤x9.val.heap.size from by have:=x9.below.size;have:=hz4.out;omega)
 have hs5:Hid (x9.val.heap[sx]?=some (.cells #[.int .i64 s.page,.int .i64 s.cls,.int .i64 s.mark,.bool s.swept,.slice (some ⟨gl,0,none⟩) s.lens.length cl,.slice (some ⟨gp,0,none⟩) s.ptrs.length cp] 97 (0,0))):=zaa (Z6 x9.below hs4.out)
 have cL5:=CL x9
 generalize x9.val=w5 at *
 clear SL SP CL CP Q0 Q1 Q2 Q3 Q4 Q5 Q6 hix hv4 hB4 hT4 hq4 ha4 hz4 hs4
 have hans:=zaa (show w.heap.size+1 ∉ B :: blks S.all from hnb.out _ (by omega))
 cases ib
 case false =>
  have y:=zaa (hobj.out D 4 0 (.inl ⟨fun h=>(by have:=hib'.out.2 h;cases this),rfl,rfl,rfl⟩))
  have a0:=Z0 ha5.out 0 (.int .i64 0) rfl
  have a1:=Z0 ha5.out 1 (.int .i64 0) rfl
  have z0:=Z3 ha5.out 0
  have z1:=Z3 ha5.out 1
  clear cL5
  go_wp2_with fail
  refine bodyPost_ret (v:=.agg #[.int .i64 4,.int .i64 0]) (by simp [results,Tryz.results114,go_sem,a0,a1,z0,z1]) rfl ?_
  have hch:Chg [w.heap.size+1] w5 _:=((Chg.refl _ _).put (b:=w.heap.size+1) (by simp) 0 (.int .i64 4)).put (b:=w.heap.size+1) (by simp) 1 (.int .i64 0)
  exact Q9 y.out hv5.out hT5.out hB5.out (by have:=hle.out;omega) (by omega) hans.out hch
 have hI:=zaa (hib'.out.1 rfl)
 obtain ⟨A,hA⟩:=Int.eq_ofNat_of_zero_le hin'.out.bd.1
 have hA2:A≤1000:=by have:=hin'.out.bd.2.2.2.2.2;omega
 have hat:=zaa (fun (w':World)=>(hA ▸ zit s (.slice (some ⟨gl,0,none⟩) s.lens.length cl) (.slice (some ⟨gp,0,none⟩) s.ptrs.length cp) (j:Int) hin'.out.pg0 (by have:=hin'.out.pg1;have:=hin'.out.pg;omega) (by omega) (by omega) w':Calls Tryz.prog 117 #[zgz s (.slice (some ⟨gl,0,none⟩) s.lens.length cl) (.slice (some ⟨gp,0,none⟩) s.ptrs.length cp),.int .i64 j] w' fun e w''=>e=.returned (.int .i64 (A:Int))∧Below w'.heap.size w' w''))
 unfold zgz at hat
 have hi0:0≤i:=by have h1:=hsl'.out.p0;have h2:=hI.out.1;have h3:=hI.out.2;omega
 obtain ⟨I,rfl⟩:=Int.eq_ofNat_of_zero_le hi0
 have hil:(I:Int)<s.lens[j]?.getD 0:=by have h1:=hsl'.out.p1;have h2:=hI.out.1;have h3:=hI.out.2;omega
 have hwl:A+I<D.words.length:=by have h1:=hsl'.out.l1;have h2:=hin'.out.bd.2.1;have h3:=hin'.out.words;omega
 have hI2:I≤16:=by have h1:=hsl'.out.l1;have:=hin'.out.bd.2.2.2.1;omega
 have hpp:=zaa (show (atW s (j:Int)+(I:Int)).toNat=A+I by omega)
 clear hi0 hil
 have T0:=Ext.cell (Z0 hs5.out 0 (.int .i64 s.page) rfl)
 have T1:=Ext.cell (Z0 hs5.out 1 (.int .i64 s.cls) rfl)
 have T2:=Ext.cell (Z0 hs5.out 2 (.int .i64 s.mark) rfl)
 have T3:=Ext.cell (Z0 hs5.out 3 (.bool s.swept) rfl)
 have T4:=Ext.cell (Z0 hs5.out 4 (.slice (some ⟨gl,0,none⟩) s.lens.length cl) rfl)
 have T5:=Ext.cell (Z0 hs5.out 5 (.slice (some ⟨gp,0,none⟩) s.ptrs.length cp) rfl)
 have Q0:=Ext.cell (Z0 hq5.out 0 (.int .i64 5) rfl)
 have Q1:=Ext.cell (Z0 hq5.out 1 (.int .i64 (M:Int)) rfl)
 have Q2:=Ext.cell (Z0 hq5.out 2 (.int .i64 (H:Int)) rfl)
 have Q3:=Ext.cell (Z0 hq5.out 3 (.int .i64 g) rfl)
 have Q4:=Ext.cell (Z0 hq5.out 4 (.int .i64 (I:Int)) rfl)
 have Q5:=Ext.cell (Z0 hq5.out 5 (.int .i64 n) rfl)
 have Q6:=Ext.cell (Z0 hq5.out 6 (.int .i64 v) rfl)
 clear hA
 go_wp2_with fail
 refine Y5 (Below.refl _ _) (by kernel_rfl) (by kernel_rfl) ?_
 repeat (go_big_quiet_step ((go_at_call 117;exact Ext.call (hat.out _))))
 refine wpQuiet_nil ?_
 intro _ hw'
 obtain ⟨x9,hw''⟩:=hw'
 subst hw''
 have hv6:=zaa (hv5.out.below x9.below)
 have hB6:=zaa (hB5.out.trans (x9.below.mono (by have:=hz5.out;have:=hle.out;omega)))
 have hT6:=zaa (hT5.out.below x9.below)
 have hq6:Hid (x9.val.heap[w.heap.size]?=some (.cells #[.int .i64 5,.int .i64 (M:Int),.int .i64 (H:Int),.int .i64 g,.int .i64 (I:Int),.int .i64 n,.int .i64 v] 118 (0,0))):=zaa (Z6 x9.below hq5.out)
 have ha6:Hid (x9.val.heap[w.heap.size+1]?=some (.cells #[.int .i64 0,.int .i64 0] 114 (0,0))):=zaa (Z6 x9.below ha5.out)
 have hz6:=zaa (show w.heap.size+1+1≤x9.val.heap.size from by have:=x9.below.size;have:=hz5.out;omega)
 have hs6:Hid (x9.val.heap[sx]?=some (.cells #[.int .i64 s.page,.int .i64 s.cls,.int .i64 s.mark,.bool s.swept,.slice (some ⟨gl,0,none⟩) s.lens.length cl,.slice (some ⟨gp,0,none⟩) s.ptrs.length cp] 97 (0,0))):=zaa (Z6 x9.below hs5.out)
 have cL6:=Z7 x9.below cL5
 generalize x9.val=w6 at *
 clear T0 T1 T2 T3 T4 T5 Q0 Q1 Q2 Q3 Q4 Q5 Q6 hat hv5 hB5 hT5 hq5 ha5 hz5 hs5 cL5
 have q0:=Z0 hq6.out 0 (.int .i64 5) rfl
 have q1:=Z0 hq6.out 1 (.int .i64 (M:Int)) rfl
 have q2:=Z0 hq6.out 2 (.int .i64 (H:Int)) rfl
 have q3:=Z0 hq6.out 3 (.int .i64 g) rfl
 have q4:=Z0 hq6.out 4 (.int .i64 (I:Int)) rfl
 have q5:=Z0 hq6.out 5 (.int .i64 n) rfl
 have q6:=Z0 hq6.out 6 (.int .i64 v) rfl
 have a0:=Z0 ha6.out 0 (.int .i64 0) rfl
 have a1:=Z0 ha6.out 1 (.int .i64 0) rfl
 have z0:=Z3 ha6.out 0
 have z1:=Z3 ha6.out 1
 obtain ⟨gw,cw,hgw⟩:=hv6.out.headW (by omega)
 have g2:=hv6.out.cell 2 S.vw rfl
 rw [hgw] at g2
 have xw:=(Y7 hv6.out.own.words hgw (A+I) hwl).1
 have fw:=(Y7 hv6.out.own.words hgw (A+I) hwl).2
 have hwL:(A:Int)+(I:Int)<(D.words.length:Int):=by omega
 have hgw':=zaa hgw
 have hww:=hin'.out.words
 have hdd:=hin'.out.dirty
 have hpg:=hin'.out.pg
 have y:=zaa (hobj.out D 0 (D.words[A+I]?.getD 0) (.inr ⟨hI.out,.inr (.inr (.inr (.inl ⟨rfl,rfl,by rw [hpp.out]⟩))),rfl⟩))
 generalize D.words[A+I]?.getD 0=x at *
 clear hgw cL6
 go_wp2_with fail
 refine bodyPost_ret (v:=.agg #[.int .i64 0,.int .i64 x]) (by simp [results,Tryz.results114,go_sem,a0,a1,z0,z1]) rfl ?_
 have hch:Chg [w.heap.size+1] w6 _:=((Chg.refl _ _).put (b:=w.heap.size+1) (by simp) 0 (.int .i64 0)).put (b:=w.heap.size+1) (by simp) 1 (.int .i64 x)
 exact Q9 y.out hv6.out hT6.out hB6.out (by have:=hle.out;omega) (by omega) hans.out hch
theorem sdo_6 (base B:Nat) (S:Y2) (D:WD) (m h g i n v:Int) (hG:U1 D) (hR:F0 D) (w:World) (hv:VarW w base B S D) :
  Calls Tryz.prog 114 #[.pointer (some ⟨B,0,none⟩),OpD.val ⟨6,m,h,g,i,n,v⟩] w fun e w'=>zih D ⟨6,m,h,g,i,n,v⟩ base B S w e w'∧Below base w w':=by
 have hG':=zaa hG
 have hR':=zaa hR
 have hle:=zaa (Nat.le_of_lt (Nat.lt_of_le_of_lt hv.le hv.lt))
 have bb:=Z4 (Z5 w (.cells #[.int .i64 6,.int .i64 m,.int .i64 h,.int .i64 g,.int .i64 i,.int .i64 n,.int .i64 v] 118)) (Z5 (w.alloc (.cells #[.int .i64 6,.int .i64 m,.int .i64 h,.int .i64 g,.int .i64 i,.int .i64 n,.int .i64 v] 118)) (.cells #[.int .i64 0,.int .i64 0] 114))
 have bx:=Z6 (Z5 (w.alloc (.cells #[.int .i64 6,.int .i64 m,.int .i64 h,.int .i64 g,.int .i64 i,.int .i64 n,.int .i64 v] 118)) (.cells #[.int .i64 0,.int .i64 0] 114)) (Y6 w (.cells #[.int .i64 6,.int .i64 m,.int .i64 h,.int .i64 g,.int .i64 i,.int .i64 n,.int .i64 v] 118))
 have ba:=Y6 (w.alloc (.cells #[.int .i64 6,.int .i64 m,.int .i64 h,.int .i64 g,.int .i64 i,.int .i64 n,.int .i64 v] 118)) (.cells #[.int .i64 0,.int .i64 0] 114)
 rw [World.size_alloc] at ba
 have hBb:=zaa (bb.mono hle.out)
 have hTb:=zaa (T8.of_below B S bb)
 have hv0:=zaa (hv.below bb)
 have hq:=zaa bx
 have ha:=zaa ba
 have hnb:=zaa (show ∀ q,w.heap.size≤q→q ∉ B :: blks S.all from fun q hq hm=>by
  rcases List.mem_cons.1 hm with e | hm
  ·have:=hv.lt
   omega
  ·have:=(hv.own.lt _ hm).2
   omega)
 have hz0:=zaa (show ((w.alloc (.cells #[.int .i64 6,.int .i64 m,.int .i64 h,.int .i64 g,.int .i64 i,.int .i64 n,.int .i64 v] 118)).alloc (.cells #[.int .i64 0,.int .i64 0] 114)).heap.size=w.heap.size+1+1 by simp)
 obtain ⟨cd,hcd⟩:=X0.total D ⟨6,m,h,g,i,n,v⟩
 have hcd':=zaa hcd
 obtain ⟨am,cm,hvm⟩:=Y4 hv0.out.own.muts
 have hvm':=zaa hvm
 have hmr:=hv0.out.rd.parts.2.2.2.1
 have hfirst:=zaa (fun (w':World) (hb:Below ((w.alloc (.cells #[.int .i64 6,.int .i64 m,.int .i64 h,.int .i64 g,.int .i64 i,.int .i64 n,.int .i64 v] 118)).alloc (.cells #[.int .i64 0,.int .i64 0] 114)).heap.size ((w.alloc (.cells #[.int .i64 6,.int .i64 m,.int .i64 h,.int .i64 g,.int .i64 i,.int .i64 n,.int .i64 v] 118)).alloc (.cells #[.int .i64 0,.int .i64 0] 114)) w')=>(J9 ⟨6,m,h,g,i,n,v⟩ D S.vm w' ⟨by show (1:Int)≤6;omega,by show (6:Int)≤9;omega⟩ (hmr.below hb) hG'.out.form.roots).mono fun e w'' ⟨⟨c,h1,h2⟩,h3⟩=>(⟨by rw [h1,hcd'.out.unique h2],h3⟩:e=Ending.returned (.int .i64 cd)∧Below w'.heap.size w' w''))
 rw [hvm] at hfirst
 have g5:=hv0.out.cell 5 S.vm rfl
 rw [hvm] at g5
 have X5:=Ext.cell g5
 have Q0:=Ext.cell (Z0 bx 0 (.int .i64 6) rfl)
 have Q1:=Ext.cell (Z0 bx 1 (.int .i64 m) rfl)
 have Q2:=Ext.cell (Z0 bx 2 (.int .i64 h) rfl)
 have Q3:=Ext.cell (Z0 bx 3 (.int .i64 g) rfl)
 have Q4:=Ext.cell (Z0 bx 4 (.int .i64 i) rfl)
 have Q5:=Ext.cell (Z0 bx 5 (.int .i64 n) rfl)
 have Q6:=Ext.cell (Z0 bx 6 (.int .i64 v) rfl)
 have q0:=Z0 bx 0 (.int .i64 6) rfl
 have hcd0:=zaa hcd
 unfold OpD.val OpD.cells at *
 clear hG hR hv bb bx ba hcd hvm hmr g5
 go_enter Tryz.func114,Tryz.ntmps114
 go_wp2_with fail
 generalize (w.alloc (.cells #[.int .i64 6,.int .i64 m,.int .i64 h,.int .i64 g,.int .i64 i,.int .i64 n,.int .i64 v] 118)).alloc (.cells #[.int .i64 0,.int .i64 0] 114)=W at *
 clear q0
 refine Y5 (Below.refl _ _) (by kernel_rfl) (by kernel_rfl) ?_
 repeat (go_big_quiet_step ((go_at_call 149;exact Ext.call (hfirst.out _ (Ext.below _)))))
 refine wpQuiet_nil ?_
 intro _ hw'
 obtain ⟨x9,hw''⟩:=hw'
 subst hw''
 have hv1:=zaa (hv0.out.below x9.below)
 have hB1:=zaa (hBb.out.trans (x9.below.mono (by have:=hz0.out;have:=hle.out;omega)))
 have hT1:=zaa (hTb.out.below x9.below)
 have hq1:Hid (x9.val.heap[w.heap.size]?=some (.cells #[.int .i64 6,.int .i64 m,.int .i64 h,.int .i64 g,.int .i64 i,.int .i64 n,.int .i64 v] 118 (0,0))):=zaa (Z6 x9.below hq.out)
 have ha1:Hid (x9.val.heap[w.heap.size+1]?=some (.cells #[.int .i64 0,.int .i64 0] 114 (0,0))):=zaa (Z6 x9.below ha.out)
 have hz1:=zaa (show w.heap.size+1+1≤x9.val.heap.size from by have:=x9.below.size;have:=hz0.out;omega)
 generalize x9.val=w1 at *
 clear X5 Q0 Q1 Q2 Q3 Q4 Q5 Q6 hfirst hv0 hBb hTb hq ha hz0
 have a0:=Z0 ha1.out 0 (.int .i64 0) rfl
 have a1:=Z0 ha1.out 1 (.int .i64 0) rfl
 have z0:=Z3 ha1.out 0
 have z1:=Z3 ha1.out 1
 by_cases hc:cd=0
 case neg =>
  have d1:(cd != 0)=true:=bne_iff_ne.2 hc
  have y:=zaa (show DoIs D ⟨6,m,h,g,i,n,v⟩ D cd 0 from .inr (.inl ⟨⟨by show (1:Int)≤6;omega,by show (6:Int)≤9;omega⟩,hcd'.out,hc,rfl,rfl⟩))
  have hans:=zaa (show w.heap.size+1 ∉ B :: blks S.all from hnb.out _ (by omega))
  clear hc hcd' hcd0
  go_wp2_with fail
  refine bodyPost_ret (v:=.agg #[.int .i64 cd,.int .i64 0]) (by simp [results,Tryz.results114,go_sem,a0,a1,z0,z1]) rfl ?_
  have hch:Chg [w.heap.size+1] w1 _:=((Chg.refl _ _).put (b:=w.heap.size+1) (by simp) 0 (.int .i64 cd)).put (b:=w.heap.size+1) (by simp) 1 (.int .i64 0)
  exact Q9 y.out hv1.out hT1.out hB1.out (by have:=hle.out;omega) (by omega) hans.out hch
 have d1:(cd != 0)=false:=by rw [hc];rfl
 rw [hc] at hcd'
 obtain ⟨hmo,hug,huo,hs1⟩:=hcd'.out.zero
 have hmo':=zaa hmo
 have hug':=zaa hug
 have huo':=zaa huo
 have hs1':=zaa hs1
 have hk:=zaa (show ∀ E c x,zlk D ⟨6,m,h,g,i,n,v⟩ E c x→DoIs D ⟨6,m,h,g,i,n,v⟩ E c x from fun E c x h=>.inr (.inr ⟨⟨by show (1:Int)≤6;omega,by show (6:Int)≤9;omega⟩,hcd'.out,h⟩))
 obtain ⟨M,rfl⟩:=Int.eq_ofNat_of_zero_le (show 0≤m from hmo.1)
 obtain ⟨H,rfl⟩:=Int.eq_ofNat_of_zero_le (show 0≤h from hmo.2.2.1)
 have hML:(M:Int)<(D.muts.length:Int):=hmo.2.1
 obtain ⟨r,hr⟩:∃ r,D.muts[M]?=some r:=⟨_,List.getElem?_eq_getElem (by omega)⟩
 have hr6:=hG'.out.form.roots M r hr
 have hH6:H<r.length:=by have hx:(H:Int)<6:=hmo.2.2.2;omega
 have hHL:(H:Int)<(r.length:Int):=by omega
 have hroot:=zaa (show V4 D (M:Int) (H:Int)=r[H]?.getD 0 by unfold V4;rw [Int.toNat_natCast,Int.toNat_natCast,hr];rfl)
 have hrx:=zaa (show ∀ x:Nat,V4 D (M:Int) (x:Int)=r[x]?.getD 0 from fun x=>by unfold V4;rw [Int.toNat_natCast,Int.toNat_natCast,hr];rfl)
 obtain ⟨gm,cm',gr,cr,R⟩:=hv1.out.rootAt hr hH6
 obtain ⟨rfl,rfl⟩:am=some ⟨gm,0,none⟩∧cm=cm':=by have:=hvm'.out.symm.trans R.vm;simpa using this
 have g5:=hv1.out.cell 5 S.vm rfl
 rw [R.vm] at g5
 have c0:=R.xm
 have c1:=R.xr
 have fr:=R.frz
 have hmv:=zaa R.mv
 have hrn:=zaa (show gr ∈ blks S.all from zie R.mv)
 have hr':=zaa hr
 have hmm:=zaa (show D.muts.length≤3 by have:=hG'.out.form.geo.2.2.2.2.2.2;omega)
 have hH6':=zaa hH6
 have q0:=Z0 hq1.out 0 (.int .i64 6) rfl
 have q1:=Z0 hq1.out 1 (.int .i64 (M:Int)) rfl
 have q2:=Z0 hq1.out 2 (.int .i64 (H:Int)) rfl
 have q3:=Z0 hq1.out 3 (.int .i64 g) rfl
 have q4:=Z0 hq1.out 4 (.int .i64 i) rfl
 have q5:=Z0 hq1.out 5 (.int .i64 n) rfl
 have q6:=Z0 hq1.out 6 (.int .i64 v) rfl
 have hgq:=zaa (show ¬ gr=w.heap.size∧¬ gr=w.heap.size+1 from ⟨fun e=>hnb.out _ (Nat.le_refl _) (by rw [← e];exact List.mem_cons_of_mem _ hrn.out),fun e=>hnb.out _ (by omega:w.heap.size≤w.heap.size+1) (by rw [← e];exact List.mem_cons_of_mem _ hrn.out)⟩)
 have hg1:=hgq.out.1
 have hg2:=hgq.out.2
 have hg3:¬ w.heap.size=gr:=fun e=>hg1 e.symm
 have hg4:¬ w.heap.size+1=gr:=fun e=>hg2 e.symm
 clear hmo hug huo hs1 hc hr hr6 hH6 R hcd0
 go_wp2_with fail
 go_quiet (fail)
 have hv2:=zaa (hv1.out.drewN nq)
 have hB2:=zaa (below_drewN hB1.out nq)
 have hT2:=zaa (hT1.out.below (below_drewN (Below.refl _ _) nq))
 have hq2:Hid ((w1.drewN nq).heap[w.heap.size]?=some (.cells #[.int .i64 6,.int .i64 (M:Int),.int .i64 (H:Int),.int .i64 g,.int .i64 i,.int .i64 n,.int .i64 v] 118 (0,0))):=zaa hq1.out
 have ha2:Hid ((w1.drewN nq).heap[w.heap.size+1]?=some (.cells #[.int .i64 0,.int .i64 0] 114 (0,0))):=zaa ha1.out
 have hz2:Hid (w.heap.size+1+1≤(w1.drewN nq).heap.size):=zaa hz1.out
 replace g5:(w1.drewN nq).cell? ⟨B,5,none⟩=_:=g5
 replace c0:(w1.drewN nq).cell? ⟨gm,M,none⟩=_:=c0
 replace c1:(w1.drewN nq).cell? ⟨gr,H,none⟩=_:=c1
 replace fr:(w1.drewN nq).frozen? ⟨gr,H,none⟩=_:=fr
 replace a0:(w1.drewN nq).cell? ⟨w.heap.size+1,0,none⟩=_:=a0
 replace a1:(w1.drewN nq).cell? ⟨w.heap.size+1,1,none⟩=_:=a1
 replace z0:(w1.drewN nq).frozen? ⟨w.heap.size+1,0,none⟩=_:=z0
 replace z1:(w1.drewN nq).frozen? ⟨w.heap.size+1,1,none⟩=_:=z1
 replace q0:(w1.drewN nq).cell? ⟨w.heap.size,0,none⟩=_:=q0
 replace q1:(w1.drewN nq).cell? ⟨w.heap.size,1,none⟩=_:=q1
 replace q2:(w1.drewN nq).cell? ⟨w.heap.size,2,none⟩=_:=q2
 replace q3:(w1.drewN nq).cell? ⟨w.heap.size,3,none⟩=_:=q3
 replace q4:(w1.drewN nq).cell? ⟨w.heap.size,4,none⟩=_:=q4
 replace q5:(w1.drewN nq).cell? ⟨w.heap.size,5,none⟩=_:=q5
 replace q6:(w1.drewN nq).cell? ⟨w.heap.size,6,none⟩=_:=q6
 generalize w1.drewN nq=w2 at *
 clear hv1 hB1 hT1 hq1 ha1 hz1
 have vr:=hv2.out.root M H r _ 0 hr'.out hmv.out rfl
 have hvE:=zaa (show VarW _ base B S (M8 D (M:Int) (H:Int) 0) from by rw [zfb hr'.out];exact vr.1)
 have hBE:=zaa (hB2.out.trans vr.2)
 have hTE:=zaa (hT2.out.own_set hrn.out H (.int .i64 0))
 have y:=zaa (hk.out _ 0 0 (.inr (.inl ⟨rfl,rfl,rfl,rfl⟩)))
 have hans:=zaa (show w.heap.size+1 ∉ B :: blks S.all from hnb.out _ (by omega))
 generalize r[H]?.getD 0=old at *
 clear vr
 go_wp2_with fail
 refine bodyPost_ret (v:=.agg #[.int .i64 0,.int .i64 0]) (by simp [results,Tryz.results114,go_sem,a0,a1,z0,z1]) rfl ?_
 have hch:Chg [w.heap.size+1] (w2.setCell ⟨gr,H,none⟩ (.int .i64 0)) _:=((Chg.refl _ _).put (b:=w.heap.size+1) (by simp) 0 (.int .i64 0)).put (b:=w.heap.size+1) (by simp) 1 (.int .i64 0)
 exact Q9 y.out hvE.out hTE.out hBE.out (by have:=hle.out;omega) (by omega) hans.out hch
theorem sdo_7 (base B:Nat) (S:Y2) (D:WD) (m h g i n v:Int) (hG:U1 D) (hR:F0 D) (w:World) (hv:VarW w base B S D) :
  Calls Tryz.prog 114 #[.pointer (some ⟨B,0,none⟩),OpD.val ⟨7,m,h,g,i,n,v⟩] w fun e w'=>zih D ⟨7,m,h,g,i,n,v⟩ base B S w e w'∧Below base w w':=by
 have hG':=zaa hG
 have hR':=zaa hR
 have hle:=zaa (Nat.le_of_lt (Nat.lt_of_le_of_lt hv.le hv.lt))
 have bb:=Z4 (Z5 w (.cells #[.int .i64 7,.int .i64 m,.int .i64 h,.int .i64 g,.int .i64 i,.int .i64 n,.int .i64 v] 118)) (Z5 (w.alloc (.cells #[.int .i64 7,.int .i64 m,.int .i64 h,.int .i64 g,.int .i64 i,.int .i64 n,.int .i64 v] 118)) (.cells #[.int .i64 0,.int .i64 0] 114))
 have bx:=Z6 (Z5 (w.alloc (.cells #[.int .i64 7,.int .i64 m,.int .i64 h,.int .i64 g,.int .i64 i,.int .i64 n,.int .i64 v] 118)) (.cells #[.int .i64 0,.int .i64 0] 114)) (Y6 w (.cells #[.int .i64 7,.int .i64 m,.int .i64 h,.int .i64 g,.int .i64 i,.int .i64 n,.int .i64 v] 118))
 have ba:=Y6 (w.alloc (.cells #[.int .i64 7,.int .i64 m,.int .i64 h,.int .i64 g,.int .i64 i,.int .i64 n,.int .i64 v] 118)) (.cells #[.int .i64 0,.int .i64 0] 114)
 rw [World.size_alloc] at ba
 have hBb:=zaa (bb.mono hle.out)
 have hTb:=zaa (T8.of_below B S bb)
 have hv0:=zaa (hv.below bb)
 have hq:=zaa bx
 have ha:=zaa ba
 have hnb:=zaa (show ∀ q,w.heap.size≤q→q ∉ B :: blks S.all from fun q hq hm=>by
  rcases List.mem_cons.1 hm with e | hm
  ·have:=hv.lt
   omega
  ·have:=(hv.own.lt _ hm).2
   omega)
 have hz0:=zaa (show ((w.alloc (.cells #[.int .i64 7,.int .i64 m,.int .i64 h,.int .i64 g,.int .i64 i,.int .i64 n,.int .i64 v] 118)).alloc (.cells #[.int .i64 0,.int .i64 0] 114)).heap.size=w.heap.size+1+1 by simp)
 obtain ⟨cd,hcd⟩:=X0.total D ⟨7,m,h,g,i,n,v⟩
 have hcd':=zaa hcd
 obtain ⟨am,cm,hvm⟩:=Y4 hv0.out.own.muts
 have hvm':=zaa hvm
 have hmr:=hv0.out.rd.parts.2.2.2.1
 have hfirst:=zaa (fun (w':World) (hb:Below ((w.alloc (.cells #[.int .i64 7,.int .i64 m,.int .i64 h,.int .i64 g,.int .i64 i,.int .i64 n,.int .i64 v] 118)).alloc (.cells #[.int .i64 0,.int .i64 0] 114)).heap.size ((w.alloc (.cells #[.int .i64 7,.int .i64 m,.int .i64 h,.int .i64 g,.int .i64 i,.int .i64 n,.int .i64 v] 118)).alloc (.cells #[.int .i64 0,.int .i64 0] 114)) w')=>(J9 ⟨7,m,h,g,i,n,v⟩ D S.vm w' ⟨by show (1:Int)≤7;omega,by show (7:Int)≤9;omega⟩ (hmr.below hb) hG'.out.form.roots).mono fun e w'' ⟨⟨c,h1,h2⟩,h3⟩=>(⟨by rw [h1,hcd'.out.unique h2],h3⟩:e=Ending.returned (.int .i64 cd)∧Below w'.heap.size w' w''))
 rw [hvm] at hfirst
 have g5:=hv0.out.cell 5 S.vm rfl
 rw [hvm] at g5
 have X5:=Ext.cell g5
 have Q0:=Ext.cell (Z0 bx 0 (.int .i64 7) rfl)
 have Q1:=Ext.cell (Z0 bx 1 (.int .i64 m) rfl)
 have Q2:=Ext.cell (Z0 bx 2 (.int .i64 h) rfl)
 have Q3:=Ext.cell (Z0 bx 3 (.int .i64 g) rfl)
 have Q4:=Ext.cell (Z0 bx 4 (.int .i64 i) rfl)
 have Q5:=Ext.cell (Z0 bx 5 (.int .i64 n) rfl)
 have Q6:=Ext.cell (Z0 bx 6 (.int .i64 v) rfl)
 have q0:=Z0 bx 0 (.int .i64 7) rfl
 have hcd0:=zaa hcd
 unfold OpD.val OpD.cells at *
 clear hG hR hv bb bx ba hcd hvm hmr g5
 go_enter Tryz.func114,Tryz.ntmps114
 go_wp2_with fail
 generalize (w.alloc (.cells #[.int .i64 7,.int .i64 m,.int .i64 h,.int .i64 g,.int .i64 i,.int .i64 n,.int .i64 v] 118)).alloc (.cells #[.int .i64 0,.int .i64 0] 114)=W at *
 clear q0
 refine Y5 (Below.refl _ _) (by kernel_rfl) (by kernel_rfl) ?_
 repeat (go_big_quiet_step ((go_at_call 149;exact Ext.call (hfirst.out _ (Ext.below _)))))
 refine wpQuiet_nil ?_
 intro _ hw'
 obtain ⟨x9,hw''⟩:=hw'
 subst hw''
 have hv1:=zaa (hv0.out.below x9.below)
 have hB1:=zaa (hBb.out.trans (x9.below.mono (by have:=hz0.out;have:=hle.out;omega)))
 have hT1:=zaa (hTb.out.below x9.below)
 have hq1:Hid (x9.val.heap[w.heap.size]?=some (.cells #[.int .i64 7,.int .i64 m,.int .i64 h,.int .i64 g,.int .i64 i,.int .i64 n,.int .i64 v] 118 (0,0))):=zaa (Z6 x9.below hq.out)
 have ha1:Hid (x9.val.heap[w.heap.size+1]?=some (.cells #[.int .i64 0,.int .i64 0] 114 (0,0))):=zaa (Z6 x9.below ha.out)
 have hz1:=zaa (show w.heap.size+1+1≤x9.val.heap.size from by have:=x9.below.size;have:=hz0.out;omega)
 generalize x9.val=w1 at *
 clear X5 Q0 Q1 Q2 Q3 Q4 Q5 Q6 hfirst hv0 hBb hTb hq ha hz0
 have a0:=Z0 ha1.out 0 (.int .i64 0) rfl
 have a1:=Z0 ha1.out 1 (.int .i64 0) rfl
 have z0:=Z3 ha1.out 0
 have z1:=Z3 ha1.out 1
 by_cases hc:cd=0
 case neg =>
  have d1:(cd != 0)=true:=bne_iff_ne.2 hc
  have y:=zaa (show DoIs D ⟨7,m,h,g,i,n,v⟩ D cd 0 from .inr (.inl ⟨⟨by show (1:Int)≤7;omega,by show (7:Int)≤9;omega⟩,hcd'.out,hc,rfl,rfl⟩))
  have hans:=zaa (show w.heap.size+1 ∉ B :: blks S.all from hnb.out _ (by omega))
  clear hc hcd' hcd0
  go_wp2_with fail
  refine bodyPost_ret (v:=.agg #[.int .i64 cd,.int .i64 0]) (by simp [results,Tryz.results114,go_sem,a0,a1,z0,z1]) rfl ?_
  have hch:Chg [w.heap.size+1] w1 _:=((Chg.refl _ _).put (b:=w.heap.size+1) (by simp) 0 (.int .i64 cd)).put (b:=w.heap.size+1) (by simp) 1 (.int .i64 0)
  exact Q9 y.out hv1.out hT1.out hB1.out (by have:=hle.out;omega) (by omega) hans.out hch
 have d1:(cd != 0)=false:=by rw [hc];rfl
 rw [hc] at hcd'
 obtain ⟨hmo,hug,huo,hs1⟩:=hcd'.out.zero
 have hmo':=zaa hmo
 have hug':=zaa hug
 have huo':=zaa huo
 have hs1':=zaa hs1
 have hk:=zaa (show ∀ E c x,zlk D ⟨7,m,h,g,i,n,v⟩ E c x→DoIs D ⟨7,m,h,g,i,n,v⟩ E c x from fun E c x h=>.inr (.inr ⟨⟨by show (1:Int)≤7;omega,by show (7:Int)≤9;omega⟩,hcd'.out,h⟩))
 obtain ⟨M,rfl⟩:=Int.eq_ofNat_of_zero_le (show 0≤m from hmo.1)
 obtain ⟨H,rfl⟩:=Int.eq_ofNat_of_zero_le (show 0≤h from hmo.2.2.1)
 have hML:(M:Int)<(D.muts.length:Int):=hmo.2.1
 obtain ⟨r,hr⟩:∃ r,D.muts[M]?=some r:=⟨_,List.getElem?_eq_getElem (by omega)⟩
 have hr6:=hG'.out.form.roots M r hr
 have hH6:H<r.length:=by have hx:(H:Int)<6:=hmo.2.2.2;omega
 have hHL:(H:Int)<(r.length:Int):=by omega
 have hroot:=zaa (show V4 D (M:Int) (H:Int)=r[H]?.getD 0 by unfold V4;rw [Int.toNat_natCast,Int.toNat_natCast,hr];rfl)
 have hrx:=zaa (show ∀ x:Nat,V4 D (M:Int) (x:Int)=r[x]?.getD 0 from fun x=>by unfold V4;rw [Int.toNat_natCast,Int.toNat_natCast,hr];rfl)
 obtain ⟨gm,cm',gr,cr,R⟩:=hv1.out.rootAt hr hH6
 obtain ⟨rfl,rfl⟩:am=some ⟨gm,0,none⟩∧cm=cm':=by have:=hvm'.out.symm.trans R.vm;simpa using this
 have g5:=hv1.out.cell 5 S.vm rfl
 rw [R.vm] at g5
 have c0:=R.xm
 have c1:=R.xr
 have fr:=R.frz
 have hmv:=zaa R.mv
 have hrn:=zaa (show gr ∈ blks S.all from zie R.mv)
 have hr':=zaa hr
 have hmm:=zaa (show D.muts.length≤3 by have:=hG'.out.form.geo.2.2.2.2.2.2;omega)
 have hH6':=zaa hH6
 have q0:=Z0 hq1.out 0 (.int .i64 7) rfl
 have q1:=Z0 hq1.out 1 (.int .i64 (M:Int)) rfl
 have q2:=Z0 hq1.out 2 (.int .i64 (H:Int)) rfl
 have q3:=Z0 hq1.out 3 (.int .i64 g) rfl
 have q4:=Z0 hq1.out 4 (.int .i64 i) rfl
 have q5:=Z0 hq1.out 5 (.int .i64 n) rfl
 have q6:=Z0 hq1.out 6 (.int .i64 v) rfl
 have hgq:=zaa (show ¬ gr=w.heap.size∧¬ gr=w.heap.size+1 from ⟨fun e=>hnb.out _ (Nat.le_refl _) (by rw [← e];exact List.mem_cons_of_mem _ hrn.out),fun e=>hnb.out _ (by omega:w.heap.size≤w.heap.size+1) (by rw [← e];exact List.mem_cons_of_mem _ hrn.out)⟩)
 have hg1:=hgq.out.1
 have hg2:=hgq.out.2
 have hg3:¬ w.heap.size=gr:=fun e=>hg1 e.symm
 have hg4:¬ w.heap.size+1=gr:=fun e=>hg2 e.symm
 clear hmo hug huo hs1 hc hr hr6 hH6 R hcd0
 go_wp2_with fail
 go_quiet (fail)
 have hv2:=zaa (hv1.out.drewN nq)
 have hB2:=zaa (below_drewN hB1.out nq)
 have hT2:=zaa (hT1.out.below (below_drewN (Below.refl _ _) nq))
 have hq2:Hid ((w1.drewN nq).heap[w.heap.size]?=some (.cells #[.int .i64 7,.int .i64 (M:Int),.int .i64 (H:Int),.int .i64 g,.int .i64 i,.int .i64 n,.int .i64 v] 118 (0,0))):=zaa hq1.out
 have ha2:Hid ((w1.drewN nq).heap[w.heap.size+1]?=some (.cells #[.int .i64 0,.int .i64 0] 114 (0,0))):=zaa ha1.out
 have hz2:Hid (w.heap.size+1+1≤(w1.drewN nq).heap.size):=zaa hz1.out
 replace g5:(w1.drewN nq).cell? ⟨B,5,none⟩=_:=g5
 replace c0:(w1.drewN nq).cell? ⟨gm,M,none⟩=_:=c0
 replace c1:(w1.drewN nq).cell? ⟨gr,H,none⟩=_:=c1
 replace fr:(w1.drewN nq).frozen? ⟨gr,H,none⟩=_:=fr
 replace a0:(w1.drewN nq).cell? ⟨w.heap.size+1,0,none⟩=_:=a0
 replace a1:(w1.drewN nq).cell? ⟨w.heap.size+1,1,none⟩=_:=a1
 replace z0:(w1.drewN nq).frozen? ⟨w.heap.size+1,0,none⟩=_:=z0
 replace z1:(w1.drewN nq).frozen? ⟨w.heap.size+1,1,none⟩=_:=z1
 replace q0:(w1.drewN nq).cell? ⟨w.heap.size,0,none⟩=_:=q0
 replace q1:(w1.drewN nq).cell? ⟨w.heap.size,1,none⟩=_:=q1
 replace q2:(w1.drewN nq).cell? ⟨w.heap.size,2,none⟩=_:=q2
 replace q3:(w1.drewN nq).cell? ⟨w.heap.size,3,none⟩=_:=q3
 replace q4:(w1.drewN nq).cell? ⟨w.heap.size,4,none⟩=_:=q4
 replace q5:(w1.drewN nq).cell? ⟨w.heap.size,5,none⟩=_:=q5
 replace q6:(w1.drewN nq).cell? ⟨w.heap.size,6,none⟩=_:=q6
 generalize w1.drewN nq=w2 at *
 clear hv1 hB1 hT1 hq1 ha1 hz1
 have hgo:=hug'.out (show L3 7 by unfold L3;omega)
 obtain ⟨G,rfl⟩:=Int.eq_ofNat_of_zero_le (show 0≤g from hgo.1)
 have hG6:G<r.length:=by have hx:(G:Int)<6:=hgo.2;have:=hG'.out.form.roots M r hr'.out;omega
 have hGL:(G:Int)<(r.length:Int):=by omega
 have cG:=(Y7 (hv2.out.own.innerM M r _ hr'.out hmv.out) rfl G hG6).1
 have fG:=(Y7 (hv2.out.own.innerM M r _ hr'.out hmv.out) rfl G hG6).2
 have hrg:=zaa (hrx.out G)
 clear hgo hG6
 have hans:=zaa (show w.heap.size+1 ∉ B :: blks S.all from hnb.out _ (by omega))
 have y1:=zaa (show r[H]?.getD 0=r[G]?.getD 0→DoIs D ⟨7,(M:Int),(H:Int),(G:Int),i,n,v⟩ D 0 1 from fun e=>hk.out _ 0 1 (.inr (.inr (.inr (.inl ⟨rfl,rfl,rfl,.inl ⟨hroot.out.trans (e.trans hrg.out.symm),rfl⟩⟩)))))
 have y2:=zaa (show r[H]?.getD 0≠r[G]?.getD 0→DoIs D ⟨7,(M:Int),(H:Int),(G:Int),i,n,v⟩ D 0 0 from fun e=>hk.out _ 0 0 (.inr (.inr (.inr (.inl ⟨rfl,rfl,rfl,.inr ⟨fun h=>e (hroot.out.symm.trans (h.trans hrg.out)),rfl⟩⟩)))))
 generalize r[H]?.getD 0=x at *
 generalize r[G]?.getD 0=u at *
 by_cases c:x=u
 ·have d:(x == u)=true:=beq_iff_eq.2 c
  have y:=zaa (y1.out c)
  clear c y1 y2
  go_wp2_with fail
  go_quiet (fail)
  go_wp2_with fail
  refine bodyPost_ret (v:=.agg #[.int .i64 0,.int .i64 1]) (by simp [results,Tryz.results114,go_sem,a0,a1,z0,z1]) rfl ?_
  have hch:Chg [w.heap.size+1] (w2.drewN nq) _:=((Chg.refl _ _).put (b:=w.heap.size+1) (by simp) 0 (.int .i64 0)).put (b:=w.heap.size+1) (by simp) 1 (.int .i64 1)
  exact Q9 y.out (hv2.out.drewN nq) (hT2.out.below (below_drewN (Below.refl _ _) nq)) (below_drewN hB2.out nq) (by have:=hle.out;omega) (by omega) hans.out hch
 ·have d:(x == u)=false:=beq_eq_false_iff_ne.2 c
  have y:=zaa (y2.out c)
  clear c y1 y2
  go_wp2_with fail
  go_quiet (fail)
  go_wp2_with fail
  refine bodyPost_ret (v:=.agg #[.int .i64 0,.int .i64 0]) (by simp [results,Tryz.results114,go_sem,a0,a1,z0,z1]) rfl ?_
  have hch:Chg [w.heap.size+1] (w2.drewN nq) _:=((Chg.refl _ _).put (b:=w.heap.size+1) (by simp) 0 (.int .i64 0)).put (b:=w.heap.size+1) (by simp) 1 (.int .i64 0)
  exact Q9 y.out (hv2.out.drewN nq) (hT2.out.below (below_drewN (Below.refl _ _) nq)) (below_drewN hB2.out nq) (by have:=hle.out;omega) (by omega) hans.out hch
theorem sdo_8 (base B:Nat) (S:Y2) (D:WD) (m h g i n v:Int) (hG:U1 D) (hR:F0 D) (w:World) (hv:VarW w base B S D) :
  Calls Tryz.prog 114 #[.pointer (some ⟨B,0,none⟩),OpD.val ⟨8,m,h,g,i,n,v⟩] w fun e w'=>zih D ⟨8,m,h,g,i,n,v⟩ base B S w e w'∧Below base w w':=by
 have hG':=zaa hG
 have hR':=zaa hR
 have hle:=zaa (Nat.le_of_lt (Nat.lt_of_le_of_lt hv.le hv.lt))
 have bb:=Z4 (Z5 w (.cells #[.int .i64 8,.int .i64 m,.int .i64 h,.int .i64 g,.int .i64 i,.int .i64 n,.int .i64 v] 118)) (Z5 (w.alloc (.cells #[.int .i64 8,.int .i64 m,.int .i64 h,.int .i64 g,.int .i64 i,.int .i64 n,.int .i64 v] 118)) (.cells #[.int .i64 0,.int .i64 0] 114))
 have bx:=Z6 (Z5 (w.alloc (.cells #[.int .i64 8,.int .i64 m,.int .i64 h,.int .i64 g,.int .i64 i,.int .i64 n,.int .i64 v] 118)) (.cells #[.int .i64 0,.int .i64 0] 114)) (Y6 w (.cells #[.int .i64 8,.int .i64 m,.int .i64 h,.int .i64 g,.int .i64 i,.int .i64 n,.int .i64 v] 118))
 have ba:=Y6 (w.alloc (.cells #[.int .i64 8,.int .i64 m,.int .i64 h,.int .i64 g,.int .i64 i,.int .i64 n,.int .i64 v] 118)) (.cells #[.int .i64 0,.int .i64 0] 114)
 rw [World.size_alloc] at ba
 have hBb:=zaa (bb.mono hle.out)
 have hTb:=zaa (T8.of_below B S bb)
 have hv0:=zaa (hv.below bb)
 have hq:=zaa bx
 have ha:=zaa ba
 have hnb:=zaa (show ∀ q,w.heap.size≤q→q ∉ B :: blks S.all from fun q hq hm=>by
  rcases List.mem_cons.1 hm with e | hm
  ·have:=hv.lt
   omega
  ·have:=(hv.own.lt _ hm).2
   omega)
 have hz0:=zaa (show ((w.alloc (.cells #[.int .i64 8,.int .i64 m,.int .i64 h,.int .i64 g,.int .i64 i,.int .i64 n,.int .i64 v] 118)).alloc (.cells #[.int .i64 0,.int .i64 0] 114)).heap.size=w.heap.size+1+1 by simp)
 obtain ⟨cd,hcd⟩:=X0.total D ⟨8,m,h,g,i,n,v⟩
 have hcd':=zaa hcd
 obtain ⟨am,cm,hvm⟩:=Y4 hv0.out.own.muts
 have hvm':=zaa hvm
 have hmr:=hv0.out.rd.parts.2.2.2.1
 have hfirst:=zaa (fun (w':World) (hb:Below ((w.alloc (.cells #[.int .i64 8,.int .i64 m,.int .i64 h,.int .i64 g,.int .i64 i,.int .i64 n,.int .i64 v] 118)).alloc (.cells #[.int .i64 0,.int .i64 0] 114)).heap.size ((w.alloc (.cells #[.int .i64 8,.int .i64 m,.int .i64 h,.int .i64 g,.int .i64 i,.int .i64 n,.int .i64 v] 118)).alloc (.cells #[.int .i64 0,.int .i64 0] 114)) w')=>(J9 ⟨8,m,h,g,i,n,v⟩ D S.vm w' ⟨by show (1:Int)≤8;omega,by show (8:Int)≤9;omega⟩ (hmr.below hb) hG'.out.form.roots).mono fun e w'' ⟨⟨c,h1,h2⟩,h3⟩=>(⟨by rw [h1,hcd'.out.unique h2],h3⟩:e=Ending.returned (.int .i64 cd)∧Below w'.heap.size w' w''))
 rw [hvm] at hfirst
 have g5:=hv0.out.cell 5 S.vm rfl
 rw [hvm] at g5
 have X5:=Ext.cell g5
 have Q0:=Ext.cell (Z0 bx 0 (.int .i64 8) rfl)
 have Q1:=Ext.cell (Z0 bx 1 (.int .i64 m) rfl)
 have Q2:=Ext.cell (Z0 bx 2 (.int .i64 h) rfl)
 have Q3:=Ext.cell (Z0 bx 3 (.int .i64 g) rfl)
 have Q4:=Ext.cell (Z0 bx 4 (.int .i64 i) rfl)
 have Q5:=Ext.cell (Z0 bx 5 (.int .i64 n) rfl)
 have Q6:=Ext.cell (Z0 bx 6 (.int .i64 v) rfl)
 have q0:=Z0 bx 0 (.int .i64 8) rfl
 have hcd0:=zaa hcd
 unfold OpD.val OpD.cells at *
 clear hG hR hv bb bx ba hcd hvm hmr g5
 go_enter Tryz.func114,Tryz.ntmps114
 go_wp2_with fail
 generalize (w.alloc (.cells #[.int .i64 8,.int .i64 m,.int .i64 h,.int .i64 g,.int .i64 i,.int .i64 n,.int .i64 v] 118)).alloc (.cells #[.int .i64 0,.int .i64 0] 114)=W at *
 clear q0
 refine Y5 (Below.refl _ _) (by kernel_rfl) (by kernel_rfl) ?_
 repeat (go_big_quiet_step ((go_at_call 149;exact Ext.call (hfirst.out _ (Ext.below _)))))
 refine wpQuiet_nil ?_
 intro _ hw'
 obtain ⟨x9,hw''⟩:=hw'
 subst hw''
 have hv1:=zaa (hv0.out.below x9.below)
 have hB1:=zaa (hBb.out.trans (x9.below.mono (by have:=hz0.out;have:=hle.out;omega)))
 have hT1:=zaa (hTb.out.below x9.below)
 have hq1:Hid (x9.val.heap[w.heap.size]?=some (.cells #[.int .i64 8,.int .i64 m,.int .i64 h,.int .i64 g,.int .i64 i,.int .i64 n,.int .i64 v] 118 (0,0))):=zaa (Z6 x9.below hq.out)
 have ha1:Hid (x9.val.heap[w.heap.size+1]?=some (.cells #[.int .i64 0,.int .i64 0] 114 (0,0))):=zaa (Z6 x9.below ha.out)
 have hz1:=zaa (show w.heap.size+1+1≤x9.val.heap.size from by have:=x9.below.size;have:=hz0.out;omega)
 generalize x9.val=w1 at *
 clear X5 Q0 Q1 Q2 Q3 Q4 Q5 Q6 hfirst hv0 hBb hTb hq ha hz0
 have a0:=Z0 ha1.out 0 (.int .i64 0) rfl
 have a1:=Z0 ha1.out 1 (.int .i64 0) rfl
 have z0:=Z3 ha1.out 0
 have z1:=Z3 ha1.out 1
 by_cases hc:cd=0
 case neg =>
  have d1:(cd != 0)=true:=bne_iff_ne.2 hc
  have y:=zaa (show DoIs D ⟨8,m,h,g,i,n,v⟩ D cd 0 from .inr (.inl ⟨⟨by show (1:Int)≤8;omega,by show (8:Int)≤9;omega⟩,hcd'.out,hc,rfl,rfl⟩))
  have hans:=zaa (show w.heap.size+1 ∉ B :: blks S.all from hnb.out _ (by omega))
  clear hc hcd' hcd0
  go_wp2_with fail
  refine bodyPost_ret (v:=.agg #[.int .i64 cd,.int .i64 0]) (by simp [results,Tryz.results114,go_sem,a0,a1,z0,z1]) rfl ?_
  have hch:Chg [w.heap.size+1] w1 _:=((Chg.refl _ _).put (b:=w.heap.size+1) (by simp) 0 (.int .i64 cd)).put (b:=w.heap.size+1) (by simp) 1 (.int .i64 0)
  exact Q9 y.out hv1.out hT1.out hB1.out (by have:=hle.out;omega) (by omega) hans.out hch
 have d1:(cd != 0)=false:=by rw [hc];rfl
 rw [hc] at hcd'
 obtain ⟨hmo,hug,huo,hs1⟩:=hcd'.out.zero
 have hmo':=zaa hmo
 have hug':=zaa hug
 have huo':=zaa huo
 have hs1':=zaa hs1
 have hk:=zaa (show ∀ E c x,zlk D ⟨8,m,h,g,i,n,v⟩ E c x→DoIs D ⟨8,m,h,g,i,n,v⟩ E c x from fun E c x h=>.inr (.inr ⟨⟨by show (1:Int)≤8;omega,by show (8:Int)≤9;omega⟩,hcd'.out,h⟩))
 obtain ⟨M,rfl⟩:=Int.eq_ofNat_of_zero_le (show 0≤m from hmo.1)
 obtain ⟨H,rfl⟩:=Int.eq_ofNat_of_zero_le (show 0≤h from hmo.2.2.1)
 have hML:(M:Int)<(D.muts.length:Int):=hmo.2.1
 obtain ⟨r,hr⟩:∃ r,D.muts[M]?=some r:=⟨_,List.getElem?_eq_getElem (by omega)⟩
 have hr6:=hG'.out.form.roots M r hr
 have hH6:H<r.length:=by have hx:(H:Int)<6:=hmo.2.2.2;omega
 have hHL:(H:Int)<(r.length:Int):=by omega
 have hroot:=zaa (show V4 D (M:Int) (H:Int)=r[H]?.getD 0 by unfold V4;rw [Int.toNat_natCast,Int.toNat_natCast,hr];rfl)
 have hrx:=zaa (show ∀ x:Nat,V4 D (M:Int) (x:Int)=r[x]?.getD 0 from fun x=>by unfold V4;rw [Int.toNat_natCast,Int.toNat_natCast,hr];rfl)
 obtain ⟨gm,cm',gr,cr,R⟩:=hv1.out.rootAt hr hH6
 obtain ⟨rfl,rfl⟩:am=some ⟨gm,0,none⟩∧cm=cm':=by have:=hvm'.out.symm.trans R.vm;simpa using this
 have g5:=hv1.out.cell 5 S.vm rfl
 rw [R.vm] at g5
 have c0:=R.xm
 have c1:=R.xr
 have fr:=R.frz
 have hmv:=zaa R.mv
 have hrn:=zaa (show gr ∈ blks S.all from zie R.mv)
 have hr':=zaa hr
 have hmm:=zaa (show D.muts.length≤3 by have:=hG'.out.form.geo.2.2.2.2.2.2;omega)
 have hH6':=zaa hH6
 have q0:=Z0 hq1.out 0 (.int .i64 8) rfl
 have q1:=Z0 hq1.out 1 (.int .i64 (M:Int)) rfl
 have q2:=Z0 hq1.out 2 (.int .i64 (H:Int)) rfl
 have q3:=Z0 hq1.out 3 (.int .i64 g) rfl
 have q4:=Z0 hq1.out 4 (.int .i64 i) rfl
 have q5:=Z0 hq1.out 5 (.int .i64 n) rfl
 have q6:=Z0 hq1.out 6 (.int .i64 v) rfl
 have hgq:=zaa (show ¬ gr=w.heap.size∧¬ gr=w.heap.size+1 from ⟨fun e=>hnb.out _ (Nat.le_refl _) (by rw [← e];exact List.mem_cons_of_mem _ hrn.out),fun e=>hnb.out _ (by omega:w.heap.size≤w.heap.size+1) (by rw [← e];exact List.mem_cons_of_mem _ hrn.out)⟩)
 have hg1:=hgq.out.1
 have hg2:=hgq.out.2
 have hg3:¬ w.heap.size=gr:=fun e=>hg1 e.symm
 have hg4:¬ w.heap.size+1=gr:=fun e=>hg2 e.symm
 clear hmo hug huo hs1 hc hr hr6 hH6 R hcd0
 go_wp2_with fail
 go_quiet (fail)
 have hv2:=zaa (hv1.out.drewN nq)
 have hB2:=zaa (below_drewN hB1.out nq)
 have hT2:=zaa (hT1.out.below (below_drewN (Below.refl _ _) nq))
 have hq2:Hid ((w1.drewN nq).heap[w.heap.size]?=some (.cells #[.int .i64 8,.int .i64 (M:Int),.int .i64 (H:Int),.int .i64 g,.int .i64 i,.int .i64 n,.int .i64 v] 118 (0,0))):=zaa hq1.out
 have ha2:Hid ((w1.drewN nq).heap[w.heap.size+1]?=some (.cells #[.int .i64 0,.int .i64 0] 114 (0,0))):=zaa ha1.out
 have hz2:Hid (w.heap.size+1+1≤(w1.drewN nq).heap.size):=zaa hz1.out
 replace g5:(w1.drewN nq).cell? ⟨B,5,none⟩=_:=g5
 replace c0:(w1.drewN nq).cell? ⟨gm,M,none⟩=_:=c0
 replace c1:(w1.drewN nq).cell? ⟨gr,H,none⟩=_:=c1
 replace fr:(w1.drewN nq).frozen? ⟨gr,H,none⟩=_:=fr
 replace a0:(w1.drewN nq).cell? ⟨w.heap.size+1,0,none⟩=_:=a0
 replace a1:(w1.drewN nq).cell? ⟨w.heap.size+1,1,none⟩=_:=a1
 replace z0:(w1.drewN nq).frozen? ⟨w.heap.size+1,0,none⟩=_:=z0
 replace z1:(w1.drewN nq).frozen? ⟨w.heap.size+1,1,none⟩=_:=z1
 replace q0:(w1.drewN nq).cell? ⟨w.heap.size,0,none⟩=_:=q0
 replace q1:(w1.drewN nq).cell? ⟨w.heap.size,1,none⟩=_:=q1
 replace q2:(w1.drewN nq).cell? ⟨w.heap.size,2,none⟩=_:=q2
 replace q3:(w1.drewN nq).cell? ⟨w.heap.size,3,none⟩=_:=q3
 replace q4:(w1.drewN nq).cell? ⟨w.heap.size,4,none⟩=_:=q4
 replace q5:(w1.drewN nq).cell? ⟨w.heap.size,5,none⟩=_:=q5
 replace q6:(w1.drewN nq).cell? ⟨w.heap.size,6,none⟩=_:=q6
 generalize w1.drewN nq=w2 at *
 clear hv1 hB1 hT1 hq1 ha1 hz1
 have hgo:=hug'.out (show L3 8 by unfold L3;omega)
 obtain ⟨G,rfl⟩:=Int.eq_ofNat_of_zero_le (show 0≤g from hgo.1)
 have hG6:G<r.length:=by have hx:(G:Int)<6:=hgo.2;have:=hG'.out.form.roots M r hr'.out;omega
 have hGL:(G:Int)<(r.length:Int):=by omega
 have cG:=(Y7 (hv2.out.own.innerM M r _ hr'.out hmv.out) rfl G hG6).1
 have fG:=(Y7 (hv2.out.own.innerM M r _ hr'.out hmv.out) rfl G hG6).2
 have hrg:=zaa (hrx.out G)
 clear hgo hG6
 have y:=zaa (hk.out _ 0 0 (.inr (.inr (.inl ⟨rfl,rfl,rfl,rfl⟩))))
 rw [show V4 D (OpD.m ⟨8,(M:Int),(H:Int),(G:Int),i,n,v⟩) (OpD.h ⟨8,(M:Int),(H:Int),(G:Int),i,n,v⟩)=r[H]?.getD 0 from hroot.out] at y
 have vr:=hv2.out.root M G r _ (r[H]?.getD 0) hr'.out hmv.out rfl
 have hvE:=zaa (show VarW _ base B S (M8 D (M:Int) (G:Int) (r[H]?.getD 0)) from by rw [zfb hr'.out];exact vr.1)
 have hBE:=zaa (hB2.out.trans vr.2)
 have hTE:=zaa (hT2.out.own_set hrn.out G (.int .i64 (r[H]?.getD 0)))
 have hans:=zaa (show w.heap.size+1 ∉ B :: blks S.all from hnb.out _ (by omega))
 generalize r[H]?.getD 0=x at *
 generalize r[G]?.getD 0=old at *
 clear vr
 go_wp2_with fail
 go_region
 all_goals go_wp2_with fail
 refine bodyPost_ret (v:=.agg #[.int .i64 0,.int .i64 0]) (by simp [results,Tryz.results114,go_sem,a0,a1,z0,z1]) rfl ?_
 have hch:Chg [w.heap.size+1] (w2.setCell ⟨gr,G,none⟩ (.int .i64 x)).drew _:=((Chg.refl _ _).put (b:=w.heap.size+1) (by simp) 0 (.int .i64 0)).put (b:=w.heap.size+1) (by simp) 1 (.int .i64 0)
 exact Q9 y.out hvE.out.drew (hTE.out.below (below_drewN (Below.refl _ _) 1)) (below_drewN hBE.out 1) (by have:=hle.out;omega) (by omega) hans.out hch
theorem sdo_9 (base B:Nat) (S:Y2) (D:WD) (m h g i n v:Int) (hG:U1 D) (hR:F0 D) (w:World) (hv:VarW w base B S D) :
  Calls Tryz.prog 114 #[.pointer (some ⟨B,0,none⟩),OpD.val ⟨9,m,h,g,i,n,v⟩] w fun e w'=>zih D ⟨9,m,h,g,i,n,v⟩ base B S w e w'∧Below base w w':=by
 have hG':=zaa hG
 have hR':=zaa hR
 have hle:=zaa (Nat.le_of_lt (Nat.lt_of_le_of_lt hv.le hv.lt))
 have bb:=Z4 (Z5 w (.cells #[.int .i64 9,.int .i64 m,.int .i64 h,.int .i64 g,.int .i64 i,.int .i64 n,.int .i64 v] 118)) (Z5 (w.alloc (.cells #[.int .i64 9,.int .i64 m,.int .i64 h,.int .i64 g,.int .i64 i,.int .i64 n,.int .i64 v] 118)) (.cells #[.int .i64 0,.int .i64 0] 114))
 have bx:=Z6 (Z5 (w.alloc (.cells #[.int .i64 9,.int .i64 m,.int .i64 h,.int .i64 g,.int .i64 i,.int .i64 n,.int .i64 v] 118)) (.cells #[.int .i64 0,.int .i64 0] 114)) (Y6 w (.cells #[.int .i64 9,.int .i64 m,.int .i64 h,.int .i64 g,.int .i64 i,.int .i64 n,.int .i64 v] 118))
 have ba:=Y6 (w.alloc (.cells #[.int .i64 9,.int .i64 m,.int .i64 h,.int .i64 g,.int .i64 i,.int .i64 n,.int .i64 v] 118)) (.cells #[.int .i64 0,.int .i64 0] 114)
 rw [World.size_alloc] at ba
 have hBb:=zaa (bb.mono hle.out)
 have hTb:=zaa (T8.of_below B S bb)
 have hv0:=zaa (hv.below bb)
 have hq:=zaa bx
 have ha:=zaa ba
 have hnb:=zaa (show ∀ q,w.heap.size≤q→q ∉ B :: blks S.all from fun q hq hm=>by
  rcases List.mem_cons.1 hm with e | hm
  ·have:=hv.lt
   omega
  ·have:=(hv.own.lt _ hm).2
   omega)
 have hz0:=zaa (show ((w.alloc (.cells #[.int .i64 9,.int .i64 m,.int .i64 h,.int .i64 g,.int .i64 i,.int .i64 n,.int .i64 v] 118)).alloc (.cells #[.int .i64 0,.int .i64 0] 114)).heap.size=w.heap.size+1+1 by simp)
 obtain ⟨cd,hcd⟩:=X0.total D ⟨9,m,h,g,i,n,v⟩
 have hcd':=zaa hcd
 obtain ⟨am,cm,hvm⟩:=Y4 hv0.out.own.muts
 have hvm':=zaa hvm
 have hmr:=hv0.out.rd.parts.2.2.2.1
 have hfirst:=zaa (fun (w':World) (hb:Below ((w.alloc (.cells #[.int .i64 9,.int .i64 m,.int .i64 h,.int .i64 g,.int .i64 i,.int .i64 n,.int .i64 v] 118)).alloc (.cells #[.int .i64 0,.int .i64 0] 114)).heap.size ((w.alloc (.cells #[.int .i64 9,.int .i64 m,.int .i64 h,.int .i64 g,.int .i64 i,.int .i64 n,.int .i64 v] 118)).alloc (.cells #[.int .i64 0,.int .i64 0] 114)) w')=>(J9 ⟨9,m,h,g,i,n,v⟩ D S.vm w' ⟨by show (1:Int)≤9;omega,by show (9:Int)≤9;omega⟩ (hmr.below hb) hG'.out.form.roots).mono fun e w'' ⟨⟨c,h1,h2⟩,h3⟩=>(⟨by rw [h1,hcd'.out.unique h2],h3⟩:e=Ending.returned (.int .i64 cd)∧Below w'.heap.size w' w''))
 rw [hvm] at hfirst
 have g5:=hv0.out.cell 5 S.vm rfl
 rw [hvm] at g5
 have X5:=Ext.cell g5
 have Q0:=Ext.cell (Z0 bx 0 (.int .i64 9) rfl)
 have Q1:=Ext.cell (Z0 bx 1 (.int .i64 m) rfl)
 have Q2:=Ext.cell (Z0 bx 2 (.int .i64 h) rfl)
 have Q3:=Ext.cell (Z0 bx 3 (.int .i64 g) rfl)
 have Q4:=Ext.cell (Z0 bx 4 (.int .i64 i) rfl)
 have Q5:=Ext.cell (Z0 bx 5 (.int .i64 n) rfl)
 have Q6:=Ext.cell (Z0 bx 6 (.int .i64 v) rfl)
 have q0:=Z0 bx 0 (.int .i64 9) rfl
 have hcd0:=zaa hcd
 unfold OpD.val OpD.cells at *
 clear hG hR hv bb bx ba hcd hvm hmr g5
 go_enter Tryz.func114,Tryz.ntmps114
 go_wp2_with fail
 generalize (w.alloc (.cells #[.int .i64 9,.int .i64 m,.int .i64 h,.int .i64 g,.int .i64 i,.int .i64 n,.int .i64 v] 118)).alloc (.cells #[.int .i64 0,.int .i64 0] 114)=W at *
 clear q0
 refine Y5 (Below.refl _ _) (by kernel_rfl) (by kernel_rfl) ?_
 repeat (go_big_quiet_step ((go_at_call 149;exact Ext.call (hfirst.out _ (Ext.below _)))))
 refine wpQuiet_nil ?_
 intro _ hw'
 obtain ⟨x9,hw''⟩:=hw'
 subst hw''
 have hv1:=zaa (hv0.out.below x9.below)
 have hB1:=zaa (hBb.out.trans (x9.below.mono (by have:=hz0.out;have:=hle.out;omega)))
 have hT1:=zaa (hTb.out.below x9.below)
 have hq1:Hid (x9.val.heap[w.heap.size]?=some (.cells #[.int .i64 9,.int .i64 m,.int .i64 h,.int .i64 g,.int .i64 i,.int .i64 n,.int .i64 v] 118 (0,0))):=zaa (Z6 x9.below hq.out)
 have ha1:Hid (x9.val.heap[w.heap.size+1]?=some (.cells #[.int .i64 0,.int .i64 0] 114 (0,0))):=zaa (Z6 x9.below ha.out)
 have hz1:=zaa (show w.heap.size+1+1≤x9.val.heap.size from by have:=x9.below.size;have:=hz0.out;omega)
 generalize x9.val=w1 at *
 clear X5 Q0 Q1 Q2 Q3 Q4 Q5 Q6 hfirst hv0 hBb hTb hq ha hz0
 have a0:=Z0 ha1.out 0 (.int .i64 0) rfl
 have a1:=Z0 ha1.out 1 (.int .i64 0) rfl
 have z0:=Z3 ha1.out 0
 have z1:=Z3 ha1.out 1
 by_cases hc:cd=0
 case neg =>
  have d1:(cd != 0)=true:=bne_iff_ne.2 hc
  have y:=zaa (show DoIs D ⟨9,m,h,g,i,n,v⟩ D cd 0 from .inr (.inl ⟨⟨by show (1:Int)≤9;omega,by show (9:Int)≤9;omega⟩,hcd'.out,hc,rfl,rfl⟩))
  have hans:=zaa (show w.heap.size+1 ∉ B :: blks S.all from hnb.out _ (by omega))
  clear hc hcd' hcd0
  go_wp2_with fail
  refine bodyPost_ret (v:=.agg #[.int .i64 cd,.int .i64 0]) (by simp [results,Tryz.results114,go_sem,a0,a1,z0,z1]) rfl ?_
  have hch:Chg [w.heap.size+1] w1 _:=((Chg.refl _ _).put (b:=w.heap.size+1) (by simp) 0 (.int .i64 cd)).put (b:=w.heap.size+1) (by simp) 1 (.int .i64 0)
  exact Q9 y.out hv1.out hT1.out hB1.out (by have:=hle.out;omega) (by omega) hans.out hch
 have d1:(cd != 0)=false:=by rw [hc];rfl
 rw [hc] at hcd'
 obtain ⟨hmo,hug,huo,hs1⟩:=hcd'.out.zero
 have hmo':=zaa hmo
 have hug':=zaa hug
 have huo':=zaa huo
 have hs1':=zaa hs1
 have hk:=zaa (show ∀ E c x,zlk D ⟨9,m,h,g,i,n,v⟩ E c x→DoIs D ⟨9,m,h,g,i,n,v⟩ E c x from fun E c x h=>.inr (.inr ⟨⟨by show (1:Int)≤9;omega,by show (9:Int)≤9;omega⟩,hcd'.out,h⟩))
 obtain ⟨M,rfl⟩:=Int.eq_ofNat_of_zero_le (show 0≤m from hmo.1)
 obtain ⟨H,rfl⟩:=Int.eq_ofNat_of_zero_le (show 0≤h from hmo.2.2.1)
 have hML:(M:Int)<(D.muts.length:Int):=hmo.2.1
 obtain ⟨r,hr⟩:∃ r,D.muts[M]?=some r:=⟨_,List.getElem?_eq_getElem (by omega)⟩
 have hr6:=hG'.out.form.roots M r hr
 have hH6:H<r.length:=by have hx:(H:Int)<6:=hmo.2.2.2;omega
 have hHL:(H:Int)<(r.length:Int):=by omega
 have hroot:=zaa (show V4 D (M:Int) (H:Int)=r[H]?.getD 0 by unfold V4;rw [Int.toNat_natCast,Int.toNat_natCast,hr];rfl)
 have hrx:=zaa (show ∀ x:Nat,V4 D (M:Int) (x:Int)=r[x]?.getD 0 from fun x=>by unfold V4;rw [Int.toNat_natCast,Int.toNat_natCast,hr];rfl)
 obtain ⟨gm,cm',gr,cr,R⟩:=hv1.out.rootAt hr hH6
 obtain ⟨rfl,rfl⟩:am=some ⟨gm,0,none⟩∧cm=cm':=by have:=hvm'.out.symm.trans R.vm;simpa using this
 have g5:=hv1.out.cell 5 S.vm rfl
 rw [R.vm] at g5
 have c0:=R.xm
 have c1:=R.xr
 have fr:=R.frz
 have hmv:=zaa R.mv
 have hrn:=zaa (show gr ∈ blks S.all from zie R.mv)
 have hr':=zaa hr
 have hmm:=zaa (show D.muts.length≤3 by have:=hG'.out.form.geo.2.2.2.2.2.2;omega)
 have hH6':=zaa hH6
 have q0:=Z0 hq1.out 0 (.int .i64 9) rfl
 have q1:=Z0 hq1.out 1 (.int .i64 (M:Int)) rfl
 have q2:=Z0 hq1.out 2 (.int .i64 (H:Int)) rfl
 have q3:=Z0 hq1.out 3 (.int .i64 g) rfl
 have q4:=Z0 hq1.out 4 (.int .i64 i) rfl
 have q5:=Z0 hq1.out 5 (.int .i64 n) rfl
 have q6:=Z0 hq1.out 6 (.int .i64 v) rfl
 have hgq:=zaa (show ¬ gr=w.heap.size∧¬ gr=w.heap.size+1 from ⟨fun e=>hnb.out _ (Nat.le_refl _) (by rw [← e];exact List.mem_cons_of_mem _ hrn.out),fun e=>hnb.out _ (by omega:w.heap.size≤w.heap.size+1) (by rw [← e];exact List.mem_cons_of_mem _ hrn.out)⟩)
 have hg1:=hgq.out.1
 have hg2:=hgq.out.2
 have hg3:¬ w.heap.size=gr:=fun e=>hg1 e.symm
 have hg4:¬ w.heap.size+1=gr:=fun e=>hg2 e.symm
 clear hmo hug huo hs1 hc hr hr6 hH6 R hcd0
 go_wp2_with fail
 go_quiet (fail)
 have hv2:=zaa (hv1.out.drewN nq)
 have hB2:=zaa (below_drewN hB1.out nq)
 have hT2:=zaa (hT1.out.below (below_drewN (Below.refl _ _) nq))
 have hq2:Hid ((w1.drewN nq).heap[w.heap.size]?=some (.cells #[.int .i64 9,.int .i64 (M:Int),.int .i64 (H:Int),.int .i64 g,.int .i64 i,.int .i64 n,.int .i64 v] 118 (0,0))):=zaa hq1.out
 have ha2:Hid ((w1.drewN nq).heap[w.heap.size+1]?=some (.cells #[.int .i64 0,.int .i64 0] 114 (0,0))):=zaa ha1.out
 have hz2:Hid (w.heap.size+1+1≤(w1.drewN nq).heap.size):=zaa hz1.out
 replace g5:(w1.drewN nq).cell? ⟨B,5,none⟩=_:=g5
 replace c0:(w1.drewN nq).cell? ⟨gm,M,none⟩=_:=c0
 replace c1:(w1.drewN nq).cell? ⟨gr,H,none⟩=_:=c1
 replace fr:(w1.drewN nq).frozen? ⟨gr,H,none⟩=_:=fr
 replace a0:(w1.drewN nq).cell? ⟨w.heap.size+1,0,none⟩=_:=a0
 replace a1:(w1.drewN nq).cell? ⟨w.heap.size+1,1,none⟩=_:=a1
 replace z0:(w1.drewN nq).frozen? ⟨w.heap.size+1,0,none⟩=_:=z0
 replace z1:(w1.drewN nq).frozen? ⟨w.heap.size+1,1,none⟩=_:=z1
 replace q0:(w1.drewN nq).cell? ⟨w.heap.size,0,none⟩=_:=q0
 replace q1:(w1.drewN nq).cell? ⟨w.heap.size,1,none⟩=_:=q1
 replace q2:(w1.drewN nq).cell? ⟨w.heap.size,2,none⟩=_:=q2
 replace q3:(w1.drewN nq).cell? ⟨w.heap.size,3,none⟩=_:=q3
 replace q4:(w1.drewN nq).cell? ⟨w.heap.size,4,none⟩=_:=q4
 replace q5:(w1.drewN nq).cell? ⟨w.heap.size,5,none⟩=_:=q5
 replace q6:(w1.drewN nq).cell? ⟨w.heap.size,6,none⟩=_:=q6
 generalize w1.drewN nq=w2 at *
 clear hv1 hB1 hT1 hq1 ha1 hz1
 obtain ⟨kk,j,s,ho,hks⟩:=hR'.out.at_ (m:=(M:Int)) (x:=(H:Int)) (huo'.out (show N2 9 by unfold N2;omega))
 have hobj:=zaa (show ∀ E c x,((¬ J8 9 i s j∧E=D∧c=4∧x=0)∨(J8 9 i s j∧OnIs D ⟨9,(M:Int),(H:Int),g,i,n,v⟩ s j (atW s (j:Int)+i).toNat E x∧c=0))→DoIs D ⟨9,(M:Int),(H:Int),g,i,n,v⟩ E c x from fun E c x h=>hk.out E c x (.inr (.inr (.inr (.inr ⟨by show N2 9;unfold N2;omega,kk,j,s,ho,hks,h⟩)))))
 rw [hroot.out] at ho
 obtain ⟨s',hks2,hin,p0,p1⟩:=N0 hG'.out.form ho
 rw [hks] at hks2
 obtain rfl:=Option.some.inj hks2
 have hfind:=zaa (zff B _ D hG'.out.form (r[H]?.getD 0) w2 hv2.out.rd hv2.out.boxW)
 have ho':=zaa ho
 have hks':=zaa hks
 have hin':=zaa hin
 have hsl:=(hG'.out.form.span kk s hks).slot j hin.j
 have hsl':=zaa hsl
 clear ho hks hks2 hin p0 p1 hsl
 generalize r[H]?.getD 0=x0 at *
 go_wp2_with fail
 refine hfind.out.mono ?_
 rintro e w3 ⟨⟨r1,r2,rfl,hqq⟩,b3⟩
 obtain ⟨rfl,rfl⟩:r1=(kk:Int)∧r2=(j:Int):=by
  rcases hqq with ⟨k',j',_,ho2,rfl,rfl⟩ | ⟨hn,_⟩
  ·obtain ⟨rfl,rfl⟩:=ho2.unique hG'.out.form ho'.out
   exact ⟨rfl,rfl⟩
  ·exact absurd ho'.out (hn hG'.out.form kk j)
 have hv3:=zaa (hv2.out.below b3)
 have hB3:=zaa (hB2.out.trans (b3.mono (by have:=hz2.out;have:=hle.out;omega)))
 have hT3:=zaa (hT2.out.below b3)
 have hq3:Hid (w3.heap[w.heap.size]?=some (.cells #[.int .i64 9,.int .i64 (M:Int),.int .i64 (H:Int),.int .i64 g,.int .i64 i,.int .i64 n,.int .i64 v] 118 (0,0))):=zaa (Z6 b3 hq2.out)
 have ha3:Hid (w3.heap[w.heap.size+1]?=some (.cells #[.int .i64 0,.int .i64 0] 114 (0,0))):=zaa (Z6 b3 ha2.out)
 have hz3:=zaa (show w.heap.size+1+1≤w3.heap.size from by have:=b3.size;have:=hz2.out;omega)
 clear hqq b3 hfind hv2 hB2 hT2 hq2 ha2 hz2 a0 a1 z0 z1 g5 c0 c1 fr q0 q1 q2 q3 q4 q5 q6
 have hkl0:=(List.getElem?_eq_some_iff.1 hks'.out).1
 have hkl1:(kk:Int)<(D.spans.length:Int):=by omega
 have hls:D.spans.length≤12:=by have:=hG'.out.form.spans;have:=hG'.out.form.geo.2.2.2.2.1;omega
 obtain ⟨p,hp⟩:=hv3.out.svAt hks'.out
 obtain ⟨gs,cs,hgs⟩:=hv3.out.headS (by omega)
 obtain ⟨gl,cl,hgl⟩:=N7 (hv3.out.own.inner kk s p hks'.out hp).1 (by have:=hin'.out.j;omega)
 obtain ⟨gp,cp,hgp⟩:=N7 (hv3.out.own.inner kk s p hks'.out hp).2 (by have:=hin'.out.j;have:=hin'.out.lens;have:=hin'.out.ptrs;omega)
 have g4:=hv3.out.cell 4 S.vs rfl
 rw [hgs] at g4
 obtain ⟨x0',x1,x2,x3,x4,x5⟩:=hv3.out.six hgs hks'.out hp
 rw [hgl] at x4
 rw [hgp] at x5
 have cL:=(Y7 (hv3.out.own.inner kk s p hks'.out hp).1 hgl j hin'.out.j).1
 have cP:=(Y7 (hv3.out.own.inner kk s p hks'.out hp).2 hgp j (by have:=hin'.out.j;have:=hin'.out.lens;have:=hin'.out.ptrs;omega)).1
 have hjl1:(j:Int)<(s.lens.length:Int):=by have:=hin'.out.j;omega
 have hjp1:(j:Int)<(s.ptrs.length:Int):=by have:=hin'.out.j;have:=hin'.out.lens;have:=hin'.out.ptrs;omega
 have hll:s.lens.length≤16∧s.ptrs.length≤16:=by have:=hin'.out.lens;have:=hin'.out.ptrs;have:=(E7 s.cls).2;omega
 clear hgs hgl hgp hp hkl0
 go_upto_region 22 with fail
 have b4:=Z5 w3 (.cells #[.int .i64 s.page,.int .i64 s.cls,.int .i64 s.mark,.bool s.swept,.slice (some ⟨gl,0,none⟩) s.lens.length cl,.slice (some ⟨gp,0,none⟩) s.ptrs.length cp] 97)
 have bS:=Y6 w3 (.cells #[.int .i64 s.page,.int .i64 s.cls,.int .i64 s.mark,.bool s.swept,.slice (some ⟨gl,0,none⟩) s.lens.length cl,.slice (some ⟨gp,0,none⟩) s.ptrs.length cp] 97)
 have hv4:=zaa (hv3.out.below b4)
 have hB4:=zaa (hB3.out.trans (b4.mono (by have:=hz3.out;have:=hle.out;omega)))
 have hT4:=zaa (hT3.out.below b4)
 have hq4:Hid ((w3.alloc (.cells #[.int .i64 s.page,.int .i64 s.cls,.int .i64 s.mark,.bool s.swept,.slice (some ⟨gl,0,none⟩) s.lens.length cl,.slice (some ⟨gp,0,none⟩) s.ptrs.length cp] 97)).heap[w.heap.size]?=some (.cells #[.int .i64 9,.int .i64 (M:Int),.int .i64 (H:Int),.int .i64 g,.int .i64 i,.int .i64 n,.int .i64 v] 118 (0,0))):=zaa (Z6 b4 hq3.out)
 have ha4:Hid ((w3.alloc (.cells #[.int .i64 s.page,.int .i64 s.cls,.int .i64 s.mark,.bool s.swept,.slice (some ⟨gl,0,none⟩) s.lens.length cl,.slice (some ⟨gp,0,none⟩) s.ptrs.length cp] 97)).heap[w.heap.size+1]?=some (.cells #[.int .i64 0,.int .i64 0] 114 (0,0))):=zaa (Z6 b4 ha3.out)
 have hz4:=zaa (show w.heap.size+1+1≤(w3.alloc (.cells #[.int .i64 s.page,.int .i64 s.cls,.int .i64 s.mark,.bool s.swept,.slice (some ⟨gl,0,none⟩) s.lens.length cl,.slice (some ⟨gp,0,none⟩) s.ptrs.length cp] 97)).heap.size from by have:=b4.size;have:=hz3.out;omega)
 have hs4:=zaa bS
 have cL4:=Z7 b4 cL
 have cP4:=Z7 b4 cP
 have hsb:w.heap.size+1+1≤w3.heap.size:=hz3.out
 clear g4 x0' x1 x2 x3 x4 x5 cL cP b4 bS hv3 hB3 hT3 hq3 ha3 hz3
 have hne:=zaa hsb
 generalize hsx:w3.heap.size=sx at *
 generalize w3.alloc (.cells #[.int .i64 s.page,.int .i64 s.cls,.int .i64 s.mark,.bool s.swept,.slice (some ⟨gl,0,none⟩) s.lens.length cl,.slice (some ⟨gp,0,none⟩) s.ptrs.length cp] 97)=w4 at *
 obtain ⟨ib,hib⟩:=J5 (J8 9 i s j)
 have hib':=zaa hib
 have hix:=zaa (fun (w':World)=>(sindex_9 (M:Int) (H:Int) g i n v (s.lens[j]?.getD 0) (s.ptrs[j]?.getD 0) w').mono fun e w'' ⟨h1,h2⟩=>(⟨h1.at_ ib hib,h2⟩:e=Ending.returned (.bool ib)∧Below w'.heap.size w' w''))
 unfold OpD.val OpD.cells at hix
 have SL:=Ext.cell (Z0 hs4.out 4 (.slice (some ⟨gl,0,none⟩) s.lens.length cl) rfl)
 have SP:=Ext.cell (Z0 hs4.out 5 (.slice (some ⟨gp,0,none⟩) s.ptrs.length cp) rfl)
 have CL:=Ext.cell cL4
 have CP:=Ext.cell cP4
 have Q0:=Ext.cell (Z0 hq4.out 0 (.int .i64 9) rfl)
 have Q1:=Ext.cell (Z0 hq4.out 1 (.int .i64 (M:Int)) rfl)
 have Q2:=Ext.cell (Z0 hq4.out 2 (.int .i64 (H:Int)) rfl)
 have Q3:=Ext.cell (Z0 hq4.out 3 (.int .i64 g) rfl)
 have Q4:=Ext.cell (Z0 hq4.out 4 (.int .i64 i) rfl)
 have Q5:=Ext.cell (Z0 hq4.out 5 (.int .i64 n) rfl)
 have Q6:=Ext.cell (Z0 hq4.out 6 (.int .i64 v) rfl)
 have hsx':=zaa hsx
 clear hib cL4 cP4 hsx
 refine Y5 (Below.refl _ _) (by kernel_rfl) (by kernel_rfl) ?_
 repeat (go_big_quiet_step ((go_at_call 151;exact Ext.call (hix.out _))))
 refine wpQuiet_nil ?_
 intro _ hw'
 obtain ⟨x9,hw''⟩:=hw'
 subst hw''
 have hv5:=zaa (hv4.out.below x9.below)
 have hB5:=zaa (hB4.out.trans (x9.below.mono (by have:=hz4.out;have:=hle.out;omega)))
 have hT5:=zaa (hT4.out.below x9.below)
 have hq5:Hid (x9.val.heap[w.heap.size]?=some (.cells #[.int .i64 9,.int .i64 (M:Int),.int .i64 (H:Int),.int .i64 g,.int .i64 i,.int .i64 n,.int .i64 v] 118 (0,0))):=zaa (Z6 x9.below hq4.out)
 have ha5:Hid (x9.val.heap[w.heap.size+1]?=some (.cells #[.int .i64 0,.int .i64 0] 114 (0,0))):=zaa (Z6 x9.below ha4.out)
 have hz5:=zaa (show w.heap.size+1+1≤x9.val.heap.size from by have:=x9.below.size;have:=hz4.out;omega)
 have hs5:Hid (x9.val.heap[sx]?=some (.cells #[.int .i64 s.page,.int .i64 s.cls,.int .i64 s.mark,.bool s.swept,.slice (some ⟨gl,0,none⟩) s.lens.length cl,.slice (some ⟨gp,0,none⟩) s.ptrs.length cp] 97 (0,0))):=zaa (Z6 x9.below hs4.out)
 have cL5:=CL x9
 generalize x9.val=w5 at *
 clear SL SP CL CP Q0 Q1 Q2 Q3 Q4 Q5 Q6 hix hv4 hB4 hT4 hq4 ha4 hz4 hs4
 have hans:=zaa (show w.heap.size+1 ∉ B :: blks S.all from hnb.out _ (by omega))
 cases ib
 case false =>
  have y:=zaa (hobj.out D 4 0 (.inl ⟨fun h=>(by have:=hib'.out.2 h;cases this),rfl,rfl,rfl⟩))
  have a0:=Z0 ha5.out 0 (.int .i64 0) rfl
  have a1:=Z0 ha5.out 1 (.int .i64 0) rfl
  have z0:=Z3 ha5.out 0
  have z1:=Z3 ha5.out 1
  clear cL5
  go_wp2_with fail
  refine bodyPost_ret (v:=.agg #[.int .i64 4,.int .i64 0]) (by simp [results,Tryz.results114,go_sem,a0,a1,z0,z1]) rfl ?_
  have hch:Chg [w.heap.size+1] w5 _:=((Chg.refl _ _).put (b:=w.heap.size+1) (by simp) 0 (.int .i64 4)).put (b:=w.heap.size+1) (by simp) 1 (.int .i64 0)
  exact Q9 y.out hv5.out hT5.out hB5.out (by have:=hle.out;omega) (by omega) hans.out hch
 have hI:=zaa (hib'.out.1 rfl)
 obtain ⟨A,hA⟩:=Int.eq_ofNat_of_zero_le hin'.out.bd.1
 have hA2:A≤1000:=by have:=hin'.out.bd.2.2.2.2.2;omega
 have hat:=zaa (fun (w':World)=>(hA ▸ zit s (.slice (some ⟨gl,0,none⟩) s.lens.length cl) (.slice (some ⟨gp,0,none⟩) s.ptrs.length cp) (j:Int) hin'.out.pg0 (by have:=hin'.out.pg1;have:=hin'.out.pg;omega) (by omega) (by omega) w':Calls Tryz.prog 117 #[zgz s (.slice (some ⟨gl,0,none⟩) s.lens.length cl) (.slice (some ⟨gp,0,none⟩) s.ptrs.length cp),.int .i64 j] w' fun e w''=>e=.returned (.int .i64 (A:Int))∧Below w'.heap.size w' w''))
 unfold zgz at hat
 have T0:=Ext.cell (Z0 hs5.out 0 (.int .i64 s.page) rfl)
 have T1:=Ext.cell (Z0 hs5.out 1 (.int .i64 s.cls) rfl)
 have T2:=Ext.cell (Z0 hs5.out 2 (.int .i64 s.mark) rfl)
 have T3:=Ext.cell (Z0 hs5.out 3 (.bool s.swept) rfl)
 have T4:=Ext.cell (Z0 hs5.out 4 (.slice (some ⟨gl,0,none⟩) s.lens.length cl) rfl)
 have T5:=Ext.cell (Z0 hs5.out 5 (.slice (some ⟨gp,0,none⟩) s.ptrs.length cp) rfl)
 have Q0:=Ext.cell (Z0 hq5.out 0 (.int .i64 9) rfl)
 have Q1:=Ext.cell (Z0 hq5.out 1 (.int .i64 (M:Int)) rfl)
 have Q2:=Ext.cell (Z0 hq5.out 2 (.int .i64 (H:Int)) rfl)
 have Q3:=Ext.cell (Z0 hq5.out 3 (.int .i64 g) rfl)
 have Q4:=Ext.cell (Z0 hq5.out 4 (.int .i64 i) rfl)
 have Q5:=Ext.cell (Z0 hq5.out 5 (.int .i64 n) rfl)
 have Q6:=Ext.cell (Z0 hq5.out 6 (.int .i64 v) rfl)
 clear hA
 go_wp2_with fail
 refine Y5 (Below.refl _ _) (by kernel_rfl) (by kernel_rfl) ?_
 repeat (go_big_quiet_step ((go_at_call 117;exact Ext.call (hat.out _))))
 refine wpQuiet_nil ?_
 intro _ hw'
 obtain ⟨x9,hw''⟩:=hw'
 subst hw''
 have hv6:=zaa (hv5.out.below x9.below)
 have hB6:=zaa (hB5.out.trans (x9.below.mono (by have:=hz5.out;have:=hle.out;omega)))
 have hT6:=zaa (hT5.out.below x9.below)
 have hq6:Hid (x9.val.heap[w.heap.size]?=some (.cells #[.int .i64 9,.int .i64 (M:Int),.int .i64 (H:Int),.int .i64 g,.int .i64 i,.int .i64 n,.int .i64 v] 118 (0,0))):=zaa (Z6 x9.below hq5.out)
 have ha6:Hid (x9.val.heap[w.heap.size+1]?=some (.cells #[.int .i64 0,.int .i64 0] 114 (0,0))):=zaa (Z6 x9.below ha5.out)
 have hz6:=zaa (show w.heap.size+1+1≤x9.val.heap.size from by have:=x9.below.size;have:=hz5.out;omega)
 have hs6:Hid (x9.val.heap[sx]?=some (.cells #[.int .i64 s.page,.int .i64 s.cls,.int .i64 s.mark,.bool s.swept,.slice (some ⟨gl,0,none⟩) s.lens.length cl,.slice (some ⟨gp,0,none⟩) s.ptrs.length cp] 97 (0,0))):=zaa (Z6 x9.below hs5.out)
 have cL6:=Z7 x9.below cL5
 generalize x9.val=w6 at *
 clear T0 T1 T2 T3 T4 T5 Q0 Q1 Q2 Q3 Q4 Q5 Q6 hat hv5 hB5 hT5 hq5 ha5 hz5 hs5 cL5
 have q0:=Z0 hq6.out 0 (.int .i64 9) rfl
 have q1:=Z0 hq6.out 1 (.int .i64 (M:Int)) rfl
 have q2:=Z0 hq6.out 2 (.int .i64 (H:Int)) rfl
 have q3:=Z0 hq6.out 3 (.int .i64 g) rfl
 have q4:=Z0 hq6.out 4 (.int .i64 i) rfl
 have q5:=Z0 hq6.out 5 (.int .i64 n) rfl
 have q6:=Z0 hq6.out 6 (.int .i64 v) rfl
 have a0:=Z0 ha6.out 0 (.int .i64 0) rfl
 have a1:=Z0 ha6.out 1 (.int .i64 0) rfl
 have z0:=Z3 ha6.out 0
 have z1:=Z3 ha6.out 1
 have y:=zaa (hobj.out D 0 (s.lens[j]?.getD 0) (.inr ⟨hI.out,.inr (.inr (.inr (.inr ⟨rfl,rfl,rfl⟩))),rfl⟩))
 have s4:=Z0 hs6.out 4 (.slice (some ⟨gl,0,none⟩) s.lens.length cl) rfl
 generalize s.lens[j]?.getD 0=x at *
 go_wp2_with fail
 refine bodyPost_ret (v:=.agg #[.int .i64 0,.int .i64 x]) (by simp [results,Tryz.results114,go_sem,a0,a1,z0,z1]) rfl ?_
 have hch:Chg [w.heap.size+1] w6 _:=((Chg.refl _ _).put (b:=w.heap.size+1) (by simp) 0 (.int .i64 0)).put (b:=w.heap.size+1) (by simp) 1 (.int .i64 x)
 exact Q9 y.out hv6.out hT6.out hB6.out (by have:=hle.out;omega) (by omega) hans.out hch
theorem sdo_no (base B:Nat) (S:Y2) (D:WD) (k m h g i n v:Int) (hk:¬ zix k) (w:World) (hv:VarW w base B S D) :
  Calls Tryz.prog 114 #[.pointer (some ⟨B,0,none⟩),OpD.val ⟨k,m,h,g,i,n,v⟩] w fun e w'=>zih D ⟨k,m,h,g,i,n,v⟩ base B S w e w'∧Below base w w':=by
 have hle:=zaa (Nat.le_of_lt (Nat.lt_of_le_of_lt hv.le hv.lt))
 have bb:=Z4 (Z5 w (.cells #[.int .i64 k,.int .i64 m,.int .i64 h,.int .i64 g,.int .i64 i,.int .i64 n,.int .i64 v] 118)) (Z5 (w.alloc (.cells #[.int .i64 k,.int .i64 m,.int .i64 h,.int .i64 g,.int .i64 i,.int .i64 n,.int .i64 v] 118)) (.cells #[.int .i64 0,.int .i64 0] 114))
 have ba:=Y6 (w.alloc (.cells #[.int .i64 k,.int .i64 m,.int .i64 h,.int .i64 g,.int .i64 i,.int .i64 n,.int .i64 v] 118)) (.cells #[.int .i64 0,.int .i64 0] 114)
 rw [World.size_alloc] at ba
 have hBb:=zaa (bb.mono hle.out)
 have hTb:=zaa (T8.of_below B S bb)
 have hv0:=zaa (hv.below bb)
 have y:=zaa (show DoIs D ⟨k,m,h,g,i,n,v⟩ D 1 0 from .inl ⟨hk,rfl,rfl,rfl⟩)
 have hans:=zaa (show w.heap.size+1 ∉ B :: blks S.all from fun hm=>by
  rcases List.mem_cons.1 hm with e | hm
  ·have:=hv.lt
   omega
  ·have:=(hv.own.lt _ hm).2
   omega)
 have a0:=Z0 ba 0 (.int .i64 0) rfl
 have a1:=Z0 ba 1 (.int .i64 0) rfl
 have z0:=Z3 ba 0
 have z1:=Z3 ba 1
 have q0:=Z0 (Z6 (Z5 (w.alloc (.cells #[.int .i64 k,.int .i64 m,.int .i64 h,.int .i64 g,.int .i64 i,.int .i64 n,.int .i64 v] 118)) (.cells #[.int .i64 0,.int .i64 0] 114)) (Y6 w (.cells #[.int .i64 k,.int .i64 m,.int .i64 h,.int .i64 g,.int .i64 i,.int .i64 n,.int .i64 v] 118))) 0 (.int .i64 k) rfl
 unfold OpD.val OpD.cells
 clear hv bb ba
 by_cases c1:k<1
 ·have d1:decide (k<1)=true:=decide_eq_true c1
  clear hk c1
  go_enter Tryz.func114,Tryz.ntmps114
  go_upto_region 1 with fail
  generalize (w.alloc (.cells #[.int .i64 k,.int .i64 m,.int .i64 h,.int .i64 g,.int .i64 i,.int .i64 n,.int .i64 v] 118)).alloc (.cells #[.int .i64 0,.int .i64 0] 114)=W at *
  go_wp2_with fail
  refine bodyPost_ret (v:=.agg #[.int .i64 1,.int .i64 0]) (by simp [results,Tryz.results114,go_sem,a0,a1,z0,z1]) rfl ?_
  exact Q9 y.out hv0.out hTb.out hBb.out (by have:=hle.out;omega) (by omega) hans.out (((Chg.refl [w.heap.size+1] _).put (List.mem_singleton.2 rfl) 0 _).put (List.mem_singleton.2 rfl) 1 _)
 ·have d1:decide (k<1)=false:=decide_eq_false c1
  have d2:decide (9<k)=true:=decide_eq_true (by unfold zix at hk;omega)
  clear hk c1
  go_enter Tryz.func114,Tryz.ntmps114
  go_upto_region 1 with fail
  generalize (w.alloc (.cells #[.int .i64 k,.int .i64 m,.int .i64 h,.int .i64 g,.int .i64 i,.int .i64 n,.int .i64 v] 118)).alloc (.cells #[.int .i64 0,.int .i64 0] 114)=W at *
  go_wp2_with fail
  refine bodyPost_ret (v:=.agg #[.int .i64 1,.int .i64 0]) (by simp [results,Tryz.results114,go_sem,a0,a1,z0,z1]) rfl ?_
  exact Q9 y.out hv0.out hTb.out hBb.out (by have:=hle.out;omega) (by omega) hans.out (((Chg.refl [w.heap.size+1] _).put (List.mem_singleton.2 rfl) 0 _).put (List.mem_singleton.2 rfl) 1 _)
theorem zxs (base B:Nat) (S:Y2) (D:WD) (o:OpD) (hG:U1 D) (hR:F0 D) (w:World) (hv:VarW w base B S D) :
  Calls Tryz.prog 114 #[.pointer (some ⟨B,0,none⟩),OpD.val o] w fun e w'=>zih D o base B S w e w'∧Below base w w':=by
 obtain ⟨k,m,h,g,i,n,v⟩:=o
 by_cases hk:zix k
 case neg=>exact sdo_no base B S D k m h g i n v hk w hv
 have hk':1≤k∧k≤9:=hk
 rcases (show k=1∨k=2∨k=3∨k=4∨k=5∨k=6∨k=7∨k=8∨k=9 by omega) with rfl | rfl | rfl | rfl | rfl | rfl | rfl | rfl | rfl
 ·exact sdo_1 base B S D m h g i n v hG hR w hv
 ·exact sdo_2 base B S D m h g i n v hG hR w hv
 ·exact sdo_3 base B S D m h g i n v hG hR w hv
 ·exact sdo_4 base B S D m h g i n v hG hR w hv
 ·exact sdo_5 base B S D m h g i n v hG hR w hv
 ·exact sdo_6 base B S D m h g i n v hG hR w hv
 ·exact sdo_7 base B S D m h g i n v hG hR w hv
 ·exact sdo_8 base B S D m h g i n v hG hR w hv
 ·exact sdo_9 base B S D m h g i n v hG hR w hv
end Go.Proofs.YtilkidaihbhfpaaGreat
