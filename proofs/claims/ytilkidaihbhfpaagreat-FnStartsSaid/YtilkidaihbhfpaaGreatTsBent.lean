import Derived.Test.YtilkidaihbhfpaaGreatTsDRW
import Derived.Test.YtilkidaihbhfpaaGreatTsR
import Derived.Test.YtilkidaihbhfpaaGreatTsTU
import Derived.Deep.DeepCutAuto
import Derived.Deep.CutBlock

set_option maxRecDepth 100000
set_option maxHeartbeats 16000000
namespace Go.Proofs.YtilkidaihbhfpaaGreat
open Go.RowKit
set_option linter.unusedVariables false
set_option linter.unusedSimpArgs false
theorem ztc {w:World} {n₀ B len:Nat} {a:Option Addr} (h:At w n₀ B a len) :
  Calls Tryz.prog 30 #[.pointer (some ⟨B,0,none⟩)] w fun e w'=>∃ v D,zgo D∧CapW v∧CapG v∧e=.returned v∧(∀ (bs:List Nat) w2,(∀ q,q ∈ bs→q<w.heap.size)→Chg bs w' w2→RdW w2 v D)∧w.grownBy w' (some B)∧At w' n₀ B a len:=by
 have hB:=zaa h.lt
 have h0:=zaa (h.kept (Z5 w (.cells #[.int .i64 0,.int .i64 0,.slice none 0 0,.slice none 0 0,.slice none 0 0,.slice none 0 0,.int .i64 0,.int .i64 0,.slice none 0 0] 30)))
 have g0:=zaa (N4 (World.grownBy.refl w (some B)) (Z5 w (.cells #[.int .i64 0,.int .i64 0,.slice none 0 0,.slice none 0 0,.slice none 0 0,.slice none 0 0,.int .i64 0,.int .i64 0,.slice none 0 0] 30)))
 have r0:=zaa (Y6 w (.cells #[.int .i64 0,.int .i64 0,.slice none 0 0,.slice none 0 0,.slice none 0 0,.slice none 0 0,.int .i64 0,.int .i64 0,.slice none 0 0] 30))
 have s0:=zaa (show w.heap.size<(w.alloc (.cells #[.int .i64 0,.int .i64 0,.slice none 0 0,.slice none 0 0,.slice none 0 0,.slice none 0 0,.int .i64 0,.int .i64 0,.slice none 0 0] 30)).heap.size by simp)
 clear h
 go_enter Tryz.func30,Tryz.ntmps30
 go_upto_region 1 with fail
 generalize w.alloc (.cells #[.int .i64 0,.int .i64 0,.slice none 0 0,.slice none 0 0,.slice none 0 0,.slice none 0 0,.int .i64 0,.int .i64 0,.slice none 0 0] 30)=W at *
 have p0:=zaa (zzw h0.out)
 go_wp2_with fail
 refine p0.out.mono ?_
 rintro e w1 ⟨S,D,hR,hG,rfl,ho,gg,a'⟩
 obtain ⟨aw,ad,aS,am,ag,cw,cd,cS,cm,cg,sv,mv,rfl⟩:=Y2.lits ho
 have hv:=VarW.mk_box ho gg.size
 have bb:=Z5 w1 (.cells (Y2.cells ⟨.slice aw D.words.length cw,.slice ad D.dirty.length cd,.slice aS D.spans.length cS,.slice am D.muts.length cm,.slice ag D.grey.length cg,sv,mv⟩ D) 30)
 have st:=zaa (show WoIn w _ n₀ B a len w.heap.size w1.heap.size W.heap.size ⟨.slice aw D.words.length cw,.slice ad D.dirty.length cd,.slice aS D.spans.length cS,.slice am D.muts.length cm,.slice ag D.grey.length cg,sv,mv⟩ D from
  ⟨a'.kept bb,N4 (P0 g0.out gg) bb,Z6 bb (R9 gg r0.out (by have:=hB.out;omega)),hv,Nat.le_refl _,s0.out,hB.out,hR,hG⟩)
 dsimp only [Y2.val]
 dsimp only [Y2.cells] at st
 clear hv bb ho p0 gg a' h0 g0 r0 hR hG
 go_upto_region 2 with fail
 generalize w1.alloc (.cells #[.int .i64 D.base,.int .i64 D.pages,.slice aw D.words.length cw,.slice ad D.dirty.length cd,.slice aS D.spans.length cS,.slice am D.muts.length cm,.int .i64 D.phase,.int .i64 D.next,.slice ag D.grey.length cg] 30)=W2 at *
 have hbase:=zaa s0.out
 generalize hVe:w1.heap.size=V at *
 generalize hbe:W.heap.size=base at *
 clear hVe hbe s0
 have p1:=zaa (st.out.once 4 (by decide))
 go_wp2_with fail
 refine p1.out.mono ?_
 rintro e w3 ⟨t,rfl,s3⟩
 have st3:=zaa s3
 clear p1 s3 st
 cases t
 case false =>
  have s3:=st3.out.be
  have s3h:=zaa s3
  obtain ⟨cs,he,hh⟩:=s3.box
  obtain ⟨vw,vd,vs,vm,vg,hve,-⟩:=s3.rd [] _ (fun _ h=>absurd h (by simp)) (Chg.refl _ _)
  dsimp only [Y2.val] at he hve
  obtain rfl:=(Value.agg.inj he).symm
  obtain ⟨m0,m1,m2,m3,m4,m5,m6,m7,m8⟩:=U5 hh
  obtain ⟨n0,n1,n2,n3,n4,n5,n6,n7,n8⟩:=U5 s3.res
  have z0:=Z3 s3.res 0
  have z1:=Z3 s3.res 1
  have z2:=Z3 s3.res 2
  have z3:=Z3 s3.res 3
  have z4:=Z3 s3.res 4
  have z5:=Z3 s3.res 5
  have z6:=Z3 s3.res 6
  have z7:=Z3 s3.res 7
  have z8:=Z3 s3.res 8
  have hne:¬ (V=w.heap.size):=s3.ne
  have hne2:¬ (w.heap.size=V):=fun e=>s3.ne e.symm
  clear s3 he hh hve
  go_wp2_with fail
  refine bodyPost_ret (v:=.agg #[.int .i64 D.base,.int .i64 D.pages,.slice aw D.words.length cw,.slice ad D.dirty.length cd,.slice aS D.spans.length cS,.slice am D.muts.length cm,.int .i64 D.phase,.int .i64 D.next,.slice ag D.grey.length cg]) (by simp [results,Tryz.results30,go_sem,n0,n1,n2,n3,n4,n5,n6,n7,n8,z0,z1,z2,z3,z4,z5,z6,z7,z8]) rfl ?_
  exact ⟨_,D,s3h.out.bent,s3h.out.cw,s3h.out.cg,rfl,fun bs w2 hbs c=>s3h.out.rd (w.heap.size :: bs) w2 (fun q hq=>by rcases List.mem_cons.1 hq with rfl | hq;exact Nat.le_refl _;exact Nat.le_of_lt (hbs q hq)) ((((Chg.refl [w.heap.size] _).put9 (b:=w.heap.size) (by simp) _ _ _ _ _ _ _ _ _).mono (by simp)).trans (c.mono fun q hq=>List.mem_cons_of_mem _ hq)),zep s3h.out.grow ((Chg.refl [w.heap.size] _).put9 (b:=w.heap.size) (by simp) _ _ _ _ _ _ _ _ _) (Nat.le_refl _),s3h.out.at_.chg ((Chg.refl [w.heap.size] _).put9 (b:=w.heap.size) (by simp) _ _ _ _ _ _ _ _ _) (by have:=s3h.out.at_.le;have:=hB.out;omega) (by have:=hB.out;omega)⟩
 have f4:=st3.out.var.cell 4 (.slice aS D.spans.length cS) rfl
 go_upto_if 15 with fail
 clear f4
 go_cut [4] (fun s4 wx=>∃ Kx:Nat,s4=.int .i64 (Kx:Int)∧(Kx=0∨Kx<D.spans.length)∧WoIn w wx n₀ B a len w.heap.size V base ⟨.slice aw D.words.length cw,.slice ad D.dirty.length cd,.slice aS D.spans.length cS,.slice am D.muts.length cm,.slice ag D.grey.length cg,sv,mv⟩ D)
 case first =>
  by_cases hs:0<D.spans.length
  case neg =>
   have hs0:D.spans.length=0:=by omega
   have hs1:((D.spans.length:Int) > 0)=False:=by simp [hs0]
   have hs2:decide (0<D.spans.length)=false:=by simp [hs0]
   clear hs0
   go_wp2_with fail
   go_meet
   case rel=>exact ⟨0,rfl,.inl rfl,st3.out⟩
  have hs1:(0:Int)<(D.spans.length:Int):=by omega
  have p4:=zaa (st3.out.below (D.spans.length:Int) (by omega))
  have f4:=st3.out.var.cell 4 (.slice aS D.spans.length cS) rfl
  go_wp2_with fail
  refine p4.out.mono ?_
  rintro e w4 ⟨k,rfl,k0,k1,s4⟩
  have st4:=zaa s4
  obtain ⟨Kx,rfl⟩:=Int.eq_ofNat_of_zero_le k0
  have hKx:=zaa (show Kx<D.spans.length by omega)
  clear s4 p4 k0 k1 f4
  go_wp2_with fail
  go_meet
  case rel=>exact ⟨Kx,rfl,.inr hKx.out,st4.out⟩
 case rest =>
 obtain ⟨Kx,rfl,hK0,s5⟩:=hcut
 have st5:=zaa s5
 have hKx:=zaa hK0
 clear s5 hK0 st3
 have hwl:0<D.words.length:=by have h1:=st5.out.going.form.words;have h2:=st5.out.going.form.geo;unfold Geo at h2;omega
 have p6:=zaa (st5.out.below (D.words.length:Int) (by omega))
 have f2:=st5.out.var.cell 2 (.slice aw D.words.length cw) rfl
 go_wp2_with fail
 refine p6.out.mono ?_
 rintro e w6 ⟨i,rfl,i0,i1,s6⟩
 obtain ⟨I,rfl⟩:=Int.eq_ofNat_of_zero_le i0
 have hI:=zaa (show I<D.words.length by omega)
 have p7:=zaa (s6.below 14 (by decide))
 clear s6 p6 i0 i1 f2 hwl
 go_wp2_with fail
 refine p7.out.mono ?_
 rintro e w7 ⟨x,rfl,x0,x1,s7⟩
 have st7:=zaa s7
 clear s7 p7 st5
 go_upto_block 0 with fail
 go_cut [] (fun wx=>∃ v D',BeIn w wx n₀ B a len w.heap.size V v D')
 case first =>
  rcases (show x=0∨x=1∨x=2∨x=3∨x=4∨x=5∨x=6∨x=7∨x=8∨x=9∨x=10∨x=11∨x=12∨x=13 by omega) with rfl | rfl | rfl | rfl | rfl | rfl | rfl | rfl | rfl | rfl | rfl | rfl | rfl | rfl
  ·clear x0 x1
   have hwl:0<D.words.length:=by have:=hI.out;omega
   obtain ⟨g,cap,hg⟩:=st7.out.var.headW hwl
   obtain ⟨rfl,rfl⟩:aw=some ⟨g,0,none⟩∧cw=cap:=by simpa using hg
   have hb:=zaa (show 32≤D.base∧D.base≤1048576 by have h2:=st7.out.going.form.geo;unfold Geo at h2;omega)
   have hwm:=zaa (show D.words.length≤384 by have h1:=st7.out.going.form.words;have h2:=st7.out.going.form.geo;unfold Geo at h2;omega)
   have hi1:(I:Int)<(D.words.length:Int):=by have:=hI.out;omega
   have e2:IntKind.i64.wrap (D.base+32)=D.base+32:=IntWalk.i64_in _ (by have:=hb.out;omega)
   clear hg hwl
   go_upto_region 12 with fail
   refine T6 (fun w'=>w'.cell? ⟨V,2,none⟩=some (.slice (some ⟨g,0,none⟩) D.words.length cw)∧w'.cell? ⟨V,0,none⟩=some (.int .i64 D.base)) (fun j=>j == 12) (by kernel_rfl) ?_
   intro wd hwd
   have std:=zaa (show WoIn w wd n₀ B a len w.heap.size V base ⟨.slice (some ⟨g,0,none⟩) D.words.length cw,.slice ad D.dirty.length cd,.slice aS D.spans.length cS,.slice am D.muts.length cm,.slice ag D.grey.length cg,sv,mv⟩ D from by rw [hwd];exact st7.out.ext (below_drewN (Below.refl _ _) 1))
   clear hwd
   have hS:=zaa (show ∀ w',WoIn w w' n₀ B a len w.heap.size V base ⟨.slice (some ⟨g,0,none⟩) D.words.length cw,.slice ad D.dirty.length cd,.slice aS D.spans.length cS,.slice am D.muts.length cm,.slice ag D.grey.length cg,sv,mv⟩ D→(fun w'=>w'.cell? ⟨V,2,none⟩=some (.slice (some ⟨g,0,none⟩) D.words.length cw)∧w'.cell? ⟨V,0,none⟩=some (.int .i64 D.base)) w' from fun w' s=>⟨s.var.cell 2 _ rfl,s.var.cell 0 _ rfl⟩)
   have h0:=hS.out _ std.out
   have p8:=zaa (std.out.pick 3 [0,1,D.base,D.base+32] (by simp))
   refine Z9 (i:=0) (v:=?vq1) rfl (by kernel_rfl) (by kernel_rfl) (by kernel_rfl) rfl (fun _ _ _ h=>h) (Or.inl ⟨by rfl,?hq1⟩) (fun _=>h0) ?rq1
   case hq1=>(intro w _;go_simp;try with_reducible rfl)
   try simp only [Act.put,zab,zac,zad]
   refine X2 (i:=1) (v:=?vq2) rfl (by kernel_rfl) (by kernel_rfl) (by kernel_rfl) (by kernel_rfl) (fun j hj=>by simp at hj;subst hj;kernel_rfl) (fun _ _ _ h=>h) (Or.inl ⟨by rfl,?hq2⟩) (by exact h0) ?rq2
   case hq2=>(intro w hSw;(try dsimp only at hSw);obtain ⟨t0,t1⟩:=hSw;go_simp;try with_reducible rfl)
   try simp only [Act.put,zab,zac,zad]
   refine Z9 (i:=2) (v:=?vq3) rfl (by kernel_rfl) (by kernel_rfl) (by kernel_rfl) rfl (fun _ _ _ h=>h) (Or.inl ⟨by rfl,?hq3⟩) (fun _=>h0) ?rq3
   case hq3=>(intro w _;go_simp;try with_reducible rfl)
   try simp only [Act.put,zab,zac,zad]
   refine Z9 (i:=3) (v:=?vq4) rfl (by kernel_rfl) (by kernel_rfl) (by kernel_rfl) rfl (fun _ _ _ h=>h) (Or.inl ⟨by rfl,?hq4⟩) (fun _=>h0) ?rq4
   case hq4=>(intro w _;go_simp;try with_reducible rfl)
   try simp only [Act.put,zab,zac,zad]
   refine Z9 (i:=4) (v:=?vq5) rfl (by kernel_rfl) (by kernel_rfl) (by kernel_rfl) rfl (fun _ _ _ h=>h) (Or.inl ⟨by rfl,?hq5⟩) (fun _=>h0) ?rq5
   case hq5=>(intro w _;go_simp;try with_reducible rfl)
   try simp only [Act.put,zab,zac,zad]
   refine X2 (i:=5) (v:=?vq6) rfl (by kernel_rfl) (by kernel_rfl) (by kernel_rfl) (by kernel_rfl) (fun j hj=>by simp at hj;subst hj;kernel_rfl) (fun _ _ _ h=>h) (Or.inl ⟨by rfl,?hq6⟩) (by exact h0) ?rq6
   case hq6=>(intro w hSw;(try dsimp only at hSw);obtain ⟨t0,t1⟩:=hSw;go_simp;try with_reducible rfl)
   try simp only [Act.put,zab,zac,zad]
   refine Z9 (i:=6) (v:=?vq7) rfl (by kernel_rfl) (by kernel_rfl) (by kernel_rfl) rfl (fun _ _ _ h=>h) (Or.inl ⟨by rfl,?hq7⟩) (fun _=>h0) ?rq7
   case hq7=>(intro w _;go_simp;try with_reducible rfl)
   try simp only [Act.put,zab,zac,zad]
   refine X2 (i:=7) (v:=?vq8) rfl (by kernel_rfl) (by kernel_rfl) (by kernel_rfl) (by kernel_rfl) (fun j hj=>by simp at hj;subst hj;kernel_rfl) (fun _ _ _ h=>h) (Or.inl ⟨by rfl,?hq8⟩) (by exact h0) ?rq8
   case hq8=>(intro w hSw;(try dsimp only at hSw);obtain ⟨t0,t1⟩:=hSw;go_simp;try with_reducible rfl)
   try simp only [Act.put,zab,zac,zad]
   refine Z9 (i:=8) (v:=?vq9) rfl (by kernel_rfl) (by kernel_rfl) (by kernel_rfl) rfl (fun _ _ _ h=>h) (Or.inl ⟨by rfl,?hq9⟩) (fun _=>h0) ?rq9
   case hq9=>(intro w _;go_simp;try with_reducible rfl)
   try simp only [Act.put,zab,zac,zad]
   refine V6 (rs:=[9]) (by kernel_rfl) (by simp) ?_
   intro i hi
   simp only [List.mem_cons,List.not_mem_nil,or_false] at hi
   subst hi
   refine X8 (i:=9) rfl (fun K hK=>?_)
   go_simp
   refine hK.out _ _ (fun _=>(hS.out _ (std.out.ext (Z5 wd _)))) ?_
   clear hK K
   try simp only [Act.put,zab,zac,zad]
   refine V6 (rs:=[10]) (by kernel_rfl) (by simp) ?_
   intro i hi
   simp only [List.mem_cons,List.not_mem_nil,or_false] at hi
   subst hi
   refine X8 (i:=10) rfl (fun K hK=>?_)
   go_simp
   go_wp2_with (go_at_call 72;refine p8.out.mono ?_;rintro e w9 ⟨y,rfl,yin,s8⟩;have st8:=zaa s8;have yI:=zaa (show I64 y by simp only [List.mem_cons,List.not_mem_nil,or_false] at yin;have:=hb.out;unfold I64;omega);have f9:=(Y7 s8.var.own.words rfl I hI.out).1;have z9:=(Y7 s8.var.own.words rfl I hI.out).2;have y':=zaa (BeIn.of_var s8 (s8.var.word rfl I y).2 (s8.var.word rfl I y).1 (s8.going.bent_word I yI.out));clear s8 yin)
   refine hK.out _ _ (fun _=>(hS.out _ st8.out)) ?_
   clear hK K
   try simp only [Act.put,zab,zac,zad]
   refine Z9 (i:=11) (v:=?vq12) rfl (by kernel_rfl) (by kernel_rfl) (by kernel_rfl) rfl (fun _ _ _ h=>h) (Or.inl ⟨by rfl,?hq12⟩) (fun _=>(hS.out _ st8.out)) ?rq12
   case hq12=>(intro w _;go_simp;try with_reducible rfl)
   try simp only [Act.put,zab,zac,zad]
   refine V6 (rs:=[12]) (by kernel_rfl) (by simp) ?_
   intro i hi
   simp only [List.mem_cons,List.not_mem_nil,or_false] at hi
   subst hi
   refine X8 (i:=12) rfl (fun K hK=>?_)
   go_simp
   refine hK.out _ _ (fun h=>Bool.noConfusion ((h 12 (by kernel_rfl)).symm.trans (show _=true by kernel_rfl))) ?_
   clear hK K
   try simp only [Act.put,zab,zac,zad]
   refine P3 (by kernel_rfl) ?_ _
   go_wp2_with fail
   go_meet
   case rel=>exact ⟨_,_,y'.out⟩
  ·as_aux_lemma =>
   clear x0 x1
   have p8:=zaa (st7.out.pick 3 [0,33,1048576,1048608] (by simp))
   go_wp2_with fail
   refine p8.out.mono ?_
   rintro e w9 ⟨y,rfl,yin,s8⟩
   have yI:=zaa (show I64 y by simp only [List.mem_cons,List.not_mem_nil,or_false] at yin;unfold I64;omega)
   have f0:=s8.var.cell 0 (.int .i64 D.base) rfl
   have z0:=s8.var.frz 0
   have y':=zaa (BeIn.of_var s8 (s8.var.base_ y).2 (s8.var.base_ y).1 (s8.going.bent_base yI.out))
   clear s8 p8 yin
   go_wp2_with fail
   go_meet
   case rel=>exact ⟨_,_,y'.out⟩
  ·as_aux_lemma =>
   clear x0 x1
   have hp:=zaa (show 1≤D.pages∧D.pages≤12 by have h2:=st7.out.going.form.geo;unfold Geo at h2;omega)
   have e1:wrap64 (D.pages+1)=D.pages+1:=by have:=hp.out;unfold wrap64;omega
   have f1:=st7.out.var.cell 1 (.int .i64 D.pages) rfl
   have p8:=zaa (st7.out.pick 3 [0,D.pages+1,13] (by simp))
   go_wp2_with fail
   refine p8.out.mono ?_
   rintro e w9 ⟨y,rfl,yin,s8⟩
   have yI:=zaa (show I64 y by simp only [List.mem_cons,List.not_mem_nil,or_false] at yin;have:=hp.out;unfold I64;omega)
   clear f1
   have f1:=s8.var.cell 1 (.int .i64 D.pages) rfl
   have z0:=s8.var.frz 1
   have y':=zaa (BeIn.of_var s8 (s8.var.pages_ y).2 (s8.var.pages_ y).1 (s8.going.bent_pages yI.out))
   clear s8 p8 yin e1
   go_wp2_with fail
   go_meet
   case rel=>exact ⟨_,_,y'.out⟩
  ·as_aux_lemma =>
   clear x0 x1
   have hwl:0<D.words.length:=by have:=hI.out;omega
   obtain ⟨g,cap,hg⟩:=st7.out.var.headW hwl
   obtain ⟨rfl,rfl⟩:aw=some ⟨g,0,none⟩∧cw=cap:=by simpa using hg
   have hcap:=zaa (zsj st7.out.var.own.words (a:=some ⟨g,0,none⟩) (m:=D.words.length) (c:=cw) rfl)
   have y':=zaa (st7.out.drop_ rfl hwl (cw-1) (by have:=hcap.out;omega))
   have f2:=st7.out.var.cell 2 (.slice (some ⟨g,0,none⟩) D.words.length cw) rfl
   have z2:=st7.out.var.frz 2
   have hc1:D.words.length≤cw:=hcap.out
   have hl1:1≤D.words.length:=hwl
   have hw32:32≤D.words.length:=by have h1:=st7.out.going.form.words;have h2:=st7.out.going.form.geo;unfold Geo at h2;omega
   have hc2:1<cw:=by omega
   have hc3:¬ (cw-1=0):=by omega
   have hc4:¬ (cw≤1):=by omega
   clear hw32
   clear hg hwl
   go_wp2_with fail
   go_meet
   case rel=>exact ⟨_,_,y'.out⟩
  ·as_aux_lemma =>
   clear x0 x1
   have src:=zaa (show N1 (w7.alloc (.cells #[.bool true] 4)) (some ⟨w7.heap.size,0,none⟩) 1 1 ([true].map Value.bool) from ⟨rfl,fun j u hu=>⟨_,rfl,E0 _ _ _ j u hu⟩,by simp [Value.oneCell']⟩)
   have st8:=zaa (st7.out.ext (Z5 w7 (.cells #[.bool true] 4)))
   have hdl:=zaa (show D.dirty.length≤48 by have h1:=st7.out.going.form.dirty;have h2:=st7.out.going.form.geo;unfold Geo at h2;omega)
   have hbs:=zaa (show base≤(w7.alloc (.cells #[.bool true] 4)).heap.size from Nat.le_of_lt (Nat.lt_of_le_of_lt st8.out.var.le st8.out.var.lt))
   have ex:=zaa (show ∀ (v:Value) (w6:World),w6.ownsRow base 4 1 v (D.dirty ++ [true]).length ((D.dirty ++ [true]).map Value.bool)→(w7.alloc (.cells #[.bool true] 4)).grownBy w6 (Value.slice ad D.dirty.length cd).ownBlock →
     (∃ x c,v=.slice x (D.dirty.length+1) c)∧w6.cell? ⟨V,3,none⟩=some (.slice ad D.dirty.length cd)∧w6.frozen? ⟨V,3,none⟩=false∧∃ v' D',BeIn w (w6.setCell ⟨V,3,none⟩ v) n₀ B a len w.heap.size V v' D' from fun v w6 r g=>by
    have hb6:=st8.out.var.keep (Chg.of_grown g (bs:=blks [.slice ad D.dirty.length cd]) fun x hx=>List.mem_filterMap.2 ⟨.slice ad D.dirty.length cd,by simp,hx⟩) (zgg (by simp [Y2.all]))
    have hne:∀ q,v.ownBlock=some q→q≠V:=fun q hq e=>by
     subst e
     rcases r.2 with ⟨h0,_⟩ | ⟨g',cap',cur',h0,_,hh,_⟩
     ·rw [h0] at hq
      cases hq
     ·rw [h0] at hq
      have e3:g'=q:=by simpa [Value.ownBlock] using hq
      subst e3
      rw [hb6] at hh
      simp at hh
    have hg:=st8.out.var.growD (L:=D.dirty ++ [true]) (v:=v) g r hne
    obtain ⟨x,c,e⟩:=Y4 r
    exact ⟨⟨x,c,by rw [e,List.length_append];rfl⟩,Z0 hb6 3 (.slice ad D.dirty.length cd) rfl,Z3 hb6 3,_,_,BeIn.of_var st8.out hg.2 hg.1 (st8.out.going.bent_dirty true)⟩)
   have hown:=zaa st8.out.var.own.dirty
   have f3:=st7.out.var.cell 3 (.slice ad D.dirty.length cd) rfl
   clear st8
   go_wp2_with (at_builtin;go_loud (refine P5 rfl (.tmp 80) (.tmp 81) 24 rfl base 4 (.bool false) 1 1 Tryz.underlying24 zjm (by rfl) (by decide) (.slice ad D.dirty.length cd) D.dirty.length (D.dirty.map Value.bool) rfl hown.out (some ⟨w7.heap.size,0,none⟩) 1 1 [.bool true] rfl src.out (by have:=hdl.out;unfold maxLen;omega) (by have:=hdl.out;omega) hbs.out ?_;intro v6 w6 q6 g6;obtain ⟨⟨a6,c6,rfl⟩,b6,z6,hv6⟩:=ex.out _ _ (by simpa using q6) g6;have y':=zaa hv6;clear q6 g6 hv6 ex))
   go_meet
   case rel=>exact y'.out
  ·as_aux_lemma =>
   clear x0 x1
   have p8:=zaa (st7.out.below 7 (by decide))
   go_wp2_with fail
   refine p8.out.mono ?_
   rintro e w9 ⟨y,rfl,y0,y1,s8⟩
   have e1:wrap64 (y-1)=y-1:=by unfold wrap64;omega
   have yI:=zaa (show I64 (y-1) by unfold I64;omega)
   have f0:=s8.var.cell 6 (.int .i64 D.phase) rfl
   have z0:=s8.var.frz 6
   have y':=zaa (BeIn.of_var s8 (s8.var.phase (y-1)).2 (s8.var.phase (y-1)).1 (s8.going.bent_phase yI.out))
   clear s8 p8 y0 y1
   go_wp2_with fail
   go_meet
   case rel=>exact ⟨_,_,y'.out⟩
  ·as_aux_lemma =>
   clear x0 x1
   have p8:=zaa (st7.out.pick 3 [-1,1,9] (by simp))
   go_wp2_with fail
   refine p8.out.mono ?_
   rintro e w9 ⟨y,rfl,yin,s8⟩
   have yI:=zaa (show I64 y by simp only [List.mem_cons,List.not_mem_nil,or_false] at yin;unfold I64;omega)
   have f0:=s8.var.cell 7 (.int .i64 D.next) rfl
   have z0:=s8.var.frz 7
   have y':=zaa (BeIn.of_var s8 (s8.var.next y).2 (s8.var.next y).1 (s8.going.bent_next yI.out))
   clear s8 p8 yin
   go_wp2_with fail
   go_meet
   case rel=>exact ⟨_,_,y'.out⟩
  ·as_aux_lemma =>
   clear x0 x1
   have hgl:=zaa st7.out.going.greyLen
   go_upto_region 26 with fail
   refine T6 (fun w'=>w'.cell? ⟨V,0,none⟩=some (.int .i64 D.base)∧w'.cell? ⟨V,1,none⟩=some (.int .i64 D.pages)∧w'.cell? ⟨V,2,none⟩=some (.slice aw D.words.length cw)∧w'.cell? ⟨V,3,none⟩=some (.slice ad D.dirty.length cd)∧w'.cell? ⟨V,4,none⟩=some (.slice aS D.spans.length cS)∧w'.cell? ⟨V,5,none⟩=some (.slice am D.muts.length cm)∧w'.cell? ⟨V,6,none⟩=some (.int .i64 D.phase)∧w'.cell? ⟨V,7,none⟩=some (.int .i64 D.next)∧w'.cell? ⟨V,8,none⟩=some (.slice ag D.grey.length cg)) (fun j=>j == 10) (by kernel_rfl) ?_
   intro wd hwd
   have std:=zaa (show WoIn w wd n₀ B a len w.heap.size V base ⟨.slice aw D.words.length cw,.slice ad D.dirty.length cd,.slice aS D.spans.length cS,.slice am D.muts.length cm,.slice ag D.grey.length cg,sv,mv⟩ D from by rw [hwd];exact st7.out.ext (below_drewN (Below.refl _ _) 1))
   clear hwd
   have hS:=zaa (show ∀ w',WoIn w w' n₀ B a len w.heap.size V base ⟨.slice aw D.words.length cw,.slice ad D.dirty.length cd,.slice aS D.spans.length cS,.slice am D.muts.length cm,.slice ag D.grey.length cg,sv,mv⟩ D→(fun w'=>w'.cell? ⟨V,0,none⟩=some (.int .i64 D.base)∧w'.cell? ⟨V,1,none⟩=some (.int .i64 D.pages)∧w'.cell? ⟨V,2,none⟩=some (.slice aw D.words.length cw)∧w'.cell? ⟨V,3,none⟩=some (.slice ad D.dirty.length cd)∧w'.cell? ⟨V,4,none⟩=some (.slice aS D.spans.length cS)∧w'.cell? ⟨V,5,none⟩=some (.slice am D.muts.length cm)∧w'.cell? ⟨V,6,none⟩=some (.int .i64 D.phase)∧w'.cell? ⟨V,7,none⟩=some (.int .i64 D.next)∧w'.cell? ⟨V,8,none⟩=some (.slice ag D.grey.length cg)) w' from fun w' s=>⟨s.var.cell 0 _ rfl,s.var.cell 1 _ rfl,s.var.cell 2 _ rfl,s.var.cell 3 _ rfl,s.var.cell 4 _ rfl,s.var.cell 5 _ rfl,s.var.cell 6 _ rfl,s.var.cell 7 _ rfl,s.var.cell 8 _ rfl⟩)
   have h0:=hS.out _ std.out
   have p8:=zaa std.out.some_
   refine Z9 (i:=0) (v:=?vq75) rfl (by kernel_rfl) (by kernel_rfl) (by kernel_rfl) rfl (fun _ _ _ h=>h) (Or.inl ⟨by rfl,?hq75⟩) (fun _=>h0) ?rq75
   case hq75=>(intro w _;go_simp;try with_reducible rfl)
   try simp only [Act.put,zab,zac,zad]
   refine Z9 (i:=1) (v:=?vq76) rfl (by kernel_rfl) (by kernel_rfl) (by kernel_rfl) rfl (fun _ _ _ h=>h) (Or.inl ⟨by rfl,?hq76⟩) (fun _=>h0) ?rq76
   case hq76=>(intro w _;go_simp;try with_reducible rfl)
   try simp only [Act.put,zab,zac,zad]
   refine X2 (i:=2) (v:=?vq77) rfl (by kernel_rfl) (by kernel_rfl) (by kernel_rfl) (by kernel_rfl) (fun j hj=>by simp at hj;subst hj;kernel_rfl) (fun _ _ _ h=>h) (Or.inl ⟨by rfl,?hq77⟩) (by exact h0) ?rq77
   case hq77=>(intro w hSw;(try dsimp only at hSw);obtain ⟨t0,t1,t2,t3,t4,t5,t6,t7,t8⟩:=hSw;go_simp;try with_reducible rfl)
   try simp only [Act.put,zab,zac,zad]
   refine Z9 (i:=3) (v:=?vq78) rfl (by kernel_rfl) (by kernel_rfl) (by kernel_rfl) rfl (fun _ _ _ h=>h) (Or.inl ⟨by rfl,?hq78⟩) (fun _=>h0) ?rq78
   case hq78=>(intro w _;go_simp;try with_reducible rfl)
   try simp only [Act.put,zab,zac,zad]
   refine X2 (i:=4) (v:=?vq79) rfl (by kernel_rfl) (by kernel_rfl) (by kernel_rfl) (by kernel_rfl) (fun j hj=>by simp at hj;subst hj;kernel_rfl) (fun _ _ _ h=>h) (Or.inl ⟨by rfl,?hq79⟩) (by exact h0) ?rq79
   case hq79=>(intro w hSw;(try dsimp only at hSw);obtain ⟨t0,t1,t2,t3,t4,t5,t6,t7,t8⟩:=hSw;go_simp;try with_reducible rfl)
   try simp only [Act.put,zab,zac,zad]
   refine V6 (rs:=[5]) (by kernel_rfl) (by simp) ?_
   intro i hi
   simp only [List.mem_cons,List.not_mem_nil,or_false] at hi
   subst hi
   refine X8 (i:=5) rfl (fun K hK=>?_)
   go_simp
   go_wp2_with (go_at_call 32;refine p8.out.mono ?_;rintro e w9 ⟨y,rfl,yI0,s8⟩;have st8:=zaa s8;have yI:=zaa yI0;have hown:=zaa s8.var.own.grey;have hbs:=zaa (show base≤(w9.alloc (.cells #[.int .i64 y] 3)).heap.size from Nat.le_trans (Nat.le_of_lt (Nat.lt_of_le_of_lt s8.var.le s8.var.lt)) (by simp));have src:=zaa (show N1 (w9.alloc (.cells #[.int .i64 y] 3)) (some ⟨w9.heap.size,0,none⟩) 1 1 ([y].map (Value.int .i64)) from ⟨rfl,fun j u hu=>⟨_,rfl,E0 _ _ _ j u hu⟩,by simp [Value.oneCell']⟩);clear s8 yI0)
   refine hK.out _ _ (fun _=>(hS.out _ st8.out)) ?_
   clear hK K
   try simp only [Act.put,zab,zac,zad]
   refine V6 (rs:=[6]) (by kernel_rfl) (by simp) ?_
   intro i hi
   simp only [List.mem_cons,List.not_mem_nil,or_false] at hi
   subst hi
   refine X8 (i:=6) rfl (fun K hK=>?_)
   go_simp
   refine hK.out _ _ (fun _=>(hS.out _ (st8.out.ext (Z5 w9 _)))) ?_
   clear hK K
   try simp only [Act.put,zab,zac,zad]
   refine V6 (rs:=[7]) (by kernel_rfl) (by simp) ?_
   intro i hi
   simp only [List.mem_cons,List.not_mem_nil,or_false] at hi
   subst hi
   refine X8 (i:=7) rfl (fun K hK=>?_)
   refine zen rfl (zrq (.tmp 102) (.tmp 106) rfl rfl (hown.out.alloc _) ⟨w9.heap.size,0,none⟩ 1 1 [y] rfl rfl src.out (by have:=hgl.out;omega) hbs.out ?_);intro v6 w6 q6 g6 f6;obtain ⟨⟨a6,c6,rfl⟩,b6,hv6⟩:=st8.out.grey_app yI.out _ _ q6 g6 f6;have y':=zaa hv6;have f9:=Z0 b6 8 (.slice ag D.grey.length cg) rfl;have z9:=Z3 b6 8;have h6:(fun w'=>w'.cell? ⟨V,0,none⟩=some (.int .i64 D.base)∧w'.cell? ⟨V,1,none⟩=some (.int .i64 D.pages)∧w'.cell? ⟨V,2,none⟩=some (.slice aw D.words.length cw)∧w'.cell? ⟨V,3,none⟩=some (.slice ad D.dirty.length cd)∧w'.cell? ⟨V,4,none⟩=some (.slice aS D.spans.length cS)∧w'.cell? ⟨V,5,none⟩=some (.slice am D.muts.length cm)∧w'.cell? ⟨V,6,none⟩=some (.int .i64 D.phase)∧w'.cell? ⟨V,7,none⟩=some (.int .i64 D.next)∧w'.cell? ⟨V,8,none⟩=some (.slice ag D.grey.length cg)) w6:=⟨Z0 b6 0 _ rfl,Z0 b6 1 _ rfl,Z0 b6 2 _ rfl,Z0 b6 3 _ rfl,Z0 b6 4 _ rfl,Z0 b6 5 _ rfl,Z0 b6 6 _ rfl,Z0 b6 7 _ rfl,Z0 b6 8 _ rfl⟩;clear q6 g6 f6 hv6 b6
   refine hK.out _ _ (fun _=>h6) ?_
   clear hK K
   try simp only [Act.put,zab,zac,zad]
   refine Z9 (i:=8) (v:=?vq83) rfl (by kernel_rfl) (by kernel_rfl) (by kernel_rfl) rfl (fun _ _ _ h=>h) (Or.inl ⟨by rfl,?hq83⟩) (fun _=>h6) ?rq83
   case hq83=>(intro w _;go_simp;try with_reducible rfl)
   try simp only [Act.put,zab,zac,zad]
   refine Z9 (i:=9) (v:=?vq84) rfl (by kernel_rfl) (by kernel_rfl) (by kernel_rfl) rfl (fun _ _ _ h=>h) (Or.inl ⟨by rfl,?hq84⟩) (fun _=>h6) ?rq84
   case hq84=>(intro w _;go_simp;try with_reducible rfl)
   try simp only [Act.put,zab,zac,zad]
   refine V6 (rs:=[10]) (by kernel_rfl) (by simp) ?_
   intro i hi
   simp only [List.mem_cons,List.not_mem_nil,or_false] at hi
   subst hi
   refine X8 (i:=10) rfl (fun K hK=>?_)
   go_simp
   refine hK.out _ _ (fun h=>Bool.noConfusion ((h 10 (by kernel_rfl)).symm.trans (show _=true by kernel_rfl))) ?_
   clear hK K
   try simp only [Act.put,zab,zac,zad]
   refine P3 (by kernel_rfl) ?_ _
   go_wp2_with fail
   go_meet
   case rel=>exact y'.out
  ·as_aux_lemma =>
   clear x0 x1
   have hml:=zaa (show D.muts.length≤3 by have h2:=st7.out.going.form.geo;unfold Geo at h2;omega)
   go_upto_region 28 with fail
   refine T6 (fun w'=>w'.cell? ⟨V,5,none⟩=some (.slice am D.muts.length cm)) (fun j=>j == 7) (by kernel_rfl) ?_
   intro wd hwd
   have std:=zaa (show WoIn w wd n₀ B a len w.heap.size V base ⟨.slice aw D.words.length cw,.slice ad D.dirty.length cd,.slice aS D.spans.length cS,.slice am D.muts.length cm,.slice ag D.grey.length cg,sv,mv⟩ D from by rw [hwd];exact st7.out.ext (below_drewN (Below.refl _ _) 1))
   clear hwd
   have hS:=zaa (show ∀ w',WoIn w w' n₀ B a len w.heap.size V base ⟨.slice aw D.words.length cw,.slice ad D.dirty.length cd,.slice aS D.spans.length cS,.slice am D.muts.length cm,.slice ag D.grey.length cg,sv,mv⟩ D→(fun w'=>w'.cell? ⟨V,5,none⟩=some (.slice am D.muts.length cm)) w' from fun w' s=>(s.var.cell 5 _ rfl))
   have h0:=hS.out _ std.out
   have mk6:∀ (w:World),(Instr.makeSlice 23 (.int .i64 6) (.int .i64 6)).run Tryz.prog w=.ok (.slice (some ⟨w.heap.size,0,none⟩) 6 6) (w.alloc (.cells (madeCells #[.int .i64 0] 6) 3)):=run_make_row' (P:=Tryz.prog) 23 3 (.int .i64 0) 8 Tryz.underlying23 E9 rfl .i64 .i64 6 (by omega) (by omega)
   have src:=zaa (show N1 ((wd.alloc (.cells (madeCells #[.int .i64 0] 6) 3)).alloc (.cells #[.slice (some ⟨wd.heap.size,0,none⟩) 6 6] 74)) (some ⟨wd.heap.size+1,0,none⟩) 1 1 [.slice (some ⟨wd.heap.size,0,none⟩) 6 6] from by
    have:=zln (wd.alloc (.cells (madeCells #[.int .i64 0] 6) 3)) (cs:=#[.slice (some ⟨wd.heap.size,0,none⟩) 6 6]) (T:=74) (m:=1) (size:=1) rfl (fun u hu=>by simp only [List.mem_singleton] at hu;subst hu;rfl)
    rw [World.size_alloc] at this
    exact this)
   have hown:=zaa (show ((wd.alloc (.cells (madeCells #[.int .i64 0] 6) 3)).alloc (.cells #[.slice (some ⟨wd.heap.size,0,none⟩) 6 6] 74)).ownsRow base 74 1 (.slice am D.muts.length cm) D.muts.length mv from Y9 std.out.var.own.muts (Z4 (Z5 wd _) (Z5 _ _)))
   have hbs:=zaa (show base≤((wd.alloc (.cells (madeCells #[.int .i64 0] 6) 3)).alloc (.cells #[.slice (some ⟨wd.heap.size,0,none⟩) 6 6] 74)).heap.size from Nat.le_trans (Nat.le_of_lt (Nat.lt_of_le_of_lt std.out.var.le std.out.var.lt)) (Z4 (Z5 wd _) (Z5 _ _)).size)
   refine Z9 (i:=0) (v:=?vq86) rfl (by kernel_rfl) (by kernel_rfl) (by kernel_rfl) rfl (fun _ _ _ h=>h) (Or.inl ⟨by rfl,?hq86⟩) (fun _=>h0) ?rq86
   case hq86=>(intro w _;go_simp;try with_reducible rfl)
   try simp only [Act.put,zab,zac,zad]
   refine X2 (i:=1) (v:=?vq87) rfl (by kernel_rfl) (by kernel_rfl) (by kernel_rfl) (by kernel_rfl) (fun j hj=>by simp at hj;subst hj;kernel_rfl) (fun _ _ _ h=>h) (Or.inl ⟨by rfl,?hq87⟩) (by exact h0) ?rq87
   case hq87=>(intro w hSw;(try dsimp only at hSw);obtain t0:=hSw;go_simp;try with_reducible rfl)
   try simp only [Act.put,zab,zac,zad]
   refine V6 (rs:=[2]) (by kernel_rfl) (by simp) ?_
   intro i hi
   simp only [List.mem_cons,List.not_mem_nil,or_false] at hi
   subst hi
   refine X8 (i:=2) rfl (fun K hK=>?_)
   go_simp
   refine hK.out _ _ (fun _=>(hS.out _ (std.out.ext (Z5 wd _)))) ?_
   clear hK K
   try simp only [Act.put,zab,zac,zad]
   refine Z9 (i:=3) (v:=?vq89) rfl (by kernel_rfl) (by kernel_rfl) (by kernel_rfl) rfl (fun _ _ _ h=>h) (Or.inl ⟨by rfl,?hq89⟩) (fun _=>(hS.out _ (std.out.ext (Z5 wd _)))) ?rq89
   case hq89=>(intro w _;go_simp;try with_reducible rfl)
   try simp only [Act.put,zab,zac,zad]
   refine V6 (rs:=[4]) (by kernel_rfl) (by simp) ?_
   intro i hi
   simp only [List.mem_cons,List.not_mem_nil,or_false] at hi
   subst hi
   refine X8 (i:=4) rfl (fun K hK=>?_)
   go_simp
   refine hK.out _ _ (fun _=>(hS.out _ (std.out.ext (Z4 (Z5 wd _) (Z5 _ _))))) ?_
   clear hK K
   try simp only [Act.put,zab,zac,zad]
   refine V6 (rs:=[5]) (by kernel_rfl) (by simp) ?_
   intro i hi
   simp only [List.mem_cons,List.not_mem_nil,or_false] at hi
   subst hi
   refine X8 (i:=5) rfl (fun K hK=>?_)
   refine zen rfl (zog (.tmp 113) (.tmp 116) 26 rfl base 74 (.agg #[.slice none 0 0]) 1 24 Tryz.underlying26 zpt (by rfl) (by decide) (.slice am D.muts.length cm) D.muts.length mv rfl hown.out (some ⟨wd.heap.size+1,0,none⟩) 1 1 [.slice (some ⟨wd.heap.size,0,none⟩) 6 6] rfl src.out (by have:=hml.out;unfold maxLen;omega) (by have:=hml.out;omega) hbs.out ?_);intro v6 w6 q6 g6;obtain ⟨⟨a6,c6,rfl⟩,b6,hv6⟩:=std.out.muts_app _ _ q6 g6;have y':=zaa hv6;have f9:=Z0 b6 5 (.slice am D.muts.length cm) rfl;have z9:=Z3 b6 5;have h6:(fun w'=>w'.cell? ⟨V,5,none⟩=some (.slice am D.muts.length cm)) w6:=f9;clear q6 g6 hv6 b6
   refine hK.out _ _ (fun _=>h6) ?_
   clear hK K
   try simp only [Act.put,zab,zac,zad]
   refine Z9 (i:=6) (v:=?vq92) rfl (by kernel_rfl) (by kernel_rfl) (by kernel_rfl) rfl (fun _ _ _ h=>h) (Or.inl ⟨by rfl,?hq92⟩) (fun _=>h6) ?rq92
   case hq92=>(intro w _;go_simp;try with_reducible rfl)
   try simp only [Act.put,zab,zac,zad]
   refine V6 (rs:=[7]) (by kernel_rfl) (by simp) ?_
   intro i hi
   simp only [List.mem_cons,List.not_mem_nil,or_false] at hi
   subst hi
   refine X8 (i:=7) rfl (fun K hK=>?_)
   go_simp
   refine hK.out _ _ (fun h=>Bool.noConfusion ((h 7 (by kernel_rfl)).symm.trans (show _=true by kernel_rfl))) ?_
   clear hK K
   try simp only [Act.put,zab,zac,zad]
   refine P3 (by kernel_rfl) ?_ _
   go_wp2_with fail
   go_meet
   case rel=>exact y'.out
  ·clear x0 x1
   have hml:0<D.muts.length:=by have h2:=st7.out.going.form.geo;unfold Geo at h2;omega
   have hm3:=zaa (show D.muts.length≤3 by have h2:=st7.out.going.form.geo;unfold Geo at h2;omega)
   obtain ⟨g,cap,hg⟩:=headM st7.out.var hml
   obtain ⟨rfl,rfl⟩:am=some ⟨g,0,none⟩∧cm=cap:=by simpa using hg
   obtain ⟨r,hr⟩:∃ r,D.muts[0]?=some r:=⟨_,List.getElem?_eq_getElem hml⟩
   obtain ⟨u,hmv⟩:∃ u,mv[0]?=some u:=⟨_,List.getElem?_eq_getElem (by have h1:mv.length=D.muts.length:=st7.out.var.own.mvl;omega)⟩
   have hr6:=st7.out.going.form.roots 0 r hr
   obtain ⟨gr,cr,hgr⟩:=N7 (st7.out.var.own.innerM 0 r u hr hmv) (by omega)
   subst hgr
   have hr':=zaa hr
   have hmv':=zaa (show (⟨.slice aw D.words.length cw,.slice ad D.dirty.length cd,.slice aS D.spans.length cS,.slice (some ⟨g,0,none⟩) D.muts.length cm,.slice ag D.grey.length cg,sv,mv⟩:Y2).mv[0]?=some (.slice (some ⟨gr,0,none⟩) r.length cr) from hmv)
   have hrl:=zaa (show 0<r.length by omega)
   have hl6:=zaa (show r.length≤6 by omega)
   have hm1:(0:Int)<(D.muts.length:Int):=by omega
   have hr1:(0:Int)<(r.length:Int):=by omega
   have hrl1:0<r.length:=hrl.out
   clear hr hmv hr6 hg
   go_upto_region 30 with fail
   refine T6 (fun w'=>w'.cell? ⟨V,0,none⟩=some (.int .i64 D.base)∧w'.cell? ⟨V,1,none⟩=some (.int .i64 D.pages)∧w'.cell? ⟨V,2,none⟩=some (.slice aw D.words.length cw)∧w'.cell? ⟨V,3,none⟩=some (.slice ad D.dirty.length cd)∧w'.cell? ⟨V,4,none⟩=some (.slice aS D.spans.length cS)∧w'.cell? ⟨V,5,none⟩=some (.slice (some ⟨g,0,none⟩) D.muts.length cm)∧w'.cell? ⟨V,6,none⟩=some (.int .i64 D.phase)∧w'.cell? ⟨V,7,none⟩=some (.int .i64 D.next)∧w'.cell? ⟨V,8,none⟩=some (.slice ag D.grey.length cg)∧w'.cell? ⟨g,0,none⟩=some (.slice (some ⟨gr,0,none⟩) r.length cr)) (fun j=>j == 9) (by kernel_rfl) ?_
   intro wd hwd
   have std:=zaa (show WoIn w wd n₀ B a len w.heap.size V base ⟨.slice aw D.words.length cw,.slice ad D.dirty.length cd,.slice aS D.spans.length cS,.slice (some ⟨g,0,none⟩) D.muts.length cm,.slice ag D.grey.length cg,sv,mv⟩ D from by rw [hwd];exact st7.out.ext (below_drewN (Below.refl _ _) 1))
   clear hwd
   have hS:=zaa (show ∀ w',WoIn w w' n₀ B a len w.heap.size V base ⟨.slice aw D.words.length cw,.slice ad D.dirty.length cd,.slice aS D.spans.length cS,.slice (some ⟨g,0,none⟩) D.muts.length cm,.slice ag D.grey.length cg,sv,mv⟩ D→(fun w'=>w'.cell? ⟨V,0,none⟩=some (.int .i64 D.base)∧w'.cell? ⟨V,1,none⟩=some (.int .i64 D.pages)∧w'.cell? ⟨V,2,none⟩=some (.slice aw D.words.length cw)∧w'.cell? ⟨V,3,none⟩=some (.slice ad D.dirty.length cd)∧w'.cell? ⟨V,4,none⟩=some (.slice aS D.spans.length cS)∧w'.cell? ⟨V,5,none⟩=some (.slice (some ⟨g,0,none⟩) D.muts.length cm)∧w'.cell? ⟨V,6,none⟩=some (.int .i64 D.phase)∧w'.cell? ⟨V,7,none⟩=some (.int .i64 D.next)∧w'.cell? ⟨V,8,none⟩=some (.slice ag D.grey.length cg)∧w'.cell? ⟨g,0,none⟩=some (.slice (some ⟨gr,0,none⟩) r.length cr)) w' from fun w' s=>⟨s.var.cell 0 _ rfl,s.var.cell 1 _ rfl,s.var.cell 2 _ rfl,s.var.cell 3 _ rfl,s.var.cell 4 _ rfl,s.var.cell 5 _ rfl,s.var.cell 6 _ rfl,s.var.cell 7 _ rfl,s.var.cell 8 _ rfl,(zyw s.var hmv'.out)⟩)
   have h0:=hS.out _ std.out
   have p8:=zaa std.out.some_
   refine Z9 (i:=0) (v:=?vq65) rfl (by kernel_rfl) (by kernel_rfl) (by kernel_rfl) rfl (fun _ _ _ h=>h) (Or.inl ⟨by rfl,?hq65⟩) (fun _=>h0) ?rq65
   case hq65=>(intro w _;go_simp;try with_reducible rfl)
   try simp only [Act.put,zab,zac,zad]
   refine X2 (i:=1) (v:=?vq66) rfl (by kernel_rfl) (by kernel_rfl) (by kernel_rfl) (by kernel_rfl) (fun j hj=>by simp at hj;subst hj;kernel_rfl) (fun _ _ _ h=>h) (Or.inl ⟨by rfl,?hq66⟩) (by exact h0) ?rq66
   case hq66=>(intro w hSw;(try dsimp only at hSw);obtain ⟨t0,t1,t2,t3,t4,t5,t6,t7,t8,t9⟩:=hSw;go_simp;try with_reducible rfl)
   try simp only [Act.put,zab,zac,zad]
   refine Z9 (i:=2) (v:=?vq67) rfl (by kernel_rfl) (by kernel_rfl) (by kernel_rfl) rfl (fun _ _ _ h=>h) (Or.inl ⟨by rfl,?hq67⟩) (fun _=>h0) ?rq67
   case hq67=>(intro w _;go_simp;try with_reducible rfl)
   try simp only [Act.put,zab,zac,zad]
   refine Z9 (i:=3) (v:=?vq68) rfl (by kernel_rfl) (by kernel_rfl) (by kernel_rfl) rfl (fun _ _ _ h=>h) (Or.inl ⟨by rfl,?hq68⟩) (fun _=>h0) ?rq68
   case hq68=>(intro w _;go_simp;try with_reducible rfl)
   try simp only [Act.put,zab,zac,zad]
   refine X2 (i:=4) (v:=?vq69) rfl (by kernel_rfl) (by kernel_rfl) (by kernel_rfl) (by kernel_rfl) (fun j hj=>by simp at hj;subst hj;kernel_rfl) (fun _ _ _ h=>h) (Or.inl ⟨by rfl,?hq69⟩) (by exact h0) ?rq69
   case hq69=>(intro w hSw;(try dsimp only at hSw);obtain ⟨t0,t1,t2,t3,t4,t5,t6,t7,t8,t9⟩:=hSw;go_simp;try with_reducible rfl)
   try simp only [Act.put,zab,zac,zad]
   refine Z9 (i:=5) (v:=?vq70) rfl (by kernel_rfl) (by kernel_rfl) (by kernel_rfl) rfl (fun _ _ _ h=>h) (Or.inl ⟨by rfl,?hq70⟩) (fun _=>h0) ?rq70
   case hq70=>(intro w _;go_simp;try with_reducible rfl)
   try simp only [Act.put,zab,zac,zad]
   refine X2 (i:=6) (v:=?vq71) rfl (by kernel_rfl) (by kernel_rfl) (by kernel_rfl) (by kernel_rfl) (fun j hj=>by simp at hj;subst hj;kernel_rfl) (fun _ _ _ h=>h) (Or.inl ⟨by rfl,?hq71⟩) (by exact h0) ?rq71
   case hq71=>(intro w hSw;(try dsimp only at hSw);obtain ⟨t0,t1,t2,t3,t4,t5,t6,t7,t8,t9⟩:=hSw;go_simp;try with_reducible rfl)
   try simp only [Act.put,zab,zac,zad]
   refine V6 (rs:=[7]) (by kernel_rfl) (by simp) ?_
   intro i hi
   simp only [List.mem_cons,List.not_mem_nil,or_false] at hi
   subst hi
   refine X8 (i:=7) rfl (fun K hK=>?_)
   go_simp
   go_wp2_with (go_at_call 32;refine p8.out.mono ?_;rintro e w9 ⟨y,rfl,yI0,s8⟩;have st8:=zaa s8;have yI:=zaa yI0;have r9:=s8.var.own.innerM 0 r _ hr'.out hmv'.out;have f9:=(Y7 r9 rfl 0 hrl.out).1;have z9:=(Y7 r9 rfl 0 hrl.out).2;have y':=zaa (BeIn.of_var s8 (s8.var.root (g:=gr) (cap:=cr) 0 0 r (.slice (some ⟨gr,0,none⟩) r.length cr) y hr'.out hmv'.out rfl).2 (s8.var.root (g:=gr) (cap:=cr) 0 0 r (.slice (some ⟨gr,0,none⟩) r.length cr) y hr'.out hmv'.out rfl).1 (s8.going.bent_root hr'.out yI.out));clear s8 yI0 r9)
   refine hK.out _ _ (fun _=>(hS.out _ st8.out)) ?_
   clear hK K
   try simp only [Act.put,zab,zac,zad]
   refine Z9 (i:=8) (v:=?vq73) rfl (by kernel_rfl) (by kernel_rfl) (by kernel_rfl) rfl (fun _ _ _ h=>h) (Or.inl ⟨by rfl,?hq73⟩) (fun _=>(hS.out _ st8.out)) ?rq73
   case hq73=>(intro w _;go_simp;try with_reducible rfl)
   try simp only [Act.put,zab,zac,zad]
   refine V6 (rs:=[9]) (by kernel_rfl) (by simp) ?_
   intro i hi
   simp only [List.mem_cons,List.not_mem_nil,or_false] at hi
   subst hi
   refine X8 (i:=9) rfl (fun K hK=>?_)
   go_simp
   refine hK.out _ _ (fun h=>Bool.noConfusion ((h 9 (by kernel_rfl)).symm.trans (show _=true by kernel_rfl))) ?_
   clear hK K
   try simp only [Act.put,zab,zac,zad]
   refine P3 (by kernel_rfl) ?_ _
   go_wp2_with fail
   go_meet
   case rel=>exact ⟨_,_,y'.out⟩
  ·clear x0 x1
   have f4:=st7.out.var.cell 4 (.slice aS D.spans.length cS) rfl
   by_cases hs:0<D.spans.length
   case neg =>
    have hs0:D.spans.length=0:=by omega
    have hs1:((D.spans.length:Int) > 0)=False:=by simp [hs0]
    have hs2:decide (0<D.spans.length)=false:=by simp [hs0]
    have y':=zaa st7.out.be
    clear hs0
    go_wp2_with fail
    go_meet
    case rel=>exact ⟨_,_,y'.out⟩
   have hKl:=zaa (show Kx<D.spans.length by rcases hKx.out with h | h <;> omega)
   obtain ⟨g,cap,hg⟩:=st7.out.var.headS hs
   obtain ⟨rfl,rfl⟩:aS=some ⟨g,0,none⟩∧cS=cap:=by simpa using hg
   clear hg
   obtain ⟨s,hks⟩:∃ s,D.spans[Kx]?=some s:=⟨_,List.getElem?_eq_getElem hKl.out⟩
   obtain ⟨p,hp⟩:=st7.out.var.svAt hks
   obtain ⟨vl,vp⟩:=p
   have hks':=zaa hks
   have hp':=zaa hp
   have hKi:(Kx:Int)<(D.spans.length:Int):=by have:=hKl.out;omega
   have hsl:=zaa (show D.spans.length≤12 by have h1:=st7.out.going.form.spans;have h2:=st7.out.going.form.geo;unfold Geo at h2;omega)
   clear hks hp hs
   go_upto_region 33 with fail
   clear f4
   refine T6 (fun w'=>w'.cell? ⟨V,4,none⟩=some (.slice (some ⟨g,0,none⟩) D.spans.length cS)∧w'.cell? ⟨g,Kx*6+2,none⟩=some (.int .i64 s.mark)) (fun j=>j == 15) (by kernel_rfl) ?_
   intro wd hwd
   have std:=zaa (show WoIn w wd n₀ B a len w.heap.size V base ⟨.slice aw D.words.length cw,.slice ad D.dirty.length cd,.slice (some ⟨g,0,none⟩) D.spans.length cS,.slice am D.muts.length cm,.slice ag D.grey.length cg,sv,mv⟩ D from by rw [hwd];exact st7.out.ext (below_drewN (Below.refl _ _) 1))
   clear hwd
   have hS:=zaa (show ∀ w',WoIn w w' n₀ B a len w.heap.size V base ⟨.slice aw D.words.length cw,.slice ad D.dirty.length cd,.slice (some ⟨g,0,none⟩) D.spans.length cS,.slice am D.muts.length cm,.slice ag D.grey.length cg,sv,mv⟩ D→(fun w'=>w'.cell? ⟨V,4,none⟩=some (.slice (some ⟨g,0,none⟩) D.spans.length cS)∧w'.cell? ⟨g,Kx*6+2,none⟩=some (.int .i64 s.mark)) w' from fun w' s'=>⟨s'.var.cell 4 _ rfl,(s'.var.six rfl hks'.out hp'.out).2.2.1⟩)
   have h0:=hS.out _ std.out
   have p8:=zaa (std.out.below 5 (by decide))
   refine Z9 (i:=0) (v:=?vq25) rfl (by kernel_rfl) (by kernel_rfl) (by kernel_rfl) rfl (fun _ _ _ h=>h) (Or.inl ⟨by rfl,?hq25⟩) (fun _=>h0) ?rq25
   case hq25=>(intro w _;go_simp;try with_reducible rfl)
   try simp only [Act.put,zab,zac,zad]
   refine X2 (i:=1) (v:=?vq26) rfl (by kernel_rfl) (by kernel_rfl) (by kernel_rfl) (by kernel_rfl) (fun j hj=>by simp at hj;subst hj;kernel_rfl) (fun _ _ _ h=>h) (Or.inl ⟨by rfl,?hq26⟩) (by exact h0) ?rq26
   case hq26=>(intro w hSw;(try dsimp only at hSw);obtain ⟨t0,t1⟩:=hSw;go_simp;try with_reducible rfl)
   try simp only [Act.put,zab,zac,zad]
   refine Z9 (i:=2) (v:=?vq27) rfl (by kernel_rfl) (by kernel_rfl) (by kernel_rfl) rfl (fun _ _ _ h=>h) (Or.inl ⟨by rfl,?hq27⟩) (fun _=>h0) ?rq27
   case hq27=>(intro w _;go_simp;try with_reducible rfl)
   try simp only [Act.put,zab,zac,zad]
   refine Z9 (i:=3) (v:=?vq28) rfl (by kernel_rfl) (by kernel_rfl) (by kernel_rfl) rfl (fun _ _ _ h=>h) (Or.inl ⟨by rfl,?hq28⟩) (fun _=>h0) ?rq28
   case hq28=>(intro w _;go_simp;try with_reducible rfl)
   try simp only [Act.put,zab,zac,zad]
   refine X2 (i:=4) (v:=?vq29) rfl (by kernel_rfl) (by kernel_rfl) (by kernel_rfl) (by kernel_rfl) (fun j hj=>by simp at hj;subst hj;kernel_rfl) (fun _ _ _ h=>h) (Or.inl ⟨by rfl,?hq29⟩) (by exact h0) ?rq29
   case hq29=>(intro w hSw;(try dsimp only at hSw);obtain ⟨t0,t1⟩:=hSw;go_simp;try with_reducible rfl)
   try simp only [Act.put,zab,zac,zad]
   refine Z9 (i:=5) (v:=?vq30) rfl (by kernel_rfl) (by kernel_rfl) (by kernel_rfl) rfl (fun _ _ _ h=>h) (Or.inl ⟨by rfl,?hq30⟩) (fun _=>h0) ?rq30
   case hq30=>(intro w _;go_simp;try with_reducible rfl)
   try simp only [Act.put,zab,zac,zad]
   refine Z9 (i:=6) (v:=?vq31) rfl (by kernel_rfl) (by kernel_rfl) (by kernel_rfl) rfl (fun _ _ _ h=>h) (Or.inl ⟨by rfl,?hq31⟩) (fun _=>h0) ?rq31
   case hq31=>(intro w _;go_simp;try with_reducible rfl)
   try simp only [Act.put,zab,zac,zad]
   refine Z9 (i:=7) (v:=?vq32) rfl (by kernel_rfl) (by kernel_rfl) (by kernel_rfl) rfl (fun _ _ _ h=>h) (Or.inl ⟨by rfl,?hq32⟩) (fun _=>h0) ?rq32
   case hq32=>(intro w _;go_simp;try with_reducible rfl)
   try simp only [Act.put,zab,zac,zad]
   refine X2 (i:=8) (v:=?vq33) rfl (by kernel_rfl) (by kernel_rfl) (by kernel_rfl) (by kernel_rfl) (fun j hj=>by simp at hj;subst hj;kernel_rfl) (fun _ _ _ h=>h) (Or.inl ⟨by rfl,?hq33⟩) (by exact h0) ?rq33
   case hq33=>(intro w hSw;(try dsimp only at hSw);obtain ⟨t0,t1⟩:=hSw;go_simp;try with_reducible rfl)
   try simp only [Act.put,zab,zac,zad]
   refine Z9 (i:=9) (v:=?vq34) rfl (by kernel_rfl) (by kernel_rfl) (by kernel_rfl) rfl (fun _ _ _ h=>h) (Or.inl ⟨by rfl,?hq34⟩) (fun _=>h0) ?rq34
   case hq34=>(intro w _;go_simp;try with_reducible rfl)
   try simp only [Act.put,zab,zac,zad]
   refine V6 (rs:=[10]) (by kernel_rfl) (by simp) ?_
   intro i hi
   simp only [List.mem_cons,List.not_mem_nil,or_false] at hi
   subst hi
   refine X8 (i:=10) rfl (fun K hK=>?_)
   go_simp
   go_wp2_with (go_at_call 31;refine p8.out.mono ?_;rintro e w9 ⟨y,rfl,y0,y1,s8⟩;have st8:=zaa s8;have yb:=zaa (show 0≤y∧y<5 from ⟨y0,y1⟩);have f9:=(s8.var.spanAt rfl hks'.out hp'.out 2 (by omega));have z9:=s8.var.frzS rfl (Kx*6+2);have y':=zaa (fun m:Int=>fun hm:I64 m=>BeIn.of_var s8 (s8.var.mark rfl Kx s (vl,vp) m hks'.out hp'.out).2 (s8.var.mark rfl Kx s (vl,vp) m hks'.out hp'.out).1 (s8.going.bent_span hks'.out (have F:=s8.going.fit.spans s (List.mem_of_getElem? hks'.out);⟨F.page,F.cls,hm,F.lens,F.ptrs⟩) rfl));clear s8)
   refine hK.out _ _ (fun _=>(hS.out _ st8.out)) ?_
   clear hK K
   try simp only [Act.put,zab,zac,zad]
   refine Z9 (i:=11) (v:=?vq36) rfl (by kernel_rfl) (by kernel_rfl) (by kernel_rfl) rfl (fun _ _ _ h=>h) (Or.inl ⟨by rfl,?hq36⟩) (fun _=>(hS.out _ st8.out)) ?rq36
   case hq36=>(intro w _;go_simp;try with_reducible rfl)
   try simp only [Act.put,zab,zac,zad]
   refine Z9 (i:=12) (v:=?vq37) rfl (by kernel_rfl) (by kernel_rfl) (by kernel_rfl) rfl (fun _ _ _ h=>h) (Or.inl ⟨by rfl,?hq37⟩) (fun _=>(hS.out _ st8.out)) ?rq37
   case hq37=>(intro w _;go_simp;try with_reducible rfl)
   try simp only [Act.put,zab,zac,zad]
   refine Z9 (i:=13) (v:=?vq38) rfl (by kernel_rfl) (by kernel_rfl) (by kernel_rfl) rfl (fun _ _ _ h=>h) (Or.inl ⟨by rfl,?hq38⟩) (fun _=>(hS.out _ st8.out)) ?rq38
   case hq38=>(intro w _;go_simp;try with_reducible rfl)
   try simp only [Act.put,zab,zac,zad]
   refine Z9 (i:=14) (v:=?vq39) rfl (by kernel_rfl) (by kernel_rfl) (by kernel_rfl) rfl (fun _ _ _ h=>h) (Or.inl ⟨by rfl,?hq39⟩) (fun _=>(hS.out _ st8.out)) ?rq39
   case hq39=>(intro w _;go_simp;try with_reducible rfl)
   try simp only [Act.put,zab,zac,zad]
   refine V6 (rs:=[15]) (by kernel_rfl) (by simp) ?_
   intro i hi
   simp only [List.mem_cons,List.not_mem_nil,or_false] at hi
   subst hi
   refine X8 (i:=15) rfl (fun K hK=>?_)
   go_simp
   refine hK.out _ _ (fun h=>Bool.noConfusion ((h 15 (by kernel_rfl)).symm.trans (show _=true by kernel_rfl))) ?_
   clear hK K
   try simp only [Act.put,zab,zac,zad]
   refine P3 (by kernel_rfl) ?_ _
   go_wp2_with fail
   go_meet
   case rel=>exact ⟨_,_,y'.out _ (zrc _)⟩
  ·clear x0 x1
   have f4:=st7.out.var.cell 4 (.slice aS D.spans.length cS) rfl
   by_cases hs:0<D.spans.length
   case neg =>
    have hs0:D.spans.length=0:=by omega
    have hs1:((D.spans.length:Int) > 0)=False:=by simp [hs0]
    have hs2:decide (0<D.spans.length)=false:=by simp [hs0]
    have y':=zaa st7.out.be
    clear hs0
    go_wp2_with fail
    go_meet
    case rel=>exact ⟨_,_,y'.out⟩
   have hKl:=zaa (show Kx<D.spans.length by rcases hKx.out with h | h <;> omega)
   obtain ⟨g,cap,hg⟩:=st7.out.var.headS hs
   obtain ⟨rfl,rfl⟩:aS=some ⟨g,0,none⟩∧cS=cap:=by simpa using hg
   clear hg
   obtain ⟨s,hks⟩:∃ s,D.spans[Kx]?=some s:=⟨_,List.getElem?_eq_getElem hKl.out⟩
   obtain ⟨p,hp⟩:=st7.out.var.svAt hks
   obtain ⟨vl,vp⟩:=p
   have hks':=zaa hks
   have hp':=zaa hp
   have hKi:(Kx:Int)<(D.spans.length:Int):=by have:=hKl.out;omega
   have hsl:=zaa (show D.spans.length≤12 by have h1:=st7.out.going.form.spans;have h2:=st7.out.going.form.geo;unfold Geo at h2;omega)
   clear hks hp hs
   have hll:=zaa (show 0<s.lens.length by have A:=st7.out.going.form.span Kx s hks'.out;have h1:=A.lens;have h2:=A.cls;have h3:=(E7 s.cls).1;omega)
   have hl2:=zaa (show s.lens.length≤16 by have A:=st7.out.going.form.span Kx s hks'.out;have h1:=A.lens;have h3:=(E7 s.cls).2;omega)
   obtain ⟨gl,cl,hgl⟩:=N7 (st7.out.var.own.inner Kx s _ hks'.out hp'.out).1 hll.out
   subst hgl
   have hl1:0<s.lens.length:=hll.out
   go_upto_region 36 with fail
   clear f4
   refine T6 (fun w'=>w'.cell? ⟨V,4,none⟩=some (.slice (some ⟨g,0,none⟩) D.spans.length cS)∧w'.cell? ⟨g,Kx*6+4,none⟩=some (.slice (some ⟨gl,0,none⟩) s.lens.length cl)) (fun j=>j == 10) (by kernel_rfl) ?_
   intro wd hwd
   have std:=zaa (show WoIn w wd n₀ B a len w.heap.size V base ⟨.slice aw D.words.length cw,.slice ad D.dirty.length cd,.slice (some ⟨g,0,none⟩) D.spans.length cS,.slice am D.muts.length cm,.slice ag D.grey.length cg,sv,mv⟩ D from by rw [hwd];exact st7.out.ext (below_drewN (Below.refl _ _) 1))
   clear hwd
   have hS:=zaa (show ∀ w',WoIn w w' n₀ B a len w.heap.size V base ⟨.slice aw D.words.length cw,.slice ad D.dirty.length cd,.slice (some ⟨g,0,none⟩) D.spans.length cS,.slice am D.muts.length cm,.slice ag D.grey.length cg,sv,mv⟩ D→(fun w'=>w'.cell? ⟨V,4,none⟩=some (.slice (some ⟨g,0,none⟩) D.spans.length cS)∧w'.cell? ⟨g,Kx*6+4,none⟩=some (.slice (some ⟨gl,0,none⟩) s.lens.length cl)) w' from fun w' s'=>⟨s'.var.cell 4 _ rfl,(s'.var.six rfl hks'.out hp'.out).2.2.2.2.1⟩)
   have h0:=hS.out _ std.out
   have p8:=zaa (std.out.pick 3 [0,1,2,17,-1] (by simp))
   refine Z9 (i:=0) (v:=?vq54) rfl (by kernel_rfl) (by kernel_rfl) (by kernel_rfl) rfl (fun _ _ _ h=>h) (Or.inl ⟨by rfl,?hq54⟩) (fun _=>h0) ?rq54
   case hq54=>(intro w _;go_simp;try with_reducible rfl)
   try simp only [Act.put,zab,zac,zad]
   refine X2 (i:=1) (v:=?vq55) rfl (by kernel_rfl) (by kernel_rfl) (by kernel_rfl) (by kernel_rfl) (fun j hj=>by simp at hj;subst hj;kernel_rfl) (fun _ _ _ h=>h) (Or.inl ⟨by rfl,?hq55⟩) (by exact h0) ?rq55
   case hq55=>(intro w hSw;(try dsimp only at hSw);obtain ⟨t0,t1⟩:=hSw;go_simp;try with_reducible rfl)
   try simp only [Act.put,zab,zac,zad]
   refine Z9 (i:=2) (v:=?vq56) rfl (by kernel_rfl) (by kernel_rfl) (by kernel_rfl) rfl (fun _ _ _ h=>h) (Or.inl ⟨by rfl,?hq56⟩) (fun _=>h0) ?rq56
   case hq56=>(intro w _;go_simp;try with_reducible rfl)
   try simp only [Act.put,zab,zac,zad]
   refine Z9 (i:=3) (v:=?vq57) rfl (by kernel_rfl) (by kernel_rfl) (by kernel_rfl) rfl (fun _ _ _ h=>h) (Or.inl ⟨by rfl,?hq57⟩) (fun _=>h0) ?rq57
   case hq57=>(intro w _;go_simp;try with_reducible rfl)
   try simp only [Act.put,zab,zac,zad]
   refine Z9 (i:=4) (v:=?vq58) rfl (by kernel_rfl) (by kernel_rfl) (by kernel_rfl) rfl (fun _ _ _ h=>h) (Or.inl ⟨by rfl,?hq58⟩) (fun _=>h0) ?rq58
   case hq58=>(intro w _;go_simp;try with_reducible rfl)
   try simp only [Act.put,zab,zac,zad]
   refine X2 (i:=5) (v:=?vq59) rfl (by kernel_rfl) (by kernel_rfl) (by kernel_rfl) (by kernel_rfl) (fun j hj=>by simp at hj;subst hj;kernel_rfl) (fun _ _ _ h=>h) (Or.inl ⟨by rfl,?hq59⟩) (by exact h0) ?rq59
   case hq59=>(intro w hSw;(try dsimp only at hSw);obtain ⟨t0,t1⟩:=hSw;go_simp;try with_reducible rfl)
   try simp only [Act.put,zab,zac,zad]
   refine Z9 (i:=6) (v:=?vq60) rfl (by kernel_rfl) (by kernel_rfl) (by kernel_rfl) rfl (fun _ _ _ h=>h) (Or.inl ⟨by rfl,?hq60⟩) (fun _=>h0) ?rq60
   case hq60=>(intro w _;go_simp;try with_reducible rfl)
   try simp only [Act.put,zab,zac,zad]
   refine V6 (rs:=[7]) (by kernel_rfl) (by simp) ?_
   intro i hi
   simp only [List.mem_cons,List.not_mem_nil,or_false] at hi
   subst hi
   refine X8 (i:=7) rfl (fun K hK=>?_)
   go_simp
   refine hK.out _ _ (fun _=>(hS.out _ (std.out.ext (Z5 wd _)))) ?_
   clear hK K
   try simp only [Act.put,zab,zac,zad]
   refine V6 (rs:=[8]) (by kernel_rfl) (by simp) ?_
   intro i hi
   simp only [List.mem_cons,List.not_mem_nil,or_false] at hi
   subst hi
   refine X8 (i:=8) rfl (fun K hK=>?_)
   go_simp
   go_wp2_with (go_at_call 72;refine p8.out.mono ?_;rintro e w9 ⟨y,rfl,yin,s8⟩;have st8:=zaa s8;have yI:=zaa (show I64 y by simp only [List.mem_cons,List.not_mem_nil,or_false] at yin;unfold I64;omega);have r9:=(s8.var.own.inner Kx s _ hks'.out hp'.out).1;have f9:=(Y7 r9 rfl 0 hll.out).1;have z9:=(Y7 r9 rfl 0 hll.out).2;have y':=zaa (BeIn.of_var s8 (s8.var.lens (g:=gl) (cap:=cl) Kx 0 s (.slice (some ⟨gl,0,none⟩) s.lens.length cl,vp) y hks'.out hp'.out rfl).2 (s8.var.lens (g:=gl) (cap:=cl) Kx 0 s (.slice (some ⟨gl,0,none⟩) s.lens.length cl,vp) y hks'.out hp'.out rfl).1 (s8.going.bent_span hks'.out (have F:=s8.going.fit.spans s (List.mem_of_getElem? hks'.out);⟨F.page,F.cls,F.mark,zpz F.lens 0 yI.out,F.ptrs⟩) (by simp [Y3.bulk])));clear s8 yin r9)
   refine hK.out _ _ (fun _=>(hS.out _ st8.out)) ?_
   clear hK K
   try simp only [Act.put,zab,zac,zad]
   refine Z9 (i:=9) (v:=?vq63) rfl (by kernel_rfl) (by kernel_rfl) (by kernel_rfl) rfl (fun _ _ _ h=>h) (Or.inl ⟨by rfl,?hq63⟩) (fun _=>(hS.out _ st8.out)) ?rq63
   case hq63=>(intro w _;go_simp;try with_reducible rfl)
   try simp only [Act.put,zab,zac,zad]
   refine V6 (rs:=[10]) (by kernel_rfl) (by simp) ?_
   intro i hi
   simp only [List.mem_cons,List.not_mem_nil,or_false] at hi
   subst hi
   refine X8 (i:=10) rfl (fun K hK=>?_)
   go_simp
   refine hK.out _ _ (fun h=>Bool.noConfusion ((h 10 (by kernel_rfl)).symm.trans (show _=true by kernel_rfl))) ?_
   clear hK K
   try simp only [Act.put,zab,zac,zad]
   refine P3 (by kernel_rfl) ?_ _
   go_wp2_with fail
   go_meet
   case rel=>exact ⟨_,_,y'.out⟩
  ·clear x0 x1
   have f4:=st7.out.var.cell 4 (.slice aS D.spans.length cS) rfl
   by_cases hs:0<D.spans.length
   case neg =>
    have hs0:D.spans.length=0:=by omega
    have hs1:((D.spans.length:Int) > 0)=False:=by simp [hs0]
    have hs2:decide (0<D.spans.length)=false:=by simp [hs0]
    have y':=zaa st7.out.be
    clear hs0
    go_wp2_with fail
    go_meet
    case rel=>exact ⟨_,_,y'.out⟩
   have hKl:=zaa (show Kx<D.spans.length by rcases hKx.out with h | h <;> omega)
   obtain ⟨g,cap,hg⟩:=st7.out.var.headS hs
   obtain ⟨rfl,rfl⟩:aS=some ⟨g,0,none⟩∧cS=cap:=by simpa using hg
   clear hg
   obtain ⟨s,hks⟩:∃ s,D.spans[Kx]?=some s:=⟨_,List.getElem?_eq_getElem hKl.out⟩
   obtain ⟨p,hp⟩:=st7.out.var.svAt hks
   obtain ⟨vl,vp⟩:=p
   have hks':=zaa hks
   have hp':=zaa hp
   have hKi:(Kx:Int)<(D.spans.length:Int):=by have:=hKl.out;omega
   have hsl:=zaa (show D.spans.length≤12 by have h1:=st7.out.going.form.spans;have h2:=st7.out.going.form.geo;unfold Geo at h2;omega)
   clear hks hp hs
   go_upto_region 39 with fail
   clear f4
   refine T6 (fun w'=>w'.cell? ⟨V,4,none⟩=some (.slice (some ⟨g,0,none⟩) D.spans.length cS)∧w'.cell? ⟨g,Kx*6+3,none⟩=some (.bool s.swept)) (fun j=>j == 12) (by kernel_rfl) ?_
   intro wd hwd
   have std:=zaa (show WoIn w wd n₀ B a len w.heap.size V base ⟨.slice aw D.words.length cw,.slice ad D.dirty.length cd,.slice (some ⟨g,0,none⟩) D.spans.length cS,.slice am D.muts.length cm,.slice ag D.grey.length cg,sv,mv⟩ D from by rw [hwd];exact st7.out.ext (below_drewN (Below.refl _ _) 1))
   clear hwd
   have hS:=zaa (show ∀ w',WoIn w w' n₀ B a len w.heap.size V base ⟨.slice aw D.words.length cw,.slice ad D.dirty.length cd,.slice (some ⟨g,0,none⟩) D.spans.length cS,.slice am D.muts.length cm,.slice ag D.grey.length cg,sv,mv⟩ D→(fun w'=>w'.cell? ⟨V,4,none⟩=some (.slice (some ⟨g,0,none⟩) D.spans.length cS)∧w'.cell? ⟨g,Kx*6+3,none⟩=some (.bool s.swept)) w' from fun w' s'=>⟨s'.var.cell 4 _ rfl,(s'.var.six rfl hks'.out hp'.out).2.2.2.1⟩)
   have h0:=hS.out _ std.out
   have f9:=(std.out.var.spanAt rfl hks'.out hp'.out 3 (by omega))
   have z9:=std.out.var.frzS rfl (Kx*6+3)
   have y':=zaa (BeIn.of_var std.out (std.out.var.swept rfl Kx s (vl,vp) (!s.swept) hks'.out hp'.out).2 (std.out.var.swept rfl Kx s (vl,vp) (!s.swept) hks'.out hp'.out).1 (std.out.going.bent_span hks'.out (have F:=std.out.going.fit.spans s (List.mem_of_getElem? hks'.out);⟨F.page,F.cls,F.mark,F.lens,F.ptrs⟩) rfl))
   refine Z9 (i:=0) (v:=?vq41) rfl (by kernel_rfl) (by kernel_rfl) (by kernel_rfl) rfl (fun _ _ _ h=>h) (Or.inl ⟨by rfl,?hq41⟩) (fun _=>h0) ?rq41
   case hq41=>(intro w _;go_simp;try with_reducible rfl)
   try simp only [Act.put,zab,zac,zad]
   refine X2 (i:=1) (v:=?vq42) rfl (by kernel_rfl) (by kernel_rfl) (by kernel_rfl) (by kernel_rfl) (fun j hj=>by simp at hj;subst hj;kernel_rfl) (fun _ _ _ h=>h) (Or.inl ⟨by rfl,?hq42⟩) (by exact h0) ?rq42
   case hq42=>(intro w hSw;(try dsimp only at hSw);obtain ⟨t0,t1⟩:=hSw;go_simp;try with_reducible rfl)
   try simp only [Act.put,zab,zac,zad]
   refine Z9 (i:=2) (v:=?vq43) rfl (by kernel_rfl) (by kernel_rfl) (by kernel_rfl) rfl (fun _ _ _ h=>h) (Or.inl ⟨by rfl,?hq43⟩) (fun _=>h0) ?rq43
   case hq43=>(intro w _;go_simp;try with_reducible rfl)
   try simp only [Act.put,zab,zac,zad]
   refine Z9 (i:=3) (v:=?vq44) rfl (by kernel_rfl) (by kernel_rfl) (by kernel_rfl) rfl (fun _ _ _ h=>h) (Or.inl ⟨by rfl,?hq44⟩) (fun _=>h0) ?rq44
   case hq44=>(intro w _;go_simp;try with_reducible rfl)
   try simp only [Act.put,zab,zac,zad]
   refine X2 (i:=4) (v:=?vq45) rfl (by kernel_rfl) (by kernel_rfl) (by kernel_rfl) (by kernel_rfl) (fun j hj=>by simp at hj;subst hj;kernel_rfl) (fun _ _ _ h=>h) (Or.inl ⟨by rfl,?hq45⟩) (by exact h0) ?rq45
   case hq45=>(intro w hSw;(try dsimp only at hSw);obtain ⟨t0,t1⟩:=hSw;go_simp;try with_reducible rfl)
   try simp only [Act.put,zab,zac,zad]
   refine Z9 (i:=5) (v:=?vq46) rfl (by kernel_rfl) (by kernel_rfl) (by kernel_rfl) rfl (fun _ _ _ h=>h) (Or.inl ⟨by rfl,?hq46⟩) (fun _=>h0) ?rq46
   case hq46=>(intro w _;go_simp;try with_reducible rfl)
   try simp only [Act.put,zab,zac,zad]
   refine Z9 (i:=6) (v:=?vq47) rfl (by kernel_rfl) (by kernel_rfl) (by kernel_rfl) rfl (fun _ _ _ h=>h) (Or.inl ⟨by rfl,?hq47⟩) (fun _=>h0) ?rq47
   case hq47=>(intro w _;go_simp;try with_reducible rfl)
   try simp only [Act.put,zab,zac,zad]
   refine Z9 (i:=7) (v:=?vq48) rfl (by kernel_rfl) (by kernel_rfl) (by kernel_rfl) rfl (fun _ _ _ h=>h) (Or.inl ⟨by rfl,?hq48⟩) (fun _=>h0) ?rq48
   case hq48=>(intro w _;go_simp;try with_reducible rfl)
   try simp only [Act.put,zab,zac,zad]
   refine X2 (i:=8) (v:=?vq49) rfl (by kernel_rfl) (by kernel_rfl) (by kernel_rfl) (by kernel_rfl) (fun j hj=>by simp at hj;subst hj;kernel_rfl) (fun _ _ _ h=>h) (Or.inl ⟨by rfl,?hq49⟩) (by exact h0) ?rq49
   case hq49=>(intro w hSw;(try dsimp only at hSw);obtain ⟨t0,t1⟩:=hSw;go_simp;try with_reducible rfl)
   try simp only [Act.put,zab,zac,zad]
   refine Z9 (i:=9) (v:=?vq50) rfl (by kernel_rfl) (by kernel_rfl) (by kernel_rfl) rfl (fun _ _ _ h=>h) (Or.inl ⟨by rfl,?hq50⟩) (fun _=>h0) ?rq50
   case hq50=>(intro w _;go_simp;try with_reducible rfl)
   try simp only [Act.put,zab,zac,zad]
   refine Z9 (i:=10) (v:=?vq51) rfl (by kernel_rfl) (by kernel_rfl) (by kernel_rfl) rfl (fun _ _ _ h=>h) (Or.inl ⟨by rfl,?hq51⟩) (fun _=>h0) ?rq51
   case hq51=>(intro w _;go_simp;try with_reducible rfl)
   try simp only [Act.put,zab,zac,zad]
   refine Z9 (i:=11) (v:=?vq52) rfl (by kernel_rfl) (by kernel_rfl) (by kernel_rfl) rfl (fun _ _ _ h=>h) (Or.inl ⟨by rfl,?hq52⟩) (fun _=>h0) ?rq52
   case hq52=>(intro w _;go_simp;try with_reducible rfl)
   try simp only [Act.put,zab,zac,zad]
   refine V6 (rs:=[12]) (by kernel_rfl) (by simp) ?_
   intro i hi
   simp only [List.mem_cons,List.not_mem_nil,or_false] at hi
   subst hi
   refine X8 (i:=12) rfl (fun K hK=>?_)
   go_simp
   refine hK.out _ _ (fun h=>Bool.noConfusion ((h 12 (by kernel_rfl)).symm.trans (show _=true by kernel_rfl))) ?_
   clear hK K
   try simp only [Act.put,zab,zac,zad]
   refine P3 (by kernel_rfl) ?_ _
   go_wp2_with fail
   go_meet
   case rel=>exact ⟨_,_,y'.out⟩
  ·as_aux_lemma =>
   clear x0 x1
   have hpg:=zaa (show 1≤D.pages∧D.pages≤12 by have h2:=st7.out.going.form.geo;unfold Geo at h2;omega)
   have f4:=st7.out.var.cell 4 (.slice aS D.spans.length cS) rfl
   by_cases hs:0<D.spans.length
   case neg =>
    have hs0:D.spans.length=0:=by omega
    have hs1:((D.spans.length:Int) > 0)=False:=by simp [hs0]
    have hs2:decide (0<D.spans.length)=false:=by simp [hs0]
    have y':=zaa st7.out.be
    clear hs0
    go_wp2_with fail
    go_meet
    case rel=>exact ⟨_,_,y'.out⟩
   have hKl:=zaa (show Kx<D.spans.length by rcases hKx.out with h | h <;> omega)
   obtain ⟨g,cap,hg⟩:=st7.out.var.headS hs
   obtain ⟨rfl,rfl⟩:aS=some ⟨g,0,none⟩∧cS=cap:=by simpa using hg
   clear hg
   obtain ⟨s,hks⟩:∃ s,D.spans[Kx]?=some s:=⟨_,List.getElem?_eq_getElem hKl.out⟩
   obtain ⟨p,hp⟩:=st7.out.var.svAt hks
   obtain ⟨vl,vp⟩:=p
   have hks':=zaa hks
   have hp':=zaa hp
   have hKi:(Kx:Int)<(D.spans.length:Int):=by have:=hKl.out;omega
   have hsl:=zaa (show D.spans.length≤12 by have h1:=st7.out.going.form.spans;have h2:=st7.out.going.form.geo;unfold Geo at h2;omega)
   clear hks hp hs
   go_upto_region 10 with fail
   clear f4
   refine T6 (fun w'=>w'.cell? ⟨V,4,none⟩=some (.slice (some ⟨g,0,none⟩) D.spans.length cS)∧w'.cell? ⟨V,1,none⟩=some (.int .i64 D.pages)) (fun j=>j == 10) (by kernel_rfl) ?_
   intro wd hwd
   have std:=zaa (show WoIn w wd n₀ B a len w.heap.size V base ⟨.slice aw D.words.length cw,.slice ad D.dirty.length cd,.slice (some ⟨g,0,none⟩) D.spans.length cS,.slice am D.muts.length cm,.slice ag D.grey.length cg,sv,mv⟩ D from by rw [hwd];exact st7.out.ext (below_drewN (Below.refl _ _) 1))
   clear hwd
   have hS:=zaa (show ∀ w',WoIn w w' n₀ B a len w.heap.size V base ⟨.slice aw D.words.length cw,.slice ad D.dirty.length cd,.slice (some ⟨g,0,none⟩) D.spans.length cS,.slice am D.muts.length cm,.slice ag D.grey.length cg,sv,mv⟩ D→(fun w'=>w'.cell? ⟨V,4,none⟩=some (.slice (some ⟨g,0,none⟩) D.spans.length cS)∧w'.cell? ⟨V,1,none⟩=some (.int .i64 D.pages)) w' from fun w' s=>⟨s.var.cell 4 _ rfl,s.var.cell 1 _ rfl⟩)
   have h0:=hS.out _ std.out
   have p8:=zaa (std.out.pick 3 [-1,0,D.pages] (by simp))
   refine Z9 (i:=0) (v:=?vq14) rfl (by kernel_rfl) (by kernel_rfl) (by kernel_rfl) rfl (fun _ _ _ h=>h) (Or.inl ⟨by rfl,?hq14⟩) (fun _=>h0) ?rq14
   case hq14=>(intro w _;go_simp;try with_reducible rfl)
   try simp only [Act.put,zab,zac,zad]
   refine X2 (i:=1) (v:=?vq15) rfl (by kernel_rfl) (by kernel_rfl) (by kernel_rfl) (by kernel_rfl) (fun j hj=>by simp at hj;subst hj;kernel_rfl) (fun _ _ _ h=>h) (Or.inl ⟨by rfl,?hq15⟩) (by exact h0) ?rq15
   case hq15=>(intro w hSw;(try dsimp only at hSw);obtain ⟨t0,t1⟩:=hSw;go_simp;try with_reducible rfl)
   try simp only [Act.put,zab,zac,zad]
   refine Z9 (i:=2) (v:=?vq16) rfl (by kernel_rfl) (by kernel_rfl) (by kernel_rfl) rfl (fun _ _ _ h=>h) (Or.inl ⟨by rfl,?hq16⟩) (fun _=>h0) ?rq16
   case hq16=>(intro w _;go_simp;try with_reducible rfl)
   try simp only [Act.put,zab,zac,zad]
   refine Z9 (i:=3) (v:=?vq17) rfl (by kernel_rfl) (by kernel_rfl) (by kernel_rfl) rfl (fun _ _ _ h=>h) (Or.inl ⟨by rfl,?hq17⟩) (fun _=>h0) ?rq17
   case hq17=>(intro w _;go_simp;try with_reducible rfl)
   try simp only [Act.put,zab,zac,zad]
   refine Z9 (i:=4) (v:=?vq18) rfl (by kernel_rfl) (by kernel_rfl) (by kernel_rfl) rfl (fun _ _ _ h=>h) (Or.inl ⟨by rfl,?hq18⟩) (fun _=>h0) ?rq18
   case hq18=>(intro w _;go_simp;try with_reducible rfl)
   try simp only [Act.put,zab,zac,zad]
   refine X2 (i:=5) (v:=?vq19) rfl (by kernel_rfl) (by kernel_rfl) (by kernel_rfl) (by kernel_rfl) (fun j hj=>by simp at hj;subst hj;kernel_rfl) (fun _ _ _ h=>h) (Or.inl ⟨by rfl,?hq19⟩) (by exact h0) ?rq19
   case hq19=>(intro w hSw;(try dsimp only at hSw);obtain ⟨t0,t1⟩:=hSw;go_simp;try with_reducible rfl)
   try simp only [Act.put,zab,zac,zad]
   refine V6 (rs:=[6]) (by kernel_rfl) (by simp) ?_
   intro i hi
   simp only [List.mem_cons,List.not_mem_nil,or_false] at hi
   subst hi
   refine X8 (i:=6) rfl (fun K hK=>?_)
   go_simp
   refine hK.out _ _ (fun _=>(hS.out _ (std.out.ext (Z5 wd _)))) ?_
   clear hK K
   try simp only [Act.put,zab,zac,zad]
   refine V6 (rs:=[7]) (by kernel_rfl) (by simp) ?_
   intro i hi
   simp only [List.mem_cons,List.not_mem_nil,or_false] at hi
   subst hi
   refine X8 (i:=7) rfl (fun K hK=>?_)
   go_simp
   go_wp2_with (go_at_call 72;refine p8.out.mono ?_;rintro e w9 ⟨y,rfl,yin,s8⟩;have st8:=zaa s8;have yI:=zaa (show I64 y by simp only [List.mem_cons,List.not_mem_nil,or_false] at yin;have:=hpg.out;unfold I64;omega);have f9:=(s8.var.six rfl hks'.out hp'.out).1;have z9:=s8.var.frzS rfl (Kx*6);have y':=zaa (show BeIn w (w9.setCell ⟨g,Kx*6,none⟩ (.int .i64 y)) n₀ B a len w.heap.size V _ _ from BeIn.of_var s8 (s8.var.head rfl Kx 0 s { s with page:=y } (vl,vp) (.int .i64 y) hks'.out hp'.out (by omega) rfl rfl rfl).2 (s8.var.head rfl Kx 0 s { s with page:=y } (vl,vp) (.int .i64 y) hks'.out hp'.out (by omega) rfl rfl rfl).1 (s8.going.bent_span hks'.out (have F:=s8.going.fit.spans s (List.mem_of_getElem? hks'.out);⟨yI.out,F.cls,F.mark,F.lens,F.ptrs⟩) rfl));clear s8 yin)
   refine hK.out _ _ (fun _=>(hS.out _ st8.out)) ?_
   clear hK K
   try simp only [Act.put,zab,zac,zad]
   refine Z9 (i:=8) (v:=?vq22) rfl (by kernel_rfl) (by kernel_rfl) (by kernel_rfl) rfl (fun _ _ _ h=>h) (Or.inl ⟨by rfl,?hq22⟩) (fun _=>(hS.out _ st8.out)) ?rq22
   case hq22=>(intro w _;go_simp;try with_reducible rfl)
   try simp only [Act.put,zab,zac,zad]
   refine Z9 (i:=9) (v:=?vq23) rfl (by kernel_rfl) (by kernel_rfl) (by kernel_rfl) rfl (fun _ _ _ h=>h) (Or.inl ⟨by rfl,?hq23⟩) (fun _=>(hS.out _ st8.out)) ?rq23
   case hq23=>(intro w _;go_simp;try with_reducible rfl)
   try simp only [Act.put,zab,zac,zad]
   refine V6 (rs:=[10]) (by kernel_rfl) (by simp) ?_
   intro i hi
   simp only [List.mem_cons,List.not_mem_nil,or_false] at hi
   subst hi
   refine X8 (i:=10) rfl (fun K hK=>?_)
   go_simp
   refine hK.out _ _ (fun h=>Bool.noConfusion ((h 10 (by kernel_rfl)).symm.trans (show _=true by kernel_rfl))) ?_
   clear hK K
   try simp only [Act.put,zab,zac,zad]
   refine P3 (by kernel_rfl) ?_ _
   go_wp2_with fail
   go_meet
   case rel=>exact ⟨_,_,y'.out⟩
 case rest =>
 obtain ⟨v,D',s3⟩:=hcut
 clear st7
 have s3h:=zaa s3
 obtain ⟨cs,he,hh⟩:=s3.box
 obtain ⟨vw,vd,vs,vm,vg,hve,⟨aw',cw',rfl,-⟩,⟨ad',cd',rfl,-⟩,⟨aS',cS',rfl,-⟩,⟨am',cm',rfl,-⟩,⟨ag',cg',rfl,-⟩⟩:=s3.rd [] _ (fun _ h=>absurd h (by simp)) (Chg.refl _ _)
 subst hve
 obtain rfl:=(Value.agg.inj he).symm
 obtain ⟨m0,m1,m2,m3,m4,m5,m6,m7,m8⟩:=U5 hh
 obtain ⟨n0,n1,n2,n3,n4,n5,n6,n7,n8⟩:=U5 s3.res
 have z0:=Z3 s3.res 0
 have z1:=Z3 s3.res 1
 have z2:=Z3 s3.res 2
 have z3:=Z3 s3.res 3
 have z4:=Z3 s3.res 4
 have z5:=Z3 s3.res 5
 have z6:=Z3 s3.res 6
 have z7:=Z3 s3.res 7
 have z8:=Z3 s3.res 8
 have hne:¬ (V=w.heap.size):=s3.ne
 have hne2:¬ (w.heap.size=V):=fun e=>s3.ne e.symm
 clear s3 he hh
 go_wp2_with fail
 refine bodyPost_ret (v:=.agg #[.int .i64 D'.base,.int .i64 D'.pages,.slice aw' D'.words.length cw',.slice ad' D'.dirty.length cd',.slice aS' D'.spans.length cS',.slice am' D'.muts.length cm',.int .i64 D'.phase,.int .i64 D'.next,.slice ag' D'.grey.length cg']) (by simp [results,Tryz.results30,go_sem,n0,n1,n2,n3,n4,n5,n6,n7,n8,z0,z1,z2,z3,z4,z5,z6,z7,z8]) rfl ?_
 exact ⟨_,D',s3h.out.bent,s3h.out.cw,s3h.out.cg,rfl,fun bs w2 hbs c=>s3h.out.rd (w.heap.size :: bs) w2 (fun q hq=>by rcases List.mem_cons.1 hq with rfl | hq;exact Nat.le_refl _;exact Nat.le_of_lt (hbs q hq)) ((((Chg.refl [w.heap.size] _).put9 (b:=w.heap.size) (by simp) _ _ _ _ _ _ _ _ _).mono (by simp)).trans (c.mono fun q hq=>List.mem_cons_of_mem _ hq)),zep s3h.out.grow ((Chg.refl [w.heap.size] _).put9 (b:=w.heap.size) (by simp) _ _ _ _ _ _ _ _ _) (Nat.le_refl _),s3h.out.at_.chg ((Chg.refl [w.heap.size] _).put9 (b:=w.heap.size) (by simp) _ _ _ _ _ _ _ _ _) (by have:=s3h.out.at_.le;have:=hB.out;omega) (by have:=hB.out;omega)⟩
end Go.Proofs.YtilkidaihbhfpaaGreat
