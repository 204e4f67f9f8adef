import Derived.Test.YtilkidaihbhfpaaGreatTsDoF
import Derived.Test.YtilkidaihbhfpaaGreatTsP
import Derived.Test.YtilkidaihbhfpaaGreatTsTU
import Derived.Deep.QuietTactic

set_option maxRecDepth 100000
set_option maxHeartbeats 16000000
namespace Go.Proofs.YtilkidaihbhfpaaGreat
open Go.RowKit
set_option linter.unusedVariables false
set_option linter.unusedSimpArgs false
def zfp (kind i a p:Int):Prop:=((kind=2∨kind=3)→0≤i∧i<p)∧((kind=4∨kind=5)→p≤i∧i<a)
theorem sindex_2 (m h g i n v a p:Int) (w:World):Calls Tryz.prog 151 #[OpD.val ⟨2,m,h,g,i,n,v⟩,.int .i64 a,.int .i64 p] w fun e w'=>IsB (zfp 2 i a p) e∧Below w.heap.size w w':=by
 unfold OpD.val OpD.cells
 have bb:=zaa (Z5 w (.cells #[.int .i64 2,.int .i64 m,.int .i64 h,.int .i64 g,.int .i64 i,.int .i64 n,.int .i64 v] 118))
 by_cases c1:0≤i
 ·by_cases c2:i<p
  ·have y:=zaa (IsB.yes (P:=zfp 2 i a p) ⟨fun e=>by omega,fun e=>by omega⟩)
   go_enter Tryz.func151,Tryz.ntmps151
   go_wp2_with fail
   go_ret
   exact ⟨y.out,bb.out⟩
  ·have y:=zaa (IsB.no (P:=zfp 2 i a p) fun e=>by unfold zfp at e;omega)
   go_enter Tryz.func151,Tryz.ntmps151
   go_wp2_with fail
   go_ret
   exact ⟨y.out,bb.out⟩
 ·have y:=zaa (IsB.no (P:=zfp 2 i a p) fun e=>by unfold zfp at e;omega)
  go_enter Tryz.func151,Tryz.ntmps151
  go_wp2_with fail
  go_ret
  exact ⟨y.out,bb.out⟩
theorem sindex_3 (m h g i n v a p:Int) (w:World):Calls Tryz.prog 151 #[OpD.val ⟨3,m,h,g,i,n,v⟩,.int .i64 a,.int .i64 p] w fun e w'=>IsB (zfp 3 i a p) e∧Below w.heap.size w w':=by
 unfold OpD.val OpD.cells
 have bb:=zaa (Z5 w (.cells #[.int .i64 3,.int .i64 m,.int .i64 h,.int .i64 g,.int .i64 i,.int .i64 n,.int .i64 v] 118))
 by_cases c1:0≤i
 ·by_cases c2:i<p
  ·have y:=zaa (IsB.yes (P:=zfp 3 i a p) ⟨fun e=>by omega,fun e=>by omega⟩)
   go_enter Tryz.func151,Tryz.ntmps151
   go_wp2_with fail
   go_ret
   exact ⟨y.out,bb.out⟩
  ·have y:=zaa (IsB.no (P:=zfp 3 i a p) fun e=>by unfold zfp at e;omega)
   go_enter Tryz.func151,Tryz.ntmps151
   go_wp2_with fail
   go_ret
   exact ⟨y.out,bb.out⟩
 ·have y:=zaa (IsB.no (P:=zfp 3 i a p) fun e=>by unfold zfp at e;omega)
  go_enter Tryz.func151,Tryz.ntmps151
  go_wp2_with fail
  go_ret
  exact ⟨y.out,bb.out⟩
theorem sindex_4 (m h g i n v a p:Int) (w:World):Calls Tryz.prog 151 #[OpD.val ⟨4,m,h,g,i,n,v⟩,.int .i64 a,.int .i64 p] w fun e w'=>IsB (zfp 4 i a p) e∧Below w.heap.size w w':=by
 unfold OpD.val OpD.cells
 have bb:=zaa (Z5 w (.cells #[.int .i64 4,.int .i64 m,.int .i64 h,.int .i64 g,.int .i64 i,.int .i64 n,.int .i64 v] 118))
 by_cases c1:p≤i
 ·by_cases c2:i<a
  ·have y:=zaa (IsB.yes (P:=zfp 4 i a p) ⟨fun e=>by omega,fun e=>by omega⟩)
   go_enter Tryz.func151,Tryz.ntmps151
   go_wp2_with fail
   go_ret
   exact ⟨y.out,bb.out⟩
  ·have y:=zaa (IsB.no (P:=zfp 4 i a p) fun e=>by unfold zfp at e;omega)
   go_enter Tryz.func151,Tryz.ntmps151
   go_wp2_with fail
   go_ret
   exact ⟨y.out,bb.out⟩
 ·have y:=zaa (IsB.no (P:=zfp 4 i a p) fun e=>by unfold zfp at e;omega)
  go_enter Tryz.func151,Tryz.ntmps151
  go_wp2_with fail
  go_ret
  exact ⟨y.out,bb.out⟩
theorem sindex_5 (m h g i n v a p:Int) (w:World):Calls Tryz.prog 151 #[OpD.val ⟨5,m,h,g,i,n,v⟩,.int .i64 a,.int .i64 p] w fun e w'=>IsB (zfp 5 i a p) e∧Below w.heap.size w w':=by
 unfold OpD.val OpD.cells
 have bb:=zaa (Z5 w (.cells #[.int .i64 5,.int .i64 m,.int .i64 h,.int .i64 g,.int .i64 i,.int .i64 n,.int .i64 v] 118))
 by_cases c1:p≤i
 ·by_cases c2:i<a
  ·have y:=zaa (IsB.yes (P:=zfp 5 i a p) ⟨fun e=>by omega,fun e=>by omega⟩)
   go_enter Tryz.func151,Tryz.ntmps151
   go_wp2_with fail
   go_ret
   exact ⟨y.out,bb.out⟩
  ·have y:=zaa (IsB.no (P:=zfp 5 i a p) fun e=>by unfold zfp at e;omega)
   go_enter Tryz.func151,Tryz.ntmps151
   go_wp2_with fail
   go_ret
   exact ⟨y.out,bb.out⟩
 ·have y:=zaa (IsB.no (P:=zfp 5 i a p) fun e=>by unfold zfp at e;omega)
  go_enter Tryz.func151,Tryz.ntmps151
  go_wp2_with fail
  go_ret
  exact ⟨y.out,bb.out⟩
theorem sindex_9 (m h g i n v a p:Int) (w:World):Calls Tryz.prog 151 #[OpD.val ⟨9,m,h,g,i,n,v⟩,.int .i64 a,.int .i64 p] w fun e w'=>IsB (zfp 9 i a p) e∧Below w.heap.size w w':=by
 unfold OpD.val OpD.cells
 have bb:=zaa (Z5 w (.cells #[.int .i64 9,.int .i64 m,.int .i64 h,.int .i64 g,.int .i64 i,.int .i64 n,.int .i64 v] 118))
 have y:=zaa (IsB.yes (P:=zfp 9 i a p) ⟨fun e=>by omega,fun e=>by omega⟩)
 go_enter Tryz.func151,Tryz.ntmps151
 go_wp2_with fail
 go_ret
 exact ⟨y.out,bb.out⟩
structure RootAt (w:World) (S:Y2) (D:WD) (M H:Nat) (gm cm gr cr:Nat) (r:List Int):Prop where
 vm:S.vm=.slice (some ⟨gm,0,none⟩) D.muts.length cm
 mt:D.muts[M]?=some r
 mv:S.mv[M]?=some (.slice (some ⟨gr,0,none⟩) r.length cr)
 xm:w.cell? ⟨gm,M,none⟩=some (.slice (some ⟨gr,0,none⟩) r.length cr)
 xr:w.cell? ⟨gr,H,none⟩=some (.int .i64 (r[H]?.getD 0))
 frz:w.frozen? ⟨gr,H,none⟩=false
theorem VarW.rootAt {w:World} {base B:Nat} {S:Y2} {D:WD} (h:VarW w base B S D) {M:Nat} {r:List Int} (hr:D.muts[M]?=some r) {H:Nat} (hH:H<r.length):∃ gm cm gr cr,RootAt w S D M H gm cm gr cr r:=by
 have hl:=(List.getElem?_eq_some_iff.1 hr).1
 obtain ⟨u,hu⟩:∃ u,S.mv[M]?=some u:=⟨_,List.getElem?_eq_getElem (by have:=h.own.mvl;omega)⟩
 have hi:=h.own.innerM M r u hr hu
 obtain ⟨gr,cr,rfl⟩:=N7 hi (by omega)
 obtain ⟨gm,cm,hgm⟩:∃ g c,S.vm=.slice (some ⟨g,0,none⟩) D.muts.length c:=by
  rcases h.own.muts.2 with ⟨_,h0⟩ | ⟨g,cap,cur,e,_⟩
  ·omega
  ·exact ⟨g,cap,e⟩
 have hrow:=h.own.muts
 rw [hgm] at hrow
 obtain ⟨c1,c2⟩:=Y7 hi rfl H hH
 exact ⟨gm,cm,gr,cr,hgm,hr,hu,by rw [hrow.cellAt M (by have:=h.own.mvl;omega)];exact hu,c1,c2⟩
theorem zll {D:WD} (hF:Z8 D):V1 D 0 D:=.inr ⟨fun _ k j h=>absurd (h.range hF) (by have:=hF.geo.1;omega),rfl⟩
theorem zux (base B:Nat) (S:Y2) (D:WD) (k m h g i n v:Int) (p:Nat) (hG:U1 D) (hm:0≤m∧m<(D.muts.length:Int)) (hg:HOk g) (hpl:p<D.words.length) (w:World) (hv:VarW w base B S D) :
  Calls Tryz.prog 152 #[.pointer (some ⟨B,0,none⟩),OpD.val ⟨k,m,h,g,i,n,v⟩,.int .i64 p] w fun e w'=>e=.returned (.tuple #[])∧(∃ S' E,zft D m (V4 D m g) p E∧VarW w' base B S' E∧T8 w w' B S S')∧Below base w w':=by
 unfold OpD.val OpD.cells
 obtain ⟨M,rfl⟩:=Int.eq_ofNat_of_zero_le hm.1
 obtain ⟨G,rfl⟩:=Int.eq_ofNat_of_zero_le hg.1
 have hM:M<D.muts.length:=by have:=hm.2;omega
 obtain ⟨r,hr⟩:∃ r,D.muts[M]?=some r:=⟨_,List.getElem?_eq_getElem hM⟩
 have hr6:=hG.form.roots M r hr
 have hG6:G<r.length:=by have:=hg.2;omega
 have hroot:V4 D (M:Int) (G:Int)=r[G]?.getD 0:=by unfold V4;rw [Int.toNat_natCast,Int.toNat_natCast,hr];rfl
 rw [hroot]
 have hle:=zaa (Nat.le_of_lt (Nat.lt_of_le_of_lt hv.le hv.lt))
 have bb:=Z5 w (.cells #[.int .i64 k,.int .i64 (M:Int),.int .i64 h,.int .i64 (G:Int),.int .i64 i,.int .i64 n,.int .i64 v] 118)
 have bx:=Y6 w (.cells #[.int .i64 k,.int .i64 (M:Int),.int .i64 h,.int .i64 (G:Int),.int .i64 i,.int .i64 n,.int .i64 v] 118)
 have hBb:=zaa (bb.mono hle.out)
 have hTb:=zaa (T8.of_below B S bb)
 have hv0:=zaa (hv.below bb)
 have hq:=zaa bx
 have hz0:=zaa (show w.heap.size<(w.alloc (.cells #[.int .i64 k,.int .i64 (M:Int),.int .i64 h,.int .i64 (G:Int),.int .i64 i,.int .i64 n,.int .i64 v] 118)).heap.size by simp)
 have hnb:=zaa (show w.heap.size ∉ B :: blks S.all from fun hm=>by
  rcases List.mem_cons.1 hm with e | hm
  ·have:=hv.lt
   omega
  ·have:=(hv.own.lt _ hm).2
   omega)
 obtain ⟨gm,cm,gr,cr,R⟩:=hv0.out.rootAt hr hG6
 obtain ⟨gw,cw,hgw⟩:=hv0.out.headW (by omega)
 have hgw':=zaa hgw
 have xw:=(Y7 hv0.out.own.words hgw p hpl).1
 have g2:=hv0.out.cell 2 S.vw rfl
 rw [hgw] at g2
 have g5:=hv0.out.cell 5 S.vm rfl
 rw [R.vm] at g5
 have x0:=R.xm
 have x1:=R.xr
 have q1:=Z0 bx 1 (.int .i64 (M:Int)) rfl
 have q3:=Z0 bx 3 (.int .i64 (G:Int)) rfl
 have hM1:(M:Int)<(D.muts.length:Int):=by omega
 have hG1:(G:Int)<(r.length:Int):=by omega
 have hp1:(p:Int)<(D.words.length:Int):=by omega
 have hF':=zaa hG.form
 have hgl:=zaa hG.greyLen
 have hwb:=zaa (show D.words.length≤384∧(D.words.length:Int)=8*(D.dirty.length:Int) from by have h1:=hG.form.words;have h2:=hG.form.dirty;have h3:=hG.form.geo.2.2.2.2.1;omega)
 have hmm:=zaa (show D.muts.length≤3 by have:=hG.form.geo.2.2.2.2.2.2;omega)
 have hpl':=zaa hpl
 clear hG hm hg hr hroot R hgw hv bb bx
 generalize r[G]?.getD 0=z at *
 go_enter Tryz.func152,Tryz.ntmps152
 go_wp2_with fail
 generalize w.alloc (.cells #[.int .i64 k,.int .i64 (M:Int),.int .i64 h,.int .i64 (G:Int),.int .i64 i,.int .i64 n,.int .i64 v] 118)=W at *
 go_quiet (fail)
 have hv1:=zaa (hv0.out.drewN nq)
 have hB1:=zaa (below_drewN hBb.out nq)
 have hT1:=zaa (hTb.out.below (below_drewN (Below.refl _ _) nq))
 have hq1:Hid ((W.drewN nq).heap[w.heap.size]?=some (.cells #[.int .i64 k,.int .i64 (M:Int),.int .i64 h,.int .i64 (G:Int),.int .i64 i,.int .i64 n,.int .i64 v] 118 (0,0))):=zaa hq.out
 have hz1:Hid (w.heap.size<(W.drewN nq).heap.size):=zaa hz0.out
 replace g2:(W.drewN nq).cell? ⟨B,2,none⟩=_:=g2
 replace xw:(W.drewN nq).cell? ⟨gw,p,none⟩=_:=xw
 generalize W.drewN nq=w1 at *
 clear g5 x0 x1 q1 q3 hv0 hBb hq hz0 hTb
 generalize hx:D.words[p]?.getD 0=x at *
 have hx':=zaa hx
 clear hx
 by_cases c1:x=0
 ·have d1:(x != 0)=false:=by rw [c1];rfl
  obtain ⟨D1,hD1⟩:∃ D1,D1=D:=⟨_,rfl⟩
  obtain ⟨SA,hSA0⟩:∃ SA,SA=S:=⟨_,rfl⟩
  obtain ⟨WA,hWA⟩:∃ WA,WA=w1:=⟨_,rfl⟩
  have hsA:=zaa (show V1 D x D1 from by rw [hD1,c1];exact zll hF'.out)
  have hvA:=zaa (show VarW WA base B SA D1 from by rw [hD1,hSA0,hWA];exact hv1.out)
  have hSA:=zaa (show SA.vw=S.vw∧True from ⟨by rw [hSA0],trivial⟩)
  have hBA:=zaa (show Below base w WA from by rw [hWA];exact hB1.out)
  have hTA:=zaa (show T8 w WA B S SA from by rw [hWA,hSA0];exact hT1.out)
  have hqA:Hid (WA.heap[w.heap.size]?=some (.cells #[.int .i64 k,.int .i64 (M:Int),.int .i64 h,.int .i64 (G:Int),.int .i64 i,.int .i64 n,.int .i64 v] 118 (0,0))):=zaa (by rw [hWA];exact hq1.out)
  rw [← hWA] at g2 xw ⊢
  clear hD1 hSA0 hWA c1
  have hvw:=hvA.out.cell 2 S.vw (by rw [← hSA.out.1];rfl)
  rw [hgw'.out] at hvw
  have qm:=Z0 hqA.out 1 (.int .i64 (M:Int)) rfl
  have hwl:D1.words=D.words:=hsA.out.same.words
  have hdl:=zaa (show D1.dirty=D.dirty from hsA.out.rest.2.1)
  have hwl':=zaa hwl
  by_cases c2:z=0
  ·have d2:(z != 0)=false:=by rw [c2];rfl
   have st:=zaa (show N8 D (M:Int)∨(¬ N8 D (M:Int)∧V1 D1 z D1) from by by_cases c:N8 D (M:Int);exact .inl c;exact .inr ⟨c,by rw [c2];exact zll (hsA.out.form hF'.out)⟩)
   clear c2
   have hwl2:=zaa (show D1.words=D.words from hwl)
   have hgx:SA.vw=.slice (some ⟨gw,0,none⟩) D1.words.length cw:=by rw [hwl2.out,hSA.out.1];exact hgw'.out
   have cX:=(Y7 hvA.out.own.words hgx p (by rw [hwl2.out];exact hpl'.out)).1
   have fX:=(Y7 hvA.out.own.words hgx p (by rw [hwl2.out];exact hpl'.out)).2
   have gX:=hvA.out.cell 2 SA.vw rfl
   rw [hgx,hwl2.out] at gX
   have vS:=hvA.out.word hgx p z
   have tX:=zaa (hTA.out.own_set (zmd hgx) p (.int .i64 z))
   have dX:=zaa (L5 base B SA { D1 with words:=D1.words.set p z } (p:Int) 1 (by omega) (by have:=hwb.out.1;have:=hpl'.out;omega) (by omega) (by omega) (by show (p:Int)+1≤8*(D1.dirty.length:Int);rw [hdl.out];have:=hwb.out.2;have:=hpl'.out;omega) _ vS.1)
   have bS:=zaa vS.2
   clear vS hgx
   generalize D1.words[p]?.getD 0=old at cX
   go_wp2_with fail
   refine dX.out.mono ?_
   rintro e wF ⟨rfl,vF,bF,cF⟩
   have y:=zaa (show ∃ S' E,zft D (M:Int) z p E∧VarW wF base B S' E∧T8 w wF B S S' from ⟨SA,_,⟨D1,D1,by rw [hx'.out];exact hsA.out,st.out.imp (fun h=>⟨h,rfl⟩) id,rfl⟩,vF,tX.out.chgAll cF⟩)
   have bE:=zaa ((hBA.out.trans bS.out).trans bF)
   clear vF bF dX cF tX
   go_wp2_with fail
   go_end0
   exact ⟨rfl,y.out,bE.out⟩
  ·have d2:(z != 0)=true:=bne_iff_ne.2 c2
   clear c2
   have hsn:=zaa (zlo B _ D1 (M:Int) WA hvA.out.rd hvA.out.boxW)
   have hph:=zaa (show N8 D1 (M:Int)↔N8 D (M:Int) from by unfold N8;rw [hsA.out.rest.2.2.2.1,hsA.out.rest.2.2.2.2])
   go_wp2_with fail
   refine hsn.out.mono ?_
   rintro e w' ⟨hq,rfl⟩
   replace hq:=hq.elim
   clear hsn
   rcases hq with ⟨hq,rfl⟩ | ⟨hq,rfl⟩
   ·have st:=zaa (show N8 D (M:Int)∨(¬ N8 D (M:Int)∧V1 D1 z D1) from .inl (hph.out.1 hq))
    clear hq
    have hwl2:=zaa (show D1.words=D.words from hwl)
    have hgx:SA.vw=.slice (some ⟨gw,0,none⟩) D1.words.length cw:=by rw [hwl2.out,hSA.out.1];exact hgw'.out
    have cX:=(Y7 hvA.out.own.words hgx p (by rw [hwl2.out];exact hpl'.out)).1
    have fX:=(Y7 hvA.out.own.words hgx p (by rw [hwl2.out];exact hpl'.out)).2
    have gX:=hvA.out.cell 2 SA.vw rfl
    rw [hgx,hwl2.out] at gX
    have vS:=hvA.out.word hgx p z
    have tX:=zaa (hTA.out.own_set (zmd hgx) p (.int .i64 z))
    have dX:=zaa (L5 base B SA { D1 with words:=D1.words.set p z } (p:Int) 1 (by omega) (by have:=hwb.out.1;have:=hpl'.out;omega) (by omega) (by omega) (by show (p:Int)+1≤8*(D1.dirty.length:Int);rw [hdl.out];have:=hwb.out.2;have:=hpl'.out;omega) _ vS.1)
    have bS:=zaa vS.2
    clear vS hgx
    generalize D1.words[p]?.getD 0=old at cX
    go_wp2_with fail
    refine dX.out.mono ?_
    rintro e wF ⟨rfl,vF,bF,cF⟩
    have y:=zaa (show ∃ S' E,zft D (M:Int) z p E∧VarW wF base B S' E∧T8 w wF B S S' from ⟨SA,_,⟨D1,D1,by rw [hx'.out];exact hsA.out,st.out.imp (fun h=>⟨h,rfl⟩) id,rfl⟩,vF,tX.out.chgAll cF⟩)
    have bE:=zaa ((hBA.out.trans bS.out).trans bF)
    clear vF bF dX cF tX
    go_wp2_with fail
    go_end0
    exact ⟨rfl,y.out,bE.out⟩
   ·have hns:=zaa (show ¬ N8 D (M:Int) from fun e=>hq (hph.out.2 e))
    clear hq
    have hsh:=zaa (zje base B SA D1 z (hsA.out.form hF'.out) (by have:=hsA.out.greyLen;have:=hgl.out;omega) WA hvA.out)
    go_wp2_with fail
    refine hsh.out.mono ?_
    rintro e w6 ⟨rfl,⟨S6,D6,i6,v6,s6⟩,b6⟩
    have hv6:=zaa v6
    have hs6:=zaa i6
    have hB6:=zaa (hBA.out.trans b6)
    have hS6:=zaa (show S6.vw=S.vw from by obtain ⟨vv,rfl,_⟩:=s6.vg;exact hSA.out.1)
    have hT6:=zaa (hTA.out.trans s6.turned)
    clear v6 i6 b6 s6 hsh hvw qm
    have hwl2:=zaa (show D6.words=D.words from hs6.out.same.words.trans hwl)
    have hgx:S6.vw=.slice (some ⟨gw,0,none⟩) D6.words.length cw:=by rw [hwl2.out,hS6.out];exact hgw'.out
    have cX:=(Y7 hv6.out.own.words hgx p (by rw [hwl2.out];exact hpl'.out)).1
    have fX:=(Y7 hv6.out.own.words hgx p (by rw [hwl2.out];exact hpl'.out)).2
    have gX:=hv6.out.cell 2 S6.vw rfl
    rw [hgx,hwl2.out] at gX
    have vS:=hv6.out.word hgx p z
    have tX:=zaa (hT6.out.own_set (zmd hgx) p (.int .i64 z))
    have dX:=zaa (L5 base B S6 { D6 with words:=D6.words.set p z } (p:Int) 1 (by omega) (by have:=hwb.out.1;have:=hpl'.out;omega) (by omega) (by omega) (by show (p:Int)+1≤8*(D6.dirty.length:Int);rw [hs6.out.rest.2.1,hdl.out];have:=hwb.out.2;have:=hpl'.out;omega) _ vS.1)
    have bS:=zaa vS.2
    clear vS hgx
    generalize D6.words[p]?.getD 0=old at cX
    go_wp2_with fail
    refine dX.out.mono ?_
    rintro e wF ⟨rfl,vF,bF,cF⟩
    have y:=zaa (show ∃ S' E,zft D (M:Int) z p E∧VarW wF base B S' E∧T8 w wF B S S' from ⟨S6,_,⟨D1,D6,by rw [hx'.out];exact hsA.out,.inr ⟨hns.out,hs6.out⟩,rfl⟩,vF,tX.out.chgAll cF⟩)
    have bE:=zaa ((hB6.out.trans bS.out).trans bF)
    clear vF bF dX cF tX
    go_wp2_with fail
    go_end0
    exact ⟨rfl,y.out,bE.out⟩
 ·have d1:(x != 0)=true:=bne_iff_ne.2 c1
  clear c1
  have hsh:=zaa (zje base B S D x hF'.out (by have:=hgl.out;omega) w1 hv1.out)
  go_wp2_with fail
  refine hsh.out.mono ?_
  rintro e WA ⟨rfl,⟨SA,D1,iA,vA,sA⟩,bA⟩
  have hsA:=zaa iA
  have hvA:=zaa vA
  have hSA:=zaa (show SA.vw=S.vw∧True from ⟨by obtain ⟨vv,rfl,_⟩:=sA.vg;rfl,trivial⟩)
  have hBA:=zaa (hB1.out.trans bA)
  have hTA:=zaa (hT1.out.trans sA.turned)
  have hqA:Hid (WA.heap[w.heap.size]?=some (.cells #[.int .i64 k,.int .i64 (M:Int),.int .i64 h,.int .i64 (G:Int),.int .i64 i,.int .i64 n,.int .i64 v] 118 (0,0))):=zaa ((sA.chg.block w.heap.size hz1.out hnb.out).trans hq1.out)
  clear iA vA sA bA hsh g2 xw
  have hvw:=hvA.out.cell 2 S.vw (by rw [← hSA.out.1];rfl)
  rw [hgw'.out] at hvw
  have qm:=Z0 hqA.out 1 (.int .i64 (M:Int)) rfl
  have hwl:D1.words=D.words:=hsA.out.same.words
  have hdl:=zaa (show D1.dirty=D.dirty from hsA.out.rest.2.1)
  have hwl':=zaa hwl
  by_cases c2:z=0
  ·have d2:(z != 0)=false:=by rw [c2];rfl
   have st:=zaa (show N8 D (M:Int)∨(¬ N8 D (M:Int)∧V1 D1 z D1) from by by_cases c:N8 D (M:Int);exact .inl c;exact .inr ⟨c,by rw [c2];exact zll (hsA.out.form hF'.out)⟩)
   clear c2
   have hwl2:=zaa (show D1.words=D.words from hwl)
   have hgx:SA.vw=.slice (some ⟨gw,0,none⟩) D1.words.length cw:=by rw [hwl2.out,hSA.out.1];exact hgw'.out
   have cX:=(Y7 hvA.out.own.words hgx p (by rw [hwl2.out];exact hpl'.out)).1
   have fX:=(Y7 hvA.out.own.words hgx p (by rw [hwl2.out];exact hpl'.out)).2
   have gX:=hvA.out.cell 2 SA.vw rfl
   rw [hgx,hwl2.out] at gX
   have vS:=hvA.out.word hgx p z
   have tX:=zaa (hTA.out.own_set (zmd hgx) p (.int .i64 z))
   have dX:=zaa (L5 base B SA { D1 with words:=D1.words.set p z } (p:Int) 1 (by omega) (by have:=hwb.out.1;have:=hpl'.out;omega) (by omega) (by omega) (by show (p:Int)+1≤8*(D1.dirty.length:Int);rw [hdl.out];have:=hwb.out.2;have:=hpl'.out;omega) _ vS.1)
   have bS:=zaa vS.2
   clear vS hgx
   generalize D1.words[p]?.getD 0=old at cX
   go_wp2_with fail
   refine dX.out.mono ?_
   rintro e wF ⟨rfl,vF,bF,cF⟩
   have y:=zaa (show ∃ S' E,zft D (M:Int) z p E∧VarW wF base B S' E∧T8 w wF B S S' from ⟨SA,_,⟨D1,D1,by rw [hx'.out];exact hsA.out,st.out.imp (fun h=>⟨h,rfl⟩) id,rfl⟩,vF,tX.out.chgAll cF⟩)
   have bE:=zaa ((hBA.out.trans bS.out).trans bF)
   clear vF bF dX cF tX
   go_wp2_with fail
   go_end0
   exact ⟨rfl,y.out,bE.out⟩
  ·have d2:(z != 0)=true:=bne_iff_ne.2 c2
   clear c2
   have hsn:=zaa (zlo B _ D1 (M:Int) WA hvA.out.rd hvA.out.boxW)
   have hph:=zaa (show N8 D1 (M:Int)↔N8 D (M:Int) from by unfold N8;rw [hsA.out.rest.2.2.2.1,hsA.out.rest.2.2.2.2])
   go_wp2_with fail
   refine hsn.out.mono ?_
   rintro e w' ⟨hq,rfl⟩
   replace hq:=hq.elim
   clear hsn
   rcases hq with ⟨hq,rfl⟩ | ⟨hq,rfl⟩
   ·have st:=zaa (show N8 D (M:Int)∨(¬ N8 D (M:Int)∧V1 D1 z D1) from .inl (hph.out.1 hq))
    clear hq
    have hwl2:=zaa (show D1.words=D.words from hwl)
    have hgx:SA.vw=.slice (some ⟨gw,0,none⟩) D1.words.length cw:=by rw [hwl2.out,hSA.out.1];exact hgw'.out
    have cX:=(Y7 hvA.out.own.words hgx p (by rw [hwl2.out];exact hpl'.out)).1
    have fX:=(Y7 hvA.out.own.words hgx p (by rw [hwl2.out];exact hpl'.out)).2
    have gX:=hvA.out.cell 2 SA.vw rfl
    rw [hgx,hwl2.out] at gX
    have vS:=hvA.out.word hgx p z
    have tX:=zaa (hTA.out.own_set (zmd hgx) p (.int .i64 z))
    have dX:=zaa (L5 base B SA { D1 with words:=D1.words.set p z } (p:Int) 1 (by omega) (by have:=hwb.out.1;have:=hpl'.out;omega) (by omega) (by omega) (by show (p:Int)+1≤8*(D1.dirty.length:Int);rw [hdl.out];have:=hwb.out.2;have:=hpl'.out;omega) _ vS.1)
    have bS:=zaa vS.2
    clear vS hgx
    generalize D1.words[p]?.getD 0=old at cX
    go_wp2_with fail
    refine dX.out.mono ?_
    rintro e wF ⟨rfl,vF,bF,cF⟩
    have y:=zaa (show ∃ S' E,zft D (M:Int) z p E∧VarW wF base B S' E∧T8 w wF B S S' from ⟨SA,_,⟨D1,D1,by rw [hx'.out];exact hsA.out,st.out.imp (fun h=>⟨h,rfl⟩) id,rfl⟩,vF,tX.out.chgAll cF⟩)
    have bE:=zaa ((hBA.out.trans bS.out).trans bF)
    clear vF bF dX cF tX
    go_wp2_with fail
    go_end0
    exact ⟨rfl,y.out,bE.out⟩
   ·have hns:=zaa (show ¬ N8 D (M:Int) from fun e=>hq (hph.out.2 e))
    clear hq
    have hsh:=zaa (zje base B SA D1 z (hsA.out.form hF'.out) (by have:=hsA.out.greyLen;have:=hgl.out;omega) WA hvA.out)
    go_wp2_with fail
    refine hsh.out.mono ?_
    rintro e w6 ⟨rfl,⟨S6,D6,i6,v6,s6⟩,b6⟩
    have hv6:=zaa v6
    have hs6:=zaa i6
    have hB6:=zaa (hBA.out.trans b6)
    have hS6:=zaa (show S6.vw=S.vw from by obtain ⟨vv,rfl,_⟩:=s6.vg;exact hSA.out.1)
    have hT6:=zaa (hTA.out.trans s6.turned)
    clear v6 i6 b6 s6 hsh hvw qm
    have hwl2:=zaa (show D6.words=D.words from hs6.out.same.words.trans hwl)
    have hgx:S6.vw=.slice (some ⟨gw,0,none⟩) D6.words.length cw:=by rw [hwl2.out,hS6.out];exact hgw'.out
    have cX:=(Y7 hv6.out.own.words hgx p (by rw [hwl2.out];exact hpl'.out)).1
    have fX:=(Y7 hv6.out.own.words hgx p (by rw [hwl2.out];exact hpl'.out)).2
    have gX:=hv6.out.cell 2 S6.vw rfl
    rw [hgx,hwl2.out] at gX
    have vS:=hv6.out.word hgx p z
    have tX:=zaa (hT6.out.own_set (zmd hgx) p (.int .i64 z))
    have dX:=zaa (L5 base B S6 { D6 with words:=D6.words.set p z } (p:Int) 1 (by omega) (by have:=hwb.out.1;have:=hpl'.out;omega) (by omega) (by omega) (by show (p:Int)+1≤8*(D6.dirty.length:Int);rw [hs6.out.rest.2.1,hdl.out];have:=hwb.out.2;have:=hpl'.out;omega) _ vS.1)
    have bS:=zaa vS.2
    clear vS hgx
    generalize D6.words[p]?.getD 0=old at cX
    go_wp2_with fail
    refine dX.out.mono ?_
    rintro e wF ⟨rfl,vF,bF,cF⟩
    have y:=zaa (show ∃ S' E,zft D (M:Int) z p E∧VarW wF base B S' E∧T8 w wF B S S' from ⟨S6,_,⟨D1,D6,by rw [hx'.out];exact hsA.out,.inr ⟨hns.out,hs6.out⟩,rfl⟩,vF,tX.out.chgAll cF⟩)
    have bE:=zaa ((hB6.out.trans bS.out).trans bF)
    clear vF bF dX cF tX
    go_wp2_with fail
    go_end0
    exact ⟨rfl,y.out,bE.out⟩
end Go.Proofs.YtilkidaihbhfpaaGreat
