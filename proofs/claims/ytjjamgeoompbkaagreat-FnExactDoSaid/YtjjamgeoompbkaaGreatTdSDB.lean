import Derived.Test.YtjjamgeoompbkaaGreatTdTU
import Derived.Test.YtjjamgeoompbkaaGreatTdSDoA
import Derived.Test.YtjjamgeoompbkaaGreatTdN

set_option maxRecDepth 100000
set_option maxHeartbeats 16000000
set_option linter.all false
namespace Go.Proofs.YtjjamgeoompbkaaGreat
open Go.RowKit
open Go.Proofs.Tryz
def zfr(kind i a p:Int):Prop:=((kind=2∨kind=3)→0≤i∧i<p)∧((kind=4∨kind=5)→p≤i∧i<a)
theorem sindex_2(m h g i n v a p:Int)(w:World):Calls prog 64 #[OpD.val ⟨2,m,h,g,i,n,v⟩,.int .i64 a,.int .i64 p] w fun e w'=>IsB (zfr 2 i a p) e∧Below w.heap.size w w':=by
 unfold OpD.val OpD.cells;have bb:=Z0 (Y2 w (.cells #[.int .i64 2,.int .i64 m,.int .i64 h,.int .i64 g,.int .i64 i,.int .i64 n,.int .i64 v] 43))
 by_cases c1:0≤i
 ·by_cases c2:i<p
  ·have y:=Z0 (IsB.yes (P:=zfr 2 i a p) ⟨fun e=>by omega,fun e=>by omega⟩)
   go_enter func64,ntmps64;go_wp2_with fail;go_ret;exact⟨y.out,bb.out⟩
  ·have y:=Z0 (IsB.no (P:=zfr 2 i a p) fun e=>by unfold zfr at e;omega)
   go_enter func64,ntmps64;go_wp2_with fail;go_ret;exact⟨y.out,bb.out⟩
 ·have y:=Z0 (IsB.no (P:=zfr 2 i a p) fun e=>by unfold zfr at e;omega)
  go_enter func64,ntmps64;go_wp2_with fail;go_ret;exact⟨y.out,bb.out⟩
theorem sindex_3(m h g i n v a p:Int)(w:World):Calls prog 64 #[OpD.val ⟨3,m,h,g,i,n,v⟩,.int .i64 a,.int .i64 p] w fun e w'=>IsB (zfr 3 i a p) e∧Below w.heap.size w w':=by
 unfold OpD.val OpD.cells;have bb:=Z0 (Y2 w (.cells #[.int .i64 3,.int .i64 m,.int .i64 h,.int .i64 g,.int .i64 i,.int .i64 n,.int .i64 v] 43))
 by_cases c1:0≤i
 ·by_cases c2:i<p
  ·have y:=Z0 (IsB.yes (P:=zfr 3 i a p) ⟨fun e=>by omega,fun e=>by omega⟩)
   go_enter func64,ntmps64;go_wp2_with fail;go_ret;exact⟨y.out,bb.out⟩
  ·have y:=Z0 (IsB.no (P:=zfr 3 i a p) fun e=>by unfold zfr at e;omega)
   go_enter func64,ntmps64;go_wp2_with fail;go_ret;exact⟨y.out,bb.out⟩
 ·have y:=Z0 (IsB.no (P:=zfr 3 i a p) fun e=>by unfold zfr at e;omega)
  go_enter func64,ntmps64;go_wp2_with fail;go_ret;exact⟨y.out,bb.out⟩
theorem sindex_4(m h g i n v a p:Int)(w:World):Calls prog 64 #[OpD.val ⟨4,m,h,g,i,n,v⟩,.int .i64 a,.int .i64 p] w fun e w'=>IsB (zfr 4 i a p) e∧Below w.heap.size w w':=by
 unfold OpD.val OpD.cells;have bb:=Z0 (Y2 w (.cells #[.int .i64 4,.int .i64 m,.int .i64 h,.int .i64 g,.int .i64 i,.int .i64 n,.int .i64 v] 43))
 by_cases c1:p≤i
 ·by_cases c2:i<a
  ·have y:=Z0 (IsB.yes (P:=zfr 4 i a p) ⟨fun e=>by omega,fun e=>by omega⟩)
   go_enter func64,ntmps64;go_wp2_with fail;go_ret;exact⟨y.out,bb.out⟩
  ·have y:=Z0 (IsB.no (P:=zfr 4 i a p) fun e=>by unfold zfr at e;omega)
   go_enter func64,ntmps64;go_wp2_with fail;go_ret;exact⟨y.out,bb.out⟩
 ·have y:=Z0 (IsB.no (P:=zfr 4 i a p) fun e=>by unfold zfr at e;omega)
  go_enter func64,ntmps64;go_wp2_with fail;go_ret;exact⟨y.out,bb.out⟩
theorem sindex_5(m h g i n v a p:Int)(w:World):Calls prog 64 #[OpD.val ⟨5,m,h,g,i,n,v⟩,.int .i64 a,.int .i64 p] w fun e w'=>IsB (zfr 5 i a p) e∧Below w.heap.size w w':=by
 unfold OpD.val OpD.cells;have bb:=Z0 (Y2 w (.cells #[.int .i64 5,.int .i64 m,.int .i64 h,.int .i64 g,.int .i64 i,.int .i64 n,.int .i64 v] 43))
 by_cases c1:p≤i
 ·by_cases c2:i<a
  ·have y:=Z0 (IsB.yes (P:=zfr 5 i a p) ⟨fun e=>by omega,fun e=>by omega⟩)
   go_enter func64,ntmps64;go_wp2_with fail;go_ret;exact⟨y.out,bb.out⟩
  ·have y:=Z0 (IsB.no (P:=zfr 5 i a p) fun e=>by unfold zfr at e;omega)
   go_enter func64,ntmps64;go_wp2_with fail;go_ret;exact⟨y.out,bb.out⟩
 ·have y:=Z0 (IsB.no (P:=zfr 5 i a p) fun e=>by unfold zfr at e;omega)
  go_enter func64,ntmps64;go_wp2_with fail;go_ret;exact⟨y.out,bb.out⟩
theorem sindex_9(m h g i n v a p:Int)(w:World):Calls prog 64 #[OpD.val ⟨9,m,h,g,i,n,v⟩,.int .i64 a,.int .i64 p] w fun e w'=>IsB (zfr 9 i a p) e∧Below w.heap.size w w':=by
 unfold OpD.val OpD.cells;have bb:=Z0 (Y2 w (.cells #[.int .i64 9,.int .i64 m,.int .i64 h,.int .i64 g,.int .i64 i,.int .i64 n,.int .i64 v] 43));have y:=Z0 (IsB.yes (P:=zfr 9 i a p) ⟨fun e=>by omega,fun e=>by omega⟩);go_enter func64,ntmps64;go_wp2_with fail;go_ret;exact⟨y.out,bb.out⟩
structure zpa(w:World)(S:Y9)(D:WD)(M H:Nat)(gm cm gr cr:Nat)(r:List Int):Prop where
 vm:S.vm=.slice (some ⟨gm,0,none⟩) D.muts.length cm
 mt:D.muts[M]?=some r
 mv:S.mv[M]?=some (.slice (some ⟨gr,0,none⟩) r.length cr)
 xm:w.cell? ⟨gm,M,none⟩=some (.slice (some ⟨gr,0,none⟩) r.length cr)
 xr:w.cell? ⟨gr,H,none⟩=some (.int .i64 (r[H]?.getD 0))
 frz:w.frozen? ⟨gr,H,none⟩=false
theorem VarW.rootAt{w:World}{base B:Nat}{S:Y9}{D:WD}(h:VarW w base B S D){M:Nat}{r:List Int}(hr:D.muts[M]?=some r){H:Nat}(hH:H<r.length):∃gm cm gr cr,zpa w S D M H gm cm gr cr r:=by
 have hl:=(List.getElem?_eq_some_iff.1 hr).1;obtain⟨u,hu⟩:∃u,S.mv[M]?=some u:=⟨_,List.getElem?_eq_getElem (by have:=h.own.mvl;omega)⟩;have hi:=h.own.innerM M r u hr hu;obtain⟨gr,cr,rfl⟩:=J3 hi (by omega)
 obtain⟨gm,cm,hgm⟩:∃g c,S.vm=.slice (some ⟨g,0,none⟩) D.muts.length c:=by
  rcases h.own.muts.2 with⟨_,h0⟩|⟨g,cap,cur,e,_⟩
  ·omega
  ·exact⟨g,cap,e⟩
 have hrow:=h.own.muts;rw[hgm]at hrow;obtain⟨c1,c2⟩:=U0 hi rfl H hH;exact⟨gm,cm,gr,cr,hgm,hr,hu,by rw[hrow.cellAt M (by have:=h.own.mvl;omega)];exact hu,c1,c2⟩
theorem zlf{D:WD}(hF:Y5 D):U9 D 0 D:=.inr ⟨fun _ k j h=>absurd (h.range hF) (by have:=hF.geo.1;omega),rfl⟩
theorem zvm(base B:Nat)(S:Y9)(D:WD)(k m h g i n v:Int)(p:Nat)(hG:M7 D)(hm:0≤m∧m<(D.muts.length:Int))(hg:HOk g)(hpl:p<D.words.length)(w:World)(hv:VarW w base B S D) :
  Calls prog 66 #[.pointer (some ⟨B,0,none⟩),OpD.val ⟨k,m,h,g,i,n,v⟩,.int .i64 p] w fun e w'=>e=.returned (.tuple #[])∧(∃S' E,zeu D m (V2 D m g) p E∧VarW w' base B S' E∧V8 w w' B S S')∧Below base w w':=by
 unfold OpD.val OpD.cells;obtain⟨M,rfl⟩:=Int.eq_ofNat_of_zero_le hm.1;obtain⟨G,rfl⟩:=Int.eq_ofNat_of_zero_le hg.1;have hM:M<D.muts.length:=by have:=hm.2;omega
 obtain⟨r,hr⟩:∃r,D.muts[M]?=some r:=⟨_,List.getElem?_eq_getElem hM⟩;have hr6:=hG.form.roots M r hr;have hG6:G<r.length:=by have:=hg.2;omega
 have hroot:V2 D (M:Int) (G:Int)=r[G]?.getD 0:=by unfold V2;rw[Int.toNat_natCast,Int.toNat_natCast,hr];rfl
 rw[hroot];have hle:=Z0 (Nat.le_of_lt (Nat.lt_of_le_of_lt hv.le hv.lt));have bb:=Y2 w (.cells #[.int .i64 k,.int .i64 (M:Int),.int .i64 h,.int .i64 (G:Int),.int .i64 i,.int .i64 n,.int .i64 v] 43);have bx:=Y8 w (.cells #[.int .i64 k,.int .i64 (M:Int),.int .i64 h,.int .i64 (G:Int),.int .i64 i,.int .i64 n,.int .i64 v] 43);have hBb:=Z0 (bb.mono hle.out);have hTb:=Z0 (V8.of_below B S bb);have hv0:=Z0 (hv.below bb);have hq:=Z0 bx;have hz0:=Z0 (show w.heap.size<(w.alloc (.cells #[.int .i64 k,.int .i64 (M:Int),.int .i64 h,.int .i64 (G:Int),.int .i64 i,.int .i64 n,.int .i64 v] 43)).heap.size by simp)
 have hnb:=Z0 (show w.heap.size∉B::blks S.all from fun hm=>by
  rcases List.mem_cons.1 hm with e|hm
  ·have:=hv.lt
   omega
  ·have:=(hv.own.lt _ hm).2
   omega)
 obtain⟨gm,cm,gr,cr,R⟩:=hv0.out.rootAt hr hG6;obtain⟨gw,cw,hgw⟩:=hv0.out.headW (by omega);have hgw':=Z0 hgw;have xw:=(U0 hv0.out.own.words hgw p hpl).1;have g2:=hv0.out.cell 2 S.vw rfl;rw[hgw]at g2;have g5:=hv0.out.cell 5 S.vm rfl;rw[R.vm]at g5;have x0:=R.xm;have x1:=R.xr;have q1:=Z6 bx 1 (.int .i64 (M:Int)) rfl;have q3:=Z6 bx 3 (.int .i64 (G:Int)) rfl;have hM1:(M:Int)<(D.muts.length:Int):=by omega
 have hG1:(G:Int)<(r.length:Int):=by omega
 have hp1:(p:Int)<(D.words.length:Int):=by omega
 have hF':=Z0 hG.form;have hgl:=Z0 hG.greyLen;have hwb:=Z0 (show D.words.length≤384∧(D.words.length:Int)=8*(D.dirty.length:Int)from by have h1:=hG.form.words;have h2:=hG.form.dirty;have h3:=hG.form.geo.2.2.2.2.1;omega);have hmm:=Z0 (show D.muts.length≤3 by have:=hG.form.geo.2.2.2.2.2.2;omega);have hpl':=Z0 hpl;clear hG hm hg hr hroot R hgw hv bb bx;generalize r[G]?.getD 0=z at *;go_enter func66,ntmps66;go_wp2_with fail;generalize w.alloc (.cells #[.int .i64 k,.int .i64 (M:Int),.int .i64 h,.int .i64 (G:Int),.int .i64 i,.int .i64 n,.int .i64 v] 43)=W at *
 go_quiet (fail)
 have hv1:=Z0 (hv0.out.drewN nq);have hB1:=Z0 (below_drewN hBb.out nq);have hT1:=Z0 (hTb.out.below (below_drewN (Below.refl _ _) nq));have hq1:Hid ((W.drewN nq).heap[w.heap.size]?=some (.cells #[.int .i64 k,.int .i64 (M:Int),.int .i64 h,.int .i64 (G:Int),.int .i64 i,.int .i64 n,.int .i64 v] 43 (0,0))):=Z0 hq.out;have hz1:Hid (w.heap.size<(W.drewN nq).heap.size):=Z0 hz0.out;replace g2:(W.drewN nq).cell? ⟨B,2,none⟩=_:=g2;replace xw:(W.drewN nq).cell? ⟨gw,p,none⟩=_:=xw;generalize W.drewN nq=w1 at *;clear g5 x0 x1 q1 q3 hv0 hBb hq hz0 hTb;generalize hx:D.words[p]?.getD 0=x at *;have hx':=Z0 hx;clear hx
 by_cases c1:x=0
 ·have d1:(x != 0)=false:=by rw[c1];rfl
  obtain⟨D1,hD1⟩:∃D1,D1=D:=⟨_,rfl⟩;obtain⟨SA,hSA0⟩:∃SA,SA=S:=⟨_,rfl⟩;obtain⟨WA,hWA⟩:∃WA,WA=w1:=⟨_,rfl⟩;have hsA:=Z0 (show U9 D x D1 from by rw[hD1,c1];exact zlf hF'.out);have hvA:=Z0 (show VarW WA base B SA D1 from by rw[hD1,hSA0,hWA];exact hv1.out);have hSA:=Z0 (show SA.vw=S.vw∧True from⟨by rw[hSA0],trivial⟩);have hBA:=Z0 (show Below base w WA from by rw[hWA];exact hB1.out);have hTA:=Z0 (show V8 w WA B S SA from by rw[hWA,hSA0];exact hT1.out);have hqA:Hid (WA.heap[w.heap.size]?=some (.cells #[.int .i64 k,.int .i64 (M:Int),.int .i64 h,.int .i64 (G:Int),.int .i64 i,.int .i64 n,.int .i64 v] 43 (0,0))):=Z0 (by rw[hWA];exact hq1.out);rw[←hWA]at g2 xw ⊢;clear hD1 hSA0 hWA c1;have hvw:=hvA.out.cell 2 S.vw (by rw[←hSA.out.1];rfl);rw[hgw'.out]at hvw;have qm:=Z6 hqA.out 1 (.int .i64 (M:Int)) rfl;have hwl:D1.words=D.words:=hsA.out.same.words;have hdl:=Z0 (show D1.dirty=D.dirty from hsA.out.rest.2.1);have hwl':=Z0 hwl
  by_cases c2:z=0
  ·have d2:(z != 0)=false:=by rw[c2];rfl
   have st:=Z0 (show M5 D (M:Int)∨(¬M5 D (M:Int)∧U9 D1 z D1)from by by_cases c:M5 D (M:Int);exact .inl c;exact .inr ⟨c,by rw[c2];exact zlf (hsA.out.form hF'.out)⟩);clear c2;have hwl2:=Z0 (show D1.words=D.words from hwl);have hgx:SA.vw=.slice (some ⟨gw,0,none⟩) D1.words.length cw:=by rw[hwl2.out,hSA.out.1];exact hgw'.out
   have cX:=(U0 hvA.out.own.words hgx p (by rw[hwl2.out];exact hpl'.out)).1;have fX:=(U0 hvA.out.own.words hgx p (by rw[hwl2.out];exact hpl'.out)).2;have gX:=hvA.out.cell 2 SA.vw rfl;rw[hgx,hwl2.out]at gX;have vS:=hvA.out.word hgx p z;have tX:=Z0 (hTA.out.own_set (zjw hgx) p (.int .i64 z));have dX:=Z0 (G9 base B SA { D1 with words:=D1.words.set p z } (p:Int) 1 (by omega) (by have:=hwb.out.1;have:=hpl'.out;omega) (by omega) (by omega) (by show(p:Int)+1≤8*(D1.dirty.length:Int);rw[hdl.out];have:=hwb.out.2;have:=hpl'.out;omega) _ vS.1);have bS:=Z0 vS.2;clear vS hgx;generalize D1.words[p]?.getD 0=old at cX;go_wp2_with fail;refine dX.out.mono ?_;rintro e wF⟨rfl,vF,bF,cF⟩;have y:=Z0 (show ∃S' E,zeu D (M:Int) z p E∧VarW wF base B S' E∧V8 w wF B S S' from⟨SA,_,⟨D1,D1,by rw[hx'.out];exact hsA.out,st.out.imp (fun h=>⟨h,rfl⟩) id,rfl⟩,vF,tX.out.chgAll cF⟩);have bE:=Z0 ((hBA.out.trans bS.out).trans bF);clear vF bF dX cF tX;go_wp2_with fail
   go_end0
   exact⟨rfl,y.out,bE.out⟩
  ·have d2:(z != 0)=true:=bne_iff_ne.2 c2
   clear c2;have hsn:=Z0 (zlm B _ D1 (M:Int) WA hvA.out.rd hvA.out.boxW);have hph:=Z0 (show M5 D1 (M:Int)↔M5 D (M:Int)from by unfold M5;rw[hsA.out.rest.2.2.2.1,hsA.out.rest.2.2.2.2]);go_wp2_with fail;refine hsn.out.mono ?_;rintro e w'⟨hq,rfl⟩;replace hq:=hq.elim;clear hsn
   rcases hq with⟨hq,rfl⟩|⟨hq,rfl⟩
   ·have st:=Z0 (show M5 D (M:Int)∨(¬M5 D (M:Int)∧U9 D1 z D1)from .inl (hph.out.1 hq))
    clear hq;have hwl2:=Z0 (show D1.words=D.words from hwl);have hgx:SA.vw=.slice (some ⟨gw,0,none⟩) D1.words.length cw:=by rw[hwl2.out,hSA.out.1];exact hgw'.out
    have cX:=(U0 hvA.out.own.words hgx p (by rw[hwl2.out];exact hpl'.out)).1;have fX:=(U0 hvA.out.own.words hgx p (by rw[hwl2.out];exact hpl'.out)).2;have gX:=hvA.out.cell 2 SA.vw rfl;rw[hgx,hwl2.out]at gX;have vS:=hvA.out.word hgx p z;have tX:=Z0 (hTA.out.own_set (zjw hgx) p (.int .i64 z));have dX:=Z0 (G9 base B SA { D1 with words:=D1.words.set p z } (p:Int) 1 (by omega) (by have:=hwb.out.1;have:=hpl'.out;omega) (by omega) (by omega) (by show(p:Int)+1≤8*(D1.dirty.length:Int);rw[hdl.out];have:=hwb.out.2;have:=hpl'.out;omega) _ vS.1);have bS:=Z0 vS.2;clear vS hgx;generalize D1.words[p]?.getD 0=old at cX;go_wp2_with fail;refine dX.out.mono ?_;rintro e wF⟨rfl,vF,bF,cF⟩;have y:=Z0 (show ∃S' E,zeu D (M:Int) z p E∧VarW wF base B S' E∧V8 w wF B S S' from⟨SA,_,⟨D1,D1,by rw[hx'.out];exact hsA.out,st.out.imp (fun h=>⟨h,rfl⟩) id,rfl⟩,vF,tX.out.chgAll cF⟩);have bE:=Z0 ((hBA.out.trans bS.out).trans bF);clear vF bF dX cF tX;go_wp2_with fail
    go_end0
    exact⟨rfl,y.out,bE.out⟩
   ·have hns:=Z0 (show ¬M5 D (M:Int)from fun e=>hq (hph.out.2 e))
    clear hq;have hsh:=Z0 (zlh base B SA D1 z (hsA.out.form hF'.out) (by have:=hsA.out.greyLen;have:=hgl.out;omega) WA hvA.out);go_wp2_with fail;refine hsh.out.mono ?_;rintro e w6⟨rfl,⟨S6,D6,i6,v6,s6⟩,b6⟩;have hv6:=Z0 v6;have hs6:=Z0 i6;have hB6:=Z0 (hBA.out.trans b6);have hS6:=Z0 (show S6.vw=S.vw from by obtain⟨vv,rfl,_⟩:=s6.vg;exact hSA.out.1);have hT6:=Z0 (hTA.out.trans s6.turned);clear v6 i6 b6 s6 hsh hvw qm;have hwl2:=Z0 (show D6.words=D.words from hs6.out.same.words.trans hwl);have hgx:S6.vw=.slice (some ⟨gw,0,none⟩) D6.words.length cw:=by rw[hwl2.out,hS6.out];exact hgw'.out
    have cX:=(U0 hv6.out.own.words hgx p (by rw[hwl2.out];exact hpl'.out)).1;have fX:=(U0 hv6.out.own.words hgx p (by rw[hwl2.out];exact hpl'.out)).2;have gX:=hv6.out.cell 2 S6.vw rfl;rw[hgx,hwl2.out]at gX;have vS:=hv6.out.word hgx p z;have tX:=Z0 (hT6.out.own_set (zjw hgx) p (.int .i64 z));have dX:=Z0 (G9 base B S6 { D6 with words:=D6.words.set p z } (p:Int) 1 (by omega) (by have:=hwb.out.1;have:=hpl'.out;omega) (by omega) (by omega) (by show(p:Int)+1≤8*(D6.dirty.length:Int);rw[hs6.out.rest.2.1,hdl.out];have:=hwb.out.2;have:=hpl'.out;omega) _ vS.1);have bS:=Z0 vS.2;clear vS hgx;generalize D6.words[p]?.getD 0=old at cX;go_wp2_with fail;refine dX.out.mono ?_;rintro e wF⟨rfl,vF,bF,cF⟩;have y:=Z0 (show ∃S' E,zeu D (M:Int) z p E∧VarW wF base B S' E∧V8 w wF B S S' from⟨S6,_,⟨D1,D6,by rw[hx'.out];exact hsA.out,.inr ⟨hns.out,hs6.out⟩,rfl⟩,vF,tX.out.chgAll cF⟩);have bE:=Z0 ((hB6.out.trans bS.out).trans bF);clear vF bF dX cF tX;go_wp2_with fail
    go_end0
    exact⟨rfl,y.out,bE.out⟩
 ·have d1:(x != 0)=true:=bne_iff_ne.2 c1
  clear c1;have hsh:=Z0 (zlh base B S D x hF'.out (by have:=hgl.out;omega) w1 hv1.out);go_wp2_with fail;refine hsh.out.mono ?_;rintro e WA⟨rfl,⟨SA,D1,iA,vA,sA⟩,bA⟩;have hsA:=Z0 iA;have hvA:=Z0 vA;have hSA:=Z0 (show SA.vw=S.vw∧True from⟨by obtain⟨vv,rfl,_⟩:=sA.vg;rfl,trivial⟩);have hBA:=Z0 (hB1.out.trans bA);have hTA:=Z0 (hT1.out.trans sA.turned);have hqA:Hid (WA.heap[w.heap.size]?=some (.cells #[.int .i64 k,.int .i64 (M:Int),.int .i64 h,.int .i64 (G:Int),.int .i64 i,.int .i64 n,.int .i64 v] 43 (0,0))):=Z0 ((sA.chg.block w.heap.size hz1.out hnb.out).trans hq1.out);clear iA vA sA bA hsh g2 xw;have hvw:=hvA.out.cell 2 S.vw (by rw[←hSA.out.1];rfl);rw[hgw'.out]at hvw;have qm:=Z6 hqA.out 1 (.int .i64 (M:Int)) rfl;have hwl:D1.words=D.words:=hsA.out.same.words;have hdl:=Z0 (show D1.dirty=D.dirty from hsA.out.rest.2.1);have hwl':=Z0 hwl
  by_cases c2:z=0
  ·have d2:(z != 0)=false:=by rw[c2];rfl
   have st:=Z0 (show M5 D (M:Int)∨(¬M5 D (M:Int)∧U9 D1 z D1)from by by_cases c:M5 D (M:Int);exact .inl c;exact .inr ⟨c,by rw[c2];exact zlf (hsA.out.form hF'.out)⟩);clear c2;have hwl2:=Z0 (show D1.words=D.words from hwl);have hgx:SA.vw=.slice (some ⟨gw,0,none⟩) D1.words.length cw:=by rw[hwl2.out,hSA.out.1];exact hgw'.out
   have cX:=(U0 hvA.out.own.words hgx p (by rw[hwl2.out];exact hpl'.out)).1;have fX:=(U0 hvA.out.own.words hgx p (by rw[hwl2.out];exact hpl'.out)).2;have gX:=hvA.out.cell 2 SA.vw rfl;rw[hgx,hwl2.out]at gX;have vS:=hvA.out.word hgx p z;have tX:=Z0 (hTA.out.own_set (zjw hgx) p (.int .i64 z));have dX:=Z0 (G9 base B SA { D1 with words:=D1.words.set p z } (p:Int) 1 (by omega) (by have:=hwb.out.1;have:=hpl'.out;omega) (by omega) (by omega) (by show(p:Int)+1≤8*(D1.dirty.length:Int);rw[hdl.out];have:=hwb.out.2;have:=hpl'.out;omega) _ vS.1);have bS:=Z0 vS.2;clear vS hgx;generalize D1.words[p]?.getD 0=old at cX;go_wp2_with fail;refine dX.out.mono ?_;rintro e wF⟨rfl,vF,bF,cF⟩;have y:=Z0 (show ∃S' E,zeu D (M:Int) z p E∧VarW wF base B S' E∧V8 w wF B S S' from⟨SA,_,⟨D1,D1,by rw[hx'.out];exact hsA.out,st.out.imp (fun h=>⟨h,rfl⟩) id,rfl⟩,vF,tX.out.chgAll cF⟩);have bE:=Z0 ((hBA.out.trans bS.out).trans bF);clear vF bF dX cF tX;go_wp2_with fail
   go_end0
   exact⟨rfl,y.out,bE.out⟩
  ·have d2:(z != 0)=true:=bne_iff_ne.2 c2
   clear c2;have hsn:=Z0 (zlm B _ D1 (M:Int) WA hvA.out.rd hvA.out.boxW);have hph:=Z0 (show M5 D1 (M:Int)↔M5 D (M:Int)from by unfold M5;rw[hsA.out.rest.2.2.2.1,hsA.out.rest.2.2.2.2]);go_wp2_with fail;refine hsn.out.mono ?_;rintro e w'⟨hq,rfl⟩;replace hq:=hq.elim;clear hsn
   rcases hq with⟨hq,rfl⟩|⟨hq,rfl⟩
   ·have st:=Z0 (show M5 D (M:Int)∨(¬M5 D (M:Int)∧U9 D1 z D1)from .inl (hph.out.1 hq))
    clear hq;have hwl2:=Z0 (show D1.words=D.words from hwl);have hgx:SA.vw=.slice (some ⟨gw,0,none⟩) D1.words.length cw:=by rw[hwl2.out,hSA.out.1];exact hgw'.out
    have cX:=(U0 hvA.out.own.words hgx p (by rw[hwl2.out];exact hpl'.out)).1;have fX:=(U0 hvA.out.own.words hgx p (by rw[hwl2.out];exact hpl'.out)).2;have gX:=hvA.out.cell 2 SA.vw rfl;rw[hgx,hwl2.out]at gX;have vS:=hvA.out.word hgx p z;have tX:=Z0 (hTA.out.own_set (zjw hgx) p (.int .i64 z));have dX:=Z0 (G9 base B SA { D1 with words:=D1.words.set p z } (p:Int) 1 (by omega) (by have:=hwb.out.1;have:=hpl'.out;omega) (by omega) (by omega) (by show(p:Int)+1≤8*(D1.dirty.length:Int);rw[hdl.out];have:=hwb.out.2;have:=hpl'.out;omega) _ vS.1);have bS:=Z0 vS.2;clear vS hgx;generalize D1.words[p]?.getD 0=old at cX;go_wp2_with fail;refine dX.out.mono ?_;rintro e wF⟨rfl,vF,bF,cF⟩;have y:=Z0 (show ∃S' E,zeu D (M:Int) z p E∧VarW wF base B S' E∧V8 w wF B S S' from⟨SA,_,⟨D1,D1,by rw[hx'.out];exact hsA.out,st.out.imp (fun h=>⟨h,rfl⟩) id,rfl⟩,vF,tX.out.chgAll cF⟩);have bE:=Z0 ((hBA.out.trans bS.out).trans bF);clear vF bF dX cF tX;go_wp2_with fail
    go_end0
    exact⟨rfl,y.out,bE.out⟩
   ·have hns:=Z0 (show ¬M5 D (M:Int)from fun e=>hq (hph.out.2 e))
    clear hq;have hsh:=Z0 (zlh base B SA D1 z (hsA.out.form hF'.out) (by have:=hsA.out.greyLen;have:=hgl.out;omega) WA hvA.out);go_wp2_with fail;refine hsh.out.mono ?_;rintro e w6⟨rfl,⟨S6,D6,i6,v6,s6⟩,b6⟩;have hv6:=Z0 v6;have hs6:=Z0 i6;have hB6:=Z0 (hBA.out.trans b6);have hS6:=Z0 (show S6.vw=S.vw from by obtain⟨vv,rfl,_⟩:=s6.vg;exact hSA.out.1);have hT6:=Z0 (hTA.out.trans s6.turned);clear v6 i6 b6 s6 hsh hvw qm;have hwl2:=Z0 (show D6.words=D.words from hs6.out.same.words.trans hwl);have hgx:S6.vw=.slice (some ⟨gw,0,none⟩) D6.words.length cw:=by rw[hwl2.out,hS6.out];exact hgw'.out
    have cX:=(U0 hv6.out.own.words hgx p (by rw[hwl2.out];exact hpl'.out)).1;have fX:=(U0 hv6.out.own.words hgx p (by rw[hwl2.out];exact hpl'.out)).2;have gX:=hv6.out.cell 2 S6.vw rfl;rw[hgx,hwl2.out]at gX;have vS:=hv6.out.word hgx p z;have tX:=Z0 (hT6.out.own_set (zjw hgx) p (.int .i64 z));have dX:=Z0 (G9 base B S6 { D6 with words:=D6.words.set p z } (p:Int) 1 (by omega) (by have:=hwb.out.1;have:=hpl'.out;omega) (by omega) (by omega) (by show(p:Int)+1≤8*(D6.dirty.length:Int);rw[hs6.out.rest.2.1,hdl.out];have:=hwb.out.2;have:=hpl'.out;omega) _ vS.1);have bS:=Z0 vS.2;clear vS hgx;generalize D6.words[p]?.getD 0=old at cX;go_wp2_with fail;refine dX.out.mono ?_;rintro e wF⟨rfl,vF,bF,cF⟩;have y:=Z0 (show ∃S' E,zeu D (M:Int) z p E∧VarW wF base B S' E∧V8 w wF B S S' from⟨S6,_,⟨D1,D6,by rw[hx'.out];exact hsA.out,.inr ⟨hns.out,hs6.out⟩,rfl⟩,vF,tX.out.chgAll cF⟩);have bE:=Z0 ((hB6.out.trans bS.out).trans bF);clear vF bF dX cF tX;go_wp2_with fail
    go_end0
    exact⟨rfl,y.out,bE.out⟩
theorem M0.rest{D D1:WD}{c:Int}{k j:Nat}(h:M0 D c D1 k j):D1.muts=D.muts∧D1.base=D.base∧D1.phase=D.phase∧D1.words=D.words∧D1.grey=D.grey∧D1.next=D.next∧D1.pages=D.pages:=by
 rcases h with⟨rfl,_⟩|⟨_,_,_,rfl,_⟩
 ·exact⟨rfl,rfl,rfl,rfl,rfl,rfl,rfl⟩
 ·exact⟨rfl,rfl,rfl,rfl,rfl,rfl,rfl⟩
theorem J2{D:WD}{M H:Nat}{r:List Int}(h:D.muts[M]?=some r)(x:Int):N0 D (M:Int) (H:Int) x={ D with muts:=D.muts.set M (r.set H x) }:=by
 unfold N0;rw[Int.toNat_natCast,Int.toNat_natCast,h];rfl
theorem zvv(base B:Nat)(S:Y9)(D:WD)(k m h g i n v:Int)(hG:M7 D)(hm:0≤m∧m<(D.muts.length:Int))(hh:HOk h)(hsz:ziq n v)(w:World)(hv:VarW w base B S D) :
  Calls prog 62 #[.pointer (some ⟨B,0,none⟩),OpD.val ⟨k,m,h,g,i,n,v⟩] w fun e w'=>(∃c,e=.returned (.int .i64 c)∧∃S' E,zgt D ⟨k,m,h,g,i,n,v⟩ E c∧VarW w' base B S' E∧V8 w w' B S S')∧Below base w w':=by
 unfold OpD.val OpD.cells;obtain⟨M,rfl⟩:=Int.eq_ofNat_of_zero_le hm.1;obtain⟨H,rfl⟩:=Int.eq_ofNat_of_zero_le hh.1;have hM:M<D.muts.length:=by have:=hm.2;omega
 obtain⟨r,hr⟩:∃r,D.muts[M]?=some r:=⟨_,List.getElem?_eq_getElem hM⟩;have hr6:=hG.form.roots M r hr;have hH6:H<r.length:=by have:=hh.2;omega
 have hle:=Z0 (Nat.le_of_lt (Nat.lt_of_le_of_lt hv.le hv.lt));have bb:=Y2 w (.cells #[.int .i64 k,.int .i64 (M:Int),.int .i64 (H:Int),.int .i64 g,.int .i64 i,.int .i64 n,.int .i64 v] 43);have bx:=Y8 w (.cells #[.int .i64 k,.int .i64 (M:Int),.int .i64 (H:Int),.int .i64 g,.int .i64 i,.int .i64 n,.int .i64 v] 43);have hBb:=Z0 (bb.mono hle.out);have hTb:=Z0 (V8.of_below B S bb);have hv0:=Z0 (hv.below bb);have hq:=Z0 bx;have hz0:=Z0 (show w.heap.size<(w.alloc (.cells #[.int .i64 k,.int .i64 (M:Int),.int .i64 (H:Int),.int .i64 g,.int .i64 i,.int .i64 n,.int .i64 v] 43)).heap.size by simp)
 have hnb:=Z0 (show w.heap.size∉B::blks S.all from fun hm=>by
  rcases List.mem_cons.1 hm with e|hm
  ·have:=hv.lt
   omega
  ·have:=(hv.own.lt _ hm).2
   omega)
 have hst:=Z0 (zxo base B S D n v hG.form hsz.1 hsz.2.1 hsz.2.2.1 hsz.2.2.2 (w.alloc (.cells #[.int .i64 k,.int .i64 (M:Int),.int .i64 (H:Int),.int .i64 g,.int .i64 i,.int .i64 n,.int .i64 v] 43)) hv0.out);have hF':=Z0 hG.form;have hr':=Z0 hr;have hsz':=Z0 hsz;have hmm:=Z0 (show D.muts.length≤3 by have:=hG.form.geo.2.2.2.2.2.2;omega);have hM1:(M:Int)<(D.muts.length:Int):=by omega
 have hH1:(H:Int)<(r.length:Int):=by omega
 have hH6':=Z0 hH6;clear hG hm hh hr hv bb bx hsz;go_enter func62,ntmps62;go_wp2_with fail;generalize w.alloc (.cells #[.int .i64 k,.int .i64 (M:Int),.int .i64 (H:Int),.int .i64 g,.int .i64 i,.int .i64 n,.int .i64 v] 43)=W at *;refine hst.out.mono ?_;rintro e w1⟨hq1,b1⟩;have hB1:=Z0 (hBb.out.trans b1);clear hst b1
 rcases hq1 with⟨D1,kk,jj,s,S1,hp,hs1,rfl,hv1,ht1⟩|⟨hno,rfl,hv1,ht1⟩
 case inr =>
  have y:=Z0 (show zgt D ⟨k,(M:Int),(H:Int),g,i,n,v⟩ D 5 from .inr ⟨hno,rfl,rfl⟩);have hv1':=Z0 hv1;have hT1:=Z0 (hTb.out.trans ht1);clear hno hv1 ht1;go_wp2_with fail;go_ret;exact⟨⟨_,rfl,S,D,y.out,hv1'.out,hT1.out⟩,hB1.out⟩
 have hq1:Hid (w1.heap[w.heap.size]?=some (.cells #[.int .i64 k,.int .i64 (M:Int),.int .i64 (H:Int),.int .i64 g,.int .i64 i,.int .i64 n,.int .i64 v] 43 (0,0))):=Z0 ((ht1.chg.block w.heap.size hz0.out hnb.out).trans hq.out);have hfm:=zlj hF'.out hsz'.out.1 hsz'.out.2.1 hp hs1 hsz'.out.2.2.1 hsz'.out.2.2.2;have hrest:=hp.rest;have hkl:=(List.getElem?_eq_some_iff.1 hs1).1;have hkt:(zeo D1 kk s jj n v).spans[kk]?=some (N7 s jj n v):=zhl hs1;have hob:R6 (zeo D1 kk s jj n v) (D1.base+atW s (jj:Int)) kk jj:=⟨N7 s jj n v,hkt,by simpa[N7]using hfm.2,by have:=hsz'.out.1;simp[N7,hfm.2];omega,rfl⟩;have hrange:=hob.range hfm.1;have hbase:32≤D1.base:=hfm.1.geo.1;have hbase2:(zeo D1 kk s jj n v).base=D1.base:=rfl;have hane:=Z0 (show(D1.base+atW s (jj:Int))≠0 by omega);have hy:=Z0 (show ∀D3,zir (zeo D1 kk s jj n v) kk jj D3→zgt D ⟨k,(M:Int),(H:Int),g,i,n,v⟩ (N0 D3 (M:Int) (H:Int) (D1.base+atW s (jj:Int))) 0 from fun D3 hk=>.inl ⟨D1,kk,jj,s,D3,hp,hs1,hk,rfl,rfl⟩);have hmu:(zeo D1 kk s jj n v).muts=D.muts:=hrest.1;have hob':=Z0 hob;have hkt':=Z0 hkt;have hF2:=Z0 hfm.1;have hmu':=Z0 hmu;have hv1':=Z0 hv1;have hT1:=Z0 (hTb.out.trans ht1);clear hp hs1 ht1 hfm hrest hkl hob hrange hbase hbase2 hmu hkt hv1;generalize D1.base+atW s (jj:Int)=a at *;generalize zeo D1 kk s jj n v=D2 at *;generalize N7 s jj n v=t at *;have d1:(a == 0)=false:=beq_eq_false_iff_ne.2 hane.out;have hfind:=Z0 (zgk B _ D2 hF2.out a w1 hv1'.out.rd hv1'.out.boxW);go_wp2_with fail;refine hfind.out.mono ?_;rintro e w2⟨⟨r1,r2,rfl,hq2⟩,b2⟩
 obtain⟨rfl,rfl⟩:r1=(kk:Int)∧r2=(jj:Int):=by
  rcases hq2 with⟨k',j',_,ho2,rfl,rfl⟩|⟨hn,_⟩
  ·obtain⟨rfl,rfl⟩:=ho2.unique hF2.out hob'.out
   exact⟨rfl,rfl⟩
  ·exact absurd hob'.out (hn hF2.out kk jj)
 have hv2:=Z0 (hv1'.out.below b2);have hB2:=Z0 (hB1.out.trans (b2.mono (by have:=hv1'.out.le;have:=hv1'.out.lt;omega)));have hq3:Hid (w2.heap[w.heap.size]?=some (.cells #[.int .i64 k,.int .i64 (M:Int),.int .i64 (H:Int),.int .i64 g,.int .i64 i,.int .i64 n,.int .i64 v] 43 (0,0))):=Z0 (Z8 b2 hq1.out);have hT2:=Z0 (hT1.out.below b2);clear hq2 b2 hfind hv1' hq1 hT1 hTb;have g6:=hv2.out.cell 6 (.int .i64 D2.phase) rfl;have hkl0:=(List.getElem?_eq_some_iff.1 hkt'.out).1;obtain⟨p,hp⟩:=hv2.out.svAt hkt'.out;obtain⟨gs,cs,hgs⟩:=hv2.out.headS (by omega);have g4:=hv2.out.cell 4 S1.vs rfl;rw[hgs]at g4;obtain⟨x0,x1,x2,x3,x4,x5⟩:=hv2.out.six hgs hkt'.out hp;have hkl1:(kk:Int)<(D2.spans.length:Int):=by omega
 have hsl:D2.spans.length≤12:=by have:=hF2.out.spans;have:=hF2.out.geo.2.2.2.2.1;omega
 have hgs':=Z0 hgs;have hp':=Z0 hp;clear hgs hp x0 x1 x4 x5
 by_cases hph:D2.phase=0
 ·have d2:(D2.phase != 0)=false:=by rw[hph];rfl
  have hkp:=Z0 (show zir D2 kk jj D2 from⟨t,hkt'.out,.inr ⟨fun e=>e.1 hph,rfl⟩⟩);clear hph x2;have y:=Z0 (hy.out _ hkp.out);have hmr:D2.muts[M]?=some r:=by show D2.muts[M]?=some r;rw[hmu'.out];exact hr'.out
  obtain⟨gm,cm,gr,cr,R⟩:=hv2.out.rootAt hmr hH6'.out;have g5:=hv2.out.cell 5 S1.vm rfl;rw[R.vm]at g5;have c0:=R.xm;have c1:=R.xr;have fr:=R.frz;have q1:=Z6 hq3.out 1 (.int .i64 (M:Int)) rfl;have q2:=Z6 hq3.out 2 (.int .i64 (H:Int)) rfl;have hML:(M:Int)<(D2.muts.length:Int):=by show(M:Int)<(D2.muts.length:Int);rw[hmu'.out];exact hM1
  have vr:=hv2.out.root M H r _ a hmr R.mv rfl;have hv9:=Z0 (show VarW _ base B S1 (N0 D2 (M:Int) (H:Int) a)from by rw[J2 hmr];exact vr.1);have hB9:=Z0 (hB2.out.trans vr.2);have hT9:=Z0 (hT2.out.own_set (zfm R.mv) H (.int .i64 a));generalize r[H]?.getD 0=old at c1;clear R vr hmr;go_wp2_with fail
  go_region
  all_goals go_wp2_with fail
  all_goals go_ret
  all_goals exact⟨⟨_,rfl,S1,_,y.out,hv9.out.drew,hT9.out.below (below_drewN (Below.refl _ _) 1)⟩,below_drewN hB9.out 1⟩
 have d2:(D2.phase != 0)=true:=bne_iff_ne.2 hph;have hph':=Z0 hph;clear hph
 cases hsw:t.swept
 case true =>
  rw[hsw]at x3;have hkp:=Z0 (show zir D2 kk jj D2 from⟨t,hkt'.out,.inr ⟨fun e=>by rw[hsw]at e;exact absurd e.2 (by decide),rfl⟩⟩);clear hsw x2;have y:=Z0 (hy.out _ hkp.out);have hmr:D2.muts[M]?=some r:=by show D2.muts[M]?=some r;rw[hmu'.out];exact hr'.out
  obtain⟨gm,cm,gr,cr,R⟩:=hv2.out.rootAt hmr hH6'.out;have g5:=hv2.out.cell 5 S1.vm rfl;rw[R.vm]at g5;have c0:=R.xm;have c1:=R.xr;have fr:=R.frz;have q1:=Z6 hq3.out 1 (.int .i64 (M:Int)) rfl;have q2:=Z6 hq3.out 2 (.int .i64 (H:Int)) rfl;have hML:(M:Int)<(D2.muts.length:Int):=by show(M:Int)<(D2.muts.length:Int);rw[hmu'.out];exact hM1
  have vr:=hv2.out.root M H r _ a hmr R.mv rfl;have hv9:=Z0 (show VarW _ base B S1 (N0 D2 (M:Int) (H:Int) a)from by rw[J2 hmr];exact vr.1);have hB9:=Z0 (hB2.out.trans vr.2);have hT9:=Z0 (hT2.out.own_set (zfm R.mv) H (.int .i64 a));generalize r[H]?.getD 0=old at c1;clear R vr hmr;go_wp2_with fail
  go_region
  all_goals go_wp2_with fail
  all_goals go_ret
  all_goals exact⟨⟨_,rfl,S1,_,y.out,hv9.out.drew,hT9.out.below (below_drewN (Below.refl _ _) 1)⟩,below_drewN hB9.out 1⟩
 rw[hsw]at x3;have hj16:=Z0 (show jj≤16 from by obtain⟨t',ht',hj,_⟩:=hob'.out;rw[hkt'.out]at ht';cases ht';exact(zek hF2.out hkt'.out hj).2.2);have hj1:(jj:Int)≤16:=by have:=hj16.out;omega
 have hkp:=Z0 (show zir D2 kk jj { D2 with spans:=D2.spans.set kk { t with mark:=bits .or .i64 t.mark ((2:Int)^jj) } } from⟨t,hkt'.out,.inl ⟨hph'.out,hsw,rfl⟩⟩);have f2:=hv2.out.frzS hgs'.out (kk*6+2);have v3:=hv2.out.mark hgs'.out kk t p (bits .or .i64 t.mark ((2:Int)^jj)) hkt'.out hp'.out;have hv3:=Z0 v3.1.drew;have hB3:=Z0 (show Below base w (w2.setCell ⟨gs,kk*6+2,none⟩ (.int .i64 (bits .or .i64 t.mark ((2:Int)^jj)))).drew from below_drewN (hB2.out.trans v3.2) 1);have hT3:=Z0 (show V8 w (w2.setCell ⟨gs,kk*6+2,none⟩ (.int .i64 (bits .or .i64 t.mark ((2:Int)^jj)))).drew B S S1 from(hT2.out.own_set (mem_vs hgs'.out) _ _).below (below_drewN (Below.refl _ _) 1))
 have hqs:=Z0 (show gs≠w.heap.size from fun e=>by
  have hrow:=hv2.out.own.spans;rw[hgs'.out]at hrow
  obtain⟨cur,hc⟩:∃cur,w2.heap[gs]?=some (.cells cur 93 (0,0)):=by
   rcases hrow.2 with⟨hx,_⟩|⟨g,cap,cur,hx,_,hh,_⟩
   ·cases hx
   ·cases hx
    exact⟨cur,hh⟩
  rw[e,hq3.out]at hc
  cases hc)
 have hq4:Hid ((w2.setCell ⟨gs,kk*6+2,none⟩ (.int .i64 (bits .or .i64 t.mark ((2:Int)^jj)))).drew.heap[w.heap.size]?=some (.cells #[.int .i64 k,.int .i64 (M:Int),.int .i64 (H:Int),.int .i64 g,.int .i64 i,.int .i64 n,.int .i64 v] 43 (0,0))):=Z0 ((heap_setCell_other w2 ⟨gs,kk*6+2,none⟩ w.heap.size _ (by simpa using hqs.out.symm)).trans hq3.out);clear hsw v3;go_wp2_with fail
 go_region
 rw[zub hj16.out];generalize (w2.setCell ⟨gs,kk*6+2,none⟩ (.int .i64 (bits .or .i64 t.mark ((2:Int)^jj)))).drew=w3 at *;clear g4 g6 x2 x3 f2;have y:=Z0 (hy.out _ hkp.out);have hmr:({ D2 with spans:=D2.spans.set kk { t with mark:=bits .or .i64 t.mark ((2:Int)^jj) } }:WD).muts[M]?=some r:=by show D2.muts[M]?=some r;rw[hmu'.out];exact hr'.out
 obtain⟨gm,cm,gr,cr,R⟩:=hv3.out.rootAt hmr hH6'.out;have g5:=hv3.out.cell 5 S1.vm rfl;rw[R.vm]at g5;have c0:=R.xm;have c1:=R.xr;have fr:=R.frz;have q1:=Z6 hq4.out 1 (.int .i64 (M:Int)) rfl;have q2:=Z6 hq4.out 2 (.int .i64 (H:Int)) rfl;have hML:(M:Int)<(({ D2 with spans:=D2.spans.set kk { t with mark:=bits .or .i64 t.mark ((2:Int)^jj) } }:WD).muts.length:Int):=by show(M:Int)<(D2.muts.length:Int);rw[hmu'.out];exact hM1
 have vr:=hv3.out.root M H r _ a hmr R.mv rfl;have hv9:=Z0 (show VarW _ base B S1 (N0 ({ D2 with spans:=D2.spans.set kk { t with mark:=bits .or .i64 t.mark ((2:Int)^jj) } }:WD) (M:Int) (H:Int) a)from by rw[J2 hmr];exact vr.1);have hB9:=Z0 (hB3.out.trans vr.2);have hT9:=Z0 (hT3.out.own_set (zfm R.mv) H (.int .i64 a));generalize r[H]?.getD 0=old at c1;clear R vr hmr;go_wp2_with fail
 go_region
 all_goals go_wp2_with fail
 all_goals go_ret
 all_goals exact⟨⟨_,rfl,S1,_,y.out,hv9.out.drew,hT9.out.below (below_drewN (Below.refl _ _) 1)⟩,below_drewN hB9.out 1⟩
def zis(D:WD)(o:OpD)(base B:Nat)(S:Y9)(w:World)(e:Ending)(w':World):Prop :=
 ∃c x S' E,DoIs D o E c x∧e=.returned (.agg #[.int .i64 c,.int .i64 x])∧VarW w' base B S' E∧V8 w w' B S S'
theorem X7.total(D:WD)(o:OpD):∃c,X7 D o c:=by
 by_cases a:zhh D o
 case neg=>exact⟨2,.inl ⟨a,rfl⟩⟩
 by_cases b:N1 o.kind→HOk o.g
 case neg=>exact⟨2,.inr (.inl ⟨a,Classical.byContradiction fun h=>b fun h'=>absurd h' h,fun h=>b fun _=>h,rfl⟩)⟩
 by_cases c:P5 o.kind→V2 D o.m o.h≠0
 case neg=>exact⟨2,.inr (.inr (.inl ⟨a,b,Classical.byContradiction fun h=>c fun h'=>absurd h' h,Classical.byContradiction fun h=>c fun _=>h,rfl⟩))⟩
 by_cases e:o.kind=1→ziq o.n o.v
 case neg=>exact⟨3,.inr (.inr (.inr (.inl ⟨a,b,Classical.byContradiction fun h=>e fun h'=>absurd h' h,fun h=>e fun _=>h,rfl⟩)))⟩
 exact⟨0,.inr (.inr (.inr (.inr ⟨a,b,c,e,rfl⟩)))⟩
theorem X7.zero{D:WD}{o:OpD}(h:X7 D o 0):zhh D o∧(N1 o.kind→HOk o.g)∧(P5 o.kind→V2 D o.m o.h≠0)∧(o.kind=1→ziq o.n o.v):=by
 rcases h with⟨_,e⟩|⟨_,_,_,e⟩|⟨_,_,_,_,e⟩|⟨_,_,_,_,e⟩|⟨a,b,c,d,_⟩
 ·omega
 ·omega
 ·omega
 ·omega
 ·exact⟨a,b,c,d⟩
def P9(D:WD):Prop:=∀r,r∈D.muts→∀a,a∈r→a=0∨P8 D a
theorem P9.at_{D:WD}(h:P9 D){m x:Int}(hr:V2 D m x≠0):∃k j s,R6 D (V2 D m x) k j∧D.spans[k]?=some s:=by
 have hm:∃r,r∈D.muts∧V2 D m x∈r:=by
  unfold V2 at hr ⊢
  cases e:D.muts[m.toNat]? with
  | none=>rw[e]at hr;simp at hr
  | some r =>
   rw[e]at hr;simp only[Option.getD_some]at hr ⊢
   cases e2:r[x.toNat]? with
   | none=>rw[e2]at hr;simp at hr
   | some a=>exact⟨r,List.mem_of_getElem? e,by simp only[Option.getD_some];exact List.mem_of_getElem? e2⟩
 obtain⟨r,h1,h2⟩:=hm
 rcases h r h1 _ h2 with h0|⟨k,j,ho⟩
 ·exact absurd h0 hr
 ·obtain⟨s,hs,hrest⟩:=id ho
  exact⟨k,j,s,ho,hs⟩
theorem P7{D E:WD}{o:OpD}{base B q:Nat}{S T:Y9}{w w1 w2:World}{c x:Int}(y:DoIs D o E c x)(hv:VarW w1 base B T E)(hT:V8 w w1 B S T)(hB:Below base w w1)(hb:base≤q)(hq:w.heap.size≤q)(hn:q∉B::blks T.all)(hc:Chg [q] w1 w2) :
  zis D o base B S w (.returned (.agg #[.int .i64 c,.int .i64 x])) w2∧Below base w w2:=by
 refine⟨⟨c,x,T,E,y,rfl,⟨(hc.block B hv.lt fun hm=>hn (by rw[←List.mem_singleton.1 hm];simp)).trans hv.box,hv.own.chg hc fun k hk hm=>hn (by rw[←List.mem_singleton.1 hm];exact List.mem_cons_of_mem _ hk),hv.le,hv.ne⟩,hT.step hc fun q' hq'=>.inr (.inr (by rw[List.mem_singleton.1 hq'];exact hq))⟩,Chg.below hB hc (Nat.le_of_lt (Nat.lt_of_le_of_lt hv.le hv.lt)) fun q' hq'=>by rw[List.mem_singleton.1 hq'];exact hb⟩
theorem V8.fresh{w w1:World}{B q:Nat}{S T:Y9}(h:V8 w w1 B S T)(hq:q∉B::blks S.all)(hl:q<w.heap.size):q∉B::blks T.all:=fun hm=>by
 rcases List.mem_cons.1 hm with rfl|hm
 ·exact hq (by simp)
 ·rcases h.own q hm with h1|h1
  ·exact hq (List.mem_cons_of_mem _ h1)
  ·omega
end Go.Proofs.YtjjamgeoompbkaaGreat
