import Derived.Test.YtjjamgeoompbkaaGreatTdSTake2
import Derived.Test.YtjjamgeoompbkaaGreatTdG
import Derived.Test.YtjjamgeoompbkaaGreatTdR
import Derived.Lib.SliceRun
import Derived.Test.YtjjamgeoompbkaaGreatTdIW
import Derived.Test.YtjjamgeoompbkaaGreatTdCaps

set_option maxRecDepth 100000
set_option maxHeartbeats 16000000
set_option linter.all false
namespace Go.Proofs.YtjjamgeoompbkaaGreat
open Go.RowKit
open Go.Proofs.Tryz
structure CpM(w wr:World)(L:List (List Int))(v5:Value)(mv:List Value)(k:Nat):Prop where
 below:Below w.heap.size w wr
 mrow:wr.ownsRow w.heap.size 94 1 v5 L.length mv
 mvl:mv.length=L.length
 mutsN:∀(i:Nat) (r:List Int) (u:Value),i<k→L[i]?=some r→mv[i]?=some u→wr.ownsRow w.heap.size 3 1 u r.length (r.map (Value.int .i64))
 mutsO:∀(i:Nat) (r:List Int) (u:Value),k≤i→L[i]?=some r→mv[i]?=some u→Rd w u r
 nodup:((mv.take k).filterMap Value.ownBlock).Nodup
theorem CpM.next{w wr y wF:World}{L:List (List Int)}{u:Value}{g5 c5:Nat}{mv:List Value}{k:Nat}(h:CpM w wr L (.slice (some ⟨g5,0,none⟩) L.length c5) mv k){r:List Int}(hr:L[k]?=some r)
  (hy:Below wr.heap.size wr y) (o1:y.ownsRow wr.heap.size 3 1 u r.length (r.map (Value.int .i64))) (hF:wF=y.setCell ⟨g5,k,none⟩ u) :
  CpM w wF L (.slice (some ⟨g5,0,none⟩) L.length c5) (mv.set k u) (k+1):=by
 subst hF;have hk:=(List.getElem?_eq_some_iff.1 hr).1;have hsz:=h.below.size;have hyz:=hy.size;have hmv:=h.mvl;have hrow:=X8 h.mrow hy;have st1:=hrow.stored k u;have cF:Chg [g5] y (y.setCell ⟨g5,k,none⟩ u):=Chg.of_grown (U5 y g5 _ u) (by simp);have hg5:=hrow.lt g5 rfl
 have keep:∀{x:Value} {n b:Nat} {xs:List Value} {t:TypeId} {sz:Nat},y.ownsRow b t sz x n xs→t≠94→(y.setCell ⟨g5,k,none⟩ u).ownsRow b t sz x n xs:=fun hx ht =>
  U1 hx cF fun q hq hm=>E7 hx hrow ht q hq (by rw[List.mem_singleton.1 hm];rfl)
 refine⟨Chg.below (h.below.trans (hy.mono hsz)) cF (by omega) (fun x hx=>by rw[List.mem_singleton.1 hx];omega),st1.1,by rw[List.length_set];exact h.mvl,fun i t q hi ht hq=>?_,fun i t q hi ht hq=>?_,?_⟩
 ·by_cases e:i=k
  ·subst e
   rw[hr]at ht
   cases ht
   rw[List.getElem?_set_self (by omega)]at hq
   cases hq
   exact U3 (keep o1 (by decide)) hsz
  ·rw[List.getElem?_set_ne (fun h=>e h.symm)]at hq
   exact keep (X8 (h.mutsN i t q (by omega) ht hq) hy) (by decide)
 ·rw[List.getElem?_set_ne (by omega)]at hq
  exact h.mutsO i t q (by omega) ht hq
 ·have e1:(mv.set k u).take (k+1)=mv.take k++[u]:=by
   rw[List.take_succ_eq_append_getElem (by simp;omega),List.take_set_of_le (Nat.le_refl _)];simp
  rw[e1,List.filterMap_append,List.nodup_append];refine⟨h.nodup,by cases hv:u.ownBlock<;>simp[hv],fun a ha c hc eac=>?_⟩;obtain⟨x,hx,hxa⟩:=List.mem_filterMap.1 ha;obtain⟨i,hi⟩:=List.mem_iff_getElem?.1 hx;have hil:=(List.getElem?_eq_some_iff.1 hi).1;rw[List.length_take]at hil;rw[List.getElem?_take_of_lt (by omega)]at hi;obtain⟨t,ht⟩:∃t,L[i]?=some t:=⟨_,List.getElem?_eq_getElem (by omega)⟩;have h1:=((h.mutsN i t x (by omega) ht hi).lt a hxa).2;obtain⟨y',hy',hyc⟩:=List.mem_filterMap.1 hc;rw[List.mem_singleton]at hy';subst hy';have h2:=(o1.lt c hyc).1;omega
theorem zod(v:Value)(L:List (List Int))(hs:L.length≤1048576)(hs1:∀r∈L,r.length≤1048576)(w:World)(hr:RdM w v L) :
  Calls prog 77 #[v] w fun e w'=>∃a c mv,e=.returned (.slice a L.length c)∧OwnM w' w.heap.size (.slice a L.length c) L mv∧(mv.filterMap Value.ownBlock).Nodup∧Below w.heap.size w w':=by
 obtain⟨am,cm,rfl⟩:∃a c,v=.slice a L.length c:=by obtain⟨a,c,h,_⟩:=hr;exact⟨a,c,h⟩
 obtain⟨mv0,hl0,hsrc,hin0⟩:=hr.src;have hcall:=Z0 (ztj am L.length cm mv0 hs w hsrc);have hs1':=Z0 hs1;have H0:=Z0 (And.intro hl0 hin0);clear hl0 hin0 hsrc hr hs1;go_enter func77,ntmps77;go_wp2_with fail;refine hcall.out.mono ?_;rintro e w1⟨v,rfl,ho,hb⟩;obtain⟨a5,c5,rfl⟩:=X0 ho;have st0:=Z0 (show CpM w w1 L (.slice a5 L.length c5) mv0 0 from⟨hb,ho,H0.out.1,fun i r u hi=>absurd hi (by omega),fun i r u _=>H0.out.2 i r u,by simp⟩);clear ho hb hcall;go_wp2_with fail
 go_loopw [9] (fun i wr=>∃(k:Nat) (mv:List Value),k≤L.length∧i=.int .i64 k∧Hid (CpM w wr L (.slice a5 L.length c5) mv k)) (fun i _=>L.length-(RowKit.intOf i).toNat)
 case atStart=>exact⟨0,mv0,Nat.zero_le _,rfl,st0⟩
 case round =>
  clear st0;obtain⟨k,mv,hk,rfl,st⟩:=hrel
  by_cases hltk:k<L.length
  ·have hlt1:(k:Int)<(L.length:Int):=by omega
   obtain⟨r,hks⟩:∃s,L[k]?=some s:=⟨_,List.getElem?_eq_getElem hltk⟩;obtain⟨u,hu⟩:∃p,mv[k]?=some p:=⟨_,List.getElem?_eq_getElem (by have:=st.out.mvl;omega)⟩
   obtain⟨g5,rfl⟩:∃g5,a5=some ⟨g5,0,none⟩:=by
    rcases st.out.mrow.2 with⟨he,h0⟩|⟨g,cap,cur,he,_⟩
    ·omega
    ·exact⟨g,by simp at he;exact he.1⟩
   have hrow:=st.out.mrow;have x0:wr.cell? ⟨g5,k,none⟩=some u:=by rw[hrow.cellAt k (by have:=st.out.mvl;omega),hu]
   have f0:=hrow.frozenAt k;have ho:=st.out.mutsO k r u (Nat.le_refl _) hks hu;obtain⟨al,cl,hul,hll,-⟩:=id ho;unfold maxLen at hll;have hi:=hs1'.out r (List.mem_of_getElem? hks);have rL:=Z0 (show L7 wr al r.length 1 (r.map (Value.int .i64))from by have:=ho;rw[hul]at this;exact(this.src.below st.out.below));rw[hul]at x0;have cL:=Z0 (zfd al r.length cl (r.map (Value.int .i64)) hi wr rL.out);have hg5:=Z0 (hrow.lt g5 rfl);have hg5a:g5<wr.heap.size:=hg5.out.2;have hrow':=Z0 hrow;have hlen:=hrow.1;have nxt:=Z0 (fun(y wF:World) (u:Value) hy o1 hF=>st.out.next (y:=y) (wF:=wF) (u:=u) hks hy o1 hF);clear hks hu hrow ho hul hi f0;go_wp2_with fail;refine cL.out.mono ?_;rintro e w1⟨v,rfl,o1,b1⟩;obtain⟨aL,cL2,rfl⟩:=X0 o1;have hown2:=X8 hrow'.out b1;have x1:=Y3 b1 x0;have f1:=hown2.frozenAt k;have oL:=Z0 o1;have bL:=Z0 b1;clear o1 b1 hown2 x0;go_wp2_with fail
   go_roundw
   case rel=>exact⟨k+1,_,by omega,by go_num,nxt.out _ _ _ bL.out oL.out rfl⟩
   case measure=>simp[RowKit.intOf];omega
  ·obtain rfl:k=L.length:=by omega
   have y:=Z0 (show OwnM wr w.heap.size (.slice a5 L.length c5) L mv∧(mv.filterMap Value.ownBlock).Nodup∧Below w.heap.size w wr from
    ⟨⟨st.out.mrow,st.out.mvl,fun i r u h1 h2=>st.out.mutsN i r u (List.getElem?_eq_some_iff.1 h1).1 h1 h2⟩,by
     have:=st.out.nodup
     rwa [show mv.take L.length=mv by rw[←st.out.mvl];exact List.take_length]at this,st.out.below⟩)
   go_wp2_with fail;go_ret;exact⟨_,_,mv,rfl,y.out⟩
theorem OwnM.baseLe{w:World}{base base':Nat}{v:Value}{L:List (List Int)}{mv:List Value}(h:OwnM w base v L mv)(hb:base'≤base):OwnM w base' v L mv :=
 ⟨U3 h.row hb,h.len,fun i r u h1 h2=>U3 (h.inner i r u h1 h2) hb⟩
theorem OwnM.set{w:World}{base b:Nat}{v:Value}{L:List (List Int)}{mv:List Value}(h:OwnM w base v L mv)(hb:b<base)(i:Nat)(u:Value):OwnM (w.setCell ⟨b,i,none⟩ u) base v L mv :=
 ⟨own_set h.row hb i u,h.len,fun j r x h1 h2=>own_set (h.inner j r x h1 h2) hb i u⟩
theorem OwnM.mvIn{w:World}{base:Nat}{v:Value}{L:List (List Int)}{mv:List Value}(h:OwnM w base v L mv):∀q,q∈mv.filterMap Value.ownBlock→base≤q∧q<w.heap.size:=fun q hq=>by
 obtain⟨x,hx,hxa⟩:=List.mem_filterMap.1 hq;obtain⟨i,hi⟩:=List.mem_iff_getElem?.1 hx;have hil:=(List.getElem?_eq_some_iff.1 hi).1;obtain⟨r,hr⟩:∃r,L[i]?=some r:=⟨_,List.getElem?_eq_getElem (by have:=h.len;omega)⟩;exact(h.inner i r x hr hi).lt q hxa
def zhv:Array Value:=#[.int .i64 0,.int .i64 0,.slice none 0 0,.slice none 0 0,.slice none 0 0,.slice none 0 0,.int .i64 0,.int .i64 0,.slice none 0 0]
theorem zto(L:List Y7)(sv:List (Value × Value))(i:Nat)(p:Value × Value)(u1 u2:Value)(h1:i<L.length)(h2:sv[i]?=some p) :
  ((P4 L sv).set (i*6+4) u1).set (i*6+5) u2=P4 L (sv.set i (u1,u2)):=by
 induction i generalizing L sv with
 | zero =>
  cases L with
  | nil=>simp at h1
  | cons a L =>
   cases sv with
   | nil=>simp at h2
   | cons q sv =>
    simp only[P4,List.zip_cons_cons,List.flatMap_cons,List.set_cons_zero];simp[Q8]
 | succ i ih =>
  cases L with
  | nil=>simp at h1
  | cons a L =>
   cases sv with
   | nil=>simp at h2
   | cons q sv =>
    simp at h1 h2;have:=ih L sv (by omega) h2;simp only[P4,List.zip_cons_cons,List.flatMap_cons,List.set_cons_succ]at this ⊢;rw[←this,List.set_append_right _ _ (by simp[Q8];omega),List.set_append_right _ _ (by simp[Q8];omega)];rw[show(i+1)*6+4-(Q8 a q).length=i*6+4 by simp[Q8];omega,show(i+1)*6+5-(Q8 a q).length=i*6+5 by simp[Q8];omega]
structure Cp1(w wr:World)(D:WD)(v1 v2 v3 v5 v8:Value)(sv:List (Value × Value))(mv:List Value)(k:Nat):Prop where
 below:Below w.heap.size w wr
 boxR:wr.heap[w.heap.size]?=some (.cells zhv 37 (0,0))
 boxB:wr.heap[w.heap.size+1]?=some (.cells #[.int .i64 D.base,.int .i64 D.pages,v1,v2,v3,v5,.int .i64 D.phase,.int .i64 D.next,v8] 37 (0,0))
 size:w.heap.size+1+1≤wr.heap.size
 words:wr.ownsRow (w.heap.size+1+1) 3 1 v1 D.words.length (D.words.map (Value.int .i64))
 dirty:wr.ownsRow (w.heap.size+1+1) 4 1 v2 D.dirty.length (D.dirty.map Value.bool)
 row:wr.ownsRow (w.heap.size+1+1) 93 6 v3 D.spans.length (P4 D.spans sv)
 svl:sv.length=D.spans.length
 innerN:∀(i:Nat) (s:Y7) (p:Value × Value),i<k→D.spans[i]?=some s→sv[i]?=some p→wr.ownsRow (w.heap.size+1+1) 3 1 p.1 s.lens.length (s.lens.map (Value.int .i64))∧wr.ownsRow (w.heap.size+1+1) 3 1 p.2 s.ptrs.length (s.ptrs.map (Value.int .i64))
 innerO:∀(i:Nat) (s:Y7) (p:Value × Value),k≤i→D.spans[i]?=some s→sv[i]?=some p→Rd w p.1 s.lens∧Rd w p.2 s.ptrs
 muts:OwnM wr (w.heap.size+1+1) v5 D.muts mv
 grey:wr.ownsRow (w.heap.size+1+1) 3 1 v8 D.grey.length (D.grey.map (Value.int .i64))
 nodup:((v1::V9 (sv.take k)++(mv++[v8])).filterMap Value.ownBlock).Nodup
theorem zvk(sv:List (Value × Value))(k:Nat)(h:k<sv.length)(p:Value × Value):V9 ((sv.set k p).take (k+1))=V9 (sv.take k)++[p.1,p.2]:=by
 rw[List.take_succ_eq_append_getElem (by simpa using h),zgd];have e1:(sv.set k p).take k=sv.take k:=by rw[List.take_set_of_le (Nat.le_refl _)]
 rw[e1];simp[V9]
theorem zzb{X:List Value}{C:List Value}{a b:Value}{n:Nat}(h:((X++C).filterMap Value.ownBlock).Nodup)(ho:∀q,q∈blks (X++C)→q<n)(ha:∀q,a.ownBlock=some q→n≤q)(hb:∀q,b.ownBlock=some q→n≤q)(hab:∀q,a.ownBlock=some q→b.ownBlock≠some q) :
  ((X++[a,b]++C).filterMap Value.ownBlock).Nodup:=by
 have hp:(X++[a,b]++C).Perm (a::b::(X++C)):=by
  rw[List.append_assoc];exact List.perm_middle.trans (List.perm_middle.cons a)
 rw[(hp.filterMap _).nodup_iff]
 have hb':((b::(X++C)).filterMap Value.ownBlock).Nodup:=by
  cases hv:b.ownBlock with
  | none=>rw[List.filterMap_cons_none hv];exact h
  | some q=>rw[List.filterMap_cons_some hv,List.nodup_cons];exact⟨fun hm=>by have:=ho q hm;have:=hb q hv;omega,h⟩
 cases hv:a.ownBlock with
 | none=>rw[List.filterMap_cons_none hv];exact hb'
 | some q =>
  rw[List.filterMap_cons_some hv,List.nodup_cons];refine⟨fun hm=>?_,hb'⟩;obtain⟨x,hx,hxq⟩:=List.mem_filterMap.1 hm
  rcases List.mem_cons.1 hx with rfl|hx
  ·exact hab q hv hxq
  ·have:=ho q (List.mem_filterMap.2 ⟨x,hx,hxq⟩)
   have:=ha q hv;omega
theorem Cp1.next{w wr y wF:World}{D:WD}{v1 v2 v5 v8 u1 u2:Value}{g3 c3:Nat}{sv:List (Value × Value)}{mv:List Value}{k:Nat}(h:Cp1 w wr D v1 v2 (.slice (some ⟨g3,0,none⟩) D.spans.length c3) v5 v8 sv mv k){s:Y7}(hs:D.spans[k]?=some s)
  (hy:Below wr.heap.size wr y) (o1:y.ownsRow wr.heap.size 3 1 u1 s.lens.length (s.lens.map (Value.int .i64))) (o2:y.ownsRow wr.heap.size 3 1 u2 s.ptrs.length (s.ptrs.map (Value.int .i64))) (hne:∀q,u1.ownBlock=some q→u2.ownBlock≠some q)
  (hF:wF=(y.setCell ⟨g3,k*6+4,none⟩ u1).setCell ⟨g3,k*6+5,none⟩ u2) :
  Cp1 w wF D v1 v2 (.slice (some ⟨g3,0,none⟩) D.spans.length c3) v5 v8 (sv.set k (u1,u2)) mv (k+1):=by
 subst hF;have hk:=(List.getElem?_eq_some_iff.1 hs).1;have hsz:=h.size;have hyz:=hy.size;obtain⟨p,hp⟩:∃p,sv[k]?=some p:=⟨_,List.getElem?_eq_getElem (by have:=h.svl;omega)⟩;have hrow:=X8 h.row hy;have st1:=hrow.stored (k*6+4) u1;have st2:=st1.1.stored (k*6+5) u2;rw[zto D.spans sv k p u1 u2 hk hp]at st2;have cF:Chg [g3] y ((y.setCell ⟨g3,k*6+4,none⟩ u1).setCell ⟨g3,k*6+5,none⟩ u2):=(Chg.of_grown (U5 y g3 _ u1) (by simp)).trans (Chg.of_grown (U5 _ g3 _ u2) (by simp));have hg3:=hrow.lt g3 rfl
 have keep:∀{x:Value} {n b:Nat} {xs:List Value} {t:TypeId} {sz:Nat},y.ownsRow b t sz x n xs→t≠93→((y.setCell ⟨g3,k*6+4,none⟩ u1).setCell ⟨g3,k*6+5,none⟩ u2).ownsRow b t sz x n xs:=fun hx ht =>
  U1 hx cF fun q hq hm=>E7 hx hrow ht q hq (by rw[List.mem_singleton.1 hm];rfl)
 have blk:∀{b:Nat} {o:Obj},b<w.heap.size+1+1→wr.heap[b]?=some o→((y.setCell ⟨g3,k*6+4,none⟩ u1).setCell ⟨g3,k*6+5,none⟩ u2).heap[b]?=some o:=fun hb ho =>
  (cF.block _ (by omega) (by simp only[List.mem_singleton];omega)).trans (Z8 hy ho)
 refine⟨Chg.below (h.below.trans (hy.mono h.below.size)) cF (by have:=h.below.size;omega) (fun x hx=>by rw[List.mem_singleton.1 hx];omega),blk (by omega) h.boxR,blk (by omega) h.boxB,by have:=cF.size;omega,
  keep (X8 h.words hy) (by decide),keep (X8 h.dirty hy) (by decide),st2.1,by rw[List.length_set];exact h.svl,fun i t q hi ht hq=>?_,fun i t q hi ht hq=>?_,⟨keep (X8 h.muts.row hy) (by decide),h.muts.len,fun i r u h1 h2=>keep (X8 (h.muts.inner i r u h1 h2) hy) (by decide)⟩,keep (X8 h.grey hy) (by decide),?_⟩
 ·by_cases e:i=k
  ·subst e
   rw[hs]at ht
   cases ht
   rw[List.getElem?_set_self (by have:=h.svl;omega)]at hq
   cases hq
   exact⟨U3 (keep o1 (by decide)) hsz,U3 (keep o2 (by decide)) hsz⟩
  ·rw[List.getElem?_set_ne (fun h=>e h.symm)]at hq
   have hi:=h.innerN i t q (by omega) ht hq;exact⟨keep (X8 hi.1 hy) (by decide),keep (X8 hi.2 hy) (by decide)⟩
 ·rw[List.getElem?_set_ne (by omega)]at hq
  exact h.innerO i t q (by omega) ht hq
 ·rw[zvk sv k (by have:=h.svl;omega)]
  have e:v1::(V9 (sv.take k)++[u1,u2])++(mv++[v8])=(v1::V9 (sv.take k))++[u1,u2]++(mv++[v8]):=by simp
  rw[e];refine zzb (n:=wr.heap.size) h.nodup (fun q hq=>?_) (fun q hq=>(o1.lt q hq).1) (fun q hq=>(o2.lt q hq).1) hne;obtain⟨x,hx,hxq⟩:=List.mem_filterMap.1 hq;simp only[List.mem_append,List.mem_cons,List.not_mem_nil,or_false]at hx
  rcases hx with(rfl|hx)|hx|rfl
  ·exact(h.words.lt q hxq).2
  ·obtain⟨p2,hp2,hx⟩:=List.mem_flatMap.1 hx
   obtain⟨i,hi⟩:=List.mem_iff_getElem?.1 hp2;have hil:=(List.getElem?_eq_some_iff.1 hi).1;rw[List.length_take]at hil;rw[List.getElem?_take_of_lt (by omega)]at hi;obtain⟨t,ht⟩:∃t,D.spans[i]?=some t:=⟨_,List.getElem?_eq_getElem (by omega)⟩;have hin:=h.innerN i t p2 (by omega) ht hi;simp only[List.mem_cons,List.not_mem_nil,or_false]at hx
   rcases hx with rfl|rfl
   ·exact(hin.1.lt q hxq).2
   ·exact(hin.2.lt q hxq).2
  ·exact(h.muts.mvIn q (List.mem_filterMap.2 ⟨x,hx,hxq⟩)).2
  ·exact(h.grey.lt q hxq).2
theorem Cp1.own{w wr:World}{D:WD}{v1 v2 v3 v5 v8:Value}{sv:List (Value × Value)}{mv:List Value}(h:Cp1 w wr D v1 v2 v3 v5 v8 sv mv D.spans.length){wF:World}(hF:Chg [w.heap.size] wr wF) :
  OwnW wF w.heap.size ⟨v1,v2,v3,v5,v8,sv,mv⟩ D∧Below w.heap.size w wF:=by
 have ho:OwnW wr (w.heap.size+1+1) ⟨v1,v2,v3,v5,v8,sv,mv⟩ D:=⟨h.words,h.dirty,h.row,h.svl,fun i s p hs hp=>h.innerN i s p (List.getElem?_eq_some_iff.1 hs).1 hs hp,h.muts.row,h.muts.len,h.muts.inner,h.grey,by
  have:=h.nodup;rw[show sv.take D.spans.length=sv by rw[←h.svl];exact List.take_length]at this;rw[←List.append_assoc]at this;exact this⟩
 exact⟨(ho.chg0 hF (fun q hq=>by rw[List.mem_singleton.1 hq];omega)).base_le (by omega),Chg.below h.below hF h.below.size (fun q hq=>by rw[List.mem_singleton.1 hq];exact Nat.le_refl _)⟩
theorem nodup3{v1 v8:Value}{mv:List Value}{n n':Nat}(hm:(mv.filterMap Value.ownBlock).Nodup)(h1:∀q,v1.ownBlock=some q→q<n)(h2:∀q,q∈mv.filterMap Value.ownBlock→n≤q∧q<n')(h8:∀q,v8.ownBlock=some q→n'≤q)(hn:n≤n'):((v1::V9 []++(mv++[v8])).filterMap Value.ownBlock).Nodup:=by
 have hC:((mv++[v8]).filterMap Value.ownBlock).Nodup:=by
  rw[List.filterMap_append,List.nodup_append];refine⟨hm,by cases hv:v8.ownBlock<;>simp[hv],fun a ha c hc e=>?_⟩;obtain⟨y,hy,hyc⟩:=List.mem_filterMap.1 hc;rw[List.mem_singleton]at hy;subst hy;have:=(h2 a ha).2;have:=h8 c hyc;omega
 have e:v1::V9 []++(mv++[v8])=v1::(mv++[v8]):=by simp[V9]
 rw[e]
 cases hv:v1.ownBlock with
 | none=>rw[List.filterMap_cons_none hv];exact hC
 | some q =>
  rw[List.filterMap_cons_some hv,List.nodup_cons];refine⟨fun hq=>?_,hC⟩;have a1:=h1 q hv;rw[List.filterMap_append,List.mem_append]at hq
  rcases hq with hq|hq
  ·have:=(h2 q hq).1;omega
  ·obtain⟨y,hy,hyc⟩:=List.mem_filterMap.1 hq
   rw[List.mem_singleton]at hy;subst hy;have:=h8 q hyc;omega
theorem Ext.frozen{W:World}{b o:Nat}{v:Value}(hc:W.cell? ⟨b,o,none⟩=some v)(h:W.frozen? ⟨b,o,none⟩=false):∀x:Ext W,x.val.frozen? ⟨b,o,none⟩=false:=fun x=>(x.below.frozen (p:=⟨b,o,none⟩) (zkc hc)).trans h
theorem zue{w0 y1 y2:World}{b n1 n2:Nat}{u1 u2:Value}{xs1 xs2:List Value}(b1:Below b w0 y1)(hb:b≤w0.heap.size)(o1:y1.ownsRow b 3 1 u1 n1 xs1)(b2:Below y1.heap.size y1 y2)(o2:y2.ownsRow y1.heap.size 3 1 u2 n2 xs2) :
  Below b w0 y2∧y2.ownsRow b 3 1 u1 n1 xs1∧y2.ownsRow b 3 1 u2 n2 xs2∧∀q,u1.ownBlock=some q→u2.ownBlock≠some q:=by
 have z:=b1.size;refine⟨b1.trans (b2.mono (by omega)),X8 o1 b2,U3 o2 (by omega),fun q h1 h2=>?_⟩;have:=(o1.lt q h1).2;have:=(o2.lt q h2).1;omega
theorem zwt(B0:Nat)(v:Value)(D:WD)(hs:zml D)(w:World)(hr:RdW w v D)(hB:BoxW w B0 v) :
  Calls prog 37 #[.pointer (some ⟨B0,0,none⟩)] w fun e w'=>∃S,e=.returned (S.val D)∧OwnW w' w.heap.size S D∧Below w.heap.size w w':=by
 obtain⟨aw,ad,aS,am,ag,cw,cd,cS,cm,cg,rfl⟩:=hr.written;unfold zij at hr hB;obtain⟨q1,q2,q3,q4,q5⟩:=hr.parts;have e1:=Z0 q1.src;have e2:=Z0 q2.src;obtain⟨sv0,svl,e3,e3i⟩:=q3.src;have q4':=Z0 q4;have e5:=Z0 q5.src;have e3:=Z0 e3;have e3i:=Z0 e3i;have svl:=Z0 svl;have hs1:=hs.words;have hs2:=hs.dirty;have hs3:=hs.spans;have hs4:=hs.muts;have hs5:=hs.grey;have hs':=Z0 hs;have g0:=hB.cell 0 _ rfl;have g1:=hB.cell 1 _ rfl;have g2:=hB.cell 2 _ rfl;have g3:=hB.cell 3 _ rfl;have g4:=hB.cell 4 _ rfl;have g5:=hB.cell 5 _ rfl;have g6:=hB.cell 6 _ rfl;have g7:=hB.cell 7 _ rfl;have g8:=hB.cell 8 _ rfl;have G2:=Z0 g2;have G3:=Z0 g3;have G4:=Z0 g4;have G5:=Z0 g5;have G8:=Z0 g8;have hlt:=zkc g0;dsimp only at hlt;obtain⟨l1,l2,l3,l4,l5⟩:=hr.parts;obtain⟨_,_,-,m1,-⟩:=l1;obtain⟨_,_,-,m2,-⟩:=l2;obtain⟨_,_,-,m3,-⟩:=l3;obtain⟨_,_,-,m4,-⟩:=l4;obtain⟨_,_,-,m5,-⟩:=l5;unfold maxLen at m1 m2 m3 m4 m5;have hz:(w.alloc (.cells zhv 37)).heap.size=w.heap.size+1:=by simp
 have bb:=Z0 (Z7 (Y2 w (.cells zhv 37)) (Y2 (w.alloc (.cells zhv 37)) (.cells (Z5 D (.slice aw D.words.length cw) (.slice ad D.dirty.length cd) (.slice aS D.spans.length cS) (.slice am D.muts.length cm) (.slice ag D.grey.length cg)) 37)));have hR:=Z0 (Z8 (Y2 (w.alloc (.cells zhv 37)) (.cells (Z5 D (.slice aw D.words.length cw) (.slice ad D.dirty.length cd) (.slice aS D.spans.length cS) (.slice am D.muts.length cm) (.slice ag D.grey.length cg)) 37)) (Y8 w (.cells zhv 37)));have hC:=Z0 (show((w.alloc (.cells zhv 37)).alloc (.cells (Z5 D (.slice aw D.words.length cw) (.slice ad D.dirty.length cd) (.slice aS D.spans.length cS) (.slice am D.muts.length cm) (.slice ag D.grey.length cg)) 37)).heap[w.heap.size+1]?=some (.cells (Z5 D (.slice aw D.words.length cw) (.slice ad D.dirty.length cd) (.slice aS D.spans.length cS) (.slice am D.muts.length cm) (.slice ag D.grey.length cg)) 37)from by have:=Y8 (w.alloc (.cells zhv 37)) (.cells (Z5 D (.slice aw D.words.length cw) (.slice ad D.dirty.length cd) (.slice aS D.spans.length cS) (.slice am D.muts.length cm) (.slice ag D.grey.length cg)) 37);rwa [hz]at this);have g0a:(w.alloc (.cells zhv 37)).cell? ⟨B0,0,none⟩=some (.int .i64 D.base):=Y3 (Y2 _ _) g0;have g1a:(w.alloc (.cells zhv 37)).cell? ⟨B0,1,none⟩=some (.int .i64 D.pages):=Y3 (Y2 _ _) g1;have g2a:=Y3 (Y2 w (.cells zhv 37)) g2;have g3a:=Y3 (Y2 w (.cells zhv 37)) g3;have g4a:=Y3 (Y2 w (.cells zhv 37)) g4;have g5a:=Y3 (Y2 w (.cells zhv 37)) g5;have g6a:=Y3 (Y2 w (.cells zhv 37)) g6;have g7a:=Y3 (Y2 w (.cells zhv 37)) g7;have g8a:=Y3 (Y2 w (.cells zhv 37)) g8;have y2:=Y3 bb.out G2.out;clear hr hB q1 q2 q3 q4 q5 hs g0 g1 g2 g3 g4 g5 g6 g7 g8 hz;unfold zhv at *;go_enter func37,ntmps37;go_wp2_with fail;generalize (w.alloc (.cells #[.int .i64 0,.int .i64 0,.slice none 0 0,.slice none 0 0,.slice none 0 0,.slice none 0 0,.int .i64 0,.int .i64 0,.slice none 0 0] 37)).alloc (.cells (Z5 D (.slice aw D.words.length cw) (.slice ad D.dirty.length cd) (.slice aS D.spans.length cS) (.slice am D.muts.length cm) (.slice ag D.grey.length cg)) 37)=W1 at *;refine(zfd aw D.words.length cw _ hs1 _ (e1.out.below (bb.out))).mono ?_;rintro e w2⟨v,rfl,ho,hb⟩;obtain⟨a2,c2,rfl⟩:=X0 ho;have C2:=Z8 hb hC.out;have R2:=Z8 hb hR.out;have f2:=Z9 C2 2;have z2:=Z6 C2 2 _ rfl;have hz2:w.heap.size+1<w2.heap.size:=(Array.getElem?_eq_some_iff.1 C2).1;have bb':=Z0 (show Below w.heap.size w (w2.setCell ⟨w.heap.size+1,2,none⟩ (.slice a2 D.words.length c2))from(Z7 bb.out hb).setCell (p:=⟨w.heap.size+1,2,none⟩) (by simp) _);have hC':=Z0 (show(w2.setCell ⟨w.heap.size+1,2,none⟩ (.slice a2 D.words.length c2)).heap[w.heap.size+1]?=some (.cells (Z5 D (.slice a2 D.words.length c2) (.slice ad D.dirty.length cd) (.slice aS D.spans.length cS) (.slice am D.muts.length cm) (.slice ag D.grey.length cg)) 37 (0,0))from heap_setCell_same w2 (w.heap.size+1) 2 _ _ _ C2);have hR':=Z0 ((heap_setCell_other w2 ⟨w.heap.size+1,2,none⟩ w.heap.size (.slice a2 D.words.length c2) (by simp)).trans R2);have o2':=Z0 (own_set (U3 ho (show w.heap.size+1+1≤_ by have:=(Array.getElem?_eq_some_iff.1 hC.out).1;omega)) (show w.heap.size+1<w.heap.size+1+1 by omega) 2 (.slice a2 D.words.length c2));have y3:=Y3 bb'.out G3.out;clear ho hb C2 R2 bb hC hR y2;have bb:=bb';have hC:=hC';have hR:=hR';clear bb' hC' hR';have o2:=o2';clear o2';go_wp2_with fail;generalize w2.setCell ⟨w.heap.size+1,2,none⟩ (.slice a2 D.words.length c2)=W2 at *;clear f2 z2 hz2;refine(zri ad D.dirty.length cd _ hs2 _ (e2.out.below (bb.out))).mono ?_;rintro e w3⟨v,rfl,ho,hb⟩;obtain⟨a3,c3,rfl⟩:=X0 ho;have C3:=Z8 hb hC.out;have R3:=Z8 hb hR.out;have f3:=Z9 C3 3;have z3:=Z6 C3 3 _ rfl;have hz3:w.heap.size+1<w3.heap.size:=(Array.getElem?_eq_some_iff.1 C3).1;have bb':=Z0 (show Below w.heap.size w (w3.setCell ⟨w.heap.size+1,3,none⟩ (.slice a3 D.dirty.length c3))from(Z7 bb.out hb).setCell (p:=⟨w.heap.size+1,3,none⟩) (by simp) _);have hC':=Z0 (show(w3.setCell ⟨w.heap.size+1,3,none⟩ (.slice a3 D.dirty.length c3)).heap[w.heap.size+1]?=some (.cells (Z5 D (.slice a2 D.words.length c2) (.slice a3 D.dirty.length c3) (.slice aS D.spans.length cS) (.slice am D.muts.length cm) (.slice ag D.grey.length cg)) 37 (0,0))from heap_setCell_same w3 (w.heap.size+1) 3 _ _ _ C3);have hR':=Z0 ((heap_setCell_other w3 ⟨w.heap.size+1,3,none⟩ w.heap.size (.slice a3 D.dirty.length c3) (by simp)).trans R3);have o2':=Z0 (own_set (X8 o2.out hb) (show w.heap.size+1<w.heap.size+1+1 by omega) 3 (.slice a3 D.dirty.length c3));have o3':=Z0 (own_set (U3 ho (show w.heap.size+1+1≤_ by have:=(Array.getElem?_eq_some_iff.1 hC.out).1;omega)) (show w.heap.size+1<w.heap.size+1+1 by omega) 3 (.slice a3 D.dirty.length c3));have y4:=Y3 bb'.out G4.out;clear ho hb C3 R3 bb hC hR o2 y3;have bb:=bb';have hC:=hC';have hR:=hR';clear bb' hC' hR';have o2:=o2';clear o2';have o3:=o3';clear o3';go_wp2_with fail;generalize w3.setCell ⟨w.heap.size+1,3,none⟩ (.slice a3 D.dirty.length c3)=W3 at *;clear f3 z3 hz3;refine(zrh aS D.spans.length cS _ hs3 _ (e3.out.below (bb.out))).mono ?_;rintro e w4⟨v,rfl,ho,hb⟩;obtain⟨a4,c4,rfl⟩:=X0 ho;have C4:=Z8 hb hC.out;have R4:=Z8 hb hR.out;have f4:=Z9 C4 4;have z4:=Z6 C4 4 _ rfl;have hz4:w.heap.size+1<w4.heap.size:=(Array.getElem?_eq_some_iff.1 C4).1;have bb':=Z0 (show Below w.heap.size w (w4.setCell ⟨w.heap.size+1,4,none⟩ (.slice a4 D.spans.length c4))from(Z7 bb.out hb).setCell (p:=⟨w.heap.size+1,4,none⟩) (by simp) _);have hC':=Z0 (show(w4.setCell ⟨w.heap.size+1,4,none⟩ (.slice a4 D.spans.length c4)).heap[w.heap.size+1]?=some (.cells (Z5 D (.slice a2 D.words.length c2) (.slice a3 D.dirty.length c3) (.slice a4 D.spans.length c4) (.slice am D.muts.length cm) (.slice ag D.grey.length cg)) 37 (0,0))from heap_setCell_same w4 (w.heap.size+1) 4 _ _ _ C4);have hR':=Z0 ((heap_setCell_other w4 ⟨w.heap.size+1,4,none⟩ w.heap.size (.slice a4 D.spans.length c4) (by simp)).trans R4);have o2':=Z0 (own_set (X8 o2.out hb) (show w.heap.size+1<w.heap.size+1+1 by omega) 4 (.slice a4 D.spans.length c4));have o3':=Z0 (own_set (X8 o3.out hb) (show w.heap.size+1<w.heap.size+1+1 by omega) 4 (.slice a4 D.spans.length c4));have o4':=Z0 (own_set (U3 ho (show w.heap.size+1+1≤_ by have:=(Array.getElem?_eq_some_iff.1 hC.out).1;omega)) (show w.heap.size+1<w.heap.size+1+1 by omega) 4 (.slice a4 D.spans.length c4));have y5:=Y3 bb'.out G5.out;clear ho hb C4 R4 bb hC hR o2 o3 y4;have bb:=bb';have hC:=hC';have hR:=hR';clear bb' hC' hR';have o2:=o2';clear o2';have o3:=o3';clear o3';have o4:=o4';clear o4';go_wp2_with fail;generalize w4.setCell ⟨w.heap.size+1,4,none⟩ (.slice a4 D.spans.length c4)=W4 at *;clear f4 z4 hz4;refine(zod _ D.muts hs4 hs'.out.innerM _ (q4'.out.below bb.out)).mono ?_;rintro e w5⟨a5,c5,mv,rfl,hM,hmd,hb⟩;have C5:=Z8 hb hC.out;have R5:=Z8 hb hR.out;have f5:=Z9 C5 5;have z5:=Z6 C5 5 _ rfl;have hz5:w.heap.size+1<w5.heap.size:=(Array.getElem?_eq_some_iff.1 C5).1;have bb':=Z0 (show Below w.heap.size w (w5.setCell ⟨w.heap.size+1,5,none⟩ (.slice a5 D.muts.length c5))from(Z7 bb.out hb).setCell (p:=⟨w.heap.size+1,5,none⟩) (by simp) _);have hC':=Z0 (show(w5.setCell ⟨w.heap.size+1,5,none⟩ (.slice a5 D.muts.length c5)).heap[w.heap.size+1]?=some (.cells (Z5 D (.slice a2 D.words.length c2) (.slice a3 D.dirty.length c3) (.slice a4 D.spans.length c4) (.slice a5 D.muts.length c5) (.slice ag D.grey.length cg)) 37 (0,0))from heap_setCell_same w5 (w.heap.size+1) 5 _ _ _ C5);have hR':=Z0 ((heap_setCell_other w5 ⟨w.heap.size+1,5,none⟩ w.heap.size (.slice a5 D.muts.length c5) (by simp)).trans R5);have o2':=Z0 (own_set (X8 o2.out hb) (show w.heap.size+1<w.heap.size+1+1 by omega) 5 (.slice a5 D.muts.length c5));have o3':=Z0 (own_set (X8 o3.out hb) (show w.heap.size+1<w.heap.size+1+1 by omega) 5 (.slice a5 D.muts.length c5));have o4':=Z0 (own_set (X8 o4.out hb) (show w.heap.size+1<w.heap.size+1+1 by omega) 5 (.slice a5 D.muts.length c5));have o5':=Z0 ((hM.baseLe (show w.heap.size+1+1≤_ by have:=(Array.getElem?_eq_some_iff.1 hC.out).1;omega)).set (show w.heap.size+1<w.heap.size+1+1 by omega) 5 (.slice a5 D.muts.length c5));have hmd':=Z0 hmd
 have hN:=Z0 (show ∃n n',n≤n'∧(∀q,(Value.slice a2 D.words.length c2).ownBlock=some q→q<n)∧(∀q,q∈mv.filterMap Value.ownBlock→n≤q∧q<n')∧n'≤(w5.setCell ⟨w.heap.size+1,5,none⟩ (.slice a5 D.muts.length c5)).heap.size from
  ⟨_,_,hb.size,fun q hq=>(o2.out.lt q hq).2,hM.mvIn,by simp⟩)
 have y8:=Y3 bb'.out G8.out;clear hM hmd hb C5 R5 bb hC hR o2 o3 o4 y5;have bb:=bb';have hC:=hC';have hR:=hR';clear bb' hC' hR';have o2:=o2';clear o2';have o3:=o3';clear o3';have o4:=o4';clear o4';have o5:=o5';clear o5';go_wp2_with fail;generalize w5.setCell ⟨w.heap.size+1,5,none⟩ (.slice a5 D.muts.length c5)=W5 at *;clear f5 z5 hz5;refine(zfd ag D.grey.length cg _ hs5 _ (e5.out.below (bb.out))).mono ?_;rintro e w8⟨v,rfl,ho,hb⟩;obtain⟨a8,c8,rfl⟩:=X0 ho;have C8:=Z8 hb hC.out;have R8:=Z8 hb hR.out;have f8:=Z9 C8 8;have z8:=Z6 C8 8 _ rfl;have hz8:w.heap.size+1<w8.heap.size:=(Array.getElem?_eq_some_iff.1 C8).1;have bb':=Z0 (show Below w.heap.size w (w8.setCell ⟨w.heap.size+1,8,none⟩ (.slice a8 D.grey.length c8))from(Z7 bb.out hb).setCell (p:=⟨w.heap.size+1,8,none⟩) (by simp) _);have hC':=Z0 (show(w8.setCell ⟨w.heap.size+1,8,none⟩ (.slice a8 D.grey.length c8)).heap[w.heap.size+1]?=some (.cells (Z5 D (.slice a2 D.words.length c2) (.slice a3 D.dirty.length c3) (.slice a4 D.spans.length c4) (.slice a5 D.muts.length c5) (.slice a8 D.grey.length c8)) 37 (0,0))from heap_setCell_same w8 (w.heap.size+1) 8 _ _ _ C8);have hR':=Z0 ((heap_setCell_other w8 ⟨w.heap.size+1,8,none⟩ w.heap.size (.slice a8 D.grey.length c8) (by simp)).trans R8);have o2':=Z0 (own_set (X8 o2.out hb) (show w.heap.size+1<w.heap.size+1+1 by omega) 8 (.slice a8 D.grey.length c8));have o3':=Z0 (own_set (X8 o3.out hb) (show w.heap.size+1<w.heap.size+1+1 by omega) 8 (.slice a8 D.grey.length c8));have o4':=Z0 (own_set (X8 o4.out hb) (show w.heap.size+1<w.heap.size+1+1 by omega) 8 (.slice a8 D.grey.length c8));have o5':=Z0 ((o5.out.below hb).set (show w.heap.size+1<w.heap.size+1+1 by omega) 8 (.slice a8 D.grey.length c8));have o8':=Z0 (own_set (U3 ho (show w.heap.size+1+1≤_ by have:=(Array.getElem?_eq_some_iff.1 hC.out).1;omega)) (show w.heap.size+1<w.heap.size+1+1 by omega) 8 (.slice a8 D.grey.length c8));have hd18:=Z0 (show(((Value.slice a2 D.words.length c2)::V9 []++(mv++[Value.slice a8 D.grey.length c8])).filterMap Value.ownBlock).Nodup from by obtain⟨n,n',k1,k2,k3,k4⟩:=hN.out;exact nodup3 hmd'.out k2 k3 (fun q hq=>Nat.le_trans k4 (ho.lt q hq).1) k1);clear ho hb C8 R8 bb hC hR o2 o3 o4 o5 y8;have bb:=bb';have hC:=hC';have hR:=hR';clear bb' hC' hR';have o2:=o2';clear o2';have o3:=o3';clear o3';have o4:=o4';clear o4';have o5:=o5';clear o5';have o8:=o8';clear o8';have z4:=Z6 hC.out 4 _ rfl;go_wp2_with fail;generalize w8.setCell ⟨w.heap.size+1,8,none⟩ (.slice a8 D.grey.length c8)=W8 at *;clear f8 z8 hz8
 have st0:=Z0 (show Cp1 w W8 D (.slice a2 D.words.length c2) (.slice a3 D.dirty.length c3) (.slice a4 D.spans.length c4) (.slice a5 D.muts.length c5) (.slice a8 D.grey.length c8) sv0 mv 0 from
  ⟨bb.out,hR.out,hC.out,by have:=(Array.getElem?_eq_some_iff.1 hC.out).1;omega,o2.out,o3.out,o4.out,svl.out,fun i s p hi=>absurd hi (by omega),fun i s p _=>e3i.out i s p,o5.out,o8.out,hd18.out⟩)
 clear bb hC hR o2 o3 o4 o5 o8 hd18 z4 e1 e2 e3 e5 e3i svl q4' hmd' hN G2 G3 G4 G5 G8 g0a g1a g2a g3a g4a g5a g6a g7a g8a
 go_loopw [44] (fun i wr=>∃(k:Nat) (sv:List (Value × Value)),k≤D.spans.length∧i=.int .i64 k∧Hid (Cp1 w wr D (.slice a2 D.words.length c2) (.slice a3 D.dirty.length c3) (.slice a4 D.spans.length c4) (.slice a5 D.muts.length c5) (.slice a8 D.grey.length c8) sv mv k)) (fun i _=>D.spans.length-(RowKit.intOf i).toNat)
 case atStart=>exact⟨0,sv0,Nat.zero_le _,rfl,st0⟩
 case round =>
  obtain⟨k,sv,hk,rfl,st⟩:=hrel;clear st0;have hsz:=Z0 st.out.size;have hsz1:w.heap.size+1<wr.heap.size:=by have:=hsz.out;omega
  have z4:=Z6 st.out.boxB 4 _ rfl;have z5:=Z6 st.out.boxB 5 _ rfl
  by_cases hltk:k<D.spans.length
  ·have hlt1:(k:Int)<(D.spans.length:Int):=by omega
   obtain⟨s,hks⟩:∃s,D.spans[k]?=some s:=⟨_,List.getElem?_eq_getElem hltk⟩;obtain⟨p,hp⟩:∃p,sv[k]?=some p:=⟨_,List.getElem?_eq_getElem (by have:=st.out.svl;omega)⟩
   obtain⟨g3,rfl⟩:∃g3,a4=some ⟨g3,0,none⟩:=by
    rcases st.out.row.2 with⟨he,h0⟩|⟨g,cap,cur,he,_⟩
    ·omega
    ·exact⟨g,by simp at he;exact he.1⟩
   have hrow:=st.out.row;have x4:wr.cell? ⟨g3,k*6+4,none⟩=some p.1:=by rw[hrow.cellAt (k*6+4) (by omega),zjo D.spans sv k s p hks hp 4 (by omega)];rfl
   have x5:wr.cell? ⟨g3,k*6+5,none⟩=some p.2:=by rw[hrow.cellAt (k*6+5) (by omega),zjo D.spans sv k s p hks hp 5 (by omega)];rfl
   have f4:=hrow.frozenAt (k*6+4);have f5:=hrow.frozenAt (k*6+5);have ho:=st.out.innerO k s p (Nat.le_refl _) hks hp;obtain⟨al,cl,hpl,hll,-⟩:=id ho.1;obtain⟨ap,cp,hpp,hpl2,-⟩:=id ho.2;unfold maxLen at hll hpl2;have hi:=hs'.out.inner s (List.mem_of_getElem? hks);have rL:=Z0 (show L7 wr al s.lens.length 1 (s.lens.map (Value.int .i64))from by have:=ho.1;rw[hpl]at this;exact this.src.below st.out.below);have rP:=Z0 (show L7 wr ap s.ptrs.length 1 (s.ptrs.map (Value.int .i64))from by have:=ho.2;rw[hpp]at this;exact this.src.below st.out.below);rw[hpl]at x4;rw[hpp]at x5;have X4:=Ext.cell x4;have X5:=Ext.cell x5;have F4:=Ext.frozen x4 f4;have F5:=Ext.frozen x5 f5;have cL:=Z0 (fun(w':World) h=>zfd al s.lens.length cl (s.lens.map (Value.int .i64)) hi.1 w' h);have cP:=Z0 (fun(w':World) h=>zfd ap s.ptrs.length cp (s.ptrs.map (Value.int .i64)) hi.2 w' h);have hg3:=Z0 (hrow.lt g3 rfl);have hg3a:g3<wr.heap.size:=hg3.out.2;have hsml:D.spans.length≤1048576:=hs3;have nxt:=Z0 (fun(y wF:World) (u1 u2:Value) hy o1 o2 hne hF=>st.out.next (y:=y) (wF:=wF) (u1:=u1) (u2:=u2) hks hy o1 o2 hne hF);have bd:=Z0 (show Below wr.heap.size wr wr.drew from below_drewN (Below.refl _ _) 1);have hks':=Z0 hks;clear hks hp hrow ho hpl hpp hi;go_wp2_with fail;clear z4 z5
   go_region_with (first
    | (go_at_call 74;((with_reducible refine(cL.out _ ?_).mono ?_);(first|exact rL.out.below bd.out|exact rL.out.below bP.out);rintro e w1⟨v,rfl,o1,b1⟩;obtain⟨aL,cL2,rfl⟩:=X0 o1;have oL:=Z0 o1;have bL:=Z0 (show Below wr.heap.size wr w1 from(by first|exact Z7 bP.out b1|exact Z7 bd.out b1));have bL1:=Z0 b1;obtain⟨xL,rfl⟩:=Ext.of bL.out;clear o1 b1))
    | (go_at_call 74;((with_reducible refine(cP.out _ ?_).mono ?_);(first|exact rP.out.below bd.out|exact rP.out.below bL.out);rintro e w1⟨v,rfl,o1,b1⟩;obtain⟨aP,cP2,rfl⟩:=X0 o1;have oP:=Z0 o1;have bP:=Z0 (show Below wr.heap.size wr w1 from(by first|exact Z7 bL.out b1|exact Z7 bd.out b1));have bP1:=Z0 b1;obtain⟨xP,rfl⟩:=Ext.of bP.out;clear o1 b1)))
   all_goals go_wp2_with fail
   all_goals first
    | (have t:=zue (b:=wr.heap.size) bL.out (Nat.le_refl _) oL.out bP1.out oP.out;exact⟨⟨k+1,_,by omega,by go_num,nxt.out _ _ _ _ t.1 t.2.1 t.2.2.1 t.2.2.2 rfl⟩,by simp[RowKit.intOf];omega⟩)
    | (have t:=zue (b:=wr.heap.size) bP.out (Nat.le_refl _) oP.out bL1.out oL.out;exact⟨⟨k+1,_,by omega,by go_num,nxt.out _ _ _ _ t.1 t.2.2.1 t.2.1 (fun q h1 h2=>t.2.2.2 q h2 h1) rfl⟩,by simp[RowKit.intOf];omega⟩)
  ·obtain rfl:k=D.spans.length:=by omega
   have C8:=st.out.boxB;have R8:=st.out.boxR;unfold zhv at R8;obtain⟨m0,m1,m2,m3,m4,m5,m6,m7,m8⟩:=C6 C8;obtain⟨n0,y0,n1,y1,n2,y2,n3,y3,n4,y4,n5,y5,n6,y6,n7,y7,n8,y8⟩:=zhr R8;have fin:=Z0 (fun wF hF=>st.out.own (wF:=wF) hF);clear C8 R8 z4 z5 st hk;go_wp2_with fail;refine bodyPost_ret (v:=.agg #[.int .i64 D.base,.int .i64 D.pages,.slice a2 D.words.length c2,.slice a3 D.dirty.length c3,.slice a4 D.spans.length c4,.slice a5 D.muts.length c5,.int .i64 D.phase,.int .i64 D.next,.slice a8 D.grey.length c8]) (by simp[results,results37,go_sem,n0,n1,n2,n3,n4,n5,n6,n7,n8]) rfl ?_;exact⟨⟨.slice a2 D.words.length c2,.slice a3 D.dirty.length c3,.slice a4 D.spans.length c4,.slice a5 D.muts.length c5,.slice a8 D.grey.length c8,sv,mv⟩,rfl,fin.out _ ((Chg.refl _ _).put9 (b:=w.heap.size) (by simp) _ _ _ _ _ _ _ _ _)⟩
end Go.Proofs.YtjjamgeoompbkaaGreat

namespace Go.Proofs.YtjjamgeoompbkaaGreat
open Go.RowKit Go.Shelf
open Go.Proofs.Tryz
attribute [local go_sem] Oper.semAt_some
theorem VarW.chg{w w':World}{base B:Nat}{S:Y9}{D:WD}(h:VarW w base B S D){bs:List Nat}(c:Chg bs w w')(hn:∀k,k∈blks S.all→k∉bs)(hB:B∉bs):VarW w' base B S D :=
 ⟨(c.block B h.lt hB).trans h.box,h.own.chg c hn,h.le,h.ne⟩
def zin(f m x:Int):Int:=if f / 8≤x∧x<f / 8+(cnt f m:Int) then x else f / 8
theorem zzw{f m:Int}(hm:1≤m)(x:Int):f / 8≤zin f m x∧zin f m x<f / 8+(cnt f m:Int):=by
 have:=cnt_pos (f:=f) hm;unfold zin
 split<;>omega
theorem zsc{f m:Int}{k:Nat}(h:k<cnt f m):zin f m (f / 8+(k:Int))=f / 8+(k:Int):=by
 unfold zin;rw[if_pos (by omega)]
def zmb(f m:Int)(L:List Bool)(pre:List Int):List Bool:=pre.foldl (fun L x=>L.set (zin f m x).toNat true) L
theorem znx(f m:Int)(L:List Bool)(pre:List Int)(x:Int):zmb f m L (pre++[x])=(zmb f m L pre).set (zin f m x).toNat true:=by simp[zmb]
theorem ztr(f m:Int)(L:List Bool)(k:Nat)(h:k≤cnt f m):zmb f m L (upto f k)=zgz L f k:=by
 induction k with
 | zero=>rfl
 | succ k ih=>rw[zkk,znx,zsc (by omega),ih (by omega)];rfl
theorem zwr(f m:Int)(L:List Bool)(pre:List Int):(zmb f m L pre).length=L.length:=by
 unfold zmb
 induction pre generalizing L with
 | nil=>rfl
 | cons x pre ih=>rw[List.foldl_cons,ih,List.length_set]
theorem zwx(F:Fence)(n:Nat)(h33:F.fn 188)(hro:F.round=none)(hn:1≤n)(l B1 B2 n₀:Nat)(f m:Int)(hf0:0≤f)(hf:f≤1000000)(hm1:1≤m)(hm:m≤32)(J Jx:List Int→World→Prop)
  (hY:∀pre x W,J pre W→pre.length<cnt f m→YieldAt F (n-1) prog l #[.int .i64 (zin f m x)] W fun e W' =>
   (e=.returned (.bool true)∧J (pre++[x]) W'∧Below n₀ W W')∨(e=.returned (.bool false)∧Jx (pre++[x]) W'))
  (W:World) (hB1:W.cell? ⟨B1,0,none⟩=some (.int .i64 f)) (hB2:W.cell? ⟨B2,0,none⟩=some (.int .i64 m)) (h0:J [] W) :
  CallsIn F n prog 188 #[.func (.yield l) #[] #[],.pointer (some ⟨B1,0,none⟩),.pointer (some ⟨B2,0,none⟩)] W fun e W'=>(∃v,e=.returned v) ∧
   ((∃ys,ys=upto f (cnt f m)∧J ys W')∨(∃pre,(∃k,k≤cnt f m∧pre=upto f k)∧Jx pre W')):=by
 refine callsIn_of_wp func188 rfl h33 ?_ hro;simp only[ntmps188,List.size_toArray,List.length_cons,List.length_nil,Nat.reduceAdd,Nat.reduceSub,Array.replicate_succ,Array.replicate_zero,List.push_toArray,List.append_toArray,List.nil_append,List.cons_append]
 gi_wp2
 gi_loopw [5] (fun c wr=>∃k:Nat,k≤cnt f m∧c=.int .i64 (f / 8+(k:Int))∧J (upto f k) wr)
  (fun c _=>cnt f m-(RowKit.intOf c-f / 8).toNat)
 case atStart=>exact⟨0,Nat.zero_le _,by simp,h0⟩
 case round =>
  obtain⟨k,hk,rfl,hJs⟩:=hrel
  by_cases hlt:k<cnt f m
  ·have hle:=zzs hlt
   have hY1:=hY _ (f / 8+(k:Int)) wr hJs (by rw[zeh];exact hlt);rw[zsc hlt]at hY1;obtain⟨fn,tmps,assign,body,hy,hR⟩:=hY1
   gi_wp2
   refine hR.mono ?_;rintro e W3 (⟨rfl,hJ3,hk3⟩|⟨rfl,hJx3⟩)
   ·gi_wp2
    go_roundw
    case rel=>exact⟨k+1,by omega,by simp;omega,by rw[zkk];exact hJ3⟩
    case measure=>simp[RowKit.intOf];omega
   ·gi_wp2
    refine bodyPost_ret (results_none rfl _ _ _) rfl ?_;exact⟨⟨_,rfl⟩,.inr ⟨_,⟨k+1,by omega,(zkk _ _).symm⟩,hJx3⟩⟩
  ·have hkk:k=cnt f m:=by omega
   have hle:=zzu hkk hm1;have hJs':J (upto f (cnt f m)) wr:=by rw[←hkk];exact hJs
   clear hkk hJs hlt
   gi_wp2
   go_end0
   exact⟨⟨_,rfl⟩,.inl ⟨_,rfl,hJs'⟩⟩
theorem zsd(F:Fence)(n:Nat)(h33:F.fn 188)(hro:F.round=none)(hn:1≤n)(B1 B2 n₀:Nat)(f m:Int)(hf0:0≤f)(hf:f≤1000000)(hm1:1≤m)(hm:m≤32)(w:World)(hb1:B1<w.heap.size)(hb2:B2<w.heap.size)
  (hc1:w.cell? ⟨B1,0,none⟩=some (.int .i64 f)) (hc2:w.cell? ⟨B2,0,none⟩=some (.int .i64 m)) :
  SeqStopsK F n prog 188 #[.pointer (some ⟨B1,0,none⟩),.pointer (some ⟨B2,0,none⟩)] (fun x:Int=>#[Value.int .i64 (zin f m x)]) (Below n₀) (fun ys=>ys=upto f (cnt f m)) (fun pre=>∃k,k≤cnt f m∧pre=upto f k) (cnt f m) w:=fun l J Jx W hW _ _ hY h0 =>
 zwx F n h33 hro hn l B1 B2 n₀ f m hf0 hf hm1 hm J Jx hY W ((hW.cell (p:=⟨B1,0,none⟩) hb1).trans hc1) ((hW.cell (p:=⟨B2,0,none⟩) hb2).trans hc2) h0
end Go.Proofs.YtjjamgeoompbkaaGreat

namespace Go.Proofs.YtjjamgeoompbkaaGreat
open Go.RowKit
open Go.Maps (Keyed)
open Go.Proofs.Tryz
theorem zot(base B V g n:Nat)(M:DataW Unit)(S:Y9)(D:WD)(addr:Int)(hF:Y5 D)(ha:I64 addr)(hgl:D.grey.length≤1048576)(w:World)(h:VarW w base B S D)(hv:U6 D w V B g n M)(hVB:V∉B::blks S.all) :
  Calls prog 179 #[.pointer (some ⟨V,0,none⟩),.int .i64 addr] w fun e w'=>e=.returned (.tuple #[])∧(∃S' E,U9 D addr E∧VarW w' base B S' E∧zlc w w' B S S')∧Below base w w':=by
 have h':=Z0 h;have hF':=Z0 hF;have hv':=Z0 hv;have hgl':=Z0 hgl;have hVB':=Z0 hVB;have hVlt:=Z0 (show V<w.heap.size from(Array.getElem?_eq_some_iff.1 hv.box).1);have hle:=Z0 (Nat.le_of_lt (Nat.lt_of_le_of_lt h.le h.lt));have hkey:=Z0 (zid ha);have c0:=Z6 hv.box 0 (.pointer (some ⟨B,0,none⟩)) rfl;have c1:=Z6 hv.box 1 (.map (some g)) rfl;have c6:=h.cell 6 (.int .i64 D.phase) rfl;clear hF hv ha h hgl hVB
 by_cases hh:∃k j,R6 D addr k j
 case neg =>
  have h1:=Z0 (show Maps.has M (.int .i64 addr)=false from by
   cases h:Maps.has M (.int .i64 addr)
   ·rfl
   ·obtain⟨k,j,_,ho⟩:=(hv'.out.is.has addr).1 h
    exact absurd ⟨k,j,ho⟩ hh)
  have h2:=Z0 (show M.atKey (.int .i64 addr) (dat 0 0)=dat 0 0 from Maps.atKey_of_not_has h1.out _);have y:=Z0 (show U9 D addr D from .inr ⟨fun _ k j h=>absurd ⟨k,j,h⟩ hh,rfl⟩);have bb':=Z0 (Y2 w (.cells #[.int .i64 0,.int .i64 0] 150));clear hh c6;go_enter func179,ntmps179;go_wp2_with (at_lookup;refine N5 _ rfl rfl _ _ rfl g n M rfl hv'.out.own _ _ rfl hkey.out false h1.out 0 0 h2.out ?_);go_upto_region 1 with fail;clear c0 c1;generalize w.alloc (.cells #[.int .i64 0,.int .i64 0] 150)=W at *;refine Y6 (Below.refl _ _) (by kernel_rfl) (by kernel_rfl) ?_
  repeat (go_big_quiet_step ((fail)))
  refine wpQuiet_nil ?_;intro _ hw';obtain⟨x9,hw''⟩:=hw';subst hw'';go_wp2_with fail;refine bodyPost_ret (v:=.tuple #[]) (by simp[results,results179,go_sem]) rfl ?_;have b9:=Z7 bb'.out x9.below;exact⟨rfl,⟨_,_,y.out,h'.out.below b9,.of_below _ _ b9⟩,b9.mono hle.out⟩
 obtain⟨k,j,ho⟩:=hh;obtain⟨s,hks,hin,p0,p1⟩:=L6 hF'.out ho;have hk:=Z0 (show F0 D.spans.length 0 k j from .inl (List.getElem?_eq_some_iff.1 hks).1);have h1:=Z0 ((hv'.out.is.has addr).2 ⟨k,j,hk.out,ho⟩);have h2:=Z0 (hv'.out.is.is addr k j (dat 0 0) hk.out ho);have hks':=Z0 hks;have ho':=Z0 ho;obtain⟨mk,hmk⟩:=E0 (U4 D k j);have hmk':=Z0 hmk;have hcall:=Z0 (fun(w':World) (hb:Below w.heap.size w w')=>(zgi B _ D k j s hks (zex.mk16 hF'.out hks hin.j) w' (h'.out.below hb).rd (h'.out.below hb).boxW).mono fun e w'' ⟨h1,h2⟩=>(⟨h1.at_ mk hmk,h2⟩:e=Ending.returned (.bool mk)∧Below w'.heap.size w' w''));have hj16:=Z0 (zek hF'.out hks hin.j);obtain⟨pb,hpb⟩:∃pb,inB D.phase 1 2=pb:=⟨_,rfl⟩;have his:=Z0 (fun(w:World)=>T7 hpb w);have hpb':=Z0 hpb;have hkl1:(k:Int)<(D.spans.length:Int):=by have:=(List.getElem?_eq_some_iff.1 hks).1;omega
 have bb:=Y2 w (.cells #[.int .i64 k,.int .i64 j] 150);have bx:=Y8 w (.cells #[.int .i64 k,.int .i64 j] 150);have d0:=Z0 (Y3 bb c0);have d6:=Z0 (Y3 bb c6);have q0:=Z0 (Z6 bx 0 (.int .i64 k) rfl);have q1:=Z0 (Z6 bx 1 (.int .i64 j) rfl);have bb':=Z0 bb;have hWs:=Z0 (show w.heap.size+1≤(w.alloc (.cells #[.int .i64 k,.int .i64 j] 150)).heap.size by simp);clear ho hks hin p0 p1 bb bx hmk c6 hpb;go_enter func179,ntmps179;go_wp2_with (at_lookup;refine N5 _ rfl rfl _ _ rfl g n M rfl hv'.out.own _ _ rfl hkey.out true h1.out (k:Int) (j:Int) h2.out ?_);go_upto_region 1 with fail;clear c0 c1;generalize w.alloc (.cells #[.int .i64 k,.int .i64 j] 150)=W at *;have D0:=Ext.cell d0.out;have Q0:=Ext.cell q0.out;have Q1:=Ext.cell q1.out;have D6:=Ext.cell d6.out
 cases mk
 case true =>
  have y:=Z0 (show U9 D addr D from .inr ⟨fun _ k' j' h=>by obtain⟨rfl,rfl⟩:=ho'.out.unique hF'.out h;exact hmk'.out.1 rfl,rfl⟩);refine Y6 (Below.refl _ _) (by kernel_rfl) (by kernel_rfl) ?_
  repeat (go_big_quiet_step ((go_at_call 137;exact Ext.call (hcall.out _ (Z7 bb'.out (Ext.below _))))))
  refine wpQuiet_nil ?_;intro _ hw';obtain⟨x9,hw''⟩:=hw';subst hw'';go_wp2_with fail;refine bodyPost_ret (v:=.tuple #[]) (by simp[results,results179,go_sem]) rfl ?_;have b9:=Z7 bb'.out x9.below;exact⟨rfl,⟨_,_,y.out,h'.out.below b9,.of_below _ _ b9⟩,b9.mono hle.out⟩
 cases pb
 case false =>
  have y:=Z0 (show U9 D addr D from .inr ⟨fun hp=>absurd hpb'.out (by rw[znr (by omega) (by omega)];decide),rfl⟩);refine Y6 (Below.refl _ _) (by kernel_rfl) (by kernel_rfl) ?_
  repeat (go_big_quiet_step ((first|(go_at_call 137;exact Ext.call (hcall.out _ (Z7 bb'.out (Ext.below _))))|(go_at_call 73;exact Ext.same (his.out _)))))
  refine wpQuiet_nil ?_;intro _ hw';obtain⟨x9,hw''⟩:=hw';subst hw'';go_wp2_with fail;refine bodyPost_ret (v:=.tuple #[]) (by simp[results,results179,go_sem]) rfl ?_;have b9:=Z7 bb'.out x9.below;exact⟨rfl,⟨_,_,y.out,h'.out.below b9,.of_below _ _ b9⟩,b9.mono hle.out⟩
 have y:=Z0 (show U9 D addr (G0 D addr k j s)from .inl ⟨k,j,s,by have:=U7.1 hpb'.out;omega,ho'.out,hks'.out,(fun hb=>absurd (hmk'.out.2 ((U4.iff hks'.out).2 hb)) (by decide)),rfl⟩);refine Y6 (Below.refl _ _) (by kernel_rfl) (by kernel_rfl) ?_
 repeat (go_big_quiet_step ((first|(go_at_call 137;exact Ext.call (hcall.out _ (Z7 bb'.out (Ext.below _))))|(go_at_call 73;exact Ext.same (his.out _)))))
 refine wpQuiet_nil ?_;intro _ hw';obtain⟨x9,hw''⟩:=hw';subst hw'';have Z2:=Z0 (Z7 bb'.out x9.below);have e0:=Q0 x9;have e1:=Q1 x9;have e2:=D0 x9;have hW2:=Z0 (Nat.le_trans hWs.out x9.size);clear D0 Q0 Q1 D6 hcall his d0 d6 q0 q1 hmk' hpb' ho' bb' hWs;generalize x9.val=w2 at *;have v2:=Z0 (h'.out.below Z2.out);have B2:=Z0 (Z2.out.mono hle.out);obtain⟨p,hp⟩:=v2.out.svAt hks'.out;obtain⟨gs,cs,hgs⟩:=v2.out.headS (by omega);have g4:=v2.out.cell 4 S.vs rfl;rw[hgs]at g4;have x2:=(v2.out.six hgs hks'.out hp).2.2.1;have f2:=v2.out.frzS hgs (k*6+2);have hmx:=v2.out.rd.parts.2.2.1;obtain⟨_,_,_,hsm,_⟩:=hmx;unfold maxLen at hsm;have hmb:=Z0 (fun w=>zic j hj16.out.2.2 w);have v3:=v2.out.mark hgs k s p (bits .or .i64 s.mark (2^j)) hks'.out hp;have V3:=Z0 v3.1.drew;have B3:=Z0 (below_drewN (B2.out.trans v3.2) 1);have C3:=Z0 ((Chg.of_below Z2.out (B::blks S.all)).trans ((Chg.of_grown (U5 w2 gs (k*6+2) (.int .i64 (bits .or .i64 s.mark (2^j)))) (bs:=B::blks S.all) (fun x hx=>by cases hx;exact List.mem_cons_of_mem _ (List.mem_filterMap.2 ⟨S.vs,by simp[Y9.all],by rw[hgs];rfl⟩))).trans (Chg.of_below (below_drewN (Below.refl _ _) 1) _)));clear hp hgs v3 h2 h1 hk hkey;go_upto_region 2 with fail
 go_cut [5] (fun q wx=>q=.bool true∧Hid (VarW wx base B S { D with spans:=D.spans.set k { s with mark:=bits .or .i64 s.mark (2^j) } })∧Hid (Below base w wx)∧Hid (Chg (B::blks S.all) w wx))
 case first =>
  have h0:(fun w'=>w'.cell? ⟨V,0,none⟩=some (.pointer (some ⟨B,0,none⟩))∧w'.cell? ⟨B,4,none⟩=some (.slice (some ⟨gs,0,none⟩) D.spans.length cs)∧w'.cell? ⟨w.heap.size,0,none⟩=some (.int .i64 (k:Int))∧w'.cell? ⟨w.heap.size,1,none⟩=some (.int .i64 (j:Int))∧w'.cell? ⟨gs,k*6+2,none⟩=some (.int .i64 s.mark)) w2.drew:=⟨e2,g4,e0,e1,x2⟩;refine N3 (fun w'=>w'.cell? ⟨V,0,none⟩=some (.pointer (some ⟨B,0,none⟩))∧w'.cell? ⟨B,4,none⟩=some (.slice (some ⟨gs,0,none⟩) D.spans.length cs)∧w'.cell? ⟨w.heap.size,0,none⟩=some (.int .i64 (k:Int))∧w'.cell? ⟨w.heap.size,1,none⟩=some (.int .i64 (j:Int))∧w'.cell? ⟨gs,k*6+2,none⟩=some (.int .i64 s.mark)) (fun j=>j == 18) (by kernel_rfl) ?_;refine Y4 (i:=0) (v:=?vq1) rfl (by kernel_rfl) (by kernel_rfl) (by kernel_rfl) rfl (fun _ _ _ h=>h) (Or.inl ⟨by rfl,?hq1⟩) (fun _=>h0) ?rq1
  case hq1=>(intro w _;go_simp;try with_reducible rfl)
  try simp only[Act.put,Z3]
  refine Y4 (i:=1) (v:=?vq2) rfl (by kernel_rfl) (by kernel_rfl) (by kernel_rfl) rfl (fun _ _ _ h=>h) (Or.inl ⟨by rfl,?hq2⟩) (fun _=>h0) ?rq2
  case hq2=>(intro w _;go_simp;try with_reducible rfl)
  try simp only[Act.put,Z3]
  refine Y4 (i:=2) (v:=?vq3) rfl (by kernel_rfl) (by kernel_rfl) (by kernel_rfl) rfl (fun _ _ _ h=>h) (Or.inl ⟨by rfl,?hq3⟩) (fun _=>h0) ?rq3
  case hq3=>(intro w _;go_simp;try with_reducible rfl)
  try simp only[Act.put,Z3]
  refine V6 (i:=3) (v:=?vq4) rfl (by kernel_rfl) (by kernel_rfl) (by kernel_rfl) (by kernel_rfl) (fun j hj=>by simp at hj;subst hj;kernel_rfl) (fun _ _ _ h=>h) (Or.inl ⟨by rfl,?hq4⟩) (by exact h0) ?rq4
  case hq4=>(intro w hSw;(try dsimp only at hSw);obtain⟨s0,s1,s2,s3,s4⟩:=hSw;go_simp;try with_reducible rfl)
  try simp only[Act.put,Z3]
  refine Y4 (i:=4) (v:=?vq5) rfl (by kernel_rfl) (by kernel_rfl) (by kernel_rfl) rfl (fun _ _ _ h=>h) (Or.inl ⟨by rfl,?hq5⟩) (fun _=>h0) ?rq5
  case hq5=>(intro w _;go_simp;try with_reducible rfl)
  try simp only[Act.put,Z3]
  refine Y4 (i:=5) (v:=?vq6) rfl (by kernel_rfl) (by kernel_rfl) (by kernel_rfl) rfl (fun _ _ _ h=>h) (Or.inl ⟨by rfl,?hq6⟩) (fun _=>h0) ?rq6
  case hq6=>(intro w _;go_simp;try with_reducible rfl)
  try simp only[Act.put,Z3]
  refine V6 (i:=6) (v:=?vq7) rfl (by kernel_rfl) (by kernel_rfl) (by kernel_rfl) (by kernel_rfl) (fun j hj=>by simp at hj;subst hj;kernel_rfl) (fun _ _ _ h=>h) (Or.inl ⟨by rfl,?hq7⟩) (by exact h0) ?rq7
  case hq7=>(intro w hSw;(try dsimp only at hSw);obtain⟨s0,s1,s2,s3,s4⟩:=hSw;go_simp;try with_reducible rfl)
  try simp only[Act.put,Z3]
  refine Y4 (i:=7) (v:=?vq8) rfl (by kernel_rfl) (by kernel_rfl) (by kernel_rfl) rfl (fun _ _ _ h=>h) (Or.inl ⟨by rfl,?hq8⟩) (fun _=>h0) ?rq8
  case hq8=>(intro w _;go_simp;try with_reducible rfl)
  try simp only[Act.put,Z3]
  refine V6 (i:=8) (v:=?vq9) rfl (by kernel_rfl) (by kernel_rfl) (by kernel_rfl) (by kernel_rfl) (fun j hj=>by simp at hj;subst hj;kernel_rfl) (fun _ _ _ h=>h) (Or.inl ⟨by rfl,?hq9⟩) (by exact h0) ?rq9
  case hq9=>(intro w hSw;(try dsimp only at hSw);obtain⟨s0,s1,s2,s3,s4⟩:=hSw;go_simp;try with_reducible rfl)
  try simp only[Act.put,Z3]
  refine Y4 (i:=9) (v:=?vq10) rfl (by kernel_rfl) (by kernel_rfl) (by kernel_rfl) rfl (fun _ _ _ h=>h) (Or.inl ⟨by rfl,?hq10⟩) (fun _=>h0) ?rq10
  case hq10=>(intro w _;go_simp;try with_reducible rfl)
  try simp only[Act.put,Z3]
  refine Y4 (i:=10) (v:=?vq11) rfl (by kernel_rfl) (by kernel_rfl) (by kernel_rfl) rfl (fun _ _ _ h=>h) (Or.inl ⟨by rfl,?hq11⟩) (fun _=>h0) ?rq11
  case hq11=>(intro w _;go_simp;try with_reducible rfl)
  try simp only[Act.put,Z3]
  refine V6 (i:=11) (v:=?vq12) rfl (by kernel_rfl) (by kernel_rfl) (by kernel_rfl) (by kernel_rfl) (fun j hj=>by simp at hj;subst hj;kernel_rfl) (fun _ _ _ h=>h) (Or.inl ⟨by rfl,?hq12⟩) (by exact h0) ?rq12
  case hq12=>(intro w hSw;(try dsimp only at hSw);obtain⟨s0,s1,s2,s3,s4⟩:=hSw;go_simp;try with_reducible rfl)
  try simp only[Act.put,Z3]
  refine Y4 (i:=12) (v:=?vq13) rfl (by kernel_rfl) (by kernel_rfl) (by kernel_rfl) rfl (fun _ _ _ h=>h) (Or.inl ⟨by rfl,?hq13⟩) (fun _=>h0) ?rq13
  case hq13=>(intro w _;go_simp;try with_reducible rfl)
  try simp only[Act.put,Z3]
  refine V6 (i:=13) (v:=?vq14) rfl (by kernel_rfl) (by kernel_rfl) (by kernel_rfl) (by kernel_rfl) (fun j hj=>by simp at hj;subst hj;kernel_rfl) (fun _ _ _ h=>h) (Or.inl ⟨by rfl,?hq14⟩) (by exact h0) ?rq14
  case hq14=>(intro w hSw;(try dsimp only at hSw);obtain⟨s0,s1,s2,s3,s4⟩:=hSw;go_simp;try with_reducible rfl)
  try simp only[Act.put,Z3]
  refine V7 (rs:=[14]) (by kernel_rfl) (by simp) ?_;intro i hi;simp only[List.mem_cons,List.not_mem_nil,or_false]at hi;subst hi;refine X9 (i:=14) rfl (fun K hK=>?_);go_simp;go_wp2_with (go_at_call 146;refine(hmb.out _).mono ?_;rintro e w'⟨rfl,rfl⟩);refine hK.out _ _ (fun _=>h0) ?_;clear hK K
  try simp only[Act.put,Z3]
  refine Y4 (i:=15) (v:=?vq16) rfl (by kernel_rfl) (by kernel_rfl) (by kernel_rfl) rfl (fun _ _ _ h=>h) (Or.inl ⟨by rfl,?hq16⟩) (fun _=>h0) ?rq16
  case hq16=>(intro w _;go_simp;try with_reducible rfl)
  try simp only[Act.put,Z3]
  refine Y4 (i:=16) (v:=?vq17) rfl (by kernel_rfl) (by kernel_rfl) (by kernel_rfl) rfl (fun _ _ _ h=>h) (Or.inl ⟨by rfl,?hq17⟩) (fun _=>h0) ?rq17
  case hq17=>(intro w _;go_simp;try with_reducible rfl)
  try simp only[Act.put,Z3]
  refine Y4 (i:=17) (v:=?vq18) rfl (by kernel_rfl) (by kernel_rfl) (by kernel_rfl) rfl (fun _ _ _ h=>h) (Or.inl ⟨by rfl,?hq18⟩) (fun _=>h0) ?rq18
  case hq18=>(intro w _;go_simp;try with_reducible rfl)
  try simp only[Act.put,Z3]
  refine V7 (rs:=[18]) (by kernel_rfl) (by simp) ?_;intro i hi;simp only[List.mem_cons,List.not_mem_nil,or_false]at hi;subst hi;refine X9 (i:=18) rfl (fun K hK=>?_);go_simp;refine hK.out _ _ (fun h=>Bool.noConfusion ((h 18 (by kernel_rfl)).symm.trans (show _=true by kernel_rfl))) ?_;clear hK K
  try simp only[Act.put,Z3]
  refine P6 (by kernel_rfl) ?_ _;go_wp2_with fail
  go_meet
  exact⟨rfl,V3,B3,C3⟩
 case rest =>
  obtain⟨rfl,hv3,hb3,hc3⟩:=hcut;clear e0 e1 e2 g4 x2 f2 V3 B3 C3 hmb hsm v2 B2 Z2 hW2 hj16 hkl1;have hV3:=Z0 ((hc3.out.block V hVlt.out hVB'.out).trans hv'.out.box);have hVne:V≠B:=fun e=>hVB'.out (by rw[e];exact List.mem_cons_self ..);have hV8:=Z0 (show V∉blks [S.vg]from fun hm=>hVB'.out (List.mem_cons_of_mem _ (zkx (by simp[Y9.all]) _ hm)));have cV:wc.drew.cell? ⟨V,0,none⟩=some (.pointer (some ⟨B,0,none⟩)):=Z6 hV3.out 0 _ rfl;have hV3':Hid (wc.drew.heap[V]?=some (.cells #[.pointer (some ⟨B,0,none⟩),.map (some g)] 137 (0,0))):=Z0 hV3.out;have v4:=Z0 hv3.out.drew;have B4':=Z0 (below_drewN hb3.out 1);have C4':=Z0 (hc3.out.trans (Chg.of_below (below_drewN (Below.refl _ wc) 1) _));have B4':Hid (Below base w wc.drew):=Z0 B4'.out;have C4':Hid (Chg (B::blks S.all) w wc.drew):=Z0 C4'.out;have hVz:=Z0 (show V<wc.drew.heap.size from(Array.getElem?_eq_some_iff.1 hV3'.out).1);have hown:=show wc.drew.ownsRow base 3 1 S.vg D.grey.length (D.grey.map (Value.int .i64))from v4.out.own.grey;obtain⟨ag,cg,hvg⟩:=X0 hown;have b8:=v4.out.cell 8 S.vg rfl;rw[hvg]at b8 hown;have hown':=Z0 hown;have hgl2:=hgl'.out;clear hown hv3 hb3 hc3;go_upto_region 3 with fail;refine E5 (fun w'=>w'.cell? ⟨V,0,none⟩=some (.pointer (some ⟨B,0,none⟩))∧w'.cell? ⟨B,8,none⟩=some (.slice ag D.grey.length cg)) (fun j=>j == 18) (by kernel_rfl) ?_;intro w3 hw3;rw[←hw3]at cV b8 v4 B4' C4' hV3' hVz hown';clear hw3;have hbs:=Z0 (show base≤(w3.alloc (.cells #[.int .i64 addr] 3)).heap.size by have:=B4'.out.size;have:=hle.out;simp;omega);have src:=Z0 (show L7 (w3.alloc (.cells #[.int .i64 addr] 3)) (some ⟨w3.heap.size,0,none⟩) 1 1 ([addr].map (Value.int .i64))from⟨rfl,fun j u hu=>⟨_,rfl,zfh _ _ _ j u hu⟩,by simp[Value.oneCell']⟩);have v5:=Z0 (v4.out.below (Y2 w3 (.cells #[.int .i64 addr] 3)));have B5:=Z0 (B4'.out.trans ((Y2 w3 (.cells #[.int .i64 addr] 3)).mono (by have:=B4'.out.size;have:=hle.out;omega)))
  have ex:=Z0 (show ∀(v:Value) (w6:World) ,w6.ownsRow base 3 1 v (D.grey++[addr]).length ((D.grey++[addr]).map (Value.int .i64))→(w3.alloc (.cells #[.int .i64 addr] 3)).grownBy w6 (Value.slice ag D.grey.length cg).ownBlock →
    (∀q,v.ownBlock=some q→(Value.slice ag D.grey.length cg).ownBlock=some q∨(w3.alloc (.cells #[.int .i64 addr] 3)).heap.size≤q) →
    (∃a c,v=.slice a (D.grey.length+1) c)∧w6.cell? ⟨B,8,none⟩=some S.vg∧w6.frozen? ⟨B,8,none⟩=false∧w6.cell? ⟨V,0,none⟩=some (.pointer (some ⟨B,0,none⟩))∧(VarW (w6.setCell ⟨B,8,none⟩ v) base B { S with vg:=v } (G0 D addr k j s)∧zlc w (w6.setCell ⟨B,8,none⟩ v) B S { S with vg:=v })∧Below base w (w6.setCell ⟨B,8,none⟩ v)from fun v w6 r g f=>by
   have hg:=v5.out.grow (L:=D.grey++[addr]) (v:=v) (by rw[hvg];exact g) r (by rw[hvg];exact f);have hch:=Chg.of_grown g (bs:=blks [S.vg]) fun x hx=>List.mem_filterMap.2 ⟨S.vg,by simp,by rw[hvg];exact hx⟩;have hb6:=v5.out.keep hch (zkx (by simp[Y9.all]));obtain⟨a,c,e⟩:=X0 r;have hsz:=C4'.out.size;have hV6:=(hch.block V (by have:=hVz.out;simp;omega) hV8.out).trans (Z8 (Y2 w3 (.cells #[.int .i64 addr] 3)) hV3'.out);have hc5:Chg (B::blks S.all) w (w6.setCell ⟨B,8,none⟩ v):=((C4'.out.trans (Chg.of_below (Y2 w3 _) _)).trans (Chg.of_grown g (bs:=B::blks S.all) fun x hx=>List.mem_cons_of_mem _ (List.mem_filterMap.2 ⟨S.vg,by simp[Y9.all],by rw[hvg];exact hx⟩))).trans (Chg.of_grown (U5 w6 B 8 v) (bs:=B::blks S.all) (by simp));exact⟨⟨a,c,by rw[e,List.length_append];rfl⟩,Z6 hb6 8 S.vg rfl,Z9 hb6 8,Z6 hV6 0 _ rfl,⟨hg.1,⟨v,rfl,fun q hq=>(f q hq).imp (fun h=>by rw[hvg];exact h) (fun h=>by simp at h;omega)⟩,hc5⟩,B5.out.trans hg.2⟩)
  have hcV5:(w3.alloc (.cells #[.int .i64 addr] 3)).cell? ⟨V,0,none⟩=some (.pointer (some ⟨B,0,none⟩)):=Y3 (Y2 _ _) cV;have hc85:(w3.alloc (.cells #[.int .i64 addr] 3)).cell? ⟨B,8,none⟩=some (.slice ag D.grey.length cg):=Y3 (Y2 _ _) b8;have h0:(fun w'=>w'.cell? ⟨V,0,none⟩=some (.pointer (some ⟨B,0,none⟩))∧w'.cell? ⟨B,8,none⟩=some (.slice ag D.grey.length cg)) w3:=⟨cV,b8⟩;have h1:(fun w'=>w'.cell? ⟨V,0,none⟩=some (.pointer (some ⟨B,0,none⟩))∧w'.cell? ⟨B,8,none⟩=some (.slice ag D.grey.length cg)) (w3.alloc (.cells #[.int .i64 addr] 3)):=⟨hcV5,hc85⟩;clear v4 v5 B4' C4' B5 hks' hV3 hV3' hV8 hVz;refine Y4 (i:=0) (v:=?vq20) rfl (by kernel_rfl) (by kernel_rfl) (by kernel_rfl) rfl (fun _ _ _ h=>h) (Or.inl ⟨by rfl,?hq20⟩) (fun _=>h0) ?rq20
  case hq20=>(intro w _;go_simp;try with_reducible rfl)
  try simp only[Act.put,Z3]
  refine Y4 (i:=1) (v:=?vq21) rfl (by kernel_rfl) (by kernel_rfl) (by kernel_rfl) rfl (fun _ _ _ h=>h) (Or.inl ⟨by rfl,?hq21⟩) (fun _=>h0) ?rq21
  case hq21=>(intro w _;go_simp;try with_reducible rfl)
  try simp only[Act.put,Z3]
  refine Y4 (i:=2) (v:=?vq22) rfl (by kernel_rfl) (by kernel_rfl) (by kernel_rfl) rfl (fun _ _ _ h=>h) (Or.inl ⟨by rfl,?hq22⟩) (fun _=>h0) ?rq22
  case hq22=>(intro w _;go_simp;try with_reducible rfl)
  try simp only[Act.put,Z3]
  refine V6 (i:=3) (v:=?vq23) rfl (by kernel_rfl) (by kernel_rfl) (by kernel_rfl) (by kernel_rfl) (fun j hj=>by simp at hj;subst hj;kernel_rfl) (fun _ _ _ h=>h) (Or.inl ⟨by rfl,?hq23⟩) (by exact h0) ?rq23
  case hq23=>(intro w hSw;(try dsimp only at hSw);obtain⟨s0,s1⟩:=hSw;go_simp;try with_reducible rfl)
  try simp only[Act.put,Z3]
  refine Y4 (i:=4) (v:=?vq24) rfl (by kernel_rfl) (by kernel_rfl) (by kernel_rfl) rfl (fun _ _ _ h=>h) (Or.inl ⟨by rfl,?hq24⟩) (fun _=>h0) ?rq24
  case hq24=>(intro w _;go_simp;try with_reducible rfl)
  try simp only[Act.put,Z3]
  refine Y4 (i:=5) (v:=?vq25) rfl (by kernel_rfl) (by kernel_rfl) (by kernel_rfl) rfl (fun _ _ _ h=>h) (Or.inl ⟨by rfl,?hq25⟩) (fun _=>h0) ?rq25
  case hq25=>(intro w _;go_simp;try with_reducible rfl)
  try simp only[Act.put,Z3]
  refine Y4 (i:=6) (v:=?vq26) rfl (by kernel_rfl) (by kernel_rfl) (by kernel_rfl) rfl (fun _ _ _ h=>h) (Or.inl ⟨by rfl,?hq26⟩) (fun _=>h0) ?rq26
  case hq26=>(intro w _;go_simp;try with_reducible rfl)
  try simp only[Act.put,Z3]
  refine V6 (i:=7) (v:=?vq27) rfl (by kernel_rfl) (by kernel_rfl) (by kernel_rfl) (by kernel_rfl) (fun j hj=>by simp at hj;subst hj;kernel_rfl) (fun _ _ _ h=>h) (Or.inl ⟨by rfl,?hq27⟩) (by exact h0) ?rq27
  case hq27=>(intro w hSw;(try dsimp only at hSw);obtain⟨s0,s1⟩:=hSw;go_simp;try with_reducible rfl)
  try simp only[Act.put,Z3]
  refine Y4 (i:=8) (v:=?vq28) rfl (by kernel_rfl) (by kernel_rfl) (by kernel_rfl) rfl (fun _ _ _ h=>h) (Or.inl ⟨by rfl,?hq28⟩) (fun _=>h0) ?rq28
  case hq28=>(intro w _;go_simp;try with_reducible rfl)
  try simp only[Act.put,Z3]
  refine Y4 (i:=9) (v:=?vq29) rfl (by kernel_rfl) (by kernel_rfl) (by kernel_rfl) rfl (fun _ _ _ h=>h) (Or.inl ⟨by rfl,?hq29⟩) (fun _=>h0) ?rq29
  case hq29=>(intro w _;go_simp;try with_reducible rfl)
  try simp only[Act.put,Z3]
  refine Y4 (i:=10) (v:=?vq30) rfl (by kernel_rfl) (by kernel_rfl) (by kernel_rfl) rfl (fun _ _ _ h=>h) (Or.inl ⟨by rfl,?hq30⟩) (fun _=>h0) ?rq30
  case hq30=>(intro w _;go_simp;try with_reducible rfl)
  try simp only[Act.put,Z3]
  refine V6 (i:=11) (v:=?vq31) rfl (by kernel_rfl) (by kernel_rfl) (by kernel_rfl) (by kernel_rfl) (fun j hj=>by simp at hj;subst hj;kernel_rfl) (fun _ _ _ h=>h) (Or.inl ⟨by rfl,?hq31⟩) (by exact h0) ?rq31
  case hq31=>(intro w hSw;(try dsimp only at hSw);obtain⟨s0,s1⟩:=hSw;go_simp;try with_reducible rfl)
  try simp only[Act.put,Z3]
  refine Y4 (i:=12) (v:=?vq32) rfl (by kernel_rfl) (by kernel_rfl) (by kernel_rfl) rfl (fun _ _ _ h=>h) (Or.inl ⟨by rfl,?hq32⟩) (fun _=>h0) ?rq32
  case hq32=>(intro w _;go_simp;try with_reducible rfl)
  try simp only[Act.put,Z3]
  refine V7 (rs:=[13]) (by kernel_rfl) (by simp) ?_;intro i hi;simp only[List.mem_cons,List.not_mem_nil,or_false]at hi;subst hi;refine X9 (i:=13) rfl (fun K hK=>?_);go_simp;refine hK.out _ _ (fun _=>h1) ?_;clear hK K
  try simp only[Act.put,Z3]
  refine V7 (rs:=[14]) (by kernel_rfl) (by simp) ?_;intro i hi;simp only[List.mem_cons,List.not_mem_nil,or_false]at hi;subst hi;refine X9 (i:=14) rfl (fun K hK=>?_);refine zkn rfl (zxf (.tmp 66) (.tmp 68) rfl rfl (hown'.out.alloc _) ⟨w3.heap.size,0,none⟩ 1 1 [addr] rfl rfl src.out (by omega) hbs.out ?_);intro v6 w6 q6 g6 f6;obtain⟨⟨a6,c6,rfl⟩,b6,z6,cV6,hv6⟩:=ex.out _ _ q6 g6 f6;have hv:=Z0 hv6;rw[hvg]at b6;clear q6 g6 f6 hv6 ex;refine hK.out _ _ (fun _=>⟨cV6,b6⟩) ?_;clear hK K
  try simp only[Act.put,Z3]
  refine Y4 (i:=15) (v:=?vq35) rfl (by kernel_rfl) (by kernel_rfl) (by kernel_rfl) rfl (fun _ _ _ h=>h) (Or.inl ⟨by rfl,?hq35⟩) (fun _=>⟨cV6,b6⟩) ?rq35
  case hq35=>(intro w _;go_simp;try with_reducible rfl)
  try simp only[Act.put,Z3]
  refine Y4 (i:=16) (v:=?vq36) rfl (by kernel_rfl) (by kernel_rfl) (by kernel_rfl) rfl (fun _ _ _ h=>h) (Or.inl ⟨by rfl,?hq36⟩) (fun _=>⟨cV6,b6⟩) ?rq36
  case hq36=>(intro w _;go_simp;try with_reducible rfl)
  try simp only[Act.put,Z3]
  refine Y4 (i:=17) (v:=?vq37) rfl (by kernel_rfl) (by kernel_rfl) (by kernel_rfl) rfl (fun _ _ _ h=>h) (Or.inl ⟨by rfl,?hq37⟩) (fun _=>⟨cV6,b6⟩) ?rq37
  case hq37=>(intro w _;go_simp;try with_reducible rfl)
  try simp only[Act.put,Z3]
  refine V7 (rs:=[18]) (by kernel_rfl) (by simp) ?_;intro i hi;simp only[List.mem_cons,List.not_mem_nil,or_false]at hi;subst hi;refine X9 (i:=18) rfl (fun K hK=>?_);go_simp;refine hK.out _ _ (fun h=>Bool.noConfusion ((h 18 (by kernel_rfl)).symm.trans (show _=true by kernel_rfl))) ?_;clear hK K
  try simp only[Act.put,Z3]
  refine P6 (by kernel_rfl) ?_ _;go_wp2_with fail
  go_end0
  exact⟨rfl,⟨_,_,y.out,hv.out.1.1,hv.out.1.2⟩,hv.out.2⟩
end Go.Proofs.YtjjamgeoompbkaaGreat

namespace Go.Proofs.YtjjamgeoompbkaaGreat
open Go.RowKit
open Go.Proofs.Tryz
theorem wp_full{P:Program}{w:World}{o:Oper}{a:Act}{K:Act→World→Prop}{Q:Exit→Act→World→Prop}(s x:Operand)(t:TypeId)
  (ho:o.op=.call { callee:=.builtin .append,args:=#[s,x],argTypes:=#[t,t] })
  (e:TypeId) (z:Value) (size bytes:Nat) (ht:P.underlying t=some (.slice e)) (hinfo:(P.info? e).map (fun i=>(i.zero,i.size,i.bytes))=some (some z,size,bytes)) (hzs:z.cells.size=size) (hsz:0<size)
  (A1:Option Addr) (k:Nat) (olds:List Value) (hs:a.eval s=.slice A1 k k) (h1:L7 w A1 k size olds)
  (A2:Option Addr) (m c:Nat) (news:List Value) (hx:a.eval x=.slice A2 m c) (h2:L7 w A2 m size news)
  (h63:k+m≤maxLen) (hbytes:(k+m)*bytes≤140737488355328)
  (h0:m=0→K (a.put o.dst (.slice A1 k k)) w)
  (h:∀v' w',0<m→w'.ownsRow w.heap.size e size v' (k+m) (olds++news)→w.grownBy w' none→K (a.put o.dst v') w'):o.wp P a w K Q:=by
 obtain⟨i,hi,hz,hsize,hby⟩:=info_parts hinfo
 have fin:∀v' w',(Builtin.append_ #[t,t] o.type #[.slice A1 k k,.slice A2 m c]).run P w=.ok v' w'→K (a.put o.dst v') w'→o.wp P a w K Q:=fun v' w' hrun hk=>by
  unfold Oper.wp execOp;simp only[ho,resolve,invoke,builtin,Sem.run_bind,Sem.run_pure,Result.andThen_ok,List.map_toArray,List.map_cons,List.map_nil,hs,hx,hrun];exact hk
 rcases Nat.eq_zero_or_pos m with hm|hm
 ·subst hm
  refine fin _ _ ?_ (h0 rfl)
  cases A2 with
  | none=>cases A1<;>simp[Builtin.append_,run_underlying ht,sizeOf,typeInfo,hi,Builtin.lenOf,Builtin.firstCells,storeCells]
  | some a2 =>
   have hf:=run_firstCells_some (P:=P) w i.size 0 a2 0 c [] (by simp) (fun j u hu=>by simp at hu)
   cases A1<;>simp[Builtin.append_,run_underlying ht,sizeOf,typeInfo,hi,Builtin.lenOf,hf,storeCells]
 ·have hn0:0<news.length:=by rw[h2.len];exact Nat.mul_pos hm hsz
  obtain⟨a2,rfl⟩:∃a2,A2=some a2:=by
   obtain⟨a2,e2,_⟩:=h2.at_ 0 news[0] (List.getElem?_eq_getElem hn0);exact⟨a2,e2⟩
  have hc2:∀j u,news[j]?=some u→w.cell? (a2.add j)=some u:=fun j u hu=>by
   obtain⟨b,eb,hc⟩:=h2.at_ j u hu
   cases eb
   exact hc
  cases A1 with
  | some b =>
   have hc1:∀j u,olds[j]?=some u→w.cell? (b.add j)=some u:=fun j u hu=>by
    obtain⟨b',eb,hc⟩:=h1.at_ j u hu
    cases eb
    exact hc
   obtain⟨v',w',hrun,r1,r2⟩:=run_append_arg_grows (P:=P) w t o.type e i z size bytes ht hi hz hsize hby hzs hsz b k k olds h1.len hc1 a2 m c news h2.len hc2 (by omega) h63 hbytes;exact fin _ _ hrun (h v' w' hm r1 r2)
  | none =>
   have ho0:olds=[]:=by
    rcases olds with _|⟨u,l⟩
    ·rfl
    ·obtain⟨_,eb,_⟩:=h1.at_ 0 u rfl
     cases eb
   subst ho0
   have hk0:k=0:=by
    have:=h1.len
    rcases Nat.eq_zero_or_pos k with h0|h0
    ·exact h0
    ·have:=Nat.mul_pos h0 hsz
     simp at *;omega
   subst hk0;obtain⟨v',w',hrun,r1,r2,_⟩:=run_append_own (P:=P) w w.heap.size t o.type e i z size bytes ht hi hz hsize hby hzs hsz (.slice none 0 0) 0 [] (World.ownsRow_nil w _ e size) a2 m c news h2.len hc2 h2.one h63 hbytes (Nat.le_refl _);exact fin _ _ hrun (h v' w' hm r1 (by simpa[Value.ownBlock]using r2))
theorem L7.drew{w:World}{A:Option Addr}{m size:Nat}{news:List Value}(h:L7 w A m size news):L7 w.drew A m size news:=h.below (below_drewN (Below.refl _ _) 1)
theorem zfk{w:World}{base size n:Nat}{e:TypeId}{v:Value}{xs:List Value}(h:w.ownsRow base e size v n xs){q:Nat}(hq:v.ownBlock=some q):∃cur,w.heap[q]?=some (.cells cur e (0,0)):=by
 rcases h.2 with⟨rfl,_⟩|⟨g,cap,cur,rfl,_,hh,_⟩
 ·cases hq
 ·cases hq
  exact⟨cur,hh⟩
theorem OwnW.cells{w:World}{base:Nat}{S:Y9}{D:WD}(h:OwnW w base S D){q:Nat}(hq:q∈blks S.all):∃cur e,w.heap[q]?=some (.cells cur e (0,0)):=by
 obtain⟨x,hx,e⟩:=List.mem_filterMap.1 hq;simp only[Y9.all,List.mem_append,List.mem_cons,List.not_mem_nil,or_false]at hx
 rcases hx with(((rfl|rfl)|(rfl|hx))|(rfl|hx))|rfl
 ·exact(zfk h.words e).imp fun _ h=>⟨_,h⟩
 ·exact(zfk h.dirty e).imp fun _ h=>⟨_,h⟩
 ·exact(zfk h.spans e).imp fun _ h=>⟨_,h⟩
 ·obtain⟨p,hp,hm⟩:=List.mem_flatMap.1 hx
  obtain⟨i,hi⟩:=List.mem_iff_getElem?.1 hp;have hl:=(List.getElem?_eq_some_iff.1 hi).1;have hs:D.spans[i]?=some (D.spans[i]'(by have:=h.svl;omega)):=List.getElem?_eq_getElem _;have hi2:=h.inner i _ p hs hi;simp only[List.mem_cons,List.not_mem_nil,or_false]at hm
  rcases hm with rfl|rfl
  ·exact(zfk hi2.1 e).imp fun _ h=>⟨_,h⟩
  ·exact(zfk hi2.2 e).imp fun _ h=>⟨_,h⟩
 ·exact(zfk h.muts e).imp fun _ h=>⟨_,h⟩
 ·obtain⟨i,hi⟩:=List.mem_iff_getElem?.1 hx
  have hl:=(List.getElem?_eq_some_iff.1 hi).1;have hs:D.muts[i]?=some (D.muts[i]'(by have:=h.mvl;omega)):=List.getElem?_eq_getElem _;exact(zfk (h.innerM i _ x hs hi) e).imp fun _ h=>⟨_,h⟩
 ·exact(zfk h.grey e).imp fun _ h=>⟨_,h⟩
theorem U6.turn{D E:WD}{w w':World}{V B g n base:Nat}{M:DataW Unit}{S S':Y9}(hv:U6 D w V B g n M)(h:VarW w base B S D)(hs:zlc w w' B S S')(hO:zdz D E)(hV:V∉B::blks S.all):U6 E w' V B g n M∧V∉B::blks S'.all:=by
 have hlt:V<w.heap.size:=(Array.getElem?_eq_some_iff.1 hv.box).1;obtain⟨es,clock,hb,F,hsz,hD⟩:=hv.own;have hgl:g<w.heap.size:=(Array.getElem?_eq_some_iff.1 hb).1
 have hg:g∉B::blks S.all:=fun hm=>by
  rcases List.mem_cons.1 hm with rfl|hm
  ·have:=h.box.symm.trans hb
   simp at this
  ·obtain⟨cur,e,hc⟩:=h.own.cells hm
   have:=hc.symm.trans hb;simp at this
 refine⟨⟨(hs.chg.block V hlt hV).trans hv.box,⟨es,clock,(hs.chg.block g hgl hg).trans hb,F,hsz,hD⟩,⟨hv.is.isMap,fun a=>?_,fun a k j z ha ho=>hv.is.is a k j z (by rw[←hO.len];exact ha) (hO.obj_iff.1 ho)⟩⟩,fun hm=>?_⟩
 ·rw[hv.is.has a,hO.len]
  exact⟨fun⟨k,j,h1,h2⟩=>⟨k,j,h1,hO.obj h2⟩,fun⟨k,j,h1,h2⟩=>⟨k,j,h1,hO.obj_iff.1 h2⟩⟩
 ·obtain⟨v,rfl,hvg⟩:=hs.vg
  rcases List.mem_cons.1 hm with rfl|hm
  ·exact hV (by simp)
  ·rcases Y9.all_vg hm with hm|hm
   ·exact hV (List.mem_cons_of_mem _ hm)
   ·rcases hvg V hm with hm|hm
    ·exact hV (List.mem_cons_of_mem _ (List.mem_filterMap.2 ⟨S.vg,by simp[Y9.all],hm⟩))
    ·omega
end Go.Proofs.YtjjamgeoompbkaaGreat
