import Derived.Test.YtjjamgeoompbkaaGreatTdG
import Derived.Test.YtjjamgeoompbkaaGreatTdSTake

set_option maxRecDepth 100000
set_option maxHeartbeats 16000000
set_option linter.all false
namespace Go.Proofs.YtjjamgeoompbkaaGreat
open Go.RowKit
open Go.Proofs.Tryz
structure OpD where
 kind:Int
 m:Int
 h:Int
 g:Int
 i:Int
 n:Int
 v:Int
def OpD.cells(o:OpD):Array Value:=#[.int .i64 o.kind,.int .i64 o.m,.int .i64 o.h,.int .i64 o.g,.int .i64 o.i,.int .i64 o.n,.int .i64 o.v]
def OpD.val(o:OpD):Value:=.agg o.cells
structure FitO(o:OpD):Prop where
 kind:I64 o.kind
 m:I64 o.m
 h:I64 o.h
 g:I64 o.g
 i:I64 o.i
 n:I64 o.n
 v:I64 o.v
def HOk(x:Int):Prop:=0≤x∧x<6
def zhh(D:WD)(o:OpD):Prop:=0≤o.m∧o.m<(D.muts.length:Int)∧HOk o.h
def V2(D:WD)(m h:Int):Int:=((D.muts[m.toNat]?.getD [])[h.toNat]?).getD 0
def N0(D:WD)(m h x:Int):WD:={ D with muts:=D.muts.set m.toNat ((D.muts[m.toNat]?.getD []).set h.toNat x) }
def N1(k:Int):Prop:=k=2∨k=3∨k=7∨k=8
def P5(k:Int):Prop:=k=2∨k=3∨k=4∨k=5∨k=9
def ziq(n v:Int):Prop:=1≤n∧n≤16∧0≤v∧v≤n
def T8(k:Int):Prop:=1≤k∧k≤9
def X7(D:WD)(o:OpD)(c:Int):Prop :=
 (¬zhh D o∧c=2) ∨
 (zhh D o∧N1 o.kind∧¬HOk o.g∧c=2) ∨
 (zhh D o∧(N1 o.kind→HOk o.g)∧P5 o.kind∧V2 D o.m o.h=0∧c=2) ∨
 (zhh D o∧(N1 o.kind→HOk o.g)∧o.kind=1∧¬ziq o.n o.v∧c=3) ∨
 (zhh D o∧(N1 o.kind→HOk o.g)∧(P5 o.kind→V2 D o.m o.h≠0)∧(o.kind=1→ziq o.n o.v)∧c=0)
theorem X7.unique{D:WD}{o:OpD}{c d:Int}(h:X7 D o c)(g:X7 D o d):d=c:=by
 have h1:∀{k:Int},P5 k→k≠1:=fun h e=>by unfold P5 at h;omega
 rcases h with⟨a,rfl⟩|⟨a,b,e,rfl⟩|⟨a,b,e,f,rfl⟩|⟨a,b,e,f,rfl⟩|⟨a,b,e,f,rfl⟩<;>rcases g with⟨a',rfl⟩|⟨a',b',e',rfl⟩|⟨a',b',e',f',rfl⟩|⟨a',b',e',f',rfl⟩|⟨a',b',e',f',rfl⟩
 all_goals first
  | rfl
  | exact absurd a' a
  | exact absurd a a'
  | exact absurd (b' b) e
  | exact absurd (b b') e'
  | exact absurd e' (h1 e)
  | exact absurd e (h1 e')
  | exact absurd f (e' e)
  | exact absurd f' (e e')
  | exact absurd (f' e) f
  | exact absurd (f e') f'
def M6(kind i:Int)(s:Y7)(j:Nat):Prop :=
 ((kind=2∨kind=3)→0≤i∧i<s.ptrs[j]?.getD 0)∧((kind=4∨kind=5)→s.ptrs[j]?.getD 0≤i∧i<s.lens[j]?.getD 0)
def zir(D:WD)(k j:Nat)(E:WD):Prop :=
 ∃t,D.spans[k]?=some t∧((D.phase≠0∧t.swept=false∧E={ D with spans:=D.spans.set k { t with mark:=bits .or .i64 t.mark ((2:Int)^j) } })∨(¬(D.phase≠0∧t.swept=false)∧E=D))
def zgt(D:WD)(o:OpD)(E:WD)(c:Int):Prop :=
 (∃D1 k j s D3,M0 D (cl o.n) D1 k j∧D1.spans[k]?=some s∧zir (zeo D1 k s j o.n o.v) k j D3∧E=N0 D3 o.m o.h (D1.base+atW s (j:Int))∧c=0) ∨
 (zgm D (cl o.n)∧E=D∧c=5)
def zeu(D:WD)(m z:Int)(p:Nat)(E:WD):Prop :=
 ∃D1 D2,U9 D (D.words[p]?.getD 0) D1∧((M5 D m∧D2=D1)∨(¬M5 D m∧U9 D1 z D2))∧E={ D2 with words:=D2.words.set p z,dirty:=zfs D2.dirty (p:Int) 1 }
def OnIs(D:WD)(o:OpD)(s:Y7)(j p:Nat)(E:WD)(x:Int):Prop :=
 (o.kind=2∧E=N0 D o.m o.g (D.words[p]?.getD 0)∧x=0) ∨
 (o.kind=3∧zeu D o.m (V2 D o.m o.g) p E∧x=0) ∨
 (o.kind=4∧E={ D with words:=D.words.set p o.v,dirty:=zfs D.dirty (p:Int) 1 }∧x=0) ∨
 (o.kind=5∧E=D∧x=D.words[p]?.getD 0) ∨
 (o.kind=9∧E=D∧x=s.lens[j]?.getD 0)
def ObjIs(D:WD)(o:OpD)(E:WD)(c x:Int):Prop :=
 ∃k j s,R6 D (V2 D o.m o.h) k j∧D.spans[k]?=some s ∧
  ((¬M6 o.kind o.i s j∧E=D∧c=4∧x=0)∨(M6 o.kind o.i s j∧OnIs D o s j (atW s (j:Int)+o.i).toNat E x∧c=0))
def zkf(D:WD)(o:OpD)(E:WD)(c x:Int):Prop :=
 (o.kind=1∧zgt D o E c∧x=0) ∨
 (o.kind=6∧E=N0 D o.m o.h 0∧c=0∧x=0) ∨
 (o.kind=8∧E=N0 D o.m o.g (V2 D o.m o.h)∧c=0∧x=0) ∨
 (o.kind=7∧E=D∧c=0∧((V2 D o.m o.h=V2 D o.m o.g∧x=1)∨(V2 D o.m o.h≠V2 D o.m o.g∧x=0))) ∨
 (P5 o.kind∧ObjIs D o E c x)
def DoIs(D:WD)(o:OpD)(E:WD)(c x:Int):Prop :=
 (¬T8 o.kind∧E=D∧c=1∧x=0) ∨
 (T8 o.kind∧X7 D o c∧c≠0∧E=D∧x=0) ∨
 (T8 o.kind∧X7 D o 0∧zkf D o E c x)
theorem zir.unique{D E F:WD}{k j:Nat}(h:zir D k j E)(g:zir D k j F):F=E:=by
 obtain⟨t,ht,h⟩:=h;obtain⟨t',ht',g⟩:=g;rw[ht]at ht'
 cases ht'
 rcases h with⟨a,b,rfl⟩|⟨a,rfl⟩<;>rcases g with⟨a',b',rfl⟩|⟨a',rfl⟩
 ·rfl
 ·exact absurd ⟨a,b⟩ a'
 ·exact absurd ⟨a',b'⟩ a
 ·rfl
theorem zgt.unique{D E F:WD}{o:OpD}{c d:Int}(h:zgt D o E c)(g:zgt D o F d):F=E∧d=c:=by
 rcases h with⟨D1,k,j,s,D3,hp,hs,hk,rfl,rfl⟩|⟨hn,rfl,rfl⟩<;>rcases g with⟨D1',k',j',s',D3',hp',hs',hk',rfl,rfl⟩|⟨hn',rfl,rfl⟩
 ·obtain⟨rfl,rfl,rfl⟩:=hp.unique hp'
  rw[hs]at hs'
  cases hs'
  obtain rfl:=hk.unique hk';exact⟨rfl,rfl⟩
 ·exact absurd hn' hp.some
 ·exact absurd hn hp'.some
 ·exact⟨rfl,rfl⟩
theorem zeu.unique{D E F:WD}{m z:Int}{p:Nat}(hF:Y5 D)(h:zeu D m z p E)(g:zeu D m z p F):F=E:=by
 obtain⟨D1,D2,h1,h2,rfl⟩:=h;obtain⟨D1',D2',g1,g2,rfl⟩:=g;obtain rfl:=h1.unique hF g1
 rcases h2 with⟨a,rfl⟩|⟨a,h2⟩<;>rcases g2 with⟨a',rfl⟩|⟨a',g2⟩
 ·rfl
 ·exact absurd a a'
 ·exact absurd a' a
 ·obtain rfl:=h2.unique (h1.form hF) g2
  rfl
theorem OnIs.unique{D E F:WD}{o:OpD}{s:Y7}{j p:Nat}{x y:Int}(hF:Y5 D)(h:OnIs D o s j p E x)(g:OnIs D o s j p F y):F=E∧y=x:=by
 rcases h with⟨a,h,rfl⟩|⟨a,h,rfl⟩|⟨a,h,rfl⟩|⟨a,h,rfl⟩|⟨a,h,rfl⟩<;>rcases g with⟨a',g,rfl⟩|⟨a',g,rfl⟩|⟨a',g,rfl⟩|⟨a',g,rfl⟩|⟨a',g,rfl⟩
 all_goals first
  | (exfalso;omega)
  | exact⟨g.trans h.symm,rfl⟩
  | exact⟨h.unique hF g,rfl⟩
theorem ObjIs.unique{D E F:WD}{o:OpD}{c d x y:Int}(hF:Y5 D)(h:ObjIs D o E c x)(g:ObjIs D o F d y):F=E∧d=c∧y=x:=by
 obtain⟨k,j,s,ho,hs,h⟩:=h;obtain⟨k',j',s',ho',hs',g⟩:=g;obtain⟨rfl,rfl⟩:=ho.unique hF ho';rw[hs]at hs'
 cases hs'
 rcases h with⟨a,rfl,rfl,rfl⟩|⟨a,h,rfl⟩<;>rcases g with⟨a',rfl,rfl,rfl⟩|⟨a',g,rfl⟩
 ·exact⟨rfl,rfl,rfl⟩
 ·exact absurd a' a
 ·exact absurd a a'
 ·obtain⟨rfl,rfl⟩:=h.unique hF g
  exact⟨rfl,rfl,rfl⟩
theorem zkf.unique{D E F:WD}{o:OpD}{c d x y:Int}(hF:Y5 D)(h:zkf D o E c x)(g:zkf D o F d y):F=E∧d=c∧y=x:=by
 unfold zkf P5 at h g
 rcases h with⟨a,h,rfl⟩|⟨a,rfl,rfl,rfl⟩|⟨a,rfl,rfl,rfl⟩|⟨a,rfl,rfl,h⟩|⟨a,h⟩<;>rcases g with⟨a',g,rfl⟩|⟨a',rfl,rfl,rfl⟩|⟨a',rfl,rfl,rfl⟩|⟨a',rfl,rfl,g⟩|⟨a',g⟩
 all_goals first
  | (exfalso;omega)
  | exact⟨rfl,rfl,rfl⟩
  | exact⟨(h.unique g).1,(h.unique g).2,rfl⟩
  | exact h.unique hF g
  | (refine⟨rfl,rfl,?_⟩;omega)
theorem DoIs.unique{D E F:WD}{o:OpD}{c d x y:Int}(hF:Y5 D)(h:DoIs D o E c x)(g:DoIs D o F d y):F=E∧d=c∧y=x:=by
 rcases h with⟨a,rfl,rfl,rfl⟩|⟨a,b,e,rfl,rfl⟩|⟨a,b,h⟩<;>rcases g with⟨a',rfl,rfl,rfl⟩|⟨a',b',e',rfl,rfl⟩|⟨a',b',g⟩
 all_goals first
  | exact⟨rfl,rfl,rfl⟩
  | exact absurd a' a
  | exact absurd a a'
  | exact⟨rfl,b.unique b',rfl⟩
  | exact absurd (b'.unique b) e
  | exact absurd (b.unique b') e'
  | exact h.unique hF g
theorem zok{D:WD}(hF:Y5 D){k j:Nat}{s:Y7}(hs:D.spans[k]?=some s)(hj:j<s.lens.length){n p:Int}(h1:1≤n)(hn:n≤sz s.cls)(p0:0≤p)(p1:p≤n)(hz:s.lens[j]?.getD 0=0):Y5 (zeo D k s j n p):=by
 have A:=hF.span k s hs;have hjp:j<s.ptrs.length:=by have:=A.lens;have:=A.ptrs;omega
 refine hF.setSpan hs rfl rfl rfl hF.ph0 hF.ph1 rfl (znw _ _ _) rfl rfl rfl (by simp[N7]) (by simp[N7]) (fun i hi=>?_) A.mk0 (by show s.mark<2^(s.lens.set j n).length;rw[List.length_set];exact A.mk1) (fun i hi hu=>?_)
 ·have hi':i<s.lens.length:=by simpa[N7]using hi
  have O:=A.slot i hi'
  by_cases e:i=j
  ·subst e
   have z1:(N7 s i n p).lens[i]?.getD 0=n:=by simp[N7,hj]
   have z2:(N7 s i n p).ptrs[i]?.getD 0=p:=by simp[N7,hjp]
   exact⟨by rw[z1];omega,by rw[z1];exact hn,by rw[z2];exact p0,by rw[z1,z2];exact p1,fun h=>by rw[z1]at h;omega⟩
  ·have z1:(N7 s j n p).lens[i]?.getD 0=s.lens[i]?.getD 0:=by simp only[N7];rw[List.getElem?_set_ne (fun h=>e h.symm)]
   have z2:(N7 s j n p).ptrs[i]?.getD 0=s.ptrs[i]?.getD 0:=by simp only[N7];rw[List.getElem?_set_ne (fun h=>e h.symm)]
   exact⟨by rw[z1];exact O.l0,by rw[z1];exact O.l1,by rw[z2];exact O.p0,by rw[z1,z2];exact O.p1,fun h=>by rw[z1]at h;exact O.bit h⟩
 ·refine hF.zero i hi fun hu0=>hu ?_
  have hks:(zeo D k s j n p).spans[k]?=some (N7 s j n p):=List.getElem?_set_self (List.getElem?_eq_some_iff.1 hs).1
  rcases(zsj hs).1 hu0 with h|⟨j',hj',hx⟩
  ·exact(zsj hks).2 (.inl (zsk rfl h))
  ·by_cases e:j'=j
   ·subst e
    obtain⟨t',ht',_⟩:=hx;omega
   ·refine(zsj hks).2 (.inr ⟨j',by simpa[N7]using hj',?_⟩)
    have z1:(N7 s j n p).lens[j']?.getD 0=s.lens[j']?.getD 0:=by simp only[N7];rw[List.getElem?_set_ne (fun h=>e h.symm)]
    rw[z1];exact hx
theorem ins_get{L:List Y7}{k q:Nat}{s u:Y7}(hk:k≤L.length)(h:(L.take k++s::L.drop k)[q]?=some u):(q<k∧L[q]?=some u)∨(q=k∧u=s)∨(k<q∧L[q-1]?=some u):=by
 rcases Nat.lt_trichotomy q k with e|e|e
 ·rw[List.getElem?_append_left (by rw[List.length_take];omega),List.getElem?_take_of_lt e]at h
  exact .inl ⟨e,h⟩
 ·subst e
  rw[zrm hk]at h
  cases h
  exact .inr (.inl ⟨rfl,rfl⟩)
 ·rw[List.getElem?_append_right (by rw[List.length_take];omega),List.length_take,Nat.min_eq_left hk]at h
  obtain⟨d,rfl⟩:∃d,q=k+d+1:=⟨q-k-1,by omega⟩;rw[show k+d+1-k=d+1 by omega,List.getElem?_cons_succ,List.getElem?_drop]at h;exact .inr (.inr ⟨e,by rw[show k+d+1-1=k+d by omega];exact h⟩)
theorem ins_put{L:List Y7}{k q:Nat}{s u:Y7}(hk:k≤L.length)(h:L[q]?=some u):∃i:Nat,(L.take k++s::L.drop k)[i]?=some u:=by
 by_cases e:q<k
 ·exact⟨q,by rw[List.getElem?_append_left (by rw[List.length_take];omega),List.getElem?_take_of_lt e];exact h⟩
 ·refine⟨q+1,?_⟩
  rw[List.getElem?_append_right (by rw[List.length_take];omega),List.length_take,Nat.min_eq_left hk,show q+1-k=(q-k)+1 by omega,List.getElem?_cons_succ,List.getElem?_drop,show k+(q-k)=q by omega];exact h
theorem zyo{D:WD}(hF:Y5 D):∀(q:Nat) (u:Y7),D.spans[q]?=some u→(q:Int)≤u.page:=by
 intro q
 induction q with
 | zero=>intro u h;exact(hF.span 0 u h).pg0
 | succ q ih =>
  intro u h;have hl:=(List.getElem?_eq_some_iff.1 h).1;have h1:D.spans[q]?=some (D.spans[q]'(by omega)):=List.getElem?_eq_getElem _;have:=ih _ h1;have:=zhz hF h1 h (by omega);omega
theorem rep0(n i:Nat):(List.replicate n (0:Int))[i]?.getD 0=0:=by
 by_cases h:i<n<;>simp[h]
theorem zrn{D:WD}(hF:Y5 D){c:Int}{k:Nat}(hp:zhc D k)(hk:(k:Int)≠D.pages)(hc:sl' c≠0):Y5 (insD D c k):=by
 obtain⟨hkl,hahead,hnot⟩:=hp;have hs0:=hF.spans;have hsl:=zfj c
 have hup:∀(q:Nat) (u:Y7),k≤q→D.spans[q]?=some u→(q:Int)+1≤u.page:=by
  intro q
  induction q with
  | zero =>
   intro u hkq h;obtain rfl:k=0:=by omega
   have:=zyo hF 0 u h;have:=hnot u h;omega
  | succ q ih =>
   intro u hkq h
   by_cases e:k=q+1
   ·subst e
    have:=zyo hF _ u h;have:=hnot u h;omega
   ·have hl:=(List.getElem?_eq_some_iff.1 h).1
    have h1:D.spans[q]?=some (D.spans[q]'(by omega)):=List.getElem?_eq_getElem _;have:=ih _ (by omega) h1;have:=zhz hF h1 h (by omega);omega
 have hlen:(D.spans.length:Int)+1≤D.pages:=by
  by_cases e:k=D.spans.length
  ·omega
  ·have h1:D.spans[D.spans.length-1]?=some (D.spans[D.spans.length-1]'(by omega)):=List.getElem?_eq_getElem _
   have:=hup _ _ (by omega) h1;have:=(hF.span _ _ h1).pg1;omega
 have hins:∀{q:Nat} {u:Y7},(insD D c k).spans[q]?=some u→(q<k∧D.spans[q]?=some u)∨(q=k∧u=J4 D c k)∨(k<q∧D.spans[q-1]?=some u):=fun h=>ins_get hkl h;refine⟨hF.geo,hF.words,hF.dirty,?_,hF.ph0,hF.ph1,fun q u hu=>?_,fun i hi hu=>hF.zero i hi fun h=>hu ?_,hF.roots⟩
 ·show((D.spans.take k++J4 D c k::D.spans.drop k).length:Int)≤D.pages
  simp only[List.length_append,List.length_cons,List.length_take,List.length_drop];omega
 ·rcases hins hu with⟨e,h⟩|⟨rfl,rfl⟩|⟨e,h⟩
  ·have B:=hF.span q u h
   refine⟨B.pg0,B.pg1,fun u' hq hu'=>?_,B.cls,B.lens,B.ptrs,B.slot,B.mk0,B.mk1⟩
   rcases hins hu' with⟨e',h'⟩|⟨e',_⟩|⟨e',_⟩
   ·exact B.prev u' hq h'
   ·omega
   ·omega
  ·refine⟨by show 0≤(q:Int);omega,by show(q:Int)<D.pages;omega,fun u' hq hu'=>?_,hc,by show((List.replicate (sl' c).toNat (0:Int)).length:Int)=sl' c;rw[List.length_replicate];omega,by show((List.replicate (sl' c).toNat (0:Int)).length:Int)=sl' c;rw[List.length_replicate];omega,fun i hi=>?_,Int.le_refl _,by show(0:Int)<2^_;exact Int.pow_pos (by omega)⟩
   ·rcases hins hu' with⟨e',h'⟩|⟨e',_⟩|⟨e',_⟩
    ·have:=hahead _ u' e' h'
     show u'.page<(q:Int)
     omega
    ·omega
    ·omega
   ·have z:∀i:Nat,(List.replicate (sl' c).toNat (0:Int))[i]?.getD 0=0:=fun i=>rep0 _ i
    have hsz:=zkm c;exact⟨by show 0≤(List.replicate (sl' c).toNat (0:Int))[i]?.getD 0;rw[z];omega,by show(List.replicate (sl' c).toNat (0:Int))[i]?.getD 0≤sz c;rw[z];omega,by show 0≤(List.replicate (sl' c).toNat (0:Int))[i]?.getD 0;rw[z];omega,by show(List.replicate (sl' c).toNat (0:Int))[i]?.getD 0≤(List.replicate (sl' c).toNat (0:Int))[i]?.getD 0;omega,fun _=>bit_zero i⟩
  ·have B:=hF.span (q-1) u h
   refine⟨B.pg0,B.pg1,fun u' hq hu'=>?_,B.cls,B.lens,B.ptrs,B.slot,B.mk0,B.mk1⟩
   rcases hins hu' with⟨e',h'⟩|⟨e',rfl⟩|⟨e',h'⟩
   ·omega
   ·have:=hup (q-1) u (by omega) h
    show(k:Int)<u.page
    omega
   ·exact zhz hF h' h (by omega)
 ·obtain⟨q,u,_,hu2,hx⟩:=h
  obtain⟨i',hi'⟩:=ins_put (s:=J4 D c k) hkl hu2;exact⟨i',u,(List.getElem?_eq_some_iff.1 hi').1,hi',hx⟩
theorem zqw{D:WD}(hF:Y5 D)(m h x:Int):Y5 (N0 D m h x):=by
 refine⟨by show Geo D.base D.pages ((D.muts.set _ _).length:Int);rw[List.length_set];exact hF.geo,hF.words,hF.dirty,hF.spans,hF.ph0,hF.ph1,fun q u hu=>⟨(hF.span q u hu).pg0,(hF.span q u hu).pg1,(hF.span q u hu).prev,(hF.span q u hu).cls,(hF.span q u hu).lens,(hF.span q u hu).ptrs,(hF.span q u hu).slot,(hF.span q u hu).mk0,(hF.span q u hu).mk1⟩,hF.zero,fun k r hr=>?_⟩;have hr':(D.muts.set m.toNat ((D.muts[m.toNat]?.getD []).set h.toNat x))[k]?=some r:=hr;rw[List.getElem?_set]at hr'
 split at hr'
 ·subst k
  split at hr'
  ·rename_i hl
   cases hr'
   rw[List.length_set,List.getElem?_eq_getElem hl];exact hF.roots _ _ (List.getElem?_eq_getElem hl)
  ·cases hr'
 ·exact hF.roots k r hr'
theorem zlj{D D1:WD}(hF:Y5 D){n:Int}(h1:1≤n)(hn:n≤16){k j:Nat}(h:M0 D (cl n) D1 k j){s:Y7}(hs:D1.spans[k]?=some s){p:Int}(p0:0≤p)(p1:p≤n):Y5 (zeo D1 k s j n p)∧j<s.lens.length:=by
 have hc:=zwv h1 hn
 rcases h with⟨rfl,t,ht,e,hj,hz,_,_⟩|⟨_,hp,hk,rfl,rfl⟩
 ·rw[hs]at ht
  cases ht
  exact⟨zok hF hs hj h1 (by rw[e];exact hc.2.2.2) p0 p1 hz,hj⟩
 ·have hf:=zrn hF hp hk hc.2.2.1
  have hs2:(insD D (cl n) k).spans[k]?=some (J4 D (cl n) k):=zrm hp.1 _;rw[hs2]at hs
  cases hs
  have hl:0<(J4 D (cl n) k).lens.length:=by
   have:=zfj (cl n)
   show 0<(List.replicate (sl' (cl n)).toNat (0:Int)).length
   rw[List.length_replicate];have:=hc.2.2.1;omega
  exact⟨zok hf hs2 hl h1 hc.2.2.2 p0 p1 (by show(List.replicate (sl' (cl n)).toNat (0:Int))[0]?.getD 0=0;exact rep0 _ 0),hl⟩
end Go.Proofs.YtjjamgeoompbkaaGreat
