import Derived.Test.YtilkidaihbhfpaaGreatTsDoD
import Derived.Test.YtilkidaihbhfpaaGreatTsSTake

set_option maxRecDepth 100000
set_option maxHeartbeats 16000000
namespace Go.Proofs.YtilkidaihbhfpaaGreat
open Go.RowKit
set_option linter.unusedVariables false
theorem zoi {D:WD} (hF:Z8 D) {k j:Nat} {s:Y3} (hs:D.spans[k]?=some s) (hj:j<s.lens.length) {n p:Int} (h1:1≤n) (hn:n≤sz s.cls) (p0:0≤p) (p1:p≤n) (hz:s.lens[j]?.getD 0=0):Z8 (zgp D k s j n p):=by
 have A:=hF.span k s hs
 have hjp:j<s.ptrs.length:=by have:=A.lens;have:=A.ptrs;omega
 refine hF.setSpan hs rfl rfl rfl hF.ph0 hF.ph1 rfl (zhx _ _ _) rfl rfl rfl (by simp [M7]) (by simp [M7]) (fun i hi=>?_) A.mk0 (by show s.mark<2 ^ (s.lens.set j n).length;rw [List.length_set];exact A.mk1) (fun i hi hu=>?_)
 ·have hi':i<s.lens.length:=by simpa [M7] using hi
  have O:=A.slot i hi'
  by_cases e:i=j
  ·subst e
   have z1:(M7 s i n p).lens[i]?.getD 0=n:=by simp [M7,hj]
   have z2:(M7 s i n p).ptrs[i]?.getD 0=p:=by simp [M7,hjp]
   exact ⟨by rw [z1];omega,by rw [z1];exact hn,by rw [z2];exact p0,by rw [z1,z2];exact p1,fun h=>by rw [z1] at h;omega⟩
  ·have z1:(M7 s j n p).lens[i]?.getD 0=s.lens[i]?.getD 0:=by simp only [M7];rw [List.getElem?_set_ne (fun h=>e h.symm)]
   have z2:(M7 s j n p).ptrs[i]?.getD 0=s.ptrs[i]?.getD 0:=by simp only [M7];rw [List.getElem?_set_ne (fun h=>e h.symm)]
   exact ⟨by rw [z1];exact O.l0,by rw [z1];exact O.l1,by rw [z2];exact O.p0,by rw [z1,z2];exact O.p1,fun h=>by rw [z1] at h;exact O.bit h⟩
 ·refine hF.zero i hi fun hu0=>hu ?_
  have hks:(zgp D k s j n p).spans[k]?=some (M7 s j n p):=List.getElem?_set_self (List.getElem?_eq_some_iff.1 hs).1
  rcases (zjv hs).1 hu0 with h | ⟨j',hj',hx⟩
  ·exact (zjv hks).2 (.inl (zne rfl h))
  ·by_cases e:j'=j
   ·subst e
    obtain ⟨t',ht',_⟩:=hx
    omega
   ·refine (zjv hks).2 (.inr ⟨j',by simpa [M7] using hj',?_⟩)
    have z1:(M7 s j n p).lens[j']?.getD 0=s.lens[j']?.getD 0:=by simp only [M7];rw [List.getElem?_set_ne (fun h=>e h.symm)]
    rw [z1]
    exact hx
theorem ins_get {L:List Y3} {k q:Nat} {s u:Y3} (hk:k≤L.length) (h:(L.take k ++ s :: L.drop k)[q]?=some u):(q<k∧L[q]?=some u)∨(q=k∧u=s)∨(k<q∧L[q-1]?=some u):=by
 rcases Nat.lt_trichotomy q k with e | e | e
 ·rw [List.getElem?_append_left (by rw [List.length_take];omega),List.getElem?_take_of_lt e] at h
  exact .inl ⟨e,h⟩
 ·subst e
  rw [zua hk] at h
  cases h
  exact .inr (.inl ⟨rfl,rfl⟩)
 ·rw [List.getElem?_append_right (by rw [List.length_take];omega),List.length_take,Nat.min_eq_left hk] at h
  obtain ⟨d,rfl⟩:∃ d,q=k+d+1:=⟨q-k-1,by omega⟩
  rw [show k+d+1-k=d+1 by omega,List.getElem?_cons_succ,List.getElem?_drop] at h
  exact .inr (.inr ⟨e,by rw [show k+d+1-1=k+d by omega];exact h⟩)
theorem ins_put {L:List Y3} {k q:Nat} {s u:Y3} (hk:k≤L.length) (h:L[q]?=some u):∃ i:Nat,(L.take k ++ s :: L.drop k)[i]?=some u:=by
 by_cases e:q<k
 ·exact ⟨q,by rw [List.getElem?_append_left (by rw [List.length_take];omega),List.getElem?_take_of_lt e];exact h⟩
 ·refine ⟨q+1,?_⟩
  rw [List.getElem?_append_right (by rw [List.length_take];omega),List.length_take,Nat.min_eq_left hk,show q+1-k=(q-k)+1 by omega,List.getElem?_cons_succ,List.getElem?_drop,show k+(q-k)=q by omega]
  exact h
theorem zyi {D:WD} (hF:Z8 D):∀ (q:Nat) (u:Y3),D.spans[q]?=some u→(q:Int)≤u.page:=by
 intro q
 induction q with
 | zero=>intro u h;exact (hF.span 0 u h).pg0
 | succ q ih =>
  intro u h
  have hl:=(List.getElem?_eq_some_iff.1 h).1
  have h1:D.spans[q]?=some (D.spans[q]'(by omega)):=List.getElem?_eq_getElem _
  have:=ih _ h1
  have:=zgr hF h1 h (by omega)
  omega
theorem rep0 (n i:Nat):(List.replicate n (0:Int))[i]?.getD 0=0:=by
 by_cases h:i<n <;> simp [h]
theorem zra {D:WD} (hF:Z8 D) {c:Int} {k:Nat} (hp:ziy D k) (hk:(k:Int)≠D.pages) (hc:sl' c≠0):Z8 (insD D c k):=by
 obtain ⟨hkl,hahead,hnot⟩:=hp
 have hs0:=hF.spans
 have hsl:=E7 c
 have hup:∀ (q:Nat) (u:Y3),k≤q→D.spans[q]?=some u→(q:Int)+1≤u.page:=by
  intro q
  induction q with
  | zero =>
   intro u hkq h
   obtain rfl:k=0:=by omega
   have:=zyi hF 0 u h
   have:=hnot u h
   omega
  | succ q ih =>
   intro u hkq h
   by_cases e:k=q+1
   ·subst e
    have:=zyi hF _ u h
    have:=hnot u h
    omega
   ·have hl:=(List.getElem?_eq_some_iff.1 h).1
    have h1:D.spans[q]?=some (D.spans[q]'(by omega)):=List.getElem?_eq_getElem _
    have:=ih _ (by omega) h1
    have:=zgr hF h1 h (by omega)
    omega
 have hlen:(D.spans.length:Int)+1≤D.pages:=by
  by_cases e:k=D.spans.length
  ·omega
  ·have h1:D.spans[D.spans.length-1]?=some (D.spans[D.spans.length-1]'(by omega)):=List.getElem?_eq_getElem _
   have:=hup _ _ (by omega) h1
   have:=(hF.span _ _ h1).pg1
   omega
 have hins:∀ {q:Nat} {u:Y3},(insD D c k).spans[q]?=some u→(q<k∧D.spans[q]?=some u)∨(q=k∧u=F3 D c k)∨(k<q∧D.spans[q-1]?=some u):=fun h=>ins_get hkl h
 refine ⟨hF.geo,hF.words,hF.dirty,?_,hF.ph0,hF.ph1,fun q u hu=>?_,fun i hi hu=>hF.zero i hi fun h=>hu ?_,hF.roots⟩
 ·show ((D.spans.take k ++ F3 D c k :: D.spans.drop k).length:Int)≤D.pages
  simp only [List.length_append,List.length_cons,List.length_take,List.length_drop]
  omega
 ·rcases hins hu with ⟨e,h⟩ | ⟨rfl,rfl⟩ | ⟨e,h⟩
  ·have B:=hF.span q u h
   refine ⟨B.pg0,B.pg1,fun u' hq hu'=>?_,B.cls,B.lens,B.ptrs,B.slot,B.mk0,B.mk1⟩
   rcases hins hu' with ⟨e',h'⟩ | ⟨e',_⟩ | ⟨e',_⟩
   ·exact B.prev u' hq h'
   ·omega
   ·omega
  ·refine ⟨by show 0≤(q:Int);omega,by show (q:Int)<D.pages;omega,fun u' hq hu'=>?_,hc,by show ((List.replicate (sl' c).toNat (0:Int)).length:Int)=sl' c;rw [List.length_replicate];omega,by show ((List.replicate (sl' c).toNat (0:Int)).length:Int)=sl' c;rw [List.length_replicate];omega,fun i hi=>?_,Int.le_refl _,by show (0:Int)<2 ^ _;exact Int.pow_pos (by omega)⟩
   ·rcases hins hu' with ⟨e',h'⟩ | ⟨e',_⟩ | ⟨e',_⟩
    ·have:=hahead _ u' e' h'
     show u'.page<(q:Int)
     omega
    ·omega
    ·omega
   ·have z:∀ i:Nat,(List.replicate (sl' c).toNat (0:Int))[i]?.getD 0=0:=fun i=>rep0 _ i
    have hsz:=zjw c
    exact ⟨by show 0≤(List.replicate (sl' c).toNat (0:Int))[i]?.getD 0;rw [z];omega,by show (List.replicate (sl' c).toNat (0:Int))[i]?.getD 0≤sz c;rw [z];omega,by show 0≤(List.replicate (sl' c).toNat (0:Int))[i]?.getD 0;rw [z];omega,by show (List.replicate (sl' c).toNat (0:Int))[i]?.getD 0≤(List.replicate (sl' c).toNat (0:Int))[i]?.getD 0;omega,fun _=>zpy i⟩
  ·have B:=hF.span (q-1) u h
   refine ⟨B.pg0,B.pg1,fun u' hq hu'=>?_,B.cls,B.lens,B.ptrs,B.slot,B.mk0,B.mk1⟩
   rcases hins hu' with ⟨e',h'⟩ | ⟨e',rfl⟩ | ⟨e',h'⟩
   ·omega
   ·have:=hup (q-1) u (by omega) h
    show (k:Int)<u.page
    omega
   ·exact zgr hF h' h (by omega)
 ·obtain ⟨q,u,_,hu2,hx⟩:=h
  obtain ⟨i',hi'⟩:=ins_put (s:=F3 D c k) hkl hu2
  exact ⟨i',u,(List.getElem?_eq_some_iff.1 hi').1,hi',hx⟩
theorem zqm {D:WD} (hF:Z8 D) (m h x:Int):Z8 (M8 D m h x):=by
 refine ⟨by show Geo D.base D.pages ((D.muts.set _ _).length:Int);rw [List.length_set];exact hF.geo,hF.words,hF.dirty,hF.spans,hF.ph0,hF.ph1,fun q u hu=>⟨(hF.span q u hu).pg0,(hF.span q u hu).pg1,(hF.span q u hu).prev,(hF.span q u hu).cls,(hF.span q u hu).lens,(hF.span q u hu).ptrs,(hF.span q u hu).slot,(hF.span q u hu).mk0,(hF.span q u hu).mk1⟩,hF.zero,fun k r hr=>?_⟩
 have hr':(D.muts.set m.toNat ((D.muts[m.toNat]?.getD []).set h.toNat x))[k]?=some r:=hr
 rw [List.getElem?_set] at hr'
 split at hr'
 ·subst k
  split at hr'
  ·rename_i hl
   cases hr'
   rw [List.length_set,List.getElem?_eq_getElem hl]
   exact hF.roots _ _ (List.getElem?_eq_getElem hl)
  ·cases hr'
 ·exact hF.roots k r hr'
theorem zop {D D1:WD} (hF:Z8 D) {n:Int} (h1:1≤n) (hn:n≤16) {k j:Nat} (h:J7 D (cl n) D1 k j) {s:Y3} (hs:D1.spans[k]?=some s) {p:Int} (p0:0≤p) (p1:p≤n):Z8 (zgp D1 k s j n p)∧j<s.lens.length:=by
 have hc:=zzi h1 hn
 rcases h with ⟨rfl,t,ht,e,hj,hz,_,_⟩ | ⟨_,hp,hk,rfl,rfl⟩
 ·rw [hs] at ht
  cases ht
  exact ⟨zoi hF hs hj h1 (by rw [e];exact hc.2.2.2) p0 p1 hz,hj⟩
 ·have hf:=zra hF hp hk hc.2.2.1
  have hs2:(insD D (cl n) k).spans[k]?=some (F3 D (cl n) k):=zua hp.1 _
  rw [hs2] at hs
  cases hs
  have hl:0<(F3 D (cl n) k).lens.length:=by
   have:=E7 (cl n)
   show 0<(List.replicate (sl' (cl n)).toNat (0:Int)).length
   rw [List.length_replicate]
   have:=hc.2.2.1
   omega
  exact ⟨zoi hf hs2 hl h1 hc.2.2.2 p0 p1 (by show (List.replicate (sl' (cl n)).toNat (0:Int))[0]?.getD 0=0;exact rep0 _ 0),hl⟩
end Go.Proofs.YtilkidaihbhfpaaGreat
