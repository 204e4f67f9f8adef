import Derived.Test.YtjjamgeoompbkaaGreatTdQ

set_option maxRecDepth 100000
set_option maxHeartbeats 16000000
set_option linter.all false
namespace Go.Proofs.YtjjamgeoompbkaaGreat
open Go.RowKit
open Go.Proofs.Tryz
theorem zyq{m:Int}{j:Nat}(h0:0≤m)(h1:m≤9223372036854775807)(hj:j≤16):∃n r:Nat,m=(n:Int)∧bits .or .i64 m ((2:Int)^j)=(r:Int)∧(∀i,r.testBit i=(n.testBit i || decide (j=i)))∧(∀k,n<2^k→j<k→r<2^k):=by
 obtain⟨n,rfl⟩:=Int.eq_ofNat_of_zero_le h0;have h2:=zpo hj;have e:((2:Int)^j)=((2^j:Nat):Int):=by simp
 have hor:n ||| 2^j<2^63:=Nat.or_lt_two_pow (by omega) (Nat.pow_lt_pow_right (by omega) (by omega))
 refine⟨n,n ||| 2^j,rfl,?_,fun i=>by rw[Nat.testBit_or,Nat.testBit_two_pow],fun k hn hjk=>Nat.or_lt_two_pow hn (Nat.pow_lt_pow_right (by omega) hjk)⟩;rw[e]
 show IntKind.i64.wrap ((BitVec.ofInt 64 (n:Int) ||| BitVec.ofInt 64 ((2^j:Nat):Int)).toNat:Nat)=_
 rw[BitVec.toNat_or,zfl _ (by omega),zfl _ (by omega),IntKind.wrap_i64];omega
theorem zzy{m:Int}{j:Nat}(h0:0≤m)(h1:m≤9223372036854775807)(hj:j≤16)(i:Nat):bitI (bits .or .i64 m ((2:Int)^j)) i↔bitI m i∨i=j:=by
 obtain⟨n,r,rfl,e,hb,_⟩:=zyq h0 h1 hj;rw[e,zjd,zjd,hb];simp only[Bool.or_eq_true,decide_eq_true_eq];exact⟨fun h=>h.imp id Eq.symm,fun h=>h.imp id Eq.symm⟩
structure znz(s t:Y7):Prop where
 page:t.page=s.page
 cls:t.cls=s.cls
 lens:t.lens=s.lens
 ptrs:t.ptrs=s.ptrs
structure zdz(D E:WD):Prop where
 base:E.base=D.base
 words:E.words=D.words
 len:E.spans.length=D.spans.length
 span:∀(k:Nat) (s t:Y7),D.spans[k]?=some s→E.spans[k]?=some t→znz s t
theorem znz.refl(s:Y7):znz s s:=⟨rfl,rfl,rfl,rfl⟩
theorem znz.symm{s t:Y7}(h:znz s t):znz t s:=⟨h.page.symm,h.cls.symm,h.lens.symm,h.ptrs.symm⟩
theorem zdz.refl(D:WD):zdz D D:=⟨rfl,rfl,rfl,fun k s t h1 h2=>by rw[h1]at h2;cases h2;exact .refl _⟩
theorem zdz.symm{D E:WD}(h:zdz D E):zdz E D:=⟨h.base.symm,h.words.symm,h.len.symm,fun k s t h1 h2=>(h.span k t s h2 h1).symm⟩
theorem zdz.at_{D E:WD}(h:zdz D E){k:Nat}{s:Y7}(hs:D.spans[k]?=some s):∃t,E.spans[k]?=some t∧znz s t:=by
 have hl:=(List.getElem?_eq_some_iff.1 hs).1;have e:E.spans[k]?=some (E.spans[k]'(by rw[h.len];exact hl)):=List.getElem?_eq_getElem _;exact⟨_,e,h.span k s _ hs e⟩
theorem zdz.trans{D E F:WD}(h:zdz D E)(g:zdz E F):zdz D F :=
 ⟨g.base.trans h.base,g.words.trans h.words,g.len.trans h.len,fun k s t h1 h2=>by
  obtain⟨u,hu,hs⟩:=h.at_ h1;have:=g.span k u t hu h2;exact⟨this.page.trans hs.page,this.cls.trans hs.cls,this.lens.trans hs.lens,this.ptrs.trans hs.ptrs⟩⟩
theorem zmv{s t:Y7}(h:znz s t)(j:Int):atW t j=atW s j:=by unfold atW;rw[h.page,h.cls]
theorem zdz.obj{D E:WD}(h:zdz D E){a:Int}{k j:Nat}(ho:R6 D a k j):R6 E a k j:=by
 obtain⟨s,hs,hj,hl,ha⟩:=ho;obtain⟨t,ht,hst⟩:=h.at_ hs;exact⟨t,ht,by rw[hst.lens];exact hj,by rw[hst.lens];exact hl,by rw[h.base,zmv hst];exact ha⟩
theorem zdz.obj_iff{D E:WD}(h:zdz D E){a:Int}{k j:Nat}:R6 E a k j↔R6 D a k j:=⟨h.symm.obj,h.obj⟩
theorem zdz.has{D E:WD}(h:zdz D E){a:Int}:P8 E a↔P8 D a:=⟨fun⟨k,j,ho⟩=>⟨k,j,h.symm.obj ho⟩,fun⟨k,j,ho⟩=>⟨k,j,h.obj ho⟩⟩
theorem zdz.ptrs{D E:WD}(h:zdz D E){s t:Y7}(hst:znz s t)(j:Nat):ptrW E t j=ptrW D s j:=by unfold ptrW;rw[h.words,zmv hst,hst.ptrs]
inductive zgs (D:WD) (Z:List Int):Int→Prop
 | grey {b:Int}:zsg D D.grey b→P8 D b→zgs D Z b
 | more {b:Int}:b∈Z→P8 D b→zgs D Z b
 | step {a b:Int}:zgs D Z a→Leads D (fun k j=>¬U4 D k j) a b→P8 D b→zgs D Z b
theorem zgs.of{D:WD}{a:Int}(h:zfa D a)(Z:List Int):zgs D Z a:=by
 induction h with
 | start h1 h2=>exact .grey h1 h2
 | step h1 h2 h3 ih=>exact .step ih h2 h3
theorem zgs.to{D:WD}{a:Int}(h:zgs D [] a):zfa D a:=by
 induction h with
 | grey h1 h2=>exact .start h1 h2
 | more h1 h2=>simp at h1
 | step h1 h2 h3 ih=>exact .step ih h2 h3
def zlr(D:WD)(Z:List Int)(a:Int):Prop:=a=0∨zgs D Z a∨U8 D a
theorem zlr.iff{D:WD}{a:Int}:zlr D [] a↔Kept D a:=⟨fun h=>h.imp id (Or.imp zgs.to id),fun h=>h.imp id (Or.imp (fun h=>zgs.of h []) id)⟩
theorem zlr.more{D:WD}{Z Y:List Int}{a:Int}(h:zlr D Z a)(hZ:∀b,b∈Z→b∈Y):zlr D Y a:=by
 refine h.imp id (Or.imp (fun hc=>?_) id)
 induction hc with
 | grey h1 h2=>exact .grey h1 h2
 | more h1 h2=>exact .more (hZ _ h1) h2
 | step h1 h2 h3 ih=>exact .step (ih (.inr (.inl h1))) h2 h3
def G0(D:WD)(a:Int)(k j:Nat)(s:Y7):WD:={ D with spans:=D.spans.set k { s with mark:=bits .or .i64 s.mark ((2:Int)^j) },grey:=D.grey++[a] }
def U9(D:WD)(a:Int)(E:WD):Prop :=
 (∃k j s,(D.phase=1∨D.phase=2)∧R6 D a k j∧D.spans[k]?=some s∧¬bitI s.mark j∧E=G0 D a k j s) ∨
 ((D.phase=1∨D.phase=2→∀k j,R6 D a k j→U4 D k j)∧E=D)
theorem zvt{D:WD}{a:Int}{k j:Nat}{s:Y7}(hs:D.spans[k]?=some s):zdz D (G0 D a k j s):=by
 refine⟨rfl,rfl,by simp[G0],fun q t u h1 h2=>?_⟩
 by_cases e:q=k
 ·subst e
  rw[hs]at h1
  cases h1
  have hl:=(List.getElem?_eq_some_iff.1 hs).1;simp[G0,hl]at h2;subst h2;exact⟨rfl,rfl,rfl,rfl⟩
 ·simp only[G0]at h2
  rw[List.getElem?_set_ne (fun h=>e h.symm),h1]at h2
  cases h2
  exact .refl _
theorem U9.same{D E:WD}{a:Int}(h:U9 D a E):zdz D E:=by
 rcases h with⟨k,j,s,_,_,hs,_,rfl⟩|⟨_,rfl⟩
 ·exact zvt hs
 ·exact .refl _
theorem zek{D:WD}(hF:Y5 D){k j:Nat}{s:Y7}(hs:D.spans[k]?=some s)(hj:j<s.lens.length):0≤s.mark∧s.mark≤9223372036854775807∧j≤16:=by
 have A:=hF.span k s hs;have h1:=A.lens;have h2:=(zfj s.cls).2;have h3:=A.mk1;have h4:=zpo (k:=s.lens.length) (by omega);have e:((2:Int)^s.lens.length)=((2^s.lens.length:Nat):Int):=by simp
 rw[e]at h3;exact⟨A.mk0,by omega,by omega⟩
theorem zgw{D:WD}(hF:Y5 D){a:Int}{k j:Nat}{s:Y7}(hs:D.spans[k]?=some s)(hj:j<s.lens.length){q i:Nat}:U4 (G0 D a k j s) q i↔U4 D q i∨(q=k∧i=j):=by
 obtain⟨m0,m1,j16⟩:=zek hF hs hj;have hl:=(List.getElem?_eq_some_iff.1 hs).1
 by_cases e:q=k
 ·subst e
  have h1:(G0 D a q j s).spans[q]?=some { s with mark:=bits .or .i64 s.mark ((2:Int)^j) }:=by simp[G0,hl]
  rw[U4.iff h1,U4.iff hs,zzy m0 m1 j16];simp
 ·have h1:(G0 D a k j s).spans[q]?=D.spans[q]?:=by simp only[G0];rw[List.getElem?_set_ne (fun h=>e h.symm)]
  unfold U4;rw[h1];simp[e]
theorem U9.kept{D E:WD}{b:Int}{Z:List Int}(hF:Y5 D)(hph:D.phase=1∨D.phase=2)(h:U9 D b E){a:Int}(hk:zlr D (b::Z) a):zlr E Z a:=by
 have hO:=h.same
 rcases h with⟨k,j,s,_,ho,hs,hnm,rfl⟩|⟨hm,rfl⟩
 ·have hj:j<s.lens.length:=by obtain⟨t,ht,hj,_⟩:=ho;rw[hs]at ht;cases ht;exact hj
  have hmk:∀{q i},U4 (G0 D b k j s) q i↔U4 D q i∨(q=k∧i=j):=zgw hF hs hj;have hob:U8 (G0 D b k j s) b:=⟨k,j,hO.obj ho,hmk.2 (.inr ⟨rfl,rfl⟩)⟩
  rcases hk with rfl|hc|⟨q,i,hoq,hmq⟩
  ·exact .inl rfl
  ·right
   have lead:∀{x y:Int} {q i:Nat} {t:Y7},R6 D x q i→D.spans[q]?=some t→y∈ptrW D t i→∃t',(G0 D b k j s).spans[q]?=some t'∧y∈ptrW (G0 D b k j s) t' i:=fun hx ht hy=>by
    obtain⟨t',ht',hst⟩:=hO.at_ ht;exact⟨t',ht',by rw[hO.ptrs hst];exact hy⟩
   induction hc with
   | grey h1 h2 =>
    obtain⟨x,q,i,t,hx,hxo,ht,hy⟩:=h1;obtain⟨t',ht',hy'⟩:=lead hxo ht hy;exact .inl (.grey ⟨x,q,i,t',List.mem_append.2 (.inl hx),hO.obj hxo,ht',hy'⟩ (hO.has.2 h2))
   | more h1 h2 =>
    rcases List.mem_cons.1 h1 with rfl|h1
    ·exact .inr hob
    ·exact .inl (.more h1 (hO.has.2 h2))
   | step h1 h2 h3 ih =>
    rename_i x y
    obtain⟨q,i,t,hxo,ht,hnq,hy⟩:=h2;obtain⟨t',ht',hy'⟩:=lead hxo ht hy
    by_cases e:q=k∧i=j
    ·obtain⟨rfl,rfl⟩:=e
     have hxb:x=b:=by
      obtain⟨u,hu,_,_,e1⟩:=hxo;obtain⟨u',hu',_,_,e2⟩:=ho;rw[hu]at hu'
      cases hu'
      omega
     subst hxb;exact .inl (.grey ⟨x,q,i,t',by simp[G0],hO.obj hxo,ht',hy'⟩ (hO.has.2 h3))
    ·rcases ih with hc|⟨q',i',ho',hm'⟩
     ·exact .inl (.step hc ⟨q,i,t',hO.obj hxo,ht',fun hm=>(hmk.1 hm).elim hnq e,hy'⟩ (hO.has.2 h3))
     ·obtain⟨rfl,rfl⟩:=(hO.symm.obj ho').unique hF hxo
      exact absurd (hmk.1 hm') (fun h=>h.elim hnq e)
  ·exact .inr (.inr ⟨q,i,hO.obj hoq,hmk.2 (.inl hmq)⟩)
 ·have hb:∀q i,R6 E b q i→U4 E q i:=hm hph
  rcases hk with rfl|hc|hmo
  ·exact .inl rfl
  ·right
   induction hc with
   | grey h1 h2=>exact .inl (.grey h1 h2)
   | more h1 h2 =>
    rcases List.mem_cons.1 h1 with rfl|h1
    ·obtain⟨q,i,ho⟩:=h2
     exact .inr ⟨q,i,ho,hb q i ho⟩
    ·exact .inl (.more h1 h2)
   | step h1 h2 h3 ih =>
    rcases ih with hc|⟨q',i',ho',hm'⟩
    ·exact .inl (.step hc h2 h3)
    ·obtain⟨q,i,t,hxo,ht,hnq,hy⟩:=h2
     obtain⟨rfl,rfl⟩:=ho'.unique hF hxo;exact absurd hm' hnq
  ·exact .inr (.inr hmo)
theorem U9.marked{D E:WD}{b:Int}(hF:Y5 D)(hph:D.phase=1∨D.phase=2)(h:U9 D b E)(hb:P8 D b):U8 E b:=by
 have hO:=h.same
 rcases h with⟨k,j,s,_,ho,hs,hnm,rfl⟩|⟨hm,rfl⟩
 ·have hj:j<s.lens.length:=by obtain⟨t,ht,hj,_⟩:=ho;rw[hs]at ht;cases ht;exact hj
  exact⟨k,j,hO.obj ho,(zgw hF hs hj).2 (.inr ⟨rfl,rfl⟩)⟩
 ·obtain⟨q,i,ho⟩:=hb
  exact⟨q,i,ho,hm hph q i ho⟩
theorem U9.keeps{D E:WD}{b:Int}(hF:Y5 D)(h:U9 D b E){a:Int}(ha:U8 D a):U8 E a:=by
 have hO:=h.same
 rcases h with⟨k,j,s,_,ho,hs,hnm,rfl⟩|⟨hm,rfl⟩
 ·have hj:j<s.lens.length:=by obtain⟨t,ht,hj,_⟩:=ho;rw[hs]at ht;cases ht;exact hj
  obtain⟨q,i,hoq,hmq⟩:=ha;exact⟨q,i,hO.obj hoq,(zgw hF hs hj).2 (.inl hmq)⟩
 ·exact ha
theorem zdz.inSlot{s t:Y7}(h:znz s t){j n x:Nat}:zle t j n x↔zle s j n x:=by unfold zle;rw[zmv h]
theorem zdz.inSlots{s t:Y7}(h:znz s t){j x:Nat}:zeb t j x↔zeb s j x:=by
 unfold zeb;rw[h.lens];exact⟨fun⟨j',h1,h2⟩=>⟨j',h1,(zdz.inSlot h).1 h2⟩,fun⟨j',h1,h2⟩=>⟨j',h1,(zdz.inSlot h).2 h2⟩⟩
theorem zdz.used{D E:WD}(h:zdz D E){x:Nat}(hu:Used D x):Used E x:=by
 obtain⟨k,s,hk,hs,hx⟩:=hu;obtain⟨t,ht,hst⟩:=h.at_ hs;exact⟨k,t,by rw[h.len];exact hk,ht,by rw[hst.lens];exact(zdz.inSlots hst).2 hx⟩
theorem zdz.form{D E:WD}(h:zdz D E)(hF:Y5 D)(hp:E.pages=D.pages)(hd:E.dirty.length=D.dirty.length)(hmu:E.muts=D.muts)(p0:0≤E.phase)(p1:E.phase≤4)
  (hm:∀(k:Nat) (s t:Y7),D.spans[k]?=some s→E.spans[k]?=some t→0≤t.mark∧t.mark<2^t.lens.length∧∀i,i<t.lens.length→t.lens[i]?.getD 0=0→¬bitI t.mark i):Y5 E:=by
 refine⟨by rw[h.base,hp,hmu];exact hF.geo,by rw[h.words,hp];exact hF.words,by rw[hd,hp];exact hF.dirty,by rw[h.len,hp];exact hF.spans,p0,p1,fun k t ht=>?_,fun i hi hu=>?_,by rw[hmu];exact hF.roots⟩
 ·obtain⟨s,hs,hts⟩:=h.symm.at_ ht
  have hst:=hts.symm;have A:=hF.span k s hs;obtain⟨m0,m1,mb⟩:=hm k s t hs ht;refine⟨by rw[hst.page];exact A.pg0,by rw[hst.page,hp];exact A.pg1,fun t' hk ht'=>?_,by rw[hst.cls];exact A.cls,by rw[hst.lens,hst.cls];exact A.lens,by rw[hst.ptrs,hst.cls];exact A.ptrs,fun i hi=>?_,m0,m1⟩
  ·obtain⟨s',hs',hts'⟩:=h.symm.at_ ht'
   have:=A.prev s' hk hs';rw[hst.page,hts'.symm.page];exact this
  ·have S:=A.slot i (by rw[←hst.lens];exact hi)
   exact⟨by rw[hst.lens];exact S.l0,by rw[hst.lens,hst.cls];exact S.l1,by rw[hst.ptrs];exact S.p0,by rw[hst.ptrs,hst.lens];exact S.p1,fun hz=>mb i hi hz⟩
 ·rw[h.words]at hi ⊢
  exact hF.zero i hi fun hu'=>hu (h.used hu')
theorem U9.rest{D E:WD}{a:Int}(h:U9 D a E):E.pages=D.pages∧E.dirty=D.dirty∧E.muts=D.muts∧E.phase=D.phase∧E.next=D.next:=by
 rcases h with⟨k,j,s,_,_,_,_,rfl⟩|⟨_,rfl⟩
 ·exact⟨rfl,rfl,rfl,rfl,rfl⟩
 ·exact⟨rfl,rfl,rfl,rfl,rfl⟩
theorem U9.form{D E:WD}{a:Int}(hF:Y5 D)(h:U9 D a E):Y5 E:=by
 have hO:=h.same;have hR:=h.rest;refine hO.form hF hR.1 (by rw[hR.2.1]) hR.2.2.1 (by rw[hR.2.2.2.1];exact hF.ph0) (by rw[hR.2.2.2.1];exact hF.ph1) fun q t u h1 h2=>?_;have A:=hF.span q t h1
 have old:u=t→0≤u.mark∧u.mark<2^u.lens.length∧∀i,i<u.lens.length→u.lens[i]?.getD 0=0→¬bitI u.mark i:=by
  rintro rfl;exact⟨A.mk0,A.mk1,fun i hi hz=>(A.slot i hi).bit hz⟩
 rcases h with⟨k,j,s,_,ho,hs,hnm,rfl⟩|⟨_,rfl⟩
 ·by_cases e:q=k
  ·subst e
   rw[hs]at h1
   cases h1
   obtain⟨s',hs',hj,hl,_⟩:=ho;rw[hs]at hs'
   cases hs'
   have hlen:=(List.getElem?_eq_some_iff.1 hs).1;obtain⟨m0,m1,j16⟩:=zek hF hs hj;obtain⟨n,r,e1,e2,_,hlt⟩:=zyq m0 m1 j16
   have hu:u={ t with mark:=bits .or .i64 t.mark ((2:Int)^j) }:=by
    simp[G0,hlen]at h2;exact h2.symm
   subst hu;have e3:((2:Int)^t.lens.length)=((2^t.lens.length:Nat):Int):=by simp
   have hm1:=A.mk1;refine⟨by show 0≤bits .or .i64 t.mark ((2:Int)^j);omega,?_,fun i hi hz hb=>?_⟩
   ·show bits .or .i64 t.mark ((2:Int)^j)<2^t.lens.length
    have:=hlt t.lens.length (by omega) hj;rw[e2,e3];omega
   ·rcases(zzy m0 m1 j16 i).1 hb with hb|rfl
    ·exact(A.slot i hi).bit hz hb
    ·have hz':t.lens[i]?.getD 0=0:=hz
     omega
  ·simp only[G0]at h2
   rw[List.getElem?_set_ne (fun h=>e h.symm),h1]at h2
   cases h2
   exact old rfl
 ·rw[h1]at h2
  cases h2
  exact old rfl
structure Mid(D:WD)(Z:List Int):Prop where
 form:Y5 D
 ph:D.phase=1∨D.phase=2
 roots:∀r,r∈D.muts→∀a,a∈r→a=0∨P8 D a
 ptrs:∀a k j s,R6 D a k j→D.spans[k]?=some s→∀b,b∈ptrW D s j→b=0∨P8 D b
 span:∀s,s∈D.spans→zew D s
 next:zey D
 grey:U2 D D.grey
 seen:∀(m:Nat) (r:List Int),D.muts[m]?=some r→M5 D m→∀a,a∈r→zlr D Z a
 kept:∀a k j s,R6 D a k j→D.spans[k]?=some s→U4 D k j→∀b,b∈ptrW D s j→zlr D Z b
theorem U2.add{D:WD}{L:List Int}{x:Int}(h:U2 D L)(hm:U8 D x)(hx:x∉L):U2 D (L++[x]) :=
 ⟨List.nodup_append.2 ⟨h.1,by simp,fun a ha b hb=>by obtain rfl:=List.mem_singleton.1 hb;exact fun e=>hx (e ▸ ha)⟩,fun a ha=>(List.mem_append.1 ha).elim (h.2 a) fun hb=>by rw[List.mem_singleton.1 hb];exact hm⟩
theorem Mid.shade{D E:WD}{b:Int}{Z:List Int}(h:Mid D (b::Z))(hs:U9 D b E):Mid E Z:=by
 have hO:=hs.same;obtain⟨r1,r2,r3,r4,r5⟩:=hs.rest;have hE:=hs.form h.form
 have hptr:∀a k j s,R6 E a k j→E.spans[k]?=some s→∀b,b∈ptrW E s j→b=0∨P8 E b:=fun a k j t ho ht b hb=>by
  obtain⟨s,hs,hts⟩:=hO.symm.at_ ht;rw[hO.ptrs hts.symm]at hb;exact(h.ptrs a k j s (hO.symm.obj ho) hs b hb).imp id hO.has.2
 refine⟨hE,by rw[r4];exact h.ph,by rw[r3];exact fun r hr a ha=>(h.roots r hr a ha).imp id hO.has.2,hptr,fun t ht=>?_,?_,?_,?_,fun a k j t ho ht hm c hc=>?_⟩
 ·obtain⟨q,hq⟩:=List.mem_iff_getElem?.1 ht
  rcases hs with⟨k,j,s,hph,ho,hsk,hnm,rfl⟩|⟨_,rfl⟩
  ·by_cases e:q=k
   ·subst e
    have hl:=(List.getElem?_eq_some_iff.1 hsk).1;simp[G0,hl]at hq;subst hq;have hr:=h.span s (List.mem_of_getElem? hsk);refine⟨fun hsw=>hr.1 hsw,fun _=>⟨fun e=>?_,?_⟩⟩
    ·have e':D.phase=0:=e
     omega
    ·show s.swept=false
     cases hsw:s.swept
     ·rfl
     ·have:=hr.1 hsw
      omega
   ·simp only[G0]at hq
    rw[List.getElem?_set_ne (fun h=>e h.symm)]at hq;exact h.span t (List.mem_of_getElem? hq)
  ·exact h.span t ht
 ·unfold zey
  rw[r5,r3,r4];exact h.next
 ·have hold:U2 E D.grey:=⟨h.grey.1,fun a ha=>hs.keeps h.form (h.grey.2 a ha)⟩
  rcases id hs with⟨k,j,s,hph,ho,hsk,hnm,rfl⟩|⟨_,rfl⟩
  ·refine hold.add (hs.marked h.form h.ph ⟨k,j,ho⟩) fun hb=>?_
   obtain⟨q,i,hoq,hmq⟩:=h.grey.2 b hb;obtain⟨rfl,rfl⟩:=hoq.unique h.form ho;exact hnm ((U4.iff hsk).1 hmq)
  ·exact hold
 ·intro m r hr hsn a ha
  rw[r3]at hr;exact hs.kept h.form h.ph (h.seen m r hr (by unfold M5 at hsn ⊢;rw[r4,r5]at hsn;exact hsn) a ha)
 ·obtain⟨s,hsk,hts⟩:=hO.symm.at_ ht
  have hcD:c∈ptrW D s j:=by rw[hO.ptrs hts.symm]at hc;exact hc
  by_cases hmD:U4 D k j
  ·exact hs.kept h.form h.ph (h.kept a k j s (hO.symm.obj ho) hsk hmD c hcD)
  ·rcases hptr a k j t ho ht c hc with rfl|hob
   ·exact .inl rfl
   ·right;left
    rcases id hs with⟨k',j',s',hph,ho',hs',hnm,rfl⟩|⟨_,rfl⟩
    ·have hj:j'<s'.lens.length:=by obtain⟨u,hu,hj,_⟩:=ho';rw[hs']at hu;cases hu;exact hj
     rcases(zgw h.form hs' hj).1 hm with hm|⟨rfl,rfl⟩
     ·exact absurd hm hmD
     ·have hab:a=b:=by
       obtain⟨u,hu,_,_,e1⟩:=hO.symm.obj ho;obtain⟨u',hu',_,_,e2⟩:=ho';rw[hu]at hu'
       cases hu'
       omega
      subst hab;exact .grey ⟨a,k,j,t,by simp[G0],ho,ht,hc⟩ hob
    ·exact absurd hm hmD
theorem U9.unique{D:WD}{a:Int}{E F:WD}(hF:Y5 D)(h:U9 D a E)(g:U9 D a F):F=E:=by
 rcases h with⟨k,j,s,hp,ho,hs,hb,rfl⟩|⟨hn,rfl⟩<;>rcases g with⟨k',j',s',hp',ho',hs',hb',rfl⟩|⟨hn',rfl⟩
 ·obtain⟨rfl,rfl⟩:=ho.unique hF ho'
  rw[hs]at hs'
  cases hs'
  rfl
 ·exact absurd ((U4.iff hs).1 (hn' hp k j ho)) hb
 ·exact absurd ((U4.iff hs').1 (hn hp' k' j' ho')) hb'
 ·rfl
theorem zxf{w:World}{base:Nat}{v:Value}{L:List Int}{o:Oper}{a:Act}{K:Act→World→Prop}{Q:Exit→Act→World→Prop}(s x:Operand)
  (ho:o.op=.call { callee:=.builtin .append,args:=#[s,x],argTypes:=#[22,22] })
  (hs:a.eval s=v) (hown:w.ownsRow base 3 1 v L.length (L.map (Value.int .i64))) (ad:Addr) (m c:Nat) (R:List Int) (hx:a.eval x=.slice (some ad) m c) (hm:R.length=m) (hr:L7 w (some ad) m 1 (R.map (Value.int .i64)))
  (h63:L.length+m≤16777216) (hbase:base≤w.heap.size)
  (h:∀v' w',w'.ownsRow base 3 1 v' (L++R).length ((L++R).map (Value.int .i64))→w.grownBy w' v.ownBlock→(∀q,v'.ownBlock=some q→v.ownBlock=some q∨w.heap.size≤q)→K (a.put o.dst v') w'):o.wp prog a w K Q:=by
 obtain⟨i,hi,hz,hsize,hby⟩:=info_parts zer;have ht:prog.underlying 22=some (.slice 3):=underlying22;obtain⟨v',w',hrun,h2,h3,h4⟩:=OwnQ.run_app o.type (OwnQ.of_row hown) (some ad) m c R hm hr h63 hbase
 obtain⟨v2,w2,hrun2,g2,g3,_⟩:=run_append_own (P:=prog) (w:=w) base 22 o.type 3 i (.int .i64 0) 1 8 ht hi hz hsize hby rfl (by decide) v L.length _ hown ad m c (R.map (Value.int .i64)) (by simpa using hm)
  (fun j u hu=>by obtain⟨b,e,hc⟩:=hr.at_ j u hu;cases e;exact hc) hr.one (by unfold maxLen;omega) (by omega) hbase
 rw[hrun]at hrun2
 cases hrun2
 unfold Oper.wp execOp;simp only[ho,resolve,invoke,builtin,Sem.run_bind,Sem.run_pure,Result.andThen_ok,List.map_toArray,List.map_cons,List.map_nil,hs,hx,hrun];refine h v' w' ?_ h3 fun q hq=>?_
 ·rw[List.length_append,List.map_append,hm]
  exact g2
 ·rcases h4 with e|e
  ·left;rw[←e];exact hq
  ·right;exact(e.lt q hq).1
theorem zsh{w:World}{base:Nat}{v:Value}{L:List Int}{ops:Array Oper}{rest:List Oper}{o:Oper}{a:Act}{Q:Exit→Act→World→Prop}(hgd:o.guard=none)(s x:Operand)
  (ho:o.op=.call { callee:=.builtin .append,args:=#[s,x],argTypes:=#[22,22] })
  (hs:a.eval s=v) (hown:w.ownsRow base 3 1 v L.length (L.map (Value.int .i64))) (ad:Addr) (m c:Nat) (R:List Int) (hx:a.eval x=.slice (some ad) m c) (hm:R.length=m) (hr:L7 w (some ad) m 1 (R.map (Value.int .i64)))
  (h63:L.length+m≤16777216) (hbase:base≤w.heap.size)
  (h:∀v' w',w'.ownsRow base 3 1 v' (L++R).length ((L++R).map (Value.int .i64))→w.grownBy w' v.ownBlock→(∀q,v'.ownBlock=some q→v.ownBlock=some q∨w.heap.size≤q)→wpList prog ops Q rest (a.put o.dst v') w'):wpList prog ops Q (o::rest) a w :=
 wpList_plain hgd fun _ hK=>zxf s x ho hs hown ad m c R hx hm hr h63 hbase fun v' w' h1 h2 h3=>hK _ _ (h v' w' h1 h2 h3)
section
variable {w w':World} {base B:Nat} {S:Y9} {D:WD}
theorem VarW.grow(h:VarW w base B S D)(g:w.grownBy w' S.vg.ownBlock){v:Value}{L:List Int}(r:w'.ownsRow base 3 1 v L.length (L.map (Value.int .i64)))(f:∀q,v.ownBlock=some q→S.vg.ownBlock=some q∨w.heap.size≤q) :
  VarW (w'.setCell ⟨B,8,none⟩ v) base B { S with vg:=v } { D with grey:=L }∧Below base w (w'.setCell ⟨B,8,none⟩ v):=by
 have c1:Chg (blks [S.vg]) w w':=Chg.of_grown g fun x hx=>List.mem_filterMap.2 ⟨S.vg,by simp,hx⟩;have c2:=Chg.of_grown (U5 w' B 8 v) (bs:=[B]) (by simp);have P:=h.own.parts;have hb:=h.keep c1 (zkx (by simp[Y9.all]));have hbel:=h.bel c1 (zkx (by simp[Y9.all]));have hm:∀x,x∈S.all→∀q,x.ownBlock=some q→q∉[B]:=fun x hx q hq hm=>h.ne (List.mem_filterMap.2 ⟨x,hx,by rw[hq,List.mem_singleton.1 hm]⟩)
 have hvB:v.ownBlock≠some B:=fun e=>by
  rcases f B e with e|e
  ·exact h.ne (List.mem_filterMap.2 ⟨S.vg,by simp[Y9.all],e⟩)
  ·have:=h.lt
   omega
 have hn0:=h.own.nodup;rw[show S.ints=(S.vw::V9 S.sv++S.mv)++[S.vg]from rfl,List.filterMap_append]at hn0;have h1:=List.nodup_append.1 hn0
 have hn:(({ S with vg:=v }:Y9).ints.filterMap Value.ownBlock).Nodup:=by
  rw[show({ S with vg:=v }:Y9).ints=(S.vw::V9 S.sv++S.mv)++[v]from rfl,List.filterMap_append];refine List.nodup_append.2 ⟨h1.1,?_,?_⟩
  ·cases e:v.ownBlock<;>simp[e]
  ·intro a ha b hb
   obtain⟨y,hy,hyb⟩:=List.mem_filterMap.1 hb;obtain rfl:=List.mem_singleton.1 hy;rintro rfl
   rcases f a hyb with hf|hf
   ·exact h1.2.2 a ha a (by simp[hf]) rfl
   ·obtain⟨y',hy',hyb'⟩:=List.mem_filterMap.1 ha
    have hal:y'∈S.all:=by
     simp only[List.mem_append,List.mem_cons]at hy'
     rcases hy' with(rfl|hy')|hy'<;>simp[Y9.all, *]
    have:=(h.own.lt a (List.mem_filterMap.2 ⟨y',hal,hyb'⟩)).2;omega
 refine⟨⟨?_,?_,h.le,?_⟩,hbel.trans ((Below.refl _ _).setCell (p:=⟨B,8,none⟩) h.le _)⟩
 ·have:=heap_setCell_same w' B 8 _ _ v hb
  simpa[Y9.cells]using this
 ·refine .mk' (U1 (U1 h.own.words c1 fun q hq=>P.d04.not_mem (by simp) hq) c2 (hm _ (by simp[Y9.all]))) (U1 (U1 h.own.dirty c1 fun q hq=>P.d14.not_mem (by simp) hq) c2 (hm _ (by simp[Y9.all])))
   ((h.own.ownS.chg c1 (fun q hq=>P.d24.not_mem (by simp) hq) (fun x hx q hq=>P.d24.not_mem (by simp[hx]) hq)).chg c2 (hm _ (by simp[Y9.all])) (fun x hx=>hm x (by simp[Y9.all,hx])))
   ((h.own.ownM.chg c1 (fun q hq=>P.d34.not_mem (by simp) hq) (fun x hx q hq=>P.d34.not_mem (by simp[hx]) hq)).chg c2 (hm _ (by simp[Y9.all])) (fun x hx=>hm x (by simp[Y9.all,hx])))
   (U1 r c2 fun q hq hm=>hvB (by rw[hq,List.mem_singleton.1 hm])) hn
 ·intro hB2
  obtain⟨x,hx,hxB⟩:=List.mem_filterMap.1 hB2;simp only[Y9.all,List.mem_append,List.mem_cons,List.not_mem_nil,or_false]at hx;have old:∀y,y∈S.all→y.ownBlock≠some B:=fun y hy e=>h.ne (List.mem_filterMap.2 ⟨y,hy,e⟩)
  rcases hx with(((rfl|rfl)|(rfl|hx))|(rfl|hx))|rfl
  ·exact old _ (by simp[Y9.all]) hxB
  ·exact old _ (by simp[Y9.all]) hxB
  ·exact old _ (by simp[Y9.all]) hxB
  ·exact old x (by simp[Y9.all,hx]) hxB
  ·exact old _ (by simp[Y9.all]) hxB
  ·exact old x (by simp[Y9.all,hx]) hxB
  ·exact hvB hxB
end
structure zlc(w w':World)(B:Nat)(S S':Y9):Prop where
 vg:∃v,S'={ S with vg:=v }∧∀q,v.ownBlock=some q→S.vg.ownBlock=some q∨w.heap.size≤q
 chg:Chg (B::blks S.all) w w'
theorem zlc.of_below{w w':World}(B:Nat)(S:Y9)(h:Below w.heap.size w w'):zlc w w' B S S:=⟨⟨S.vg,rfl,fun q hq=>.inl hq⟩,.of_below h _⟩
theorem Y9.all_vg{S:Y9}{v:Value}{k:Nat}(h:k∈blks ({ S with vg:=v }:Y9).all):k∈blks S.all∨v.ownBlock=some k:=by
 obtain⟨x,hx,e⟩:=List.mem_filterMap.1 h;simp only[Y9.all,List.mem_append,List.mem_cons,List.not_mem_nil,or_false]at hx
 rcases hx with(((rfl|rfl)|(rfl|hx))|(rfl|hx))|rfl
 ·exact .inl (List.mem_filterMap.2 ⟨_,by simp[Y9.all],e⟩)
 ·exact .inl (List.mem_filterMap.2 ⟨_,by simp[Y9.all],e⟩)
 ·exact .inl (List.mem_filterMap.2 ⟨_,by simp[Y9.all],e⟩)
 ·exact .inl (List.mem_filterMap.2 ⟨x,by simp[Y9.all,hx],e⟩)
 ·exact .inl (List.mem_filterMap.2 ⟨_,by simp[Y9.all],e⟩)
 ·exact .inl (List.mem_filterMap.2 ⟨x,by simp[Y9.all,hx],e⟩)
 ·exact .inr e
theorem zlh(base B:Nat)(S:Y9)(D:WD)(addr:Int)(hF:Y5 D)(hgl:D.grey.length≤1048576)(w:World)(h:VarW w base B S D) :
  Calls prog 98 #[.pointer (some ⟨B,0,none⟩),.int .i64 addr] w fun e w'=>e=.returned (.tuple #[])∧(∃S' E,U9 D addr E∧VarW w' base B S' E∧zlc w w' B S S')∧Below base w w':=by
 have h':=Z0 h;have hF':=Z0 hF;have hgl':=Z0 hgl;have hle:=Z0 (Nat.le_of_lt (Nat.lt_of_le_of_lt h.le h.lt));have hfnd:=Z0 (zgk B _ D hF addr w h.rd h.boxW);have g6:=h.cell 6 (.int .i64 D.phase) rfl;clear hF hgl h
 by_cases c1:D.phase=1∨D.phase=2
 case neg =>
  have y:=Z0 (show U9 D addr D from .inr ⟨fun h=>absurd h c1,rfl⟩);have d1:(D.phase != 1)=true:=bne_iff_ne.2 fun h=>c1 (.inl h);have d2:(D.phase != 2)=true:=bne_iff_ne.2 fun h=>c1 (.inr h);clear c1;go_enter func98,ntmps98;go_wp2_with fail;refine bodyPost_ret (v:=.tuple #[]) (by simp[results,results98,go_sem]) rfl ?_;exact⟨rfl,⟨_,_,y.out,h'.out,.of_below _ _ (Below.refl _ _)⟩,Below.refl _ _⟩
 have hc:=Z0 c1
 rcases c1 with c1|c1
 all_goals rw[c1]at g6
 all_goals clear c1
 all_goals go_enter func98,ntmps98
 all_goals go_wp2_with fail
 all_goals
  refine hfnd.out.mono ?_;rintro e w1⟨hq,b1⟩;obtain⟨r,q,rfl,hq⟩:=hq;have v1:=Z0 (h'.out.below b1);have B1:=Z0 (b1.mono hle.out);have Z1:=Z0 b1;clear b1 g6
  rcases hq with⟨k,j,_,ho,rfl,rfl⟩|⟨hn,rfl,rfl⟩
  case inr =>
   have y:=Z0 (show U9 D addr D from .inr ⟨fun _ k j h=>absurd h (hn hF'.out k j),rfl⟩);clear hn;go_wp2_with fail;refine bodyPost_ret (v:=.tuple #[]) (by simp[results,results98,go_sem]) rfl ?_;exact⟨rfl,⟨_,_,y.out,v1.out,.of_below _ _ Z1.out⟩,B1.out⟩
  have ho':=Z0 ho;obtain⟨s,hs,hj,hl,ha⟩:=ho;have hs':=Z0 hs;have hj16:=Z0 (zek hF'.out hs hj);have hm:=Z0 (zfc B _ D k j s hs hj16.out.2.2 w1 v1.out.rd v1.out.boxW);have hkl1:(k:Int)<(D.spans.length:Int):=by have:=(List.getElem?_eq_some_iff.1 hs).1;omega
  clear hs hj hl ha;go_wp2_with fail;refine hm.out.mono ?_;rintro e w2⟨hq,b2⟩;replace hq:=hq.elim;have v2:=Z0 (v1.out.below b2);have B2:=Z0 (B1.out.trans (b2.mono (by have:=B1.out.size;have:=hle.out;omega)));have Z2:=Z0 (Z7 Z1.out b2);clear b2 hm
  rcases hq with⟨hmk,rfl⟩|⟨hmk,rfl⟩
  case inl =>
   have y:=Z0 (show U9 D addr D from .inr ⟨fun _ k' j' h=>by obtain⟨rfl,rfl⟩:=ho'.out.unique hF'.out h;exact hmk,rfl⟩);clear hmk;go_wp2_with fail;refine bodyPost_ret (v:=.tuple #[]) (by simp[results,results98,go_sem]) rfl ?_;exact⟨rfl,⟨_,_,y.out,v2.out,.of_below _ _ Z2.out⟩,B2.out⟩
  have y:=Z0 (show U9 D addr (G0 D addr k j s)from .inl ⟨k,j,s,hc.out,ho'.out,hs'.out,fun hb=>hmk ((U4.iff hs'.out).2 hb),rfl⟩);obtain⟨p,hp⟩:=v2.out.svAt hs'.out;obtain⟨gs,cs,hgs⟩:=v2.out.headS (by omega);have g4:=v2.out.cell 4 S.vs rfl;rw[hgs]at g4;have x2:=(v2.out.six hgs hs'.out hp).2.2.1;have f2:=v2.out.frzS hgs (k*6+2);have hmx:=v2.out.rd.parts.2.2.1;obtain⟨_,_,_,hsm,_⟩:=hmx;unfold maxLen at hsm;have hj1:(j:Int)≤16:=by have:=hj16.out.2.2;omega
  have v3:=Z0 (v2.out.mark hgs k s p (bits .or .i64 s.mark (2^j)) hs'.out hp);have hgs':=hgs;clear hmk hp hgs;have hgs':=Z0 hgs';go_wp2_with fail
  go_region
  rw[zub (show j≤16 by omega)];have v4:=Z0 v3.out.1.drew;have B4:=Z0 (below_drewN (B2.out.trans v3.out.2) 1);have C4:=Z0 ((Chg.of_below Z2.out (B::blks S.all)).trans ((Chg.of_grown (U5 w2 gs (k*6+2) (.int .i64 (bits .or .i64 s.mark (2^j)))) (bs:=B::blks S.all) (fun x hx=>by cases hx;exact List.mem_cons_of_mem _ (List.mem_filterMap.2 ⟨S.vs,by simp[Y9.all],by rw[hgs'.out];rfl⟩))).trans (Chg.of_below (below_drewN (Below.refl _ _) 1) _)));have q0:bits .or .i64 s.mark (2^j)=bits .or .i64 s.mark ((2:Int)^j):=rfl;clear g4 x2 f2 v2 B2 v3 v1 B1 hj1 hkl1;generalize hw3:(w2.setCell ⟨gs,k*6+2,none⟩ (.int .i64 (bits .or .i64 s.mark (2^j)))).drew=w3 at *;have B4':Hid (Below base w w3):=Z0 (by rw[←hw3];exact B4.out);have C4':Hid (Chg (B::blks S.all) w w3):=Z0 (by rw[←hw3];exact C4.out);clear hw3 B4 C4 hsm q0 hgs' Z1 Z2;have hown:=show w3.ownsRow base 3 1 S.vg D.grey.length (D.grey.map (Value.int .i64))from v4.out.own.grey;obtain⟨ag,cg,hvg⟩:=X0 hown;have b8:=v4.out.cell 8 S.vg rfl;rw[hvg]at b8 hown;have hown':=Z0 hown;have hbs:=Z0 (show base≤(w3.alloc (.cells #[.int .i64 addr] 3)).heap.size by have:=B4'.out.size;have:=hle.out;simp;omega);have hgl2:=hgl'.out;clear hown;have src:=Z0 (show L7 (w3.alloc (.cells #[.int .i64 addr] 3)) (some ⟨w3.heap.size,0,none⟩) 1 1 ([addr].map (Value.int .i64))from⟨rfl,fun j u hu=>⟨_,rfl,zfh _ _ _ j u hu⟩,by simp[Value.oneCell']⟩);have v5:=Z0 (v4.out.below (Y2 w3 (.cells #[.int .i64 addr] 3)));have B5:=Z0 (B4'.out.trans ((Y2 w3 (.cells #[.int .i64 addr] 3)).mono (by have:=B4'.out.size;have:=hle.out;omega)))
  have ex:=Z0 (show ∀(v:Value) (w6:World) ,w6.ownsRow base 3 1 v (D.grey++[addr]).length ((D.grey++[addr]).map (Value.int .i64))→(w3.alloc (.cells #[.int .i64 addr] 3)).grownBy w6 (Value.slice ag D.grey.length cg).ownBlock →
    (∀q,v.ownBlock=some q→(Value.slice ag D.grey.length cg).ownBlock=some q∨(w3.alloc (.cells #[.int .i64 addr] 3)).heap.size≤q) →
    (∃a c,v=.slice a (D.grey.length+1) c)∧w6.cell? ⟨B,8,none⟩=some S.vg∧w6.frozen? ⟨B,8,none⟩=false∧(VarW (w6.setCell ⟨B,8,none⟩ v) base B { S with vg:=v } (G0 D addr k j s)∧zlc w (w6.setCell ⟨B,8,none⟩ v) B S { S with vg:=v })∧Below base w (w6.setCell ⟨B,8,none⟩ v)from fun v w6 r g f=>by
   have hg:=v5.out.grow (L:=D.grey++[addr]) (v:=v) (by rw[hvg];exact g) r (by rw[hvg];exact f);have hb6:=v5.out.keep (Chg.of_grown g (bs:=blks [S.vg]) fun x hx=>List.mem_filterMap.2 ⟨S.vg,by simp,by rw[hvg];exact hx⟩) (zkx (by simp[Y9.all]));obtain⟨a,c,e⟩:=X0 r;have hsz:=C4'.out.size;have hc5:Chg (B::blks S.all) w (w6.setCell ⟨B,8,none⟩ v):=((C4'.out.trans (Chg.of_below (Y2 w3 _) _)).trans (Chg.of_grown g (bs:=B::blks S.all) fun x hx=>List.mem_cons_of_mem _ (List.mem_filterMap.2 ⟨S.vg,by simp[Y9.all],by rw[hvg];exact hx⟩))).trans (Chg.of_grown (U5 w6 B 8 v) (bs:=B::blks S.all) (by simp));exact⟨⟨a,c,by rw[e,List.length_append];rfl⟩,Z6 hb6 8 S.vg rfl,Z9 hb6 8,⟨hg.1,⟨v,rfl,fun q hq=>(f q hq).imp (fun h=>by rw[hvg];exact h) (fun h=>by simp at h;omega)⟩,hc5⟩,B5.out.trans hg.2⟩)
  clear v4 v5 B4' C4' B5 hc ho' hs' hj16;go_wp2_with (at_builtin;go_loud (refine zsh rfl (.tmp 57) (.tmp 59) rfl rfl (hown'.out.alloc _) ⟨w3.heap.size,0,none⟩ 1 1 [addr] rfl rfl src.out (by omega) hbs.out ?_;intro v6 w6 q6 g6 f6;obtain⟨⟨a6,c6,rfl⟩,b6,z6,hv6⟩:=ex.out _ _ q6 g6 f6;have hv:=Z0 hv6;rw[hvg]at b6;clear q6 g6 f6 hv6 ex))
  go_end0
  exact⟨rfl,⟨_,_,y.out,hv.out.1.1,hv.out.1.2⟩,hv.out.2⟩
theorem U9.greyLen{D E:WD}{a:Int}(h:U9 D a E):E.grey.length≤D.grey.length+1:=by
 rcases h with⟨k,j,s,_,_,_,_,rfl⟩|⟨_,rfl⟩
 ·simp[G0]
 ·omega
theorem zli{α:Type}{L:List α}{k q:Nat}{a b t:α}(hs:L[k]?=some a)(h:(L.set k b)[q]?=some t):(q=k∧t=b)∨(q≠k∧L[q]?=some t):=by
 by_cases e:q=k
 ·subst e
  have hl:=(List.getElem?_eq_some_iff.1 hs).1;rw[List.getElem?_set_self hl]at h
  cases h
  exact .inl ⟨rfl,rfl⟩
 ·rw[List.getElem?_set_ne (fun h=>e h.symm)]at h
  exact .inr ⟨e,h⟩
theorem zxx{α:Type}{L:List α}{k q:Nat}{b t:α}(hq:q≠k)(h:L[q]?=some t):(L.set k b)[q]?=some t:=by
 rw[List.getElem?_set_ne (fun h=>hq h.symm)];exact h
def ztx(D:WD)(k x:Nat):Prop:=∃q u,q≠k∧D.spans[q]?=some u∧zeb u u.lens.length x
theorem zsj{D:WD}{k x:Nat}{s:Y7}(hs:D.spans[k]?=some s):Used D x↔ztx D k x∨zeb s s.lens.length x:=by
 constructor
 ·rintro⟨q,u,_,hu,hx⟩
  by_cases e:q=k
  ·subst e
   rw[hs]at hu
   cases hu
   exact .inr hx
  ·exact .inl ⟨q,u,e,hu,hx⟩
 ·rintro(⟨q,u,_,hu,hx⟩|hx)
  ·exact⟨q,u,(List.getElem?_eq_some_iff.1 hu).1,hu,hx⟩
  ·exact⟨k,s,(List.getElem?_eq_some_iff.1 hs).1,hs,hx⟩
theorem zsk{D E:WD}{k x:Nat}{t:Y7}(he:E.spans=D.spans.set k t)(h:ztx D k x):ztx E k x:=by
 obtain⟨q,u,e,hu,hx⟩:=h;exact⟨q,u,e,by rw[he];exact zxx e hu,hx⟩
theorem Y5.setSpan{D E:WD}(hF:Y5 D){k:Nat}{s t:Y7}(hs:D.spans[k]?=some s)(hb:E.base=D.base)(hp:E.pages=D.pages)(hm:E.muts=D.muts)(h0:0≤E.phase)(h4:E.phase≤4)
  (hw:E.words.length=D.words.length) (hd:E.dirty.length=D.dirty.length) (he:E.spans=D.spans.set k t) (pg:t.page=s.page) (cl:t.cls=s.cls) (ll:t.lens.length=s.lens.length) (pl:t.ptrs.length=s.ptrs.length)
  (slot:∀i,i<t.lens.length→zje t i) (mk0:0≤t.mark) (mk1:t.mark<2^t.lens.length) (zero:∀i,i<E.words.length→¬Used E i→E.words[i]?.getD 0=0):Y5 E:=by
 have A:=hF.span k s hs;refine⟨by rw[hb,hp,hm];exact hF.geo,by rw[hw,hp];exact hF.words,by rw[hd,hp];exact hF.dirty,by rw[he,List.length_set,hp];exact hF.spans,h0,h4,fun q u hu=>?_,zero,by rw[hm];exact hF.roots⟩;rw[he]at hu
 have page:∀{q:Nat} {u:Y7},(D.spans.set k t)[q]?=some u→∃u0,D.spans[q]?=some u0∧u.page=u0.page:=fun {q u} h=>by
  rcases zli hs h with⟨rfl,rfl⟩|⟨_,h⟩
  ·exact⟨s,hs,pg⟩
  ·exact⟨u,h,rfl⟩
 have prev:zut E q u:=fun u' hq hu'=>by
  rw[he]at hu';obtain⟨u0,h1,e1⟩:=page hu;obtain⟨u1,h2,e2⟩:=page hu';rw[e1,e2];exact(hF.span q u0 h1).prev u1 hq h2
 rcases zli hs hu with⟨rfl,rfl⟩|⟨_,hu⟩
 ·exact⟨by rw[pg];exact A.pg0,by rw[pg,hp];exact A.pg1,prev,by rw[cl];exact A.cls,by rw[ll,cl];exact A.lens,by rw[pl,cl];exact A.ptrs,slot,mk0,mk1⟩
 ·have B:=hF.span q u hu
  exact⟨B.pg0,by rw[hp];exact B.pg1,prev,B.cls,B.lens,B.ptrs,B.slot,B.mk0,B.mk1⟩
structure zld(D:WD):Prop where
 words:AllI D.words
 muts:∀r,r∈D.muts→AllI r
 grey:AllI D.grey
structure M7(D:WD):Prop where
 form:Y5 D
 gc:zfg D
 ints:zld D
theorem FitD.intsIn{D:WD}(h:FitD D):zld D:=⟨h.words,h.muts,h.grey⟩
theorem zyz(n:Nat):∀(L:List Int) (lo:Int),L.Nodup→(∀a,a∈L→lo≤a∧a<lo+(n:Int))→L.length≤n:=by
 induction n with
 | zero =>
  intro L lo _ h
  cases L with
  | nil=>simp
  | cons a L=>have:=h a (by simp);omega
 | succ n ih =>
  intro L lo hn h
  have h1:=ih (L.erase (lo+(n:Int))) lo (hn.erase _) fun a ha=>by
   obtain⟨hne,hm⟩:=hn.mem_erase_iff.1 ha;have:=h a hm;omega
  rw[List.length_erase]at h1
  split at h1<;>omega
theorem R6.range{D:WD}(hF:Y5 D){a:Int}{k j:Nat}(h:R6 D a k j):D.base≤a∧a<D.base+384:=by
 obtain⟨s,hs,hj,hl,rfl⟩:=h;have hin:=hF.slotIn hs hj;have:=hin.bd;have:=hin.pg;omega
theorem U2.len{D:WD}(hF:Y5 D){L:List Int}(h:U2 D L):L.length≤384 :=
 zyz 384 L D.base h.1 fun a ha=>by
  obtain⟨k,j,ho,_⟩:=h.2 a ha;exact ho.range hF
theorem M7.greyLen{D:WD}(h:M7 D):D.grey.length≤384:=h.gc.1.2.len h.form
theorem U9.gc{D E:WD}{a:Int}(hF:Y5 D)(hG:zfg D)(hs:U9 D a E):zfg E:=by
 have hO:=hs.same;obtain⟨r1,r2,r3,r4,r5⟩:=hs.rest
 rcases id hs with⟨k,j,s,hph,ho,hsk,hnm,rfl⟩|⟨_,rfl⟩
 ·obtain⟨⟨g1,g2⟩,nx,sp⟩:=hG
  refine⟨⟨fun _=>hph,?_⟩,nx,fun t ht=>?_⟩
  ·have hold:U2 (G0 D a k j s) D.grey:=⟨g2.1,fun b hb=>hs.keeps hF (g2.2 b hb)⟩
   refine hold.add (hs.marked hF hph ⟨k,j,ho⟩) fun hb=>?_;obtain⟨q,i,hoq,hmq⟩:=g2.2 a hb;obtain⟨rfl,rfl⟩:=hoq.unique hF ho;exact hnm ((U4.iff hsk).1 hmq)
  ·obtain⟨q,hq⟩:=List.mem_iff_getElem?.1 ht
   rcases zli hsk hq with⟨rfl,rfl⟩|⟨_,hq⟩
   ·have hr:=sp s (List.mem_of_getElem? hsk)
    refine⟨fun hsw=>hr.1 hsw,fun _=>⟨fun e=>?_,?_⟩⟩
    ·have e':D.phase=0:=e
     omega
    ·show s.swept=false
     cases hsw:s.swept
     ·rfl
     ·have:=hr.1 hsw
      omega
   ·exact sp t (List.mem_of_getElem? hq)
 ·exact hG
theorem U9.ints{D E:WD}{a:Int}(ha:I64 a)(hI:zld D)(hs:U9 D a E):zld E:=by
 rcases hs with⟨k,j,s,_,_,_,_,rfl⟩|⟨_,rfl⟩
 ·exact⟨hI.words,hI.muts,fun x hx=>(List.mem_append.1 hx).elim (hI.grey x) fun h=>by rw[List.mem_singleton.1 h];exact ha⟩
 ·exact hI
theorem U9.going{D E:WD}{a:Int}(ha:I64 a)(h:M7 D)(hs:U9 D a E):M7 E:=⟨hs.form h.form,hs.gc h.form h.gc,hs.ints ha h.ints⟩
theorem MarksAt{D:WD}(hF:Y5 D){k:Nat}{t:Y7}(h:D.spans[k]?=some t):0≤t.mark∧t.mark<2^t.lens.length∧∀i,i<t.lens.length→t.lens[i]?.getD 0=0→¬bitI t.mark i :=
 ⟨(hF.span k t h).mk0,(hF.span k t h).mk1,fun i hi hz=>((hF.span k t h).slot i hi).bit hz⟩
theorem bit_zero(i:Nat):¬bitI 0 i:=by unfold bitI;simp
theorem M1.going{D:WD}(h:M1 D)(hf:FitD D):M7 D:=⟨h.1,h.2.1,hf.intsIn⟩
theorem sum_le{α:Type}(f:α→Nat)(b:Nat)(L:List α)(h:∀x,x∈L→f x≤b):(L.map f).sum≤L.length*b:=by
 induction L with
 | nil=>simp
 | cons x L ih =>
  have h1:=h x (by simp);have h2:=ih fun y hy=>h y (List.mem_cons_of_mem _ hy);simp only[List.map_cons,List.sum_cons,List.length_cons,Nat.succ_mul];omega
theorem M7.bulk{D:WD}(h:M7 D):D.bulk≤5000∧D.spans.length≤12:=by
 have hF:=h.form;have hg:=h.greyLen;obtain⟨_,_,_,_,p12,_,m3⟩:=hF.geo;have h1:=hF.words;have h2:=hF.dirty;have h3:=hF.spans
 have h4:zft D.spans≤D.spans.length*32:=sum_le _ 32 _ fun s hs=>by
  obtain⟨k,hk⟩:=List.mem_iff_getElem?.1 hs;have A:=hF.span k s hk;have b1:=A.lens;have b2:=A.ptrs;have b3:=(zfj s.cls).2;unfold Y7.bulk;omega
 have h5:zdy D.muts≤D.muts.length*6:=sum_le _ 6 _ fun r hr=>by
  obtain⟨k,hk⟩:=List.mem_iff_getElem?.1 hr;have:=hF.roots k r hk;omega
 unfold WD.bulk;omega
theorem M7.markable{D:WD}(h:M7 D):zjs D:=by
 have:=h.bulk;exact⟨by omega⟩
end Go.Proofs.YtjjamgeoompbkaaGreat
