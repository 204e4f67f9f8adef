import Derived.Test.YtilkidaihbhfpaaGreatTsQ
import Derived.Test.YtilkidaihbhfpaaGreatTsF2
import Derived.Test.YtilkidaihbhfpaaGreatTsV

set_option maxRecDepth 100000
set_option maxHeartbeats 16000000
namespace Go.Proofs.YtilkidaihbhfpaaGreat
open Go.RowKit
set_option linter.unusedVariables false
theorem zyl {m:Int} {j:Nat} (h0:0≤m) (h1:m≤9223372036854775807) (hj:j≤16):∃ n r:Nat,m=(n:Int)∧bits .or .i64 m ((2:Int) ^ j)=(r:Int)∧(∀ i,r.testBit i=(n.testBit i || decide (j=i)))∧(∀ k,n<2 ^ k→j<k→r<2 ^ k):=by
 obtain ⟨n,rfl⟩:=Int.eq_ofNat_of_zero_le h0
 have h2:=zod hj
 have e:((2:Int) ^ j)=((2 ^ j:Nat):Int):=by simp
 have hor:n ||| 2 ^ j<2 ^ 63:=Nat.or_lt_two_pow (by omega) (Nat.pow_lt_pow_right (by omega) (by omega))
 refine ⟨n,n ||| 2 ^ j,rfl,?_,fun i=>by rw [Nat.testBit_or,Nat.testBit_two_pow],fun k hn hjk=>Nat.or_lt_two_pow hn (Nat.pow_lt_pow_right (by omega) hjk)⟩
 rw [e]
 show IntKind.i64.wrap ((BitVec.ofInt 64 (n:Int) ||| BitVec.ofInt 64 ((2 ^ j:Nat):Int)).toNat:Nat)=_
 rw [BitVec.toNat_or,N6 _ (by omega),N6 _ (by omega),IntKind.wrap_i64]
 omega
theorem zzm {m:Int} {j:Nat} (h0:0≤m) (h1:m≤9223372036854775807) (hj:j≤16) (i:Nat):bitI (bits .or .i64 m ((2:Int) ^ j)) i↔bitI m i∨i=j:=by
 obtain ⟨n,r,rfl,e,hb,_⟩:=zyl h0 h1 hj
 rw [e,zgj,zgj,hb]
 simp only [Bool.or_eq_true,decide_eq_true_eq]
 exact ⟨fun h=>h.imp id Eq.symm,fun h=>h.imp id Eq.symm⟩
structure znz (s t:Y3):Prop where
 page:t.page=s.page
 cls:t.cls=s.cls
 lens:t.lens=s.lens
 ptrs:t.ptrs=s.ptrs
structure L2 (D E:WD):Prop where
 base:E.base=D.base
 words:E.words=D.words
 len:E.spans.length=D.spans.length
 span:∀ (k:Nat) (s t:Y3),D.spans[k]?=some s→E.spans[k]?=some t→znz s t
theorem znz.refl (s:Y3):znz s s:=⟨rfl,rfl,rfl,rfl⟩
theorem znz.symm {s t:Y3} (h:znz s t):znz t s:=⟨h.page.symm,h.cls.symm,h.lens.symm,h.ptrs.symm⟩
theorem L2.refl (D:WD):L2 D D:=⟨rfl,rfl,rfl,fun k s t h1 h2=>by rw [h1] at h2;cases h2;exact .refl _⟩
theorem L2.symm {D E:WD} (h:L2 D E):L2 E D:=⟨h.base.symm,h.words.symm,h.len.symm,fun k s t h1 h2=>(h.span k t s h2 h1).symm⟩
theorem L2.at_ {D E:WD} (h:L2 D E) {k:Nat} {s:Y3} (hs:D.spans[k]?=some s):∃ t,E.spans[k]?=some t∧znz s t:=by
 have hl:=(List.getElem?_eq_some_iff.1 hs).1
 have e:E.spans[k]?=some (E.spans[k]'(by rw [h.len];exact hl)):=List.getElem?_eq_getElem _
 exact ⟨_,e,h.span k s _ hs e⟩
theorem L2.trans {D E F:WD} (h:L2 D E) (g:L2 E F):L2 D F :=
 ⟨g.base.trans h.base,g.words.trans h.words,g.len.trans h.len,fun k s t h1 h2=>by
  obtain ⟨u,hu,hs⟩:=h.at_ h1
  have:=g.span k u t hu h2
  exact ⟨this.page.trans hs.page,this.cls.trans hs.cls,this.lens.trans hs.lens,this.ptrs.trans hs.ptrs⟩⟩
theorem zmw {s t:Y3} (h:znz s t) (j:Int):atW t j=atW s j:=by unfold atW;rw [h.page,h.cls]
theorem L2.obj {D E:WD} (h:L2 D E) {a:Int} {k j:Nat} (ho:U3 D a k j):U3 E a k j:=by
 obtain ⟨s,hs,hj,hl,ha⟩:=ho
 obtain ⟨t,ht,hst⟩:=h.at_ hs
 exact ⟨t,ht,by rw [hst.lens];exact hj,by rw [hst.lens];exact hl,by rw [h.base,zmw hst];exact ha⟩
theorem L2.obj_iff {D E:WD} (h:L2 D E) {a:Int} {k j:Nat}:U3 E a k j↔U3 D a k j:=⟨h.symm.obj,h.obj⟩
theorem L2.has {D E:WD} (h:L2 D E) {a:Int}:R7 E a↔R7 D a:=⟨fun ⟨k,j,ho⟩=>⟨k,j,h.symm.obj ho⟩,fun ⟨k,j,ho⟩=>⟨k,j,h.obj ho⟩⟩
theorem L2.ptrs {D E:WD} (h:L2 D E) {s t:Y3} (hst:znz s t) (j:Nat):ptrW E t j=ptrW D s j:=by unfold ptrW;rw [h.words,zmw hst,hst.ptrs]
inductive zgn (D:WD) (Z:List Int):Int→Prop
 | grey {b:Int}:zrn D D.grey b→R7 D b→zgn D Z b
 | more {b:Int}:b ∈ Z→R7 D b→zgn D Z b
 | step {a b:Int}:zgn D Z a→zzt D (fun k j=>¬ V2 D k j) a b→R7 D b→zgn D Z b
theorem zgn.of {D:WD} {a:Int} (h:zfa D a) (Z:List Int):zgn D Z a:=by
 induction h with
 | start h1 h2=>exact .grey h1 h2
 | step h1 h2 h3 ih=>exact .step ih h2 h3
theorem zgn.to {D:WD} {a:Int} (h:zgn D [] a):zfa D a:=by
 induction h with
 | grey h1 h2=>exact .start h1 h2
 | more h1 h2=>simp at h1
 | step h1 h2 h3 ih=>exact .step ih h2 h3
def zkf (D:WD) (Z:List Int) (a:Int):Prop:=a=0∨zgn D Z a∨V7 D a
theorem zkf.iff {D:WD} {a:Int}:zkf D [] a↔Kept D a:=⟨fun h=>h.imp id (Or.imp zgn.to id),fun h=>h.imp id (Or.imp (fun h=>zgn.of h []) id)⟩
theorem zkf.more {D:WD} {Z Y:List Int} {a:Int} (h:zkf D Z a) (hZ:∀ b,b ∈ Z→b ∈ Y):zkf D Y a:=by
 refine h.imp id (Or.imp (fun hc=>?_) id)
 induction hc with
 | grey h1 h2=>exact .grey h1 h2
 | more h1 h2=>exact .more (hZ _ h1) h2
 | step h1 h2 h3 ih=>exact .step (ih (.inr (.inl h1))) h2 h3
def N9 (D:WD) (a:Int) (k j:Nat) (s:Y3):WD:={ D with spans:=D.spans.set k { s with mark:=bits .or .i64 s.mark ((2:Int) ^ j) },grey:=D.grey ++ [a] }
def V1 (D:WD) (a:Int) (E:WD):Prop :=
 (∃ k j s,(D.phase=1∨D.phase=2)∧U3 D a k j∧D.spans[k]?=some s∧¬ bitI s.mark j∧E=N9 D a k j s) ∨
 ((D.phase=1∨D.phase=2→∀ k j,U3 D a k j→V2 D k j)∧E=D)
theorem zvd {D:WD} {a:Int} {k j:Nat} {s:Y3} (hs:D.spans[k]?=some s):L2 D (N9 D a k j s):=by
 refine ⟨rfl,rfl,by simp [N9],fun q t u h1 h2=>?_⟩
 by_cases e:q=k
 ·subst e
  rw [hs] at h1
  cases h1
  have hl:=(List.getElem?_eq_some_iff.1 hs).1
  simp [N9,hl] at h2
  subst h2
  exact ⟨rfl,rfl,rfl,rfl⟩
 ·simp only [N9] at h2
  rw [List.getElem?_set_ne (fun h=>e h.symm),h1] at h2
  cases h2
  exact .refl _
theorem V1.same {D E:WD} {a:Int} (h:V1 D a E):L2 D E:=by
 rcases h with ⟨k,j,s,_,_,hs,_,rfl⟩ | ⟨_,rfl⟩
 ·exact zvd hs
 ·exact .refl _
theorem zek {D:WD} (hF:Z8 D) {k j:Nat} {s:Y3} (hs:D.spans[k]?=some s) (hj:j<s.lens.length):0≤s.mark∧s.mark≤9223372036854775807∧j≤16:=by
 have A:=hF.span k s hs
 have h1:=A.lens
 have h2:=(E7 s.cls).2
 have h3:=A.mk1
 have h4:=zod (k:=s.lens.length) (by omega)
 have e:((2:Int) ^ s.lens.length)=((2 ^ s.lens.length:Nat):Int):=by simp
 rw [e] at h3
 exact ⟨A.mk0,by omega,by omega⟩
theorem zgq {D:WD} (hF:Z8 D) {a:Int} {k j:Nat} {s:Y3} (hs:D.spans[k]?=some s) (hj:j<s.lens.length) {q i:Nat}:V2 (N9 D a k j s) q i↔V2 D q i∨(q=k∧i=j):=by
 obtain ⟨m0,m1,j16⟩:=zek hF hs hj
 have hl:=(List.getElem?_eq_some_iff.1 hs).1
 by_cases e:q=k
 ·subst e
  have h1:(N9 D a q j s).spans[q]?=some { s with mark:=bits .or .i64 s.mark ((2:Int) ^ j) }:=by simp [N9,hl]
  rw [V2.iff h1,V2.iff hs,zzm m0 m1 j16]
  simp
 ·have h1:(N9 D a k j s).spans[q]?=D.spans[q]?:=by simp only [N9];rw [List.getElem?_set_ne (fun h=>e h.symm)]
  unfold V2
  rw [h1]
  simp [e]
theorem V1.kept {D E:WD} {b:Int} {Z:List Int} (hF:Z8 D) (hph:D.phase=1∨D.phase=2) (h:V1 D b E) {a:Int} (hk:zkf D (b :: Z) a):zkf E Z a:=by
 have hO:=h.same
 rcases h with ⟨k,j,s,_,ho,hs,hnm,rfl⟩ | ⟨hm,rfl⟩
 ·have hj:j<s.lens.length:=by obtain ⟨t,ht,hj,_⟩:=ho;rw [hs] at ht;cases ht;exact hj
  have hmk:∀ {q i},V2 (N9 D b k j s) q i↔V2 D q i∨(q=k∧i=j):=zgq hF hs hj
  have hob:V7 (N9 D b k j s) b:=⟨k,j,hO.obj ho,hmk.2 (.inr ⟨rfl,rfl⟩)⟩
  rcases hk with rfl | hc | ⟨q,i,hoq,hmq⟩
  ·exact .inl rfl
  ·right
   have lead:∀ {x y:Int} {q i:Nat} {t:Y3},U3 D x q i→D.spans[q]?=some t→y ∈ ptrW D t i→∃ t',(N9 D b k j s).spans[q]?=some t'∧y ∈ ptrW (N9 D b k j s) t' i:=fun hx ht hy=>by
    obtain ⟨t',ht',hst⟩:=hO.at_ ht
    exact ⟨t',ht',by rw [hO.ptrs hst];exact hy⟩
   induction hc with
   | grey h1 h2 =>
    obtain ⟨x,q,i,t,hx,hxo,ht,hy⟩:=h1
    obtain ⟨t',ht',hy'⟩:=lead hxo ht hy
    exact .inl (.grey ⟨x,q,i,t',List.mem_append.2 (.inl hx),hO.obj hxo,ht',hy'⟩ (hO.has.2 h2))
   | more h1 h2 =>
    rcases List.mem_cons.1 h1 with rfl | h1
    ·exact .inr hob
    ·exact .inl (.more h1 (hO.has.2 h2))
   | step h1 h2 h3 ih =>
    rename_i x y
    obtain ⟨q,i,t,hxo,ht,hnq,hy⟩:=h2
    obtain ⟨t',ht',hy'⟩:=lead hxo ht hy
    by_cases e:q=k∧i=j
    ·obtain ⟨rfl,rfl⟩:=e
     have hxb:x=b:=by
      obtain ⟨u,hu,_,_,e1⟩:=hxo
      obtain ⟨u',hu',_,_,e2⟩:=ho
      rw [hu] at hu'
      cases hu'
      omega
     subst hxb
     exact .inl (.grey ⟨x,q,i,t',by simp [N9],hO.obj hxo,ht',hy'⟩ (hO.has.2 h3))
    ·rcases ih with hc | ⟨q',i',ho',hm'⟩
     ·exact .inl (.step hc ⟨q,i,t',hO.obj hxo,ht',fun hm=>(hmk.1 hm).elim hnq e,hy'⟩ (hO.has.2 h3))
     ·obtain ⟨rfl,rfl⟩:=(hO.symm.obj ho').unique hF hxo
      exact absurd (hmk.1 hm') (fun h=>h.elim hnq e)
  ·exact .inr (.inr ⟨q,i,hO.obj hoq,hmk.2 (.inl hmq)⟩)
 ·have hb:∀ q i,U3 E b q i→V2 E q i:=hm hph
  rcases hk with rfl | hc | hmo
  ·exact .inl rfl
  ·right
   induction hc with
   | grey h1 h2=>exact .inl (.grey h1 h2)
   | more h1 h2 =>
    rcases List.mem_cons.1 h1 with rfl | h1
    ·obtain ⟨q,i,ho⟩:=h2
     exact .inr ⟨q,i,ho,hb q i ho⟩
    ·exact .inl (.more h1 h2)
   | step h1 h2 h3 ih =>
    rcases ih with hc | ⟨q',i',ho',hm'⟩
    ·exact .inl (.step hc h2 h3)
    ·obtain ⟨q,i,t,hxo,ht,hnq,hy⟩:=h2
     obtain ⟨rfl,rfl⟩:=ho'.unique hF hxo
     exact absurd hm' hnq
  ·exact .inr (.inr hmo)
theorem V1.marked {D E:WD} {b:Int} (hF:Z8 D) (hph:D.phase=1∨D.phase=2) (h:V1 D b E) (hb:R7 D b):V7 E b:=by
 have hO:=h.same
 rcases h with ⟨k,j,s,_,ho,hs,hnm,rfl⟩ | ⟨hm,rfl⟩
 ·have hj:j<s.lens.length:=by obtain ⟨t,ht,hj,_⟩:=ho;rw [hs] at ht;cases ht;exact hj
  exact ⟨k,j,hO.obj ho,(zgq hF hs hj).2 (.inr ⟨rfl,rfl⟩)⟩
 ·obtain ⟨q,i,ho⟩:=hb
  exact ⟨q,i,ho,hm hph q i ho⟩
theorem V1.keeps {D E:WD} {b:Int} (hF:Z8 D) (h:V1 D b E) {a:Int} (ha:V7 D a):V7 E a:=by
 have hO:=h.same
 rcases h with ⟨k,j,s,_,ho,hs,hnm,rfl⟩ | ⟨hm,rfl⟩
 ·have hj:j<s.lens.length:=by obtain ⟨t,ht,hj,_⟩:=ho;rw [hs] at ht;cases ht;exact hj
  obtain ⟨q,i,hoq,hmq⟩:=ha
  exact ⟨q,i,hO.obj hoq,(zgq hF hs hj).2 (.inl hmq)⟩
 ·exact ha
theorem L2.inSlot {s t:Y3} (h:znz s t) {j n x:Nat}:zlg t j n x↔zlg s j n x:=by unfold zlg;rw [zmw h]
theorem L2.inSlots {s t:Y3} (h:znz s t) {j x:Nat}:F7 t j x↔F7 s j x:=by
 unfold F7
 rw [h.lens]
 exact ⟨fun ⟨j',h1,h2⟩=>⟨j',h1,(L2.inSlot h).1 h2⟩,fun ⟨j',h1,h2⟩=>⟨j',h1,(L2.inSlot h).2 h2⟩⟩
theorem L2.used {D E:WD} (h:L2 D E) {x:Nat} (hu:Used D x):Used E x:=by
 obtain ⟨k,s,hk,hs,hx⟩:=hu
 obtain ⟨t,ht,hst⟩:=h.at_ hs
 exact ⟨k,t,by rw [h.len];exact hk,ht,by rw [hst.lens];exact (L2.inSlots hst).2 hx⟩
theorem L2.form {D E:WD} (h:L2 D E) (hF:Z8 D) (hp:E.pages=D.pages) (hd:E.dirty.length=D.dirty.length) (hmu:E.muts=D.muts) (p0:0≤E.phase) (p1:E.phase≤4)
  (hm:∀ (k:Nat) (s t:Y3),D.spans[k]?=some s→E.spans[k]?=some t→0≤t.mark∧t.mark<2 ^ t.lens.length∧∀ i,i<t.lens.length→t.lens[i]?.getD 0=0→¬ bitI t.mark i):Z8 E:=by
 refine ⟨by rw [h.base,hp,hmu];exact hF.geo,by rw [h.words,hp];exact hF.words,by rw [hd,hp];exact hF.dirty,by rw [h.len,hp];exact hF.spans,p0,p1,fun k t ht=>?_,fun i hi hu=>?_,by rw [hmu];exact hF.roots⟩
 ·obtain ⟨s,hs,hts⟩:=h.symm.at_ ht
  have hst:=hts.symm
  have A:=hF.span k s hs
  obtain ⟨m0,m1,mb⟩:=hm k s t hs ht
  refine ⟨by rw [hst.page];exact A.pg0,by rw [hst.page,hp];exact A.pg1,fun t' hk ht'=>?_,by rw [hst.cls];exact A.cls,by rw [hst.lens,hst.cls];exact A.lens,by rw [hst.ptrs,hst.cls];exact A.ptrs,fun i hi=>?_,m0,m1⟩
  ·obtain ⟨s',hs',hts'⟩:=h.symm.at_ ht'
   have:=A.prev s' hk hs'
   rw [hst.page,hts'.symm.page]
   exact this
  ·have S:=A.slot i (by rw [← hst.lens];exact hi)
   exact ⟨by rw [hst.lens];exact S.l0,by rw [hst.lens,hst.cls];exact S.l1,by rw [hst.ptrs];exact S.p0,by rw [hst.ptrs,hst.lens];exact S.p1,fun hz=>mb i hi hz⟩
 ·rw [h.words] at hi ⊢
  exact hF.zero i hi fun hu'=>hu (h.used hu')
theorem V1.rest {D E:WD} {a:Int} (h:V1 D a E):E.pages=D.pages∧E.dirty=D.dirty∧E.muts=D.muts∧E.phase=D.phase∧E.next=D.next:=by
 rcases h with ⟨k,j,s,_,_,_,_,rfl⟩ | ⟨_,rfl⟩
 ·exact ⟨rfl,rfl,rfl,rfl,rfl⟩
 ·exact ⟨rfl,rfl,rfl,rfl,rfl⟩
theorem V1.form {D E:WD} {a:Int} (hF:Z8 D) (h:V1 D a E):Z8 E:=by
 have hO:=h.same
 have hR:=h.rest
 refine hO.form hF hR.1 (by rw [hR.2.1]) hR.2.2.1 (by rw [hR.2.2.2.1];exact hF.ph0) (by rw [hR.2.2.2.1];exact hF.ph1) fun q t u h1 h2=>?_
 have A:=hF.span q t h1
 have old:u=t→0≤u.mark∧u.mark<2 ^ u.lens.length∧∀ i,i<u.lens.length→u.lens[i]?.getD 0=0→¬ bitI u.mark i:=by
  rintro rfl
  exact ⟨A.mk0,A.mk1,fun i hi hz=>(A.slot i hi).bit hz⟩
 rcases h with ⟨k,j,s,_,ho,hs,hnm,rfl⟩ | ⟨_,rfl⟩
 ·by_cases e:q=k
  ·subst e
   rw [hs] at h1
   cases h1
   obtain ⟨s',hs',hj,hl,_⟩:=ho
   rw [hs] at hs'
   cases hs'
   have hlen:=(List.getElem?_eq_some_iff.1 hs).1
   obtain ⟨m0,m1,j16⟩:=zek hF hs hj
   obtain ⟨n,r,e1,e2,_,hlt⟩:=zyl m0 m1 j16
   have hu:u={ t with mark:=bits .or .i64 t.mark ((2:Int) ^ j) }:=by
    simp [N9,hlen] at h2
    exact h2.symm
   subst hu
   have e3:((2:Int) ^ t.lens.length)=((2 ^ t.lens.length:Nat):Int):=by simp
   have hm1:=A.mk1
   refine ⟨by show 0≤bits .or .i64 t.mark ((2:Int) ^ j);omega,?_,fun i hi hz hb=>?_⟩
   ·show bits .or .i64 t.mark ((2:Int) ^ j)<2 ^ t.lens.length
    have:=hlt t.lens.length (by omega) hj
    rw [e2,e3]
    omega
   ·rcases (zzm m0 m1 j16 i).1 hb with hb | rfl
    ·exact (A.slot i hi).bit hz hb
    ·have hz':t.lens[i]?.getD 0=0:=hz
     omega
  ·simp only [N9] at h2
   rw [List.getElem?_set_ne (fun h=>e h.symm),h1] at h2
   cases h2
   exact old rfl
 ·rw [h1] at h2
  cases h2
  exact old rfl
structure Mid (D:WD) (Z:List Int):Prop where
 form:Z8 D
 ph:D.phase=1∨D.phase=2
 roots:∀ r,r ∈ D.muts→∀ a,a ∈ r→a=0∨R7 D a
 ptrs:∀ a k j s,U3 D a k j→D.spans[k]?=some s→∀ b,b ∈ ptrW D s j→b=0∨R7 D b
 span:∀ s,s ∈ D.spans→L8 D s
 next:J0 D
 grey:Y8 D D.grey
 seen:∀ (m:Nat) (r:List Int),D.muts[m]?=some r→N8 D m→∀ a,a ∈ r→zkf D Z a
 kept:∀ a k j s,U3 D a k j→D.spans[k]?=some s→V2 D k j→∀ b,b ∈ ptrW D s j→zkf D Z b
theorem Y8.add {D:WD} {L:List Int} {x:Int} (h:Y8 D L) (hm:V7 D x) (hx:x ∉ L):Y8 D (L ++ [x]) :=
 ⟨List.nodup_append.2 ⟨h.1,by simp,fun a ha b hb=>by obtain rfl:=List.mem_singleton.1 hb;exact fun e=>hx (e ▸ ha)⟩,fun a ha=>(List.mem_append.1 ha).elim (h.2 a) fun hb=>by rw [List.mem_singleton.1 hb];exact hm⟩
theorem Mid.shade {D E:WD} {b:Int} {Z:List Int} (h:Mid D (b :: Z)) (hs:V1 D b E):Mid E Z:=by
 have hO:=hs.same
 obtain ⟨r1,r2,r3,r4,r5⟩:=hs.rest
 have hE:=hs.form h.form
 have hptr:∀ a k j s,U3 E a k j→E.spans[k]?=some s→∀ b,b ∈ ptrW E s j→b=0∨R7 E b:=fun a k j t ho ht b hb=>by
  obtain ⟨s,hs,hts⟩:=hO.symm.at_ ht
  rw [hO.ptrs hts.symm] at hb
  exact (h.ptrs a k j s (hO.symm.obj ho) hs b hb).imp id hO.has.2
 refine ⟨hE,by rw [r4];exact h.ph,by rw [r3];exact fun r hr a ha=>(h.roots r hr a ha).imp id hO.has.2,hptr,fun t ht=>?_,?_,?_,?_,fun a k j t ho ht hm c hc=>?_⟩
 ·obtain ⟨q,hq⟩:=List.mem_iff_getElem?.1 ht
  rcases hs with ⟨k,j,s,hph,ho,hsk,hnm,rfl⟩ | ⟨_,rfl⟩
  ·by_cases e:q=k
   ·subst e
    have hl:=(List.getElem?_eq_some_iff.1 hsk).1
    simp [N9,hl] at hq
    subst hq
    have hr:=h.span s (List.mem_of_getElem? hsk)
    refine ⟨fun hsw=>hr.1 hsw,fun _=>⟨fun e=>?_,?_⟩⟩
    ·have e':D.phase=0:=e
     omega
    ·show s.swept=false
     cases hsw:s.swept
     ·rfl
     ·have:=hr.1 hsw
      omega
   ·simp only [N9] at hq
    rw [List.getElem?_set_ne (fun h=>e h.symm)] at hq
    exact h.span t (List.mem_of_getElem? hq)
  ·exact h.span t ht
 ·unfold J0
  rw [r5,r3,r4]
  exact h.next
 ·have hold:Y8 E D.grey:=⟨h.grey.1,fun a ha=>hs.keeps h.form (h.grey.2 a ha)⟩
  rcases id hs with ⟨k,j,s,hph,ho,hsk,hnm,rfl⟩ | ⟨_,rfl⟩
  ·refine hold.add (hs.marked h.form h.ph ⟨k,j,ho⟩) fun hb=>?_
   obtain ⟨q,i,hoq,hmq⟩:=h.grey.2 b hb
   obtain ⟨rfl,rfl⟩:=hoq.unique h.form ho
   exact hnm ((V2.iff hsk).1 hmq)
  ·exact hold
 ·intro m r hr hsn a ha
  rw [r3] at hr
  exact hs.kept h.form h.ph (h.seen m r hr (by unfold N8 at hsn ⊢;rw [r4,r5] at hsn;exact hsn) a ha)
 ·obtain ⟨s,hsk,hts⟩:=hO.symm.at_ ht
  have hcD:c ∈ ptrW D s j:=by rw [hO.ptrs hts.symm] at hc;exact hc
  by_cases hmD:V2 D k j
  ·exact hs.kept h.form h.ph (h.kept a k j s (hO.symm.obj ho) hsk hmD c hcD)
  ·rcases hptr a k j t ho ht c hc with rfl | hob
   ·exact .inl rfl
   ·right;left
    rcases id hs with ⟨k',j',s',hph,ho',hs',hnm,rfl⟩ | ⟨_,rfl⟩
    ·have hj:j'<s'.lens.length:=by obtain ⟨u,hu,hj,_⟩:=ho';rw [hs'] at hu;cases hu;exact hj
     rcases (zgq h.form hs' hj).1 hm with hm | ⟨rfl,rfl⟩
     ·exact absurd hm hmD
     ·have hab:a=b:=by
       obtain ⟨u,hu,_,_,e1⟩:=hO.symm.obj ho
       obtain ⟨u',hu',_,_,e2⟩:=ho'
       rw [hu] at hu'
       cases hu'
       omega
      subst hab
      exact .grey ⟨a,k,j,t,by simp [N9],ho,ht,hc⟩ hob
    ·exact absurd hm hmD
inductive Q7:WD→List Int→WD→Prop
 | nil (D:WD):Q7 D [] D
 | cons {D E F:WD} {a:Int} {L:List Int}:V1 D a E→Q7 E L F→Q7 D (a :: L) F
theorem Mid.shades {D E:WD} {L Z:List Int} (h:Mid D (L ++ Z)) (hs:Q7 D L E):Mid E Z:=by
 induction hs with
 | nil D=>exact h
 | cons h1 h2 ih=>exact ih (h.shade h1)
theorem V1.unique {D:WD} {a:Int} {E F:WD} (hF:Z8 D) (h:V1 D a E) (g:V1 D a F):F=E:=by
 rcases h with ⟨k,j,s,hp,ho,hs,hb,rfl⟩ | ⟨hn,rfl⟩ <;> rcases g with ⟨k',j',s',hp',ho',hs',hb',rfl⟩ | ⟨hn',rfl⟩
 ·obtain ⟨rfl,rfl⟩:=ho.unique hF ho'
  rw [hs] at hs'
  cases hs'
  rfl
 ·exact absurd ((V2.iff hs).1 (hn' hp k j ho)) hb
 ·exact absurd ((V2.iff hs').1 (hn hp' k' j' ho')) hb'
 ·rfl
theorem zrq {w:World} {base:Nat} {v:Value} {L:List Int} {o:Oper} {a:Act} {K:Act→World→Prop} {Q:Exit→Act→World→Prop} (s x:Operand)
  (ho:o.op=.call { callee:=.builtin .append,args:=#[s,x],argTypes:=#[23,23] })
  (hs:a.eval s=v) (hown:w.ownsRow base 3 1 v L.length (L.map (Value.int .i64))) (ad:Addr) (m c:Nat) (R:List Int) (hx:a.eval x=.slice (some ad) m c) (hm:R.length=m) (hr:N1 w (some ad) m 1 (R.map (Value.int .i64)))
  (h63:L.length+m≤16777216) (hbase:base≤w.heap.size)
  (h:∀ v' w',w'.ownsRow base 3 1 v' (L ++ R).length ((L ++ R).map (Value.int .i64))→w.grownBy w' v.ownBlock→(∀ q,v'.ownBlock=some q→v.ownBlock=some q∨w.heap.size≤q)→K (a.put o.dst v') w'):o.wp Tryz.prog a w K Q:=by
 obtain ⟨i,hi,hz,hsize,hby⟩:=info_parts E9
 have ht:Tryz.prog.underlying 23=some (.slice 3):=Tryz.underlying23
 obtain ⟨v',w',hrun,h2,h3,h4⟩:=OwnQ.run_app o.type (OwnQ.of_row hown) (some ad) m c R hm hr h63 hbase
 obtain ⟨v2,w2,hrun2,g2,g3,_⟩:=run_append_own (P:=Tryz.prog) (w:=w) base 23 o.type 3 i (.int .i64 0) 1 8 ht hi hz hsize hby rfl (by decide) v L.length _ hown ad m c (R.map (Value.int .i64)) (by simpa using hm)
  (fun j u hu=>by obtain ⟨b,e,hc⟩:=hr.at_ j u hu;cases e;exact hc) hr.one (by unfold maxLen;omega) (by omega) hbase
 rw [hrun] at hrun2
 cases hrun2
 unfold Oper.wp execOp
 simp only [ho,resolve,invoke,builtin,Sem.run_bind,Sem.run_pure,Result.andThen_ok,List.map_toArray,List.map_cons,List.map_nil,hs,hx,hrun]
 refine h v' w' ?_ h3 fun q hq=>?_
 ·rw [List.length_append,List.map_append,hm]
  exact g2
 ·rcases h4 with e | e
  ·left;rw [← e];exact hq
  ·right;exact (e.lt q hq).1
theorem zrs {w:World} {base:Nat} {v:Value} {L:List Int} {ops:Array Oper} {rest:List Oper} {o:Oper} {a:Act} {Q:Exit→Act→World→Prop} (hgd:o.guard=none) (s x:Operand)
  (ho:o.op=.call { callee:=.builtin .append,args:=#[s,x],argTypes:=#[23,23] })
  (hs:a.eval s=v) (hown:w.ownsRow base 3 1 v L.length (L.map (Value.int .i64))) (ad:Addr) (m c:Nat) (R:List Int) (hx:a.eval x=.slice (some ad) m c) (hm:R.length=m) (hr:N1 w (some ad) m 1 (R.map (Value.int .i64)))
  (h63:L.length+m≤16777216) (hbase:base≤w.heap.size)
  (h:∀ v' w',w'.ownsRow base 3 1 v' (L ++ R).length ((L ++ R).map (Value.int .i64))→w.grownBy w' v.ownBlock→(∀ q,v'.ownBlock=some q→v.ownBlock=some q∨w.heap.size≤q)→wpList Tryz.prog ops Q rest (a.put o.dst v') w'):wpList Tryz.prog ops Q (o :: rest) a w :=
 wpList_plain hgd fun _ hK=>zrq s x ho hs hown ad m c R hx hm hr h63 hbase fun v' w' h1 h2 h3=>hK _ _ (h v' w' h1 h2 h3)
section
variable {w w':World} {base B:Nat} {S:Y2} {D:WD}
theorem VarW.grow (h:VarW w base B S D) (g:w.grownBy w' S.vg.ownBlock) {v:Value} {L:List Int} (r:w'.ownsRow base 3 1 v L.length (L.map (Value.int .i64))) (f:∀ q,v.ownBlock=some q→S.vg.ownBlock=some q∨w.heap.size≤q) :
  VarW (w'.setCell ⟨B,8,none⟩ v) base B { S with vg:=v } { D with grey:=L }∧Below base w (w'.setCell ⟨B,8,none⟩ v):=by
 have c1:Chg (blks [S.vg]) w w':=Chg.of_grown g fun x hx=>List.mem_filterMap.2 ⟨S.vg,by simp,hx⟩
 have c2:=Chg.of_grown (V5 w' B 8 v) (bs:=[B]) (by simp)
 have P:=h.own.parts
 have hb:=h.keep c1 (zgg (by simp [Y2.all]))
 have hbel:=h.bel c1 (zgg (by simp [Y2.all]))
 have hm:∀ x,x ∈ S.all→∀ q,x.ownBlock=some q→q ∉ [B]:=fun x hx q hq hm=>h.ne (List.mem_filterMap.2 ⟨x,hx,by rw [hq,List.mem_singleton.1 hm]⟩)
 have hvB:v.ownBlock≠some B:=fun e=>by
  rcases f B e with e | e
  ·exact h.ne (List.mem_filterMap.2 ⟨S.vg,by simp [Y2.all],e⟩)
  ·have:=h.lt
   omega
 have hn0:=h.own.nodup
 rw [show S.ints=(S.vw :: X7 S.sv ++ S.mv) ++ [S.vg] from rfl,List.filterMap_append] at hn0
 have h1:=List.nodup_append.1 hn0
 have hn:(({ S with vg:=v }:Y2).ints.filterMap Value.ownBlock).Nodup:=by
  rw [show ({ S with vg:=v }:Y2).ints=(S.vw :: X7 S.sv ++ S.mv) ++ [v] from rfl,List.filterMap_append]
  refine List.nodup_append.2 ⟨h1.1,?_,?_⟩
  ·cases e:v.ownBlock <;> simp [e]
  ·intro a ha b hb
   obtain ⟨y,hy,hyb⟩:=List.mem_filterMap.1 hb
   obtain rfl:=List.mem_singleton.1 hy
   rintro rfl
   rcases f a hyb with hf | hf
   ·exact h1.2.2 a ha a (by simp [hf]) rfl
   ·obtain ⟨y',hy',hyb'⟩:=List.mem_filterMap.1 ha
    have hal:y' ∈ S.all:=by
     simp only [List.mem_append,List.mem_cons] at hy'
     rcases hy' with (rfl | hy') | hy' <;> simp [Y2.all, *]
    have:=(h.own.lt a (List.mem_filterMap.2 ⟨y',hal,hyb'⟩)).2
    omega
 refine ⟨⟨?_,?_,h.le,?_⟩,hbel.trans ((Below.refl _ _).setCell (p:=⟨B,8,none⟩) h.le _)⟩
 ·have:=heap_setCell_same w' B 8 _ _ v hb
  simpa [Y2.cells] using this
 ·refine .mk' (X9 (X9 h.own.words c1 fun q hq=>P.d04.not_mem (by simp) hq) c2 (hm _ (by simp [Y2.all]))) (X9 (X9 h.own.dirty c1 fun q hq=>P.d14.not_mem (by simp) hq) c2 (hm _ (by simp [Y2.all])))
   ((h.own.ownS.chg c1 (fun q hq=>P.d24.not_mem (by simp) hq) (fun x hx q hq=>P.d24.not_mem (by simp [hx]) hq)).chg c2 (hm _ (by simp [Y2.all])) (fun x hx=>hm x (by simp [Y2.all,hx])))
   ((h.own.ownM.chg c1 (fun q hq=>P.d34.not_mem (by simp) hq) (fun x hx q hq=>P.d34.not_mem (by simp [hx]) hq)).chg c2 (hm _ (by simp [Y2.all])) (fun x hx=>hm x (by simp [Y2.all,hx])))
   (X9 r c2 fun q hq hm=>hvB (by rw [hq,List.mem_singleton.1 hm])) hn
 ·intro hB2
  obtain ⟨x,hx,hxB⟩:=List.mem_filterMap.1 hB2
  simp only [Y2.all,List.mem_append,List.mem_cons,List.not_mem_nil,or_false] at hx
  have old:∀ y,y ∈ S.all→y.ownBlock≠some B:=fun y hy e=>h.ne (List.mem_filterMap.2 ⟨y,hy,e⟩)
  rcases hx with (((rfl | rfl) | (rfl | hx)) | (rfl | hx)) | rfl
  ·exact old _ (by simp [Y2.all]) hxB
  ·exact old _ (by simp [Y2.all]) hxB
  ·exact old _ (by simp [Y2.all]) hxB
  ·exact old x (by simp [Y2.all,hx]) hxB
  ·exact old _ (by simp [Y2.all]) hxB
  ·exact old x (by simp [Y2.all,hx]) hxB
  ·exact hvB hxB
end
structure F6 (w w':World) (B:Nat) (S S':Y2):Prop where
 vg:∃ v,S'={ S with vg:=v }∧∀ q,v.ownBlock=some q→S.vg.ownBlock=some q∨w.heap.size≤q
 chg:Chg (B :: blks S.all) w w'
theorem F6.of_below {w w':World} (B:Nat) (S:Y2) (h:Below w.heap.size w w'):F6 w w' B S S:=⟨⟨S.vg,rfl,fun q hq=>.inl hq⟩,.of_below h _⟩
theorem Y2.all_vg {S:Y2} {v:Value} {k:Nat} (h:k ∈ blks ({ S with vg:=v }:Y2).all):k ∈ blks S.all∨v.ownBlock=some k:=by
 obtain ⟨x,hx,e⟩:=List.mem_filterMap.1 h
 simp only [Y2.all,List.mem_append,List.mem_cons,List.not_mem_nil,or_false] at hx
 rcases hx with (((rfl | rfl) | (rfl | hx)) | (rfl | hx)) | rfl
 ·exact .inl (List.mem_filterMap.2 ⟨_,by simp [Y2.all],e⟩)
 ·exact .inl (List.mem_filterMap.2 ⟨_,by simp [Y2.all],e⟩)
 ·exact .inl (List.mem_filterMap.2 ⟨_,by simp [Y2.all],e⟩)
 ·exact .inl (List.mem_filterMap.2 ⟨x,by simp [Y2.all,hx],e⟩)
 ·exact .inl (List.mem_filterMap.2 ⟨_,by simp [Y2.all],e⟩)
 ·exact .inl (List.mem_filterMap.2 ⟨x,by simp [Y2.all,hx],e⟩)
 ·exact .inr e
theorem F6.trans {w w1 w2:World} {B:Nat} {S T U:Y2} (h:F6 w w1 B S T) (g:F6 w1 w2 B T U):F6 w w2 B S U:=by
 obtain ⟨v,rfl,hv⟩:=h.vg
 obtain ⟨u,rfl,hu⟩:=g.vg
 have hs:=h.chg.size
 refine ⟨⟨u,rfl,fun q hq=>?_⟩,⟨g.chg.os.trans h.chg.os,g.chg.tape.trans h.chg.tape,g.chg.output.trans h.chg.output,Nat.le_trans hs g.chg.size,fun j hj hn=>?_⟩⟩
 ·rcases hu q hq with h1 | h1
  ·exact hv q h1
  ·exact .inr (by omega)
 ·refine (g.chg.block j (by omega) fun hm=>?_).trans (h.chg.block j hj hn)
  rcases List.mem_cons.1 hm with rfl | hm
  ·exact hn (by simp)
  ·rcases Y2.all_vg hm with h1 | h1
   ·exact hn (by simp [h1])
   ·rcases hv j h1 with h2 | h2
    ·exact hn (List.mem_cons_of_mem _ (List.mem_filterMap.2 ⟨S.vg,by simp [Y2.all],h2⟩))
    ·omega
theorem zje (base B:Nat) (S:Y2) (D:WD) (addr:Int) (hF:Z8 D) (hgl:D.grey.length≤1048576) (w:World) (h:VarW w base B S D) :
  Calls Tryz.prog 170 #[.pointer (some ⟨B,0,none⟩),.int .i64 addr] w fun e w'=>e=.returned (.tuple #[])∧(∃ S' E,V1 D addr E∧VarW w' base B S' E∧F6 w w' B S S')∧Below base w w':=by
 have h':=zaa h
 have hF':=zaa hF
 have hgl':=zaa hgl
 have hle:=zaa (Nat.le_of_lt (Nat.lt_of_le_of_lt h.le h.lt))
 have hfnd:=zaa (zff B _ D hF addr w h.rd h.boxW)
 have g6:=h.cell 6 (.int .i64 D.phase) rfl
 clear hF hgl h
 by_cases c1:D.phase=1∨D.phase=2
 case neg =>
  have y:=zaa (show V1 D addr D from .inr ⟨fun h=>absurd h c1,rfl⟩)
  have d1:(D.phase != 1)=true:=bne_iff_ne.2 fun h=>c1 (.inl h)
  have d2:(D.phase != 2)=true:=bne_iff_ne.2 fun h=>c1 (.inr h)
  clear c1
  go_enter Tryz.func170,Tryz.ntmps170
  go_wp2_with fail
  refine bodyPost_ret (v:=.tuple #[]) (by simp [results,Tryz.results170,go_sem]) rfl ?_
  exact ⟨rfl,⟨_,_,y.out,h'.out,.of_below _ _ (Below.refl _ _)⟩,Below.refl _ _⟩
 have hc:=zaa c1
 rcases c1 with c1 | c1
 all_goals rw [c1] at g6
 all_goals clear c1
 all_goals go_enter Tryz.func170,Tryz.ntmps170
 all_goals go_wp2_with fail
 all_goals
  refine hfnd.out.mono ?_
  rintro e w1 ⟨hq,b1⟩
  obtain ⟨r,q,rfl,hq⟩:=hq
  have v1:=zaa (h'.out.below b1)
  have B1:=zaa (b1.mono hle.out)
  have Z1:=zaa b1
  clear b1 g6
  rcases hq with ⟨k,j,_,ho,rfl,rfl⟩ | ⟨hn,rfl,rfl⟩
  case inr =>
   have y:=zaa (show V1 D addr D from .inr ⟨fun _ k j h=>absurd h (hn hF'.out k j),rfl⟩)
   clear hn
   go_wp2_with fail
   refine bodyPost_ret (v:=.tuple #[]) (by simp [results,Tryz.results170,go_sem]) rfl ?_
   exact ⟨rfl,⟨_,_,y.out,v1.out,.of_below _ _ Z1.out⟩,B1.out⟩
  have ho':=zaa ho
  obtain ⟨s,hs,hj,hl,ha⟩:=ho
  have hs':=zaa hs
  have hj16:=zaa (zek hF'.out hs hj)
  have hm:=zaa (E6 B _ D k j s hs hj16.out.2.2 w1 v1.out.rd v1.out.boxW)
  have hkl1:(k:Int)<(D.spans.length:Int):=by have:=(List.getElem?_eq_some_iff.1 hs).1;omega
  clear hs hj hl ha
  go_wp2_with fail
  refine hm.out.mono ?_
  rintro e w2 ⟨hq,b2⟩
  replace hq:=hq.elim
  have v2:=zaa (v1.out.below b2)
  have B2:=zaa (B1.out.trans (b2.mono (by have:=B1.out.size;have:=hle.out;omega)))
  have Z2:=zaa (Z4 Z1.out b2)
  clear b2 hm
  rcases hq with ⟨hmk,rfl⟩ | ⟨hmk,rfl⟩
  case inl =>
   have y:=zaa (show V1 D addr D from .inr ⟨fun _ k' j' h=>by obtain ⟨rfl,rfl⟩:=ho'.out.unique hF'.out h;exact hmk,rfl⟩)
   clear hmk
   go_wp2_with fail
   refine bodyPost_ret (v:=.tuple #[]) (by simp [results,Tryz.results170,go_sem]) rfl ?_
   exact ⟨rfl,⟨_,_,y.out,v2.out,.of_below _ _ Z2.out⟩,B2.out⟩
  have y:=zaa (show V1 D addr (N9 D addr k j s) from .inl ⟨k,j,s,hc.out,ho'.out,hs'.out,fun hb=>hmk ((V2.iff hs'.out).2 hb),rfl⟩)
  obtain ⟨p,hp⟩:=v2.out.svAt hs'.out
  obtain ⟨gs,cs,hgs⟩:=v2.out.headS (by omega)
  have g4:=v2.out.cell 4 S.vs rfl
  rw [hgs] at g4
  have x2:=(v2.out.six hgs hs'.out hp).2.2.1
  have f2:=v2.out.frzS hgs (k*6+2)
  have hmx:=v2.out.rd.parts.2.2.1
  obtain ⟨_,_,_,hsm,_⟩:=hmx
  unfold maxLen at hsm
  have hj1:(j:Int)≤16:=by have:=hj16.out.2.2;omega
  have v3:=zaa (v2.out.mark hgs k s p (bits .or .i64 s.mark (2 ^ j)) hs'.out hp)
  have hgs':=hgs
  clear hmk hp hgs
  have hgs':=zaa hgs'
  go_wp2_with fail
  go_region
  rw [zpg (show j≤16 by omega)]
  have v4:=zaa v3.out.1.drew
  have B4:=zaa (below_drewN (B2.out.trans v3.out.2) 1)
  have C4:=zaa ((Chg.of_below Z2.out (B :: blks S.all)).trans ((Chg.of_grown (V5 w2 gs (k*6+2) (.int .i64 (bits .or .i64 s.mark (2 ^ j)))) (bs:=B :: blks S.all) (fun x hx=>by cases hx;exact List.mem_cons_of_mem _ (List.mem_filterMap.2 ⟨S.vs,by simp [Y2.all],by rw [hgs'.out];rfl⟩))).trans (Chg.of_below (below_drewN (Below.refl _ _) 1) _)))
  have q0:bits .or .i64 s.mark (2 ^ j)=bits .or .i64 s.mark ((2:Int) ^ j):=rfl
  clear g4 x2 f2 v2 B2 v3 v1 B1 hj1 hkl1
  generalize hw3:(w2.setCell ⟨gs,k*6+2,none⟩ (.int .i64 (bits .or .i64 s.mark (2 ^ j)))).drew=w3 at *
  have B4':Hid (Below base w w3):=zaa (by rw [← hw3];exact B4.out)
  have C4':Hid (Chg (B :: blks S.all) w w3):=zaa (by rw [← hw3];exact C4.out)
  clear hw3 B4 C4 hsm q0 hgs' Z1 Z2
  have hown:=show w3.ownsRow base 3 1 S.vg D.grey.length (D.grey.map (Value.int .i64)) from v4.out.own.grey
  obtain ⟨ag,cg,hvg⟩:=Y4 hown
  have b8:=v4.out.cell 8 S.vg rfl
  rw [hvg] at b8 hown
  have hown':=zaa hown
  have hbs:=zaa (show base≤(w3.alloc (.cells #[.int .i64 addr] 3)).heap.size by have:=B4'.out.size;have:=hle.out;simp;omega)
  have hgl2:=hgl'.out
  clear hown
  have src:=zaa (show N1 (w3.alloc (.cells #[.int .i64 addr] 3)) (some ⟨w3.heap.size,0,none⟩) 1 1 ([addr].map (Value.int .i64)) from ⟨rfl,fun j u hu=>⟨_,rfl,E0 _ _ _ j u hu⟩,by simp [Value.oneCell']⟩)
  have v5:=zaa (v4.out.below (Z5 w3 (.cells #[.int .i64 addr] 3)))
  have B5:=zaa (B4'.out.trans ((Z5 w3 (.cells #[.int .i64 addr] 3)).mono (by have:=B4'.out.size;have:=hle.out;omega)))
  have ex:=zaa (show ∀ (v:Value) (w6:World) ,w6.ownsRow base 3 1 v (D.grey ++ [addr]).length ((D.grey ++ [addr]).map (Value.int .i64))→(w3.alloc (.cells #[.int .i64 addr] 3)).grownBy w6 (Value.slice ag D.grey.length cg).ownBlock →
    (∀ q,v.ownBlock=some q→(Value.slice ag D.grey.length cg).ownBlock=some q∨(w3.alloc (.cells #[.int .i64 addr] 3)).heap.size≤q) →
    (∃ a c,v=.slice a (D.grey.length+1) c)∧w6.cell? ⟨B,8,none⟩=some S.vg∧w6.frozen? ⟨B,8,none⟩=false∧(VarW (w6.setCell ⟨B,8,none⟩ v) base B { S with vg:=v } (N9 D addr k j s)∧F6 w (w6.setCell ⟨B,8,none⟩ v) B S { S with vg:=v })∧Below base w (w6.setCell ⟨B,8,none⟩ v) from fun v w6 r g f=>by
   have hg:=v5.out.grow (L:=D.grey ++ [addr]) (v:=v) (by rw [hvg];exact g) r (by rw [hvg];exact f)
   have hb6:=v5.out.keep (Chg.of_grown g (bs:=blks [S.vg]) fun x hx=>List.mem_filterMap.2 ⟨S.vg,by simp,by rw [hvg];exact hx⟩) (zgg (by simp [Y2.all]))
   obtain ⟨a,c,e⟩:=Y4 r
   have hsz:=C4'.out.size
   have hc5:Chg (B :: blks S.all) w (w6.setCell ⟨B,8,none⟩ v):=((C4'.out.trans (Chg.of_below (Z5 w3 _) _)).trans (Chg.of_grown g (bs:=B :: blks S.all) fun x hx=>List.mem_cons_of_mem _ (List.mem_filterMap.2 ⟨S.vg,by simp [Y2.all],by rw [hvg];exact hx⟩))).trans (Chg.of_grown (V5 w6 B 8 v) (bs:=B :: blks S.all) (by simp))
   exact ⟨⟨a,c,by rw [e,List.length_append];rfl⟩,Z0 hb6 8 S.vg rfl,Z3 hb6 8,⟨hg.1,⟨v,rfl,fun q hq=>(f q hq).imp (fun h=>by rw [hvg];exact h) (fun h=>by simp at h;omega)⟩,hc5⟩,B5.out.trans hg.2⟩)
  clear v4 v5 B4' C4' B5 hc ho' hs' hj16
  go_wp2_with (at_builtin;go_loud (refine zrs rfl (.tmp 57) (.tmp 59) rfl rfl (hown'.out.alloc _) ⟨w3.heap.size,0,none⟩ 1 1 [addr] rfl rfl src.out (by omega) hbs.out ?_;intro v6 w6 q6 g6 f6;obtain ⟨⟨a6,c6,rfl⟩,b6,z6,hv6⟩:=ex.out _ _ q6 g6 f6;have hv:=zaa hv6;rw [hvg] at b6;clear q6 g6 f6 hv6 ex))
  go_end0
  exact ⟨rfl,⟨_,_,y.out,hv.out.1.1,hv.out.1.2⟩,hv.out.2⟩
theorem Q7.snoc {D E F:WD} {L:List Int} {a:Int} (h:Q7 D L E) (g:V1 E a F):Q7 D (L ++ [a]) F:=by
 induction h with
 | nil D=>exact .cons g (.nil _)
 | cons h1 _ ih=>exact .cons h1 (ih g)
theorem V1.greyLen {D E:WD} {a:Int} (h:V1 D a E):E.grey.length≤D.grey.length+1:=by
 rcases h with ⟨k,j,s,_,_,_,_,rfl⟩ | ⟨_,rfl⟩
 ·simp [N9]
 ·omega
theorem Q7.keeps {D E:WD} {L:List Int} (h:Q7 D L E) (hF:Z8 D):Z8 E∧E.muts=D.muts∧E.grey.length≤D.grey.length+L.length:=by
 induction h with
 | nil D=>exact ⟨hF,rfl,by omega⟩
 | cons h1 _ ih =>
  obtain ⟨a,b,c⟩:=ih (h1.form hF)
  have:=h1.greyLen
  exact ⟨a,b.trans h1.rest.2.2.1,by simp only [List.length_cons];omega⟩
theorem zyr {Z:List Int} {k:Nat} (hk:k<Z.length) (h:Z[k]?.getD 0=0):nz (Z.take (k+1))=nz (Z.take k):=by
 have h1:Z[k]=0:=by simpa [hk] using h
 unfold nz
 rw [List.take_succ_eq_append_getElem hk,List.filter_append,h1]
 simp
theorem zyq {Z:List Int} {k:Nat} (hk:k<Z.length) (h:Z[k]?.getD 0≠0):nz (Z.take (k+1))=nz (Z.take k) ++ [Z[k]?.getD 0]:=by
 have h1:Z[k]?.getD 0=Z[k]:=by simp [hk]
 rw [h1] at h ⊢
 unfold nz
 rw [List.take_succ_eq_append_getElem hk,List.filter_append]
 congr 1
 simpa using h
theorem nzK_len (Z:List Int) (k:Nat):(nz (Z.take k)).length≤Z.length :=
 Nat.le_trans (List.length_filter_le _ _) (by rw [List.length_take];omega)
structure zmq (base B:Nat) (S:Y2) (D:WD) (w:World) (L:List Int) (wr:World) (S':Y2) (E:WD):Prop where
 is:Q7 D L E
 var:VarW wr base B S' E
 sh:F6 w wr B S S'
 bel:Below base w wr
theorem zmq.next {base B:Nat} {S S':Y2} {D E:WD} {w wr w2:World} {L:List Int} {a:Int} (st:zmq base B S D w L wr S' E) {S2:Y2} {E2:WD} (h1:V1 E a E2) (h2:VarW w2 base B S2 E2) (h3:F6 wr w2 B S' S2) (h4:Below base wr w2):zmq base B S D w (L ++ [a]) w2 S2 E2 :=
 ⟨st.is.snoc h1,h2,st.sh.trans h3,st.bel.trans h4⟩
theorem zko (base B:Nat) (S:Y2) (D:WD) (Z:List Int) (a:Option Addr) (c:Nat) (hF:Z8 D) (hgl:D.grey.length+Z.length≤1048576) (w:World) (h:VarW w base B S D)
  (hrd:∀ (w':World) (S':Y2) (E:WD),VarW w' base B S' E→F6 w w' B S S'→E.muts=D.muts→Rd w' (.slice a Z.length c) Z) :
  Calls Tryz.prog 154 #[.pointer (some ⟨B,0,none⟩),.slice a Z.length c] w fun e w'=>e=.returned (.tuple #[])∧(∃ S' E,zmq base B S D w (nz Z) w' S' E):=by
 have hF':=zaa hF
 have hrd':=zaa hrd
 have hgl':=zaa hgl
 have st0:=zaa (show zmq base B S D w [] w S D from ⟨.nil _,h,.of_below _ _ (Below.refl _ _),Below.refl _ _⟩)
 have hzl:Z.length≤1048576:=by omega
 clear hF hgl h hrd
 go_enter Tryz.func154,Tryz.ntmps154
 go_wp2_with fail
 go_loopw [4] (fun i wr=>∃ (k:Nat) (S':Y2) (E:WD),k≤Z.length∧i=.int .i64 k∧Hid (zmq base B S D w (nz (Z.take k)) wr S' E)) (fun i _=>Z.length-(Go.RowKit.intOf i).toNat)
 case atStart=>exact ⟨0,S,D,Nat.zero_le _,rfl,st0⟩
 case round =>
  obtain ⟨k,S',E,hk,rfl,st⟩:=hrel
  have hkp:=zaa (st.out.is.keeps hF'.out)
  by_cases hlt:k<Z.length
  ·obtain ⟨a',c',he,hll,xl⟩:=hrd'.out wr S' E st.out.var st.out.sh hkp.out.2.1
   obtain ⟨b,o,rfl,xj⟩:=xl k hlt
   obtain ⟨rfl,rfl⟩:some (⟨b,o,none⟩:Addr)=a∧c'=c:=by simp at he;exact ⟨he.1.symm,he.2.symm⟩
   have hlt1:(k:Int)<(Z.length:Int):=by omega
   clear he xl hll
   by_cases hx:Z[k]?.getD 0=0
   ·have st2:=zaa (show zmq base B S D w (nz (Z.take (k+1))) wr S' E by rw [zyr hlt hx];exact st.out)
    rw [hx] at xj
    clear st hx
    go_wp2_with fail
    go_roundw
    case rel=>exact ⟨k+1,S',E,by omega,by go_num,st2⟩
    case measure=>simp [Go.RowKit.intOf];omega
   ·have hxb:(Z[k]?.getD 0 != 0)=true:=bne_iff_ne.2 hx
    have nx:=zaa (zyq hlt hx)
    have hcall:=zaa (zje base B S' E (Z[k]?.getD 0) hkp.out.1 (by have:=hkp.out.2.2;have:=nzK_len Z k;have:=hgl'.out;omega) wr st.out.var)
    clear hx
    generalize Z[k]?.getD 0=x at *
    go_wp2_with fail
    refine hcall.out.mono ?_
    rintro e w2 ⟨rfl,⟨S2,E2,i2,v2,s2⟩,b2⟩
    have st2:=zaa (show zmq base B S D w (nz (Z.take (k+1))) w2 S2 E2 by rw [nx.out];exact st.out.next i2 v2 s2 b2)
    clear i2 v2 s2 b2 hcall st xj
    go_wp2_with fail
    go_roundw
    case rel=>exact ⟨k+1,S2,E2,by omega,by go_num,st2⟩
    case measure=>simp [Go.RowKit.intOf];omega
  ·obtain rfl:k=Z.length:=by omega
   have st2:=zaa (show zmq base B S D w (nz Z) wr S' E by have:=st.out;rwa [List.take_length] at this)
   clear st hkp
   go_wp2_with fail
   go_end0
   exact ⟨rfl,S',E,st2.out⟩
theorem zpe {m:Int} {j:Nat} (h0:0≤m) (h1:m≤9223372036854775807) (hj:j≤16) :
  ∃ n r:Nat,m=(n:Int)∧bits .andNot .i64 m ((2:Int) ^ j)=(r:Int)∧(∀ i,r.testBit i=(n.testBit i && !decide (i=j)))∧r≤n:=by
 obtain ⟨n,rfl⟩:=Int.eq_ofNat_of_zero_le h0
 have h2:=zod hj
 have e:((2:Int) ^ j)=((2 ^ j:Nat):Int):=by simp
 have hX:(BitVec.ofInt 64 (n:Int) &&& ~~~ BitVec.ofInt 64 ((2 ^ j:Nat):Int)).toNat≤n:=by
  rw [BitVec.toNat_and,N6 n (by omega)]
  exact Nat.and_le_left
 refine ⟨n,(BitVec.ofInt 64 (n:Int) &&& ~~~ BitVec.ofInt 64 ((2 ^ j:Nat):Int)).toNat,rfl,?_,fun i=>?_,hX⟩
 ·rw [e]
  show IntKind.i64.wrap ((BitVec.ofInt 64 (n:Int) &&& ~~~ BitVec.ofInt 64 ((2 ^ j:Nat):Int)).toNat:Nat)=_
  generalize (BitVec.ofInt 64 (n:Int) &&& ~~~ BitVec.ofInt 64 ((2 ^ j:Nat):Int)).toNat=X at *
  rw [IntKind.wrap_i64]
  omega
 ·rw [BitVec.testBit_toNat,BitVec.getLsbD_and,BitVec.getLsbD_not,← BitVec.testBit_toNat,← BitVec.testBit_toNat,N6 n (by omega),N6 _ (by omega),Nat.testBit_two_pow]
  by_cases hi:i<64
  ·simp [hi,eq_comm]
  ·have:n.testBit i=false:=Nat.testBit_lt_two_pow (Nat.lt_of_lt_of_le (show n<2 ^ 64 by omega) (Nat.pow_le_pow_right (by omega) (by omega)))
   simp [this]
theorem zpd {m:Int} {j:Nat} (h0:0≤m) (h1:m≤9223372036854775807) (hj:j≤16) (i:Nat):bitI (bits .andNot .i64 m ((2:Int) ^ j)) i↔bitI m i∧i≠j:=by
 obtain ⟨n,r,rfl,e,hb,_⟩:=zpe h0 h1 hj
 rw [e,zgj,zgj,hb]
 simp
theorem ztj (L:List Int) (A n i:Nat):(zjp L A n)[i]?.getD 0=if A≤i∧i<A+n then 0 else L[i]?.getD 0:=by
 induction n with
 | zero=>rw [if_neg (by omega)];rfl
 | succ n ih =>
  unfold zjp
  rw [List.getElem?_set]
  by_cases e:A+n=i
  ·rw [if_pos e,if_pos (show A≤i∧i<A+(n+1) by omega)]
   split <;> rfl
  ·rw [if_neg e,ih]
   by_cases c:A≤i∧i<A+n
   ·rw [if_pos c,if_pos (by omega)]
   ·rw [if_neg c,if_neg (by omega)]
theorem zgu {α:Type} {L:List α} {k q:Nat} {a b t:α} (hs:L[k]?=some a) (h:(L.set k b)[q]?=some t):(q=k∧t=b)∨(q≠k∧L[q]?=some t):=by
 by_cases e:q=k
 ·subst e
  have hl:=(List.getElem?_eq_some_iff.1 hs).1
  rw [List.getElem?_set_self hl] at h
  cases h
  exact .inl ⟨rfl,rfl⟩
 ·rw [List.getElem?_set_ne (fun h=>e h.symm)] at h
  exact .inr ⟨e,h⟩
theorem zsh {α:Type} {L:List α} {k q:Nat} {b t:α} (hq:q≠k) (h:L[q]?=some t):(L.set k b)[q]?=some t:=by
 rw [List.getElem?_set_ne (fun h=>hq h.symm)]
 exact h
def ztf (D:WD) (k x:Nat):Prop:=∃ q u,q≠k∧D.spans[q]?=some u∧F7 u u.lens.length x
theorem zjv {D:WD} {k x:Nat} {s:Y3} (hs:D.spans[k]?=some s):Used D x↔ztf D k x∨F7 s s.lens.length x:=by
 constructor
 ·rintro ⟨q,u,_,hu,hx⟩
  by_cases e:q=k
  ·subst e
   rw [hs] at hu
   cases hu
   exact .inr hx
  ·exact .inl ⟨q,u,e,hu,hx⟩
 ·rintro (⟨q,u,_,hu,hx⟩ | hx)
  ·exact ⟨q,u,(List.getElem?_eq_some_iff.1 hu).1,hu,hx⟩
  ·exact ⟨k,s,(List.getElem?_eq_some_iff.1 hs).1,hs,hx⟩
theorem zne {D E:WD} {k x:Nat} {t:Y3} (he:E.spans=D.spans.set k t) (h:ztf D k x):ztf E k x:=by
 obtain ⟨q,u,e,hu,hx⟩:=h
 exact ⟨q,u,e,by rw [he];exact zsh e hu,hx⟩
theorem Z8.setSpan {D E:WD} (hF:Z8 D) {k:Nat} {s t:Y3} (hs:D.spans[k]?=some s) (hb:E.base=D.base) (hp:E.pages=D.pages) (hm:E.muts=D.muts) (h0:0≤E.phase) (h4:E.phase≤4)
  (hw:E.words.length=D.words.length) (hd:E.dirty.length=D.dirty.length) (he:E.spans=D.spans.set k t) (pg:t.page=s.page) (cl:t.cls=s.cls) (ll:t.lens.length=s.lens.length) (pl:t.ptrs.length=s.ptrs.length)
  (slot:∀ i,i<t.lens.length→ziv t i) (mk0:0≤t.mark) (mk1:t.mark<2 ^ t.lens.length) (zero:∀ i,i<E.words.length→¬ Used E i→E.words[i]?.getD 0=0):Z8 E:=by
 have A:=hF.span k s hs
 refine ⟨by rw [hb,hp,hm];exact hF.geo,by rw [hw,hp];exact hF.words,by rw [hd,hp];exact hF.dirty,by rw [he,List.length_set,hp];exact hF.spans,h0,h4,fun q u hu=>?_,zero,by rw [hm];exact hF.roots⟩
 rw [he] at hu
 have page:∀ {q:Nat} {u:Y3},(D.spans.set k t)[q]?=some u→∃ u0,D.spans[q]?=some u0∧u.page=u0.page:=fun {q u} h=>by
  rcases zgu hs h with ⟨rfl,rfl⟩ | ⟨_,h⟩
  ·exact ⟨s,hs,pg⟩
  ·exact ⟨u,h,rfl⟩
 have prev:zug E q u:=fun u' hq hu'=>by
  rw [he] at hu'
  obtain ⟨u0,h1,e1⟩:=page hu
  obtain ⟨u1,h2,e2⟩:=page hu'
  rw [e1,e2]
  exact (hF.span q u0 h1).prev u1 hq h2
 rcases zgu hs hu with ⟨rfl,rfl⟩ | ⟨_,hu⟩
 ·exact ⟨by rw [pg];exact A.pg0,by rw [pg,hp];exact A.pg1,prev,by rw [cl];exact A.cls,by rw [ll,cl];exact A.lens,by rw [pl,cl];exact A.ptrs,slot,mk0,mk1⟩
 ·have B:=hF.span q u hu
  exact ⟨B.pg0,by rw [hp];exact B.pg1,prev,B.cls,B.lens,B.ptrs,B.slot,B.mk0,B.mk1⟩
theorem zwc {D:WD} (hF:Z8 D) {k j:Nat} {s:Y3} (hs:D.spans[k]?=some s) (hj:j<s.lens.length):Z8 (zkc D k s j):=by
 have A:=hF.span k s hs
 have hin:=hF.slotIn hs hj
 have hbd:=hin.bd
 obtain ⟨m0,m1,j16⟩:=zek hF hs hj
 obtain ⟨n,r,e1,e2,_,hle⟩:=zpe m0 m1 j16
 have hbit:=zpd m0 m1 j16
 have hjp:j<s.ptrs.length:=by have:=hin.lens;have:=hin.ptrs;omega
 refine hF.setSpan hs rfl rfl rfl hF.ph0 hF.ph1 (zgw _ _ _) (zhx _ _ _) rfl rfl rfl (by simp [zfq]) (by simp [zfq]) (fun i hi=>?_) (by show 0≤bits .andNot .i64 s.mark ((2:Int) ^ j);omega) ?_ (fun i hi hu=>?_)
 ·have hi':i<s.lens.length:=by simpa [zfq] using hi
  have O:=A.slot i hi'
  by_cases e:i=j
  ·subst e
   have z1:(zfq s i).lens[i]?.getD 0=0:=by simp [zfq,hj]
   have z2:(zfq s i).ptrs[i]?.getD 0=0:=by simp [zfq,hjp]
   refine ⟨by rw [z1];omega,by rw [z1];show 0≤sz s.cls;omega,by rw [z2];omega,by rw [z1,z2];omega,fun _=>?_⟩
   show ¬ bitI (bits .andNot .i64 s.mark ((2:Int) ^ i)) i
   rw [hbit]
   exact fun h=>h.2 rfl
  ·have z1:(zfq s j).lens[i]?.getD 0=s.lens[i]?.getD 0:=by simp only [zfq];rw [List.getElem?_set_ne (fun h=>e h.symm)]
   have z2:(zfq s j).ptrs[i]?.getD 0=s.ptrs[i]?.getD 0:=by simp only [zfq];rw [List.getElem?_set_ne (fun h=>e h.symm)]
   refine ⟨by rw [z1];exact O.l0,by rw [z1];exact O.l1,by rw [z2];exact O.p0,by rw [z1,z2];exact O.p1,fun h=>?_⟩
   rw [z1] at h
   show ¬ bitI (bits .andNot .i64 s.mark ((2:Int) ^ j)) i
   rw [hbit]
   exact fun h'=>O.bit h h'.1
 ·have hm1:=A.mk1
  show bits .andNot .i64 s.mark ((2:Int) ^ j)<2 ^ (s.lens.set j 0).length
  rw [List.length_set]
  omega
 ·show (zjp D.words (atW s (j:Int)).toNat (sz s.cls).toNat)[i]?.getD 0=0
  rw [ztj]
  split
  ·rfl
  ·rename_i hni
   refine hF.zero i (by have:i<(zjp D.words (atW s (j:Int)).toNat (sz s.cls).toNat).length:=hi;rwa [zgw] at this) fun hu0=>hu ?_
   have hks:(zkc D k s j).spans[k]?=some (zfq s j):=List.getElem?_set_self (List.getElem?_eq_some_iff.1 hs).1
   rcases (zjv hs).1 hu0 with h | ⟨j',hj',hx⟩
   ·exact (zjv hks).2 (.inl (zne rfl h))
   ·by_cases e:j'=j
    ·subst e
     obtain ⟨t',ht',hx⟩:=hx
     have:=(A.slot j' hj).l1
     exact absurd ⟨by omega,by omega⟩ hni
    ·refine (zjv hks).2 (.inr ⟨j',by simpa [zfq] using hj',?_⟩)
     have z1:(zfq s j).lens[j']?.getD 0=s.lens[j']?.getD 0:=by simp only [zfq];rw [List.getElem?_set_ne (fun h=>e h.symm)]
     rw [z1]
     exact hx
theorem znt {α:Type} {L:List α} {k q:Nat} {t:α} (h:(L.eraseIdx k)[q]?=some t):∃ i:Nat,L[i]?=some t∧i≠k∧((q<k∧i=q)∨(k≤q∧i=q+1)):=by
 rw [List.getElem?_eraseIdx] at h
 split at h
 ·exact ⟨q,h,by omega,.inl ⟨by omega,rfl⟩⟩
 ·exact ⟨q+1,h,by omega,.inr ⟨by omega,rfl⟩⟩
theorem zrf {α:Type} {L:List α} {k q:Nat} {t:α} (h:L[q]?=some t) (hq:q≠k):∃ i:Nat,(L.eraseIdx k)[i]?=some t:=by
 rcases Nat.lt_or_gt_of_ne hq with h1 | h1
 ·exact ⟨q,by rw [List.getElem?_eraseIdx,if_pos h1];exact h⟩
 ·exact ⟨q-1,by rw [List.getElem?_eraseIdx,if_neg (by omega),show q-1+1=q by omega];exact h⟩
theorem zwh {D:WD} (hF:Z8 D) {k:Nat} {s:Y3} (hs:D.spans[k]?=some s) (he:zhk s):Z8 { D with spans:=D.spans.eraseIdx k }:=by
 refine ⟨hF.geo,hF.words,hF.dirty,?_,hF.ph0,hF.ph1,fun q u hu=>?_,fun i hi hu=>hF.zero i hi fun h=>hu ?_,hF.roots⟩
 ·have h1:=hF.spans
  have h2:(D.spans.eraseIdx k).length≤D.spans.length:=List.length_eraseIdx_le _ _
  show ((D.spans.eraseIdx k).length:Int)≤D.pages
  omega
 ·obtain ⟨i,hi,_,hik⟩:=znt hu
  have B:=hF.span i u hi
  refine ⟨B.pg0,B.pg1,fun u' hq hu'=>?_,B.cls,B.lens,B.ptrs,B.slot,B.mk0,B.mk1⟩
  obtain ⟨i',hi',_,hik'⟩:=znt hu'
  exact zgr hF hi' hi (by omega)
 ·rcases (zjv hs).1 h with ⟨q,u,e,hu,hx⟩ | ⟨j,hj,t,ht,_⟩
  ·obtain ⟨i',hi'⟩:=zrf hu e
   exact ⟨i',u,(List.getElem?_eq_some_iff.1 hi').1,hi',hx⟩
  ·have:=he j hj
   omega
def zkn (E:WD) (k j:Nat):WD :=
 match E.spans[k]? with
 | some s=>if 0<s.lens[j]?.getD 0∧¬ s.mark / 2 ^ j % 2=1 then zkc E k s j else E
 | none=>E
def U2 (D:WD) (k:Nat):Nat→WD
 | 0=>D
 | j+1=>zkn (U2 D k j) k j
theorem zgx {E:WD} {k j:Nat} {s:Y3} (hs:E.spans[k]?=some s) (h:0<s.lens[j]?.getD 0) (hb:¬ bitI s.mark j):zkn E k j=zkc E k s j:=by
 unfold zkn
 rw [hs]
 exact if_pos ⟨h,hb⟩
theorem zil {E:WD} {k j:Nat} {s:Y3} (hs:E.spans[k]?=some s) (h:¬ (0<s.lens[j]?.getD 0∧¬ bitI s.mark j)):zkn E k j=E:=by
 unfold zkn
 rw [hs]
 exact if_neg h
structure Like (D E:WD) (k:Nat):Prop where
 base:E.base=D.base
 pages:E.pages=D.pages
 muts:E.muts=D.muts
 phase:E.phase=D.phase
 next:E.next=D.next
 grey:E.grey=D.grey
 wl:E.words.length=D.words.length
 dl:E.dirty.length=D.dirty.length
 len:E.spans.length=D.spans.length
 other:∀ q,q≠k→E.spans[q]?=D.spans[q]?
 here:∀ s,D.spans[k]?=some s→∃ t,E.spans[k]?=some t∧t.page=s.page∧t.cls=s.cls∧t.swept=s.swept∧t.lens.length=s.lens.length∧t.ptrs.length=s.ptrs.length
 ints:AllI D.words→AllI E.words
theorem Like.refl (D:WD) (k:Nat):Like D D k:=⟨rfl,rfl,rfl,rfl,rfl,rfl,rfl,rfl,rfl,fun _ _=>rfl,fun s hs=>⟨s,hs,rfl,rfl,rfl,rfl,rfl⟩,id⟩
theorem Like.trans {D E F:WD} {k:Nat} (h:Like D E k) (g:Like E F k):Like D F k :=
 ⟨g.base.trans h.base,g.pages.trans h.pages,g.muts.trans h.muts,g.phase.trans h.phase,g.next.trans h.next,g.grey.trans h.grey,g.wl.trans h.wl,g.dl.trans h.dl,g.len.trans h.len,fun q hq=>(g.other q hq).trans (h.other q hq),
  fun s hs=>by
   obtain ⟨t,ht,a1,a2,a3,a4,a5⟩:=h.here s hs
   obtain ⟨u,hu,b1,b2,b3,b4,b5⟩:=g.here t ht
   exact ⟨u,hu,b1.trans a1,b2.trans a2,b3.trans a3,b4.trans a4,b5.trans a5⟩,fun hw=>g.ints (h.ints hw)⟩
theorem zuj {L:List Int} (h:AllI L) (A n:Nat):AllI (zjp L A n):=by
 induction n with
 | zero=>exact h
 | succ n ih =>
  intro x hx
  rcases List.mem_or_eq_of_mem_set hx with hx | rfl
  ·exact ih x hx
  ·exact ⟨by omega,by omega⟩
theorem zwb {D:WD} {k j:Nat} {s:Y3} (hs:D.spans[k]?=some s):Like D (zkc D k s j) k:=by
 refine ⟨rfl,rfl,rfl,rfl,rfl,rfl,zgw _ _ _,zhx _ _ _,by simp [zkc],fun q hq=>by simp only [zkc];rw [List.getElem?_set_ne (fun h=>hq h.symm)],fun t ht=>?_,fun hw=>zuj hw _ _⟩
 rw [hs] at ht
 cases ht
 exact ⟨zfq s j,List.getElem?_set_self (List.getElem?_eq_some_iff.1 hs).1,rfl,rfl,rfl,by simp [zfq],by simp [zfq]⟩
theorem zry {E:WD} {k j:Nat} {s:Y3} (hs:E.spans[k]?=some s):Like E (zkn E k j) k:=by
 by_cases h:0<s.lens[j]?.getD 0∧¬ bitI s.mark j
 ·rw [zgx hs h.1 h.2]
  exact zwb hs
 ·rw [zil hs h]
  exact .refl _ _
theorem zgb {D:WD} {k:Nat} {s:Y3} (hs:D.spans[k]?=some s) (j:Nat):Like D (U2 D k j) k:=by
 induction j with
 | zero=>exact .refl _ _
 | succ j ih =>
  obtain ⟨t,ht,_⟩:=ih.here s hs
  exact ih.trans (zry ht)
theorem zho {D:WD} (hF:Z8 D) {k:Nat} {s:Y3} (hs:D.spans[k]?=some s) {j:Nat} (hj:j≤s.lens.length):Z8 (U2 D k j):=by
 induction j with
 | zero=>exact hF
 | succ j ih =>
  have hF':=ih (by omega)
  obtain ⟨t,ht,_,_,_,hl,_⟩:=(zgb hs j).here s hs
  show Z8 (zkn (U2 D k j) k j)
  by_cases h:0<t.lens[j]?.getD 0∧¬ bitI t.mark j
  ·rw [zgx ht h.1 h.2]
   exact zwc hF' ht (by omega)
  ·rw [zil ht h]
   exact hF'
def offS (t:Y3):Y3:={ t with mark:=0,swept:=true }
def P8 (F:WD) (k:Nat) (t:Y3):WD:={ F with spans:=F.spans.set k (offS t) }
def dropD (F:WD) (k:Nat):WD:={ F with spans:=F.spans.eraseIdx k }
def M1 (s:Y3):Y3:={ s with swept:=false }
def zlt (D:WD) (k:Nat) (s:Y3):Prop:=D.spans[k]?=some s∧s.swept=false∧∀ q t,q<k→D.spans[q]?=some t→t.swept=true
def zfs (D:WD) (k:Nat) (s:Y3) (E:WD):Prop :=
 ∃ t,(U2 D k s.lens.length).spans[k]?=some t∧((zhk t∧E=dropD (P8 (U2 D k s.lens.length) k t) k)∨(¬ zhk t∧E=P8 (U2 D k s.lens.length) k t))
def zro (D E:WD):Prop :=
 (∃ r F,0≤D.next∧D.muts[D.next.toNat]?=some r∧Q7 D (nz r) F∧E={ F with next:=D.next+1 })∨(D.next=(D.muts.length:Int)∧E={ D with phase:=2,next:=0 })
def zrm (D E:WD):Prop :=
 (∃ G a k j s,D.grey=G ++ [a]∧U3 D a k j∧D.spans[k]?=some s∧Q7 { D with grey:=G } (nz (ptrW D s j)) E)∨(D.grey=[]∧E={ D with phase:=3 })
def znx (D E:WD):Prop :=
 (∃ k s,zlt D k s∧zfs D k s E)∨((∀ s,s ∈ D.spans→s.swept=true)∧E={ D with phase:=0,spans:=D.spans.map M1 })
def zet (D E:WD):Prop :=
 (D.phase=0∧E=D)∨(D.phase=1∧zro D E)∨(D.phase=2∧zrm D E)∨(D.phase=3∧E={ D with phase:=4 })∨(D.phase=4∧znx D E)
inductive zfh:Nat→WD→WD→Prop
 | none (D:WD):zfh 0 D D
 | more {n:Nat} {D E F:WD}:zfh n D E→zet E F→zfh (n+1) D F
theorem Q7.unique {D E F:WD} {L:List Int} (h:Q7 D L E) (hF:Z8 D) (g:Q7 D L F):F=E:=by
 induction h with
 | nil D=>cases g;rfl
 | cons h1 _ ih =>
  cases g with
  | cons g1 g2 =>
   obtain rfl:=h1.unique hF g1
   exact ih (h1.form hF) g2
theorem zro.unique {D E F:WD} (hF:Z8 D) (h:zro D E) (g:zro D F):F=E:=by
 rcases h with ⟨r,A,h0,hr,hA,rfl⟩ | ⟨hn,rfl⟩ <;> rcases g with ⟨r',A',h0',hr',hA',rfl⟩ | ⟨hn',rfl⟩
 ·rw [hr] at hr'
  cases hr'
  rw [hA.unique hF hA']
 ·have:=(List.getElem?_eq_some_iff.1 hr).1
  omega
 ·have:=(List.getElem?_eq_some_iff.1 hr').1
  omega
 ·rfl
theorem zgh {D:WD} (hF:Z8 D) (G:List Int):Z8 { D with grey:=G }:=⟨hF.geo,hF.words,hF.dirty,hF.spans,hF.ph0,hF.ph1,fun k s h=>⟨(hF.span k s h).pg0,(hF.span k s h).pg1,(hF.span k s h).prev,(hF.span k s h).cls,(hF.span k s h).lens,(hF.span k s h).ptrs,(hF.span k s h).slot,(hF.span k s h).mk0,(hF.span k s h).mk1⟩,hF.zero,hF.roots⟩
theorem zrm.unique {D E F:WD} (hF:Z8 D) (h:zrm D E) (g:zrm D F):F=E:=by
 rcases h with ⟨G,a,k,j,s,hg,ho,hs,hA⟩ | ⟨hn,rfl⟩ <;> rcases g with ⟨G',a',k',j',s',hg',ho',hs',hA'⟩ | ⟨hn',rfl⟩
 ·rw [hg] at hg'
  obtain ⟨rfl,h1⟩:=List.append_inj' hg' rfl
  cases h1
  obtain ⟨rfl,rfl⟩:=ho.unique hF ho'
  rw [hs] at hs'
  cases hs'
  exact hA.unique (zgh hF _) hA'
 ·rw [hg] at hn'
  simp at hn'
 ·rw [hg'] at hn
  simp at hn
 ·rfl
theorem znx.unique {D E F:WD} (h:znx D E) (g:znx D F):F=E:=by
 rcases h with ⟨k,s,hu,t,ht,hA⟩ | ⟨hn,rfl⟩ <;> rcases g with ⟨k',s',hu',t',ht',hA'⟩ | ⟨hn',rfl⟩
 ·obtain rfl:k=k':=by
   rcases Nat.lt_trichotomy k k' with h | h | h
   ·have:=hu'.2.2 k s h hu.1
    rw [hu.2.1] at this
    cases this
   ·exact h
   ·have:=hu.2.2 k' s' h hu'.1
    rw [hu'.2.1] at this
    cases this
  have hs':=hu'.1
  rw [hu.1] at hs'
  cases hs'
  rw [ht] at ht'
  cases ht'
  rcases hA with ⟨a,rfl⟩ | ⟨a,rfl⟩ <;> rcases hA' with ⟨b,rfl⟩ | ⟨b,rfl⟩
  ·rfl
  ·exact absurd a b
  ·exact absurd b a
  ·rfl
 ·have:=hn' s (List.mem_of_getElem? hu.1)
  rw [hu.2.1] at this
  cases this
 ·have:=hn s' (List.mem_of_getElem? hu'.1)
  rw [hu'.2.1] at this
  cases this
 ·rfl
theorem zet.unique {D E F:WD} (hF:Z8 D) (h:zet D E) (g:zet D F):F=E:=by
 rcases h with ⟨p,rfl⟩ | ⟨p,h⟩ | ⟨p,h⟩ | ⟨p,rfl⟩ | ⟨p,h⟩ <;> rcases g with ⟨q,rfl⟩ | ⟨q,g⟩ | ⟨q,g⟩ | ⟨q,rfl⟩ | ⟨q,g⟩
 all_goals first
  | (exfalso;omega)
  | rfl
  | exact h.unique hF g
  | exact h.unique g
structure zju (D:WD):Prop where
 words:AllI D.words
 muts:∀ r,r ∈ D.muts→AllI r
 grey:AllI D.grey
structure U1 (D:WD):Prop where
 form:Z8 D
 gc:zfi D
 ints:zju D
theorem FitD.intsIn {D:WD} (h:FitD D):zju D:=⟨h.words,h.muts,h.grey⟩
theorem zys (n:Nat):∀ (L:List Int) (lo:Int),L.Nodup→(∀ a,a ∈ L→lo≤a∧a<lo+(n:Int))→L.length≤n:=by
 induction n with
 | zero =>
  intro L lo _ h
  cases L with
  | nil=>simp
  | cons a L=>have:=h a (by simp);omega
 | succ n ih =>
  intro L lo hn h
  have h1:=ih (L.erase (lo+(n:Int))) lo (hn.erase _) fun a ha=>by
   obtain ⟨hne,hm⟩:=hn.mem_erase_iff.1 ha
   have:=h a hm
   omega
  rw [List.length_erase] at h1
  split at h1 <;> omega
theorem U3.range {D:WD} (hF:Z8 D) {a:Int} {k j:Nat} (h:U3 D a k j):D.base≤a∧a<D.base+384:=by
 obtain ⟨s,hs,hj,hl,rfl⟩:=h
 have hin:=hF.slotIn hs hj
 have:=hin.bd
 have:=hin.pg
 omega
theorem Y8.len {D:WD} (hF:Z8 D) {L:List Int} (h:Y8 D L):L.length≤384 :=
 zys 384 L D.base h.1 fun a ha=>by
  obtain ⟨k,j,ho,_⟩:=h.2 a ha
  exact ho.range hF
theorem U1.greyLen {D:WD} (h:U1 D):D.grey.length≤384:=h.gc.1.2.len h.form
theorem V1.gc {D E:WD} {a:Int} (hF:Z8 D) (hG:zfi D) (hs:V1 D a E):zfi E:=by
 have hO:=hs.same
 obtain ⟨r1,r2,r3,r4,r5⟩:=hs.rest
 rcases id hs with ⟨k,j,s,hph,ho,hsk,hnm,rfl⟩ | ⟨_,rfl⟩
 ·obtain ⟨⟨g1,g2⟩,nx,sp⟩:=hG
  refine ⟨⟨fun _=>hph,?_⟩,nx,fun t ht=>?_⟩
  ·have hold:Y8 (N9 D a k j s) D.grey:=⟨g2.1,fun b hb=>hs.keeps hF (g2.2 b hb)⟩
   refine hold.add (hs.marked hF hph ⟨k,j,ho⟩) fun hb=>?_
   obtain ⟨q,i,hoq,hmq⟩:=g2.2 a hb
   obtain ⟨rfl,rfl⟩:=hoq.unique hF ho
   exact hnm ((V2.iff hsk).1 hmq)
  ·obtain ⟨q,hq⟩:=List.mem_iff_getElem?.1 ht
   rcases zgu hsk hq with ⟨rfl,rfl⟩ | ⟨_,hq⟩
   ·have hr:=sp s (List.mem_of_getElem? hsk)
    refine ⟨fun hsw=>hr.1 hsw,fun _=>⟨fun e=>?_,?_⟩⟩
    ·have e':D.phase=0:=e
     omega
    ·show s.swept=false
     cases hsw:s.swept
     ·rfl
     ·have:=hr.1 hsw
      omega
   ·exact sp t (List.mem_of_getElem? hq)
 ·exact hG
theorem V1.ints {D E:WD} {a:Int} (ha:I64 a) (hI:zju D) (hs:V1 D a E):zju E:=by
 rcases hs with ⟨k,j,s,_,_,_,_,rfl⟩ | ⟨_,rfl⟩
 ·exact ⟨hI.words,hI.muts,fun x hx=>(List.mem_append.1 hx).elim (hI.grey x) fun h=>by rw [List.mem_singleton.1 h];exact ha⟩
 ·exact hI
theorem V1.going {D E:WD} {a:Int} (ha:I64 a) (h:U1 D) (hs:V1 D a E):U1 E:=⟨hs.form h.form,hs.gc h.form h.gc,hs.ints ha h.ints⟩
theorem Q7.going {D E:WD} {L:List Int} (hs:Q7 D L E) (hL:AllI L) (h:U1 D):U1 E∧E.pages=D.pages∧E.muts=D.muts∧E.phase=D.phase∧E.next=D.next∧L2 D E:=by
 induction hs with
 | nil D=>exact ⟨h,rfl,rfl,rfl,rfl,.refl _⟩
 | cons h1 _ ih =>
  obtain ⟨r1,r2,r3,r4,r5⟩:=h1.rest
  obtain ⟨a,b,c,d,e,f⟩:=ih (fun x hx=>hL x (List.mem_cons_of_mem _ hx)) (h1.going (hL _ (by simp)) h)
  exact ⟨a,b.trans r1,c.trans r3,d.trans r4,e.trans r5,h1.same.trans f⟩
theorem zpp {L:List Int} (h:AllI L):AllI (nz L):=fun x hx=>h x (List.mem_filter.1 hx).1
theorem zqq {D:WD} (h:AllI D.words) (s:Y3) (j:Nat):AllI (ptrW D s j):=fun x hx=>h x (List.mem_of_mem_drop (List.mem_of_mem_take hx))
theorem zqc {D:WD} (hF:Z8 D) {k:Nat} {t:Y3} (h:D.spans[k]?=some t):0≤t.mark∧t.mark<2 ^ t.lens.length∧∀ i,i<t.lens.length→t.lens[i]?.getD 0=0→¬ bitI t.mark i :=
 ⟨(hF.span k t h).mk0,(hF.span k t h).mk1,fun i hi hz=>((hF.span k t h).slot i hi).bit hz⟩
theorem zhd {D:WD} (hF:Z8 D) (p n:Int) (h0:0≤p) (h4:p≤4):Z8 { D with phase:=p,next:=n } :=
 L2.form (D:=D) (E:={ D with phase:=p,next:=n }) ⟨rfl,rfl,rfl,fun k s t h1 h2=>by rw [h1] at h2;cases h2;exact .refl _⟩ hF rfl rfl rfl h0 h4 fun k s t h1 h2=>zqc hF h2
theorem Y8.of {D E:WD} (hO:L2 D E) (hm:∀ k j,V2 D k j→V2 E k j) {L:List Int} (h:Y8 D L):Y8 E L :=
 ⟨h.1,fun a ha=>by obtain ⟨k,j,ho,hk⟩:=h.2 a ha;exact ⟨k,j,hO.obj ho,hm k j hk⟩⟩
theorem zpy (i:Nat):¬ bitI 0 i:=by unfold bitI;simp
theorem zqv (F:WD) {k:Nat} {t:Y3} (h:F.spans[k]?=some t):L2 F (P8 F k t) :=
 ⟨rfl,rfl,by simp [P8],fun q s u h1 h2=>by
  rcases zgu h h2 with ⟨rfl,rfl⟩ | ⟨_,h2⟩
  ·rw [h] at h1
   cases h1
   exact ⟨rfl,rfl,rfl,rfl⟩
  ·rw [h1] at h2
   cases h2
   exact .refl _⟩
theorem zqw {F:WD} (hF:Z8 F) {k:Nat} {t:Y3} (h:F.spans[k]?=some t):Z8 (P8 F k t) :=
 (zqv F h).form hF rfl rfl rfl hF.ph0 hF.ph1 fun q s u h1 h2=>by
  rcases zgu h h2 with ⟨rfl,rfl⟩ | ⟨_,h2⟩
  ·exact ⟨Int.le_refl _,Int.pow_pos (by omega),fun i _ _=>zpy i⟩
  ·exact zqc hF h2
theorem zjk {D:WD}:Y8 D []:=⟨List.nodup_nil,fun a h=>by simp at h⟩
theorem zfs.going {D E:WD} {k:Nat} {s:Y3} (h:U1 D) (hp:D.phase=4) (hu:zlt D k s) (hs:zfs D k s E):U1 E∧E.phase=4:=by
 obtain ⟨t,ht,hs⟩:=hs
 have hF:=zho h.form hu.1 (Nat.le_refl _)
 have hL:=zgb hu.1 s.lens.length
 have hM:=zqw hF ht
 generalize U2 D k s.lens.length=F at *
 obtain ⟨⟨g1,_⟩,⟨n0,n1,n2⟩,sp⟩:=h.gc
 have hg:D.grey=[]:=Decidable.byContradiction fun e=>by have:=g1 e;omega
 have hsp:∀ u,u ∈ (P8 F k t).spans→L8 (P8 F k t) u:=fun u hm=>by
  obtain ⟨q,hq⟩:=List.mem_iff_getElem?.1 hm
  rcases zgu ht hq with ⟨rfl,rfl⟩ | ⟨hne,hq⟩
  ·exact ⟨fun _=>by show F.phase=4;rw [hL.phase];exact hp,fun h=>absurd rfl h⟩
  ·rw [hL.other q hne] at hq
   have:=sp u (List.mem_of_getElem? hq)
   unfold L8 at this ⊢
   rw [show (P8 F k t).phase=D.phase from hL.phase]
   exact this
 have hI:∀ L:List Y3,zju { F with spans:=L }:=fun L=>⟨hL.ints h.ints.words,by show ∀ r,r ∈ F.muts→AllI r;rw [hL.muts];exact h.ints.muts,by show AllI F.grey;rw [hL.grey];exact h.ints.grey⟩
 have hN:∀ L:List Y3,J0 { F with spans:=L }:=fun L=>by
  unfold J0
  rw [show ({ F with spans:=L }:WD).next=D.next from hL.next,show ({ F with spans:=L }:WD).muts=D.muts from hL.muts,show ({ F with spans:=L }:WD).phase=D.phase from hL.phase]
  exact ⟨n0,n1,n2⟩
 have hgF:F.grey=[]:=hL.grey.trans hg
 have hGr:∀ L:List Y3,zlh { F with spans:=L }:=fun L=>⟨fun e=>absurd hgF e,by rw [show ({ F with spans:=L }:WD).grey=[] from hgF];exact zjk⟩
 rcases hs with ⟨he,rfl⟩ | ⟨he,rfl⟩
 ·refine ⟨⟨zwh hM (s:=offS t) (List.getElem?_set_self (List.getElem?_eq_some_iff.1 ht).1) he,⟨hGr _,hN _,fun u hm=>?_⟩,hI _⟩,by show F.phase=4;rw [hL.phase];exact hp⟩
  have hm':u ∈ (P8 F k t).spans:=List.mem_of_mem_eraseIdx hm
  exact hsp u hm'
 ·exact ⟨⟨hM,⟨hGr _,hN _,hsp⟩,hI _⟩,by show F.phase=4;rw [hL.phase];exact hp⟩
theorem znp {L:List Y3} {k:Nat} {u:Y3} (h:(L.map M1)[k]?=some u):∃ s,L[k]?=some s∧u=M1 s:=by
 rw [List.getElem?_map,Option.map_eq_some_iff] at h
 obtain ⟨s,hs,rfl⟩:=h
 exact ⟨s,hs,rfl⟩
theorem zet.going {D E:WD} (h:U1 D) (hs:zet D E):U1 E:=by
 obtain ⟨⟨g1,g2⟩,⟨n0,n1,n2⟩,sp⟩:=id h.gc
 have sp':∀ (p n:Int),(p≠0∨D.phase=0∧p=0)→(D.phase=4→p=4)→∀ s,s ∈ D.spans→L8 { D with phase:=p,next:=n } s:=fun p n hp hp4 s hs=>by
  have:=sp s hs
  refine ⟨fun h=>hp4 (this.1 h),fun h=>⟨?_,(this.2 h).2⟩⟩
  have h1:=(this.2 h).1
  show p≠0
  omega
 have noG:D.phase≠1→D.phase≠2→D.grey=[]:=fun a b=>Decidable.byContradiction fun e=>by have:=g1 e;omega
 rcases hs with ⟨p,rfl⟩ | ⟨p,hl⟩ | ⟨p,hl⟩ | ⟨p,rfl⟩ | ⟨p,hl⟩
 ·exact h
 ·rcases hl with ⟨r,F,_,hr,hA,rfl⟩ | ⟨hn,rfl⟩
  ·obtain ⟨hG,b,c,d,e,f⟩:=hA.going (zpp (h.ints.muts r (List.mem_of_getElem? hr))) h
   have hlt:=(List.getElem?_eq_some_iff.1 hr).1
   obtain ⟨a1,a2,a3⟩:=hG.gc
   refine ⟨?_,⟨⟨a1.1,a1.2.of ⟨rfl,rfl,rfl,fun k s t h1 h2=>by rw [h1] at h2;cases h2;exact .refl _⟩ fun _ _ h=>h⟩,?_,a3⟩,⟨hG.ints.words,hG.ints.muts,hG.ints.grey⟩⟩
   ·have:=zhd hG.form F.phase (D.next+1) hG.form.ph0 hG.form.ph1
    exact this
   ·unfold J0
    show 0≤D.next+1∧D.next+1≤(F.muts.length:Int)∧(0<D.next+1→F.phase=1)
    rw [c,d]
    exact ⟨by omega,by omega,fun _=>p⟩
  ·refine ⟨zhd h.form 2 0 (by omega) (by omega),⟨⟨fun _=>.inr rfl,g2.of ⟨rfl,rfl,rfl,fun k s t h1 h2=>by rw [h1] at h2;cases h2;exact .refl _⟩ fun _ _ h=>h⟩,⟨Int.le_refl _,by show (0:Int)≤(D.muts.length:Int);omega,fun h=>absurd h (by show ¬ (0:Int)<0;omega)⟩,sp' 2 0 (.inl (by omega)) (by omega)⟩,⟨h.ints.words,h.ints.muts,h.ints.grey⟩⟩
 ·rcases hl with ⟨G,a,k,j,s,hg,ho,hsk,hA⟩ | ⟨hn,rfl⟩
  ·refine (hA.going (zpp (zqq h.ints.words s j)) ⟨zgh h.form G,⟨⟨fun _=>.inr p,?_⟩,⟨n0,n1,n2⟩,sp⟩,⟨h.ints.words,h.ints.muts,fun x hx=>h.ints.grey x (by rw [hg];exact List.mem_append.2 (.inl hx))⟩⟩).1
   rw [hg] at g2
   exact Y8.of (D:=D) (E:={ D with grey:=G }) ⟨rfl,rfl,rfl,fun k s t h1 h2=>by rw [h1] at h2;cases h2;exact .refl _⟩ (fun _ _ h=>h) ⟨(List.nodup_append.1 g2.1).1,fun b hb=>g2.2 b (List.mem_append.2 (.inl hb))⟩
  ·have hf:=zhd h.form 3 D.next (by omega) (by omega)
   exact ⟨hf,⟨⟨fun e=>absurd hn e,by show Y8 _ D.grey;rw [hn];exact zjk⟩,⟨n0,n1,fun e=>by have:=n2 e;omega⟩,sp' 3 D.next (.inl (by omega)) (by omega)⟩,⟨h.ints.words,h.ints.muts,h.ints.grey⟩⟩
 ·have hf:=zhd h.form 4 D.next (by omega) (by omega)
  have hn:=noG (by omega) (by omega)
  exact ⟨hf,⟨⟨fun e=>absurd hn e,by show Y8 _ D.grey;rw [hn];exact zjk⟩,⟨n0,n1,fun e=>by have:=n2 e;omega⟩,sp' 4 D.next (.inl (by omega)) (by omega)⟩,⟨h.ints.words,h.ints.muts,h.ints.grey⟩⟩
 ·rcases hl with ⟨k,s,hu,hsw⟩ | ⟨hall,rfl⟩
  ·exact (hsw.going h p hu).1
  ·have hn:=noG (by omega) (by omega)
   have hO:L2 D { D with phase:=0,spans:=D.spans.map M1 }:=⟨rfl,rfl,by simp,fun q s u h1 h2=>by
    obtain ⟨s',hs',rfl⟩:=znp h2
    rw [h1] at hs'
    cases hs'
    exact ⟨rfl,rfl,rfl,rfl⟩⟩
   refine ⟨hO.form h.form rfl rfl rfl (Int.le_refl _) (by show (0:Int)≤4;omega) fun q s u h1 h2=>?_,⟨⟨fun e=>absurd hn e,by show Y8 _ D.grey;rw [hn];exact zjk⟩,⟨n0,n1,fun e=>by have:=n2 e;omega⟩,fun u hm=>?_⟩,⟨h.ints.words,h.ints.muts,h.ints.grey⟩⟩
   ·obtain ⟨s',hs',rfl⟩:=znp h2
    have hm:=zqc h.form hs'
    exact hm
   ·obtain ⟨s,hs,rfl⟩:=List.mem_map.1 hm
    refine ⟨fun e=>Bool.noConfusion e,fun e=>?_⟩
    have h1:=((sp s hs).2 e).2
    rw [hall s hs] at h1
    cases h1
theorem zfh.going {n:Nat} {D E:WD} (h:zfh n D E) (hG:U1 D):U1 E:=by
 induction h with
 | none D=>exact hG
 | more _ h2 ih=>exact h2.going (ih hG)
theorem zfh.unique {n:Nat} {D E F:WD} (hG:U1 D) (h:zfh n D E) (g:zfh n D F):F=E:=by
 induction h generalizing F with
 | none D=>cases g;rfl
 | more h1 h2 ih =>
  cases g with
  | more g1 g2 =>
   obtain rfl:=ih hG g1
   exact h2.unique (h1.going hG).form g2
def zhh (D:WD) (D':WD):Prop:=(U0 D∧zet D D')∨(¬ U0 D∧D'=zeroD)
def zzp (n:Int):Prop:=0≤n∧n≤10000
def zoa (D:WD) (n:Int) (D':WD):Prop:=(U0 D∧zzp n∧zfh n.toNat D D')∨(¬ (U0 D∧zzp n)∧D'=zeroD)
theorem U0.going {D:WD} (h:U0 D) (hf:FitD D):U1 D:=⟨h.1,h.2.1,hf.intsIn⟩
theorem zhh.unique {D:WD} {D1 D2:WD} (h1:zhh D D1) (h2:zhh D D2):D2=D1:=by
 rcases h1 with ⟨r,h1⟩ | ⟨n,rfl⟩ <;> rcases h2 with ⟨r',h2⟩ | ⟨n',rfl⟩
 ·exact h1.unique r.1 h2
 ·exact absurd r n'
 ·exact absurd r' n
 ·rfl
theorem zoa.unique {D:WD} {n:Int} {D1 D2:WD} (hf:FitD D) (h1:zoa D n D1) (h2:zoa D n D2):D2=D1:=by
 rcases h1 with ⟨r,k,h1⟩ | ⟨m,rfl⟩ <;> rcases h2 with ⟨r',k',h2⟩ | ⟨m',rfl⟩
 ·exact h1.unique (r.going hf) h2
 ·exact absurd ⟨r,k⟩ m'
 ·exact absurd ⟨r',k'⟩ m
 ·rfl
theorem zoa.one {D D':WD} (h:zoa D 1 D'):zhh D D':=by
 rcases h with ⟨r,_,h⟩ | ⟨hn,rfl⟩
 ·refine .inl ⟨r,?_⟩
  cases h with
  | more h1 h2 =>
   cases h1
   exact h2
 ·exact .inr ⟨fun r=>hn ⟨r,by unfold zzp;omega⟩,rfl⟩
end Go.Proofs.YtilkidaihbhfpaaGreat
