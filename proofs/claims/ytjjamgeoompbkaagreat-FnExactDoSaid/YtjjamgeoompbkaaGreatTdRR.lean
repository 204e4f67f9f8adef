import Derived.Test.YtjjamgeoompbkaaGreatTdSDB

set_option maxRecDepth 100000
set_option maxHeartbeats 16000000
set_option linter.all false
namespace Go.Proofs.YtjjamgeoompbkaaGreat
open Go.RowKit
open Go.Proofs.Tryz
def ObjS(D:WD)(a:Int)(s:Y7)(j:Nat):Prop:=s∈D.spans∧j<s.lens.length∧0<s.lens[j]?.getD 0∧D.base+atW s (j:Int)=a
def Safe(D:WD)(s:Y7)(j:Nat):Prop:=¬(D.phase=4∧s.swept=false∧¬bitI s.mark j)
def Ob(D:WD)(a:Int):Prop:=∃s j,ObjS D a s j
def Lv(D:WD)(a:Int):Prop:=∃s j,ObjS D a s j∧Safe D s j
def Mk(D:WD)(a:Int):Prop:=∃s j,ObjS D a s j∧bitI s.mark j
def Pt(D:WD)(a b:Int):Prop:=∃s j,ObjS D a s j∧b∈ptrW D s j
inductive Com (D:WD):Int→Prop
 | start {g b:Int}:g∈D.grey→Pt D g b→Ob D b→Com D b
 | step {a b:Int}:Com D a→¬Mk D a→Pt D a b→Ob D b→Com D b
def Kp(D:WD)(a:Int):Prop:=a=0∨Com D a∨Mk D a
theorem zef{D:WD}{a:Int}{s:Y7}{j:Nat}:ObjS D a s j↔∃k,R6 D a k j∧D.spans[k]?=some s:=by
 constructor
 ·rintro⟨hm,h1,h2,h3⟩
  obtain⟨k,hk⟩:=List.mem_iff_getElem?.1 hm;exact⟨k,⟨s,hk,h1,h2,h3⟩,hk⟩
 ·rintro⟨k,⟨t,ht,h1,h2,h3⟩,hk⟩
  rw[hk]at ht
  cases ht
  exact⟨List.mem_of_getElem? hk,h1,h2,h3⟩
theorem R6.objS{D:WD}{a:Int}{k j:Nat}(h:R6 D a k j):∃s,D.spans[k]?=some s∧ObjS D a s j:=by
 obtain⟨s,hs,h1⟩:=id h;exact⟨s,hs,zef.2 ⟨k,h,hs⟩⟩
theorem ObjS.unique{D:WD}{a:Int}{s t:Y7}{i j:Nat}(hF:Y5 D)(h:ObjS D a s j)(g:ObjS D a t i):t=s∧i=j:=by
 obtain⟨k,ho,hs⟩:=zef.1 h;obtain⟨k',ho',hs'⟩:=zef.1 g;obtain⟨rfl,rfl⟩:=ho.unique hF ho';rw[hs]at hs'
 cases hs'
 exact⟨rfl,rfl⟩
theorem zlv{D:WD}{a:Int}:Ob D a↔P8 D a :=
 ⟨fun⟨s,j,h⟩=>by obtain⟨k,ho,_⟩:=zef.1 h;exact⟨k,j,ho⟩,fun⟨k,j,h⟩=>by obtain⟨s,_,ho⟩:=h.objS;exact⟨s,j,ho⟩⟩
theorem ziz{D:WD}{a:Int}:Mk D a↔U8 D a:=by
 constructor
 ·rintro⟨s,j,h,hb⟩
  obtain⟨k,ho,hs⟩:=zef.1 h;exact⟨k,j,ho,s,hs,hb⟩
 ·rintro⟨k,j,h,s,hs,hb⟩
  exact⟨s,j,zef.2 ⟨k,h,hs⟩,hb⟩
theorem zmq{D:WD}{a:Int}:Live D a↔a=0∨Lv D a:=by
 constructor
 ·rintro(h|⟨k,j,ho,hd⟩)
  ·exact .inl h
  ·obtain⟨s,hs,h⟩:=ho.objS
   exact .inr ⟨s,j,h,fun h'=>hd ⟨h'.1,s,hs,h'.2⟩⟩
 ·rintro(h|⟨s,j,h,hd⟩)
  ·exact .inl h
  ·obtain⟨k,ho,hs⟩:=zef.1 h
   exact .inr ⟨k,j,ho,fun h'=>hd ((zei.iff hs).1 h')⟩
theorem zqy{D:WD}{a b:Int}:Pt D a b↔∃k j s,R6 D a k j∧D.spans[k]?=some s∧b∈ptrW D s j:=by
 constructor
 ·rintro⟨s,j,h,hb⟩
  obtain⟨k,ho,hs⟩:=zef.1 h;exact⟨k,j,s,ho,hs,hb⟩
 ·rintro⟨k,j,s,ho,hs,hb⟩
  exact⟨s,j,zef.2 ⟨k,ho,hs⟩,hb⟩
theorem zoo{D:WD}{L:List Int}{b:Int}:zsg D L b↔∃a,a∈L∧Pt D a b :=
 ⟨fun⟨a,k,j,s,ha,ho,hs,hb⟩=>⟨a,ha,zqy.2 ⟨k,j,s,ho,hs,hb⟩⟩,fun⟨a,ha,h⟩=>by obtain⟨k,j,s,ho,hs,hb⟩:=zqy.1 h;exact⟨a,k,j,s,ha,ho,hs,hb⟩⟩
theorem zrj{D:WD}(hF:Y5 D){a b:Int}:Leads D (fun k j=>¬U4 D k j) a b↔Pt D a b∧¬Mk D a:=by
 constructor
 ·rintro⟨k,j,s,ho,hs,hm,hb⟩
  refine⟨zqy.2 ⟨k,j,s,ho,hs,hb⟩,fun h=>hm ((U8.at_ hF ho).1 (ziz.1 h))⟩
 ·rintro⟨h,hm⟩
  obtain⟨k,j,s,ho,hs,hb⟩:=zqy.1 h;exact⟨k,j,s,ho,hs,fun h'=>hm (ziz.2 ⟨k,j,ho,h'⟩),hb⟩
theorem com_iff{D:WD}(hF:Y5 D){a:Int}:Com D a↔zfa D a:=by
 constructor
 ·intro h
  induction h with
  | start hg hp ho=>exact .start (zoo.2 ⟨_,hg,hp⟩) (zlv.1 ho)
  | step _ hm hp ho ih=>exact .step ih ((zrj hF).2 ⟨hp,hm⟩) (zlv.1 ho)
 ·intro h
  induction h with
  | start h1 h2 =>
   obtain⟨g,hg,hp⟩:=zoo.1 h1;exact .start hg hp (zlv.2 h2)
  | step _ h2 h3 ih =>
   obtain⟨hp,hm⟩:=(zrj hF).1 h2;exact .step ih hm hp (zlv.2 h3)
theorem Com.ob{D:WD}{a:Int}(h:Com D a):Ob D a:=by cases h<;>assumption
theorem Lv.ob{D:WD}{a:Int}(h:Lv D a):Ob D a:=by obtain⟨s,j,h,_⟩:=h;exact⟨s,j,h⟩
theorem Pt.ob{D:WD}{a b:Int}(h:Pt D a b):Ob D a:=by obtain⟨s,j,h,_⟩:=h;exact⟨s,j,h⟩
theorem zmr{D:WD}(hF:Y5 D){a:Int}:Kp D a↔Kept D a:=by unfold Kp Kept;rw[com_iff hF,ziz]
theorem Ob.ne{D:WD}(hF:Y5 D){a:Int}(h:Ob D a):a≠0:=zrb hF (zlv.1 h)
theorem safe_of{D:WD}(h:D.phase≠4)(s:Y7)(j:Nat):Safe D s j:=fun h'=>h h'.1
theorem Ob.lv{D:WD}(hp:D.phase≠4){a:Int}(h:Ob D a):Lv D a:=by obtain⟨s,j,h⟩:=h;exact⟨s,j,h,safe_of hp _ _⟩
theorem Com.none{D:WD}(hg:D.grey=[]){a:Int}:¬Com D a:=by
 intro h
 induction h with
 | start h1 _ _=>rw[hg]at h1;simp at h1
 | step _ _ _ _ ih=>exact ih
structure RightA(D:WD):Prop where
 form:Y5 D
 gc:zfg D
 roots:∀r,r∈D.muts→∀a,a∈r→a=0∨Lv D a
 ptrs:∀a b,Lv D a→Pt D a b→b=0∨Lv D b
 seen:D.phase≠0→D.phase≠4→∀(m:Nat) (r:List Int),D.muts[m]?=some r→M5 D (m:Int)→∀a,a∈r→Kp D a
 kept:D.phase≠0→D.phase≠4→∀a b,Mk D a→Pt D a b→Kp D b
theorem J7{D:WD}:M1 D↔RightA D:=by
 constructor
 ·rintro⟨hF,hG,⟨hr,hs⟩,hk⟩
  refine⟨hF,hG,fun r h a ha=>zmq.1 (hr r h a ha),fun a b hl hp=>?_,fun h0 h4 m r hm hs a ha=>(zmr hF).2 ((hk h0 h4).1 m r (List.getElem?_eq_some_iff.1 hm).1 hm hs a ha),fun h0 h4 a b hm hp=>?_⟩
  ·obtain⟨k,j,s,ho,hs',hb⟩:=zqy.1 hp
   obtain⟨t,i,ht,hsf⟩:=hl;obtain⟨rfl,rfl⟩:=(zef.2 ⟨k,ho,hs'⟩:ObjS D a s j).unique hF ht;exact zmq.1 (hs a k i t (.inl (List.getElem?_eq_some_iff.1 hs').1) ho hs' (fun h=>hsf ((zei.iff hs').1 h)) b hb)
  ·obtain⟨k,j,s,ho,hs',hb⟩:=zqy.1 hp
   exact(zmr hF).2 ((hk h0 h4).2 a k j s (.inl (List.getElem?_eq_some_iff.1 hs').1) ho hs' ((U8.at_ hF ho).1 (ziz.1 hm)) b hb)
 ·intro h
  refine⟨h.form,h.gc,⟨fun r hr a ha=>zmq.2 (h.roots r hr a ha),fun a k j s _ ho hs hd b hb=>zmq.2 (h.ptrs a b ?_ (zqy.2 ⟨k,j,s,ho,hs,hb⟩))⟩,fun h0 h4=>⟨fun m r _ hm hs a ha=>(zmr h.form).1 (h.seen h0 h4 m r hm hs a ha),fun a k j s _ ho hs hm b hb=>(zmr h.form).1 (h.kept h0 h4 a b (ziz.2 ⟨k,j,ho,hm⟩) (zqy.2 ⟨k,j,s,ho,hs,hb⟩))⟩⟩;exact⟨s,j,zef.2 ⟨k,ho,hs⟩,fun h'=>hd ((zei.iff hs).2 h')⟩
theorem Mid.of_right{D:WD}(h:M1 D)(hp:D.phase=1∨D.phase=2):Mid D []:=by
 obtain⟨hF,⟨⟨_,g⟩,n,sp⟩,⟨hr,hs⟩,hk⟩:=h;have hk:=hk (by omega) (by omega);have hl:∀a,Live D a→a=0∨P8 D a:=fun a h=>h.imp id fun⟨k,j,ho,_⟩=>⟨k,j,ho⟩
 exact⟨hF,hp,fun r hm a ha=>hl a (hr r hm a ha),fun a k j s ho hs' b hb=>hl b (hs a k j s (.inl (List.getElem?_eq_some_iff.1 hs').1) ho hs' (fun h=>by have:=h.1;omega) b hb),sp,n,g,
  fun m r hm hsn a ha=>zlr.iff.2 (hk.1 m r (List.getElem?_eq_some_iff.1 hm).1 hm hsn a ha),fun a k j s ho hs' hm b hb=>zlr.iff.2 (hk.2 a k j s (.inl (List.getElem?_eq_some_iff.1 hs').1) ho hs' hm b hb)⟩
theorem Mid.more{D:WD}{Z Y:List Int}(h:Mid D Z)(hZ:∀b,b∈Z→b∈Y):Mid D Y :=
 ⟨h.form,h.ph,h.roots,h.ptrs,h.span,h.next,h.grey,fun m r hm hs a ha=>(h.seen m r hm hs a ha).more hZ,fun a k j s ho hs hm b hb=>(h.kept a k j s ho hs hm b hb).more hZ⟩
theorem Mid.right{D:WD}(h:Mid D []):M1 D:=by
 have hd:∀k j,¬zei D k j:=fun k j hd=>by have:=hd.1;have:=h.ph;omega
 have hl:∀a,a=0∨P8 D a→Live D a:=fun a ha=>ha.imp id fun⟨k,j,ho⟩=>⟨k,j,ho,hd k j⟩
 exact⟨h.form,⟨⟨fun _=>h.ph,h.grey⟩,h.next,h.span⟩,⟨fun r hr a ha=>hl a (h.roots r hr a ha),fun a k j s _ ho hs _ b hb=>hl b (h.ptrs a k j s ho hs b hb)⟩,
  fun _ _=>⟨fun m r _ hm hs a ha=>zlr.iff.1 (h.seen m r hm hs a ha),fun a k j s _ ho hs hm b hb=>zlr.iff.1 (h.kept a k j s ho hs hm b hb)⟩⟩
theorem Com.keep{D E:WD}(hg:∀g b,g∈D.grey→Pt D g b→Ob D b→Kp E b)(hs:∀a b,Ob D a→¬Mk D a→Kp E a→Pt D a b→Ob D b→Kp E b){a:Int}(h:Com D a):Kp E a:=by
 induction h with
 | start h1 h2 h3=>exact hg _ _ h1 h2 h3
 | step h0 h1 h2 h3 ih=>exact hs _ _ h0.ob h1 ih h2 h3
theorem Kp.same(D E:WD)(hs:E.spans=D.spans)(hw:E.words=D.words)(hb:E.base=D.base)(hg:E.grey=D.grey){a:Int}(h:Kp D a):Kp E a:=by
 obtain⟨eb,ep,ew,ed,es,em,eph,en,eg⟩:=E;obtain⟨db,dp,dw,dd,ds,dm,dph,dn,dg⟩:=D;simp only at hs hw hb hg;subst hs hw hb hg
 rcases h with h|h|h
 ·exact .inl h
 ·right;left
  induction h with
  | start h1 h2 h3=>exact .start h1 h2 h3
  | step _ h1 h2 h3 ih=>exact .step ih h1 h2 h3
 ·exact .inr (.inr h)
theorem zjy{D:WD}(hF:Y5 D){k k' j j':Nat}{s s':Y7}(hs:D.spans[k]?=some s)(hs':D.spans[k']?=some s')(hj:j<s.lens.length)(hj':j'<s'.lens.length){i i':Int}
  (i0:0≤i) (i1:i<sz s.cls) (i0':0≤i') (i1':i'<sz s'.cls) (h:atW s (j:Int)+i=atW s' (j':Int)+i'):k=k'∧j=j'∧i=i':=by
 have A:=hF.span k s hs;have A':=hF.span k' s' hs';have l:=A.lens;have l':=A'.lens;have h1:=zhx (c:=s.cls) (i:=(j:Int)) (t:=i) (by omega) (by omega) i0 i1;have h2:=zhx (c:=s'.cls) (i:=(j':Int)) (t:=i') (by omega) (by omega) i0' i1';unfold atW at h;have hp:s.page=s'.page:=by omega
 have hk:k=k':=by
  rcases Nat.lt_trichotomy k k' with h|h|h
  ·have:=zhz hF hs hs' h;omega
  ·exact h
  ·have:=zhz hF hs' hs h;omega
 subst hk;rw[hs]at hs'
 cases hs'
 have hj:j=j':=by
  rcases Nat.lt_trichotomy j j' with h3|h3|h3
  ·have:=Int.mul_le_mul_of_nonneg_right (show(j:Int)+1≤(j':Int) by omega) (show(0:Int)≤sz s.cls by omega)
   rw[Int.add_mul]at this;omega
  ·exact h3
  ·have:=Int.mul_le_mul_of_nonneg_right (show(j':Int)+1≤(j:Int) by omega) (show(0:Int)≤sz s.cls by omega)
   rw[Int.add_mul]at this;omega
 subst hj;exact⟨rfl,rfl,by omega⟩
theorem zhs{D:WD}(hF:Y5 D){k j:Nat}{s:Y7}(hs:D.spans[k]?=some s)(hj:j<s.lens.length):0≤atW s (j:Int):=by
 have A:=hF.span k s hs;have l:=A.lens;have:=zhx (c:=s.cls) (i:=(j:Int)) (t:=0) (by omega) (by omega) (by omega) (by have:=zkl A.cls;omega);have:=A.pg0;unfold atW;omega
theorem zjj{D:WD}{s:Y7}{j:Nat}{b:Int}:b∈ptrW D s j↔∃i:Nat,i<(s.ptrs[j]?.getD 0).toNat∧D.words[(atW s (j:Int)).toNat+i]?=some b:=by
 unfold ptrW;rw[List.mem_iff_getElem?];constructor
 ·rintro⟨i,hi⟩
  rw[List.getElem?_take]at hi
  split at hi
  ·rename_i h
   rw[List.getElem?_drop]at hi;exact⟨i,h,hi⟩
  ·cases hi
 ·rintro⟨i,h,hi⟩
  exact⟨i,by rw[List.getElem?_take,if_pos h,List.getElem?_drop];exact hi⟩
theorem Kp.map{D E:WD}(hg:∀g,g∈D.grey→g∈E.grey)(hp:∀a b,Pt D a b→Pt E a b)(ho:∀a,Ob D a→Ob E a)(hm:∀a,Ob D a→Mk E a→Mk D a)(hm':∀a,Mk D a→Mk E a){a:Int}(h:Kp D a):Kp E a:=by
 rcases h with h|h|h
 ·exact .inl h
 ·right;left
  induction h with
  | start h1 h2 h3=>exact .start (hg _ h1) (hp _ _ h2) (ho _ h3)
  | step h0 h1 h2 h3 ih=>exact .step ih (fun h=>h1 (hm _ h0.ob h)) (hp _ _ h2) (ho _ h3)
 ·exact .inr (.inr (hm' _ h))
theorem zka{D:WD}{m h x:Int}(m0:0≤m)(m1:m<(D.muts.length:Int)){k:Nat}{r:List Int}(hk:(N0 D m h x).muts[k]?=some r) :
  (k=m.toNat∧∃r0,D.muts[k]?=some r0∧r=r0.set h.toNat x)∨(k≠m.toNat∧D.muts[k]?=some r):=by
 have hl:m.toNat<D.muts.length:=by omega
 have hs:D.muts[m.toNat]?=some (D.muts[m.toNat]'hl):=List.getElem?_eq_getElem _;have hk':(D.muts.set m.toNat ((D.muts[m.toNat]?.getD []).set h.toNat x))[k]?=some r:=hk
 by_cases e:k=m.toNat
 ·subst e
  rw[List.getElem?_set_self hl]at hk'
  cases hk'
  exact .inl ⟨rfl,_,hs,by rw[hs];rfl⟩
 ·rw[List.getElem?_set_ne (fun h=>e h.symm)]at hk'
  exact .inr ⟨e,hk'⟩
theorem zfx{D:WD}{m h x:Int}(hR:M1 D)(m0:0≤m)(m1:m<(D.muts.length:Int))(hx:x=0∨Lv D x)(hk:D.phase≠0→D.phase≠4→M5 D m→Kp D x):M1 (N0 D m h x):=by
 have A:=J7.1 hR;have kp:∀{a:Int},Kp D a→Kp (N0 D m h x) a:=fun h0=>Kp.same D (N0 D m h x) rfl rfl rfl rfl h0;refine J7.2 ⟨zqw hR.1 m h x,⟨A.gc.1,?_,A.gc.2.2⟩,fun r hr a ha=>?_,A.ptrs,fun h0 h4 m' r hm hs a ha=>?_,fun h0 h4 a b hm hp=>kp (A.kept h0 h4 a b hm hp)⟩
 ·have:=A.gc.2.1
  unfold zey at this ⊢
  show 0≤D.next∧D.next≤((D.muts.set _ _).length:Int)∧_
  rw[List.length_set];exact this
 ·obtain⟨k,hk'⟩:=List.mem_iff_getElem?.1 hr
  rcases zka m0 m1 hk' with⟨rfl,r0,hr0,rfl⟩|⟨_,h0⟩
  ·rcases List.mem_or_eq_of_mem_set ha with ha|rfl
   ·exact A.roots r0 (List.mem_of_getElem? hr0) a ha
   ·exact hx
  ·exact A.roots r (List.mem_of_getElem? h0) a ha
 ·rcases zka m0 m1 hm with⟨rfl,r0,hr0,rfl⟩|⟨_,hr0⟩
  ·rcases List.mem_or_eq_of_mem_set ha with ha|rfl
   ·exact kp (A.seen h0 h4 _ r0 hr0 hs a ha)
   ·have hs':M5 D ((m.toNat:Nat):Int):=hs
    rw[show((m.toNat:Nat):Int)=m by omega]at hs';exact kp (hk h0 h4 hs')
  ·exact kp (A.seen h0 h4 m' r hr0 hs a ha)
theorem zfy{D:WD}{m h x:Int}(hR:M1 (N0 D m h x))(hI:zld D)(m0:0≤m)(m1:m<(D.muts.length:Int))(hx:I64 x):M7 (N0 D m h x):=by
 refine⟨hR.1,hR.2.1,hI.words,fun r hr=>?_,hI.grey⟩;obtain⟨k,hk'⟩:=List.mem_iff_getElem?.1 hr
 rcases zka m0 m1 hk' with⟨rfl,r0,hr0,rfl⟩|⟨_,h0⟩
 ·intro y hy
  rcases List.mem_or_eq_of_mem_set hy with hy|rfl
  ·exact hI.muts r0 (List.mem_of_getElem? hr0) y hy
  ·exact hx
 ·exact hI.muts r (List.mem_of_getElem? h0)
theorem zyc{D:WD}(hF:Y5 D){m h:Int}(m0:0≤m)(m1:m<(D.muts.length:Int))(hh:HOk h):∃r,D.muts[m.toNat]?=some r∧V2 D m h∈r:=by
 have hl:m.toNat<D.muts.length:=by omega
 have hs:D.muts[m.toNat]?=some (D.muts[m.toNat]'hl):=List.getElem?_eq_getElem _;refine⟨_,hs,?_⟩;have h6:=hF.roots _ _ hs;unfold HOk at hh;have hl2:h.toNat<(D.muts[m.toNat]'hl).length:=by omega
 unfold V2;rw[hs,Option.getD_some,List.getElem?_eq_getElem hl2,Option.getD_some];exact List.getElem_mem _
def zhf(D:WD)(p:Nat)(z:Int):WD:={ D with words:=D.words.set p z,dirty:=zfs D.dirty (p:Int) 1 }
section
variable {D:WD} {a0:Int} {k j:Nat} {s:Y7} {i:Int}
theorem zxg(hF:Y5 D)(hs:D.spans[k]?=some s)(hj:j<s.lens.length)(i0:0≤i)(i1:i<sz s.cls):(atW s (j:Int)+i).toNat<D.words.length:=by
 have A:=hF.span k s hs;have l:=A.lens;have:=zhx (c:=s.cls) (i:=(j:Int)) (t:=i) (by omega) (by omega) i0 i1;have:=A.pg0;have:=A.pg1;have:=hF.words;unfold atW;omega
theorem zqv(hF:Y5 D)(ho:R6 D a0 k j)(hs:D.spans[k]?=some s)(i0:0≤i)(i1:i<s.lens[j]?.getD 0)(z:Int):Y5 (zhf D (atW s (j:Int)+i).toNat z):=by
 refine⟨hF.geo,by show(((D.words.set _ z).length:Nat):Int)=_;rw[List.length_set];exact hF.words,by show(((zfs _ _ _).length:Nat):Int)=_;rw[znw];exact hF.dirty,hF.spans,hF.ph0,hF.ph1,fun q u hu=>⟨(hF.span q u hu).pg0,(hF.span q u hu).pg1,(hF.span q u hu).prev,(hF.span q u hu).cls,(hF.span q u hu).lens,(hF.span q u hu).ptrs,(hF.span q u hu).slot,(hF.span q u hu).mk0,(hF.span q u hu).mk1⟩,fun x hx hu=>?_,hF.roots⟩
 show(D.words.set (atW s (j:Int)+i).toNat z)[x]?.getD 0=0
 have hx':x<D.words.length:=by
  have:x<(D.words.set (atW s (j:Int)+i).toNat z).length:=hx
  rwa [List.length_set]at this
 by_cases e:x=(atW s (j:Int)+i).toNat
 ·subst e
  obtain⟨t,ht,hj,_⟩:=ho;rw[hs]at ht
  cases ht
  have n0:=zhs hF hs hj;exact absurd (show Used (zhf D _ z) _ from⟨k,s,(List.getElem?_eq_some_iff.1 hs).1,hs,j,hj,i.toNat,by omega,by omega⟩) hu
 ·rw[List.getElem?_set_ne (fun h=>e h.symm)]
  exact hF.zero x hx' hu
theorem zvu(hF:Y5 D)(ho:R6 D a0 k j)(hs:D.spans[k]?=some s)(i0:0≤i)(i1:i<s.lens[j]?.getD 0)(z:Int)(a b:Int) :
  (Pt (zhf D (atW s (j:Int)+i).toNat z) a b→Pt D a b∨(a=a0∧b=z∧i<s.ptrs[j]?.getD 0)) ∧
  (Pt D a b→Pt (zhf D (atW s (j:Int)+i).toNat z) a b∨(a=a0∧b=D.words[(atW s (j:Int)+i).toNat]?.getD 0∧i<s.ptrs[j]?.getD 0)):=by
 obtain⟨s',hs',hj,h0,ha⟩:=ho;rw[hs]at hs'
 cases hs'
 have S:=(hF.span k s hs).slot j hj;have n0:=zhs hF hs hj;have l1:=S.l1;have hin:=zxg hF hs hj i0 (by omega)
 have key:∀(u:Y7) (q:Nat) (t:Nat),u∈D.spans→q<u.lens.length→t<(u.ptrs[q]?.getD 0).toNat→(atW u (q:Int)).toNat+t=(atW s (j:Int)+i).toNat→u=s∧q=j∧(t:Int)=i:=fun u q t hm hq ht he=>by
  obtain⟨k',hu⟩:=List.mem_iff_getElem?.1 hm;have U:=(hF.span k' u hu).slot q hq;have:=U.p1;have:=U.l1;have n1:=zhs hF hu hq;obtain⟨rfl,rfl,h⟩:=zjy hF hu hs hq hj (i:=(t:Int)) (i':=i) (by omega) (by omega) i0 (by omega) (by omega);rw[hs]at hu
  cases hu
  exact⟨rfl,rfl,h⟩
 constructor
 ·rintro⟨u,q,⟨hm,hq,hl,hb0⟩,hb⟩
  obtain⟨t,ht,hw⟩:=zjj.1 hb;have hw':(D.words.set (atW s (j:Int)+i).toNat z)[(atW u (q:Int)).toNat+t]?=some b:=hw
  by_cases e:(atW u (q:Int)).toNat+t=(atW s (j:Int)+i).toNat
  ·obtain⟨rfl,rfl,rfl⟩:=key u q t hm hq ht e
   rw[e,List.getElem?_set_self hin]at hw'
   cases hw'
   exact .inr ⟨by rw[←hb0,←ha];rfl,rfl,by omega⟩
  ·rw[List.getElem?_set_ne (fun h=>e h.symm)]at hw'
   exact .inl ⟨u,q,⟨hm,hq,hl,hb0⟩,zjj.2 ⟨t,ht,hw'⟩⟩
 ·rintro⟨u,q,⟨hm,hq,hl,hb0⟩,hb⟩
  obtain⟨t,ht,hw⟩:=zjj.1 hb
  by_cases e:(atW u (q:Int)).toNat+t=(atW s (j:Int)+i).toNat
  ·obtain⟨rfl,rfl,rfl⟩:=key u q t hm hq ht e
   rw[e]at hw;exact .inr ⟨by rw[←hb0,←ha],by rw[hw];rfl,by omega⟩
  ·refine .inl ⟨u,q,⟨hm,hq,hl,hb0⟩,zjj.2 ⟨t,ht,?_⟩⟩
   show(D.words.set (atW s (j:Int)+i).toNat z)[(atW u (q:Int)).toNat+t]?=some b
   rw[List.getElem?_set_ne (fun h=>e h.symm)];exact hw
theorem zkq(hR:M1 D)(ho:R6 D a0 k j)(hs:D.spans[k]?=some s)(i0:0≤i)(i1:i<s.lens[j]?.getD 0){z:Int}(hzl:i<s.ptrs[j]?.getD 0→z=0∨Lv D z)
  (hold:i<s.ptrs[j]?.getD 0→D.grey≠[]→Ob D (D.words[(atW s (j:Int)+i).toNat]?.getD 0)→Mk D (D.words[(atW s (j:Int)+i).toNat]?.getD 0)) (hzk:i<s.ptrs[j]?.getD 0→D.phase≠0→D.phase≠4→Kp D z) :
  M1 (zhf D (atW s (j:Int)+i).toNat z):=by
 have A:=J7.1 hR;have P:=zvu hR.1 ho hs i0 i1 z
 have kp:∀{a:Int},Kp D a→Kp (zhf D (atW s (j:Int)+i).toNat z) a:=fun h=>by
  rcases h with h|h|h
  ·exact .inl h
  ·by_cases e:D.grey=[]
   ·exact absurd h (Com.none e)
   refine h.keep (fun g b h1 h2 h3=>?_) fun a b h1 h2 h3 h4 h5=>?_
   ·rcases(P g b).2 h2 with h2|⟨_,rfl,hi⟩
    ·exact .inr (.inl (.start h1 h2 h3))
    ·exact .inr (.inr (hold hi e h3))
   ·rcases(P a b).2 h4 with h4|⟨_,rfl,hi⟩
    ·rcases h3 with h3|h3|h3
     ·exact absurd h3 (h1.ne hR.1)
     ·exact .inr (.inl (.step h3 h2 h4 h5))
     ·exact absurd h3 h2
    ·exact .inr (.inr (hold hi e h5))
  ·exact .inr (.inr h)
 refine J7.2 ⟨zqv hR.1 ho hs i0 i1 z,A.gc,A.roots,fun a b hl hp=>?_,fun h0 h4 m r hm hs a ha=>kp (A.seen h0 h4 m r hm hs a ha),fun h0 h4 a b hm hp=>?_⟩
 ·rcases(P a b).1 hp with hp|⟨_,rfl,hi⟩
  ·exact A.ptrs a b hl hp
  ·exact hzl hi
 ·rcases(P a b).1 hp with hp|⟨_,rfl,hi⟩
  ·exact kp (A.kept h0 h4 a b hm hp)
  ·exact kp (hzk hi h0 h4)
end
theorem zkr{D:WD}{p:Nat}{z:Int}(hR:M1 (zhf D p z))(hI:zld D)(hz:I64 z):M7 (zhf D p z):=by
 refine⟨hR.1,hR.2.1,fun y hy=>?_,hI.muts,hI.grey⟩
 rcases List.mem_or_eq_of_mem_set hy with hy|rfl
 ·exact hI.words y hy
 ·exact hz
theorem zpt{D:WD}{c:Int}{k:Nat}{u:Y7}:u∈(insD D c k).spans↔u=J4 D c k∨u∈D.spans:=by
 show u∈D.spans.take k++J4 D c k::D.spans.drop k↔_
 rw[List.mem_append,List.mem_cons]
 conv=>rhs;rw[←List.take_append_drop k D.spans,List.mem_append]
 exact⟨fun h=>h.elim (fun h=>.inr (.inl h)) fun h=>h.elim .inl fun h=>.inr (.inr h),fun h=>h.elim (fun h=>.inr (.inl h)) fun h=>h.elim .inl fun h=>.inr (.inr h)⟩
theorem zfo{D:WD}{c:Int}{k:Nat}{a:Int}{u:Y7}{i:Nat}:ObjS (insD D c k) a u i↔ObjS D a u i:=by
 constructor
 ·rintro⟨hm,hi,h0,ha⟩
  rcases zpt.1 hm with rfl|hm
  ·have h0':0<(List.replicate (sl' c).toNat (0:Int))[i]?.getD 0:=h0
   rw[rep0]at h0';omega
  ·exact⟨hm,hi,h0,ha⟩
 ·rintro⟨hm,hi,h0,ha⟩
  exact⟨zpt.2 (.inr hm),hi,h0,ha⟩
theorem zwg{D:WD}(hR:M1 D){c:Int}{k:Nat}(hp:zhc D k)(hk:(k:Int)≠D.pages)(hc:sl' c≠0):M1 (insD D c k):=by
 have A:=J7.1 hR;have lv:∀{a:Int},Lv (insD D c k) a↔Lv D a:=⟨fun⟨s,j,h,hs⟩=>⟨s,j,zfo.1 h,hs⟩,fun⟨s,j,h,hs⟩=>⟨s,j,zfo.2 h,hs⟩⟩;have mk:∀{a:Int},Mk (insD D c k) a↔Mk D a:=⟨fun⟨s,j,h,hs⟩=>⟨s,j,zfo.1 h,hs⟩,fun⟨s,j,h,hs⟩=>⟨s,j,zfo.2 h,hs⟩⟩;have pt:∀{a b:Int},Pt (insD D c k) a b↔Pt D a b:=⟨fun⟨s,j,h,hs⟩=>⟨s,j,zfo.1 h,hs⟩,fun⟨s,j,h,hs⟩=>⟨s,j,zfo.2 h,hs⟩⟩;have ob:∀{a:Int},Ob D a→Ob (insD D c k) a:=fun⟨s,j,h⟩=>⟨s,j,zfo.2 h⟩;have kp:∀{a:Int},Kp D a→Kp (insD D c k) a:=fun h=>Kp.map (D:=D) (E:=insD D c k) (fun _ h=>h) (fun _ _=>pt.2) (fun _=>ob) (fun _ _=>mk.1) (fun _=>mk.2) h;refine J7.2 ⟨zrn hR.1 hp hk hc,⟨⟨A.gc.1.1,A.gc.1.2.1,fun a ha=>ziz.1 (mk.2 (ziz.2 (A.gc.1.2.2 a ha)))⟩,A.gc.2.1,fun u hu=>?_⟩,fun r hr a ha=>(A.roots r hr a ha).imp id lv.2,fun a b hl hpt=>(A.ptrs a b (lv.1 hl) (pt.1 hpt)).imp id lv.2,fun h0 h4 m r hm hs a ha=>kp (A.seen h0 h4 m r hm hs a ha),fun h0 h4 a b hm hpt=>kp (A.kept h0 h4 a b (mk.1 hm) (pt.1 hpt))⟩
 rcases zpt.1 hu with rfl|hu
 ·refine⟨fun h=>?_,fun h=>absurd rfl h⟩
  have h':(D.phase == 4)=true:=h;exact eq_of_beq h'
 ·exact A.gc.2.2 u hu
structure Put(D E:WD)(k:Nat)(s t:Y7)(j:Nat)(n p:Int):Prop where
 spans:E.spans=D.spans.set k t
 page:t.page=s.page
 cls:t.cls=s.cls
 swept:t.swept=s.swept
 lens:t.lens=s.lens.set j n
 ptrs:t.ptrs=s.ptrs.set j p
 mks:∀i,i≠j→(bitI t.mark i↔bitI s.mark i)
 keep:D.phase≠0→s.swept=false→bitI t.mark j
 zero:t.mark≠0→s.mark≠0∨(D.phase≠0∧s.swept=false)
 base:E.base=D.base
 words:E.words=D.words
 muts:E.muts=D.muts
 phase:E.phase=D.phase
 next:E.next=D.next
 grey:E.grey=D.grey
theorem put_of{D T E:WD}(hT:Y5 T){k j:Nat}{s:Y7}(hs:D.spans[k]?=some s)(hj:j<s.lens.length){n p:Int}(h1:1≤n)(eT:T=zeo D k s j n p)(h:zir T k j E):(∃t,Put D E k s t j n p)∧Y5 E:=by
 have hl:=(List.getElem?_eq_some_iff.1 hs).1;have hts:T.spans[k]?=some (N7 s j n p):=by rw[eT];exact List.getElem?_set_self hl
 obtain⟨t,ht,h⟩:=h;rw[hts]at ht
 cases ht
 have hjt:j<(N7 s j n p).lens.length:=by show j<(s.lens.set j n).length;rw[List.length_set];exact hj
 obtain⟨m0,m1,j16⟩:=zek hT hts hjt;have hm:(N7 s j n p).mark=s.mark:=rfl
 rcases h with⟨hp,hsw,rfl⟩|⟨hn,rfl⟩
 ·have hbit:=zzy m0 m1 j16
  refine⟨⟨{ N7 s j n p with mark:=bits .or .i64 (N7 s j n p).mark ((2:Int)^j) },by rw[eT];show(D.spans.set k _).set k _=_;rw[List.set_set],rfl,rfl,rfl,rfl,rfl,fun i hi=>?_,fun _ _=>?_,fun _=>.inr ⟨by rw[eT]at hp;exact hp,hsw⟩,by rw[eT];rfl,by rw[eT];rfl,by rw[eT];rfl,by rw[eT];rfl,by rw[eT];rfl,by rw[eT];rfl⟩,?_⟩
  ·show bitI (bits .or .i64 (N7 s j n p).mark ((2:Int)^j)) i↔_
   rw[hbit];exact⟨fun h=>h.elim id fun h=>absurd h hi,.inl⟩
  ·show bitI (bits .or .i64 (N7 s j n p).mark ((2:Int)^j)) j
   exact(hbit j).2 (.inr rfl)
  ·have hO:zdz T { T with spans:=T.spans.set k { N7 s j n p with mark:=bits .or .i64 (N7 s j n p).mark ((2:Int)^j) } }:=⟨rfl,rfl,by simp,fun q u v h1 h2=>by
    rcases zli hts h2 with⟨rfl,rfl⟩|⟨_,h2⟩
    ·rw[hts]at h1
     cases h1
     exact⟨rfl,rfl,rfl,rfl⟩
    ·rw[h1]at h2
     cases h2
     exact .refl _⟩
   refine hO.form hT rfl rfl rfl hT.ph0 hT.ph1 fun q u v g1 g2=>?_
   rcases zli hts g2 with⟨rfl,rfl⟩|⟨_,g2⟩
   ·obtain⟨n',r,e1,e2,_,hlt⟩:=zyq m0 m1 j16
    have e3:((2:Int)^(N7 s j n p).lens.length)=((2^(N7 s j n p).lens.length:Nat):Int):=by simp
    have hm1:=(hT.span q _ hts).mk1;refine⟨by show 0≤bits .or .i64 (N7 s j n p).mark ((2:Int)^j);omega,?_,fun i hi hz hb=>?_⟩
    ·show bits .or .i64 (N7 s j n p).mark ((2:Int)^j)<2^(N7 s j n p).lens.length
     have:=hlt (N7 s j n p).lens.length (by omega) hjt;rw[e2,e3];omega
    ·rcases(hbit i).1 hb with hb|rfl
     ·exact((hT.span q _ hts).slot i hi).bit hz hb
     ·have hz':(s.lens.set i n)[i]?.getD 0=0:=hz
      rw[List.getElem?_set_self hj]at hz';have:n=0:=hz';omega
   ·exact MarksAt hT g2
 ·refine⟨⟨N7 s j n p,by rw[eT];rfl,rfl,rfl,rfl,rfl,rfl,fun _ _=>Iff.rfl,fun h0 hsw=>absurd ⟨by rw[eT];exact h0,hsw⟩ hn,.inl,by rw[eT];rfl,by rw[eT];rfl,by rw[eT];rfl,by rw[eT];rfl,by rw[eT];rfl,by rw[eT];rfl⟩,hT⟩
theorem zyg{D E:WD}(hR:M1 D)(hE:Y5 E){k j:Nat}{s t:Y7}(hs:D.spans[k]?=some s)(hj:j<s.lens.length)(hz:s.lens[j]?.getD 0=0){n p:Int}(h1:1≤n)(hn:n≤sz s.cls)(pn:p≤n)(P:Put D E k s t j n p) :
  M1 E∧Lv E (D.base+atW s (j:Int))∧(D.phase≠0→D.phase≠4→Mk E (D.base+atW s (j:Int)))∧¬Ob D (D.base+atW s (j:Int)) ∧
  (∀a b,Pt E a b→Pt D a b∨(a=D.base+atW s (j:Int)∧b=0))∧(∀a b,Pt D a b→Pt E a b)∧(∀a,Ob E a↔Ob D a∨a=D.base+atW s (j:Int)):=by
 have A:=J7.1 hR;have hF:=hR.1;have hl:=(List.getElem?_eq_some_iff.1 hs).1;have hat:∀i:Nat,atW t (i:Int)=atW s (i:Int):=fun i=>by unfold atW;rw[P.page,P.cls]
 have c1:∀u,u∈E.spans→u=t∨∃q,q≠k∧D.spans[q]?=some u:=fun u hm=>by
  obtain⟨q,hq⟩:=List.mem_iff_getElem?.1 hm;rw[P.spans]at hq;exact(zli hs hq).imp And.right fun h=>⟨q,h⟩
 have c2:∀q u,q≠k→D.spans[q]?=some u→u∈E.spans:=fun q u hne hq=>by
  rw[P.spans];exact List.mem_of_getElem? (zxx hne hq)
 have c3:t∈E.spans:=by rw[P.spans];exact List.mem_of_getElem? (List.getElem?_set_self hl)
 have tj:t.lens[j]?.getD 0=n:=by rw[P.lens,List.getElem?_set_self hj];rfl
 have tl:∀i,i≠j→t.lens[i]?.getD 0=s.lens[i]?.getD 0:=fun i hi=>by rw[P.lens,List.getElem?_set_ne (fun h=>hi h.symm)]
 have tp:∀i,i≠j→t.ptrs[i]?.getD 0=s.ptrs[i]?.getD 0:=fun i hi=>by rw[P.ptrs,List.getElem?_set_ne (fun h=>hi h.symm)]
 have ll:t.lens.length=s.lens.length:=by rw[P.lens,List.length_set]
 have new:ObjS E (D.base+atW s (j:Int)) t j:=⟨c3,by omega,by omega,by rw[hat,P.base]⟩
 -- the objects
 have toD:∀a u i,ObjS E a u i→(u=t∧i=j∧a=D.base+atW s (j:Int))∨(u=t∧i≠j∧ObjS D a s i)∨((∃q,q≠k∧D.spans[q]?=some u)∧ObjS D a u i):=fun a u i ⟨hm,hi,h0,ha⟩=>by
  rcases c1 u hm with rfl|⟨q,hq,hu⟩
  ·by_cases e:i=j
   ·subst e
    exact .inl ⟨rfl,rfl,by rw[←ha,hat,P.base]⟩
   ·exact .inr (.inl ⟨rfl,e,List.mem_of_getElem? hs,by omega,by rw[←tl i e];exact h0,by rw[←hat,←P.base];exact ha⟩)
  ·exact .inr (.inr ⟨⟨q,hq,hu⟩,List.mem_of_getElem? hu,hi,h0,by rw[←P.base];exact ha⟩)
 have fro:∀a u i,ObjS D a u i→(u=s∧i≠j∧ObjS E a t i)∨((∃q,q≠k∧D.spans[q]?=some u)∧ObjS E a u i):=fun a u i ⟨hm,hi,h0,ha⟩=>by
  obtain⟨q,hu⟩:=List.mem_iff_getElem?.1 hm
  by_cases hq:q=k
  ·subst hq
   rw[hs]at hu
   cases hu
   have e:i≠j:=fun e=>by subst e;omega
   exact .inl ⟨rfl,e,c3,by omega,by rw[tl i e];exact h0,by rw[hat,P.base];exact ha⟩
  ·exact .inr ⟨⟨q,hq,hu⟩,c2 q u hq hu,hi,h0,by rw[P.base];exact ha⟩
 have nob:¬Ob D (D.base+atW s (j:Int)):=fun⟨u,i,hm,hi,h0,ha⟩=>by
  obtain⟨q,hu⟩:=List.mem_iff_getElem?.1 hm;have p1:=zkl (hF.span q u hu).cls;have p2:=zkl (hF.span k s hs).cls;obtain⟨rfl,rfl,_⟩:=zjy hF hu hs hi hj (i:=0) (i':=0) (by omega) (by omega) (by omega) (by omega) (by omega);rw[hs]at hu
  cases hu
  omega
 have pe:∀(u:Y7) (i:Nat),atW t (i:Int)=atW u (i:Int)→t.ptrs[i]?.getD 0=u.ptrs[i]?.getD 0→ptrW E t i=ptrW D u i:=fun u i h1 h2=>by unfold ptrW;rw[h1,h2,P.words]
 have po:∀(u:Y7) (i:Nat),ptrW E u i=ptrW D u i:=fun u i=>by unfold ptrW;rw[P.words]
 have pz:∀b,b∈ptrW E t j→b=0:=fun b hb=>by
  obtain⟨i,hi,hw⟩:=zjj.1 hb
  have hpj:t.ptrs[j]?.getD 0=p:=by
   have:j<s.ptrs.length:=by have:=(hF.span k s hs).lens;have:=(hF.span k s hs).ptrs;omega
   rw[P.ptrs,List.getElem?_set_self this];rfl
  rw[hpj]at hi;rw[hat,P.words]at hw;have n0:=zhs hF hs hj;have hin:=(List.getElem?_eq_some_iff.1 hw).1
  have:=hF.zero _ hin fun⟨q,u,_,hu,j',hj',i',hi',he⟩=>by
   have S:=(hF.span q u hu).slot j' hj';have:=S.l1;obtain⟨rfl,rfl,_⟩:=zjy hF hu hs hj' hj (i:=(i':Int)) (i':=(i:Int)) (by omega) (by omega) (by omega) (by omega) (by omega);rw[hs]at hu
   cases hu
   omega
  rw[hw]at this;exact this
 have ptE:∀a b,Pt E a b→Pt D a b∨(a=D.base+atW s (j:Int)∧b=0):=fun a b ⟨u,i,h,hb⟩=>by
  rcases toD a u i h with⟨rfl,rfl,rfl⟩|⟨rfl,e,ho⟩|⟨_,ho⟩
  ·exact .inr ⟨rfl,pz b hb⟩
  ·rw[pe s i (hat i) (tp i e)]at hb
   exact .inl ⟨s,i,ho,hb⟩
  ·rw[po]at hb
   exact .inl ⟨u,i,ho,hb⟩
 have ptD:∀a b,Pt D a b→Pt E a b:=fun a b ⟨u,i,h,hb⟩=>by
  rcases fro a u i h with⟨rfl,e,ho⟩|⟨_,ho⟩
  ·exact⟨t,i,ho,by rw[pe u i (hat i) (tp i e)];exact hb⟩
  ·exact⟨u,i,ho,by rw[po];exact hb⟩
 have obE:∀a,Ob E a↔Ob D a∨a=D.base+atW s (j:Int):=fun a=>⟨fun⟨u,i,h⟩=>by
  rcases toD a u i h with⟨_,_,h⟩|⟨_,_,ho⟩|⟨_,ho⟩
  ·exact .inr h
  ·exact .inl ⟨_,_,ho⟩
  ·exact .inl ⟨_,_,ho⟩,fun h=>by
  rcases h with⟨u,i,h⟩|rfl
  ·rcases fro a u i h with⟨_,_,ho⟩|⟨_,ho⟩<;>exact⟨_,_,ho⟩
  ·exact⟨_,_,new⟩⟩
 have mkD:∀a,Mk D a→Mk E a:=fun a ⟨u,i,h,hb⟩=>by
  rcases fro a u i h with⟨rfl,e,ho⟩|⟨_,ho⟩
  ·exact⟨t,i,ho,(P.mks i e).2 hb⟩
  ·exact⟨u,i,ho,hb⟩
 have mkE:∀a,Mk E a→Mk D a∨a=D.base+atW s (j:Int):=fun a ⟨u,i,h,hb⟩=>by
  rcases toD a u i h with⟨_,_,h⟩|⟨rfl,e,ho⟩|⟨_,ho⟩
  ·exact .inr h
  ·exact .inl ⟨s,i,ho,(P.mks i e).1 hb⟩
  ·exact .inl ⟨u,i,ho,hb⟩
 have lvD:∀a,Lv D a→Lv E a:=fun a ⟨u,i,h,hsf⟩=>by
  rcases fro a u i h with⟨rfl,e,ho⟩|⟨_,ho⟩
  ·exact⟨t,i,ho,fun h=>hsf ⟨by rw[←P.phase];exact h.1,by rw[←P.swept];exact h.2.1,fun hb=>h.2.2 ((P.mks i e).2 hb)⟩⟩
  ·exact⟨u,i,ho,fun h=>hsf ⟨by rw[←P.phase];exact h.1,h.2⟩⟩
 have lvE:∀a,Lv E a→Lv D a∨a=D.base+atW s (j:Int):=fun a ⟨u,i,h,hsf⟩=>by
  rcases toD a u i h with⟨_,_,h⟩|⟨rfl,e,ho⟩|⟨_,ho⟩
  ·exact .inr h
  ·exact .inl ⟨s,i,ho,fun h=>hsf ⟨by rw[P.phase];exact h.1,by rw[P.swept];exact h.2.1,fun hb=>h.2.2 ((P.mks i e).1 hb)⟩⟩
  ·exact .inl ⟨u,i,ho,fun h=>hsf ⟨by rw[P.phase];exact h.1,h.2⟩⟩
 have lvN:Lv E (D.base+atW s (j:Int)):=⟨t,j,new,fun h=>h.2.2 (P.keep (by have:=h.1;rw[P.phase]at this;omega) (by rw[←P.swept];exact h.2.1))⟩
 have mkN:D.phase≠0→D.phase≠4→Mk E (D.base+atW s (j:Int)):=fun h0 h4=>⟨t,j,new,P.keep h0 (by
  cases e:s.swept
  ·rfl
  ·exact absurd ((A.gc.2.2 s (List.mem_of_getElem? hs)).1 e) h4)⟩
 have kp:∀{a:Int},Kp D a→Kp E a:=fun h=>h.map (fun g h=>by rw[P.grey];exact h) ptD (fun a h=>(obE a).2 (.inl h)) (fun a ho hm=>(mkE a hm).resolve_right fun e=>nob (e ▸ ho)) mkD;refine⟨J7.2 ⟨hE,⟨⟨fun h=>by rw[P.phase];exact A.gc.1.1 (by rw[←P.grey];exact h),by rw[P.grey];exact⟨A.gc.1.2.1,fun a ha=>ziz.1 (mkD a (ziz.2 (A.gc.1.2.2 a ha)))⟩⟩,?_,fun u hu=>?_⟩,fun r hr a ha=>(A.roots r (by rw[←P.muts];exact hr) a ha).imp id (lvD a),fun a b hla hpt=>?_,fun h0 h4 m r hm hsn a ha=>kp (A.seen (by rw[←P.phase];exact h0) (by rw[←P.phase];exact h4) m r (by rw[←P.muts];exact hm) (by unfold M5 at hsn ⊢;rw[P.phase,P.next]at hsn;exact hsn) a ha),fun h0 h4 a b hm hpt=>?_⟩,lvN,mkN,nob,ptE,ptD,obE⟩
 ·have:=A.gc.2.1
  unfold zey at this ⊢;rw[P.next,P.muts,P.phase];exact this
 ·rcases c1 u hu with rfl|⟨q,_,hq⟩
  ·have S:=A.gc.2.2 s (List.mem_of_getElem? hs)
   refine⟨fun h=>by rw[P.phase];exact S.1 (by rw[←P.swept];exact h),fun h=>?_⟩;rw[P.phase,P.swept]
   rcases P.zero h with h|h
   ·exact S.2 h
   ·exact h
  ·have S:=A.gc.2.2 u (List.mem_of_getElem? hq)
   unfold zew at S ⊢;rw[P.phase];exact S
 ·rcases ptE a b hpt with hpt|⟨_,h⟩
  ·rcases lvE a hla with hla|rfl
   ·exact(A.ptrs a b hla hpt).imp id (lvD b)
   ·exact absurd hpt.ob nob
  ·exact .inl h
 ·rcases ptE a b hpt with hpt|⟨_,h⟩
  ·rcases mkE a hm with hm|rfl
   ·exact kp (A.kept (by rw[←P.phase];exact h0) (by rw[←P.phase];exact h4) a b hm hpt)
   ·exact absurd hpt.ob nob
  ·exact .inl h
theorem zwp{D:WD}{o:OpD}(h:X7 D o 0):zhh D o∧(N1 o.kind→HOk o.g)∧(P5 o.kind→V2 D o.m o.h≠0)∧(o.kind=1→ziq o.n o.v):=by
 rcases h with⟨_,e⟩|⟨_,_,_,e⟩|⟨_,_,_,_,e⟩|⟨_,_,_,_,e⟩|⟨a,b,c,d,_⟩
 ·omega
 ·omega
 ·omega
 ·omega
 ·exact⟨a,b,c,d⟩
theorem zpn{D:WD}(hI:zld D)(m h:Int):I64 (V2 D m h):=by
 have z:I64 0:=⟨by omega,by omega⟩;unfold V2
 cases e:D.muts[m.toNat]? with
 | none=>exact z
 | some r =>
  rw[Option.getD_some]
  cases e2:r[h.toNat]? with
  | none=>exact z
  | some a=>exact hI.muts r (List.mem_of_getElem? e) a (List.mem_of_getElem? e2)
theorem zud{D:WD}(hI:zld D)(p:Nat):I64 (D.words[p]?.getD 0):=by
 cases e:D.words[p]? with
 | none=>exact⟨by rw[Option.getD_none];omega,by rw[Option.getD_none];omega⟩
 | some a=>exact hI.words a (List.mem_of_getElem? e)
theorem zpm{D:WD}(hR:M1 D){m h:Int}(m0:0≤m)(m1:m<(D.muts.length:Int))(hh:HOk h):V2 D m h=0∨Lv D (V2 D m h):=by
 obtain⟨r,hr,ha⟩:=zyc hR.1 m0 m1 hh;exact(J7.1 hR).roots r (List.mem_of_getElem? hr) _ ha
theorem zsz{D:WD}(hR:M1 D){m h:Int}(m0:0≤m)(m1:m<(D.muts.length:Int))(hh:HOk h)(h0:D.phase≠0)(h4:D.phase≠4)(hs:M5 D m):Kp D (V2 D m h):=by
 obtain⟨r,hr,ha⟩:=zyc hR.1 m0 m1 hh;exact(J7.1 hR).seen h0 h4 m.toNat r hr (by rw[show((m.toNat:Nat):Int)=m by omega];exact hs) _ ha
theorem Kp.next{D:WD}(hR:M1 D){a b:Int}(h0:D.phase≠0)(h4:D.phase≠4)(h:Kp D a)(hp:Pt D a b):Kp D b:=by
 have A:=J7.1 hR
 by_cases hm:Mk D a
 ·exact A.kept h0 h4 a b hm hp
 ·rcases h with h|h|h
  ·exact absurd h (hp.ob.ne hR.1)
  ·rcases A.ptrs a b (hp.ob.lv h4) hp with e|hl
   ·exact .inl e
   ·exact .inr (.inl (.step h hm hp hl.ob))
  ·exact absurd h hm
theorem ztc{D D1:WD}(hR:M1 D){n:Int}(h1:1≤n)(hn:n≤16){k j:Nat}(h:M0 D (cl n) D1 k j) :
  M1 D1∧(∀s,D1.spans[k]?=some s→s.cls=cl n∧j<s.lens.length∧s.lens[j]?.getD 0=0)∧D1.base=D.base∧D1.words=D.words∧D1.muts=D.muts∧D1.phase=D.phase∧D1.next=D.next∧D1.grey=D.grey ∧
  (∀a u i,ObjS D1 a u i↔ObjS D a u i):=by
 have hc:=zwv h1 hn
 rcases h with⟨rfl,t,ht,e,hj,hz,_,_⟩|⟨_,hp,hk,rfl,rfl⟩
 ·exact⟨hR,fun s hs=>by rw[ht]at hs;cases hs;exact⟨e,hj,hz⟩,rfl,rfl,rfl,rfl,rfl,rfl,fun _ _ _=>Iff.rfl⟩
 ·refine⟨zwg hR hp hk hc.2.2.1,fun s hs=>?_,rfl,rfl,rfl,rfl,rfl,rfl,fun _ _ _=>zfo⟩
  rw[show(insD D (cl n) k).spans[k]?=some (J4 D (cl n) k)from zrm hp.1 _]at hs
  cases hs
  refine⟨rfl,?_,?_⟩
  ·show 0<(List.replicate (sl' (cl n)).toNat (0:Int)).length
   have:=zfj (cl n);have:=hc.2.2.1;rw[List.length_replicate];omega
  ·show(List.replicate (sl' (cl n)).toNat (0:Int))[0]?.getD 0=0
   exact rep0 _ 0
theorem obj_int{D:WD}(hF:Y5 D){a:Int}(h:Ob D a):I64 a:=by
 have:=zhn hF (zlv.1 h);have g:=hF.geo;have g1:=g.1;have g2:=g.2.1;unfold I64;omega
theorem ztw{D E:WD}{o:OpD}{c:Int}(hR:M1 D)(hG:M7 D)(hm:zhh D o)(hz:ziq o.n o.v)(h:zgt D o E c):M1 E∧M7 E:=by
 obtain⟨m0,m1,hh⟩:=hm;obtain⟨n1,n2,v0,v1⟩:=hz
 rcases h with⟨D1,k,j,s,D3,hp,hs,hk,rfl,rfl⟩|⟨_,rfl,rfl⟩
 ·obtain⟨hR1,hpl,e1,e2,e3,e4,e5,e6,_⟩:=ztc hR n1 n2 hp
  obtain⟨hcl,hj,hz⟩:=hpl s hs;obtain⟨hT,_⟩:=zlj hR.1 n1 n2 hp hs v0 v1;obtain⟨⟨t,P⟩,hE⟩:=put_of hT hs hj n1 rfl hk;have hc:=zwv n1 n2;obtain⟨R3,lvN,mkN,_⟩:=zyg hR1 hE hs hj hz n1 (by rw[hcl];exact hc.2.2.2) v1 P;have em:D3.muts=D.muts:=P.muts.trans e3;have hI:zld D3:=⟨by rw[P.words,e2];exact hG.ints.words,by rw[em];exact hG.ints.muts,by rw[P.grey,e6];exact hG.ints.grey⟩;have R4:=zfx (m:=o.m) (h:=o.h) R3 m0 (by rw[em];exact m1) (.inr lvN) fun h0 h4 _=>.inr (.inr (mkN (by rw[←P.phase];exact h0) (by rw[←P.phase];exact h4)));exact⟨R4,zfy R4 hI m0 (by rw[em];exact m1) (obj_int hE lvN.ob)⟩
 ·exact⟨hR,hG⟩
theorem U9.off{D E:WD}{a:Int}(hp:¬(D.phase=1∨D.phase=2))(h:U9 D a E):E=D:=by
 rcases h with⟨_,_,_,h,_⟩|⟨_,h⟩
 ·exact absurd h hp
 ·exact h
theorem zqs{D D1 D2:WD}{m old z:Int}(hR:M1 D)(hG:M7 D)(io:I64 old)(iz:I64 z)(h1:U9 D old D1)(h2:(M5 D m∧D2=D1)∨(¬M5 D m∧U9 D1 z D2)) :
  M1 D2∧M7 D2∧zdz D D2∧D2.muts=D.muts∧D2.phase=D.phase∧D2.next=D.next∧(D.phase=1∨D.phase=2→P8 D old→U8 D2 old)∧(D.phase=1∨D.phase=2→¬M5 D m→P8 D z→U8 D2 z):=by
 have hF:=hR.1;have hF1:=h1.form hF;obtain⟨_,_,a3,a4,a5⟩:=h1.rest;have G1:=h1.going io hG
 have rt:D2.muts=D.muts∧D2.phase=D.phase∧D2.next=D.next∧zdz D D2∧M7 D2:=by
  rcases h2 with⟨_,rfl⟩|⟨_,h2⟩
  ·exact⟨a3,a4,a5,h1.same,G1⟩
  ·obtain⟨_,_,b3,b4,b5⟩:=h2.rest
   exact⟨b3.trans a3,b4.trans a4,b5.trans a5,h1.same.trans h2.same,h2.going iz G1⟩
 have rr:M1 D2:=by
  by_cases hp:D.phase=1∨D.phase=2
  ·have m0:=Mid.of_right hR hp
   rcases h2 with⟨_,rfl⟩|⟨_,h2⟩
   ·exact((m0.more (Y:=[old]) (by simp)).shade h1).right
   ·exact(((m0.more (Y:=[old,z]) (by simp)).shade h1).shade h2).right
  ·obtain rfl:=h1.off hp
   rcases h2 with⟨_,rfl⟩|⟨_,h2⟩
   ·exact hR
   ·obtain rfl:=h2.off hp
    exact hR
 refine⟨rr,rt.2.2.2.2,rt.2.2.2.1,rt.1,rt.2.1,rt.2.2.1,fun hp ho=>?_,fun hp hn ho=>?_⟩
 ·have hm:=h1.marked hF hp ho
  rcases h2 with⟨_,rfl⟩|⟨_,h2⟩
  ·exact hm
  ·exact h2.keeps hF1 hm
 ·rcases h2 with⟨h,_⟩|⟨_,h2⟩
  ·exact absurd h hn
  ·exact h2.marked hF1 (by rw[a4];exact hp) (h1.same.has.2 ho)
theorem zss{D E:WD}{m g:Int}{a0:Int}{k j:Nat}{s:Y7}{i:Int}(hR:M1 D)(hG:M7 D)(m0:0≤m)(m1:m<(D.muts.length:Int))(hg:HOk g)(ho:R6 D a0 k j)(hs:D.spans[k]?=some s)(i0:0≤i)(i1:i<s.ptrs[j]?.getD 0)
  (h:zeu D m (V2 D m g) (atW s (j:Int)+i).toNat E):M1 E∧M7 E:=by
 obtain⟨D1,D2,h1,h2,rfl⟩:=h;obtain⟨R2,G2,hO,em,ep,en,ho2,hz2⟩:=zqs hR hG (zud hG.ints _) (zpn hG.ints m g) h1 h2;obtain⟨t,ht,hst⟩:=hO.at_ hs;have e1:atW t (j:Int)=atW s (j:Int):=zmv hst _;have hj:j<s.lens.length:=by obtain⟨s',hs',hj,_⟩:=ho;rw[hs]at hs';cases hs';exact hj
 have S:=(hR.1.span k s hs).slot j hj;have:=S.p1;have er:V2 D2 m g=V2 D m g:=by unfold V2;rw[em]
 have A2:=J7.1 R2
 have key:M1 (zhf D2 (atW t (j:Int)+i).toNat (V2 D m g)):=by
  refine zkq R2 (hO.obj ho) ht i0 (by rw[hst.lens];omega) (fun _=>?_) (fun _ hgr hob=>?_) (fun _ h0 h4=>?_)
  ·rw[←er]
   exact zpm R2 m0 (by rw[em];exact m1) hg
  ·have hp:=A2.gc.1.1 hgr
   rw[ep]at hp;rw[e1,hO.words]at hob ⊢;exact ziz.2 (ho2 hp (hO.has.1 (zlv.1 hob)))
  ·by_cases hsn:M5 D m
   ·rw[←er]
    exact zsz R2 m0 (by rw[em];exact m1) hg h0 h4 (by unfold M5 at hsn ⊢;rw[ep,en];exact hsn)
   ·rcases zpm hR m0 m1 hg with e|hl
    ·exact .inl e
    ·refine .inr (.inr (ziz.2 (hz2 ?_ hsn (zlv.1 hl.ob))))
     unfold M5 at hsn;rw[ep]at h0 h4;have:=hR.1.ph0;have:=hR.1.ph1;omega
 rw[e1]at key;exact⟨key,zkr key G2.ints (zpn hG.ints m g)⟩
theorem DoIs.right{D E:WD}{o:OpD}{c x:Int}(hR:M1 D)(hG:M7 D)(hv:I64 o.v)(h:DoIs D o E c x):M1 E∧M7 E:=by
 rcases h with⟨_,rfl,_⟩|⟨_,_,_,rfl,_⟩|⟨_,hf,h⟩
 ·exact⟨hR,hG⟩
 ·exact⟨hR,hG⟩
 obtain⟨hm,hg,hu,hsz⟩:=zwp hf;obtain⟨m0,m1,hh⟩:=id hm;have A:=J7.1 hR
 rcases h with⟨hk,h,_⟩|⟨hk,rfl,_⟩|⟨hk,rfl,_⟩|⟨hk,rfl,_⟩|⟨hk,k,j,s,ho,hs,h⟩
 ·exact ztw hR hG hm (hsz hk) h
 ·have R:=zfx (m:=o.m) (h:=o.h) hR m0 m1 (.inl rfl) fun _ _ _=>.inl rfl
  exact⟨R,zfy R hG.ints m0 m1 ⟨by omega,by omega⟩⟩
 ·have R:=zfx (m:=o.m) (h:=o.g) hR m0 m1 (zpm hR m0 m1 hh) fun h0 h4 hs=>zsz hR m0 m1 hh h0 h4 hs
  exact⟨R,zfy R hG.ints m0 m1 (zpn hG.ints _ _)⟩
 ·exact⟨hR,hG⟩
 ·rcases h with⟨_,rfl,_⟩|⟨hi,h,_⟩
  ·exact⟨hR,hG⟩
  have hj:j<s.lens.length:=by obtain⟨s',hs',hj,_⟩:=id ho;rw[hs]at hs';cases hs';exact hj
  have S:=(hR.1.span k s hs).slot j hj;have p1:=S.p1;have l1:=S.l1;have hoS:ObjS D (V2 D o.m o.h) s j:=zef.2 ⟨k,ho,hs⟩
  rcases h with⟨hk,rfl,_⟩|⟨hk,h,_⟩|⟨hk,rfl,_⟩|⟨hk,rfl,_⟩|⟨hk,rfl,_⟩
  ·obtain⟨i0,i1⟩:=hi.1 (.inl hk)
   have hin:=zxg hR.1 hs hj i0 (by omega);have n0:=zhs hR.1 hs hj
   have hpt:Pt D (V2 D o.m o.h) (D.words[(atW s (j:Int)+o.i).toNat]?.getD 0) :=
    ⟨s,j,hoS,zjj.2 ⟨o.i.toNat,by omega,by rw[show(atW s (j:Int)).toNat+o.i.toNat=(atW s (j:Int)+o.i).toNat by omega,List.getElem?_eq_getElem hin];rfl⟩⟩
   have R:=zfx (m:=o.m) (h:=o.g) hR m0 m1 (A.ptrs _ _ ((zpm hR m0 m1 hh).resolve_left (hu (.inl hk))) hpt) fun h0 h4 hs=>(zsz hR m0 m1 hh h0 h4 hs).next hR h0 h4 hpt;exact⟨R,zfy R hG.ints m0 m1 (zud hG.ints _)⟩
  ·obtain⟨i0,i1⟩:=hi.1 (.inr hk)
   exact zss hR hG m0 m1 (hg (.inr (.inl hk))) ho hs i0 i1 h
  ·obtain⟨i0,i1⟩:=hi.2 (.inl hk)
   have p0:=S.p0;have R:M1 (zhf D (atW s (j:Int)+o.i).toNat o.v):=zkq hR ho hs (by omega) i1 (fun h=>by omega) (fun h=>by omega) (fun h=>by omega);exact⟨R,zkr R hG.ints hv⟩
  ·exact⟨hR,hG⟩
  ·exact⟨hR,hG⟩
theorem M1.rootsObj{D:WD}(h:M1 D):P9 D:=fun r hr a ha=>(h.2.2.1.1 r hr a ha).imp id fun⟨k,j,ho,_⟩=>⟨k,j,ho⟩
end Go.Proofs.YtjjamgeoompbkaaGreat
