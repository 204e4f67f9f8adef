import Derived.Test.YtilkidaihbhfpaaGreatTsG
import Derived.Test.YtilkidaihbhfpaaGreatTsDoF
import Derived.Test.YtilkidaihbhfpaaGreatTsV
import Derived.Test.YtilkidaihbhfpaaGreatTsSDoP

set_option maxRecDepth 100000
set_option maxHeartbeats 16000000
namespace Go.Proofs.YtilkidaihbhfpaaGreat
open Go.RowKit
set_option linter.unusedVariables false
def ObjS (D:WD) (a:Int) (s:Y3) (j:Nat):Prop:=s ∈ D.spans∧j<s.lens.length∧0<s.lens[j]?.getD 0∧D.base+atW s (j:Int)=a
def Safe (D:WD) (s:Y3) (j:Nat):Prop:=¬ (D.phase=4∧s.swept=false∧¬ bitI s.mark j)
def Ob (D:WD) (a:Int):Prop:=∃ s j,ObjS D a s j
def Lv (D:WD) (a:Int):Prop:=∃ s j,ObjS D a s j∧Safe D s j
def Mk (D:WD) (a:Int):Prop:=∃ s j,ObjS D a s j∧bitI s.mark j
def Pt (D:WD) (a b:Int):Prop:=∃ s j,ObjS D a s j∧b ∈ ptrW D s j
inductive Com (D:WD):Int→Prop
 | start {g b:Int}:g ∈ D.grey→Pt D g b→Ob D b→Com D b
 | step {a b:Int}:Com D a→¬ Mk D a→Pt D a b→Ob D b→Com D b
def Kp (D:WD) (a:Int):Prop:=a=0∨Com D a∨Mk D a
theorem F9 {D:WD} {a:Int} {s:Y3} {j:Nat}:ObjS D a s j↔∃ k,U3 D a k j∧D.spans[k]?=some s:=by
 constructor
 ·rintro ⟨hm,h1,h2,h3⟩
  obtain ⟨k,hk⟩:=List.mem_iff_getElem?.1 hm
  exact ⟨k,⟨s,hk,h1,h2,h3⟩,hk⟩
 ·rintro ⟨k,⟨t,ht,h1,h2,h3⟩,hk⟩
  rw [hk] at ht
  cases ht
  exact ⟨List.mem_of_getElem? hk,h1,h2,h3⟩
theorem U3.objS {D:WD} {a:Int} {k j:Nat} (h:U3 D a k j):∃ s,D.spans[k]?=some s∧ObjS D a s j:=by
 obtain ⟨s,hs,h1⟩:=id h
 exact ⟨s,hs,F9.2 ⟨k,h,hs⟩⟩
theorem ObjS.unique {D:WD} {a:Int} {s t:Y3} {i j:Nat} (hF:Z8 D) (h:ObjS D a s j) (g:ObjS D a t i):t=s∧i=j:=by
 obtain ⟨k,ho,hs⟩:=F9.1 h
 obtain ⟨k',ho',hs'⟩:=F9.1 g
 obtain ⟨rfl,rfl⟩:=ho.unique hF ho'
 rw [hs] at hs'
 cases hs'
 exact ⟨rfl,rfl⟩
theorem zmc {D:WD} {a:Int}:Ob D a↔R7 D a :=
 ⟨fun ⟨s,j,h⟩=>by obtain ⟨k,ho,_⟩:=F9.1 h;exact ⟨k,j,ho⟩,fun ⟨k,j,h⟩=>by obtain ⟨s,_,ho⟩:=h.objS;exact ⟨s,j,ho⟩⟩
theorem zid {D:WD} {a:Int}:Mk D a↔V7 D a:=by
 constructor
 ·rintro ⟨s,j,h,hb⟩
  obtain ⟨k,ho,hs⟩:=F9.1 h
  exact ⟨k,j,ho,s,hs,hb⟩
 ·rintro ⟨k,j,h,s,hs,hb⟩
  exact ⟨s,j,F9.2 ⟨k,h,hs⟩,hb⟩
theorem zmt {D:WD} {a:Int}:Live D a↔a=0∨Lv D a:=by
 constructor
 ·rintro (h | ⟨k,j,ho,hd⟩)
  ·exact .inl h
  ·obtain ⟨s,hs,h⟩:=ho.objS
   exact .inr ⟨s,j,h,fun h'=>hd ⟨h'.1,s,hs,h'.2⟩⟩
 ·rintro (h | ⟨s,j,h,hd⟩)
  ·exact .inl h
  ·obtain ⟨k,ho,hs⟩:=F9.1 h
   exact .inr ⟨k,j,ho,fun h'=>hd ((C9.iff hs).1 h')⟩
theorem zqr {D:WD} {a b:Int}:Pt D a b↔∃ k j s,U3 D a k j∧D.spans[k]?=some s∧b ∈ ptrW D s j:=by
 constructor
 ·rintro ⟨s,j,h,hb⟩
  obtain ⟨k,ho,hs⟩:=F9.1 h
  exact ⟨k,j,s,ho,hs,hb⟩
 ·rintro ⟨k,j,s,ho,hs,hb⟩
  exact ⟨s,j,F9.2 ⟨k,ho,hs⟩,hb⟩
theorem zol {D:WD} {L:List Int} {b:Int}:zrn D L b↔∃ a,a ∈ L∧Pt D a b :=
 ⟨fun ⟨a,k,j,s,ha,ho,hs,hb⟩=>⟨a,ha,zqr.2 ⟨k,j,s,ho,hs,hb⟩⟩,fun ⟨a,ha,h⟩=>by obtain ⟨k,j,s,ho,hs,hb⟩:=zqr.1 h;exact ⟨a,k,j,s,ha,ho,hs,hb⟩⟩
theorem zqz {D:WD} (hF:Z8 D) {a b:Int}:zzt D (fun k j=>¬ V2 D k j) a b↔Pt D a b∧¬ Mk D a:=by
 constructor
 ·rintro ⟨k,j,s,ho,hs,hm,hb⟩
  refine ⟨zqr.2 ⟨k,j,s,ho,hs,hb⟩,fun h=>hm ((V7.at_ hF ho).1 (zid.1 h))⟩
 ·rintro ⟨h,hm⟩
  obtain ⟨k,j,s,ho,hs,hb⟩:=zqr.1 h
  exact ⟨k,j,s,ho,hs,fun h'=>hm (zid.2 ⟨k,j,ho,h'⟩),hb⟩
theorem com_iff {D:WD} (hF:Z8 D) {a:Int}:Com D a↔zfa D a:=by
 constructor
 ·intro h
  induction h with
  | start hg hp ho=>exact .start (zol.2 ⟨_,hg,hp⟩) (zmc.1 ho)
  | step _ hm hp ho ih=>exact .step ih ((zqz hF).2 ⟨hp,hm⟩) (zmc.1 ho)
 ·intro h
  induction h with
  | start h1 h2 =>
   obtain ⟨g,hg,hp⟩:=zol.1 h1
   exact .start hg hp (zmc.2 h2)
  | step _ h2 h3 ih =>
   obtain ⟨hp,hm⟩:=(zqz hF).1 h2
   exact .step ih hm hp (zmc.2 h3)
theorem Com.ob {D:WD} {a:Int} (h:Com D a):Ob D a:=by cases h <;> assumption
theorem Lv.ob {D:WD} {a:Int} (h:Lv D a):Ob D a:=by obtain ⟨s,j,h,_⟩:=h;exact ⟨s,j,h⟩
theorem Pt.ob {D:WD} {a b:Int} (h:Pt D a b):Ob D a:=by obtain ⟨s,j,h,_⟩:=h;exact ⟨s,j,h⟩
theorem zmu {D:WD} (hF:Z8 D) {a:Int}:Kp D a↔Kept D a:=by unfold Kp Kept;rw [com_iff hF,zid]
theorem Ob.ne {D:WD} (hF:Z8 D) {a:Int} (h:Ob D a):a≠0:=zor hF (zmc.1 h)
theorem zin {D:WD} (h:D.phase≠4) (s:Y3) (j:Nat):Safe D s j:=fun h'=>h h'.1
theorem Ob.lv {D:WD} (hp:D.phase≠4) {a:Int} (h:Ob D a):Lv D a:=by obtain ⟨s,j,h⟩:=h;exact ⟨s,j,h,zin hp _ _⟩
theorem Com.none {D:WD} (hg:D.grey=[]) {a:Int}:¬ Com D a:=by
 intro h
 induction h with
 | start h1 _ _=>rw [hg] at h1;simp at h1
 | step _ _ _ _ ih=>exact ih
structure zzq (D:WD):Prop where
 form:Z8 D
 gc:zfi D
 roots:∀ r,r ∈ D.muts→∀ a,a ∈ r→a=0∨Lv D a
 ptrs:∀ a b,Lv D a→Pt D a b→b=0∨Lv D b
 seen:D.phase≠0→D.phase≠4→∀ (m:Nat) (r:List Int),D.muts[m]?=some r→N8 D (m:Int)→∀ a,a ∈ r→Kp D a
 kept:D.phase≠0→D.phase≠4→∀ a b,Mk D a→Pt D a b→Kp D b
theorem T7 {D:WD}:U0 D↔zzq D:=by
 constructor
 ·rintro ⟨hF,hG,⟨hr,hs⟩,hk⟩
  refine ⟨hF,hG,fun r h a ha=>zmt.1 (hr r h a ha),fun a b hl hp=>?_,fun h0 h4 m r hm hs a ha=>(zmu hF).2 ((hk h0 h4).1 m r (List.getElem?_eq_some_iff.1 hm).1 hm hs a ha),fun h0 h4 a b hm hp=>?_⟩
  ·obtain ⟨k,j,s,ho,hs',hb⟩:=zqr.1 hp
   obtain ⟨t,i,ht,hsf⟩:=hl
   obtain ⟨rfl,rfl⟩:=(F9.2 ⟨k,ho,hs'⟩:ObjS D a s j).unique hF ht
   exact zmt.1 (hs a k i t (.inl (List.getElem?_eq_some_iff.1 hs').1) ho hs' (fun h=>hsf ((C9.iff hs').1 h)) b hb)
  ·obtain ⟨k,j,s,ho,hs',hb⟩:=zqr.1 hp
   exact (zmu hF).2 ((hk h0 h4).2 a k j s (.inl (List.getElem?_eq_some_iff.1 hs').1) ho hs' ((V7.at_ hF ho).1 (zid.1 hm)) b hb)
 ·intro h
  refine ⟨h.form,h.gc,⟨fun r hr a ha=>zmt.2 (h.roots r hr a ha),fun a k j s _ ho hs hd b hb=>zmt.2 (h.ptrs a b ?_ (zqr.2 ⟨k,j,s,ho,hs,hb⟩))⟩,fun h0 h4=>⟨fun m r _ hm hs a ha=>(zmu h.form).1 (h.seen h0 h4 m r hm hs a ha),fun a k j s _ ho hs hm b hb=>(zmu h.form).1 (h.kept h0 h4 a b (zid.2 ⟨k,j,ho,hm⟩) (zqr.2 ⟨k,j,s,ho,hs,hb⟩))⟩⟩
  exact ⟨s,j,F9.2 ⟨k,ho,hs⟩,fun h'=>hd ((C9.iff hs).2 h')⟩
theorem zzq.noGrey {D:WD} (h:zzq D) (h1:D.phase≠1) (h2:D.phase≠2):D.grey=[]:=Decidable.byContradiction fun e=>by have:=h.gc.1.1 e;omega
theorem Mid.of_right {D:WD} (h:U0 D) (hp:D.phase=1∨D.phase=2):Mid D []:=by
 obtain ⟨hF,⟨⟨_,g⟩,n,sp⟩,⟨hr,hs⟩,hk⟩:=h
 have hk:=hk (by omega) (by omega)
 have hl:∀ a,Live D a→a=0∨R7 D a:=fun a h=>h.imp id fun ⟨k,j,ho,_⟩=>⟨k,j,ho⟩
 exact ⟨hF,hp,fun r hm a ha=>hl a (hr r hm a ha),fun a k j s ho hs' b hb=>hl b (hs a k j s (.inl (List.getElem?_eq_some_iff.1 hs').1) ho hs' (fun h=>by have:=h.1;omega) b hb),sp,n,g,
  fun m r hm hsn a ha=>zkf.iff.2 (hk.1 m r (List.getElem?_eq_some_iff.1 hm).1 hm hsn a ha),fun a k j s ho hs' hm b hb=>zkf.iff.2 (hk.2 a k j s (.inl (List.getElem?_eq_some_iff.1 hs').1) ho hs' hm b hb)⟩
theorem Mid.more {D:WD} {Z Y:List Int} (h:Mid D Z) (hZ:∀ b,b ∈ Z→b ∈ Y):Mid D Y :=
 ⟨h.form,h.ph,h.roots,h.ptrs,h.span,h.next,h.grey,fun m r hm hs a ha=>(h.seen m r hm hs a ha).more hZ,fun a k j s ho hs hm b hb=>(h.kept a k j s ho hs hm b hb).more hZ⟩
theorem Mid.right {D:WD} (h:Mid D []):U0 D:=by
 have hd:∀ k j,¬ C9 D k j:=fun k j hd=>by have:=hd.1;have:=h.ph;omega
 have hl:∀ a,a=0∨R7 D a→Live D a:=fun a ha=>ha.imp id fun ⟨k,j,ho⟩=>⟨k,j,ho,hd k j⟩
 exact ⟨h.form,⟨⟨fun _=>h.ph,h.grey⟩,h.next,h.span⟩,⟨fun r hr a ha=>hl a (h.roots r hr a ha),fun a k j s _ ho hs _ b hb=>hl b (h.ptrs a k j s ho hs b hb)⟩,
  fun _ _=>⟨fun m r _ hm hs a ha=>zkf.iff.1 (h.seen m r hm hs a ha),fun a k j s _ ho hs hm b hb=>zkf.iff.1 (h.kept a k j s ho hs hm b hb)⟩⟩
theorem Q7.rest {D E:WD} {L:List Int} (h:Q7 D L E):E.pages=D.pages∧E.dirty=D.dirty∧E.muts=D.muts∧E.phase=D.phase∧E.next=D.next∧L2 D E:=by
 induction h with
 | nil D=>exact ⟨rfl,rfl,rfl,rfl,rfl,.refl _⟩
 | cons h1 _ ih =>
  obtain ⟨r1,r2,r3,r4,r5⟩:=h1.rest
  obtain ⟨a,b,c,d,e,f⟩:=ih
  exact ⟨a.trans r1,b.trans r2,c.trans r3,d.trans r4,e.trans r5,h1.same.trans f⟩
theorem Q7.keepsM {D E:WD} {L:List Int} (h:Q7 D L E) (hF:Z8 D) {a:Int} (ha:V7 D a):V7 E a:=by
 induction h with
 | nil D=>exact ha
 | cons h1 _ ih=>exact ih (h1.form hF) (h1.keeps hF ha)
theorem Q7.marked {D E:WD} {L:List Int} (h:Q7 D L E) (hF:Z8 D) (hp:D.phase=1∨D.phase=2) {a:Int} (ha:a ∈ L) (ho:R7 D a):V7 E a:=by
 induction h with
 | nil D=>simp at ha
 | cons h1 h2 ih =>
  rcases List.mem_cons.1 ha with rfl | ha
  ·exact h2.keepsM (h1.form hF) (h1.marked hF hp ho)
  ·exact ih (h1.form hF) (by rw [h1.rest.2.2.2.1];exact hp) ha (h1.same.has.2 ho)
theorem Com.keep {D E:WD} (hg:∀ g b,g ∈ D.grey→Pt D g b→Ob D b→Kp E b) (hs:∀ a b,Ob D a→¬ Mk D a→Kp E a→Pt D a b→Ob D b→Kp E b) {a:Int} (h:Com D a):Kp E a:=by
 induction h with
 | start h1 h2 h3=>exact hg _ _ h1 h2 h3
 | step h0 h1 h2 h3 ih=>exact hs _ _ h0.ob h1 ih h2 h3
theorem Kp.same (D E:WD) (hs:E.spans=D.spans) (hw:E.words=D.words) (hb:E.base=D.base) (hg:E.grey=D.grey) {a:Int} (h:Kp D a):Kp E a:=by
 obtain ⟨eb,ep,ew,ed,es,em,eph,en,eg⟩:=E
 obtain ⟨db,dp,dw,dd,ds,dm,dph,dn,dg⟩:=D
 simp only at hs hw hb hg
 subst hs hw hb hg
 rcases h with h | h | h
 ·exact .inl h
 ·right;left
  induction h with
  | start h1 h2 h3=>exact .start h1 h2 h3
  | step _ h1 h2 h3 ih=>exact .step ih h1 h2 h3
 ·exact .inr (.inr h)
theorem zhn {D:WD} (hF:Z8 D) {k k' j j':Nat} {s s':Y3} (hs:D.spans[k]?=some s) (hs':D.spans[k']?=some s') (hj:j<s.lens.length) (hj':j'<s'.lens.length) {i i':Int}
  (i0:0≤i) (i1:i<sz s.cls) (i0':0≤i') (i1':i'<sz s'.cls) (h:atW s (j:Int)+i=atW s' (j':Int)+i'):k=k'∧j=j'∧i=i':=by
 have A:=hF.span k s hs
 have A':=hF.span k' s' hs'
 have l:=A.lens
 have l':=A'.lens
 have h1:=zhq (c:=s.cls) (i:=(j:Int)) (t:=i) (by omega) (by omega) i0 i1
 have h2:=zhq (c:=s'.cls) (i:=(j':Int)) (t:=i') (by omega) (by omega) i0' i1'
 unfold atW at h
 have hp:s.page=s'.page:=by omega
 have hk:k=k':=by
  rcases Nat.lt_trichotomy k k' with h | h | h
  ·have:=zgr hF hs hs' h;omega
  ·exact h
  ·have:=zgr hF hs' hs h;omega
 subst hk
 rw [hs] at hs'
 cases hs'
 have hj:j=j':=by
  rcases Nat.lt_trichotomy j j' with h3 | h3 | h3
  ·have:=Int.mul_le_mul_of_nonneg_right (show (j:Int)+1≤(j':Int) by omega) (show (0:Int)≤sz s.cls by omega)
   rw [Int.add_mul] at this
   omega
  ·exact h3
  ·have:=Int.mul_le_mul_of_nonneg_right (show (j':Int)+1≤(j:Int) by omega) (show (0:Int)≤sz s.cls by omega)
   rw [Int.add_mul] at this
   omega
 subst hj
 exact ⟨rfl,rfl,by omega⟩
theorem zfg {D:WD} (hF:Z8 D) {k j:Nat} {s:Y3} (hs:D.spans[k]?=some s) (hj:j<s.lens.length):0≤atW s (j:Int):=by
 have A:=hF.span k s hs
 have l:=A.lens
 have:=zhq (c:=s.cls) (i:=(j:Int)) (t:=0) (by omega) (by omega) (by omega) (by have:=zkm A.cls;omega)
 have:=A.pg0
 unfold atW
 omega
theorem zjh {D:WD} {s:Y3} {j:Nat} {b:Int}:b ∈ ptrW D s j↔∃ i:Nat,i<(s.ptrs[j]?.getD 0).toNat∧D.words[(atW s (j:Int)).toNat+i]?=some b:=by
 unfold ptrW
 rw [List.mem_iff_getElem?]
 constructor
 ·rintro ⟨i,hi⟩
  rw [List.getElem?_take] at hi
  split at hi
  ·rename_i h
   rw [List.getElem?_drop] at hi
   exact ⟨i,h,hi⟩
  ·cases hi
 ·rintro ⟨i,h,hi⟩
  exact ⟨i,by rw [List.getElem?_take,if_pos h,List.getElem?_drop];exact hi⟩
theorem get_of {L M:List Int} (hl:M.length=L.length) {x:Nat} (h:M[x]?.getD 0=L[x]?.getD 0):M[x]?=L[x]?:=by
 by_cases hx:x<L.length
 ·rw [List.getElem?_eq_getElem hx,List.getElem?_eq_getElem (by omega)] at h ⊢
  simpa using h
 ·rw [List.getElem?_eq_none (by omega),List.getElem?_eq_none (by omega)]
theorem zom {D E:WD} {s t:Y3} {j:Nat} (ha:atW t (j:Int)=atW s (j:Int)) (hp:t.ptrs[j]?.getD 0=s.ptrs[j]?.getD 0) (hl:E.words.length=D.words.length)
  (hw:∀ x:Nat,(atW s (j:Int)).toNat≤x→x<(atW s (j:Int)).toNat+(s.ptrs[j]?.getD 0).toNat→E.words[x]?.getD 0=D.words[x]?.getD 0):ptrW E t j=ptrW D s j:=by
 unfold ptrW
 rw [ha,hp]
 apply List.ext_getElem?
 intro i
 rw [List.getElem?_take,List.getElem?_take]
 split
 ·rw [List.getElem?_drop,List.getElem?_drop]
  exact get_of hl (hw _ (by omega) (by omega))
 ·rfl
def Gone (s:Y3) (i:Nat):Prop:=0<s.lens[i]?.getD 0∧¬ bitI s.mark i
structure SwK (D:WD) (s:Y3) (J:Nat) (E:WD) (t:Y3):Prop where
 page:t.page=s.page
 cls:t.cls=s.cls
 ll:t.lens.length=s.lens.length
 gone:∀ i,i<J→Gone s i→t.lens[i]?.getD 0=0
 stay:∀ i,¬ (i<J∧Gone s i)→t.lens[i]?.getD 0=s.lens[i]?.getD 0∧t.ptrs[i]?.getD 0=s.ptrs[i]?.getD 0
 mark:∀ i,bitI t.mark i↔bitI s.mark i
 words:∀ x:Nat,(∀ i:Nat,i<J→Gone s i→¬ ((atW s (i:Int)).toNat≤x∧x<(atW s (i:Int)).toNat+(sz s.cls).toNat))→E.words[x]?.getD 0=D.words[x]?.getD 0
theorem zxa {D:WD} (hF:Z8 D) {k:Nat} {s:Y3} (hs:D.spans[k]?=some s) {J:Nat} (hJ:J≤s.lens.length):∃ t,(U2 D k J).spans[k]?=some t∧SwK D s J (U2 D k J) t:=by
 induction J with
 | zero=>exact ⟨s,hs,rfl,rfl,rfl,fun i h=>absurd h (by omega),fun _ _=>⟨rfl,rfl⟩,fun _=>Iff.rfl,fun _ _=>rfl⟩
 | succ J ih =>
  obtain ⟨t,ht,A⟩:=ih (by omega)
  have hE:=zho hF hs (j:=J) (by omega)
  have hJt:J<t.lens.length:=by rw [A.ll];omega
  have hst:=A.stay J (by omega)
  have hat:atW t (J:Int)=atW s (J:Int):=by unfold atW;rw [A.page,A.cls]
  show ∃ t',(zkn (U2 D k J) k J).spans[k]?=some t'∧SwK D s (J+1) (zkn (U2 D k J) k J) t'
  by_cases h:0<t.lens[J]?.getD 0∧¬ bitI t.mark J
  ·rw [zgx ht h.1 h.2]
   have hg:Gone s J:=⟨by rw [← hst.1];exact h.1,fun hb=>h.2 ((A.mark J).2 hb)⟩
   obtain ⟨m0,m1,j16⟩:=zek hE ht hJt
   have hbit:=zpd m0 m1 j16
   refine ⟨zfq t J,List.getElem?_set_self (List.getElem?_eq_some_iff.1 ht).1,A.page,A.cls,by show (t.lens.set J 0).length=_;rw [List.length_set];exact A.ll,fun i hi hgi=>?_,fun i hi=>?_,fun i=>?_,fun x hx=>?_⟩
   ·show (t.lens.set J 0)[i]?.getD 0=0
    by_cases e:i=J
    ·subst e
     rw [List.getElem?_set_self hJt]
     rfl
    ·rw [List.getElem?_set_ne (fun h=>e h.symm)]
     exact A.gone i (by omega) hgi
   ·have e:i≠J:=fun e=>hi ⟨by omega,e ▸ hg⟩
    show (t.lens.set J 0)[i]?.getD 0=_∧(t.ptrs.set J 0)[i]?.getD 0=_
    rw [List.getElem?_set_ne (fun h=>e h.symm),List.getElem?_set_ne (fun h=>e h.symm)]
    exact A.stay i fun h=>hi ⟨by omega,h.2⟩
   ·show bitI (bits .andNot .i64 t.mark ((2:Int) ^ J)) i↔_
    rw [hbit]
    exact ⟨fun h=>(A.mark i).1 h.1,fun h=>⟨(A.mark i).2 h,fun e=>hg.2 (e ▸ h)⟩⟩
   ·show (zjp (U2 D k J).words (atW t (J:Int)).toNat (sz t.cls).toNat)[x]?.getD 0=_
    rw [ztj,hat,A.cls,if_neg (hx J (by omega) hg)]
    exact A.words x fun i hi=>hx i (by omega)
  ·rw [zil ht h]
   refine ⟨t,ht,A.page,A.cls,A.ll,fun i hi hgi=>?_,fun i hi=>A.stay i fun h=>hi ⟨by omega,h.2⟩,A.mark,fun x hx=>A.words x fun i hi=>hx i (by omega)⟩
   by_cases e:i=J
   ·subst e
    exact absurd ⟨by rw [hst.1];exact hgi.1,fun hb=>hgi.2 ((A.mark i).1 hb)⟩ h
   ·exact A.gone i (by omega) hgi
theorem zus {D E:WD} (hF:Z8 D) (hp:D.phase=4) {k:Nat} {s:Y3} (hu:zlt D k s) (hE:zfs D k s E) :
  (∀ a,Lv E a↔Lv D a)∧(∀ a b,Lv D a→(Pt E a b↔Pt D a b))∧E.base=D.base∧E.muts=D.muts∧E.phase=4∧E.grey=D.grey:=by
 obtain ⟨hs,hsw,_⟩:=hu
 obtain ⟨t,ht,A⟩:=zxa hF hs (Nat.le_refl _)
 have L:=zgb hs s.lens.length
 have hl:=(List.getElem?_eq_some_iff.1 ht).1
 obtain ⟨t',ht',hE⟩:=hE
 rw [ht] at ht'
 cases ht'
 generalize U2 D k s.lens.length=F at *
 have hat:∀ i:Nat,atW t (i:Int)=atW s (i:Int):=fun i=>by unfold atW;rw [A.page,A.cls]
 have hato:∀ i:Nat,atW (offS t) (i:Int)=atW s (i:Int):=fun i=>by unfold atW offS;show t.page*32+_*sz t.cls=_;rw [A.page,A.cls]
 have c1:∀ u,u ∈ E.spans→u=offS t∨∃ q,q≠k∧D.spans[q]?=some u:=fun u hm=>by
  have key:∀ q,(F.spans.set k (offS t))[q]?=some u→(q=k∧u=offS t)∨(q≠k∧D.spans[q]?=some u):=fun q hq=>by
   rcases zgu ht hq with h | ⟨hne,h⟩
   ·exact .inl h
   ·rw [L.other q hne] at h
    exact .inr ⟨hne,h⟩
  rcases hE with ⟨_,rfl⟩ | ⟨_,rfl⟩
  ·obtain ⟨q,hq⟩:=List.mem_iff_getElem?.1 hm
   obtain ⟨i,hi,hne,_⟩:=znt hq
   rcases key i hi with ⟨h,_⟩ | h
   ·exact absurd h hne
   ·exact .inr ⟨i,h⟩
  ·obtain ⟨q,hq⟩:=List.mem_iff_getElem?.1 hm
   exact (key q hq).imp And.right fun h=>⟨q,h⟩
 have c2:∀ q u,q≠k→D.spans[q]?=some u→u ∈ E.spans:=fun q u hne hq=>by
  rw [← L.other q hne] at hq
  have h1:(F.spans.set k (offS t))[q]?=some u:=zsh hne hq
  rcases hE with ⟨_,rfl⟩ | ⟨_,rfl⟩
  ·obtain ⟨i,hi⟩:=zrf h1 hne
   exact List.mem_of_getElem? hi
  ·exact List.mem_of_getElem? h1
 have c3:∀ i,i<t.lens.length→0<t.lens[i]?.getD 0→offS t ∈ E.spans:=fun i hi h0=>by
  rcases hE with ⟨he,_⟩ | ⟨_,rfl⟩
  ·exact absurd h0 (he i hi)
  ·exact List.mem_of_getElem? (List.getElem?_set_self hl)
 have eb:E.base=D.base:=by rcases hE with ⟨_,rfl⟩ | ⟨_,rfl⟩ <;> exact L.base
 have em:E.muts=D.muts:=by rcases hE with ⟨_,rfl⟩ | ⟨_,rfl⟩ <;> exact L.muts
 have eg:E.grey=D.grey:=by rcases hE with ⟨_,rfl⟩ | ⟨_,rfl⟩ <;> exact L.grey
 have ep:E.phase=4:=by rcases hE with ⟨_,rfl⟩ | ⟨_,rfl⟩ <;> exact L.phase.trans hp
 have ew:E.words=F.words:=by rcases hE with ⟨_,rfl⟩ | ⟨_,rfl⟩ <;> rfl
 have hk:∀ i,i<s.lens.length→(0<t.lens[i]?.getD 0↔0<s.lens[i]?.getD 0∧bitI s.mark i):=fun i hi=>by
  by_cases hg:Gone s i
  ·rw [A.gone i hi hg]
   exact ⟨fun h=>absurd h (by omega),fun h=>absurd h.2 hg.2⟩
  ·rw [(A.stay i fun h=>hg h.2).1]
   exact ⟨fun h=>⟨h,Classical.byContradiction fun hb=>hg ⟨h,hb⟩⟩,And.left⟩
 have wd:∀ (q:Nat) (u:Y3) (i:Nat),D.spans[q]?=some u→i<u.lens.length→(q=k→bitI s.mark i) →
   ∀ x:Nat,(atW u (i:Int)).toNat≤x→x<(atW u (i:Int)).toNat+(u.ptrs[i]?.getD 0).toNat→E.words[x]?.getD 0=D.words[x]?.getD 0:=fun q u i hq hi hb x h1 h2=>by
  rw [ew]
  refine A.words x fun i' hi' hg' hx=>?_
  have S:=(hF.span q u hq).slot i hi
  have:=S.l1
  have:=S.p1
  have:=S.p0
  have n1:=zfg hF hq hi
  have n2:=zfg hF hs hi'
  obtain ⟨rfl,rfl,_⟩:=zhn hF hq hs hi hi' (i:=(x:Int)-atW u (i:Int)) (i':=(x:Int)-atW s (i':Int)) (by omega) (by omega) (by omega) (by omega) (by omega)
  exact hg'.2 (hb rfl)
 have wl:E.words.length=D.words.length:=by rw [ew];exact L.wl
 -- an object of span k that stays
 have obk:∀ a i,ObjS E a (offS t) i→ObjS D a s i∧bitI s.mark i:=fun a i ⟨_,hi,h0,ha⟩=>by
  have hi':i<s.lens.length:=by rw [← A.ll];exact hi
  obtain ⟨h1,h2⟩:=(hk i hi').1 h0
  exact ⟨⟨List.mem_of_getElem? hs,hi',h1,by rw [← hato i,← eb];exact ha⟩,h2⟩
 have kob:∀ a i,ObjS D a s i→bitI s.mark i→ObjS E a (offS t) i:=fun a i ⟨_,hi,h0,ha⟩ hb=>by
  have h1:=(hk i hi).2 ⟨h0,hb⟩
  have hi':i<t.lens.length:=by rw [A.ll];exact hi
  exact ⟨c3 i hi' h1,hi',h1,by rw [hato i,eb];exact ha⟩
 have pk:∀ i,i<s.lens.length→bitI s.mark i→ptrW E (offS t) i=ptrW D s i:=fun i hi hb =>
  zom (hato i) (A.stay i fun h=>h.2.2 hb).2 wl (wd k s i hs hi fun _=>hb)
 have po:∀ q u i,q≠k→D.spans[q]?=some u→i<u.lens.length→ptrW E u i=ptrW D u i:=fun q u i hq hu hi =>
  zom rfl rfl wl (wd q u i hu hi fun e=>absurd e hq)
 refine ⟨fun a=>⟨?_,?_⟩,fun a b hla=>⟨?_,?_⟩,eb,em,ep,eg⟩
 ·rintro ⟨u,i,ho,hsf⟩
  rcases c1 u ho.1 with rfl | ⟨q,hq,hu⟩
  ·obtain ⟨h1,h2⟩:=obk a i ho
   exact ⟨s,i,h1,fun h=>h.2.2 h2⟩
  ·exact ⟨u,i,⟨List.mem_of_getElem? hu,ho.2.1,ho.2.2.1,by rw [← eb];exact ho.2.2.2⟩,fun h=>hsf ⟨ep,h.2⟩⟩
 ·rintro ⟨u,i,ho,hsf⟩
  obtain ⟨q,hu⟩:=List.mem_iff_getElem?.1 ho.1
  by_cases hq:q=k
  ·subst hq
   rw [hs] at hu
   cases hu
   exact ⟨_,i,kob a i ho (Classical.byContradiction fun hb=>hsf ⟨hp,hsw,hb⟩),fun h=>Bool.noConfusion h.2.1⟩
  ·exact ⟨u,i,⟨c2 q u hq hu,ho.2.1,ho.2.2.1,by rw [eb];exact ho.2.2.2⟩,fun h=>hsf ⟨hp,h.2⟩⟩
 ·rintro ⟨u,i,ho,hb⟩
  rcases c1 u ho.1 with rfl | ⟨q,hq,hu⟩
  ·obtain ⟨h1,h2⟩:=obk a i ho
   rw [pk i h1.2.1 h2] at hb
   exact ⟨s,i,h1,hb⟩
  ·rw [po q u i hq hu ho.2.1] at hb
   exact ⟨u,i,⟨List.mem_of_getElem? hu,ho.2.1,ho.2.2.1,by rw [← eb];exact ho.2.2.2⟩,hb⟩
 ·rintro ⟨u,i,ho,hb⟩
  obtain ⟨q,hu⟩:=List.mem_iff_getElem?.1 ho.1
  by_cases hq:q=k
  ·subst hq
   rw [hs] at hu
   cases hu
   obtain ⟨v,i',hv,hsf⟩:=hla
   obtain ⟨rfl,rfl⟩:=ho.unique hF hv
   have hm:bitI v.mark i':=Classical.byContradiction fun hb=>hsf ⟨hp,hsw,hb⟩
   exact ⟨_,i',kob a i' ho hm,by rw [pk i' ho.2.1 hm];exact hb⟩
  ·exact ⟨u,i,⟨c2 q u hq hu,ho.2.1,ho.2.2.1,by rw [eb];exact ho.2.2.2⟩,by rw [po q u i hq hu ho.2.1];exact hb⟩
theorem zvt {D E:WD} (hR:U0 D) (hG:U1 E) (hp:D.phase=1) (h:zro D E):U0 E:=by
 have A:=T7.1 hR
 rcases h with ⟨r,F,h0,hr,hA,rfl⟩ | ⟨hn,rfl⟩
 ·have m0:=Mid.of_right hR (.inl hp)
  have m2:Mid F []:=(m0.more (Y:=nz r ++ []) (by simp)).shades hA
  obtain ⟨_,_,em,ep,en,hO⟩:=hA.rest
  have B:=T7.1 m2.right
  have nf:F.phase≠4:=by omega
  have kp:∀ {a:Int},Kp F a→Kp { F with next:=D.next+1 } a:=fun h=>Kp.same F { F with next:=D.next+1 } rfl rfl rfl rfl h
  refine T7.2 ⟨hG.form,hG.gc,B.roots,B.ptrs,fun _ _ m r' hm hs a ha=>kp ?_,fun _ _ a b hm hpt=>kp (B.kept (by omega) nf a b hm hpt)⟩
  have hm':D.muts[m]?=some r':=by rw [← em];exact hm
  by_cases e:m=D.next.toNat
  ·subst e
   rw [hr] at hm'
   cases hm'
   by_cases ha0:a=0
   ·exact .inl ha0
   ·have ho:=(m0.roots r (List.mem_of_getElem? hr) a ha).resolve_left ha0
    exact .inr (.inr (zid.2 (hA.marked hR.1 (.inl hp) ((zos ha0).2 ha) ho)))
  ·refine B.seen (by omega) nf m r' hm ?_ a ha
   have hs':(F.phase=1∧(m:Int)<D.next+1)∨F.phase=2∨F.phase=3:=hs
   unfold N8
   rw [ep,en]
   omega
 ·have h4:D.phase≠4:=by omega
  have h0:D.phase≠0:=by omega
  have kp:∀ {a:Int},Kp D a→Kp { D with phase:=2,next:=0 } a:=fun h=>Kp.same D { D with phase:=2,next:=0 } rfl rfl rfl rfl h
  have lv:∀ {a:Int},Lv D a→Lv { D with phase:=2,next:=0 } a:=fun ⟨s,j,h,_⟩=>⟨s,j,h,zin (by show (2:Int)≠4;omega) _ _⟩
  refine T7.2 ⟨hG.form,hG.gc,fun r hr a ha=>(A.roots r hr a ha).imp id lv,fun a b ⟨s,j,h,_⟩ hpt=>(A.ptrs a b ⟨s,j,h,zin h4 _ _⟩ hpt).imp id lv,fun _ _ m r hm hs a ha=>kp (A.seen h0 h4 m r hm (.inl ⟨hp,?_⟩) a ha),fun _ _ a b hm hpt=>kp (A.kept h0 h4 a b hm hpt)⟩
  have:=(List.getElem?_eq_some_iff.1 hm).1
  have e:({ D with phase:=2,next:=0 }:WD).muts.length=D.muts.length:=rfl
  omega
theorem scan_mid {D:WD} {G:List Int} {a:Int} {k j:Nat} {s:Y3} (hR:U0 D) (hp:D.phase=2) (hg:D.grey=G ++ [a]) (ho:U3 D a k j) (hs:D.spans[k]?=some s):Mid { D with grey:=G } (nz (ptrW D s j)):=by
 have m:=Mid.of_right hR (.inr hp)
 have kp:∀ b,zkf D [] b→zkf { D with grey:=G } (nz (ptrW D s j)) b:=by
  rintro b (h | h | h)
  ·exact .inl h
  ·right;left
   induction h with
   | grey h1 h2 =>
    obtain ⟨x,q,i,t,hx,hxo,ht,hy⟩:=h1
    rw [hg] at hx
    rcases List.mem_append.1 hx with hx | hx
    ·exact .grey ⟨x,q,i,t,hx,hxo,ht,hy⟩ h2
    ·rw [List.mem_singleton] at hx
     subst hx
     obtain ⟨rfl,rfl⟩:=hxo.unique hR.1 ho
     rw [hs] at ht
     cases ht
     exact .more ((zos (zor hR.1 h2)).2 hy) h2
   | more h1 h2=>simp at h1
   | step h1 h2 h3 ih=>exact .step ih h2 h3
  ·exact .inr (.inr h)
 refine ⟨zgh hR.1 G,m.ph,m.roots,m.ptrs,m.span,m.next,?_,fun m' r hm hs a ha=>kp a (m.seen m' r hm hs a ha),fun a k j s ho hs hm b hb=>kp b (m.kept a k j s ho hs hm b hb)⟩
 have g:=m.grey
 rw [hg] at g
 exact Y8.of (D:=D) (E:={ D with grey:=G }) ⟨rfl,rfl,rfl,fun k s t h1 h2=>by rw [h1] at h2;cases h2;exact .refl _⟩ (fun _ _ h=>h) ⟨(List.nodup_append.1 g.1).1,fun b hb=>g.2 b (List.mem_append.2 (.inl hb))⟩
theorem zvi {D E:WD} (hR:U0 D) (hG:U1 E) (hp:D.phase=2) (h:zrm D E):U0 E:=by
 have A:=T7.1 hR
 rcases h with ⟨G,a,k,j,s,hg,ho,hs,hA⟩ | ⟨hn,rfl⟩
 ·exact (((scan_mid hR hp hg ho hs).more (Y:=nz (ptrW D s j) ++ []) (by simp)).shades hA).right
 ·have h4:D.phase≠4:=by omega
  have h0:D.phase≠0:=by omega
  have kp:∀ {a:Int},Kp D a→Kp { D with phase:=3 } a:=fun h=>Kp.same D { D with phase:=3 } rfl rfl rfl rfl h
  have lv:∀ {a:Int},Lv D a→Lv { D with phase:=3 } a:=fun ⟨s,j,h,_⟩=>⟨s,j,h,zin (by show (3:Int)≠4;omega) _ _⟩
  exact T7.2 ⟨hG.form,hG.gc,fun r hr a ha=>(A.roots r hr a ha).imp id lv,fun a b ⟨s,j,h,_⟩ hpt=>(A.ptrs a b ⟨s,j,h,zin h4 _ _⟩ hpt).imp id lv,fun _ _ m r hm hs a ha=>kp (A.seen h0 h4 m r hm (.inr (.inl hp)) a ha),fun _ _ a b hm hpt=>kp (A.kept h0 h4 a b hm hpt)⟩
theorem zuq {D:WD} (hR:U0 D) (hG:U1 { D with phase:=4 }) (hp:D.phase=3):U0 { D with phase:=4 }:=by
 have A:=T7.1 hR
 have h4:D.phase≠4:=by omega
 have h0:D.phase≠0:=by omega
 have hg:=A.noGrey (by omega) (by omega)
 have lv:∀ {a:Int},Kp D a→a=0∨Lv { D with phase:=4 } a:=by
  rintro a (h | h | ⟨s,j,h,hb⟩)
  ·exact .inl h
  ·exact absurd h (Com.none hg)
  ·exact .inr ⟨s,j,h,fun h'=>h'.2.2 hb⟩
 refine T7.2 ⟨hG.form,hG.gc,fun r hr a ha=>?_,fun a b ⟨s,j,h,hsf⟩ hpt=>lv (A.kept h0 h4 a b ⟨s,j,h,?_⟩ hpt),fun _ h=>absurd rfl h,fun _ h=>absurd rfl h⟩
 ·obtain ⟨m,hm⟩:=List.mem_iff_getElem?.1 hr
  exact lv (A.seen h0 h4 m r hm (.inr (.inr hp)) a ha)
 ·refine Classical.byContradiction fun hb=>hsf ⟨rfl,?_,hb⟩
  cases e:s.swept
  ·rfl
  ·exact absurd ((A.gc.2.2 s h.1).1 e) h4
theorem zsx {D:WD} (hall:∀ s,s ∈ D.spans→s.swept=true) :
  (∀ a,Lv { D with phase:=0,spans:=D.spans.map M1 } a↔Lv D a)∧(∀ a b,Pt { D with phase:=0,spans:=D.spans.map M1 } a b↔Pt D a b):=by
 have toD:∀ a u i,ObjS { D with phase:=0,spans:=D.spans.map M1 } a u i→∃ s,u=M1 s∧ObjS D a s i:=fun a u i ⟨hm,hi,h0,ha⟩=>by
  obtain ⟨s,hs,rfl⟩:=List.mem_map.1 hm
  exact ⟨s,rfl,hs,hi,h0,ha⟩
 have fro:∀ a s i,ObjS D a s i→ObjS { D with phase:=0,spans:=D.spans.map M1 } a (M1 s) i:=fun a s i ⟨hm,hi,h0,ha⟩=>⟨List.mem_map.2 ⟨s,hm,rfl⟩,hi,h0,ha⟩
 refine ⟨fun a=>⟨fun ⟨u,i,h,_⟩=>?_,fun ⟨s,i,h,_⟩=>⟨_,i,fro a s i h,zin (by show (0:Int)≠4;omega) _ _⟩⟩,fun a b=>⟨fun ⟨u,i,h,hb⟩=>?_,fun ⟨s,i,h,hb⟩=>⟨_,i,fro a s i h,hb⟩⟩⟩
 ·obtain ⟨s,rfl,ho⟩:=toD a u i h
  exact ⟨s,i,ho,fun h'=>by rw [hall s ho.1] at h';exact Bool.noConfusion h'.2.1⟩
 ·obtain ⟨s,rfl,ho⟩:=toD a u i h
  exact ⟨s,i,ho,hb⟩
theorem zrx {D E:WD} (hR:U0 D) (hG:U1 E) (hp:D.phase=4) (h:znx D E):U0 E:=by
 have A:=T7.1 hR
 rcases h with ⟨k,s,hu,hs⟩ | ⟨hall,rfl⟩
 ·obtain ⟨l,p,_,em,ep,_⟩:=zus hR.1 hp hu hs
  refine T7.2 ⟨hG.form,hG.gc,fun r hr a ha=>(A.roots r (by rw [← em];exact hr) a ha).imp id (l a).2,fun a b hl hpt=>(A.ptrs a b ((l a).1 hl) ((p a b ((l a).1 hl)).1 hpt)).imp id (l b).2,fun _ h=>absurd ep h,fun _ h=>absurd ep h⟩
 ·obtain ⟨l,p⟩:=zsx hall
  exact T7.2 ⟨hG.form,hG.gc,fun r hr a ha=>(A.roots r hr a ha).imp id (l a).2,fun a b hl hpt=>(A.ptrs a b ((l a).1 hl) ((p a b).1 hpt)).imp id (l b).2,fun h=>absurd rfl h,fun h=>absurd rfl h⟩
theorem zet.right {D E:WD} (hR:U0 D) (hG:U1 D) (h:zet D E):U0 E:=by
 have hG':=h.going hG
 rcases h with ⟨p,rfl⟩ | ⟨p,h⟩ | ⟨p,h⟩ | ⟨p,rfl⟩ | ⟨p,h⟩
 ·exact hR
 ·exact zvt hR hG' p h
 ·exact zvi hR hG' p h
 ·exact zuq hR hG' p
 ·exact zrx hR hG' p h
theorem zgc {D:WD} (hR:U0 D) (hp:D.phase=0):U0 { D with phase:=1 }:=by
 have A:=T7.1 hR
 obtain ⟨⟨g1,g2⟩,⟨n0,n1,n2⟩,sp⟩:=A.gc
 have hg:=A.noGrey (by omega) (by omega)
 have hn:D.next=0:=by
  by_cases h:0<D.next
  ·have:=n2 h;omega
  ·omega
 have hmk:∀ a,¬ Mk D a:=fun a ⟨s,j,h,hb⟩=>by
  have:=(sp s h.1).2 (fun e=>by rw [e] at hb;exact zpy j hb)
  exact this.1 hp
 have lv:∀ {a:Int},Lv D a→Lv { D with phase:=1 } a:=fun ⟨s,j,h,_⟩=>⟨s,j,h,zin (by show (1:Int)≠4;omega) _ _⟩
 have hF:Z8 { D with phase:=1 }:=by
  have:=zhd A.form 1 D.next (by omega) (by omega)
  exact this
 refine T7.2 ⟨hF,⟨⟨fun _=>.inl rfl,by show Y8 _ D.grey;rw [hg];exact zjk⟩,⟨n0,n1,fun _=>rfl⟩,fun s hs=>⟨fun h=>?_,fun h=>absurd hp ((sp s hs).2 h).1⟩⟩,fun r hr a ha=>(A.roots r hr a ha).imp id lv,fun a b ⟨s,j,h,_⟩ hpt=>(A.ptrs a b ⟨s,j,h,zin (by omega) _ _⟩ hpt).imp id lv,fun _ _ m r hm hs=>?_,fun _ _ a b hm=>absurd hm (hmk a)⟩
 ·have:=(sp s hs).1 h
  omega
 ·have hs':((1:Int)=1∧(m:Int)<D.next)∨(1:Int)=2∨(1:Int)=3:=hs
  omega
theorem zjx {D:WD} (hR:U0 D) (hG:U1 D) (hp:D.phase=0):U1 { D with phase:=1 } :=
 ⟨(zgc hR hp).1,(zgc hR hp).2.1,⟨hG.ints.words,hG.ints.muts,hG.ints.grey⟩⟩
theorem Kp.map {D E:WD} (hg:∀ g,g ∈ D.grey→g ∈ E.grey) (hp:∀ a b,Pt D a b→Pt E a b) (ho:∀ a,Ob D a→Ob E a) (hm:∀ a,Ob D a→Mk E a→Mk D a) (hm':∀ a,Mk D a→Mk E a) {a:Int} (h:Kp D a):Kp E a:=by
 rcases h with h | h | h
 ·exact .inl h
 ·right;left
  induction h with
  | start h1 h2 h3=>exact .start (hg _ h1) (hp _ _ h2) (ho _ h3)
  | step h0 h1 h2 h3 ih=>exact .step ih (fun h=>h1 (hm _ h0.ob h)) (hp _ _ h2) (ho _ h3)
 ·exact .inr (.inr (hm' _ h))
theorem zjy {D:WD} {m h x:Int} (m0:0≤m) (m1:m<(D.muts.length:Int)) {k:Nat} {r:List Int} (hk:(M8 D m h x).muts[k]?=some r) :
  (k=m.toNat∧∃ r0,D.muts[k]?=some r0∧r=r0.set h.toNat x)∨(k≠m.toNat∧D.muts[k]?=some r):=by
 have hl:m.toNat<D.muts.length:=by omega
 have hs:D.muts[m.toNat]?=some (D.muts[m.toNat]'hl):=List.getElem?_eq_getElem _
 have hk':(D.muts.set m.toNat ((D.muts[m.toNat]?.getD []).set h.toNat x))[k]?=some r:=hk
 by_cases e:k=m.toNat
 ·subst e
  rw [List.getElem?_set_self hl] at hk'
  cases hk'
  exact .inl ⟨rfl,_,hs,by rw [hs];rfl⟩
 ·rw [List.getElem?_set_ne (fun h=>e h.symm)] at hk'
  exact .inr ⟨e,hk'⟩
theorem zfw {D:WD} {m h x:Int} (hR:U0 D) (m0:0≤m) (m1:m<(D.muts.length:Int)) (hx:x=0∨Lv D x) (hk:D.phase≠0→D.phase≠4→N8 D m→Kp D x):U0 (M8 D m h x):=by
 have A:=T7.1 hR
 have kp:∀ {a:Int},Kp D a→Kp (M8 D m h x) a:=fun h0=>Kp.same D (M8 D m h x) rfl rfl rfl rfl h0
 refine T7.2 ⟨zqm hR.1 m h x,⟨A.gc.1,?_,A.gc.2.2⟩,fun r hr a ha=>?_,A.ptrs,fun h0 h4 m' r hm hs a ha=>?_,fun h0 h4 a b hm hp=>kp (A.kept h0 h4 a b hm hp)⟩
 ·have:=A.gc.2.1
  unfold J0 at this ⊢
  show 0≤D.next∧D.next≤((D.muts.set _ _).length:Int)∧_
  rw [List.length_set]
  exact this
 ·obtain ⟨k,hk'⟩:=List.mem_iff_getElem?.1 hr
  rcases zjy m0 m1 hk' with ⟨rfl,r0,hr0,rfl⟩ | ⟨_,h0⟩
  ·rcases List.mem_or_eq_of_mem_set ha with ha | rfl
   ·exact A.roots r0 (List.mem_of_getElem? hr0) a ha
   ·exact hx
  ·exact A.roots r (List.mem_of_getElem? h0) a ha
 ·rcases zjy m0 m1 hm with ⟨rfl,r0,hr0,rfl⟩ | ⟨_,hr0⟩
  ·rcases List.mem_or_eq_of_mem_set ha with ha | rfl
   ·exact kp (A.seen h0 h4 _ r0 hr0 hs a ha)
   ·have hs':N8 D ((m.toNat:Nat):Int):=hs
    rw [show ((m.toNat:Nat):Int)=m by omega] at hs'
    exact kp (hk h0 h4 hs')
  ·exact kp (A.seen h0 h4 m' r hr0 hs a ha)
theorem zfx {D:WD} {m h x:Int} (hR:U0 (M8 D m h x)) (hI:zju D) (m0:0≤m) (m1:m<(D.muts.length:Int)) (hx:I64 x):U1 (M8 D m h x):=by
 refine ⟨hR.1,hR.2.1,hI.words,fun r hr=>?_,hI.grey⟩
 obtain ⟨k,hk'⟩:=List.mem_iff_getElem?.1 hr
 rcases zjy m0 m1 hk' with ⟨rfl,r0,hr0,rfl⟩ | ⟨_,h0⟩
 ·intro y hy
  rcases List.mem_or_eq_of_mem_set hy with hy | rfl
  ·exact hI.muts r0 (List.mem_of_getElem? hr0) y hy
  ·exact hx
 ·exact hI.muts r (List.mem_of_getElem? h0)
theorem zxt {D:WD} (hF:Z8 D) {m h:Int} (m0:0≤m) (m1:m<(D.muts.length:Int)) (hh:HOk h):∃ r,D.muts[m.toNat]?=some r∧V4 D m h ∈ r:=by
 have hl:m.toNat<D.muts.length:=by omega
 have hs:D.muts[m.toNat]?=some (D.muts[m.toNat]'hl):=List.getElem?_eq_getElem _
 refine ⟨_,hs,?_⟩
 have h6:=hF.roots _ _ hs
 unfold HOk at hh
 have hl2:h.toNat<(D.muts[m.toNat]'hl).length:=by omega
 unfold V4
 rw [hs,Option.getD_some,List.getElem?_eq_getElem hl2,Option.getD_some]
 exact List.getElem_mem _
def zgv (D:WD) (p:Nat) (z:Int):WD:={ D with words:=D.words.set p z,dirty:=zfr D.dirty (p:Int) 1 }
section
variable {D:WD} {a0:Int} {k j:Nat} {s:Y3} {i:Int}
theorem zwv (hF:Z8 D) (hs:D.spans[k]?=some s) (hj:j<s.lens.length) (i0:0≤i) (i1:i<sz s.cls):(atW s (j:Int)+i).toNat<D.words.length:=by
 have A:=hF.span k s hs
 have l:=A.lens
 have:=zhq (c:=s.cls) (i:=(j:Int)) (t:=i) (by omega) (by omega) i0 i1
 have:=A.pg0
 have:=A.pg1
 have:=hF.words
 unfold atW
 omega
theorem zql (hF:Z8 D) (ho:U3 D a0 k j) (hs:D.spans[k]?=some s) (i0:0≤i) (i1:i<s.lens[j]?.getD 0) (z:Int):Z8 (zgv D (atW s (j:Int)+i).toNat z):=by
 refine ⟨hF.geo,by show (((D.words.set _ z).length:Nat):Int)=_;rw [List.length_set];exact hF.words,by show (((zfr _ _ _).length:Nat):Int)=_;rw [zhx];exact hF.dirty,hF.spans,hF.ph0,hF.ph1,fun q u hu=>⟨(hF.span q u hu).pg0,(hF.span q u hu).pg1,(hF.span q u hu).prev,(hF.span q u hu).cls,(hF.span q u hu).lens,(hF.span q u hu).ptrs,(hF.span q u hu).slot,(hF.span q u hu).mk0,(hF.span q u hu).mk1⟩,fun x hx hu=>?_,hF.roots⟩
 show (D.words.set (atW s (j:Int)+i).toNat z)[x]?.getD 0=0
 have hx':x<D.words.length:=by
  have:x<(D.words.set (atW s (j:Int)+i).toNat z).length:=hx
  rwa [List.length_set] at this
 by_cases e:x=(atW s (j:Int)+i).toNat
 ·subst e
  obtain ⟨t,ht,hj,_⟩:=ho
  rw [hs] at ht
  cases ht
  have n0:=zfg hF hs hj
  exact absurd (show Used (zgv D _ z) _ from ⟨k,s,(List.getElem?_eq_some_iff.1 hs).1,hs,j,hj,i.toNat,by omega,by omega⟩) hu
 ·rw [List.getElem?_set_ne (fun h=>e h.symm)]
  exact hF.zero x hx' hu
theorem zvf (hF:Z8 D) (ho:U3 D a0 k j) (hs:D.spans[k]?=some s) (i0:0≤i) (i1:i<s.lens[j]?.getD 0) (z:Int) (a b:Int) :
  (Pt (zgv D (atW s (j:Int)+i).toNat z) a b→Pt D a b∨(a=a0∧b=z∧i<s.ptrs[j]?.getD 0)) ∧
  (Pt D a b→Pt (zgv D (atW s (j:Int)+i).toNat z) a b∨(a=a0∧b=D.words[(atW s (j:Int)+i).toNat]?.getD 0∧i<s.ptrs[j]?.getD 0)):=by
 obtain ⟨s',hs',hj,h0,ha⟩:=ho
 rw [hs] at hs'
 cases hs'
 have S:=(hF.span k s hs).slot j hj
 have n0:=zfg hF hs hj
 have l1:=S.l1
 have hin:=zwv hF hs hj i0 (by omega)
 have key:∀ (u:Y3) (q:Nat) (t:Nat),u ∈ D.spans→q<u.lens.length→t<(u.ptrs[q]?.getD 0).toNat→(atW u (q:Int)).toNat+t=(atW s (j:Int)+i).toNat→u=s∧q=j∧(t:Int)=i:=fun u q t hm hq ht he=>by
  obtain ⟨k',hu⟩:=List.mem_iff_getElem?.1 hm
  have U:=(hF.span k' u hu).slot q hq
  have:=U.p1
  have:=U.l1
  have n1:=zfg hF hu hq
  obtain ⟨rfl,rfl,h⟩:=zhn hF hu hs hq hj (i:=(t:Int)) (i':=i) (by omega) (by omega) i0 (by omega) (by omega)
  rw [hs] at hu
  cases hu
  exact ⟨rfl,rfl,h⟩
 constructor
 ·rintro ⟨u,q,⟨hm,hq,hl,hb0⟩,hb⟩
  obtain ⟨t,ht,hw⟩:=zjh.1 hb
  have hw':(D.words.set (atW s (j:Int)+i).toNat z)[(atW u (q:Int)).toNat+t]?=some b:=hw
  by_cases e:(atW u (q:Int)).toNat+t=(atW s (j:Int)+i).toNat
  ·obtain ⟨rfl,rfl,rfl⟩:=key u q t hm hq ht e
   rw [e,List.getElem?_set_self hin] at hw'
   cases hw'
   exact .inr ⟨by rw [← hb0,← ha];rfl,rfl,by omega⟩
  ·rw [List.getElem?_set_ne (fun h=>e h.symm)] at hw'
   exact .inl ⟨u,q,⟨hm,hq,hl,hb0⟩,zjh.2 ⟨t,ht,hw'⟩⟩
 ·rintro ⟨u,q,⟨hm,hq,hl,hb0⟩,hb⟩
  obtain ⟨t,ht,hw⟩:=zjh.1 hb
  by_cases e:(atW u (q:Int)).toNat+t=(atW s (j:Int)+i).toNat
  ·obtain ⟨rfl,rfl,rfl⟩:=key u q t hm hq ht e
   rw [e] at hw
   exact .inr ⟨by rw [← hb0,← ha],by rw [hw];rfl,by omega⟩
  ·refine .inl ⟨u,q,⟨hm,hq,hl,hb0⟩,zjh.2 ⟨t,ht,?_⟩⟩
   show (D.words.set (atW s (j:Int)+i).toNat z)[(atW u (q:Int)).toNat+t]?=some b
   rw [List.getElem?_set_ne (fun h=>e h.symm)]
   exact hw
theorem zkr (hR:U0 D) (ho:U3 D a0 k j) (hs:D.spans[k]?=some s) (i0:0≤i) (i1:i<s.lens[j]?.getD 0) {z:Int} (hzl:i<s.ptrs[j]?.getD 0→z=0∨Lv D z)
  (hold:i<s.ptrs[j]?.getD 0→D.grey≠[]→Ob D (D.words[(atW s (j:Int)+i).toNat]?.getD 0)→Mk D (D.words[(atW s (j:Int)+i).toNat]?.getD 0)) (hzk:i<s.ptrs[j]?.getD 0→D.phase≠0→D.phase≠4→Kp D z) :
  U0 (zgv D (atW s (j:Int)+i).toNat z):=by
 have A:=T7.1 hR
 have P:=zvf hR.1 ho hs i0 i1 z
 have kp:∀ {a:Int},Kp D a→Kp (zgv D (atW s (j:Int)+i).toNat z) a:=fun h=>by
  rcases h with h | h | h
  ·exact .inl h
  ·by_cases e:D.grey=[]
   ·exact absurd h (Com.none e)
   refine h.keep (fun g b h1 h2 h3=>?_) fun a b h1 h2 h3 h4 h5=>?_
   ·rcases (P g b).2 h2 with h2 | ⟨_,rfl,hi⟩
    ·exact .inr (.inl (.start h1 h2 h3))
    ·exact .inr (.inr (hold hi e h3))
   ·rcases (P a b).2 h4 with h4 | ⟨_,rfl,hi⟩
    ·rcases h3 with h3 | h3 | h3
     ·exact absurd h3 (h1.ne hR.1)
     ·exact .inr (.inl (.step h3 h2 h4 h5))
     ·exact absurd h3 h2
    ·exact .inr (.inr (hold hi e h5))
  ·exact .inr (.inr h)
 refine T7.2 ⟨zql hR.1 ho hs i0 i1 z,A.gc,A.roots,fun a b hl hp=>?_,fun h0 h4 m r hm hs a ha=>kp (A.seen h0 h4 m r hm hs a ha),fun h0 h4 a b hm hp=>?_⟩
 ·rcases (P a b).1 hp with hp | ⟨_,rfl,hi⟩
  ·exact A.ptrs a b hl hp
  ·exact hzl hi
 ·rcases (P a b).1 hp with hp | ⟨_,rfl,hi⟩
  ·exact kp (A.kept h0 h4 a b hm hp)
  ·exact kp (hzk hi h0 h4)
end
theorem zks {D:WD} {p:Nat} {z:Int} (hR:U0 (zgv D p z)) (hI:zju D) (hz:I64 z):U1 (zgv D p z):=by
 refine ⟨hR.1,hR.2.1,fun y hy=>?_,hI.muts,hI.grey⟩
 rcases List.mem_or_eq_of_mem_set hy with hy | rfl
 ·exact hI.words y hy
 ·exact hz
theorem zps {D:WD} {c:Int} {k:Nat} {u:Y3}:u ∈ (insD D c k).spans↔u=F3 D c k∨u ∈ D.spans:=by
 show u ∈ D.spans.take k ++ F3 D c k :: D.spans.drop k↔_
 rw [List.mem_append,List.mem_cons]
 conv=>rhs;rw [← List.take_append_drop k D.spans,List.mem_append]
 exact ⟨fun h=>h.elim (fun h=>.inr (.inl h)) fun h=>h.elim .inl fun h=>.inr (.inr h),fun h=>h.elim (fun h=>.inr (.inl h)) fun h=>h.elim .inl fun h=>.inr (.inr h)⟩
theorem zfn {D:WD} {c:Int} {k:Nat} {a:Int} {u:Y3} {i:Nat}:ObjS (insD D c k) a u i↔ObjS D a u i:=by
 constructor
 ·rintro ⟨hm,hi,h0,ha⟩
  rcases zps.1 hm with rfl | hm
  ·have h0':0<(List.replicate (sl' c).toNat (0:Int))[i]?.getD 0:=h0
   rw [rep0] at h0'
   omega
  ·exact ⟨hm,hi,h0,ha⟩
 ·rintro ⟨hm,hi,h0,ha⟩
  exact ⟨zps.2 (.inr hm),hi,h0,ha⟩
theorem zvy {D:WD} (hR:U0 D) {c:Int} {k:Nat} (hp:ziy D k) (hk:(k:Int)≠D.pages) (hc:sl' c≠0):U0 (insD D c k):=by
 have A:=T7.1 hR
 have lv:∀ {a:Int},Lv (insD D c k) a↔Lv D a:=⟨fun ⟨s,j,h,hs⟩=>⟨s,j,zfn.1 h,hs⟩,fun ⟨s,j,h,hs⟩=>⟨s,j,zfn.2 h,hs⟩⟩
 have mk:∀ {a:Int},Mk (insD D c k) a↔Mk D a:=⟨fun ⟨s,j,h,hs⟩=>⟨s,j,zfn.1 h,hs⟩,fun ⟨s,j,h,hs⟩=>⟨s,j,zfn.2 h,hs⟩⟩
 have pt:∀ {a b:Int},Pt (insD D c k) a b↔Pt D a b:=⟨fun ⟨s,j,h,hs⟩=>⟨s,j,zfn.1 h,hs⟩,fun ⟨s,j,h,hs⟩=>⟨s,j,zfn.2 h,hs⟩⟩
 have ob:∀ {a:Int},Ob D a→Ob (insD D c k) a:=fun ⟨s,j,h⟩=>⟨s,j,zfn.2 h⟩
 have kp:∀ {a:Int},Kp D a→Kp (insD D c k) a:=fun h=>Kp.map (D:=D) (E:=insD D c k) (fun _ h=>h) (fun _ _=>pt.2) (fun _=>ob) (fun _ _=>mk.1) (fun _=>mk.2) h
 refine T7.2 ⟨zra hR.1 hp hk hc,⟨⟨A.gc.1.1,A.gc.1.2.1,fun a ha=>zid.1 (mk.2 (zid.2 (A.gc.1.2.2 a ha)))⟩,A.gc.2.1,fun u hu=>?_⟩,fun r hr a ha=>(A.roots r hr a ha).imp id lv.2,fun a b hl hpt=>(A.ptrs a b (lv.1 hl) (pt.1 hpt)).imp id lv.2,fun h0 h4 m r hm hs a ha=>kp (A.seen h0 h4 m r hm hs a ha),fun h0 h4 a b hm hpt=>kp (A.kept h0 h4 a b (mk.1 hm) (pt.1 hpt))⟩
 rcases zps.1 hu with rfl | hu
 ·refine ⟨fun h=>?_,fun h=>absurd rfl h⟩
  have h':(D.phase == 4)=true:=h
  exact eq_of_beq h'
 ·exact A.gc.2.2 u hu
structure Put (D E:WD) (k:Nat) (s t:Y3) (j:Nat) (n p:Int):Prop where
 spans:E.spans=D.spans.set k t
 page:t.page=s.page
 cls:t.cls=s.cls
 swept:t.swept=s.swept
 lens:t.lens=s.lens.set j n
 ptrs:t.ptrs=s.ptrs.set j p
 mks:∀ i,i≠j→(bitI t.mark i↔bitI s.mark i)
 keep:D.phase≠0→s.swept=false→bitI t.mark j
 zero:t.mark≠0→s.mark≠0∨(D.phase≠0∧s.swept=false)
 base:E.base=D.base
 words:E.words=D.words
 muts:E.muts=D.muts
 phase:E.phase=D.phase
 next:E.next=D.next
 grey:E.grey=D.grey
theorem put_of {D T E:WD} (hT:Z8 T) {k j:Nat} {s:Y3} (hs:D.spans[k]?=some s) (hj:j<s.lens.length) {n p:Int} (h1:1≤n) (eT:T=zgp D k s j n p) (h:zlf T k j E):(∃ t,Put D E k s t j n p)∧Z8 E:=by
 have hl:=(List.getElem?_eq_some_iff.1 hs).1
 have hts:T.spans[k]?=some (M7 s j n p):=by rw [eT];exact List.getElem?_set_self hl
 obtain ⟨t,ht,h⟩:=h
 rw [hts] at ht
 cases ht
 have hjt:j<(M7 s j n p).lens.length:=by show j<(s.lens.set j n).length;rw [List.length_set];exact hj
 obtain ⟨m0,m1,j16⟩:=zek hT hts hjt
 have hm:(M7 s j n p).mark=s.mark:=rfl
 rcases h with ⟨hp,hsw,rfl⟩ | ⟨hn,rfl⟩
 ·have hbit:=zzm m0 m1 j16
  refine ⟨⟨{ M7 s j n p with mark:=bits .or .i64 (M7 s j n p).mark ((2:Int) ^ j) },by rw [eT];show (D.spans.set k _).set k _=_;rw [List.set_set],rfl,rfl,rfl,rfl,rfl,fun i hi=>?_,fun _ _=>?_,fun _=>.inr ⟨by rw [eT] at hp;exact hp,hsw⟩,by rw [eT];rfl,by rw [eT];rfl,by rw [eT];rfl,by rw [eT];rfl,by rw [eT];rfl,by rw [eT];rfl⟩,?_⟩
  ·show bitI (bits .or .i64 (M7 s j n p).mark ((2:Int) ^ j)) i↔_
   rw [hbit]
   exact ⟨fun h=>h.elim id fun h=>absurd h hi,.inl⟩
  ·show bitI (bits .or .i64 (M7 s j n p).mark ((2:Int) ^ j)) j
   exact (hbit j).2 (.inr rfl)
  ·have hO:L2 T { T with spans:=T.spans.set k { M7 s j n p with mark:=bits .or .i64 (M7 s j n p).mark ((2:Int) ^ j) } }:=⟨rfl,rfl,by simp,fun q u v h1 h2=>by
    rcases zgu hts h2 with ⟨rfl,rfl⟩ | ⟨_,h2⟩
    ·rw [hts] at h1
     cases h1
     exact ⟨rfl,rfl,rfl,rfl⟩
    ·rw [h1] at h2
     cases h2
     exact .refl _⟩
   refine hO.form hT rfl rfl rfl hT.ph0 hT.ph1 fun q u v g1 g2=>?_
   rcases zgu hts g2 with ⟨rfl,rfl⟩ | ⟨_,g2⟩
   ·obtain ⟨n',r,e1,e2,_,hlt⟩:=zyl m0 m1 j16
    have e3:((2:Int) ^ (M7 s j n p).lens.length)=((2 ^ (M7 s j n p).lens.length:Nat):Int):=by simp
    have hm1:=(hT.span q _ hts).mk1
    refine ⟨by show 0≤bits .or .i64 (M7 s j n p).mark ((2:Int) ^ j);omega,?_,fun i hi hz hb=>?_⟩
    ·show bits .or .i64 (M7 s j n p).mark ((2:Int) ^ j)<2 ^ (M7 s j n p).lens.length
     have:=hlt (M7 s j n p).lens.length (by omega) hjt
     rw [e2,e3]
     omega
    ·rcases (hbit i).1 hb with hb | rfl
     ·exact ((hT.span q _ hts).slot i hi).bit hz hb
     ·have hz':(s.lens.set i n)[i]?.getD 0=0:=hz
      rw [List.getElem?_set_self hj] at hz'
      have:n=0:=hz'
      omega
   ·exact zqc hT g2
 ·refine ⟨⟨M7 s j n p,by rw [eT];rfl,rfl,rfl,rfl,rfl,rfl,fun _ _=>Iff.rfl,fun h0 hsw=>absurd ⟨by rw [eT];exact h0,hsw⟩ hn,.inl,by rw [eT];rfl,by rw [eT];rfl,by rw [eT];rfl,by rw [eT];rfl,by rw [eT];rfl,by rw [eT];rfl⟩,hT⟩
theorem zxw {D E:WD} (hR:U0 D) (hE:Z8 E) {k j:Nat} {s t:Y3} (hs:D.spans[k]?=some s) (hj:j<s.lens.length) (hz:s.lens[j]?.getD 0=0) {n p:Int} (h1:1≤n) (hn:n≤sz s.cls) (pn:p≤n) (P:Put D E k s t j n p) :
  U0 E∧Lv E (D.base+atW s (j:Int))∧(D.phase≠0→D.phase≠4→Mk E (D.base+atW s (j:Int)))∧¬ Ob D (D.base+atW s (j:Int)) ∧
  (∀ a b,Pt E a b→Pt D a b∨(a=D.base+atW s (j:Int)∧b=0))∧(∀ a b,Pt D a b→Pt E a b)∧(∀ a,Ob E a↔Ob D a∨a=D.base+atW s (j:Int)):=by
 have A:=T7.1 hR
 have hF:=hR.1
 have hl:=(List.getElem?_eq_some_iff.1 hs).1
 have hat:∀ i:Nat,atW t (i:Int)=atW s (i:Int):=fun i=>by unfold atW;rw [P.page,P.cls]
 have c1:∀ u,u ∈ E.spans→u=t∨∃ q,q≠k∧D.spans[q]?=some u:=fun u hm=>by
  obtain ⟨q,hq⟩:=List.mem_iff_getElem?.1 hm
  rw [P.spans] at hq
  exact (zgu hs hq).imp And.right fun h=>⟨q,h⟩
 have c2:∀ q u,q≠k→D.spans[q]?=some u→u ∈ E.spans:=fun q u hne hq=>by
  rw [P.spans]
  exact List.mem_of_getElem? (zsh hne hq)
 have c3:t ∈ E.spans:=by rw [P.spans];exact List.mem_of_getElem? (List.getElem?_set_self hl)
 have tj:t.lens[j]?.getD 0=n:=by rw [P.lens,List.getElem?_set_self hj];rfl
 have tl:∀ i,i≠j→t.lens[i]?.getD 0=s.lens[i]?.getD 0:=fun i hi=>by rw [P.lens,List.getElem?_set_ne (fun h=>hi h.symm)]
 have tp:∀ i,i≠j→t.ptrs[i]?.getD 0=s.ptrs[i]?.getD 0:=fun i hi=>by rw [P.ptrs,List.getElem?_set_ne (fun h=>hi h.symm)]
 have ll:t.lens.length=s.lens.length:=by rw [P.lens,List.length_set]
 have new:ObjS E (D.base+atW s (j:Int)) t j:=⟨c3,by omega,by omega,by rw [hat,P.base]⟩
 -- the objects
 have toD:∀ a u i,ObjS E a u i→(u=t∧i=j∧a=D.base+atW s (j:Int))∨(u=t∧i≠j∧ObjS D a s i)∨((∃ q,q≠k∧D.spans[q]?=some u)∧ObjS D a u i):=fun a u i ⟨hm,hi,h0,ha⟩=>by
  rcases c1 u hm with rfl | ⟨q,hq,hu⟩
  ·by_cases e:i=j
   ·subst e
    exact .inl ⟨rfl,rfl,by rw [← ha,hat,P.base]⟩
   ·exact .inr (.inl ⟨rfl,e,List.mem_of_getElem? hs,by omega,by rw [← tl i e];exact h0,by rw [← hat,← P.base];exact ha⟩)
  ·exact .inr (.inr ⟨⟨q,hq,hu⟩,List.mem_of_getElem? hu,hi,h0,by rw [← P.base];exact ha⟩)
 have fro:∀ a u i,ObjS D a u i→(u=s∧i≠j∧ObjS E a t i)∨((∃ q,q≠k∧D.spans[q]?=some u)∧ObjS E a u i):=fun a u i ⟨hm,hi,h0,ha⟩=>by
  obtain ⟨q,hu⟩:=List.mem_iff_getElem?.1 hm
  by_cases hq:q=k
  ·subst hq
   rw [hs] at hu
   cases hu
   have e:i≠j:=fun e=>by subst e;omega
   exact .inl ⟨rfl,e,c3,by omega,by rw [tl i e];exact h0,by rw [hat,P.base];exact ha⟩
  ·exact .inr ⟨⟨q,hq,hu⟩,c2 q u hq hu,hi,h0,by rw [P.base];exact ha⟩
 have nob:¬ Ob D (D.base+atW s (j:Int)):=fun ⟨u,i,hm,hi,h0,ha⟩=>by
  obtain ⟨q,hu⟩:=List.mem_iff_getElem?.1 hm
  have p1:=zkm (hF.span q u hu).cls
  have p2:=zkm (hF.span k s hs).cls
  obtain ⟨rfl,rfl,_⟩:=zhn hF hu hs hi hj (i:=0) (i':=0) (by omega) (by omega) (by omega) (by omega) (by omega)
  rw [hs] at hu
  cases hu
  omega
 have pe:∀ (u:Y3) (i:Nat),atW t (i:Int)=atW u (i:Int)→t.ptrs[i]?.getD 0=u.ptrs[i]?.getD 0→ptrW E t i=ptrW D u i:=fun u i h1 h2=>by unfold ptrW;rw [h1,h2,P.words]
 have po:∀ (u:Y3) (i:Nat),ptrW E u i=ptrW D u i:=fun u i=>by unfold ptrW;rw [P.words]
 have pz:∀ b,b ∈ ptrW E t j→b=0:=fun b hb=>by
  obtain ⟨i,hi,hw⟩:=zjh.1 hb
  have hpj:t.ptrs[j]?.getD 0=p:=by
   have:j<s.ptrs.length:=by have:=(hF.span k s hs).lens;have:=(hF.span k s hs).ptrs;omega
   rw [P.ptrs,List.getElem?_set_self this]
   rfl
  rw [hpj] at hi
  rw [hat,P.words] at hw
  have n0:=zfg hF hs hj
  have hin:=(List.getElem?_eq_some_iff.1 hw).1
  have:=hF.zero _ hin fun ⟨q,u,_,hu,j',hj',i',hi',he⟩=>by
   have S:=(hF.span q u hu).slot j' hj'
   have:=S.l1
   obtain ⟨rfl,rfl,_⟩:=zhn hF hu hs hj' hj (i:=(i':Int)) (i':=(i:Int)) (by omega) (by omega) (by omega) (by omega) (by omega)
   rw [hs] at hu
   cases hu
   omega
  rw [hw] at this
  exact this
 have ptE:∀ a b,Pt E a b→Pt D a b∨(a=D.base+atW s (j:Int)∧b=0):=fun a b ⟨u,i,h,hb⟩=>by
  rcases toD a u i h with ⟨rfl,rfl,rfl⟩ | ⟨rfl,e,ho⟩ | ⟨_,ho⟩
  ·exact .inr ⟨rfl,pz b hb⟩
  ·rw [pe s i (hat i) (tp i e)] at hb
   exact .inl ⟨s,i,ho,hb⟩
  ·rw [po] at hb
   exact .inl ⟨u,i,ho,hb⟩
 have ptD:∀ a b,Pt D a b→Pt E a b:=fun a b ⟨u,i,h,hb⟩=>by
  rcases fro a u i h with ⟨rfl,e,ho⟩ | ⟨_,ho⟩
  ·exact ⟨t,i,ho,by rw [pe u i (hat i) (tp i e)];exact hb⟩
  ·exact ⟨u,i,ho,by rw [po];exact hb⟩
 have obE:∀ a,Ob E a↔Ob D a∨a=D.base+atW s (j:Int):=fun a=>⟨fun ⟨u,i,h⟩=>by
  rcases toD a u i h with ⟨_,_,h⟩ | ⟨_,_,ho⟩ | ⟨_,ho⟩
  ·exact .inr h
  ·exact .inl ⟨_,_,ho⟩
  ·exact .inl ⟨_,_,ho⟩,fun h=>by
  rcases h with ⟨u,i,h⟩ | rfl
  ·rcases fro a u i h with ⟨_,_,ho⟩ | ⟨_,ho⟩ <;> exact ⟨_,_,ho⟩
  ·exact ⟨_,_,new⟩⟩
 have mkD:∀ a,Mk D a→Mk E a:=fun a ⟨u,i,h,hb⟩=>by
  rcases fro a u i h with ⟨rfl,e,ho⟩ | ⟨_,ho⟩
  ·exact ⟨t,i,ho,(P.mks i e).2 hb⟩
  ·exact ⟨u,i,ho,hb⟩
 have mkE:∀ a,Mk E a→Mk D a∨a=D.base+atW s (j:Int):=fun a ⟨u,i,h,hb⟩=>by
  rcases toD a u i h with ⟨_,_,h⟩ | ⟨rfl,e,ho⟩ | ⟨_,ho⟩
  ·exact .inr h
  ·exact .inl ⟨s,i,ho,(P.mks i e).1 hb⟩
  ·exact .inl ⟨u,i,ho,hb⟩
 have lvD:∀ a,Lv D a→Lv E a:=fun a ⟨u,i,h,hsf⟩=>by
  rcases fro a u i h with ⟨rfl,e,ho⟩ | ⟨_,ho⟩
  ·exact ⟨t,i,ho,fun h=>hsf ⟨by rw [← P.phase];exact h.1,by rw [← P.swept];exact h.2.1,fun hb=>h.2.2 ((P.mks i e).2 hb)⟩⟩
  ·exact ⟨u,i,ho,fun h=>hsf ⟨by rw [← P.phase];exact h.1,h.2⟩⟩
 have lvE:∀ a,Lv E a→Lv D a∨a=D.base+atW s (j:Int):=fun a ⟨u,i,h,hsf⟩=>by
  rcases toD a u i h with ⟨_,_,h⟩ | ⟨rfl,e,ho⟩ | ⟨_,ho⟩
  ·exact .inr h
  ·exact .inl ⟨s,i,ho,fun h=>hsf ⟨by rw [P.phase];exact h.1,by rw [P.swept];exact h.2.1,fun hb=>h.2.2 ((P.mks i e).1 hb)⟩⟩
  ·exact .inl ⟨u,i,ho,fun h=>hsf ⟨by rw [P.phase];exact h.1,h.2⟩⟩
 have lvN:Lv E (D.base+atW s (j:Int)):=⟨t,j,new,fun h=>h.2.2 (P.keep (by have:=h.1;rw [P.phase] at this;omega) (by rw [← P.swept];exact h.2.1))⟩
 have mkN:D.phase≠0→D.phase≠4→Mk E (D.base+atW s (j:Int)):=fun h0 h4=>⟨t,j,new,P.keep h0 (by
  cases e:s.swept
  ·rfl
  ·exact absurd ((A.gc.2.2 s (List.mem_of_getElem? hs)).1 e) h4)⟩
 have kp:∀ {a:Int},Kp D a→Kp E a:=fun h=>h.map (fun g h=>by rw [P.grey];exact h) ptD (fun a h=>(obE a).2 (.inl h)) (fun a ho hm=>(mkE a hm).resolve_right fun e=>nob (e ▸ ho)) mkD
 refine ⟨T7.2 ⟨hE,⟨⟨fun h=>by rw [P.phase];exact A.gc.1.1 (by rw [← P.grey];exact h),by rw [P.grey];exact ⟨A.gc.1.2.1,fun a ha=>zid.1 (mkD a (zid.2 (A.gc.1.2.2 a ha)))⟩⟩,?_,fun u hu=>?_⟩,fun r hr a ha=>(A.roots r (by rw [← P.muts];exact hr) a ha).imp id (lvD a),fun a b hla hpt=>?_,fun h0 h4 m r hm hsn a ha=>kp (A.seen (by rw [← P.phase];exact h0) (by rw [← P.phase];exact h4) m r (by rw [← P.muts];exact hm) (by unfold N8 at hsn ⊢;rw [P.phase,P.next] at hsn;exact hsn) a ha),fun h0 h4 a b hm hpt=>?_⟩,lvN,mkN,nob,ptE,ptD,obE⟩
 ·have:=A.gc.2.1
  unfold J0 at this ⊢
  rw [P.next,P.muts,P.phase]
  exact this
 ·rcases c1 u hu with rfl | ⟨q,_,hq⟩
  ·have S:=A.gc.2.2 s (List.mem_of_getElem? hs)
   refine ⟨fun h=>by rw [P.phase];exact S.1 (by rw [← P.swept];exact h),fun h=>?_⟩
   rw [P.phase,P.swept]
   rcases P.zero h with h | h
   ·exact S.2 h
   ·exact h
  ·have S:=A.gc.2.2 u (List.mem_of_getElem? hq)
   unfold L8 at S ⊢
   rw [P.phase]
   exact S
 ·rcases ptE a b hpt with hpt | ⟨_,h⟩
  ·rcases lvE a hla with hla | rfl
   ·exact (A.ptrs a b hla hpt).imp id (lvD b)
   ·exact absurd hpt.ob nob
  ·exact .inl h
 ·rcases ptE a b hpt with hpt | ⟨_,h⟩
  ·rcases mkE a hm with hm | rfl
   ·exact kp (A.kept (by rw [← P.phase];exact h0) (by rw [← P.phase];exact h4) a b hm hpt)
   ·exact absurd hpt.ob nob
  ·exact .inl h
theorem zwf {D:WD} {o:OpD} (h:X0 D o 0):zhj D o∧(L3 o.kind→HOk o.g)∧(N2 o.kind→V4 D o.m o.h≠0)∧(o.kind=1→zle o.n o.v):=by
 rcases h with ⟨_,e⟩ | ⟨_,_,_,e⟩ | ⟨_,_,_,_,e⟩ | ⟨_,_,_,_,e⟩ | ⟨a,b,c,d,_⟩
 ·omega
 ·omega
 ·omega
 ·omega
 ·exact ⟨a,b,c,d⟩
theorem zpn {D:WD} (hI:zju D) (m h:Int):I64 (V4 D m h):=by
 have z:I64 0:=⟨by omega,by omega⟩
 unfold V4
 cases e:D.muts[m.toNat]? with
 | none=>exact z
 | some r =>
  rw [Option.getD_some]
  cases e2:r[h.toNat]? with
  | none=>exact z
  | some a=>exact hI.muts r (List.mem_of_getElem? e) a (List.mem_of_getElem? e2)
theorem ztk {D:WD} (hI:zju D) (p:Nat):I64 (D.words[p]?.getD 0):=by
 cases e:D.words[p]? with
 | none=>exact ⟨by rw [Option.getD_none];omega,by rw [Option.getD_none];omega⟩
 | some a=>exact hI.words a (List.mem_of_getElem? e)
theorem zpm {D:WD} (hR:U0 D) {m h:Int} (m0:0≤m) (m1:m<(D.muts.length:Int)) (hh:HOk h):V4 D m h=0∨Lv D (V4 D m h):=by
 obtain ⟨r,hr,ha⟩:=zxt hR.1 m0 m1 hh
 exact (T7.1 hR).roots r (List.mem_of_getElem? hr) _ ha
theorem zsk {D:WD} (hR:U0 D) {m h:Int} (m0:0≤m) (m1:m<(D.muts.length:Int)) (hh:HOk h) (h0:D.phase≠0) (h4:D.phase≠4) (hs:N8 D m):Kp D (V4 D m h):=by
 obtain ⟨r,hr,ha⟩:=zxt hR.1 m0 m1 hh
 exact (T7.1 hR).seen h0 h4 m.toNat r hr (by rw [show ((m.toNat:Nat):Int)=m by omega];exact hs) _ ha
theorem Kp.next {D:WD} (hR:U0 D) {a b:Int} (h0:D.phase≠0) (h4:D.phase≠4) (h:Kp D a) (hp:Pt D a b):Kp D b:=by
 have A:=T7.1 hR
 by_cases hm:Mk D a
 ·exact A.kept h0 h4 a b hm hp
 ·rcases h with h | h | h
  ·exact absurd h (hp.ob.ne hR.1)
  ·rcases A.ptrs a b (hp.ob.lv h4) hp with e | hl
   ·exact .inl e
   ·exact .inr (.inl (.step h hm hp hl.ob))
  ·exact absurd h hm
theorem zsl {D D1:WD} (hR:U0 D) {n:Int} (h1:1≤n) (hn:n≤16) {k j:Nat} (h:J7 D (cl n) D1 k j) :
  U0 D1∧(∀ s,D1.spans[k]?=some s→s.cls=cl n∧j<s.lens.length∧s.lens[j]?.getD 0=0)∧D1.base=D.base∧D1.words=D.words∧D1.muts=D.muts∧D1.phase=D.phase∧D1.next=D.next∧D1.grey=D.grey ∧
  (∀ a u i,ObjS D1 a u i↔ObjS D a u i):=by
 have hc:=zzi h1 hn
 rcases h with ⟨rfl,t,ht,e,hj,hz,_,_⟩ | ⟨_,hp,hk,rfl,rfl⟩
 ·exact ⟨hR,fun s hs=>by rw [ht] at hs;cases hs;exact ⟨e,hj,hz⟩,rfl,rfl,rfl,rfl,rfl,rfl,fun _ _ _=>Iff.rfl⟩
 ·refine ⟨zvy hR hp hk hc.2.2.1,fun s hs=>?_,rfl,rfl,rfl,rfl,rfl,rfl,fun _ _ _=>zfn⟩
  rw [show (insD D (cl n) k).spans[k]?=some (F3 D (cl n) k) from zua hp.1 _] at hs
  cases hs
  refine ⟨rfl,?_,?_⟩
  ·show 0<(List.replicate (sl' (cl n)).toNat (0:Int)).length
   have:=E7 (cl n)
   have:=hc.2.2.1
   rw [List.length_replicate]
   omega
  ·show (List.replicate (sl' (cl n)).toNat (0:Int))[0]?.getD 0=0
   exact rep0 _ 0
theorem obj_int {D:WD} (hF:Z8 D) {a:Int} (h:Ob D a):I64 a:=by
 have:=zgd hF (zmc.1 h)
 have g:=hF.geo
 have g1:=g.1
 have g2:=g.2.1
 unfold I64
 omega
theorem zte {D E:WD} {o:OpD} {c:Int} (hR:U0 D) (hG:U1 D) (hm:zhj D o) (hz:zle o.n o.v) (h:ziz D o E c):U0 E∧U1 E:=by
 obtain ⟨m0,m1,hh⟩:=hm
 obtain ⟨n1,n2,v0,v1⟩:=hz
 rcases h with ⟨D1,k,j,s,D3,hp,hs,hk,rfl,rfl⟩ | ⟨_,rfl,rfl⟩
 ·obtain ⟨hR1,hpl,e1,e2,e3,e4,e5,e6,_⟩:=zsl hR n1 n2 hp
  obtain ⟨hcl,hj,hz⟩:=hpl s hs
  obtain ⟨hT,_⟩:=zop hR.1 n1 n2 hp hs v0 v1
  obtain ⟨⟨t,P⟩,hE⟩:=put_of hT hs hj n1 rfl hk
  have hc:=zzi n1 n2
  obtain ⟨R3,lvN,mkN,_⟩:=zxw hR1 hE hs hj hz n1 (by rw [hcl];exact hc.2.2.2) v1 P
  have em:D3.muts=D.muts:=P.muts.trans e3
  have hI:zju D3:=⟨by rw [P.words,e2];exact hG.ints.words,by rw [em];exact hG.ints.muts,by rw [P.grey,e6];exact hG.ints.grey⟩
  have R4:=zfw (m:=o.m) (h:=o.h) R3 m0 (by rw [em];exact m1) (.inr lvN) fun h0 h4 _=>.inr (.inr (mkN (by rw [← P.phase];exact h0) (by rw [← P.phase];exact h4)))
  exact ⟨R4,zfx R4 hI m0 (by rw [em];exact m1) (obj_int hE lvN.ob)⟩
 ·exact ⟨hR,hG⟩
theorem V1.off {D E:WD} {a:Int} (hp:¬ (D.phase=1∨D.phase=2)) (h:V1 D a E):E=D:=by
 rcases h with ⟨_,_,_,h,_⟩ | ⟨_,h⟩
 ·exact absurd h hp
 ·exact h
theorem zqj {D D1 D2:WD} {m old z:Int} (hR:U0 D) (hG:U1 D) (io:I64 old) (iz:I64 z) (h1:V1 D old D1) (h2:(N8 D m∧D2=D1)∨(¬ N8 D m∧V1 D1 z D2)) :
  U0 D2∧U1 D2∧L2 D D2∧D2.muts=D.muts∧D2.phase=D.phase∧D2.next=D.next∧(D.phase=1∨D.phase=2→R7 D old→V7 D2 old)∧(D.phase=1∨D.phase=2→¬ N8 D m→R7 D z→V7 D2 z):=by
 have hF:=hR.1
 have hF1:=h1.form hF
 obtain ⟨_,_,a3,a4,a5⟩:=h1.rest
 have G1:=h1.going io hG
 have rt:D2.muts=D.muts∧D2.phase=D.phase∧D2.next=D.next∧L2 D D2∧U1 D2:=by
  rcases h2 with ⟨_,rfl⟩ | ⟨_,h2⟩
  ·exact ⟨a3,a4,a5,h1.same,G1⟩
  ·obtain ⟨_,_,b3,b4,b5⟩:=h2.rest
   exact ⟨b3.trans a3,b4.trans a4,b5.trans a5,h1.same.trans h2.same,h2.going iz G1⟩
 have rr:U0 D2:=by
  by_cases hp:D.phase=1∨D.phase=2
  ·have m0:=Mid.of_right hR hp
   rcases h2 with ⟨_,rfl⟩ | ⟨_,h2⟩
   ·exact ((m0.more (Y:=[old]) (by simp)).shade h1).right
   ·exact (((m0.more (Y:=[old,z]) (by simp)).shade h1).shade h2).right
  ·obtain rfl:=h1.off hp
   rcases h2 with ⟨_,rfl⟩ | ⟨_,h2⟩
   ·exact hR
   ·obtain rfl:=h2.off hp
    exact hR
 refine ⟨rr,rt.2.2.2.2,rt.2.2.2.1,rt.1,rt.2.1,rt.2.2.1,fun hp ho=>?_,fun hp hn ho=>?_⟩
 ·have hm:=h1.marked hF hp ho
  rcases h2 with ⟨_,rfl⟩ | ⟨_,h2⟩
  ·exact hm
  ·exact h2.keeps hF1 hm
 ·rcases h2 with ⟨h,_⟩ | ⟨_,h2⟩
  ·exact absurd h hn
  ·exact h2.marked hF1 (by rw [a4];exact hp) (h1.same.has.2 ho)
theorem zsa {D E:WD} {m g:Int} {a0:Int} {k j:Nat} {s:Y3} {i:Int} (hR:U0 D) (hG:U1 D) (m0:0≤m) (m1:m<(D.muts.length:Int)) (hg:HOk g) (ho:U3 D a0 k j) (hs:D.spans[k]?=some s) (i0:0≤i) (i1:i<s.ptrs[j]?.getD 0)
  (h:zft D m (V4 D m g) (atW s (j:Int)+i).toNat E):U0 E∧U1 E:=by
 obtain ⟨D1,D2,h1,h2,rfl⟩:=h
 obtain ⟨R2,G2,hO,em,ep,en,ho2,hz2⟩:=zqj hR hG (ztk hG.ints _) (zpn hG.ints m g) h1 h2
 obtain ⟨t,ht,hst⟩:=hO.at_ hs
 have e1:atW t (j:Int)=atW s (j:Int):=zmw hst _
 have hj:j<s.lens.length:=by obtain ⟨s',hs',hj,_⟩:=ho;rw [hs] at hs';cases hs';exact hj
 have S:=(hR.1.span k s hs).slot j hj
 have:=S.p1
 have er:V4 D2 m g=V4 D m g:=by unfold V4;rw [em]
 have A2:=T7.1 R2
 have key:U0 (zgv D2 (atW t (j:Int)+i).toNat (V4 D m g)):=by
  refine zkr R2 (hO.obj ho) ht i0 (by rw [hst.lens];omega) (fun _=>?_) (fun _ hgr hob=>?_) (fun _ h0 h4=>?_)
  ·rw [← er]
   exact zpm R2 m0 (by rw [em];exact m1) hg
  ·have hp:=A2.gc.1.1 hgr
   rw [ep] at hp
   rw [e1,hO.words] at hob ⊢
   exact zid.2 (ho2 hp (hO.has.1 (zmc.1 hob)))
  ·by_cases hsn:N8 D m
   ·rw [← er]
    exact zsk R2 m0 (by rw [em];exact m1) hg h0 h4 (by unfold N8 at hsn ⊢;rw [ep,en];exact hsn)
   ·rcases zpm hR m0 m1 hg with e | hl
    ·exact .inl e
    ·refine .inr (.inr (zid.2 (hz2 ?_ hsn (zmc.1 hl.ob))))
     unfold N8 at hsn
     rw [ep] at h0 h4
     have:=hR.1.ph0
     have:=hR.1.ph1
     omega
 rw [e1] at key
 exact ⟨key,zks key G2.ints (zpn hG.ints m g)⟩
theorem DoIs.right {D E:WD} {o:OpD} {c x:Int} (hR:U0 D) (hG:U1 D) (hv:I64 o.v) (h:DoIs D o E c x):U0 E∧U1 E:=by
 rcases h with ⟨_,rfl,_⟩ | ⟨_,_,_,rfl,_⟩ | ⟨_,hf,h⟩
 ·exact ⟨hR,hG⟩
 ·exact ⟨hR,hG⟩
 obtain ⟨hm,hg,hu,hsz⟩:=zwf hf
 obtain ⟨m0,m1,hh⟩:=id hm
 have A:=T7.1 hR
 rcases h with ⟨hk,h,_⟩ | ⟨hk,rfl,_⟩ | ⟨hk,rfl,_⟩ | ⟨hk,rfl,_⟩ | ⟨hk,k,j,s,ho,hs,h⟩
 ·exact zte hR hG hm (hsz hk) h
 ·have R:=zfw (m:=o.m) (h:=o.h) hR m0 m1 (.inl rfl) fun _ _ _=>.inl rfl
  exact ⟨R,zfx R hG.ints m0 m1 ⟨by omega,by omega⟩⟩
 ·have R:=zfw (m:=o.m) (h:=o.g) hR m0 m1 (zpm hR m0 m1 hh) fun h0 h4 hs=>zsk hR m0 m1 hh h0 h4 hs
  exact ⟨R,zfx R hG.ints m0 m1 (zpn hG.ints _ _)⟩
 ·exact ⟨hR,hG⟩
 ·rcases h with ⟨_,rfl,_⟩ | ⟨hi,h,_⟩
  ·exact ⟨hR,hG⟩
  have hj:j<s.lens.length:=by obtain ⟨s',hs',hj,_⟩:=id ho;rw [hs] at hs';cases hs';exact hj
  have S:=(hR.1.span k s hs).slot j hj
  have p1:=S.p1
  have l1:=S.l1
  have hoS:ObjS D (V4 D o.m o.h) s j:=F9.2 ⟨k,ho,hs⟩
  rcases h with ⟨hk,rfl,_⟩ | ⟨hk,h,_⟩ | ⟨hk,rfl,_⟩ | ⟨hk,rfl,_⟩ | ⟨hk,rfl,_⟩
  ·obtain ⟨i0,i1⟩:=hi.1 (.inl hk)
   have hin:=zwv hR.1 hs hj i0 (by omega)
   have n0:=zfg hR.1 hs hj
   have hpt:Pt D (V4 D o.m o.h) (D.words[(atW s (j:Int)+o.i).toNat]?.getD 0) :=
    ⟨s,j,hoS,zjh.2 ⟨o.i.toNat,by omega,by rw [show (atW s (j:Int)).toNat+o.i.toNat=(atW s (j:Int)+o.i).toNat by omega,List.getElem?_eq_getElem hin];rfl⟩⟩
   have R:=zfw (m:=o.m) (h:=o.g) hR m0 m1 (A.ptrs _ _ ((zpm hR m0 m1 hh).resolve_left (hu (.inl hk))) hpt) fun h0 h4 hs=>(zsk hR m0 m1 hh h0 h4 hs).next hR h0 h4 hpt
   exact ⟨R,zfx R hG.ints m0 m1 (ztk hG.ints _)⟩
  ·obtain ⟨i0,i1⟩:=hi.1 (.inr hk)
   exact zsa hR hG m0 m1 (hg (.inr (.inl hk))) ho hs i0 i1 h
  ·obtain ⟨i0,i1⟩:=hi.2 (.inl hk)
   have p0:=S.p0
   have R:U0 (zgv D (atW s (j:Int)+o.i).toNat o.v):=zkr hR ho hs (by omega) i1 (fun h=>by omega) (fun h=>by omega) (fun h=>by omega)
   exact ⟨R,zks R hG.ints hv⟩
  ·exact ⟨hR,hG⟩
  ·exact ⟨hR,hG⟩
theorem ztw {b:Int} {p m:Nat} (g:Geo b p m):Z8 (newD b p m) where
 geo:=by show Geo b p ((List.replicate m (List.replicate 6 0)).length:Nat);rw [List.length_replicate];exact g
 words:=by show (((List.replicate (p*32) (0:Int)).length:Nat):Int)=(p:Int)*32;rw [List.length_replicate];omega
 dirty:=by show (((List.replicate (p*4) false).length:Nat):Int)=(p:Int)*4;rw [List.length_replicate];omega
 spans:=by show (0:Int)≤p;omega
 ph0:=Int.le_refl _
 ph1:=by show (0:Int)≤4;omega
 span:=fun k s h=>by simp [newD] at h
 zero:=fun i _ _=>by show (List.replicate (p*32) (0:Int))[i]?.getD 0=0;by_cases h:i<p*32 <;> simp [h]
 roots:=fun k r h=>by
  have h':(List.replicate m (List.replicate 6 (0:Int)))[k]?=some r:=h
  rw [List.eq_of_mem_replicate (List.mem_of_getElem? h'),List.length_replicate]
theorem znl {b:Int} {p m:Nat} (g:Geo b p m):U0 (newD b p m):=by
 refine ⟨ztw g,⟨⟨fun h=>absurd rfl h,zjk⟩,⟨Int.le_refl _,by show (0:Int)≤_;omega,fun h=>absurd h (Int.lt_irrefl _)⟩,fun s h=>by simp [newD] at h⟩,⟨fun r hr a ha=>.inl ?_,fun a k j s _ _ h=>by simp [newD] at h⟩,fun h=>absurd rfl h⟩
 rw [List.eq_of_mem_replicate hr] at ha
 exact List.eq_of_mem_replicate ha
theorem zqu {b:Int} {p m:Nat} (g:Geo b p m):U1 (newD b p m):=by
 have z:I64 0:=⟨by omega,by omega⟩
 refine ⟨ztw g,(znl g).2.1,fun x hx=>?_,fun r hr x hx=>?_,fun x hx=>by simp [newD] at hx⟩
 ·rw [List.eq_of_mem_replicate hx];exact z
 ·rw [List.eq_of_mem_replicate hr] at hx
  rw [List.eq_of_mem_replicate hx];exact z
theorem U0.rootsObj {D:WD} (h:U0 D):F0 D:=fun r hr a ha=>(h.2.2.1.1 r hr a ha).imp id fun ⟨k,j,ho,_⟩=>⟨k,j,ho⟩
theorem ztq {L:List Int} (h:∀ i,i<L.length→0≤L[i]?.getD 0∧L[i]?.getD 0≤16):AllI L:=fun x hx=>by
 obtain ⟨i,hi⟩:=List.mem_iff_getElem?.1 hx
 have:=h i (List.getElem?_eq_some_iff.1 hi).1
 rw [hi] at this
 have h':0≤x∧x≤16:=this
 unfold I64
 omega
theorem U1.fit {D:WD} (h:U1 D):FitD D:=by
 have hF:=h.form
 obtain ⟨g1,g2,g3,g4,g5,g6,g7⟩:=hF.geo
 refine ⟨by unfold I64;omega,by unfold I64;omega,h.ints.words,fun s hs=>?_,h.ints.muts,by have:=hF.ph0;have:=hF.ph1;unfold I64;omega,by have:=h.gc.2.1.1;have:=h.gc.2.1.2.1;unfold I64;omega,h.ints.grey⟩
 obtain ⟨k,hk⟩:=List.mem_iff_getElem?.1 hs
 have A:=hF.span k s hk
 have l:=A.lens
 have l2:=A.ptrs
 have h16:=(E7 s.cls).2
 have hz:=zjw s.cls
 have hp:(2:Int) ^ s.lens.length≤2 ^ 16:=by
  have:=Nat.pow_le_pow_right (n:=2) (by omega) (show s.lens.length≤16 by omega)
  exact_mod_cast this
 refine ⟨by have:=A.pg0;have:=A.pg1;unfold I64;omega,?_,by have:=A.mk0;have:=A.mk1;unfold I64;omega,ztq fun i hi=>?_,ztq fun i hi=>?_⟩
 ·have hc:=A.cls
  unfold sl' at hc
  unfold I64
  (repeat' split at hc) <;> omega
 ·have S:=A.slot i hi
  have:=S.l0
  have:=S.l1
  omega
 ·have S:=A.slot i (by omega)
  have:=S.p0
  have:=S.p1
  have:=S.l1
  omega
end Go.Proofs.YtilkidaihbhfpaaGreat
