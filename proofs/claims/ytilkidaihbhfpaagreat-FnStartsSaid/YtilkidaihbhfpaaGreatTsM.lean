import Derived.Test.YtilkidaihbhfpaaGreatTsW
import Derived.Deep.RegionLaw

set_option maxRecDepth 100000
set_option maxHeartbeats 16000000
namespace Go.Proofs.YtilkidaihbhfpaaGreat
open Go.RowKit
set_option linter.unusedVariables false
theorem P0 {a w w':World} {row:Option Nat} (h:a.grownBy w row) (k:w.grownBy w' row):a.grownBy w' row :=
 ⟨k.os.trans h.os,k.tape.trans h.tape,k.output.trans h.output,Nat.le_trans h.size k.size,fun j hj e=>(k.block j (Nat.lt_of_lt_of_le hj h.size) e).trans (h.block j hj e)⟩
structure Chg (bs:List Nat) (w w':World):Prop where
 os:w'.os=w.os
 tape:w'.tape=w.tape
 output:w'.output=w.output
 size:w.heap.size≤w'.heap.size
 block:∀ k,k<w.heap.size→k ∉ bs→w'.heap[k]?=w.heap[k]?
theorem Chg.refl (bs:List Nat) (w:World):Chg bs w w:=⟨rfl,rfl,rfl,Nat.le_refl _,fun _ _ _=>rfl⟩
theorem Chg.trans {bs:List Nat} {a b c:World} (h:Chg bs a b) (k:Chg bs b c):Chg bs a c :=
 ⟨k.os.trans h.os,k.tape.trans h.tape,k.output.trans h.output,Nat.le_trans h.size k.size,fun j hj hn=>(k.block j (Nat.lt_of_lt_of_le hj h.size) hn).trans (h.block j hj hn)⟩
theorem Chg.mono {bs cs:List Nat} {a b:World} (h:Chg bs a b) (hs:∀ x,x ∈ bs→x ∈ cs):Chg cs a b:=⟨h.os,h.tape,h.output,h.size,fun j hj hn=>h.block j hj fun hx=>hn (hs j hx)⟩
theorem Chg.of_grown {w w':World} {row:Option Nat} (h:w.grownBy w' row) {bs:List Nat} (hs:∀ x,row=some x→x ∈ bs):Chg bs w w' :=
 ⟨h.os,h.tape,h.output,h.size,fun j hj hn=>h.block j hj fun e=>hn (hs j e.symm)⟩
theorem Chg.of_below {w w':World} (h:Below w.heap.size w w') (bs:List Nat):Chg bs w w':=⟨h.os,h.tape,h.output,h.size,fun j hj _=>h.block j hj⟩
theorem Chg.below {bs:List Nat} {B:Nat} {a w w':World} (hb:Below B a w) (h:Chg bs w w') (hB:B≤w.heap.size) (hs:∀ x,x ∈ bs→B≤x):Below B a w' :=
 hb.trans ⟨h.os,h.tape,h.output,h.size,fun j hj=>h.block j (by omega) fun hx=>by have:=hs j hx;omega⟩
theorem X9 {w w':World} {base size n:Nat} {e:TypeId} {v:Value} {xs:List Value} {bs:List Nat} (h:w.ownsRow base e size v n xs) (hc:Chg bs w w') (hn:∀ k,v.ownBlock=some k→k ∉ bs):w'.ownsRow base e size v n xs:=by
 refine ⟨h.1,?_⟩
 rcases h.2 with h0 | ⟨g,cap,cur,rfl,hb,hg,hr⟩
 ·exact .inl h0
 ·refine .inr ⟨g,cap,cur,rfl,hb,?_,hr⟩
  rw [hc.block g (Array.getElem?_eq_some_iff.1 hg).1 (hn g rfl)]
  exact hg
theorem L7 {w:World} {b b' size size' n n':Nat} {e e':TypeId} {v v':Value} {xs ys:List Value} (h:w.ownsRow b e size v n xs) (h':w.ownsRow b' e' size' v' n' ys) (hne:e≠e') (k:Nat) (hk:v.ownBlock=some k):v'.ownBlock≠some k:=by
 rcases h.2 with ⟨rfl,_⟩ | ⟨g,cap,cur,rfl,_,hg,_⟩
 ·simp [Value.ownBlock] at hk
 ·rcases h'.2 with ⟨rfl,_⟩ | ⟨g',cap',cur',rfl,_,hg',_⟩
  ·simp [Value.ownBlock]
  ·intro he
   have e1:g=k:=by simpa [Value.ownBlock] using hk
   have e2:g'=k:=by simpa [Value.ownBlock] using he
   subst e1
   subst e2
   rw [hg] at hg'
   simp at hg'
   exact hne hg'.2
structure OwnS (w:World) (base:Nat) (v:Value) (L:List Y3) (sv:List (Value × Value)):Prop where
 row:w.ownsRow base 97 6 v L.length (U9 L sv)
 len:sv.length=L.length
 inner:∀ (i:Nat) (s:Y3) (p:Value × Value),L[i]?=some s→sv[i]?=some p→w.ownsRow base 3 1 p.1 s.lens.length (s.lens.map (Value.int .i64))∧w.ownsRow base 3 1 p.2 s.ptrs.length (s.ptrs.map (Value.int .i64))
def X7 (sv:List (Value × Value)):List Value:=sv.flatMap fun p=>[p.1,p.2]
theorem zqi (sv:List (Value × Value)) (i:Nat) (p:Value × Value) (h:sv[i]?=some p):∃ A B,X7 sv=A ++ p.1 :: p.2 :: B∧∀ j q,j≠i→sv[j]?=some q→(q.1 ∈ A∨q.1 ∈ B)∧(q.2 ∈ A∨q.2 ∈ B):=by
 induction sv generalizing i with
 | nil=>simp at h
 | cons a sv ih =>
  cases i with
  | zero =>
   simp at h
   subst h
   refine ⟨[],X7 sv,by simp [X7],fun j q hj hq=>?_⟩
   cases j with
   | zero=>exact absurd rfl hj
   | succ j =>
    simp at hq
    have:q ∈ sv:=List.mem_of_getElem? hq
    exact ⟨.inr (List.mem_flatMap.2 ⟨q,this,by simp⟩),.inr (List.mem_flatMap.2 ⟨q,this,by simp⟩)⟩
  | succ i =>
   simp at h
   obtain ⟨A,B,e,hq⟩:=ih i h
   refine ⟨a.1 :: a.2 :: A,B,by simp [X7] at e ⊢;exact e,fun j q hj hjq=>?_⟩
   cases j with
   | zero =>
    simp at hjq
    subst hjq
    exact ⟨.inl (by simp),.inl (by simp)⟩
   | succ j =>
    simp at hjq
    have:=hq j q (by omega) hjq
    exact ⟨this.1.imp (by intro h;simp [h]) id,this.2.imp (by intro h;simp [h]) id⟩
def zrp (vs:List Value):Prop:=(vs.filterMap Value.ownBlock).Nodup
theorem zld {A B:List Value} {u v:Value} (h:zrp (A ++ u :: v :: B)) {k:Nat} :
  (u.ownBlock=some k→v.ownBlock≠some k∧∀ x,x ∈ A∨x ∈ B→x.ownBlock≠some k)∧(v.ownBlock=some k→u.ownBlock≠some k∧∀ x,x ∈ A∨x ∈ B→x.ownBlock≠some k):=by
 unfold zrp at h
 rw [List.filterMap_append,List.nodup_append] at h
 obtain ⟨hA,hB,hAB⟩:=h
 refine ⟨fun hu=>⟨fun hv=>?_,fun x hx hk=>?_⟩,fun hv=>⟨fun hu=>?_,fun x hx hk=>?_⟩⟩
 ·simp [hu,hv] at hB
 ·rcases hx with hx | hx
  ·exact hAB k (List.mem_filterMap.2 ⟨x,hx,hk⟩) k (List.mem_filterMap.2 ⟨u,by simp,hu⟩) rfl
  ·rw [List.filterMap_cons_some hu,List.nodup_cons] at hB
   exact hB.1 (List.mem_filterMap.2 ⟨x,by simp [hx],hk⟩)
 ·simp [hu,hv] at hB
 ·rcases hx with hx | hx
  ·exact hAB k (List.mem_filterMap.2 ⟨x,hx,hk⟩) k (List.mem_filterMap.2 ⟨v,by simp,hv⟩) rfl
  ·have hB2:((v :: B).filterMap Value.ownBlock).Nodup:=by
    cases hu:u.ownBlock with
    | none=>rwa [List.filterMap_cons_none hu] at hB
    | some c=>rw [List.filterMap_cons_some hu,List.nodup_cons] at hB;exact hB.2
   rw [List.filterMap_cons_some hv,List.nodup_cons] at hB2
   exact hB2.1 (List.mem_filterMap.2 ⟨x,hx,hk⟩)
theorem zwe (L:List Y3) (sv:List (Value × Value)) (i:Nat) (s s':Y3) (h1:L[i]?=some s) (e0:s'.page=s.page) (e1:s'.cls=s.cls) (e2:s'.mark=s.mark) (e3:s'.swept=s.swept):U9 (L.set i s') sv=U9 L sv:=by
 induction i generalizing L sv with
 | zero =>
  cases L with
  | nil=>simp at h1
  | cons a L =>
   cases sv with
   | nil=>simp [U9]
   | cons q sv =>
    simp at h1
    subst h1
    simp [U9,Q8,e0,e1,e2,e3]
 | succ i ih =>
  cases L with
  | nil=>simp at h1
  | cons a L =>
   cases sv with
   | nil=>simp [U9]
   | cons q sv =>
    simp at h1
    have:=ih L sv h1
    simp only [U9,List.set_cons_succ,List.zip_cons_cons,List.flatMap_cons] at this ⊢
    rw [this]
section
variable {w w':World} {base:Nat} {v:Value} {L:List Y3} {sv:List (Value × Value)}
theorem OwnS.chg (h:OwnS w base v L sv) {bs:List Nat} (hc:Chg bs w w') (h1:∀ k,v.ownBlock=some k→k ∉ bs) (h2:∀ x,x ∈ X7 sv→∀ k,x.ownBlock=some k→k ∉ bs):OwnS w' base v L sv :=
 ⟨X9 h.row hc h1,h.len,fun i s p hs hp=>by
  have hm:=List.mem_of_getElem? hp
  exact ⟨X9 (h.inner i s p hs hp).1 hc (h2 p.1 (List.mem_flatMap.2 ⟨p,hm,by simp⟩)),X9 (h.inner i s p hs hp).2 hc (h2 p.2 (List.mem_flatMap.2 ⟨p,hm,by simp⟩))⟩⟩
theorem OwnS.lists (h:OwnS w base v L sv) (ha:zrp (X7 sv)) (i:Nat) (s s':Y3) (p:Value × Value) (hs:L[i]?=some s) (hp:sv[i]?=some p) (e0:s'.page=s.page) (e1:s'.cls=s.cls) (e2:s'.mark=s.mark) (e3:s'.swept=s.swept)
  (x:Value) (hx:x=p.1∨x=p.2) (hg:w.grownBy w' x.ownBlock)
  (hl:(x=p.1∧s'.ptrs=s.ptrs∧w'.ownsRow base 3 1 p.1 s'.lens.length (s'.lens.map (Value.int .i64)))∨(x=p.2∧s'.lens=s.lens∧w'.ownsRow base 3 1 p.2 s'.ptrs.length (s'.ptrs.map (Value.int .i64)))) :
  OwnS w' base v (L.set i s') sv:=by
 have hlt:=(List.getElem?_eq_some_iff.1 hs).1
 have hi:=h.inner i s p hs hp
 obtain ⟨A,B,hab,hq⟩:=zqi sv i p hp
 rw [hab] at ha
 have hc:Chg (x.ownBlock.toList) w w':=Chg.of_grown hg fun y hy=>by rw [hy];simp
 have hxo:∃ m xs,w.ownsRow base 3 1 x m xs:=by
  rcases hx with rfl | rfl
  ·exact ⟨_,_,hi.1⟩
  ·exact ⟨_,_,hi.2⟩
 obtain ⟨m,xs,hxo⟩:=hxo
 refine ⟨?_,by rw [List.length_set];exact h.len,fun j t q ht hjq=>?_⟩
 ·rw [List.length_set,zwe L sv i s s' hs e0 e1 e2 e3]
  refine X9 h.row hc fun k hk hm=>?_
  cases hxb:x.ownBlock with
  | none=>rw [hxb] at hm;simp at hm
  | some c =>
   rw [hxb] at hm
   simp at hm
   subst hm
   exact L7 hxo h.row (by decide) k hxb hk
 ·by_cases e:j=i
  ·subst e
   simp [hlt] at ht
   subst ht
   rw [hp] at hjq
   cases hjq
   rcases hl with ⟨rfl,ep,ho⟩ | ⟨rfl,el,ho⟩
   ·refine ⟨ho,?_⟩
    rw [ep]
    refine X9 hi.2 hc fun k hk hm=>?_
    cases hxb:p.1.ownBlock with
    | none=>rw [hxb] at hm;simp at hm
    | some c=>rw [hxb] at hm;simp at hm;subst hm;exact (zld ha).2 hk |>.1 hxb
   ·refine ⟨?_,ho⟩
    rw [el]
    refine X9 hi.1 hc fun k hk hm=>?_
    cases hxb:p.2.ownBlock with
    | none=>rw [hxb] at hm;simp at hm
    | some c=>rw [hxb] at hm;simp at hm;subst hm;exact (zld ha).1 hk |>.1 hxb
  ·rw [List.getElem?_set_ne (fun h=>e h.symm)] at ht
   have hij:=h.inner j t q ht hjq
   have hne:=hq j q e hjq
   have ne:∀ y,y ∈ A∨y ∈ B→∀ k,y.ownBlock=some k→k ∉ x.ownBlock.toList:=fun y hy k hk hm=>by
    cases hxb:x.ownBlock with
    | none=>rw [hxb] at hm;simp at hm
    | some c =>
     rw [hxb] at hm
     simp at hm
     subst hm
     rcases hx with rfl | rfl
     ·exact ((zld ha).1 hxb).2 y hy hk
     ·exact ((zld ha).2 hxb).2 y hy hk
   exact ⟨X9 hij.1 hc (ne q.1 hne.1),X9 hij.2 hc (ne q.2 hne.2)⟩
end
theorem OwnS.len_eq {w:World} {base g n cap:Nat} {L:List Y3} {sv:List (Value × Value)} (h:OwnS w base (.slice (some ⟨g,0,none⟩) n cap) L sv):n=L.length:=by
 rcases h.row.2 with ⟨hv,_⟩ | ⟨g',cap',cur,hv,_⟩
 ·simp at hv
 ·simp at hv;omega
theorem OwnS.cellOf {w:World} {base g n cap:Nat} {L:List Y3} {sv:List (Value × Value)} (h:OwnS w base (.slice (some ⟨g,0,none⟩) n cap) L sv) (i:Nat) (s:Y3) (p:Value × Value) (hs:L[i]?=some s) (hp:sv[i]?=some p) (j:Nat) (hj:j<6) :
  w.cell? ⟨g,i*6+j,none⟩=(Q8 s p)[j]?:=by
 have hlt:=(List.getElem?_eq_some_iff.1 hs).1
 obtain rfl:=h.len_eq
 have hrow:=h.row
 rw [hrow.cellAt (i*6+j) (by omega),zlb _ sv i s p hs hp j hj]
theorem OwnS.frz {w:World} {base g n cap:Nat} {L:List Y3} {sv:List (Value × Value)} (h:OwnS w base (.slice (some ⟨g,0,none⟩) n cap) L sv) (j:Nat):w.frozen? ⟨g,j,none⟩=false:=by
 obtain rfl:=h.len_eq
 exact h.row.frozenAt j
theorem zhb {α:Type} {L:List α} {i:Nat} {s t:α} (h:L[i]?=some s):(L.set i t)[i]?=some t:=by
 have:=(List.getElem?_eq_some_iff.1 h).1
 simp [this]
structure OwnM (w:World) (base:Nat) (v:Value) (L:List (List Int)) (mv:List Value):Prop where
 row:w.ownsRow base 74 1 v L.length mv
 len:mv.length=L.length
 inner:∀ (i:Nat) (r:List Int) (u:Value),L[i]?=some r→mv[i]?=some u→w.ownsRow base 3 1 u r.length (r.map (Value.int .i64))
theorem mv_at (mv:List Value) (i:Nat) (u:Value) (h:mv[i]?=some u):∃ A B,mv=A ++ u :: B∧∀ j q,j≠i→mv[j]?=some q→q ∈ A∨q ∈ B:=by
 induction mv generalizing i with
 | nil=>simp at h
 | cons a mv ih =>
  cases i with
  | zero =>
   simp at h
   subst h
   refine ⟨[],mv,rfl,fun j q hj hq=>?_⟩
   cases j with
   | zero=>exact absurd rfl hj
   | succ j=>exact .inr (List.mem_of_getElem? (by simpa using hq))
  | succ i =>
   simp at h
   obtain ⟨A,B,e,hq⟩:=ih i h
   refine ⟨a :: A,B,by rw [e];rfl,fun j q hj hjq=>?_⟩
   cases j with
   | zero=>simp at hjq;subst hjq;exact .inl (by simp)
   | succ j =>
    simp at hjq
    exact (hq j q (by omega) hjq).imp (by intro h;simp [h]) id
theorem zzn {A B:List Value} {u:Value} (h:zrp (A ++ u :: B)) {k:Nat} (hu:u.ownBlock=some k):∀ x,x ∈ A∨x ∈ B→x.ownBlock≠some k:=by
 unfold zrp at h
 rw [List.filterMap_append,List.nodup_append] at h
 obtain ⟨hA,hB,hAB⟩:=h
 intro x hx hk
 rcases hx with hx | hx
 ·exact hAB k (List.mem_filterMap.2 ⟨x,hx,hk⟩) k (List.mem_filterMap.2 ⟨u,by simp,hu⟩) rfl
 ·rw [List.filterMap_cons_some hu,List.nodup_cons] at hB
  exact hB.1 (List.mem_filterMap.2 ⟨x,hx,hk⟩)
section
variable {w w':World} {base:Nat} {v:Value} {L:List (List Int)} {mv:List Value}
theorem OwnM.chg (h:OwnM w base v L mv) {bs:List Nat} (hc:Chg bs w w') (h1:∀ k,v.ownBlock=some k→k ∉ bs) (h2:∀ x,x ∈ mv→∀ k,x.ownBlock=some k→k ∉ bs):OwnM w' base v L mv :=
 ⟨X9 h.row hc h1,h.len,fun i s p hs hp=>X9 (h.inner i s p hs hp) hc (h2 p (List.mem_of_getElem? hp))⟩
theorem OwnM.list (h:OwnM w base v L mv) (ha:zrp mv) (i:Nat) (r r':List Int) (u:Value) (hs:L[i]?=some r) (hp:mv[i]?=some u) (hg:w.grownBy w' u.ownBlock)
  (ho:w'.ownsRow base 3 1 u r'.length (r'.map (Value.int .i64))):OwnM w' base v (L.set i r') mv:=by
 have hlt:=(List.getElem?_eq_some_iff.1 hs).1
 have hi:=h.inner i r u hs hp
 obtain ⟨A,B,hab,hq⟩:=mv_at mv i u hp
 have ha':=ha
 rw [hab] at ha'
 have hc:Chg (u.ownBlock.toList) w w':=Chg.of_grown hg fun y hy=>by rw [hy];simp
 refine ⟨?_,by rw [List.length_set];exact h.len,fun j t q ht hjq=>?_⟩
 ·rw [List.length_set]
  refine X9 h.row hc fun k hk hm=>?_
  cases hxb:u.ownBlock with
  | none=>rw [hxb] at hm;simp at hm
  | some c =>
   rw [hxb] at hm
   simp at hm
   subst hm
   exact L7 hi h.row (by decide) k hxb hk
 ·by_cases e:j=i
  ·subst e
   simp [hlt] at ht
   subst ht
   rw [hp] at hjq
   cases hjq
   exact ho
  ·rw [List.getElem?_set_ne (fun h=>e h.symm)] at ht
   refine X9 (h.inner j t q ht hjq) hc fun k hk hm=>?_
   cases hxb:u.ownBlock with
   | none=>rw [hxb] at hm;simp at hm
   | some c =>
    rw [hxb] at hm
    simp at hm
    subst hm
    exact zzn ha' hxb q (hq j q e hjq) hk
end
structure N1 (w:World) (A:Option Addr) (m size:Nat) (news:List Value):Prop where
 len:news.length=m*size
 at_:∀ j u,news[j]?=some u→∃ a,A=some a∧w.cell? (a.add j)=some u
 one:∀ u,u ∈ news→u.oneCell'=true
theorem N1.below {w w':World} {A:Option Addr} {m size:Nat} {news:List Value} (h:N1 w A m size news) (hb:Below w.heap.size w w'):N1 w' A m size news :=
 ⟨h.len,fun j u hu=>by obtain ⟨a,e,hc⟩:=h.at_ j u hu;exact ⟨a,e,Z7 hb hc⟩,h.one⟩
theorem N1.none (w:World) (A:Option Addr) (size:Nat):N1 w A 0 size []:=⟨by simp,fun j u h=>by simp at h,fun u h=>by simp at h⟩
theorem zog {P:Program} {w:World} {o:Oper} {a:Act} {K:Act→World→Prop} {Q:Exit→Act→World→Prop} (s x:Operand) (t:TypeId)
  (ho:o.op=.call { callee:=.builtin .append,args:=#[s,x],argTypes:=#[t,t] })
  (base:Nat) (e:TypeId) (z:Value) (size bytes:Nat) (ht:P.underlying t=some (.slice e)) (hinfo:(P.info? e).map (fun i=>(i.zero,i.size,i.bytes))=some (some z,size,bytes)) (hzs:z.cells.size=size) (hsz:0<size)
  (v:Value) (n:Nat) (xs:List Value) (hs:a.eval s=v) (hown:w.ownsRow base e size v n xs)
  (A:Option Addr) (m c:Nat) (news:List Value) (hx:a.eval x=.slice A m c) (hr:N1 w A m size news)
  (h63:n+m≤maxLen) (hbytes:(n+m)*bytes≤140737488355328) (hbase:base≤w.heap.size)
  (h:∀ v' w',w'.ownsRow base e size v' (n+m) (xs ++ news)→w.grownBy w' v.ownBlock→K (a.put o.dst v') w'):o.wp P a w K Q:=by
 obtain ⟨i,hi,hz,hsize,hby⟩:=info_parts hinfo
 rcases A with _ | ad
 ·have hnews:news=[]:=by
   rcases news with _ | ⟨u,l⟩
   ·rfl
   ·obtain ⟨ad,e,_⟩:=hr.at_ 0 u rfl
    cases e
  have hm:m=0:=by
   have:=hr.len
   rw [hnews] at this
   rcases Nat.eq_zero_or_pos m with h0 | h0
   ·exact h0
   ·have:=Nat.mul_pos h0 hsz
    simp at *
    omega
  subst hm
  subst hnews
  have hrun:(Builtin.append_ #[t,t] o.type #[v,.slice none 0 c]).run P w=.ok v w:=by
   rcases hown.2 with ⟨rfl,rfl⟩ | ⟨g,cap,cur,rfl,_,_,hnc,_⟩
   ·simp [Builtin.append_,run_underlying ht,sizeOf,typeInfo,hi,Builtin.lenOf,Builtin.firstCells]
   ·simp [Builtin.append_,run_underlying ht,sizeOf,typeInfo,hi,Builtin.lenOf,Builtin.firstCells,hnc,storeCells]
  have hk:=h v w (by simpa using hown) (World.grownBy.refl w _)
  unfold Oper.wp execOp
  simp only [ho,resolve,invoke,builtin,Sem.run_bind,Sem.run_pure,Result.andThen_ok,List.map_toArray,List.map_cons,List.map_nil,hs,hx,hrun]
  exact hk
 ·exact wp_append_own _ s x t ho base e i z size bytes ht hi hz hsize hby hzs hsz v n xs hs hown ad m c news hx hr.len
   (fun j u hu=>by obtain ⟨a,e,hc⟩:=hr.at_ j u hu;cases e;exact hc) hr.one h63 hbytes hbase fun v' w' h1 h2 _=>h v' w' h1 h2
theorem P5 {P:Program} {w:World} {ops:Array Oper} {rest:List Oper} {o:Oper} {a:Act} {Q:Exit→Act→World→Prop} (hgd:o.guard=none) (s x:Operand) (t:TypeId)
  (ho:o.op=.call { callee:=.builtin .append,args:=#[s,x],argTypes:=#[t,t] })
  (base:Nat) (e:TypeId) (z:Value) (size bytes:Nat) (ht:P.underlying t=some (.slice e)) (hinfo:(P.info? e).map (fun i=>(i.zero,i.size,i.bytes))=some (some z,size,bytes)) (hzs:z.cells.size=size) (hsz:0<size)
  (v:Value) (n:Nat) (xs:List Value) (hs:a.eval s=v) (hown:w.ownsRow base e size v n xs)
  (A:Option Addr) (m c:Nat) (news:List Value) (hx:a.eval x=.slice A m c) (hr:N1 w A m size news)
  (h63:n+m≤maxLen) (hbytes:(n+m)*bytes≤140737488355328) (hbase:base≤w.heap.size)
  (h:∀ v' w',w'.ownsRow base e size v' (n+m) (xs ++ news)→w.grownBy w' v.ownBlock→wpList P ops Q rest (a.put o.dst v') w'):wpList P ops Q (o :: rest) a w :=
 wpList_plain hgd fun _ hK=>zog s x t ho base e z size bytes ht hinfo hzs hsz v n xs hs hown A m c news hx hr h63 hbytes hbase fun v' w' h2 h3=>hK _ _ (h v' w' h2 h3)
theorem ziq (w:World) (e:TypeId) (size:Nat):(w.alloc (.cells #[] e)).ownsRow w.heap.size e size (.slice (some ⟨w.heap.size,0,none⟩) 0 0) 0 [] :=
 ⟨by simp,.inr ⟨w.heap.size,0,#[],rfl,Nat.le_refl _,Y6 w _,Nat.le_refl _,by unfold maxLen;omega,by simp,by simp⟩⟩
theorem Rd.src {w:World} {A:Option Addr} {c:Nat} {L:List Int} (h:Rd w (.slice A L.length c) L):N1 w A L.length 1 (L.map (Value.int .i64)):=by
 obtain ⟨a,c',he,_,hx⟩:=h
 obtain ⟨rfl,_⟩:A=a∧c=c':=by simpa using he
 refine ⟨by simp,fun j u hu=>?_,fun u hu=>by obtain ⟨x,_,rfl⟩:=List.mem_map.1 hu;rfl⟩
 have hj:j<L.length:=by have:=(List.getElem?_eq_some_iff.1 hu).1;simpa using this
 obtain ⟨b,o,rfl,hc⟩:=hx j hj
 refine ⟨_,rfl,?_⟩
 rw [show (⟨b,o,none⟩:Addr).add j=⟨b,o+j,none⟩ from Addr.add_lit ..,hc]
 simpa [hj] using hu
theorem RdB.src {w:World} {A:Option Addr} {c:Nat} {L:List Bool} (h:RdB w (.slice A L.length c) L):N1 w A L.length 1 (L.map Value.bool):=by
 obtain ⟨a,c',he,_,hx⟩:=h
 obtain ⟨rfl,_⟩:A=a∧c=c':=by simpa using he
 refine ⟨by simp,fun j u hu=>?_,fun u hu=>by obtain ⟨x,_,rfl⟩:=List.mem_map.1 hu;rfl⟩
 have hj:j<L.length:=by have:=(List.getElem?_eq_some_iff.1 hu).1;simpa using this
 obtain ⟨b,o,rfl,hc⟩:=hx j hj
 refine ⟨_,rfl,?_⟩
 rw [show (⟨b,o,none⟩:Addr).add j=⟨b,o+j,none⟩ from Addr.add_lit ..,hc]
 simpa [hj] using hu
theorem zen {P:Program} {ops:Array Oper} {o:Oper} {a:Act} {w:World} {K:Act→World→Prop} {Q:Exit→Act→World→Prop} {E:Prop} (hg:o.guard=none) (h:o.wp P a w K Q) :
  if Region.wanted o (yielded ops a.tmps)=true then Oper.wp P o a w K Q else E:=by
 rw [if_pos (by simp [Region.wanted,hg])]
 exact h
theorem Y4 {w:World} {base size n:Nat} {e:TypeId} {v:Value} {xs:List Value} (h:w.ownsRow base e size v n xs):∃ a c,v=.slice a n c:=by
 rcases h.2 with ⟨rfl,rfl⟩ | ⟨g,cap,cur,rfl,_⟩
 ·exact ⟨none,0,rfl⟩
 ·exact ⟨_,_,rfl⟩
theorem C6 {w w':World} {row:Option Nat} (h:w.grownBy w' row) {b:Nat} (hb:b<w.heap.size) (hne:∀ r,row=some r→b≠r) {o:Obj} (ho:w.heap[b]?=some o):w'.heap[b]?=some o :=
 (h.block b hb (fun e=>hne b e.symm rfl)).trans ho
theorem zln (w:World) {cs:Array Value} {T:TypeId} {m size:Nat} (hl:cs.size=m*size) (h1:∀ u,u ∈ cs.toList→u.oneCell'=true):N1 (w.alloc (.cells cs T)) (some ⟨w.heap.size,0,none⟩) m size cs.toList:=by
 refine ⟨by simpa using hl,fun j u hu=>⟨_,rfl,?_⟩,h1⟩
 rw [show (⟨w.heap.size,0,none⟩:Addr).add j=⟨w.heap.size,j,none⟩ by rw [Addr.add_lit,Nat.zero_add]]
 exact Z0 (Y6 w (.cells cs T)) j u (by simpa using hu)
theorem St1.at4 {wr w3 Y:World} {v3:Value} {b base:Nat} {o:Obj} (b3:Below wr.heap.size wr Y) (g3:Y.grownBy w3 v3.ownBlock) (hv:∀ q,v3.ownBlock=some q→base≤q) (hb:b<base) (h:wr.heap[b]?=some o):w3.heap[b]?=some o:=by
 have:=Z6 b3 h
 exact C6 g3 (Array.getElem?_eq_some_iff.1 this).1 (fun r hr=>by have:=hv r hr;omega) this
theorem OwnM.below {w w':World} {base:Nat} {v:Value} {L:List (List Int)} {mv:List Value} (h:OwnM w base v L mv) (hb:Below w.heap.size w w'):OwnM w' base v L mv:=h.chg (Chg.of_below hb []) (fun _ _=>by simp) (fun _ _ _ _=>by simp)
theorem zji {w:World} {g n base:Nat} {z:Value} {e:TypeId} (hg:w.heap[g]?=some (.cells (madeCells #[z] n) e (0,0))) (hb:base≤g) (hn:n≤maxLen):w.ownsRow base e 1 (.slice (some ⟨g,0,none⟩) n n) n (List.replicate n z) :=
 ⟨by simp,.inr ⟨g,n,madeCells #[z] n,rfl,hb,hg,Nat.le_refl _,hn,by simp [size_madeCells],by rw [toList_madeCells_one];simp⟩⟩
theorem Chg.put {bs:List Nat} {w w':World} (h:Chg bs w w') {b:Nat} (hb:b ∈ bs) (i:Nat) (v:Value):Chg bs w (w'.setCell ⟨b,i,none⟩ v) :=
 h.trans (Chg.of_grown (V5 w' b i v) (fun x hx=>by cases hx;exact hb))
theorem Chg.put9 {bs:List Nat} {w w1:World} (h:Chg bs w w1) {b:Nat} (hb:b ∈ bs) (v0 v1 v2 v3 v4 v5 v6 v7 v8:Value):Chg bs w (((((((((w1.setCell ⟨b,0,none⟩ v0).setCell ⟨b,1,none⟩ v1).setCell ⟨b,2,none⟩ v2).setCell ⟨b,3,none⟩ v3).setCell ⟨b,4,none⟩ v4).setCell ⟨b,5,none⟩ v5).setCell ⟨b,6,none⟩ v6).setCell ⟨b,7,none⟩ v7).setCell ⟨b,8,none⟩ v8):=(((((((((h.put hb 0 v0).put hb 1 v1).put hb 2 v2).put hb 3 v3).put hb 4 v4).put hb 5 v5).put hb 6 v6).put hb 7 v7).put hb 8 v8)
def Dis (A B:List Value):Prop:=∀ x,x ∈ A→∀ y,y ∈ B→∀ k,x.ownBlock=some k→y.ownBlock≠some k
theorem Dis.symm {A B:List Value} (h:Dis A B):Dis B A:=fun x hx y hy k h1 h2=>h y hy x hx k h2 h1
theorem zel {A B X:List Value} (h:(X.filterMap Value.ownBlock).Nodup) (hs:(A ++ B).Sublist X):Dis A B:=by
 have h':=h.sublist (hs.filterMap Value.ownBlock)
 rw [List.filterMap_append,List.nodup_append] at h'
 intro x hx y hy k h1 h2
 exact h'.2.2 k (List.mem_filterMap.2 ⟨x,hx,h1⟩) k (List.mem_filterMap.2 ⟨y,hy,h2⟩) rfl
theorem Dis.cons_left {A B:List Value} {a:Value} (h1:Dis [a] B) (h2:Dis A B):Dis (a :: A) B:=by
 intro x hx y hy
 rcases List.mem_cons.1 hx with rfl | hx
 ·exact h1 x (by simp) y hy
 ·exact h2 x hx y hy
theorem Dis.cons_right {A B:List Value} {b:Value} (h1:Dis A [b]) (h2:Dis A B):Dis A (b :: B):=(h1.symm.cons_left h2.symm).symm
def blks (A:List Value):List Nat:=A.filterMap Value.ownBlock
theorem Dis.not_mem {A B:List Value} (h:Dis A B) {x:Value} (hx:x ∈ A) {k:Nat} (hk:x.ownBlock=some k):k ∉ blks B:=fun hm=>by
 obtain ⟨y,hy,e⟩:=List.mem_filterMap.1 hm
 exact h x hx y hy k hk e
def Typ (w:World) (x:Value) (t:TypeId):Prop:=∃ b size n xs,w.ownsRow b t size x n xs
theorem Typ.dis {w:World} {A B:List Value} {t t':TypeId} (ha:∀ x,x ∈ A→Typ w x t) (hb:∀ x,x ∈ B→Typ w x t') (hne:t≠t'):Dis A B:=by
 intro x hx y hy k h1
 obtain ⟨_,_,_,_,r1⟩:=ha x hx
 obtain ⟨_,_,_,_,r2⟩:=hb y hy
 exact L7 r1 r2 hne k h1
section
variable {w:World} {base:Nat} {S:Y2} {D:WD}
theorem OwnW.ownS (h:OwnW w base S D):OwnS w base S.vs D.spans S.sv:=⟨h.spans,h.svl,h.inner⟩
theorem OwnW.ownM (h:OwnW w base S D):OwnM w base S.vm D.muts S.mv:=⟨h.muts,h.mvl,h.innerM⟩
theorem OwnW.tS (h:OwnW w base S D):∀ x,x ∈ X7 S.sv→Typ w x 3:=by
 intro x hx
 obtain ⟨p,hp,hx⟩:=List.mem_flatMap.1 hx
 obtain ⟨i,hi⟩:=List.mem_iff_getElem?.1 hp
 have hlt:=(List.getElem?_eq_some_iff.1 hi).1
 obtain ⟨s,hs⟩:∃ s,D.spans[i]?=some s:=⟨_,List.getElem?_eq_getElem (by have:=h.svl;omega)⟩
 have:=h.inner i s p hs hi
 simp at hx
 rcases hx with rfl | rfl
 ·exact ⟨_,_,_,_,this.1⟩
 ·exact ⟨_,_,_,_,this.2⟩
theorem OwnW.tM (h:OwnW w base S D):∀ x,x ∈ S.mv→Typ w x 3:=by
 intro x hx
 obtain ⟨i,hi⟩:=List.mem_iff_getElem?.1 hx
 have hlt:=(List.getElem?_eq_some_iff.1 hi).1
 obtain ⟨s,hs⟩:∃ s,D.muts[i]?=some s:=⟨_,List.getElem?_eq_getElem (by have:=h.mvl;omega)⟩
 exact ⟨_,_,_,_,h.innerM i s x hs hi⟩
theorem zym {x:Value} {t:TypeId} (h:Typ w x t):∀ y,y ∈ [x]→Typ w y t:=fun y hy=>by rw [List.mem_singleton.1 hy];exact h
structure Parts (S:Y2):Prop where
 d01:Dis [S.vw] [S.vd]
 d02:Dis [S.vw] (S.vs :: X7 S.sv)
 d03:Dis [S.vw] (S.vm :: S.mv)
 d04:Dis [S.vw] [S.vg]
 d12:Dis [S.vd] (S.vs :: X7 S.sv)
 d13:Dis [S.vd] (S.vm :: S.mv)
 d14:Dis [S.vd] [S.vg]
 d23:Dis (S.vs :: X7 S.sv) (S.vm :: S.mv)
 d24:Dis (S.vs :: X7 S.sv) [S.vg]
 d34:Dis (S.vm :: S.mv) [S.vg]
 sv:zrp (X7 S.sv)
 mv:zrp S.mv
theorem OwnW.parts (h:OwnW w base S D):Parts S:=by
 have tw:=zym (show Typ w S.vw 3 from ⟨_,_,_,_,h.words⟩)
 have td:=zym (show Typ w S.vd 4 from ⟨_,_,_,_,h.dirty⟩)
 have ts:=zym (show Typ w S.vs 97 from ⟨_,_,_,_,h.spans⟩)
 have tm:=zym (show Typ w S.vm 74 from ⟨_,_,_,_,h.muts⟩)
 have tg:=zym (show Typ w S.vg 3 from ⟨_,_,_,_,h.grey⟩)
 have hS:=h.tS
 have hM:=h.tM
 have hn:(((([S.vw] ++ X7 S.sv) ++ S.mv) ++ [S.vg]).filterMap Value.ownBlock).Nodup:=h.nodup
 have eA:([S.vw] ++ X7 S.sv).Sublist ((([S.vw] ++ X7 S.sv) ++ S.mv) ++ [S.vg]):=(List.sublist_append_left _ _).trans (List.sublist_append_left _ _)
 have eB:(([S.vw] ++ X7 S.sv) ++ S.mv).Sublist ((([S.vw] ++ X7 S.sv) ++ S.mv) ++ [S.vg]):=List.sublist_append_left _ _
 have wM:([S.vw] ++ S.mv).Sublist (([S.vw] ++ X7 S.sv) ++ S.mv):=List.Sublist.append (List.sublist_append_left _ _) (List.Sublist.refl _)
 have sM:(X7 S.sv ++ S.mv).Sublist (([S.vw] ++ X7 S.sv) ++ S.mv):=List.Sublist.append (List.sublist_append_right _ _) (List.Sublist.refl _)
 have wG:([S.vw] ++ [S.vg]).Sublist ((([S.vw] ++ X7 S.sv) ++ S.mv) ++ [S.vg]):=List.Sublist.append ((List.sublist_append_left _ _).trans (List.sublist_append_left _ _)) (List.Sublist.refl _)
 have sG:(X7 S.sv ++ [S.vg]).Sublist ((([S.vw] ++ X7 S.sv) ++ S.mv) ++ [S.vg]):=List.Sublist.append ((List.sublist_append_right _ _).trans (List.sublist_append_left _ _)) (List.Sublist.refl _)
 have mG:(S.mv ++ [S.vg]).Sublist ((([S.vw] ++ X7 S.sv) ++ S.mv) ++ [S.vg]):=List.Sublist.append (List.sublist_append_right _ _) (List.Sublist.refl _)
 have s1:(X7 S.sv).Sublist ((([S.vw] ++ X7 S.sv) ++ S.mv) ++ [S.vg]):=(List.sublist_append_left _ _).trans sG
 have m1:S.mv.Sublist ((([S.vw] ++ X7 S.sv) ++ S.mv) ++ [S.vg]):=(List.sublist_append_left _ _).trans mG
 have ws:=zel hn eA
 have wm:=zel hn (wM.trans eB)
 have sm:=zel hn (sM.trans eB)
 have wg:=zel hn wG
 have sg:=zel hn sG
 have mg:=zel hn mG
 exact ⟨Typ.dis tw td (by decide),(Typ.dis tw ts (by decide)).cons_right ws,(Typ.dis tw tm (by decide)).cons_right wm,wg,
  (Typ.dis td ts (by decide)).cons_right (Typ.dis td hS (by decide)),(Typ.dis td tm (by decide)).cons_right (Typ.dis td hM (by decide)),Typ.dis td tg (by decide),
  ((Typ.dis ts tm (by decide)).cons_right (Typ.dis ts hM (by decide))).cons_left ((Typ.dis hS tm (by decide)).cons_right sm),(Typ.dis ts tg (by decide)).cons_left sg,(Typ.dis tm tg (by decide)).cons_left mg,
  hn.sublist (s1.filterMap _),hn.sublist (m1.filterMap _)⟩
def Y2.all (S:Y2):List Value:=[S.vw] ++ [S.vd] ++ (S.vs :: X7 S.sv) ++ (S.vm :: S.mv) ++ [S.vg]
theorem OwnW.lt (h:OwnW w base S D):∀ k,k ∈ blks S.all→base≤k∧k<w.heap.size:=by
 intro k hk
 obtain ⟨x,hx,hxk⟩:=List.mem_filterMap.1 hk
 have hS:=h.inner
 simp only [Y2.all,List.mem_append,List.mem_cons,List.not_mem_nil,or_false] at hx
 rcases hx with (((rfl | rfl) | (rfl | hx)) | (rfl | hx)) | rfl
 ·exact h.words.lt k hxk
 ·exact h.dirty.lt k hxk
 ·exact h.spans.lt k hxk
 ·obtain ⟨p,hp,hx⟩:=List.mem_flatMap.1 hx
  obtain ⟨i,hi⟩:=List.mem_iff_getElem?.1 hp
  have hlt:=(List.getElem?_eq_some_iff.1 hi).1
  obtain ⟨s,hs⟩:∃ s,D.spans[i]?=some s:=⟨_,List.getElem?_eq_getElem (by have:=h.svl;omega)⟩
  have:=h.inner i s p hs hi
  simp at hx
  rcases hx with rfl | rfl
  ·exact this.1.lt k hxk
  ·exact this.2.lt k hxk
 ·exact h.muts.lt k hxk
 ·obtain ⟨i,hi⟩:=List.mem_iff_getElem?.1 hx
  have hlt:=(List.getElem?_eq_some_iff.1 hi).1
  obtain ⟨s,hs⟩:∃ s,D.muts[i]?=some s:=⟨_,List.getElem?_eq_getElem (by have:=h.mvl;omega)⟩
  exact (h.innerM i s x hs hi).lt k hxk
 ·exact h.grey.lt k hxk
end
theorem zzj {w w':World} {x:Value} (h:w.grownBy w' x.ownBlock):Chg (blks [x]) w w':=Chg.of_grown h fun y hy=>by simp [blks,hy]
theorem zrz {A:List Value} {S:Y2} (h:∀ x,x ∈ A→x ∈ S.all):∀ k,k ∈ blks A→k ∈ blks S.all:=fun k hk=>by
 obtain ⟨x,hx,e⟩:=List.mem_filterMap.1 hk
 exact List.mem_filterMap.2 ⟨x,h x hx,e⟩
end Go.Proofs.YtilkidaihbhfpaaGreat
