import Derived.Test.YtjjamgeoompbkaaGreatTdImplM

set_option maxRecDepth 100000
set_option maxHeartbeats 16000000
set_option linter.all false
namespace Go.Proofs.YtjjamgeoompbkaaGreat
open Go.RowKit
open Go.Proofs.Tryz
theorem RdS.src{w:World}{A:Option Addr}{c:Nat}{L:List Y7}(h:RdS w (.slice A L.length c) L):∃sv:List (Value × Value),sv.length=L.length∧L7 w A L.length 6 (P4 L sv) ∧
  ∀(i:Nat) (s:Y7) (p:Value × Value),L[i]?=some s→sv[i]?=some p→Rd w p.1 s.lens∧Rd w p.2 s.ptrs:=by
 have key:∀i:Fin L.length,∃p:Value × Value,Rd w p.1 L[i].lens∧Rd w p.2 L[i].ptrs∧∀j u,(Q8 L[i] p)[j]?=some u→∃a,A=some a∧w.cell? (a.add (i.val*6+j))=some u:=fun i=>by
  obtain⟨b,off,rfl,vl,vp,x0,x1,x2,x3,x4,x5,hl,hp⟩:=h.at_ i.val L[i] (by simp);refine⟨(vl,vp),hl,hp,fun j u hu=>⟨_,rfl,?_⟩⟩;rw[show(⟨b,off,none⟩:Addr).add (i.val*6+j)=⟨b,off+i.val*6+j,none⟩ by rw[Addr.add_lit,Nat.add_assoc]];have hj:j<6:=by simpa[Q8]using(List.getElem?_eq_some_iff.1 hu).1
  obtain rfl|rfl|rfl|rfl|rfl|rfl:j=0∨j=1∨j=2∨j=3∨j=4∨j=5:=by omega
  ·rw[←hu];exact x0
  ·rw[←hu];exact x1
  ·rw[←hu];exact x2
  ·rw[←hu];exact x3
  ·rw[←hu];exact x4
  ·rw[←hu];exact x5
 obtain⟨f,hf⟩:=Classical.axiomOfChoice key;have hlen:(List.ofFn f).length=L.length:=by simp
 have hat:∀(i:Nat) (hi:i<L.length),(List.ofFn f)[i]?=some (f ⟨i,hi⟩):=fun i hi=>by simp[hi]
 refine⟨List.ofFn f,hlen,⟨by rw[zrv _ _ hlen],fun j u hu=>?_,?_⟩,fun i s p hs hp=>?_⟩
 ·have hj:j<L.length*6:=by have:=(List.getElem?_eq_some_iff.1 hu).1;rwa [zrv _ _ hlen]at this
  have hi:j / 6<L.length:=by omega
  have hm:j % 6<6:=Nat.mod_lt _ (by omega);have e:j / 6*6+j % 6=j:=by omega
  have:=zjo L (List.ofFn f) (j / 6) L[j / 6] (f ⟨j / 6,hi⟩) (by simp[hi]) (hat _ hi) (j % 6) hm;rw[e,hu]at this;have h3:=(hf ⟨j / 6,hi⟩).2.2 (j % 6) u this.symm;simpa only[e]using h3
 ·exact oneV L _ fun p hp=>by
   obtain⟨i,hi⟩:=List.mem_iff_getElem?.1 hp;have hil:i<L.length:=by have:=(List.getElem?_eq_some_iff.1 hi).1;omega
   rw[hat i hil]at hi
   cases hi
   obtain⟨⟨a,c,e,_⟩,⟨a',c',e',_⟩,_⟩:=hf ⟨i,hil⟩;exact⟨by rw[e];rfl,by rw[e'];rfl⟩
 ·obtain⟨hi,rfl⟩:=List.getElem?_eq_some_iff.1 hs
  rw[hat i hi]at hp
  cases hp
  exact⟨(hf ⟨i,hi⟩).1,(hf ⟨i,hi⟩).2.1⟩
theorem RdM.src{w:World}{A:Option Addr}{c:Nat}{L:List (List Int)}(h:RdM w (.slice A L.length c) L):∃mv:List Value,mv.length=L.length∧L7 w A L.length 1 mv ∧
  ∀(i:Nat) (r:List Int) (u:Value),L[i]?=some r→mv[i]?=some u→Rd w u r:=by
 obtain⟨a,c',he,hl,hx⟩:=h;obtain⟨rfl,rfl⟩:A=a∧c=c':=by simpa using he
 have key:∀i:Fin L.length,∃u:Value,Rd w u L[i]∧∃a,A=some a∧w.cell? (a.add i.val)=some u:=fun i=>by
  obtain⟨b,off,vr,rfl,hc,hr⟩:=hx i.val L[i] (by simp);exact⟨vr,hr,_,rfl,by rw[show(⟨b,off,none⟩:Addr).add i.val=⟨b,off+i.val,none⟩from Addr.add_lit ..];exact hc⟩
 obtain⟨f,hf⟩:=Classical.axiomOfChoice key;have hlen:(List.ofFn f).length=L.length:=by simp
 have hat:∀(i:Nat) (hi:i<L.length),(List.ofFn f)[i]?=some (f ⟨i,hi⟩):=fun i hi=>by simp[hi]
 refine⟨List.ofFn f,hlen,⟨by simp,fun j u hu=>?_,fun u hu=>?_⟩,fun i r u hr hu=>?_⟩
 ·have hj:j<L.length:=by have:=(List.getElem?_eq_some_iff.1 hu).1;simpa using this
  rw[hat j hj]at hu
  cases hu
  exact(hf ⟨j,hj⟩).2
 ·obtain⟨i,hi⟩:=List.mem_iff_getElem?.1 hu
  have hil:i<L.length:=by have:=(List.getElem?_eq_some_iff.1 hi).1;omega
  rw[hat i hil]at hi
  cases hi
  obtain⟨a,c,e,_⟩:=(hf ⟨i,hil⟩).1;rw[e];rfl
 ·obtain⟨hi,rfl⟩:=List.getElem?_eq_some_iff.1 hr
  rw[hat i hi]at hu
  cases hu
  exact(hf ⟨i,hi⟩).1
end Go.Proofs.YtjjamgeoompbkaaGreat
