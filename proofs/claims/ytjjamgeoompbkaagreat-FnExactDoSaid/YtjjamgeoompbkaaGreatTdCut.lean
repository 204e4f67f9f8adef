import Derived.Test.YtjjamgeoompbkaaGreatTdSrc
import Derived.Deep.RegionLawGrows

set_option maxRecDepth 100000
set_option maxHeartbeats 16000000
set_option linter.all false
namespace Go.Proofs.YtjjamgeoompbkaaGreat
open Go.RowKit
open Go.Proofs.Tryz
theorem elemSpan:prog.elem 33=93:=by kernel_rfl
theorem zsl:prog.underlying 33=some (.slice (prog.elem 33)):=by rw[elemSpan];exact underlying33
theorem zpj(w:World):(sizeOf (prog.elem 33)).run prog w=.ok 6 w:=by kernel_rfl
theorem zug{w:World}{A:Option Addr}{n:Nat}{xs:List Value}(h:L7 w A n 6 xs)(k:Nat)(hk:k≤n):L7 w A k 6 (xs.take (k*6)):=by
 refine⟨by rw[List.length_take,h.len];omega,fun j u hu=>?_,fun u hu=>h.one u (List.mem_of_mem_take hu)⟩;have hj:=(List.getElem?_eq_some_iff.1 hu).1;rw[List.length_take]at hj;exact h.at_ j u (by rwa [List.getElem?_take_of_lt (by omega)]at hu)
theorem zuf{w:World}{A A':Option Addr}{n:Nat}{xs:List Value}(h:L7 w A n 6 xs)(he:∀a,A=some a→A'=some (a.add 0)):L7 w A' n 6 xs :=
 ⟨h.len,fun j u hu=>by
  obtain⟨a,e,hc⟩:=h.at_ j u hu;refine⟨_,he a e,?_⟩;rw[Addr.add_add,Nat.zero_add];exact hc,h.one⟩
theorem cut_to{w:World}{A:Option Addr}{n c k:Nat}{xs:List Value}(h:L7 w A n 6 xs)(hk:k≤n)(hn:n≤c) :
  ∃A' c',(∀w',(Instr.slice 33 (.slice A n c) none (some (.int .i64 (k:Int))) none).run prog w'=.ok (.slice A' k c') w')∧L7 w A' k 6 (xs.take (k*6)):=by
 refine⟨if c=0 then A else A.map (·.add (0*6)),c-0,fun w'=>?_,?_⟩
 ·rw[run_slice_h w' 33 A n c zsl .i64 (k:Int) (by omega) (by omega),zpj]
  rfl
 ·have hp:=zug h k hk
  split
  ·exact hp
  ·exact zuf hp fun a e=>by subst e;rfl
theorem cut_to3{w:World}{A:Option Addr}{n c k:Nat}{xs:List Value}(h:L7 w A n 6 xs)(hk:k≤n)(hn:n≤c) :
  ∃A',(∀w',(Instr.slice 33 (.slice A n c) none (some (.int .i64 (k:Int))) (some (.int .i64 (k:Int)))).run prog w'=.ok (.slice A' k k) w')∧L7 w A' k 6 (xs.take (k*6)):=by
 refine⟨if k=0 then A else A.map (·.add (0*6)),fun w'=>?_,?_⟩
 ·rw[run_slice_hm w' 33 A n c zsl .i64 .i64 (k:Int) (k:Int) (by omega) (by omega) (by omega),zpj]
  rfl
 ·have hp:=zug h k hk
  split
  ·exact hp
  ·exact zuf hp fun a e=>by subst e;rfl
theorem zuq{w:World}{A:Option Addr}{n c k:Nat}{xs:List Value}(h:L7 w A n 6 xs)(hk:k≤n)(hn:n≤c)(i:Int)(hi:i=(k:Int)) :
  ∃A',(∀w',(Instr.slice 33 (.slice A n c) (some (.int .i64 i)) none none).run prog w'=.ok (.slice A' (n-k) (c-k)) w')∧L7 w A' (n-k) 6 (xs.drop (k*6)):=by
 subst hi;refine⟨if c=k then A else A.map (·.add (k*6)),fun w'=>?_,⟨by rw[List.length_drop,h.len];omega,fun j u hu=>?_,fun u hu=>h.one u (List.mem_of_mem_drop hu)⟩⟩
 ·rw[run_slice_l w' 33 A n c zsl .i64 (k:Int) (by omega) (by omega),zpj]
  rfl
 ·rw[List.getElem?_drop]at hu
  obtain⟨a,rfl,hc⟩:=h.at_ _ u hu;have hl:=(List.getElem?_eq_some_iff.1 hu).1;rw[h.len]at hl;rw[if_neg (by omega)];exact⟨_,rfl,by rw[Addr.add_add];exact hc⟩
theorem zyp{w:World}{base n c:Nat}{A:Option Addr}{L:List Y7}{sv:List (Value × Value)}(h:OwnS w base (.slice A n c) L sv):n=L.length∧n≤c∧c≤maxLen∧L7 w A n 6 (P4 L sv):=by
 have hr:=h.row;have hone:=oneV_own h
 rcases hr.2 with⟨he,h0⟩|⟨g,cap,cur,he,_,_,hc,hm,_,_⟩
 ·obtain⟨rfl,rfl,rfl⟩:A=none∧n=0∧c=0:=by simpa using he
  have hl:=hr.1;rw[h0]at hl;obtain e:P4 L sv=[]:=List.length_eq_zero_iff.1 (by omega);rw[e];exact⟨h0.symm,Nat.le_refl _,by unfold maxLen;omega,L7.none _ _ _⟩
 ·obtain⟨rfl,rfl,rfl⟩:A=some ⟨g,0,none⟩∧n=L.length∧c=cap:=by simpa using he
  refine⟨rfl,hc,hm,hr.1,fun j u hu=>⟨_,rfl,?_⟩,hone⟩;have hl:=(List.getElem?_eq_some_iff.1 hu).1;rw[show(⟨g,0,none⟩:Addr).add j=⟨g,j,none⟩ by rw[Addr.add_lit,Nat.zero_add],hr.cellAt j (by have:=hr.1;omega)];exact hu
theorem zzo(L:List Y7)(sv:List (Value × Value))(k:Nat)(s:Y7)(p:Value × Value)(h:sv.length=L.length) :
  (P4 L sv).take (k*6)++Q8 s p++(P4 L sv).drop (k*6)=P4 (L.take k++s::L.drop k) (sv.take k++p::sv.drop k):=by
 rw[zwk L sv k h,zwn L sv k h,zrw _ _ _ _ (by simp[h])];simp[P4]
theorem OwnS.insert{w:World}{base n0:Nat}{v:Value}{L:List Y7}{sv:List (Value × Value)}{s:Y7}{p:Value × Value}
  (hin:∀(i:Nat) (s:Y7) (p:Value × Value),L[i]?=some s→sv[i]?=some p→w.ownsRow base 3 1 p.1 s.lens.length (s.lens.map (Value.int .i64))∧w.ownsRow base 3 1 p.2 s.ptrs.length (s.ptrs.map (Value.int .i64)))
  (hl:sv.length=L.length) (k:Nat) (hk:k≤L.length) (hb:base≤n0) (hr:w.ownsRow n0 93 6 v (L.length+1) ((P4 L sv).take (k*6)++Q8 s p++(P4 L sv).drop (k*6)))
  (h1:w.ownsRow base 3 1 p.1 s.lens.length (s.lens.map (Value.int .i64))) (h2:w.ownsRow base 3 1 p.2 s.ptrs.length (s.ptrs.map (Value.int .i64))) :
  OwnS w base v (L.take k++s::L.drop k) (sv.take k++p::sv.drop k):=by
 have len:(L.take k++s::L.drop k).length=L.length+1:=by simp;omega
 refine⟨?_,by simp;omega,fun i t q ht hq=>?_⟩
 ·rw[len,←zzo L sv k s p hl]
  exact U3 hr hb
 ·rcases Nat.lt_trichotomy i k with h|h|h
  ·rw[List.getElem?_append_left (by simp;omega),List.getElem?_take_of_lt h]at ht
   rw[List.getElem?_append_left (by simp;omega),List.getElem?_take_of_lt h]at hq;exact hin i t q ht hq
  ·subst h
   rw[List.getElem?_append_right (by simp;omega)]at ht hq;have e1:i-(L.take i).length=0:=by simp;omega
   have e2:i-(sv.take i).length=0:=by simp;omega
   rw[e1]at ht;rw[e2]at hq;simp at ht hq;subst ht;subst hq;exact⟨h1,h2⟩
  ·rw[List.getElem?_append_right (by simp;omega)]at ht hq
   obtain⟨m,rfl⟩:∃m,i=k+m+1:=⟨i-k-1,by omega⟩;have e1:k+m+1-(L.take k).length=m+1:=by simp;omega
   have e2:k+m+1-(sv.take k).length=m+1:=by simp;omega
   rw[e1,List.getElem?_cons_succ,List.getElem?_drop]at ht;rw[e2,List.getElem?_cons_succ,List.getElem?_drop]at hq;exact hin (k+m) t q ht hq
theorem zza{X Y:List Value}{a b:Value}(h:((X++Y).filterMap Value.ownBlock).Nodup)(ha:∀q,a.ownBlock=some q→q∉blks (X++Y))(hb:∀q,b.ownBlock=some q→q∉blks (X++Y))(hab:∀q,a.ownBlock=some q→b.ownBlock≠some q) :
  ((X++a::b::Y).filterMap Value.ownBlock).Nodup:=by
 have hp:(X++a::b::Y).Perm (a::b::(X++Y)):=List.perm_middle.trans (List.perm_middle.cons a);rw[(hp.filterMap _).nodup_iff]
 have hb':((b::(X++Y)).filterMap Value.ownBlock).Nodup:=by
  cases hv:b.ownBlock with
  | none=>rw[List.filterMap_cons_none hv];exact h
  | some q=>rw[List.filterMap_cons_some hv,List.nodup_cons];exact⟨hb q hv,h⟩
 cases hv:a.ownBlock with
 | none=>rw[List.filterMap_cons_none hv];exact hb'
 | some q =>
  rw[List.filterMap_cons_some hv,List.nodup_cons];refine⟨fun hm=>?_,hb'⟩;obtain⟨x,hx,hxq⟩:=List.mem_filterMap.1 hm
  rcases List.mem_cons.1 hx with rfl|hx
  ·exact hab q hv hxq
  ·exact ha q hv (List.mem_filterMap.2 ⟨x,hx,hxq⟩)
theorem zun{S:Y9}:∀k,k∈blks S.ints→k∈blks S.all:=zit fun x hx=>by
 simp only[Y9.ints,List.mem_append,List.mem_cons,List.not_mem_nil,or_false]at hx;simp only[Y9.all,List.mem_append,List.mem_cons,List.not_mem_nil,or_false]
 rcases hx with((rfl|hx)|hx)|rfl
 ·simp
 ·exact .inl (.inl (.inr (.inr hx)))
 ·exact .inl (.inr (.inr hx))
 ·simp
theorem VarW.ins{w:World}{base B n0:Nat}{S:Y9}{D:WD}(h:VarW w base B S D)(hold:∀q,q∈blks S.all→q<n0)(hB0:B<n0){v:Value}{p:Value × Value}{s:Y7}{k:Nat}(hk:k≤D.spans.length)
  (hr:w.ownsRow n0 93 6 v (D.spans.length+1) ((P4 D.spans S.sv).take (k*6)++Q8 s p++(P4 D.spans S.sv).drop (k*6)))
  (h1:w.ownsRow n0 3 1 p.1 s.lens.length (s.lens.map (Value.int .i64))) (h2:w.ownsRow n0 3 1 p.2 s.ptrs.length (s.ptrs.map (Value.int .i64))) (h12:∀q,p.1.ownBlock=some q→p.2.ownBlock≠some q) :
  VarW (w.setCell ⟨B,4,none⟩ v) base B { S with vs:=v,sv:=S.sv.take k++p::S.sv.drop k } { D with spans:=D.spans.take k++s::D.spans.drop k }∧Below base w (w.setCell ⟨B,4,none⟩ v):=by
 have hle:=h.le;have b0:base≤n0:=by omega
 refine h.newSpans (OwnS.insert h.own.inner h.own.svl k hk b0 hr (U3 h1 b0) (U3 h2 b0)) ?_ fun x hx=>?_
 ·have e:({ S with vs:=v,sv:=S.sv.take k++p::S.sv.drop k }:Y9).ints=(S.vw::V9 (S.sv.take k))++p.1::p.2::(V9 (S.sv.drop k)++S.mv++[S.vg]):=by
   simp[Y9.ints,V9]
  have e0:(S.vw::V9 (S.sv.take k))++(V9 (S.sv.drop k)++S.mv++[S.vg])=S.ints:=by
   have:V9 (S.sv.take k)++V9 (S.sv.drop k)=V9 S.sv:=by rw[←zgd,List.take_append_drop]
   show _=(S.vw::V9 S.sv)++S.mv++[S.vg]
   rw[←this];simp
  rw[e];refine zza (by rw[e0];exact h.own.nodup) (fun q hq hm=>?_) (fun q hq hm=>?_) h12
  ·rw[e0]at hm
   have:=hold q (zun q hm);have:=(h1.lt q hq).1;omega
  ·rw[e0]at hm
   have:=hold q (zun q hm);have:=(h2.lt q hq).1;omega
 ·rcases List.mem_cons.1 hx with rfl|hx
  ·intro e
   have:=(hr.lt B e).1;omega
  ·rw[zgd]at hx
   rcases List.mem_append.1 hx with hx|hx
   ·intro e
    refine h.ne (List.mem_filterMap.2 ⟨x,?_,e⟩)
    have:x∈V9 S.sv:=by
     obtain⟨q,hq,hxq⟩:=List.mem_flatMap.1 hx;exact List.mem_flatMap.2 ⟨q,List.mem_of_mem_take hq,hxq⟩
    simp[Y9.all,this]
   ·have hx':x=p.1∨x=p.2∨x∈V9 (S.sv.drop k):=by
     simp only[V9,List.flatMap_cons,List.mem_append,List.mem_cons,List.not_mem_nil,or_false]at hx
     rcases hx with(h|h)|h
     ·exact .inl h
     ·exact .inr (.inl h)
     ·exact .inr (.inr h)
    rcases hx' with rfl|rfl|hx
    ·intro e
     have:=(h1.lt B e).1;omega
    ·intro e
     have:=(h2.lt B e).1;omega
    ·intro e
     refine h.ne (List.mem_filterMap.2 ⟨x,?_,e⟩)
     have:x∈V9 S.sv:=by
      obtain⟨q,hq,hxq⟩:=List.mem_flatMap.1 hx;exact List.mem_flatMap.2 ⟨q,List.mem_of_mem_drop hq,hxq⟩
     simp[Y9.all,this]
end Go.Proofs.YtjjamgeoompbkaaGreat
