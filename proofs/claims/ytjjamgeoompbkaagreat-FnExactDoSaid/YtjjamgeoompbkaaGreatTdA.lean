import Derived.Test.YtjjamgeoompbkaaGreatTdF2

set_option maxRecDepth 100000
set_option maxHeartbeats 16000000
set_option linter.all false
namespace Go.Proofs.YtjjamgeoompbkaaGreat
open Go.RowKit
open Go.Proofs.Tryz
def inB(n l h:Int):Bool:=decide (l≤n) && decide (n≤h)
theorem znr{n l h:Int}(h1:l≤n)(h2:n≤h):inB n l h=true:=by simp[inB,h1,h2]
theorem zro{n l h:Int}(h1:n<l∨h<n):inB n l h=false:=by
 unfold inB
 rcases h1 with h1|h1
 ·simp[show ¬l≤n by omega]
 ·simp[show ¬n≤h by omega]
theorem U7{n l h:Int}:inB n l h=true↔l≤n∧n≤h:=by simp[inB]
theorem zms(n l h:Int)(w:World):Calls prog 73 #[.int .i64 n,.int .i64 l,.int .i64 h] w fun e w'=>e=.returned (.bool (inB n l h))∧w=w':=by
 by_cases h1:l≤n
 ·by_cases h2:n≤h
  ·have hb:=Z0 (znr h1 h2)
   rw[hb.out];go_enter func73,ntmps73
   go_wp2
   go_ret;exact⟨rfl,rfl⟩
  ·rw[zro (n:=n) (l:=l) (h:=h) (.inr (by omega))]
   go_enter func73,ntmps73
   go_wp2
   go_ret;exact⟨rfl,rfl⟩
 ·rw[zro (n:=n) (l:=l) (h:=h) (.inl (by omega))]
  go_enter func73,ntmps73
  go_wp2
  go_ret;exact⟨rfl,rfl⟩
theorem T7{n l h:Int}{v:Bool}(hv:inB n l h=v)(w:World):Calls prog 73 #[.int .i64 n,.int .i64 l,.int .i64 h] w fun e w'=>e=.returned (.bool v)∧w=w':=by
 rw[←hv];exact zms n l h w
def zii(L:List (List Int)):Prop:=1≤L.length∧L.length≤3∧∀(j:Nat) (r:List Int),L[j]?=some r→r.length=6
theorem zor(v:Value)(L:List (List Int))(w:World)(hr:RdM w v L):Calls prog 102 #[v] w fun e w'=>IsB (zii L) e∧w=w':=by
 obtain⟨am,cm,rfl,hlm,xm⟩:=hr;unfold maxLen at hlm;have xm':=Z0 xm;clear xm;go_enter func102,ntmps102;go_wp2_with fail
 go_loop [6] (fun i=>∃i':Nat,i'≤L.length∧i=.int .i64 i'∧Hid (∀(j:Nat) (r:List Int),j<i'→L[j]?=some r→r.length=6)) (fun i=>L.length-(intOf i).toNat)
 case atStart=>exact⟨0,Nat.zero_le _,rfl,fun j r hj=>absurd hj (by omega)⟩
 case round =>
  obtain⟨i,hi,rfl,hz⟩:=hrel
  by_cases hil:i<L.length
  ·have hil1:(i:Int)<(L.length:Int):=by omega
   obtain⟨r,hr⟩:∃r,L[i]?=some r:=⟨_,List.getElem?_eq_getElem hil⟩;obtain⟨bm,om,vr,rfl,xc,xr⟩:=xm'.out i r hr;obtain⟨ar,cr,rfl,hlr,_⟩:=xr;unfold maxLen at hlr;have hr':=Z0 hr;clear hr
   by_cases h6:(r.length:Int)=6
   ·have hn:=Z0 (show ∀(j:Nat) (r:List Int),j<i+1→L[j]?=some r→r.length=6 from fun j r2 hj hr2=>if e:j=i then by subst e;rw[hr'.out]at hr2;cases hr2;omega else hz.out j r2 (by omega) hr2)
    have hb6:((r.length:Int) != 6)=false:=by rw[bne_eq_false_iff_eq];exact h6
    clear h6 hz;go_wp2_with fail
    go_round
    case rel=>exact⟨i+1,by omega,by go_num,hn⟩
    case measure=>simp[intOf];omega
   ·have n:=Z0 (show ¬zii L from fun h=>h6 (by have:=h.2.2 i r hr'.out;omega))
    have hb6:((r.length:Int) != 6)=true:=by rw[bne_iff_ne];exact h6
    clear h6 hz;go_wp2_with fail;go_ret;exact⟨IsB.no n.out,rfl⟩
  ·obtain rfl:i=L.length:=by omega
   have hall:=Z0 (show inB (L.length:Int) 1 3=true↔zii L from by
    rw[U7];exact⟨fun h=>⟨by omega,by omega,fun k r hr=>hz.out k r (List.getElem?_eq_some_iff.1 hr).1 hr⟩,fun h=>⟨by have:=h.1;omega,by have:=h.2.1;omega⟩⟩)
   clear hz;go_wp2_with (go_at_call 73;refine(zms _ _ _ _).mono ?_;rintro e w'⟨rfl,rfl⟩);go_ret;exact⟨⟨_,rfl,hall.out⟩,rfl⟩
def zoe(b:Int):Bool:=inB b 32 1048576 && (b % 32 == 0)
theorem zwz(b:Int)(w:World):Calls prog 100 #[.int .i64 b] w fun e w'=>e=.returned (.bool (zoe b))∧w=w':=by
 cases hv:inB b 32 1048576
 ·have hb:zoe b=false:=by simp[zoe,hv]
  rw[hb];clear hb;have hv':=Z0 hv;clear hv;go_enter func100,ntmps100;go_wp2_with (go_at_call 73;refine(T7 hv'.out _).mono ?_;rintro e w'⟨rfl,rfl⟩);go_ret;exact⟨rfl,rfl⟩
 ·have h0:=U7.1 hv
  obtain⟨h1,h2⟩:=h0;have hv':=Z0 hv;have hb:zoe b=(b % 32 == 0):=by simp[zoe,hv]
  rw[hb];clear hb hv;go_enter func100,ntmps100;go_wp2_with (go_at_call 73;refine(T7 hv'.out _).mono ?_;rintro e w'⟨rfl,rfl⟩);go_ret;exact⟨rfl,rfl⟩
theorem zte(p:Int)(w:World):Calls prog 101 #[.int .i64 p] w fun e w'=>e=.returned (.bool (inB p 1 12))∧w=w':=by
 go_enter func101,ntmps101;go_wp2_with (go_at_call 73;refine(zms _ _ _ _).mono ?_;rintro e w'⟨rfl,rfl⟩);go_ret;exact⟨rfl,rfl⟩
theorem J1(p:Int)(h0:0≤p)(h1:p≤1000)(w:World):Calls prog 103 #[.int .i64 p] w fun e w'=>e=.returned (.int .i64 (p*32))∧w=w':=by
 go_enter func103,ntmps103
 go_wp2
 go_ret;exact⟨rfl,rfl⟩
theorem zdx(p:Int)(h0:0≤p)(h1:p≤1000)(w:World):Calls prog 104 #[.int .i64 p] w fun e w'=>e=.returned (.int .i64 (p*4))∧w=w':=by
 go_enter func104,ntmps104;go_wp2_with (go_at_call 103;refine(J1 _ h0 h1 _).mono ?_;rintro e w'⟨rfl,rfl⟩);go_ret;exact⟨znl (by omega),rfl⟩
theorem wrapEq(x:Int):IntKind.i64.wrap x=wrap64 x:=IntWalk.i64_left x
theorem zic(i:Nat)(h1:i≤16)(w:World):Calls prog 146 #[.int .i64 (i:Int)] w fun e w'=>e=.returned (.int .i64 (2^i))∧w=w':=by
 have hp:=zpo h1;have e:((2:Int)^i)=((2^i:Nat):Int):=(Int.natCast_pow 2 i).symm
 have hw:IntKind.i64.wrap ((2:Int)^i)=2^i:=by
  rw[e];generalize 2^i=p at hp ⊢;exact IntWalk.i64_in _ (by omega)
 have hw':=Z0 (show wrap64 ((2:Int)^i)=2^i from(wrapEq _).symm.trans hw);clear hw hp e;go_enter func146,ntmps146
 go_wp2
 go_ret;exact⟨znl (by simpa using hw'.out),rfl⟩
structure E4(s:Y7):Prop where
 cls:sl' s.cls≠0
 lens:(s.lens.length:Int)=sl' s.cls
 ptrs:(s.ptrs.length:Int)=sl' s.cls
 slot:∀i,i<s.lens.length→zje s i
 mk0:0≤s.mark
 mk1:s.mark<2^s.lens.length
structure zqj(s:Y7)(i:Nat):Prop where
 l0:0≤s.lens[i]?.getD 0
 l1:s.lens[i]?.getD 0≤sz s.cls
 p0:0≤s.ptrs[i]?.getD 0
 p1:s.ptrs[i]?.getD 0≤s.lens[i]?.getD 0
theorem E4.mk'{s:Y7}(h1:sl' s.cls≠0)(h2:(s.lens.length:Int)=sl' s.cls)(h3:(s.ptrs.length:Int)=sl' s.cls)(h4:∀i,i<s.lens.length→zqj s i) :
  zuu s.lens s.mark s.lens.length↔E4 s:=by
 constructor
 ·rintro⟨h5,h6,h7⟩
  exact⟨h1,h2,h3,fun i hi=>⟨(h4 i hi).l0,(h4 i hi).l1,(h4 i hi).p0,(h4 i hi).p1,fun h0 hb=>by have:=h7 i hi hb;omega⟩,h5,h6⟩
 ·intro h
  refine⟨h.mk0,h.mk1,fun i hi hb=>?_⟩;have:=(h.slot i hi).l0;have hne:s.lens[i]?.getD 0≠0:=fun h0=>(h.slot i hi).bit h0 hb;omega
theorem E4.len(s:Y7)(h:E4 s)(i:Nat)(hi:i<s.lens.length):zqj s i:=⟨(h.slot i hi).l0,(h.slot i hi).l1,(h.slot i hi).p0,(h.slot i hi).p1⟩
theorem zlt(b o:Nat)(s:Y7)(hm0:-9223372036854775808≤s.mark)(hm1:s.mark≤9223372036854775807)(w:World)(hr:zea w b o s) :
  Calls prog 122 #[.pointer (some ⟨b,o,none⟩)] w fun e w'=>IsB (E4 s) e∧w=w':=by
 obtain⟨vl,vp,x0,x1,x2,x3,x4,x5,xl,xp⟩:=hr;obtain⟨al,cl,rfl,hll,xl⟩:=xl;obtain⟨ap,cp,rfl,hpl,xp⟩:=xp;unfold maxLen at hll hpl;have xl':=Z0 xl;have xp':=Z0 xp;have hmm:=Z0 (And.intro hm0 hm1);clear xl xp x0 x3 hm0 hm1
 by_cases c4:sl' s.cls=0
 case pos =>
  have n:=Z0 (show ¬E4 s from fun h=>h.cls c4);have d4:(sl' s.cls == 0)=true:=beq_iff_eq.2 c4;clear c4;go_enter func122,ntmps122;go_wp2_with (go_at_call 144;refine(ziv _ _).mono ?_;rintro e w'⟨rfl,rfl⟩);go_ret;exact⟨IsB.no n.out,rfl⟩
 have d4:(sl' s.cls == 0)=false:=beq_eq_false_iff_ne.2 c4;have e4:=Z0 c4;clear c4
 by_cases c5:(s.lens.length:Int)=sl' s.cls
 case neg =>
  have n:=Z0 (show ¬E4 s from fun h=>c5 h.lens);have d5:((s.lens.length:Int) != sl' s.cls)=true:=by rw[bne_iff_ne];exact c5
  clear c5;go_enter func122,ntmps122;go_wp2_with (go_at_call 144;refine(ziv _ _).mono ?_;rintro e w'⟨rfl,rfl⟩);go_ret;exact⟨IsB.no n.out,rfl⟩
 have d5:((s.lens.length:Int) != sl' s.cls)=false:=by rw[bne_eq_false_iff_eq];exact c5
 have e5:=Z0 c5;clear c5
 by_cases c6:(s.ptrs.length:Int)=sl' s.cls
 case neg =>
  have n:=Z0 (show ¬E4 s from fun h=>c6 h.ptrs);have d6:((s.ptrs.length:Int) != sl' s.cls)=true:=by rw[bne_iff_ne];exact c6
  clear c6;go_enter func122,ntmps122;go_wp2_with (go_at_call 144;refine(ziv _ _).mono ?_;rintro e w'⟨rfl,rfl⟩);go_ret;exact⟨IsB.no n.out,rfl⟩
 have d6:((s.ptrs.length:Int) != sl' s.cls)=false:=by rw[bne_eq_false_iff_eq];exact c6
 have e6:=Z0 c6;clear c6;have hl16:s.lens.length≤16:=by have:=e5.out;have:=(zfj s.cls).2;omega
 have hpp:=Z0 (show s.ptrs.length=s.lens.length by have:=e5.out;have:=e6.out;omega);go_enter func122,ntmps122;go_wp2_with (go_at_call 144;refine(ziv _ _).mono ?_;rintro e w'⟨rfl,rfl⟩);clear d4 d5 d6
 go_loop [4,37] (fun u i=>∃i':Nat,i'≤s.lens.length∧i=.int .i64 i'∧u=.int .i64 (zem s.lens i':Int)∧Hid (∀j,j<i'→zqj s j)) (fun u i=>s.lens.length-(intOf i).toNat)
 case atStart=>exact⟨0,Nat.zero_le _,rfl,rfl,fun j hj=>absurd hj (by omega)⟩
 case round =>
  obtain⟨i,hi,rfl,rfl,hok⟩:=hrel
  by_cases hlt:i<s.lens.length
  ·have hlt1:(i:Int)<(s.lens.length:Int):=by omega
   obtain⟨bl,ol,rfl,gl⟩:=xl'.out i hlt;obtain⟨bp,op,rfl,gp⟩:=xp'.out i (by have:=hpp.out;omega);have hlt2:(i:Int)<(s.ptrs.length:Int):=by have:=hpp.out;omega
   have hszb:=zkm s.cls;have hall:=Z0 (show zqj s i↔_ from⟨fun h=>(⟨h.l0,h.l1,h.p0,h.p1⟩:0≤s.lens[i]?.getD 0∧s.lens[i]?.getD 0≤sz s.cls∧0≤s.ptrs[i]?.getD 0∧s.ptrs[i]?.getD 0≤s.lens[i]?.getD 0),fun h=>⟨h.1,h.2.1,h.2.2.1,h.2.2.2⟩⟩);have hor:=Z0 (or_used s.lens i (by omega));have hsu:=Z0 (show zem s.lens (i+1)=zem s.lens i+if 0<s.lens[i]?.getD 0 then 2^i else 0 from rfl);have hub:=zmm s.lens i;have hub2:=zpo (show i≤16 by omega);have hub3:zem s.lens i≤65536:=by omega
   clear hub hub2;generalize s.lens[i]?.getD 0=l at *;generalize s.ptrs[i]?.getD 0=q at *
   by_cases q1:0≤l∧l≤sz s.cls
   case neg =>
    have n:=Z0 (show ¬E4 s from fun h=>q1 ⟨(hall.out.1 (h.len _ i hlt)).1,(hall.out.1 (h.len _ i hlt)).2.1⟩);have hb:=Z0 (zro (n:=l) (l:=0) (h:=sz s.cls) (by omega));clear q1
    go_wp2_with (first
     | (go_at_call 145;refine(zkp _ _).mono ?_;rintro e w'⟨rfl,rfl⟩)
     | (go_at_call 73;refine(T7 hb.out _).mono ?_;rintro e w'⟨rfl,rfl⟩))
    go_ret;exact⟨IsB.no n.out,rfl⟩
   have hb:=Z0 (znr q1.1 q1.2)
   by_cases q2:0≤q∧q≤l
   case neg =>
    have n:=Z0 (show ¬E4 s from fun h=>q2 ⟨(hall.out.1 (h.len _ i hlt)).2.2.1,(hall.out.1 (h.len _ i hlt)).2.2.2⟩);have hb2:=Z0 (zro (n:=q) (l:=0) (h:=l) (by omega));clear q1 q2
    go_wp2_with (first
     | (go_at_call 145;refine(zkp _ _).mono ?_;rintro e w'⟨rfl,rfl⟩)
     | (go_at_call 73;first|((with_reducible refine(T7 hb.out _).mono ?_);rintro e w'⟨rfl,rfl⟩)|((with_reducible refine(T7 hb2.out _).mono ?_);rintro e w'⟨rfl,rfl⟩)))
    go_ret;exact⟨IsB.no n.out,rfl⟩
   have hb2:=Z0 (znr q2.1 q2.2);have ok:=Z0 (hall.out.2 ⟨q1.1,q1.2,q2.1,q2.2⟩);clear q2
   by_cases q3:0<l
   ·have hsu2:=Z0 (show zem s.lens (i+1)=zem s.lens i+2^i by rw[hsu.out,if_pos q3])
    clear q1
    go_wp2_with (first
     | (go_at_call 145;refine(zkp _ _).mono ?_;rintro e w'⟨rfl,rfl⟩)
     | (go_at_call 146;refine(zic i (by omega) _).mono ?_;rintro e w'⟨rfl,rfl⟩)
     | (go_at_call 73;first|((with_reducible refine(T7 hb.out _).mono ?_);rintro e w'⟨rfl,rfl⟩)|((with_reducible refine(T7 hb2.out _).mono ?_);rintro e w'⟨rfl,rfl⟩)))
    go_round
    case rel=>exact⟨i+1,by omega,by go_num,by rw[hsu2.out,hor.out],fun j hj=>if hj':j<i then hok.out j hj' else by rw[show j=i by omega];exact ok.out⟩
    case measure=>simp[intOf];omega
   ·have hsu2:=Z0 (show zem s.lens (i+1)=zem s.lens i by rw[hsu.out,if_neg q3,Nat.add_zero])
    clear q1
    go_wp2_with (first
     | (go_at_call 145;refine(zkp _ _).mono ?_;rintro e w'⟨rfl,rfl⟩)
     | (go_at_call 73;first|((with_reducible refine(T7 hb.out _).mono ?_);rintro e w'⟨rfl,rfl⟩)|((with_reducible refine(T7 hb2.out _).mono ?_);rintro e w'⟨rfl,rfl⟩)))
    go_round
    case rel=>exact⟨i+1,by omega,by go_num,by rw[hsu2.out],fun j hj=>if hj':j<i then hok.out j hj' else by rw[show j=i by omega];exact ok.out⟩
    case measure=>simp[intOf];omega
  ·obtain rfl:i=s.lens.length:=by omega
   have hF:=E4.mk' e4.out e5.out e6.out hok.out;have hA:=ztv s.lens s.mark s.lens.length hl16 hmm.out.1 hmm.out.2;have hend:=Z0 (show(bits BinOp.andNot IntKind.i64 s.mark (zem s.lens s.lens.length:Int) == 0)=true↔E4 s by rw[beq_iff_eq,hA,hF]);clear hF hA hok;go_wp2_with fail;go_ret;exact⟨⟨_,rfl,hend.out⟩,rfl⟩
theorem zhm{R:Ending→Prop}{f:FuncId}{args:Array Value}{w:World}(h:Calls prog f args w fun e w'=>R e∧w=w'):Calls prog f args w fun e w'=>R e∧w'=w :=
 h.mono fun _ _ ⟨a,b⟩=>⟨a,b.symm⟩
structure zju(w w':World):Prop where
 mk::(is:∃n,w'=w.drewN n)
theorem zju.refl(w:World):zju w w:=⟨0,rfl⟩
theorem zju.more{w w':World}(h:zju w w')(n:Nat):zju w (w'.drewN n):=by
 obtain⟨m,rfl⟩:=h.is;exact⟨_,World.drewN_drewN _ _ _⟩
theorem zju.cell{w w':World}(h:zju w w'){a:Addr}{v:Value}(hc:w.cell? a=some v):w'.cell? a=some v:=by
 obtain⟨m,rfl⟩:=h.is;exact hc
theorem zju.below{w w':World}(h:zju w w'):Below w.heap.size w w':=by
 obtain⟨m,rfl⟩:=h.is;exact below_drewN (Below.refl _ _) _
def zev(D:WD):Prop:=∀(k:Nat) (s:Y7),D.spans[k]?=some s→R7 D k s
def zlw(D:WD):Nat→Int
 | 0=>0
 | k+1=>(D.spans[k]?.map fun s=>s.page+1).getD 0
theorem zgh{D:WD}{k:Nat}{s:Y7}(h:D.spans[k]?=some s):zlw D (k+1)=s.page+1:=by simp[zlw,h]
theorem zvo{D:WD}{k:Nat}{s:Y7}(hk:D.spans[k]?=some s)(hp:∀(j:Nat) (s:Y7),j<k→D.spans[j]?=some s→R7 D j s) :
  R7 D k s↔(zlw D k≤s.page∧s.page≤D.pages-1)∧E4 s:=by
 have hlt:=(List.getElem?_eq_some_iff.1 hk).1;constructor
 ·intro h
  refine⟨⟨?_,by have:=h.pg1;omega⟩,h.cls,h.lens,h.ptrs,h.slot,h.mk0,h.mk1⟩
  cases k with
  | zero=>exact h.pg0
  | succ k =>
   obtain⟨t,ht⟩:∃t,D.spans[k]?=some t:=⟨_,List.getElem?_eq_getElem (by omega)⟩;rw[zgh ht];have:=h.prev t (by omega) (by simpa using ht);omega
 ·rintro⟨⟨h1,h2⟩,h⟩
  have h0:0≤zlw D k:=by
   cases k with
   | zero=>exact Int.le_refl 0
   | succ k =>
    obtain⟨t,ht⟩:∃t,D.spans[k]?=some t:=⟨_,List.getElem?_eq_getElem (by omega)⟩;rw[zgh ht];have:=(hp k t (by omega) ht).pg0;omega
  refine⟨by omega,by omega,fun s' hk0 hs'=>?_,h.cls,h.lens,h.ptrs,h.slot,h.mk0,h.mk1⟩
  cases k with
  | zero=>exact absurd rfl hk0
  | succ k =>
   have hs2:D.spans[k]?=some s':=by simpa using hs'
   rw[zgh hs2]at h1;omega
theorem G7(B:Nat)(v:Value)(D:WD)(hp0:1≤D.pages)(hp1:D.pages≤12)(hm:ztz D)(w:World)(hr:RdW w v D)(hB:BoxW w B v) :
  Calls prog 105 #[.pointer (some ⟨B,0,none⟩)] w fun e w'=>IsB (zev D) e∧zju w w':=by
 obtain⟨vw,vd,vs,vm,vg,rfl,a1,a2,a3,a4,a5⟩:=hr;obtain⟨aS,cS,rfl,hsl,hx⟩:=a3;obtain⟨cs,he,hh⟩:=hB;obtain rfl:=(Value.agg.inj he).symm;unfold maxLen at hsl;have f1:=Z6 hh 1 _ rfl;have f4:=Z6 hh 4 _ rfl;have hx':=Z0 hx;have hm':=Z0 hm;have F:=Z0 (And.intro f1 f4);clear hx hh he a1 a2 a4 a5 hm;go_enter func105,ntmps105;go_wp2_with fail;clear f1 f4
 go_loopw [3,11] (fun l i wr=>∃(k:Nat),k≤D.spans.length∧i=.int .i64 k∧l=.int .i64 (zlw D k)∧Hid (∀(j:Nat) (s:Y7),j<k→D.spans[j]?=some s→R7 D j s)∧zju w wr) (fun l i _=>D.spans.length-(intOf i).toNat)
 case atStart=>exact⟨0,Nat.zero_le _,rfl,rfl,fun j s hj=>absurd hj (by omega),zju.refl w⟩
 case round =>
  obtain⟨k,hk,rfl,rfl,hok,hw⟩:=hrel;have g1:=hw.cell F.out.1;have g4:=hw.cell F.out.2
  by_cases hlt:k<D.spans.length
  ·obtain⟨s,hks⟩:∃s,D.spans[k]?=some s:=⟨_,List.getElem?_eq_getElem hlt⟩
   have hlt1:(k:Int)<(D.spans.length:Int):=by omega
   have hiff:=Z0 (zvo hks hok.out);have hks':=Z0 hks;obtain⟨b1,o1,rfl,hs0⟩:=hx'.out k s hks;have hs:=hs0.below hw.below;clear hs0;have hs':=Z0 hs;obtain⟨vl,vp,x0,_⟩:=hs;have hls:=Z0 (zgh hks);have hmk:=Z0 (hm'.out k s hks);clear hks
   by_cases q1:zlw D k≤s.page∧s.page≤D.pages-1
   case neg =>
    have n':=Z0 (show ¬zev D from fun h=>q1 (hiff.out.1 (h k s hks'.out)).1);have hb:=Z0 (zro (n:=s.page) (l:=zlw D k) (h:=D.pages-1) (by omega));clear q1;go_wp2_with fail;have hwr:IntKind.i64.wrap (D.pages-1)=D.pages-1:=IntWalk.i64_in _ (by omega)
    go_quiet ((go_at_call 73;exact Calls.quiet_of_same (zhm (T7 hb.out _))))
    go_wp2
    go_ret;exact⟨IsB.no n'.out,hw.more _⟩
   have hb:=Z0 (znr q1.1 q1.2);have hpg0:s.page≤12:=by omega
   have hpg1:-1≤s.page:=by
    have h0:0≤zlw D k:=by
     cases k with
     | zero=>exact Int.le_refl 0
     | succ k =>
      obtain⟨t,ht⟩:∃t,D.spans[k]?=some t:=⟨_,List.getElem?_eq_getElem (by omega)⟩;rw[zgh ht];have:=(hok.out k t (by omega) ht).pg0;omega
    omega
   by_cases q2:E4 s
   case neg =>
    have n':=Z0 (show ¬zev D from fun h=>q2 (hiff.out.1 (h k s hks'.out)).2);have hc:=Z0 (fun(w:World) (h:zea w b1 (o1+k*6) s)=>zhm (Calls.isFalse (zlt b1 (o1+k*6) s hmk.out.1 hmk.out.2 w h) q2));clear q1 q2;go_wp2_with fail;have hwr:IntKind.i64.wrap (D.pages-1)=D.pages-1:=IntWalk.i64_in _ (by omega)
    go_quiet ((first
     | (go_at_call 73;exact Calls.quiet_of_same (zhm (T7 hb.out _)))
     | (go_at_call 122;exact Calls.quiet_of_same (hc.out _ hs'.out))))
    go_wp2
    go_ret;exact⟨IsB.no n'.out,hw.more _⟩
   have hok2:=Z0 (show ∀(j:Nat) (s:Y7),j<k+1→D.spans[j]?=some s→R7 D j s from fun j s2 hj hs2=>if e:j=k then by subst e;rw[hks'.out]at hs2;cases hs2;exact hiff.out.2 ⟨q1,q2⟩ else hok.out j s2 (by omega) hs2);have hc:=Z0 (fun(w:World) (h:zea w b1 (o1+k*6) s)=>zhm (Calls.isTrue (zlt b1 (o1+k*6) s hmk.out.1 hmk.out.2 w h) q2));clear q1 q2 hok;go_wp2_with fail;have hwr:IntKind.i64.wrap (D.pages-1)=D.pages-1:=IntWalk.i64_in _ (by omega)
   go_quiet ((first
    | (go_at_call 73;exact Calls.quiet_of_same (zhm (T7 hb.out _)))
    | (go_at_call 122;exact Calls.quiet_of_same (hc.out _ hs'.out))))
   go_wp2
   go_roundw
   case rel=>exact⟨k+1,by omega,by go_num,by rw[hls.out],hok2,hw.more _⟩
   case measure=>simp[intOf];omega
  ·obtain rfl:k=D.spans.length:=by omega
   have y:=Z0 (show zev D from fun j s hs=>hok.out j s (List.getElem?_eq_some_iff.1 hs).1 hs);clear hok;go_wp2_with fail;go_ret;exact⟨IsB.yes y.out,hw⟩
theorem zdw(b o:Nat)(s:Y7)(slot:Int)(hp0:0≤s.page)(hp:s.page≤1000)(h0:0≤slot)(h1:slot≤1000)(w:World)(hr:zea w b o s) :
  Calls prog 123 #[.pointer (some ⟨b,o,none⟩),.int .i64 slot] w fun e w'=>e=.returned (.int .i64 (atW s slot))∧zju w w':=by
 have hb:=zkm s.cls;have hm0:0≤slot*sz s.cls:=Int.mul_nonneg h0 hb.1
 have hm1:slot*sz s.cls≤16000:=by
  have:=Int.mul_le_mul h1 hb.2 hb.1 (by omega);omega
 obtain⟨vl,vp,x0,x1,_⟩:=hr;have e1:=Z0 (show IntKind.i64.wrap (s.page*32)=s.page*32 from IntWalk.i64_in _ (by omega));have e2:=Z0 (show IntKind.i64.wrap (slot*sz s.cls)=slot*sz s.cls from IntWalk.i64_in _ (by omega));have e3:=Z0 (show IntKind.i64.wrap (s.page*32+slot*sz s.cls)=s.page*32+slot*sz s.cls from IntWalk.i64_in _ (by omega));unfold atW;go_enter func123,ntmps123;go_wp2_with fail
 go_quiet ((go_at_call 145;exact Calls.quiet_of_same (zhm (zkp _ _))))
 go_wp2
 go_ret;exact⟨rfl,_,rfl⟩
def zjr(D:WD):Prop:=∀i:Nat,i<D.words.length→¬Used D i→D.words[i]?.getD 0=0
theorem N9(B:Nat)(v:Value)(D:WD)(hn:D.words.length≤1048576)(hwl:(D.words.length:Int)=D.pages*32)(hpg:D.pages≤12)(hsp:zev D)(w:World)(hr:RdW w v D)(hBx:BoxW w B v) :
  Calls prog 106 #[.pointer (some ⟨B,0,none⟩)] w fun e w'=>IsB (zjr D) e∧Below w.heap.size w w':=by
 obtain⟨i0,hi,hz0,hz1,hz2⟩:=info_parts zkw;obtain⟨vw,vd,vs,vm,vg,rfl,a1,a2,a3,a4,a5⟩:=hr;have a1':=Z0 a1;obtain⟨aw,cw,rfl,_,_⟩:=a1;have a3':=Z0 a3;obtain⟨aS,cS,rfl,hsl,hx⟩:=a3;obtain⟨cs,he,hh⟩:=hBx;obtain rfl:=(Value.agg.inj he).symm;unfold maxLen at hsl;have f2:=Z6 hh 2 _ rfl;have f4:=Z6 hh 4 _ rfl;have hsp':=Z0 hsp;have hin:=Z0 (fun(wr:World) (hb:Below w.heap.size w wr) (k:Nat) (s:Y7) (hk:D.spans[k]?=some s)=>(hx k s hk).elim fun b h=>h.elim fun off h=>(⟨b,off,h.1,h.2.below hb⟩:∃b off,aS=some ⟨b,off,none⟩∧zea wr b (off+k*6) s));have f4':=Z0 (fun(wr:World) (hb:Below w.heap.size w wr)=>Y3 (w':=wr) hb f4);have f2':=Z0 (fun(wr:World) (hb:Below w.heap.size w wr)=>Y3 (w':=wr) hb f2);have hwl':=Z0 hwl;clear hx hh he a2 a4 a5 hsp hwl;go_enter func106,ntmps106;go_wp2_with (at_make;refine wpList_make_full _ rfl _ _ 23 rfl w.heap.size 4 i0 (.bool false) 1 underlying23 hi hz0 hz1 .i64 .i64 _ _ D.words.length rfl rfl rfl rfl (by rw[hz2];omega) (by unfold maxLen;omega) (Nat.le_refl _) ?_;intro w0 hown0 hgrow0;have f4w:=f4'.out w0 ((Below.refl _ _).grown hgrow0 (Nat.le_refl _) (fun k e=>by cases e)))
 have R0:RowU w.heap.size w w0 D.words.length (List.replicate D.words.length false) (zez D 0):=by
  have ho:w0.ownsRow w.heap.size 4 1 (sl w.heap.size D.words.length) D.words.length ((List.replicate D.words.length false).map Value.bool):=by
   have:=hown0;rw[show(Value.bool false).cells=#[.bool false]from rfl,Nat.mul_one,toList_madeCells_one]at this;simpa using this
  exact⟨ho,(zmk.zero _).congr (fun i _=>⟨fun h=>h.elim,fun⟨k',s,hk,_⟩=>absurd hk (by omega)⟩),(Below.refl _ _).grown hgrow0 (by omega) (fun k e=>by cases e),(ho.lt w.heap.size rfl).2⟩
 have hB0:=R0.below;clear hown0 hgrow0 f2 f4 f4w
 go_loopw [23] (fun k wr=>∃(k':Nat) (U:List Bool),k'≤D.spans.length∧k=.int .i64 k'∧RowU w.heap.size w wr D.words.length U (zez D k')) (fun k _=>D.spans.length-(intOf k).toNat)
 case atStart=>exact⟨0,_,Nat.zero_le _,rfl,R0⟩
 case round =>
  obtain⟨k,U,hk,rfl,R⟩:=hrel;have g4:=f4'.out wr R.below
  by_cases hlt:k<D.spans.length
  ·obtain⟨s,hks⟩:∃s,D.spans[k]?=some s:=⟨_,List.getElem?_eq_getElem hlt⟩
   have hA:=hsp'.out k s hks;have hks':=Z0 hks;obtain⟨b1,o1,rfl,vl,vp,x0,x1,x2,x3,x4,x5,xl,xp⟩:=hin.out wr R.below k s hks;obtain⟨al,cl,rfl,hll,xl⟩:=xl;unfold maxLen at hll;have hlt1:(k:Int)<(D.spans.length:Int):=by omega
   clear hks xp xl x0 x1 x2 x3 x5;go_wp2_with fail
   have x4':=Z0 (show ∀(wj:World),Below w.heap.size w wj→zea wj b1 (o1+k*6) s from fun wj hb=>by
    obtain⟨b,o,he,h⟩:=hin.out wj hb k s hks'.out;obtain⟨rfl,rfl⟩:b1=b∧o1=o:=by simpa using he
    exact h)
   have x4h:=Z0 x4;clear x4 g4
   go_loopw [37] (fun j wj=>∃(j':Nat) (U:List Bool),j'≤s.lens.length∧j=.int .i64 j'∧Hid (wj.cell? ⟨b1,o1+k*6+4,none⟩=some (.slice al s.lens.length cl))∧RowU w.heap.size w wj D.words.length U (fun x=>zez D k x∨zeb s j' x)) (fun j _=>s.lens.length-(intOf j).toNat)
   case atStart =>
    exact⟨0,U,Nat.zero_le _,rfl,x4h,R.congr (fun i _=>⟨.inl,fun h=>h.elim id fun⟨j',hj,_⟩=>absurd hj (by omega)⟩)⟩
   case round =>
    obtain⟨j,U,hj,rfl,hlc,R⟩:=hrel;have hsp1:=x4'.out _ R.below;have hrs:=Z0 hsp1;obtain⟨vl',vp',x0,x1,x2,x3,x4,x5,xl',xp⟩:=hsp1
    obtain rfl:vl'=.slice al s.lens.length cl:=by
     have:=x4.symm.trans hlc.out;simpa using this
    obtain⟨al',cl',he2,_,xl'⟩:=xl';obtain⟨rfl,rfl⟩:al=al'∧cl=cl':=by simpa using he2
    have g4:=f4'.out _ R.below;clear he2
    by_cases hjl:j<s.lens.length
    ·have hj1:(j:Int)<(s.lens.length:Int):=by omega
     have hS:=hA.slot j hjl;obtain⟨A,hAt,hAin⟩:=at_nat D k s hA D.words.length hwl'.out j hjl;have hl0:=hS.l0;obtain⟨bl2,ol2,rfl,xj⟩:=xl' j hjl;have hp0:=hA.pg0;have hp1:=hA.pg1;have hl3:=hA.lens;have hl4:=(zfj s.cls).2;have hjb:(j:Int)≤1000:=by omega
     have hpb:s.page≤1000:=by omega
     have hcall:=Z0 (zdw b1 (o1+k*6) s (j:Int) hp0 hpb (by omega) hjb _ hrs.out);have hlw:=hS.l1;have hz16:=(zkm s.cls).2;have hAt':=Z0 hAt;clear hl3 hl4 xl' xp x0 x1 x2 x3 x4 x5 hS hAt;generalize hlj:s.lens[j]?.getD 0=l at *;have hlj':=Z0 hlj;clear hlj;go_wp2_with fail;refine hcall.out.mono ?_;rintro e w2⟨rfl,hdr⟩;rw[hAt'.out];have R2:RowU w.heap.size w w2 D.words.length U (fun x=>zez D k x∨zeb s j x):=⟨X8 R.own hdr.below,R.tells,R.below.trans (hdr.below.mono (Nat.le_of_lt R.size)),by have:=hdr.below.size;have:=R.size;omega⟩;have hlc2:=Z0 (hdr.cell hlc.out)
     have hAb:(A:Int)≤1000000:=by
      have:=hAt'.out;have h5:=zkm s.cls;have h6:0≤(j:Int)*sz s.cls:=Int.mul_nonneg (by omega) h5.1
      have h7:(j:Int)*sz s.cls≤16000:=by
       have:=Int.mul_le_mul hjb h5.2 h5.1 (by omega);omega
      unfold atW at this;omega
     clear R hdr xj g4 hcall;go_wp2_with fail
     go_loopw [9] (fun t wt=>∃(t':Nat) (U:List Bool),(t':Int)≤l∧t=.int .i64 ((A:Int)+(t':Int))∧Hid (wt.cell? ⟨b1,o1+k*6+4,none⟩=some (.slice (some ⟨bl2,ol2,none⟩) s.lens.length cl))∧RowU w.heap.size w wt D.words.length U (fun x=>(zez D k x∨zeb s j x)∨zle s j t' x)) (fun t _=>l.toNat-(intOf t-A).toNat)
     case atStart=>exact⟨0,U,hl0,by simp,hlc2,R2.congr (fun i _=>⟨.inl,fun h=>h.elim id fun⟨t',ht,_⟩=>absurd ht (by omega)⟩)⟩
     case round =>
      obtain⟨t,U,ht,rfl,hlc3,R⟩:=hrel
      by_cases htl:(t:Int)<l
      ·have hx:=hAin t htl
       have ho1:A+t<D.words.length:=hx;have hx1:((A:Int)+(t:Int))<(D.words.length:Int):=by omega
       obtain⟨c1,c2⟩:=R.cell (Below.refl _ _) (A+t) ho1;have hstep:=Z0 (R.step (Below.refl _ _) (A+t) ho1)
       have hne:b1<w.heap.size:=by
        obtain⟨b3,o3,he3,hsp3⟩:=hin.out w (Below.refl _ _) k s hks'.out;obtain⟨rfl,rfl⟩:b1=b3∧o1=o3:=by simpa using he3
        obtain⟨_,_,y0,_⟩:=hsp3;exact zkc y0
       have hlc4:=Z0 (show(wr.setCell ⟨w.heap.size,A+t,none⟩ (.bool true)).cell? ⟨b1,o1+k*6+4,none⟩=some (.slice (some ⟨bl2,ol2,none⟩) s.lens.length cl)from by
        have hb:(wr.setCell ⟨w.heap.size,A+t,none⟩ (.bool true)).heap[b1]?=wr.heap[b1]?:=heap_setCell_other wr ⟨w.heap.size,A+t,none⟩ b1 (.bool true) (by simp;omega);rw[World.cell?_of_block hb];exact hlc3.out)
       clear R hAin hlc3;generalize U[A+t]?.getD false=old at c1;go_wp2_with fail
       go_roundw
       case rel=>exact⟨t+1,_,by omega,by go_num,hlc4,hstep.out.congr (fun i _=>by rw[znq,hAt'.out,show(i=A+t)↔((i:Int)=(A:Int)+(t:Int)) by omega,or_assoc])⟩
       case measure=>simp[intOf];omega
      ·have htt:t=l.toNat:=by omega
       have hR:=Z0 (R.congr (Q:=fun x=>zez D k x∨zeb s (j+1) x) (fun i _=>by rw[zly,hlj'.out,←htt,or_assoc]));clear R hAin htt;go_wp2_with fail
       go_roundw
       case rel=>exact⟨j+1,U,by omega,by go_num,hlc3,hR.out⟩
       case measure=>simp[intOf];omega
    ·obtain rfl:j=s.lens.length:=by omega
     have hR:=Z0 (R.congr (fun i _=>(zlx D k i s hks'.out).symm));clear R x0 x1 x2 x3 xl' xp;go_wp2_with fail
     go_roundw
     case rel=>exact⟨k+1,U,by omega,by go_num,hR.out⟩
     case measure=>simp[intOf];omega
  ·obtain rfl:k=D.spans.length:=by omega
   have g2:=f2'.out wr R.below;have hb:=Z0 R.below;have oU':=Z0 R.own;have tU':=Z0 R.tells;obtain⟨aw',cw',hwe,hwm,xw⟩:=(a1'.out.below R.below);obtain⟨rfl,rfl⟩:aw=aw'∧cw=cw':=by simpa using hwe
   have xw':=Z0 xw;clear hwe xw R;unfold maxLen at hwm;go_wp2_with fail
   go_loop [63] (fun i=>∃i':Nat,i'≤D.words.length∧i=.int .i64 i'∧Hid (∀j,j<i'→¬Used D j→D.words[j]?.getD 0=0)) (fun i=>D.words.length-(intOf i).toNat)
   case atStart=>exact⟨0,Nat.zero_le _,rfl,fun j hj=>absurd hj (by omega)⟩
   case round =>
    obtain⟨i,hi,rfl,hz⟩:=hrel
    by_cases hil:i<D.words.length
    ·have hil1:(i:Int)<(D.words.length:Int):=by omega
     obtain⟨bw1,ow1,rfl,xi⟩:=xw'.out i hil;have hU:=tU'.out
     have ui:wr.cell? ⟨w.heap.size,i,none⟩=some (.bool (U[i]?.getD false)):=by
      rw[oU'.out.cellAt i (by omega)];simp[hU.1,hil]
     have hUi:=Z0 (hU.2 i hil);have hfz:=Z0 (fun(h:zjr D)=>h i hil);have hnext:=Z0 (fun(h:¬Used D i→D.words[i]?.getD 0=0)=>(fun j (hj:j<i+1)=>if e:j=i then by subst e;exact h else hz.out j (by omega):∀j,j<i+1→¬Used D j→D.words[j]?.getD 0=0));clear hU hz;generalize U[i]?.getD false=u at *;generalize D.words[i]?.getD 0=y at *
     by_cases hy:y=0
     ·have hn:=Z0 (hnext.out (fun _=>hy))
      have hyb:(y != 0)=false:=by rw[bne_eq_false_iff_eq];exact hy
      clear hy;go_wp2_with fail
      go_round
      case rel=>exact⟨i+1,by omega,by go_num,hn⟩
      case measure=>simp[intOf];omega
     ·have hyb:(y != 0)=true:=by rw[bne_iff_ne];exact hy
      have hy':=Z0 hy;clear hy
      cases u
      ·have n:=Z0 (show ¬zjr D from fun h=>hy'.out (hfz.out h (fun hu=>absurd (hUi.out.2 hu) (by simp))))
       go_wp2_with fail;go_ret;exact⟨IsB.no n.out,hb.out⟩
      ·have hn:=Z0 (hnext.out (fun hu=>absurd (hUi.out.1 rfl) hu))
       go_wp2_with fail
       go_round
       case rel=>exact⟨i+1,by omega,by go_num,hn⟩
       case measure=>simp[intOf];omega
    ·obtain rfl:i=D.words.length:=by omega
     have hy:=Z0 (show zjr D from hz.out);clear hz;go_wp2_with fail;go_ret;exact⟨IsB.yes hy.out,hb.out⟩
theorem zet{b:Int}{v:Bool}(hv:zoe b=v)(w:World):Calls prog 100 #[.int .i64 b] w fun e w'=>e=.returned (.bool v)∧w=w':=by rw[←hv];exact zwz b w
theorem zdu{p:Int}{v:Bool}(hv:inB p 1 12=v)(w:World):Calls prog 101 #[.int .i64 p] w fun e w'=>e=.returned (.bool v)∧w=w':=by rw[←hv];exact zte p w
theorem zej{v:Value}{L:List (List Int)}(h:zii L){w:World}(hr:RdM w v L):Calls prog 102 #[v] w fun e w'=>e=.returned (.bool true)∧w=w':=Calls.isTrue (zor v L w hr) h
theorem zzc{v:Value}{L:List (List Int)}(h:¬zii L){w:World}(hr:RdM w v L):Calls prog 102 #[v] w fun e w'=>e=.returned (.bool false)∧w=w':=Calls.isFalse (zor v L w hr) h
theorem spans_le{D:WD}(h:zev D):∀(k:Nat) (s:Y7),D.spans[k]?=some s→(k:Int)≤s.page:=by
 intro k
 induction k with
 | zero=>intro s hs;exact(h 0 s hs).pg0
 | succ k ih =>
  intro s hs;have hl:=(List.getElem?_eq_some_iff.1 hs).1;obtain⟨t,ht⟩:∃t,D.spans[k]?=some t:=⟨_,List.getElem?_eq_getElem (by omega)⟩;have h1:=ih t ht;have h2:=(h (k+1) s hs).prev t (by omega) (by simpa using ht);omega
theorem zxp{D:WD}(h:zev D)(hp:0≤D.pages):(D.spans.length:Int)≤D.pages:=by
 rcases Nat.eq_zero_or_pos D.spans.length with e|e
 ·omega
 ·obtain⟨t,ht⟩:∃t,D.spans[D.spans.length-1]?=some t:=⟨_,List.getElem?_eq_getElem (by omega)⟩
  have h1:=spans_le h _ t ht;have h2:=(h _ t ht).pg1;omega
theorem zrr{D:WD}:Y5 D↔(zoe D.base=true∧inB D.pages 1 12=true∧zii D.muts∧inB D.phase 0 4=true∧(D.words.length:Int)=D.pages*32∧(D.dirty.length:Int)=D.pages*4∧zev D∧zjr D):=by
 have hb:zoe D.base=true↔(32≤D.base∧D.base≤1048576∧D.base % 32=0):=by
  unfold zoe;rw[Bool.and_eq_true,U7,beq_iff_eq,and_assoc]
 rw[hb,U7,U7];constructor
 ·intro h
  obtain⟨g1,g2,g3,g4,g5,g6,g7⟩:=h.geo;exact⟨⟨g1,g2,g3⟩,⟨g4,g5⟩,⟨by omega,by omega,h.roots⟩,⟨h.ph0,h.ph1⟩,h.words,h.dirty,h.span,h.zero⟩
 ·rintro⟨⟨g1,g2,g3⟩,⟨g4,g5⟩,⟨m1,m2,m3⟩,⟨p1,p2⟩,h5,h6,h7,h8⟩
  exact⟨⟨g1,g2,g3,g4,g5,by omega,by omega⟩,h5,h6,zxp h7 (by omega),p1,p2,h7,h8,m3⟩
theorem zep{P:Prop}{b:Bool}{f:FuncId}{args:Array Value}{w:World}(F:∀{P:Prop} {R:World→Prop},(Calls prog f args w fun e w'=>IsB P e∧R w')→(if b then P else ¬P)→Calls prog f args w fun e w'=>e=.returned (.bool b)∧R w')
  (h:Calls prog f args w fun e w'=>IsB P e∧zju w w') (hp:if b then P else ¬P):Calls prog f args w fun e w'=>e=.returned (.bool b)∧Below w.heap.size w w' :=
 (F h hp).mono fun _ _ ⟨a,c⟩=>⟨a,c.below⟩
theorem ztn(v:Value)(D:WD)(hm:ztz D)(w:World)(hr:RdW w v D) :
  Calls prog 70 #[v] w fun e w'=>IsB (Y5 D) e∧Below w.heap.size w w':=by
 have hm':=Z0 hm;clear hm;obtain⟨vw,vd,vs,vm,vg,rfl,a1,a2,a3,a4,a5⟩:=hr;obtain⟨aw,cw,rfl,hlw,a1'⟩:=a1;obtain⟨ad,cd,rfl,hld,a2'⟩:=a2;unfold maxLen at hlw hld;have a1:Rd w (.slice aw D.words.length cw) D.words:=⟨aw,cw,rfl,hlw,a1'⟩;have a2:RdB w (.slice ad D.dirty.length cd) D.dirty:=⟨ad,cd,rfl,hld,a2'⟩;clear a1' a2';have bx:=Y8 w (.cells (Z5 D (.slice aw D.words.length cw) (.slice ad D.dirty.length cd) vs vm vg) 37);have bw:=Y2 w (.cells (Z5 D (.slice aw D.words.length cw) (.slice ad D.dirty.length cd) vs vm vg) 37);have hW:=Z0 (show RdW (w.alloc (.cells (Z5 D (.slice aw D.words.length cw) (.slice ad D.dirty.length cd) vs vm vg) 37)) (.agg #[.int .i64 D.base,.int .i64 D.pages,.slice aw D.words.length cw,.slice ad D.dirty.length cd,vs,vm,.int .i64 D.phase,.int .i64 D.next,vg]) D from⟨_,_,vs,vm,vg,rfl,a1.below bw,a2.below bw,a3.below bw,a4.below bw,a5.below bw⟩);have hM:=Z0 (a4.below bw);have hBx:=Z0 (show BoxW (w.alloc (.cells (Z5 D (.slice aw D.words.length cw) (.slice ad D.dirty.length cd) vs vm vg) 37)) w.heap.size (.agg #[.int .i64 D.base,.int .i64 D.pages,.slice aw D.words.length cw,.slice ad D.dirty.length cd,vs,vm,.int .i64 D.phase,.int .i64 D.next,vg])from⟨_,rfl,bx⟩);have bw':=Z0 bw;have hF:=Z0 (zrr (D:=D));have g0:=Ext.cell (Z6 bx 0 _ rfl);have g1:=Ext.cell (Z6 bx 1 _ rfl);have g2:=Ext.cell (Z6 bx 2 _ rfl);have g3:=Ext.cell (Z6 bx 3 _ rfl);have g5:=Ext.cell (Z6 bx 5 _ rfl);have g6:=Ext.cell (Z6 bx 6 _ rfl);clear a1 a2 a3 a4 a5 bx bw
 cases e1:zoe D.base
 case false =>
  have h1:=Z0 e1;have n:=Z0 (show ¬Y5 D from fun h=>by have:=(hF.out.1 h).1;rw[h1.out]at this;cases this);clear e1;go_enter func70,ntmps70;go_wp2_with fail;generalize w.alloc (.cells (Z5 D (.slice aw D.words.length cw) (.slice ad D.dirty.length cd) vs vm vg) 37)=W at *;refine Y6 (Below.refl _ _) (by kernel_rfl) (by kernel_rfl) ?_
  repeat (go_big_quiet_step ((first|(go_at_call 100;exact Ext.same (zet h1.out _))|(go_at_call 101;exact Ext.same (zdu h2.out _))|(go_at_call 102;exact Ext.same (zej h3.out (hM.out.below (Ext.below _))))|(go_at_call 73;exact Ext.same (T7 h4.out _))|(go_at_call 103;exact Ext.same (J1 _ hp0 hp1 _))|(go_at_call 104;exact Ext.same (zdx _ hp0 hp1 _))|(go_at_call 105;exact Ext.call (zep (b:=true) (fun h hp=>Calls.isTrue h (by simpa using hp)) (G7 _ _ D hp2 hp3 hm'.out _ (hW.out.below (Ext.below _)) (hBx.out.below (Ext.below _))) h7.out))|(go_at_call 106;exact Ext.call (Calls.isTrue (N9 _ _ D hn h5.out hp3 h7.out _ (hW.out.below (Ext.below _)) (hBx.out.below (Ext.below _))) h8.out)))))
  refine wpQuiet_nil ?_;intro _ hw';obtain⟨x9,hw''⟩:=hw';subst hw''
  go_wp2
  go_ret;exact⟨IsB.no n.out,Z7 bw'.out (Ext.below _)⟩
 have h1:=Z0 e1;clear e1
 cases e2:inB D.pages 1 12
 case false =>
  have h2:=Z0 e2;have n:=Z0 (show ¬Y5 D from fun h=>by have:=(hF.out.1 h).2.1;rw[h2.out]at this;cases this);clear e2;go_enter func70,ntmps70;go_wp2_with fail;generalize w.alloc (.cells (Z5 D (.slice aw D.words.length cw) (.slice ad D.dirty.length cd) vs vm vg) 37)=W at *;refine Y6 (Below.refl _ _) (by kernel_rfl) (by kernel_rfl) ?_
  repeat (go_big_quiet_step ((first|(go_at_call 100;exact Ext.same (zet h1.out _))|(go_at_call 101;exact Ext.same (zdu h2.out _))|(go_at_call 102;exact Ext.same (zej h3.out (hM.out.below (Ext.below _))))|(go_at_call 73;exact Ext.same (T7 h4.out _))|(go_at_call 103;exact Ext.same (J1 _ hp0 hp1 _))|(go_at_call 104;exact Ext.same (zdx _ hp0 hp1 _))|(go_at_call 105;exact Ext.call (zep (b:=true) (fun h hp=>Calls.isTrue h (by simpa using hp)) (G7 _ _ D hp2 hp3 hm'.out _ (hW.out.below (Ext.below _)) (hBx.out.below (Ext.below _))) h7.out))|(go_at_call 106;exact Ext.call (Calls.isTrue (N9 _ _ D hn h5.out hp3 h7.out _ (hW.out.below (Ext.below _)) (hBx.out.below (Ext.below _))) h8.out)))))
  refine wpQuiet_nil ?_;intro _ hw';obtain⟨x9,hw''⟩:=hw';subst hw''
  go_wp2
  go_ret;exact⟨IsB.no n.out,Z7 bw'.out (Ext.below _)⟩
 have h2:=Z0 e2;clear e2;have hp0:0≤D.pages:=by have:=U7.1 h2.out;omega
 have hp1:D.pages≤1000:=by have:=U7.1 h2.out;omega
 have hp2:1≤D.pages:=by have:=U7.1 h2.out;omega
 have hp3:D.pages≤12:=by have:=U7.1 h2.out;omega
 by_cases e3:zii D.muts
 case neg =>
  have h3:=Z0 e3;have n:=Z0 (show ¬Y5 D from fun h=>h3.out (hF.out.1 h).2.2.1);clear e3;go_enter func70,ntmps70;go_wp2_with fail;generalize w.alloc (.cells (Z5 D (.slice aw D.words.length cw) (.slice ad D.dirty.length cd) vs vm vg) 37)=W at *;refine Y6 (Below.refl _ _) (by kernel_rfl) (by kernel_rfl) ?_
  repeat (go_big_quiet_step ((first|(go_at_call 100;exact Ext.same (zet h1.out _))|(go_at_call 101;exact Ext.same (zdu h2.out _))|(go_at_call 102;exact Ext.same (zzc h3.out (hM.out.below (Ext.below _))))|(go_at_call 73;exact Ext.same (T7 h4.out _))|(go_at_call 103;exact Ext.same (J1 _ hp0 hp1 _))|(go_at_call 104;exact Ext.same (zdx _ hp0 hp1 _))|(go_at_call 105;exact Ext.call (zep (b:=true) (fun h hp=>Calls.isTrue h (by simpa using hp)) (G7 _ _ D hp2 hp3 hm'.out _ (hW.out.below (Ext.below _)) (hBx.out.below (Ext.below _))) h7.out))|(go_at_call 106;exact Ext.call (Calls.isTrue (N9 _ _ D hn h5.out hp3 h7.out _ (hW.out.below (Ext.below _)) (hBx.out.below (Ext.below _))) h8.out)))))
  refine wpQuiet_nil ?_;intro _ hw';obtain⟨x9,hw''⟩:=hw';subst hw''
  go_wp2
  go_ret;exact⟨IsB.no n.out,Z7 bw'.out (Ext.below _)⟩
 have h3:=Z0 e3;clear e3
 cases e4:inB D.phase 0 4
 case false =>
  have h4:=Z0 e4;have n:=Z0 (show ¬Y5 D from fun h=>by have:=(hF.out.1 h).2.2.2.1;rw[h4.out]at this;cases this);clear e4;go_enter func70,ntmps70;go_wp2_with fail;generalize w.alloc (.cells (Z5 D (.slice aw D.words.length cw) (.slice ad D.dirty.length cd) vs vm vg) 37)=W at *;refine Y6 (Below.refl _ _) (by kernel_rfl) (by kernel_rfl) ?_
  repeat (go_big_quiet_step ((first|(go_at_call 100;exact Ext.same (zet h1.out _))|(go_at_call 101;exact Ext.same (zdu h2.out _))|(go_at_call 102;exact Ext.same (zej h3.out (hM.out.below (Ext.below _))))|(go_at_call 73;exact Ext.same (T7 h4.out _))|(go_at_call 103;exact Ext.same (J1 _ hp0 hp1 _))|(go_at_call 104;exact Ext.same (zdx _ hp0 hp1 _))|(go_at_call 105;exact Ext.call (zep (b:=true) (fun h hp=>Calls.isTrue h (by simpa using hp)) (G7 _ _ D hp2 hp3 hm'.out _ (hW.out.below (Ext.below _)) (hBx.out.below (Ext.below _))) h7.out))|(go_at_call 106;exact Ext.call (Calls.isTrue (N9 _ _ D hn h5.out hp3 h7.out _ (hW.out.below (Ext.below _)) (hBx.out.below (Ext.below _))) h8.out)))))
  refine wpQuiet_nil ?_;intro _ hw';obtain⟨x9,hw''⟩:=hw';subst hw''
  go_wp2
  go_ret;exact⟨IsB.no n.out,Z7 bw'.out (Ext.below _)⟩
 have h4:=Z0 e4;clear e4
 by_cases e5:(D.words.length:Int)=D.pages*32
 case neg =>
  have d5:((D.words.length:Int) == D.pages*32)=false:=beq_eq_false_iff_ne.2 e5;have h5:=Z0 e5;have n:=Z0 (show ¬Y5 D from fun h=>h5.out (hF.out.1 h).2.2.2.2.1);clear e5;go_enter func70,ntmps70;go_wp2_with fail;generalize w.alloc (.cells (Z5 D (.slice aw D.words.length cw) (.slice ad D.dirty.length cd) vs vm vg) 37)=W at *;refine Y6 (Below.refl _ _) (by kernel_rfl) (by kernel_rfl) ?_
  repeat (go_big_quiet_step ((first|(go_at_call 100;exact Ext.same (zet h1.out _))|(go_at_call 101;exact Ext.same (zdu h2.out _))|(go_at_call 102;exact Ext.same (zej h3.out (hM.out.below (Ext.below _))))|(go_at_call 73;exact Ext.same (T7 h4.out _))|(go_at_call 103;exact Ext.same (J1 _ hp0 hp1 _))|(go_at_call 104;exact Ext.same (zdx _ hp0 hp1 _))|(go_at_call 105;exact Ext.call (zep (b:=true) (fun h hp=>Calls.isTrue h (by simpa using hp)) (G7 _ _ D hp2 hp3 hm'.out _ (hW.out.below (Ext.below _)) (hBx.out.below (Ext.below _))) h7.out))|(go_at_call 106;exact Ext.call (Calls.isTrue (N9 _ _ D hn h5.out hp3 h7.out _ (hW.out.below (Ext.below _)) (hBx.out.below (Ext.below _))) h8.out)))))
  refine wpQuiet_nil ?_;intro _ hw';obtain⟨x9,hw''⟩:=hw';subst hw''
  go_wp2
  go_ret;exact⟨IsB.no n.out,Z7 bw'.out (Ext.below _)⟩
 have d5:((D.words.length:Int) == D.pages*32)=true:=beq_iff_eq.2 e5;have h5:=Z0 e5;clear e5
 by_cases e6:(D.dirty.length:Int)=D.pages*4
 case neg =>
  have d6:((D.dirty.length:Int) == D.pages*4)=false:=beq_eq_false_iff_ne.2 e6;have h6:=Z0 e6;have n:=Z0 (show ¬Y5 D from fun h=>h6.out (hF.out.1 h).2.2.2.2.2.1);clear e6;go_enter func70,ntmps70;go_wp2_with fail;generalize w.alloc (.cells (Z5 D (.slice aw D.words.length cw) (.slice ad D.dirty.length cd) vs vm vg) 37)=W at *;refine Y6 (Below.refl _ _) (by kernel_rfl) (by kernel_rfl) ?_
  repeat (go_big_quiet_step ((first|(go_at_call 100;exact Ext.same (zet h1.out _))|(go_at_call 101;exact Ext.same (zdu h2.out _))|(go_at_call 102;exact Ext.same (zej h3.out (hM.out.below (Ext.below _))))|(go_at_call 73;exact Ext.same (T7 h4.out _))|(go_at_call 103;exact Ext.same (J1 _ hp0 hp1 _))|(go_at_call 104;exact Ext.same (zdx _ hp0 hp1 _))|(go_at_call 105;exact Ext.call (zep (b:=true) (fun h hp=>Calls.isTrue h (by simpa using hp)) (G7 _ _ D hp2 hp3 hm'.out _ (hW.out.below (Ext.below _)) (hBx.out.below (Ext.below _))) h7.out))|(go_at_call 106;exact Ext.call (Calls.isTrue (N9 _ _ D hn h5.out hp3 h7.out _ (hW.out.below (Ext.below _)) (hBx.out.below (Ext.below _))) h8.out)))))
  refine wpQuiet_nil ?_;intro _ hw';obtain⟨x9,hw''⟩:=hw';subst hw''
  go_wp2
  go_ret;exact⟨IsB.no n.out,Z7 bw'.out (Ext.below _)⟩
 have d6:((D.dirty.length:Int) == D.pages*4)=true:=beq_iff_eq.2 e6;have h6:=Z0 e6;clear e6
 by_cases e7:zev D
 case neg =>
  have h7:=Z0 e7;have n:=Z0 (show ¬Y5 D from fun h=>h7.out (hF.out.1 h).2.2.2.2.2.2.1);clear e7;go_enter func70,ntmps70;go_wp2_with fail;generalize w.alloc (.cells (Z5 D (.slice aw D.words.length cw) (.slice ad D.dirty.length cd) vs vm vg) 37)=W at *;refine Y6 (Below.refl _ _) (by kernel_rfl) (by kernel_rfl) ?_
  repeat (go_big_quiet_step ((first|(go_at_call 100;exact Ext.same (zet h1.out _))|(go_at_call 101;exact Ext.same (zdu h2.out _))|(go_at_call 102;exact Ext.same (zej h3.out (hM.out.below (Ext.below _))))|(go_at_call 73;exact Ext.same (T7 h4.out _))|(go_at_call 103;exact Ext.same (J1 _ hp0 hp1 _))|(go_at_call 104;exact Ext.same (zdx _ hp0 hp1 _))|(go_at_call 105;exact Ext.call (zep (b:=false) (fun h hp=>Calls.isFalse h (by simpa using hp)) (G7 _ _ D hp2 hp3 hm'.out _ (hW.out.below (Ext.below _)) (hBx.out.below (Ext.below _))) h7.out))|(go_at_call 106;exact Ext.call (Calls.isTrue (N9 _ _ D hn h5.out hp3 h7.out _ (hW.out.below (Ext.below _)) (hBx.out.below (Ext.below _))) h8.out)))))
  refine wpQuiet_nil ?_;intro _ hw';obtain⟨x9,hw''⟩:=hw';subst hw''
  go_wp2
  go_ret;exact⟨IsB.no n.out,Z7 bw'.out (Ext.below _)⟩
 have h7:=Z0 e7;clear e7;have hn:D.words.length≤1048576:=by have:=h5.out;omega
 by_cases e8:zjr D
 case neg =>
  have h8:=Z0 e8;have n:=Z0 (show ¬Y5 D from fun h=>h8.out (hF.out.1 h).2.2.2.2.2.2.2);clear e8;go_enter func70,ntmps70;go_wp2_with fail;generalize w.alloc (.cells (Z5 D (.slice aw D.words.length cw) (.slice ad D.dirty.length cd) vs vm vg) 37)=W at *;refine Y6 (Below.refl _ _) (by kernel_rfl) (by kernel_rfl) ?_
  repeat (go_big_quiet_step ((first|(go_at_call 100;exact Ext.same (zet h1.out _))|(go_at_call 101;exact Ext.same (zdu h2.out _))|(go_at_call 102;exact Ext.same (zej h3.out (hM.out.below (Ext.below _))))|(go_at_call 73;exact Ext.same (T7 h4.out _))|(go_at_call 103;exact Ext.same (J1 _ hp0 hp1 _))|(go_at_call 104;exact Ext.same (zdx _ hp0 hp1 _))|(go_at_call 105;exact Ext.call (zep (b:=true) (fun h hp=>Calls.isTrue h (by simpa using hp)) (G7 _ _ D hp2 hp3 hm'.out _ (hW.out.below (Ext.below _)) (hBx.out.below (Ext.below _))) h7.out))|(go_at_call 106;exact Ext.call (Calls.isFalse (N9 _ _ D hn h5.out hp3 h7.out _ (hW.out.below (Ext.below _)) (hBx.out.below (Ext.below _))) h8.out)))))
  refine wpQuiet_nil ?_;intro _ hw';obtain⟨x9,hw''⟩:=hw';subst hw''
  go_wp2
  go_ret;exact⟨IsB.no n.out,Z7 bw'.out (Ext.below _)⟩
 case pos =>
  have h8:=Z0 e8;have n:=Z0 (show Y5 D from hF.out.2 ⟨h1.out,h2.out,h3.out,h4.out,h5.out,h6.out,h7.out,h8.out⟩);clear e8;go_enter func70,ntmps70;go_wp2_with fail;generalize w.alloc (.cells (Z5 D (.slice aw D.words.length cw) (.slice ad D.dirty.length cd) vs vm vg) 37)=W at *;refine Y6 (Below.refl _ _) (by kernel_rfl) (by kernel_rfl) ?_
  repeat (go_big_quiet_step ((first|(go_at_call 100;exact Ext.same (zet h1.out _))|(go_at_call 101;exact Ext.same (zdu h2.out _))|(go_at_call 102;exact Ext.same (zej h3.out (hM.out.below (Ext.below _))))|(go_at_call 73;exact Ext.same (T7 h4.out _))|(go_at_call 103;exact Ext.same (J1 _ hp0 hp1 _))|(go_at_call 104;exact Ext.same (zdx _ hp0 hp1 _))|(go_at_call 105;exact Ext.call (zep (b:=true) (fun h hp=>Calls.isTrue h (by simpa using hp)) (G7 _ _ D hp2 hp3 hm'.out _ (hW.out.below (Ext.below _)) (hBx.out.below (Ext.below _))) h7.out))|(go_at_call 106;exact Ext.call (Calls.isTrue (N9 _ _ D hn h5.out hp3 h7.out _ (hW.out.below (Ext.below _)) (hBx.out.below (Ext.below _))) h8.out)))))
  refine wpQuiet_nil ?_;intro _ hw';obtain⟨x9,hw''⟩:=hw';subst hw''
  go_wp2
  go_ret;exact⟨IsB.yes n.out,Z7 bw'.out (Ext.below _)⟩
theorem zsf(B:Nat)(v:Value)(D:WD)(k slot:Nat)(s:Y7)(hk:D.spans[k]?=some s)(hp0:0≤s.page)(hp1:s.page≤1000)(hs:slot≤1000)(hb0:0≤D.base)(hb1:D.base≤1048576)(w:World)(hr:RdW w v D)(hB:BoxW w B v) :
  Calls prog 124 #[.pointer (some ⟨B,0,none⟩),.agg #[.int .i64 k,.int .i64 slot]] w fun e w'=>e=.returned (.int .i64 (D.base+atW s slot))∧Below w.heap.size w w':=by
 obtain⟨vw,vd,vs,vm,vg,rfl,a1,a2,a3,a4,a5⟩:=hr;obtain⟨aS,cS,rfl,hsl,hx⟩:=a3;obtain⟨cs,he,hh⟩:=hB;obtain rfl:=(Value.agg.inj he).symm;have hkl:=(List.getElem?_eq_some_iff.1 hk).1;obtain⟨b1,o1,rfl,hss⟩:=hx k s hk;have hkl':(k:Int)<(D.spans.length:Int):=by omega
 unfold maxLen at hsl;have hm:=zkm s.cls;have hm0:0≤(slot:Int)*sz s.cls:=Int.mul_nonneg (by omega) hm.1
 have hm1:(slot:Int)*sz s.cls≤16000:=by
  have:=Int.mul_le_mul (show(slot:Int)≤1000 by omega) hm.2 hm.1 (by omega);omega
 have hA0:0≤atW s slot:=by unfold atW;omega
 have hA1:atW s slot≤100000:=by unfold atW;omega
 have hsum:IntKind.i64.wrap (D.base+atW s slot)=D.base+atW s slot:=IntWalk.i64_in _ (by omega);have hss':=Z0 hss;have bb:=Y2 w (.cells #[.int .i64 k,.int .i64 slot] 150);have bn:=Y8 w (.cells #[.int .i64 k,.int .i64 slot] 150);have g0:=Ext.cell (Y3 bb (Z6 hh 0 _ rfl));have g4:=Ext.cell (Y3 bb (Z6 hh 4 _ rfl));have h0:=Ext.cell (Z6 bn 0 _ rfl);have h1:=Ext.cell (Z6 bn 1 _ rfl);have bb':=Z0 bb;have hs2:=Z0 (hss.below bb);clear hx hk a1 a2 a4 a5 he hh hss bb bn;go_enter func124,ntmps124;go_wp2_with fail;generalize w.alloc (.cells #[.int .i64 k,.int .i64 slot] 150)=W at *;refine Y6 (Below.refl _ _) (by kernel_rfl) (by kernel_rfl) ?_
 repeat (go_big_quiet_step ((go_at_call 123;exact Ext.call ((zdw _ _ s _ hp0 hp1 (by omega) (by omega) _ (hs2.out.below (Ext.below _))).mono fun _ _ ⟨a,b⟩=>⟨a,b.below⟩))))
 refine wpQuiet_nil ?_;intro _ hw';obtain⟨x9,hw''⟩:=hw';subst hw''
 go_wp2
 go_ret;exact⟨rfl,Z7 bb'.out x9.below⟩
end Go.Proofs.YtjjamgeoompbkaaGreat
namespace Go.Proofs.YtjjamgeoompbkaaGreat
open Go.RowKit
open Go.Maps (Keyed)
open Go.Proofs.Tryz
def dat(k j:Int):DataW Unit:=.agg [.lit (.int .i64 k),.lit (.int .i64 j)]
def M9:Value→Option (DataW Unit × List MemPlace)
 | .agg cs=>match cs.toList with
  | [.int .i64 a,.int .i64 b]=>some (dat a b,[])
  | _=>none
 | _=>none
theorem zix(a b:Int):M9 (.agg #[.int .i64 a,.int .i64 b])=some (dat a b,[]):=rfl
theorem zqa{a b c d:Int}(h:dat a b=dat c d):a=c∧b=d:=by simpa[dat]using h
theorem zfz{v:Value}{z:DataW Unit × List MemPlace}(h:M9 v=some z):∃a b:Int,v=.agg #[.int .i64 a,.int .i64 b]∧z=(dat a b,[]):=by
 unfold M9 at h
 split at h
 ·rename_i cs
  obtain⟨l⟩:=cs
  split at h
  ·rename_i heq
   simp at heq;subst heq
   cases h
   exact⟨_,_,rfl,rfl⟩
  ·cases h
 ·cases h
theorem zqk(w:World):(zeroValue 150).run prog w=.ok (.agg #[.int .i64 0,.int .i64 0]) w:=by kernel_rfl
theorem zja:Keyed prog 3:=Maps.int_keyed underlying3
theorem zid{a:Int}(h:I64 a):keyOf prog 3 (.int .i64 a)=some (.int .i64 a):=by
 obtain⟨h1,h2⟩:=h;exact Maps.keyOf_int_mk underlying3 (WalkArith.wf_i64 (by omega))
theorem isKey(a:Int):WideAt.IsKeyLit (.int .i64 a):=by first|trivial|simp[WideAt.IsKeyLit]
def F0(K J k j:Nat):Prop:=k<K∨(k=K∧j<J)
structure J0(D:WD)(M:DataW Unit)(K J:Nat):Prop where
 isMap:Maps.IsMap M
 has:∀a:Int,Maps.has M (.int .i64 a)=true↔∃k j,F0 K J k j∧R6 D a k j
 is:∀(a:Int) (k j:Nat) (z:DataW Unit),F0 K J k j→R6 D a k j→M.atKey (.int .i64 a) z=dat k j
theorem J0.zero(D:WD):J0 D (.map []) 0 0 :=
 ⟨Maps.isMap_empty,fun a=>⟨fun h=>by simp[Maps.has_eq]at h,fun⟨k,j,h,_⟩=>by unfold F0 at h;omega⟩,fun a k j z h=>by unfold F0 at h;omega⟩
theorem J0.skip{D:WD}{M:DataW Unit}{K J:Nat}{s:Y7}(h:J0 D M K J)(hs:D.spans[K]?=some s)(hl:¬0<s.lens[J]?.getD 0):J0 D M K (J+1):=by
 have key:∀a k j,F0 K (J+1) k j→R6 D a k j→F0 K J k j:=fun a k j ha ho=>by
  rcases ha with ha|⟨rfl,ha⟩
  ·exact .inl ha
  ·refine .inr ⟨rfl,?_⟩
   by_cases e:j=J
   ·subst e
    obtain⟨t,ht,_,hpos,_⟩:=ho;rw[hs]at ht
    cases ht
    exact absurd hpos hl
   ·omega
 refine⟨h.isMap,fun a=>?_,fun a k j z ha ho=>h.is a k j z (key a k j ha ho) ho⟩;rw[h.has a];exact⟨fun⟨k,j,ha,ho⟩=>⟨k,j,ha.imp id fun⟨e,hlt⟩=>⟨e,by omega⟩,ho⟩,fun⟨k,j,ha,ho⟩=>⟨k,j,key a k j ha ho,ho⟩⟩
theorem J0.put{D:WD}(hF:Y5 D){M:DataW Unit}{K J:Nat}{s:Y7}(h:J0 D M K J)(hs:D.spans[K]?=some s)(hJ:J<s.lens.length)(hl:0<s.lens[J]?.getD 0) :
  J0 D (M.put (.int .i64 (D.base+atW s (J:Int))) (dat K J)) K (J+1):=by
 have ho:R6 D (D.base+atW s (J:Int)) K J:=⟨s,hs,hJ,hl,rfl⟩
 have key:∀a k j,F0 K (J+1) k j→R6 D a k j→a≠D.base+atW s (J:Int)→F0 K J k j:=fun a k j ha hi hne=>by
  rcases ha with ha|⟨rfl,ha⟩
  ·exact .inl ha
  ·refine .inr ⟨rfl,?_⟩
   by_cases e:j=J
   ·subst e
    obtain⟨t,ht,_,_,he⟩:=hi;rw[hs]at ht
    cases ht
    exact absurd he.symm hne
   ·omega
 have lit:∀a:Int,a≠D.base+atW s (J:Int)→(Lit.int .i64 a)≠(Lit.int .i64 (D.base+atW s (J:Int))):=fun a hne e=>hne (by simpa using e);refine⟨h.isMap.put _ _,fun a=>?_,fun a k j z ha hi=>?_⟩
 ·by_cases e:a=D.base+atW s (J:Int)
  ·subst e
   rw[Maps.has_put_same h.isMap (isKey _)];exact⟨fun _=>⟨K,J,.inr ⟨rfl,by omega⟩,ho⟩,fun _=>rfl⟩
  ·rw[Maps.has_put_other (lit a e),h.has a]
   exact⟨fun⟨k,j,ha,hi⟩=>⟨k,j,ha.imp id fun⟨e,hlt⟩=>⟨e,by omega⟩,hi⟩,fun⟨k,j,ha,hi⟩=>⟨k,j,key a k j ha hi e,hi⟩⟩
 ·by_cases e:a=D.base+atW s (J:Int)
  ·subst e
   rw[Maps.atKey_put_same h.isMap (isKey _)];obtain⟨rfl,rfl⟩:=hi.unique hF ho;rfl
  ·rw[Maps.atKey_put_other (lit a e)]
   exact h.is a k j z (key a k j ha hi e) hi
theorem J0.next{D:WD}{M:DataW Unit}{K:Nat}{s:Y7}(h:J0 D M K s.lens.length)(hs:D.spans[K]?=some s):J0 D M (K+1) 0:=by
 have key:∀a k j,F0 (K+1) 0 k j→R6 D a k j→F0 K s.lens.length k j:=fun a k j ha ho=>by
  rcases ha with ha|⟨_,ha⟩
  ·by_cases e:k=K
   ·subst e
    obtain⟨t,ht,hj,_⟩:=ho;rw[hs]at ht
    cases ht
    exact .inr ⟨rfl,hj⟩
   ·exact .inl (by omega)
  ·omega
 refine⟨h.isMap,fun a=>?_,fun a k j z ha ho=>h.is a k j z (key a k j ha ho) ho⟩;rw[h.has a];exact⟨fun⟨k,j,ha,ho⟩=>⟨k,j,.inl (by unfold F0 at ha;omega),ho⟩,fun⟨k,j,ha,ho⟩=>⟨k,j,key a k j ha ho,ho⟩⟩
def OwnP(w:World)(g n:Nat)(M:DataW Unit):Prop:=w.ownsMap prog 3 M9 g n M
theorem OwnP.below{w w':World}{g n:Nat}{M:DataW Unit}(h:OwnP w g n M)(hb:Below w.heap.size w w'):OwnP w' g n M:=World.ownsMap.kept h (M8 hb) (by simp)
theorem zvw(B:Nat)(v:Value)(D:WD)(hF:Y5 D)(w:World)(hr:RdW w v D)(hB:BoxW w B v) :
  Calls prog 107 #[.pointer (some ⟨B,0,none⟩)] w fun e w'=>∃g n M,e=.returned (.map (some g))∧OwnP w' g n M∧J0 D M D.spans.length 0∧Below w.heap.size w w':=by
 have hr':=Z0 hr;have hB':=Z0 hB;have hF':=Z0 hF;obtain⟨vw,vd,vs,vm,vg,rfl,a1,a2,a3,a4,a5⟩:=hr;obtain⟨aS,cS,rfl,hls,hx⟩:=a3;have g4:=Ext.cell (hB.elim fun cs h=>by obtain rfl:=(Value.agg.inj h.1).symm;exact Z6 h.2 4 _ rfl);have f4:=g4 (Ext.self w);have hx':=Z0 hx;have hsl:=hF.spans;have hpl:=hF.geo.2.2.2.2.1;have hbw:Below w.heap.size w (w.alloc (.map #[] 0)):=Y2 w _;have hmk:=@run_makeMap prog;have hown0:=Z0 (show OwnP (w.alloc (.map #[] 0)) w.heap.size 0 (.map [])from World.ownsMap_made w prog 3 M9);have hbw':=Z0 hbw;have f4':=Y3 hbw f4;clear hF hB hx hls a1 a2 a4 a5 hbw f4;go_enter func107,ntmps107;go_wp2_with fail;clear f4'
 go_loopw [14] (fun i wr=>∃(k:Nat) (M:DataW Unit),k≤D.spans.length∧i=.int .i64 k∧Hid (J0 D M k 0)∧∃x:Ext w,wr=x.val∧Hid (OwnP x.val w.heap.size (k*16) M)) (fun i _=>D.spans.length-(intOf i).toNat)
 case atStart=>exact⟨0,.map [],Nat.zero_le _,rfl,J0.zero D,⟨_,hbw'.out⟩,rfl,hown0.out⟩
 case round =>
  obtain⟨k,M,hk,rfl,hP,x,rfl,hown⟩:=hrel
  by_cases hlt:k<D.spans.length
  ·have hlt1:(k:Int)<(D.spans.length:Int):=by omega
   obtain⟨s,hks⟩:∃s,D.spans[k]?=some s:=⟨_,List.getElem?_eq_getElem hlt⟩;obtain⟨b1,o1,rfl,hs⟩:=hx'.out k s hks;obtain⟨vl,vp,_,_,_,_,y4,_,⟨al,cl,rfl,hll,xl⟩,_⟩:=hs;have y4:=Ext.cell y4;have xl':=Z0 xl;have hA:=hF'.out.span k s hks;have hks':=Z0 hks;have hl16:s.lens.length≤16:=by have:=hA.lens;have:=(zfj s.cls).2;omega
   clear hA hks xl hll;go_wp2_with fail
   go_loopw [26] (fun i wr=>∃(j:Nat) (M:DataW Unit),j≤s.lens.length∧i=.int .i64 j∧Hid (J0 D M k j)∧∃x:Ext w,wr=x.val∧Hid (OwnP x.val w.heap.size (k*16+j) M)) (fun i _=>s.lens.length-(intOf i).toNat)
   case atStart=>exact⟨0,M,Nat.zero_le _,rfl,hP,x,rfl,hown⟩
   case round =>
    clear hP hown;obtain⟨j,M,hj,rfl,hP,x,rfl,hown⟩:=hrel
    by_cases hjl:j<s.lens.length
    ·have hj1:(j:Int)<(s.lens.length:Int):=by omega
     obtain⟨bl,ol,rfl,gl⟩:=xl'.out j hjl;have gl:=Ext.cell gl;have hskip:=Z0 (hP.out.skip hks'.out (J:=j));have hput:=Z0 (hP.out.put hF'.out hks'.out hjl)
     have hbd:=Z0 (show I64 (D.base+atW s (j:Int))from by
      have hA:=hF'.out.span k s hks'.out;have hg:=hF'.out.geo;have h1:=hA.pg0;have h2:=hA.pg1;have hm:=zkm s.cls;have hm0:0≤(j:Int)*sz s.cls:=Int.mul_nonneg (by omega) hm.1
      have hm1:(j:Int)*sz s.cls≤16000:=by
       have:=Int.mul_le_mul (show(j:Int)≤1000 by omega) hm.2 hm.1 (by omega);omega
      have hg1:=hg.1;have hg2:=hg.2.1;unfold I64 atW;omega)
     generalize s.lens[j]?.getD 0=l at *
     by_cases hl:0<l
     ·have hP2:=Z0 (hput.out hl)
      have bb:=Y2 x.val (.cells #[.int .i64 k,.int .i64 j] 150);have bn:=Y8 x.val (.cells #[.int .i64 k,.int .i64 j] 150);have bbh:=Z0 (Z7 x.below bb);have bnh:=Z0 bn;have hown1:=Z0 (OwnP.below hown.out bb);have hcall:=Z0 (fun(w2:World) (hb:Below w.heap.size w w2)=>zsf B _ D k j s hks'.out (hF'.out.span k s hks'.out).pg0 (by have:=(hF'.out.span k s hks'.out).pg1;omega) (by omega) (by have:=hF'.out.geo.1;omega) hF'.out.geo.2.1 w2 (hr'.out.below hb) (hB'.out.below hb))
      have hstep:=Z0 (show ∀w2,Below (x.val.alloc (.cells #[.int .i64 k,.int .i64 j] 150)).heap.size (x.val.alloc (.cells #[.int .i64 k,.int .i64 j] 150)) w2 →
        w2.cell? ⟨x.val.heap.size,0,none⟩=some (.int .i64 k)∧w2.cell? ⟨x.val.heap.size,1,none⟩=some (.int .i64 j) ∧
        ∃w3,(Instr.mapUpdate 134 (.map (some w.heap.size)) (.int .i64 (D.base+atW s (j:Int))) (.agg #[.int .i64 k,.int .i64 j])).run prog w2=.ok () w3∧Hid (OwnP w3 w.heap.size (k*16+(j+1)) (M.put (.int .i64 (D.base+atW s (j:Int))) (dat k j)))∧Hid (Below w.heap.size w w3)from fun w2 b3=>by
       refine⟨Z6 (Z8 b3 bnh.out) 0 _ rfl,Z6 (Z8 b3 bnh.out) 1 _ rfl,?_⟩;obtain⟨w3,hrun,hown3,hg3⟩:=World.ownsMap.update (OwnP.below hown1.out b3) zja underlying134 (by unfold maxLen;omega) (zid hbd.out) (zix k j);exact⟨w3,hrun,hown3,(Z7 bbh.out b3).grown hg3 (Nat.le_trans bbh.out.size b3.size) (fun q hq=>by cases hq;exact Nat.le_refl _)⟩)
      clear hP hown hskip hput bb bn;go_wp2_with fail
      go_region_with (first
       | (go_at_call 124;refine(hcall.out _ ?_).mono ?_;exact⟨bbh.out.os,bbh.out.tape,bbh.out.output,bbh.out.size,bbh.out.block⟩;rintro e w2⟨rfl,b2⟩;obtain⟨c0,c1,w3,hrun,hown4,b4⟩:=hstep.out w2 ⟨b2.os,b2.tape,b2.output,b2.size,b2.block⟩;clear b2))
      all_goals clear c0 c1 hrun
      all_goals obtain⟨x2,rfl⟩:=Ext.of b4.out
      all_goals go_wp2_with fail
      all_goals go_roundw
      all_goals first
       | exact⟨j+1,_,by omega,by go_num,hP2,x2,rfl,hown4⟩
       | (simp[intOf];omega)
     ·have hP2:=Z0 (hskip.out hl)
      have hown2:=Z0 (show OwnP x.val w.heap.size (k*16+(j+1)) M from World.ownsMap.mono hown.out (by omega));clear hP hown;go_wp2_with fail
      go_roundw
      case rel=>exact⟨j+1,M,by omega,by go_num,hP2,x,rfl,hown2⟩
      case measure=>simp[intOf];omega
    ·obtain rfl:j=s.lens.length:=by omega
     have hP2:=Z0 (hP.out.next hks'.out);have hown2:=Z0 (show OwnP x.val w.heap.size ((k+1)*16) M from World.ownsMap.mono hown.out (by omega));clear hP hown;go_wp2_with fail
     go_roundw
     case rel=>exact⟨k+1,M,by omega,by go_num,hP2,x,rfl,hown2⟩
     case measure=>simp[intOf];omega
  ·obtain rfl:k=D.spans.length:=by omega
   go_wp2_with fail;go_ret;exact⟨_,_,_,rfl,hown.out,hP.out,x.below⟩
theorem N5{P:Program}(w:World){ops:Array Oper}{rest:List Oper}{o:Oper}{a:Act}{Q:Exit→Act→World→Prop}(hP:P=prog)(hg:o.guard=none)(m x:Operand)(hop:o.op=Op.lookup 134 m x true)(b n:Nat)(D:DataW Unit)
  (hm:a.eval m=.map (some b)) (hown:OwnP w b n D) (key:Value) (kl:Lit) (hx:a.eval x=key) (hkey:keyOf P 3 key=some kl) (ok:Bool) (hok:Maps.has D kl=ok) (c d:Int) (hcd:D.atKey kl (dat 0 0)=dat c d)
  (hK:wpList P ops Q rest (a.put o.dst (.tuple #[.agg #[.int .i64 c,.int .i64 d],.bool ok])) w):wpList P ops Q (o::rest) a w:=by
 subst hP;refine wpList_lookup_own_ok w hg m x _ hop 3 150 zja underlying134 M9 (zqk w) (dat 0 0) [] (zix 0 0) b n D hm hown key kl hx hkey fun v ps hv=>?_;obtain⟨c',d',rfl,he⟩:=zfz hv;have e:=congrArg Prod.fst he;simp only at e;rw[hcd]at e;obtain⟨rfl,rfl⟩:=zqa e;rw[hok];exact hK
end Go.Proofs.YtjjamgeoompbkaaGreat
namespace Go.Proofs.YtjjamgeoompbkaaGreat
open Go.RowKit
open Go.Proofs.Tryz
def zoc(s:Y7):Int:=match s.lens.findIdx? (fun l=>decide (l=0))with|some j=>(j:Int)|none=>-1
theorem zzm{s:Y7}{j:Nat}(hj:j<s.lens.length)(h0:s.lens[j]?.getD 0=0)(h:∀i,i<j→s.lens[i]?.getD 0≠0):zoc s=j:=by
 have:s.lens.findIdx? (fun l=>decide (l=0))=some j:=by
  rw[List.findIdx?_eq_some_iff_getElem];refine⟨hj,by simpa[hj]using h0,fun i hi=>?_⟩;have:=h i hi;rw[List.getElem?_eq_getElem (by omega)]at this;simpa using this
 unfold zoc;rw[this]
theorem freeS_no{s:Y7}(h:∀i,i<s.lens.length→s.lens[i]?.getD 0≠0):zoc s=-1:=by
 have:s.lens.findIdx? (fun l=>decide (l=0))=none:=by
  rw[List.findIdx?_eq_none_iff];intro x hx;obtain⟨i,hi⟩:=List.mem_iff_getElem?.1 hx;have:=h i (List.getElem?_eq_some_iff.1 hi).1;rw[hi]at this;simpa using this
 unfold zoc;rw[this]
theorem zrt(b o:Nat)(s:Y7)(w:World)(hr:zea w b o s) :
  Calls prog 185 #[.pointer (some ⟨b,o,none⟩)] w fun e w'=>e=.returned (.int .i64 (zoc s))∧w=w':=by
 obtain⟨vl,vp,x0,x1,x2,x3,x4,x5,⟨al,cl,rfl,hll,xl⟩,_⟩:=hr;unfold maxLen at hll;have xl':=Z0 xl;clear xl x0 x1 x2 x3 x5;go_enter func185,ntmps185;go_wp2_with fail
 go_loop [10] (fun i=>∃j:Nat,j≤s.lens.length∧i=.int .i64 j∧Hid (∀i,i<j→s.lens[i]?.getD 0≠0)) (fun i=>s.lens.length-(intOf i).toNat)
 case atStart=>exact⟨0,Nat.zero_le _,rfl,(fun i hi=>absurd hi (by omega))⟩
 case round =>
  obtain⟨j,hj,rfl,hno⟩:=hrel
  by_cases hlt:j<s.lens.length
  ·have hlt1:(j:Int)<(s.lens.length:Int):=by omega
   obtain⟨bl,ol,rfl,gl⟩:=xl'.out j hlt;have hyes:=Z0 (fun h=>zzm hlt h hno.out);have hnext:=Z0 (show s.lens[j]?.getD 0≠0→∀i,i<j+1→s.lens[i]?.getD 0≠0 from fun h i hi=>if e:i=j then by subst e;exact h else hno.out i (by omega));generalize s.lens[j]?.getD 0=l at gl hyes hnext
   by_cases hl:l=0
   ·have y:=Z0 (hyes.out hl)
    subst hl;go_wp2_with fail;go_ret;exact⟨by rw[y.out];rfl,rfl⟩
   ·go_wp2_with fail
    go_round
    case rel=>exact⟨j+1,by omega,by go_num,hnext.out hl⟩
    case measure=>simp[intOf];omega
  ·obtain rfl:j=s.lens.length:=by omega
   have y:=Z0 (freeS_no hno.out);go_wp2_with fail;go_ret;exact⟨by rw[y.out];rfl,rfl⟩
def zhc(D:WD)(k:Nat):Prop:=k≤D.spans.length∧(∀(j:Nat) (s:Y7),j<k→D.spans[j]?=some s→s.page=j)∧(∀s,D.spans[k]?=some s→s.page≠k)
theorem zru(B:Nat)(v:Value)(D:WD)(w:World)(hr:RdW w v D)(hB:BoxW w B v) :
  Calls prog 186 #[.pointer (some ⟨B,0,none⟩)] w fun e w'=>(∃k,Hid (zhc D k)∧e=.returned (.int .i64 (k:Int)))∧w=w':=by
 obtain⟨vw,vd,vs,vm,vg,rfl,a1,a2,a3,a4,a5⟩:=hr;obtain⟨cs,he,hh⟩:=hB;obtain rfl:=(Value.agg.inj he).symm;obtain⟨aS,cS,rfl,hsl,hx⟩:=a3;unfold maxLen at hsl;have g4:=Z6 hh 4 _ rfl;have hx':=Z0 hx;clear a1 a2 a4 a5 he hh hx;go_enter func186,ntmps186;go_wp2_with fail
 go_loop [9] (fun i=>∃k:Nat,k≤D.spans.length∧i=.int .i64 k∧Hid (∀(j:Nat) (s:Y7),j<k→D.spans[j]?=some s→s.page=j)) (fun i=>D.spans.length-(intOf i).toNat)
 case atStart=>exact⟨0,Nat.zero_le _,rfl,(fun j s hj=>absurd hj (by omega))⟩
 case round =>
  obtain⟨k,hk,rfl,hno⟩:=hrel
  by_cases hlt:k<D.spans.length
  ·have hlt1:(k:Int)<(D.spans.length:Int):=by omega
   obtain⟨s,hks⟩:∃s,D.spans[k]?=some s:=⟨_,List.getElem?_eq_getElem hlt⟩;obtain⟨b1,o1,rfl,vl,vp,x0,_,_,_,_,_,_,_⟩:=hx'.out k s hks;have hyes:=Z0 (show s.page≠k→zhc D k from fun h=>⟨by omega,hno.out,fun t ht=>by rw[hks]at ht;cases ht;exact h⟩);have hnext:=Z0 (show s.page=k→∀(j:Nat) (t:Y7),j<k+1→D.spans[j]?=some t→t.page=j from fun h j t hj ht=>if e:j=k then by subst e;rw[hks]at ht;cases ht;exact h else hno.out j t (by omega) ht);clear hks;generalize s.page=pg at x0 hyes hnext
   by_cases hp:pg=k
   ·have hn:=Z0 (hnext.out hp)
    subst hp;go_wp2_with fail
    go_round
    case rel=>exact⟨k+1,by omega,by go_num,hn.out⟩
    case measure=>simp[intOf];omega
   ·have hy:=Z0 (hyes.out hp)
    go_wp2_with fail;go_ret;exact⟨⟨k,Z0 hy.out,rfl⟩,rfl⟩
  ·obtain rfl:k=D.spans.length:=by omega
   have hy:=Z0 (show zhc D D.spans.length from⟨Nat.le_refl _,hno.out,fun s hs=>absurd (List.getElem?_eq_some_iff.1 hs).1 (by omega)⟩);go_wp2_with fail;go_ret;exact⟨⟨D.spans.length,Z0 hy.out,rfl⟩,rfl⟩
end Go.Proofs.YtjjamgeoompbkaaGreat
