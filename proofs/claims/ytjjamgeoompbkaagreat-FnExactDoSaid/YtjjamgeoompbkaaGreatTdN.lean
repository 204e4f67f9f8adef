import Derived.Test.YtjjamgeoompbkaaGreatTdQ
import Derived.Lib.SlicesCompact
import Derived.Lib.SlKeysI

set_option maxRecDepth 100000
set_option maxHeartbeats 16000000
set_option linter.all false
namespace Go.Proofs.YtjjamgeoompbkaaGreat
open Go.RowKit
open Go.Maps (Keyed)
open Go.Proofs.Tryz
def flag(b:Bool):DataW Unit:=.lit (.bool b)
def zgc:Value→Option (DataW Unit × List MemPlace)
 | .bool b=>some (flag b,[])
 | _=>none
theorem zih(b:Bool):zgc (.bool b)=some (flag b,[]):=rfl
theorem zse{v:Value}{z:DataW Unit × List MemPlace}(h:zgc v=some z):∃b,v=.bool b∧z=(flag b,[]):=by
 unfold zgc at h
 split at h
 ·cases h
  exact⟨_,rfl,rfl⟩
 ·cases h
theorem flag_inj{a b:Bool}(h:flag a=flag b):a=b:=by simpa[flag]using h
theorem zeroFlag(w:World):(zeroValue 4).run prog w=.ok (.bool false) w:=by kernel_rfl
def OwnB(w:World)(g n:Nat)(M:DataW Unit):Prop:=w.ownsMap prog 3 zgc g n M
theorem OwnB.below{w w':World}{g n:Nat}{M:DataW Unit}(h:OwnB w g n M)(hb:Below w.heap.size w w'):OwnB w' g n M:=World.ownsMap.kept h (M8 hb) (by simp)
theorem OwnB.lt{w:World}{g n:Nat}{M:DataW Unit}(h:OwnB w g n M):g<w.heap.size:=World.ownsMap.lt h
theorem OwnB.ne_row{w:World}{g n base size k:Nat}{e:TypeId}{v:Value}{xs:List Value}{M:DataW Unit}(h:OwnB w g n M)(hr:w.ownsRow base e size v k xs):v.ownBlock≠some g:=by
 intro hq;obtain⟨es,clock,hb,_⟩:=h
 rcases hr.2 with⟨rfl,_⟩|⟨g',cap,cur,rfl,_,hg,_⟩
 ·simp[Value.ownBlock]at hq
 ·simp[Value.ownBlock]at hq
  subst hq;rw[hb]at hg
  cases hg
structure zke(M:DataW Unit)(S:List Int):Prop where
 isMap:Maps.IsMap M
 has:∀a:Int,Maps.has M (.int .i64 a)=true↔a∈S
 is:∀(a:Int) (z:DataW Unit),a∈S→M.atKey (.int .i64 a) z=flag true
theorem zke.zero:zke (.map []) [] :=
 ⟨Maps.isMap_empty,fun a=>⟨fun h=>by simp[Maps.has_eq]at h,fun h=>by simp at h⟩,fun a z h=>by simp at h⟩
theorem zke.put{M:DataW Unit}{S:List Int}(h:zke M S)(x:Int):zke (M.put (.int .i64 x) (flag true)) (x::S):=by
 have lit:∀a:Int,a≠x→(Lit.int .i64 a)≠(Lit.int .i64 x):=fun a hne e=>hne (by simpa using e);refine⟨h.isMap.put _ _,fun a=>?_,fun a z ha=>?_⟩
 ·by_cases e:a=x
  ·subst e
   rw[Maps.has_put_same h.isMap (isKey _)];simp
  ·rw[Maps.has_put_other (lit a e),h.has a]
   simp[e]
 ·by_cases e:a=x
  ·subst e
   rw[Maps.atKey_put_same h.isMap (isKey _)]
  ·rw[Maps.atKey_put_other (lit a e)]
   exact h.is a z (by simpa[e]using ha)
theorem zke.look{M:DataW Unit}{S:List Int}(h:zke M S)(a:Int):M.atKey (.int .i64 a) (flag false)=flag (decide (a∈S)):=by
 by_cases e:a∈S
 ·rw[h.is a _ e]
  simp[e]
 ·rw[Maps.atKey_of_not_has (by
   cases hh:Maps.has M (.int .i64 a)
   ·rfl
   ·exact absurd ((h.has a).1 hh) e)]
  simp[e]
theorem zjn{w:World}{g n:Nat}{M:DataW Unit}(hown:OwnB w g n M){x:Int}(hkey:keyOf prog 3 (.int .i64 x)=some (.int .i64 x)){c:Bool}(hc:M.atKey (.int .i64 x) (flag false)=flag c) :
  (Instr.lookup 155 (.map (some g)) (.int .i64 x) false).run prog w=.ok (.bool c) w:=by
 obtain⟨v,ps,hrun,hv⟩:=World.ownsMap.lookup hown zja underlying155 (zeroFlag w) (zih false) hkey;obtain⟨d,rfl,he⟩:=zse hv;have e:=congrArg Prod.fst he;simp only at e;rw[hc]at e;obtain rfl:=flag_inj e;exact hrun
end Go.Proofs.YtjjamgeoompbkaaGreat
namespace Go.Proofs.YtjjamgeoompbkaaGreat
open Go.RowKit
open Go.Proofs.Tryz
end Go.Proofs.YtjjamgeoompbkaaGreat
namespace Go.Proofs.YtjjamgeoompbkaaGreat
open Go.RowKit
open Go.Maps (Keyed)
open Go.Proofs.Tryz
theorem and_bit(m:Int)(j:Nat)(h0:0≤m)(h1:m≤9223372036854775807)(hj:j≤16):bits .and .i64 m ((2:Int)^j)≠0↔bitI m j:=by
 obtain⟨n,rfl⟩:=Int.eq_ofNat_of_zero_le h0;have h2:=zpo hj;have e:((2:Int)^j)=((2^j:Nat):Int):=by simp
 rw[zjd,e]
 have e2:bits .and .i64 (n:Int) ((2^j:Nat):Int)=((n &&& 2^j:Nat):Int):=by
  show IntKind.i64.wrap ((BitVec.ofInt 64 (n:Int) &&& BitVec.ofInt 64 ((2^j:Nat):Int)).toNat:Nat)=_
  rw[BitVec.toNat_and,zfl _ (by omega),zfl _ (by omega),IntKind.wrap_i64];have:=Nat.and_le_right (n:=n) (m:=2^j);omega
 have e3:n &&& 2^j≠0↔n.testBit j=true:=by
  constructor
  ·intro h
   cases ht:n.testBit j
   ·exfalso
    apply h
    apply Nat.eq_of_testBit_eq
    intro i;rw[Nat.testBit_and,Nat.testBit_two_pow,Nat.zero_testBit]
    by_cases e:j=i
    ·subst e
     simp[ht]
    ·simp[e]
   ·rfl
  ·intro ht h
   have:=congrArg (fun x=>x.testBit j) h;simp[Nat.testBit_and,ht]at this
 rw[e2,←e3];omega
theorem zex.mk16{D:WD}{s:Y7}{k j:Nat}(hF:Y5 D)(hs:D.spans[k]?=some s)(hj:j<s.lens.length):0≤s.mark∧s.mark≤9223372036854775807∧j≤16:=by
 have A:=hF.span k s hs;have h1:=A.lens;have h2:=(zfj s.cls).2;have h3:=A.mk1;have h4:=zpo (k:=s.lens.length) (by omega);have e:((2:Int)^s.lens.length)=((2^s.lens.length:Nat):Int):=by simp
 rw[e]at h3;exact⟨A.mk0,by omega,by omega⟩
theorem zgi(B:Nat)(v:Value)(D:WD)(k j:Nat)(s:Y7)(hks:D.spans[k]?=some s)(hm:0≤s.mark∧s.mark≤9223372036854775807∧j≤16)(w:World)(hr:RdW w v D)(hB:BoxW w B v) :
  Calls prog 137 #[.pointer (some ⟨B,0,none⟩),.agg #[.int .i64 k,.int .i64 j]] w fun e w'=>IsB (U4 D k j) e∧Below w.heap.size w w':=by
 obtain⟨vw,vd,vs,vm,vg,rfl,a1,a2,a3,a4,a5⟩:=hr;obtain⟨aS,cS,rfl,hsl,hx⟩:=a3;obtain⟨b1,o1,rfl,hrs⟩:=hx k s hks;have bb:=Y2 w (.cells #[.int .i64 k,.int .i64 j] 150);have bx:=Y8 w (.cells #[.int .i64 k,.int .i64 j] 150);obtain⟨vl,vp,x0,x1,x2,x3,x4,x5,xl,xp⟩:=hrs.below bb;have g4:=Y3 bb (hB.cell 4 _ rfl);have q0:=Z6 bx 0 _ rfl;have q1:=Z6 bx 1 _ rfl;have hkl1:(k:Int)<(D.spans.length:Int):=by have:=(List.getElem?_eq_some_iff.1 hks).1;omega
 have y:=Z0 (show ∀r:Bool,r=(bits BinOp.and IntKind.i64 s.mark (2^j) != 0)→IsB (U4 D k j) (.returned (.bool r))from fun r hr=>⟨_,rfl,by rw[hr,bne_iff_ne,and_bit _ _ hm.1 hm.2.1 hm.2.2,U4.iff hks]⟩);have hj16:=hm.2.2;have hcall:=Z0 (fun(w:World)=>zic j hj16 w);have bb':=Z0 bb;clear a1 a2 a4 a5 hB hx xl xp x0 x1 x3 x4 x5 hks hrs bb bx hm;go_enter func137,ntmps137;go_upto_region 1 with fail;generalize w.alloc (.cells #[.int .i64 k,.int .i64 j] 150)=W at *
 go_quiet ((go_at_call 146;exact Calls.quiet_of_same ((hcall.out _).mono fun _ _ ⟨a,b⟩=>⟨a,b.symm⟩)))
 go_wp2_with fail;go_ret;exact⟨y.out _ rfl,below_drewN bb'.out _⟩
end Go.Proofs.YtjjamgeoompbkaaGreat
namespace Go.Proofs.YtjjamgeoompbkaaGreat
open Go.RowKit
open Go.Maps (Keyed)
open Go.Proofs.Tryz
open Classical in
theorem E0(P:Prop):∃d:Bool,d=true↔P:=⟨decide P,by simp⟩
theorem zns(B:Nat)(v:Value)(D:WD)(k j:Nat)(s:Y7)(hks:D.spans[k]?=some s)(hm:0≤s.mark∧s.mark≤9223372036854775807∧j≤16)(w:World)(hr:RdW w v D)(hB:BoxW w B v) :
  Calls prog 127 #[.pointer (some ⟨B,0,none⟩),.agg #[.int .i64 k,.int .i64 j]] w fun e w'=>IsB (zei D k j) e∧Below w.heap.size w w':=by
 have bb:=Y2 w (.cells #[.int .i64 k,.int .i64 j] 150);have bx:=Y8 w (.cells #[.int .i64 k,.int .i64 j] 150);obtain⟨mk,hmk⟩:=E0 (U4 D k j);have hcall:=Z0 (fun(x:Ext (w.alloc (.cells #[.int .i64 k,.int .i64 j] 150)))=>(zgi B v D k j s hks hm x.val ((hr.below bb).below x.below) ((hB.below bb).below x.below)).mono fun e w' ⟨h1,h2⟩=>(⟨h1.at_ mk hmk,h2⟩:e=Ending.returned (.bool mk)∧Below x.val.heap.size x.val w'));obtain⟨vw,vd,vs,vm,vg,rfl,a1,a2,a3,a4,a5⟩:=hr;obtain⟨aS,cS,rfl,hsl,hx⟩:=a3;obtain⟨b1,o1,rfl,hrs⟩:=hx k s hks;obtain⟨vl,vp,x0,x1,x2,x3,x4,x5,xl,xp⟩:=hrs.below bb;have g4:=Y3 bb (hB.cell 4 _ rfl);have g6:=Y3 bb (hB.cell 6 _ rfl);have q0:=Z6 bx 0 _ rfl;have q1:=Z6 bx 1 _ rfl;have hkl1:(k:Int)<(D.spans.length:Int):=by have:=(List.getElem?_eq_some_iff.1 hks).1;omega
 have hP:=Z0 (show zei D k j↔(D.phase=4∧s.swept=false∧mk=false)from by rw[zei.iff hks,←U4.iff hks,←hmk];simp);have bb':=Z0 bb;clear a1 a2 a4 a5 hB hx xl xp x0 x1 x2 x4 x5 hks hrs bb bx hm hmk hsl;generalize zei D k j=P at *;go_enter func127,ntmps127;go_upto_region 1 with fail;generalize w.alloc (.cells #[.int .i64 k,.int .i64 j] 150)=W at *;have G4:=Ext.cell g4;have G6:=Ext.cell g6;have Q0:=Ext.cell q0;have Q1:=Ext.cell q1;have X3:=Ext.cell x3;clear g4 g6 q0 q1 x3;generalize s.swept=sw at *;generalize D.phase=ph at *
 by_cases c1:ph=4
 case neg =>
  have n:=Z0 (IsB.no (P:=P) fun h=>c1 (hP.out.1 h).1);have d1:(ph == 4)=false:=beq_eq_false_iff_ne.2 c1;clear hP c1;refine Y6 (Below.refl _ _) (by kernel_rfl) (by kernel_rfl) ?_
  repeat (go_big_quiet_step ((fail)))
  refine wpQuiet_nil ?_;intro _ hw';obtain⟨x9,hw''⟩:=hw';subst hw'';go_wp2_with fail;go_ret;exact⟨n.out,Z7 bb'.out x9.below⟩
 subst c1
 cases sw
 case true =>
  have n:=Z0 (IsB.no (P:=P) fun h=>by have:=(hP.out.1 h).2.1;cases this);clear hP;refine Y6 (Below.refl _ _) (by kernel_rfl) (by kernel_rfl) ?_
  repeat (go_big_quiet_step ((fail)))
  refine wpQuiet_nil ?_;intro _ hw';obtain⟨x9,hw''⟩:=hw';subst hw'';go_wp2_with fail;go_ret;exact⟨n.out,Z7 bb'.out x9.below⟩
 have n:=Z0 (show IsB P (.returned (.bool (!mk)))from⟨_,rfl,by rw[hP.out];cases mk<;>simp⟩);clear hP;refine Y6 (Below.refl _ _) (by kernel_rfl) (by kernel_rfl) ?_
 repeat (go_big_quiet_step ((go_at_call 137;exact Ext.call (hcall.out _))))
 refine wpQuiet_nil ?_;intro _ hw';obtain⟨x9,hw''⟩:=hw';subst hw'';go_wp2_with fail;go_ret;exact⟨n.out,Z7 bb'.out x9.below⟩
def ObjP(D:WD)(P:Nat→Nat→Prop)(a:Int):Prop:=∃k j,R6 D a k j∧P k j
theorem ObjP.at_{D:WD}{P:Nat→Nat→Prop}(hF:Y5 D){a:Int}{k j:Nat}(ho:R6 D a k j):ObjP D P a↔P k j :=
 ⟨fun⟨k',j',ho',h⟩=>by obtain⟨rfl,rfl⟩:=ho'.unique hF ho;exact h,fun h=>⟨k,j,ho,h⟩⟩
theorem ObjP.no{D:WD}{P:Nat→Nat→Prop}{a:Int}(h:¬∃k j,R6 D a k j):¬ObjP D P a:=fun⟨k,j,ho,_⟩=>h ⟨k,j,ho⟩
theorem znd(V B g n:Nat)(M:DataW Unit)(v:Value)(D:WD)(hF:Y5 D)(addr:Int)(ha:I64 addr)(w:World)(hr:RdW w v D)(hB:BoxW w B v)(hv:U6 D w V B g n M) :
  Calls prog 129 #[.pointer (some ⟨V,0,none⟩),.int .i64 addr] w fun e w'=>IsB (ObjP D (U4 D) addr) e∧Below w.heap.size w w':=by
 have hF':=Z0 hF;have hr':=Z0 hr;have hB':=Z0 hB;have hv':=Z0 hv;have hkey:=Z0 (zid ha);have c0:=Z6 hv.box 0 (.pointer (some ⟨B,0,none⟩)) rfl;have c1:=Z6 hv.box 1 (.map (some g)) rfl;clear hF hr hB hv ha
 by_cases hh:∃k j,R6 D addr k j
 ·obtain⟨k,j,ho⟩:=hh
  obtain⟨s,hks,hin,p0,p1⟩:=L6 hF'.out ho;have hk:=Z0 (show F0 D.spans.length 0 k j from .inl (List.getElem?_eq_some_iff.1 hks).1);have h1:=Z0 ((hv'.out.is.has addr).2 ⟨k,j,hk.out,ho⟩);have h2:=Z0 (hv'.out.is.is addr k j (dat 0 0) hk.out ho);obtain⟨mk,hmk⟩:=E0 (U4 D k j);have hcall:=Z0 (fun(w':World) (hb:Below w.heap.size w w')=>(zgi B v D k j s hks (zex.mk16 hF'.out hks hin.j) w' (hr'.out.below hb) (hB'.out.below hb)).mono fun e w'' ⟨h1,h2⟩=>(⟨h1.at_ mk hmk,h2⟩:e=Ending.returned (.bool mk)∧Below w'.heap.size w' w''));have y:=Z0 (show IsB (ObjP D (U4 D) addr) (.returned (.bool mk))from⟨_,rfl,by rw[ObjP.at_ hF'.out ho,←hmk]⟩);have bb:=Y2 w (.cells #[.int .i64 k,.int .i64 j] 150);have bx:=Y8 w (.cells #[.int .i64 k,.int .i64 j] 150);have d0:=Z0 (Y3 bb c0);have q0:=Z0 (Z6 bx 0 (.int .i64 k) rfl);have q1:=Z0 (Z6 bx 1 (.int .i64 j) rfl);have bb':=Z0 bb;clear ho hks hin p0 p1 bb bx hmk;go_enter func129,ntmps129;go_wp2_with (at_lookup;refine N5 _ rfl rfl _ _ rfl g n M rfl hv'.out.own _ _ rfl hkey.out true h1.out (k:Int) (j:Int) h2.out ?_);go_upto_region 2 with fail;clear c0 c1;generalize w.alloc (.cells #[.int .i64 k,.int .i64 j] 150)=W at *;have D0:=Ext.cell d0.out;have Q0:=Ext.cell q0.out;have Q1:=Ext.cell q1.out;refine Y6 (Below.refl _ _) (by kernel_rfl) (by kernel_rfl) ?_
  repeat (go_big_quiet_step ((go_at_call 137;exact Ext.call (hcall.out _ (Z7 bb'.out (Ext.below _))))))
  refine wpQuiet_nil ?_;intro _ hw';obtain⟨x9,hw''⟩:=hw';subst hw'';go_wp2_with fail;go_ret;exact⟨y.out,Z7 bb'.out x9.below⟩
 ·have h1:=Z0 (show Maps.has M (.int .i64 addr)=false from by
   cases h:Maps.has M (.int .i64 addr)
   ·rfl
   ·obtain⟨k,j,_,ho⟩:=(hv'.out.is.has addr).1 h
    exact absurd ⟨k,j,ho⟩ hh)
  have h2:=Z0 (show M.atKey (.int .i64 addr) (dat 0 0)=dat 0 0 from Maps.atKey_of_not_has h1.out _);have y:=Z0 (IsB.no (ObjP.no hh:¬ObjP D (U4 D) addr));have bb':=Z0 (Y2 w (.cells #[.int .i64 0,.int .i64 0] 150));clear hh;go_enter func129,ntmps129;go_wp2_with (at_lookup;refine N5 _ rfl rfl _ _ rfl g n M rfl hv'.out.own _ _ rfl hkey.out false h1.out 0 0 h2.out ?_);go_upto_region 2 with fail;clear c0 c1;generalize w.alloc (.cells #[.int .i64 0,.int .i64 0] 150)=W at *;refine Y6 (Below.refl _ _) (by kernel_rfl) (by kernel_rfl) ?_
  repeat (go_big_quiet_step ((fail)))
  refine wpQuiet_nil ?_;intro _ hw';obtain⟨x9,hw''⟩:=hw';subst hw'';go_wp2_with fail;go_ret;exact⟨y.out,Z7 bb'.out x9.below⟩
theorem zuy(V B g n:Nat)(M:DataW Unit)(v:Value)(D:WD)(hF:Y5 D)(addr:Int)(ha:I64 addr)(w:World)(hr:RdW w v D)(hB:BoxW w B v)(hv:U6 D w V B g n M) :
  Calls prog 126 #[.pointer (some ⟨V,0,none⟩),.int .i64 addr] w fun e w'=>IsB (ObjP D (fun k j=>¬zei D k j) addr) e∧Below w.heap.size w w':=by
 have hF':=Z0 hF;have hr':=Z0 hr;have hB':=Z0 hB;have hv':=Z0 hv;have hkey:=Z0 (zid ha);have c0:=Z6 hv.box 0 (.pointer (some ⟨B,0,none⟩)) rfl;have c1:=Z6 hv.box 1 (.map (some g)) rfl;clear hF hr hB hv ha
 by_cases hh:∃k j,R6 D addr k j
 ·obtain⟨k,j,ho⟩:=hh
  obtain⟨s,hks,hin,p0,p1⟩:=L6 hF'.out ho;have hk:=Z0 (show F0 D.spans.length 0 k j from .inl (List.getElem?_eq_some_iff.1 hks).1);have h1:=Z0 ((hv'.out.is.has addr).2 ⟨k,j,hk.out,ho⟩);have h2:=Z0 (hv'.out.is.is addr k j (dat 0 0) hk.out ho);obtain⟨mk,hmk⟩:=E0 (zei D k j);have hcall:=Z0 (fun(w':World) (hb:Below w.heap.size w w')=>(zns B v D k j s hks (zex.mk16 hF'.out hks hin.j) w' (hr'.out.below hb) (hB'.out.below hb)).mono fun e w'' ⟨h1,h2⟩=>(⟨h1.at_ mk hmk,h2⟩:e=Ending.returned (.bool mk)∧Below w'.heap.size w' w''));have y:=Z0 (show IsB (ObjP D (fun k j=>¬zei D k j) addr) (.returned (.bool (!mk)))from⟨_,rfl,by rw[ObjP.at_ hF'.out ho,←hmk];cases mk<;>simp⟩);have bb:=Y2 w (.cells #[.int .i64 k,.int .i64 j] 150);have bx:=Y8 w (.cells #[.int .i64 k,.int .i64 j] 150);have d0:=Z0 (Y3 bb c0);have q0:=Z0 (Z6 bx 0 (.int .i64 k) rfl);have q1:=Z0 (Z6 bx 1 (.int .i64 j) rfl);have bb':=Z0 bb;clear ho hks hin p0 p1 bb bx hmk;go_enter func126,ntmps126;go_wp2_with (at_lookup;refine N5 _ rfl rfl _ _ rfl g n M rfl hv'.out.own _ _ rfl hkey.out true h1.out (k:Int) (j:Int) h2.out ?_);go_upto_region 2 with fail;clear c0 c1;generalize w.alloc (.cells #[.int .i64 k,.int .i64 j] 150)=W at *;have D0:=Ext.cell d0.out;have Q0:=Ext.cell q0.out;have Q1:=Ext.cell q1.out;refine Y6 (Below.refl _ _) (by kernel_rfl) (by kernel_rfl) ?_
  repeat (go_big_quiet_step ((go_at_call 127;exact Ext.call (hcall.out _ (Z7 bb'.out (Ext.below _))))))
  refine wpQuiet_nil ?_;intro _ hw';obtain⟨x9,hw''⟩:=hw';subst hw'';go_wp2_with fail;go_ret;exact⟨y.out,Z7 bb'.out x9.below⟩
 ·have h1:=Z0 (show Maps.has M (.int .i64 addr)=false from by
   cases h:Maps.has M (.int .i64 addr)
   ·rfl
   ·obtain⟨k,j,_,ho⟩:=(hv'.out.is.has addr).1 h
    exact absurd ⟨k,j,ho⟩ hh)
  have h2:=Z0 (show M.atKey (.int .i64 addr) (dat 0 0)=dat 0 0 from Maps.atKey_of_not_has h1.out _);have y:=Z0 (IsB.no (ObjP.no hh:¬ObjP D (fun k j=>¬zei D k j) addr));have bb':=Z0 (Y2 w (.cells #[.int .i64 0,.int .i64 0] 150));clear hh;go_enter func126,ntmps126;go_wp2_with (at_lookup;refine N5 _ rfl rfl _ _ rfl g n M rfl hv'.out.own _ _ rfl hkey.out false h1.out 0 0 h2.out ?_);go_upto_region 2 with fail;clear c0 c1;generalize w.alloc (.cells #[.int .i64 0,.int .i64 0] 150)=W at *;refine Y6 (Below.refl _ _) (by kernel_rfl) (by kernel_rfl) ?_
  repeat (go_big_quiet_step ((fail)))
  refine wpQuiet_nil ?_;intro _ hw';obtain⟨x9,hw''⟩:=hw';subst hw'';go_wp2_with fail;go_ret;exact⟨y.out,Z7 bb'.out x9.below⟩
end Go.Proofs.YtjjamgeoompbkaaGreat
