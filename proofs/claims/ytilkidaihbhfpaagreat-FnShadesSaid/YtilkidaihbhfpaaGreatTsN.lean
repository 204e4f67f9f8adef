import Derived.Test.YtilkidaihbhfpaaGreatTsA
import Derived.Test.YtilkidaihbhfpaaGreatTsQ
import Derived.Lib.SlicesCompact
import Derived.Lib.SlKeysI
import Derived.Test.YtilkidaihbhfpaaGreatTsP

set_option maxRecDepth 100000
set_option maxHeartbeats 16000000
namespace Go.Proofs.YtilkidaihbhfpaaGreat
open Go.RowKit
open Go.Maps (Keyed)
set_option linter.unusedVariables false
def flag (b:Bool):DataW Unit:=.lit (.bool b)
def zfz:Value→Option (DataW Unit × List MemPlace)
 | .bool b=>some (flag b,[])
 | _=>none
theorem zhy (b:Bool):zfz (.bool b)=some (flag b,[]):=rfl
theorem zrk {v:Value} {z:DataW Unit × List MemPlace} (h:zfz v=some z):∃ b,v=.bool b∧z=(flag b,[]):=by
 unfold zfz at h
 split at h
 ·cases h
  exact ⟨_,rfl,rfl⟩
 ·cases h
theorem flag_inj {a b:Bool} (h:flag a=flag b):a=b:=by simpa [flag] using h
theorem zzv (w:World):(zeroValue 4).run Tryz.prog w=.ok (.bool false) w:=by kernel_rfl
def OwnB (w:World) (g n:Nat) (M:DataW Unit):Prop:=w.ownsMap Tryz.prog 3 zfz g n M
theorem OwnB.below {w w':World} {g n:Nat} {M:DataW Unit} (h:OwnB w g n M) (hb:Below w.heap.size w w'):OwnB w' g n M:=World.ownsMap.kept h (N3 hb) (by simp)
theorem OwnB.lt {w:World} {g n:Nat} {M:DataW Unit} (h:OwnB w g n M):g<w.heap.size:=World.ownsMap.lt h
theorem OwnB.ne_row {w:World} {g n base size k:Nat} {e:TypeId} {v:Value} {xs:List Value} {M:DataW Unit} (h:OwnB w g n M) (hr:w.ownsRow base e size v k xs):v.ownBlock≠some g:=by
 intro hq
 obtain ⟨es,clock,hb,_⟩:=h
 rcases hr.2 with ⟨rfl,_⟩ | ⟨g',cap,cur,rfl,_,hg,_⟩
 ·simp [Value.ownBlock] at hq
 ·simp [Value.ownBlock] at hq
  subst hq
  rw [hb] at hg
  cases hg
structure zke (M:DataW Unit) (S:List Int):Prop where
 isMap:Maps.IsMap M
 has:∀ a:Int,Maps.has M (.int .i64 a)=true↔a ∈ S
 is:∀ (a:Int) (z:DataW Unit),a ∈ S→M.atKey (.int .i64 a) z=flag true
theorem zke.zero:zke (.map []) [] :=
 ⟨Maps.isMap_empty,fun a=>⟨fun h=>by simp [Maps.has_eq] at h,fun h=>by simp at h⟩,fun a z h=>by simp at h⟩
theorem zke.put {M:DataW Unit} {S:List Int} (h:zke M S) (x:Int):zke (M.put (.int .i64 x) (flag true)) (x :: S):=by
 have lit:∀ a:Int,a≠x→(Lit.int .i64 a)≠(Lit.int .i64 x):=fun a hne e=>hne (by simpa using e)
 refine ⟨h.isMap.put _ _,fun a=>?_,fun a z ha=>?_⟩
 ·by_cases e:a=x
  ·subst e
   rw [Maps.has_put_same h.isMap (isKey _)]
   simp
  ·rw [Maps.has_put_other (lit a e),h.has a]
   simp [e]
 ·by_cases e:a=x
  ·subst e
   rw [Maps.atKey_put_same h.isMap (isKey _)]
  ·rw [Maps.atKey_put_other (lit a e)]
   exact h.is a z (by simpa [e] using ha)
theorem zke.look {M:DataW Unit} {S:List Int} (h:zke M S) (a:Int):M.atKey (.int .i64 a) (flag false)=flag (decide (a ∈ S)):=by
 by_cases e:a ∈ S
 ·rw [h.is a _ e]
  simp [e]
 ·rw [Maps.atKey_of_not_has (by
   cases hh:Maps.has M (.int .i64 a)
   ·rfl
   ·exact absurd ((h.has a).1 hh) e)]
  simp [e]
theorem zjl {w:World} {g n:Nat} {M:DataW Unit} (hown:OwnB w g n M) {x:Int} (hkey:keyOf Tryz.prog 3 (.int .i64 x)=some (.int .i64 x)) {c:Bool} (hc:M.atKey (.int .i64 x) (flag false)=flag c) :
  (Instr.lookup 64 (.map (some g)) (.int .i64 x) false).run Tryz.prog w=.ok (.bool c) w:=by
 obtain ⟨v,ps,hrun,hv⟩:=World.ownsMap.lookup hown zjt Tryz.underlying64 (zzv w) (zhy false) hkey
 obtain ⟨d,rfl,he⟩:=zrk hv
 have e:=congrArg Prod.fst he
 simp only at e
 rw [hc] at e
 obtain rfl:=flag_inj e
 exact hrun
end Go.Proofs.YtilkidaihbhfpaaGreat
namespace Go.Proofs.YtilkidaihbhfpaaGreat
open Go.RowKit
set_option linter.unusedVariables false
end Go.Proofs.YtilkidaihbhfpaaGreat
namespace Go.Proofs.YtilkidaihbhfpaaGreat
open Go.RowKit
open Go.Maps (Keyed)
set_option linter.unusedVariables false
theorem and_bit (m:Int) (j:Nat) (h0:0≤m) (h1:m≤9223372036854775807) (hj:j≤16):bits .and .i64 m ((2:Int) ^ j)≠0↔bitI m j:=by
 obtain ⟨n,rfl⟩:=Int.eq_ofNat_of_zero_le h0
 have h2:=zod hj
 have e:((2:Int) ^ j)=((2 ^ j:Nat):Int):=by simp
 rw [zgj,e]
 have e2:bits .and .i64 (n:Int) ((2 ^ j:Nat):Int)=((n &&& 2 ^ j:Nat):Int):=by
  show IntKind.i64.wrap ((BitVec.ofInt 64 (n:Int) &&& BitVec.ofInt 64 ((2 ^ j:Nat):Int)).toNat:Nat)=_
  rw [BitVec.toNat_and,N6 _ (by omega),N6 _ (by omega),IntKind.wrap_i64]
  have:=Nat.and_le_right (n:=n) (m:=2 ^ j)
  omega
 have e3:n &&& 2 ^ j≠0↔n.testBit j=true:=by
  constructor
  ·intro h
   cases ht:n.testBit j
   ·exfalso
    apply h
    apply Nat.eq_of_testBit_eq
    intro i
    rw [Nat.testBit_and,Nat.testBit_two_pow,Nat.zero_testBit]
    by_cases e:j=i
    ·subst e
     simp [ht]
    ·simp [e]
   ·rfl
  ·intro ht h
   have:=congrArg (fun x=>x.testBit j) h
   simp [Nat.testBit_and,ht] at this
 rw [e2,← e3]
 omega
theorem zev.mk16 {D:WD} {s:Y3} {k j:Nat} (hF:Z8 D) (hs:D.spans[k]?=some s) (hj:j<s.lens.length):0≤s.mark∧s.mark≤9223372036854775807∧j≤16:=by
 have A:=hF.span k s hs
 have h1:=A.lens
 have h2:=(E7 s.cls).2
 have h3:=A.mk1
 have h4:=zod (k:=s.lens.length) (by omega)
 have e:((2:Int) ^ s.lens.length)=((2 ^ s.lens.length:Nat):Int):=by simp
 rw [e] at h3
 exact ⟨A.mk0,by omega,by omega⟩
theorem zfe (B:Nat) (v:Value) (D:WD) (k j:Nat) (s:Y3) (hks:D.spans[k]?=some s) (hm:0≤s.mark∧s.mark≤9223372036854775807∧j≤16) (w:World) (hr:RdW w v D) (hB:BoxW w B v) :
  Calls Tryz.prog 109 #[.pointer (some ⟨B,0,none⟩),.agg #[.int .i64 k,.int .i64 j]] w fun e w'=>IsB (V2 D k j) e∧Below w.heap.size w w':=by
 obtain ⟨vw,vd,vs,vm,vg,rfl,a1,a2,a3,a4,a5⟩:=hr
 obtain ⟨aS,cS,rfl,hsl,hx⟩:=a3
 obtain ⟨b1,o1,rfl,hrs⟩:=hx k s hks
 have bb:=Z5 w (.cells #[.int .i64 k,.int .i64 j] 58)
 have bx:=Y6 w (.cells #[.int .i64 k,.int .i64 j] 58)
 obtain ⟨vl,vp,x0,x1,x2,x3,x4,x5,xl,xp⟩:=hrs.below bb
 have g4:=Z7 bb (hB.cell 4 _ rfl)
 have q0:=Z0 bx 0 _ rfl
 have q1:=Z0 bx 1 _ rfl
 have hkl1:(k:Int)<(D.spans.length:Int):=by have:=(List.getElem?_eq_some_iff.1 hks).1;omega
 have y:=zaa (show ∀ r:Bool,r=(bits BinOp.and IntKind.i64 s.mark (2 ^ j) != 0)→IsB (V2 D k j) (.returned (.bool r)) from fun r hr=>⟨_,rfl,by rw [hr,bne_iff_ne,and_bit _ _ hm.1 hm.2.1 hm.2.2,V2.iff hks]⟩)
 have hj16:=hm.2.2
 have hcall:=zaa (fun (w:World)=>zhw j hj16 w)
 have bb':=zaa bb
 clear a1 a2 a4 a5 hB hx xl xp x0 x1 x3 x4 x5 hks hrs bb bx hm
 go_enter Tryz.func109,Tryz.ntmps109
 go_upto_region 1 with fail
 generalize w.alloc (.cells #[.int .i64 k,.int .i64 j] 58)=W at *
 go_quiet ((go_at_call 112;exact Calls.quiet_of_same ((hcall.out _).mono fun _ _ ⟨a,b⟩=>⟨a,b.symm⟩)))
 go_wp2_with fail
 go_ret
 exact ⟨y.out _ rfl,below_drewN bb'.out _⟩
end Go.Proofs.YtilkidaihbhfpaaGreat
namespace Go.Proofs.YtilkidaihbhfpaaGreat
open Go.RowKit
open Go.Maps (Keyed)
set_option linter.unusedVariables false
open Classical in
theorem J5 (P:Prop):∃ d:Bool,d=true↔P:=⟨decide P,by simp⟩
theorem znn (B:Nat) (v:Value) (D:WD) (k j:Nat) (s:Y3) (hks:D.spans[k]?=some s) (hm:0≤s.mark∧s.mark≤9223372036854775807∧j≤16) (w:World) (hr:RdW w v D) (hB:BoxW w B v) :
  Calls Tryz.prog 58 #[.pointer (some ⟨B,0,none⟩),.agg #[.int .i64 k,.int .i64 j]] w fun e w'=>IsB (C9 D k j) e∧Below w.heap.size w w':=by
 have bb:=Z5 w (.cells #[.int .i64 k,.int .i64 j] 58)
 have bx:=Y6 w (.cells #[.int .i64 k,.int .i64 j] 58)
 obtain ⟨mk,hmk⟩:=J5 (V2 D k j)
 have hcall:=zaa (fun (x:Ext (w.alloc (.cells #[.int .i64 k,.int .i64 j] 58)))=>(zfe B v D k j s hks hm x.val ((hr.below bb).below x.below) ((hB.below bb).below x.below)).mono fun e w' ⟨h1,h2⟩=>(⟨h1.at_ mk hmk,h2⟩:e=Ending.returned (.bool mk)∧Below x.val.heap.size x.val w'))
 obtain ⟨vw,vd,vs,vm,vg,rfl,a1,a2,a3,a4,a5⟩:=hr
 obtain ⟨aS,cS,rfl,hsl,hx⟩:=a3
 obtain ⟨b1,o1,rfl,hrs⟩:=hx k s hks
 obtain ⟨vl,vp,x0,x1,x2,x3,x4,x5,xl,xp⟩:=hrs.below bb
 have g4:=Z7 bb (hB.cell 4 _ rfl)
 have g6:=Z7 bb (hB.cell 6 _ rfl)
 have q0:=Z0 bx 0 _ rfl
 have q1:=Z0 bx 1 _ rfl
 have hkl1:(k:Int)<(D.spans.length:Int):=by have:=(List.getElem?_eq_some_iff.1 hks).1;omega
 have hP:=zaa (show C9 D k j↔(D.phase=4∧s.swept=false∧mk=false) from by rw [C9.iff hks,← V2.iff hks,← hmk];simp)
 have bb':=zaa bb
 clear a1 a2 a4 a5 hB hx xl xp x0 x1 x2 x4 x5 hks hrs bb bx hm hmk hsl
 generalize C9 D k j=P at *
 go_enter Tryz.func58,Tryz.ntmps58
 go_upto_region 1 with fail
 generalize w.alloc (.cells #[.int .i64 k,.int .i64 j] 58)=W at *
 have G4:=Ext.cell g4
 have G6:=Ext.cell g6
 have Q0:=Ext.cell q0
 have Q1:=Ext.cell q1
 have X3:=Ext.cell x3
 clear g4 g6 q0 q1 x3
 generalize s.swept=sw at *
 generalize D.phase=ph at *
 by_cases c1:ph=4
 case neg =>
  have n:=zaa (IsB.no (P:=P) fun h=>c1 (hP.out.1 h).1)
  have d1:(ph == 4)=false:=beq_eq_false_iff_ne.2 c1
  clear hP c1
  refine Y5 (Below.refl _ _) (by kernel_rfl) (by kernel_rfl) ?_
  repeat (go_big_quiet_step ((fail)))
  refine wpQuiet_nil ?_
  intro _ hw'
  obtain ⟨x9,hw''⟩:=hw'
  subst hw''
  go_wp2_with fail
  go_ret
  exact ⟨n.out,Z4 bb'.out x9.below⟩
 subst c1
 cases sw
 case true =>
  have n:=zaa (IsB.no (P:=P) fun h=>by have:=(hP.out.1 h).2.1;cases this)
  clear hP
  refine Y5 (Below.refl _ _) (by kernel_rfl) (by kernel_rfl) ?_
  repeat (go_big_quiet_step ((fail)))
  refine wpQuiet_nil ?_
  intro _ hw'
  obtain ⟨x9,hw''⟩:=hw'
  subst hw''
  go_wp2_with fail
  go_ret
  exact ⟨n.out,Z4 bb'.out x9.below⟩
 have n:=zaa (show IsB P (.returned (.bool (!mk))) from ⟨_,rfl,by rw [hP.out];cases mk <;> simp⟩)
 clear hP
 refine Y5 (Below.refl _ _) (by kernel_rfl) (by kernel_rfl) ?_
 repeat (go_big_quiet_step ((go_at_call 109;exact Ext.call (hcall.out _))))
 refine wpQuiet_nil ?_
 intro _ hw'
 obtain ⟨x9,hw''⟩:=hw'
 subst hw''
 go_wp2_with fail
 go_ret
 exact ⟨n.out,Z4 bb'.out x9.below⟩
def ObjP (D:WD) (P:Nat→Nat→Prop) (a:Int):Prop:=∃ k j,U3 D a k j∧P k j
theorem ObjP.at_ {D:WD} {P:Nat→Nat→Prop} (hF:Z8 D) {a:Int} {k j:Nat} (ho:U3 D a k j):ObjP D P a↔P k j :=
 ⟨fun ⟨k',j',ho',h⟩=>by obtain ⟨rfl,rfl⟩:=ho'.unique hF ho;exact h,fun h=>⟨k,j,ho,h⟩⟩
theorem ObjP.no {D:WD} {P:Nat→Nat→Prop} {a:Int} (h:¬ ∃ k j,U3 D a k j):¬ ObjP D P a:=fun ⟨k,j,ho,_⟩=>h ⟨k,j,ho⟩
theorem znd (V B g n:Nat) (M:DataW Unit) (v:Value) (D:WD) (hF:Z8 D) (addr:Int) (ha:I64 addr) (w:World) (hr:RdW w v D) (hB:BoxW w B v) (hv:M4 D w V B g n M) :
  Calls Tryz.prog 138 #[.pointer (some ⟨V,0,none⟩),.int .i64 addr] w fun e w'=>IsB (ObjP D (V2 D) addr) e∧Below w.heap.size w w':=by
 have hF':=zaa hF
 have hr':=zaa hr
 have hB':=zaa hB
 have hv':=zaa hv
 have hkey:=zaa (zir ha)
 have c0:=Z0 hv.box 0 (.pointer (some ⟨B,0,none⟩)) rfl
 have c1:=Z0 hv.box 1 (.map (some g)) rfl
 clear hF hr hB hv ha
 by_cases hh:∃ k j,U3 D addr k j
 ·obtain ⟨k,j,ho⟩:=hh
  obtain ⟨s,hks,hin,p0,p1⟩:=N0 hF'.out ho
  have hk:=zaa (show L6 D.spans.length 0 k j from .inl (List.getElem?_eq_some_iff.1 hks).1)
  have h1:=zaa ((hv'.out.is.has addr).2 ⟨k,j,hk.out,ho⟩)
  have h2:=zaa (hv'.out.is.is addr k j (dat 0 0) hk.out ho)
  obtain ⟨mk,hmk⟩:=J5 (V2 D k j)
  have hcall:=zaa (fun (w':World) (hb:Below w.heap.size w w')=>(zfe B v D k j s hks (zev.mk16 hF'.out hks hin.j) w' (hr'.out.below hb) (hB'.out.below hb)).mono fun e w'' ⟨h1,h2⟩=>(⟨h1.at_ mk hmk,h2⟩:e=Ending.returned (.bool mk)∧Below w'.heap.size w' w''))
  have y:=zaa (show IsB (ObjP D (V2 D) addr) (.returned (.bool mk)) from ⟨_,rfl,by rw [ObjP.at_ hF'.out ho,← hmk]⟩)
  have bb:=Z5 w (.cells #[.int .i64 k,.int .i64 j] 58)
  have bx:=Y6 w (.cells #[.int .i64 k,.int .i64 j] 58)
  have d0:=zaa (Z7 bb c0)
  have q0:=zaa (Z0 bx 0 (.int .i64 k) rfl)
  have q1:=zaa (Z0 bx 1 (.int .i64 j) rfl)
  have bb':=zaa bb
  clear ho hks hin p0 p1 bb bx hmk
  go_enter Tryz.func138,Tryz.ntmps138
  go_wp2_with (at_lookup;refine P4 _ rfl rfl _ _ rfl g n M rfl hv'.out.own _ _ rfl hkey.out true h1.out (k:Int) (j:Int) h2.out ?_)
  go_upto_region 2 with fail
  clear c0 c1
  generalize w.alloc (.cells #[.int .i64 k,.int .i64 j] 58)=W at *
  have D0:=Ext.cell d0.out
  have Q0:=Ext.cell q0.out
  have Q1:=Ext.cell q1.out
  refine Y5 (Below.refl _ _) (by kernel_rfl) (by kernel_rfl) ?_
  repeat (go_big_quiet_step ((go_at_call 109;exact Ext.call (hcall.out _ (Z4 bb'.out (Ext.below _))))))
  refine wpQuiet_nil ?_
  intro _ hw'
  obtain ⟨x9,hw''⟩:=hw'
  subst hw''
  go_wp2_with fail
  go_ret
  exact ⟨y.out,Z4 bb'.out x9.below⟩
 ·have h1:=zaa (show Maps.has M (.int .i64 addr)=false from by
   cases h:Maps.has M (.int .i64 addr)
   ·rfl
   ·obtain ⟨k,j,_,ho⟩:=(hv'.out.is.has addr).1 h
    exact absurd ⟨k,j,ho⟩ hh)
  have h2:=zaa (show M.atKey (.int .i64 addr) (dat 0 0)=dat 0 0 from Maps.atKey_of_not_has h1.out _)
  have y:=zaa (IsB.no (ObjP.no hh:¬ ObjP D (V2 D) addr))
  have bb':=zaa (Z5 w (.cells #[.int .i64 0,.int .i64 0] 58))
  clear hh
  go_enter Tryz.func138,Tryz.ntmps138
  go_wp2_with (at_lookup;refine P4 _ rfl rfl _ _ rfl g n M rfl hv'.out.own _ _ rfl hkey.out false h1.out 0 0 h2.out ?_)
  go_upto_region 2 with fail
  clear c0 c1
  generalize w.alloc (.cells #[.int .i64 0,.int .i64 0] 58)=W at *
  refine Y5 (Below.refl _ _) (by kernel_rfl) (by kernel_rfl) ?_
  repeat (go_big_quiet_step ((fail)))
  refine wpQuiet_nil ?_
  intro _ hw'
  obtain ⟨x9,hw''⟩:=hw'
  subst hw''
  go_wp2_with fail
  go_ret
  exact ⟨y.out,Z4 bb'.out x9.below⟩
theorem zuo (V B g n:Nat) (M:DataW Unit) (v:Value) (D:WD) (hF:Z8 D) (addr:Int) (ha:I64 addr) (w:World) (hr:RdW w v D) (hB:BoxW w B v) (hv:M4 D w V B g n M) :
  Calls Tryz.prog 137 #[.pointer (some ⟨V,0,none⟩),.int .i64 addr] w fun e w'=>IsB (ObjP D (fun k j=>¬ C9 D k j) addr) e∧Below w.heap.size w w':=by
 have hF':=zaa hF
 have hr':=zaa hr
 have hB':=zaa hB
 have hv':=zaa hv
 have hkey:=zaa (zir ha)
 have c0:=Z0 hv.box 0 (.pointer (some ⟨B,0,none⟩)) rfl
 have c1:=Z0 hv.box 1 (.map (some g)) rfl
 clear hF hr hB hv ha
 by_cases hh:∃ k j,U3 D addr k j
 ·obtain ⟨k,j,ho⟩:=hh
  obtain ⟨s,hks,hin,p0,p1⟩:=N0 hF'.out ho
  have hk:=zaa (show L6 D.spans.length 0 k j from .inl (List.getElem?_eq_some_iff.1 hks).1)
  have h1:=zaa ((hv'.out.is.has addr).2 ⟨k,j,hk.out,ho⟩)
  have h2:=zaa (hv'.out.is.is addr k j (dat 0 0) hk.out ho)
  obtain ⟨mk,hmk⟩:=J5 (C9 D k j)
  have hcall:=zaa (fun (w':World) (hb:Below w.heap.size w w')=>(znn B v D k j s hks (zev.mk16 hF'.out hks hin.j) w' (hr'.out.below hb) (hB'.out.below hb)).mono fun e w'' ⟨h1,h2⟩=>(⟨h1.at_ mk hmk,h2⟩:e=Ending.returned (.bool mk)∧Below w'.heap.size w' w''))
  have y:=zaa (show IsB (ObjP D (fun k j=>¬ C9 D k j) addr) (.returned (.bool (!mk))) from ⟨_,rfl,by rw [ObjP.at_ hF'.out ho,← hmk];cases mk <;> simp⟩)
  have bb:=Z5 w (.cells #[.int .i64 k,.int .i64 j] 58)
  have bx:=Y6 w (.cells #[.int .i64 k,.int .i64 j] 58)
  have d0:=zaa (Z7 bb c0)
  have q0:=zaa (Z0 bx 0 (.int .i64 k) rfl)
  have q1:=zaa (Z0 bx 1 (.int .i64 j) rfl)
  have bb':=zaa bb
  clear ho hks hin p0 p1 bb bx hmk
  go_enter Tryz.func137,Tryz.ntmps137
  go_wp2_with (at_lookup;refine P4 _ rfl rfl _ _ rfl g n M rfl hv'.out.own _ _ rfl hkey.out true h1.out (k:Int) (j:Int) h2.out ?_)
  go_upto_region 2 with fail
  clear c0 c1
  generalize w.alloc (.cells #[.int .i64 k,.int .i64 j] 58)=W at *
  have D0:=Ext.cell d0.out
  have Q0:=Ext.cell q0.out
  have Q1:=Ext.cell q1.out
  refine Y5 (Below.refl _ _) (by kernel_rfl) (by kernel_rfl) ?_
  repeat (go_big_quiet_step ((go_at_call 58;exact Ext.call (hcall.out _ (Z4 bb'.out (Ext.below _))))))
  refine wpQuiet_nil ?_
  intro _ hw'
  obtain ⟨x9,hw''⟩:=hw'
  subst hw''
  go_wp2_with fail
  go_ret
  exact ⟨y.out,Z4 bb'.out x9.below⟩
 ·have h1:=zaa (show Maps.has M (.int .i64 addr)=false from by
   cases h:Maps.has M (.int .i64 addr)
   ·rfl
   ·obtain ⟨k,j,_,ho⟩:=(hv'.out.is.has addr).1 h
    exact absurd ⟨k,j,ho⟩ hh)
  have h2:=zaa (show M.atKey (.int .i64 addr) (dat 0 0)=dat 0 0 from Maps.atKey_of_not_has h1.out _)
  have y:=zaa (IsB.no (ObjP.no hh:¬ ObjP D (fun k j=>¬ C9 D k j) addr))
  have bb':=zaa (Z5 w (.cells #[.int .i64 0,.int .i64 0] 58))
  clear hh
  go_enter Tryz.func137,Tryz.ntmps137
  go_wp2_with (at_lookup;refine P4 _ rfl rfl _ _ rfl g n M rfl hv'.out.own _ _ rfl hkey.out false h1.out 0 0 h2.out ?_)
  go_upto_region 2 with fail
  clear c0 c1
  generalize w.alloc (.cells #[.int .i64 0,.int .i64 0] 58)=W at *
  refine Y5 (Below.refl _ _) (by kernel_rfl) (by kernel_rfl) ?_
  repeat (go_big_quiet_step ((fail)))
  refine wpQuiet_nil ?_
  intro _ hw'
  obtain ⟨x9,hw''⟩:=hw'
  subst hw''
  go_wp2_with fail
  go_ret
  exact ⟨y.out,Z4 bb'.out x9.below⟩
end Go.Proofs.YtilkidaihbhfpaaGreat
