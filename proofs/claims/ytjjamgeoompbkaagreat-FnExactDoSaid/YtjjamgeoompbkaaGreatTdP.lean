import Derived.Test.YtjjamgeoompbkaaGreatTdV

set_option maxRecDepth 100000
set_option maxHeartbeats 16000000
set_option linter.all false
namespace Go.Proofs.YtjjamgeoompbkaaGreat
open Go.RowKit
open Go.Proofs.Tryz
def nz(L:List Int):List Int:=L.filter fun x=>x != 0
theorem zyx{L:List Int}{k:Nat}(h:k<L.length)(hz:L[k]?.getD 0=0):nz (L.take (k+1))=nz (L.take k):=by
 have e:L[k]=0:=by simpa[List.getElem?_eq_getElem h]using hz
 unfold nz;rw[List.take_succ_eq_append_getElem h,List.filter_append,e];simp
theorem zyy{L:List Int}{k:Nat}(h:k<L.length)(hz:¬L[k]?.getD 0=0):nz (L.take (k+1))=nz (L.take k)++[L[k]?.getD 0]:=by
 have e:L[k]?.getD 0=L[k]:=by simp[List.getElem?_eq_getElem h]
 rw[e]at hz ⊢;unfold nz;rw[List.take_succ_eq_append_getElem h,List.filter_append];simp[hz]
theorem nz_le(L:List Int)(k:Nat):(nz (L.take k)).length≤k:=Nat.le_trans (List.length_filter_le _ _) (by rw[List.length_take];omega)
theorem zmg(a:Option Addr)(c:Nat)(L:List Int)(hl:L.length≤1048576)(w:World)(hr:Rd w (.slice a L.length c) L) :
  Calls prog 150 #[.slice a L.length c] w fun e w'=>∃v,e=.returned v∧w'.ownsRow w.heap.size 3 1 v (nz L).length ((nz L).map (Value.int .i64))∧Below w.heap.size w w':=by
 have hr':=Z0 hr;have hl':=Z0 hl;obtain⟨i0,hi,hz0,hz1,hz2⟩:=info_parts info3;clear hr;go_enter func150,ntmps150;go_wp2_with fail
 go_loopw [3,8] (fun v i wr=>∃k:Nat,k≤L.length∧i=.int .i64 k∧wr.ownsRow w.heap.size 3 1 v (nz (L.take k)).length ((nz (L.take k)).map (Value.int .i64))∧Below w.heap.size w wr) (fun v i _=>L.length-(intOf i).toNat)
 case atStart=>exact⟨0,Nat.zero_le _,rfl,World.ownsRow_nil _ _ _ _,Below.refl _ _⟩
 case round =>
  obtain⟨k,hk,rfl,hown,hB⟩:=hrel
  by_cases hlt:k<L.length
  ·obtain⟨a',c',he,hll,xl⟩:=hr'.out.below hB
   obtain⟨b,o,rfl,xj⟩:=xl k hlt;obtain⟨rfl,rfl⟩:some (⟨b,o,none⟩:Addr)=a∧c'=c:=by simp at he;exact⟨he.1.symm,he.2.symm⟩
   have hlt1:(k:Int)<(L.length:Int):=by omega
   clear he xl hll
   by_cases hz:L[k]?.getD 0=0
   ·have ho2:=Z0 (show wr.ownsRow w.heap.size 3 1 _ (nz (L.take (k+1))).length ((nz (L.take (k+1))).map (Value.int .i64)) by rw[zyx hlt hz];exact hown)
    rw[hz]at xj;have hB':=Z0 hB;clear hown hB hz;go_wp2_with fail
    go_roundw
    case rel=>exact⟨k+1,by omega,by go_num,ho2.out,hB'.out⟩
    case measure=>simp[intOf];omega
   ·have hBs:=hB.size
    have hle:=nz_le L k;have e2:=Z0 (zyy hlt hz);generalize L[k]?.getD 0=x at *;have hzb:(x == 0)=false:=beq_eq_false_iff_ne.2 hz;go_wp2_with (at_builtin;refine wpList_append_own _ rfl _ _ 22 rfl w.heap.size 3 i0 (.int .i64 0) 1 8 underlying22 hi hz0 hz1 hz2 rfl (by decide) _ _ _ rfl (hown.alloc _) ⟨wr.heap.size,0,none⟩ 1 1 [.int .i64 x] rfl rfl (zfh _ _ _) (by simp[Value.oneCell']) (by unfold maxLen;omega) (by omega) (by simp;omega) ?_;intro v' w1 hown' hgrow _);have hB':=zec (hB.alloc hBs _) (hown.alloc _) hgrow (by simp;omega);have ho2:w1.ownsRow w.heap.size 3 1 v' (nz (L.take (k+1))).length ((nz (L.take (k+1))).map (Value.int .i64)):=by rw[e2.out];simpa using hown'
    clear hown' hgrow hown hB hBs xj;go_wp2_with fail
    go_roundw
    case rel=>exact⟨k+1,by omega,by go_num,ho2,hB'⟩
    case measure=>simp[intOf];omega
  ·obtain rfl:k=L.length:=by omega
   rw[List.take_length]at hown;have hown':=Z0 hown;clear hown;go_wp2_with fail;go_ret;exact⟨_,rfl,hown'.out,hB⟩
def ptrW(D:WD)(s:Y7)(j:Nat):List Int:=(D.words.drop (atW s (j:Int)).toNat).take (s.ptrs[j]?.getD 0).toNat
theorem Rd.part{w:World}{b o c:Nat}{L:List Int}(h:Rd w (.slice (some ⟨b,o,none⟩) L.length c) L){lo n:Nat}(hle:lo+n≤L.length)(c':Nat):Rd w (.slice (some ⟨b,o+lo,none⟩) n c') ((L.drop lo).take n):=by
 obtain⟨a',c0,he,hm,hx⟩:=h;have hln:((L.drop lo).take n).length=n:=by simp;omega
 refine⟨some ⟨b,o+lo,none⟩,c',by rw[hln],by rw[hln];omega,fun j hj=>?_⟩;rw[hln]at hj;obtain⟨b',o',he',hc⟩:=hx (lo+j) (by omega)
 obtain⟨rfl,rfl⟩:b'=b∧o'=o:=by
  have:some (⟨b,o,none⟩:Addr)=some ⟨b',o',none⟩:=by simp at he;rw[he.1];exact he'
  simp at this;exact⟨this.1.symm,this.2.symm⟩
 refine⟨_,_,rfl,?_⟩;rw[show o'+lo+j=o'+(lo+j) by omega,hc];simp[List.getElem?_drop,hj]
def CapW(v:Value):Prop:=∀c0 c1 a n c c3 c4 c5 c6 c7 c8,v=.agg #[c0,c1,.slice a n c,c3,c4,c5,c6,c7,c8]→n≤c
theorem zil(B:Nat)(v:Value)(D:WD)(k j:Nat)(s:Y7)(hks:D.spans[k]?=some s)(hin:zex D s j)(hp0:0≤s.ptrs[j]?.getD 0)(hp1:s.ptrs[j]?.getD 0≤sz s.cls)(hcap:CapW v)(w:World)(hr:RdW w v D)(hB:BoxW w B v) :
  Calls prog 128 #[.pointer (some ⟨B,0,none⟩),.agg #[.int .i64 k,.int .i64 j]] w fun e w'=>∃A c,e=.returned (.slice A (ptrW D s j).length c)∧Rd w' (.slice A (ptrW D s j).length c) (ptrW D s j)∧(ptrW D s j).length≤16∧Below w.heap.size w w':=by
 obtain⟨vw,vd,vs,vm,vg,rfl,a1,a2,a3,a4,a5⟩:=hr;obtain⟨cs,he,hh⟩:=hB;obtain rfl:=(Value.agg.inj he).symm;obtain⟨aW,cW,rfl,hlw,xw⟩:=id a1;have hc:=hcap _ _ _ _ _ _ _ _ _ _ _ rfl;have hbd:=hin.bd;have hwd:=hin.words;have hpg:=hin.pg;have hpg0:=hin.pg0;have hpg1:=hin.pg1;obtain⟨bw,ow,rfl,_⟩:=xw 0 (by omega);obtain⟨aS,cS,rfl,hsl,hx⟩:=a3;obtain⟨b1,o1,rfl,hrs⟩:=hx k s hks;have bb:=Y2 w (.cells #[.int .i64 k,.int .i64 j] 150);have bx:=Y8 w (.cells #[.int .i64 k,.int .i64 j] 150);have hrs':=hrs.below bb;have hfw:=Z0 (fun(w':World) (h:zea w' b1 (o1+k*6) s)=>zdw b1 (o1+k*6) s (j:Int) (by omega) (by omega) (by omega) (by omega) w' h);have hrs2:=Z0 hrs';obtain⟨vl,vp,x0,x1,x2,x3,x4,x5,xl,xp⟩:=hrs';obtain⟨ap,cp,rfl,hpl,xp⟩:=xp;have hj:=hin.j;have hjp:j<s.ptrs.length:=by have:=hin.lens;have:=hin.ptrs;omega
 obtain⟨bp,op,rfl,xj⟩:=xp j hjp;have g4:=Y3 bb (Z6 hh 4 _ rfl);have g2:=Y3 bb (Z6 hh 2 _ rfl);have q0:=Z6 bx 0 _ rfl;have q1:=Z6 bx 1 _ rfl;have hkl1:(k:Int)<(D.spans.length:Int):=by have:=(List.getElem?_eq_some_iff.1 hks).1;omega
 have hjp1:(j:Int)<(s.ptrs.length:Int):=by omega
 obtain⟨A,hA⟩:=Int.eq_ofNat_of_zero_le hbd.1;obtain⟨P,hP⟩:=Int.eq_ofNat_of_zero_le hp0;have hsum:A+P≤D.words.length:=by omega
 have hA2:A+2≤D.words.length:=by omega
 have hP16:P≤16:=by omega
 have hpt:ptrW D s j=(D.words.drop A).take P:=by unfold ptrW;rw[hA,hP];rfl
 have hlen:((D.words.drop A).take P).length=P:=by simp;omega
 rw[hpt,hlen];have y:=Z0 (fun c'=>Rd.part a1 hsum c');have bb':=Z0 bb;rw[hP]at xj;rw[hA]at hfw;unfold maxLen at hlw hpl hsl;have e0:¬cW=A:=by omega
 have e1:IntKind.i64.wrap ((A:Int)+(P:Int))=(A:Int)+(P:Int):=IntWalk.i64_in _ (by omega);have e2:(A:Int)≤(A:Int)+(P:Int):=by omega
 have e3:(A:Int)+(P:Int)≤(cW:Int):=by omega
 have e4:(0:Int)≤(A:Int)+(P:Int):=by omega
 have e5:((A:Int)+(P:Int)).toNat=A+P:=by omega
 have hc':=Z0 hc;clear a1 a2 a4 a5 he hh xw hx hrs xl xp hbd hwd hpg hpg0 hpg1 hks hin hp0 hp1 hA hP hpt hlen hcap bb bx x0 x1 x2 x3 x4 hj hjp hsum hc hA2;go_enter func128,ntmps128;go_upto_region 1 with fail;generalize w.alloc (.cells #[.int .i64 k,.int .i64 j] 150)=W at *
 go_quiet (fail)
 go_wp2_with (go_at_call 123;refine(hfw.out _ ?_).mono ?_;(first|exact hrs2.out|exact hrs2.out.drewN 1);rintro e w'⟨rfl,dr⟩;obtain⟨m,rfl⟩:=dr)
 go_quiet (fail)
 go_wp2_with fail;go_ret;exact⟨_,_,rfl,(y.out _).below (below_drewN (below_drewN bb'.out _) _),hP16,below_drewN (below_drewN bb'.out _) _⟩
theorem ziu(B:Nat)(v:Value)(D:WD)(k j:Nat)(s:Y7)(hks:D.spans[k]?=some s)(hin:zex D s j)(hp0:0≤s.ptrs[j]?.getD 0)(hp1:s.ptrs[j]?.getD 0≤sz s.cls)(w:World)(hr:RdW w v D)(hB:BoxW w B v) :
  Calls prog 89 #[.pointer (some ⟨B,0,none⟩),.int .i64 k,.int .i64 j] w fun e w'=>∃u,e=.returned u∧w'.ownsRow w.heap.size 3 1 u (nz (ptrW D s j)).length ((nz (ptrW D s j)).map (Value.int .i64))∧Below w.heap.size w w':=by
 obtain⟨vw,vd,vs,vm,vg,rfl,a1,a2,a3,a4,a5⟩:=hr;obtain⟨cs,he,hh⟩:=hB;obtain rfl:=(Value.agg.inj he).symm;obtain⟨aW,cW,rfl,hlw,xw⟩:=id a1;have hbd:=hin.bd;have hwd:=hin.words;have hpg:=hin.pg;have hpg0:=hin.pg0;have hpg1:=hin.pg1;obtain⟨bw,ow,rfl,_⟩:=xw 0 (by omega);obtain⟨aS,cS,rfl,hsl,hx⟩:=a3;obtain⟨b1,o1,rfl,hrs⟩:=hx k s hks;obtain⟨vl,vp,x0,x1,x2,x3,x4,x5,xl,xp⟩:=hrs;obtain⟨al,cl,rfl,hll,_⟩:=xl;obtain⟨ap,cp,rfl,hpl,xp⟩:=xp;have hj:=hin.j;have hjp:j<s.ptrs.length:=by have:=hin.lens;have:=hin.ptrs;omega
 obtain⟨bp,op,rfl,xj⟩:=xp j hjp;have g4:=Z6 hh 4 (.slice (some ⟨b1,o1,none⟩) D.spans.length cS) rfl;have g2:=Z6 hh 2 (.slice (some ⟨bw,ow,none⟩) D.words.length cW) rfl;have hkl1:(k:Int)<(D.spans.length:Int):=by have:=(List.getElem?_eq_some_iff.1 hks).1;omega
 have hjp1:(j:Int)<(s.ptrs.length:Int):=by omega
 have hat:=Z0 (fun w'=>zjx s (.slice al s.lens.length cl) (.slice (some ⟨bp,op,none⟩) s.ptrs.length cp) (j:Int) (by omega) (by omega) (by omega) (by omega) w');obtain⟨A,hA⟩:=Int.eq_ofNat_of_zero_le hbd.1;obtain⟨P,hP⟩:=Int.eq_ofNat_of_zero_le hp0;have hsum:A+P≤D.words.length:=by omega
 have hP16:P≤16:=by omega
 have hA16:A≤1000:=by omega
 have hpt:ptrW D s j=(D.words.drop A).take P:=by unfold ptrW;rw[hA,hP];rfl
 have hlen:((D.words.drop A).take P).length=P:=by simp;omega
 rw[hpt];have y:=Z0 (Rd.part a1 hsum cW);rw[hP]at xj;rw[hA]at hat;unfold maxLen at hlw hpl hsl hll;generalize (D.words.drop A).take P=L at *;have G4:=Z0 g4;have G2:=Z0 g2;have X5:=Z0 x5;have XJ:=Z0 xj;obtain⟨i0,hi,hz0,hz1,hz2⟩:=info_parts info3;have hsumI:(A:Int)+(P:Int)≤(D.words.length:Int):=by omega
 clear a1 a2 a4 a5 he hh xw hx xp hbd hwd hpg hpg0 hpg1 hks hin hp0 hp1 hA hP hpt hj hjp hsum;go_enter func89,ntmps89;go_wp2_with (go_at_call 65;refine(hat.out _).mono ?_;rintro e w2⟨rfl,b2⟩);clear g4 g2 x0 x1 x2 x3 x4 x5 xj
 go_loopw [7,9] (fun v i wr=>∃m:Nat,m≤P∧i=.int .i64 m∧wr.ownsRow w.heap.size 3 1 v (nz (L.take m)).length ((nz (L.take m)).map (Value.int .i64))∧Below w.heap.size w wr) (fun v i _=>P-(intOf i).toNat)
 case atStart=>exact⟨0,Nat.zero_le _,rfl,World.ownsRow_nil _ _ _ _,b2⟩
 case round =>
  obtain⟨m,hm,rfl,hown,hB⟩:=hrel;have g4:=Y3 hB G4.out;have g2:=Y3 hB G2.out;have x5:=Y3 hB X5.out;have xj:=Y3 hB XJ.out
  by_cases hlt:m<P
  ·obtain⟨b',o',he,xi⟩:=(y.out.below hB).elim fun a' h=>h.elim fun c' h=>by
    obtain⟨he,_,hx⟩:=h;obtain⟨b',o',hq,hc⟩:=hx m (by omega);exact(⟨b',o',by simp at he;rw[he.1];exact hq,hc⟩:∃b' o',some (⟨bw,ow+A,none⟩:Addr)=some ⟨b',o',none⟩∧wr.cell? ⟨b',o'+m,none⟩=some (.int .i64 (L[m]?.getD 0)))
   obtain⟨rfl,rfl⟩:bw=b'∧ow+A=o':=by simpa using he
   rw[Nat.add_assoc]at xi;have e5:((A:Int)+(m:Int)).toNat=A+m:=by omega
   have e6:(A:Int)+(m:Int)<(D.words.length:Int):=by omega
   have hmP:(m:Int)<(P:Int):=by omega
   have hlt2:m<L.length:=by omega
   clear he
   by_cases hz:L[m]?.getD 0=0
   ·have ho2:=Z0 (show wr.ownsRow w.heap.size 3 1 _ (nz (L.take (m+1))).length ((nz (L.take (m+1))).map (Value.int .i64)) by rw[zyx hlt2 hz];exact hown)
    rw[hz]at xi;have hB':=Z0 hB;clear hown hB hz;go_wp2_with fail
    go_roundw
    case rel=>exact⟨m+1,by omega,by go_num,ho2.out,hB'.out⟩
    case measure=>simp[intOf];omega
   ·have hBs:=hB.size
    have hle:=nz_le L m;have e2:=Z0 (zyy hlt2 hz);generalize L[m]?.getD 0=x at *;have hzb:(x == 0)=false:=beq_eq_false_iff_ne.2 hz;go_wp2_with (at_builtin;refine wpList_append_own _ rfl _ _ 22 rfl w.heap.size 3 i0 (.int .i64 0) 1 8 underlying22 hi hz0 hz1 hz2 rfl (by decide) _ _ _ rfl (hown.alloc _) ⟨wr.heap.size,0,none⟩ 1 1 [.int .i64 x] rfl rfl (zfh _ _ _) (by simp[Value.oneCell']) (by unfold maxLen;omega) (by omega) (by simp;omega) ?_;intro v' w1 hown' hgrow _);have hB':=zec (hB.alloc hBs _) (hown.alloc _) hgrow (by simp;omega);have ho2:w1.ownsRow w.heap.size 3 1 v' (nz (L.take (m+1))).length ((nz (L.take (m+1))).map (Value.int .i64)):=by rw[e2.out];simpa using hown'
    clear hown' hgrow hown hB hBs xj xi g4 g2 x5;go_wp2_with fail
    go_roundw
    case rel=>exact⟨m+1,by omega,by go_num,ho2,hB'⟩
    case measure=>simp[intOf];omega
  ·obtain rfl:m=P:=by omega
   rw[List.take_of_length_le (by omega)]at hown;have hown':=Z0 hown;clear hown;go_wp2_with fail;go_ret;exact⟨_,rfl,hown'.out,hB⟩
def zxa(D:WD)(addr:Int)(L:List Int):Prop :=
 (∃(k j:Nat) (s:Y7),Y5 D∧R6 D addr k j∧D.spans[k]?=some s∧L=nz (ptrW D s j))∨((Y5 D→∀k j,¬R6 D addr k j)∧L=[])
theorem L6{D:WD}{addr:Int}{k j:Nat}(hF:Y5 D)(ho:R6 D addr k j):∃s,D.spans[k]?=some s∧zex D s j∧0≤s.ptrs[j]?.getD 0∧s.ptrs[j]?.getD 0≤sz s.cls:=by
 obtain⟨s,hks,hjl,hl,ha⟩:=ho;have h:=(hF.span k s hks).slot j hjl;exact⟨s,hks,hF.slotIn hks hjl,h.p0,by have:=h.p1;have:=h.l1;omega⟩
end Go.Proofs.YtjjamgeoompbkaaGreat
namespace Go.Proofs.YtjjamgeoompbkaaGreat
open Go.RowKit
open Go.Maps (Keyed)
open Go.Proofs.Tryz
structure U6(D:WD)(w:World)(V B g n:Nat)(M:DataW Unit):Prop where
 box:w.heap[V]?=some (.cells #[.pointer (some ⟨B,0,none⟩),.map (some g)] 137 (0,0))
 own:OwnP w g n M
 is:J0 D M D.spans.length 0
theorem U6.below{D:WD}{w w':World}{V B g n:Nat}{M:DataW Unit}(h:U6 D w V B g n M)(hb:Below w.heap.size w w'):U6 D w' V B g n M:=⟨Z8 hb h.box,h.own.below hb,h.is⟩
theorem zoh(B:Nat)(v:Value)(D:WD)(hF:Y5 D)(w:World)(hr:RdW w v D)(hB:BoxW w B v) :
  Calls prog 71 #[.pointer (some ⟨B,0,none⟩)] w fun e w'=>∃V g n M,e=.returned (.pointer (some ⟨V,0,none⟩))∧U6 D w' V B g n M∧w.heap.size≤V∧Below w.heap.size w w':=by
 have hcall:=Z0 (zvw B v D hF w hr hB);clear hF hr hB;go_enter func71,ntmps71;go_wp2_with fail;refine hcall.out.mono ?_;rintro e w2⟨g,n,M,rfl,hown,hP,b2⟩;have bx:=Y8 w2 (.cells #[.pointer (some ⟨B,0,none⟩),.map (some g)] 137);have bb:=Y2 w2 (.cells #[.pointer (some ⟨B,0,none⟩),.map (some g)] 137);have y:=Z0 (show U6 D (w2.alloc (.cells #[.pointer (some ⟨B,0,none⟩),.map (some g)] 137)) w2.heap.size B g n M from⟨bx,hown.below bb,hP⟩);have b3:=Z0 (Z7 b2 bb);have hge:=Z0 b2.size;clear hown hP b2 bx bb;go_wp2_with fail;go_ret;exact⟨_,_,_,_,rfl,y.out,hge.out,b3.out⟩
theorem zvb(B:Nat)(v:Value)(D:WD)(hF:Y5 D)(w:World)(hr:RdW w v D)(hB:BoxW w B v) :
  Calls prog 71 #[.pointer (some ⟨B,0,none⟩)] w fun e w'=>∃V g n M,e=.returned (.pointer (some ⟨V,0,none⟩))∧U6 D w' V B g n M∧Below w.heap.size w w' :=
 (zoh B v D hF w hr hB).mono fun e w' ⟨V,g,n,M,h1,h2,_,h3⟩=>⟨V,g,n,M,h1,h2,h3⟩
theorem zpe(V B g n:Nat)(M:DataW Unit)(v:Value)(D:WD)(hF:Y5 D)(addr:Int)(ha:I64 addr)(hcap:CapW v)(w:World)(hr:RdW w v D)(hB:BoxW w B v)(hv:U6 D w V B g n M) :
  Calls prog 134 #[.pointer (some ⟨V,0,none⟩),.int .i64 addr] w fun e w'=>∃L u,zxa D addr L∧e=.returned u∧w'.ownsRow w.heap.size 3 1 u L.length (L.map (Value.int .i64))∧Below w.heap.size w w':=by
 have hF':=Z0 hF;have hr':=Z0 hr;have hB':=Z0 hB;have hv':=Z0 hv;have hkey:=Z0 (zid ha);have c0:=Z6 hv.box 0 (.pointer (some ⟨B,0,none⟩)) rfl;have c1:=Z6 hv.box 1 (.map (some g)) rfl;have hcap':=Z0 hcap;clear hF hr hB hv ha hcap
 by_cases hh:∃k j,R6 D addr k j
 ·obtain⟨k,j,ho⟩:=hh
  obtain⟨s,hks,hin,p0,p1⟩:=L6 hF'.out ho;have hk:=Z0 (show F0 D.spans.length 0 k j from .inl (List.getElem?_eq_some_iff.1 hks).1);have h1:=Z0 ((hv'.out.is.has addr).2 ⟨k,j,hk.out,ho⟩);have h2:=Z0 (hv'.out.is.is addr k j (dat 0 0) hk.out ho);have y:=Z0 (show zxa D addr (nz (ptrW D s j))from .inl ⟨k,j,s,hF'.out,ho,hks,rfl⟩);have bb:=Y2 w (.cells #[.int .i64 k,.int .i64 j] 150);have bx:=Y8 w (.cells #[.int .i64 k,.int .i64 j] 150);have d0:=Z0 (Y3 bb c0);have q0:=Z0 (Z6 bx 0 (.int .i64 k) rfl);have q1:=Z0 (Z6 bx 1 (.int .i64 j) rfl);have bb':=Z0 bb;have hpw:=Z0 (fun(w':World) (hb:Below w.heap.size w w')=>zil B v D k j s hks hin p0 p1 hcap'.out w' (hr'.out.below hb) (hB'.out.below hb));clear ho hks hin p0 p1 bb bx;go_enter func134,ntmps134;go_wp2_with (at_lookup;refine N5 _ rfl rfl _ _ rfl g n M rfl hv'.out.own _ _ rfl hkey.out true h1.out (k:Int) (j:Int) h2.out ?_);go_upto_region 4 with fail;clear c0 c1;generalize w.alloc (.cells #[.int .i64 k,.int .i64 j] 150)=W at *;have D0:=Ext.cell d0.out;have Q0:=Ext.cell q0.out;have Q1:=Ext.cell q1.out;have z0:=d0.out;have z1:=q0.out;have z2:=q1.out
  go_region_with (first
   | (go_at_call 128;refine(hpw.out _ ?_).mono ?_;(first|exact bb'.out|exact below_drewN bb'.out 1|exact below_drewN bb'.out 2);rintro e w6⟨A,c,rfl,hrd,h16,b6⟩;have hrd':=Z0 hrd;have b6':=Z0 (show Below w.heap.size w w6 from Z7 bb'.out ⟨b6.os,b6.tape,b6.output,b6.size,b6.block⟩);clear hrd b6)
   | (go_at_call 150;refine(zmg _ _ _ ?_ _ ?_).mono ?_;(omega);(exact hrd'.out);rintro e w7⟨u,rfl,hown,b7⟩;have hown':=Z0 (U3 (base':=w.heap.size) hown b6'.out.size);have b7':=Z0 (Z7 b6'.out b7);clear hown b7))
  all_goals go_wp2_with fail
  all_goals go_ret
  all_goals exact⟨_,_,y.out,rfl,hown'.out,b7'.out⟩
 ·have h1:=Z0 (show Maps.has M (.int .i64 addr)=false from by
   cases h:Maps.has M (.int .i64 addr)
   ·rfl
   ·obtain⟨k,j,_,ho⟩:=(hv'.out.is.has addr).1 h
    exact absurd ⟨k,j,ho⟩ hh)
  have h2:=Z0 (show M.atKey (.int .i64 addr) (dat 0 0)=dat 0 0 from Maps.atKey_of_not_has h1.out _);have y:=Z0 (show zxa D addr []from .inr ⟨fun _ k j h=>hh ⟨k,j,h⟩,rfl⟩);clear hh;go_enter func134,ntmps134;go_wp2_with (at_lookup;refine N5 _ rfl rfl _ _ rfl g n M rfl hv'.out.own _ _ rfl hkey.out false h1.out 0 0 h2.out ?_);go_ret;exact⟨[],_,y.out,rfl,World.ownsRow_nil _ _ _ _,Y2 _ _⟩
end Go.Proofs.YtjjamgeoompbkaaGreat
namespace Go.Proofs.YtjjamgeoompbkaaGreat
open Go.RowKit
open Go.Proofs.Tryz
def M5(D:WD)(m:Int):Prop:=(D.phase=1∧m<D.next)∨D.phase=2∨D.phase=3
theorem BoxW.cell{w:World}{B:Nat}{cs:Array Value}(h:BoxW w B (.agg cs))(j:Nat)(u:Value)(hu:cs[j]?=some u):w.cell? ⟨B,j,none⟩=some u:=by
 obtain⟨cs',he,hh⟩:=h;obtain rfl:=(Value.agg.inj he).symm;exact Z6 hh j u hu
theorem zlm(B:Nat)(v:Value)(D:WD)(m:Int)(w:World)(hr:RdW w v D)(hB:BoxW w B v) :
  Calls prog 91 #[.pointer (some ⟨B,0,none⟩),.int .i64 m] w fun e w'=>IsB (M5 D m) e∧w=w':=by
 obtain⟨vw,vd,vs,vm,vg,rfl,_⟩:=hr;have g6:=hB.cell 6 _ rfl;have g7:=hB.cell 7 _ rfl;have hP:=Z0 (show M5 D m↔((D.phase=1∧m<D.next)∨D.phase=2∨D.phase=3)from Iff.rfl);clear hB;generalize M5 D m=P at *;generalize D.phase=ph at *;generalize D.next=nx at *
 by_cases c2:ph=2
 ·subst c2
  have y:=Z0 (IsB.yes (hP.out.2 (.inr (.inl rfl))));clear hP;go_enter func91,ntmps91;go_wp2_with fail;go_ret;exact⟨y.out,rfl⟩
 by_cases c3:ph=3
 ·subst c3
  have y:=Z0 (IsB.yes (hP.out.2 (.inr (.inr rfl))));clear hP;go_enter func91,ntmps91;go_wp2_with fail;go_ret;exact⟨y.out,rfl⟩
 by_cases c1:ph=1
 ·subst c1
  by_cases c4:m<nx
  ·have y:=Z0 (IsB.yes (hP.out.2 (.inl ⟨rfl,c4⟩)))
   clear hP;go_enter func91,ntmps91;go_wp2_with fail;go_ret;exact⟨y.out,rfl⟩
  ·have y:=Z0 (IsB.no (fun h=>c4 ((hP.out.1 h).elim (fun h=>h.2) fun h=>h.elim (fun h=>absurd h (by decide)) fun h=>absurd h (by decide))))
   clear hP;go_enter func91,ntmps91;go_wp2_with fail;go_ret;exact⟨y.out,rfl⟩
 ·have y:=Z0 (IsB.no (fun h=>(hP.out.1 h).elim (fun h=>c1 h.1) fun h=>h.elim c2 c3))
  have d1:(ph == 1)=false:=beq_eq_false_iff_ne.2 c1;have d2:(ph == 2)=false:=beq_eq_false_iff_ne.2 c2;have d3:(ph == 3)=false:=beq_eq_false_iff_ne.2 c3;clear hP c1 c2 c3;go_enter func91,ntmps91;go_wp2_with fail;go_ret;exact⟨y.out,rfl⟩
theorem znu(B:Nat)(v:Value)(D:WD)(m:Int)(w:World)(hr:RdW w v D)(hB:BoxW w B v) :
  Calls prog 139 #[.pointer (some ⟨B,0,none⟩),.int .i64 m] w fun e w'=>IsB (M5 D m) e∧w=w':=by
 obtain⟨vw,vd,vs,vm,vg,rfl,_⟩:=hr;have g6:=hB.cell 6 _ rfl;have g7:=hB.cell 7 _ rfl;have hP:=Z0 (show M5 D m↔((D.phase=1∧m<D.next)∨D.phase=2∨D.phase=3)from Iff.rfl);clear hB;generalize M5 D m=P at *;generalize D.phase=ph at *;generalize D.next=nx at *
 by_cases c2:ph=2
 ·subst c2
  have y:=Z0 (IsB.yes (hP.out.2 (.inr (.inl rfl))));clear hP;go_enter func139,ntmps139;go_wp2_with fail;go_ret;exact⟨y.out,rfl⟩
 by_cases c3:ph=3
 ·subst c3
  have y:=Z0 (IsB.yes (hP.out.2 (.inr (.inr rfl))));clear hP;go_enter func139,ntmps139;go_wp2_with fail;go_ret;exact⟨y.out,rfl⟩
 by_cases c1:ph=1
 ·subst c1
  by_cases c4:m<nx
  ·have y:=Z0 (IsB.yes (hP.out.2 (.inl ⟨rfl,c4⟩)))
   clear hP;go_enter func139,ntmps139;go_wp2_with fail;go_ret;exact⟨by simpa[c4]using y.out,rfl⟩
  ·have y:=Z0 (IsB.no (fun h=>c4 ((hP.out.1 h).elim (fun h=>h.2) fun h=>h.elim (fun h=>absurd h (by decide)) fun h=>absurd h (by decide))))
   clear hP;go_enter func139,ntmps139;go_wp2_with fail;go_ret;exact⟨by simpa[c4]using y.out,rfl⟩
 ·have y:=Z0 (IsB.no (fun h=>(hP.out.1 h).elim (fun h=>c1 h.1) fun h=>h.elim c2 c3))
  have d1:(ph == 1)=false:=beq_eq_false_iff_ne.2 c1;have d2:(ph == 2)=false:=beq_eq_false_iff_ne.2 c2;have d3:(ph == 3)=false:=beq_eq_false_iff_ne.2 c3;clear hP c1 c2 c3;go_enter func139,ntmps139;go_wp2_with fail;go_ret;exact⟨y.out,rfl⟩
end Go.Proofs.YtjjamgeoompbkaaGreat
