import Derived.Test.YtjjamgeoompbkaaGreatTdSDB
import Derived.Test.YtjjamgeoompbkaaGreatTdGCI

set_option maxRecDepth 100000
set_option maxHeartbeats 16000000
set_option linter.all false
namespace Go.Proofs.YtjjamgeoompbkaaGreat
open Go.RowKit
open Go.Maps (Keyed)
open Go.Proofs.Tryz
def hasB(D:WD)(m x:Int):Bool:=inB m 0 ((D.muts.length:Int)-1) && inB x 0 5
theorem zes{D:WD}{m x:Int}:hasB D m x=true↔0≤m∧m<(D.muts.length:Int)∧HOk x:=by
 unfold hasB HOk;rw[Bool.and_eq_true,U7,U7];omega
theorem zla{D:WD}{o:OpD}:hasB D o.m o.h=true↔zhh D o:=zes
theorem zsi (V : Nat) (w : World) : (method 318 105 (.pointer (some ⟨V, 0, none⟩)) "loop.example/g00690/impl.muts").run prog w = .ok (171, .pointer (some ⟨V, 0, none⟩)) w := by kernel_rfl
theorem zpd (V : Nat) (w : World) : (method 318 105 (.pointer (some ⟨V, 0, none⟩)) "loop.example/g00690/impl.sizes").run prog w = .ok (175, .pointer (some ⟨V, 0, none⟩)) w := by kernel_rfl
theorem zxi (V : Nat) (w : World) : (method 318 105 (.pointer (some ⟨V, 0, none⟩)) "loop.example/g00690/impl.word").run prog w = .ok (176, .pointer (some ⟨V, 0, none⟩)) w := by kernel_rfl
theorem zxh (V : Nat) (w : World) : (method (prog.types.size + Made.depth) 105 (.pointer (some ⟨V, 0, none⟩)) "loop.example/g00690/impl.word").run prog w = .ok (176, .pointer (some ⟨V, 0, none⟩)) w := by kernel_rfl
theorem vq_set (V : Nat) (w : World) : (method 318 105 (.pointer (some ⟨V, 0, none⟩)) "loop.example/g00690/impl.set").run prog w = .ok (174, .pointer (some ⟨V, 0, none⟩)) w := by kernel_rfl
theorem vw_set (V : Nat) (w : World) : (method (prog.types.size + Made.depth) 105 (.pointer (some ⟨V, 0, none⟩)) "loop.example/g00690/impl.set").run prog w = .ok (174, .pointer (some ⟨V, 0, none⟩)) w := by kernel_rfl
theorem vq_point (V : Nat) (w : World) : (method 318 105 (.pointer (some ⟨V, 0, none⟩)) "loop.example/g00690/impl.point").run prog w = .ok (172, .pointer (some ⟨V, 0, none⟩)) w := by kernel_rfl
theorem vw_point (V : Nat) (w : World) : (method (prog.types.size + Made.depth) 105 (.pointer (some ⟨V, 0, none⟩)) "loop.example/g00690/impl.point").run prog w = .ok (172, .pointer (some ⟨V, 0, none⟩)) w := by kernel_rfl
theorem vq_add (V : Nat) (w : World) : (method 318 105 (.pointer (some ⟨V, 0, none⟩)) "loop.example/g00690/impl.add").run prog w = .ok (170, .pointer (some ⟨V, 0, none⟩)) w := by kernel_rfl
theorem vw_add (V : Nat) (w : World) : (method (prog.types.size + Made.depth) 105 (.pointer (some ⟨V, 0, none⟩)) "loop.example/g00690/impl.add").run prog w = .ok (170, .pointer (some ⟨V, 0, none⟩)) w := by kernel_rfl
theorem zqn(base B V g0 n0:Nat)(N:DataW Unit)(S:Y9)(D:WD)(w:World)(hw:VarW w base B S D)(hV:U6 D w V B g0 n0 N) :
  Calls prog 171 #[.pointer (some ⟨V,0,none⟩)] w fun e w'=>e=.returned S.vm∧Below w.heap.size w w':=by
 obtain⟨am,cm,hvm⟩:=X0 hw.own.muts;have g5:=hw.cell 5 S.vm rfl;rw[hvm]at g5 ⊢;have c0:=Z6 hV.box 0 (.pointer (some ⟨B,0,none⟩)) rfl;clear hw hV hvm;go_enter func171,ntmps171;go_wp2_with fail;go_ret;exact⟨rfl,Below.refl _ _⟩
theorem zie(base B V g0 n0:Nat)(N:DataW Unit)(S:Y9)(D:WD)(k m h g i n v:Int)(x:Int)(hmm:D.muts.length≤3)(w:World)(hw:VarW w base B S D)(hV:U6 D w V B g0 n0 N) :
  Calls prog 190 #[.agg #[.iface 105 (.pointer (some ⟨V,0,none⟩)),.int .i64 k,.int .i64 m,.int .i64 h,.int .i64 g,.int .i64 i,.int .i64 n,.int .i64 v],.int .i64 x] w fun e w'=>e=.returned (.bool (hasB D m x))∧Below w.heap.size w w':=by
 unfold hasB;have bb:=Z0 (Y2 w (.cells (Z4 105 V k m h g i n v) 144));have bx:=Y8 w (.cells (Z4 105 V k m h g i n v) 144);have Q0:=Ext.cell (Z6 bx 0 (.iface 105 (.pointer (some ⟨V,0,none⟩))) rfl);have Q2:=Ext.cell (Z6 bx 2 (.int .i64 m) rfl);obtain⟨am,cm,hvm⟩:=X0 hw.own.muts;have hmu:=Z0 (fun x':Ext (w.alloc (.cells (Z4 105 V k m h g i n v) 144))=>(zqn base B V g0 n0 N S D x'.val ((hw.below bb.out).below x'.below) ((hV.below bb.out).below x'.below)).mono fun e w' h=>(⟨by rw[←hvm];exact h.1,h.2⟩:e=.returned (.slice am D.muts.length cm)∧Below x'.val.heap.size x'.val w'));have hM:=zsi V;clear hw hV bx hvm;obtain⟨p,hp⟩:∃p,inB m 0 ((D.muts.length:Int)-1)=p:=⟨_,rfl⟩;obtain⟨q,hq⟩:∃q,inB x 0 5=q:=⟨_,rfl⟩;rw[hp,hq];have h1:=Z0 hp;have h2:=Z0 hq;clear hp hq
 cases p
 ·go_enter func190,ntmps190
  go_upto_region 1 with fail;generalize w.alloc (.cells (Z4 105 V k m h g i n v) 144)=W at *;refine Y6 (Below.refl _ _) (by kernel_rfl) (by kernel_rfl) ?_
  repeat (go_big_quiet_step ((first|(go_at_call 73;exact Ext.same (T7 (by first|with_reducible exact h1.out|exact h2.out) _))|(go_at_call 171;with_reducible exact Ext.call (hmu.out _)))))
  refine wpQuiet_nil ?_;intro _ hw';obtain⟨x9,hw''⟩:=hw';subst hw'';go_wp2_with fail;go_ret;exact⟨by simp,Z7 bb.out x9.below⟩
 ·go_enter func190,ntmps190
  go_upto_region 1 with fail;generalize w.alloc (.cells (Z4 105 V k m h g i n v) 144)=W at *;refine Y6 (Below.refl _ _) (by kernel_rfl) (by kernel_rfl) ?_
  repeat (go_big_quiet_step ((first|(go_at_call 73;exact Ext.same (T7 (by first|with_reducible exact h1.out|exact h2.out) _))|(go_at_call 171;with_reducible exact Ext.call (hmu.out _)))))
  refine wpQuiet_nil ?_;intro _ hw';obtain⟨x9,hw''⟩:=hw';subst hw'';go_wp2_with fail;go_ret;exact⟨by simp,Z7 bb.out x9.below⟩
theorem zfe(base B V g0 n0:Nat)(N:DataW Unit)(S:Y9)(D:WD)(k m h g i n v:Int)(M H gm cm gr cr:Nat)(r:List Int)(hm:m=(M:Int))(hH:H<r.length)(hr6:r.length=6)(hmm:D.muts.length≤3)(w:World)(hw:VarW w base B S D)(hV:U6 D w V B g0 n0 N)(R:zpa w S D M H gm cm gr cr r) :
  Calls prog 142 #[.agg #[.iface 105 (.pointer (some ⟨V,0,none⟩)),.int .i64 k,.int .i64 m,.int .i64 h,.int .i64 g,.int .i64 i,.int .i64 n,.int .i64 v],.int .i64 (H:Int)] w fun e w'=>e=.returned (.pointer (some ⟨gr,H,none⟩))∧Below w.heap.size w w':=by
 subst hm;have bb:=Z0 (Y2 w (.cells (Z4 105 V k (M:Int) h g i n v) 144));have bx:=Y8 w (.cells (Z4 105 V k (M:Int) h g i n v) 144);have q0:=Ext.cell (Z6 bx 0 (.iface 105 (.pointer (some ⟨V,0,none⟩))) rfl);have q2:=Ext.cell (Z6 bx 2 (.int .i64 (M:Int)) rfl);have hmu:=Z0 (fun x':Ext (w.alloc (.cells (Z4 105 V k (M:Int) h g i n v) 144))=>(zqn base B V g0 n0 N S D x'.val ((hw.below bb.out).below x'.below) ((hV.below bb.out).below x'.below)).mono fun e w' h=>(⟨by rw[←R.vm];exact h.1,h.2⟩:e=.returned (.slice (some ⟨gm,0,none⟩) D.muts.length cm)∧Below x'.val.heap.size x'.val w'));have hM:=zsi V;have xm:=Ext.cell (Y3 bb.out R.xm);have hML:(M:Int)<(D.muts.length:Int):=by have:=(List.getElem?_eq_some_iff.1 R.mt).1;omega
 have hHL:(H:Int)<(r.length:Int):=by omega
 clear hw hV bx R;go_enter func142,ntmps142;go_upto_region 1 with fail;generalize w.alloc (.cells (Z4 105 V k (M:Int) h g i n v) 144)=W at *;refine Y6 (Below.refl _ _) (by kernel_rfl) (by kernel_rfl) ?_
 repeat (go_big_quiet_step ((go_at_call 171;with_reducible exact Ext.call (hmu.out _))))
 refine wpQuiet_nil ?_;intro _ hw';obtain⟨x9,hw''⟩:=hw';subst hw'';go_wp2_with fail;go_ret;exact⟨rfl,Z7 bb.out x9.below⟩
theorem zed(base B V g0 n0:Nat)(N:DataW Unit)(S:Y9)(D:WD)(k g i n v:Int)(M H:Nat)(r:List Int)(hr:D.muts[M]?=some r)(hH:H<r.length)(hr6:r.length=6)(hmm:D.muts.length≤3)(w:World)(hw:VarW w base B S D)(hV:U6 D w V B g0 n0 N) :
  Calls prog 141 #[.agg #[.iface 105 (.pointer (some ⟨V,0,none⟩)),.int .i64 k,.int .i64 (M:Int),.int .i64 (H:Int),.int .i64 g,.int .i64 i,.int .i64 n,.int .i64 v]] w fun e w'=>e=.returned (.int .i64 (r[H]?.getD 0))∧Below w.heap.size w w':=by
 have bb:=Z0 (Y2 w (.cells (Z4 105 V k (M:Int) (H:Int) g i n v) 144));have bx:=Z0 (Y8 w (.cells (Z4 105 V k (M:Int) (H:Int) g i n v) 144));obtain⟨gm,cm,gr,cr,R⟩:=(hw.below bb.out).rootAt hr hH;have hc:=Z0 (zfe base B V g0 n0 N S D k (M:Int) (H:Int) g i n v M H gm cm gr cr r rfl hH hr6 hmm _ (hw.below bb.out) (hV.below bb.out) R);have R':=Z0 R;clear hw hV R;have q0:=Z6 bx.out 0 (.iface 105 (.pointer (some ⟨V,0,none⟩))) rfl;have q1:=Z6 bx.out 1 (.int .i64 k) rfl;have q2:=Z6 bx.out 2 (.int .i64 (M:Int)) rfl;have q3:=Z6 bx.out 3 (.int .i64 (H:Int)) rfl;have q4:=Z6 bx.out 4 (.int .i64 g) rfl;have q5:=Z6 bx.out 5 (.int .i64 i) rfl;have q6:=Z6 bx.out 6 (.int .i64 n) rfl;have q7:=Z6 bx.out 7 (.int .i64 v) rfl;go_enter func141,ntmps141;go_upto_region 1 with fail;generalize w.alloc (.cells (Z4 105 V k (M:Int) (H:Int) g i n v) 144)=W at *;go_wp2_with fail;refine hc.out.mono ?_;rintro e w2⟨rfl,b2⟩;have xr:=Y3 b2 R'.out.xr;have bb2:=Z0 (Z7 bb.out b2);clear b2 q0 q1 q2 q3 q4 q5 q6 q7;go_wp2_with fail;go_ret;exact⟨rfl,bb2.out⟩
theorem zpa.below{w w':World}{S:Y9}{D:WD}{M H gm cm gr cr:Nat}{r:List Int}(R:zpa w S D M H gm cm gr cr r)(hb:Below w.heap.size w w'):zpa w' S D M H gm cm gr cr r :=
 ⟨R.vm,R.mt,R.mv,Y3 hb R.xm,Y3 hb R.xr,(hb.frozen (p:=⟨gr,H,none⟩) (zkc R.xr)).trans R.frz⟩
theorem J6{D:WD}{M H:Nat}{r:List Int}(hr:D.muts[M]?=some r):V2 D (M:Int) (H:Int)=r[H]?.getD 0:=by unfold V2;rw[Int.toNat_natCast,Int.toNat_natCast,hr];rfl
theorem zgj(base B V g0 n0:Nat)(N:DataW Unit)(S:Y9)(D:WD)(k m h g i n v:Int)(hmm:D.muts.length≤3)(h6:∀(k:Nat) (r:List Int),D.muts[k]?=some r→r.length=6)(w:World)(hw:VarW w base B S D)(hV:U6 D w V B g0 n0 N) :
  Calls prog 194 #[.agg #[.iface 105 (.pointer (some ⟨V,0,none⟩)),.int .i64 k,.int .i64 m,.int .i64 h,.int .i64 g,.int .i64 i,.int .i64 n,.int .i64 v]] w fun e w'=>e=.returned (.bool (hasB D m h && (V2 D m h != 0)))∧Below w.heap.size w w':=by
 have bb:=Z0 (Y2 w (.cells (Z4 105 V k m h g i n v) 162));have bx:=Z0 (Y8 w (.cells (Z4 105 V k m h g i n v) 162));have hc:=Z0 (zie base B V g0 n0 N S D k m h g i n v h hmm _ (hw.below bb.out) (hV.below bb.out));have hw1:=Z0 (hw.below bb.out);have hV1:=Z0 (hV.below bb.out);clear hw hV
 cases hp:hasB D m h with
 | false =>
  have hp':=Z0 hp;clear hp;have q0:=Z6 bx.out 0 (.iface 105 (.pointer (some ⟨V,0,none⟩))) rfl;have q1:=Z6 bx.out 1 (.int .i64 k) rfl;have q2:=Z6 bx.out 2 (.int .i64 m) rfl;have q3:=Z6 bx.out 3 (.int .i64 h) rfl;have q4:=Z6 bx.out 4 (.int .i64 g) rfl;have q5:=Z6 bx.out 5 (.int .i64 i) rfl;have q6:=Z6 bx.out 6 (.int .i64 n) rfl;have q7:=Z6 bx.out 7 (.int .i64 v) rfl;go_enter func194,ntmps194;go_upto_region 1 with fail;generalize w.alloc (.cells (Z4 105 V k m h g i n v) 162)=W at *;go_wp2_with fail;refine hc.out.mono ?_;rintro e w2⟨he,b2⟩;rw[hp'.out]at he;subst he;have bb2:=Z0 (Z7 bb.out b2);clear b2 q0 q1 q2 q3 q4 q5 q6 q7;go_wp2_with fail;go_ret;exact⟨rfl,bb2.out⟩
 | true =>
  obtain⟨h1,h2,h3⟩:=zes.1 hp;obtain⟨M,rfl⟩:=Int.eq_ofNat_of_zero_le h1;obtain⟨H,rfl⟩:=Int.eq_ofNat_of_zero_le h3.1;obtain⟨r,hr⟩:∃r,D.muts[M]?=some r:=⟨_,List.getElem?_eq_getElem (by omega)⟩;have hr6:=h6 M r hr;have hH6:H<r.length:=by have:=h3.2;omega
  have hh:=Z0 (fun(w':World) (hb:Below (w.alloc (.cells (Z4 105 V k (M:Int) (H:Int) g i n v) 162)).heap.size (w.alloc (.cells (Z4 105 V k (M:Int) (H:Int) g i n v) 162)) w')=>zed base B V g0 n0 N S D k g i n v M H r hr hH6 hr6 hmm w' (hw1.out.below hb) (hV1.out.below hb));have hp':=Z0 hp;have er:=Z0 (J6 (H:=H) hr);clear hp h1 h2 h3 hr hr6 hH6 hw1 hV1;have q0:=Z6 bx.out 0 (.iface 105 (.pointer (some ⟨V,0,none⟩))) rfl;have q1:=Z6 bx.out 1 (.int .i64 k) rfl;have q2:=Z6 bx.out 2 (.int .i64 (M:Int)) rfl;have q3:=Z6 bx.out 3 (.int .i64 (H:Int)) rfl;have q4:=Z6 bx.out 4 (.int .i64 g) rfl;have q5:=Z6 bx.out 5 (.int .i64 i) rfl;have q6:=Z6 bx.out 6 (.int .i64 n) rfl;have q7:=Z6 bx.out 7 (.int .i64 v) rfl;go_enter func194,ntmps194;go_upto_region 1 with fail;generalize w.alloc (.cells (Z4 105 V k (M:Int) (H:Int) g i n v) 162)=W at *;go_wp2_with fail;refine hc.out.mono ?_;rintro e w2⟨he,b2⟩;rw[hp'.out]at he;subst he;have bb2:=Z0 (Z7 bb.out b2);have hh2:=Z0 (hh.out w2 b2);have bx2:=Z0 (Z8 b2 bx.out);clear b2 q0 q1 q2 q3 q4 q5 q6 q7 hh bx;have q0:=Z6 bx2.out 0 (.iface 105 (.pointer (some ⟨V,0,none⟩))) rfl;have q1:=Z6 bx2.out 1 (.int .i64 k) rfl;have q2:=Z6 bx2.out 2 (.int .i64 (M:Int)) rfl;have q3:=Z6 bx2.out 3 (.int .i64 (H:Int)) rfl;have q4:=Z6 bx2.out 4 (.int .i64 g) rfl;have q5:=Z6 bx2.out 5 (.int .i64 i) rfl;have q6:=Z6 bx2.out 6 (.int .i64 n) rfl;have q7:=Z6 bx2.out 7 (.int .i64 v) rfl;go_wp2_with fail;refine hh2.out.mono ?_;rintro e w3⟨rfl,b3⟩;have bb3:=Z0 (Z7 bb2.out b3);clear b3 q0 q1 q2 q3 q4 q5 q6 q7;go_wp2_with fail;go_ret;exact⟨by rw[er.out];rfl,bb3.out⟩
theorem zos{w:World}{g n:Nat}{M:DataW Unit}(h:OwnP w g n M){a:Int}(ha:I64 a){c d:Int}(he:M.atKey (.int .i64 a) (dat 0 0)=dat c d) :
  (Instr.lookup 134 (.map (some g)) (.int .i64 a) false).run prog w=.ok (.agg #[.int .i64 c,.int .i64 d]) w:=by
 obtain⟨v,ps,hrun,hv⟩:=World.ownsMap.lookup h zja underlying134 (zqk w) (zix 0 0) (zid ha);obtain⟨a',b',rfl,hz⟩:=zfz hv;have e:M.atKey (.int .i64 a) (dat 0 0)=dat a' b':=congrArg Prod.fst hz;rw[he]at e;obtain⟨rfl,rfl⟩:=zqa e;exact hrun
theorem zlg(base B V g0 n0:Nat)(N:DataW Unit)(S:Y9)(D:WD)(a:Int)(kk jj:Nat)(s:Y7)(hF:Y5 D)(ho:R6 D a kk jj)(ha:I64 a)(hks:D.spans[kk]?=some s)(w:World)(hw:VarW w base B S D)(hV:U6 D w V B g0 n0 N) :
  Calls prog 175 #[.pointer (some ⟨V,0,none⟩),.int .i64 a] w fun e w'=>e=.returned (.tuple #[.int .i64 (s.lens[jj]?.getD 0),.int .i64 (s.ptrs[jj]?.getD 0)])∧Below w.heap.size w w':=by
 have hin:=hF.slotIn hks (show jj<s.lens.length from by obtain⟨s',h1,h2,_⟩:=ho;rw[hks]at h1;cases h1;exact h2);have hj16:=zex.mk16 hF hks hin.j;obtain⟨p,hp⟩:=hw.svAt hks;have hkl:=(List.getElem?_eq_some_iff.1 hks).1;obtain⟨gs,cs,hgs⟩:=hw.headS (by omega);have hi2:=hw.own.inner kk s p hks hp;obtain⟨gl,cl,hgl⟩:=J3 hi2.1 (by have:=hin.j;omega);obtain⟨gp,cp,hgp⟩:=J3 hi2.2 (by have:=hin.j;have:=hin.lens;have:=hin.ptrs;omega);have hL:=zos hV.own ha (hV.is.is _ kk jj (dat 0 0) (.inl (List.getElem?_eq_some_iff.1 hks).1) ho);have V0:=Z6 hV.box 0 (.pointer (some ⟨B,0,none⟩)) rfl;have V1:=Z6 hV.box 1 (.map (some g0)) rfl;have hmx:=hw.rd.parts.2.2.1;obtain⟨_,_,_,hsm,_⟩:=hmx
 have hF1:=Z0 (show ∀w',Below w.heap.size w w'→w'.cell? ⟨V,0,none⟩=some (.pointer (some ⟨B,0,none⟩))∧w'.cell? ⟨B,4,none⟩=some (.slice (some ⟨gs,0,none⟩) D.spans.length cs)∧w'.cell? ⟨gs,kk*6+4,none⟩=some (.slice (some ⟨gl,0,none⟩) s.lens.length cl)∧w'.cell? ⟨gs,kk*6+5,none⟩=some (.slice (some ⟨gp,0,none⟩) s.ptrs.length cp)∧w'.cell? ⟨gl,jj,none⟩=some (.int .i64 (s.lens[jj]?.getD 0))∧w'.cell? ⟨gp,jj,none⟩=some (.int .i64 (s.ptrs[jj]?.getD 0))∧zea w' gs (kk*6) s from fun w' hb=>by
  have h:=hw.below hb;have h6:=h.six hgs hks hp;have g4:=h.cell 4 S.vs rfl;rw[hgs]at g4;refine⟨Z6 (Z8 hb hV.box) 0 _ rfl,g4,by rw[←hgl];exact h6.2.2.2.2.1,by rw[←hgp];exact h6.2.2.2.2.2,?_,?_,?_⟩
  ·have hx:=h.own.inner kk s p hks hp
   exact(U0 hx.1 hgl jj hin.j).1
  ·have hx:=h.own.inner kk s p hks hp
   exact(U0 hx.2 hgp jj (by have:=hin.j;have:=hin.lens;have:=hin.ptrs;omega)).1
  ·have hx:=h.own.inner kk s p hks hp
   obtain⟨x0,x1,x2,x3,x4,x5⟩:=h6;exact⟨_,_,x0,x1,x2,x3,x4,x5,Rd.of_owns hx.1,Rd.of_owns hx.2⟩)
 have hK1:(kk:Int)<(D.spans.length:Int):=by omega
 have hJ1:(jj:Int)<(s.lens.length:Int):=by have:=hin.j;omega
 have hJ2:(jj:Int)<(s.ptrs.length:Int):=by have:=hin.j;have:=hin.lens;have:=hin.ptrs;omega
 have hsl:D.spans.length≤maxLen:=hsm;unfold maxLen at hsl;clear hF ho ha hks hw hV hin hp hgs hi2 hgl hgp hsm hkl;go_enter func175,ntmps175;go_upto_region 2 with fail;clear hL V0 V1;have t0:=Ext.cell (Z6 (Y8 w (.cells #[.int .i64 (kk:Int),.int .i64 (jj:Int)] 150)) 0 (.int .i64 (kk:Int)) rfl);have t1:=Ext.cell (Z6 (Y8 w (.cells #[.int .i64 (kk:Int),.int .i64 (jj:Int)] 150)) 1 (.int .i64 (jj:Int)) rfl);have b4:=Z0 (Y2 w (.cells #[.int .i64 (kk:Int),.int .i64 (jj:Int)] 150));obtain⟨f0,f1,f2,f3,f4,f5,f6⟩:=hF1.out _ b4.out;have c0:=Ext.cell f0;have c1:=Ext.cell f1;have c2:=Ext.cell f2;have c3:=Ext.cell f3;have c4:=Ext.cell f4;have c5:=Ext.cell f5;have hrs:=Z0 f6;clear f0 f1 f2 f3 f4 f5 f6;generalize w.alloc (.cells #[.int .i64 (kk:Int),.int .i64 (jj:Int)] 150)=w4 at *;refine Y6 (Below.refl _ _) (by kernel_rfl) (by kernel_rfl) ?_
 repeat (go_big_quiet_step ((fail)))
 refine wpQuiet_nil ?_;intro _ hw';obtain⟨x9,hw''⟩:=hw';subst hw'';go_upto_region 3 with fail;refine Y6 x9.below (by kernel_rfl) (by kernel_rfl) ?_
 repeat (go_big_quiet_step ((fail)))
 refine wpQuiet_nil ?_;intro _ hw';obtain⟨x9,hw''⟩:=hw';subst hw'';go_wp2_with fail
 go_ret2
 exact⟨rfl,Z7 b4.out (Ext.below _)⟩
theorem znc(base B V g0 n0:Nat)(N:DataW Unit)(S:Y9)(D:WD)(a:Int)(kk jj:Nat)(s:Y7)(hF:Y5 D)(ho:R6 D a kk jj)(ha:I64 a)(hks:D.spans[kk]?=some s)(A:Nat)(hA:atW s (jj:Int)=(A:Int))(i:Int)(hi0:0≤i)(hi1:i≤16)(w:World)(hw:VarW w base B S D)(hV:U6 D w V B g0 n0 N) :
  Calls prog 180 #[.pointer (some ⟨V,0,none⟩),.int .i64 a,.int .i64 i] w fun e w'=>e=.returned (.int .i64 ((A:Int)+i))∧Below w.heap.size w w':=by
 have hin:=hF.slotIn hks (show jj<s.lens.length from by obtain⟨s',h1,h2,_⟩:=ho;rw[hks]at h1;cases h1;exact h2);have hj16:=zex.mk16 hF hks hin.j;obtain⟨p,hp⟩:=hw.svAt hks;have hkl:=(List.getElem?_eq_some_iff.1 hks).1;obtain⟨gs,cs,hgs⟩:=hw.headS (by omega);have hi2:=hw.own.inner kk s p hks hp;obtain⟨gl,cl,hgl⟩:=J3 hi2.1 (by have:=hin.j;omega);obtain⟨gp,cp,hgp⟩:=J3 hi2.2 (by have:=hin.j;have:=hin.lens;have:=hin.ptrs;omega);have hL:=zos hV.own ha (hV.is.is _ kk jj (dat 0 0) (.inl (List.getElem?_eq_some_iff.1 hks).1) ho);have V0:=Z6 hV.box 0 (.pointer (some ⟨B,0,none⟩)) rfl;have V1:=Z6 hV.box 1 (.map (some g0)) rfl;have hmx:=hw.rd.parts.2.2.1;obtain⟨_,_,_,hsm,_⟩:=hmx
 have hF1:=Z0 (show ∀w',Below w.heap.size w w'→w'.cell? ⟨V,0,none⟩=some (.pointer (some ⟨B,0,none⟩))∧w'.cell? ⟨B,4,none⟩=some (.slice (some ⟨gs,0,none⟩) D.spans.length cs)∧w'.cell? ⟨gs,kk*6+4,none⟩=some (.slice (some ⟨gl,0,none⟩) s.lens.length cl)∧w'.cell? ⟨gs,kk*6+5,none⟩=some (.slice (some ⟨gp,0,none⟩) s.ptrs.length cp)∧w'.cell? ⟨gl,jj,none⟩=some (.int .i64 (s.lens[jj]?.getD 0))∧w'.cell? ⟨gp,jj,none⟩=some (.int .i64 (s.ptrs[jj]?.getD 0))∧zea w' gs (kk*6) s from fun w' hb=>by
  have h:=hw.below hb;have h6:=h.six hgs hks hp;have g4:=h.cell 4 S.vs rfl;rw[hgs]at g4;refine⟨Z6 (Z8 hb hV.box) 0 _ rfl,g4,by rw[←hgl];exact h6.2.2.2.2.1,by rw[←hgp];exact h6.2.2.2.2.2,?_,?_,?_⟩
  ·have hx:=h.own.inner kk s p hks hp
   exact(U0 hx.1 hgl jj hin.j).1
  ·have hx:=h.own.inner kk s p hks hp
   exact(U0 hx.2 hgp jj (by have:=hin.j;have:=hin.lens;have:=hin.ptrs;omega)).1
  ·have hx:=h.own.inner kk s p hks hp
   obtain⟨x0,x1,x2,x3,x4,x5⟩:=h6;exact⟨_,_,x0,x1,x2,x3,x4,x5,Rd.of_owns hx.1,Rd.of_owns hx.2⟩)
 have hK1:(kk:Int)<(D.spans.length:Int):=by omega
 have hJ1:(jj:Int)<(s.lens.length:Int):=by have:=hin.j;omega
 have hJ2:(jj:Int)<(s.ptrs.length:Int):=by have:=hin.j;have:=hin.lens;have:=hin.ptrs;omega
 have hsl:D.spans.length≤maxLen:=hsm;unfold maxLen at hsl;have hfw:=Z0 (fun(w:World) (hr:zea w gs (kk*6) s)=>(hA ▸ zdw gs (kk*6) s (jj:Int) hin.pg0 (by have:=hin.pg1;have:=hin.pg;omega) (by omega) (by have:=hin.bd;omega) w hr:Calls prog 123 #[.pointer (some ⟨gs,kk*6,none⟩),.int .i64 (jj:Int)] w fun e w'=>e=.returned (.int .i64 (A:Int))∧zju w w'));have hA1:A≤1000:=by have:=hin.bd;omega
 clear hA;clear hF ho ha hks hw hV hin hp hgs hi2 hgl hgp hsm hkl;go_enter func180,ntmps180;go_upto_region 2 with fail;clear hL V0 V1;have t0:=Ext.cell (Z6 (Y8 w (.cells #[.int .i64 (kk:Int),.int .i64 (jj:Int)] 150)) 0 (.int .i64 (kk:Int)) rfl);have t1:=Ext.cell (Z6 (Y8 w (.cells #[.int .i64 (kk:Int),.int .i64 (jj:Int)] 150)) 1 (.int .i64 (jj:Int)) rfl);have b4:=Z0 (Y2 w (.cells #[.int .i64 (kk:Int),.int .i64 (jj:Int)] 150));obtain⟨f0,f1,f2,f3,f4,f5,f6⟩:=hF1.out _ b4.out;have c0:=Ext.cell f0;have c1:=Ext.cell f1;have c2:=Ext.cell f2;have c3:=Ext.cell f3;have c4:=Ext.cell f4;have c5:=Ext.cell f5;have hrs:=Z0 f6;clear f0 f1 f2 f3 f4 f5 f6;generalize w.alloc (.cells #[.int .i64 (kk:Int),.int .i64 (jj:Int)] 150)=w4 at *;refine Y6 (Below.refl _ _) (by kernel_rfl) (by kernel_rfl) ?_
 repeat (go_big_quiet_step ((go_at_call 123;exact Ext.call ((hfw.out _ (hrs.out.below (Ext.below _))).mono fun _ _ ⟨a,b⟩=>⟨a,b.below⟩))))
 refine wpQuiet_nil ?_;intro _ hw';obtain⟨x9,hw''⟩:=hw';subst hw'';go_wp2_with fail;go_ret;exact⟨rfl,Z7 b4.out (Ext.below _)⟩
theorem znb(base B V g0 n0:Nat)(N:DataW Unit)(S:Y9)(D:WD)(a:Int)(kk jj:Nat)(s:Y7)(hF:Y5 D)(ho:R6 D a kk jj)(ha:I64 a)(hks:D.spans[kk]?=some s)(A I P:Nat)(hP:A+I=P)(hA:atW s (jj:Int)=(A:Int))(hI:I<s.lens[jj]?.getD 0)(w:World)(hw:VarW w base B S D)(hV:U6 D w V B g0 n0 N) :
  Calls prog 176 #[.pointer (some ⟨V,0,none⟩),.int .i64 a,.int .i64 (I:Int)] w fun e w'=>e=.returned (.int .i64 (D.words[P]?.getD 0))∧Below w.heap.size w w':=by
 have hin:=hF.slotIn hks (show jj<s.lens.length from by obtain⟨s',h1,h2,_⟩:=id ho;rw[hks]at h1;cases h1;exact h2)
 have hsl:s.lens[jj]?.getD 0≤sz s.cls:=by
  have:=((hF.span kk s hks).slot jj hin.j).l1;omega
 have hbd:=hin.bd;have hww:=hin.words;have hwl:P<D.words.length:=by omega
 obtain⟨gw,cw,hgw⟩:=hw.headW (by omega);have hcall:=Z0 (fun x':Ext w=>(znc base B V g0 n0 N S D a kk jj s hF ho ha hks A hA (I:Int) (by omega) (by omega) x'.val (hw.below x'.below) (hV.below x'.below)).mono fun e w'' h=>(⟨by rw[h.1,show(A:Int)+(I:Int)=(P:Int) by omega],h.2⟩:e=Ending.returned (.int .i64 (P:Int))∧Below x'.val.heap.size x'.val w''));have xw:=Ext.cell (U0 hw.own.words hgw P hwl).1;have g2:=hw.cell 2 S.vw rfl;rw[hgw]at g2;have G2:=Ext.cell g2;have V0:=Ext.cell (Z6 hV.box 0 (.pointer (some ⟨B,0,none⟩)) rfl);generalize D.words[P]?.getD 0=x at *;have hwL:(P:Int)<(D.words.length:Int):=by omega
 have hwm:D.words.length≤1000:=by have:=hF.words;have:=hF.geo.2.2.2.2.1;omega
 clear hF ho ha hks hw hV hin hsl hbd hww hgw hA hI hwl g2;go_enter func176,ntmps176;go_upto_region 1 with fail;refine Y6 (Below.refl _ _) (by kernel_rfl) (by kernel_rfl) ?_
 repeat (go_big_quiet_step ((go_at_call 180;with_reducible exact Ext.call (hcall.out _))))
 refine wpQuiet_nil ?_;intro _ hw';obtain⟨x9,hw''⟩:=hw';subst hw'';go_wp2_with fail;go_ret;exact⟨rfl,Ext.below _⟩
theorem zma(base B V g0 n0:Nat)(N:DataW Unit)(S:Y9)(D:WD)(k m h g i n v:Int)(hmm:D.muts.length≤3)(p:Bool)(hp:hasB D m h=p)(w:World)(hw:VarW w base B S D)(hV:U6 D w V B g0 n0 N) :
  Calls prog 189 #[.agg #[.iface 105 (.pointer (some ⟨V,0,none⟩)),.int .i64 k,.int .i64 m,.int .i64 h,.int .i64 g,.int .i64 i,.int .i64 n,.int .i64 v]] w fun e w'=>e=.returned (.int .i64 (if p then 0 else 2))∧Below w.heap.size w w':=by
 have bb:=Z0 (Y2 w (.cells (Z4 105 V k m h g i n v) 144));have bx:=Y8 w (.cells (Z4 105 V k m h g i n v) 144);have q0:=Z6 bx 0 (.iface 105 (.pointer (some ⟨V,0,none⟩))) rfl;have Q0:=Ext.cell q0;have q1:=Z6 bx 1 (.int .i64 k) rfl;have Q1:=Ext.cell q1;have q2:=Z6 bx 2 (.int .i64 m) rfl;have Q2:=Ext.cell q2;have q3:=Z6 bx 3 (.int .i64 h) rfl;have Q3:=Ext.cell q3;have q4:=Z6 bx 4 (.int .i64 g) rfl;have Q4:=Ext.cell q4;have q5:=Z6 bx 5 (.int .i64 i) rfl;have Q5:=Ext.cell q5;have q6:=Z6 bx 6 (.int .i64 n) rfl;have Q6:=Ext.cell q6;have q7:=Z6 bx 7 (.int .i64 v) rfl;have Q7:=Ext.cell q7;have hw1:=Z0 (hw.below bb.out);have hV1:=Z0 (hV.below bb.out);have hc:=Z0 (fun(w':World) (hb:Below (w.alloc (.cells (Z4 105 V k m h g i n v) 144)).heap.size (w.alloc (.cells (Z4 105 V k m h g i n v) 144)) w')=>(zie base B V g0 n0 N S D k m h g i n v h hmm w' (hw1.out.below hb) (hV1.out.below hb)).mono fun e w'' ⟨h1,h2⟩=>(⟨by rw[h1,hp],h2⟩:e=Ending.returned (.bool p)∧Below w'.heap.size w' w''));clear hw hV bx hw1 hV1 hp hmm
 cases p
 ·go_enter func189,ntmps189
  go_upto_region 1 with fail;generalize w.alloc (.cells (Z4 105 V k m h g i n v) 144)=W at *;go_wp2_with (first|(go_at_call 190;with_reducible refine(hc.out _ (Below.refl _ _)).mono ?_;rintro e w1⟨rfl,b1⟩;obtain⟨x1,rfl⟩:=Ext.of b1;clear b1));go_ret;exact⟨rfl,Z7 bb.out (Ext.below _)⟩
 ·go_enter func189,ntmps189
  go_upto_region 1 with fail;generalize w.alloc (.cells (Z4 105 V k m h g i n v) 144)=W at *;go_wp2_with (first|(go_at_call 190;with_reducible refine(hc.out _ (Below.refl _ _)).mono ?_;rintro e w1⟨rfl,b1⟩;obtain⟨x1,rfl⟩:=Ext.of b1;clear b1));go_ret;exact⟨rfl,Z7 bb.out (Ext.below _)⟩
theorem zdv(base B V g0 n0:Nat)(N:DataW Unit)(S:Y9)(D:WD)(k m h g i n v:Int)(hmm:D.muts.length≤3)(p q:Bool)(hp:hasB D m h=p)(hq:hasB D m g=q)(w:World)(hw:VarW w base B S D)(hV:U6 D w V B g0 n0 N) :
  Calls prog 197 #[.agg #[.iface 105 (.pointer (some ⟨V,0,none⟩)),.int .i64 k,.int .i64 m,.int .i64 h,.int .i64 g,.int .i64 i,.int .i64 n,.int .i64 v]] w fun e w'=>e=.returned (.int .i64 (if p && q then 0 else 2))∧Below w.heap.size w w':=by
 have bb:=Z0 (Y2 w (.cells (Z4 105 V k m h g i n v) 173));have bx:=Y8 w (.cells (Z4 105 V k m h g i n v) 173);have q0:=Z6 bx 0 (.iface 105 (.pointer (some ⟨V,0,none⟩))) rfl;have Q0:=Ext.cell q0;have q1:=Z6 bx 1 (.int .i64 k) rfl;have Q1:=Ext.cell q1;have q2:=Z6 bx 2 (.int .i64 m) rfl;have Q2:=Ext.cell q2;have q3:=Z6 bx 3 (.int .i64 h) rfl;have Q3:=Ext.cell q3;have q4:=Z6 bx 4 (.int .i64 g) rfl;have Q4:=Ext.cell q4;have q5:=Z6 bx 5 (.int .i64 i) rfl;have Q5:=Ext.cell q5;have q6:=Z6 bx 6 (.int .i64 n) rfl;have Q6:=Ext.cell q6;have q7:=Z6 bx 7 (.int .i64 v) rfl;have Q7:=Ext.cell q7;have hw1:=Z0 (hw.below bb.out);have hV1:=Z0 (hV.below bb.out);have hc:=Z0 (fun(w':World) (hb:Below (w.alloc (.cells (Z4 105 V k m h g i n v) 173)).heap.size (w.alloc (.cells (Z4 105 V k m h g i n v) 173)) w')=>(zie base B V g0 n0 N S D k m h g i n v h hmm w' (hw1.out.below hb) (hV1.out.below hb)).mono fun e w'' ⟨h1,h2⟩=>(⟨by rw[h1,hp],h2⟩:e=Ending.returned (.bool p)∧Below w'.heap.size w' w''));have hd:=Z0 (fun(w':World) (hb:Below (w.alloc (.cells (Z4 105 V k m h g i n v) 173)).heap.size (w.alloc (.cells (Z4 105 V k m h g i n v) 173)) w')=>(zie base B V g0 n0 N S D k m h g i n v g hmm w' (hw1.out.below hb) (hV1.out.below hb)).mono fun e w'' ⟨h1,h2⟩=>(⟨by rw[h1,hq],h2⟩:e=Ending.returned (.bool q)∧Below w'.heap.size w' w''));clear hw hV bx hw1 hV1 hp hq hmm
 cases p
 ·clear hd
  go_enter func197,ntmps197;go_upto_region 1 with fail;generalize w.alloc (.cells (Z4 105 V k m h g i n v) 173)=W at *;go_wp2_with (first|(go_at_call 190;with_reducible refine(hc.out _ (Below.refl _ _)).mono ?_;rintro e w1⟨rfl,b1⟩;obtain⟨x1,rfl⟩:=Ext.of b1;clear b1));go_ret;exact⟨rfl,Z7 bb.out (Ext.below _)⟩
 ·cases q
  ·go_enter func197,ntmps197
   go_upto_region 1 with fail;generalize w.alloc (.cells (Z4 105 V k m h g i n v) 173)=W at *;go_wp2_with (first|(go_at_call 190;with_reducible refine(hc.out _ (Below.refl _ _)).mono ?_;rintro e w1⟨rfl,b1⟩;obtain⟨x1,rfl⟩:=Ext.of b1;clear b1)|(go_at_call 190;refine(hd.out _ (Ext.below _)).mono ?_;rintro e w1⟨rfl,b1⟩;obtain⟨x2,rfl⟩:=Ext.then _ b1;clear b1));go_ret;exact⟨rfl,Z7 bb.out (Ext.below _)⟩
  ·go_enter func197,ntmps197
   go_upto_region 1 with fail;generalize w.alloc (.cells (Z4 105 V k m h g i n v) 173)=W at *;go_wp2_with (first|(go_at_call 190;with_reducible refine(hc.out _ (Below.refl _ _)).mono ?_;rintro e w1⟨rfl,b1⟩;obtain⟨x1,rfl⟩:=Ext.of b1;clear b1)|(go_at_call 190;refine(hd.out _ (Ext.below _)).mono ?_;rintro e w1⟨rfl,b1⟩;obtain⟨x2,rfl⟩:=Ext.then _ b1;clear b1));go_ret;exact⟨rfl,Z7 bb.out (Ext.below _)⟩
theorem zlz(base B V g0 n0:Nat)(N:DataW Unit)(S:Y9)(D:WD)(k m h g i n v:Int)(hmm:D.muts.length≤3)(h6:∀(k:Nat) (r:List Int),D.muts[k]?=some r→r.length=6)(p:Bool)(hp:(hasB D m h && (V2 D m h != 0))=p)(w:World)(hw:VarW w base B S D)(hV:U6 D w V B g0 n0 N) :
  Calls prog 193 #[.agg #[.iface 105 (.pointer (some ⟨V,0,none⟩)),.int .i64 k,.int .i64 m,.int .i64 h,.int .i64 g,.int .i64 i,.int .i64 n,.int .i64 v]] w fun e w'=>e=.returned (.int .i64 (if p then 0 else 2))∧Below w.heap.size w w':=by
 have bb:=Z0 (Y2 w (.cells (Z4 105 V k m h g i n v) 162));have bx:=Y8 w (.cells (Z4 105 V k m h g i n v) 162);have q0:=Z6 bx 0 (.iface 105 (.pointer (some ⟨V,0,none⟩))) rfl;have Q0:=Ext.cell q0;have q1:=Z6 bx 1 (.int .i64 k) rfl;have Q1:=Ext.cell q1;have q2:=Z6 bx 2 (.int .i64 m) rfl;have Q2:=Ext.cell q2;have q3:=Z6 bx 3 (.int .i64 h) rfl;have Q3:=Ext.cell q3;have q4:=Z6 bx 4 (.int .i64 g) rfl;have Q4:=Ext.cell q4;have q5:=Z6 bx 5 (.int .i64 i) rfl;have Q5:=Ext.cell q5;have q6:=Z6 bx 6 (.int .i64 n) rfl;have Q6:=Ext.cell q6;have q7:=Z6 bx 7 (.int .i64 v) rfl;have Q7:=Ext.cell q7;have hw1:=Z0 (hw.below bb.out);have hV1:=Z0 (hV.below bb.out);have hc:=Z0 (fun(w':World) (hb:Below (w.alloc (.cells (Z4 105 V k m h g i n v) 162)).heap.size (w.alloc (.cells (Z4 105 V k m h g i n v) 162)) w')=>(zgj base B V g0 n0 N S D k m h g i n v hmm h6 w' (hw1.out.below hb) (hV1.out.below hb)).mono fun e w'' ⟨h1,h2⟩=>(⟨by rw[h1,hp],h2⟩:e=Ending.returned (.bool p)∧Below w'.heap.size w' w''));clear hw hV bx hw1 hV1 hp hmm h6
 cases p
 ·go_enter func193,ntmps193
  go_upto_region 1 with fail;generalize w.alloc (.cells (Z4 105 V k m h g i n v) 162)=W at *;go_wp2_with (first|(go_at_call 194;with_reducible refine(hc.out _ (Below.refl _ _)).mono ?_;rintro e w1⟨rfl,b1⟩;obtain⟨x1,rfl⟩:=Ext.of b1;clear b1));go_ret;exact⟨rfl,Z7 bb.out (Ext.below _)⟩
 ·go_enter func193,ntmps193
  go_upto_region 1 with fail;generalize w.alloc (.cells (Z4 105 V k m h g i n v) 162)=W at *;go_wp2_with (first|(go_at_call 194;with_reducible refine(hc.out _ (Below.refl _ _)).mono ?_;rintro e w1⟨rfl,b1⟩;obtain⟨x1,rfl⟩:=Ext.of b1;clear b1));go_ret;exact⟨rfl,Z7 bb.out (Ext.below _)⟩
theorem zeg(base B V g0 n0:Nat)(N:DataW Unit)(S:Y9)(D:WD)(k m h g i n v:Int)(hmm:D.muts.length≤3)(h6:∀(k:Nat) (r:List Int),D.muts[k]?=some r→r.length=6)(p:Bool)(hp:(hasB D m h && (V2 D m h != 0))=p)(q:Bool)(hq:hasB D m g=q)(hpq:(p && q)=false)(w:World)(hw:VarW w base B S D)(hV:U6 D w V B g0 n0 N) :
  Calls prog 195 #[.agg #[.iface 105 (.pointer (some ⟨V,0,none⟩)),.int .i64 k,.int .i64 m,.int .i64 h,.int .i64 g,.int .i64 i,.int .i64 n,.int .i64 v]] w fun e w'=>e=.returned (.int .i64 (2))∧Below w.heap.size w w':=by
 have bb:=Z0 (Y2 w (.cells (Z4 105 V k m h g i n v) 164));have bx:=Y8 w (.cells (Z4 105 V k m h g i n v) 164);have q0:=Z6 bx 0 (.iface 105 (.pointer (some ⟨V,0,none⟩))) rfl;have Q0:=Ext.cell q0;have q1:=Z6 bx 1 (.int .i64 k) rfl;have Q1:=Ext.cell q1;have q2:=Z6 bx 2 (.int .i64 m) rfl;have Q2:=Ext.cell q2;have q3:=Z6 bx 3 (.int .i64 h) rfl;have Q3:=Ext.cell q3;have q4:=Z6 bx 4 (.int .i64 g) rfl;have Q4:=Ext.cell q4;have q5:=Z6 bx 5 (.int .i64 i) rfl;have Q5:=Ext.cell q5;have q6:=Z6 bx 6 (.int .i64 n) rfl;have Q6:=Ext.cell q6;have q7:=Z6 bx 7 (.int .i64 v) rfl;have Q7:=Ext.cell q7;have hw1:=Z0 (hw.below bb.out);have hV1:=Z0 (hV.below bb.out);have hc:=Z0 (fun(w':World) (hb:Below (w.alloc (.cells (Z4 105 V k m h g i n v) 164)).heap.size (w.alloc (.cells (Z4 105 V k m h g i n v) 164)) w')=>(zgj base B V g0 n0 N S D k m h g i n v hmm h6 w' (hw1.out.below hb) (hV1.out.below hb)).mono fun e w'' ⟨h1,h2⟩=>(⟨by rw[h1,hp],h2⟩:e=Ending.returned (.bool p)∧Below w'.heap.size w' w''));have hd:=Z0 (fun(w':World) (hb:Below (w.alloc (.cells (Z4 105 V k m h g i n v) 164)).heap.size (w.alloc (.cells (Z4 105 V k m h g i n v) 164)) w')=>(zie base B V g0 n0 N S D k m h g i n v g hmm w' (hw1.out.below hb) (hV1.out.below hb)).mono fun e w'' ⟨h1,h2⟩=>(⟨by rw[h1,hq],h2⟩:e=Ending.returned (.bool q)∧Below w'.heap.size w' w''));clear hw hV bx hw1 hV1 hp hq hmm h6
 cases p
 ·clear hd hpq
  go_enter func195,ntmps195;go_upto_region 1 with fail;generalize w.alloc (.cells (Z4 105 V k m h g i n v) 164)=W at *;go_wp2_with (first|(go_at_call 194;with_reducible refine(hc.out _ (Below.refl _ _)).mono ?_;rintro e w1⟨rfl,b1⟩;obtain⟨x1,rfl⟩:=Ext.of b1;clear b1));go_ret;exact⟨rfl,Z7 bb.out (Ext.below _)⟩
 ·cases q
  ·clear hpq
   go_enter func195,ntmps195;go_upto_region 1 with fail;generalize w.alloc (.cells (Z4 105 V k m h g i n v) 164)=W at *;go_wp2_with (first|(go_at_call 194;with_reducible refine(hc.out _ (Below.refl _ _)).mono ?_;rintro e w1⟨rfl,b1⟩;obtain⟨x1,rfl⟩:=Ext.of b1;clear b1)|(go_at_call 190;refine(hd.out _ (Ext.below _)).mono ?_;rintro e w1⟨rfl,b1⟩;obtain⟨x2,rfl⟩:=Ext.then _ b1;clear b1));go_ret;exact⟨rfl,Z7 bb.out (Ext.below _)⟩
  ·cases hpq
theorem zjb(base B V g0 n0:Nat)(N:DataW Unit)(S:Y9)(D:WD)(k m h g i n v:Int)(hmm:D.muts.length≤3)(h6:∀(k:Nat) (r:List Int),D.muts[k]?=some r→r.length=6)(hp:(hasB D m h && (V2 D m h != 0))=false)(w:World)(hw:VarW w base B S D)(hV:U6 D w V B g0 n0 N) :
  Calls prog 196 #[.agg #[.iface 105 (.pointer (some ⟨V,0,none⟩)),.int .i64 k,.int .i64 m,.int .i64 h,.int .i64 g,.int .i64 i,.int .i64 n,.int .i64 v]] w fun e w'=>e=.returned (.int .i64 (2))∧Below w.heap.size w w':=by
 have bb:=Z0 (Y2 w (.cells (Z4 105 V k m h g i n v) 168));have bx:=Y8 w (.cells (Z4 105 V k m h g i n v) 168);have q0:=Z6 bx 0 (.iface 105 (.pointer (some ⟨V,0,none⟩))) rfl;have Q0:=Ext.cell q0;have q1:=Z6 bx 1 (.int .i64 k) rfl;have Q1:=Ext.cell q1;have q2:=Z6 bx 2 (.int .i64 m) rfl;have Q2:=Ext.cell q2;have q3:=Z6 bx 3 (.int .i64 h) rfl;have Q3:=Ext.cell q3;have q4:=Z6 bx 4 (.int .i64 g) rfl;have Q4:=Ext.cell q4;have q5:=Z6 bx 5 (.int .i64 i) rfl;have Q5:=Ext.cell q5;have q6:=Z6 bx 6 (.int .i64 n) rfl;have Q6:=Ext.cell q6;have q7:=Z6 bx 7 (.int .i64 v) rfl;have Q7:=Ext.cell q7;have hw1:=Z0 (hw.below bb.out);have hV1:=Z0 (hV.below bb.out);have hc:=Z0 (fun(w':World) (hb:Below (w.alloc (.cells (Z4 105 V k m h g i n v) 168)).heap.size (w.alloc (.cells (Z4 105 V k m h g i n v) 168)) w')=>(zgj base B V g0 n0 N S D k m h g i n v hmm h6 w' (hw1.out.below hb) (hV1.out.below hb)).mono fun e w'' ⟨h1,h2⟩=>(⟨by rw[h1,hp],h2⟩:e=Ending.returned (.bool false)∧Below w'.heap.size w' w''));clear hw hV bx hw1 hV1 hp hmm h6;go_enter func196,ntmps196;go_upto_region 1 with fail;generalize w.alloc (.cells (Z4 105 V k m h g i n v) 168)=W at *;go_wp2_with (first|(go_at_call 194;with_reducible refine(hc.out _ (Below.refl _ _)).mono ?_;rintro e w1⟨rfl,b1⟩;obtain⟨x1,rfl⟩:=Ext.of b1;clear b1));go_ret;exact⟨rfl,Z7 bb.out (Ext.below _)⟩
theorem zga(base B V g0 n0:Nat)(N:DataW Unit)(S:Y9)(D:WD)(k g i n v:Int)(M H:Nat)(r:List Int)(kk jj:Nat)(s:Y7)(hF:Y5 D)(hr:D.muts[M]?=some r)(hH:H<6)(ho:R6 D (r[H]?.getD 0) kk jj)(ha:I64 (r[H]?.getD 0))(hks:D.spans[kk]?=some s)(hp:(hasB D (M:Int) (H:Int) && (V2 D (M:Int) (H:Int) != 0))=true)(hq:hasB D (M:Int) g=true)(b:Bool)(hb:inB i (0) (s.ptrs[jj]?.getD 0-1)=b)(w:World)(hw:VarW w base B S D)(hV:U6 D w V B g0 n0 N) :
  Calls prog 195 #[.agg #[.iface 105 (.pointer (some ⟨V,0,none⟩)),.int .i64 k,.int .i64 (M:Int),.int .i64 (H:Int),.int .i64 g,.int .i64 i,.int .i64 n,.int .i64 v]] w fun e w'=>e=.returned (.int .i64 (if b then 0 else 4))∧Below w.heap.size w w':=by
 have hmm:D.muts.length≤3:=by have:=hF.geo.2.2.2.2.2.2;omega
 have h6:=hF.roots
 obtain⟨hl0,hl1,hp0,hp1⟩:0≤s.lens[jj]?.getD 0∧s.lens[jj]?.getD 0≤16∧0≤s.ptrs[jj]?.getD 0∧s.ptrs[jj]?.getD 0≤16:=by
  obtain⟨s',h1,h2,h3,_⟩:=id ho;rw[hks]at h1
  cases h1
  have h4:=(hF.span kk s hks).slot jj h2;have h5:=(hF.slotIn hks h2).bd;have:=h4.p0;have:=h4.p1;have:=h4.l1;omega
 have bb:=Z0 (Y2 w (.cells (Z4 105 V k (M:Int) (H:Int) g i n v) 164));have bx:=Y8 w (.cells (Z4 105 V k (M:Int) (H:Int) g i n v) 164);have q0:=Z6 bx 0 (.iface 105 (.pointer (some ⟨V,0,none⟩))) rfl;have Q0:=Ext.cell q0;have q1:=Z6 bx 1 (.int .i64 k) rfl;have Q1:=Ext.cell q1;have q2:=Z6 bx 2 (.int .i64 (M:Int)) rfl;have Q2:=Ext.cell q2;have q3:=Z6 bx 3 (.int .i64 (H:Int)) rfl;have Q3:=Ext.cell q3;have q4:=Z6 bx 4 (.int .i64 g) rfl;have Q4:=Ext.cell q4;have q5:=Z6 bx 5 (.int .i64 i) rfl;have Q5:=Ext.cell q5;have q6:=Z6 bx 6 (.int .i64 n) rfl;have Q6:=Ext.cell q6;have q7:=Z6 bx 7 (.int .i64 v) rfl;have Q7:=Ext.cell q7;have hw1:=Z0 (hw.below bb.out);have hV1:=Z0 (hV.below bb.out);have hc:=Z0 (fun(w':World) (hb:Below (w.alloc (.cells (Z4 105 V k (M:Int) (H:Int) g i n v) 164)).heap.size (w.alloc (.cells (Z4 105 V k (M:Int) (H:Int) g i n v) 164)) w')=>(zgj base B V g0 n0 N S D k (M:Int) (H:Int) g i n v hmm h6 w' (hw1.out.below hb) (hV1.out.below hb)).mono fun e w'' ⟨h1,h2⟩=>(⟨by rw[h1,hp],h2⟩:e=Ending.returned (.bool true)∧Below w'.heap.size w' w''));have hd:=Z0 (fun(w':World) (hb:Below (w.alloc (.cells (Z4 105 V k (M:Int) (H:Int) g i n v) 164)).heap.size (w.alloc (.cells (Z4 105 V k (M:Int) (H:Int) g i n v) 164)) w')=>(zie base B V g0 n0 N S D k (M:Int) (H:Int) g i n v g hmm w' (hw1.out.below hb) (hV1.out.below hb)).mono fun e w'' ⟨h1,h2⟩=>(⟨by rw[h1,hq],h2⟩:e=Ending.returned (.bool true)∧Below w'.heap.size w' w''));have hh:=Z0 (fun x':Ext (w.alloc (.cells (Z4 105 V k (M:Int) (H:Int) g i n v) 164))=>zed base B V g0 n0 N S D k g i n v M H r hr (by have:=h6 M r hr;omega) (h6 M r hr) hmm x'.val (hw1.out.below x'.below) (hV1.out.below x'.below));have hz:=Z0 (fun x':Ext (w.alloc (.cells (Z4 105 V k (M:Int) (H:Int) g i n v) 164))=>zlg base B V g0 n0 N S D (r[H]?.getD 0) kk jj s hF ho ha hks x'.val (hw1.out.below x'.below) (hV1.out.below x'.below));have hM:=zpd V;have hi:=Z0 (fun w:World=>T7 hb w);clear hw hV bx hw1 hV1 hp hmm h6 hF hr hH ho ha hks hq hb;generalize s.lens[jj]?.getD 0=sl at *;generalize r[H]?.getD 0=ad at *;generalize s.ptrs[jj]?.getD 0=sp at *
 cases b
 ·go_enter func195,ntmps195
  go_upto_region 1 with fail;generalize w.alloc (.cells (Z4 105 V k (M:Int) (H:Int) g i n v) 164)=W at *;go_wp2_with (first|(go_at_call 194;with_reducible refine(hc.out _ (Below.refl _ _)).mono ?_;rintro e w1⟨rfl,b1⟩;obtain⟨x1,rfl⟩:=Ext.of b1;clear b1)|(go_at_call 190;refine(hd.out _ (Ext.below _)).mono ?_;rintro e w1⟨rfl,b1⟩;obtain⟨x2,rfl⟩:=Ext.then _ b1;clear b1));refine Y6 (Ext.below _) (by kernel_rfl) (by kernel_rfl) ?_
  repeat (go_big_quiet_step ((first|(go_at_call 141;with_reducible exact Ext.call (hh.out _))|(go_at_call 175;with_reducible exact Ext.call (hz.out _)))))
  refine wpQuiet_nil ?_;intro _ hw';obtain⟨x9,hw''⟩:=hw';subst hw'';go_wp2_with (go_at_call 73;refine(hi.out _).mono ?_;rintro e w1⟨rfl,rfl⟩);go_ret;exact⟨rfl,Z7 bb.out (Ext.below _)⟩
 ·go_enter func195,ntmps195
  go_upto_region 1 with fail;generalize w.alloc (.cells (Z4 105 V k (M:Int) (H:Int) g i n v) 164)=W at *;go_wp2_with (first|(go_at_call 194;with_reducible refine(hc.out _ (Below.refl _ _)).mono ?_;rintro e w1⟨rfl,b1⟩;obtain⟨x1,rfl⟩:=Ext.of b1;clear b1)|(go_at_call 190;refine(hd.out _ (Ext.below _)).mono ?_;rintro e w1⟨rfl,b1⟩;obtain⟨x2,rfl⟩:=Ext.then _ b1;clear b1));refine Y6 (Ext.below _) (by kernel_rfl) (by kernel_rfl) ?_
  repeat (go_big_quiet_step ((first|(go_at_call 141;with_reducible exact Ext.call (hh.out _))|(go_at_call 175;with_reducible exact Ext.call (hz.out _)))))
  refine wpQuiet_nil ?_;intro _ hw';obtain⟨x9,hw''⟩:=hw';subst hw'';go_wp2_with (go_at_call 73;refine(hi.out _).mono ?_;rintro e w1⟨rfl,rfl⟩);go_ret;exact⟨rfl,Z7 bb.out (Ext.below _)⟩
theorem zgx(base B V g0 n0:Nat)(N:DataW Unit)(S:Y9)(D:WD)(k g i n v:Int)(M H:Nat)(r:List Int)(kk jj:Nat)(s:Y7)(hF:Y5 D)(hr:D.muts[M]?=some r)(hH:H<6)(ho:R6 D (r[H]?.getD 0) kk jj)(ha:I64 (r[H]?.getD 0))(hks:D.spans[kk]?=some s)(hp:(hasB D (M:Int) (H:Int) && (V2 D (M:Int) (H:Int) != 0))=true)(b:Bool)(hb:inB i (s.ptrs[jj]?.getD 0) (s.lens[jj]?.getD 0-1)=b)(w:World)(hw:VarW w base B S D)(hV:U6 D w V B g0 n0 N) :
  Calls prog 196 #[.agg #[.iface 105 (.pointer (some ⟨V,0,none⟩)),.int .i64 k,.int .i64 (M:Int),.int .i64 (H:Int),.int .i64 g,.int .i64 i,.int .i64 n,.int .i64 v]] w fun e w'=>e=.returned (.int .i64 (if b then 0 else 4))∧Below w.heap.size w w':=by
 have hmm:D.muts.length≤3:=by have:=hF.geo.2.2.2.2.2.2;omega
 have h6:=hF.roots
 obtain⟨hl0,hl1,hp0,hp1⟩:0≤s.lens[jj]?.getD 0∧s.lens[jj]?.getD 0≤16∧0≤s.ptrs[jj]?.getD 0∧s.ptrs[jj]?.getD 0≤16:=by
  obtain⟨s',h1,h2,h3,_⟩:=id ho;rw[hks]at h1
  cases h1
  have h4:=(hF.span kk s hks).slot jj h2;have h5:=(hF.slotIn hks h2).bd;have:=h4.p0;have:=h4.p1;have:=h4.l1;omega
 have bb:=Z0 (Y2 w (.cells (Z4 105 V k (M:Int) (H:Int) g i n v) 168));have bx:=Y8 w (.cells (Z4 105 V k (M:Int) (H:Int) g i n v) 168);have q0:=Z6 bx 0 (.iface 105 (.pointer (some ⟨V,0,none⟩))) rfl;have Q0:=Ext.cell q0;have q1:=Z6 bx 1 (.int .i64 k) rfl;have Q1:=Ext.cell q1;have q2:=Z6 bx 2 (.int .i64 (M:Int)) rfl;have Q2:=Ext.cell q2;have q3:=Z6 bx 3 (.int .i64 (H:Int)) rfl;have Q3:=Ext.cell q3;have q4:=Z6 bx 4 (.int .i64 g) rfl;have Q4:=Ext.cell q4;have q5:=Z6 bx 5 (.int .i64 i) rfl;have Q5:=Ext.cell q5;have q6:=Z6 bx 6 (.int .i64 n) rfl;have Q6:=Ext.cell q6;have q7:=Z6 bx 7 (.int .i64 v) rfl;have Q7:=Ext.cell q7;have hw1:=Z0 (hw.below bb.out);have hV1:=Z0 (hV.below bb.out);have hc:=Z0 (fun(w':World) (hb:Below (w.alloc (.cells (Z4 105 V k (M:Int) (H:Int) g i n v) 168)).heap.size (w.alloc (.cells (Z4 105 V k (M:Int) (H:Int) g i n v) 168)) w')=>(zgj base B V g0 n0 N S D k (M:Int) (H:Int) g i n v hmm h6 w' (hw1.out.below hb) (hV1.out.below hb)).mono fun e w'' ⟨h1,h2⟩=>(⟨by rw[h1,hp],h2⟩:e=Ending.returned (.bool true)∧Below w'.heap.size w' w''));have hh:=Z0 (fun x':Ext (w.alloc (.cells (Z4 105 V k (M:Int) (H:Int) g i n v) 168))=>zed base B V g0 n0 N S D k g i n v M H r hr (by have:=h6 M r hr;omega) (h6 M r hr) hmm x'.val (hw1.out.below x'.below) (hV1.out.below x'.below));have hz:=Z0 (fun x':Ext (w.alloc (.cells (Z4 105 V k (M:Int) (H:Int) g i n v) 168))=>zlg base B V g0 n0 N S D (r[H]?.getD 0) kk jj s hF ho ha hks x'.val (hw1.out.below x'.below) (hV1.out.below x'.below));have hM:=zpd V;have hi:=Z0 (fun w:World=>T7 hb w);clear hw hV bx hw1 hV1 hp hmm h6 hF hr hH ho ha hks hb;generalize s.lens[jj]?.getD 0=sl at *;generalize r[H]?.getD 0=ad at *;generalize s.ptrs[jj]?.getD 0=sp at *
 cases b
 ·go_enter func196,ntmps196
  go_upto_region 1 with fail;generalize w.alloc (.cells (Z4 105 V k (M:Int) (H:Int) g i n v) 168)=W at *;go_wp2_with (first|(go_at_call 194;with_reducible refine(hc.out _ (Below.refl _ _)).mono ?_;rintro e w1⟨rfl,b1⟩;obtain⟨x1,rfl⟩:=Ext.of b1;clear b1));refine Y6 (Ext.below _) (by kernel_rfl) (by kernel_rfl) ?_
  repeat (go_big_quiet_step ((first|(go_at_call 141;with_reducible exact Ext.call (hh.out _))|(go_at_call 175;with_reducible exact Ext.call (hz.out _)))))
  refine wpQuiet_nil ?_;intro _ hw';obtain⟨x9,hw''⟩:=hw';subst hw'';go_wp2_with (go_at_call 73;refine(hi.out _).mono ?_;rintro e w1⟨rfl,rfl⟩);go_ret;exact⟨rfl,Z7 bb.out (Ext.below _)⟩
 ·go_enter func196,ntmps196
  go_upto_region 1 with fail;generalize w.alloc (.cells (Z4 105 V k (M:Int) (H:Int) g i n v) 168)=W at *;go_wp2_with (first|(go_at_call 194;with_reducible refine(hc.out _ (Below.refl _ _)).mono ?_;rintro e w1⟨rfl,b1⟩;obtain⟨x1,rfl⟩:=Ext.of b1;clear b1));refine Y6 (Ext.below _) (by kernel_rfl) (by kernel_rfl) ?_
  repeat (go_big_quiet_step ((first|(go_at_call 141;with_reducible exact Ext.call (hh.out _))|(go_at_call 175;with_reducible exact Ext.call (hz.out _)))))
  refine wpQuiet_nil ?_;intro _ hw';obtain⟨x9,hw''⟩:=hw';subst hw'';go_wp2_with (go_at_call 73;refine(hi.out _).mono ?_;rintro e w1⟨rfl,rfl⟩);go_ret;exact⟨rfl,Z7 bb.out (Ext.below _)⟩
end Go.Proofs.YtjjamgeoompbkaaGreat

namespace Go.Proofs.YtjjamgeoompbkaaGreat
open Go.RowKit
open Go.Proofs.Tryz
theorem zyv(V:Nat)(m h g i n v:Int)(w:World):Calls prog 117 #[.agg #[.iface 105 (.pointer (some ⟨V,0,none⟩)),.int .i64 1,.int .i64 m,.int .i64 h,.int .i64 g,.int .i64 i,.int .i64 n,.int .i64 v]] w fun e w'=>e=.returned (.iface 161 (.agg #[.iface 105 (.pointer (some ⟨V,0,none⟩)),.int .i64 1,.int .i64 m,.int .i64 h,.int .i64 g,.int .i64 i,.int .i64 n,.int .i64 v]))∧Below w.heap.size w w':=by
 have bb:=Z0 (Y2 w (.cells (Z4 105 V 1 m h g i n v) 144));go_enter func117,ntmps117;go_wp2_with fail;go_ret;exact⟨rfl,bb.out⟩
theorem zui(V:Nat)(m h g i n v:Int)(w:World):Calls prog 117 #[.agg #[.iface 105 (.pointer (some ⟨V,0,none⟩)),.int .i64 2,.int .i64 m,.int .i64 h,.int .i64 g,.int .i64 i,.int .i64 n,.int .i64 v]] w fun e w'=>e=.returned (.iface 166 (.agg #[.iface 105 (.pointer (some ⟨V,0,none⟩)),.int .i64 2,.int .i64 m,.int .i64 h,.int .i64 g,.int .i64 i,.int .i64 n,.int .i64 v]))∧Below w.heap.size w w':=by
 have bb:=Z0 (Y2 w (.cells (Z4 105 V 2 m h g i n v) 144));go_enter func117,ntmps117;go_wp2_with fail;go_ret;exact⟨rfl,bb.out⟩
theorem zuh(V:Nat)(m h g i n v:Int)(w:World):Calls prog 117 #[.agg #[.iface 105 (.pointer (some ⟨V,0,none⟩)),.int .i64 3,.int .i64 m,.int .i64 h,.int .i64 g,.int .i64 i,.int .i64 n,.int .i64 v]] w fun e w'=>e=.returned (.iface 167 (.agg #[.iface 105 (.pointer (some ⟨V,0,none⟩)),.int .i64 3,.int .i64 m,.int .i64 h,.int .i64 g,.int .i64 i,.int .i64 n,.int .i64 v]))∧Below w.heap.size w w':=by
 have bb:=Z0 (Y2 w (.cells (Z4 105 V 3 m h g i n v) 144));go_enter func117,ntmps117;go_wp2_with fail;go_ret;exact⟨rfl,bb.out⟩
theorem zyu(V:Nat)(m h g i n v:Int)(w:World):Calls prog 117 #[.agg #[.iface 105 (.pointer (some ⟨V,0,none⟩)),.int .i64 4,.int .i64 m,.int .i64 h,.int .i64 g,.int .i64 i,.int .i64 n,.int .i64 v]] w fun e w'=>e=.returned (.iface 170 (.agg #[.iface 105 (.pointer (some ⟨V,0,none⟩)),.int .i64 4,.int .i64 m,.int .i64 h,.int .i64 g,.int .i64 i,.int .i64 n,.int .i64 v]))∧Below w.heap.size w w':=by
 have bb:=Z0 (Y2 w (.cells (Z4 105 V 4 m h g i n v) 144));go_enter func117,ntmps117;go_wp2_with fail;go_ret;exact⟨rfl,bb.out⟩
theorem zyt(V:Nat)(m h g i n v:Int)(w:World):Calls prog 117 #[.agg #[.iface 105 (.pointer (some ⟨V,0,none⟩)),.int .i64 5,.int .i64 m,.int .i64 h,.int .i64 g,.int .i64 i,.int .i64 n,.int .i64 v]] w fun e w'=>e=.returned (.iface 171 (.agg #[.iface 105 (.pointer (some ⟨V,0,none⟩)),.int .i64 5,.int .i64 m,.int .i64 h,.int .i64 g,.int .i64 i,.int .i64 n,.int .i64 v]))∧Below w.heap.size w w':=by
 have bb:=Z0 (Y2 w (.cells (Z4 105 V 5 m h g i n v) 144));go_enter func117,ntmps117;go_wp2_with fail;go_ret;exact⟨rfl,bb.out⟩
theorem opOf_6(V:Nat)(m h g i n v:Int)(w:World):Calls prog 117 #[.agg #[.iface 105 (.pointer (some ⟨V,0,none⟩)),.int .i64 6,.int .i64 m,.int .i64 h,.int .i64 g,.int .i64 i,.int .i64 n,.int .i64 v]] w fun e w'=>e=.returned (.iface 172 (.agg #[.iface 105 (.pointer (some ⟨V,0,none⟩)),.int .i64 6,.int .i64 m,.int .i64 h,.int .i64 g,.int .i64 i,.int .i64 n,.int .i64 v]))∧Below w.heap.size w w':=by
 have bb:=Z0 (Y2 w (.cells (Z4 105 V 6 m h g i n v) 144));go_enter func117,ntmps117;go_wp2_with fail;go_ret;exact⟨rfl,bb.out⟩
theorem zys(V:Nat)(m h g i n v:Int)(w:World):Calls prog 117 #[.agg #[.iface 105 (.pointer (some ⟨V,0,none⟩)),.int .i64 7,.int .i64 m,.int .i64 h,.int .i64 g,.int .i64 i,.int .i64 n,.int .i64 v]] w fun e w'=>e=.returned (.iface 175 (.agg #[.iface 105 (.pointer (some ⟨V,0,none⟩)),.int .i64 7,.int .i64 m,.int .i64 h,.int .i64 g,.int .i64 i,.int .i64 n,.int .i64 v]))∧Below w.heap.size w w':=by
 have bb:=Z0 (Y2 w (.cells (Z4 105 V 7 m h g i n v) 144));go_enter func117,ntmps117;go_wp2_with fail;go_ret;exact⟨rfl,bb.out⟩
theorem zyr(V:Nat)(m h g i n v:Int)(w:World):Calls prog 117 #[.agg #[.iface 105 (.pointer (some ⟨V,0,none⟩)),.int .i64 8,.int .i64 m,.int .i64 h,.int .i64 g,.int .i64 i,.int .i64 n,.int .i64 v]] w fun e w'=>e=.returned (.iface 176 (.agg #[.iface 105 (.pointer (some ⟨V,0,none⟩)),.int .i64 8,.int .i64 m,.int .i64 h,.int .i64 g,.int .i64 i,.int .i64 n,.int .i64 v]))∧Below w.heap.size w w':=by
 have bb:=Z0 (Y2 w (.cells (Z4 105 V 8 m h g i n v) 144));go_enter func117,ntmps117;go_wp2_with fail;go_ret;exact⟨rfl,bb.out⟩
theorem opOf_9(V:Nat)(m h g i n v:Int)(w:World):Calls prog 117 #[.agg #[.iface 105 (.pointer (some ⟨V,0,none⟩)),.int .i64 9,.int .i64 m,.int .i64 h,.int .i64 g,.int .i64 i,.int .i64 n,.int .i64 v]] w fun e w'=>e=.returned (.iface 177 (.agg #[.iface 105 (.pointer (some ⟨V,0,none⟩)),.int .i64 9,.int .i64 m,.int .i64 h,.int .i64 g,.int .i64 i,.int .i64 n,.int .i64 v]))∧Below w.heap.size w w':=by
 have bb:=Z0 (Y2 w (.cells (Z4 105 V 9 m h g i n v) 144));go_enter func117,ntmps117;go_wp2_with fail;go_ret;exact⟨rfl,bb.out⟩
theorem opOf_no(V:Nat)(k m h g i n v:Int)(hk:¬T8 k)(w:World):Calls prog 117 #[.agg #[.iface 105 (.pointer (some ⟨V,0,none⟩)),.int .i64 k,.int .i64 m,.int .i64 h,.int .i64 g,.int .i64 i,.int .i64 n,.int .i64 v]] w fun e w'=>e=.returned .nilIface∧Below w.heap.size w w':=by
 have bb:=Z0 (Y2 w (.cells (Z4 105 V k m h g i n v) 144));have d1:(k == 1)=false:=beq_eq_false_iff_ne.2 fun e=>hk (by subst e;unfold T8;omega);have e1:¬k=1:=fun e=>hk (by subst e;unfold T8;omega);have d2:(k == 2)=false:=beq_eq_false_iff_ne.2 fun e=>hk (by subst e;unfold T8;omega);have e2:¬k=2:=fun e=>hk (by subst e;unfold T8;omega);have d3:(k == 3)=false:=beq_eq_false_iff_ne.2 fun e=>hk (by subst e;unfold T8;omega);have e3:¬k=3:=fun e=>hk (by subst e;unfold T8;omega);have d4:(k == 4)=false:=beq_eq_false_iff_ne.2 fun e=>hk (by subst e;unfold T8;omega);have e4:¬k=4:=fun e=>hk (by subst e;unfold T8;omega);have d5:(k == 5)=false:=beq_eq_false_iff_ne.2 fun e=>hk (by subst e;unfold T8;omega);have e5:¬k=5:=fun e=>hk (by subst e;unfold T8;omega);have d6:(k == 6)=false:=beq_eq_false_iff_ne.2 fun e=>hk (by subst e;unfold T8;omega);have e6:¬k=6:=fun e=>hk (by subst e;unfold T8;omega);have d7:(k == 7)=false:=beq_eq_false_iff_ne.2 fun e=>hk (by subst e;unfold T8;omega);have e7:¬k=7:=fun e=>hk (by subst e;unfold T8;omega);have d8:(k == 8)=false:=beq_eq_false_iff_ne.2 fun e=>hk (by subst e;unfold T8;omega);have e8:¬k=8:=fun e=>hk (by subst e;unfold T8;omega);have d9:(k == 9)=false:=beq_eq_false_iff_ne.2 fun e=>hk (by subst e;unfold T8;omega);have e9:¬k=9:=fun e=>hk (by subst e;unfold T8;omega);clear hk;go_enter func117,ntmps117;go_wp2_with fail;go_ret;exact⟨rfl,bb.out⟩
theorem zqf (V : Nat) (m h g i n v : Int) (w : World) : (method (prog.types.size + Made.depth) 161 (.agg #[.iface 105 (.pointer (some ⟨V, 0, none⟩)), .int .i64 1, .int .i64 m, .int .i64 h, .int .i64 g, .int .i64 i, .int .i64 n, .int .i64 v]) "loop.example/g00690/impl.code").run prog w = .ok (191, .agg #[.iface 105 (.pointer (some ⟨V, 0, none⟩)), .int .i64 1, .int .i64 m, .int .i64 h, .int .i64 g, .int .i64 i, .int .i64 n, .int .i64 v]) w := by kernel_rfl
theorem zmu (V : Nat) (m h g i n v : Int) (w : World) : (method (prog.types.size + Made.depth) 166 (.agg #[.iface 105 (.pointer (some ⟨V, 0, none⟩)), .int .i64 2, .int .i64 m, .int .i64 h, .int .i64 g, .int .i64 i, .int .i64 n, .int .i64 v]) "loop.example/g00690/impl.code").run prog w = .ok (195, .agg #[.iface 105 (.pointer (some ⟨V, 0, none⟩)), .int .i64 2, .int .i64 m, .int .i64 h, .int .i64 g, .int .i64 i, .int .i64 n, .int .i64 v]) w := by kernel_rfl
theorem zmt (V : Nat) (m h g i n v : Int) (w : World) : (method (prog.types.size + Made.depth) 167 (.agg #[.iface 105 (.pointer (some ⟨V, 0, none⟩)), .int .i64 3, .int .i64 m, .int .i64 h, .int .i64 g, .int .i64 i, .int .i64 n, .int .i64 v]) "loop.example/g00690/impl.code").run prog w = .ok (195, .agg #[.iface 105 (.pointer (some ⟨V, 0, none⟩)), .int .i64 3, .int .i64 m, .int .i64 h, .int .i64 g, .int .i64 i, .int .i64 n, .int .i64 v]) w := by kernel_rfl
theorem zqe (V : Nat) (m h g i n v : Int) (w : World) : (method (prog.types.size + Made.depth) 170 (.agg #[.iface 105 (.pointer (some ⟨V, 0, none⟩)), .int .i64 4, .int .i64 m, .int .i64 h, .int .i64 g, .int .i64 i, .int .i64 n, .int .i64 v]) "loop.example/g00690/impl.code").run prog w = .ok (196, .agg #[.iface 105 (.pointer (some ⟨V, 0, none⟩)), .int .i64 4, .int .i64 m, .int .i64 h, .int .i64 g, .int .i64 i, .int .i64 n, .int .i64 v]) w := by kernel_rfl
theorem zqd (V : Nat) (m h g i n v : Int) (w : World) : (method (prog.types.size + Made.depth) 171 (.agg #[.iface 105 (.pointer (some ⟨V, 0, none⟩)), .int .i64 5, .int .i64 m, .int .i64 h, .int .i64 g, .int .i64 i, .int .i64 n, .int .i64 v]) "loop.example/g00690/impl.code").run prog w = .ok (196, .agg #[.iface 105 (.pointer (some ⟨V, 0, none⟩)), .int .i64 5, .int .i64 m, .int .i64 h, .int .i64 g, .int .i64 i, .int .i64 n, .int .i64 v]) w := by kernel_rfl
theorem zus (V : Nat) (m h g i n v : Int) (w : World) : (method (prog.types.size + Made.depth) 172 (.agg #[.iface 105 (.pointer (some ⟨V, 0, none⟩)), .int .i64 6, .int .i64 m, .int .i64 h, .int .i64 g, .int .i64 i, .int .i64 n, .int .i64 v]) "loop.example/g00690/impl.code").run prog w = .ok (189, .agg #[.iface 105 (.pointer (some ⟨V, 0, none⟩)), .int .i64 6, .int .i64 m, .int .i64 h, .int .i64 g, .int .i64 i, .int .i64 n, .int .i64 v]) w := by kernel_rfl
theorem zqc (V : Nat) (m h g i n v : Int) (w : World) : (method (prog.types.size + Made.depth) 175 (.agg #[.iface 105 (.pointer (some ⟨V, 0, none⟩)), .int .i64 7, .int .i64 m, .int .i64 h, .int .i64 g, .int .i64 i, .int .i64 n, .int .i64 v]) "loop.example/g00690/impl.code").run prog w = .ok (197, .agg #[.iface 105 (.pointer (some ⟨V, 0, none⟩)), .int .i64 7, .int .i64 m, .int .i64 h, .int .i64 g, .int .i64 i, .int .i64 n, .int .i64 v]) w := by kernel_rfl
theorem zqb (V : Nat) (m h g i n v : Int) (w : World) : (method (prog.types.size + Made.depth) 176 (.agg #[.iface 105 (.pointer (some ⟨V, 0, none⟩)), .int .i64 8, .int .i64 m, .int .i64 h, .int .i64 g, .int .i64 i, .int .i64 n, .int .i64 v]) "loop.example/g00690/impl.code").run prog w = .ok (197, .agg #[.iface 105 (.pointer (some ⟨V, 0, none⟩)), .int .i64 8, .int .i64 m, .int .i64 h, .int .i64 g, .int .i64 i, .int .i64 n, .int .i64 v]) w := by kernel_rfl
theorem zur (V : Nat) (m h g i n v : Int) (w : World) : (method (prog.types.size + Made.depth) 177 (.agg #[.iface 105 (.pointer (some ⟨V, 0, none⟩)), .int .i64 9, .int .i64 m, .int .i64 h, .int .i64 g, .int .i64 i, .int .i64 n, .int .i64 v]) "loop.example/g00690/impl.code").run prog w = .ok (193, .agg #[.iface 105 (.pointer (some ⟨V, 0, none⟩)), .int .i64 9, .int .i64 m, .int .i64 h, .int .i64 g, .int .i64 i, .int .i64 n, .int .i64 v]) w := by kernel_rfl
theorem ta_1_1(v:Value)(w:World):(Instr.typeAssert (.iface 161 v) 141 161 true).run prog w=.ok (.tuple #[v,.bool true]) w:=by kernel_rfl
theorem ta_2_1(v:Value)(w:World):(Instr.typeAssert (.iface 166 v) 141 161 true).run prog w=.ok (.tuple #[.agg #[.nilIface,.int .i64 0,.int .i64 0,.int .i64 0,.int .i64 0,.int .i64 0,.int .i64 0,.int .i64 0],.bool false]) w:=by kernel_rfl
theorem ta_2_2(v:Value)(w:World):(Instr.typeAssert (.iface 166 v) 141 166 true).run prog w=.ok (.tuple #[v,.bool true]) w:=by kernel_rfl
theorem ta_3_1(v:Value)(w:World):(Instr.typeAssert (.iface 167 v) 141 161 true).run prog w=.ok (.tuple #[.agg #[.nilIface,.int .i64 0,.int .i64 0,.int .i64 0,.int .i64 0,.int .i64 0,.int .i64 0,.int .i64 0],.bool false]) w:=by kernel_rfl
theorem ta_3_2(v:Value)(w:World):(Instr.typeAssert (.iface 167 v) 141 166 true).run prog w=.ok (.tuple #[.agg #[.nilIface,.int .i64 0,.int .i64 0,.int .i64 0,.int .i64 0,.int .i64 0,.int .i64 0,.int .i64 0],.bool false]) w:=by kernel_rfl
theorem ta_3_3(v:Value)(w:World):(Instr.typeAssert (.iface 167 v) 141 167 true).run prog w=.ok (.tuple #[v,.bool true]) w:=by kernel_rfl
theorem ta_4_1(v:Value)(w:World):(Instr.typeAssert (.iface 170 v) 141 161 true).run prog w=.ok (.tuple #[.agg #[.nilIface,.int .i64 0,.int .i64 0,.int .i64 0,.int .i64 0,.int .i64 0,.int .i64 0,.int .i64 0],.bool false]) w:=by kernel_rfl
theorem ta_4_2(v:Value)(w:World):(Instr.typeAssert (.iface 170 v) 141 166 true).run prog w=.ok (.tuple #[.agg #[.nilIface,.int .i64 0,.int .i64 0,.int .i64 0,.int .i64 0,.int .i64 0,.int .i64 0,.int .i64 0],.bool false]) w:=by kernel_rfl
theorem ta_4_3(v:Value)(w:World):(Instr.typeAssert (.iface 170 v) 141 167 true).run prog w=.ok (.tuple #[.agg #[.nilIface,.int .i64 0,.int .i64 0,.int .i64 0,.int .i64 0,.int .i64 0,.int .i64 0,.int .i64 0],.bool false]) w:=by kernel_rfl
theorem ta_4_4(v:Value)(w:World):(Instr.typeAssert (.iface 170 v) 141 170 true).run prog w=.ok (.tuple #[v,.bool true]) w:=by kernel_rfl
theorem ta_5_1(v:Value)(w:World):(Instr.typeAssert (.iface 171 v) 141 161 true).run prog w=.ok (.tuple #[.agg #[.nilIface,.int .i64 0,.int .i64 0,.int .i64 0,.int .i64 0,.int .i64 0,.int .i64 0,.int .i64 0],.bool false]) w:=by kernel_rfl
theorem ta_5_2(v:Value)(w:World):(Instr.typeAssert (.iface 171 v) 141 166 true).run prog w=.ok (.tuple #[.agg #[.nilIface,.int .i64 0,.int .i64 0,.int .i64 0,.int .i64 0,.int .i64 0,.int .i64 0,.int .i64 0],.bool false]) w:=by kernel_rfl
theorem ta_5_3(v:Value)(w:World):(Instr.typeAssert (.iface 171 v) 141 167 true).run prog w=.ok (.tuple #[.agg #[.nilIface,.int .i64 0,.int .i64 0,.int .i64 0,.int .i64 0,.int .i64 0,.int .i64 0,.int .i64 0],.bool false]) w:=by kernel_rfl
theorem ta_5_4(v:Value)(w:World):(Instr.typeAssert (.iface 171 v) 141 170 true).run prog w=.ok (.tuple #[.agg #[.nilIface,.int .i64 0,.int .i64 0,.int .i64 0,.int .i64 0,.int .i64 0,.int .i64 0,.int .i64 0],.bool false]) w:=by kernel_rfl
theorem ta_5_5(v:Value)(w:World):(Instr.typeAssert (.iface 171 v) 141 171 true).run prog w=.ok (.tuple #[v,.bool true]) w:=by kernel_rfl
theorem ta_6_1(v:Value)(w:World):(Instr.typeAssert (.iface 172 v) 141 161 true).run prog w=.ok (.tuple #[.agg #[.nilIface,.int .i64 0,.int .i64 0,.int .i64 0,.int .i64 0,.int .i64 0,.int .i64 0,.int .i64 0],.bool false]) w:=by kernel_rfl
theorem ta_6_2(v:Value)(w:World):(Instr.typeAssert (.iface 172 v) 141 166 true).run prog w=.ok (.tuple #[.agg #[.nilIface,.int .i64 0,.int .i64 0,.int .i64 0,.int .i64 0,.int .i64 0,.int .i64 0,.int .i64 0],.bool false]) w:=by kernel_rfl
theorem ta_6_3(v:Value)(w:World):(Instr.typeAssert (.iface 172 v) 141 167 true).run prog w=.ok (.tuple #[.agg #[.nilIface,.int .i64 0,.int .i64 0,.int .i64 0,.int .i64 0,.int .i64 0,.int .i64 0,.int .i64 0],.bool false]) w:=by kernel_rfl
theorem ta_6_4(v:Value)(w:World):(Instr.typeAssert (.iface 172 v) 141 170 true).run prog w=.ok (.tuple #[.agg #[.nilIface,.int .i64 0,.int .i64 0,.int .i64 0,.int .i64 0,.int .i64 0,.int .i64 0,.int .i64 0],.bool false]) w:=by kernel_rfl
theorem ta_6_5(v:Value)(w:World):(Instr.typeAssert (.iface 172 v) 141 171 true).run prog w=.ok (.tuple #[.agg #[.nilIface,.int .i64 0,.int .i64 0,.int .i64 0,.int .i64 0,.int .i64 0,.int .i64 0,.int .i64 0],.bool false]) w:=by kernel_rfl
theorem ta_6_6(v:Value)(w:World):(Instr.typeAssert (.iface 172 v) 141 172 true).run prog w=.ok (.tuple #[v,.bool true]) w:=by kernel_rfl
theorem ta_7_1(v:Value)(w:World):(Instr.typeAssert (.iface 175 v) 141 161 true).run prog w=.ok (.tuple #[.agg #[.nilIface,.int .i64 0,.int .i64 0,.int .i64 0,.int .i64 0,.int .i64 0,.int .i64 0,.int .i64 0],.bool false]) w:=by kernel_rfl
theorem ta_7_2(v:Value)(w:World):(Instr.typeAssert (.iface 175 v) 141 166 true).run prog w=.ok (.tuple #[.agg #[.nilIface,.int .i64 0,.int .i64 0,.int .i64 0,.int .i64 0,.int .i64 0,.int .i64 0,.int .i64 0],.bool false]) w:=by kernel_rfl
theorem ta_7_3(v:Value)(w:World):(Instr.typeAssert (.iface 175 v) 141 167 true).run prog w=.ok (.tuple #[.agg #[.nilIface,.int .i64 0,.int .i64 0,.int .i64 0,.int .i64 0,.int .i64 0,.int .i64 0,.int .i64 0],.bool false]) w:=by kernel_rfl
theorem ta_7_4(v:Value)(w:World):(Instr.typeAssert (.iface 175 v) 141 170 true).run prog w=.ok (.tuple #[.agg #[.nilIface,.int .i64 0,.int .i64 0,.int .i64 0,.int .i64 0,.int .i64 0,.int .i64 0,.int .i64 0],.bool false]) w:=by kernel_rfl
theorem ta_7_5(v:Value)(w:World):(Instr.typeAssert (.iface 175 v) 141 171 true).run prog w=.ok (.tuple #[.agg #[.nilIface,.int .i64 0,.int .i64 0,.int .i64 0,.int .i64 0,.int .i64 0,.int .i64 0,.int .i64 0],.bool false]) w:=by kernel_rfl
theorem ta_7_6(v:Value)(w:World):(Instr.typeAssert (.iface 175 v) 141 172 true).run prog w=.ok (.tuple #[.agg #[.nilIface,.int .i64 0,.int .i64 0,.int .i64 0,.int .i64 0,.int .i64 0,.int .i64 0,.int .i64 0],.bool false]) w:=by kernel_rfl
theorem ta_7_7(v:Value)(w:World):(Instr.typeAssert (.iface 175 v) 141 175 true).run prog w=.ok (.tuple #[v,.bool true]) w:=by kernel_rfl
theorem ta_8_1(v:Value)(w:World):(Instr.typeAssert (.iface 176 v) 141 161 true).run prog w=.ok (.tuple #[.agg #[.nilIface,.int .i64 0,.int .i64 0,.int .i64 0,.int .i64 0,.int .i64 0,.int .i64 0,.int .i64 0],.bool false]) w:=by kernel_rfl
theorem ta_8_2(v:Value)(w:World):(Instr.typeAssert (.iface 176 v) 141 166 true).run prog w=.ok (.tuple #[.agg #[.nilIface,.int .i64 0,.int .i64 0,.int .i64 0,.int .i64 0,.int .i64 0,.int .i64 0,.int .i64 0],.bool false]) w:=by kernel_rfl
theorem ta_8_3(v:Value)(w:World):(Instr.typeAssert (.iface 176 v) 141 167 true).run prog w=.ok (.tuple #[.agg #[.nilIface,.int .i64 0,.int .i64 0,.int .i64 0,.int .i64 0,.int .i64 0,.int .i64 0,.int .i64 0],.bool false]) w:=by kernel_rfl
theorem ta_8_4(v:Value)(w:World):(Instr.typeAssert (.iface 176 v) 141 170 true).run prog w=.ok (.tuple #[.agg #[.nilIface,.int .i64 0,.int .i64 0,.int .i64 0,.int .i64 0,.int .i64 0,.int .i64 0,.int .i64 0],.bool false]) w:=by kernel_rfl
theorem ta_8_5(v:Value)(w:World):(Instr.typeAssert (.iface 176 v) 141 171 true).run prog w=.ok (.tuple #[.agg #[.nilIface,.int .i64 0,.int .i64 0,.int .i64 0,.int .i64 0,.int .i64 0,.int .i64 0,.int .i64 0],.bool false]) w:=by kernel_rfl
theorem ta_8_6(v:Value)(w:World):(Instr.typeAssert (.iface 176 v) 141 172 true).run prog w=.ok (.tuple #[.agg #[.nilIface,.int .i64 0,.int .i64 0,.int .i64 0,.int .i64 0,.int .i64 0,.int .i64 0,.int .i64 0],.bool false]) w:=by kernel_rfl
theorem ta_8_7(v:Value)(w:World):(Instr.typeAssert (.iface 176 v) 141 175 true).run prog w=.ok (.tuple #[.agg #[.nilIface,.int .i64 0,.int .i64 0,.int .i64 0,.int .i64 0,.int .i64 0,.int .i64 0,.int .i64 0],.bool false]) w:=by kernel_rfl
theorem ta_8_8(v:Value)(w:World):(Instr.typeAssert (.iface 176 v) 141 176 true).run prog w=.ok (.tuple #[v,.bool true]) w:=by kernel_rfl
theorem ta_9_1(v:Value)(w:World):(Instr.typeAssert (.iface 177 v) 141 161 true).run prog w=.ok (.tuple #[.agg #[.nilIface,.int .i64 0,.int .i64 0,.int .i64 0,.int .i64 0,.int .i64 0,.int .i64 0,.int .i64 0],.bool false]) w:=by kernel_rfl
theorem ta_9_2(v:Value)(w:World):(Instr.typeAssert (.iface 177 v) 141 166 true).run prog w=.ok (.tuple #[.agg #[.nilIface,.int .i64 0,.int .i64 0,.int .i64 0,.int .i64 0,.int .i64 0,.int .i64 0,.int .i64 0],.bool false]) w:=by kernel_rfl
theorem ta_9_3(v:Value)(w:World):(Instr.typeAssert (.iface 177 v) 141 167 true).run prog w=.ok (.tuple #[.agg #[.nilIface,.int .i64 0,.int .i64 0,.int .i64 0,.int .i64 0,.int .i64 0,.int .i64 0,.int .i64 0],.bool false]) w:=by kernel_rfl
theorem ta_9_4(v:Value)(w:World):(Instr.typeAssert (.iface 177 v) 141 170 true).run prog w=.ok (.tuple #[.agg #[.nilIface,.int .i64 0,.int .i64 0,.int .i64 0,.int .i64 0,.int .i64 0,.int .i64 0,.int .i64 0],.bool false]) w:=by kernel_rfl
theorem ta_9_5(v:Value)(w:World):(Instr.typeAssert (.iface 177 v) 141 171 true).run prog w=.ok (.tuple #[.agg #[.nilIface,.int .i64 0,.int .i64 0,.int .i64 0,.int .i64 0,.int .i64 0,.int .i64 0,.int .i64 0],.bool false]) w:=by kernel_rfl
theorem ta_9_6(v:Value)(w:World):(Instr.typeAssert (.iface 177 v) 141 172 true).run prog w=.ok (.tuple #[.agg #[.nilIface,.int .i64 0,.int .i64 0,.int .i64 0,.int .i64 0,.int .i64 0,.int .i64 0,.int .i64 0],.bool false]) w:=by kernel_rfl
theorem ta_9_7(v:Value)(w:World):(Instr.typeAssert (.iface 177 v) 141 175 true).run prog w=.ok (.tuple #[.agg #[.nilIface,.int .i64 0,.int .i64 0,.int .i64 0,.int .i64 0,.int .i64 0,.int .i64 0,.int .i64 0],.bool false]) w:=by kernel_rfl
theorem ta_9_8(v:Value)(w:World):(Instr.typeAssert (.iface 177 v) 141 176 true).run prog w=.ok (.tuple #[.agg #[.nilIface,.int .i64 0,.int .i64 0,.int .i64 0,.int .i64 0,.int .i64 0,.int .i64 0,.int .i64 0],.bool false]) w:=by kernel_rfl
theorem ta_9_9(v:Value)(w:World):(Instr.typeAssert (.iface 177 v) 141 177 true).run prog w=.ok (.tuple #[v,.bool true]) w:=by kernel_rfl
end Go.Proofs.YtjjamgeoompbkaaGreat

namespace Go.Proofs.YtjjamgeoompbkaaGreat
open Go.RowKit Go.Shelf
open Go.Proofs.Tryz
attribute [local go_sem] Oper.semAt_some
structure SoilJ(base B bx:Nat)(S:Y9)(D:WD)(f m:Int)(w0:World)(pre:List Int)(W:World):Prop where
 var:VarW W base B S { D with dirty:=zmb f m D.dirty pre }
 box:Boxed W bx 69 (.pointer (some ⟨B,0,none⟩))
 bel:Below base w0 W
 chg:Chg (blks S.all) w0 W
theorem zxs{base B bx n0:Nat}{S:Y9}{D:WD}{f m:Int}{w0:World}(hold:∀q,q∈blks S.all→q<n0)(hB:B<n0)(hbx:bx<n0)(hb0:base≤w0.heap.size)(hw0:w0.heap.size≤n0):OwnFrom n0 (SoilJ base B bx S D f m w0):=by
 intro pre W W' row h hg hr;have c:Chg row.toList W W':=Chg.of_grown hg fun x hx=>by rw[hx];simp
 have hm:∀q,q∈row.toList→n0≤q:=fun q hq=>by
  cases row with
  | none=>simp at hq
  | some r=>simp at hq;subst hq;exact(hr q rfl).1
 refine⟨h.var.chg c (fun k hk hq=>by have:=hold k hk;have:=hm k hq;omega) (fun hq=>by have:=hm B hq;omega),h.box.kept hg fun e=>by have:=(hr bx e.symm).1;omega,?_,?_⟩
 ·have hz:=h.bel.size
  have hle:=h.var.le;exact Chg.below h.bel c (by omega) fun x hx=>by have:=hm x hx;omega
 ·have hz:=h.chg.size
  exact⟨c.os.trans h.chg.os,c.tape.trans h.chg.tape,c.output.trans h.chg.output,Nat.le_trans hz c.size,fun k hk hn=>(c.block k (by omega) (fun hq=>by have:=hm k hq;omega)).trans (h.chg.block k hk hn)⟩
theorem soil2_in(F:Fence)(n:Nat)(h15:F.fn 181)(h31:F.fn 184)(h33:F.fn 188)(hro:F.round=none)(hn:3≤n)(base B:Nat)(S:Y9)(D:WD)(f m:Int)(hf0:0≤f)(hf:f≤1000000)(hm1:1≤m)(hm:m≤32)(hc:f+m≤8*(D.dirty.length:Int))(w:World)(h:VarW w base B S D) :
  CallsIn F n prog 181 #[.pointer (some ⟨B,0,none⟩),.int .i64 f,.int .i64 m] w fun e W'=>(∃v,e=.returned v)∧VarW W' base B S { D with dirty:=zfs D.dirty f m }∧Below base w W'∧Chg (blks S.all) w W':=by
 have h1:1≤n:=by omega
 have hcnt:=zzt (f:=f) hm1 hm;refine callsIn_of_wp_marks func181 rfl h15 ?_ hro;simp only[ntmps181,List.size_toArray,List.length_cons,List.length_nil,Nat.reduceAdd,Nat.reduceSub,Array.replicate_succ,Array.replicate_zero,List.push_toArray,List.append_toArray,List.nil_append,List.cons_append]
 gi_wp2_with (gi_at_call 184;refine(cards_in F (n-1) h31 hro _ _ _).mono ?_;rintro e w'⟨rfl,rfl⟩)
 have bO:=Boxed.new w 69 (.pointer (some ⟨B,0,none⟩));have bF:=Boxed.new (w.alloc (.cells #[.pointer (some ⟨B,0,none⟩)] 69)) 3 (.int .i64 f);have bN:=Boxed.new ((w.alloc (.cells #[.pointer (some ⟨B,0,none⟩)] 69)).alloc (.cells #[.int .i64 f] 3)) 3 (.int .i64 m);rw[World.size_alloc]at bF bN;rw[World.size_alloc]at bN;have bF':=bF.alloc (.cells #[.int .i64 m] 3);have hB0:Below w.heap.size w (((w.alloc (.cells #[.pointer (some ⟨B,0,none⟩)] 69)).alloc (.cells #[.int .i64 f] 3)).alloc (.cells #[.int .i64 m] 3)):=(((Below.refl _ w).alloc (Nat.le_refl _) _).alloc (by simp) _).alloc (by simp;omega) _;have hle:=h.le;have hlt:=h.lt;have hown:=h.own.lt
 refine wpIn_rangeFunc_ownG hro h1 (gf:=188) (lb:=#[.pointer (some ⟨w.heap.size+1,0,none⟩),.pointer (some ⟨w.heap.size+1+1,0,none⟩)]) rfl h33 (enters_of func188 (by kernel_rfl) rfl)
  (zsd F (n-1) h33 hro (by omega) (w.heap.size+1) (w.heap.size+1+1) base f m hf0 hf hm1 hm _ (by simp) (by simp) bF'.cell bN.cell) belowK_t (belowK_b (by simp;omega)) (Below.refl _ _) (fun _=>rfl)
  (SoilJ base B w.heap.size S D f m w)
  (fun _ _ _=>False)
  (zxs (fun q hq=>by have:=hown q hq;simp;omega) (by simp;omega) (by simp;omega) (by omega) (by simp;omega))
  (fun _ _ _ _ _ hs _ _=>hs)
  ⟨h.below hB0,(bO.alloc _).alloc _,hB0.mono (by omega),Chg.of_below hB0 _⟩
  (fun x=>{ tmps:=#[.pointer (some ⟨B,0,none⟩),.int .i64 f,.int .i64 m,.pointer (some ⟨w.heap.size,0,none⟩),undef,undef,.int .i64 (zin f m x),.int .i64 f,.int .i64 m,.func (.func 188) #[] #[.pointer (some ⟨w.heap.size+1,0,none⟩),.pointer (some ⟨w.heap.size+1+1,0,none⟩)],.int .i64 (zin f m x),undef,undef,undef,undef,undef,undef],defers:=[] }) ?assign ?body ?done ?stop
 case assign =>
  intro l x W K hK
  gi_wp2
  exact hK
 case body =>
  rintro l pre x W hI hlt;obtain⟨hv,hbx,hb,hch⟩:=hI;have hc:=hbx.cell;have hcl:=zzw (f:=f) hm1 x;have hsn:=Z0 (znx f m D.dirty pre x);obtain⟨c,hcc⟩:=Int.eq_ofNat_of_zero_le (show 0≤zin f m x by omega);rw[hcc]at hcl hsn ⊢;have hend:(f+m-1) / 8+1-f / 8=(cnt f m:Int):=by unfold cnt;omega
  have hcd:c<D.dirty.length:=by omega
  have hld:=zwr f m D.dirty pre;obtain⟨gd,cd,hgd⟩:=hv.headD (by simp only[hld];omega);have g3:=hv.cell 3 S.vd rfl;rw[hgd]at g3;simp only[hld]at g3;have hrD:=hv.own.dirty;rw[hgd]at hrD;have hold:=hrD.cellAt c (by simp only[hld];omega);have hfr:=hrD.frozenAt c;have hset:=Z0 (hv.dirty hgd c true);have hbxs:=Z0 hbx;have hbl:=Z0 hb;have hgin:=Z0 (show gd∈blks S.all from List.mem_filterMap.2 ⟨S.vd,by simp[Y9.all],by rw[hgd];rfl⟩);have hchl:=Z0 hch;have hgdlt:=Z0 (h.own.lt gd (List.mem_filterMap.2 ⟨S.vd,by simp[Y9.all],by rw[hgd];rfl⟩));have hcd1:(c:Int)<(D.dirty.length:Int):=by omega
  obtain⟨u,hu⟩:∃u,W.cell? ⟨gd,c,none⟩=some (.bool u):=by
   rw[hold];simp only[List.getElem?_map];have:c<(zmb f m D.dirty pre).length:=by omega
   rw[List.getElem?_eq_getElem this];exact⟨_,rfl⟩
  have hmx:=hv.rd.parts.2.1;obtain⟨_,_,_,hsm,_⟩:=hmx;simp only[hld]at hsm;unfold maxLen at hsm;clear hold hrD hv hbx hb hcl hend hgd hch
  gi_wp2
  refine⟨KeepsFrom.of_grownBy (U5 W gd c (.bool true)) (fun j hj=>by cases hj;have:=hgdlt.out;simp;omega),hset.out.2,⟨?_,hbxs.out.kept (U5 W gd c (.bool true)) (fun e=>by have:=hgdlt.out;cases e;omega),hbl.out.trans hset.out.2,hchl.out.trans (Chg.of_grown (U5 W gd c (.bool true)) (fun x hx=>by cases hx;exact hgin.out))⟩⟩;rw[hsn.out];exact hset.out.1
 case done =>
  rintro Dd ys W hD rfl hI hK;obtain⟨hv,hbx,hb,hch⟩:=hI;rw[ztr _ _ _ _ (Nat.le_refl _)]at hv
  gi_wp2
  refine⟨by simp,.inl ⟨_,_,rfl,run_takeDeferred hK,?_⟩⟩;have cc:=fun o:Obj=>(Chg.of_grown (grownBy_putObj' W Dd o) (bs:=[Dd]) (by simp));have hDd:w.heap.size≤Dd:=by simp at hD;omega
  exact⟨_,results_none rfl _ _ _,⟨_,rfl⟩,hv.chg (cc _) (fun k hk hq=>by have:=hown k hk;rw[List.mem_singleton.1 hq]at this;omega) (fun hq=>by have:=List.mem_singleton.1 hq;omega),Chg.below hb (cc _) (by have:=hb.size;omega) (fun x hx=>by rw[List.mem_singleton.1 hx];omega),⟨(cc _).os.trans hch.os,(cc _).tape.trans hch.tape,(cc _).output.trans hch.output,Nat.le_trans hch.size (cc _).size,fun k hk hn=>((cc _).block k (by have:=hch.size;omega) (fun hq=>by have:=List.mem_singleton.1 hq;omega)).trans (hch.block k hk hn)⟩⟩
 case stop =>
  rintro D c pre W _ _ h _;exact h.elim
theorem zqu(base B:Nat)(S:Y9)(D:WD)(f m:Int)(hf0:0≤f)(hf:f≤1000000)(hm1:1≤m)(hm:m≤32)(hc:f+m≤8*(D.dirty.length:Int))(w:World)(h:VarW w base B S D) :
  Calls prog 181 #[.pointer (some ⟨B,0,none⟩),.int .i64 f,.int .i64 m] w fun e W'=>(∃v,e=.returned v)∧VarW W' base B S { D with dirty:=zfs D.dirty f m }∧Below base w W'∧Chg (blks S.all) w W' :=
 (callsIn_wide (n:=3)).1 (soil2_in Fence.wide 3 trivial trivial trivial rfl (by omega) base B S D f m hf0 hf hm1 hm hc w h)
end Go.Proofs.YtjjamgeoompbkaaGreat

namespace Go.Proofs.YtjjamgeoompbkaaGreat
open Go.RowKit
open Go.Proofs.Tryz
def FreeTo(D:WD)(c:Int)(base B:Nat)(S:Y9)(w:World)(e:Ending)(w':World):Prop :=
 (∃D1 k j S',M0 D c D1 k j∧e=.returned (.tuple #[.agg #[.int .i64 (k:Int),.int .i64 (j:Int)],.bool true])∧VarW w' base B S' D1∧V8 w w' B S S') ∨
 (zgm D c∧e=.returned (.tuple #[.agg #[.int .i64 0,.int .i64 0],.bool false])∧VarW w' base B S D∧V8 w w' B S S)
def TookTo(D:WD)(n p:Int)(base B:Nat)(S:Y9)(w:World)(e:Ending)(w':World):Prop :=
 (∃D1 k j s S',M0 D (cl n) D1 k j∧D1.spans[k]?=some s∧e=.returned (.tuple #[.agg #[.int .i64 (k:Int),.int .i64 (j:Int)],.bool true])∧VarW w' base B S' (zeo D1 k s j n p)∧V8 w w' B S S') ∨
 (zgm D (cl n)∧e=.returned (.tuple #[.agg #[.int .i64 0,.int .i64 0],.bool false])∧VarW w' base B S D∧V8 w w' B S S)
theorem place_in{D:WD}{n:Int}(hF:Y5 D)(h1:1≤n)(h2:n≤16){D1:WD}{k j:Nat}(h:M0 D (cl n) D1 k j):∃s,D1.spans[k]?=some s∧zex D1 s j∧n≤sz s.cls∧D1.base=D.base:=by
 obtain⟨-,-,hc,hz⟩:=zwv h1 h2
 rcases h with⟨rfl,s,hs,hsc,hj,_⟩|⟨_,hp,hn,rfl,rfl⟩
 ·exact⟨s,hs,hF.slotIn hs hj,by rw[hsc];exact hz,rfl⟩
 ·exact⟨J4 D (cl n) k,zrm hp.1 _,zuo hF hc hp.1 hn,hz,rfl⟩
def zjv(n p:Int):Bool:=inB n 1 16 && inB p 0 n
theorem zsx(n p:Int)(w:World):Calls prog 192 #[.int .i64 n,.int .i64 p] w fun e w'=>e=.returned (.bool (zjv n p))∧w=w':=by
 cases hv:inB n 1 16
 ·have hb:zjv n p=false:=by simp[zjv,hv]
  rw[hb];clear hb;have hv':=Z0 hv;clear hv;go_enter func192,ntmps192;go_wp2_with (go_at_call 73;refine(T7 hv'.out _).mono ?_;rintro e w'⟨rfl,rfl⟩);go_ret;exact⟨rfl,rfl⟩
 ·have hb:zjv n p=inB p 0 n:=by simp[zjv,hv]
  rw[hb];obtain⟨q,hq⟩:∃q,inB p 0 n=q:=⟨_,rfl⟩;rw[hq];have hv':=Z0 hv;have hq':=Z0 hq;clear hv hb hq;go_enter func192,ntmps192;go_wp2_with (go_at_call 73;first|((with_reducible refine(T7 hv'.out _).mono ?_);rintro e w'⟨rfl,rfl⟩)|((with_reducible refine(T7 hq'.out _).mono ?_);rintro e w'⟨rfl,rfl⟩));go_ret;exact⟨rfl,rfl⟩
theorem zvs{n p:Int}{v:Bool}(hv:zjv n p=v)(w:World):Calls prog 192 #[.int .i64 n,.int .i64 p] w fun e w'=>e=.returned (.bool v)∧w=w':=by
 rw[←hv];exact zsx n p w
theorem take_of(hfp:∀(base B:Nat) (S:Y9) (D:WD) (c:Int) (hls:D.spans.length≤1000) (w:World) (h:VarW w base B S D),Calls prog 182 #[.pointer (some ⟨B,0,none⟩),.int .i64 c] w fun e w'=>FreeTo D c base B S w e w'∧Below base w w')
  (base B:Nat) (S:Y9) (D:WD) (n p:Int) (hF:Y5 D) (e1:1≤n) (e2:n≤16) (e3:0≤p) (e4:p≤n) (w:World) (h:VarW w base B S D) :
  Calls prog 177 #[.pointer (some ⟨B,0,none⟩),.int .i64 n,.int .i64 p] w fun e w'=>TookTo D n p base B S w e w'∧Below base w w':=by
 have hF':=Z0 hF;have hsp:=Z0 (show D.spans.length≤1000 by have:=hF.spans;have:=hF.geo.2.2.2.2.1;omega);have hcn:=Z0 (fun w=>ztu n w);have bb0:=Y2 w (.cells #[.int .i64 0,.int .i64 0] 150);have hr0:=Y8 w (.cells #[.int .i64 0,.int .i64 0] 150);have hcall:=Z0 (hfp base B S D (cl n) hsp.out _ (h.below bb0));have hle:=h.le;have hlt:=h.lt;have hown0:=Z0 h.own.lt;have hR0:=Z0 hr0;have bb0':=Z0 (bb0.mono (Nat.le_of_lt (Nat.lt_of_le_of_lt hle hlt)));have ht0:=Z0 (V8.of_below B S bb0);have hz0:=Z0 (show(w.alloc (.cells #[.int .i64 0,.int .i64 0] 150)).heap.size=w.heap.size+1 by simp);clear hfp hF h bb0 hr0;go_enter func177,ntmps177;go_wp2_with (go_at_call 183;refine(hcn.out _).mono ?_;rintro e w'⟨rfl,rfl⟩);refine hcall.out.mono ?_;rintro e w3⟨hq,b3⟩;have b3':=Z0 (bb0'.out.trans b3);clear b3
 have hRn:w.heap.size∉B::blks S.all:=fun hm=>by
  rcases List.mem_cons.1 hm with e|hm
  ·omega
  ·have:=(hown0.out _ hm).2
   omega
 rcases hq with⟨D1,k,j,S1,hpl,rfl,hv,htW⟩|⟨hno,rfl,hv,htW⟩
 case inr =>
  have hR3:=htW.keeps hRn hR0.out (by have:=hz0.out;omega);have ht:=ht0.out.trans htW
  have hns:∀q,q∈blks S.all→q∉[w.heap.size]:=fun q hq hm=>by
   have h1:=List.mem_singleton.1 hm;have:=(hown0.out q hq).2;omega
  have hns':=Z0 hns;have y:=Z0 (show zgm D (cl n)from hno);have bP:=Y2 w3 (.cells #[.int .i64 0,.int .i64 0] 150);have hv4:=Z0 (hv.below bP);have ht4:=Z0 (ht.trans (V8.of_below B S bP));have b4:=Z0 (b3'.out.trans (bP.mono (by have:=hv.le;have:=hv.lt;omega)));have hR4:=Z8 bP hR3;have q0:=Z6 hR4 0 _ rfl;have q1:=Z6 hR4 1 _ rfl;have z0:=Z9 hR4 0;have z1:=Z9 hR4 1;have hsz:=Z0 (show base≤(w3.alloc (.cells #[.int .i64 0,.int .i64 0] 150)).heap.size by have:=hv.le;have:=hv.lt;simp;omega);clear hno hv ht bP hR3 hR4 htW hns hRn;go_upto_region 2 with fail;generalize w3.alloc (.cells #[.int .i64 0,.int .i64 0] 150)=w4 at *;go_wp2_with fail;refine bodyPost_ret (v:=.tuple #[.agg #[.int .i64 0,.int .i64 0],.bool false]) (by simp[results,results177,go_sem,q0,q1]) rfl ?_;have cc:=((Chg.refl [w.heap.size] w4).put (b:=w.heap.size) (by simp) 0 (.int .i64 0)).put (b:=w.heap.size) (by simp) 1 (.int .i64 0);exact⟨.inr ⟨y.out,rfl,hv4.out.chg cc hns'.out (fun hm=>by have:=List.mem_singleton.1 hm;omega),ht4.out.step cc (fun q hq=>.inr (.inr (Nat.le_of_eq (List.mem_singleton.1 hq).symm)))⟩,Chg.below b4.out cc hsz.out (fun q hq=>by rw[List.mem_singleton.1 hq];omega)⟩
 have hR3:=htW.keeps hRn hR0.out (by have:=hz0.out;omega);have ht:=ht0.out.trans htW;have hlt3:=Z0 (show w.heap.size+1≤w3.heap.size by have:=htW.chg.size;have:=hz0.out;omega)
 have hns:∀q,q∈blks S1.all→q≠w.heap.size:=fun q hq=>by
  rcases htW.own q hq with h1|h1
  ·have:=(hown0.out q h1).2
   omega
  ·have:=hz0.out
   omega
 have hns':=Z0 hns;obtain⟨s,hks,hin,hszc,hbas⟩:=place_in hF'.out e1 e2 hpl;have y:=Z0 (show M0 D (cl n) D1 k j∧D1.spans[k]?=some s from⟨hpl,hks⟩);have bP:=Y2 w3 (.cells #[.int .i64 k,.int .i64 j] 150);have nP:=Z0 (Y8 w3 (.cells #[.int .i64 k,.int .i64 j] 150));have hv4:=Z0 (hv.below bP);have ht4:=Z0 (ht.trans (V8.of_below B S1 bP));have hR4:=Z0 (Z8 bP hR3);have b4:=Z0 (b3'.out.trans (bP.mono (by have:=hv.le;have:=hv.lt;omega)));have hownl:=Z0 hv.own.lt;have hB3:=hv.lt;have hBne:=hv.ne;have hbd:=hin.bd;obtain⟨p0,hp0⟩:=hv.svAt hks;obtain⟨gs,cs,hgs⟩:=hv.headS (by have:=(List.getElem?_eq_some_iff.1 hks).1;omega);obtain⟨gl,cl1,hgl⟩:=J3 (hv.own.inner k s p0 hks hp0).1 (by have:=hin.j;omega);obtain⟨gp,cp,hgp⟩:=J3 (hv.own.inner k s p0 hks hp0).2 (by have:=hin.j;have:=hin.lens;have:=hin.ptrs;omega);have hj:=hin.j;have hjp:j<s.ptrs.length:=by have:=hin.lens;have:=hin.ptrs;omega
 have hkl1:(k:Int)<(D1.spans.length:Int):=by have:=(List.getElem?_eq_some_iff.1 hks).1;omega
 have hjl1:(j:Int)<(s.lens.length:Int):=by omega
 have hjp1:(j:Int)<(s.ptrs.length:Int):=by omega
 obtain⟨A,hA⟩:=Int.eq_ofNat_of_zero_le hbd.1;have hdl:=hin.dirty;have hpg:=hin.pg;have hpg0:=hin.pg0;have hpg1:=hin.pg1;have hA2:A≤1000:=by omega
 have hdd:(A:Int)+n≤8*(D1.dirty.length:Int):=by omega
 have hj15:(j:Int)≤15:=hbd.2.2.2.2.1;have hn32:n≤32:=by omega
 obtain⟨_,_,-,hsm,-⟩:=hv.rd.parts.2.2.1;obtain⟨_,_,-,hsm1,-⟩:=Rd.of_owns (hv.own.inner k s p0 hks hp0).1;obtain⟨_,_,-,hsm2,-⟩:=Rd.of_owns (hv.own.inner k s p0 hks hp0).2;unfold maxLen at hsm hsm1 hsm2;have q0:=Z6 nP.out 0 _ rfl;have q1:=Z6 nP.out 1 _ rfl;have G4:=hv4.out.cell 4 (.slice (some ⟨gs,0,none⟩) D1.spans.length cs) (by rw[←hgs];rfl);obtain⟨x0,x1,x2,x3,x4,x5⟩:=hv4.out.six hgs hks hp0;rw[hgl]at x4;rw[hgp]at x5;obtain⟨n1,n2,n3,n4,n5,n6⟩:=hv4.out.nes hgs hks hp0 hgl hgp;obtain⟨c1,c2⟩:=U0 (hv4.out.own.inner k s p0 hks hp0).1 hgl j hj;obtain⟨d1,d2⟩:=U0 (hv4.out.own.inner k s p0 hks hp0).2 hgp j hjp;have k1:gl∈blks S1.all:=List.mem_filterMap.2 ⟨p0.1,by have:p0.1∈V9 S1.sv:=List.mem_flatMap.2 ⟨p0,List.mem_of_getElem? hp0,by simp⟩;simp[Y9.all,this],by rw[hgl];rfl⟩;have k2:gp∈blks S1.all:=List.mem_filterMap.2 ⟨p0.2,by have:p0.2∈V9 S1.sv:=List.mem_flatMap.2 ⟨p0,List.mem_of_getElem? hp0,by simp⟩;simp[Y9.all,this],by rw[hgp];rfl⟩;have m1:¬(w3.heap.size=gl):=fun e=>by have:=(hownl.out gl k1).2;omega
 have m2:¬(w3.heap.size=gp):=fun e=>by have:=(hownl.out gp k2).2;omega
 have hin':=Z0 hin;have hks':=Z0 hks;have hp0':=Z0 hp0;have hgs':=Z0 hgs;have hgl':=Z0 hgl;have hgp':=Z0 hgp;have hA':=Z0 hA;have k1':=Z0 k1;have k2':=Z0 k2
 have hfw:=Z0 (fun(w:World) (s':Y7) (h0:s'.page=s.page) (h1:s'.cls=s.cls) (hr:zea w gs (k*6) s')=>(show Calls prog 123 #[.pointer (some ⟨gs,k*6,none⟩),.int .i64 j] w fun e w'=>e=.returned (.int .i64 (A:Int))∧zju w w' from by
  have e9:atW s' (j:Int)=(A:Int):=by rw[←hA];unfold atW;rw[h0,h1]
  have:=zdw gs (k*6) s' (j:Int) (by omega) (by omega) (by omega) (by omega) w hr
  rwa [e9]at this))
 have hgn1:=hns gl k1;have hgn2:=hns gp k2;clear hin hks hp0 hgs hgl hgp hA hbd hv hpl hszc hj hjp hdl hpg1 bP hbas ht k1 k2 hBne hR3 htW hns hRn;go_upto_region 2 with fail;generalize hWe:w3.alloc (.cells #[.int .i64 k,.int .i64 j] 150)=w4 at *;have hWz:=Z0 (show w4.heap.size=w3.heap.size+1 by rw[←hWe];simp);clear hWe;go_upto_region 4 with fail
 go_cut [10] (fun q wx=>q=.pointer (some ⟨gs,k*6,none⟩)∧wx=w4.drew)
 case first =>
  go_region
  all_goals go_wp2_with fail
  all_goals go_meet
  all_goals exact⟨rfl,rfl⟩
 obtain⟨rfl,rfl⟩:=hcut;have s1:=hv4.out.drew.lens k j s p0 n hks'.out hp0'.out hgl'.out;have hk2:=Z0 (zhl (t:=({ s with lens:=s.lens.set j n }:Y7)) hks'.out);have s2:=s1.1.ptrs k j _ p0 p hk2.out hp0'.out hgp'.out;have s3:VarW ((w4.drew.setCell ⟨gl,j,none⟩ (.int .i64 n)).setCell ⟨gp,j,none⟩ (.int .i64 p)) base B S1 { D1 with spans:=D1.spans.set k (N7 s j n p) }:=by simpa only[List.set_set,N7]using s2.1
 have S2:=Z0 s3.drew;have S3:=Z0 ((below_drewN b4.out 1).trans (below_drewN (s1.2.trans s2.2) 1));have T3:=Z0 ((((ht4.out.step (Chg.of_below (below_drewN (Below.refl _ w4) 1) []) (by simp)).step (Chg.of_grown (U5 w4.drew gl j (.int .i64 n)) (bs:=[gl]) (by simp)) (fun q hq=>by rw[List.mem_singleton.1 hq];exact .inr (.inl k1'.out))).step (Chg.of_grown (U5 (w4.drew.setCell ⟨gl,j,none⟩ (.int .i64 n)) gp j (.int .i64 p)) (bs:=[gp]) (by simp)) (fun q hq=>by rw[List.mem_singleton.1 hq];exact .inr (.inl k2'.out))).step (Chg.of_below (below_drewN (Below.refl _ _) 1) []) (by simp));have bs2:=Z0 (((heap_setCell_other (w4.drew.setCell ⟨gl,j,none⟩ (.int .i64 n)) ⟨gp,j,none⟩ w3.heap.size (.int .i64 p) (by simpa using m2)).trans (heap_setCell_other w4.drew ⟨gl,j,none⟩ w3.heap.size (.int .i64 n) (by simpa using m1))).trans nP.out);have bR2:=Z0 (((heap_setCell_other (w4.drew.setCell ⟨gl,j,none⟩ (.int .i64 n)) ⟨gp,j,none⟩ w.heap.size (.int .i64 p) (by simpa using hgn2.symm)).trans (heap_setCell_other w4.drew ⟨gl,j,none⟩ w.heap.size (.int .i64 n) (by simpa using hgn1.symm))).trans hR4.out);clear s1 s2 s3;generalize s.lens[j]?.getD 0=o3 at c1;generalize s.ptrs[j]?.getD 0=o4 at d1;go_upto_region 5 with fail
 go_cut [10] (fun q wx=>q=.pointer (some ⟨gs,k*6,none⟩)∧Hid (VarW wx base B S1 { D1 with spans:=D1.spans.set k (N7 s j n p) })∧Hid (Below base w wx)∧Hid (V8 w wx B S S1)∧Hid (wx.heap[w3.heap.size]?=some (.cells #[.int .i64 k,.int .i64 j] 150 (0,0)))∧Hid (wx.heap[w.heap.size]?=some (.cells #[.int .i64 0,.int .i64 0] 150 (0,0))))
 case first =>
  go_region
  all_goals go_wp2_with fail
  all_goals go_meet
  all_goals exact⟨rfl,S2,S3,T3,bs2,bR2⟩
 case rest =>
  obtain⟨rfl,hv5,hb5,ht5,bn5,bR5⟩:=hcut;clear q0 q1 G4 x0 x1 x2 x3 x4 x5 c1 d1 c2 d2 S2 S3 T3 bs2 bR2 hR4;have q1:=Z6 bn5.out 1 _ rfl;have hk5:=Z0 (zhl (t:=N7 s j n p) hks'.out);have hgs5:=Z0 (show S1.vs=.slice (some ⟨gs,0,none⟩) (D1.spans.set k (N7 s j n p)).length cs by rw[List.length_set];exact hgs'.out)
  have hrs:=Z0 (show zea wc gs (k*6) (N7 s j n p)from by
   obtain⟨x0,x1,x2,x3,x4,x5⟩:=hv5.out.six hgs5.out hk5.out hp0'.out;have hi:=hv5.out.own.inner k _ p0 hk5.out hp0'.out;exact⟨_,_,x0,x1,x2,x3,x4,x5,Rd.of_owns hi.1,Rd.of_owns hi.2⟩)
  go_wp2_with fail;refine(hfw.out _ (N7 s j n p) rfl rfl hrs.out).mono ?_;rintro e w6⟨rfl,dr6⟩;have b6:=dr6.below;have hv6:=Z0 (hv5.out.below b6);have hb6:=Z0 (hb5.out.trans (b6.mono (by have:=hv5.out.lt;have:=hv5.out.le;omega)));have ht6:=Z0 (ht5.out.trans (V8.of_below B S1 b6));have bn6:=Z0 (Z8 b6 bn5.out);have bR6:=Z0 (Z8 b6 bR5.out);clear dr6 b6 q1;go_wp2_with fail;refine(zqu _ _ _ _ (A:Int) n (by omega) (by omega) (by omega) (by omega) (by exact hdd) _ hv6.out).mono ?_;rintro e w7⟨⟨_,rfl⟩,hv7,b7,ch7⟩
  have hv7':=Z0 (show VarW w7 base B S1 (zeo D1 k s j n p)from by
   unfold zeo;rw[hA'.out];exact hv7)
  have hb7:=Z0 (hb6.out.trans b7);have ht7:=Z0 (ht6.out.step ch7 (fun q hq=>.inr (.inl hq)));have bn7:=(ch7.block w3.heap.size (Array.getElem?_eq_some_iff.1 bn6.out).1 (fun hm=>by have:=(hownl.out _ hm).2;omega)).trans bn6.out;have bR7:=(ch7.block w.heap.size (Array.getElem?_eq_some_iff.1 bR6.out).1 (fun hm=>hns'.out _ hm rfl)).trans bR6.out;have v0:=Z6 bn7 0 _ rfl;have v1:=Z6 bn7 1 _ rfl;have q0:=Z6 bR7 0 _ rfl;have q1:=Z6 bR7 1 _ rfl;have z0:=Z9 bR7 0;have z1:=Z9 bR7 1;have hsz:=Z0 (show base≤w7.heap.size by have:=hv7.le;have:=hv7.lt;omega)
  have hne9:¬(w3.heap.size=w.heap.size):=fun e=>by
   have h1:=ht6.out.chg.size;have h2:=hB3;have h3:=ht4.out.chg.size;have h4:=hWz.out;have h5:=hz0.out;have h6:=hlt3.out;omega
  clear hv7 b7 ch7 hfw hk2 hgs' hgl' hgp' hp0' hownl hv6 hb6 ht6 bn6 hv5 hb5 ht5 bn5 bR5 bR6 bR7 bn7;go_wp2_with fail;refine bodyPost_ret (v:=.tuple #[.agg #[.int .i64 (k:Int),.int .i64 (j:Int)],.bool true]) (by simp[results,results177,go_sem,q0,q1]) rfl ?_;have cc:=((Chg.refl [w.heap.size] w7).put (b:=w.heap.size) (by simp) 0 (.int .i64 (k:Int))).put (b:=w.heap.size) (by simp) 1 (.int .i64 (j:Int));exact⟨.inl ⟨D1,k,j,s,S1,y.out.1,y.out.2,rfl,hv7'.out.chg cc (fun q hq hm=>hns'.out q hq (List.mem_singleton.1 hm)) (fun hm=>by have:=List.mem_singleton.1 hm;omega),ht7.out.step cc (fun q hq=>.inr (.inr (Nat.le_of_eq (List.mem_singleton.1 hq).symm)))⟩,Chg.below hb7.out cc hsz.out (fun q hq=>by rw[List.mem_singleton.1 hq];omega)⟩
end Go.Proofs.YtjjamgeoompbkaaGreat

namespace Go.Proofs.YtjjamgeoompbkaaGreat
open Go.RowKit
open Go.Maps (Keyed)
open Go.Proofs.Tryz
theorem zkb(base B V g0 n0:Nat)(N:DataW Unit)(S:Y9)(D:WD)(k m h g i n v:Int)(hmm:D.muts.length≤3)(p q:Bool)(hp:hasB D m h=p)(hq:zjv n v=q)(w:World)(hw:VarW w base B S D)(hV:U6 D w V B g0 n0 N) :
  Calls prog 191 #[.agg #[.iface 105 (.pointer (some ⟨V,0,none⟩)),.int .i64 k,.int .i64 m,.int .i64 h,.int .i64 g,.int .i64 i,.int .i64 n,.int .i64 v]] w fun e w'=>e=.returned (.int .i64 (if p then(if q then 0 else 3) else 2))∧Below w.heap.size w w':=by
 have bb:=Z0 (Y2 w (.cells (Z4 105 V k m h g i n v) 161));have bx:=Y8 w (.cells (Z4 105 V k m h g i n v) 161);have q0:=Z6 bx 0 (.iface 105 (.pointer (some ⟨V,0,none⟩))) rfl;have Q0:=Ext.cell q0;have q1:=Z6 bx 1 (.int .i64 k) rfl;have Q1:=Ext.cell q1;have q2:=Z6 bx 2 (.int .i64 m) rfl;have Q2:=Ext.cell q2;have q3:=Z6 bx 3 (.int .i64 h) rfl;have Q3:=Ext.cell q3;have q4:=Z6 bx 4 (.int .i64 g) rfl;have Q4:=Ext.cell q4;have q5:=Z6 bx 5 (.int .i64 i) rfl;have Q5:=Ext.cell q5;have q6:=Z6 bx 6 (.int .i64 n) rfl;have Q6:=Ext.cell q6;have q7:=Z6 bx 7 (.int .i64 v) rfl;have Q7:=Ext.cell q7;have hw1:=Z0 (hw.below bb.out);have hV1:=Z0 (hV.below bb.out);have hc:=Z0 (fun(w':World) (hb:Below (w.alloc (.cells (Z4 105 V k m h g i n v) 161)).heap.size (w.alloc (.cells (Z4 105 V k m h g i n v) 161)) w')=>(zie base B V g0 n0 N S D k m h g i n v h hmm w' (hw1.out.below hb) (hV1.out.below hb)).mono fun e w'' ⟨h1,h2⟩=>(⟨by rw[h1,hp],h2⟩:e=Ending.returned (.bool p)∧Below w'.heap.size w' w''));have hz:=Z0 (fun w:World=>zvs hq w);clear hw hV bx hw1 hV1 hp hq hmm
 cases p
 ·clear hz
  go_enter func191,ntmps191;go_upto_region 1 with fail;generalize w.alloc (.cells (Z4 105 V k m h g i n v) 161)=W at *;go_wp2_with (first|(go_at_call 190;with_reducible refine(hc.out _ (Below.refl _ _)).mono ?_;rintro e w1⟨rfl,b1⟩;obtain⟨x1,rfl⟩:=Ext.of b1;clear b1));go_ret;exact⟨rfl,Z7 bb.out (Ext.below _)⟩
 ·cases q
  ·go_enter func191,ntmps191
   go_upto_region 1 with fail;generalize w.alloc (.cells (Z4 105 V k m h g i n v) 161)=W at *;go_wp2_with (first|(go_at_call 190;with_reducible refine(hc.out _ (Below.refl _ _)).mono ?_;rintro e w1⟨rfl,b1⟩;obtain⟨x1,rfl⟩:=Ext.of b1;clear b1)|(go_at_call 192;refine(hz.out _).mono ?_;rintro e w1⟨rfl,rfl⟩));go_ret;exact⟨rfl,Z7 bb.out (Ext.below _)⟩
  ·go_enter func191,ntmps191
   go_upto_region 1 with fail;generalize w.alloc (.cells (Z4 105 V k m h g i n v) 161)=W at *;go_wp2_with (first|(go_at_call 190;with_reducible refine(hc.out _ (Below.refl _ _)).mono ?_;rintro e w1⟨rfl,b1⟩;obtain⟨x1,rfl⟩:=Ext.of b1;clear b1)|(go_at_call 192;refine(hz.out _).mono ?_;rintro e w1⟨rfl,rfl⟩));go_ret;exact⟨rfl,Z7 bb.out (Ext.below _)⟩
theorem U6.chg{D:WD}{w w':World}{V B g n base:Nat}{N:DataW Unit}{S:Y9}(hv:U6 D w V B g n N)(h:VarW w base B S D)(hs:Chg (B::blks S.all) w w')(hV:V∉B::blks S.all):U6 D w' V B g n N:=by
 have hlt:V<w.heap.size:=(Array.getElem?_eq_some_iff.1 hv.box).1;obtain⟨es,clock,hb,F,hsz,hD⟩:=hv.own;have hgl:g<w.heap.size:=(Array.getElem?_eq_some_iff.1 hb).1
 have hg:g∉B::blks S.all:=fun hm=>by
  rcases List.mem_cons.1 hm with rfl|hm
  ·have:=h.box.symm.trans hb
   simp at this
  ·obtain⟨cur,e,hc⟩:=h.own.cells hm
   have:=hc.symm.trans hb;simp at this
 exact⟨(hs.block V hlt hV).trans hv.box,⟨es,clock,(hs.block g hgl hg).trans hb,F,hsz,hD⟩,hv.is⟩
def ObjA(D:WD)(a:Int)(kk jj P I:Nat):Prop :=
 Y5 D∧R6 D a kk jj∧∃s A,D.spans[kk]?=some s∧atW s (jj:Int)=((A:Nat):Int)∧A+I=P∧(I:Int)<s.lens[jj]?.getD 0
theorem ObjA.shade{D E:WD}{a z:Int}{kk jj P I:Nat}(h:ObjA D a kk jj P I)(hs:U9 D z E):ObjA E a kk jj P I:=by
 obtain⟨hF,ho,s,A,hks,hA,hP,hI⟩:=h;have hO:=hs.same;obtain⟨t,ht⟩:∃t,E.spans[kk]?=some t:=⟨_,List.getElem?_eq_getElem (by rw[hO.len];exact(List.getElem?_eq_some_iff.1 hks).1)⟩;have hst:=hO.span kk s t hks ht;exact⟨hs.form hF,hO.obj ho,t,A,ht,by unfold atW at hA ⊢;rw[hst.page,hst.cls];exact hA,hP,by rw[hst.lens];exact hI⟩
theorem zon{D E:WD}{z m:Int}(hs:U9 D z E):M5 E m↔M5 D m:=by
 unfold M5;rw[hs.rest.2.2.2.1,hs.rest.2.2.2.2]
theorem znt{L:List Int}(h:∀x,x∈L→I64 x)(j:Nat):I64 (L[j]?.getD 0):=by
 cases e:L[j]? with
 | none=>unfold I64;simp
 | some a=>exact h a (List.mem_of_getElem? e)
theorem zpc(base B V g0 n0:Nat)(N:DataW Unit)(S:Y9)(D:WD)(a x:Int)(kk jj P I:Nat)(hO:ObjA D a kk jj P I)(ha:I64 a)(w:World)(hw:VarW w base B S D)(hV:U6 D w V B g0 n0 N)(hVB:V∉B::blks S.all) :
  Calls prog 174 #[.pointer (some ⟨V,0,none⟩),.int .i64 a,.int .i64 (I:Int),.int .i64 x] w fun e w'=>e=.returned (.tuple #[])∧VarW w' base B S { D with words:=D.words.set P x,dirty:=zfs D.dirty (P:Int) 1 }∧V8 w w' B S S∧Below base w w':=by
 obtain⟨hF,ho,s,A,hks,hA,hP,hI⟩:=hO;have hin:=hF.slotIn hks (show jj<s.lens.length from by obtain⟨s',h1,h2,_⟩:=id ho;rw[hks]at h1;cases h1;exact h2)
 have hsl:s.lens[jj]?.getD 0≤sz s.cls:=by
  have:=((hF.span kk s hks).slot jj hin.j).l1;omega
 have hbd:=hin.bd;have hww:=hin.words;have hdd:=hin.dirty;have hpg:=hin.pg;have hwl:P<D.words.length:=by omega
 have hle:=Nat.le_of_lt (Nat.lt_of_le_of_lt hw.le hw.lt);obtain⟨gw,cw,hgw⟩:=hw.headW (by omega);have hcall:=Z0 ((znc base B V g0 n0 N S D a kk jj s hF ho ha hks A hA (I:Int) (by omega) (by omega) w hw hV).mono fun e w'' h=>(⟨by rw[h.1,show(A:Int)+(I:Int)=(P:Int) by omega],h.2⟩:e=Ending.returned (.int .i64 (P:Int))∧Below w.heap.size w w''));have hX:=Z0 (fun(w':World) (hb:Below w.heap.size w w')=>U0 (hw.below hb).own.words hgw P hwl);have hC:=Z0 (fun(w':World) (hb:Below w.heap.size w w')=>(show w'.cell? ⟨B,2,none⟩=some (.slice (some ⟨gw,0,none⟩) D.words.length cw)from by have g2:=(hw.below hb).cell 2 S.vw rfl;rw[hgw]at g2;exact g2));have hV0:=Z0 (fun(w':World) (hb:Below w.heap.size w w')=>Z6 (Z8 hb hV.box) 0 (.pointer (some ⟨B,0,none⟩)) rfl)
 have hAft:=Z0 (show ∀w',Below w.heap.size w w'→VarW (w'.setCell ⟨gw,P,none⟩ (.int .i64 x)) base B S { D with words:=D.words.set P x }∧(w'.setCell ⟨gw,P,none⟩ (.int .i64 x)).cell? ⟨V,0,none⟩=some (.pointer (some ⟨B,0,none⟩))∧V8 w (w'.setCell ⟨gw,P,none⟩ (.int .i64 x)) B S S∧Below base w (w'.setCell ⟨gw,P,none⟩ (.int .i64 x))from fun w' hb=>by
  have v3:=hw.below hb;have vr:=v3.word hgw P x;have hvw:=(hV.below hb).chg v3 (Chg.of_grown (U5 w' gw P (.int .i64 x)) (bs:=B::blks S.all) (fun y hy=>by cases hy;exact List.mem_cons_of_mem _ (zjw hgw))) hVB;exact⟨vr.1,Z6 hvw.box 0 _ rfl,(V8.of_below B S hb).own_set (zjw hgw) _ _,(hb.mono hle).trans vr.2⟩)
 have hsoil:=Z0 (fun(w1:World) (h1:VarW w1 base B S { D with words:=D.words.set P x })=>zqu base B S { D with words:=D.words.set P x } ((P:Int)) 1 (by omega) (by omega) (by omega) (by omega) (by show(P:Int)+1≤8*(D.dirty.length:Int);omega) w1 h1);have hwL:(P:Int)<(D.words.length:Int):=by omega
 have hwm:D.words.length≤1000:=by have:=hF.words;have:=hF.geo.2.2.2.2.1;omega
 clear hF ho ha hks hA hP hI hw hV hVB hin hsl hbd hww hdd hpg hwl hgw hle;go_enter func174,ntmps174;go_wp2_with fail;refine hcall.out.mono ?_;rintro e w3⟨rfl,b3⟩;obtain⟨xw,fw⟩:=hX.out w3 b3;have c2:=hC.out w3 b3;have v0:=hV0.out w3 b3;obtain⟨v4,V4,T4,B4⟩:=hAft.out w3 b3;have v4':=Z0 v4;have T4':=Z0 T4;have B4':=Z0 B4;clear v4 T4 B4 b3 hcall hX hC hV0 hAft;go_wp2_with fail;refine(hsoil.out _ v4'.out).mono ?_;rintro e w6⟨⟨v6,rfl⟩,v7,b7,c7⟩;have hv7:=Z0 v7;have hT7:=Z0 (T4'.out.step c7 fun q hq=>.inr (.inl hq));have hB7:=Z0 (B4'.out.trans b7);clear v7 b7 c7;go_wp2_with fail
 go_end0
 exact⟨rfl,hv7.out,hT7.out,hB7.out⟩
theorem zuz(base B V g0 n0:Nat)(N:DataW Unit)(S:Y9)(D:WD)(a m z:Int)(kk jj P I:Nat)(hGo:M7 D)(hO:ObjA D a kk jj P I)(ha:I64 a)(hz:I64 z)(w:World)(hw:VarW w base B S D)(hV:U6 D w V B g0 n0 N)(hVB:V∉B::blks S.all) :
  Calls prog 172 #[.pointer (some ⟨V,0,none⟩),.int .i64 m,.int .i64 a,.int .i64 (I:Int),.int .i64 z] w fun e w'=>e=.returned (.tuple #[])∧(∃S' E,zeu D m z P E∧VarW w' base B S' E∧V8 w w' B S S')∧Below base w w':=by
 obtain⟨hF,ho,s,A,hks,hA,hP,hI⟩:=id hO;have hO':=Z0 hO;have hF':=Z0 hF;have ha':=Z0 ha;have hz':=Z0 hz;have hVB':=Z0 hVB;have hle':=Z0 (Nat.le_of_lt (Nat.lt_of_le_of_lt hw.le hw.lt));have hw64:=Z0 (znt hGo.ints.words P);have hgl:=Z0 hGo.greyLen;have hc1:=Z0 (znb base B V g0 n0 N S D a kk jj s hF ho ha hks A I P hP hA hI w hw hV);have hw':=Z0 hw;have hV':=Z0 hV;clear hGo hO hF ho hks hA hP hI hw hV hVB ha hz;go_enter func172,ntmps172;go_wp2_with fail;refine hc1.out.mono ?_;rintro e w3⟨rfl,b3⟩;have v3:=Z0 (hw'.out.below b3);have V3:=Z0 (hV'.out.below b3);have b3':=Z0 b3;clear b3 hc1;generalize hx:D.words[P]?.getD 0=x at *;have hx':=Z0 hx;have hsh:=Z0 (zot base B V g0 n0 N S D x hF'.out hw64.out (by have:=hgl.out;omega) w3 v3.out V3.out hVB'.out);clear hx;go_wp2_with fail;refine hsh.out.mono ?_;rintro e w4⟨rfl,⟨S4,D4,h4,u4,t4⟩,b4⟩;have hV4:=V3.out.turn v3.out t4 h4.same hVB'.out;have V4:=Z0 hV4.1;have hVB4:=Z0 hV4.2;have v4:=Z0 u4;have hs4:=Z0 h4;have B4:=Z0 ((b3'.out.mono hle'.out).trans b4);have T4:=Z0 ((V8.of_below B S b3'.out).trans t4.turned);obtain⟨q,hq⟩:=E0 (M5 D4 m);have hq':=Z0 hq;have hseen:=Z0 ((znu B _ D4 m w4 v4.out.rd v4.out.boxW).mono fun e w'' ⟨h1,h2⟩=>(⟨h1.at_ q hq,h2⟩:e=Ending.returned (.bool q)∧w4=w''));have C0:=Z6 V4.out.box 0 (.pointer (some ⟨B,0,none⟩)) rfl;clear hV4 u4 h4 t4 b4 hq hsh v3 V3 b3';go_wp2_with fail;refine hseen.out.mono ?_;rintro e w5⟨rfl,rfl⟩;have hO4:=Z0 (hO'.out.shade hs4.out);clear hseen C0
 cases q
 case true =>
  have hse:=Z0 (show M5 D m from(zon hs4.out).1 (hq'.out.1 rfl));have hwr:=Z0 (zpc base B V g0 n0 N S4 D4 a z kk jj P I hO4.out ha'.out w4 v4.out V4.out hVB4.out);go_wp2_with fail;refine hwr.out.mono ?_;rintro e w7⟨rfl,v7,t7,b7⟩;have v7':=Z0 v7;have t7':=Z0 t7;have b7':=Z0 b7;clear v7 t7 b7;go_wp2_with fail
  go_end0
  exact⟨rfl,⟨S4,_,⟨D4,D4,by rw[hx'.out];exact hs4.out,.inl ⟨hse.out,rfl⟩,rfl⟩,v7'.out,T4.out.trans t7'.out⟩,B4.out.trans b7'.out⟩
 case false =>
  have hse:=Z0 (show ¬M5 D m from fun h=>by have:=hq'.out.2 ((zon hs4.out).2 h);cases this);have hsh2:=Z0 (zot base B V g0 n0 N S4 D4 z (hs4.out.form hF'.out) hz'.out (by have:=hs4.out.greyLen;have:=hgl.out;omega) w4 v4.out V4.out hVB4.out);go_wp2_with fail;refine hsh2.out.mono ?_;rintro e w6⟨rfl,⟨S6,D6,h6,u6,t6⟩,b6⟩;have hV6:=V4.out.turn v4.out t6 h6.same hVB4.out;have hs6:=Z0 h6;have B6:=Z0 (B4.out.trans b6);have T6:=Z0 (T4.out.trans t6.turned);have hwr:=Z0 (zpc base B V g0 n0 N S6 D6 a z kk jj P I (hO4.out.shade h6) ha'.out w6 u6 hV6.1 hV6.2);clear hV6 u6 h6 t6 b6;go_wp2_with fail;refine hwr.out.mono ?_;rintro e w7⟨rfl,v7,t7,b7⟩;have v7':=Z0 v7;have t7':=Z0 t7;have b7':=Z0 b7;clear v7 t7 b7;go_wp2_with fail
  go_end0
  exact⟨rfl,⟨S6,_,⟨D4,D6,by rw[hx'.out];exact hs4.out,.inr ⟨hse.out,hs6.out⟩,rfl⟩,v7'.out,T6.out.trans t7'.out⟩,B6.out.trans b7'.out⟩
end Go.Proofs.YtjjamgeoompbkaaGreat

namespace Go.Proofs.YtjjamgeoompbkaaGreat
open Go.RowKit
open Go.Proofs.Tryz
theorem zxj(base B:Nat)(S:Y9)(D:WD)(kk jj:Nat)(s:Y7)(hF:Y5 D)(hks:D.spans[kk]?=some s)(hj:jj<s.lens.length)(w:World)(hw:VarW w base B S D) :
  Calls prog 178 #[.pointer (some ⟨B,0,none⟩),.agg #[.int .i64 (kk:Int),.int .i64 (jj:Int)]] w fun e w'=>e=.returned (.tuple #[])∧(∃E,zir D kk jj E∧VarW w' base B S E∧V8 w w' B S S)∧Below base w w':=by
 have hj16:=Z0 (zek hF hks hj);have hks':=Z0 hks;have bb:=Z0 (Y2 w (.cells #[.int .i64 (kk:Int),.int .i64 (jj:Int)] 150));have ba:=Y8 w (.cells #[.int .i64 (kk:Int),.int .i64 (jj:Int)] 150);have hle:=Z0 (Nat.le_of_lt (Nat.lt_of_le_of_lt hw.le hw.lt));have hw1:=hw.below bb.out;have hv1:=Z0 hw1;have hkl:=(List.getElem?_eq_some_iff.1 hks).1;obtain⟨p,hp⟩:=hw.svAt hks;obtain⟨gs,cs,hgs⟩:=hw.headS (by omega);have h6:=hw1.six hgs hks hp;have hK1:(kk:Int)<(D.spans.length:Int):=by omega
 have hmx:=hw1.rd.parts.2.2.1;obtain⟨_,_,_,hsm,_⟩:=hmx;have hsl:D.spans.length≤maxLen:=hsm;unfold maxLen at hsl;have g4:=hw1.cell 4 S.vs rfl;rw[hgs]at g4;have X4:=Ext.cell g4;have X6:=Ext.cell (hw1.cell 6 (.int .i64 D.phase) rfl);have X2:=Ext.cell h6.2.2.1;have X3:=Ext.cell h6.2.2.2.1;have T0:=Ext.cell (Z6 ba 0 (.int .i64 (kk:Int)) rfl);have T1:=Ext.cell (Z6 ba 1 (.int .i64 (jj:Int)) rfl);have hmb:=Z0 (fun w=>zic jj hj16.out.2.2 w);have hgs':=Z0 hgs;have hp':=Z0 hp;obtain⟨mk,hmk⟩:∃mk,s.mark=mk:=⟨_,rfl⟩;have hmk':=Z0 hmk;have hmr:=hj16.out;rw[hmk]at X2 hmr;clear hF hks hj hw ba hw1 hkl hp hgs h6 hsm g4 hmk
 by_cases hph:D.phase=0
 ·have d1:(D.phase != 0)=false:=by rw[hph];rfl
  have hph':=Z0 hph;clear hph;go_enter func178,ntmps178;go_upto_region 1 with fail;generalize (w.alloc (.cells #[.int .i64 (kk:Int),.int .i64 (jj:Int)] 150))=W at *;refine Y6 (Below.refl _ _) (by kernel_rfl) (by kernel_rfl) ?_
  repeat (go_big_quiet_step ((fail)))
  refine wpQuiet_nil ?_;intro _ hw';obtain⟨x9,hw''⟩:=hw';subst hw'';have v2:=Z0 (hv1.out.below x9.below);have B2:=Z0 (Z7 bb.out x9.below);go_wp2_with fail
  go_end0
  exact⟨rfl,⟨D,⟨s,hks'.out,.inr ⟨fun e=>e.1 hph'.out,rfl⟩⟩,v2.out,.of_below _ _ B2.out⟩,B2.out.mono hle.out⟩
 have d1:(D.phase != 0)=true:=bne_iff_ne.2 hph;have hph':=Z0 hph;clear hph
 cases hsw:s.swept
 case true =>
  rw[hsw]at X3;have hsw':=Z0 hsw;clear hsw;go_enter func178,ntmps178;go_upto_region 1 with fail;generalize (w.alloc (.cells #[.int .i64 (kk:Int),.int .i64 (jj:Int)] 150))=W at *;refine Y6 (Below.refl _ _) (by kernel_rfl) (by kernel_rfl) ?_
  repeat (go_big_quiet_step ((fail)))
  refine wpQuiet_nil ?_;intro _ hw';obtain⟨x9,hw''⟩:=hw';subst hw'';have v2:=Z0 (hv1.out.below x9.below);have B2:=Z0 (Z7 bb.out x9.below);go_wp2_with fail
  go_end0
  exact⟨rfl,⟨D,⟨s,hks'.out,.inr ⟨fun e=>Bool.noConfusion (hsw'.out.symm.trans e.2),rfl⟩⟩,v2.out,.of_below _ _ B2.out⟩,B2.out.mono hle.out⟩
 rw[hsw]at X3;have hsw':=Z0 hsw;clear hsw;go_enter func178,ntmps178;go_upto_region 1 with fail;generalize (w.alloc (.cells #[.int .i64 (kk:Int),.int .i64 (jj:Int)] 150))=W at *;refine Y6 (Below.refl _ _) (by kernel_rfl) (by kernel_rfl) ?_
 repeat (go_big_quiet_step ((fail)))
 refine wpQuiet_nil ?_;intro _ hw';obtain⟨x9,hw''⟩:=hw';subst hw'';have v2:=Z0 (hv1.out.below x9.below);have B2:=Z0 (Z7 bb.out x9.below);have h0:(fun w'=>w'.cell? ⟨gs,kk*6+2,none⟩=some (.int .i64 mk)∧w'.cell? ⟨w.heap.size,1,none⟩=some (.int .i64 (jj:Int))) x9.val.drew:=⟨X2 x9,T1 x9⟩;go_upto_region 3 with fail;have f2:=v2.out.frzS hgs'.out (kk*6+2);have x2:=X2 x9;have v3:=v2.out.mark hgs'.out kk s p (bits .or .i64 mk (2^jj)) hks'.out hp'.out;have V3:=Z0 v3.1.drew;have B3:=Z0 (below_drewN ((B2.out.mono hle.out).trans v3.2) 1);have T3:=Z0 (((V8.of_below B S B2.out).own_set (mem_vs hgs'.out) (kk*6+2) (.int .i64 (bits .or .i64 mk (2^jj)))).below (below_drewN (Below.refl _ _) 1));generalize x9.val=w2 at *;clear v3 X2 X3 X4 X6 T0 T1;refine N3 (fun w'=>w'.cell? ⟨gs,kk*6+2,none⟩=some (.int .i64 mk)∧w'.cell? ⟨w.heap.size,1,none⟩=some (.int .i64 (jj:Int))) (fun j=>j == 10) (by kernel_rfl) ?_;refine Y4 (i:=0) (v:=?vq1) rfl (by kernel_rfl) (by kernel_rfl) (by kernel_rfl) rfl (fun _ _ _ h=>h) (Or.inl ⟨by rfl,?hq1⟩) (fun _=>h0) ?rq1
 case hq1=>(intro w _;go_simp;try with_reducible rfl)
 try simp only[Act.put,Z3]
 refine Y4 (i:=1) (v:=?vq2) rfl (by kernel_rfl) (by kernel_rfl) (by kernel_rfl) rfl (fun _ _ _ h=>h) (Or.inl ⟨by rfl,?hq2⟩) (fun _=>h0) ?rq2
 case hq2=>(intro w _;go_simp;try with_reducible rfl)
 try simp only[Act.put,Z3]
 refine Y4 (i:=2) (v:=?vq3) rfl (by kernel_rfl) (by kernel_rfl) (by kernel_rfl) rfl (fun _ _ _ h=>h) (Or.inl ⟨by rfl,?hq3⟩) (fun _=>h0) ?rq3
 case hq3=>(intro w _;go_simp;try with_reducible rfl)
 try simp only[Act.put,Z3]
 refine V6 (i:=3) (v:=?vq4) rfl (by kernel_rfl) (by kernel_rfl) (by kernel_rfl) (by kernel_rfl) (fun j hj=>by simp at hj;subst hj;kernel_rfl) (fun _ _ _ h=>h) (Or.inl ⟨by rfl,?hq4⟩) (by exact h0) ?rq4
 case hq4=>(intro w hSw;(try dsimp only at hSw);obtain⟨s0,s1⟩:=hSw;go_simp;try with_reducible rfl)
 try simp only[Act.put,Z3]
 refine Y4 (i:=4) (v:=?vq5) rfl (by kernel_rfl) (by kernel_rfl) (by kernel_rfl) rfl (fun _ _ _ h=>h) (Or.inl ⟨by rfl,?hq5⟩) (fun _=>h0) ?rq5
 case hq5=>(intro w _;go_simp;try with_reducible rfl)
 try simp only[Act.put,Z3]
 refine V6 (i:=5) (v:=?vq6) rfl (by kernel_rfl) (by kernel_rfl) (by kernel_rfl) (by kernel_rfl) (fun j hj=>by simp at hj;subst hj;kernel_rfl) (fun _ _ _ h=>h) (Or.inl ⟨by rfl,?hq6⟩) (by exact h0) ?rq6
 case hq6=>(intro w hSw;(try dsimp only at hSw);obtain⟨s0,s1⟩:=hSw;go_simp;try with_reducible rfl)
 try simp only[Act.put,Z3]
 refine V7 (rs:=[6]) (by kernel_rfl) (by simp) ?_;intro i hi;simp only[List.mem_cons,List.not_mem_nil,or_false]at hi;subst hi;refine X9 (i:=6) rfl (fun K hK=>?_);go_simp;go_wp2_with (go_at_call 146;refine(hmb.out _).mono ?_;rintro e w'⟨rfl,rfl⟩);refine hK.out _ _ (fun _=>h0) ?_;clear hK K
 try simp only[Act.put,Z3]
 refine Y4 (i:=7) (v:=?vq8) rfl (by kernel_rfl) (by kernel_rfl) (by kernel_rfl) rfl (fun _ _ _ h=>h) (Or.inl ⟨by rfl,?hq8⟩) (fun _=>h0) ?rq8
 case hq8=>(intro w _;go_simp;try with_reducible rfl)
 try simp only[Act.put,Z3]
 refine Y4 (i:=8) (v:=?vq9) rfl (by kernel_rfl) (by kernel_rfl) (by kernel_rfl) rfl (fun _ _ _ h=>h) (Or.inl ⟨by rfl,?hq9⟩) (fun _=>h0) ?rq9
 case hq9=>(intro w _;go_simp;try with_reducible rfl)
 try simp only[Act.put,Z3]
 refine Y4 (i:=9) (v:=?vq10) rfl (by kernel_rfl) (by kernel_rfl) (by kernel_rfl) rfl (fun _ _ _ h=>h) (Or.inl ⟨by rfl,?hq10⟩) (fun _=>h0) ?rq10
 case hq10=>(intro w _;go_simp;try with_reducible rfl)
 try simp only[Act.put,Z3]
 refine V7 (rs:=[10]) (by kernel_rfl) (by simp) ?_;intro i hi;simp only[List.mem_cons,List.not_mem_nil,or_false]at hi;subst hi;refine X9 (i:=10) rfl (fun K hK=>?_);go_simp;refine hK.out _ _ (fun h=>Bool.noConfusion ((h 10 (by kernel_rfl)).symm.trans (show _=true by kernel_rfl))) ?_;clear hK K
 try simp only[Act.put,Z3]
 refine P6 (by kernel_rfl) ?_ _;go_wp2_with fail
 go_end0
 exact⟨rfl,⟨_,⟨s,hks'.out,.inl ⟨hph'.out,hsw'.out,rfl⟩⟩,by rw[hmk'.out];exact V3.out,T3.out⟩,B3.out⟩
theorem zqm(A:Option Addr)(n c k:Nat)(xs:List Value)(s:Y7)(a3 a4:Option Addr)(n3 n4 c3 c4:Nat)(hn:n≤c)(hc:c≤maxLen)(hn2:n≤1000)(hk:k≤n)(w:World)(h:L7 w A n 6 xs) :
  Calls prog 187 #[.slice A n c,.int .i64 k,.agg #[.int .i64 s.page,.int .i64 s.cls,.int .i64 s.mark,.bool s.swept,.slice a3 n3 c3,.slice a4 n4 c4]] w fun e w'=>∃v,e=.returned v∧w'.ownsRow w.heap.size 93 6 v (n+1) (xs.take (k*6)++Q8 s (.slice a3 n3 c3,.slice a4 n4 c4)++xs.drop (k*6))∧Below w.heap.size w w':=by
 obtain⟨A1,hs1,sr1⟩:=cut_to3 h (show k≤n by omega) hn;obtain⟨A2,hs2,sr2⟩:=zuq h (show k≤n by omega) hn (k:Int) rfl;have bb:=Y2 w (.cells #[.int .i64 s.page,.int .i64 s.cls,.int .i64 s.mark,.bool s.swept,.slice a3 n3 c3,.slice a4 n4 c4] 93);have bn:=Y8 w (.cells #[.int .i64 s.page,.int .i64 s.cls,.int .i64 s.mark,.bool s.swept,.slice a3 n3 c3,.slice a4 n4 c4] 93);have d0:=Z6 bn 0 _ rfl;have d1:=Z6 bn 1 _ rfl;have d2:=Z6 bn 2 _ rfl;have d3:=Z6 bn 3 _ rfl;have d4:=Z6 bn 4 _ rfl;have d5:=Z6 bn 5 _ rfl;have sr1:=Z0 (sr1.below bb);have sr2:=Z0 (sr2.below bb);have bb':=Z0 (show Below w.heap.size w (w.alloc (.cells #[.int .i64 s.page,.int .i64 s.cls,.int .i64 s.mark,.bool s.swept,.slice a3 n3 c3,.slice a4 n4 c4] 93))from bb);have hk1:k≤1000:=by omega
 have hkm:n-k≤1000:=by omega
 have hkn:=Z0 (show k+1+(n-k)=n+1 by omega);clear h hk hn hc bb bn;go_enter func187,ntmps187;go_wp2_with fail;generalize w.alloc (.cells #[.int .i64 s.page,.int .i64 s.cls,.int .i64 s.mark,.bool s.swept,.slice a3 n3 c3,.slice a4 n4 c4] 93)=W0 at *;have b1:=Z0 (show Below W0.heap.size W0 (W0.alloc (.cells #[.int .i64 s.page,.int .i64 s.cls,.int .i64 s.mark,.bool s.swept,.slice a3 n3 c3,.slice a4 n4 c4] 93)).drew from below_drewN (Y2 W0 (.cells #[.int .i64 s.page,.int .i64 s.cls,.int .i64 s.mark,.bool s.swept,.slice a3 n3 c3,.slice a4 n4 c4] 93)) 1);have r1:=Z0 (sr1.out.below b1.out)
 have r2:=Z0 (show L7 (W0.alloc (.cells #[.int .i64 s.page,.int .i64 s.cls,.int .i64 s.mark,.bool s.swept,.slice a3 n3 c3,.slice a4 n4 c4] 93)).drew (some ⟨W0.heap.size,0,none⟩) 1 6 (Q8 s (.slice a3 n3 c3,.slice a4 n4 c4))from(znf W0 (cs:=#[.int .i64 s.page,.int .i64 s.cls,.int .i64 s.mark,.bool s.swept,.slice a3 n3 c3,.slice a4 n4 c4]) (T:=93) (m:=1) (size:=6) rfl (fun u hu=>by
  simp only[List.mem_cons,List.not_mem_nil,or_false]at hu
  rcases hu with rfl|rfl|rfl|rfl|rfl|rfl<;>rfl)).drew)
 go_region_law (first
  | (refine zkn rfl (wp_full (.tmp 11) (.tmp 13) 33 rfl 93 (.agg #[.int .i64 0,.int .i64 0,.int .i64 0,.bool false,.slice none 0 0,.slice none 0 0]) 6 80 underlying33 zeq (by rfl) (by decide) A1 k (xs.take (k*6)) rfl r1.out (some ⟨W0.heap.size,0,none⟩) 1 1 (Q8 s (.slice a3 n3 c3,.slice a4 n4 c4)) rfl r2.out (by unfold maxLen;omega) (by omega) (fun h=>absurd h (by decide)) ?_);intro v1 w1 hm p1 h1;obtain⟨a5,c5,rfl⟩:=X0 p1;have p1':=Z0 p1;have b2:=Z0 (show Below W0.heap.size W0 w1 from b1.out.grown h1 b1.out.size (fun q hq=>(by cases hq)));have r3:=Z0 (sr2.out.below b2.out);have le1:=Z0 (show(W0.alloc (.cells #[.int .i64 s.page,.int .i64 s.cls,.int .i64 s.mark,.bool s.swept,.slice a3 n3 c3,.slice a4 n4 c4] 93)).drew.heap.size≤w1.heap.size from h1.size);clear p1 h1 hm))
 all_goals clear d0 d1 d2 d3 d4 d5
 all_goals go_wp2_with (first
  | (refine N6 rfl (.tmp 15) (.tmp 18) 33 rfl (W0.alloc (.cells #[.int .i64 s.page,.int .i64 s.cls,.int .i64 s.mark,.bool s.swept,.slice a3 n3 c3,.slice a4 n4 c4] 93)).drew.heap.size 93 (.agg #[.int .i64 0,.int .i64 0,.int .i64 0,.bool false,.slice none 0 0,.slice none 0 0]) 6 80 underlying33 zeq (by rfl) (by decide) (.slice a5 (k+1) c5) (k+1) _ rfl p1'.out A2 (n-k) (c-k) _ rfl r3.out (by unfold maxLen;omega) (by omega) le1.out ?_;intro v2 w2 p2 h2;obtain⟨a6,c6,rfl⟩:=X0 p2;have p2':=Z0 p2;have b3:=Z0 (show Below W0.heap.size W0 w2 from b2.out.grown h2 b2.out.size (fun q hq=>(by have:=(p1'.out.lt q hq).1;have:=b1.out.size;omega)));clear p2 h2))
 all_goals go_ret
 all_goals have hz:=bb'.out.size
 all_goals have hz1:=b1.out.size
 all_goals refine⟨.slice a6 (k+1+(n-k)) c6,rfl,?_,bb'.out.trans (b3.out.mono hz)⟩
 all_goals have:=U3 p2'.out (show w.heap.size≤(W0.alloc (.cells #[.int .i64 s.page,.int .i64 s.cls,.int .i64 s.mark,.bool s.swept,.slice a3 n3 c3,.slice a4 n4 c4] 93)).drew.heap.size by omega)
 all_goals rw[hkn.out,List.append_assoc]at this
 all_goals rw[hkn.out]
 all_goals first|exact this|(rw[List.append_assoc];exact this)
theorem slots_eq{c v:Int}(h:sl' c=v)(w:World):Calls prog 144 #[.int .i64 c] w fun e w'=>e=.returned (.int .i64 v)∧w=w':=by
 rw[←h];exact ziv c w
theorem ztm(s:Y7):(∃j:Nat,zoc s=j∧j<s.lens.length∧s.lens[j]?.getD 0=0∧∀i,i<j→s.lens[i]?.getD 0≠0)∨(zoc s=-1∧∀i,i<s.lens.length→s.lens[i]?.getD 0≠0):=by
 cases h:s.lens.findIdx? (fun l=>decide (l=0))with
 | some j =>
  obtain⟨hj,h0,hb⟩:=List.findIdx?_eq_some_iff_getElem.1 h;refine .inl ⟨j,by unfold zoc;rw[h],hj,by simpa[hj]using h0,fun i hi=>?_⟩;have:=hb i hi;rw[List.getElem?_eq_getElem (by omega)];simpa using this
 | none =>
  refine .inr ⟨by unfold zoc;rw[h],fun i hi=>?_⟩;have:=List.findIdx?_eq_none_iff.1 h s.lens[i] (List.getElem_mem hi);rw[List.getElem?_eq_getElem hi];simpa using this
theorem zra{W wm w3:World}{base B:Nat}{S:Y9}{D:WD}{c:Int}{k g1 g2:Nat}{v:Value}(h:VarW W base B S D)(hk:k≤D.spans.length)(hb0:Below W.heap.size W wm)
  (r1:wm.heap[g1]?=some (.cells (madeCells #[.int .i64 0] (sl' c).toNat) 3 (0,0))) (r2:wm.heap[g2]?=some (.cells (madeCells #[.int .i64 0] (sl' c).toNat) 3 (0,0))) (h1:W.heap.size≤g1) (h2:W.heap.size≤g2) (ne:g1≠g2)
  (hb:Below wm.heap.size wm w3) (hr:w3.ownsRow wm.heap.size 93 6 v (D.spans.length+1) ((P4 D.spans S.sv).take (k*6)++Q8 (J4 D c k) (.slice (some ⟨g1,0,none⟩) (sl' c).toNat (sl' c).toNat,.slice (some ⟨g2,0,none⟩) (sl' c).toNat (sl' c).toNat)++(P4 D.spans S.sv).drop (k*6))) :
  (∃S',VarW (w3.setCell ⟨B,4,none⟩ v) base B S' (insD D c k)∧V8 W (w3.setCell ⟨B,4,none⟩ v) B S S')∧Below base W (w3.setCell ⟨B,4,none⟩ v):=by
 have hlt:=h.lt;have hle:=h.le;have hz:=hb0.size;have hb2:Below W.heap.size W w3:=hb0.trans (hb.mono hz);have hv:=h.below hb2;have hl:(sl' c).toNat≤maxLen:=by have:=(zfj c).2;unfold maxLen;omega
 have hr1:=U3 (X8 (zmp (base:=g1) r1 (Nat.le_refl _) hl) hb) h1;have hr2:=U3 (X8 (zmp (base:=g2) r2 (Nat.le_refl _) hl) hb) h2
 have hx:=hv.ins (n0:=W.heap.size) (fun q hq=>(h.own.lt q hq).2) hlt (p:=(.slice (some ⟨g1,0,none⟩) (sl' c).toNat (sl' c).toNat,.slice (some ⟨g2,0,none⟩) (sl' c).toNat (sl' c).toNat)) (s:=J4 D c k) hk (U3 hr hz)
  (by simpa[J4]using hr1) (by simpa[J4]using hr2) (fun q hq e=>ne (by simp[Value.ownBlock]at hq e;omega))
 exact⟨⟨_,hx.1,zou hb2 (fun q hq=>Nat.le_trans hz (hr.lt q hq).1) (fun q hq=>(hr1.lt q hq).1) (fun q hq=>(hr2.lt q hq).1)⟩,(hb2.mono (by omega)).trans hx.2⟩
theorem own_at{w:World}{b sz n q:Nat}{t:TypeId}{x:Value}{xs:List Value}(h:w.ownsRow b t sz x n xs)(hq:x.ownBlock=some q):∃cur,w.heap[q]?=some (.cells cur t (0,0)):=by
 rcases h.2 with⟨rfl,_⟩|⟨g,cap,cur,rfl,_,hg,_⟩
 ·cases hq
 ·obtain rfl:g=q:=by simpa[Value.ownBlock]using hq
  exact⟨cur,hg⟩
theorem VarW.other{w:World}{base B R:Nat}{S:Y9}{D:WD}{cs:Array Value}{T:TypeId}(h:VarW w base B S D)(hR:w.heap[R]?=some (.cells cs T (0,0)))(h1:T≠3)(h2:T≠4)(h3:T≠93)(h4:T≠94):R∉blks S.all:=by
 intro hm;obtain⟨x,hx,hxR⟩:=List.mem_filterMap.1 hm
 have key:∀{t:TypeId},Typ w x t→T=t:=fun⟨_,_,_,_,ht⟩=>by
  obtain⟨cur,hc⟩:=own_at ht hxR;rw[hR]at hc
  cases hc
  rfl
 have ho:=h.own;simp only[Y9.all,List.mem_append,List.mem_cons,List.not_mem_nil,or_false]at hx
 rcases hx with(((rfl|rfl)|(rfl|hx))|(rfl|hx))|rfl
 ·exact h1 (key ⟨_,_,_,_,ho.words⟩)
 ·exact h2 (key ⟨_,_,_,_,ho.dirty⟩)
 ·exact h3 (key ⟨_,_,_,_,ho.spans⟩)
 ·exact h1 (key (ho.tS x hx))
 ·exact h4 (key ⟨_,_,_,_,ho.muts⟩)
 ·exact h1 (key (ho.tM x hx))
 ·exact h1 (key ⟨_,_,_,_,ho.grey⟩)
def FreeAt(D:WD)(c:Int)(base B:Nat)(S:Y9)(w:World)(e:Ending)(w':World):Prop :=
 (∃D1 k j S',M0 D c D1 k j∧e=.returned (.tuple #[.agg #[.int .i64 (k:Int),.int .i64 (j:Int)],.bool true])∧VarW w' base B S' D1∧V8 w w' B S S') ∨
 (zgm D c∧e=.returned (.tuple #[.agg #[.int .i64 0,.int .i64 0],.bool false])∧VarW w' base B S D∧V8 w w' B S S)
theorem zpy(base B:Nat)(S:Y9)(D:WD)(c:Int)(hls:D.spans.length≤1000)(w:World)(h:VarW w base B S D) :
  Calls prog 182 #[.pointer (some ⟨B,0,none⟩),.int .i64 c] w fun e w'=>FreeAt D c base B S w e w'∧Below base w w':=by
 have bb:=Y2 w (.cells #[.int .i64 0,.int .i64 0] 150);have bn:=Z0 (Y8 w (.cells #[.int .i64 0,.int .i64 0] 150));have hv:=Z0 (h.below bb);obtain⟨aS,cS,hgs⟩:=X0 h.own.spans;have hgs':=Z0 hgs;have hsrc:=hv.out.own.ownS;rw[hgs]at hsrc;have hsrc':=Z0 (zyp hsrc);have hrd:=hv.out.rd.parts.2.2.1;rw[hgs]at hrd;have hat:=Z0 (fun k s hk=>hrd.at_ k s hk);have g1:=hv.out.cell 1 (.int .i64 D.pages) rfl;have g4:=hv.out.cell 4 (.slice aS D.spans.length cS) (by rw[←hgs];rfl);have g6:=hv.out.cell 6 (.int .i64 D.phase) rfl;have f4:=Z0 (hv.out.frz 4);have hle:=Z0 h.le;have hBlt:=h.lt;have hown:=Z0 h.own.lt;have hbase:=Z0 (show Below base w (w.alloc (.cells #[.int .i64 0,.int .i64 0] 150))from bb.mono (by have:=h.le;omega));have hwz:=Z0 (show(w.alloc (.cells #[.int .i64 0,.int .i64 0] 150)).heap.size=w.heap.size+1 by simp);have hns:=zfj c;obtain⟨ns,hns'⟩:=Int.eq_ofNat_of_zero_le hns.1;have hn16:ns≤16:=by omega
 have hsl:=Z0 (fun w=>slots_eq hns' w);have hnn:=Z0 (show(sl' c).toNat=ns by omega);have hT:=Z0 (V8.of_below B S bb);clear h hsrc hgs hrd hns hns' bb;go_enter func182,ntmps182;go_wp2_with fail;generalize w.alloc (.cells #[.int .i64 0,.int .i64 0] 150)=W at *
 go_loop [14] (fun i=>∃i':Nat,i'≤D.spans.length∧i=.int .i64 i'∧Hid (zmc D c i')) (fun i=>D.spans.length-(RowKit.intOf i).toNat)
 case atStart=>exact⟨0,Nat.zero_le _,rfl,fun i s hi=>absurd hi (by omega)⟩
 case round =>
  obtain⟨i,hi,rfl,hfu⟩:=hrel
  by_cases hil:i<D.spans.length
  ·obtain⟨s,hks⟩:∃s,D.spans[i]?=some s:=⟨_,List.getElem?_eq_getElem hil⟩
   have hil1:(i:Int)<(D.spans.length:Int):=by omega
   obtain⟨b1,o1,rfl,hrs⟩:=hat.out i s hks;have hfs:=Z0 (zrt b1 (o1+i*6) s W hrs);obtain⟨vl,vp,_,x1,_⟩:=hrs;have hks':=Z0 hks;clear hks;have hfc:=Z0 (ztm s);go_wp2_with fail;refine hfs.out.mono ?_;rintro e w'⟨rfl,rfl⟩
   by_cases hcc:s.cls=c
   ·have hcb:(s.cls == c)=true:=beq_iff_eq.2 hcc
    rcases hfc.out with⟨j,hj,hjl,hj0,hjb⟩|⟨hj,hno⟩
    ·have y:=Z0 (show M0 D c D i j from .inl ⟨rfl,s,hks'.out,hcc,hjl,hj0,hjb,hfu.out⟩)
     have bnc:=bn.out;have q0:=Z6 bnc 0 _ rfl;have q1:=Z6 bnc 1 _ rfl;have z0:=Z9 bnc 0;have z1:=Z9 bnc 1;rw[hj];clear hcc hj hjl hj0 hjb bnc;go_wp2_with fail;refine bodyPost_ret (v:=.tuple #[.agg #[.int .i64 (i:Int),.int .i64 (j:Int)],.bool true]) (by simp[results,results182,go_sem,q0,q1]) rfl ?_;have cc:=((Chg.refl [w.heap.size] W).put (b:=w.heap.size) (by simp) 0 (.int .i64 (i:Int))).put (b:=w.heap.size) (by simp) 1 (.int .i64 (j:Int));exact⟨.inl ⟨D,i,j,S,y.out,rfl,hv.out.chg cc (fun q hq hm=>by have:=(hown.out q hq).2;rw[List.mem_singleton.1 hm]at this;omega) (fun hm=>by have:=List.mem_singleton.1 hm;omega),(hT.out.step cc (fun q hq=>.inr (.inr (by rw[List.mem_singleton.1 hq];omega))))⟩,Chg.below hbase.out cc (by have:=hbase.out.size;have:=hle.out;omega) (fun q hq=>by rw[List.mem_singleton.1 hq];have:=hle.out;omega)⟩
    ·have y:=Z0 (zig hfu.out hks'.out fun _=>hno)
     rw[hj];clear hcc hj hno;go_wp2_with fail
     go_round
     case rel=>exact⟨i+1,by omega,by go_num,y⟩
     case measure=>simp[RowKit.intOf];omega
   ·have hcb:(s.cls == c)=false:=beq_eq_false_iff_ne.2 hcc
    have y:=Z0 (zig hfu.out hks'.out fun h=>absurd h hcc);clear hcc;generalize zoc s=fs at *;go_wp2_with fail
    go_round
    case rel=>exact⟨i+1,by omega,by go_num,y⟩
    case measure=>simp[RowKit.intOf];omega
  ·obtain rfl:i=D.spans.length:=by omega
   have hfp:=Z0 (zru B _ D W hv.out.rd hv.out.boxW);go_wp2_with fail;refine hfp.out.mono ?_;rintro e w'⟨⟨k,hk,rfl⟩,rfl⟩;have bnc:=bn.out;have q0:=Z6 bnc 0 _ rfl;have q1:=Z6 bnc 1 _ rfl;have z0:=Z9 bnc 0;have z1:=Z9 bnc 1
   by_cases hkp:(k:Int)=D.pages
   ·have y:=Z0 (show zgm D c from⟨hfu.out,k,hk.out,hkp⟩)
    rw[←hkp]at g1;clear hkp bnc;go_wp2_with fail;refine bodyPost_ret (v:=.tuple #[.agg #[.int .i64 0,.int .i64 0],.bool false]) (by simp[results,results182,go_sem,q0,q1]) rfl ?_;have cc:=((Chg.refl [w.heap.size] W).put (b:=w.heap.size) (by simp) 0 (.int .i64 0)).put (b:=w.heap.size) (by simp) 1 (.int .i64 0);exact⟨.inr ⟨y.out,rfl,hv.out.chg cc (fun q hq hm=>by have:=(hown.out q hq).2;rw[List.mem_singleton.1 hm]at this;omega) (fun hm=>by have:=List.mem_singleton.1 hm;omega),(hT.out.step cc (fun q hq=>.inr (.inr (by rw[List.mem_singleton.1 hq];omega))))⟩,Chg.below hbase.out cc (by have:=hbase.out.size;have:=hle.out;omega) (fun q hq=>by rw[List.mem_singleton.1 hq];have:=hle.out;omega)⟩
   ·have hkb:((k:Int) == D.pages)=false:=beq_eq_false_iff_ne.2 hkp
    have y:=Z0 (show M0 D c (insD D c k) k 0 from .inr ⟨hfu.out,hk.out,hkp,rfl,rfl⟩);have hkl:=hk.out.1;have hmk:∀(w:World),(Instr.makeSlice 22 (.int .i64 (ns:Int)) (.int .i64 (ns:Int))).run prog w=.ok (.slice (some ⟨w.heap.size,0,none⟩) ns ns) (w.alloc (.cells (madeCells #[.int .i64 0] ns) 3)):=run_make_row' (P:=prog) 22 3 (.int .i64 0) 8 underlying22 zer rfl .i64 .i64 ns (by omega) (by omega);have g6a:∀a,(W.alloc a).cell? ⟨B,6,none⟩=some (.int .i64 D.phase):=fun a=>Y3 (Y2 _ _) g6;have g6b:∀a b,((W.alloc a).alloc b).cell? ⟨B,6,none⟩=some (.int .i64 D.phase):=fun a b=>Y3 (Y2 _ _) (g6a a);have g4a:∀a,(W.alloc a).cell? ⟨B,4,none⟩=some (.slice aS D.spans.length cS):=fun a=>Y3 (Y2 _ _) g4;have g4b:∀a b,((W.alloc a).alloc b).cell? ⟨B,4,none⟩=some (.slice aS D.spans.length cS):=fun a b=>Y3 (Y2 _ _) (g4a a);have hsb:=Z0 (show Below W.heap.size W ((W.alloc (.cells (madeCells #[.int .i64 0] ns) 3)).alloc (.cells (madeCells #[.int .i64 0] ns) 3))from Z7 (Y2 W _) (Y2 _ _));have hsw:=Z0 (hsrc'.out.2.2.2.below hsb.out);have hms1:=Z0 (show((W.alloc (.cells (madeCells #[.int .i64 0] ns) 3)).alloc (.cells (madeCells #[.int .i64 0] ns) 3)).heap[W.heap.size]?=some (.cells (madeCells #[.int .i64 0] ns) 3 (0,0))from Z8 (Y2 _ _) (Y8 W _));have hms2:=Z0 (show((W.alloc (.cells (madeCells #[.int .i64 0] ns) 3)).alloc (.cells (madeCells #[.int .i64 0] ns) 3)).heap[W.heap.size+1]?=some (.cells (madeCells #[.int .i64 0] ns) 3 (0,0))from by have:=Y8 (W.alloc (.cells (madeCells #[.int .i64 0] ns) 3)) (.cells (madeCells #[.int .i64 0] ns) 3);rwa [World.size_alloc]at this);have hwith:=Z0 (fun(a3 a4:Option Addr) (w:World) h=>zqm aS D.spans.length cS k (P4 D.spans S.sv) (J4 D c k) a3 a4 ns ns ns ns hsrc'.out.2.1 hsrc'.out.2.2.1 hls hkl w h)
    have F1:=Z0 (show ∀(v:Value) (w3:World),Below ((W.alloc (.cells (madeCells #[.int .i64 0] ns) 3)).alloc (.cells (madeCells #[.int .i64 0] ns) 3)).heap.size ((W.alloc (.cells (madeCells #[.int .i64 0] ns) 3)).alloc (.cells (madeCells #[.int .i64 0] ns) 3)) w3→w3.ownsRow ((W.alloc (.cells (madeCells #[.int .i64 0] ns) 3)).alloc (.cells (madeCells #[.int .i64 0] ns) 3)).heap.size 93 6 v (D.spans.length+1) ((P4 D.spans S.sv).take (k*6)++Q8 (J4 D c k) (.slice (some ⟨W.heap.size,0,none⟩) ns ns,.slice (some ⟨W.heap.size+1,0,none⟩) ns ns)++(P4 D.spans S.sv).drop (k*6))→(∃S',VarW (w3.setCell ⟨B,4,none⟩ v) base B S' (insD D c k)∧V8 W (w3.setCell ⟨B,4,none⟩ v) B S S')∧Below base W (w3.setCell ⟨B,4,none⟩ v)from
     fun v w3 hb hr=>zra (g1:=W.heap.size) (g2:=W.heap.size+1) hv.out hkl hsb.out (by rw[hnn.out];exact hms1.out) (by rw[hnn.out];exact hms2.out) (by omega) (by omega) (by omega) hb (by rw[hnn.out];exact hr))
    have F2:=Z0 (show ∀(v:Value) (w3:World),Below ((W.alloc (.cells (madeCells #[.int .i64 0] ns) 3)).alloc (.cells (madeCells #[.int .i64 0] ns) 3)).heap.size ((W.alloc (.cells (madeCells #[.int .i64 0] ns) 3)).alloc (.cells (madeCells #[.int .i64 0] ns) 3)) w3→w3.ownsRow ((W.alloc (.cells (madeCells #[.int .i64 0] ns) 3)).alloc (.cells (madeCells #[.int .i64 0] ns) 3)).heap.size 93 6 v (D.spans.length+1) ((P4 D.spans S.sv).take (k*6)++Q8 (J4 D c k) (.slice (some ⟨W.heap.size+1,0,none⟩) ns ns,.slice (some ⟨W.heap.size,0,none⟩) ns ns)++(P4 D.spans S.sv).drop (k*6))→(∃S',VarW (w3.setCell ⟨B,4,none⟩ v) base B S' (insD D c k)∧V8 W (w3.setCell ⟨B,4,none⟩ v) B S S')∧Below base W (w3.setCell ⟨B,4,none⟩ v)from
     fun v w3 hb hr=>zra (g1:=W.heap.size+1) (g2:=W.heap.size) hv.out hkl hsb.out (by rw[hnn.out];exact hms2.out) (by rw[hnn.out];exact hms1.out) (by omega) (by omega) (by omega) hb (by rw[hnn.out];exact hr))
    have g4W:=Z0 g4;have hk':=Z0 hkl;clear hkp hkl bnc;go_upto_region 11 with fail
    go_cut [8] (fun q wx=>q=.int .i64 k∧Hid (∃S',VarW wx base B S' (insD D c k)∧V8 W wx B S S')∧Hid (Below base W wx)∧Hid (wx.heap[w.heap.size]?=some (.cells #[.int .i64 0,.int .i64 0] 150 (0,0))))
    case first =>
     clear hT hat g1 q0 q1 z0 z1 hkb hfu y hk hms1 hms2 hown hbase hle hnn hsrc' hk' hgs' hls hfp hi;have h0:W.drew.cell? ⟨B,4,none⟩=some (.slice aS D.spans.length cS)∧W.drew.cell? ⟨B,6,none⟩=some (.int .i64 D.phase):=⟨g4,g6⟩;refine N3 (fun w'=>w'.cell? ⟨B,4,none⟩=some (.slice aS D.spans.length cS)∧w'.cell? ⟨B,6,none⟩=some (.int .i64 D.phase)) (fun j=>j == 21 || j == 24) (by kernel_rfl) ?_;refine Y4 (i:=0) (v:=?vq1) rfl (by kernel_rfl) (by kernel_rfl) (by kernel_rfl) rfl (fun _ _ _ h=>h) (Or.inl ⟨by rfl,?hq1⟩) (fun _=>h0) ?rq1
     case hq1=>(intro w _;go_simp;try with_reducible rfl)
     try simp only[Act.put,Z3]
     refine Y4 (i:=1) (v:=?vq2) rfl (by kernel_rfl) (by kernel_rfl) (by kernel_rfl) rfl (fun _ _ _ h=>h) (Or.inl ⟨by rfl,?hq2⟩) (fun _=>h0) ?rq2
     case hq2=>(intro w _;go_simp;try with_reducible rfl)
     try simp only[Act.put,Z3]
     refine Y4 (i:=2) (v:=?vq3) rfl (by kernel_rfl) (by kernel_rfl) (by kernel_rfl) rfl (fun _ _ _ h=>h) (Or.inl ⟨by rfl,?hq3⟩) (fun _=>h0) ?rq3
     case hq3=>(intro w _;go_simp;try with_reducible rfl)
     try simp only[Act.put,Z3]
     refine Y4 (i:=3) (v:=?vq4) rfl (by kernel_rfl) (by kernel_rfl) (by kernel_rfl) rfl (fun _ _ _ h=>h) (Or.inl ⟨by rfl,?hq4⟩) (fun _=>h0) ?rq4
     case hq4=>(intro w _;go_simp;try with_reducible rfl)
     try simp only[Act.put,Z3]
     refine V6 (i:=4) (v:=?vq5) rfl (by kernel_rfl) (by kernel_rfl) (by kernel_rfl) (by kernel_rfl) (fun j hj=>by simp at hj;rcases hj with rfl|rfl<;>kernel_rfl) (fun _ _ _ h=>h) (Or.inl ⟨by rfl,?hq5⟩) (by exact h0) ?rq5
     case hq5=>(intro w hSw;(try dsimp only at hSw);obtain⟨s4,s6⟩:=hSw;go_simp;try with_reducible rfl)
     try simp only[Act.put,Z3]
     refine Y4 (i:=5) (v:=?vq6) rfl (by kernel_rfl) (by kernel_rfl) (by kernel_rfl) rfl (fun _ _ _ h=>h) (Or.inl ⟨by rfl,?hq6⟩) (fun _=>h0) ?rq6
     case hq6=>(intro w _;go_simp;try with_reducible rfl)
     try simp only[Act.put,Z3]
     refine Y4 (i:=6) (v:=?vq7) rfl (by kernel_rfl) (by kernel_rfl) (by kernel_rfl) rfl (fun _ _ _ h=>h) (Or.inl ⟨by rfl,?hq7⟩) (fun _=>h0) ?rq7
     case hq7=>(intro w _;go_simp;try with_reducible rfl)
     try simp only[Act.put,Z3]
     refine Y4 (i:=7) (v:=?vq8) rfl (by kernel_rfl) (by kernel_rfl) (by kernel_rfl) rfl (fun _ _ _ h=>h) (Or.inl ⟨by rfl,?hq8⟩) (fun _=>h0) ?rq8
     case hq8=>(intro w _;go_simp;try with_reducible rfl)
     try simp only[Act.put,Z3]
     refine Y4 (i:=8) (v:=?vq9) rfl (by kernel_rfl) (by kernel_rfl) (by kernel_rfl) rfl (fun _ _ _ h=>h) (Or.inl ⟨by rfl,?hq9⟩) (fun _=>h0) ?rq9
     case hq9=>(intro w _;go_simp;try with_reducible rfl)
     try simp only[Act.put,Z3]
     refine Y4 (i:=9) (v:=?vq10) rfl (by kernel_rfl) (by kernel_rfl) (by kernel_rfl) rfl (fun _ _ _ h=>h) (Or.inl ⟨by rfl,?hq10⟩) (fun _=>h0) ?rq10
     case hq10=>(intro w _;go_simp;try with_reducible rfl)
     try simp only[Act.put,Z3]
     refine Y4 (i:=10) (v:=?vq11) rfl (by kernel_rfl) (by kernel_rfl) (by kernel_rfl) rfl (fun _ _ _ h=>h) (Or.inl ⟨by rfl,?hq11⟩) (fun _=>h0) ?rq11
     case hq11=>(intro w _;go_simp;try with_reducible rfl)
     try simp only[Act.put,Z3]
     refine Y4 (i:=11) (v:=?vq12) rfl (by kernel_rfl) (by kernel_rfl) (by kernel_rfl) rfl (fun _ _ _ h=>h) (Or.inl ⟨by rfl,?hq12⟩) (fun _=>h0) ?rq12
     case hq12=>(intro w _;go_simp;try with_reducible rfl)
     try simp only[Act.put,Z3]
     refine V6 (i:=12) (v:=?vq13) rfl (by kernel_rfl) (by kernel_rfl) (by kernel_rfl) (by kernel_rfl) (fun j hj=>by simp at hj;rcases hj with rfl|rfl<;>kernel_rfl) (fun _ _ _ h=>h) (Or.inl ⟨by rfl,?hq13⟩) (by exact h0) ?rq13
     case hq13=>(intro w hSw;(try dsimp only at hSw);obtain⟨s4,s6⟩:=hSw;go_simp;try with_reducible rfl)
     try simp only[Act.put,Z3]
     refine Y4 (i:=13) (v:=?vq14) rfl (by kernel_rfl) (by kernel_rfl) (by kernel_rfl) rfl (fun _ _ _ h=>h) (Or.inl ⟨by rfl,?hq14⟩) (fun _=>h0) ?rq14
     case hq14=>(intro w _;go_simp;try with_reducible rfl)
     try simp only[Act.put,Z3]
     refine Y4 (i:=14) (v:=?vq15) rfl (by kernel_rfl) (by kernel_rfl) (by kernel_rfl) rfl (fun _ _ _ h=>h) (Or.inl ⟨by rfl,?hq15⟩) (fun _=>h0) ?rq15
     case hq15=>(intro w _;go_simp;try with_reducible rfl)
     try simp only[Act.put,Z3]
     refine Y4 (i:=17) (v:=?vq16) rfl (by kernel_rfl) (by kernel_rfl) (by kernel_rfl) rfl (fun _ _ _ h=>h) (Or.inl ⟨by rfl,?hq16⟩) (fun _=>h0) ?rq16
     case hq16=>(intro w _;go_simp;try with_reducible rfl)
     try simp only[Act.put,Z3]
     refine V7 (rs:=[15]) (by kernel_rfl) (by simp) ?_;intro i hi;simp only[List.mem_cons,List.not_mem_nil,or_false]at hi;subst hi;refine X9 (i:=15) rfl (fun K hK=>?_);go_simp;go_wp2_with (go_at_call 144;refine(hsl.out _).mono ?_;rintro e w'⟨rfl,rfl⟩);refine hK.out _ _ (fun _=>(by first|exact⟨g4,g6⟩|exact⟨g4a _,g6a _⟩|exact⟨g4b _ _,g6b _ _⟩)) ?_;clear hK K
     try simp only[Act.put,Z3]
     refine V7 (rs:=[16,18]) (by kernel_rfl) (by simp) ?_;intro i hi;simp only[List.mem_cons,List.not_mem_nil,or_false]at hi
     rcases hi with rfl|rfl
     ·skip
      refine X9 (i:=16) rfl (fun K hK=>?_);go_simp;refine hK.out _ _ (fun _=>(by first|exact⟨g4,g6⟩|exact⟨g4a _,g6a _⟩|exact⟨g4b _ _,g6b _ _⟩)) ?_;clear hK K
      try simp only[Act.put,Z3]
      refine V7 (rs:=[18]) (by kernel_rfl) (by simp) ?_;intro i hi;simp only[List.mem_cons,List.not_mem_nil,or_false]at hi;subst hi;refine X9 (i:=18) rfl (fun K hK=>?_);go_simp;go_wp2_with (go_at_call 144;refine(hsl.out _).mono ?_;rintro e w'⟨rfl,rfl⟩);refine hK.out _ _ (fun _=>(by first|exact⟨g4,g6⟩|exact⟨g4a _,g6a _⟩|exact⟨g4b _ _,g6b _ _⟩)) ?_;clear hK K
      try simp only[Act.put,Z3]
      refine V7 (rs:=[19]) (by kernel_rfl) (by simp) ?_;intro i hi;simp only[List.mem_cons,List.not_mem_nil,or_false]at hi;subst hi;refine X9 (i:=19) rfl (fun K hK=>?_);go_simp;refine hK.out _ _ (fun _=>(by first|exact⟨g4,g6⟩|exact⟨g4a _,g6a _⟩|exact⟨g4b _ _,g6b _ _⟩)) ?_;clear hK K
      try simp only[Act.put,Z3]
      refine Y4 (i:=20) (v:=?vq17) rfl (by kernel_rfl) (by kernel_rfl) (by kernel_rfl) rfl (fun _ _ _ h=>h) (Or.inl ⟨by rfl,?hq17⟩) (fun _=>(by first|exact⟨g4,g6⟩|exact⟨g4a _,g6a _⟩|exact⟨g4b _ _,g6b _ _⟩)) ?rq17
      case hq17=>(intro w _;go_simp;try with_reducible rfl)
      try simp only[Act.put,Z3]
      refine V7 (rs:=[21]) (by kernel_rfl) (by simp) ?_;intro i hi;simp only[List.mem_cons,List.not_mem_nil,or_false]at hi;subst hi;refine X9 (i:=21) rfl (fun K hK=>?_);go_simp;go_wp2_with (go_at_call 187;refine(hwith.out _ _ _ ?_).mono ?_;(first|exact hsw.out|exact hsw.out.drew);rintro e w3⟨v,rfl,hr,hb⟩;obtain⟨a9,c9,rfl⟩:=X0 hr;have hb':=(show Below ((W.alloc (.cells (madeCells #[.int .i64 0] ns) 3)).alloc (.cells (madeCells #[.int .i64 0] ns) 3)).heap.size ((W.alloc (.cells (madeCells #[.int .i64 0] ns) 3)).alloc (.cells (madeCells #[.int .i64 0] ns) 3)) w3 from⟨hb.os,hb.tape,hb.output,hb.size,hb.block⟩);(first|(have hf:=Z0 (F1.out _ w3 hb' hr))|(have hf:=Z0 (F2.out _ w3 hb' hr)));have g4c:=Y3 (Z7 hsb.out hb') g4W.out;have f4c:w3.frozen? ⟨B,4,none⟩=false:=(World.frozen?_of_block ((Z7 hsb.out hb').block B (by have:=hwz.out;omega))).trans f4.out;have bnz:=Z0 (Z8 (Z7 hsb.out hb') bn.out);clear hr hb hb');refine hK.out _ _ (fun h=>Bool.noConfusion ((h 21 (by kernel_rfl)).symm.trans (show _=true by kernel_rfl))) ?_;clear hK K
      try simp only[Act.put,Z3]
      refine Y4 (i:=22) (v:=?vq18) rfl (by kernel_rfl) (by kernel_rfl) (by kernel_rfl) rfl (fun _ _ _ h=>h) (Or.inl ⟨by rfl,?hq18⟩) (fun h=>Bool.noConfusion ((h 21 (by kernel_rfl)).symm.trans (show _=true by kernel_rfl))) ?rq18
      case hq18=>(intro w _;go_simp;try with_reducible rfl)
      try simp only[Act.put,Z3]
      refine Y4 (i:=23) (v:=?vq19) rfl (by kernel_rfl) (by kernel_rfl) (by kernel_rfl) rfl (fun _ _ _ h=>h) (Or.inl ⟨by rfl,?hq19⟩) (fun h=>Bool.noConfusion ((h 21 (by kernel_rfl)).symm.trans (show _=true by kernel_rfl))) ?rq19
      case hq19=>(intro w _;go_simp;try with_reducible rfl)
      try simp only[Act.put,Z3]
      refine V7 (rs:=[24]) (by kernel_rfl) (by simp) ?_;intro i hi;simp only[List.mem_cons,List.not_mem_nil,or_false]at hi;subst hi;refine X9 (i:=24) rfl (fun K hK=>?_);go_simp;refine hK.out _ _ (fun h=>Bool.noConfusion ((h 21 (by kernel_rfl)).symm.trans (show _=true by kernel_rfl))) ?_;clear hK K
      try simp only[Act.put,Z3]
      refine P6 (by kernel_rfl) ?_ _;go_wp2_with fail
      go_meet
      exact⟨rfl,hf.out.1,hf.out.2,(heap_setCell_other w3 ⟨B,4,none⟩ w.heap.size _ (by show w.heap.size≠B;omega)).trans bnz.out⟩
     ·skip
      refine X9 (i:=18) rfl (fun K hK=>?_);go_simp;go_wp2_with (go_at_call 144;refine(hsl.out _).mono ?_;rintro e w'⟨rfl,rfl⟩);refine hK.out _ _ (fun _=>(by first|exact⟨g4,g6⟩|exact⟨g4a _,g6a _⟩|exact⟨g4b _ _,g6b _ _⟩)) ?_;clear hK K
      try simp only[Act.put,Z3]
      refine V7 (rs:=[16,19]) (by kernel_rfl) (by simp) ?_;intro i hi;simp only[List.mem_cons,List.not_mem_nil,or_false]at hi
      rcases hi with rfl|rfl
      ·skip
       refine X9 (i:=16) rfl (fun K hK=>?_);go_simp;refine hK.out _ _ (fun _=>(by first|exact⟨g4,g6⟩|exact⟨g4a _,g6a _⟩|exact⟨g4b _ _,g6b _ _⟩)) ?_;clear hK K
       try simp only[Act.put,Z3]
       refine V7 (rs:=[19]) (by kernel_rfl) (by simp) ?_;intro i hi;simp only[List.mem_cons,List.not_mem_nil,or_false]at hi;subst hi;refine X9 (i:=19) rfl (fun K hK=>?_);go_simp;refine hK.out _ _ (fun _=>(by first|exact⟨g4,g6⟩|exact⟨g4a _,g6a _⟩|exact⟨g4b _ _,g6b _ _⟩)) ?_;clear hK K
       try simp only[Act.put,Z3]
       refine Y4 (i:=20) (v:=?vq20) rfl (by kernel_rfl) (by kernel_rfl) (by kernel_rfl) rfl (fun _ _ _ h=>h) (Or.inl ⟨by rfl,?hq20⟩) (fun _=>(by first|exact⟨g4,g6⟩|exact⟨g4a _,g6a _⟩|exact⟨g4b _ _,g6b _ _⟩)) ?rq20
       case hq20=>(intro w _;go_simp;try with_reducible rfl)
       try simp only[Act.put,Z3]
       refine V7 (rs:=[21]) (by kernel_rfl) (by simp) ?_;intro i hi;simp only[List.mem_cons,List.not_mem_nil,or_false]at hi;subst hi;refine X9 (i:=21) rfl (fun K hK=>?_);go_simp;go_wp2_with (go_at_call 187;refine(hwith.out _ _ _ ?_).mono ?_;(first|exact hsw.out|exact hsw.out.drew);rintro e w3⟨v,rfl,hr,hb⟩;obtain⟨a9,c9,rfl⟩:=X0 hr;have hb':=(show Below ((W.alloc (.cells (madeCells #[.int .i64 0] ns) 3)).alloc (.cells (madeCells #[.int .i64 0] ns) 3)).heap.size ((W.alloc (.cells (madeCells #[.int .i64 0] ns) 3)).alloc (.cells (madeCells #[.int .i64 0] ns) 3)) w3 from⟨hb.os,hb.tape,hb.output,hb.size,hb.block⟩);(first|(have hf:=Z0 (F1.out _ w3 hb' hr))|(have hf:=Z0 (F2.out _ w3 hb' hr)));have g4c:=Y3 (Z7 hsb.out hb') g4W.out;have f4c:w3.frozen? ⟨B,4,none⟩=false:=(World.frozen?_of_block ((Z7 hsb.out hb').block B (by have:=hwz.out;omega))).trans f4.out;have bnz:=Z0 (Z8 (Z7 hsb.out hb') bn.out);clear hr hb hb');refine hK.out _ _ (fun h=>Bool.noConfusion ((h 21 (by kernel_rfl)).symm.trans (show _=true by kernel_rfl))) ?_;clear hK K
       try simp only[Act.put,Z3]
       refine Y4 (i:=22) (v:=?vq21) rfl (by kernel_rfl) (by kernel_rfl) (by kernel_rfl) rfl (fun _ _ _ h=>h) (Or.inl ⟨by rfl,?hq21⟩) (fun h=>Bool.noConfusion ((h 21 (by kernel_rfl)).symm.trans (show _=true by kernel_rfl))) ?rq21
       case hq21=>(intro w _;go_simp;try with_reducible rfl)
       try simp only[Act.put,Z3]
       refine Y4 (i:=23) (v:=?vq22) rfl (by kernel_rfl) (by kernel_rfl) (by kernel_rfl) rfl (fun _ _ _ h=>h) (Or.inl ⟨by rfl,?hq22⟩) (fun h=>Bool.noConfusion ((h 21 (by kernel_rfl)).symm.trans (show _=true by kernel_rfl))) ?rq22
       case hq22=>(intro w _;go_simp;try with_reducible rfl)
       try simp only[Act.put,Z3]
       refine V7 (rs:=[24]) (by kernel_rfl) (by simp) ?_;intro i hi;simp only[List.mem_cons,List.not_mem_nil,or_false]at hi;subst hi;refine X9 (i:=24) rfl (fun K hK=>?_);go_simp;refine hK.out _ _ (fun h=>Bool.noConfusion ((h 21 (by kernel_rfl)).symm.trans (show _=true by kernel_rfl))) ?_;clear hK K
       try simp only[Act.put,Z3]
       refine P6 (by kernel_rfl) ?_ _;go_wp2_with fail
       go_meet
       exact⟨rfl,hf.out.1,hf.out.2,(heap_setCell_other w3 ⟨B,4,none⟩ w.heap.size _ (by show w.heap.size≠B;omega)).trans bnz.out⟩
      ·skip
       refine X9 (i:=19) rfl (fun K hK=>?_);go_simp;refine hK.out _ _ (fun _=>(by first|exact⟨g4,g6⟩|exact⟨g4a _,g6a _⟩|exact⟨g4b _ _,g6b _ _⟩)) ?_;clear hK K
       try simp only[Act.put,Z3]
       refine V7 (rs:=[16]) (by kernel_rfl) (by simp) ?_;intro i hi;simp only[List.mem_cons,List.not_mem_nil,or_false]at hi;subst hi;refine X9 (i:=16) rfl (fun K hK=>?_);go_simp;refine hK.out _ _ (fun _=>(by first|exact⟨g4,g6⟩|exact⟨g4a _,g6a _⟩|exact⟨g4b _ _,g6b _ _⟩)) ?_;clear hK K
       try simp only[Act.put,Z3]
       refine Y4 (i:=20) (v:=?vq23) rfl (by kernel_rfl) (by kernel_rfl) (by kernel_rfl) rfl (fun _ _ _ h=>h) (Or.inl ⟨by rfl,?hq23⟩) (fun _=>(by first|exact⟨g4,g6⟩|exact⟨g4a _,g6a _⟩|exact⟨g4b _ _,g6b _ _⟩)) ?rq23
       case hq23=>(intro w _;go_simp;try with_reducible rfl)
       try simp only[Act.put,Z3]
       refine V7 (rs:=[21]) (by kernel_rfl) (by simp) ?_;intro i hi;simp only[List.mem_cons,List.not_mem_nil,or_false]at hi;subst hi;refine X9 (i:=21) rfl (fun K hK=>?_);go_simp;go_wp2_with (go_at_call 187;refine(hwith.out _ _ _ ?_).mono ?_;(first|exact hsw.out|exact hsw.out.drew);rintro e w3⟨v,rfl,hr,hb⟩;obtain⟨a9,c9,rfl⟩:=X0 hr;have hb':=(show Below ((W.alloc (.cells (madeCells #[.int .i64 0] ns) 3)).alloc (.cells (madeCells #[.int .i64 0] ns) 3)).heap.size ((W.alloc (.cells (madeCells #[.int .i64 0] ns) 3)).alloc (.cells (madeCells #[.int .i64 0] ns) 3)) w3 from⟨hb.os,hb.tape,hb.output,hb.size,hb.block⟩);(first|(have hf:=Z0 (F1.out _ w3 hb' hr))|(have hf:=Z0 (F2.out _ w3 hb' hr)));have g4c:=Y3 (Z7 hsb.out hb') g4W.out;have f4c:w3.frozen? ⟨B,4,none⟩=false:=(World.frozen?_of_block ((Z7 hsb.out hb').block B (by have:=hwz.out;omega))).trans f4.out;have bnz:=Z0 (Z8 (Z7 hsb.out hb') bn.out);clear hr hb hb');refine hK.out _ _ (fun h=>Bool.noConfusion ((h 21 (by kernel_rfl)).symm.trans (show _=true by kernel_rfl))) ?_;clear hK K
       try simp only[Act.put,Z3]
       refine Y4 (i:=22) (v:=?vq24) rfl (by kernel_rfl) (by kernel_rfl) (by kernel_rfl) rfl (fun _ _ _ h=>h) (Or.inl ⟨by rfl,?hq24⟩) (fun h=>Bool.noConfusion ((h 21 (by kernel_rfl)).symm.trans (show _=true by kernel_rfl))) ?rq24
       case hq24=>(intro w _;go_simp;try with_reducible rfl)
       try simp only[Act.put,Z3]
       refine Y4 (i:=23) (v:=?vq25) rfl (by kernel_rfl) (by kernel_rfl) (by kernel_rfl) rfl (fun _ _ _ h=>h) (Or.inl ⟨by rfl,?hq25⟩) (fun h=>Bool.noConfusion ((h 21 (by kernel_rfl)).symm.trans (show _=true by kernel_rfl))) ?rq25
       case hq25=>(intro w _;go_simp;try with_reducible rfl)
       try simp only[Act.put,Z3]
       refine V7 (rs:=[24]) (by kernel_rfl) (by simp) ?_;intro i hi;simp only[List.mem_cons,List.not_mem_nil,or_false]at hi;subst hi;refine X9 (i:=24) rfl (fun K hK=>?_);go_simp;refine hK.out _ _ (fun h=>Bool.noConfusion ((h 21 (by kernel_rfl)).symm.trans (show _=true by kernel_rfl))) ?_;clear hK K
       try simp only[Act.put,Z3]
       refine P6 (by kernel_rfl) ?_ _;go_wp2_with fail
       go_meet
       exact⟨rfl,hf.out.1,hf.out.2,(heap_setCell_other w3 ⟨B,4,none⟩ w.heap.size _ (by show w.heap.size≠B;omega)).trans bnz.out⟩
    case rest =>
     obtain⟨rfl,hv2,hb2,bn2⟩:=hcut;clear q0 q1 z0 z1 g6a g6b g4a g4b hmk;have q0:=Z6 bn2.out 0 _ rfl;have q1:=Z6 bn2.out 1 _ rfl;have z0:=Z9 bn2.out 0;have z1:=Z9 bn2.out 1;obtain⟨S2,hv3,ht3⟩:=hv2.out;have hv3':=Z0 hv3;have ht3':=Z0 ht3;clear hv3 ht3;have hlt2:=Z0 (show w.heap.size<wc.heap.size from(Array.getElem?_eq_some_iff.1 bn2.out).1);go_wp2_with fail;refine bodyPost_ret (v:=.tuple #[.agg #[.int .i64 (k:Int),.int .i64 0],.bool true]) (by simp[results,results182,go_sem,q0,q1]) rfl ?_;have cc:=((Chg.refl [w.heap.size] wc).put (b:=w.heap.size) (by simp) 0 (.int .i64 (k:Int))).put (b:=w.heap.size) (by simp) 1 (.int .i64 0);have hwl:=hb2.out.size;exact⟨.inl ⟨_,k,0,S2,y.out,rfl,hv3'.out.chg cc (fun q hq hm=>by rw[List.mem_singleton.1 hm]at hq;exact hv3'.out.other bn2.out (by decide) (by decide) (by decide) (by decide) hq) (fun hm=>by have:=List.mem_singleton.1 hm;omega),((hT.out.trans ht3'.out).step cc (fun q hq=>.inr (.inr (by rw[List.mem_singleton.1 hq];omega))))⟩,(hbase.out.trans hb2.out |> fun b=>Chg.below b cc (by have:=hwz.out;have:=hle.out;omega) (fun q hq=>by rw[List.mem_singleton.1 hq];have:=hle.out;omega))⟩
theorem take_any(base B:Nat)(S:Y9)(D:WD)(n p:Int)(hF:Y5 D)(e1:1≤n)(e2:n≤16)(e3:0≤p)(e4:p≤n)(w:World)(h:VarW w base B S D) :
  Calls prog 177 #[.pointer (some ⟨B,0,none⟩),.int .i64 n,.int .i64 p] w fun e w'=>TookTo D n p base B S w e w'∧Below base w w' :=
 take_of (fun base B S D c hls w h=>(zpy base B S D c hls w h).mono fun e w' h=>⟨h.1,h.2⟩) base B S D n p hF e1 e2 e3 e4 w h
end Go.Proofs.YtjjamgeoompbkaaGreat
