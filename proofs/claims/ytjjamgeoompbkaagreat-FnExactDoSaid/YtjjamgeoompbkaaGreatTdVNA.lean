import Derived.Test.YtjjamgeoompbkaaGreatTdVW

set_option maxRecDepth 100000
set_option maxHeartbeats 16000000
set_option linter.all false
namespace Go.Proofs.YtjjamgeoompbkaaGreat
open Go.RowKit
open Go.Proofs.Tryz
theorem zfu{E:WD}{base B q:Nat}{S T:Y9}{w w1 w2:World}(hv:VarW w1 base B T E)(hT:V8 w w1 B S T)(hB:Below base w w1)(hb:base≤q)(hq:w.heap.size≤q)(hn:q∉B::blks T.all)(hc:Chg [q] w1 w2) :
  VarW w2 base B T E∧V8 w w2 B S T∧Below base w w2 :=
 ⟨⟨(hc.block B hv.lt fun hm=>hn (by rw[←List.mem_singleton.1 hm];simp)).trans hv.box,hv.own.chg hc fun k hk hm=>hn (by rw[←List.mem_singleton.1 hm];exact List.mem_cons_of_mem _ hk),hv.le,hv.ne⟩,hT.step hc fun q' hq'=>.inr (.inr (by rw[List.mem_singleton.1 hq'];exact hq)),
  Chg.below hB hc (Nat.le_of_lt (Nat.lt_of_le_of_lt hv.le hv.lt)) fun q' hq'=>by rw[List.mem_singleton.1 hq'];exact hb⟩
theorem ians_6(base B V g0 n0:Nat)(N:DataW Unit)(S:Y9)(D:WD)(k g i n v:Int)(M H:Nat)(r:List Int)(hF:Y5 D)(hr:D.muts[M]?=some r)(hH:H<6)(w:World)(hw:VarW w base B S D)(hV:U6 D w V B g0 n0 N) :
  Calls prog 118 #[.iface 172 (.agg #[.iface 105 (.pointer (some ⟨V,0,none⟩)),.int .i64 k,.int .i64 (M:Int),.int .i64 (H:Int),.int .i64 g,.int .i64 i,.int .i64 n,.int .i64 v])] w fun e w'=>e=.returned (.agg #[.int .i64 0,.int .i64 0])∧VarW w' base B S (N0 D (M:Int) (H:Int) 0)∧V8 w w' B S S∧Below base w w':=by
 have hr6:=hF.roots M r hr;have hmm:D.muts.length≤3:=by have:=hF.geo.2.2.2.2.2.2;omega
 have bb:=Z0 (Z7 (Y2 w (.cells #[.int .i64 0,.int .i64 0] 39)) (Y2 (w.alloc (.cells #[.int .i64 0,.int .i64 0] 39)) (.cells (Z4 105 V k (M:Int) (H:Int) g i n v) 172)));have ba:=Z0 (Z8 (Y2 (w.alloc (.cells #[.int .i64 0,.int .i64 0] 39)) (.cells (Z4 105 V k (M:Int) (H:Int) g i n v) 172)) (Y8 w (.cells #[.int .i64 0,.int .i64 0] 39)));have hle:=Z0 (Nat.le_of_lt (Nat.lt_of_le_of_lt hw.le hw.lt))
 have hnb:=Z0 (show w.heap.size∉B::blks S.all from fun hm=>by
  rcases List.mem_cons.1 hm with e|hm
  ·have:=hw.lt
   omega
  ·have:=(hw.own.lt _ hm).2
   omega)
 have hw1:=hw.below bb.out;have hV1:=hV.below bb.out;have hv1:=Z0 hw1;obtain⟨gm,cm,gr,cr,R⟩:=hw1.rootAt hr (show H<r.length by omega);have hR:=Z0 R;have hrn:=Z0 (show gr∈blks S.all from zfm R.mv);have hmv:=Z0 R.mv;have hr':=Z0 hr;have hg1:¬gr=w.heap.size:=fun e=>hnb.out (by rw[←e];exact List.mem_cons_of_mem _ hrn.out);have hg2:¬w.heap.size=gr:=fun e=>hg1 e.symm;have hcall:=Z0 (zfe base B V g0 n0 N S D k (M:Int) (H:Int) g i n v M H gm cm gr cr r rfl (by omega) hr6 hmm _ hw1 hV1 R);clear hF hr hH hw hV hr6 hmm hw1 hV1 R;have t1:=ta_6_1;have t2:=ta_6_2;have t3:=ta_6_3;have t4:=ta_6_4;have t5:=ta_6_5;have t6:=ta_6_6;go_enter func118,ntmps118;go_wp2_with (go_at_call 142;refine hcall.out.mono ?_;rintro e w3⟨rfl,b3⟩;have hA3:=Z8 b3 ba.out;have B3:=Z0 (Z7 bb.out b3);have hv3:=Z0 (hv1.out.below b3);have R3:=hR.out.below b3;have xr:=R3.xr;have fr:=R3.frz;have a0:=Z6 hA3 0 (.int .i64 0) rfl;have a1:=Z6 hA3 1 (.int .i64 0) rfl;have z0:=Z9 hA3 0;have z1:=Z9 hA3 1;clear R3 hA3 b3);have vr:=hv3.out.root M H r _ 0 hr'.out hmv.out rfl;have hvE:=Z0 (show VarW _ base B S (N0 D (M:Int) (H:Int) 0)from by rw[J2 hr'.out];exact vr.1);have hBE:=Z0 ((B3.out.mono hle.out).trans vr.2);have hTE:=Z0 ((V8.of_below B S B3.out).own_set hrn.out H (.int .i64 0));refine bodyPost_ret (v:=.agg #[.int .i64 0,.int .i64 0]) (by simp[results,results118,go_sem,a0,a1,z0,z1,hg1,hg2]) rfl ?_;have hch:Chg [w.heap.size] (w3.setCell ⟨gr,H,none⟩ (.int .i64 0)) _:=((Chg.refl _ _).put (b:=w.heap.size) (by simp) 0 (.int .i64 0)).put (b:=w.heap.size) (by simp) 1 (.int .i64 0);have hx:=zfu hvE.out hTE.out hBE.out hle.out (Nat.le_refl _) hnb.out hch;exact⟨rfl,hx.1,hx.2.1,hx.2.2⟩
theorem P1(base B V g0 n0:Nat)(N:DataW Unit)(S:Y9)(D:WD)(k m h g i n v:Int)(T:TypeId)(fc:FuncId)(AC:Value)(c:Int)
  (hop:∀w:World,Calls prog 117 #[.agg #[.iface 105 (.pointer (some ⟨V,0,none⟩)),.int .i64 k,.int .i64 m,.int .i64 h,.int .i64 g,.int .i64 i,.int .i64 n,.int .i64 v]] w fun e w'=>e=.returned (.iface T (.agg #[.iface 105 (.pointer (some ⟨V,0,none⟩)),.int .i64 k,.int .i64 m,.int .i64 h,.int .i64 g,.int .i64 i,.int .i64 n,.int .i64 v]))∧Below w.heap.size w w')
  (hm : ∀ w : World, (method (prog.types.size + Made.depth) T (.agg #[.iface 105 (.pointer (some ⟨V, 0, none⟩)), .int .i64 k, .int .i64 m, .int .i64 h, .int .i64 g, .int .i64 i, .int .i64 n, .int .i64 v]) "loop.example/g00690/impl.code").run prog w = .ok (fc, AC) w) (hcf : ∀ w : World, (callFunc fc #[AC]).run prog w = .ok (.enter fc #[AC]) w) (w : World)
  (hcode:∀w':World,Below w.heap.size w w'→Calls prog fc #[AC] w' fun e w''=>e=.returned (.int .i64 c)∧Below w'.heap.size w' w'')
  (hc0:c≠0) (hw:VarW w base B S D) (hV:U6 D w V B g0 n0 N) :
  Calls prog 78 #[.iface 105 (.pointer (some ⟨V,0,none⟩)),.agg #[.int .i64 k,.int .i64 m,.int .i64 h,.int .i64 g,.int .i64 i,.int .i64 n,.int .i64 v]] w fun e w'=>e=.returned (.agg #[.int .i64 c,.int .i64 0])∧VarW w' base B S D∧V8 w w' B S S∧Below base w w':=by
 have d0:(c != 0)=true:=bne_iff_ne.2 hc0;have d1:¬c=0:=hc0;have bb:=Z0 (Z7 (Y2 w (.cells #[.int .i64 k,.int .i64 m,.int .i64 h,.int .i64 g,.int .i64 i,.int .i64 n,.int .i64 v] 43)) (Y2 (w.alloc (.cells #[.int .i64 k,.int .i64 m,.int .i64 h,.int .i64 g,.int .i64 i,.int .i64 n,.int .i64 v] 43)) (.cells #[.int .i64 0,.int .i64 0] 39)));have bx:=Z0 (Z8 (Y2 (w.alloc (.cells #[.int .i64 k,.int .i64 m,.int .i64 h,.int .i64 g,.int .i64 i,.int .i64 n,.int .i64 v] 43)) (.cells #[.int .i64 0,.int .i64 0] 39)) (Y8 w (.cells #[.int .i64 k,.int .i64 m,.int .i64 h,.int .i64 g,.int .i64 i,.int .i64 n,.int .i64 v] 43)));have ba:=Y8 (w.alloc (.cells #[.int .i64 k,.int .i64 m,.int .i64 h,.int .i64 g,.int .i64 i,.int .i64 n,.int .i64 v] 43)) (.cells #[.int .i64 0,.int .i64 0] 39);rw[World.size_alloc]at ba;have ba':=Z0 ba;have hz:=Z0 (show((w.alloc (.cells #[.int .i64 k,.int .i64 m,.int .i64 h,.int .i64 g,.int .i64 i,.int .i64 n,.int .i64 v] 43)).alloc (.cells #[.int .i64 0,.int .i64 0] 39)).heap.size=w.heap.size+1+1 by simp);have hle:=Z0 (Nat.le_of_lt (Nat.lt_of_le_of_lt hw.le hw.lt))
 have hnb:=Z0 (show w.heap.size+1∉B::blks S.all from fun hm=>by
  rcases List.mem_cons.1 hm with e|hm
  ·have:=hw.lt
   omega
  ·have:=(hw.own.lt _ hm).2
   omega)
 have hw1:=Z0 (hw.below bb.out);have hV1:=Z0 (hV.below bb.out);have e9:prog.types.size+Made.depth=318:=by kernel_rfl
 have hm2:=hm;simp only[e9]at hm2;clear e9;have hop':=Z0 hop;have hcode':=Z0 hcode;have q0:=Z6 bx.out 0 (.int .i64 k) rfl;have q1:=Z6 bx.out 1 (.int .i64 m) rfl;have q2:=Z6 bx.out 2 (.int .i64 h) rfl;have q3:=Z6 bx.out 3 (.int .i64 g) rfl;have q4:=Z6 bx.out 4 (.int .i64 i) rfl;have q5:=Z6 bx.out 5 (.int .i64 n) rfl;have q6:=Z6 bx.out 6 (.int .i64 v) rfl;clear hop hcode hw hV ba hc0;go_enter func78,ntmps78;go_upto_region 1 with fail;generalize ((w.alloc (.cells #[.int .i64 k,.int .i64 m,.int .i64 h,.int .i64 g,.int .i64 i,.int .i64 n,.int .i64 v] 43)).alloc (.cells #[.int .i64 0,.int .i64 0] 39))=W at *;go_wp2_with fail;refine(hop'.out _).mono ?_;rintro e w1⟨rfl,b1⟩;have hc1:=Z0 (hcode'.out w1 (Z7 bb.out b1));have b1':=Z0 b1;clear b1 hcode' hop' q0 q1 q2 q3 q4 q5 q6;go_wp2_with fail;refine hc1.out.mono ?_;rintro e w2⟨rfl,b2⟩;have bW:=Z0 (Z7 b1'.out b2);have b2':=Z0 (Z7 bb.out bW.out);have hA2:=Z0 (Z8 bW.out ba'.out);clear b2 hc1;have hA3:=hA2;have v3:=Z0 (hw1.out.below bW.out);have T3:=Z0 (V8.of_below B S b2'.out);have a0:=Z6 hA3.out 0 (.int .i64 0) rfl;have a1:=Z6 hA3.out 1 (.int .i64 0) rfl;have z0:=Z9 hA3.out 0;have z1:=Z9 hA3.out 1;go_wp2_with fail;refine bodyPost_ret (v:=.agg #[.int .i64 c,.int .i64 0]) (by simp[results,results78,go_sem,a0,a1,z0,z1]) rfl ?_;have hch:Chg [w.heap.size+1] w2 _:=((Chg.refl _ _).put (b:=w.heap.size+1) (by simp) 0 (.int .i64 c)).put (b:=w.heap.size+1) (by simp) 1 (.int .i64 0);have hx:=zfu v3.out T3.out (b2'.out.mono hle.out) (by have:=hle.out;omega) (by omega) hnb.out hch;exact⟨rfl,hx.1,hx.2.1,hx.2.2⟩
theorem zfw(base B V g0 n0:Nat)(N:DataW Unit)(S:Y9)(D:WD)(k m h g i n v:Int)(T:TypeId)(fc:FuncId)(AC:Value)
  (hop:∀w:World,Calls prog 117 #[.agg #[.iface 105 (.pointer (some ⟨V,0,none⟩)),.int .i64 k,.int .i64 m,.int .i64 h,.int .i64 g,.int .i64 i,.int .i64 n,.int .i64 v]] w fun e w'=>e=.returned (.iface T (.agg #[.iface 105 (.pointer (some ⟨V,0,none⟩)),.int .i64 k,.int .i64 m,.int .i64 h,.int .i64 g,.int .i64 i,.int .i64 n,.int .i64 v]))∧Below w.heap.size w w')
  (hm : ∀ w : World, (method (prog.types.size + Made.depth) T (.agg #[.iface 105 (.pointer (some ⟨V, 0, none⟩)), .int .i64 k, .int .i64 m, .int .i64 h, .int .i64 g, .int .i64 i, .int .i64 n, .int .i64 v]) "loop.example/g00690/impl.code").run prog w = .ok (fc, AC) w) (hcf : ∀ w : World, (callFunc fc #[AC]).run prog w = .ok (.enter fc #[AC]) w) (w : World)
  (hcode:∀w':World,Below w.heap.size w w'→Calls prog fc #[AC] w' fun e w''=>e=.returned (.int .i64 0)∧Below w'.heap.size w' w'')
  (R:WD→Int→Int→Prop)
  (hans:∀w':World,VarW w' base B S D→U6 D w' V B g0 n0 N→Calls prog 118 #[.iface T (.agg #[.iface 105 (.pointer (some ⟨V,0,none⟩)),.int .i64 k,.int .i64 m,.int .i64 h,.int .i64 g,.int .i64 i,.int .i64 n,.int .i64 v])] w' fun e w''=>∃c x,e=.returned (.agg #[.int .i64 c,.int .i64 x])∧(∃S' E,R E c x∧VarW w'' base B S' E∧V8 w' w'' B S S')∧Below base w' w'')
  (hw:VarW w base B S D) (hV:U6 D w V B g0 n0 N) :
  Calls prog 78 #[.iface 105 (.pointer (some ⟨V,0,none⟩)),.agg #[.int .i64 k,.int .i64 m,.int .i64 h,.int .i64 g,.int .i64 i,.int .i64 n,.int .i64 v]] w fun e w'=>∃c x,e=.returned (.agg #[.int .i64 c,.int .i64 x])∧(∃S' E,R E c x∧VarW w' base B S' E∧V8 w w' B S S')∧Below base w w':=by
 have bb:=Z0 (Z7 (Y2 w (.cells #[.int .i64 k,.int .i64 m,.int .i64 h,.int .i64 g,.int .i64 i,.int .i64 n,.int .i64 v] 43)) (Y2 (w.alloc (.cells #[.int .i64 k,.int .i64 m,.int .i64 h,.int .i64 g,.int .i64 i,.int .i64 n,.int .i64 v] 43)) (.cells #[.int .i64 0,.int .i64 0] 39)));have bx:=Z0 (Z8 (Y2 (w.alloc (.cells #[.int .i64 k,.int .i64 m,.int .i64 h,.int .i64 g,.int .i64 i,.int .i64 n,.int .i64 v] 43)) (.cells #[.int .i64 0,.int .i64 0] 39)) (Y8 w (.cells #[.int .i64 k,.int .i64 m,.int .i64 h,.int .i64 g,.int .i64 i,.int .i64 n,.int .i64 v] 43)));have ba:=Y8 (w.alloc (.cells #[.int .i64 k,.int .i64 m,.int .i64 h,.int .i64 g,.int .i64 i,.int .i64 n,.int .i64 v] 43)) (.cells #[.int .i64 0,.int .i64 0] 39);rw[World.size_alloc]at ba;have ba':=Z0 ba;have hz:=Z0 (show((w.alloc (.cells #[.int .i64 k,.int .i64 m,.int .i64 h,.int .i64 g,.int .i64 i,.int .i64 n,.int .i64 v] 43)).alloc (.cells #[.int .i64 0,.int .i64 0] 39)).heap.size=w.heap.size+1+1 by simp);have hle:=Z0 (Nat.le_of_lt (Nat.lt_of_le_of_lt hw.le hw.lt))
 have hnb:=Z0 (show w.heap.size+1∉B::blks S.all from fun hm=>by
  rcases List.mem_cons.1 hm with e|hm
  ·have:=hw.lt
   omega
  ·have:=(hw.own.lt _ hm).2
   omega)
 have hw1:=Z0 (hw.below bb.out);have hV1:=Z0 (hV.below bb.out);have e9:prog.types.size+Made.depth=318:=by kernel_rfl
 have hm2:=hm;simp only[e9]at hm2;clear e9;have hop':=Z0 hop;have hcode':=Z0 hcode;have hans':=Z0 hans;have q0:=Z6 bx.out 0 (.int .i64 k) rfl;have q1:=Z6 bx.out 1 (.int .i64 m) rfl;have q2:=Z6 bx.out 2 (.int .i64 h) rfl;have q3:=Z6 bx.out 3 (.int .i64 g) rfl;have q4:=Z6 bx.out 4 (.int .i64 i) rfl;have q5:=Z6 bx.out 5 (.int .i64 n) rfl;have q6:=Z6 bx.out 6 (.int .i64 v) rfl;clear hop hcode hw hV ba hans;go_enter func78,ntmps78;go_upto_region 1 with fail;generalize ((w.alloc (.cells #[.int .i64 k,.int .i64 m,.int .i64 h,.int .i64 g,.int .i64 i,.int .i64 n,.int .i64 v] 43)).alloc (.cells #[.int .i64 0,.int .i64 0] 39))=W at *;go_wp2_with fail;refine(hop'.out _).mono ?_;rintro e w1⟨rfl,b1⟩;have hc1:=Z0 (hcode'.out w1 (Z7 bb.out b1));have b1':=Z0 b1;clear b1 hcode' hop' q0 q1 q2 q3 q4 q5 q6;go_wp2_with fail;refine hc1.out.mono ?_;rintro e w2⟨rfl,b2⟩;have bW:=Z0 (Z7 b1'.out b2);have b2':=Z0 (Z7 bb.out bW.out);have hA2:=Z0 (Z8 bW.out ba'.out);clear b2 hc1;have hc2:=Z0 (hans'.out w2 (hw1.out.below bW.out) (hV1.out.below bW.out));clear hans';go_wp2_with fail;refine hc2.out.mono ?_;rintro e w3⟨c,x,rfl,⟨S3,E3,hr3,v3,t3⟩,b3⟩;have hA3:=Z0 ((t3.chg.block _ (by have:=bW.out.size;have:=hz.out;omega) hnb.out).trans hA2.out);have B3:=Z0 ((b2'.out.mono hle.out).trans b3);have T3:=Z0 ((V8.of_below B S b2'.out).trans t3);have v3':=Z0 v3;have hn3:=Z0 (t3.fresh hnb.out (by have:=bW.out.size;have:=hz.out;omega));clear v3 t3 b3 hc2;have a0:=Z6 hA3.out 0 (.int .i64 0) rfl;have a1:=Z6 hA3.out 1 (.int .i64 0) rfl;have z0:=Z9 hA3.out 0;have z1:=Z9 hA3.out 1;go_wp2_with fail;refine bodyPost_ret (v:=.agg #[.int .i64 c,.int .i64 x]) (by simp[results,results78,go_sem,a0,a1,z0,z1]) rfl ?_;have hch:Chg [w.heap.size+1] w3 _:=((Chg.refl _ _).put (b:=w.heap.size+1) (by simp) 0 (.int .i64 c)).put (b:=w.heap.size+1) (by simp) 1 (.int .i64 x);have hx:=zfu v3'.out T3.out B3.out (by have:=hle.out;omega) (by omega) hn3.out hch;exact⟨c,x,rfl,⟨S3,E3,hr3,hx.1,hx.2.1⟩,hx.2.2⟩
def AddTo(D:WD)(n p:Int)(base B:Nat)(S:Y9)(w:World)(e:Ending)(w':World):Prop :=
 (∃D1 k j s D3 S',M0 D (cl n) D1 k j∧D1.spans[k]?=some s∧zir (zeo D1 k s j n p) k j D3∧e=.returned (.tuple #[.int .i64 (D1.base+atW s (j:Int)),.bool true])∧VarW w' base B S' D3∧V8 w w' B S S') ∨
 (zgm D (cl n)∧e=.returned (.tuple #[.int .i64 0,.bool false])∧VarW w' base B S D∧V8 w w' B S S)
theorem zrk{D1 E:WD}{kk jj:Nat}{s:Y7}{n p:Int}(hs:D1.spans[kk]?=some s)(h:zir (zeo D1 kk s jj n p) kk jj E):∃s',E.spans[kk]?=some s'∧s'.page=s.page∧s'.cls=s.cls∧E.base=D1.base∧E.muts=D1.muts:=by
 have hkt:(zeo D1 kk s jj n p).spans[kk]?=some (N7 s jj n p):=zhl hs;obtain⟨t,ht,h|h⟩:=h
 ·obtain⟨_,_,rfl⟩:=h
  rw[hkt]at ht
  cases ht
  exact⟨_,zhl hkt,rfl,rfl,rfl,rfl⟩
 ·obtain⟨_,rfl⟩:=h
  exact⟨_,hkt,rfl,rfl,rfl,rfl⟩
theorem vadd_any(base B V g0 n0:Nat)(N:DataW Unit)(S:Y9)(D:WD)(n p:Int)(hF:Y5 D)(e1:1≤n)(e2:n≤16)(e3:0≤p)(e4:p≤n)(w:World)(hw:VarW w base B S D)(hV:U6 D w V B g0 n0 N)(hVB:V∉B::blks S.all) :
  Calls prog 170 #[.pointer (some ⟨V,0,none⟩),.int .i64 n,.int .i64 p] w fun e w'=>AddTo D n p base B S w e w'∧Below base w w':=by
 have V0:=Z6 hV.box 0 (.pointer (some ⟨B,0,none⟩)) rfl;have hVl:=Z0 (show V<w.heap.size from(Array.getElem?_eq_some_iff.1 hV.box).1);have hbox:=Z0 hV.box;have hVB':=Z0 hVB;have hle:=Z0 (Nat.le_of_lt (Nat.lt_of_le_of_lt hw.le hw.lt));have htk:=Z0 (take_any base B S D n p hF e1 e2 e3 e4 w hw);have hfm:=Z0 (show ∀(D1:WD) (k j:Nat) (s:Y7),M0 D (cl n) D1 k j→D1.spans[k]?=some s→Y5 (zeo D1 k s j n p)∧j<s.lens.length from fun D1 k j s h hs=>zlj hF e1 e2 h hs e3 e4);clear hF e1 e2 e3 e4 hw hV hVB;go_enter func170,ntmps170;go_wp2_with fail;refine htk.out.mono ?_;rintro e w3⟨h,b3⟩;have b3':=Z0 b3;clear b3 htk V0
 rcases h with⟨D1,kk,jj,s,S1,hp,hs1,rfl,v3,t3⟩|⟨hn,rfl,v3,t3⟩
 case inr =>
  have y:=Z0 (And.intro hn (And.intro v3 t3));clear hn v3 t3;go_wp2_with fail
  go_ret2
  exact⟨.inr ⟨y.out.1,rfl,y.out.2.1.below (Y2 _ _),y.out.2.2.below (Y2 _ _)⟩,b3'.out.trans ((Y2 _ _).mono (by have:=b3'.out.size;have:=hle.out;omega))⟩
 have hfj:=Z0 (hfm.out D1 kk jj s hp hs1);have hkt:=Z0 (show(zeo D1 kk s jj n p).spans[kk]?=some (N7 s jj n p)from zhl hs1);have hp':=Z0 hp;have hs1':=Z0 hs1;have hw3:=Z0 (show w.heap.size≤w3.heap.size from t3.chg.size);have b34:=Z0 (Y2 w3 (.cells #[.int .i64 (kk:Int),.int .i64 (jj:Int)] 150));have pb:=Z0 (Y8 w3 (.cells #[.int .i64 (kk:Int),.int .i64 (jj:Int)] 150));have v4:=Z0 (v3.below b34.out);have t4:=Z0 (t3.below b34.out);have V4:=Z0 ((t4.out.chg.block V hVl.out hVB'.out).trans hbox.out)
 have hnp:=Z0 (show w3.heap.size∉B::blks S1.all from fun hm=>by
  rcases List.mem_cons.1 hm with e|hm
  ·have:=v3.lt
   omega
  ·have:=(v3.own.lt _ hm).2
   omega)
 have hsz4:=Z0 (show w3.heap.size<(w3.alloc (.cells #[.int .i64 (kk:Int),.int .i64 (jj:Int)] 150)).heap.size by simp);have hVB4:=Z0 (t4.out.fresh hVB'.out hVl.out);have hV4:=Z0 (Nat.lt_of_lt_of_le hVl.out t4.out.chg.size);clear hp hs1 v3 t3 hfm hbox;go_upto_region 4 with fail;generalize w3.alloc (.cells #[.int .i64 (kk:Int),.int .i64 (jj:Int)] 150)=W4 at *;refine E5 (fun w'=>w'.cell? ⟨V,0,none⟩=some (.pointer (some ⟨B,0,none⟩))∧w'.cell? ⟨w3.heap.size,0,none⟩=some (.int .i64 (kk:Int))∧w'.cell? ⟨w3.heap.size,1,none⟩=some (.int .i64 (jj:Int))) (fun j=>j == 5) (by kernel_rfl) ?_;intro wd hwd;have bwd:=Z0 (show Below W4.heap.size W4 wd from by rw[hwd];exact below_drewN (Below.refl _ _) 1);clear hwd;have h0:(fun w'=>w'.cell? ⟨V,0,none⟩=some (.pointer (some ⟨B,0,none⟩))∧w'.cell? ⟨w3.heap.size,0,none⟩=some (.int .i64 (kk:Int))∧w'.cell? ⟨w3.heap.size,1,none⟩=some (.int .i64 (jj:Int))) wd:=⟨Z6 (Z8 bwd.out V4.out) 0 _ rfl,Z6 (Z8 bwd.out pb.out) 0 _ rfl,Z6 (Z8 bwd.out pb.out) 1 _ rfl⟩;refine Y4 (i:=0) (v:=?vq1) rfl (by kernel_rfl) (by kernel_rfl) (by kernel_rfl) rfl (fun _ _ _ h=>h) (Or.inl ⟨by rfl,?hq1⟩) (fun _=>h0) ?rq1
 case hq1=>(intro w _;go_simp;try with_reducible rfl)
 try simp only[Act.put,Z3]
 refine Y4 (i:=1) (v:=?vq2) rfl (by kernel_rfl) (by kernel_rfl) (by kernel_rfl) rfl (fun _ _ _ h=>h) (Or.inl ⟨by rfl,?hq2⟩) (fun _=>h0) ?rq2
 case hq2=>(intro w _;go_simp;try with_reducible rfl)
 try simp only[Act.put,Z3]
 refine Y4 (i:=2) (v:=?vq3) rfl (by kernel_rfl) (by kernel_rfl) (by kernel_rfl) rfl (fun _ _ _ h=>h) (Or.inl ⟨by rfl,?hq3⟩) (fun _=>h0) ?rq3
 case hq3=>(intro w _;go_simp;try with_reducible rfl)
 try simp only[Act.put,Z3]
 refine V6 (i:=3) (v:=?vq4) rfl (by kernel_rfl) (by kernel_rfl) (by kernel_rfl) (by kernel_rfl) (fun j hj=>by simp at hj;subst hj;kernel_rfl) (fun _ _ _ h=>h) (Or.inl ⟨by rfl,?hq4⟩) (by exact h0) ?rq4
 case hq4=>(intro w hSw;(try dsimp only at hSw);obtain⟨s0,s1,s2⟩:=hSw;go_simp;try with_reducible rfl)
 try simp only[Act.put,Z3]
 refine V6 (i:=4) (v:=?vq5) rfl (by kernel_rfl) (by kernel_rfl) (by kernel_rfl) (by kernel_rfl) (fun j hj=>by simp at hj;subst hj;kernel_rfl) (fun _ _ _ h=>h) (Or.inl ⟨by rfl,?hq5⟩) (by exact h0) ?rq5
 case hq5=>(intro w hSw;(try dsimp only at hSw);obtain⟨s0,s1,s2⟩:=hSw;go_simp;try with_reducible rfl)
 try simp only[Act.put,Z3]
 refine V7 (rs:=[5]) (by kernel_rfl) (by simp) ?_;intro i hi;simp only[List.mem_cons,List.not_mem_nil,or_false]at hi;subst hi;refine X9 (i:=5) rfl (fun K hK=>?_);go_simp;go_wp2_with (go_at_call 178;refine(zxj base B S1 (zeo D1 kk s jj n p) kk jj (N7 s jj n p) hfj.out.1 hkt.out (by have:=hfj.out.2;simpa[N7]using this) _ (v4.out.below bwd.out)).mono ?_;rintro e w5⟨rfl,⟨E,hk,v5,t5⟩,b5⟩;have hk':=Z0 hk;have v5':=Z0 v5;have t5':=Z0 (((V8.of_below B S1 bwd.out)).trans t5);have b5':=Z0 (((b3'.out.trans (b34.out.mono (by have:=hw3.out;have:=hle.out;omega))).trans (bwd.out.mono (by have:=hw3.out;have:=hle.out;have:=hsz4.out;omega))).trans b5);clear hk v5 t5 b5);refine hK.out _ _ (fun h=>Bool.noConfusion ((h 5 (by kernel_rfl)).symm.trans (show _=true by kernel_rfl))) ?_;clear hK K
 try simp only[Act.put,Z3]
 refine P6 (by kernel_rfl) ?_ _;have V5:=Z0 ((t5'.out.chg.block V hV4.out hVB4.out).trans V4.out);have p5:=Z0 ((t5'.out.chg.block _ hsz4.out hnp.out).trans pb.out);obtain⟨s',hs',hpg,hcl,hba,_⟩:=zrk hs1'.out hk'.out;have A:=hfj.out.1.span kk _ hkt.out;have hgeo:=hfj.out.1.geo;have ha:=Z0 (show atW s' (jj:Int)=atW s (jj:Int)from by unfold atW;rw[hpg,hcl]);have hadr:=Z0 (fun x':Ext w5=>(zsf B _ E kk jj s' hs' (by rw[hpg];exact A.pg0) (by rw[hpg];have h1:s.page<D1.pages:=A.pg1;have h2:D1.pages≤12:=hgeo.2.2.2.2.1;omega) (by have h5:=(zek hfj.out.1 hkt.out (by have:=hfj.out.2;simpa[N7]using this)).2.2;omega) (by rw[hba];exact(show 0≤D1.base by have h1:32≤D1.base:=hgeo.1;omega)) (by rw[hba];exact hgeo.2.1) x'.val ((v5'.out.below x'.below).rd) ((v5'.out.below x'.below).boxW)).mono fun e w'' h=>(⟨by rw[h.1,hba,ha.out],h.2⟩:e=Ending.returned (.int .i64 (D1.base+atW s (jj:Int)))∧Below x'.val.heap.size x'.val w''));have c0:=Ext.cell (Z6 V5.out 0 (.pointer (some ⟨B,0,none⟩)) rfl);have c1:=Ext.cell (Z6 p5.out 0 (.int .i64 (kk:Int)) rfl);have c2:=Ext.cell (Z6 p5.out 1 (.int .i64 (jj:Int)) rfl);clear hs' hpg hcl hba A hgeo ha h0 bwd;go_upto_region 5 with fail;refine Y6 (Below.refl _ _) (by kernel_rfl) (by kernel_rfl) ?_
 repeat (go_big_quiet_step ((go_at_call 124;with_reducible exact Ext.call (hadr.out _))))
 refine wpQuiet_nil ?_;intro _ hw';obtain⟨x9,hw''⟩:=hw';subst hw'';go_wp2_with fail
 go_ret2
 exact⟨.inl ⟨D1,kk,jj,s,E,S1,hp'.out,hs1'.out,hk'.out,rfl,v5'.out.below x9.below,(t4.out.trans t5'.out).below x9.below⟩,b5'.out.trans (x9.below.mono (by have h1:=b5'.out.size;have h2:=hle.out;omega))⟩
theorem zva(base B V g0:Nat)(S:Y9)(D:WD)(w:World)(hw:VarW w base B S D)(hX:w.heap[V]?=some (.cells #[.pointer (some ⟨B,0,none⟩),.map (some g0)] 137 (0,0))) :
  Calls prog 171 #[.pointer (some ⟨V,0,none⟩)] w fun e w'=>e=.returned S.vm∧Below w.heap.size w w':=by
 obtain⟨am,cm,hvm⟩:=X0 hw.own.muts;have g5:=hw.cell 5 S.vm rfl;rw[hvm]at g5 ⊢;have c0:=Z6 hX 0 (.pointer (some ⟨B,0,none⟩)) rfl;clear hw hX hvm;go_enter func171,ntmps171;go_wp2_with fail;go_ret;exact⟨rfl,Below.refl _ _⟩
theorem zrp(base B V g0:Nat)(S:Y9)(D:WD)(k g i n v:Int)(h:Int)(M H gm cm gr cr:Nat)(r:List Int)(hH:H<r.length)(hr6:r.length=6)(hmm:D.muts.length≤3)(w:World)(hw:VarW w base B S D)(hX:w.heap[V]?=some (.cells #[.pointer (some ⟨B,0,none⟩),.map (some g0)] 137 (0,0)))(R:zpa w S D M H gm cm gr cr r) :
  Calls prog 142 #[.agg #[.iface 105 (.pointer (some ⟨V,0,none⟩)),.int .i64 k,.int .i64 (M:Int),.int .i64 (H:Int),.int .i64 g,.int .i64 i,.int .i64 n,.int .i64 v],.int .i64 (H:Int)] w fun e w'=>e=.returned (.pointer (some ⟨gr,H,none⟩))∧Below w.heap.size w w':=by
 have bb:=Z0 (Y2 w (.cells (Z4 105 V k (M:Int) (H:Int) g i n v) 144));have bx:=Y8 w (.cells (Z4 105 V k (M:Int) (H:Int) g i n v) 144);have q0:=Ext.cell (Z6 bx 0 (.iface 105 (.pointer (some ⟨V,0,none⟩))) rfl);have q2:=Ext.cell (Z6 bx 2 (.int .i64 (M:Int)) rfl);have hmu:=Z0 (fun x':Ext (w.alloc (.cells (Z4 105 V k (M:Int) (H:Int) g i n v) 144))=>(zva base B V g0 S D x'.val ((hw.below bb.out).below x'.below) (Z8 x'.below (Z8 bb.out hX))).mono fun e w' h=>(⟨by rw[←R.vm];exact h.1,h.2⟩:e=.returned (.slice (some ⟨gm,0,none⟩) D.muts.length cm)∧Below x'.val.heap.size x'.val w'));have hM:=zsi V;have xm:=Ext.cell (Y3 bb.out R.xm);have hML:(M:Int)<(D.muts.length:Int):=by have:=(List.getElem?_eq_some_iff.1 R.mt).1;omega
 have hHL:(H:Int)<(r.length:Int):=by omega
 clear hw hX bx R;go_enter func142,ntmps142;go_upto_region 1 with fail;generalize w.alloc (.cells (Z4 105 V k (M:Int) (H:Int) g i n v) 144)=W at *;refine Y6 (Below.refl _ _) (by kernel_rfl) (by kernel_rfl) ?_
 repeat (go_big_quiet_step ((go_at_call 171;with_reducible exact Ext.call (hmu.out _))))
 refine wpQuiet_nil ?_;intro _ hw';obtain⟨x9,hw''⟩:=hw';subst hw'';go_wp2_with fail;go_ret;exact⟨rfl,Z7 bb.out x9.below⟩
theorem zvd(base B V g0 n0:Nat)(N:DataW Unit)(S:Y9)(D:WD)(k g i n v:Int)(M H:Nat)(r:List Int)(hF:Y5 D)(hr:D.muts[M]?=some r)(hH:H<6)(e1:1≤n)(e2:n≤16)(e3:0≤v)(e4:v≤n)(w:World)(hw:VarW w base B S D)(hV:U6 D w V B g0 n0 N)(hVB:V∉B::blks S.all) :
  Calls prog 140 #[.agg #[.iface 105 (.pointer (some ⟨V,0,none⟩)),.int .i64 k,.int .i64 (M:Int),.int .i64 (H:Int),.int .i64 g,.int .i64 i,.int .i64 n,.int .i64 v]] w fun e w'=>∃c,e=.returned (.agg #[.int .i64 c,.int .i64 0])∧(∃S' E,zgt D ⟨k,(M:Int),(H:Int),g,i,n,v⟩ E c∧VarW w' base B S' E∧V8 w w' B S S')∧Below base w w':=by
 have hr6:=hF.roots M r hr;have hmm:D.muts.length≤3:=by have:=hF.geo.2.2.2.2.2.2;omega
 have bb:=Z0 (Z7 (Y2 w (.cells (Z4 105 V k (M:Int) (H:Int) g i n v) 161)) (Y2 (w.alloc (.cells (Z4 105 V k (M:Int) (H:Int) g i n v) 161)) (.cells #[.int .i64 0,.int .i64 0] 39)));have bx:=Z0 (Z8 (Y2 (w.alloc (.cells (Z4 105 V k (M:Int) (H:Int) g i n v) 161)) (.cells #[.int .i64 0,.int .i64 0] 39)) (Y8 w (.cells (Z4 105 V k (M:Int) (H:Int) g i n v) 161)));have ba:=Y8 (w.alloc (.cells (Z4 105 V k (M:Int) (H:Int) g i n v) 161)) (.cells #[.int .i64 0,.int .i64 0] 39);rw[World.size_alloc]at ba;have ba':=Z0 ba;have hz:=Z0 (show((w.alloc (.cells (Z4 105 V k (M:Int) (H:Int) g i n v) 161)).alloc (.cells #[.int .i64 0,.int .i64 0] 39)).heap.size=w.heap.size+1+1 by simp);have hle:=Z0 (Nat.le_of_lt (Nat.lt_of_le_of_lt hw.le hw.lt))
 have hnb:=Z0 (show ∀q,w.heap.size≤q→q∉B::blks S.all from fun q hq hm=>by
  rcases List.mem_cons.1 hm with e|hm
  ·have:=hw.lt
   omega
  ·have:=(hw.own.lt _ hm).2
   omega)
 have hVl:=Z0 (show V<w.heap.size from(Array.getElem?_eq_some_iff.1 hV.box).1);have hbox:=Z0 hV.box;have hVB':=Z0 hVB;have hadd:=Z0 (vadd_any base B V g0 n0 N S D n v hF e1 e2 e3 e4 _ (hw.below bb.out) (hV.below bb.out) hVB);have hr':=Z0 hr;have hH':=Z0 (show H<r.length by omega);have hr6':=Z0 hr6;have hmm':=Z0 hmm;have hM:=vw_add V;have hN:=vq_add V;clear hF hr hH e1 e2 e3 e4 hw hV hVB hr6 hmm ba;have q0:=Z6 bx.out 0 (.iface 105 (.pointer (some ⟨V,0,none⟩))) rfl;have q1:=Z6 bx.out 1 (.int .i64 k) rfl;have q2:=Z6 bx.out 2 (.int .i64 (M:Int)) rfl;have q3:=Z6 bx.out 3 (.int .i64 (H:Int)) rfl;have q4:=Z6 bx.out 4 (.int .i64 g) rfl;have q5:=Z6 bx.out 5 (.int .i64 i) rfl;have q6:=Z6 bx.out 6 (.int .i64 n) rfl;have q7:=Z6 bx.out 7 (.int .i64 v) rfl;go_enter func140,ntmps140;go_upto_region 1 with fail;generalize ((w.alloc (.cells (Z4 105 V k (M:Int) (H:Int) g i n v) 161)).alloc (.cells #[.int .i64 0,.int .i64 0] 39))=W at *;go_wp2_with fail;refine hadd.out.mono ?_;rintro e w3⟨h,b3⟩;have b3':=Z0 ((bb.out.mono hle.out).trans b3);clear b3 hadd q0 q1 q2 q3 q4 q5 q6 q7
 rcases h with⟨D1,kk,jj,s,D3,S3,hp,hs1,hk,rfl,v3,t3⟩|⟨hn,rfl,v3,t3⟩
 case inr =>
  have hA3:=Z0 ((t3.chg.block _ (by have:=hz.out;omega) (hnb.out _ (by omega))).trans ba'.out);have hT3:=Z0 ((V8.of_below B S bb.out).trans t3);have hn3:=Z0 (t3.fresh (hnb.out (w.heap.size+1) (by omega)) (by have:=hz.out;omega));have v3':=Z0 v3;have hn':=Z0 hn;clear v3 t3 hn;have a0:=Z6 hA3.out 0 (.int .i64 0) rfl;have a1:=Z6 hA3.out 1 (.int .i64 0) rfl;have z0:=Z9 hA3.out 0;have z1:=Z9 hA3.out 1;go_wp2_with fail;refine bodyPost_ret (v:=.agg #[.int .i64 5,.int .i64 0]) (by simp[results,results140,go_sem,a0,a1,z0,z1]) rfl ?_;have hch:Chg [w.heap.size+1] w3 _:=((Chg.refl _ _).put (b:=w.heap.size+1) (by simp) 0 (.int .i64 5)).put (b:=w.heap.size+1) (by simp) 1 (.int .i64 0);have hx:=zfu v3'.out hT3.out b3'.out (by have:=hle.out;omega) (by omega) hn3.out hch;exact⟨5,rfl,⟨S,D,.inr ⟨hn'.out,rfl,rfl⟩,hx.1,hx.2.1⟩,hx.2.2⟩
 obtain⟨s',_,_,_,_,hmu⟩:=zrk hs1 hk
 have hmu3:=Z0 (show D3.muts=D.muts from by
  rw[hmu]
  rcases hp with⟨rfl,_⟩|⟨_,_,_,rfl,_⟩<;>rfl)
 have hr3:=Z0 (show D3.muts[M]?=some r by rw[hmu3.out];exact hr'.out);have hT3:=Z0 ((V8.of_below B S bb.out).trans t3);have hA3:=Z0 ((t3.chg.block _ (by have:=hz.out;omega) (hnb.out _ (by omega))).trans ba'.out);have hX3:=Z0 ((t3.chg.block _ (by have:=hz.out;omega) (hnb.out _ (Nat.le_refl _))).trans bx.out);have hV3:=Z0 ((hT3.out.chg.block V hVl.out hVB'.out).trans hbox.out);have hn3:=Z0 (t3.fresh (hnb.out (w.heap.size+1) (by omega)) (by have:=hz.out;omega));have v3':=Z0 v3;have y:=Z0 (show ∀x,x=D1.base+atW s (jj:Int)→zgt D ⟨k,(M:Int),(H:Int),g,i,n,v⟩ (N0 D3 (M:Int) (H:Int) x) 0 from fun x e=>.inl ⟨D1,kk,jj,s,D3,hp,hs1,hk,by rw[e],rfl⟩);have hb3:=Z0 (show w.heap.size+1+1≤w3.heap.size from by have:=t3.chg.size;have:=hz.out;omega);obtain⟨gm,cm,gr,cr,R⟩:=v3.rootAt hr3.out hH'.out;have hR:=Z0 R;have hc:=Z0 (zrp base B V g0 S3 D3 k g i n v 0 M H gm cm gr cr r hH'.out hr6'.out (by rw[hmu3.out];exact hmm'.out) w3 v3 hV3.out R);generalize hx:D1.base+atW s (jj:Int)=x at *;have y':=Z0 (y.out x rfl);have hrn:=Z0 (show gr∈blks S3.all from zfm R.mv);have hg1:¬gr=w.heap.size+1:=fun e=>hn3.out (by rw[←e];exact List.mem_cons_of_mem _ hrn.out);have hg2:¬w.heap.size+1=gr:=fun e=>hg1 e.symm;clear hp hs1 hk hmu v3 t3 R hx y;have q0:=Z6 hX3.out 0 (.iface 105 (.pointer (some ⟨V,0,none⟩))) rfl;have q1:=Z6 hX3.out 1 (.int .i64 k) rfl;have q2:=Z6 hX3.out 2 (.int .i64 (M:Int)) rfl;have q3:=Z6 hX3.out 3 (.int .i64 (H:Int)) rfl;have q4:=Z6 hX3.out 4 (.int .i64 g) rfl;have q5:=Z6 hX3.out 5 (.int .i64 i) rfl;have q6:=Z6 hX3.out 6 (.int .i64 n) rfl;have q7:=Z6 hX3.out 7 (.int .i64 v) rfl;go_wp2_with fail;refine hc.out.mono ?_;rintro e w4⟨rfl,b4⟩;have R4:=hR.out.below b4;have xr:=R4.xr;have fr:=R4.frz;have v4:=Z0 (v3'.out.below b4);have hT4:=Z0 (hT3.out.below b4);have hA4:=Z8 b4 hA3.out;have a0:=Z6 hA4 0 (.int .i64 0) rfl;have a1:=Z6 hA4 1 (.int .i64 0) rfl;have z0:=Z9 hA4 0;have z1:=Z9 hA4 1;have b4':=Z0 (b3'.out.trans (b4.mono (by have:=hle.out;have:=hb3.out;omega)));clear R4 hA4 b4 q0 q1 q2 q3 q4 q5 q6 q7;go_wp2_with fail;have vr:=v4.out.root M H r _ x hr3.out hR.out.mv rfl;have hvE:=Z0 (show VarW _ base B S3 (N0 D3 (M:Int) (H:Int) x)from by rw[J2 hr3.out];exact vr.1);have hBE:=Z0 (b4'.out.trans vr.2);have hTE:=Z0 (hT4.out.own_set hrn.out H (.int .i64 x));clear vr;refine bodyPost_ret (v:=.agg #[.int .i64 0,.int .i64 0]) (by simp[results,results140,go_sem,a0,a1,z0,z1,hg1,hg2]) rfl ?_;have hch:Chg [w.heap.size+1] (w4.setCell ⟨gr,H,none⟩ (.int .i64 x)) _:=((Chg.refl _ _).put (b:=w.heap.size+1) (by simp) 0 (.int .i64 0)).put (b:=w.heap.size+1) (by simp) 1 (.int .i64 0);have hx:=zfu hvE.out hTE.out hBE.out (by have:=hle.out;omega) (by omega) hn3.out hch;exact⟨0,rfl,⟨S3,_,y'.out,hx.1,hx.2.1⟩,hx.2.2⟩
theorem vans_1(base B V g0 n0:Nat)(N:DataW Unit)(S:Y9)(D:WD)(k g i n v:Int)(M H:Nat)(r:List Int)(hF:Y5 D)(hr:D.muts[M]?=some r)(hH:H<6)(e1:1≤n)(e2:n≤16)(e3:0≤v)(e4:v≤n)(w:World)(hw:VarW w base B S D)(hV:U6 D w V B g0 n0 N)(hVB:V∉B::blks S.all) :
  Calls prog 118 #[.iface 161 (.agg #[.iface 105 (.pointer (some ⟨V,0,none⟩)),.int .i64 k,.int .i64 (M:Int),.int .i64 (H:Int),.int .i64 g,.int .i64 i,.int .i64 n,.int .i64 v])] w fun e w'=>∃c,e=.returned (.agg #[.int .i64 c,.int .i64 0])∧(∃S' E,zgt D ⟨k,(M:Int),(H:Int),g,i,n,v⟩ E c∧VarW w' base B S' E∧V8 w w' B S S')∧Below base w w':=by
 have bb:=Z0 (Z7 (Y2 w (.cells #[.int .i64 0,.int .i64 0] 39)) (Y2 (w.alloc (.cells #[.int .i64 0,.int .i64 0] 39)) (.cells (Z4 105 V k (M:Int) (H:Int) g i n v) 161)));have ba:=Z0 (Z8 (Y2 (w.alloc (.cells #[.int .i64 0,.int .i64 0] 39)) (.cells (Z4 105 V k (M:Int) (H:Int) g i n v) 161)) (Y8 w (.cells #[.int .i64 0,.int .i64 0] 39)));have hle:=Z0 (Nat.le_of_lt (Nat.lt_of_le_of_lt hw.le hw.lt))
 have hnb:=Z0 (show w.heap.size∉B::blks S.all from fun hm=>by
  rcases List.mem_cons.1 hm with e|hm
  ·have:=hw.lt
   omega
  ·have:=(hw.own.lt _ hm).2
   omega)
 have hlt:=Z0 (show w.heap.size<((w.alloc (.cells #[.int .i64 0,.int .i64 0] 39)).alloc (.cells (Z4 105 V k (M:Int) (H:Int) g i n v) 161)).heap.size by simp only[World.size_alloc];omega);have hcall:=Z0 (zvd base B V g0 n0 N S D k g i n v M H r hF hr hH e1 e2 e3 e4 _ (hw.below bb.out) (hV.below bb.out) hVB);clear hF hr hH e1 e2 e3 e4 hw hV hVB;have t1:=ta_1_1;go_enter func118,ntmps118;go_wp2_with (go_at_call 140;refine hcall.out.mono ?_;rintro e w3⟨c,rfl,⟨S3,E3,hr3,v3,t3⟩,b3⟩;have hA3:=(t3.chg.block _ hlt.out hnb.out).trans ba.out;have hB3:=Z0 ((bb.out.mono hle.out).trans b3);have hT3:=Z0 ((V8.of_below B S bb.out).trans t3);have hv3:=Z0 v3;have hn3:=Z0 (t3.fresh hnb.out hlt.out);have a0:=Z6 hA3 0 (.int .i64 0) rfl;have a1:=Z6 hA3 1 (.int .i64 0) rfl;have z0:=Z9 hA3 0;have z1:=Z9 hA3 1;clear v3 t3 b3);refine bodyPost_ret (v:=.agg #[.int .i64 c,.int .i64 0]) (by simp[results,results118,go_sem,a0,a1,z0,z1]) rfl ?_;have hch:Chg [w.heap.size] w3 _:=((Chg.refl _ _).put (b:=w.heap.size) (by simp) 0 (.int .i64 c)).put (b:=w.heap.size) (by simp) 1 (.int .i64 0);have hx:=zfu hv3.out hT3.out hB3.out hle.out (Nat.le_refl _) hn3.out hch;exact⟨c,rfl,⟨S3,_,hr3,hx.1,hx.2.1⟩,hx.2.2⟩
theorem vans_2(base B V g0 n0:Nat)(N:DataW Unit)(S:Y9)(D:WD)(k n:Int)(v:Int)(M H G I:Nat)(r:List Int)(kk jj P:Nat)(hGo:M7 D)(hr:D.muts[M]?=some r)(hH:H<6)(hG:G<6)(hO:ObjA D (r[H]?.getD 0) kk jj P I)(ha:I64 (r[H]?.getD 0))(w:World)(hw:VarW w base B S D)(hV:U6 D w V B g0 n0 N)(hVB:V∉B::blks S.all) :
  Calls prog 118 #[.iface 166 (.agg #[.iface 105 (.pointer (some ⟨V,0,none⟩)),.int .i64 k,.int .i64 (M:Int),.int .i64 (H:Int),.int .i64 (G:Int),.int .i64 (I:Int),.int .i64 n,.int .i64 v])] w fun e w'=>e=.returned (.agg #[.int .i64 0,.int .i64 0])∧VarW w' base B S (N0 D (M:Int) (G:Int) (D.words[P]?.getD 0))∧V8 w w' B S S∧Below base w w':=by
 have hF:=hGo.form;have hr6:=hF.roots M r hr;have hmm:D.muts.length≤3:=by have:=hF.geo.2.2.2.2.2.2;omega
 have bb:=Z0 (Z7 (Y2 w (.cells #[.int .i64 0,.int .i64 0] 39)) (Y2 (w.alloc (.cells #[.int .i64 0,.int .i64 0] 39)) (.cells (Z4 105 V k (M:Int) (H:Int) (G:Int) (I:Int) n v) 166)));have ba:=Z0 (Z8 (Y2 (w.alloc (.cells #[.int .i64 0,.int .i64 0] 39)) (.cells (Z4 105 V k (M:Int) (H:Int) (G:Int) (I:Int) n v) 166)) (Y8 w (.cells #[.int .i64 0,.int .i64 0] 39)));have bx:=Y8 (w.alloc (.cells #[.int .i64 0,.int .i64 0] 39)) (.cells (Z4 105 V k (M:Int) (H:Int) (G:Int) (I:Int) n v) 166);rw[World.size_alloc]at bx;have hle:=Z0 (Nat.le_of_lt (Nat.lt_of_le_of_lt hw.le hw.lt))
 have hnb:=Z0 (show w.heap.size∉B::blks S.all from fun hm=>by
  rcases List.mem_cons.1 hm with e|hm
  ·have:=hw.lt
   omega
  ·have:=(hw.own.lt _ hm).2
   omega)
 have hlt:=Z0 (show w.heap.size<((w.alloc (.cells #[.int .i64 0,.int .i64 0] 39)).alloc (.cells (Z4 105 V k (M:Int) (H:Int) (G:Int) (I:Int) n v) 166)).heap.size by simp only[World.size_alloc];omega);have hw1:=hw.below bb.out;have hV1:=hV.below bb.out;have hv1:=Z0 hw1;have hh:=Z0 (fun(w':World) (hb:Below ((w.alloc (.cells #[.int .i64 0,.int .i64 0] 39)).alloc (.cells (Z4 105 V k (M:Int) (H:Int) (G:Int) (I:Int) n v) 166)).heap.size ((w.alloc (.cells #[.int .i64 0,.int .i64 0] 39)).alloc (.cells (Z4 105 V k (M:Int) (H:Int) (G:Int) (I:Int) n v) 166)) w')=>zed base B V g0 n0 N S D k (G:Int) (I:Int) n v M H r hr (by omega) hr6 hmm w' (hw1.below hb) (hV1.below hb));obtain⟨gm,cm,gr,cr,R⟩:=hw1.rootAt hr (show G<r.length by omega);have hR2:=Z0 R;have hrn:=Z0 (show gr∈blks S.all from zfm R.mv);have hmv:=Z0 R.mv;have hr':=Z0 hr;have hg1:¬gr=w.heap.size:=fun e=>hnb.out (by rw[←e];exact List.mem_cons_of_mem _ hrn.out);have hg2:¬w.heap.size=gr:=fun e=>hg1 e.symm;have hc1:=Z0 (fun(w':World) (hb:Below ((w.alloc (.cells #[.int .i64 0,.int .i64 0] 39)).alloc (.cells (Z4 105 V k (M:Int) (H:Int) (G:Int) (I:Int) n v) 166)).heap.size ((w.alloc (.cells #[.int .i64 0,.int .i64 0] 39)).alloc (.cells (Z4 105 V k (M:Int) (H:Int) (G:Int) (I:Int) n v) 166)) w')=>zfe base B V g0 n0 N S D k (M:Int) (H:Int) (G:Int) (I:Int) n v M G gm cm gr cr r rfl (by omega) hr6 hmm w' (hw1.below hb) (hV1.below hb) (R.below hb));obtain⟨hF2,ho,s,AA,hks,hA,hP,hI⟩:=id hO;have hcall:=Z0 (fun(w':World) (hb:Below ((w.alloc (.cells #[.int .i64 0,.int .i64 0] 39)).alloc (.cells (Z4 105 V k (M:Int) (H:Int) (G:Int) (I:Int) n v) 166)).heap.size ((w.alloc (.cells #[.int .i64 0,.int .i64 0] 39)).alloc (.cells (Z4 105 V k (M:Int) (H:Int) (G:Int) (I:Int) n v) 166)) w')=>znb base B V g0 n0 N S D (r[H]?.getD 0) kk jj s hF ho ha hks AA I P hP hA hI w' (hw1.below hb) (hV1.below hb));have hM:=zxh V;have hN:=zxi V;generalize D.words[P]?.getD 0=x at *;generalize r[H]?.getD 0=ad at *;have hS:=Z0 (show ∀w',Below ((w.alloc (.cells #[.int .i64 0,.int .i64 0] 39)).alloc (.cells (Z4 105 V k (M:Int) (H:Int) (G:Int) (I:Int) n v) 166)).heap.size ((w.alloc (.cells #[.int .i64 0,.int .i64 0] 39)).alloc (.cells (Z4 105 V k (M:Int) (H:Int) (G:Int) (I:Int) n v) 166)) w'→(fun w'=>w'.cell? ⟨w.heap.size+1,0,none⟩=some (.iface 105 (.pointer (some ⟨V,0,none⟩)))∧w'.cell? ⟨w.heap.size+1,1,none⟩=some (.int .i64 k)∧w'.cell? ⟨w.heap.size+1,2,none⟩=some (.int .i64 (M:Int))∧w'.cell? ⟨w.heap.size+1,3,none⟩=some (.int .i64 (H:Int))∧w'.cell? ⟨w.heap.size+1,4,none⟩=some (.int .i64 (G:Int))∧w'.cell? ⟨w.heap.size+1,5,none⟩=some (.int .i64 (I:Int))∧w'.cell? ⟨w.heap.size+1,6,none⟩=some (.int .i64 n)∧w'.cell? ⟨w.heap.size+1,7,none⟩=some (.int .i64 v)) w' from fun w' hb=>⟨Y3 hb (Z6 bx 0 (.iface 105 (.pointer (some ⟨V,0,none⟩))) rfl),Y3 hb (Z6 bx 1 (.int .i64 k) rfl),Y3 hb (Z6 bx 2 (.int .i64 (M:Int)) rfl),Y3 hb (Z6 bx 3 (.int .i64 (H:Int)) rfl),Y3 hb (Z6 bx 4 (.int .i64 (G:Int)) rfl),Y3 hb (Z6 bx 5 (.int .i64 (I:Int)) rfl),Y3 hb (Z6 bx 6 (.int .i64 n) rfl),Y3 hb (Z6 bx 7 (.int .i64 v) rfl)⟩);have hA0:=Z0 (fun(w':World) (hb:Below ((w.alloc (.cells #[.int .i64 0,.int .i64 0] 39)).alloc (.cells (Z4 105 V k (M:Int) (H:Int) (G:Int) (I:Int) n v) 166)).heap.size ((w.alloc (.cells #[.int .i64 0,.int .i64 0] 39)).alloc (.cells (Z4 105 V k (M:Int) (H:Int) (G:Int) (I:Int) n v) 166)) w')=>Z8 hb ba.out);clear hF hr6 hmm hw hV bx hw1 hV1 hVB hGo hr hH hG hO ha R hF2 ho hks hA hP hI;have t1:=ta_2_1;have t2:=ta_2_2;go_enter func118,ntmps118;go_upto_region 7 with fail;clear t1 t2;generalize ((w.alloc (.cells #[.int .i64 0,.int .i64 0] 39)).alloc (.cells (Z4 105 V k (M:Int) (H:Int) (G:Int) (I:Int) n v) 166))=W at *;have h0:(fun w'=>w'.cell? ⟨w.heap.size+1,0,none⟩=some (.iface 105 (.pointer (some ⟨V,0,none⟩)))∧w'.cell? ⟨w.heap.size+1,1,none⟩=some (.int .i64 k)∧w'.cell? ⟨w.heap.size+1,2,none⟩=some (.int .i64 (M:Int))∧w'.cell? ⟨w.heap.size+1,3,none⟩=some (.int .i64 (H:Int))∧w'.cell? ⟨w.heap.size+1,4,none⟩=some (.int .i64 (G:Int))∧w'.cell? ⟨w.heap.size+1,5,none⟩=some (.int .i64 (I:Int))∧w'.cell? ⟨w.heap.size+1,6,none⟩=some (.int .i64 n)∧w'.cell? ⟨w.heap.size+1,7,none⟩=some (.int .i64 v)) W.drew:=hS.out _ (below_drewN (Below.refl _ _) 1);refine N3 (fun w'=>w'.cell? ⟨w.heap.size+1,0,none⟩=some (.iface 105 (.pointer (some ⟨V,0,none⟩)))∧w'.cell? ⟨w.heap.size+1,1,none⟩=some (.int .i64 k)∧w'.cell? ⟨w.heap.size+1,2,none⟩=some (.int .i64 (M:Int))∧w'.cell? ⟨w.heap.size+1,3,none⟩=some (.int .i64 (H:Int))∧w'.cell? ⟨w.heap.size+1,4,none⟩=some (.int .i64 (G:Int))∧w'.cell? ⟨w.heap.size+1,5,none⟩=some (.int .i64 (I:Int))∧w'.cell? ⟨w.heap.size+1,6,none⟩=some (.int .i64 n)∧w'.cell? ⟨w.heap.size+1,7,none⟩=some (.int .i64 v)) (fun j=>j == 31) (by kernel_rfl) ?_;refine Y4 (i:=0) (v:=?vq1) rfl (by kernel_rfl) (by kernel_rfl) (by kernel_rfl) rfl (fun _ _ _ h=>h) (Or.inl ⟨by rfl,?hq1⟩) (fun _=>h0) ?rq1
 case hq1=>(intro w _;go_simp;try with_reducible rfl)
 try simp only[Act.put,Z3]
 refine Y4 (i:=1) (v:=?vq2) rfl (by kernel_rfl) (by kernel_rfl) (by kernel_rfl) rfl (fun _ _ _ h=>h) (Or.inl ⟨by rfl,?hq2⟩) (fun _=>h0) ?rq2
 case hq2=>(intro w _;go_simp;try with_reducible rfl)
 try simp only[Act.put,Z3]
 refine Y4 (i:=2) (v:=?vq3) rfl (by kernel_rfl) (by kernel_rfl) (by kernel_rfl) rfl (fun _ _ _ h=>h) (Or.inl ⟨by rfl,?hq3⟩) (fun _=>h0) ?rq3
 case hq3=>(intro w _;go_simp;try with_reducible rfl)
 try simp only[Act.put,Z3]
 refine V6 (i:=3) (v:=?vq4) rfl (by kernel_rfl) (by kernel_rfl) (by kernel_rfl) (by kernel_rfl) (fun j hj=>by simp at hj;subst hj;kernel_rfl) (fun _ _ _ h=>h) (Or.inl ⟨by rfl,?hq4⟩) (by exact h0) ?rq4
 case hq4=>(intro w hSw;(try dsimp only at hSw);obtain⟨s0,s1,s2,s3,s4,s5,s6,s7⟩:=hSw;go_simp;try with_reducible rfl)
 try simp only[Act.put,Z3]
 refine Y4 (i:=4) (v:=?vq5) rfl (by kernel_rfl) (by kernel_rfl) (by kernel_rfl) rfl (fun _ _ _ h=>h) (Or.inl ⟨by rfl,?hq5⟩) (fun _=>h0) ?rq5
 case hq5=>(intro w _;go_simp;try with_reducible rfl)
 try simp only[Act.put,Z3]
 refine Y4 (i:=5) (v:=?vq6) rfl (by kernel_rfl) (by kernel_rfl) (by kernel_rfl) rfl (fun _ _ _ h=>h) (Or.inl ⟨by rfl,?hq6⟩) (fun _=>h0) ?rq6
 case hq6=>(intro w _;go_simp;try with_reducible rfl)
 try simp only[Act.put,Z3]
 refine Y4 (i:=6) (v:=?vq7) rfl (by kernel_rfl) (by kernel_rfl) (by kernel_rfl) rfl (fun _ _ _ h=>h) (Or.inl ⟨by rfl,?hq7⟩) (fun _=>h0) ?rq7
 case hq7=>(intro w _;go_simp;try with_reducible rfl)
 try simp only[Act.put,Z3]
 refine Y4 (i:=7) (v:=?vq8) rfl (by kernel_rfl) (by kernel_rfl) (by kernel_rfl) rfl (fun _ _ _ h=>h) (Or.inl ⟨by rfl,?hq8⟩) (fun _=>h0) ?rq8
 case hq8=>(intro w _;go_simp;try with_reducible rfl)
 try simp only[Act.put,Z3]
 refine Y4 (i:=8) (v:=?vq9) rfl (by kernel_rfl) (by kernel_rfl) (by kernel_rfl) rfl (fun _ _ _ h=>h) (Or.inl ⟨by rfl,?hq9⟩) (fun _=>h0) ?rq9
 case hq9=>(intro w _;go_simp;try with_reducible rfl)
 try simp only[Act.put,Z3]
 refine V6 (i:=9) (v:=?vq10) rfl (by kernel_rfl) (by kernel_rfl) (by kernel_rfl) (by kernel_rfl) (fun j hj=>by simp at hj;subst hj;kernel_rfl) (fun _ _ _ h=>h) (Or.inl ⟨by rfl,?hq10⟩) (by exact h0) ?rq10
 case hq10=>(intro w hSw;(try dsimp only at hSw);obtain⟨s0,s1,s2,s3,s4,s5,s6,s7⟩:=hSw;go_simp;try with_reducible rfl)
 try simp only[Act.put,Z3]
 refine Y4 (i:=11) (v:=?vq11) rfl (by kernel_rfl) (by kernel_rfl) (by kernel_rfl) rfl (fun _ _ _ h=>h) (Or.inl ⟨by rfl,?hq11⟩) (fun _=>h0) ?rq11
 case hq11=>(intro w _;go_simp;try with_reducible rfl)
 try simp only[Act.put,Z3]
 refine Y4 (i:=12) (v:=?vq12) rfl (by kernel_rfl) (by kernel_rfl) (by kernel_rfl) rfl (fun _ _ _ h=>h) (Or.inl ⟨by rfl,?hq12⟩) (fun _=>h0) ?rq12
 case hq12=>(intro w _;go_simp;try with_reducible rfl)
 try simp only[Act.put,Z3]
 refine Y4 (i:=13) (v:=?vq13) rfl (by kernel_rfl) (by kernel_rfl) (by kernel_rfl) rfl (fun _ _ _ h=>h) (Or.inl ⟨by rfl,?hq13⟩) (fun _=>h0) ?rq13
 case hq13=>(intro w _;go_simp;try with_reducible rfl)
 try simp only[Act.put,Z3]
 refine Y4 (i:=14) (v:=?vq14) rfl (by kernel_rfl) (by kernel_rfl) (by kernel_rfl) rfl (fun _ _ _ h=>h) (Or.inl ⟨by rfl,?hq14⟩) (fun _=>h0) ?rq14
 case hq14=>(intro w _;go_simp;try with_reducible rfl)
 try simp only[Act.put,Z3]
 refine V6 (i:=15) (v:=?vq15) rfl (by kernel_rfl) (by kernel_rfl) (by kernel_rfl) (by kernel_rfl) (fun j hj=>by simp at hj;subst hj;kernel_rfl) (fun _ _ _ h=>h) (Or.inl ⟨by rfl,?hq15⟩) (by exact h0) ?rq15
 case hq15=>(intro w hSw;(try dsimp only at hSw);obtain⟨s0,s1,s2,s3,s4,s5,s6,s7⟩:=hSw;go_simp;try with_reducible rfl)
 try simp only[Act.put,Z3]
 refine Y4 (i:=16) (v:=?vq16) rfl (by kernel_rfl) (by kernel_rfl) (by kernel_rfl) rfl (fun _ _ _ h=>h) (Or.inl ⟨by rfl,?hq16⟩) (fun _=>h0) ?rq16
 case hq16=>(intro w _;go_simp;try with_reducible rfl)
 try simp only[Act.put,Z3]
 refine Y4 (i:=17) (v:=?vq17) rfl (by kernel_rfl) (by kernel_rfl) (by kernel_rfl) rfl (fun _ _ _ h=>h) (Or.inl ⟨by rfl,?hq17⟩) (fun _=>h0) ?rq17
 case hq17=>(intro w _;go_simp;try with_reducible rfl)
 try simp only[Act.put,Z3]
 refine Y4 (i:=18) (v:=?vq18) rfl (by kernel_rfl) (by kernel_rfl) (by kernel_rfl) rfl (fun _ _ _ h=>h) (Or.inl ⟨by rfl,?hq18⟩) (fun _=>h0) ?rq18
 case hq18=>(intro w _;go_simp;try with_reducible rfl)
 try simp only[Act.put,Z3]
 refine V6 (i:=19) (v:=?vq19) rfl (by kernel_rfl) (by kernel_rfl) (by kernel_rfl) (by kernel_rfl) (fun j hj=>by simp at hj;subst hj;kernel_rfl) (fun _ _ _ h=>h) (Or.inl ⟨by rfl,?hq19⟩) (by exact h0) ?rq19
 case hq19=>(intro w hSw;(try dsimp only at hSw);obtain⟨s0,s1,s2,s3,s4,s5,s6,s7⟩:=hSw;go_simp;try with_reducible rfl)
 try simp only[Act.put,Z3]
 refine Y4 (i:=21) (v:=?vq20) rfl (by kernel_rfl) (by kernel_rfl) (by kernel_rfl) rfl (fun _ _ _ h=>h) (Or.inl ⟨by rfl,?hq20⟩) (fun _=>h0) ?rq20
 case hq20=>(intro w _;go_simp;try with_reducible rfl)
 try simp only[Act.put,Z3]
 refine Y4 (i:=22) (v:=?vq21) rfl (by kernel_rfl) (by kernel_rfl) (by kernel_rfl) rfl (fun _ _ _ h=>h) (Or.inl ⟨by rfl,?hq21⟩) (fun _=>h0) ?rq21
 case hq21=>(intro w _;go_simp;try with_reducible rfl)
 try simp only[Act.put,Z3]
 refine Y4 (i:=23) (v:=?vq22) rfl (by kernel_rfl) (by kernel_rfl) (by kernel_rfl) rfl (fun _ _ _ h=>h) (Or.inl ⟨by rfl,?hq22⟩) (fun _=>h0) ?rq22
 case hq22=>(intro w _;go_simp;try with_reducible rfl)
 try simp only[Act.put,Z3]
 refine Y4 (i:=24) (v:=?vq23) rfl (by kernel_rfl) (by kernel_rfl) (by kernel_rfl) rfl (fun _ _ _ h=>h) (Or.inl ⟨by rfl,?hq23⟩) (fun _=>h0) ?rq23
 case hq23=>(intro w _;go_simp;try with_reducible rfl)
 try simp only[Act.put,Z3]
 refine Y4 (i:=25) (v:=?vq24) rfl (by kernel_rfl) (by kernel_rfl) (by kernel_rfl) rfl (fun _ _ _ h=>h) (Or.inl ⟨by rfl,?hq24⟩) (fun _=>h0) ?rq24
 case hq24=>(intro w _;go_simp;try with_reducible rfl)
 try simp only[Act.put,Z3]
 refine V6 (i:=26) (v:=?vq25) rfl (by kernel_rfl) (by kernel_rfl) (by kernel_rfl) (by kernel_rfl) (fun j hj=>by simp at hj;subst hj;kernel_rfl) (fun _ _ _ h=>h) (Or.inl ⟨by rfl,?hq25⟩) (by exact h0) ?rq25
 case hq25=>(intro w hSw;(try dsimp only at hSw);obtain⟨s0,s1,s2,s3,s4,s5,s6,s7⟩:=hSw;go_simp;try with_reducible rfl)
 try simp only[Act.put,Z3]
 refine Y4 (i:=27) (v:=?vq26) rfl (by kernel_rfl) (by kernel_rfl) (by kernel_rfl) rfl (fun _ _ _ h=>h) (Or.inl ⟨by rfl,?hq26⟩) (fun _=>h0) ?rq26
 case hq26=>(intro w _;go_simp;try with_reducible rfl)
 try simp only[Act.put,Z3]
 refine Y4 (i:=28) (v:=?vq27) rfl (by kernel_rfl) (by kernel_rfl) (by kernel_rfl) rfl (fun _ _ _ h=>h) (Or.inl ⟨by rfl,?hq27⟩) (fun _=>h0) ?rq27
 case hq27=>(intro w _;go_simp;try with_reducible rfl)
 try simp only[Act.put,Z3]
 refine V7 (rs:=[10]) (by kernel_rfl) (by simp) ?_;intro i hi;simp only[List.mem_cons,List.not_mem_nil,or_false]at hi;subst hi;refine X9 (i:=10) rfl (fun K hK=>?_);go_simp;go_wp2_with (go_at_call 142;refine(hc1.out _ (below_drewN (Below.refl _ _) 1)).mono ?_;rintro e w2⟨rfl,bx1⟩;have b2:=Z0 (Z7 (below_drewN (Below.refl _ _) 1) bx1);clear bx1);refine hK.out _ _ (fun _=>(hS.out w2 b2.out)) ?_;clear hK K
 try simp only[Act.put,Z3]
 refine V7 (rs:=[20]) (by kernel_rfl) (by simp) ?_;intro i hi;simp only[List.mem_cons,List.not_mem_nil,or_false]at hi;subst hi;refine X9 (i:=20) rfl (fun K hK=>?_);go_simp;go_wp2_with (go_at_call 141;refine(hh.out w2 b2.out).mono ?_;rintro e w3⟨rfl,bx1⟩;have b3:=Z0 (Z7 b2.out bx1);clear bx1);refine hK.out _ _ (fun _=>(hS.out w3 b3.out)) ?_;clear hK K
 try simp only[Act.put,Z3]
 refine V7 (rs:=[29]) (by kernel_rfl) (by simp) ?_;intro i hi;simp only[List.mem_cons,List.not_mem_nil,or_false]at hi;subst hi;refine X9 (i:=29) rfl (fun K hK=>?_);go_simp;go_wp2_with (go_at_call 176;refine(hcall.out w3 b3.out).mono ?_;rintro e w4⟨rfl,bx1⟩;have b4:=Z0 (Z7 b3.out bx1);clear bx1;have R3:=hR2.out.below b4.out;have xr:=R3.xr;have fr:=R3.frz;clear R3;have hA3:=hA0.out w4 b4.out;have B3:=Z0 (Z7 bb.out b4.out);have hv3:=Z0 (hv1.out.below b4.out);have a0:=Z6 hA3 0 (.int .i64 0) rfl;have a1:=Z6 hA3 1 (.int .i64 0) rfl;have z0:=Z9 hA3 0;have z1:=Z9 hA3 1;clear hA3);refine hK.out _ _ (fun _=>(hS.out w4 b4.out)) ?_;clear hK K
 try simp only[Act.put,Z3]
 refine Y4 (i:=30) (v:=?vq31) rfl (by kernel_rfl) (by kernel_rfl) (by kernel_rfl) rfl (fun _ _ _ h=>h) (Or.inl ⟨by rfl,?hq31⟩) (fun _=>(hS.out w4 b4.out)) ?rq31
 case hq31=>(intro w _;go_simp;try with_reducible rfl)
 try simp only[Act.put,Z3]
 refine V7 (rs:=[31]) (by kernel_rfl) (by simp) ?_;intro i hi;simp only[List.mem_cons,List.not_mem_nil,or_false]at hi;subst hi;refine X9 (i:=31) rfl (fun K hK=>?_);go_simp;refine hK.out _ _ (fun h=>Bool.noConfusion ((h 31 (by kernel_rfl)).symm.trans (show _=true by kernel_rfl))) ?_;clear hK K
 try simp only[Act.put,Z3]
 refine P6 (by kernel_rfl) ?_ _;have vr:=hv3.out.root M G r _ x hr'.out hmv.out rfl;have hvE:=Z0 (show VarW _ base B S (N0 D (M:Int) (G:Int) x)from by rw[J2 hr'.out];exact vr.1);have hBE:=Z0 ((B3.out.mono hle.out).trans vr.2);have hTE:=Z0 ((V8.of_below B S B3.out).own_set hrn.out G (.int .i64 x));clear vr;go_wp2_with fail;refine bodyPost_ret (v:=.agg #[.int .i64 0,.int .i64 0]) (by simp[results,results118,go_sem,a0,a1,z0,z1,hg1,hg2]) rfl ?_;have hch:Chg [w.heap.size] (w4.setCell ⟨gr,G,none⟩ (.int .i64 x)) _:=((Chg.refl _ _).put (b:=w.heap.size) (by simp) 0 (.int .i64 0)).put (b:=w.heap.size) (by simp) 1 (.int .i64 0);have hx:=zfu hvE.out hTE.out hBE.out hle.out (Nat.le_refl _) hnb.out hch;exact⟨rfl,hx.1,hx.2.1,hx.2.2⟩
theorem vans_3(base B V g0 n0:Nat)(N:DataW Unit)(S:Y9)(D:WD)(k n:Int)(v:Int)(M H G I:Nat)(r:List Int)(kk jj P:Nat)(hGo:M7 D)(hr:D.muts[M]?=some r)(hH:H<6)(hG:G<6)(hO:ObjA D (r[H]?.getD 0) kk jj P I)(ha:I64 (r[H]?.getD 0))(w:World)(hw:VarW w base B S D)(hV:U6 D w V B g0 n0 N)(hVB:V∉B::blks S.all) :
  Calls prog 118 #[.iface 167 (.agg #[.iface 105 (.pointer (some ⟨V,0,none⟩)),.int .i64 k,.int .i64 (M:Int),.int .i64 (H:Int),.int .i64 (G:Int),.int .i64 (I:Int),.int .i64 n,.int .i64 v])] w fun e w'=>e=.returned (.agg #[.int .i64 0,.int .i64 0])∧(∃S' E,zeu D (M:Int) (r[G]?.getD 0) P E∧VarW w' base B S' E∧V8 w w' B S S')∧Below base w w':=by
 have hF:=hGo.form;have hr6:=hF.roots M r hr;have hmm:D.muts.length≤3:=by have:=hF.geo.2.2.2.2.2.2;omega
 have bb:=Z0 (Z7 (Y2 w (.cells #[.int .i64 0,.int .i64 0] 39)) (Y2 (w.alloc (.cells #[.int .i64 0,.int .i64 0] 39)) (.cells (Z4 105 V k (M:Int) (H:Int) (G:Int) (I:Int) n v) 167)));have ba:=Z0 (Z8 (Y2 (w.alloc (.cells #[.int .i64 0,.int .i64 0] 39)) (.cells (Z4 105 V k (M:Int) (H:Int) (G:Int) (I:Int) n v) 167)) (Y8 w (.cells #[.int .i64 0,.int .i64 0] 39)));have bx:=Y8 (w.alloc (.cells #[.int .i64 0,.int .i64 0] 39)) (.cells (Z4 105 V k (M:Int) (H:Int) (G:Int) (I:Int) n v) 167);rw[World.size_alloc]at bx;have hle:=Z0 (Nat.le_of_lt (Nat.lt_of_le_of_lt hw.le hw.lt))
 have hnb:=Z0 (show w.heap.size∉B::blks S.all from fun hm=>by
  rcases List.mem_cons.1 hm with e|hm
  ·have:=hw.lt
   omega
  ·have:=(hw.own.lt _ hm).2
   omega)
 have hlt:=Z0 (show w.heap.size<((w.alloc (.cells #[.int .i64 0,.int .i64 0] 39)).alloc (.cells (Z4 105 V k (M:Int) (H:Int) (G:Int) (I:Int) n v) 167)).heap.size by simp only[World.size_alloc];omega);have hw1:=hw.below bb.out;have hV1:=hV.below bb.out;have hv1:=Z0 hw1;have hh:=Z0 (fun(w':World) (hb:Below ((w.alloc (.cells #[.int .i64 0,.int .i64 0] 39)).alloc (.cells (Z4 105 V k (M:Int) (H:Int) (G:Int) (I:Int) n v) 167)).heap.size ((w.alloc (.cells #[.int .i64 0,.int .i64 0] 39)).alloc (.cells (Z4 105 V k (M:Int) (H:Int) (G:Int) (I:Int) n v) 167)) w')=>zed base B V g0 n0 N S D k (G:Int) (I:Int) n v M H r hr (by omega) hr6 hmm w' (hw1.below hb) (hV1.below hb));obtain⟨gm,cm,gr,cr,R⟩:=hw1.rootAt hr (show G<r.length by omega);have hR2:=Z0 R;have hrn:=Z0 (show gr∈blks S.all from zfm R.mv);have hmv:=Z0 R.mv;have hr':=Z0 hr;have hg1:¬gr=w.heap.size:=fun e=>hnb.out (by rw[←e];exact List.mem_cons_of_mem _ hrn.out);have hg2:¬w.heap.size=gr:=fun e=>hg1 e.symm;have hc1:=Z0 (fun(w':World) (hb:Below ((w.alloc (.cells #[.int .i64 0,.int .i64 0] 39)).alloc (.cells (Z4 105 V k (M:Int) (H:Int) (G:Int) (I:Int) n v) 167)).heap.size ((w.alloc (.cells #[.int .i64 0,.int .i64 0] 39)).alloc (.cells (Z4 105 V k (M:Int) (H:Int) (G:Int) (I:Int) n v) 167)) w')=>zfe base B V g0 n0 N S D k (M:Int) (H:Int) (G:Int) (I:Int) n v M G gm cm gr cr r rfl (by omega) hr6 hmm w' (hw1.below hb) (hV1.below hb) (R.below hb));have hz:=znt (hGo.ints.muts r (List.mem_of_getElem? hr)) G;have hcall:=Z0 (fun(w':World) (hb:Below ((w.alloc (.cells #[.int .i64 0,.int .i64 0] 39)).alloc (.cells (Z4 105 V k (M:Int) (H:Int) (G:Int) (I:Int) n v) 167)).heap.size ((w.alloc (.cells #[.int .i64 0,.int .i64 0] 39)).alloc (.cells (Z4 105 V k (M:Int) (H:Int) (G:Int) (I:Int) n v) 167)) w')=>zuz base B V g0 n0 N S D (r[H]?.getD 0) (M:Int) (r[G]?.getD 0) kk jj P I hGo hO ha hz w' (hw1.below hb) (hV1.below hb) hVB);have hM:=vw_point V;have hN:=vq_point V;have xr:=R.xr;generalize hzz:r[G]?.getD 0=z at *;generalize r[H]?.getD 0=ad at *;have hS:=Z0 (show ∀w',Below ((w.alloc (.cells #[.int .i64 0,.int .i64 0] 39)).alloc (.cells (Z4 105 V k (M:Int) (H:Int) (G:Int) (I:Int) n v) 167)).heap.size ((w.alloc (.cells #[.int .i64 0,.int .i64 0] 39)).alloc (.cells (Z4 105 V k (M:Int) (H:Int) (G:Int) (I:Int) n v) 167)) w'→(fun w'=>w'.cell? ⟨w.heap.size+1,0,none⟩=some (.iface 105 (.pointer (some ⟨V,0,none⟩)))∧w'.cell? ⟨w.heap.size+1,1,none⟩=some (.int .i64 k)∧w'.cell? ⟨w.heap.size+1,2,none⟩=some (.int .i64 (M:Int))∧w'.cell? ⟨w.heap.size+1,3,none⟩=some (.int .i64 (H:Int))∧w'.cell? ⟨w.heap.size+1,4,none⟩=some (.int .i64 (G:Int))∧w'.cell? ⟨w.heap.size+1,5,none⟩=some (.int .i64 (I:Int))∧w'.cell? ⟨w.heap.size+1,6,none⟩=some (.int .i64 n)∧w'.cell? ⟨w.heap.size+1,7,none⟩=some (.int .i64 v)∧w'.cell? ⟨gr,G,none⟩=some (.int .i64 z)) w' from fun w' hb=>⟨Y3 hb (Z6 bx 0 (.iface 105 (.pointer (some ⟨V,0,none⟩))) rfl),Y3 hb (Z6 bx 1 (.int .i64 k) rfl),Y3 hb (Z6 bx 2 (.int .i64 (M:Int)) rfl),Y3 hb (Z6 bx 3 (.int .i64 (H:Int)) rfl),Y3 hb (Z6 bx 4 (.int .i64 (G:Int)) rfl),Y3 hb (Z6 bx 5 (.int .i64 (I:Int)) rfl),Y3 hb (Z6 bx 6 (.int .i64 n) rfl),Y3 hb (Z6 bx 7 (.int .i64 v) rfl),Y3 hb xr⟩);have hA0:=Z0 (fun(w':World) (hb:Below ((w.alloc (.cells #[.int .i64 0,.int .i64 0] 39)).alloc (.cells (Z4 105 V k (M:Int) (H:Int) (G:Int) (I:Int) n v) 167)).heap.size ((w.alloc (.cells #[.int .i64 0,.int .i64 0] 39)).alloc (.cells (Z4 105 V k (M:Int) (H:Int) (G:Int) (I:Int) n v) 167)) w')=>Z8 hb ba.out);clear hF hr6 hmm hw hV bx hw1 hV1 hVB hGo hr hH hG hO ha R hz hzz xr;have t1:=ta_3_1;have t2:=ta_3_2;have t3:=ta_3_3;go_enter func118,ntmps118;go_upto_region 10 with fail;clear t1 t2 t3;generalize ((w.alloc (.cells #[.int .i64 0,.int .i64 0] 39)).alloc (.cells (Z4 105 V k (M:Int) (H:Int) (G:Int) (I:Int) n v) 167))=W at *;have h0:(fun w'=>w'.cell? ⟨w.heap.size+1,0,none⟩=some (.iface 105 (.pointer (some ⟨V,0,none⟩)))∧w'.cell? ⟨w.heap.size+1,1,none⟩=some (.int .i64 k)∧w'.cell? ⟨w.heap.size+1,2,none⟩=some (.int .i64 (M:Int))∧w'.cell? ⟨w.heap.size+1,3,none⟩=some (.int .i64 (H:Int))∧w'.cell? ⟨w.heap.size+1,4,none⟩=some (.int .i64 (G:Int))∧w'.cell? ⟨w.heap.size+1,5,none⟩=some (.int .i64 (I:Int))∧w'.cell? ⟨w.heap.size+1,6,none⟩=some (.int .i64 n)∧w'.cell? ⟨w.heap.size+1,7,none⟩=some (.int .i64 v)∧w'.cell? ⟨gr,G,none⟩=some (.int .i64 z)) W.drew:=hS.out _ (below_drewN (Below.refl _ _) 1);refine N3 (fun w'=>w'.cell? ⟨w.heap.size+1,0,none⟩=some (.iface 105 (.pointer (some ⟨V,0,none⟩)))∧w'.cell? ⟨w.heap.size+1,1,none⟩=some (.int .i64 k)∧w'.cell? ⟨w.heap.size+1,2,none⟩=some (.int .i64 (M:Int))∧w'.cell? ⟨w.heap.size+1,3,none⟩=some (.int .i64 (H:Int))∧w'.cell? ⟨w.heap.size+1,4,none⟩=some (.int .i64 (G:Int))∧w'.cell? ⟨w.heap.size+1,5,none⟩=some (.int .i64 (I:Int))∧w'.cell? ⟨w.heap.size+1,6,none⟩=some (.int .i64 n)∧w'.cell? ⟨w.heap.size+1,7,none⟩=some (.int .i64 v)∧w'.cell? ⟨gr,G,none⟩=some (.int .i64 z)) (fun j=>j == 37) (by kernel_rfl) ?_;refine Y4 (i:=0) (v:=?vq73) rfl (by kernel_rfl) (by kernel_rfl) (by kernel_rfl) rfl (fun _ _ _ h=>h) (Or.inl ⟨by rfl,?hq73⟩) (fun _=>h0) ?rq73
 case hq73=>(intro w _;go_simp;try with_reducible rfl)
 try simp only[Act.put,Z3]
 refine Y4 (i:=1) (v:=?vq74) rfl (by kernel_rfl) (by kernel_rfl) (by kernel_rfl) rfl (fun _ _ _ h=>h) (Or.inl ⟨by rfl,?hq74⟩) (fun _=>h0) ?rq74
 case hq74=>(intro w _;go_simp;try with_reducible rfl)
 try simp only[Act.put,Z3]
 refine Y4 (i:=2) (v:=?vq75) rfl (by kernel_rfl) (by kernel_rfl) (by kernel_rfl) rfl (fun _ _ _ h=>h) (Or.inl ⟨by rfl,?hq75⟩) (fun _=>h0) ?rq75
 case hq75=>(intro w _;go_simp;try with_reducible rfl)
 try simp only[Act.put,Z3]
 refine Y4 (i:=3) (v:=?vq76) rfl (by kernel_rfl) (by kernel_rfl) (by kernel_rfl) rfl (fun _ _ _ h=>h) (Or.inl ⟨by rfl,?hq76⟩) (fun _=>h0) ?rq76
 case hq76=>(intro w _;go_simp;try with_reducible rfl)
 try simp only[Act.put,Z3]
 refine V6 (i:=4) (v:=?vq77) rfl (by kernel_rfl) (by kernel_rfl) (by kernel_rfl) (by kernel_rfl) (fun j hj=>by simp at hj;subst hj;kernel_rfl) (fun _ _ _ h=>h) (Or.inl ⟨by rfl,?hq77⟩) (by exact h0) ?rq77
 case hq77=>(intro w hSw;(try dsimp only at hSw);obtain⟨s0,s1,s2,s3,s4,s5,s6,s7,s8⟩:=hSw;go_simp;try with_reducible rfl)
 try simp only[Act.put,Z3]
 refine Y4 (i:=5) (v:=?vq78) rfl (by kernel_rfl) (by kernel_rfl) (by kernel_rfl) rfl (fun _ _ _ h=>h) (Or.inl ⟨by rfl,?hq78⟩) (fun _=>h0) ?rq78
 case hq78=>(intro w _;go_simp;try with_reducible rfl)
 try simp only[Act.put,Z3]
 refine Y4 (i:=6) (v:=?vq79) rfl (by kernel_rfl) (by kernel_rfl) (by kernel_rfl) rfl (fun _ _ _ h=>h) (Or.inl ⟨by rfl,?hq79⟩) (fun _=>h0) ?rq79
 case hq79=>(intro w _;go_simp;try with_reducible rfl)
 try simp only[Act.put,Z3]
 refine Y4 (i:=7) (v:=?vq80) rfl (by kernel_rfl) (by kernel_rfl) (by kernel_rfl) rfl (fun _ _ _ h=>h) (Or.inl ⟨by rfl,?hq80⟩) (fun _=>h0) ?rq80
 case hq80=>(intro w _;go_simp;try with_reducible rfl)
 try simp only[Act.put,Z3]
 refine Y4 (i:=8) (v:=?vq81) rfl (by kernel_rfl) (by kernel_rfl) (by kernel_rfl) rfl (fun _ _ _ h=>h) (Or.inl ⟨by rfl,?hq81⟩) (fun _=>h0) ?rq81
 case hq81=>(intro w _;go_simp;try with_reducible rfl)
 try simp only[Act.put,Z3]
 refine Y4 (i:=9) (v:=?vq82) rfl (by kernel_rfl) (by kernel_rfl) (by kernel_rfl) rfl (fun _ _ _ h=>h) (Or.inl ⟨by rfl,?hq82⟩) (fun _=>h0) ?rq82
 case hq82=>(intro w _;go_simp;try with_reducible rfl)
 try simp only[Act.put,Z3]
 refine V6 (i:=10) (v:=?vq83) rfl (by kernel_rfl) (by kernel_rfl) (by kernel_rfl) (by kernel_rfl) (fun j hj=>by simp at hj;subst hj;kernel_rfl) (fun _ _ _ h=>h) (Or.inl ⟨by rfl,?hq83⟩) (by exact h0) ?rq83
 case hq83=>(intro w hSw;(try dsimp only at hSw);obtain⟨s0,s1,s2,s3,s4,s5,s6,s7,s8⟩:=hSw;go_simp;try with_reducible rfl)
 try simp only[Act.put,Z3]
 refine Y4 (i:=11) (v:=?vq84) rfl (by kernel_rfl) (by kernel_rfl) (by kernel_rfl) rfl (fun _ _ _ h=>h) (Or.inl ⟨by rfl,?hq84⟩) (fun _=>h0) ?rq84
 case hq84=>(intro w _;go_simp;try with_reducible rfl)
 try simp only[Act.put,Z3]
 refine Y4 (i:=12) (v:=?vq85) rfl (by kernel_rfl) (by kernel_rfl) (by kernel_rfl) rfl (fun _ _ _ h=>h) (Or.inl ⟨by rfl,?hq85⟩) (fun _=>h0) ?rq85
 case hq85=>(intro w _;go_simp;try with_reducible rfl)
 try simp only[Act.put,Z3]
 refine Y4 (i:=13) (v:=?vq86) rfl (by kernel_rfl) (by kernel_rfl) (by kernel_rfl) rfl (fun _ _ _ h=>h) (Or.inl ⟨by rfl,?hq86⟩) (fun _=>h0) ?rq86
 case hq86=>(intro w _;go_simp;try with_reducible rfl)
 try simp only[Act.put,Z3]
 refine V6 (i:=14) (v:=?vq87) rfl (by kernel_rfl) (by kernel_rfl) (by kernel_rfl) (by kernel_rfl) (fun j hj=>by simp at hj;subst hj;kernel_rfl) (fun _ _ _ h=>h) (Or.inl ⟨by rfl,?hq87⟩) (by exact h0) ?rq87
 case hq87=>(intro w hSw;(try dsimp only at hSw);obtain⟨s0,s1,s2,s3,s4,s5,s6,s7,s8⟩:=hSw;go_simp;try with_reducible rfl)
 try simp only[Act.put,Z3]
 refine Y4 (i:=16) (v:=?vq88) rfl (by kernel_rfl) (by kernel_rfl) (by kernel_rfl) rfl (fun _ _ _ h=>h) (Or.inl ⟨by rfl,?hq88⟩) (fun _=>h0) ?rq88
 case hq88=>(intro w _;go_simp;try with_reducible rfl)
 try simp only[Act.put,Z3]
 refine Y4 (i:=17) (v:=?vq89) rfl (by kernel_rfl) (by kernel_rfl) (by kernel_rfl) rfl (fun _ _ _ h=>h) (Or.inl ⟨by rfl,?hq89⟩) (fun _=>h0) ?rq89
 case hq89=>(intro w _;go_simp;try with_reducible rfl)
 try simp only[Act.put,Z3]
 refine Y4 (i:=18) (v:=?vq90) rfl (by kernel_rfl) (by kernel_rfl) (by kernel_rfl) rfl (fun _ _ _ h=>h) (Or.inl ⟨by rfl,?hq90⟩) (fun _=>h0) ?rq90
 case hq90=>(intro w _;go_simp;try with_reducible rfl)
 try simp only[Act.put,Z3]
 refine Y4 (i:=19) (v:=?vq91) rfl (by kernel_rfl) (by kernel_rfl) (by kernel_rfl) rfl (fun _ _ _ h=>h) (Or.inl ⟨by rfl,?hq91⟩) (fun _=>h0) ?rq91
 case hq91=>(intro w _;go_simp;try with_reducible rfl)
 try simp only[Act.put,Z3]
 refine Y4 (i:=20) (v:=?vq92) rfl (by kernel_rfl) (by kernel_rfl) (by kernel_rfl) rfl (fun _ _ _ h=>h) (Or.inl ⟨by rfl,?hq92⟩) (fun _=>h0) ?rq92
 case hq92=>(intro w _;go_simp;try with_reducible rfl)
 try simp only[Act.put,Z3]
 refine V6 (i:=21) (v:=?vq93) rfl (by kernel_rfl) (by kernel_rfl) (by kernel_rfl) (by kernel_rfl) (fun j hj=>by simp at hj;subst hj;kernel_rfl) (fun _ _ _ h=>h) (Or.inl ⟨by rfl,?hq93⟩) (by exact h0) ?rq93
 case hq93=>(intro w hSw;(try dsimp only at hSw);obtain⟨s0,s1,s2,s3,s4,s5,s6,s7,s8⟩:=hSw;go_simp;try with_reducible rfl)
 try simp only[Act.put,Z3]
 refine Y4 (i:=22) (v:=?vq94) rfl (by kernel_rfl) (by kernel_rfl) (by kernel_rfl) rfl (fun _ _ _ h=>h) (Or.inl ⟨by rfl,?hq94⟩) (fun _=>h0) ?rq94
 case hq94=>(intro w _;go_simp;try with_reducible rfl)
 try simp only[Act.put,Z3]
 refine Y4 (i:=23) (v:=?vq95) rfl (by kernel_rfl) (by kernel_rfl) (by kernel_rfl) rfl (fun _ _ _ h=>h) (Or.inl ⟨by rfl,?hq95⟩) (fun _=>h0) ?rq95
 case hq95=>(intro w _;go_simp;try with_reducible rfl)
 try simp only[Act.put,Z3]
 refine Y4 (i:=24) (v:=?vq96) rfl (by kernel_rfl) (by kernel_rfl) (by kernel_rfl) rfl (fun _ _ _ h=>h) (Or.inl ⟨by rfl,?hq96⟩) (fun _=>h0) ?rq96
 case hq96=>(intro w _;go_simp;try with_reducible rfl)
 try simp only[Act.put,Z3]
 refine V6 (i:=25) (v:=?vq97) rfl (by kernel_rfl) (by kernel_rfl) (by kernel_rfl) (by kernel_rfl) (fun j hj=>by simp at hj;subst hj;kernel_rfl) (fun _ _ _ h=>h) (Or.inl ⟨by rfl,?hq97⟩) (by exact h0) ?rq97
 case hq97=>(intro w hSw;(try dsimp only at hSw);obtain⟨s0,s1,s2,s3,s4,s5,s6,s7,s8⟩:=hSw;go_simp;try with_reducible rfl)
 try simp only[Act.put,Z3]
 refine Y4 (i:=26) (v:=?vq98) rfl (by kernel_rfl) (by kernel_rfl) (by kernel_rfl) rfl (fun _ _ _ h=>h) (Or.inl ⟨by rfl,?hq98⟩) (fun _=>h0) ?rq98
 case hq98=>(intro w _;go_simp;try with_reducible rfl)
 try simp only[Act.put,Z3]
 refine Y4 (i:=27) (v:=?vq99) rfl (by kernel_rfl) (by kernel_rfl) (by kernel_rfl) rfl (fun _ _ _ h=>h) (Or.inl ⟨by rfl,?hq99⟩) (fun _=>h0) ?rq99
 case hq99=>(intro w _;go_simp;try with_reducible rfl)
 try simp only[Act.put,Z3]
 refine Y4 (i:=28) (v:=?vq100) rfl (by kernel_rfl) (by kernel_rfl) (by kernel_rfl) rfl (fun _ _ _ h=>h) (Or.inl ⟨by rfl,?hq100⟩) (fun _=>h0) ?rq100
 case hq100=>(intro w _;go_simp;try with_reducible rfl)
 try simp only[Act.put,Z3]
 refine Y4 (i:=29) (v:=?vq101) rfl (by kernel_rfl) (by kernel_rfl) (by kernel_rfl) rfl (fun _ _ _ h=>h) (Or.inl ⟨by rfl,?hq101⟩) (fun _=>h0) ?rq101
 case hq101=>(intro w _;go_simp;try with_reducible rfl)
 try simp only[Act.put,Z3]
 refine Y4 (i:=30) (v:=?vq102) rfl (by kernel_rfl) (by kernel_rfl) (by kernel_rfl) rfl (fun _ _ _ h=>h) (Or.inl ⟨by rfl,?hq102⟩) (fun _=>h0) ?rq102
 case hq102=>(intro w _;go_simp;try with_reducible rfl)
 try simp only[Act.put,Z3]
 refine V6 (i:=31) (v:=?vq103) rfl (by kernel_rfl) (by kernel_rfl) (by kernel_rfl) (by kernel_rfl) (fun j hj=>by simp at hj;subst hj;kernel_rfl) (fun _ _ _ h=>h) (Or.inl ⟨by rfl,?hq103⟩) (by exact h0) ?rq103
 case hq103=>(intro w hSw;(try dsimp only at hSw);obtain⟨s0,s1,s2,s3,s4,s5,s6,s7,s8⟩:=hSw;go_simp;try with_reducible rfl)
 try simp only[Act.put,Z3]
 refine Y4 (i:=35) (v:=?vq104) rfl (by kernel_rfl) (by kernel_rfl) (by kernel_rfl) rfl (fun _ _ _ h=>h) (Or.inl ⟨by rfl,?hq104⟩) (fun _=>h0) ?rq104
 case hq104=>(intro w _;go_simp;try with_reducible rfl)
 try simp only[Act.put,Z3]
 refine Y4 (i:=36) (v:=?vq105) rfl (by kernel_rfl) (by kernel_rfl) (by kernel_rfl) rfl (fun _ _ _ h=>h) (Or.inl ⟨by rfl,?hq105⟩) (fun _=>h0) ?rq105
 case hq105=>(intro w _;go_simp;try with_reducible rfl)
 try simp only[Act.put,Z3]
 refine V7 (rs:=[15]) (by kernel_rfl) (by simp) ?_;intro i hi;simp only[List.mem_cons,List.not_mem_nil,or_false]at hi;subst hi;refine X9 (i:=15) rfl (fun K hK=>?_);go_simp;go_wp2_with (go_at_call 141;refine(hh.out _ (below_drewN (Below.refl _ _) 1)).mono ?_;rintro e w2⟨rfl,bx1⟩;have b2:=Z0 (Z7 (below_drewN (Below.refl _ _) 1) bx1);clear bx1);refine hK.out _ _ (fun _=>(hS.out w2 b2.out)) ?_;clear hK K
 try simp only[Act.put,Z3]
 refine V7 (rs:=[32]) (by kernel_rfl) (by simp) ?_;intro i hi;simp only[List.mem_cons,List.not_mem_nil,or_false]at hi;subst hi;refine X9 (i:=32) rfl (fun K hK=>?_);go_simp;go_wp2_with (go_at_call 142;refine(hc1.out w2 b2.out).mono ?_;rintro e w3⟨rfl,bx1⟩;have b3:=Z0 (Z7 b2.out bx1);clear bx1);refine hK.out _ _ (fun _=>(hS.out w3 b3.out)) ?_;clear hK K
 try simp only[Act.put,Z3]
 refine Y4 (i:=33) (v:=?vq108) rfl (by kernel_rfl) (by kernel_rfl) (by kernel_rfl) rfl (fun _ _ _ h=>h) (Or.inl ⟨by rfl,?hq108⟩) (fun _=>(hS.out w3 b3.out)) ?rq108
 case hq108=>(intro w _;go_simp;try with_reducible rfl)
 try simp only[Act.put,Z3]
 refine V6 (i:=34) (v:=?vq109) rfl (by kernel_rfl) (by kernel_rfl) (by kernel_rfl) (by kernel_rfl) (fun j hj=>by simp at hj;subst hj;kernel_rfl) (fun _ _ _ h=>h) (Or.inl ⟨by rfl,?hq109⟩) (by exact(hS.out w3 b3.out)) ?rq109
 case hq109=>(intro w hSw;(try dsimp only at hSw);obtain⟨s0,s1,s2,s3,s4,s5,s6,s7,s8⟩:=hSw;go_simp;try with_reducible rfl)
 try simp only[Act.put,Z3]
 refine V7 (rs:=[37]) (by kernel_rfl) (by simp) ?_;intro i hi;simp only[List.mem_cons,List.not_mem_nil,or_false]at hi;subst hi;refine X9 (i:=37) rfl (fun K hK=>?_);go_simp;go_wp2_with (go_at_call 172;refine(hcall.out w3 b3.out).mono ?_;rintro e w9⟨rfl,⟨S9,E9,h9,v9,t9⟩,b9⟩;have hA3:=(t9.chg.block _ (Nat.lt_of_lt_of_le hlt.out b3.out.size) hnb.out).trans (hA0.out w3 b3.out);have hB3:=Z0 (((Z7 bb.out b3.out).mono hle.out).trans b9);have hT3:=Z0 ((V8.of_below B S (Z7 bb.out b3.out)).trans t9);have hv3:=Z0 v9;have hn3:=Z0 (t9.fresh hnb.out (Nat.lt_of_lt_of_le hlt.out b3.out.size));have a0:=Z6 hA3 0 (.int .i64 0) rfl;have a1:=Z6 hA3 1 (.int .i64 0) rfl;have z0:=Z9 hA3 0;have z1:=Z9 hA3 1;clear v9 t9 b9);refine hK.out _ _ (fun h=>Bool.noConfusion ((h 37 (by kernel_rfl)).symm.trans (show _=true by kernel_rfl))) ?_;clear hK K
 try simp only[Act.put,Z3]
 refine P6 (by kernel_rfl) ?_ _;go_wp2_with fail;refine bodyPost_ret (v:=.agg #[.int .i64 0,.int .i64 0]) (by simp[results,results118,go_sem,a0,a1,z0,z1]) rfl ?_;have hch:Chg [w.heap.size] w9 _:=((Chg.refl _ _).put (b:=w.heap.size) (by simp) 0 (.int .i64 0)).put (b:=w.heap.size) (by simp) 1 (.int .i64 0);have hx:=zfu hv3.out hT3.out hB3.out hle.out (Nat.le_refl _) hn3.out hch;exact⟨rfl,⟨S9,E9,h9,hx.1,hx.2.1⟩,hx.2.2⟩
theorem vans_4(base B V g0 n0:Nat)(N:DataW Unit)(S:Y9)(D:WD)(k n:Int)(g v:Int)(M H I:Nat)(r:List Int)(kk jj P:Nat)(hGo:M7 D)(hr:D.muts[M]?=some r)(hH:H<6)(hO:ObjA D (r[H]?.getD 0) kk jj P I)(ha:I64 (r[H]?.getD 0))(w:World)(hw:VarW w base B S D)(hV:U6 D w V B g0 n0 N)(hVB:V∉B::blks S.all) :
  Calls prog 118 #[.iface 170 (.agg #[.iface 105 (.pointer (some ⟨V,0,none⟩)),.int .i64 k,.int .i64 (M:Int),.int .i64 (H:Int),.int .i64 g,.int .i64 (I:Int),.int .i64 n,.int .i64 v])] w fun e w'=>e=.returned (.agg #[.int .i64 0,.int .i64 0])∧VarW w' base B S { D with words:=D.words.set P v,dirty:=zfs D.dirty (P:Int) 1 }∧V8 w w' B S S∧Below base w w':=by
 have hF:=hGo.form;have hr6:=hF.roots M r hr;have hmm:D.muts.length≤3:=by have:=hF.geo.2.2.2.2.2.2;omega
 have bb:=Z0 (Z7 (Y2 w (.cells #[.int .i64 0,.int .i64 0] 39)) (Y2 (w.alloc (.cells #[.int .i64 0,.int .i64 0] 39)) (.cells (Z4 105 V k (M:Int) (H:Int) g (I:Int) n v) 170)));have ba:=Z0 (Z8 (Y2 (w.alloc (.cells #[.int .i64 0,.int .i64 0] 39)) (.cells (Z4 105 V k (M:Int) (H:Int) g (I:Int) n v) 170)) (Y8 w (.cells #[.int .i64 0,.int .i64 0] 39)));have bx:=Y8 (w.alloc (.cells #[.int .i64 0,.int .i64 0] 39)) (.cells (Z4 105 V k (M:Int) (H:Int) g (I:Int) n v) 170);rw[World.size_alloc]at bx;have hle:=Z0 (Nat.le_of_lt (Nat.lt_of_le_of_lt hw.le hw.lt))
 have hnb:=Z0 (show w.heap.size∉B::blks S.all from fun hm=>by
  rcases List.mem_cons.1 hm with e|hm
  ·have:=hw.lt
   omega
  ·have:=(hw.own.lt _ hm).2
   omega)
 have hlt:=Z0 (show w.heap.size<((w.alloc (.cells #[.int .i64 0,.int .i64 0] 39)).alloc (.cells (Z4 105 V k (M:Int) (H:Int) g (I:Int) n v) 170)).heap.size by simp only[World.size_alloc];omega);have hw1:=hw.below bb.out;have hV1:=hV.below bb.out;have hv1:=Z0 hw1;have hh:=Z0 (fun(w':World) (hb:Below ((w.alloc (.cells #[.int .i64 0,.int .i64 0] 39)).alloc (.cells (Z4 105 V k (M:Int) (H:Int) g (I:Int) n v) 170)).heap.size ((w.alloc (.cells #[.int .i64 0,.int .i64 0] 39)).alloc (.cells (Z4 105 V k (M:Int) (H:Int) g (I:Int) n v) 170)) w')=>zed base B V g0 n0 N S D k g (I:Int) n v M H r hr (by omega) hr6 hmm w' (hw1.below hb) (hV1.below hb));have hcall:=Z0 (fun(w':World) (hb:Below ((w.alloc (.cells #[.int .i64 0,.int .i64 0] 39)).alloc (.cells (Z4 105 V k (M:Int) (H:Int) g (I:Int) n v) 170)).heap.size ((w.alloc (.cells #[.int .i64 0,.int .i64 0] 39)).alloc (.cells (Z4 105 V k (M:Int) (H:Int) g (I:Int) n v) 170)) w')=>zpc base B V g0 n0 N S D (r[H]?.getD 0) v kk jj P I hO ha w' (hw1.below hb) (hV1.below hb) hVB);have hM:=vw_set V;have hN:=vq_set V;generalize r[H]?.getD 0=ad at *;have hS:=Z0 (show ∀w',Below ((w.alloc (.cells #[.int .i64 0,.int .i64 0] 39)).alloc (.cells (Z4 105 V k (M:Int) (H:Int) g (I:Int) n v) 170)).heap.size ((w.alloc (.cells #[.int .i64 0,.int .i64 0] 39)).alloc (.cells (Z4 105 V k (M:Int) (H:Int) g (I:Int) n v) 170)) w'→(fun w'=>w'.cell? ⟨w.heap.size+1,0,none⟩=some (.iface 105 (.pointer (some ⟨V,0,none⟩)))∧w'.cell? ⟨w.heap.size+1,1,none⟩=some (.int .i64 k)∧w'.cell? ⟨w.heap.size+1,2,none⟩=some (.int .i64 (M:Int))∧w'.cell? ⟨w.heap.size+1,3,none⟩=some (.int .i64 (H:Int))∧w'.cell? ⟨w.heap.size+1,4,none⟩=some (.int .i64 g)∧w'.cell? ⟨w.heap.size+1,5,none⟩=some (.int .i64 (I:Int))∧w'.cell? ⟨w.heap.size+1,6,none⟩=some (.int .i64 n)∧w'.cell? ⟨w.heap.size+1,7,none⟩=some (.int .i64 v)) w' from fun w' hb=>⟨Y3 hb (Z6 bx 0 (.iface 105 (.pointer (some ⟨V,0,none⟩))) rfl),Y3 hb (Z6 bx 1 (.int .i64 k) rfl),Y3 hb (Z6 bx 2 (.int .i64 (M:Int)) rfl),Y3 hb (Z6 bx 3 (.int .i64 (H:Int)) rfl),Y3 hb (Z6 bx 4 (.int .i64 g) rfl),Y3 hb (Z6 bx 5 (.int .i64 (I:Int)) rfl),Y3 hb (Z6 bx 6 (.int .i64 n) rfl),Y3 hb (Z6 bx 7 (.int .i64 v) rfl)⟩);have hA0:=Z0 (fun(w':World) (hb:Below ((w.alloc (.cells #[.int .i64 0,.int .i64 0] 39)).alloc (.cells (Z4 105 V k (M:Int) (H:Int) g (I:Int) n v) 170)).heap.size ((w.alloc (.cells #[.int .i64 0,.int .i64 0] 39)).alloc (.cells (Z4 105 V k (M:Int) (H:Int) g (I:Int) n v) 170)) w')=>Z8 hb ba.out);clear hF hr6 hmm hw hV bx hw1 hV1 hVB hGo hr hH hO ha;have t1:=ta_4_1;have t2:=ta_4_2;have t3:=ta_4_3;have t4:=ta_4_4;go_enter func118,ntmps118;go_upto_region 13 with fail;clear t1 t2 t3 t4;generalize ((w.alloc (.cells #[.int .i64 0,.int .i64 0] 39)).alloc (.cells (Z4 105 V k (M:Int) (H:Int) g (I:Int) n v) 170))=W at *;have h0:(fun w'=>w'.cell? ⟨w.heap.size+1,0,none⟩=some (.iface 105 (.pointer (some ⟨V,0,none⟩)))∧w'.cell? ⟨w.heap.size+1,1,none⟩=some (.int .i64 k)∧w'.cell? ⟨w.heap.size+1,2,none⟩=some (.int .i64 (M:Int))∧w'.cell? ⟨w.heap.size+1,3,none⟩=some (.int .i64 (H:Int))∧w'.cell? ⟨w.heap.size+1,4,none⟩=some (.int .i64 g)∧w'.cell? ⟨w.heap.size+1,5,none⟩=some (.int .i64 (I:Int))∧w'.cell? ⟨w.heap.size+1,6,none⟩=some (.int .i64 n)∧w'.cell? ⟨w.heap.size+1,7,none⟩=some (.int .i64 v)) W.drew:=hS.out _ (below_drewN (Below.refl _ _) 1);refine N3 (fun w'=>w'.cell? ⟨w.heap.size+1,0,none⟩=some (.iface 105 (.pointer (some ⟨V,0,none⟩)))∧w'.cell? ⟨w.heap.size+1,1,none⟩=some (.int .i64 k)∧w'.cell? ⟨w.heap.size+1,2,none⟩=some (.int .i64 (M:Int))∧w'.cell? ⟨w.heap.size+1,3,none⟩=some (.int .i64 (H:Int))∧w'.cell? ⟨w.heap.size+1,4,none⟩=some (.int .i64 g)∧w'.cell? ⟨w.heap.size+1,5,none⟩=some (.int .i64 (I:Int))∧w'.cell? ⟨w.heap.size+1,6,none⟩=some (.int .i64 n)∧w'.cell? ⟨w.heap.size+1,7,none⟩=some (.int .i64 v)) (fun j=>j == 24) (by kernel_rfl) ?_;refine Y4 (i:=0) (v:=?vq48) rfl (by kernel_rfl) (by kernel_rfl) (by kernel_rfl) rfl (fun _ _ _ h=>h) (Or.inl ⟨by rfl,?hq48⟩) (fun _=>h0) ?rq48
 case hq48=>(intro w _;go_simp;try with_reducible rfl)
 try simp only[Act.put,Z3]
 refine Y4 (i:=1) (v:=?vq49) rfl (by kernel_rfl) (by kernel_rfl) (by kernel_rfl) rfl (fun _ _ _ h=>h) (Or.inl ⟨by rfl,?hq49⟩) (fun _=>h0) ?rq49
 case hq49=>(intro w _;go_simp;try with_reducible rfl)
 try simp only[Act.put,Z3]
 refine Y4 (i:=2) (v:=?vq50) rfl (by kernel_rfl) (by kernel_rfl) (by kernel_rfl) rfl (fun _ _ _ h=>h) (Or.inl ⟨by rfl,?hq50⟩) (fun _=>h0) ?rq50
 case hq50=>(intro w _;go_simp;try with_reducible rfl)
 try simp only[Act.put,Z3]
 refine Y4 (i:=3) (v:=?vq51) rfl (by kernel_rfl) (by kernel_rfl) (by kernel_rfl) rfl (fun _ _ _ h=>h) (Or.inl ⟨by rfl,?hq51⟩) (fun _=>h0) ?rq51
 case hq51=>(intro w _;go_simp;try with_reducible rfl)
 try simp only[Act.put,Z3]
 refine V6 (i:=4) (v:=?vq52) rfl (by kernel_rfl) (by kernel_rfl) (by kernel_rfl) (by kernel_rfl) (fun j hj=>by simp at hj;subst hj;kernel_rfl) (fun _ _ _ h=>h) (Or.inl ⟨by rfl,?hq52⟩) (by exact h0) ?rq52
 case hq52=>(intro w hSw;(try dsimp only at hSw);obtain⟨s0,s1,s2,s3,s4,s5,s6,s7⟩:=hSw;go_simp;try with_reducible rfl)
 try simp only[Act.put,Z3]
 refine Y4 (i:=5) (v:=?vq53) rfl (by kernel_rfl) (by kernel_rfl) (by kernel_rfl) rfl (fun _ _ _ h=>h) (Or.inl ⟨by rfl,?hq53⟩) (fun _=>h0) ?rq53
 case hq53=>(intro w _;go_simp;try with_reducible rfl)
 try simp only[Act.put,Z3]
 refine Y4 (i:=6) (v:=?vq54) rfl (by kernel_rfl) (by kernel_rfl) (by kernel_rfl) rfl (fun _ _ _ h=>h) (Or.inl ⟨by rfl,?hq54⟩) (fun _=>h0) ?rq54
 case hq54=>(intro w _;go_simp;try with_reducible rfl)
 try simp only[Act.put,Z3]
 refine Y4 (i:=7) (v:=?vq55) rfl (by kernel_rfl) (by kernel_rfl) (by kernel_rfl) rfl (fun _ _ _ h=>h) (Or.inl ⟨by rfl,?hq55⟩) (fun _=>h0) ?rq55
 case hq55=>(intro w _;go_simp;try with_reducible rfl)
 try simp only[Act.put,Z3]
 refine V6 (i:=8) (v:=?vq56) rfl (by kernel_rfl) (by kernel_rfl) (by kernel_rfl) (by kernel_rfl) (fun j hj=>by simp at hj;subst hj;kernel_rfl) (fun _ _ _ h=>h) (Or.inl ⟨by rfl,?hq56⟩) (by exact h0) ?rq56
 case hq56=>(intro w hSw;(try dsimp only at hSw);obtain⟨s0,s1,s2,s3,s4,s5,s6,s7⟩:=hSw;go_simp;try with_reducible rfl)
 try simp only[Act.put,Z3]
 refine Y4 (i:=10) (v:=?vq57) rfl (by kernel_rfl) (by kernel_rfl) (by kernel_rfl) rfl (fun _ _ _ h=>h) (Or.inl ⟨by rfl,?hq57⟩) (fun _=>h0) ?rq57
 case hq57=>(intro w _;go_simp;try with_reducible rfl)
 try simp only[Act.put,Z3]
 refine Y4 (i:=11) (v:=?vq58) rfl (by kernel_rfl) (by kernel_rfl) (by kernel_rfl) rfl (fun _ _ _ h=>h) (Or.inl ⟨by rfl,?hq58⟩) (fun _=>h0) ?rq58
 case hq58=>(intro w _;go_simp;try with_reducible rfl)
 try simp only[Act.put,Z3]
 refine Y4 (i:=12) (v:=?vq59) rfl (by kernel_rfl) (by kernel_rfl) (by kernel_rfl) rfl (fun _ _ _ h=>h) (Or.inl ⟨by rfl,?hq59⟩) (fun _=>h0) ?rq59
 case hq59=>(intro w _;go_simp;try with_reducible rfl)
 try simp only[Act.put,Z3]
 refine Y4 (i:=13) (v:=?vq60) rfl (by kernel_rfl) (by kernel_rfl) (by kernel_rfl) rfl (fun _ _ _ h=>h) (Or.inl ⟨by rfl,?hq60⟩) (fun _=>h0) ?rq60
 case hq60=>(intro w _;go_simp;try with_reducible rfl)
 try simp only[Act.put,Z3]
 refine Y4 (i:=14) (v:=?vq61) rfl (by kernel_rfl) (by kernel_rfl) (by kernel_rfl) rfl (fun _ _ _ h=>h) (Or.inl ⟨by rfl,?hq61⟩) (fun _=>h0) ?rq61
 case hq61=>(intro w _;go_simp;try with_reducible rfl)
 try simp only[Act.put,Z3]
 refine V6 (i:=15) (v:=?vq62) rfl (by kernel_rfl) (by kernel_rfl) (by kernel_rfl) (by kernel_rfl) (fun j hj=>by simp at hj;subst hj;kernel_rfl) (fun _ _ _ h=>h) (Or.inl ⟨by rfl,?hq62⟩) (by exact h0) ?rq62
 case hq62=>(intro w hSw;(try dsimp only at hSw);obtain⟨s0,s1,s2,s3,s4,s5,s6,s7⟩:=hSw;go_simp;try with_reducible rfl)
 try simp only[Act.put,Z3]
 refine Y4 (i:=16) (v:=?vq63) rfl (by kernel_rfl) (by kernel_rfl) (by kernel_rfl) rfl (fun _ _ _ h=>h) (Or.inl ⟨by rfl,?hq63⟩) (fun _=>h0) ?rq63
 case hq63=>(intro w _;go_simp;try with_reducible rfl)
 try simp only[Act.put,Z3]
 refine Y4 (i:=17) (v:=?vq64) rfl (by kernel_rfl) (by kernel_rfl) (by kernel_rfl) rfl (fun _ _ _ h=>h) (Or.inl ⟨by rfl,?hq64⟩) (fun _=>h0) ?rq64
 case hq64=>(intro w _;go_simp;try with_reducible rfl)
 try simp only[Act.put,Z3]
 refine Y4 (i:=18) (v:=?vq65) rfl (by kernel_rfl) (by kernel_rfl) (by kernel_rfl) rfl (fun _ _ _ h=>h) (Or.inl ⟨by rfl,?hq65⟩) (fun _=>h0) ?rq65
 case hq65=>(intro w _;go_simp;try with_reducible rfl)
 try simp only[Act.put,Z3]
 refine Y4 (i:=19) (v:=?vq66) rfl (by kernel_rfl) (by kernel_rfl) (by kernel_rfl) rfl (fun _ _ _ h=>h) (Or.inl ⟨by rfl,?hq66⟩) (fun _=>h0) ?rq66
 case hq66=>(intro w _;go_simp;try with_reducible rfl)
 try simp only[Act.put,Z3]
 refine Y4 (i:=20) (v:=?vq67) rfl (by kernel_rfl) (by kernel_rfl) (by kernel_rfl) rfl (fun _ _ _ h=>h) (Or.inl ⟨by rfl,?hq67⟩) (fun _=>h0) ?rq67
 case hq67=>(intro w _;go_simp;try with_reducible rfl)
 try simp only[Act.put,Z3]
 refine V6 (i:=21) (v:=?vq68) rfl (by kernel_rfl) (by kernel_rfl) (by kernel_rfl) (by kernel_rfl) (fun j hj=>by simp at hj;subst hj;kernel_rfl) (fun _ _ _ h=>h) (Or.inl ⟨by rfl,?hq68⟩) (by exact h0) ?rq68
 case hq68=>(intro w hSw;(try dsimp only at hSw);obtain⟨s0,s1,s2,s3,s4,s5,s6,s7⟩:=hSw;go_simp;try with_reducible rfl)
 try simp only[Act.put,Z3]
 refine Y4 (i:=22) (v:=?vq69) rfl (by kernel_rfl) (by kernel_rfl) (by kernel_rfl) rfl (fun _ _ _ h=>h) (Or.inl ⟨by rfl,?hq69⟩) (fun _=>h0) ?rq69
 case hq69=>(intro w _;go_simp;try with_reducible rfl)
 try simp only[Act.put,Z3]
 refine Y4 (i:=23) (v:=?vq70) rfl (by kernel_rfl) (by kernel_rfl) (by kernel_rfl) rfl (fun _ _ _ h=>h) (Or.inl ⟨by rfl,?hq70⟩) (fun _=>h0) ?rq70
 case hq70=>(intro w _;go_simp;try with_reducible rfl)
 try simp only[Act.put,Z3]
 refine V7 (rs:=[9]) (by kernel_rfl) (by simp) ?_;intro i hi;simp only[List.mem_cons,List.not_mem_nil,or_false]at hi;subst hi;refine X9 (i:=9) rfl (fun K hK=>?_);go_simp;go_wp2_with (go_at_call 141;refine(hh.out _ (below_drewN (Below.refl _ _) 1)).mono ?_;rintro e w2⟨rfl,bx1⟩;have b2:=Z0 (Z7 (below_drewN (Below.refl _ _) 1) bx1);clear bx1);refine hK.out _ _ (fun _=>(hS.out w2 b2.out)) ?_;clear hK K
 try simp only[Act.put,Z3]
 refine V7 (rs:=[24]) (by kernel_rfl) (by simp) ?_;intro i hi;simp only[List.mem_cons,List.not_mem_nil,or_false]at hi;subst hi;refine X9 (i:=24) rfl (fun K hK=>?_);go_simp;go_wp2_with (go_at_call 174;refine(hcall.out w2 b2.out).mono ?_;rintro e w9⟨rfl,v9,t9,b9⟩;have hA3:=(t9.chg.block _ (Nat.lt_of_lt_of_le hlt.out b2.out.size) hnb.out).trans (hA0.out w2 b2.out);have hB3:=Z0 (((Z7 bb.out b2.out).mono hle.out).trans b9);have hT3:=Z0 ((V8.of_below B S (Z7 bb.out b2.out)).trans t9);have hv3:=Z0 v9;have hn3:=Z0 (t9.fresh hnb.out (Nat.lt_of_lt_of_le hlt.out b2.out.size));have a0:=Z6 hA3 0 (.int .i64 0) rfl;have a1:=Z6 hA3 1 (.int .i64 0) rfl;have z0:=Z9 hA3 0;have z1:=Z9 hA3 1;clear v9 t9 b9);refine hK.out _ _ (fun h=>Bool.noConfusion ((h 24 (by kernel_rfl)).symm.trans (show _=true by kernel_rfl))) ?_;clear hK K
 try simp only[Act.put,Z3]
 refine P6 (by kernel_rfl) ?_ _;go_wp2_with fail;refine bodyPost_ret (v:=.agg #[.int .i64 0,.int .i64 0]) (by simp[results,results118,go_sem,a0,a1,z0,z1]) rfl ?_;have hch:Chg [w.heap.size] w9 _:=((Chg.refl _ _).put (b:=w.heap.size) (by simp) 0 (.int .i64 0)).put (b:=w.heap.size) (by simp) 1 (.int .i64 0);have hx:=zfu hv3.out hT3.out hB3.out hle.out (Nat.le_refl _) hn3.out hch;exact⟨rfl,hx.1,hx.2.1,hx.2.2⟩
end Go.Proofs.YtjjamgeoompbkaaGreat
