import Derived.Test.YtjjamgeoompbkaaGreatTdVNA

set_option maxRecDepth 100000
set_option maxHeartbeats 16000000
set_option linter.all false
namespace Go.Proofs.YtjjamgeoompbkaaGreat
open Go.RowKit
open Go.Proofs.Tryz
theorem vans_5(base B V g0 n0:Nat)(N:DataW Unit)(S:Y9)(D:WD)(k n:Int)(g v:Int)(M H I:Nat)(r:List Int)(kk jj P:Nat)(hGo:M7 D)(hr:D.muts[M]?=some r)(hH:H<6)(hO:ObjA D (r[H]?.getD 0) kk jj P I)(ha:I64 (r[H]?.getD 0))(w:World)(hw:VarW w base B S D)(hV:U6 D w V B g0 n0 N)(hVB:V∉B::blks S.all) :
  Calls prog 118 #[.iface 171 (.agg #[.iface 105 (.pointer (some ⟨V,0,none⟩)),.int .i64 k,.int .i64 (M:Int),.int .i64 (H:Int),.int .i64 g,.int .i64 (I:Int),.int .i64 n,.int .i64 v])] w fun e w'=>e=.returned (.agg #[.int .i64 0,.int .i64 (D.words[P]?.getD 0)])∧Below w.heap.size w w':=by
 have hF:=hGo.form;have hr6:=hF.roots M r hr;have hmm:D.muts.length≤3:=by have:=hF.geo.2.2.2.2.2.2;omega
 have bb:=Z0 (Z7 (Y2 w (.cells #[.int .i64 0,.int .i64 0] 39)) (Y2 (w.alloc (.cells #[.int .i64 0,.int .i64 0] 39)) (.cells (Z4 105 V k (M:Int) (H:Int) g (I:Int) n v) 171)));have ba:=Z0 (Z8 (Y2 (w.alloc (.cells #[.int .i64 0,.int .i64 0] 39)) (.cells (Z4 105 V k (M:Int) (H:Int) g (I:Int) n v) 171)) (Y8 w (.cells #[.int .i64 0,.int .i64 0] 39)));have bx:=Y8 (w.alloc (.cells #[.int .i64 0,.int .i64 0] 39)) (.cells (Z4 105 V k (M:Int) (H:Int) g (I:Int) n v) 171);rw[World.size_alloc]at bx;have hle:=Z0 (Nat.le_of_lt (Nat.lt_of_le_of_lt hw.le hw.lt))
 have hnb:=Z0 (show w.heap.size∉B::blks S.all from fun hm=>by
  rcases List.mem_cons.1 hm with e|hm
  ·have:=hw.lt
   omega
  ·have:=(hw.own.lt _ hm).2
   omega)
 have hlt:=Z0 (show w.heap.size<((w.alloc (.cells #[.int .i64 0,.int .i64 0] 39)).alloc (.cells (Z4 105 V k (M:Int) (H:Int) g (I:Int) n v) 171)).heap.size by simp only[World.size_alloc];omega);have hw1:=hw.below bb.out;have hV1:=hV.below bb.out;have hv1:=Z0 hw1;have hh:=Z0 (fun(w':World) (hb:Below ((w.alloc (.cells #[.int .i64 0,.int .i64 0] 39)).alloc (.cells (Z4 105 V k (M:Int) (H:Int) g (I:Int) n v) 171)).heap.size ((w.alloc (.cells #[.int .i64 0,.int .i64 0] 39)).alloc (.cells (Z4 105 V k (M:Int) (H:Int) g (I:Int) n v) 171)) w')=>zed base B V g0 n0 N S D k g (I:Int) n v M H r hr (by omega) hr6 hmm w' (hw1.below hb) (hV1.below hb));obtain⟨hF2,ho,s,AA,hks,hA,hP,hI⟩:=id hO;have hcall:=Z0 (fun(w':World) (hb:Below ((w.alloc (.cells #[.int .i64 0,.int .i64 0] 39)).alloc (.cells (Z4 105 V k (M:Int) (H:Int) g (I:Int) n v) 171)).heap.size ((w.alloc (.cells #[.int .i64 0,.int .i64 0] 39)).alloc (.cells (Z4 105 V k (M:Int) (H:Int) g (I:Int) n v) 171)) w')=>znb base B V g0 n0 N S D (r[H]?.getD 0) kk jj s hF ho ha hks AA I P hP hA hI w' (hw1.below hb) (hV1.below hb));have hM:=zxh V;have hN:=zxi V;generalize D.words[P]?.getD 0=x at *;generalize r[H]?.getD 0=ad at *;have hS:=Z0 (show ∀w',Below ((w.alloc (.cells #[.int .i64 0,.int .i64 0] 39)).alloc (.cells (Z4 105 V k (M:Int) (H:Int) g (I:Int) n v) 171)).heap.size ((w.alloc (.cells #[.int .i64 0,.int .i64 0] 39)).alloc (.cells (Z4 105 V k (M:Int) (H:Int) g (I:Int) n v) 171)) w'→(fun w'=>w'.cell? ⟨w.heap.size+1,0,none⟩=some (.iface 105 (.pointer (some ⟨V,0,none⟩)))∧w'.cell? ⟨w.heap.size+1,1,none⟩=some (.int .i64 k)∧w'.cell? ⟨w.heap.size+1,2,none⟩=some (.int .i64 (M:Int))∧w'.cell? ⟨w.heap.size+1,3,none⟩=some (.int .i64 (H:Int))∧w'.cell? ⟨w.heap.size+1,4,none⟩=some (.int .i64 g)∧w'.cell? ⟨w.heap.size+1,5,none⟩=some (.int .i64 (I:Int))∧w'.cell? ⟨w.heap.size+1,6,none⟩=some (.int .i64 n)∧w'.cell? ⟨w.heap.size+1,7,none⟩=some (.int .i64 v)) w' from fun w' hb=>⟨Y3 hb (Z6 bx 0 (.iface 105 (.pointer (some ⟨V,0,none⟩))) rfl),Y3 hb (Z6 bx 1 (.int .i64 k) rfl),Y3 hb (Z6 bx 2 (.int .i64 (M:Int)) rfl),Y3 hb (Z6 bx 3 (.int .i64 (H:Int)) rfl),Y3 hb (Z6 bx 4 (.int .i64 g) rfl),Y3 hb (Z6 bx 5 (.int .i64 (I:Int)) rfl),Y3 hb (Z6 bx 6 (.int .i64 n) rfl),Y3 hb (Z6 bx 7 (.int .i64 v) rfl)⟩);have hA0:=Z0 (fun(w':World) (hb:Below ((w.alloc (.cells #[.int .i64 0,.int .i64 0] 39)).alloc (.cells (Z4 105 V k (M:Int) (H:Int) g (I:Int) n v) 171)).heap.size ((w.alloc (.cells #[.int .i64 0,.int .i64 0] 39)).alloc (.cells (Z4 105 V k (M:Int) (H:Int) g (I:Int) n v) 171)) w')=>Z8 hb ba.out);clear hF hr6 hmm hw hV bx hw1 hV1 hVB hGo hr hH hO ha hF2 ho hks hA hP hI;have t1:=ta_5_1;have t2:=ta_5_2;have t3:=ta_5_3;have t4:=ta_5_4;have t5:=ta_5_5;go_enter func118,ntmps118;go_upto_region 16 with fail;clear t1 t2 t3 t4 t5;generalize ((w.alloc (.cells #[.int .i64 0,.int .i64 0] 39)).alloc (.cells (Z4 105 V k (M:Int) (H:Int) g (I:Int) n v) 171))=W at *;have h0:(fun w'=>w'.cell? ⟨w.heap.size+1,0,none⟩=some (.iface 105 (.pointer (some ⟨V,0,none⟩)))∧w'.cell? ⟨w.heap.size+1,1,none⟩=some (.int .i64 k)∧w'.cell? ⟨w.heap.size+1,2,none⟩=some (.int .i64 (M:Int))∧w'.cell? ⟨w.heap.size+1,3,none⟩=some (.int .i64 (H:Int))∧w'.cell? ⟨w.heap.size+1,4,none⟩=some (.int .i64 g)∧w'.cell? ⟨w.heap.size+1,5,none⟩=some (.int .i64 (I:Int))∧w'.cell? ⟨w.heap.size+1,6,none⟩=some (.int .i64 n)∧w'.cell? ⟨w.heap.size+1,7,none⟩=some (.int .i64 v)) W.drew:=hS.out _ (below_drewN (Below.refl _ _) 1);refine N3 (fun w'=>w'.cell? ⟨w.heap.size+1,0,none⟩=some (.iface 105 (.pointer (some ⟨V,0,none⟩)))∧w'.cell? ⟨w.heap.size+1,1,none⟩=some (.int .i64 k)∧w'.cell? ⟨w.heap.size+1,2,none⟩=some (.int .i64 (M:Int))∧w'.cell? ⟨w.heap.size+1,3,none⟩=some (.int .i64 (H:Int))∧w'.cell? ⟨w.heap.size+1,4,none⟩=some (.int .i64 g)∧w'.cell? ⟨w.heap.size+1,5,none⟩=some (.int .i64 (I:Int))∧w'.cell? ⟨w.heap.size+1,6,none⟩=some (.int .i64 n)∧w'.cell? ⟨w.heap.size+1,7,none⟩=some (.int .i64 v)) (fun j=>j == 20) (by kernel_rfl) ?_;refine Y4 (i:=0) (v:=?vq111) rfl (by kernel_rfl) (by kernel_rfl) (by kernel_rfl) rfl (fun _ _ _ h=>h) (Or.inl ⟨by rfl,?hq111⟩) (fun _=>h0) ?rq111
 case hq111=>(intro w _;go_simp;try with_reducible rfl)
 try simp only[Act.put,Z3]
 refine Y4 (i:=1) (v:=?vq112) rfl (by kernel_rfl) (by kernel_rfl) (by kernel_rfl) rfl (fun _ _ _ h=>h) (Or.inl ⟨by rfl,?hq112⟩) (fun _=>h0) ?rq112
 case hq112=>(intro w _;go_simp;try with_reducible rfl)
 try simp only[Act.put,Z3]
 refine Y4 (i:=2) (v:=?vq113) rfl (by kernel_rfl) (by kernel_rfl) (by kernel_rfl) rfl (fun _ _ _ h=>h) (Or.inl ⟨by rfl,?hq113⟩) (fun _=>h0) ?rq113
 case hq113=>(intro w _;go_simp;try with_reducible rfl)
 try simp only[Act.put,Z3]
 refine Y4 (i:=3) (v:=?vq114) rfl (by kernel_rfl) (by kernel_rfl) (by kernel_rfl) rfl (fun _ _ _ h=>h) (Or.inl ⟨by rfl,?hq114⟩) (fun _=>h0) ?rq114
 case hq114=>(intro w _;go_simp;try with_reducible rfl)
 try simp only[Act.put,Z3]
 refine V6 (i:=4) (v:=?vq115) rfl (by kernel_rfl) (by kernel_rfl) (by kernel_rfl) (by kernel_rfl) (fun j hj=>by simp at hj;subst hj;kernel_rfl) (fun _ _ _ h=>h) (Or.inl ⟨by rfl,?hq115⟩) (by exact h0) ?rq115
 case hq115=>(intro w hSw;(try dsimp only at hSw);obtain⟨s0,s1,s2,s3,s4,s5,s6,s7⟩:=hSw;go_simp;try with_reducible rfl)
 try simp only[Act.put,Z3]
 refine Y4 (i:=5) (v:=?vq116) rfl (by kernel_rfl) (by kernel_rfl) (by kernel_rfl) rfl (fun _ _ _ h=>h) (Or.inl ⟨by rfl,?hq116⟩) (fun _=>h0) ?rq116
 case hq116=>(intro w _;go_simp;try with_reducible rfl)
 try simp only[Act.put,Z3]
 refine Y4 (i:=6) (v:=?vq117) rfl (by kernel_rfl) (by kernel_rfl) (by kernel_rfl) rfl (fun _ _ _ h=>h) (Or.inl ⟨by rfl,?hq117⟩) (fun _=>h0) ?rq117
 case hq117=>(intro w _;go_simp;try with_reducible rfl)
 try simp only[Act.put,Z3]
 refine Y4 (i:=7) (v:=?vq118) rfl (by kernel_rfl) (by kernel_rfl) (by kernel_rfl) rfl (fun _ _ _ h=>h) (Or.inl ⟨by rfl,?hq118⟩) (fun _=>h0) ?rq118
 case hq118=>(intro w _;go_simp;try with_reducible rfl)
 try simp only[Act.put,Z3]
 refine V6 (i:=8) (v:=?vq119) rfl (by kernel_rfl) (by kernel_rfl) (by kernel_rfl) (by kernel_rfl) (fun j hj=>by simp at hj;subst hj;kernel_rfl) (fun _ _ _ h=>h) (Or.inl ⟨by rfl,?hq119⟩) (by exact h0) ?rq119
 case hq119=>(intro w hSw;(try dsimp only at hSw);obtain⟨s0,s1,s2,s3,s4,s5,s6,s7⟩:=hSw;go_simp;try with_reducible rfl)
 try simp only[Act.put,Z3]
 refine Y4 (i:=10) (v:=?vq120) rfl (by kernel_rfl) (by kernel_rfl) (by kernel_rfl) rfl (fun _ _ _ h=>h) (Or.inl ⟨by rfl,?hq120⟩) (fun _=>h0) ?rq120
 case hq120=>(intro w _;go_simp;try with_reducible rfl)
 try simp only[Act.put,Z3]
 refine Y4 (i:=11) (v:=?vq121) rfl (by kernel_rfl) (by kernel_rfl) (by kernel_rfl) rfl (fun _ _ _ h=>h) (Or.inl ⟨by rfl,?hq121⟩) (fun _=>h0) ?rq121
 case hq121=>(intro w _;go_simp;try with_reducible rfl)
 try simp only[Act.put,Z3]
 refine Y4 (i:=12) (v:=?vq122) rfl (by kernel_rfl) (by kernel_rfl) (by kernel_rfl) rfl (fun _ _ _ h=>h) (Or.inl ⟨by rfl,?hq122⟩) (fun _=>h0) ?rq122
 case hq122=>(intro w _;go_simp;try with_reducible rfl)
 try simp only[Act.put,Z3]
 refine Y4 (i:=13) (v:=?vq123) rfl (by kernel_rfl) (by kernel_rfl) (by kernel_rfl) rfl (fun _ _ _ h=>h) (Or.inl ⟨by rfl,?hq123⟩) (fun _=>h0) ?rq123
 case hq123=>(intro w _;go_simp;try with_reducible rfl)
 try simp only[Act.put,Z3]
 refine Y4 (i:=14) (v:=?vq124) rfl (by kernel_rfl) (by kernel_rfl) (by kernel_rfl) rfl (fun _ _ _ h=>h) (Or.inl ⟨by rfl,?hq124⟩) (fun _=>h0) ?rq124
 case hq124=>(intro w _;go_simp;try with_reducible rfl)
 try simp only[Act.put,Z3]
 refine V6 (i:=15) (v:=?vq125) rfl (by kernel_rfl) (by kernel_rfl) (by kernel_rfl) (by kernel_rfl) (fun j hj=>by simp at hj;subst hj;kernel_rfl) (fun _ _ _ h=>h) (Or.inl ⟨by rfl,?hq125⟩) (by exact h0) ?rq125
 case hq125=>(intro w hSw;(try dsimp only at hSw);obtain⟨s0,s1,s2,s3,s4,s5,s6,s7⟩:=hSw;go_simp;try with_reducible rfl)
 try simp only[Act.put,Z3]
 refine Y4 (i:=16) (v:=?vq126) rfl (by kernel_rfl) (by kernel_rfl) (by kernel_rfl) rfl (fun _ _ _ h=>h) (Or.inl ⟨by rfl,?hq126⟩) (fun _=>h0) ?rq126
 case hq126=>(intro w _;go_simp;try with_reducible rfl)
 try simp only[Act.put,Z3]
 refine Y4 (i:=17) (v:=?vq127) rfl (by kernel_rfl) (by kernel_rfl) (by kernel_rfl) rfl (fun _ _ _ h=>h) (Or.inl ⟨by rfl,?hq127⟩) (fun _=>h0) ?rq127
 case hq127=>(intro w _;go_simp;try with_reducible rfl)
 try simp only[Act.put,Z3]
 refine V7 (rs:=[9]) (by kernel_rfl) (by simp) ?_;intro i hi;simp only[List.mem_cons,List.not_mem_nil,or_false]at hi;subst hi;refine X9 (i:=9) rfl (fun K hK=>?_);go_simp;go_wp2_with (go_at_call 141;refine(hh.out _ (below_drewN (Below.refl _ _) 1)).mono ?_;rintro e w2⟨rfl,bx1⟩;have b2:=Z0 (Z7 (below_drewN (Below.refl _ _) 1) bx1);clear bx1);refine hK.out _ _ (fun _=>(hS.out w2 b2.out)) ?_;clear hK K
 try simp only[Act.put,Z3]
 refine V7 (rs:=[18]) (by kernel_rfl) (by simp) ?_;intro i hi;simp only[List.mem_cons,List.not_mem_nil,or_false]at hi;subst hi;refine X9 (i:=18) rfl (fun K hK=>?_);go_simp;go_wp2_with (go_at_call 176;refine(hcall.out w2 b2.out).mono ?_;rintro e w3⟨rfl,bx1⟩;have b3:=Z0 (Z7 b2.out bx1);clear bx1;have hA3:=hA0.out w3 b3.out;have B3:=Z0 (Z7 bb.out b3.out);have hv3:=Z0 (hv1.out.below b3.out);have a0:=Z6 hA3 0 (.int .i64 0) rfl;have a1:=Z6 hA3 1 (.int .i64 0) rfl;have z0:=Z9 hA3 0;have z1:=Z9 hA3 1;clear hA3);refine hK.out _ _ (fun _=>(hS.out w3 b3.out)) ?_;clear hK K
 try simp only[Act.put,Z3]
 refine Y4 (i:=19) (v:=?vq130) rfl (by kernel_rfl) (by kernel_rfl) (by kernel_rfl) rfl (fun _ _ _ h=>h) (Or.inl ⟨by rfl,?hq130⟩) (fun _=>(hS.out w3 b3.out)) ?rq130
 case hq130=>(intro w _;go_simp;try with_reducible rfl)
 try simp only[Act.put,Z3]
 refine V7 (rs:=[20]) (by kernel_rfl) (by simp) ?_;intro i hi;simp only[List.mem_cons,List.not_mem_nil,or_false]at hi;subst hi;refine X9 (i:=20) rfl (fun K hK=>?_);go_simp;refine hK.out _ _ (fun h=>Bool.noConfusion ((h 20 (by kernel_rfl)).symm.trans (show _=true by kernel_rfl))) ?_;clear hK K
 try simp only[Act.put,Z3]
 refine P6 (by kernel_rfl) ?_ _;go_wp2_with fail;refine bodyPost_ret (v:=.agg #[.int .i64 0,.int .i64 x]) (by simp[results,results118,go_sem,a0,a1,z0,z1]) rfl ?_;have hch:Chg [w.heap.size] w3 _:=((Chg.refl _ _).put (b:=w.heap.size) (by simp) 0 (.int .i64 0)).put (b:=w.heap.size) (by simp) 1 (.int .i64 x);exact⟨rfl,Chg.below B3.out hch B3.out.size (by simp)⟩
end Go.Proofs.YtjjamgeoompbkaaGreat

namespace Go.Proofs.YtjjamgeoompbkaaGreat
open Go.RowKit
open Go.Maps (Keyed)
open Go.Proofs.Tryz
theorem zzk(base B V g0 n0:Nat)(N:DataW Unit)(S:Y9)(D:WD)(k i n v:Int)(M H G:Nat)(r:List Int)(hF:Y5 D)(hr:D.muts[M]?=some r)(hH:H<6)(hG:G<6)(w:World)(hw:VarW w base B S D)(hV:U6 D w V B g0 n0 N) :
  Calls prog 143 #[.agg #[.iface 105 (.pointer (some ⟨V,0,none⟩)),.int .i64 k,.int .i64 (M:Int),.int .i64 (H:Int),.int .i64 (G:Int),.int .i64 i,.int .i64 n,.int .i64 v]] w fun e w'=>e=.returned (.agg #[.int .i64 0,.int .i64 (if r[H]?.getD 0=r[G]?.getD 0 then 1 else 0)])∧Below w.heap.size w w':=by
 have hr6:=hF.roots M r hr;have hmm:D.muts.length≤3:=by have:=hF.geo.2.2.2.2.2.2;omega
 have bb:=Z0 (Z7 (Y2 w (.cells (Z4 105 V k (M:Int) (H:Int) (G:Int) i n v) 175)) (Y2 (w.alloc (.cells (Z4 105 V k (M:Int) (H:Int) (G:Int) i n v) 175)) (.cells #[.int .i64 0,.int .i64 0] 39)));have bx:=Z8 (Y2 (w.alloc (.cells (Z4 105 V k (M:Int) (H:Int) (G:Int) i n v) 175)) (.cells #[.int .i64 0,.int .i64 0] 39)) (Y8 w (.cells (Z4 105 V k (M:Int) (H:Int) (G:Int) i n v) 175));have ba:=Y8 (w.alloc (.cells (Z4 105 V k (M:Int) (H:Int) (G:Int) i n v) 175)) (.cells #[.int .i64 0,.int .i64 0] 39);rw[World.size_alloc]at ba;have hw1:=Z0 (hw.below bb.out);have hV1:=Z0 (hV.below bb.out);obtain⟨gm,cm,gr,cr,R2⟩:=hw1.out.rootAt hr (show G<r.length by omega);have hc1:=Z0 (fun x':Ext ((w.alloc (.cells (Z4 105 V k (M:Int) (H:Int) (G:Int) i n v) 175)).alloc (.cells #[.int .i64 0,.int .i64 0] 39))=>zed base B V g0 n0 N S D k (G:Int) i n v M H r hr (by omega) hr6 hmm x'.val (hw1.out.below x'.below) (hV1.out.below x'.below));have hc2:=Z0 (fun x':Ext ((w.alloc (.cells (Z4 105 V k (M:Int) (H:Int) (G:Int) i n v) 175)).alloc (.cells #[.int .i64 0,.int .i64 0] 39))=>zfe base B V g0 n0 N S D k (M:Int) (H:Int) (G:Int) i n v M G gm cm gr cr r rfl (by omega) hr6 hmm x'.val (hw1.out.below x'.below) (hV1.out.below x'.below) (R2.below x'.below));have XG:=Ext.cell R2.xr;have Q0:=Ext.cell (Z6 bx 0 (.iface 105 (.pointer (some ⟨V,0,none⟩))) rfl);have Q1:=Ext.cell (Z6 bx 1 (.int .i64 k) rfl);have Q2:=Ext.cell (Z6 bx 2 (.int .i64 (M:Int)) rfl);have Q3:=Ext.cell (Z6 bx 3 (.int .i64 (H:Int)) rfl);have Q4:=Ext.cell (Z6 bx 4 (.int .i64 (G:Int)) rfl);have Q5:=Ext.cell (Z6 bx 5 (.int .i64 i) rfl);have Q6:=Ext.cell (Z6 bx 6 (.int .i64 n) rfl);have Q7:=Ext.cell (Z6 bx 7 (.int .i64 v) rfl);have hA:=Z0 (fun(w':World) (hb:Below ((w.alloc (.cells (Z4 105 V k (M:Int) (H:Int) (G:Int) i n v) 175)).alloc (.cells #[.int .i64 0,.int .i64 0] 39)).heap.size ((w.alloc (.cells (Z4 105 V k (M:Int) (H:Int) (G:Int) i n v) 175)).alloc (.cells #[.int .i64 0,.int .i64 0] 39)) w')=>Z8 hb ba);clear hF hr hH hG hw hV hr6 hmm bx ba R2 hw1 hV1;generalize r[H]?.getD 0=a at *;generalize r[G]?.getD 0=b at *
 by_cases hab:a=b
 ·have d1:(a == b)=true:=beq_iff_eq.2 hab
  rw[if_pos hab];clear hab;go_enter func143,ntmps143;go_upto_region 1 with fail;generalize ((w.alloc (.cells (Z4 105 V k (M:Int) (H:Int) (G:Int) i n v) 175)).alloc (.cells #[.int .i64 0,.int .i64 0] 39))=W at *;refine Y6 (Below.refl _ _) (by kernel_rfl) (by kernel_rfl) ?_
  repeat (go_big_quiet_step ((first|(go_at_call 141;with_reducible exact Ext.call (hc1.out _))|(go_at_call 142;with_reducible exact Ext.call (hc2.out _)))))
  refine wpQuiet_nil ?_;intro _ hw';obtain⟨x9,hw''⟩:=hw';subst hw'';have hA9:=hA.out _ x9.below;have B9:=Z0 (Z7 bb.out x9.below);generalize x9.val=w3 at *;have a0:=Z6 hA9 0 (.int .i64 0) rfl;have a1:=Z6 hA9 1 (.int .i64 0) rfl;have z0:=Z9 hA9 0;have z1:=Z9 hA9 1;go_wp2_with fail;refine bodyPost_ret (v:=.agg #[.int .i64 0,.int .i64 1]) (by simp[results,results143,go_sem,a0,a1,z0,z1]) rfl ?_;have hch:Chg [w.heap.size+1] w3 _:=((Chg.refl _ _).put (b:=w.heap.size+1) (by simp) 0 (.int .i64 0)).put (b:=w.heap.size+1) (by simp) 1 (.int .i64 1);exact⟨rfl,Chg.below B9.out hch B9.out.size (by simp)⟩
 ·have d1:(a == b)=false:=beq_eq_false_iff_ne.2 hab
  rw[if_neg hab];clear hab;go_enter func143,ntmps143;go_upto_region 1 with fail;generalize ((w.alloc (.cells (Z4 105 V k (M:Int) (H:Int) (G:Int) i n v) 175)).alloc (.cells #[.int .i64 0,.int .i64 0] 39))=W at *;refine Y6 (Below.refl _ _) (by kernel_rfl) (by kernel_rfl) ?_
  repeat (go_big_quiet_step ((first|(go_at_call 141;with_reducible exact Ext.call (hc1.out _))|(go_at_call 142;with_reducible exact Ext.call (hc2.out _)))))
  refine wpQuiet_nil ?_;intro _ hw';obtain⟨x9,hw''⟩:=hw';subst hw'';have hA9:=hA.out _ x9.below;have B9:=Z0 (Z7 bb.out x9.below);generalize x9.val=w3 at *;have a0:=Z6 hA9 0 (.int .i64 0) rfl;have a1:=Z6 hA9 1 (.int .i64 0) rfl;have z0:=Z9 hA9 0;have z1:=Z9 hA9 1;go_wp2_with fail;refine bodyPost_ret (v:=.agg #[.int .i64 0,.int .i64 0]) (by simp[results,results143,go_sem,a0,a1,z0,z1]) rfl ?_;have hch:Chg [w.heap.size+1] w3 _:=((Chg.refl _ _).put (b:=w.heap.size+1) (by simp) 0 (.int .i64 0)).put (b:=w.heap.size+1) (by simp) 1 (.int .i64 0);exact⟨rfl,Chg.below B9.out hch B9.out.size (by simp)⟩
theorem ians_7(base B V g0 n0:Nat)(N:DataW Unit)(S:Y9)(D:WD)(k i n v:Int)(M H G:Nat)(r:List Int)(hF:Y5 D)(hr:D.muts[M]?=some r)(hH:H<6)(hG:G<6)(w:World)(hw:VarW w base B S D)(hV:U6 D w V B g0 n0 N) :
  Calls prog 118 #[.iface 175 (.agg #[.iface 105 (.pointer (some ⟨V,0,none⟩)),.int .i64 k,.int .i64 (M:Int),.int .i64 (H:Int),.int .i64 (G:Int),.int .i64 i,.int .i64 n,.int .i64 v])] w fun e w'=>e=.returned (.agg #[.int .i64 0,.int .i64 (if r[H]?.getD 0=r[G]?.getD 0 then 1 else 0)])∧Below w.heap.size w w':=by
 have bb:=Z0 (Z7 (Y2 w (.cells #[.int .i64 0,.int .i64 0] 39)) (Y2 (w.alloc (.cells #[.int .i64 0,.int .i64 0] 39)) (.cells (Z4 105 V k (M:Int) (H:Int) (G:Int) i n v) 175)));have ba:=Z0 (Z8 (Y2 (w.alloc (.cells #[.int .i64 0,.int .i64 0] 39)) (.cells (Z4 105 V k (M:Int) (H:Int) (G:Int) i n v) 175)) (Y8 w (.cells #[.int .i64 0,.int .i64 0] 39)));have hcall:=Z0 (fun(w':World) (hb:Below w.heap.size w w')=>zzk base B V g0 n0 N S D k i n v M H G r hF hr hH hG w' (hw.below hb) (hV.below hb));clear hF hr hH hG hw hV;generalize (if r[H]?.getD 0=r[G]?.getD 0 then(1:Int) else 0)=x at *;have t1:=ta_7_1;have t2:=ta_7_2;have t3:=ta_7_3;have t4:=ta_7_4;have t5:=ta_7_5;have t6:=ta_7_6;have t7:=ta_7_7;go_enter func118,ntmps118;go_wp2_with (go_at_call 143;refine(hcall.out _ bb.out).mono ?_;rintro e w3⟨rfl,b3⟩;have hA3:=Z8 b3 ba.out;have B3:=Z0 (Z7 bb.out b3);have a0:=Z6 hA3 0 (.int .i64 0) rfl;have a1:=Z6 hA3 1 (.int .i64 0) rfl;have z0:=Z9 hA3 0;have z1:=Z9 hA3 1);refine bodyPost_ret (v:=.agg #[.int .i64 0,.int .i64 x]) (by simp[results,results118,go_sem,a0,a1,z0,z1]) rfl ?_;have hch:Chg [w.heap.size] w3 _:=((Chg.refl _ _).put (b:=w.heap.size) (by simp) 0 (.int .i64 0)).put (b:=w.heap.size) (by simp) 1 (.int .i64 x);exact⟨rfl,Chg.below B3.out hch B3.out.size (by simp)⟩
end Go.Proofs.YtjjamgeoompbkaaGreat

namespace Go.Proofs.YtjjamgeoompbkaaGreat
open Go.RowKit
open Go.Proofs.Tryz
theorem vans_8(base B V g0 n0:Nat)(N:DataW Unit)(S:Y9)(D:WD)(k n:Int)(i v:Int)(M H G:Nat)(r:List Int)(hGo:M7 D)(hr:D.muts[M]?=some r)(hH:H<6)(hG:G<6)(w:World)(hw:VarW w base B S D)(hV:U6 D w V B g0 n0 N)(hVB:V∉B::blks S.all) :
  Calls prog 118 #[.iface 176 (.agg #[.iface 105 (.pointer (some ⟨V,0,none⟩)),.int .i64 k,.int .i64 (M:Int),.int .i64 (H:Int),.int .i64 (G:Int),.int .i64 i,.int .i64 n,.int .i64 v])] w fun e w'=>e=.returned (.agg #[.int .i64 0,.int .i64 0])∧VarW w' base B S (N0 D (M:Int) (G:Int) (r[H]?.getD 0))∧V8 w w' B S S∧Below base w w':=by
 have hF:=hGo.form;have hr6:=hF.roots M r hr;have hmm:D.muts.length≤3:=by have:=hF.geo.2.2.2.2.2.2;omega
 have bb:=Z0 (Z7 (Y2 w (.cells #[.int .i64 0,.int .i64 0] 39)) (Y2 (w.alloc (.cells #[.int .i64 0,.int .i64 0] 39)) (.cells (Z4 105 V k (M:Int) (H:Int) (G:Int) i n v) 176)));have ba:=Z0 (Z8 (Y2 (w.alloc (.cells #[.int .i64 0,.int .i64 0] 39)) (.cells (Z4 105 V k (M:Int) (H:Int) (G:Int) i n v) 176)) (Y8 w (.cells #[.int .i64 0,.int .i64 0] 39)));have bx:=Y8 (w.alloc (.cells #[.int .i64 0,.int .i64 0] 39)) (.cells (Z4 105 V k (M:Int) (H:Int) (G:Int) i n v) 176);rw[World.size_alloc]at bx;have hle:=Z0 (Nat.le_of_lt (Nat.lt_of_le_of_lt hw.le hw.lt))
 have hnb:=Z0 (show w.heap.size∉B::blks S.all from fun hm=>by
  rcases List.mem_cons.1 hm with e|hm
  ·have:=hw.lt
   omega
  ·have:=(hw.own.lt _ hm).2
   omega)
 have hlt:=Z0 (show w.heap.size<((w.alloc (.cells #[.int .i64 0,.int .i64 0] 39)).alloc (.cells (Z4 105 V k (M:Int) (H:Int) (G:Int) i n v) 176)).heap.size by simp only[World.size_alloc];omega);have hw1:=hw.below bb.out;have hV1:=hV.below bb.out;have hv1:=Z0 hw1;have hh:=Z0 (fun(w':World) (hb:Below ((w.alloc (.cells #[.int .i64 0,.int .i64 0] 39)).alloc (.cells (Z4 105 V k (M:Int) (H:Int) (G:Int) i n v) 176)).heap.size ((w.alloc (.cells #[.int .i64 0,.int .i64 0] 39)).alloc (.cells (Z4 105 V k (M:Int) (H:Int) (G:Int) i n v) 176)) w')=>zed base B V g0 n0 N S D k (G:Int) i n v M H r hr (by omega) hr6 hmm w' (hw1.below hb) (hV1.below hb));obtain⟨gm,cm,gr,cr,R⟩:=hw1.rootAt hr (show G<r.length by omega);have hR2:=Z0 R;have hrn:=Z0 (show gr∈blks S.all from zfm R.mv);have hmv:=Z0 R.mv;have hr':=Z0 hr;have hg1:¬gr=w.heap.size:=fun e=>hnb.out (by rw[←e];exact List.mem_cons_of_mem _ hrn.out);have hg2:¬w.heap.size=gr:=fun e=>hg1 e.symm;have hc1:=Z0 (fun(w':World) (hb:Below ((w.alloc (.cells #[.int .i64 0,.int .i64 0] 39)).alloc (.cells (Z4 105 V k (M:Int) (H:Int) (G:Int) i n v) 176)).heap.size ((w.alloc (.cells #[.int .i64 0,.int .i64 0] 39)).alloc (.cells (Z4 105 V k (M:Int) (H:Int) (G:Int) i n v) 176)) w')=>zfe base B V g0 n0 N S D k (M:Int) (H:Int) (G:Int) i n v M G gm cm gr cr r rfl (by omega) hr6 hmm w' (hw1.below hb) (hV1.below hb) (R.below hb));generalize r[H]?.getD 0=x at *;have hS:=Z0 (show ∀w',Below ((w.alloc (.cells #[.int .i64 0,.int .i64 0] 39)).alloc (.cells (Z4 105 V k (M:Int) (H:Int) (G:Int) i n v) 176)).heap.size ((w.alloc (.cells #[.int .i64 0,.int .i64 0] 39)).alloc (.cells (Z4 105 V k (M:Int) (H:Int) (G:Int) i n v) 176)) w'→(fun w'=>w'.cell? ⟨w.heap.size+1,0,none⟩=some (.iface 105 (.pointer (some ⟨V,0,none⟩)))∧w'.cell? ⟨w.heap.size+1,1,none⟩=some (.int .i64 k)∧w'.cell? ⟨w.heap.size+1,2,none⟩=some (.int .i64 (M:Int))∧w'.cell? ⟨w.heap.size+1,3,none⟩=some (.int .i64 (H:Int))∧w'.cell? ⟨w.heap.size+1,4,none⟩=some (.int .i64 (G:Int))∧w'.cell? ⟨w.heap.size+1,5,none⟩=some (.int .i64 i)∧w'.cell? ⟨w.heap.size+1,6,none⟩=some (.int .i64 n)∧w'.cell? ⟨w.heap.size+1,7,none⟩=some (.int .i64 v)) w' from fun w' hb=>⟨Y3 hb (Z6 bx 0 (.iface 105 (.pointer (some ⟨V,0,none⟩))) rfl),Y3 hb (Z6 bx 1 (.int .i64 k) rfl),Y3 hb (Z6 bx 2 (.int .i64 (M:Int)) rfl),Y3 hb (Z6 bx 3 (.int .i64 (H:Int)) rfl),Y3 hb (Z6 bx 4 (.int .i64 (G:Int)) rfl),Y3 hb (Z6 bx 5 (.int .i64 i) rfl),Y3 hb (Z6 bx 6 (.int .i64 n) rfl),Y3 hb (Z6 bx 7 (.int .i64 v) rfl)⟩);have hA0:=Z0 (fun(w':World) (hb:Below ((w.alloc (.cells #[.int .i64 0,.int .i64 0] 39)).alloc (.cells (Z4 105 V k (M:Int) (H:Int) (G:Int) i n v) 176)).heap.size ((w.alloc (.cells #[.int .i64 0,.int .i64 0] 39)).alloc (.cells (Z4 105 V k (M:Int) (H:Int) (G:Int) i n v) 176)) w')=>Z8 hb ba.out);clear hF hr6 hmm hw hV bx hw1 hV1 hVB hGo hr hH hG R;have t1:=ta_8_1;have t2:=ta_8_2;have t3:=ta_8_3;have t4:=ta_8_4;have t5:=ta_8_5;have t6:=ta_8_6;have t7:=ta_8_7;have t8:=ta_8_8;go_enter func118,ntmps118;go_upto_region 25 with fail;clear t1 t2 t3 t4 t5 t6 t7 t8;generalize ((w.alloc (.cells #[.int .i64 0,.int .i64 0] 39)).alloc (.cells (Z4 105 V k (M:Int) (H:Int) (G:Int) i n v) 176))=W at *;have h0:(fun w'=>w'.cell? ⟨w.heap.size+1,0,none⟩=some (.iface 105 (.pointer (some ⟨V,0,none⟩)))∧w'.cell? ⟨w.heap.size+1,1,none⟩=some (.int .i64 k)∧w'.cell? ⟨w.heap.size+1,2,none⟩=some (.int .i64 (M:Int))∧w'.cell? ⟨w.heap.size+1,3,none⟩=some (.int .i64 (H:Int))∧w'.cell? ⟨w.heap.size+1,4,none⟩=some (.int .i64 (G:Int))∧w'.cell? ⟨w.heap.size+1,5,none⟩=some (.int .i64 i)∧w'.cell? ⟨w.heap.size+1,6,none⟩=some (.int .i64 n)∧w'.cell? ⟨w.heap.size+1,7,none⟩=some (.int .i64 v)) W.drew:=hS.out _ (below_drewN (Below.refl _ _) 1);refine N3 (fun w'=>w'.cell? ⟨w.heap.size+1,0,none⟩=some (.iface 105 (.pointer (some ⟨V,0,none⟩)))∧w'.cell? ⟨w.heap.size+1,1,none⟩=some (.int .i64 k)∧w'.cell? ⟨w.heap.size+1,2,none⟩=some (.int .i64 (M:Int))∧w'.cell? ⟨w.heap.size+1,3,none⟩=some (.int .i64 (H:Int))∧w'.cell? ⟨w.heap.size+1,4,none⟩=some (.int .i64 (G:Int))∧w'.cell? ⟨w.heap.size+1,5,none⟩=some (.int .i64 i)∧w'.cell? ⟨w.heap.size+1,6,none⟩=some (.int .i64 n)∧w'.cell? ⟨w.heap.size+1,7,none⟩=some (.int .i64 v)) (fun j=>j == 14) (by kernel_rfl) ?_;refine Y4 (i:=0) (v:=?vq33) rfl (by kernel_rfl) (by kernel_rfl) (by kernel_rfl) rfl (fun _ _ _ h=>h) (Or.inl ⟨by rfl,?hq33⟩) (fun _=>h0) ?rq33
 case hq33=>(intro w _;go_simp;try with_reducible rfl)
 try simp only[Act.put,Z3]
 refine Y4 (i:=1) (v:=?vq34) rfl (by kernel_rfl) (by kernel_rfl) (by kernel_rfl) rfl (fun _ _ _ h=>h) (Or.inl ⟨by rfl,?hq34⟩) (fun _=>h0) ?rq34
 case hq34=>(intro w _;go_simp;try with_reducible rfl)
 try simp only[Act.put,Z3]
 refine V6 (i:=2) (v:=?vq35) rfl (by kernel_rfl) (by kernel_rfl) (by kernel_rfl) (by kernel_rfl) (fun j hj=>by simp at hj;subst hj;kernel_rfl) (fun _ _ _ h=>h) (Or.inl ⟨by rfl,?hq35⟩) (by exact h0) ?rq35
 case hq35=>(intro w hSw;(try dsimp only at hSw);obtain⟨s0,s1,s2,s3,s4,s5,s6,s7⟩:=hSw;go_simp;try with_reducible rfl)
 try simp only[Act.put,Z3]
 refine Y4 (i:=3) (v:=?vq36) rfl (by kernel_rfl) (by kernel_rfl) (by kernel_rfl) rfl (fun _ _ _ h=>h) (Or.inl ⟨by rfl,?hq36⟩) (fun _=>h0) ?rq36
 case hq36=>(intro w _;go_simp;try with_reducible rfl)
 try simp only[Act.put,Z3]
 refine Y4 (i:=4) (v:=?vq37) rfl (by kernel_rfl) (by kernel_rfl) (by kernel_rfl) rfl (fun _ _ _ h=>h) (Or.inl ⟨by rfl,?hq37⟩) (fun _=>h0) ?rq37
 case hq37=>(intro w _;go_simp;try with_reducible rfl)
 try simp only[Act.put,Z3]
 refine Y4 (i:=5) (v:=?vq38) rfl (by kernel_rfl) (by kernel_rfl) (by kernel_rfl) rfl (fun _ _ _ h=>h) (Or.inl ⟨by rfl,?hq38⟩) (fun _=>h0) ?rq38
 case hq38=>(intro w _;go_simp;try with_reducible rfl)
 try simp only[Act.put,Z3]
 refine Y4 (i:=6) (v:=?vq39) rfl (by kernel_rfl) (by kernel_rfl) (by kernel_rfl) rfl (fun _ _ _ h=>h) (Or.inl ⟨by rfl,?hq39⟩) (fun _=>h0) ?rq39
 case hq39=>(intro w _;go_simp;try with_reducible rfl)
 try simp only[Act.put,Z3]
 refine V6 (i:=7) (v:=?vq40) rfl (by kernel_rfl) (by kernel_rfl) (by kernel_rfl) (by kernel_rfl) (fun j hj=>by simp at hj;subst hj;kernel_rfl) (fun _ _ _ h=>h) (Or.inl ⟨by rfl,?hq40⟩) (by exact h0) ?rq40
 case hq40=>(intro w hSw;(try dsimp only at hSw);obtain⟨s0,s1,s2,s3,s4,s5,s6,s7⟩:=hSw;go_simp;try with_reducible rfl)
 try simp only[Act.put,Z3]
 refine Y4 (i:=9) (v:=?vq41) rfl (by kernel_rfl) (by kernel_rfl) (by kernel_rfl) rfl (fun _ _ _ h=>h) (Or.inl ⟨by rfl,?hq41⟩) (fun _=>h0) ?rq41
 case hq41=>(intro w _;go_simp;try with_reducible rfl)
 try simp only[Act.put,Z3]
 refine Y4 (i:=10) (v:=?vq42) rfl (by kernel_rfl) (by kernel_rfl) (by kernel_rfl) rfl (fun _ _ _ h=>h) (Or.inl ⟨by rfl,?hq42⟩) (fun _=>h0) ?rq42
 case hq42=>(intro w _;go_simp;try with_reducible rfl)
 try simp only[Act.put,Z3]
 refine V6 (i:=11) (v:=?vq43) rfl (by kernel_rfl) (by kernel_rfl) (by kernel_rfl) (by kernel_rfl) (fun j hj=>by simp at hj;subst hj;kernel_rfl) (fun _ _ _ h=>h) (Or.inl ⟨by rfl,?hq43⟩) (by exact h0) ?rq43
 case hq43=>(intro w hSw;(try dsimp only at hSw);obtain⟨s0,s1,s2,s3,s4,s5,s6,s7⟩:=hSw;go_simp;try with_reducible rfl)
 try simp only[Act.put,Z3]
 refine V7 (rs:=[8]) (by kernel_rfl) (by simp) ?_;intro i hi;simp only[List.mem_cons,List.not_mem_nil,or_false]at hi;subst hi;refine X9 (i:=8) rfl (fun K hK=>?_);go_simp;go_wp2_with (go_at_call 142;refine(hc1.out _ (below_drewN (Below.refl _ _) 1)).mono ?_;rintro e w2⟨rfl,bx1⟩;have b2:=Z0 (Z7 (below_drewN (Below.refl _ _) 1) bx1);clear bx1);refine hK.out _ _ (fun _=>(hS.out w2 b2.out)) ?_;clear hK K
 try simp only[Act.put,Z3]
 refine V7 (rs:=[12]) (by kernel_rfl) (by simp) ?_;intro i hi;simp only[List.mem_cons,List.not_mem_nil,or_false]at hi;subst hi;refine X9 (i:=12) rfl (fun K hK=>?_);go_simp;go_wp2_with (go_at_call 141;refine(hh.out w2 b2.out).mono ?_;rintro e w3⟨rfl,bx1⟩;have b3:=Z0 (Z7 b2.out bx1);clear bx1;have R3:=hR2.out.below b3.out;have xr:=R3.xr;have fr:=R3.frz;clear R3;have hA3:=hA0.out w3 b3.out;have B3:=Z0 (Z7 bb.out b3.out);have hv3:=Z0 (hv1.out.below b3.out);have a0:=Z6 hA3 0 (.int .i64 0) rfl;have a1:=Z6 hA3 1 (.int .i64 0) rfl;have z0:=Z9 hA3 0;have z1:=Z9 hA3 1;clear hA3);refine hK.out _ _ (fun _=>(hS.out w3 b3.out)) ?_;clear hK K
 try simp only[Act.put,Z3]
 refine Y4 (i:=13) (v:=?vq46) rfl (by kernel_rfl) (by kernel_rfl) (by kernel_rfl) rfl (fun _ _ _ h=>h) (Or.inl ⟨by rfl,?hq46⟩) (fun _=>(hS.out w3 b3.out)) ?rq46
 case hq46=>(intro w _;go_simp;try with_reducible rfl)
 try simp only[Act.put,Z3]
 refine V7 (rs:=[14]) (by kernel_rfl) (by simp) ?_;intro i hi;simp only[List.mem_cons,List.not_mem_nil,or_false]at hi;subst hi;refine X9 (i:=14) rfl (fun K hK=>?_);go_simp;refine hK.out _ _ (fun h=>Bool.noConfusion ((h 14 (by kernel_rfl)).symm.trans (show _=true by kernel_rfl))) ?_;clear hK K
 try simp only[Act.put,Z3]
 refine P6 (by kernel_rfl) ?_ _;have vr:=hv3.out.root M G r _ x hr'.out hmv.out rfl;have hvE:=Z0 (show VarW _ base B S (N0 D (M:Int) (G:Int) x)from by rw[J2 hr'.out];exact vr.1);have hBE:=Z0 ((B3.out.mono hle.out).trans vr.2);have hTE:=Z0 ((V8.of_below B S B3.out).own_set hrn.out G (.int .i64 x));clear vr;go_wp2_with fail;refine bodyPost_ret (v:=.agg #[.int .i64 0,.int .i64 0]) (by simp[results,results118,go_sem,a0,a1,z0,z1,hg1,hg2]) rfl ?_;have hch:Chg [w.heap.size] (w3.setCell ⟨gr,G,none⟩ (.int .i64 x)) _:=((Chg.refl _ _).put (b:=w.heap.size) (by simp) 0 (.int .i64 0)).put (b:=w.heap.size) (by simp) 1 (.int .i64 0);have hx:=zfu hvE.out hTE.out hBE.out hle.out (Nat.le_refl _) hnb.out hch;exact⟨rfl,hx.1,hx.2.1,hx.2.2⟩
theorem ians_9(base B V g0 n0:Nat)(N:DataW Unit)(S:Y9)(D:WD)(k g i n v:Int)(M H:Nat)(r:List Int)(kk jj:Nat)(s:Y7)(hF:Y5 D)(hr:D.muts[M]?=some r)(hH:H<6)(ho:R6 D (r[H]?.getD 0) kk jj)(ha:I64 (r[H]?.getD 0))(hks:D.spans[kk]?=some s)(w:World)(hw:VarW w base B S D)(hV:U6 D w V B g0 n0 N) :
  Calls prog 118 #[.iface 177 (.agg #[.iface 105 (.pointer (some ⟨V,0,none⟩)),.int .i64 k,.int .i64 (M:Int),.int .i64 (H:Int),.int .i64 g,.int .i64 i,.int .i64 n,.int .i64 v])] w fun e w'=>e=.returned (.agg #[.int .i64 0,.int .i64 (s.lens[jj]?.getD 0)])∧Below w.heap.size w w':=by
 have bb:=Z0 (Z7 (Y2 w (.cells #[.int .i64 0,.int .i64 0] 39)) (Y2 (w.alloc (.cells #[.int .i64 0,.int .i64 0] 39)) (.cells (Z4 105 V k (M:Int) (H:Int) g i n v) 177)));have ba:=Z0 (Z8 (Y2 (w.alloc (.cells #[.int .i64 0,.int .i64 0] 39)) (.cells (Z4 105 V k (M:Int) (H:Int) g i n v) 177)) (Y8 w (.cells #[.int .i64 0,.int .i64 0] 39)));have hr6:=hF.roots M r hr;have hmm:D.muts.length≤3:=by have:=hF.geo.2.2.2.2.2.2;omega
 have hh:=Z0 (fun x':Ext ((w.alloc (.cells #[.int .i64 0,.int .i64 0] 39)).alloc (.cells (Z4 105 V k (M:Int) (H:Int) g i n v) 177))=>zed base B V g0 n0 N S D k g i n v M H r hr (by omega) hr6 hmm x'.val ((hw.below bb.out).below x'.below) ((hV.below bb.out).below x'.below));have hz:=Z0 (fun x':Ext ((w.alloc (.cells #[.int .i64 0,.int .i64 0] 39)).alloc (.cells (Z4 105 V k (M:Int) (H:Int) g i n v) 177))=>zlg base B V g0 n0 N S D (r[H]?.getD 0) kk jj s hF ho ha hks x'.val ((hw.below bb.out).below x'.below) ((hV.below bb.out).below x'.below));have hM:=zpd V;have bx:=Y8 (w.alloc (.cells #[.int .i64 0,.int .i64 0] 39)) (.cells (Z4 105 V k (M:Int) (H:Int) g i n v) 177);rw[World.size_alloc]at bx;have Q0:=Ext.cell (Z6 bx 0 (.iface 105 (.pointer (some ⟨V,0,none⟩))) rfl);have Q1:=Ext.cell (Z6 bx 1 (.int .i64 k) rfl);have Q2:=Ext.cell (Z6 bx 2 (.int .i64 (M:Int)) rfl);have Q3:=Ext.cell (Z6 bx 3 (.int .i64 (H:Int)) rfl);have Q4:=Ext.cell (Z6 bx 4 (.int .i64 g) rfl);have Q5:=Ext.cell (Z6 bx 5 (.int .i64 i) rfl);have Q6:=Ext.cell (Z6 bx 6 (.int .i64 n) rfl);have Q7:=Ext.cell (Z6 bx 7 (.int .i64 v) rfl);clear hF hr hH ho ha hks hw hV hr6 hmm bx;generalize s.lens[jj]?.getD 0=x at *;generalize s.ptrs[jj]?.getD 0=sp at *;generalize r[H]?.getD 0=ad at *;have t1:=ta_9_1;have t2:=ta_9_2;have t3:=ta_9_3;have t4:=ta_9_4;have t5:=ta_9_5;have t6:=ta_9_6;have t7:=ta_9_7;have t8:=ta_9_8;have t9:=ta_9_9;go_enter func118,ntmps118;go_upto_region 28 with fail;clear t1 t2 t3 t4 t5 t6 t7 t8 t9;generalize ((w.alloc (.cells #[.int .i64 0,.int .i64 0] 39)).alloc (.cells (Z4 105 V k (M:Int) (H:Int) g i n v) 177))=W at *;refine Y6 (Below.refl _ _) (by kernel_rfl) (by kernel_rfl) ?_
 repeat (go_big_quiet_step ((first|(go_at_call 141;with_reducible exact Ext.call (hh.out _))|(go_at_call 175;with_reducible exact Ext.call (hz.out _)))))
 refine wpQuiet_nil ?_;intro _ hw';obtain⟨x9,hw''⟩:=hw';subst hw'';have hA3:=Z8 x9.below ba.out;have B3:=Z0 (Z7 bb.out x9.below);generalize x9.val=w3 at *;have a0:=Z6 hA3 0 (.int .i64 0) rfl;have a1:=Z6 hA3 1 (.int .i64 0) rfl;have z0:=Z9 hA3 0;have z1:=Z9 hA3 1;go_wp2_with fail;refine bodyPost_ret (v:=.agg #[.int .i64 0,.int .i64 x]) (by simp[results,results118,go_sem,a0,a1,z0,z1]) rfl ?_;have hch:Chg [w.heap.size] w3 _:=((Chg.refl _ _).put (b:=w.heap.size) (by simp) 0 (.int .i64 0)).put (b:=w.heap.size) (by simp) 1 (.int .i64 x);exact⟨rfl,Chg.below B3.out hch B3.out.size (by simp)⟩
end Go.Proofs.YtjjamgeoompbkaaGreat
