import Derived.Test.YtilkidaihbhfpaaGreatTrBent
import Derived.Test.YtilkidaihbhfpaaGreatTrDRW
import Derived.Test.YtilkidaihbhfpaaGreatTrW
import Derived.Test.YtilkidaihbhfpaaGreatTrPR

set_option maxRecDepth 100000
set_option maxHeartbeats 16000000
namespace Go.Proofs.YtilkidaihbhfpaaGreat
open Go.RowKit
set_option linter.unusedVariables false
set_option linter.unusedSimpArgs false
def zzp (w':World) (v:Value) (D:WD):Prop:=zht D∧CapW v∧CapG v∧RdW w' v D
theorem zmw (a:Option Addr) (len cap:Nat) (w:World) (hb:zls w a len) (ha:0<len→∀ x,a=some x→x.block<w.heap.size) :
  Calls Tryz.prog 23 #[.slice a len cap] w fun e w'=>∃ v D,zzp w' v D∧e=.returned v∧Below w.heap.size w w':=by
 have hs:=zaa (show w.heap.size<(w.alloc (.cells #[.int .i64 0,.int .i64 0,.slice none 0 0,.slice none 0 0,.slice none 0 0,.slice none 0 0,.int .i64 0,.int .i64 0,.slice none 0 0] 30)).heap.size by simp)
 have bW:=zaa (Z5 w (.cells #[.int .i64 0,.int .i64 0,.slice none 0 0,.slice none 0 0,.slice none 0 0,.slice none 0 0,.int .i64 0,.int .i64 0,.slice none 0 0] 30))
 have hnew:=zaa (zwi a len cap (w.alloc (.cells #[.int .i64 0,.int .i64 0,.slice none 0 0,.slice none 0 0,.slice none 0 0,.slice none 0 0,.int .i64 0,.int .i64 0,.slice none 0 0] 30)) (hb.below ha (Z5 w (.cells #[.int .i64 0,.int .i64 0,.slice none 0 0,.slice none 0 0,.slice none 0 0,.slice none 0 0,.int .i64 0,.int .i64 0,.slice none 0 0] 30))) (fun h x e=>Nat.lt_of_lt_of_le (ha h x e) (Z5 w (.cells #[.int .i64 0,.int .i64 0,.slice none 0 0,.slice none 0 0,.slice none 0 0,.slice none 0 0,.int .i64 0,.int .i64 0,.slice none 0 0] 30)).size))
 have r0:=zaa (Y7 w (.cells #[.int .i64 0,.int .i64 0,.slice none 0 0,.slice none 0 0,.slice none 0 0,.slice none 0 0,.int .i64 0,.int .i64 0,.slice none 0 0] 30))
 have hlow:=zaa ha
 clear hb ha
 go_enter Tryz.func23,Tryz.ntmps23
 go_upto_region 1 with fail
 generalize w.alloc (.cells #[.int .i64 0,.int .i64 0,.slice none 0 0,.slice none 0 0,.slice none 0 0,.slice none 0 0,.int .i64 0,.int .i64 0,.slice none 0 0] 30)=W at *
 go_wp2_with fail
 refine hnew.out.mono ?_
 rintro e w1 ⟨B,rfl,b1,h0⟩
 have h1:At w1 w.heap.size B a len:=⟨h0.bytes,h0.cur,Nat.le_trans (Nat.le_of_lt hs.out) h0.le,hlow.out⟩
 have hB:=zaa (show W.heap.size≤B from h0.le)
 have p1:=zaa (zxd h1)
 have r1:=zaa (Z7 b1 r0.out)
 have bb1:=zaa (bW.out.trans (b1.mono (Nat.le_of_lt hs.out)))
 have hBl:=zaa h1.lt
 clear b1 h1 h0 hnew r0
 go_wp2_with fail
 refine p1.out.mono ?_
 rintro e w2 ⟨v,D,hbD,hcw,hcg,rfl,hrd,gg,a2⟩
 have h2:=zaa a2
 have r2:=zaa (Q7 gg r1.out (by have:=hB.out;have:=hs.out;omega))
 have bb2:=zaa (show Below w.heap.size w w2 from bb1.out.trans ((Below.refl _ _).grown gg (by have:=bb1.out.size;omega) (fun k e=>by cases e;have:=hB.out;have:=hs.out;omega)))
 have hR:=zaa (show w.heap.size<w1.heap.size from (Array.getElem?_eq_some_iff.1 r1.out).1)
 obtain ⟨aw,ad,aS,am,ag,cw,cd,cS,cm,cg,rfl⟩:=(hrd [] w2 (fun _ h=>absurd h (by simp)) (Chg.refl _ _)).written
 unfold zpb at *
 have hrd':=zaa hrd
 have hD:=zaa (show zht D∧CapW (.agg #[.int .i64 D.base,.int .i64 D.pages,.slice aw D.words.length cw,.slice ad D.dirty.length cd,.slice aS D.spans.length cS,.slice am D.muts.length cm,.int .i64 D.phase,.int .i64 D.next,.slice ag D.grey.length cg])∧CapG (.agg #[.int .i64 D.base,.int .i64 D.pages,.slice aw D.words.length cw,.slice ad D.dirty.length cd,.slice aS D.spans.length cS,.slice am D.muts.length cm,.int .i64 D.phase,.int .i64 D.next,.slice ag D.grey.length cg]) from ⟨hbD,hcw,hcg⟩)
 have gz:=zaa gg.size
 clear hbD hcw hcg hrd gg a2 p1 r1
 obtain ⟨n0,z0,n1,z1,n2,z2,n3,z3,n4,z4,n5,z5,n6,z6,n7,z7,n8,z8⟩:=zho r2.out
 go_wp2_with fail
 refine bodyPost_ret (v:=.agg #[.int .i64 D.base,.int .i64 D.pages,.slice aw D.words.length cw,.slice ad D.dirty.length cd,.slice aS D.spans.length cS,.slice am D.muts.length cm,.int .i64 D.phase,.int .i64 D.next,.slice ag D.grey.length cg]) (by simp [results,Tryz.results23,go_sem,n0,n1,n2,n3,n4,n5,n6,n7,n8,z0,z1,z2,z3,z4,z5,z6,z7,z8]) rfl ?_
 exact ⟨_,D,⟨hD.out.1,hD.out.2.1,hD.out.2.2,hrd'.out [w.heap.size] _ (fun q hq=>by rw [List.mem_singleton.1 hq];exact hR.out) ((((((((((Chg.refl [w.heap.size] _).put (b:=w.heap.size) (by simp) 0 _).put (b:=w.heap.size) (by simp) 1 _).put (b:=w.heap.size) (by simp) 2 _).put (b:=w.heap.size) (by simp) 3 _).put (b:=w.heap.size) (by simp) 4 _).put (b:=w.heap.size) (by simp) 5 _).put (b:=w.heap.size) (by simp) 6 _).put (b:=w.heap.size) (by simp) 7 _).put (b:=w.heap.size) (by simp) 8 _)⟩,rfl,Chg.below bb2.out ((((((((((Chg.refl [w.heap.size] _).put (b:=w.heap.size) (by simp) 0 _).put (b:=w.heap.size) (by simp) 1 _).put (b:=w.heap.size) (by simp) 2 _).put (b:=w.heap.size) (by simp) 3 _).put (b:=w.heap.size) (by simp) 4 _).put (b:=w.heap.size) (by simp) 5 _).put (b:=w.heap.size) (by simp) 6 _).put (b:=w.heap.size) (by simp) 7 _).put (b:=w.heap.size) (by simp) 8 _) bb2.out.size (fun q hq=>by rw [List.mem_singleton.1 hq];exact Nat.le_refl _)⟩
theorem Chg.low {bs:List Nat} {w w' w'':World} (h:Chg bs w w') (b:Below w.heap.size w' w''):Chg bs w w'' :=
 ⟨b.os.trans h.os,b.tape.trans h.tape,b.output.trans h.output,Nat.le_trans h.size b.size,fun i hi hn=>(b.block i hi).trans (h.block i hi hn)⟩
theorem Chg.more {bs cs:List Nat} {w w':World} (h:Chg bs w w') (hs:∀ x,x ∈ bs→x ∈ cs:=by simp):Chg cs w w' :=
 ⟨h.os,h.tape,h.output,h.size,fun i hi hn=>h.block i hi fun hm=>hn (hs i hm)⟩
structure RcSt (n₀ B:Nat) (a:Option Addr) (len:Nat) (W wr:World) (u:Value) (L:List Int):Prop where
 at_:At wr n₀ B a len
 chg:Chg [B] W wr
 row:wr.ownsRow W.heap.size 3 1 u L.length (L.map (Value.int .i64))
 ints:AllI L
theorem RcSt.some {n₀ B len:Nat} {a:Option Addr} {W wr w':World} {u:Value} {L:List Int} (h:RcSt n₀ B a len W wr u L) (hB:B<W.heap.size) (g:wr.grownBy w' (some B)) (ha:At w' n₀ B a len):RcSt n₀ B a len W w' u L :=
 ⟨ha,h.chg.trans (Chg.of_grown g (by simp)),X4 h.row (Chg.of_grown g (bs:=[B]) (by simp)) (fun k hk hm=>by have:=(h.row.lt k hk).1;have:=List.mem_singleton.1 hm;omega),h.ints⟩
theorem RcSt.app {n₀ B len:Nat} {a:Option Addr} {W wr w':World} {u u':Value} {L:List Int} {x:Int} (h:RcSt n₀ B a len W wr u L) (hB:B<W.heap.size) (hx:I64 x)
  (ho:w'.ownsRow W.heap.size 3 1 u' (L.length+1) (L.map (Value.int .i64) ++ [.int .i64 x])) (hg:(wr.alloc (.cells #[.int .i64 x] 3)).grownBy w' u.ownBlock):RcSt n₀ B a len W w' u' (L ++ [x]):=by
 have b1:Below W.heap.size wr (wr.alloc (.cells #[.int .i64 x] 3)):=(Z5 wr _).mono h.chg.size
 have b2:Below W.heap.size wr w':=P9 b1 (h.row.alloc _) hg (Nat.le_trans h.chg.size (Z5 wr _).size)
 refine ⟨h.at_.low_base b2 hB,h.chg.low b2,by simpa using ho,fun y hy=>?_⟩
 rcases List.mem_append.1 hy with hy | hy
 ·exact h.ints y hy
 ·rw [List.mem_singleton.1 hy];exact hx
theorem zoq (a:Option Addr) (len cap:Nat) (w:World) (hb:zls w a len) (ha:0<len→∀ x,a=some x→x.block<w.heap.size) :
  Calls Tryz.prog 7 #[.slice a len cap] w fun e w'=>∃ v D af cf L,zzp w' v D∧AllI L∧L.length≤3∧Rd w' (.slice af L.length cf) L∧e=.returned (.tuple #[v,.slice af L.length cf])∧Below w.heap.size w w':=by
 obtain ⟨i0,hinf,hz0,hz1,hz2⟩:=info_parts zwo
 have hs:=zaa (show w.heap.size<(w.alloc (.cells #[.int .i64 0,.int .i64 0,.slice none 0 0,.slice none 0 0,.slice none 0 0,.slice none 0 0,.int .i64 0,.int .i64 0,.slice none 0 0] 30)).heap.size by simp)
 have bW:=zaa (Z5 w (.cells #[.int .i64 0,.int .i64 0,.slice none 0 0,.slice none 0 0,.slice none 0 0,.slice none 0 0,.int .i64 0,.int .i64 0,.slice none 0 0] 30))
 have hnew:=zaa (zwi a len cap (w.alloc (.cells #[.int .i64 0,.int .i64 0,.slice none 0 0,.slice none 0 0,.slice none 0 0,.slice none 0 0,.int .i64 0,.int .i64 0,.slice none 0 0] 30)) (hb.below ha (Z5 w (.cells #[.int .i64 0,.int .i64 0,.slice none 0 0,.slice none 0 0,.slice none 0 0,.slice none 0 0,.int .i64 0,.int .i64 0,.slice none 0 0] 30))) (fun h x e=>Nat.lt_of_lt_of_le (ha h x e) (Z5 w (.cells #[.int .i64 0,.int .i64 0,.slice none 0 0,.slice none 0 0,.slice none 0 0,.slice none 0 0,.int .i64 0,.int .i64 0,.slice none 0 0] 30)).size))
 have r0:=zaa (Y7 w (.cells #[.int .i64 0,.int .i64 0,.slice none 0 0,.slice none 0 0,.slice none 0 0,.slice none 0 0,.int .i64 0,.int .i64 0,.slice none 0 0] 30))
 have hlow:=zaa ha
 clear hb ha
 go_enter Tryz.func7,Tryz.ntmps7
 go_upto_region 1 with fail
 generalize w.alloc (.cells #[.int .i64 0,.int .i64 0,.slice none 0 0,.slice none 0 0,.slice none 0 0,.slice none 0 0,.int .i64 0,.int .i64 0,.slice none 0 0] 30)=W at *
 go_wp2_with fail
 refine hnew.out.mono ?_
 rintro e w1 ⟨B,rfl,b1,h0⟩
 have h1:At w1 w.heap.size B a len:=⟨h0.bytes,h0.cur,Nat.le_trans (Nat.le_of_lt hs.out) h0.le,hlow.out⟩
 have hB:=zaa (show W.heap.size≤B from h0.le)
 have p1:=zaa (zxd h1)
 have r1:=zaa (Z7 b1 r0.out)
 have bb1:=zaa (bW.out.trans (b1.mono (Nat.le_of_lt hs.out)))
 have hBl:=zaa h1.lt
 clear b1 h1 h0 hnew r0
 go_wp2_with fail
 refine p1.out.mono ?_
 rintro e w2 ⟨v,D,hbD,hcw,hcg,rfl,hrd,gg,a2⟩
 have r2:=zaa (Q7 gg r1.out (by have:=hB.out;have:=hs.out;omega))
 have bb2:=zaa (show Below w.heap.size w w2 from bb1.out.trans ((Below.refl _ _).grown gg (by have:=bb1.out.size;omega) (fun k e=>by cases e;have:=hB.out;have:=hs.out;omega)))
 obtain ⟨aw,ad,aS,am,ag,cw,cd,cS,cm,cg,rfl⟩:=(hrd [] w2 (fun _ h=>absurd h (by simp)) (Chg.refl _ _)).written
 unfold zpb at *
 have hrd':=zaa hrd
 have hD:=zaa (show zht D∧CapW (.agg #[.int .i64 D.base,.int .i64 D.pages,.slice aw D.words.length cw,.slice ad D.dirty.length cd,.slice aS D.spans.length cS,.slice am D.muts.length cm,.int .i64 D.phase,.int .i64 D.next,.slice ag D.grey.length cg])∧CapG (.agg #[.int .i64 D.base,.int .i64 D.pages,.slice aw D.words.length cw,.slice ad D.dirty.length cd,.slice aS D.spans.length cS,.slice am D.muts.length cm,.int .i64 D.phase,.int .i64 D.next,.slice ag D.grey.length cg]) from ⟨hbD,hcw,hcg⟩)
 have gz:=zaa gg.size
 have bx:=zaa (Z5 w2 (.cells #[.int .i64 D.base,.int .i64 D.pages,.slice aw D.words.length cw,.slice ad D.dirty.length cd,.slice aS D.spans.length cS,.slice am D.muts.length cm,.int .i64 D.phase,.int .i64 D.next,.slice ag D.grey.length cg] 30))
 have h3:=zaa (a2.kept bx.out)
 have r3:=zaa (Z7 bx.out r2.out)
 have v3:=zaa (Y7 w2 (.cells #[.int .i64 D.base,.int .i64 D.pages,.slice aw D.words.length cw,.slice ad D.dirty.length cd,.slice aS D.spans.length cS,.slice am D.muts.length cm,.int .i64 D.phase,.int .i64 D.next,.slice ag D.grey.length cg] 30))
 have c23:=zaa (Chg.of_below bx.out [])
 have bb3:=zaa (Z3 bb2.out bx.out)
 have hV:=zaa (show B<w2.heap.size from Nat.lt_of_lt_of_le hBl.out gz.out)
 have hV3:=zaa (show w2.heap.size<(w2.alloc (.cells #[.int .i64 D.base,.int .i64 D.pages,.slice aw D.words.length cw,.slice ad D.dirty.length cd,.slice aS D.spans.length cS,.slice am D.muts.length cm,.int .i64 D.phase,.int .i64 D.next,.slice ag D.grey.length cg] 30)).heap.size by simp)
 clear hbD hcw hcg hrd gg a2 p1 r1 bx bb1 bb2 r2
 go_upto_region 3 with fail
 generalize w2.alloc (.cells #[.int .i64 D.base,.int .i64 D.pages,.slice aw D.words.length cw,.slice ad D.dirty.length cd,.slice aS D.spans.length cS,.slice am D.muts.length cm,.int .i64 D.phase,.int .i64 D.next,.slice ag D.grey.length cg] 30)=W3 at *
 go_wp2_with fail
 refine (F5 h3.out 4 (by omega)).mono ?_
 rintro e w4 ⟨x,rfl,hx0,hx1,g4,a4⟩
 obtain ⟨x,rfl⟩:=Int.eq_ofNat_of_zero_le hx0
 have hx3:x≤3:=by omega
 have st0:=zaa (show RcSt w.heap.size B a len W3 w4 (.slice none 0 0) [] from ⟨a4,Chg.of_grown g4 (by simp),World.ownsRow_nil _ _ _ _,fun y hy=>by simp at hy⟩)
 have hBW:=zaa (show B<W3.heap.size by have:=hV.out;have:=hV3.out;omega)
 clear g4 a4 hx0 hx1
 go_wp2_with fail
 go_loopw [6,7] (fun u i wr=>∃ (k:Nat) (L:List Int),i=.int .i64 k∧L.length+k≤3∧Hid (RcSt w.heap.size B a len W3 wr u L)) (fun u i _=>(Go.RowKit.intOf i).toNat)
 case atStart=>exact ⟨x,[],rfl,by simpa using hx3,st0⟩
 case round =>
  obtain ⟨k,L,rfl,hk,st⟩:=hrel
  by_cases hk0:0<k
  ·have vr:=zaa ((st.out.chg.block _ hV3.out (fun hm=>by have:=List.mem_singleton.1 hm;have:=hV.out;omega)).trans v3.out)
   have dk:decide ((k:Int) > 0)=true:=decide_eq_true (by omega)
   obtain ⟨f0,f1,f2,f3,f4,f5,f6,f7,f8⟩:=N1 vr.out
   have hcall:=zaa (zva st.out.at_ (.agg #[.int .i64 D.base,.int .i64 D.pages,.slice aw D.words.length cw,.slice ad D.dirty.length cd,.slice aS D.spans.length cS,.slice am D.muts.length cm,.int .i64 D.phase,.int .i64 D.next,.slice ag D.grey.length cg]) D hD.out.1.fit.base (fun w' g=>hrd'.out [B] w' (fun q hq=>by rw [List.mem_singleton.1 hq];exact hBl.out) ((Chg.more c23.out).trans (st.out.chg.trans (Chg.of_grown g (by simp))))))
   go_wp2_with fail
   refine hcall.out.mono ?_
   rintro e w5 ⟨y,rfl,hy,g5,a5⟩
   have st5:=zaa (st.out.some hBW.out g5 a5)
   have hy':=zaa hy
   have hrow:=st5.out.row
   have hsz5:=st5.out.chg.size
   clear hcall g5 a5 hy vr
   clear f0 f1 f2 f3 f4 f5 f6 f7 f8
   go_wp2_with (at_builtin;refine wpList_append_own _ rfl _ _ 23 rfl W3.heap.size 3 i0 (.int .i64 0) 1 8 Tryz.underlying23 hinf hz0 hz1 hz2 rfl (by decide) _ _ _ rfl (hrow.alloc _) ⟨w5.heap.size,0,none⟩ 1 1 [.int .i64 y] rfl rfl (F3 _ _ _) (by simp [Value.oneCell']) (by unfold maxLen;omega) (by omega) (by simp;omega) ?_;intro u' w6 hown' hgrow _)
   have st6:=zaa (st5.out.app hBW.out hy'.out hown' hgrow)
   clear hrow hown' hgrow hsz5 st5 st
   go_wp2
   go_roundw
   case rel=>exact ⟨k-1,L ++ [y],by go_num,by simp;omega,st6⟩
   case measure=>simp [Go.RowKit.intOf];omega
  ·obtain rfl:k=0:=by omega
   obtain ⟨af,cf,rfl⟩:=Y4 st.out.row
   have vr:=zaa ((st.out.chg.block _ hV3.out (fun hm=>by have:=List.mem_singleton.1 hm;have:=hV.out;omega)).trans v3.out)
   have rr:=zaa ((st.out.chg.block _ (Array.getElem?_eq_some_iff.1 r3.out).1 (fun hm=>by have:=List.mem_singleton.1 hm;have:=hB.out;have:=hs.out;omega)).trans r3.out)
   obtain ⟨f0,f1,f2,f3,f4,f5,f6,f7,f8⟩:=N1 vr.out
   obtain ⟨n0,z0,n1,z1,n2,z2,n3,z3,n4,z4,n5,z5,n6,z6,n7,z7,n8,z8⟩:=zho rr.out
   have hne:¬ (w2.heap.size=w.heap.size):=by have:=hV.out;have:=hB.out;have:=hs.out;omega
   have hne':¬ (w.heap.size=w2.heap.size):=fun e=>hne e.symm
   go_wp2_with fail
   refine bodyPost_ret (v:=.tuple #[.agg #[.int .i64 D.base,.int .i64 D.pages,.slice aw D.words.length cw,.slice ad D.dirty.length cd,.slice aS D.spans.length cS,.slice am D.muts.length cm,.int .i64 D.phase,.int .i64 D.next,.slice ag D.grey.length cg],.slice af L.length cf]) (by simp [results,Tryz.results7,go_sem,n0,n1,n2,n3,n4,n5,n6,n7,n8,z0,z1,z2,z3,z4,z5,z6,z7,z8]) rfl ?_
   have rf:=znn wr w.heap.size 30 (.int .i64 0) (.int .i64 0) (.slice none 0 0) (.slice none 0 0) (.slice none 0 0) (.slice none 0 0) (.int .i64 0) (.int .i64 0) (.slice none 0 0) (.int .i64 D.base) (.int .i64 D.pages) (.slice aw D.words.length cw) (.slice ad D.dirty.length cd) (.slice aS D.spans.length cS) (.slice am D.muts.length cm) (.int .i64 D.phase) (.int .i64 D.next) (.slice ag D.grey.length cg) rr.out
   have hcR:=hrd'.out [B,w.heap.size] _ (fun q hq=>by
    rcases List.mem_cons.1 hq with rfl | hq
    ·exact hBl.out
    ·rw [List.mem_singleton.1 hq];have:=hB.out;have:=hs.out;have:=hBl.out;omega) (((Chg.more c23.out).trans (Chg.more st.out.chg)).trans (Chg.more rf.2))
   have hbl:=zaa (show Below w.heap.size w wr from Chg.below bb3.out st.out.chg bb3.out.size (fun q hq=>by rw [List.mem_singleton.1 hq];have:=hB.out;have:=hs.out;omega))
   exact ⟨_,D,af,cf,L,⟨hD.out.1,hD.out.2.1,hD.out.2.2,hcR⟩,st.out.ints,by omega,Rd.of_owns (X4 st.out.row rf.2 (fun q hq hm=>by have:=(st.out.row.lt q hq).1;have:=List.mem_singleton.1 hm;have:=hV.out;have:=hV3.out;have:=hB.out;have:=hs.out;omega)),rfl,Chg.below hbl.out rf.2 hbl.out.size (fun q hq=>by rw [List.mem_singleton.1 hq];exact Nat.le_refl _)⟩
end Go.Proofs.YtilkidaihbhfpaaGreat
