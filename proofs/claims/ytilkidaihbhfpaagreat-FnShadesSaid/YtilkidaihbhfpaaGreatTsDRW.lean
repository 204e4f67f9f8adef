import Derived.Test.YtilkidaihbhfpaaGreatTsDraw
import Derived.Test.YtilkidaihbhfpaaGreatTsDoD
import Derived.Deep.DeepCutAuto
import Derived.Deep.CutBlock
import Derived.Test.YtilkidaihbhfpaaGreatTsDO
import Derived.Test.YtilkidaihbhfpaaGreatTsH
import Derived.Test.YtilkidaihbhfpaaGreatTsRR
import Derived.Test.YtilkidaihbhfpaaGreatTsSTake2
import Derived.Test.YtilkidaihbhfpaaGreatTsF2
import Derived.Test.YtilkidaihbhfpaaGreatTsCaps

set_option maxRecDepth 100000
set_option maxHeartbeats 16000000
namespace Go.Proofs.YtilkidaihbhfpaaGreat
open Go.RowKit
set_option linter.unusedVariables false
set_option linter.unusedSimpArgs false
theorem rd_block {w:World} {g:Nat} {t:TypeId} {L:List Int} (h:w.heap[g]?=some (.cells (L.map (Value.int .i64)).toArray t (0,0))) (hL:L.length≤1000):Rd w (.slice (some ⟨g,0,none⟩) L.length L.length) L:=by
 refine ⟨_,_,rfl,by unfold maxLen;omega,fun j hj=>⟨_,_,rfl,?_⟩⟩
 rw [Nat.zero_add]
 exact Z0 h j _ (by simp [hj])
theorem R9 {w w':World} {B g:Nat} {o:Obj} (h:w.grownBy w' (some B)) (hg:w.heap[g]?=some o) (hne:g≠B):w'.heap[g]?=some o :=
 (h.block g (Array.getElem?_eq_some_iff.1 hg).1 (fun e=>hne (by simpa using e))).trans hg
theorem znj {w:World} {n₀ B len:Nat} {a:Option Addr} (h:At w n₀ B a len) (g:Nat) (t:TypeId) (L:List Int) (hL:1≤L.length∧L.length≤1000) (hg:w.heap[g]?=some (.cells (L.map (Value.int .i64)).toArray t (0,0))) (hne:g≠B) :
  Calls Tryz.prog 72 #[.pointer (some ⟨B,0,none⟩),.slice (some ⟨g,0,none⟩) L.length L.length] w fun e w'=>∃ x:Int,e=.returned (.int .i64 x)∧x ∈ L∧w.grownBy w' (some B)∧At w' n₀ B a len :=
 zvp h _ L hL.1 fun w' hw=>rd_block (R9 hw hg hne) hL.2
theorem N4 {w w' w'':World} {row:Option Nat} (h:w.grownBy w' row) (b:Below w'.heap.size w' w''):w.grownBy w'' row :=
 ⟨b.os.trans h.os,b.tape.trans h.tape,b.output.trans h.output,Nat.le_trans h.size b.size,fun i hi hn=>(b.block i (Nat.lt_of_lt_of_le hi h.size)).trans (h.block i hi hn)⟩
theorem zep {w w' w'':World} {row:Option Nat} {R:Nat} (h:w.grownBy w' row) (c:Chg [R] w' w'') (hR:w.heap.size≤R):w.grownBy w'' row :=
 ⟨c.os.trans h.os,c.tape.trans h.tape,c.output.trans h.output,Nat.le_trans h.size c.size,fun i hi hn=>(c.block i (Nat.lt_of_lt_of_le hi h.size) (fun hm=>by rw [List.mem_singleton.1 hm] at hi;omega)).trans (h.block i hi hn)⟩
theorem At.chg {w w':World} {n₀ B len R:Nat} {a:Option Addr} (h:At w n₀ B a len) (c:Chg [R] w w') (hR:n₀≤R) (hne:R≠B):At w' n₀ B a len:=by
 obtain ⟨cap,i,q,hh,hi⟩:=h.cur
 have b:Below n₀ w w':=⟨c.os,c.tape,c.output,c.size,fun j hj=>by
  rcases Nat.lt_or_ge j w.heap.size with hl | hl
  ·exact c.block j hl fun hm=>by rw [List.mem_singleton.1 hm] at hj;omega
  ·have:=h.lt
   have:=h.le
   omega⟩
 exact ⟨h.bytes.below h.low b,⟨cap,i,q,(c.block B h.lt fun hm=>hne (List.mem_singleton.1 hm).symm).trans hh,hi⟩,h.le,h.low⟩
structure OpIn (w w':World) (n₀ B:Nat) (a:Option Addr) (len R Q:Nat) (k m h g i n v:Int):Prop where
 at_:At w' n₀ B a len
 grow:w.grownBy w' (some B)
 res:w'.heap[R]?=some (.cells #[.int .i64 0,.int .i64 0,.int .i64 0,.int .i64 0,.int .i64 0,.int .i64 0,.int .i64 0] 118 (0,0))
 box:w'.heap[Q]?=some (.cells #[.int .i64 k,.int .i64 m,.int .i64 h,.int .i64 g,.int .i64 i,.int .i64 n,.int .i64 v] 118 (0,0))
 low:w.heap.size≤R
 lowQ:w.heap.size≤Q
 ne:Q≠R
 nB:B<w.heap.size
 fit:FitO ⟨k,m,h,g,i,n,v⟩
section
variable {w W:World} {n₀ B len R Q:Nat} {a:Option Addr} {k m h g i n v:Int}
theorem OpIn.moved {w':World} (st:OpIn w W n₀ B a len R Q k m h g i n v) (hg:W.grownBy w' (some B)) (ha:At w' n₀ B a len):OpIn w w' n₀ B a len R Q k m h g i n v :=
 ⟨ha,P0 st.grow hg,R9 hg st.res (by have:=st.low;have:=st.nB;omega),R9 hg st.box (by have:=st.lowQ;have:=st.nB;omega),st.low,st.lowQ,st.ne,st.nB,st.fit⟩
theorem OpIn.ext {w':World} (st:OpIn w W n₀ B a len R Q k m h g i n v) (b:Below W.heap.size W w'):OpIn w w' n₀ B a len R Q k m h g i n v :=
 ⟨st.at_.kept b,N4 st.grow b,Z6 b st.res,Z6 b st.box,st.low,st.lowQ,st.ne,st.nB,st.fit⟩
theorem OpIn.pick (st:OpIn w W n₀ B a len R Q k m h g i n v) (t:TypeId) (L:List Int) (hL:1≤L.length∧L.length≤1000) :
  Calls Tryz.prog 72 #[.pointer (some ⟨B,0,none⟩),.slice (some ⟨W.heap.size,0,none⟩) L.length L.length] (W.alloc (.cells (L.map (Value.int .i64)).toArray t)) fun e w'=>∃ x:Int,e=.returned (.int .i64 x)∧x ∈ L∧OpIn w w' n₀ B a len R Q k m h g i n v :=
 (znj (st.ext (Z5 W (.cells (L.map (Value.int .i64)).toArray t))).at_ W.heap.size t L hL (Y6 W _) (by have:=st.at_.lt;omega)).mono fun e w' ⟨x,he,hx,hg,ha⟩=>⟨x,he,hx,(st.ext (Z5 W _)).moved hg ha⟩
theorem OpIn.below (st:OpIn w W n₀ B a len R Q k m h g i n v) (N:Int) (hN:1≤N) :
  Calls Tryz.prog 31 #[.pointer (some ⟨B,0,none⟩),.int .i64 N] W fun e w'=>∃ x:Int,e=.returned (.int .i64 x)∧0≤x∧x<N∧OpIn w w' n₀ B a len R Q k m h g i n v :=
 (zer st.at_ N hN).mono fun e w' ⟨x,he,h0,h1,hg,ha⟩=>⟨x,he,h0,h1,st.moved hg ha⟩
theorem OpIn.set0 (st:OpIn w W n₀ B a len R Q k m h g i n v) (x:Int) (hx:I64 x):OpIn w (W.setCell ⟨Q,0,none⟩ (.int .i64 x)) n₀ B a len R Q x m h g i n v:=by
 have c:=Chg.put (Chg.refl [Q] W) (b:=Q) (by simp) 0 (.int .i64 x)
 have:=st.lowQ
 have:=st.nB
 have:=st.at_.le
 refine ⟨st.at_.chg c (by omega) (by omega),zep st.grow c (by omega),(c.block R (Array.getElem?_eq_some_iff.1 st.res).1 fun hm=>st.ne (List.mem_singleton.1 hm).symm).trans st.res,?_,st.low,st.lowQ,st.ne,st.nB,?_⟩
 ·rw [heap_setCell_same W Q 0 _ _ _ st.box];rfl
 ·obtain ⟨f0,f1,f2,f3,f4,f5,f6⟩:=st.fit
  constructor <;> assumption
theorem OpIn.set1 (st:OpIn w W n₀ B a len R Q k m h g i n v) (x:Int) (hx:I64 x):OpIn w (W.setCell ⟨Q,1,none⟩ (.int .i64 x)) n₀ B a len R Q k x h g i n v:=by
 have c:=Chg.put (Chg.refl [Q] W) (b:=Q) (by simp) 1 (.int .i64 x)
 have:=st.lowQ
 have:=st.nB
 have:=st.at_.le
 refine ⟨st.at_.chg c (by omega) (by omega),zep st.grow c (by omega),(c.block R (Array.getElem?_eq_some_iff.1 st.res).1 fun hm=>st.ne (List.mem_singleton.1 hm).symm).trans st.res,?_,st.low,st.lowQ,st.ne,st.nB,?_⟩
 ·rw [heap_setCell_same W Q 1 _ _ _ st.box];rfl
 ·obtain ⟨f0,f1,f2,f3,f4,f5,f6⟩:=st.fit
  constructor <;> assumption
theorem OpIn.set2 (st:OpIn w W n₀ B a len R Q k m h g i n v) (x:Int) (hx:I64 x):OpIn w (W.setCell ⟨Q,2,none⟩ (.int .i64 x)) n₀ B a len R Q k m x g i n v:=by
 have c:=Chg.put (Chg.refl [Q] W) (b:=Q) (by simp) 2 (.int .i64 x)
 have:=st.lowQ
 have:=st.nB
 have:=st.at_.le
 refine ⟨st.at_.chg c (by omega) (by omega),zep st.grow c (by omega),(c.block R (Array.getElem?_eq_some_iff.1 st.res).1 fun hm=>st.ne (List.mem_singleton.1 hm).symm).trans st.res,?_,st.low,st.lowQ,st.ne,st.nB,?_⟩
 ·rw [heap_setCell_same W Q 2 _ _ _ st.box];rfl
 ·obtain ⟨f0,f1,f2,f3,f4,f5,f6⟩:=st.fit
  constructor <;> assumption
theorem OpIn.set3 (st:OpIn w W n₀ B a len R Q k m h g i n v) (x:Int) (hx:I64 x):OpIn w (W.setCell ⟨Q,3,none⟩ (.int .i64 x)) n₀ B a len R Q k m h x i n v:=by
 have c:=Chg.put (Chg.refl [Q] W) (b:=Q) (by simp) 3 (.int .i64 x)
 have:=st.lowQ
 have:=st.nB
 have:=st.at_.le
 refine ⟨st.at_.chg c (by omega) (by omega),zep st.grow c (by omega),(c.block R (Array.getElem?_eq_some_iff.1 st.res).1 fun hm=>st.ne (List.mem_singleton.1 hm).symm).trans st.res,?_,st.low,st.lowQ,st.ne,st.nB,?_⟩
 ·rw [heap_setCell_same W Q 3 _ _ _ st.box];rfl
 ·obtain ⟨f0,f1,f2,f3,f4,f5,f6⟩:=st.fit
  constructor <;> assumption
theorem OpIn.set4 (st:OpIn w W n₀ B a len R Q k m h g i n v) (x:Int) (hx:I64 x):OpIn w (W.setCell ⟨Q,4,none⟩ (.int .i64 x)) n₀ B a len R Q k m h g x n v:=by
 have c:=Chg.put (Chg.refl [Q] W) (b:=Q) (by simp) 4 (.int .i64 x)
 have:=st.lowQ
 have:=st.nB
 have:=st.at_.le
 refine ⟨st.at_.chg c (by omega) (by omega),zep st.grow c (by omega),(c.block R (Array.getElem?_eq_some_iff.1 st.res).1 fun hm=>st.ne (List.mem_singleton.1 hm).symm).trans st.res,?_,st.low,st.lowQ,st.ne,st.nB,?_⟩
 ·rw [heap_setCell_same W Q 4 _ _ _ st.box];rfl
 ·obtain ⟨f0,f1,f2,f3,f4,f5,f6⟩:=st.fit
  constructor <;> assumption
theorem OpIn.set5 (st:OpIn w W n₀ B a len R Q k m h g i n v) (x:Int) (hx:I64 x):OpIn w (W.setCell ⟨Q,5,none⟩ (.int .i64 x)) n₀ B a len R Q k m h g i x v:=by
 have c:=Chg.put (Chg.refl [Q] W) (b:=Q) (by simp) 5 (.int .i64 x)
 have:=st.lowQ
 have:=st.nB
 have:=st.at_.le
 refine ⟨st.at_.chg c (by omega) (by omega),zep st.grow c (by omega),(c.block R (Array.getElem?_eq_some_iff.1 st.res).1 fun hm=>st.ne (List.mem_singleton.1 hm).symm).trans st.res,?_,st.low,st.lowQ,st.ne,st.nB,?_⟩
 ·rw [heap_setCell_same W Q 5 _ _ _ st.box];rfl
 ·obtain ⟨f0,f1,f2,f3,f4,f5,f6⟩:=st.fit
  constructor <;> assumption
theorem OpIn.set6 (st:OpIn w W n₀ B a len R Q k m h g i n v) (x:Int) (hx:I64 x):OpIn w (W.setCell ⟨Q,6,none⟩ (.int .i64 x)) n₀ B a len R Q k m h g i n x:=by
 have c:=Chg.put (Chg.refl [Q] W) (b:=Q) (by simp) 6 (.int .i64 x)
 have:=st.lowQ
 have:=st.nB
 have:=st.at_.le
 refine ⟨st.at_.chg c (by omega) (by omega),zep st.grow c (by omega),(c.block R (Array.getElem?_eq_some_iff.1 st.res).1 fun hm=>st.ne (List.mem_singleton.1 hm).symm).trans st.res,?_,st.low,st.lowQ,st.ne,st.nB,?_⟩
 ·rw [heap_setCell_same W Q 6 _ _ _ st.box];rfl
 ·obtain ⟨f0,f1,f2,f3,f4,f5,f6⟩:=st.fit
  constructor <;> assumption
end
theorem op_at {w:World} {n₀ B len:Nat} {a:Option Addr} (h:At w n₀ B a len) :
  Calls Tryz.prog 115 #[.pointer (some ⟨B,0,none⟩)] w fun e w'=>∃ o:OpD,FitO o∧e=.returned o.val∧w.grownBy w' (some B)∧At w' n₀ B a len:=by
 have hB:=zaa h.lt
 have h0:=zaa (h.kept (Z5 w (.cells #[.int .i64 0,.int .i64 0,.int .i64 0,.int .i64 0,.int .i64 0,.int .i64 0,.int .i64 0] 118)))
 have g0:=zaa (N4 (World.grownBy.refl w (some B)) (Z5 w (.cells #[.int .i64 0,.int .i64 0,.int .i64 0,.int .i64 0,.int .i64 0,.int .i64 0,.int .i64 0] 118)))
 have r0:=zaa (Y6 w (.cells #[.int .i64 0,.int .i64 0,.int .i64 0,.int .i64 0,.int .i64 0,.int .i64 0,.int .i64 0] 118))
 have s0:=zaa (show w.heap.size<(w.alloc (.cells #[.int .i64 0,.int .i64 0,.int .i64 0,.int .i64 0,.int .i64 0,.int .i64 0,.int .i64 0] 118)).heap.size by simp)
 clear h
 go_enter Tryz.func115,Tryz.ntmps115
 go_upto_region 1 with fail
 generalize w.alloc (.cells #[.int .i64 0,.int .i64 0,.int .i64 0,.int .i64 0,.int .i64 0,.int .i64 0,.int .i64 0] 118)=W at *
 have h1:=zaa (h0.out.kept (Z5 W (.cells #[.int .i64 1,.int .i64 1,.int .i64 1,.int .i64 2,.int .i64 2,.int .i64 3,.int .i64 3,.int .i64 3,.int .i64 4,.int .i64 5,.int .i64 6,.int .i64 7,.int .i64 8,.int .i64 9] 3)))
 have g1:=zaa (N4 g0.out (Z5 W (.cells #[.int .i64 1,.int .i64 1,.int .i64 1,.int .i64 2,.int .i64 2,.int .i64 3,.int .i64 3,.int .i64 3,.int .i64 4,.int .i64 5,.int .i64 6,.int .i64 7,.int .i64 8,.int .i64 9] 3)))
 have r1:=zaa (Z6 (Z5 W (.cells #[.int .i64 1,.int .i64 1,.int .i64 1,.int .i64 2,.int .i64 2,.int .i64 3,.int .i64 3,.int .i64 3,.int .i64 4,.int .i64 5,.int .i64 6,.int .i64 7,.int .i64 8,.int .i64 9] 3)) r0.out)
 have p1:=zaa (znj h1.out W.heap.size 3 [1,1,1,2,2,3,3,3,4,5,6,7,8,9] (by decide) (Y6 W _) (by have:=s0.out;have:=hB.out;omega))
 go_wp2_with fail
 refine p1.out.mono ?_
 rintro e w2 ⟨k,rfl,kin,g,a'⟩
 have h2:=zaa a'
 have g2:=zaa (P0 g1.out g)
 have r2:=zaa (R9 g r1.out (by have:=hB.out;omega))
 have kI:=zaa (show I64 k by unfold I64;simp only [List.mem_cons,List.not_mem_nil,or_false] at kin;omega)
 clear kin g a' p1
 have p2:=zaa (zer h2.out 2 (by decide))
 go_wp2_with fail
 refine p2.out.mono ?_
 rintro e w3 ⟨m,rfl,lo,hi,gg,a'⟩
 have h3:=zaa a'
 have g3:=zaa (P0 g2.out gg)
 have r3:=zaa (R9 gg r2.out (by have:=hB.out;omega))
 have mI:=zaa (show I64 m by unfold I64;omega)
 clear lo hi gg a' p2
 have p3:=zaa (zer h3.out 4 (by decide))
 go_wp2_with fail
 refine p3.out.mono ?_
 rintro e w4 ⟨h,rfl,lo,hi,gg,a'⟩
 have h4:=zaa a'
 have g4:=zaa (P0 g3.out gg)
 have r4:=zaa (R9 gg r3.out (by have:=hB.out;omega))
 have hI:=zaa (show I64 h by unfold I64;omega)
 clear lo hi gg a' p3
 have p4:=zaa (zer h4.out 4 (by decide))
 go_wp2_with fail
 refine p4.out.mono ?_
 rintro e w5 ⟨g,rfl,lo,hi,gg,a'⟩
 have h5:=zaa a'
 have g5:=zaa (P0 g4.out gg)
 have r5:=zaa (R9 gg r4.out (by have:=hB.out;omega))
 have gI:=zaa (show I64 g by unfold I64;omega)
 clear lo hi gg a' p4
 have p5:=zaa (zer h5.out 3 (by decide))
 go_wp2_with fail
 refine p5.out.mono ?_
 rintro e w6 ⟨i,rfl,lo,hi,gg,a'⟩
 have h6:=zaa a'
 have g6:=zaa (P0 g5.out gg)
 have r6:=zaa (R9 gg r5.out (by have:=hB.out;omega))
 have iI:=zaa (show I64 i by unfold I64;omega)
 clear lo hi gg a' p5
 have st:=zaa (show OpIn w (w6.alloc (.cells #[.int .i64 k,.int .i64 m,.int .i64 h,.int .i64 g,.int .i64 i,.int .i64 0,.int .i64 0] 118)) n₀ B a len w.heap.size w6.heap.size k m h g i 0 0 from
  ⟨h6.out.kept (Z5 _ _),N4 g6.out (Z5 _ _),Z6 (Z5 _ _) r6.out,Y6 _ _,Nat.le_refl _,g6.out.size,by have:=(Array.getElem?_eq_some_iff.1 r6.out).1;omega,hB.out,⟨kI.out,mI.out,hI.out,gI.out,iI.out,by show I64 0;unfold I64;omega,by show I64 0;unfold I64;omega⟩⟩)
 clear h1 h2 h3 h4 h5 h6 g1 g2 g3 g4 g5 g6 r1 r2 r3 r4 r5 r6 h0 g0 r0 s0 kI mI hI gI iI
 go_upto_region 2 with fail
 generalize w6.alloc (.cells #[.int .i64 k,.int .i64 m,.int .i64 h,.int .i64 g,.int .i64 i,.int .i64 0,.int .i64 0] 118)=W7 at *
 generalize w6.heap.size=Q at *
 have q0:=Z0 st.out.box 0 (.int .i64 k) rfl
 go_upto_block 0 with fail
 go_cut [] (fun wx=>∃ n v,OpIn w wx n₀ B a len w.heap.size Q k m h g i n v)
 case first =>
  clear q0
  by_cases k1:k=1
  ·subst k1
   have p7:=zaa (st.out.pick 3 [1,2,3,4,5,9,16] (by decide))
   go_wp2_with fail
   refine p7.out.mono ?_
   rintro e w8 ⟨x,rfl,xin,s8⟩
   have x0:1≤x∧x≤16:=by simp only [List.mem_cons,List.not_mem_nil,or_false] at xin;omega
   have s9:=zaa (s8.set5 x (by unfold I64;omega))
   have f5:=Z0 s8.box 5 (.int .i64 0) rfl
   have z5:=Z3 s8.box 5
   clear xin s8 p7
   go_upto_region 5 with fail
   generalize w8.setCell ⟨Q,5,none⟩ (.int .i64 x)=W9 at *
   clear f5 z5
   have f5:=Z0 s9.out.box 5 (.int .i64 x) rfl
   have f6:=Z0 s9.out.box 6 (.int .i64 0) rfl
   have z6:=Z3 s9.out.box 6
   have e1:wrap64 (x+1)=x+1:=by unfold wrap64;omega
   have p9:=zaa (s9.out.below (x+1) (by omega))
   go_wp2_with fail
   refine p9.out.mono ?_
   rintro e w10 ⟨y,rfl,y0,y1,s10⟩
   have s11:=zaa (s10.set6 y (by unfold I64;omega))
   have c6:=Z0 s10.box 6 (.int .i64 0) rfl
   have d6:=Z3 s10.box 6
   clear s10 p9 f5 f6 z6 y0 y1 e1 x0
   go_wp2_with fail
   go_meet
   case rel=>exact ⟨_,_,s11.out⟩
  by_cases k4:k=4
  ·subst k4
   have p7:=zaa (st.out.pick 3 [1,-1,7,4611686018427387904,-9223372036854775808] (by decide))
   go_wp2_with fail
   refine p7.out.mono ?_
   rintro e w8 ⟨x,rfl,xin,s8⟩
   have s9:=zaa (s8.set6 x (by unfold I64;simp only [List.mem_cons,List.not_mem_nil,or_false] at xin;omega))
   have f5:=Z0 s8.box 6 (.int .i64 0) rfl
   have z5:=Z3 s8.box 6
   clear xin s8 p7
   go_wp2_with fail
   go_meet
   case rel=>exact ⟨_,_,s9.out⟩
  have b1:(k == 1)=false:=by simp [k1]
  have b4:(k == 4)=false:=by simp [k4]
  clear k1 k4
  go_wp2_with fail
  go_meet
  case rel=>exact ⟨_,_,st.out⟩
 case rest =>
 obtain ⟨n,v,s2⟩:=hcut
 have st2:=zaa s2
 clear s2 st q0
 have p8:=zaa (st2.out.below 40 (by decide))
 go_wp2_with fail
 refine p8.out.mono ?_
 rintro e w8 ⟨x,rfl,x0,x1,s8⟩
 have st3:=zaa s8
 clear s8 p8 st2
 go_upto_block 1 with fail
 go_cut [] (fun wx=>∃ k m h g i n v,OpIn w wx n₀ B a len w.heap.size Q k m h g i n v)
 case first =>
  rcases (show x=0∨x=1∨x=2∨x=3∨x=4∨x=5∨x=6∨7≤x by omega) with rfl | rfl | rfl | rfl | rfl | rfl | rfl | x7
  ·clear x0 x1
   have p7:=zaa (st3.out.pick 3 [-1,2,3] (by decide))
   go_wp2_with fail
   refine p7.out.mono ?_
   rintro e w9 ⟨y,rfl,yin,s8⟩
   have s9:=zaa (s8.set1 y (by unfold I64;simp only [List.mem_cons,List.not_mem_nil,or_false] at yin;omega))
   have f5:=Z0 s8.box 1 (.int .i64 m) rfl
   have z5:=Z3 s8.box 1
   clear yin s8 p7
   go_wp2_with fail
   go_meet
   case rel=>exact ⟨_,_,_,_,_,_,_,s9.out⟩
  ·clear x0 x1
   have p7:=zaa (st3.out.pick 3 [-1,5,6] (by decide))
   go_wp2_with fail
   refine p7.out.mono ?_
   rintro e w9 ⟨y,rfl,yin,s8⟩
   have s9:=zaa (s8.set2 y (by unfold I64;simp only [List.mem_cons,List.not_mem_nil,or_false] at yin;omega))
   have f5:=Z0 s8.box 2 (.int .i64 h) rfl
   have z5:=Z3 s8.box 2
   clear yin s8 p7
   go_wp2_with fail
   go_meet
   case rel=>exact ⟨_,_,_,_,_,_,_,s9.out⟩
  ·clear x0 x1
   have p7:=zaa (st3.out.pick 3 [-1,5,6] (by decide))
   go_wp2_with fail
   refine p7.out.mono ?_
   rintro e w9 ⟨y,rfl,yin,s8⟩
   have s9:=zaa (s8.set3 y (by unfold I64;simp only [List.mem_cons,List.not_mem_nil,or_false] at yin;omega))
   have f5:=Z0 s8.box 3 (.int .i64 g) rfl
   have z5:=Z3 s8.box 3
   clear yin s8 p7
   go_wp2_with fail
   go_meet
   case rel=>exact ⟨_,_,_,_,_,_,_,s9.out⟩
  ·clear x0 x1
   have p7:=zaa (st3.out.pick 3 [0,16,17] (by decide))
   go_wp2_with fail
   refine p7.out.mono ?_
   rintro e w9 ⟨y,rfl,yin,s8⟩
   have s9:=zaa (s8.set5 y (by unfold I64;simp only [List.mem_cons,List.not_mem_nil,or_false] at yin;omega))
   have f5:=Z0 s8.box 5 (.int .i64 n) rfl
   have z5:=Z3 s8.box 5
   clear yin s8 p7
   go_wp2_with fail
   go_meet
   case rel=>exact ⟨_,_,_,_,_,_,_,s9.out⟩
  ·clear x0 x1
   have p7:=zaa (st3.out.pick 3 [-1,17] (by decide))
   go_wp2_with fail
   refine p7.out.mono ?_
   rintro e w9 ⟨y,rfl,yin,s8⟩
   have s9:=zaa (s8.set6 y (by unfold I64;simp only [List.mem_cons,List.not_mem_nil,or_false] at yin;omega))
   have f5:=Z0 s8.box 6 (.int .i64 v) rfl
   have z5:=Z3 s8.box 6
   clear yin s8 p7
   go_wp2_with fail
   go_meet
   case rel=>exact ⟨_,_,_,_,_,_,_,s9.out⟩
  ·clear x0 x1
   have p7:=zaa (st3.out.pick 3 [0,10,-1] (by decide))
   go_wp2_with fail
   refine p7.out.mono ?_
   rintro e w9 ⟨y,rfl,yin,s8⟩
   have s9:=zaa (s8.set0 y (by unfold I64;simp only [List.mem_cons,List.not_mem_nil,or_false] at yin;omega))
   have f5:=Z0 s8.box 0 (.int .i64 k) rfl
   have z5:=Z3 s8.box 0
   clear yin s8 p7
   go_wp2_with fail
   go_meet
   case rel=>exact ⟨_,_,_,_,_,_,_,s9.out⟩
  ·clear x0 x1
   have p7:=zaa (st3.out.pick 3 [-1,15,16] (by decide))
   go_wp2_with fail
   refine p7.out.mono ?_
   rintro e w9 ⟨y,rfl,yin,s8⟩
   have s9:=zaa (s8.set4 y (by unfold I64;simp only [List.mem_cons,List.not_mem_nil,or_false] at yin;omega))
   have f5:=Z0 s8.box 4 (.int .i64 i) rfl
   have z5:=Z3 s8.box 4
   clear yin s8 p7
   go_wp2_with fail
   go_meet
   case rel=>exact ⟨_,_,_,_,_,_,_,s9.out⟩
  ·have b0:(x == 0)=false:=by rw [beq_eq_false_iff_ne];omega
   have b1:(x == 1)=false:=by rw [beq_eq_false_iff_ne];omega
   have b2:(x == 2)=false:=by rw [beq_eq_false_iff_ne];omega
   have b3:(x == 3)=false:=by rw [beq_eq_false_iff_ne];omega
   have b4:(x == 4)=false:=by rw [beq_eq_false_iff_ne];omega
   have b5:(x == 5)=false:=by rw [beq_eq_false_iff_ne];omega
   have b6:(x == 6)=false:=by rw [beq_eq_false_iff_ne];omega
   clear x0 x1 x7
   go_wp2_with fail
   go_meet
   case rel=>exact ⟨_,_,_,_,_,_,_,st3.out⟩
 case rest =>
 obtain ⟨k',m',h',g',i',n',v',s4⟩:=hcut
 have st4:=zaa s4
 have q0:=Z0 s4.box 0 (.int .i64 k') rfl
 have q1:=Z0 s4.box 1 (.int .i64 m') rfl
 have q2:=Z0 s4.box 2 (.int .i64 h') rfl
 have q3:=Z0 s4.box 3 (.int .i64 g') rfl
 have q4:=Z0 s4.box 4 (.int .i64 i') rfl
 have q5:=Z0 s4.box 5 (.int .i64 n') rfl
 have q6:=Z0 s4.box 6 (.int .i64 v') rfl
 have n0:=Z0 s4.res 0 (.int .i64 0) rfl
 have z0:=Z3 s4.res 0
 have n1:=Z0 s4.res 1 (.int .i64 0) rfl
 have z1:=Z3 s4.res 1
 have n2:=Z0 s4.res 2 (.int .i64 0) rfl
 have z2:=Z3 s4.res 2
 have n3:=Z0 s4.res 3 (.int .i64 0) rfl
 have z3:=Z3 s4.res 3
 have n4:=Z0 s4.res 4 (.int .i64 0) rfl
 have z4:=Z3 s4.res 4
 have n5:=Z0 s4.res 5 (.int .i64 0) rfl
 have z5:=Z3 s4.res 5
 have n6:=Z0 s4.res 6 (.int .i64 0) rfl
 have z6:=Z3 s4.res 6
 clear s4 st3
 go_wp2_with fail
 refine bodyPost_ret (v:=.agg #[.int .i64 k',.int .i64 m',.int .i64 h',.int .i64 g',.int .i64 i',.int .i64 n',.int .i64 v']) (by simp [results,Tryz.results115,go_sem,n0,n1,n2,n3,n4,n5,n6,z0,z1,z2,z3,z4,z5,z6]) rfl ?_
 exact ⟨⟨k',m',h',g',i',n',v'⟩,st4.out.fit,rfl,zep st4.out.grow ((((((((Chg.refl [w.heap.size] _).put (b:=w.heap.size) (by simp) 0 _).put (b:=w.heap.size) (by simp) 1 _).put (b:=w.heap.size) (by simp) 2 _).put (b:=w.heap.size) (by simp) 3 _).put (b:=w.heap.size) (by simp) 4 _).put (b:=w.heap.size) (by simp) 5 _).put (b:=w.heap.size) (by simp) 6 _) (Nat.le_refl _),st4.out.at_.chg ((((((((Chg.refl [w.heap.size] _).put (b:=w.heap.size) (by simp) 0 _).put (b:=w.heap.size) (by simp) 1 _).put (b:=w.heap.size) (by simp) 2 _).put (b:=w.heap.size) (by simp) 3 _).put (b:=w.heap.size) (by simp) 4 _).put (b:=w.heap.size) (by simp) 5 _).put (b:=w.heap.size) (by simp) 6 _) (by have:=st4.out.at_.le;have:=hB.out;omega) (by have:=hB.out;omega)⟩
structure WoIn (w w':World) (n₀ B:Nat) (a:Option Addr) (len R V base:Nat) (S:Y2) (D:WD):Prop where
 at_:At w' n₀ B a len
 grow:w.grownBy w' (some B)
 res:w'.heap[R]?=some (.cells #[.int .i64 0,.int .i64 0,.slice none 0 0,.slice none 0 0,.slice none 0 0,.slice none 0 0,.int .i64 0,.int .i64 0,.slice none 0 0] 30 (0,0))
 var:VarW w' base V S D
 low:w.heap.size≤R
 lowB:R<base
 nB:B<w.heap.size
 right:U0 D
 going:U1 D
section
variable {w W w':World} {n₀ B len R V base:Nat} {a:Option Addr} {S S':Y2} {D D':WD}
theorem VarW.grown (h:VarW W base V S D) (hg:W.grownBy w' (some B)) (hB:B<base):VarW w' base V S D:=by
 have c:=Chg.of_grown hg (bs:=[B]) (by simp)
 exact ⟨(c.block V h.lt fun hm=>by have:=h.le;rw [List.mem_singleton.1 hm] at this;omega).trans h.box,h.own.chg0 c (fun q hq=>by rw [List.mem_singleton.1 hq];exact hB),h.le,h.ne⟩
theorem At.low_base (h:At W n₀ B a len) (b:Below base W w') (hB:B<base):At w' n₀ B a len:=by
 obtain ⟨cap,i,q,hh,hi⟩:=h.cur
 exact ⟨h.bytes.below h.low (b.mono (by have:=h.le;omega)),⟨cap,i,q,(b.block B hB).trans hh,hi⟩,h.le,h.low⟩
theorem zpu {row:Option Nat} (h:w.grownBy W row) (b:Below base W w') (hl:w.heap.size≤base):w.grownBy w' row :=
 ⟨b.os.trans h.os,b.tape.trans h.tape,b.output.trans h.output,Nat.le_trans h.size b.size,fun i hi hn=>(b.block i (Nat.lt_of_lt_of_le hi hl)).trans (h.block i hi hn)⟩
theorem WoIn.moved (st:WoIn w W n₀ B a len R V base S D) (hg:W.grownBy w' (some B)) (ha:At w' n₀ B a len):WoIn w w' n₀ B a len R V base S D :=
 ⟨ha,P0 st.grow hg,R9 hg st.res (by have:=st.low;have:=st.nB;omega),st.var.grown hg (by have:=st.low;have:=st.lowB;have:=st.nB;omega),st.low,st.lowB,st.nB,st.right,st.going⟩
theorem WoIn.low_ (st:WoIn w W n₀ B a len R V base S D) (b:Below base W w') (hv:VarW w' base V S' D') (hr:U0 D') (hg:U1 D'):WoIn w w' n₀ B a len R V base S' D':=by
 have h1:=st.low
 have h2:=st.lowB
 have h3:=st.nB
 exact ⟨st.at_.low_base b (by omega),zpu st.grow b (by omega),(b.block R h2).trans st.res,hv,h1,h2,h3,hr,hg⟩
theorem WoIn.below (st:WoIn w W n₀ B a len R V base S D) (N:Int) (hN:1≤N) :
  Calls Tryz.prog 31 #[.pointer (some ⟨B,0,none⟩),.int .i64 N] W fun e w'=>∃ x:Int,e=.returned (.int .i64 x)∧0≤x∧x<N∧WoIn w w' n₀ B a len R V base S D :=
 (zer st.at_ N hN).mono fun e w' ⟨x,he,h0,h1,hg,ha⟩=>⟨x,he,h0,h1,st.moved hg ha⟩
theorem WoIn.once (st:WoIn w W n₀ B a len R V base S D) (N:Int) (hN:1≤N) :
  Calls Tryz.prog 71 #[.pointer (some ⟨B,0,none⟩),.int .i64 N] W fun e w'=>∃ x:Bool,e=.returned (.bool x)∧WoIn w w' n₀ B a len R V base S D :=
 (zyn st.at_ N hN).mono fun e w' ⟨x,he,hg,ha⟩=>⟨x,he,st.moved hg ha⟩
theorem WoIn.op (st:WoIn w W n₀ B a len R V base S D) :
  Calls Tryz.prog 115 #[.pointer (some ⟨B,0,none⟩)] W fun e w'=>∃ o:OpD,FitO o∧e=.returned o.val∧WoIn w w' n₀ B a len R V base S D :=
 (op_at st.at_).mono fun e w' ⟨o,ho,he,hg,ha⟩=>⟨o,ho,he,st.moved hg ha⟩
theorem WoIn.do_ (st:WoIn w W n₀ B a len R V base S D) (o:OpD) (ho:FitO o) :
  Calls Tryz.prog 114 #[.pointer (some ⟨V,0,none⟩),o.val] W fun e w'=>∃ c x S' D',e=.returned (.agg #[.int .i64 c,.int .i64 x])∧WoIn w w' n₀ B a len R V base S' D' :=
 (zxs base V S D o st.going st.right.rootsObj W st.var).mono fun e w' ⟨⟨c,x,S',E,hd,he,hv,_⟩,b⟩=>by
  obtain ⟨r,g⟩:=hd.right st.right st.going ho.v
  exact ⟨c,x,S',E,he,st.low_ b hv r g⟩
theorem WoIn.step (st:WoIn w W n₀ B a len R V base S D) :
  Calls Tryz.prog 116 #[.pointer (some ⟨V,0,none⟩)] W fun e w'=>e=.returned (.tuple #[])∧∃ S' D',WoIn w w' n₀ B a len R V base S' D' :=
 (zxg base V S D st.going W st.var).mono fun e w' ⟨he,⟨S',E,hs,hv⟩,b⟩=>⟨he,S',E,st.low_ b hv (hs.right st.right st.going) (hs.going st.going)⟩
theorem WoIn.start (st:WoIn w W n₀ B a len R V base S D) (hp:D.phase=0):WoIn w (W.setCell ⟨V,6,none⟩ (.int .i64 1)) n₀ B a len R V base S { D with phase:=1 } :=
 st.low_ (st.var.phase 1).2 (st.var.phase 1).1 (zgc st.right hp) (zjx st.right st.going hp)
end
theorem zzw {w:World} {n₀ B len:Nat} {a:Option Addr} (h:At w n₀ B a len) :
  Calls Tryz.prog 70 #[.pointer (some ⟨B,0,none⟩)] w fun e w'=>∃ S D,U0 D∧U1 D∧e=.returned (S.val D)∧OwnW w' w.heap.size S D∧w.grownBy w' (some B)∧At w' n₀ B a len:=by
 have hB:=zaa h.lt
 have h0:=zaa (h.kept (Z5 w (.cells #[.int .i64 0,.int .i64 0,.slice none 0 0,.slice none 0 0,.slice none 0 0,.slice none 0 0,.int .i64 0,.int .i64 0,.slice none 0 0] 30)))
 have g0:=zaa (N4 (World.grownBy.refl w (some B)) (Z5 w (.cells #[.int .i64 0,.int .i64 0,.slice none 0 0,.slice none 0 0,.slice none 0 0,.slice none 0 0,.int .i64 0,.int .i64 0,.slice none 0 0] 30)))
 have r0:=zaa (Y6 w (.cells #[.int .i64 0,.int .i64 0,.slice none 0 0,.slice none 0 0,.slice none 0 0,.slice none 0 0,.int .i64 0,.int .i64 0,.slice none 0 0] 30))
 have s0:=zaa (show w.heap.size<(w.alloc (.cells #[.int .i64 0,.int .i64 0,.slice none 0 0,.slice none 0 0,.slice none 0 0,.slice none 0 0,.int .i64 0,.int .i64 0,.slice none 0 0] 30)).heap.size by simp)
 clear h
 go_enter Tryz.func70,Tryz.ntmps70
 go_upto_region 1 with fail
 generalize w.alloc (.cells #[.int .i64 0,.int .i64 0,.slice none 0 0,.slice none 0 0,.slice none 0 0,.slice none 0 0,.int .i64 0,.int .i64 0,.slice none 0 0] 30)=W at *
 have p0:=zaa (zer h0.out 9 (by decide))
 go_wp2_with fail
 refine p0.out.mono ?_
 rintro e w1 ⟨x,rfl,x0,x1,gg,a'⟩
 have h1:=zaa (a'.kept (Z5 w1 (.cells #[.int .i64 1,.int .i64 2,.int .i64 3,.int .i64 4,.int .i64 6,.int .i64 12] 3)))
 have g1:=zaa (N4 (P0 g0.out gg) (Z5 w1 (.cells #[.int .i64 1,.int .i64 2,.int .i64 3,.int .i64 4,.int .i64 6,.int .i64 12] 3)))
 have r1:=zaa (Z6 (Z5 w1 (.cells #[.int .i64 1,.int .i64 2,.int .i64 3,.int .i64 4,.int .i64 6,.int .i64 12] 3)) (R9 gg r0.out (by have:=hB.out;omega)))
 have l1:=zaa (show w.heap.size<w1.heap.size from Nat.lt_of_lt_of_le s0.out gg.size)
 have e1:wrap64 (1+x)=1+x:=by unfold wrap64;omega
 have e2:wrap64 (32*(1+x))=32*(1+x):=by unfold wrap64;omega
 have xb:=zaa (show 0≤x∧x<9 from ⟨x0,x1⟩)
 have p1:=zaa (znj h1.out w1.heap.size 3 [1,2,3,4,6,12] (by decide) (Y6 w1 _) (by have:=l1.out;have:=hB.out;omega))
 clear gg a' p0 x0 x1 h0 g0 r0
 go_wp2_with fail
 refine p1.out.mono ?_
 rintro e w2 ⟨y,rfl,yin,gg,a'⟩
 have h2:=zaa a'
 have g2:=zaa (P0 g1.out gg)
 have r2:=zaa (R9 gg r1.out (by have:=hB.out;omega))
 have y1:=zaa (show 1≤y∧y≤12 by simp only [List.mem_cons,List.not_mem_nil,or_false] at yin;omega)
 obtain ⟨P,rfl⟩:∃ P:Nat,y=(P:Int):=Int.eq_ofNat_of_zero_le (by have:=y1.out;omega)
 have p2:=zaa (zer h2.out 3 (by decide))
 clear gg a' p1 yin h1 g1 r1
 go_wp2_with fail
 refine p2.out.mono ?_
 rintro e w3 ⟨z,rfl,z0,z1,gg,a'⟩
 have h3:=zaa a'
 have g3:=zaa (P0 g2.out gg)
 have r3:=zaa (R9 gg r2.out (by have:=hB.out;omega))
 obtain ⟨M,hM⟩:∃ M:Nat,1+z=(M:Int):=Int.eq_ofNat_of_zero_le (by omega)
 have e3:wrap64 (1+z)=(M:Int):=by unfold wrap64;omega
 have mb:=zaa (show 1≤M∧M≤3 by omega)
 have hgeo:=zaa (show Geo (32*(1+x)) (P:Int) (M:Int) by have:=xb.out;have:=y1.out;have:=mb.out;unfold Geo;omega)
 have p3:=zaa (ztp (32*(1+x)) P M (by have:=y1.out;omega) (by have:=mb.out;omega) w3)
 clear gg a' p2 z0 z1 h2 g2 r2 hM
 go_wp2_with fail
 refine p3.out.mono ?_
 rintro e w4 ⟨S,rfl,ho,b4⟩
 obtain ⟨aw,ad,aS,am,ag,cw,cd,cS,cm,cg,sv,mv,rfl⟩:=Y2.lits ho
 have hv:=VarW.mk_box ho b4.size
 have bb:=Z4 b4 (Z5 w4 (.cells (Y2.cells ⟨.slice aw (newD (32*(1+x)) P M).words.length cw,.slice ad (newD (32*(1+x)) P M).dirty.length cd,.slice aS (newD (32*(1+x)) P M).spans.length cS,.slice am (newD (32*(1+x)) P M).muts.length cm,.slice ag (newD (32*(1+x)) P M).grey.length cg,sv,mv⟩ (newD (32*(1+x)) P M)) 30))
 have hRb:=zaa (Nat.lt_of_lt_of_le (Array.getElem?_eq_some_iff.1 r3.out).1 (Nat.le_refl w3.heap.size))
 have st:=zaa (show WoIn w _ n₀ B a len w.heap.size w4.heap.size w3.heap.size _ _ from
  ⟨h3.out.kept bb,N4 g3.out bb,Z6 bb r3.out,hv,Nat.le_refl _,hRb.out,hB.out,znl hgeo.out,zqu hgeo.out⟩)
 dsimp only [Y2.val]
 dsimp only [Y2.cells] at st
 clear hv bb ho b4 p3 h3 g3 r3 e1 e2 e3 hgeo mb y1 xb l1
 generalize newD (32*(1+x)) P M=D at *
 go_upto_region 2 with fail
 generalize w4.alloc (.cells #[.int .i64 D.base,.int .i64 D.pages,.slice aw D.words.length cw,.slice ad D.dirty.length cd,.slice aS D.spans.length cS,.slice am D.muts.length cm,.int .i64 D.phase,.int .i64 D.next,.slice ag D.grey.length cg] 30)=W5 at *
 generalize (⟨.slice aw D.words.length cw,.slice ad D.dirty.length cd,.slice aS D.spans.length cS,.slice am D.muts.length cm,.slice ag D.grey.length cg,sv,mv⟩:Y2)=S at *
 generalize hVe:w4.heap.size=V at *
 generalize hbe:w3.heap.size=base at *
 have p5:=zaa (st.out.below 40 (by decide))
 clear hVe hbe hRb
 go_wp2_with fail
 refine p5.out.mono ?_
 rintro e w6 ⟨k0,rfl,k1,k2,s6⟩
 have st6:=zaa s6
 have kb:=zaa (show 0≤k0∧k0<40 from ⟨k1,k2⟩)
 clear s6 k1 k2 p5 st
 go_wp2_with fail
 go_loopw [4] (fun i wr=>∃ (k:Int) (S':Y2) (E:WD),i=.int .i64 k∧Hid (0≤k∧k<40)∧Hid (WoIn w wr n₀ B a len w.heap.size V base S' E)) (fun i _=>(Go.RowKit.intOf i).toNat)
 case atStart=>exact ⟨k0,S,D,rfl,kb,st6⟩
 case round =>
  obtain ⟨k,S1,E,rfl,hkb,hst⟩:=hrel
  by_cases hlt:0<k
  ·have ek:wrap64 (k-1)=k-1:=by have:=hkb.out;unfold wrap64;omega
   have q1:=zaa hst.out.op
   go_wp2_with fail
   refine q1.out.mono ?_
   rintro e w7 ⟨o,ho,rfl,s7⟩
   have q2:=zaa (s7.do_ o ho)
   clear q1 s7 ho hst
   go_wp2_with fail
   refine q2.out.mono ?_
   rintro e w8 ⟨c,x,S2,E2,rfl,s8⟩
   have q3:=zaa (s8.below 5 (by decide))
   clear q2 s8
   go_wp2_with fail
   refine q3.out.mono ?_
   rintro e w9 ⟨j,rfl,j0,j1,s9⟩
   have st9:=zaa s9
   clear q3
   rcases (show j=0∨j=1∨2≤j by omega) with rfl | rfl | j2
   ·have f6:=s9.var.cell 6 (.int .i64 E2.phase) rfl
    have z6:=s9.var.frz 6
    clear s9 j0 j1
    by_cases hp:E2.phase=0
    ·rw [hp] at f6
     have q4:=zaa (st9.out.once 2 (by decide))
     have hp':=zaa hp
     clear hp
     go_wp2_with fail
     refine q4.out.mono ?_
     rintro e w10 ⟨t,rfl,s10⟩
     have st10:=zaa s10
     have st11:=zaa (s10.start hp'.out)
     have g6:=s10.var.cell 6 (.int .i64 0) (by rw [← hp'.out];rfl)
     have y6:=s10.var.frz 6
     clear f6 z6 q4 s10
     cases t
     ·go_wp2_with fail
      go_roundw
      case rel=>exact ⟨k-1,S2,E2,by go_num,zaa (by have:=hkb.out;omega),st10⟩
      case measure=>simp [Go.RowKit.intOf];omega
     ·go_wp2_with fail
      go_roundw
      case rel=>exact ⟨k-1,S2,_,by go_num,zaa (by have:=hkb.out;omega),st11⟩
      case measure=>simp [Go.RowKit.intOf];omega
    ·have hpb:(E2.phase == 0)=false:=by simp [hp]
     clear hp
     go_wp2_with fail
     go_roundw
     case rel=>exact ⟨k-1,S2,E2,by go_num,zaa (by have:=hkb.out;omega),st9⟩
     case measure=>simp [Go.RowKit.intOf];omega
   ·have q4:=zaa (s9.below 4 (by decide))
    clear s9 j0 j1
    go_wp2_with fail
    refine q4.out.mono ?_
    rintro e w10 ⟨t,rfl,t0,t1,s10⟩
    have st10:=zaa s10
    have tb:=zaa (show -1≤t∧t<4 by omega)
    clear q4 s10 t0 t1
    go_wp2_with fail
    go_loopw [5] (fun i wr=>∃ (t:Int) (S':Y2) (E:WD),i=.int .i64 t∧Hid (-1≤t∧t<4)∧Hid (WoIn w wr n₀ B a len w.heap.size V base S' E)) (fun i _=>(Go.RowKit.intOf i+1).toNat)
    case atStart=>exact ⟨t,S2,E2,rfl,tb,st10⟩
    case round =>
     obtain ⟨t,S3,E3,rfl,htb,hst3⟩:=hrel
     by_cases hlt2:0≤t
     ·have et:wrap64 (t-1)=t-1:=by have:=htb.out;unfold wrap64;omega
      have q5:=zaa hst3.out.step
      go_wp2_with fail
      refine q5.out.mono ?_
      rintro e w11 ⟨rfl,S4,E4,s11⟩
      have st11:=zaa s11
      clear q5 s11
      go_wp2_with fail
      go_roundw
      case rel=>exact ⟨t-1,S4,E4,by go_num,zaa (by have:=htb.out;omega),st11⟩
      case measure=>have:=htb.out;simp [Go.RowKit.intOf];omega
     ·go_wp2_with fail
      go_roundw
      case rel=>exact ⟨k-1,S3,E3,by go_num,zaa (by have:=hkb.out;omega),hst3⟩
      case measure=>simp [Go.RowKit.intOf];omega
   ·have b0:(j == 0)=false:=by rw [beq_eq_false_iff_ne];omega
    have b1:(j == 1)=false:=by rw [beq_eq_false_iff_ne];omega
    clear s9 j0 j1 j2
    go_wp2_with fail
    go_roundw
    case rel=>exact ⟨k-1,S2,E2,by go_num,zaa (by have:=hkb.out;omega),st9⟩
    case measure=>simp [Go.RowKit.intOf];omega
  ·have s3:=hst.out
   have hv3:=s3.var
   obtain ⟨aw',ad',aS',am',ag',cw',cd',cS',cm',cg',sv',mv',rfl⟩:=Y2.lits hv3.own
   have bE:=hv3.box
   dsimp only [Y2.cells] at bE
   have n0:=Z0 s3.res 0 _ rfl
   have z0:=Z3 s3.res 0
   have m0:=Z0 bE 0 _ rfl
   have n1:=Z0 s3.res 1 _ rfl
   have z1:=Z3 s3.res 1
   have m1:=Z0 bE 1 _ rfl
   have n2:=Z0 s3.res 2 _ rfl
   have z2:=Z3 s3.res 2
   have m2:=Z0 bE 2 _ rfl
   have n3:=Z0 s3.res 3 _ rfl
   have z3:=Z3 s3.res 3
   have m3:=Z0 bE 3 _ rfl
   have n4:=Z0 s3.res 4 _ rfl
   have z4:=Z3 s3.res 4
   have m4:=Z0 bE 4 _ rfl
   have n5:=Z0 s3.res 5 _ rfl
   have z5:=Z3 s3.res 5
   have m5:=Z0 bE 5 _ rfl
   have n6:=Z0 s3.res 6 _ rfl
   have z6:=Z3 s3.res 6
   have m6:=Z0 bE 6 _ rfl
   have n7:=Z0 s3.res 7 _ rfl
   have z7:=Z3 s3.res 7
   have m7:=Z0 bE 7 _ rfl
   have n8:=Z0 s3.res 8 _ rfl
   have z8:=Z3 s3.res 8
   have m8:=Z0 bE 8 _ rfl
   have hRV:=zaa (Nat.lt_of_lt_of_le s3.lowB hv3.le)
   have hne:¬ (V=w.heap.size):=by have:=hRV.out;omega
   have hne':¬ (w.heap.size=V):=by omega
   clear s3 hv3 bE
   go_wp2_with fail
   refine bodyPost_ret (v:=.agg #[.int .i64 E.base,.int .i64 E.pages,.slice aw' E.words.length cw',.slice ad' E.dirty.length cd',.slice aS' E.spans.length cS',.slice am' E.muts.length cm',.int .i64 E.phase,.int .i64 E.next,.slice ag' E.grey.length cg']) (by simp [results,Tryz.results70,go_sem,n0,n1,n2,n3,n4,n5,n6,n7,n8,z0,z1,z2,z3,z4,z5,z6,z7,z8]) rfl ?_
   exact ⟨_,E,hst.out.right,hst.out.going,rfl,(hst.out.var.own.chg0 ((Chg.refl [w.heap.size] _).put9 (b:=w.heap.size) (by simp) _ _ _ _ _ _ _ _ _) (fun q hq=>by rw [List.mem_singleton.1 hq];exact hst.out.lowB)).base_le (Nat.le_of_lt hst.out.lowB),zep hst.out.grow ((Chg.refl [w.heap.size] _).put9 (b:=w.heap.size) (by simp) _ _ _ _ _ _ _ _ _) (Nat.le_refl _),hst.out.at_.chg ((Chg.refl [w.heap.size] _).put9 (b:=w.heap.size) (by simp) _ _ _ _ _ _ _ _ _) (by have:=hst.out.at_.le;have:=hB.out;omega) (by have:=hB.out;omega)⟩
theorem L0 (n:Int):I64 (wrap64 n):=by unfold I64 wrap64;omega
theorem zrc (n:Int):I64 (IntKind.i64.wrap n):=by rw [IntWalk.i64_left];exact L0 n
theorem atI_any (s:Y3) (vl vp:Value) (slot:Int) (w:World) :
  Calls Tryz.prog 117 #[zgz s vl vp,.int .i64 slot] w fun e w'=>∃ x:Int,e=.returned (.int .i64 x)∧I64 x∧Below w.heap.size w w':=by
 unfold zgz
 go_enter Tryz.func117,Tryz.ntmps117
 go_wp2
 go_quiet ((go_at_call 121;exact Calls.quiet_of_same ((U7 _ _).mono fun _ _ ⟨a,b⟩=>⟨a,b.symm⟩)))
 go_wp2
 go_ret
 exact ⟨_,rfl,L0 _,below_drewN (Z5 _ _) _⟩
theorem zvk (B:Nat) (v:Value) (D:WD) (k slot:Nat) (s:Y3) (hk:D.spans[k]?=some s) (w:World) (hr:RdW w v D) (hB:BoxW w B v) :
  Calls Tryz.prog 74 #[.pointer (some ⟨B,0,none⟩),.int .i64 k,.int .i64 slot] w fun e w'=>∃ x:Int,e=.returned (.int .i64 x)∧I64 x∧Below w.heap.size w w':=by
 obtain ⟨vw,vd,vs,vm,vg,rfl,a1,a2,a3,a4,a5⟩:=hr
 obtain ⟨aS,cS,rfl,hsl,hx⟩:=a3
 obtain ⟨cs,he,hh⟩:=hB
 obtain rfl:=(Value.agg.inj he).symm
 have f0:=Z0 hh 0 _ rfl
 have f4:=Z0 hh 4 _ rfl
 have hkl:=(List.getElem?_eq_some_iff.1 hk).1
 obtain ⟨b1,o1,rfl,vl,vp,x0,x1,x2,x3,x4,x5,xl,xp⟩:=hx k s hk
 have hkl':(k:Int)<(D.spans.length:Int):=by omega
 unfold maxLen at hsl
 have hat':=zaa (atI_any s vl vp (slot:Int))
 have hf0:=zaa (fun (w':World) (hb:Below w.heap.size w w')=>Z7 hb f0)
 clear hx hk a1 a2 a4 a5 xl xp he hh
 go_enter Tryz.func74,Tryz.ntmps74
 go_wp2_with fail
 go_region_with (first
  | (go_at_call 117;refine (hat'.out _).mono ?_;rintro e w2 ⟨y,rfl,yI,b2⟩;have b2':Below w.heap.size w w2:=⟨b2.os,b2.tape,b2.output,b2.size,b2.block⟩;have g0:=hf0.out w2 b2';clear b2))
 all_goals go_wp2_with fail
 all_goals go_ret
 all_goals exact ⟨_,rfl,zrc _,b2'⟩
structure SoIn (w W:World) (n₀ B:Nat) (a:Option Addr) (len Q:Nat) (v:Value) (D:WD):Prop where
 at_:At W n₀ B a len
 grow:w.grownBy W (some B)
 box:BoxW W Q v
 lowQ:w.heap.size≤Q
 nB:B<w.heap.size
 rd:∀ w',W.grownBy w' (some B)→RdW w' v D
section
variable {w W w':World} {n₀ B len Q:Nat} {a:Option Addr} {v:Value} {D:WD}
theorem SoIn.moved (st:SoIn w W n₀ B a len Q v D) (hg:W.grownBy w' (some B)) (ha:At w' n₀ B a len):SoIn w w' n₀ B a len Q v D:=by
 obtain ⟨cs,he,hh⟩:=st.box
 exact ⟨ha,P0 st.grow hg,⟨cs,he,R9 hg hh (by have:=st.lowQ;have:=st.nB;omega)⟩,st.lowQ,st.nB,fun w2 h2=>st.rd w2 (P0 hg h2)⟩
theorem SoIn.ext (st:SoIn w W n₀ B a len Q v D) (b:Below W.heap.size W w'):SoIn w w' n₀ B a len Q v D :=
 st.moved (N4 (World.grownBy.refl _ _) b) (st.at_.kept b)
theorem SoIn.now (st:SoIn w W n₀ B a len Q v D):RdW W v D:=st.rd W (World.grownBy.refl _ _)
theorem SoIn.pick (st:SoIn w W n₀ B a len Q v D) (t:TypeId) (L:List Int) (hL:1≤L.length∧L.length≤1000) :
  Calls Tryz.prog 72 #[.pointer (some ⟨B,0,none⟩),.slice (some ⟨W.heap.size,0,none⟩) L.length L.length] (W.alloc (.cells (L.map (Value.int .i64)).toArray t)) fun e w'=>∃ x:Int,e=.returned (.int .i64 x)∧x ∈ L∧SoIn w w' n₀ B a len Q v D :=
 (znj (st.ext (Z5 W (.cells (L.map (Value.int .i64)).toArray t))).at_ W.heap.size t L hL (Y6 W _) (by have:=st.at_.lt;omega)).mono fun e w' ⟨x,he,hx,hg,ha⟩=>⟨x,he,hx,(st.ext (Z5 W _)).moved hg ha⟩
theorem SoIn.below (st:SoIn w W n₀ B a len Q v D) (N:Int) (hN:1≤N) :
  Calls Tryz.prog 31 #[.pointer (some ⟨B,0,none⟩),.int .i64 N] W fun e w'=>∃ x:Int,e=.returned (.int .i64 x)∧0≤x∧x<N∧SoIn w w' n₀ B a len Q v D :=
 (zer st.at_ N hN).mono fun e w' ⟨x,he,h0,h1,hg,ha⟩=>⟨x,he,h0,h1,st.moved hg ha⟩
theorem SoIn.once (st:SoIn w W n₀ B a len Q v D) (N:Int) (hN:1≤N) :
  Calls Tryz.prog 71 #[.pointer (some ⟨B,0,none⟩),.int .i64 N] W fun e w'=>∃ x:Bool,e=.returned (.bool x)∧SoIn w w' n₀ B a len Q v D :=
 (zyn st.at_ N hN).mono fun e w' ⟨x,he,hg,ha⟩=>⟨x,he,st.moved hg ha⟩
theorem SoIn.addr (st:SoIn w W n₀ B a len Q v D) (k slot:Nat) (s:Y3) (hk:D.spans[k]?=some s) :
  Calls Tryz.prog 74 #[.pointer (some ⟨Q,0,none⟩),.int .i64 k,.int .i64 slot] W fun e w'=>∃ x:Int,e=.returned (.int .i64 x)∧I64 x∧SoIn w w' n₀ B a len Q v D :=
 (zvk Q v D k slot s hk W st.now st.box).mono fun e w' ⟨x,he,hx,b⟩=>⟨x,he,hx,st.ext b⟩
end
theorem zxk {w:World} {n₀ B len:Nat} {a:Option Addr} (h:At w n₀ B a len) (v:Value) (D:WD) (hb:I64 D.base) (hr:∀ w',w.grownBy w' (some B)→RdW w' v D) :
  Calls Tryz.prog 32 #[.pointer (some ⟨B,0,none⟩),v] w fun e w'=>∃ x:Int,e=.returned (.int .i64 x)∧I64 x∧w.grownBy w' (some B)∧At w' n₀ B a len:=by
 have hb:=zaa hb
 obtain ⟨vw,vd,vs,vm,vg,rfl,a1,a2,⟨aS,cS,rfl,hsl,hx⟩,a4,a5⟩:=hr w (World.grownBy.refl _ _)
 have st:=zaa (show SoIn w (w.alloc (.cells #[.int .i64 D.base,.int .i64 D.pages,vw,vd,.slice aS D.spans.length cS,vm,.int .i64 D.phase,.int .i64 D.next,vg] 30)) n₀ B a len w.heap.size (.agg #[.int .i64 D.base,.int .i64 D.pages,vw,vd,.slice aS D.spans.length cS,vm,.int .i64 D.phase,.int .i64 D.next,vg]) D from
  ⟨h.kept (Z5 w _),N4 (World.grownBy.refl _ _) (Z5 w _),⟨_,rfl,Y6 w _⟩,Nat.le_refl _,h.lt,fun w' hw=>hr w' (P0 (N4 (World.grownBy.refl _ _) (Z5 w _)) hw)⟩)
 clear h hr a1 a2 a4 a5 hx
 unfold maxLen at hsl
 have hsl':=zaa hsl
 clear hsl
 go_enter Tryz.func32,Tryz.ntmps32
 go_upto_region 1 with fail
 generalize w.alloc (.cells #[.int .i64 D.base,.int .i64 D.pages,vw,vd,.slice aS D.spans.length cS,vm,.int .i64 D.phase,.int .i64 D.next,vg] 30)=W at *
 generalize w.heap.size=Q at *
 by_cases hs:0<D.spans.length
 case neg =>
  have hs0:D.spans.length=0:=by omega
  have hs1:((D.spans.length:Int) > 0)=False:=by simp [hs0]
  have hs2:decide ((D.spans.length:Int) > 0)=false:=by simp [hs0]
  obtain ⟨cs,he,hh⟩:=st.out.box
  obtain rfl:=(Value.agg.inj he).symm
  have f4:=Z0 hh 4 (.slice aS D.spans.length cS) rfl
  clear he hh
  clear hs
  go_upto_region 6 with fail
  clear f4 hs0 hs1 hs2
  obtain ⟨cs,he,hh⟩:=st.out.box
  obtain rfl:=(Value.agg.inj he).symm
  have f0:=Z0 hh 0 (.int .i64 D.base) rfl
  clear he hh
  have pT:=zaa (st.out.pick 3 [0,D.base,wrap64 (D.base+1),wrap64 (D.base+2),-1,wrap64 (D.base+500)] (by simp))
  go_wp2_with fail
  refine pT.out.mono ?_
  rintro e wT ⟨x,rfl,xin,sT⟩
  have xI:=zaa (show I64 x by
   have z:=hb.out
   simp only [List.mem_cons,List.not_mem_nil,or_false] at xin
   rcases xin with rfl | rfl | rfl | rfl | rfl | rfl
   ·unfold I64;omega
   ·exact z
   ·exact L0 _
   ·exact L0 _
   ·unfold I64;omega
   ·exact L0 _)
  have sT':=zaa sT
  clear xin pT f0 sT
  go_wp2_with fail
  go_ret
  exact ⟨_,rfl,xI.out,sT'.out.grow,sT'.out.at_⟩
 have hs1:(0:Int)<(D.spans.length:Int):=by omega
 have p1:=zaa (st.out.once 6 (by decide))
 obtain ⟨cs,he,hh⟩:=st.out.box
 obtain rfl:=(Value.agg.inj he).symm
 have f4:=Z0 hh 4 (.slice aS D.spans.length cS) rfl
 clear he hh
 go_wp2_with fail
 refine p1.out.mono ?_
 rintro e w1 ⟨t,rfl,s1⟩
 have st1:=zaa s1
 clear s1 p1 f4
 cases t
 case true =>
  go_upto_region 6 with fail
  obtain ⟨cs,he,hh⟩:=st1.out.box
  obtain rfl:=(Value.agg.inj he).symm
  have f0:=Z0 hh 0 (.int .i64 D.base) rfl
  clear he hh
  have pT:=zaa (st1.out.pick 3 [0,D.base,wrap64 (D.base+1),wrap64 (D.base+2),-1,wrap64 (D.base+500)] (by simp))
  go_wp2_with fail
  refine pT.out.mono ?_
  rintro e wT ⟨x,rfl,xin,sT⟩
  have xI:=zaa (show I64 x by
   have z:=hb.out
   simp only [List.mem_cons,List.not_mem_nil,or_false] at xin
   rcases xin with rfl | rfl | rfl | rfl | rfl | rfl
   ·unfold I64;omega
   ·exact z
   ·exact L0 _
   ·exact L0 _
   ·unfold I64;omega
   ·exact L0 _)
  have sT':=zaa sT
  clear xin pT f0 sT
  go_wp2_with fail
  go_ret
  exact ⟨_,rfl,xI.out,sT'.out.grow,sT'.out.at_⟩
 have p2:=zaa (st1.out.below (D.spans.length:Int) (by omega))
 obtain ⟨cs,he,hh⟩:=st1.out.box
 obtain rfl:=(Value.agg.inj he).symm
 have f4:=Z0 hh 4 (.slice aS D.spans.length cS) rfl
 clear he hh
 go_wp2_with fail
 refine p2.out.mono ?_
 rintro e w2 ⟨k,rfl,k0,k1,s2⟩
 have st2:=zaa s2
 obtain ⟨K,rfl⟩:=Int.eq_ofNat_of_zero_le k0
 have hK:K<D.spans.length:=by omega
 obtain ⟨s,hks⟩:∃ s,D.spans[K]?=some s:=⟨_,List.getElem?_eq_getElem hK⟩
 have hks':=zaa hks
 obtain ⟨b1,o1,rfl,vl,vp,x0,x1,x2,x3,x4,x5,⟨aL,cL,rfl,hll,xl⟩,xp⟩:=s2.now.parts.2.2.1.at_ K s hks
 unfold maxLen at hll
 clear s2 p2 f4 x0 x1 x2 x3 x5 xl xp hks k0
 obtain ⟨cs,he,hh⟩:=st2.out.box
 obtain rfl:=(Value.agg.inj he).symm
 have f4:=Z0 hh 4 (.slice (some ⟨b1,o1,none⟩) D.spans.length cS) rfl
 clear he hh
 have k1':(K:Int)<(D.spans.length:Int):=k1
 go_upto_region 4 with fail
 clear x4 f4 hs1
 by_cases hn:0<s.lens.length
 case neg =>
  have hn0:s.lens.length=0:=by omega
  have hn2:((s.lens.length:Int) > 0)=False:=by simp [hn0]
  have hn3:decide ((s.lens.length:Int) > 0)=false:=by simp [hn0]
  clear hn
  go_upto_region 6 with fail
  obtain ⟨cs,he,hh⟩:=st2.out.box
  obtain rfl:=(Value.agg.inj he).symm
  have f0:=Z0 hh 0 (.int .i64 D.base) rfl
  clear he hh
  have pT:=zaa (st2.out.pick 3 [0,D.base,wrap64 (D.base+1),wrap64 (D.base+2),-1,wrap64 (D.base+500)] (by simp))
  go_wp2_with fail
  refine pT.out.mono ?_
  rintro e wT ⟨x,rfl,xin,sT⟩
  have xI:=zaa (show I64 x by
   have z:=hb.out
   simp only [List.mem_cons,List.not_mem_nil,or_false] at xin
   rcases xin with rfl | rfl | rfl | rfl | rfl | rfl
   ·unfold I64;omega
   ·exact z
   ·exact L0 _
   ·exact L0 _
   ·unfold I64;omega
   ·exact L0 _)
  have sT':=zaa sT
  clear xin pT f0 sT
  go_wp2_with fail
  go_ret
  exact ⟨_,rfl,xI.out,sT'.out.grow,sT'.out.at_⟩
 have hn1:(0:Int)<(s.lens.length:Int):=by omega
 have p3:=zaa (st2.out.below (s.lens.length:Int) (by omega))
 go_wp2_with fail
 refine p3.out.mono ?_
 rintro e w3 ⟨j,rfl,j0,j1,s3⟩
 obtain ⟨J,rfl⟩:=Int.eq_ofNat_of_zero_le j0
 have p4:=zaa (s3.addr K J s hks'.out)
 clear s3 p3 j0 j1
 go_wp2_with fail
 refine p4.out.mono ?_
 rintro e w4 ⟨x,rfl,xI,s4⟩
 have s4':=zaa s4
 have xI':=zaa xI
 clear s4 p4 xI
 go_wp2_with fail
 go_ret
 exact ⟨_,rfl,xI'.out,s4'.out.grow,s4'.out.at_⟩
end Go.Proofs.YtilkidaihbhfpaaGreat

namespace Go.Proofs.YtilkidaihbhfpaaGreat
open Go.RowKit
set_option linter.unusedVariables false
structure zgo (D:WD):Prop where
 fit:FitD D
 size:D.bulk≤5000
theorem zwn {D:WD} (hF:Z8 D):∀ L:List Y3,(∀ s,s ∈ L→s ∈ D.spans)→zmo L≤32*L.length:=by
 intro L
 induction L with
 | nil=>intro _;simp [zmo]
 | cons s L ih =>
  intro h
  have h1:=ih fun t ht=>h t (List.mem_cons_of_mem _ ht)
  obtain ⟨k,hk⟩:=List.mem_iff_getElem?.1 (h s (by simp))
  have A:=hF.span k s hk
  have l1:=A.lens
  have l2:=A.ptrs
  have h16:=(E7 s.cls).2
  have e:zmo (s :: L)=(s.lens.length+s.ptrs.length)+zmo L:=rfl
  rw [e,List.length_cons]
  omega
theorem zzl {D:WD} (hF:Z8 D):∀ L:List (List Int),(∀ r,r ∈ L→r ∈ D.muts)→zlc L≤6*L.length:=by
 intro L
 induction L with
 | nil=>intro _;simp [zlc]
 | cons r L ih =>
  intro h
  have h1:=ih fun t ht=>h t (List.mem_cons_of_mem _ ht)
  obtain ⟨k,hk⟩:=List.mem_iff_getElem?.1 (h r (by simp))
  have h6:=hF.roots k r hk
  have e:zlc (r :: L)=r.length+zlc L:=rfl
  rw [e,List.length_cons]
  omega
theorem U1.bulk2 {D:WD} (h:U1 D):D.bulk≤2000:=by
 have hF:=h.form
 obtain ⟨g1,g2,g3,g4,g5,g6,g7⟩:=hF.geo
 have h1:=hF.words
 have h2:=hF.dirty
 have h3:=hF.spans
 have h4:=zwn hF D.spans fun _ h=>h
 have h5:=zzl hF D.muts fun _ h=>h
 have h6:=h.greyLen
 unfold WD.bulk
 omega
theorem U1.bent {D:WD} (h:U1 D):zgo D:=⟨h.fit,by have:=h.bulk2;omega⟩
theorem zzz (L:List (List Int)) (k:Nat) (s t:List Int) (hs:L[k]?=some s) (hb:t.length=s.length):zlc (L.set k t)=zlc L:=by
 induction L generalizing k with
 | nil=>simp at hs
 | cons a L ih =>
  cases k with
  | zero =>
   simp at hs
   subst hs
   simp [zlc,hb]
  | succ k =>
   have:=ih k (by simpa using hs)
   simp only [zlc,List.set_cons_succ,List.map_cons,List.sum_cons] at this ⊢
   omega
theorem zgi {D E:WD} (h1:E.words.length≤D.words.length) (h2:E.dirty.length≤D.dirty.length+1) (h3:E.spans.length=D.spans.length) (h4:zmo E.spans=zmo D.spans) (h5:E.muts.length+zlc E.muts≤D.muts.length+zlc D.muts+7) (h6:E.grey.length≤D.grey.length+1):E.bulk≤D.bulk+20:=by
 unfold WD.bulk
 omega
theorem zpz {L:List Int} (h:AllI L) (i:Nat) {x:Int} (hx:I64 x):AllI (L.set i x):=fun y hy=>by
 rcases List.mem_or_eq_of_mem_set hy with hy | rfl
 ·exact h y hy
 ·exact hx
theorem allI_app {L:List Int} (h:AllI L) {x:Int} (hx:I64 x):AllI (L ++ [x]):=fun y hy=>by
 rcases List.mem_append.1 hy with hy | hy
 ·exact h y hy
 ·rw [List.mem_singleton.1 hy];exact hx
section
variable {D:WD} {x:Int}
theorem U1.bent_word (h:U1 D) (i:Nat) (hx:I64 x):zgo { D with words:=D.words.set i x } :=
 ⟨⟨h.fit.base,h.fit.pages,zpz h.fit.words i hx,h.fit.spans,h.fit.muts,h.fit.phase,h.fit.next,h.fit.grey⟩,by have:=h.bulk2;have:=zgi (D:=D) (E:={ D with words:=D.words.set i x }) (by simp) (by simp) rfl rfl (by simp) (by simp);omega⟩
theorem U1.bent_base (h:U1 D) (hx:I64 x):zgo { D with base:=x }:=⟨⟨hx,h.fit.pages,h.fit.words,h.fit.spans,h.fit.muts,h.fit.phase,h.fit.next,h.fit.grey⟩,by have:=h.bulk2;show D.bulk≤5000;omega⟩
theorem U1.bent_pages (h:U1 D) (hx:I64 x):zgo { D with pages:=x }:=⟨⟨h.fit.base,hx,h.fit.words,h.fit.spans,h.fit.muts,h.fit.phase,h.fit.next,h.fit.grey⟩,by have:=h.bulk2;show D.bulk≤5000;omega⟩
theorem U1.bent_phase (h:U1 D) (hx:I64 x):zgo { D with phase:=x }:=⟨⟨h.fit.base,h.fit.pages,h.fit.words,h.fit.spans,h.fit.muts,hx,h.fit.next,h.fit.grey⟩,by have:=h.bulk2;show D.bulk≤5000;omega⟩
theorem U1.bent_next (h:U1 D) (hx:I64 x):zgo { D with next:=x }:=⟨⟨h.fit.base,h.fit.pages,h.fit.words,h.fit.spans,h.fit.muts,h.fit.phase,hx,h.fit.grey⟩,by have:=h.bulk2;show D.bulk≤5000;omega⟩
theorem U1.bent_drop (h:U1 D):zgo { D with words:=D.words.drop 1 } :=
 ⟨⟨h.fit.base,h.fit.pages,fun y hy=>h.fit.words y (List.mem_of_mem_drop hy),h.fit.spans,h.fit.muts,h.fit.phase,h.fit.next,h.fit.grey⟩,by have:=h.bulk2;have:=zgi (D:=D) (E:={ D with words:=D.words.drop 1 }) (by simp) (by simp) rfl rfl (by simp) (by simp);omega⟩
theorem U1.bent_dirty (h:U1 D) (b:Bool):zgo { D with dirty:=D.dirty ++ [b] } :=
 ⟨⟨h.fit.base,h.fit.pages,h.fit.words,h.fit.spans,h.fit.muts,h.fit.phase,h.fit.next,h.fit.grey⟩,by have:=h.bulk2;have:=zgi (D:=D) (E:={ D with dirty:=D.dirty ++ [b] }) (by simp) (by simp) rfl rfl (by simp) (by simp);omega⟩
theorem U1.bent_grey (h:U1 D) (hx:I64 x):zgo { D with grey:=D.grey ++ [x] } :=
 ⟨⟨h.fit.base,h.fit.pages,h.fit.words,h.fit.spans,h.fit.muts,h.fit.phase,h.fit.next,allI_app h.fit.grey hx⟩,by have:=h.bulk2;have:=zgi (D:=D) (E:={ D with grey:=D.grey ++ [x] }) (by simp) (by simp) rfl rfl (by simp) (by simp);omega⟩
theorem U1.bent_muts (h:U1 D):zgo { D with muts:=D.muts ++ [List.replicate 6 0] } :=
 ⟨⟨h.fit.base,h.fit.pages,h.fit.words,h.fit.spans,fun r hr=>by
  rcases List.mem_append.1 hr with hr | hr
  ·exact h.fit.muts r hr
  ·rw [List.mem_singleton.1 hr]
   intro y hy
   rw [List.eq_of_mem_replicate hy]
   exact ⟨by omega,by omega⟩,h.fit.phase,h.fit.next,h.fit.grey⟩,by have:=h.bulk2;have:=zgi (D:=D) (E:={ D with muts:=D.muts ++ [List.replicate 6 0] }) (by simp) (by simp) rfl rfl (by simp [zlc];omega) (by simp);omega⟩
theorem U1.bent_root (h:U1 D) {r:List Int} (hr:D.muts[0]?=some r) (hx:I64 x):zgo { D with muts:=D.muts.set 0 (r.set 0 x) } :=
 ⟨⟨h.fit.base,h.fit.pages,h.fit.words,h.fit.spans,fun q hq=>by
  rcases List.mem_or_eq_of_mem_set hq with hq | rfl
  ·exact h.fit.muts q hq
  ·exact zpz (h.fit.muts r (List.mem_of_getElem? hr)) 0 hx,h.fit.phase,h.fit.next,h.fit.grey⟩,by have:=h.bulk2;have:=zgi (D:=D) (E:={ D with muts:=D.muts.set 0 (r.set 0 x) }) (by simp) (by simp) rfl rfl (by show (D.muts.set 0 _).length+zlc (D.muts.set 0 _)≤_;rw [zzz D.muts 0 r _ hr (by simp)];simp) (by simp);omega⟩
theorem U1.bent_span (h:U1 D) {k:Nat} {s t:Y3} (hs:D.spans[k]?=some s) (ht:FitS t) (hb:t.bulk=s.bulk):zgo { D with spans:=D.spans.set k t } :=
 ⟨⟨h.fit.base,h.fit.pages,h.fit.words,fun q hq=>by
  rcases List.mem_or_eq_of_mem_set hq with hq | rfl
  ·exact h.fit.spans q hq
  ·exact ht,h.fit.muts,h.fit.phase,h.fit.next,h.fit.grey⟩,by have:=h.bulk2;have:=zgi (D:=D) (E:={ D with spans:=D.spans.set k t }) (by simp) (by simp) (by simp) (zxe D.spans k s t hs hb) (by simp) (by simp);omega⟩
end
structure BeIn (w W:World) (n₀ B:Nat) (a:Option Addr) (len R V:Nat) (v:Value) (D:WD):Prop where
 at_:At W n₀ B a len
 grow:w.grownBy W (some B)
 res:W.heap[R]?=some (.cells #[.int .i64 0,.int .i64 0,.slice none 0 0,.slice none 0 0,.slice none 0 0,.slice none 0 0,.int .i64 0,.int .i64 0,.slice none 0 0] 30 (0,0))
 box:BoxW W V v
 low:w.heap.size≤R
 ne:V≠R
 nB:B<w.heap.size
 rd:∀ (bs:List Nat) w2,(∀ q,q ∈ bs→q≤R)→Chg bs W w2→RdW w2 v D
 bent:zgo D
 cw:CapW v
 cg:CapG v
section
variable {w W w':World} {n₀ B len R V base:Nat} {a:Option Addr} {S S':Y2} {D D':WD}
theorem BeIn.of_var (st:WoIn w W n₀ B a len R V base S D) (b:Below base W w') (hv:VarW w' base V S' D') (hb:zgo D'):BeIn w w' n₀ B a len R V (S'.val D') D':=by
 have h1:=st.low
 have h2:=st.lowB
 have h3:=st.nB
 have h4:=hv.le
 exact ⟨st.at_.low_base b (by omega),zpu st.grow b (by omega),(b.block R h2).trans st.res,hv.boxW,h1,by omega,h3,
  fun bs w2 hbs c=>(hv.own.chg0 c fun q hq=>by have:=hbs q hq;omega).rd,hb,hv.own.capWords,hv.own.capGrey⟩
theorem WoIn.be (st:WoIn w W n₀ B a len R V base S D):BeIn w W n₀ B a len R V (S.val D) D:=.of_var st (Below.refl _ _) st.var st.going.bent
theorem WoIn.ext (st:WoIn w W n₀ B a len R V base S D) (b:Below W.heap.size W w'):WoIn w w' n₀ B a len R V base S D :=
 st.moved (N4 (World.grownBy.refl _ _) b) (st.at_.kept b)
theorem WoIn.pick (st:WoIn w W n₀ B a len R V base S D) (t:TypeId) (L:List Int) (hL:1≤L.length∧L.length≤1000) :
  Calls Tryz.prog 72 #[.pointer (some ⟨B,0,none⟩),.slice (some ⟨W.heap.size,0,none⟩) L.length L.length] (W.alloc (.cells (L.map (Value.int .i64)).toArray t)) fun e w'=>∃ x:Int,e=.returned (.int .i64 x)∧x ∈ L∧WoIn w w' n₀ B a len R V base S D :=
 (znj (st.ext (Z5 W (.cells (L.map (Value.int .i64)).toArray t))).at_ W.heap.size t L hL (Y6 W _) (by have:=st.at_.lt;omega)).mono fun e w' ⟨x,he,hx,hg,ha⟩=>⟨x,he,hx,(st.ext (Z5 W _)).moved hg ha⟩
theorem WoIn.some_ (st:WoIn w W n₀ B a len R V base S D) :
  Calls Tryz.prog 32 #[.pointer (some ⟨B,0,none⟩),S.val D] W fun e w'=>∃ x:Int,e=.returned (.int .i64 x)∧I64 x∧WoIn w w' n₀ B a len R V base S D :=
 (zxk st.at_ (S.val D) D st.going.fit.base fun w' hw=>(st.var.grown hw (by have:=st.low;have:=st.lowB;have:=st.nB;omega)).own.rd).mono fun e w' ⟨x,he,hx,hg,ha⟩=>⟨x,he,hx,st.moved hg ha⟩
theorem VarW.base_ (h:VarW W base V S D) (x:Int):VarW (W.setCell ⟨V,0,none⟩ (.int .i64 x)) base V S { D with base:=x }∧Below base W (W.setCell ⟨V,0,none⟩ (.int .i64 x)):=by
 have c:=Chg.of_grown (V5 W V 0 (.int .i64 x)) (bs:=[V]) (by simp)
 refine ⟨⟨?_,?_,h.le,h.ne⟩,(Below.refl _ _).setCell (p:=⟨V,0,none⟩) h.le _⟩
 ·have:=heap_setCell_same W V 0 _ _ (.int .i64 x) h.box
  simpa [Y2.cells] using this
 ·have k:OwnW _ base S D:=h.own.chg c fun k hk hm=>h.ne (by rw [List.mem_singleton.1 hm] at hk;exact hk)
  exact ⟨k.words,k.dirty,k.spans,k.svl,k.inner,k.muts,k.mvl,k.innerM,k.grey,k.nodup⟩
theorem VarW.pages_ (h:VarW W base V S D) (x:Int):VarW (W.setCell ⟨V,1,none⟩ (.int .i64 x)) base V S { D with pages:=x }∧Below base W (W.setCell ⟨V,1,none⟩ (.int .i64 x)):=by
 have c:=Chg.of_grown (V5 W V 1 (.int .i64 x)) (bs:=[V]) (by simp)
 refine ⟨⟨?_,?_,h.le,h.ne⟩,(Below.refl _ _).setCell (p:=⟨V,1,none⟩) h.le _⟩
 ·have:=heap_setCell_same W V 1 _ _ (.int .i64 x) h.box
  simpa [Y2.cells] using this
 ·have k:OwnW _ base S D:=h.own.chg c fun k hk hm=>h.ne (by rw [List.mem_singleton.1 hm] at hk;exact hk)
  exact ⟨k.words,k.dirty,k.spans,k.svl,k.inner,k.muts,k.mvl,k.innerM,k.grey,k.nodup⟩
theorem VarW.growD (h:VarW W base V S D) (g:W.grownBy w' S.vd.ownBlock) {v:Value} {L:List Bool} (r:w'.ownsRow base 4 1 v L.length (L.map Value.bool)) (f:∀ q,v.ownBlock=some q→q≠V) :
  VarW (w'.setCell ⟨V,3,none⟩ v) base V { S with vd:=v } { D with dirty:=L }∧Below base W (w'.setCell ⟨V,3,none⟩ v):=by
 have c1:Chg (blks [S.vd]) W w':=Chg.of_grown g fun x hx=>List.mem_filterMap.2 ⟨S.vd,by simp,hx⟩
 have c2:=Chg.of_grown (V5 w' V 3 v) (bs:=[V]) (by simp)
 have hb:=h.keep c1 (zgg (by simp [Y2.all]))
 have hbel:=h.bel c1 (zgg (by simp [Y2.all]))
 have P:=h.own.parts
 have o1:OwnW w' base { S with vd:=v } { D with dirty:=L } :=
  .mk' (X9 h.own.words c1 fun q hq=>P.d01.not_mem (by simp) hq) r (h.own.ownS.chg c1 (fun q hq=>P.d12.symm.not_mem (by simp) hq) (fun x hx q hq=>P.d12.symm.not_mem (by simp [hx]) hq))
   (h.own.ownM.chg c1 (fun q hq=>P.d13.symm.not_mem (by simp) hq) (fun x hx q hq=>P.d13.symm.not_mem (by simp [hx]) hq)) (X9 h.own.grey c1 fun q hq=>P.d14.symm.not_mem (by simp) hq) h.own.nodup
 have hV:V ∉ blks ({ S with vd:=v }:Y2).all:=fun hm=>by
  obtain ⟨y,hy,hyb⟩:=List.mem_filterMap.1 hm
  have:y=v∨y ∈ S.all:=by
   by_cases e:y=v
   ·exact .inl e
   ·refine .inr ?_
    simp only [Y2.all,List.mem_append,List.mem_cons,List.not_mem_nil,or_false,e] at hy ⊢
    rcases hy with hy | hy
    ·rcases hy with hy | hy
     ·rcases hy with hy | hy
      ·exact .inl (.inl (.inl (.inl hy)))
      ·exact .inl (.inl (.inr hy))
     ·exact .inl (.inr hy)
    ·exact .inr hy
  rcases this with rfl | hy'
  ·exact f V hyb rfl
  ·exact h.ne (List.mem_filterMap.2 ⟨y,hy',hyb⟩)
 refine ⟨⟨?_,o1.chg c2 fun k hk hm=>hV (by rw [List.mem_singleton.1 hm] at hk;exact hk),h.le,hV⟩,hbel.trans ((Below.refl _ _).setCell (p:=⟨V,3,none⟩) h.le _)⟩
 have:=heap_setCell_same w' V 3 _ _ v hb
 simpa [Y2.cells] using this
theorem WoIn.drop_ {g cw:Nat} (st:WoIn w W n₀ B a len R V base S D) (hw:S.vw=.slice (some ⟨g,0,none⟩) D.words.length cw) (hl:0<D.words.length) (c':Nat) (hc:D.words.length-1≤c':=by omega) :
  BeIn w (W.setCell ⟨V,2,none⟩ (.slice (some ⟨g,1,none⟩) (D.words.length-1) c')) n₀ B a len R V (.agg #[.int .i64 D.base,.int .i64 D.pages,.slice (some ⟨g,1,none⟩) (D.words.length-1) c',S.vd,S.vs,S.vm,.int .i64 D.phase,.int .i64 D.next,S.vg]) { D with words:=D.words.drop 1 }:=by
 have h1:=st.low
 have h2:=st.lowB
 have h3:=st.nB
 have h4:=st.var.le
 have hv:=st.var
 have c:=Chg.of_grown (V5 W V 2 (.slice (some ⟨g,1,none⟩) (D.words.length-1) c')) (bs:=[V]) (by simp)
 have b:Below base W (W.setCell ⟨V,2,none⟩ (.slice (some ⟨g,1,none⟩) (D.words.length-1) c')):=(Below.refl _ _).setCell (p:=⟨V,2,none⟩) hv.le _
 have k:OwnW _ base S D:=hv.own.chg c fun k hk hm=>hv.ne (by rw [List.mem_singleton.1 hm] at hk;exact hk)
 refine ⟨st.at_.low_base b (by omega),zpu st.grow b (by omega),(b.block R h2).trans st.res,⟨_,rfl,?_⟩,h1,by omega,h3,fun bs w2 hbs c2=>?_,st.going.bent_drop,?_,?_⟩
 ·have:=heap_setCell_same W V 2 _ _ (.slice (some ⟨g,1,none⟩) (D.words.length-1) c') hv.box
  simpa [Y2.cells] using this
 ·have ho:=k.chg0 c2 fun q hq=>by have:=hbs q hq;omega
  obtain ⟨r1,r2,r3,r4,r5⟩:=RdW.parts ho.rd
  have e:((D.words.drop 1).take (D.words.length-1))=D.words.drop 1:=List.take_of_length_le (by simp)
  have r1':Rd w2 (.slice (some ⟨g,0,none⟩) D.words.length cw) D.words:=by rw [← hw];exact r1
  have r6:=Rd.part r1' (lo:=1) (n:=D.words.length-1) (by omega) c'
  rw [e,Nat.zero_add] at r6
  exact ⟨_,_,_,_,_,rfl,r6,r2,r3,r4,r5⟩
 ·intro c0 c1 x n cc c3 c4 c5 c6 c7 c8 e
  simp only [Value.agg.injEq,Array.mk.injEq,List.cons.injEq,Value.slice.injEq,and_true] at e
  omega
 ·have hg:=hv.own.capGrey
  intro c0 c1 c2 c3 c4 c5 c6 c7 x n cc e
  refine hg c0 c1 S.vw c3 c4 c5 c6 c7 x n cc ?_
  simp only [Y2.val,Value.agg.injEq,Array.mk.injEq,List.cons.injEq,and_true] at e ⊢
  obtain ⟨e0,e1,e2,e3,e4,e5,e6,e7,e8⟩:=e
  exact ⟨e0,e1,trivial,e3,e4,e5,e6,e7,e8⟩
theorem headM (h:VarW W base V S D) (hl:0<D.muts.length):∃ g cap,S.vm=.slice (some ⟨g,0,none⟩) D.muts.length cap:=by
 rcases h.own.muts.2 with ⟨_,h0⟩ | ⟨g,cap,cur,e,_⟩
 ·omega
 ·exact ⟨g,cap,e⟩
theorem zyw {g cm:Nat} {u:Value} {aw ad aS ag:Option Addr} {cw cd cS cg:Nat} {sv:List (Value × Value)} {mv:List Value}
  (h:VarW W base V ⟨.slice aw D.words.length cw,.slice ad D.dirty.length cd,.slice aS D.spans.length cS,.slice (some ⟨g,0,none⟩) D.muts.length cm,.slice ag D.grey.length cg,sv,mv⟩ D) (hu:mv[0]?=some u):W.cell? ⟨g,0,none⟩=some u:=by
 have hr:=h.own.muts
 have hl:0<D.muts.length:=by have h1:mv.length=D.muts.length:=h.own.mvl;have:=(List.getElem?_eq_some_iff.1 hu).1;omega
 have:=hr.cellAt 0 (by omega)
 rw [this]
 exact hu
theorem WoIn.grey_app (st:WoIn w W n₀ B a len R V base S D) {y:Int} (yI:I64 y) (v:Value) (w6:World) (r:w6.ownsRow base 3 1 v (D.grey ++ [y]).length ((D.grey ++ [y]).map (Value.int .i64)))
  (g:(W.alloc (.cells #[.int .i64 y] 3)).grownBy w6 S.vg.ownBlock) (f:∀ q,v.ownBlock=some q→S.vg.ownBlock=some q∨(W.alloc (.cells #[.int .i64 y] 3)).heap.size≤q) :
  (∃ x c,v=.slice x (D.grey.length+1) c)∧w6.heap[V]?=some (.cells (S.cells D) 30 (0,0))∧∃ v' D',BeIn w (w6.setCell ⟨V,8,none⟩ v) n₀ B a len R V v' D':=by
 have st8:=st.ext (Z5 W (.cells #[.int .i64 y] 3))
 have hg:=st8.var.grow (L:=D.grey ++ [y]) (v:=v) g r f
 have hb6:=st8.var.keep (Chg.of_grown g (bs:=blks [S.vg]) fun x hx=>List.mem_filterMap.2 ⟨S.vg,by simp,hx⟩) (zgg (by simp [Y2.all]))
 obtain ⟨x,c,e⟩:=Y4 r
 exact ⟨⟨x,c,by rw [e,List.length_append];rfl⟩,hb6,_,_,BeIn.of_var st8 hg.2 hg.1 (st8.going.bent_grey yI)⟩
theorem WoIn.muts_app (st:WoIn w W n₀ B a len R V base S D) (v:Value) (w6:World) (r:w6.ownsRow base 74 1 v (D.muts.length+1) (S.mv ++ [.slice (some ⟨W.heap.size,0,none⟩) 6 6]))
  (g:((W.alloc (.cells (madeCells #[.int .i64 0] 6) 3)).alloc (.cells #[.slice (some ⟨W.heap.size,0,none⟩) 6 6] 74)).grownBy w6 S.vm.ownBlock) :
  (∃ x c,v=.slice x (D.muts.length+1) c)∧w6.heap[V]?=some (.cells (S.cells D) 30 (0,0))∧∃ v' D',BeIn w (w6.setCell ⟨V,5,none⟩ v) n₀ B a len R V v' D':=by
 have bb:=Z4 (Z5 W (.cells (madeCells #[.int .i64 0] 6) 3)) (Z5 (W.alloc (.cells (madeCells #[.int .i64 0] 6) 3)) (.cells #[.slice (some ⟨W.heap.size,0,none⟩) 6 6] 74))
 have hm:=Z6 (Z5 (W.alloc (.cells (madeCells #[.int .i64 0] 6) 3)) (.cells #[.slice (some ⟨W.heap.size,0,none⟩) 6 6] 74)) (Y6 W (.cells (madeCells #[.int .i64 0] 6) 3))
 have st8:=st.ext bb
 generalize (W.alloc (.cells (madeCells #[.int .i64 0] 6) 3)).alloc (.cells #[.slice (some ⟨W.heap.size,0,none⟩) 6 6] 74)=W2 at *
 have hv:=st8.var
 have hold:∀ q,q ∈ blks S.all→q<W.heap.size:=fun q hq=>(st.var.own.lt q hq).2
 have hbw:base≤W.heap.size:=Nat.le_of_lt (Nat.lt_of_le_of_lt st.var.le st.var.lt)
 have c1:Chg (blks [S.vm]) W2 w6:=Chg.of_grown g fun x hx=>List.mem_filterMap.2 ⟨S.vm,by simp,hx⟩
 have hb6:=hv.keep c1 (zgg (by simp [Y2.all]))
 have hbel:=hv.bel c1 (zgg (by simp [Y2.all]))
 obtain ⟨x,c,e⟩:=Y4 r
 refine ⟨⟨x,c,e⟩,hb6,?_⟩
 have P:=hv.own.parts
 have hvm:∀ q,S.vm.ownBlock=some q→q<W.heap.size:=fun q hq=>hold q (List.mem_filterMap.2 ⟨S.vm,by simp [Y2.all],hq⟩)
 have hnew:w6.ownsRow base 3 1 (.slice (some ⟨W.heap.size,0,none⟩) 6 6) (List.replicate 6 (0:Int)).length ((List.replicate 6 (0:Int)).map (Value.int .i64)):=by
  have:=zji (base:=base) (n:=6) (z:=.int .i64 0) hm hbw (by unfold maxLen;omega)
  refine X9 (w:=W2) (by simpa using this) c1 fun q hq hmem=>?_
  obtain ⟨y,hy,hyb⟩:=List.mem_filterMap.1 hmem
  obtain rfl:=List.mem_singleton.1 hy
  have:=hvm q hyb
  have e2:W.heap.size=q:=by simpa [Value.ownBlock] using hq
  omega
 have hmv:S.mv.length=D.muts.length:=hv.own.mvl
 have oM:OwnM w6 base v (D.muts ++ [List.replicate 6 0]) (S.mv ++ [.slice (some ⟨W.heap.size,0,none⟩) 6 6]):=by
  refine ⟨by simpa using r,by simp [hmv],fun i q u hi hu=>?_⟩
  rcases Nat.lt_or_ge i D.muts.length with hl | hl
  ·rw [List.getElem?_append_left hl] at hi
   rw [List.getElem?_append_left (by omega)] at hu
   have hi2:=hv.own.innerM i q u hi hu
   exact X9 hi2 c1 fun k hk hmem=>by
    obtain ⟨y,hy,hyb⟩:=List.mem_filterMap.1 hmem
    obtain rfl:=List.mem_singleton.1 hy
    exact L7 hi2 hv.own.muts (by decide) k hk hyb
  ·have hi1:=(List.getElem?_eq_some_iff.1 hi).1
   rw [List.length_append,List.length_singleton] at hi1
   obtain rfl:i=D.muts.length:=by omega
   rw [List.getElem?_append_right (by omega)] at hi
   rw [List.getElem?_append_right (by omega)] at hu
   simp only [Nat.sub_self,List.getElem?_cons_zero,Option.some.injEq] at hi
   rw [hmv] at hu
   simp only [Nat.sub_self,List.getElem?_cons_zero,Option.some.injEq] at hu
   subst hi hu
   exact hnew
 have hn:(({ S with vm:=v,mv:=S.mv ++ [.slice (some ⟨W.heap.size,0,none⟩) 6 6] }:Y2).ints.filterMap Value.ownBlock).Nodup:=by
  have h0:=hv.own.nodup
  rw [show S.ints=(S.vw :: X7 S.sv ++ S.mv) ++ [S.vg] from rfl] at h0
  rw [show ({ S with vm:=v,mv:=S.mv ++ [.slice (some ⟨W.heap.size,0,none⟩) 6 6] }:Y2).ints=(S.vw :: X7 S.sv ++ (S.mv ++ [.slice (some ⟨W.heap.size,0,none⟩) 6 6])) ++ [S.vg] from rfl]
  have e1:(S.vw :: X7 S.sv ++ (S.mv ++ [Value.slice (some ⟨W.heap.size,0,none⟩) 6 6])) ++ [S.vg]=(S.vw :: X7 S.sv ++ S.mv) ++ (Value.slice (some ⟨W.heap.size,0,none⟩) 6 6 :: [S.vg]):=by simp
  rw [e1,List.filterMap_append]
  rw [List.filterMap_append] at h0
  rw [List.filterMap_cons,show (Value.slice (some ⟨W.heap.size,0,none⟩) 6 6).ownBlock=some W.heap.size from rfl]
  refine (List.Perm.nodup_iff List.perm_middle).2 (List.nodup_cons.2 ⟨fun hmem=>?_,h0⟩)
  have:W.heap.size ∈ blks S.all:=by
   rw [← List.filterMap_append] at hmem
   obtain ⟨y,hy,hyb⟩:=List.mem_filterMap.1 hmem
   refine List.mem_filterMap.2 ⟨y,?_,hyb⟩
   simp only [Y2.all,List.mem_append,List.mem_cons,List.not_mem_nil,or_false] at hy ⊢
   rcases hy with ((hy | hy) | hy) | hy <;> simp [hy]
  have:=hold _ this
  omega
 have c3:Chg (blks (S.vm :: S.mv)) W2 w6:=Chg.of_grown g fun x hx=>List.mem_filterMap.2 ⟨S.vm,by simp,hx⟩
 have o1:OwnW w6 base { S with vm:=v,mv:=S.mv ++ [.slice (some ⟨W.heap.size,0,none⟩) 6 6] } { D with muts:=D.muts ++ [List.replicate 6 0] } :=
  .mk' (X9 hv.own.words c3 fun q hq=>P.d03.not_mem (by simp) hq) (X9 hv.own.dirty c3 fun q hq=>P.d13.not_mem (by simp) hq)
   (hv.own.ownS.chg c3 (fun q hq=>P.d23.not_mem (by simp) hq) (fun x hx q hq=>P.d23.not_mem (by simp [hx]) hq)) oM (X9 hv.own.grey c3 fun q hq=>P.d34.symm.not_mem (by simp) hq) hn
 have hV:V ∉ blks ({ S with vm:=v,mv:=S.mv ++ [.slice (some ⟨W.heap.size,0,none⟩) 6 6] }:Y2).all:=fun hmem=>by
  have hlt:=o1.lt V hmem
  obtain ⟨y,hy,hyb⟩:=List.mem_filterMap.1 hmem
  have hys:y=v∨y=.slice (some ⟨W.heap.size,0,none⟩) 6 6∨y ∈ S.all:=by
   simp only [Y2.all,List.mem_append,List.mem_cons,List.not_mem_nil,or_false] at hy ⊢
   rcases hy with (((hy | hy) | hy) | hy) | hy
   ·simp [hy]
   ·simp [hy]
   ·rcases hy with hy | hy <;> simp [hy]
   ·rcases hy with hy | hy | hy <;> simp [hy]
   ·simp [hy]
  rcases hys with rfl | rfl | hys
  ·rcases r.2 with ⟨h0,_⟩ | ⟨g',cap',cur',h0,_,hh,_⟩
   ·rw [h0] at hyb
    cases hyb
   ·rw [h0] at hyb
    have e3:g'=V:=by simpa [Value.ownBlock] using hyb
    subst e3
    rw [hb6] at hh
    simp at hh
  ·have e3:W.heap.size=V:=by simpa [Value.ownBlock] using hyb
   have:=st.var.lt
   omega
  ·exact hv.ne (List.mem_filterMap.2 ⟨y,hys,hyb⟩)
 have c2:=Chg.of_grown (V5 w6 V 5 v) (bs:=[V]) (by simp)
 refine ⟨_,_,BeIn.of_var st8 (hbel.trans ((Below.refl _ _).setCell (p:=⟨V,5,none⟩) hv.le _)) ⟨?_,o1.chg c2 fun k hk hm=>hV (by rw [List.mem_singleton.1 hm] at hk;exact hk),hv.le,hV⟩ st8.going.bent_muts⟩
 have:=heap_setCell_same w6 V 5 _ _ v hb6
 simpa [Y2.cells] using this
end
end Go.Proofs.YtilkidaihbhfpaaGreat
