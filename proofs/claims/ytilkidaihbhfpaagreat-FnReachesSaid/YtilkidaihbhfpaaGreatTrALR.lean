import Derived.Test.YtilkidaihbhfpaaGreatTrA
import Derived.Test.YtilkidaihbhfpaaGreatTrN
import Derived.Test.YtilkidaihbhfpaaGreatTrIW
import Derived.Test.YtilkidaihbhfpaaGreatShelf
import Derived.Test.YtilkidaihbhfpaaGreatTrSW
import Derived.Test.YtilkidaihbhfpaaGreatShelfC
import Derived.Test.YtilkidaihbhfpaaGreatTrSOwn4
import Derived.Sort.OwnSorted
import Derived.Sort.Grow
import Derived.Lib.OwnBridge
import Derived.Test.YtilkidaihbhfpaaGreatTrP
import Derived.Test.YtilkidaihbhfpaaGreatTrSameInts
import Derived.Test.YtilkidaihbhfpaaGreatTrCaps
import Derived.Test.YtilkidaihbhfpaaGreatTrSTake2
import Derived.Test.YtilkidaihbhfpaaGreatTrPR

set_option maxRecDepth 100000
set_option maxHeartbeats 16000000
namespace Go.Proofs.YtilkidaihbhfpaaGreat
open Go.RowKit
set_option linter.unusedVariables false
def zis (D:WD) (addr:Int):Prop:=∃ k j:Nat,Z9 D∧V9 D addr k j∧G3 D k j
theorem zll (v:Value) (D:WD) (hm:zhj D) (addr:Int) (ha:I64 addr) (w:World) (hr:RdW w v D) :
  Calls Tryz.prog 24 #[v,.int .i64 addr] w fun e w'=>IsB (zis D addr) e∧Below w.heap.size w w':=by
 have hm':=zaa hm
 have ha':=zaa ha
 clear hm ha
 obtain ⟨vw,vd,vs,vm,vg,rfl,a1,a2,a3,a4,a5⟩:=hr
 have bx:=Y7 w (.cells #[.int .i64 D.base,.int .i64 D.pages,vw,vd,vs,vm,.int .i64 D.phase,.int .i64 D.next,vg] 30)
 have bw:=Z5 w (.cells #[.int .i64 D.base,.int .i64 D.pages,vw,vd,vs,vm,.int .i64 D.phase,.int .i64 D.next,vg] 30)
 have hW:=zaa (show RdW (w.alloc (.cells #[.int .i64 D.base,.int .i64 D.pages,vw,vd,vs,vm,.int .i64 D.phase,.int .i64 D.next,vg] 30)) (.agg #[.int .i64 D.base,.int .i64 D.pages,vw,vd,vs,vm,.int .i64 D.phase,.int .i64 D.next,vg]) D from ⟨vw,vd,vs,vm,vg,rfl,a1.below bw,a2.below bw,a3.below bw,a4.below bw,a5.below bw⟩)
 have hBx:=zaa (show BoxW (w.alloc (.cells #[.int .i64 D.base,.int .i64 D.pages,vw,vd,vs,vm,.int .i64 D.phase,.int .i64 D.next,vg] 30)) w.heap.size (.agg #[.int .i64 D.base,.int .i64 D.pages,vw,vd,vs,vm,.int .i64 D.phase,.int .i64 D.next,vg]) from ⟨_,rfl,bx⟩)
 have bw':=zaa bw
 clear a1 a2 a3 a4 a5 bx bw
 go_enter Tryz.func24,Tryz.ntmps24
 go_wp2_with fail
 refine (zws _ D hm'.out addr ha'.out _ hW.out).mono ?_
 rintro e w1 ⟨⟨r,q,rfl,hq⟩,b1⟩
 have bb1:=zaa (Z3 bw'.out b1)
 have hW1:=zaa (hW.out.below b1)
 have hB1:=zaa (hBx.out.below b1)
 have hq':=zaa hq
 clear b1 hq
 rcases hq'.out with ⟨k,j,hF,ho,rfl,rfl⟩ | ⟨hn,rfl,rfl⟩
 case inr =>
  have n:=zaa (show ¬ zis D addr from fun ⟨k,j,hF,ho,_⟩=>hn hF k j ho)
  clear hn hq'
  go_wp2_with fail
  go_ret
  exact ⟨IsB.no n.out,bb1.out⟩
 have hF':=zaa hF
 have ho':=zaa ho
 clear hF ho hq'
 obtain ⟨s,hs,hj,_⟩:=ho'.out
 have A:=hF'.out.span k s hs
 have hmk:=hm'.out k s hs
 have hm0:=A.mk0
 have hl:=A.lens
 have h16:=(E9 s.cls).2
 unfold I64 at hmk
 have hcall:=zaa (zjb w.heap.size _ D k j s hs ⟨hm0,hmk.2,by omega⟩ w1 hW1.out hB1.out)
 have hk0:decide ((k:Int) ≥ 0)=true:=decide_eq_true (by omega)
 clear hs hj A hmk hm0 hl h16
 go_wp2_with fail
 refine hcall.out.mono ?_
 rintro e w2 ⟨hq,b2⟩
 have bb2:=zaa (Z3 bb1.out b2)
 rcases hq.elim with ⟨hd,rfl⟩ | ⟨hd,rfl⟩
 ·have y:=zaa (show zis D addr from ⟨k,j,hF'.out,ho'.out,hd⟩)
  clear hd hq b2
  go_wp2_with fail
  go_ret
  exact ⟨IsB.yes y.out,bb2.out⟩
 ·have n:=zaa (show ¬ zis D addr from fun ⟨k2,j2,_,ho2,h2⟩=>by
   obtain ⟨rfl,rfl⟩:=ho'.out.unique hF'.out ho2
   exact hd h2)
  clear hd hq b2
  go_wp2_with fail
  go_ret
  exact ⟨IsB.no n.out,bb2.out⟩
theorem zio (v:Value) (D:WD) (hm:zhj D) (hI:AllI D.words) (hcap:CapW v) (af:Option Addr) (cf:Nat) (fr:List Int) (hfI:AllI fr) (hfr:fr.length≤1048576) (w:World) (hr:RdW w v D) (hf:Rd w (.slice af fr.length cf) fr) :
  Calls Tryz.prog 8 #[v,.slice af fr.length cf] w fun e w'=>∃ L u,N7 D fr L∧e=.returned u∧w'.ownsRow w.heap.size 3 1 u L.length (L.map (Value.int .i64))∧Below w.heap.size w w':=by
 have hm':=zaa hm
 have hI':=zaa hI
 have hcap':=zaa hcap
 have hfI':=zaa hfI
 have hf':=zaa hf
 clear hm hI hcap hfI hf
 obtain ⟨vw,vd,vs,vm,vg,rfl,a1,a2,a3,a4,a5⟩:=hr
 have bx:=Y7 w (.cells #[.int .i64 D.base,.int .i64 D.pages,vw,vd,vs,vm,.int .i64 D.phase,.int .i64 D.next,vg] 30)
 have bw:=Z5 w (.cells #[.int .i64 D.base,.int .i64 D.pages,vw,vd,vs,vm,.int .i64 D.phase,.int .i64 D.next,vg] 30)
 have hW:=zaa (show RdW (w.alloc (.cells #[.int .i64 D.base,.int .i64 D.pages,vw,vd,vs,vm,.int .i64 D.phase,.int .i64 D.next,vg] 30)) (.agg #[.int .i64 D.base,.int .i64 D.pages,vw,vd,vs,vm,.int .i64 D.phase,.int .i64 D.next,vg]) D from ⟨vw,vd,vs,vm,vg,rfl,a1.below bw,a2.below bw,a3.below bw,a4.below bw,a5.below bw⟩)
 have hBx:=zaa (show BoxW (w.alloc (.cells #[.int .i64 D.base,.int .i64 D.pages,vw,vd,vs,vm,.int .i64 D.phase,.int .i64 D.next,vg] 30)) w.heap.size (.agg #[.int .i64 D.base,.int .i64 D.pages,vw,vd,vs,vm,.int .i64 D.phase,.int .i64 D.next,vg]) from ⟨_,rfl,bx⟩)
 have bw':=zaa bw
 clear a1 a2 a3 a4 a5 bx bw
 have hf2:=zaa (hf'.out.below bw'.out)
 clear hf'
 go_enter Tryz.func8,Tryz.ntmps8
 go_wp2_with fail
 refine (F8 _ D hm'.out _ hW.out).mono ?_
 rintro e w1 ⟨hq,b1⟩
 have hq:=hq.elim
 obtain ⟨x1,rfl⟩:=Ext.of b1
 clear b1
 generalize w.alloc (.cells #[.int .i64 D.base,.int .i64 D.pages,vw,vd,vs,vm,.int .i64 D.phase,.int .i64 D.next,vg] 30)=W at *
 rcases hq with ⟨hF,rfl⟩ | ⟨hF,rfl⟩
 case inr =>
  have y:=zaa (show N7 D fr [] from .inr ⟨hF,rfl⟩)
  clear hF
  go_wp2_with fail
  go_ret
  exact ⟨[],_,y.out,rfl,World.ownsRow_nil _ _ _ _,Z3 bw'.out x1.below⟩
 have hF':=zaa hF
 have hcall:=zaa (zkt w.heap.size _ D hF x1.val (hW.out.below x1.below) (hBx.out.below x1.below))
 clear hF
 go_wp2_with fail
 refine hcall.out.mono ?_
 rintro e w2 ⟨V,g,n,M,rfl,hv,b2⟩
 have b2':=zaa (Z3 x1.below b2)
 have hsp:=zaa (zqo V w.heap.size g n M _ D hF'.out hI'.out hcap'.out af cf fr hfI'.out hfr w2 (hW.out.below b2'.out) (hBx.out.below b2'.out) hv (hf2.out.below b2'.out))
 have bb2:=zaa (Z3 bw'.out b2'.out)
 clear hv b2 hcall
 go_wp2_with fail
 refine hsp.out.mono ?_
 rintro e w3 ⟨g',S,hS,rfl,hM,hg,b3⟩
 have hS':=zaa hS
 have bb3:=zaa (Z3 bb2.out b3)
 obtain ⟨M',hM1,hM2⟩:=hM.out
 have hM1':=zaa hM1
 have hM2':=zaa hM2
 have hl:=zfr (n:=384) (lo:=D.base) hS.out.1 fun a ha=>zfq hF'.out ((hS.out.2 a).1 ha).obj
 have hsz:=zaa (World.ownsMap.size_le hM2)
 have hsort:=zaa (Tryz.sorted_at g' S.length M' F4 w3 hM2 (by have:=hsz.out;unfold maxLen;omega) (by have:=hsz.out;omega))
 clear hS hM hM1 hM2 hg b3 hsp
 go_wp2_with (first
  | (go_at_call 35;refine (Tryz.keys_at _ _).mono ?_;rintro e w4 ⟨rfl,rfl⟩)
  | (go_at_call 34;refine hsort.out.mono ?_;rintro e w5 ⟨v5,ss,rfl,hp,hrow,hnil,b5⟩;have hk:=zaa (zyw hM2'.out hM1'.out hS'.out.1 hp);have hrow':=zaa hrow;have hp':=zaa hp;have b5':=zaa b5;clear hnil hrow hp b5))
 go_ret
 have hlen:(srt ss).length=ss.length:=zxo ss
 refine ⟨srt ss,_,.inl ⟨hF'.out,hk.out.1,fun a=>(hk.out.2 a).trans (hS'.out.2 a)⟩,rfl,?_,?_⟩
 ·rw [hlen]
  exact V6 hrow'.out (by have:=bb3.out.size;omega)
 ·exact bb3.out.trans ((Z5 w3 _).mono bb3.out.size |>.trans (b5'.out.mono (by have:=bb3.out.size;omega)))
end Go.Proofs.YtilkidaihbhfpaaGreat

namespace Go.Proofs.YtilkidaihbhfpaaGreat
open Go.RowKit Go.Sort
set_option linter.unusedVariables false
def zkc (D:WD) (m:Nat):List Int:=(D.muts.take m).flatMap nz
theorem ztn {D:WD} {m:Nat} {r:List Int} (h:D.muts[m]?=some r):zkc D (m+1)=zkc D m ++ nz r:=by
 have hlt:=(List.getElem?_eq_some_iff.1 h).1
 unfold zkc
 rw [List.take_succ_eq_append_getElem hlt,List.flatMap_append]
 have e:D.muts[m]=r:=(List.getElem?_eq_some_iff.1 h).2
 simp [e]
theorem zwd (L:List Int) (y:Int):y ∈ nz L↔y≠0∧y ∈ L:=by
 unfold nz
 rw [List.mem_filter]
 simp
 exact And.comm
theorem zto {D:WD} (hF:Z9 D) (hl:(zkc D D.muts.length).length≤1048576):L0 D (cmp (zkc D D.muts.length)):=by
 refine .inl ⟨hF,cmp_asc _,fun y=>?_,Nat.le_trans (Lib.compact_length_le _) (by unfold srt;rw [List.length_mergeSort];exact hl)⟩
 rw [zww]
 unfold zkc
 rw [List.take_length,List.mem_flatMap]
 constructor
 ·rintro ⟨r,hr,hy⟩
  have:=(zwd r y).1 hy
  exact ⟨this.1,r,hr,this.2⟩
 ·rintro ⟨h0,r,hr,hy⟩
  exact ⟨r,hr,(zwd r y).2 ⟨h0,hy⟩⟩
theorem znz (w:World) (os:Array Obj):Below w.heap.size w (grow w os):=⟨rfl,rfl,rfl,by simp,fun j hj=>heap_grow_old _ _ hj⟩
theorem zpz {B:Nat} {w0 w:World} {g q:Nat} {d:Array Int} (h:Below B w0 w) (hg:B≤g):Below B w0 (putRow (Value.int .i64) (Sort.ahead w q) g 0 d):=Lib.below_putRow h hg
theorem zku (L:List Int):(srt L).length=L.length:=by unfold srt;exact List.length_mergeSort L
theorem zpg {B:Nat} {w w1:World} {a:Option Addr} {c:Nat} {L:List Int} (hl:L.length≤1048576) (hown:w1.ownsRow B 3 1 (.slice a L.length c) L.length (L.map (Value.int .i64))) (hbel:Below B w w1) (hB:B≤w1.heap.size) :
  Calls Tryz.prog 43 #[.slice a L.length c] w1 fun e w2=>e=.returned (.tuple #[])∧Hid (Calls Tryz.prog 44 #[.slice a L.length c] w2 fun e w3=>e=.returned (.slice a (cmp L).length c)∧w3.ownsRow B 3 1 (.slice a (cmp L).length c) (cmp L).length ((cmp L).map (Value.int .i64))∧Below B w w3):=by
 by_cases hn:L=[]
 ·subst hn
  have he:cmp []=[]:=List.eq_nil_iff_forall_not_mem.2 fun y hy=>by simpa using (zww [] y).1 hy
  rw [he]
  refine (Tryz.slices_Sort_int_none a c w1).mono fun e w2 ⟨h1,h2⟩=>⟨h1,?_⟩
  subst h2
  refine zaa ((Tryz.slices_Compact_int_empty a c w2).mono fun e w3 ⟨h1,h2⟩=>⟨h1,?_⟩)
  subst h2
  exact ⟨hown,hbel⟩
 have hnn:(Value.slice a L.length c)≠.slice none 0 0:=fun e=>by
  injection e with _ e2
  exact hn (List.length_eq_zero_iff.1 e2)
 obtain ⟨g,cap,he,hbg,hgl,hncap,hcm,hlen,hH⟩:=Lib.holds_of_ownsRow hown hnn
 cases he
 refine (Tryz.slices_Sort_int g 0 c L w1 hH hgl (by omega)).mono fun e w2 ⟨h1,nn,os,h2⟩=>⟨h1,?_⟩
 have hH1:Holds (Value.int .i64) (putRow (Value.int .i64) (Sort.ahead w1 nn) g 0 (srt L).toArray) g 0 (srt L).toArray:=holds_putRow (Value.int .i64) _ g 0 _ _ (holds_ahead (Value.int .i64) w1 nn g 0 _ hH) (by simp [zku])
 have hH2:Holds (Value.int .i64) w2 g 0 (srt L).toArray:=by
  rw [h2]
  exact holds_grow (Value.int .i64) _ os g 0 _ (by simpa [putRow,mapBlock,Sort.ahead] using hgl) hH1
 have hs:(putRow (Value.int .i64) (Sort.ahead w1 nn) g 0 (srt L).toArray).ownsRow B 3 1 (.slice (some ⟨g,0,none⟩) L.length c) L.length ((srt L).map (Value.int .i64)):=by
  have:=Lib.ownsRow_putRow (q:=nn) (k:=L.length) (ys:=srt L) hown (zku L) (Nat.le_refl _)
  rwa [List.take_of_length_le (by rw [zku];exact Nat.le_refl _)] at this
 have hs2:w2.ownsRow B 3 1 (.slice (some ⟨g,0,none⟩) L.length c) L.length ((srt L).map (Value.int .i64)):=by
  rw [h2]
  exact X4 hs (Chg.of_below (znz _ os) []) (fun q hq=>by simp)
 have hb2:Below B w w2:=by
  rw [h2]
  have h3:Below B w (putRow (Value.int .i64) (Sort.ahead w1 nn) g 0 (srt L).toArray):=zpz hbel hbg
  exact h3.trans ((znz _ os).mono (by simpa [putRow,mapBlock,Sort.ahead] using hB))
 have hcl:=Lib.compact_length_le (srt L)
 have hc:=Tryz.slices_Compact_int g 0 c (srt L) w2 hH2 (by rw [zku];omega) (by rw [zku];exact hncap)
 rw [zku] at hc hcl
 refine zaa (hc.mono fun e w3 ⟨h3,q,h4⟩=>⟨h3,?_⟩)
 rw [h4]
 refine ⟨?_,zpz hb2 hbg⟩
 have:=Lib.ownsRow_putRow (q:=q) (k:=(cmp L).length) (ys:=Lib.compact (srt L) ++ List.replicate (L.length-(Lib.compact (srt L)).length) 0) hs2 (by simp;omega) (by exact hcl)
 rwa [show cmp L=Lib.compact (srt L) from rfl,List.take_left] at this
theorem zge (v:Value) (D:WD) (hm:zhj D) (w:World) (hr:RdW w v D) :
  Calls Tryz.prog 14 #[v] w fun e w'=>∃ L u,L0 D L∧e=.returned u∧w'.ownsRow w.heap.size 3 1 u L.length (L.map (Value.int .i64))∧Below w.heap.size w w':=by
 have hm':=zaa hm
 clear hm
 obtain ⟨vw,vd,vs,vm,vg,rfl,a1,a2,a3,a4,a5⟩:=hr
 have bx:=Y7 w (.cells #[.int .i64 D.base,.int .i64 D.pages,vw,vd,vs,vm,.int .i64 D.phase,.int .i64 D.next,vg] 30)
 have bw:=Z5 w (.cells #[.int .i64 D.base,.int .i64 D.pages,vw,vd,vs,vm,.int .i64 D.phase,.int .i64 D.next,vg] 30)
 have hW:=zaa (show RdW (w.alloc (.cells #[.int .i64 D.base,.int .i64 D.pages,vw,vd,vs,vm,.int .i64 D.phase,.int .i64 D.next,vg] 30)) (.agg #[.int .i64 D.base,.int .i64 D.pages,vw,vd,vs,vm,.int .i64 D.phase,.int .i64 D.next,vg]) D from ⟨vw,vd,vs,vm,vg,rfl,a1.below bw,a2.below bw,a3.below bw,a4.below bw,a5.below bw⟩)
 have hBx:=zaa (show BoxW (w.alloc (.cells #[.int .i64 D.base,.int .i64 D.pages,vw,vd,vs,vm,.int .i64 D.phase,.int .i64 D.next,vg] 30)) w.heap.size (.agg #[.int .i64 D.base,.int .i64 D.pages,vw,vd,vs,vm,.int .i64 D.phase,.int .i64 D.next,vg]) from ⟨_,rfl,bx⟩)
 have bw':=zaa bw
 clear a1 a2 a3 a4 a5 bx bw
 go_enter Tryz.func14,Tryz.ntmps14
 go_wp2_with fail
 refine (F8 _ D hm'.out _ hW.out).mono ?_
 rintro e w1 ⟨hq,b1⟩
 have hq:=hq.elim
 obtain ⟨x1,rfl⟩:=Ext.of b1
 clear b1
 generalize w.alloc (.cells #[.int .i64 D.base,.int .i64 D.pages,vw,vd,vs,vm,.int .i64 D.phase,.int .i64 D.next,vg] 30)=W at *
 rcases hq with ⟨hF,rfl⟩ | ⟨hF,rfl⟩
 case inr =>
  have y:=zaa (show L0 D [] from .inr ⟨hF,rfl⟩)
  clear hF
  go_wp2_with fail
  go_ret
  exact ⟨[],_,y.out,rfl,World.ownsRow_nil _ _ _ _,Z3 bw'.out x1.below⟩
 have hF':=zaa hF
 have hg:=hF.geo.2.2.2.2.2.2
 obtain ⟨aM,cM,rfl,hml,hx⟩:=hW.out.parts.2.2.2.1
 have hx':=zaa hx
 have g0:=hBx.out.elim fun cs h=>by obtain rfl:=(Value.agg.inj h.1).symm;exact Z0 h.2 5 (.slice aM D.muts.length cM) rfl
 have G:=zaa (fun (w':World) (hb:Below W.heap.size W w')=>Z8 hb g0)
 have g5:=G.out _ x1.below
 have hxb:=zaa x1.below
 unfold maxLen at hml
 clear hx hF g0
 go_wp2_with fail
 clear g5
 go_loopw [3,11] (fun v i wr=>∃ (m:Nat),m≤D.muts.length∧i=.int .i64 m∧wr.ownsRow W.heap.size 3 1 v (zkc D m).length ((zkc D m).map (Value.int .i64))∧Below W.heap.size W wr∧(zkc D m).length≤m*6) (fun v i _=>D.muts.length-(intOf i).toNat)
 case atStart=>exact ⟨0,Nat.zero_le _,rfl,World.ownsRow_nil _ _ _ _,hxb.out,by simp [zkc]⟩
 case round =>
  obtain ⟨m,hm,rfl,hown,hB,hjl⟩:=hrel
  have g5:=G.out _ hB
  have hBs:=hB.size
  by_cases hlt:m<D.muts.length
  ·have hlt1:(m:Int)<(D.muts.length:Int):=by omega
   obtain ⟨r,hmr⟩:∃ r,D.muts[m]?=some r:=⟨_,List.getElem?_eq_getElem hlt⟩
   have h6:=hF'.out.roots m r hmr
   obtain ⟨bM,oM,vr,rfl,xm0,hrd⟩:=hx'.out m r hmr
   obtain ⟨ar,cr,rfl,hrl,xr⟩:=id hrd
   have xm:=Z8 hB xm0
   have hz:=zaa (zhk ar cr r (by omega) wr (hrd.below hB))
   have hjs:=zaa (ztn hmr)
   have hnl:(nz r).length≤6:=by have:=List.length_filter_le (fun x:Int=>x != 0) r;unfold nz;omega
   generalize nz r=Z at *
   have hown':=zaa hown
   have hB':=zaa hB
   clear xm0 hrd xr hmr hown hB h6 hrl
   go_wp2_with (first
    | (go_at_call 42;refine hz.out.mono ?_;rintro e w2 ⟨u,rfl,hu,b2⟩;obtain ⟨au,cu,rfl⟩:=Y4 hu;have hsrc:=zaa (Rd.src (Rd.of_owns hu));have ho:=zaa (X4 hown'.out (Chg.of_below b2 []) (fun q hq=>by simp));have hB2:=zaa (Z3 hB'.out b2);have hz2:=zaa (show W.heap.size≤w2.heap.size from hB2.out.size);clear hu b2)
    | (at_builtin;refine R6 rfl (.tmp 14) (.tmp 21) 23 rfl W.heap.size 3 (.int .i64 0) 1 8 Tryz.underlying23 M0 rfl (by decide) _ _ _ rfl ho.out au Z.length cu (Z.map (Value.int .i64)) rfl hsrc.out (by unfold maxLen;omega) (by omega) hz2.out ?_;intro v' w3 hown3 hgrow3))
   have hB3:=P9 hB2.out ho.out hgrow3 hz2.out
   have ho3:w3.ownsRow W.heap.size 3 1 v' (zkc D m ++ Z).length ((zkc D m ++ Z).map (Value.int .i64)):=by simpa using hown3
   have hl3:(zkc D m ++ Z).length≤(m+1)*6:=by rw [List.length_append];omega
   clear hown3 hgrow3 g5 xm
   go_wp2_with fail
   go_roundw
   case rel=>exact ⟨m+1,by omega,by go_num,by rw [hjs.out];exact ho3,hB3,by rw [hjs.out];exact hl3⟩
   case measure=>simp [intOf];omega
  ·obtain rfl:m=D.muts.length:=by omega
   have y:=zaa (zto hF'.out (by omega))
   obtain ⟨a,c,rfl⟩:=Y4 hown
   have hb0:=zaa (bw'.out.size)
   have hsort:=zaa (zpg (by omega) hown hB hBs)
   clear hown hB hjl
   generalize zkc D D.muts.length=N at *
   go_wp2_with (first
    | (go_at_call 43;refine hsort.out.mono ?_;rintro e w2 ⟨rfl,hcomp⟩)
    | (go_at_call 44;refine hcomp.out.mono ?_;rintro e w3 ⟨rfl,ho3,hb3⟩;have ho3':=zaa ho3;have hb3':=zaa hb3;clear ho3 hb3))
   go_ret
   exact ⟨_,_,y.out,rfl,V6 ho3'.out hb0.out,Z3 bw'.out hb3'.out⟩
end Go.Proofs.YtilkidaihbhfpaaGreat

namespace Go.Proofs.YtilkidaihbhfpaaGreat
open Go.RowKit
set_option linter.unusedVariables false
theorem Rd.lit1 {w:World} {b:Nat} {x:Int} (h:w.heap[b]?=some (.cells #[.int .i64 x] 3 (0,0))):Rd w (.slice (some ⟨b,0,none⟩) 1 1) [x] :=
 ⟨_,_,rfl,by simp [maxLen],fun j hj=>⟨b,0,rfl,by
  obtain rfl:j=0:=by simp at hj;omega
  exact Z0 h 0 (.int .i64 x) rfl⟩⟩
theorem Rd.lit2 {w:World} {b:Nat} {x y:Int} (h:w.heap[b]?=some (.cells #[.int .i64 x,.int .i64 y] 3 (0,0))):Rd w (.slice (some ⟨b,0,none⟩) 2 2) [x,y] :=
 ⟨_,_,rfl,by simp [maxLen],fun j hj=>⟨b,0,rfl,by
  rcases j with _ | _ | j
  ·exact Z0 h 0 (.int .i64 x) rfl
  ·exact Z0 h 1 (.int .i64 y) rfl
  ·exfalso;simp at hj;omega⟩⟩
theorem ztg (D:WD) (fD:FitD D) (kW:U8 D) (kP:zkk D 64 [66]) (kR:N7 D [64] [64,66]) (kO:L0 D [64]) (kD:¬ zis D 64) (kS:¬ zoc D 0)
  (hp:∀ w,Calls Tryz.prog 45 #[] w fun e w'=>∃ S,e=.returned (S.val D)∧OwnW w' w.heap.size S D∧Below w.heap.size w w') (w:World) :
  Calls Tryz.prog 15 #[] w fun e w'=>e=.returned (.bool true)∧Below w.heap.size w w':=by
 have hp':=zaa (hp w)
 have i64:I64 64:=by unfold I64;omega
 have cW:=zaa (fun v w c h=>zli v D fD c w h)
 have cP:=zaa (fun v w c h=>zkd v D fD.marks 64 i64 c w h)
 have cR:=zaa (fun v w c a h hf=>zio v D fD.marks fD.words c a 1 [64] (fun x hx=>by rw [List.mem_singleton.1 hx];exact i64) (by simp) w h hf)
 have cO:=zaa (fun v w h=>zge v D fD.marks w h)
 have cD:=zaa (fun v w h=>zll v D fD.marks 64 i64 w h)
 have cS:=zaa (fun v w h=>zvg v D fD.marks 0 w h)
 have kW':=zaa kW
 have kP':=zaa kP
 have kR':=zaa kR
 have kO':=zaa kO
 have kD':=zaa kD
 have kS':=zaa kS
 clear fD kW kP kR kO kD kS hp i64
 go_enter Tryz.func15,Tryz.ntmps15
 go_wp2_with fail
 refine hp'.out.mono ?_
 rintro e w1 ⟨S1,rfl,h1,b1⟩
 obtain ⟨aw1,ad1,aS1,am1,ag1,cw1,cd1,cS1,cm1,cg1,sv1,mv1,rfl⟩:=Y5.lits h1
 have bb1:=zaa (Z3 b1 (Z5 w1 (.cells #[.int .i64 D.base,.int .i64 D.pages,.slice aw1 D.words.length cw1,.slice ad1 D.dirty.length cd1,.slice aS1 D.spans.length cS1,.slice am1 D.muts.length cm1,.int .i64 D.phase,.int .i64 D.next,.slice ag1 D.grey.length cg1] 30)))
 have x1:=zaa (Y7 w1 (.cells #[.int .i64 D.base,.int .i64 D.pages,.slice aw1 D.words.length cw1,.slice ad1 D.dirty.length cd1,.slice aS1 D.spans.length cS1,.slice am1 D.muts.length cm1,.int .i64 D.phase,.int .i64 D.next,.slice ag1 D.grey.length cg1] 30))
 have hcw:=zaa h1.capWords
 have o1:=zaa (h1.below (Z5 w1 (.cells #[.int .i64 D.base,.int .i64 D.pages,.slice aw1 D.words.length cw1,.slice ad1 D.dirty.length cd1,.slice aS1 D.spans.length cS1,.slice am1 D.muts.length cm1,.int .i64 D.phase,.int .i64 D.next,.slice ag1 D.grey.length cg1] 30))).rd
 clear h1 b1 hp'
 dsimp only [Y5.val] at hcw o1 ⊢
 go_upto_region 2 with fail
 generalize w1.alloc (.cells #[.int .i64 D.base,.int .i64 D.pages,.slice aw1 D.words.length cw1,.slice ad1 D.dirty.length cd1,.slice aS1 D.spans.length cS1,.slice am1 D.muts.length cm1,.int .i64 D.phase,.int .i64 D.next,.slice ag1 D.grey.length cg1] 30)=W1 at *
 obtain ⟨f0,f1,f2,f3,f4,f5,f6,f7,f8⟩:=N1 x1.out
 go_wp2_with fail
 refine (cW.out _ _ hcw.out o1.out).mono ?_
 rintro e w2 ⟨hq,b2⟩
 obtain rfl:=hq.of_yes kW'.out
 have bb2:=zaa (Z3 bb1.out b2)
 have x2:=zaa (Z7 b2 x1.out)
 have o2:=zaa (o1.out.below b2)
 clear hq b2 cW bb1 x1 o1
 clear f0 f1 f2 f3 f4 f5 f6 f7 f8
 obtain ⟨f0,f1,f2,f3,f4,f5,f6,f7,f8⟩:=N1 x2.out
 go_wp2_with fail
 refine (cP.out _ _ hcw.out o2.out).mono ?_
 rintro e w3 ⟨L,u,hq,rfl,hu,b3⟩
 obtain rfl:=hq.unique kP'.out
 have c3:=Z5 w3 (.cells #[.int .i64 66] 3)
 have b3':=Z3 b3 c3
 have bb3:=zaa (Z3 bb2.out b3')
 have x3:=zaa (Z7 b3' x2.out)
 have o3:=zaa (o2.out.below b3')
 have ru:=zaa ((Rd.of_owns hu).below c3)
 have rl:=zaa (Rd.lit1 (Y7 w3 (.cells #[.int .i64 66] 3)))
 clear hq b3 b3' c3 hu cP bb2 x2 o2
 clear f0 f1 f2 f3 f4 f5 f6 f7 f8
 obtain ⟨f0,f1,f2,f3,f4,f5,f6,f7,f8⟩:=N1 x3.out
 go_wp2_with fail
 refine (zfm _ _ [66] _ ru.out rl.out).mono ?_
 rintro e w4 ⟨rfl,n4,rfl⟩
 have b4:Below (w3.alloc (.cells #[.int .i64 66] 3)).heap.size (w3.alloc (.cells #[.int .i64 66] 3)) ((w3.alloc (.cells #[.int .i64 66] 3)).drewN n4):=below_drewN (Below.refl _ _) n4
 have bb4:=zaa (Z3 bb3.out b4)
 have x4:=zaa (Z7 b4 x3.out)
 have o4:=zaa (o3.out.below b4)
 generalize (w3.alloc (.cells #[.int .i64 66] 3)).drewN n4=W4 at *
 clear b4 ru rl bb3 x3 o3
 clear f0 f1 f2 f3 f4 f5 f6 f7 f8
 obtain ⟨f0,f1,f2,f3,f4,f5,f6,f7,f8⟩:=N1 x4.out
 have c5:=Z5 W4 (.cells #[.int .i64 64] 3)
 have rf:=zaa (Rd.lit1 (Y7 W4 (.cells #[.int .i64 64] 3)))
 have bb5:=zaa (Z3 bb4.out c5)
 have x5:=zaa (Z7 c5 x4.out)
 have o5:=zaa (o4.out.below c5)
 clear c5 bb4 o4
 go_wp2_with fail
 refine (cR.out _ _ hcw.out _ o5.out rf.out).mono ?_
 rintro e w6 ⟨L,u,hq,rfl,hu,b6⟩
 obtain rfl:=hq.unique kR'.out
 have c6:=Z5 w6 (.cells #[.int .i64 64,.int .i64 66] 3)
 have b6':=Z3 b6 c6
 have bb6:=zaa (Z3 bb5.out b6')
 have x6:=zaa (Z7 b6' x5.out)
 have o6:=zaa (o5.out.below b6')
 have ru:=zaa ((Rd.of_owns hu).below c6)
 have rl:=zaa (Rd.lit2 (Y7 w6 (.cells #[.int .i64 64,.int .i64 66] 3)))
 clear hq b6 b6' c6 hu cR bb5 x4 x5 o5 rf
 clear f0 f1 f2 f3 f4 f5 f6 f7 f8
 obtain ⟨f0,f1,f2,f3,f4,f5,f6,f7,f8⟩:=N1 x6.out
 go_wp2_with fail
 refine (zfm _ _ [64,66] _ ru.out rl.out).mono ?_
 rintro e w7 ⟨rfl,n7,rfl⟩
 have b7:Below (w6.alloc (.cells #[.int .i64 64,.int .i64 66] 3)).heap.size (w6.alloc (.cells #[.int .i64 64,.int .i64 66] 3)) ((w6.alloc (.cells #[.int .i64 64,.int .i64 66] 3)).drewN n7):=below_drewN (Below.refl _ _) n7
 have bb7:=zaa (Z3 bb6.out b7)
 have x7:=zaa (Z7 b7 x6.out)
 have o7:=zaa (o6.out.below b7)
 generalize (w6.alloc (.cells #[.int .i64 64,.int .i64 66] 3)).drewN n7=W7 at *
 clear b7 ru rl bb6 x6 o6
 clear f0 f1 f2 f3 f4 f5 f6 f7 f8
 obtain ⟨f0,f1,f2,f3,f4,f5,f6,f7,f8⟩:=N1 x7.out
 go_wp2_with fail
 refine (cO.out _ _ o7.out).mono ?_
 rintro e w8 ⟨L,u,hq,rfl,hu,b8⟩
 obtain rfl:=hq.unique kO'.out
 have c8:=Z5 w8 (.cells #[.int .i64 64] 3)
 have b8':=Z3 b8 c8
 have bb8:=zaa (Z3 bb7.out b8')
 have x8:=zaa (Z7 b8' x7.out)
 have o8:=zaa (o7.out.below b8')
 have ru:=zaa ((Rd.of_owns hu).below c8)
 have rl:=zaa (Rd.lit1 (Y7 w8 (.cells #[.int .i64 64] 3)))
 clear hq b8 b8' c8 hu cO bb7 x7 o7
 clear f0 f1 f2 f3 f4 f5 f6 f7 f8
 obtain ⟨f0,f1,f2,f3,f4,f5,f6,f7,f8⟩:=N1 x8.out
 go_wp2_with fail
 refine (zfm _ _ [64] _ ru.out rl.out).mono ?_
 rintro e w9 ⟨rfl,n9,rfl⟩
 have b9:Below (w8.alloc (.cells #[.int .i64 64] 3)).heap.size (w8.alloc (.cells #[.int .i64 64] 3)) ((w8.alloc (.cells #[.int .i64 64] 3)).drewN n9):=below_drewN (Below.refl _ _) n9
 have bb9:=zaa (Z3 bb8.out b9)
 have x9:=zaa (Z7 b9 x8.out)
 have o9:=zaa (o8.out.below b9)
 generalize (w8.alloc (.cells #[.int .i64 64] 3)).drewN n9=W9 at *
 clear b9 ru rl bb8 x8 o8
 clear f0 f1 f2 f3 f4 f5 f6 f7 f8
 obtain ⟨f0,f1,f2,f3,f4,f5,f6,f7,f8⟩:=N1 x9.out
 go_wp2_with fail
 refine (cD.out _ _ o9.out).mono ?_
 rintro e w10 ⟨hq,b10⟩
 obtain rfl:=hq.of_no kD'.out
 have bb10:=zaa (Z3 bb9.out b10)
 have x10:=zaa (Z7 b10 x9.out)
 have o10:=zaa (o9.out.below b10)
 clear hq b10 cD bb9 x9 o9
 clear f0 f1 f2 f3 f4 f5 f6 f7 f8
 obtain ⟨f0,f1,f2,f3,f4,f5,f6,f7,f8⟩:=N1 x10.out
 go_wp2_with fail
 refine (cS.out _ _ o10.out).mono ?_
 rintro e w11 ⟨hq,b11⟩
 obtain rfl:=hq.of_no kS'.out
 have bb11:=zaa (Z3 bb10.out b11)
 clear hq b11 cS bb10 x10 o10
 clear f0 f1 f2 f3 f4 f5 f6 f7 f8
 go_wp2_with fail
 go_ret
 exact ⟨rfl,bb11.out⟩
theorem znm (w:World):Calls Tryz.prog 15 #[] w fun e w'=>e=.returned (.bool true)∧Below w.heap.size w w' :=
 ztg prD zom.2.fit zom.1 zqx zyq zyp (fun ⟨k,j,_,_,h⟩=>zyr k j h) (fun h=>zvs 0 h.2.2.2) zyu w
end Go.Proofs.YtilkidaihbhfpaaGreat
