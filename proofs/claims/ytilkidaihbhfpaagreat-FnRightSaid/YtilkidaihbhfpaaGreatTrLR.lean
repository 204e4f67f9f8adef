import Derived.Test.YtilkidaihbhfpaaGreatTrQ
import Derived.Test.YtilkidaihbhfpaaGreatTrSW
import Derived.Test.YtilkidaihbhfpaaGreatTrW
import Derived.Test.YtilkidaihbhfpaaGreatTrDRB
import Derived.Test.YtilkidaihbhfpaaGreatTrAt1
import Derived.Test.YtilkidaihbhfpaaGreatTrALR
import Derived.Test.YtilkidaihbhfpaaGreatTrP
import Derived.Test.YtilkidaihbhfpaaGreatTrSameInts
import Derived.Test.YtilkidaihbhfpaaGreatTrR
import Derived.Test.YtilkidaihbhfpaaGreatTrG

set_option maxRecDepth 100000
set_option maxHeartbeats 16000000
namespace Go.Proofs.YtilkidaihbhfpaaGreat
open Go.RowKit
set_option linter.unusedVariables false
theorem Led.more_from {D:WD} {F:Nat→Nat→Prop} {fr fr':List Int} (hs:∀ a,a ∈ fr→a ∈ fr') {a:Int} (h:Led D F fr a):Led D F fr' a:=by
 induction h with
 | start h1 h2=>exact .start (hs _ h1) h2
 | step h1 h2 h3 ih=>exact .step ih h2 h3
theorem N7.next {D:WD} {fr L P:List Int} {x y:Int} (h:N7 D fr L) (hx:x ∈ L) (hP:zkk D x P) (hy:y ∈ P) {k j:Nat} (ho:V9 D y k j):y ∈ L:=by
 rcases h with ⟨hF,_,m⟩ | ⟨_,rfl⟩
 ·rcases hP with ⟨k0,j0,s,_,ho0,hs,rfl⟩ | ⟨_,rfl⟩
  ·exact (m y).2 (.step ((m x).1 hx) ⟨k0,j0,s,ho0,hs,trivial,(List.mem_filter.1 hy).1⟩ ⟨k,j,ho⟩)
  ·exact absurd hy (by simp)
 ·exact absurd hx (by simp)
theorem N7.more {D:WD} {fr fr' L R:List Int} (h:N7 D fr L) (h':N7 D fr' R) (hs:∀ a,a ∈ fr→a ∈ fr') {a:Int} (ha:a ∈ L):a ∈ R:=by
 rcases h with ⟨hF,_,m⟩ | ⟨_,rfl⟩
 ·rcases h' with ⟨_,_,m'⟩ | ⟨hn,_⟩
  ·exact (m' a).2 (((m a).1 ha).more_from hs)
  ·exact absurd hF hn
 ·exact absurd ha (by simp)
theorem zut:∀ {Z J:List Int},Z.Nodup→(∀ y,y ∈ Z→y ∈ J)→Z.length≤J.length
 | [],_,_,_=>Nat.zero_le _
 | a :: Z,J,hn,hs=>by
  have hn':=List.nodup_cons.1 hn
  have ha:a ∈ J:=hs a (List.mem_cons_self ..)
  have:=zut (J:=J.erase a) hn'.2 fun y hy=>by
   have hne:y≠a:=fun e=>hn'.1 (e ▸ hy)
   exact (List.mem_erase_of_ne hne).2 (hs y (List.mem_cons_of_mem _ hy))
  rw [List.length_erase_of_mem ha] at this
  have:=List.length_pos_of_mem ha
  simp only [List.length_cons]
  omega
theorem zsa:∀ {L:List (List Int)},(∀ r,r ∈ L→r.length=6)→L.flatten.length=6*L.length
 | [],_=>rfl
 | r :: L,h=>by
  have:=zsa (L:=L) fun q hq=>h q (List.mem_cons_of_mem _ hq)
  have:=h r (List.mem_cons_self ..)
  simp only [List.flatten_cons,List.length_append,List.length_cons]
  omega
theorem L0.few {D:WD} {Z:List Int} (h:L0 D Z):Z.length≤18:=by
 rcases h with ⟨hF,ha,m,_⟩ | ⟨_,rfl⟩
 ·have hn:Z.Nodup:=ha.imp fun {a b} h e=>by omega
  have h1:=zut (J:=D.muts.flatten) hn fun y hy=>by
   obtain ⟨_,r,hr,hyr⟩:=(m y).1 hy
   exact List.mem_flatten.2 ⟨r,hr,hyr⟩
  have h2:=zsa (L:=D.muts) fun r hr=>by
   obtain ⟨k,hk⟩:=List.mem_iff_getElem?.1 hr
   exact hF.roots k r hk
  obtain ⟨g1,g2,g3,g4,g5,g6,g7⟩:=hF.geo
  omega
 ·exact Nat.zero_le _
theorem zrg (v:Value) (x:Int) (L:List Int) (w:World) (h1:Rd w v L) (hx:x ∈ L) :
  Calls Tryz.prog 13 #[v,.int .i64 x] w fun e w'=>e=.returned (.bool true)∧w=w':=by
 obtain ⟨a1,c1,rfl,hL,r1⟩:=h1
 unfold maxLen at hL
 obtain ⟨r1⟩:Nonempty (Hid _):=⟨zaa r1⟩
 obtain ⟨hx⟩:Nonempty (Hid _):=⟨zaa hx⟩
 go_enter Tryz.func13,Tryz.ntmps13
 go_wp2
 go_loop [5] (fun i=>∃ k:Nat,k≤L.length∧i=.int .i64 k∧x ∉ L.take k) (fun i=>L.length-(intOf i).toNat)
 case atStart=>exact ⟨0,Nat.zero_le _,rfl,by simp⟩
 case round =>
  obtain ⟨k,hk,rfl,hno⟩:=hrel
  by_cases hlt:k<L.length
  ·obtain ⟨b1,o1,rfl,x1⟩:=r1.out k hlt
   have hno':¬ L[k]?.getD 0=x→x ∉ L.take (k+1):=fun h=>by
    rw [List.take_succ_eq_append_getElem hlt]
    simp only [hlt,getElem?_pos,Option.getD_some] at h
    simp only [List.mem_append,List.mem_singleton,not_or]
    exact ⟨hno,fun e=>h e.symm⟩
   obtain ⟨hno'⟩:Nonempty (Hid _):=⟨zaa hno'⟩
   clear hno
   generalize L[k]?.getD 0=y at *
   by_cases he:y=x
   ·subst he
    clear hno'
    go_wp2
    go_ret
    exact ⟨rfl,rfl⟩
   ·have hn:=zaa (hno'.out he)
    have hb:(y == x)=false:=beq_eq_false_iff_ne.2 he
    clear hno'
    go_wp2
    go_round
    case rel=>exact ⟨k+1,by omega,by go_num,hn.out⟩
    case measure=>simp [intOf];omega
  ·exfalso
   obtain rfl:k=L.length:=by omega
   rw [List.take_length] at hno
   exact hno hx.out
end Go.Proofs.YtilkidaihbhfpaaGreat

namespace Go.Proofs.YtilkidaihbhfpaaGreat
open Go.RowKit
set_option linter.unusedVariables false
set_option linter.unusedSimpArgs false
theorem obj_i64 {D:WD} (hF:Z9 D) {a:Int} {k j:Nat} (h:V9 D a k j):I64 a:=by
 have r:=h.range hF
 have g:=hF.geo
 obtain ⟨g1,g2,g3,g4,g5,g6,g7⟩:=g
 unfold I64
 omega
theorem N7.i64 {D:WD} {fr L:List Int} (h:N7 D fr L) {x:Int} (hx:x ∈ L):I64 x:=by
 rcases h with ⟨hF,_,m⟩ | ⟨_,rfl⟩
 ·obtain ⟨k,j,ho⟩:=((m x).1 hx).obj
  exact obj_i64 hF ho
 ·exact absurd hx (by simp)
theorem L0.ints {D:WD} {Z fr:List Int} (h:L0 D Z) (hm:∀ r,r ∈ D.muts→AllI r) (hf:AllI fr):AllI (fr ++ Z):=fun y hy=>by
 rcases List.mem_append.1 hy with hy | hy
 ·exact hf y hy
 ·rcases h with ⟨_,_,m,_⟩ | ⟨_,rfl⟩
  ·obtain ⟨_,r,hr,hyr⟩:=(m y).1 hy
   exact hm r hr y hyr
  ·exact absurd hy (by simp)
theorem zpm (hH:∀ w:World,Calls Tryz.prog 15 #[] w fun e w'=>e=.returned (.bool true)∧Below w.heap.size w w')
  (a:Option Addr) (len cap:Nat) (w:World) (hb:zls w a len) (ha:0<len→∀ x,a=some x→x.block<w.heap.size) :
  Calls Tryz.prog 3 #[.slice a len cap] w fun e w'=>e=.returned (.bool true)∧Below w.heap.size w w':=by
 have hH':=zaa hH
 have hd:=zaa (zoq a len cap w hb ha)
 clear hH hb ha
 go_enter Tryz.func3,Tryz.ntmps3
 go_wp2_with fail
 refine hd.out.mono ?_
 rintro e w1 ⟨v,D,af,cf,fr,⟨hB,hcw,hcg,hrd⟩,hai,hl3,hrf,rfl,b1⟩
 obtain ⟨aw,ad,aS,am,ag,cw,cd,cS,cm,cg,rfl⟩:=hrd.written
 have bb1:=zaa (Z3 b1 (Z5 w1 (.cells #[.int .i64 D.base,.int .i64 D.pages,.slice aw D.words.length cw,.slice ad D.dirty.length cd,.slice aS D.spans.length cS,.slice am D.muts.length cm,.int .i64 D.phase,.int .i64 D.next,.slice ag D.grey.length cg] 30)))
 have x1:=zaa (Y7 w1 (.cells #[.int .i64 D.base,.int .i64 D.pages,.slice aw D.words.length cw,.slice ad D.dirty.length cd,.slice aS D.spans.length cS,.slice am D.muts.length cm,.int .i64 D.phase,.int .i64 D.next,.slice ag D.grey.length cg] 30))
 have o1:=zaa (hrd.below (Z5 w1 (.cells #[.int .i64 D.base,.int .i64 D.pages,.slice aw D.words.length cw,.slice ad D.dirty.length cd,.slice aS D.spans.length cS,.slice am D.muts.length cm,.int .i64 D.phase,.int .i64 D.next,.slice ag D.grey.length cg] 30)))
 have rf1:=zaa (hrf.below (Z5 w1 (.cells #[.int .i64 D.base,.int .i64 D.pages,.slice aw D.words.length cw,.slice ad D.dirty.length cd,.slice aS D.spans.length cS,.slice am D.muts.length cm,.int .i64 D.phase,.int .i64 D.next,.slice ag D.grey.length cg] 30)))
 have hm:=zaa hB.fit.marks
 have hw:=zaa hB.fit.words
 have hmut:=zaa hB.fit.muts
 have hcw':=zaa hcw
 have hai':=zaa hai
 have hfl:=zaa (show fr.length≤1048576 by omega)
 clear hB hcw hcg hrd hrf hai b1 hd
 unfold zpb at o1 hcw' ⊢
 go_upto_region 2 with fail
 generalize w1.alloc (.cells #[.int .i64 D.base,.int .i64 D.pages,.slice aw D.words.length cw,.slice ad D.dirty.length cd,.slice aS D.spans.length cS,.slice am D.muts.length cm,.int .i64 D.phase,.int .i64 D.next,.slice ag D.grey.length cg] 30)=W1 at *
 obtain ⟨f0,f1,f2,f3,f4,f5,f6,f7,f8⟩:=N1 x1.out
 go_wp2_with fail
 refine (zio _ D hm.out hw.out hcw'.out af cf fr hai'.out hfl.out _ o1.out rf1.out).mono ?_
 rintro e w2 ⟨L,u,hq,rfl,hu,b2⟩
 obtain ⟨au,cu,rfl⟩:=Y4 hu
 have hR:=zaa hq
 have bb2:=zaa (Z3 bb1.out b2)
 have x2:=zaa (Z7 b2 x1.out)
 have o2:=zaa (o1.out.below b2)
 have rf2:=zaa (rf1.out.below b2)
 have ru2:=zaa (Rd.of_owns hu)
 clear hq hu b2 bb1 x1 o1 rf1
 clear f0 f1 f2 f3 f4 f5 f6 f7 f8
 obtain ⟨f0,f1,f2,f3,f4,f5,f6,f7,f8⟩:=N1 x2.out
 go_wp2_with fail
 refine (zqm _ D _ fr hfl.out _ o2.out rf2.out).mono ?_
 rintro e w3 ⟨L',u',hq,rfl,hu,b3⟩
 obtain rfl:=hq.unique hR.out
 have bb3:=zaa (Z3 bb2.out b3)
 have x3:=zaa (Z7 b3 x2.out)
 have o3:=zaa (o2.out.below b3)
 have rf3:=zaa (rf2.out.below b3)
 have ru3:=zaa (ru2.out.below b3)
 have rv3:=zaa (Rd.of_owns hu)
 clear hq hu b3 bb2 x2 o2 rf2 ru2
 clear f0 f1 f2 f3 f4 f5 f6 f7 f8
 go_wp2_with fail
 refine (zfm _ _ L _ ru3.out rv3.out).mono ?_
 rintro e w4 ⟨rfl,n4,rfl⟩
 have b4:Below w3.heap.size w3 (w3.drewN n4):=below_drewN (Below.refl _ _) n4
 have bb4:=zaa (Z3 bb3.out b4)
 have x4:=zaa (Z7 b4 x3.out)
 have o4:=zaa (o3.out.below b4)
 have rf4:=zaa (rf3.out.below b4)
 have ru4:=zaa (ru3.out.below b4)
 generalize w3.drewN n4=W4 at *
 clear b4 bb3 x3 o3 rf3 ru3 rv3
 have hLl:=zaa (show L.length≤maxLen from ru4.out.elim fun _ h=>h.elim fun _ h=>h.2.1)
 go_wp2_with fail
 go_loopw [6] (fun i wr=>∃ k:Nat,k≤L.length∧i=.int .i64 k∧Hid (Below W4.heap.size W4 wr)) (fun i _=>L.length-(Go.RowKit.intOf i).toNat)
 case atStart=>exact ⟨0,Nat.zero_le _,rfl,zaa (Below.refl _ _)⟩
 case round =>
  obtain ⟨k,hk,rfl,hB⟩:=hrel
  have hLl':=hLl.out
  unfold maxLen at hLl'
  by_cases hlt:k<L.length
  ·have hlt1:(k:Int)<(L.length:Int):=by omega
   have xk:=zaa (Z7 hB.out x4.out)
   have ok:=zaa (o4.out.below hB.out)
   have rk:=zaa (ru4.out.below hB.out)
   obtain ⟨bu,ou,rfl,xe⟩:=rk.out.at1 k hlt
   have hxL:=zaa (zqa hlt)
   have xe':=zaa xe
   clear xe
   generalize L[k]?.getD 0=x at *
   have hx64:=zaa (hR.out.i64 hxL.out)
   have cP:=zaa (fun w' b=>zkd _ D hm.out x hx64.out hcw'.out w' (ok.out.below b))
   go_wp2_with fail
   refine U2 (fun w'=>w'.cell? ⟨w1.heap.size,0,none⟩=some (.int .i64 D.base)∧w'.cell? ⟨w1.heap.size,1,none⟩=some (.int .i64 D.pages)∧w'.cell? ⟨w1.heap.size,2,none⟩=some (.slice aw D.words.length cw)∧w'.cell? ⟨w1.heap.size,3,none⟩=some (.slice ad D.dirty.length cd)∧w'.cell? ⟨w1.heap.size,4,none⟩=some (.slice aS D.spans.length cS)∧w'.cell? ⟨w1.heap.size,5,none⟩=some (.slice am D.muts.length cm)∧w'.cell? ⟨w1.heap.size,6,none⟩=some (.int .i64 D.phase)∧w'.cell? ⟨w1.heap.size,7,none⟩=some (.int .i64 D.next)∧w'.cell? ⟨w1.heap.size,8,none⟩=some (.slice ag D.grey.length cg)∧w'.cell? ⟨bu,ou+k,none⟩=some (.int .i64 x)) (fun j=>j == 5 || j == 6) (by kernel_rfl) ?_
   intro wd hwd
   have bwd:=zaa (show Below wr.heap.size wr wd from by rw [hwd];exact below_drewN (Below.refl _ _) 1)
   clear hwd
   have xd:=Z7 bwd.out xk.out
   have h0:(fun w'=>w'.cell? ⟨w1.heap.size,0,none⟩=some (.int .i64 D.base)∧w'.cell? ⟨w1.heap.size,1,none⟩=some (.int .i64 D.pages)∧w'.cell? ⟨w1.heap.size,2,none⟩=some (.slice aw D.words.length cw)∧w'.cell? ⟨w1.heap.size,3,none⟩=some (.slice ad D.dirty.length cd)∧w'.cell? ⟨w1.heap.size,4,none⟩=some (.slice aS D.spans.length cS)∧w'.cell? ⟨w1.heap.size,5,none⟩=some (.slice am D.muts.length cm)∧w'.cell? ⟨w1.heap.size,6,none⟩=some (.int .i64 D.phase)∧w'.cell? ⟨w1.heap.size,7,none⟩=some (.int .i64 D.next)∧w'.cell? ⟨w1.heap.size,8,none⟩=some (.slice ag D.grey.length cg)∧w'.cell? ⟨bu,ou+k,none⟩=some (.int .i64 x)) wd:=⟨Z0 xd 0 (.int .i64 D.base) rfl,Z0 xd 1 (.int .i64 D.pages) rfl,Z0 xd 2 (.slice aw D.words.length cw) rfl,Z0 xd 3 (.slice ad D.dirty.length cd) rfl,Z0 xd 4 (.slice aS D.spans.length cS) rfl,Z0 xd 5 (.slice am D.muts.length cm) rfl,Z0 xd 6 (.int .i64 D.phase) rfl,Z0 xd 7 (.int .i64 D.next) rfl,Z0 xd 8 (.slice ag D.grey.length cg) rfl,Z8 bwd.out xe'.out⟩
   refine X9 (i:=0) (v:=?vq1) rfl (by kernel_rfl) (by kernel_rfl) (by kernel_rfl) (by kernel_rfl) (fun j hj=>by simp at hj;rcases hj with rfl | rfl <;> kernel_rfl) (fun _ _ _ h=>h) (Or.inl ⟨by rfl,?hyq1⟩) (by exact h0) ?restq1
   case hyq1=>(intro w hSw;(try dsimp only at hSw);obtain ⟨s0,s1,s2,s3,s4,s5,s6,s7,s8,s9⟩:=hSw;go_simp;try with_reducible rfl)
   try simp only [Act.put,List.setIfInBounds_toArray,List.set_cons_zero,List.set_cons_succ]
   refine Y3 (i:=1) (v:=?vq2) rfl (by kernel_rfl) (by kernel_rfl) (by kernel_rfl) rfl (fun _ _ _ h=>h) (Or.inl ⟨by rfl,?hyq2⟩) (fun _=>h0) ?restq2
   case hyq2=>(intro w _;go_simp;try with_reducible rfl)
   try simp only [Act.put,List.setIfInBounds_toArray,List.set_cons_zero,List.set_cons_succ]
   refine Y3 (i:=2) (v:=?vq3) rfl (by kernel_rfl) (by kernel_rfl) (by kernel_rfl) rfl (fun _ _ _ h=>h) (Or.inl ⟨by rfl,?hyq3⟩) (fun _=>h0) ?restq3
   case hyq3=>(intro w _;go_simp;try with_reducible rfl)
   try simp only [Act.put,List.setIfInBounds_toArray,List.set_cons_zero,List.set_cons_succ]
   refine Y3 (i:=3) (v:=?vq4) rfl (by kernel_rfl) (by kernel_rfl) (by kernel_rfl) rfl (fun _ _ _ h=>h) (Or.inl ⟨by rfl,?hyq4⟩) (fun _=>h0) ?restq4
   case hyq4=>(intro w _;go_simp;try with_reducible rfl)
   try simp only [Act.put,List.setIfInBounds_toArray,List.set_cons_zero,List.set_cons_succ]
   refine X9 (i:=4) (v:=?vq5) rfl (by kernel_rfl) (by kernel_rfl) (by kernel_rfl) (by kernel_rfl) (fun j hj=>by simp at hj;rcases hj with rfl | rfl <;> kernel_rfl) (fun _ _ _ h=>h) (Or.inl ⟨by rfl,?hyq5⟩) (by exact h0) ?restq5
   case hyq5=>(intro w hSw;(try dsimp only at hSw);obtain ⟨s0,s1,s2,s3,s4,s5,s6,s7,s8,s9⟩:=hSw;go_simp;try with_reducible rfl)
   try simp only [Act.put,List.setIfInBounds_toArray,List.set_cons_zero,List.set_cons_succ]
   refine X7 (rs:=[5]) (by kernel_rfl) (by simp) ?_
   intro i hi
   simp only [List.mem_cons,List.not_mem_nil,or_false] at hi
   subst hi
   refine Y9 (i:=5) rfl (fun K hK=>?_)
   go_simp
   go_wp2_with (go_at_call 11;refine (cP.out _ bwd.out).mono ?_;rintro e w5 ⟨P,uP,hP,rfl,hu5,b5⟩;obtain ⟨ap,cp,hup⟩:=Y4 hu5;subst hup;have hP':=zaa hP;have b45:=zaa (Z3 bwd.out b5);have rP:=zaa (Rd.of_owns hu5);clear hP hu5 b5)
   refine hK.out _ _ (fun h=>Bool.noConfusion ((h 5 (by kernel_rfl)).symm.trans (show _=true by kernel_rfl))) ?_
   clear hK K
   try simp only [Act.put,List.setIfInBounds_toArray,List.set_cons_zero,List.set_cons_succ]
   refine X7 (rs:=[6]) (by kernel_rfl) (by simp) ?_
   intro i hi
   simp only [List.mem_cons,List.not_mem_nil,or_false] at hi
   subst hi
   refine Y9 (i:=6) rfl (fun K hK=>?_)
   go_simp
   refine hK.out _ _ (fun h=>Bool.noConfusion ((h 5 (by kernel_rfl)).symm.trans (show _=true by kernel_rfl))) ?_
   clear hK K
   try simp only [Act.put,List.setIfInBounds_toArray,List.set_cons_zero,List.set_cons_succ]
   refine R8 (by kernel_rfl) ?_ _
   have x5:=zaa (Z7 b45.out xk.out)
   have o5:=zaa (ok.out.below b45.out)
   have hB5:=zaa (Z3 hB.out b45.out)
   have hPl:=zaa (show P.length≤maxLen from rP.out.elim fun _ h=>h.elim fun _ h=>h.2.1)
   clear b45 cP hx64 xe' ok rk bwd xd h0
   go_wp2_with fail
   go_loopw [8] (fun i wj=>∃ q:Nat,q≤P.length∧i=.int .i64 q∧Hid (Below w5.heap.size w5 wj)) (fun i _=>P.length-(Go.RowKit.intOf i).toNat)
   case atStart=>exact ⟨0,Nat.zero_le _,rfl,zaa (Below.refl _ _)⟩
   case round =>
    obtain ⟨q,hq,rfl,hBq⟩:=hrel
    have hPl':=hPl.out
    unfold maxLen at hPl'
    by_cases hqt:q<P.length
    ·have hqt1:(q:Int)<(P.length:Int):=by omega
     have xq:=zaa (Z7 hBq.out x5.out)
     have oq:=zaa (o5.out.below hBq.out)
     have rq:=zaa (rP.out.below hBq.out)
     have rLq:=zaa (ru4.out.below (Z3 hB5.out hBq.out))
     obtain ⟨bp,op,rfl,ye⟩:=rq.out.at1 q hqt
     have hyP:=zaa (zqa hqt)
     have ye':=zaa ye
     clear ye
     generalize P[q]?.getD 0=y at *
     have cF:=zaa (fun w' b=>zsc _ D y w' (oq.out.below b))
     go_wp2_with fail
     refine U2 (fun w'=>w'.cell? ⟨w1.heap.size,0,none⟩=some (.int .i64 D.base)∧w'.cell? ⟨w1.heap.size,1,none⟩=some (.int .i64 D.pages)∧w'.cell? ⟨w1.heap.size,2,none⟩=some (.slice aw D.words.length cw)∧w'.cell? ⟨w1.heap.size,3,none⟩=some (.slice ad D.dirty.length cd)∧w'.cell? ⟨w1.heap.size,4,none⟩=some (.slice aS D.spans.length cS)∧w'.cell? ⟨w1.heap.size,5,none⟩=some (.slice am D.muts.length cm)∧w'.cell? ⟨w1.heap.size,6,none⟩=some (.int .i64 D.phase)∧w'.cell? ⟨w1.heap.size,7,none⟩=some (.int .i64 D.next)∧w'.cell? ⟨w1.heap.size,8,none⟩=some (.slice ag D.grey.length cg)∧w'.cell? ⟨bp,op+q,none⟩=some (.int .i64 y)) (fun j=>j == 9 || j == 10) (by kernel_rfl) ?_
     intro wd hwd
     have bwd:=zaa (show Below wr.heap.size wr wd from by rw [hwd];exact below_drewN (Below.refl _ _) 1)
     clear hwd
     have xd:=Z7 bwd.out xq.out
     have h0:(fun w'=>w'.cell? ⟨w1.heap.size,0,none⟩=some (.int .i64 D.base)∧w'.cell? ⟨w1.heap.size,1,none⟩=some (.int .i64 D.pages)∧w'.cell? ⟨w1.heap.size,2,none⟩=some (.slice aw D.words.length cw)∧w'.cell? ⟨w1.heap.size,3,none⟩=some (.slice ad D.dirty.length cd)∧w'.cell? ⟨w1.heap.size,4,none⟩=some (.slice aS D.spans.length cS)∧w'.cell? ⟨w1.heap.size,5,none⟩=some (.slice am D.muts.length cm)∧w'.cell? ⟨w1.heap.size,6,none⟩=some (.int .i64 D.phase)∧w'.cell? ⟨w1.heap.size,7,none⟩=some (.int .i64 D.next)∧w'.cell? ⟨w1.heap.size,8,none⟩=some (.slice ag D.grey.length cg)∧w'.cell? ⟨bp,op+q,none⟩=some (.int .i64 y)) wd:=⟨Z0 xd 0 (.int .i64 D.base) rfl,Z0 xd 1 (.int .i64 D.pages) rfl,Z0 xd 2 (.slice aw D.words.length cw) rfl,Z0 xd 3 (.slice ad D.dirty.length cd) rfl,Z0 xd 4 (.slice aS D.spans.length cS) rfl,Z0 xd 5 (.slice am D.muts.length cm) rfl,Z0 xd 6 (.int .i64 D.phase) rfl,Z0 xd 7 (.int .i64 D.next) rfl,Z0 xd 8 (.slice ag D.grey.length cg) rfl,Z8 bwd.out ye'.out⟩
     have hS:=zaa (show ∀ w',Below wd.heap.size wd w'→(fun w'=>w'.cell? ⟨w1.heap.size,0,none⟩=some (.int .i64 D.base)∧w'.cell? ⟨w1.heap.size,1,none⟩=some (.int .i64 D.pages)∧w'.cell? ⟨w1.heap.size,2,none⟩=some (.slice aw D.words.length cw)∧w'.cell? ⟨w1.heap.size,3,none⟩=some (.slice ad D.dirty.length cd)∧w'.cell? ⟨w1.heap.size,4,none⟩=some (.slice aS D.spans.length cS)∧w'.cell? ⟨w1.heap.size,5,none⟩=some (.slice am D.muts.length cm)∧w'.cell? ⟨w1.heap.size,6,none⟩=some (.int .i64 D.phase)∧w'.cell? ⟨w1.heap.size,7,none⟩=some (.int .i64 D.next)∧w'.cell? ⟨w1.heap.size,8,none⟩=some (.slice ag D.grey.length cg)∧w'.cell? ⟨bp,op+q,none⟩=some (.int .i64 y)) w' from fun w' b=>⟨Z0 (Z7 b xd) 0 (.int .i64 D.base) rfl,Z0 (Z7 b xd) 1 (.int .i64 D.pages) rfl,Z0 (Z7 b xd) 2 (.slice aw D.words.length cw) rfl,Z0 (Z7 b xd) 3 (.slice ad D.dirty.length cd) rfl,Z0 (Z7 b xd) 4 (.slice aS D.spans.length cS) rfl,Z0 (Z7 b xd) 5 (.slice am D.muts.length cm) rfl,Z0 (Z7 b xd) 6 (.int .i64 D.phase) rfl,Z0 (Z7 b xd) 7 (.int .i64 D.next) rfl,Z0 (Z7 b xd) 8 (.slice ag D.grey.length cg) rfl,Z8 b (Z8 bwd.out ye'.out)⟩)
     refine X9 (i:=0) (v:=?vq8) rfl (by kernel_rfl) (by kernel_rfl) (by kernel_rfl) (by kernel_rfl) (fun j hj=>by simp at hj;rcases hj with rfl | rfl <;> kernel_rfl) (fun _ _ _ h=>h) (Or.inl ⟨by rfl,?hyq8⟩) (by exact h0) ?restq8
     case hyq8=>(intro w hSw;(try dsimp only at hSw);obtain ⟨s0,s1,s2,s3,s4,s5,s6,s7,s8,s9⟩:=hSw;go_simp;try with_reducible rfl)
     try simp only [Act.put,List.setIfInBounds_toArray,List.set_cons_zero,List.set_cons_succ]
     refine Y3 (i:=1) (v:=?vq9) rfl (by kernel_rfl) (by kernel_rfl) (by kernel_rfl) rfl (fun _ _ _ h=>h) (Or.inl ⟨by rfl,?hyq9⟩) (fun _=>h0) ?restq9
     case hyq9=>(intro w _;go_simp;try with_reducible rfl)
     try simp only [Act.put,List.setIfInBounds_toArray,List.set_cons_zero,List.set_cons_succ]
     refine Y3 (i:=2) (v:=?vq10) rfl (by kernel_rfl) (by kernel_rfl) (by kernel_rfl) rfl (fun _ _ _ h=>h) (Or.inl ⟨by rfl,?hyq10⟩) (fun _=>h0) ?restq10
     case hyq10=>(intro w _;go_simp;try with_reducible rfl)
     try simp only [Act.put,List.setIfInBounds_toArray,List.set_cons_zero,List.set_cons_succ]
     refine Y3 (i:=3) (v:=?vq11) rfl (by kernel_rfl) (by kernel_rfl) (by kernel_rfl) rfl (fun _ _ _ h=>h) (Or.inl ⟨by rfl,?hyq11⟩) (fun _=>h0) ?restq11
     case hyq11=>(intro w _;go_simp;try with_reducible rfl)
     try simp only [Act.put,List.setIfInBounds_toArray,List.set_cons_zero,List.set_cons_succ]
     refine X9 (i:=4) (v:=?vq12) rfl (by kernel_rfl) (by kernel_rfl) (by kernel_rfl) (by kernel_rfl) (fun j hj=>by simp at hj;rcases hj with rfl | rfl <;> kernel_rfl) (fun _ _ _ h=>h) (Or.inl ⟨by rfl,?hyq12⟩) (by exact h0) ?restq12
     case hyq12=>(intro w hSw;(try dsimp only at hSw);obtain ⟨s0,s1,s2,s3,s4,s5,s6,s7,s8,s9⟩:=hSw;go_simp;try with_reducible rfl)
     try simp only [Act.put,List.setIfInBounds_toArray,List.set_cons_zero,List.set_cons_succ]
     refine X7 (rs:=[5]) (by kernel_rfl) (by simp) ?_
     intro i hi
     simp only [List.mem_cons,List.not_mem_nil,or_false] at hi
     subst hi
     refine Y9 (i:=5) rfl (fun K hK=>?_)
     go_simp
     go_wp2_with (go_at_call 12;refine (cF.out _ bwd.out).mono ?_;rintro e w6 ⟨⟨r,s,rfl,hf⟩,b6⟩;have hf':=zaa hf;have b56:=zaa (Z3 bwd.out b6);have b6':=zaa b6;clear hf b6)
     refine hK.out _ _ (fun _=>(hS.out w6 b6'.out)) ?_
     clear hK K
     try simp only [Act.put,List.setIfInBounds_toArray,List.set_cons_zero,List.set_cons_succ]
     refine Y3 (i:=6) (v:=?vq14) rfl (by kernel_rfl) (by kernel_rfl) (by kernel_rfl) rfl (fun _ _ _ h=>h) (Or.inl ⟨by rfl,?hyq14⟩) (fun _=>(hS.out w6 b6'.out)) ?restq14
     case hyq14=>(intro w _;go_simp;try with_reducible rfl)
     try simp only [Act.put,List.setIfInBounds_toArray,List.set_cons_zero,List.set_cons_succ]
     refine Y3 (i:=7) (v:=?vq15) rfl (by kernel_rfl) (by kernel_rfl) (by kernel_rfl) rfl (fun _ _ _ h=>h) (Or.inl ⟨by rfl,?hyq15⟩) (fun _=>(hS.out w6 b6'.out)) ?restq15
     case hyq15=>(intro w _;go_simp;try with_reducible rfl)
     try simp only [Act.put,List.setIfInBounds_toArray,List.set_cons_zero,List.set_cons_succ]
     refine Y3 (i:=8) (v:=?vq16) rfl (by kernel_rfl) (by kernel_rfl) (by kernel_rfl) rfl (fun _ _ _ h=>h) (Or.inl ⟨by rfl,?hyq16⟩) (fun _=>(hS.out w6 b6'.out)) ?restq16
     case hyq16=>(intro w _;go_simp;try with_reducible rfl)
     try simp only [Act.put,List.setIfInBounds_toArray,List.set_cons_zero,List.set_cons_succ]
     refine X7 (rs:=[9]) (by kernel_rfl) (by simp) ?_
     intro i hi
     simp only [List.mem_cons,List.not_mem_nil,or_false] at hi
     subst hi
     refine Y9 (i:=9) rfl (fun K hK=>?_)
     go_simp
     refine hK.out _ _ (fun h=>Bool.noConfusion ((h 9 (by kernel_rfl)).symm.trans (show _=true by kernel_rfl))) ?_
     clear hK K
     try simp only [Act.put,List.setIfInBounds_toArray,List.set_cons_zero,List.set_cons_succ]
     refine X7 (rs:=[10]) (by kernel_rfl) (by simp) ?_
     intro i hi
     simp only [List.mem_cons,List.not_mem_nil,or_false] at hi
     subst hi
     refine Y9 (i:=10) rfl (fun K hK=>?_)
     go_simp
     refine hK.out _ _ (fun h=>Bool.noConfusion ((h 9 (by kernel_rfl)).symm.trans (show _=true by kernel_rfl))) ?_
     clear hK K
     try simp only [Act.put,List.setIfInBounds_toArray,List.set_cons_zero,List.set_cons_succ]
     refine R8 (by kernel_rfl) ?_ _
     have y6:=Z8 b56.out ye'.out
     have rL6:=zaa (rLq.out.below b56.out)
     have hB6:=zaa (Z3 hBq.out b56.out)
     have hj1:=zaa (show q+1≤P.length by omega)
     clear cF ye' oq rq rLq bwd xd h0 b56 xq hS b6'
     rcases hf'.out with ⟨kk,jj,hF,ho,rfl,rfl⟩ | ⟨hn,rfl,rfl⟩
     ·have dk:decide ((kk:Int) ≥ 0)=true:=decide_eq_true (by omega)
      have hyL:=zaa (hR.out.next hxL.out hP'.out hyP.out ho)
      clear hf' hF ho
      go_wp2_with fail
      refine (zrg _ y L _ rL6.out hyL.out).mono ?_
      rintro e w7 ⟨rfl,rfl⟩
      go_wp2_with fail
      go_roundw
      case rel=>exact ⟨q+1,hj1.out,by go_num,hB6⟩
      case measure=>simp [Go.RowKit.intOf];omega
     ·clear hf' hn
      go_wp2_with fail
      go_roundw
      case rel=>exact ⟨q+1,hj1.out,by go_num,hB6⟩
      case measure=>simp [Go.RowKit.intOf];omega
    ·obtain rfl:q=P.length:=by omega
     have hBn:=zaa (Z3 hB5.out hBq.out)
     go_wp2_with fail
     go_roundw
     case rel=>exact ⟨k+1,by omega,by go_num,hBn⟩
     case measure=>simp [Go.RowKit.intOf];omega
  ·obtain rfl:k=L.length:=by omega
   have xr:=zaa (Z7 hB.out x4.out)
   have orr:=zaa (o4.out.below hB.out)
   have rfr:=zaa (rf4.out.below hB.out)
   have cO:=zaa (fun w' b=>zge _ D hm.out w' (orr.out.below b))
   have hflz:=hfl.out
   clear hlt hk
   go_wp2_with fail
   refine U2 (fun w'=>w'.cell? ⟨w1.heap.size,0,none⟩=some (.int .i64 D.base)∧w'.cell? ⟨w1.heap.size,1,none⟩=some (.int .i64 D.pages)∧w'.cell? ⟨w1.heap.size,2,none⟩=some (.slice aw D.words.length cw)∧w'.cell? ⟨w1.heap.size,3,none⟩=some (.slice ad D.dirty.length cd)∧w'.cell? ⟨w1.heap.size,4,none⟩=some (.slice aS D.spans.length cS)∧w'.cell? ⟨w1.heap.size,5,none⟩=some (.slice am D.muts.length cm)∧w'.cell? ⟨w1.heap.size,6,none⟩=some (.int .i64 D.phase)∧w'.cell? ⟨w1.heap.size,7,none⟩=some (.int .i64 D.next)∧w'.cell? ⟨w1.heap.size,8,none⟩=some (.slice ag D.grey.length cg)) (fun j=>j == 8) (by kernel_rfl) ?_
   intro wd hwd
   have bwd:=zaa (show Below wr.heap.size wr wd from by rw [hwd];exact below_drewN (Below.refl _ _) 1)
   clear hwd
   have xd:=zaa (Z7 bwd.out xr.out)
   have hS:=zaa (show ∀ w',Below wd.heap.size wd w'→(fun w'=>w'.cell? ⟨w1.heap.size,0,none⟩=some (.int .i64 D.base)∧w'.cell? ⟨w1.heap.size,1,none⟩=some (.int .i64 D.pages)∧w'.cell? ⟨w1.heap.size,2,none⟩=some (.slice aw D.words.length cw)∧w'.cell? ⟨w1.heap.size,3,none⟩=some (.slice ad D.dirty.length cd)∧w'.cell? ⟨w1.heap.size,4,none⟩=some (.slice aS D.spans.length cS)∧w'.cell? ⟨w1.heap.size,5,none⟩=some (.slice am D.muts.length cm)∧w'.cell? ⟨w1.heap.size,6,none⟩=some (.int .i64 D.phase)∧w'.cell? ⟨w1.heap.size,7,none⟩=some (.int .i64 D.next)∧w'.cell? ⟨w1.heap.size,8,none⟩=some (.slice ag D.grey.length cg)) w' from fun w' b=>⟨Z0 (Z7 b xd.out) 0 (.int .i64 D.base) rfl,Z0 (Z7 b xd.out) 1 (.int .i64 D.pages) rfl,Z0 (Z7 b xd.out) 2 (.slice aw D.words.length cw) rfl,Z0 (Z7 b xd.out) 3 (.slice ad D.dirty.length cd) rfl,Z0 (Z7 b xd.out) 4 (.slice aS D.spans.length cS) rfl,Z0 (Z7 b xd.out) 5 (.slice am D.muts.length cm) rfl,Z0 (Z7 b xd.out) 6 (.int .i64 D.phase) rfl,Z0 (Z7 b xd.out) 7 (.int .i64 D.next) rfl,Z0 (Z7 b xd.out) 8 (.slice ag D.grey.length cg) rfl⟩)
   have h0:=hS.out wd (Below.refl _ _)
   have ba:=zaa (Z5 wd (.cells #[] 3))
   have src1:=zaa (Rd.src ((rfr.out.below bwd.out).below ba.out))
   have fz:=zaa (show 0+fr.length≤maxLen from by unfold maxLen;omega)
   refine X9 (i:=0) (v:=?vq19) rfl (by kernel_rfl) (by kernel_rfl) (by kernel_rfl) (by kernel_rfl) (fun j hj=>by simp at hj;subst hj;kernel_rfl) (fun _ _ _ h=>h) (Or.inl ⟨by rfl,?hyq19⟩) (by exact h0) ?restq19
   case hyq19=>(intro w hSw;(try dsimp only at hSw);obtain ⟨s0,s1,s2,s3,s4,s5,s6,s7,s8⟩:=hSw;go_simp;try with_reducible rfl)
   try simp only [Act.put,List.setIfInBounds_toArray,List.set_cons_zero,List.set_cons_succ]
   refine Y3 (i:=2) (v:=?vq20) rfl (by kernel_rfl) (by kernel_rfl) (by kernel_rfl) rfl (fun _ _ _ h=>h) (Or.inl ⟨by rfl,?hyq20⟩) (fun _=>h0) ?restq20
   case hyq20=>(intro w _;go_simp;try with_reducible rfl)
   try simp only [Act.put,List.setIfInBounds_toArray,List.set_cons_zero,List.set_cons_succ]
   refine X9 (i:=4) (v:=?vq21) rfl (by kernel_rfl) (by kernel_rfl) (by kernel_rfl) (by kernel_rfl) (fun j hj=>by simp at hj;subst hj;kernel_rfl) (fun _ _ _ h=>h) (Or.inl ⟨by rfl,?hyq21⟩) (by exact h0) ?restq21
   case hyq21=>(intro w hSw;(try dsimp only at hSw);obtain ⟨s0,s1,s2,s3,s4,s5,s6,s7,s8⟩:=hSw;go_simp;try with_reducible rfl)
   try simp only [Act.put,List.setIfInBounds_toArray,List.set_cons_zero,List.set_cons_succ]
   refine X7 (rs:=[1]) (by kernel_rfl) (by simp) ?_
   intro i hi
   simp only [List.mem_cons,List.not_mem_nil,or_false] at hi
   subst hi
   refine Y9 (i:=1) rfl (fun K hK=>?_)
   go_simp
   refine hK.out _ _ (fun _=>(hS.out _ ba.out)) ?_
   clear hK K
   try simp only [Act.put,List.setIfInBounds_toArray,List.set_cons_zero,List.set_cons_succ]
   refine X7 (rs:=[3]) (by kernel_rfl) (by simp) ?_
   intro i hi
   simp only [List.mem_cons,List.not_mem_nil,or_false] at hi
   subst hi
   refine Y9 (i:=3) rfl (fun K hK=>?_)
   refine zji (.tmp 66) (.tmp 67) 23 rfl wd.heap.size 3 (.int .i64 0) 1 8 Tryz.underlying23 M0 rfl (by decide) _ 0 [] rfl (zfc wd 3 1) af fr.length cf (fr.map (Value.int .i64)) rfl src1.out fz.out (by omega) ba.out.size ?_;intro v6 w6 o6 g6;have b6:=zaa (P9 ba.out (zfc wd 3 1) g6 ba.out.size);have o6':=zaa (show w6.ownsRow wd.heap.size 3 1 v6 fr.length (fr.map (Value.int .i64)) by simpa using o6);clear o6 g6
   refine hK.out _ _ (fun _=>(hS.out w6 b6.out)) ?_
   clear hK K
   try simp only [Act.put,List.setIfInBounds_toArray,List.set_cons_zero,List.set_cons_succ]
   refine X7 (rs:=[5]) (by kernel_rfl) (by simp) ?_
   intro i hi
   simp only [List.mem_cons,List.not_mem_nil,or_false] at hi
   subst hi
   refine Y9 (i:=5) rfl (fun K hK=>?_)
   go_simp
   go_wp2_with (go_at_call 14;refine (cO.out _ (Z3 bwd.out b6.out)).mono ?_;rintro e w7 ⟨Z,uz,hZ,rfl,h7,b7⟩;obtain ⟨az,cz,hz⟩:=Y4 h7;subst hz;have hZ':=zaa hZ;have o7:=zaa (V5 o6'.out b7);have src7:=zaa (Rd.src (Rd.of_owns h7));have b67:=zaa (Z3 b6.out b7);have hZl:=hZ.few;clear h7 b7 hZ)
   refine hK.out _ _ (fun _=>(hS.out w7 b67.out)) ?_
   clear hK K
   try simp only [Act.put,List.setIfInBounds_toArray,List.set_cons_zero,List.set_cons_succ]
   refine X7 (rs:=[6]) (by kernel_rfl) (by simp) ?_
   intro i hi
   simp only [List.mem_cons,List.not_mem_nil,or_false] at hi
   subst hi
   refine Y9 (i:=6) rfl (fun K hK=>?_)
   refine zji (.tmp 68) (.tmp 70) 23 rfl wd.heap.size 3 (.int .i64 0) 1 8 Tryz.underlying23 M0 rfl (by decide) _ fr.length _ rfl o7.out az Z.length cz (Z.map (Value.int .i64)) rfl src7.out (by unfold maxLen;omega) (by omega) b67.out.size ?_;intro v8 w8 o8 g8;have b8:=zaa (P9 b67.out o7.out g8 b67.out.size);obtain ⟨Y,hY⟩:∃ Y:List Int,Y=fr ++ Z:=⟨_,rfl⟩;have o8':=zaa (show w8.ownsRow wd.heap.size 3 1 v8 Y.length (Y.map (Value.int .i64)) by rw [hY];simpa using o8);obtain ⟨a8,c8,h8⟩:=Y4 o8'.out;subst h8;clear o8 g8;have cR:=zaa (zio _ D hm.out hw.out hcw'.out a8 c8 Y (by rw [hY];exact hZ'.out.ints hmut.out hai'.out) (by rw [hY,List.length_append];omega) w8 (orr.out.below (Z3 bwd.out b8.out)) (Rd.of_owns o8'.out));have hY':=zaa hY;clear hY
   refine hK.out _ _ (fun _=>(hS.out w8 b8.out)) ?_
   clear hK K
   try simp only [Act.put,List.setIfInBounds_toArray,List.set_cons_zero,List.set_cons_succ]
   refine X7 (rs:=[7]) (by kernel_rfl) (by simp) ?_
   intro i hi
   simp only [List.mem_cons,List.not_mem_nil,or_false] at hi
   subst hi
   refine Y9 (i:=7) rfl (fun K hK=>?_)
   go_simp
   go_wp2_with (go_at_call 8;refine cR.out.mono ?_;rintro e w9 ⟨R,ur,hRR,rfl,h9,b9⟩;obtain ⟨ar,cr,hr9⟩:=Y4 h9;subst hr9;have hRR':=zaa hRR;have b9':=zaa (Z3 b8.out b9);have rR:=zaa (Rd.of_owns h9);clear hRR h9 b9)
   refine hK.out _ _ (fun _=>(hS.out w9 b9'.out)) ?_
   clear hK K
   try simp only [Act.put,List.setIfInBounds_toArray,List.set_cons_zero,List.set_cons_succ]
   refine X7 (rs:=[8]) (by kernel_rfl) (by simp) ?_
   intro i hi
   simp only [List.mem_cons,List.not_mem_nil,or_false] at hi
   subst hi
   refine Y9 (i:=8) rfl (fun K hK=>?_)
   go_simp
   refine hK.out _ _ (fun h=>Bool.noConfusion ((h 8 (by kernel_rfl)).symm.trans (show _=true by kernel_rfl))) ?_
   clear hK K
   try simp only [Act.put,List.setIfInBounds_toArray,List.set_cons_zero,List.set_cons_succ]
   refine R8 (by kernel_rfl) ?_ _
   have bb9:=zaa (Z3 bb4.out (Z3 hB.out (Z3 bwd.out b9'.out)))
   have ru9:=zaa (ru4.out.below (Z3 hB.out (Z3 bwd.out b9'.out)))
   have hmore:=zaa (fun x (hx:x ∈ L)=>hR.out.more hRR'.out (fun y hy=>by rw [hY'.out];exact List.mem_append.2 (.inl hy)) hx)
   clear hS h0 ba src1 fz b6 o6' o7 src7 b67 b8 o8' cR cO bwd xd xr orr rfr b9' hB bb4 ru4 rf4 o4 x4
   go_wp2_with fail
   go_loopw [12] (fun i wr=>∃ k:Nat,k≤L.length∧i=.int .i64 k∧Hid (Below w9.heap.size w9 wr)) (fun i _=>L.length-(Go.RowKit.intOf i).toNat)
   case atStart=>exact ⟨0,Nat.zero_le _,rfl,zaa (Below.refl _ _)⟩
   case round =>
    obtain ⟨k,hk,rfl,hBk⟩:=hrel
    by_cases hlt:k<L.length
    ·have hlt1:(k:Int)<(L.length:Int):=by omega
     have rk:=zaa (ru9.out.below hBk.out)
     have rRk:=zaa (rR.out.below hBk.out)
     obtain ⟨bu,ou,rfl,xe⟩:=rk.out.at1 k hlt
     have hxR:=zaa (hmore.out _ (zqa hlt))
     generalize L[k]?.getD 0=x at *
     go_wp2_with fail
     refine (zrg _ x R _ rRk.out hxR.out).mono ?_
     rintro e w10 ⟨rfl,rfl⟩
     go_wp2_with fail
     go_roundw
     case rel=>exact ⟨k+1,by omega,by go_num,hBk⟩
     case measure=>simp [Go.RowKit.intOf];omega
    ·have bb10:=zaa (Z3 bb9.out hBk.out)
     obtain rfl:k=L.length:=by omega
     go_wp2_with fail
     refine (hH'.out _).mono ?_
     rintro e w11 ⟨rfl,b11⟩
     have bb11:=zaa (Z3 bb10.out b11)
     clear b11
     go_wp2_with fail
     go_ret
     exact ⟨rfl,bb11.out⟩
end Go.Proofs.YtilkidaihbhfpaaGreat
