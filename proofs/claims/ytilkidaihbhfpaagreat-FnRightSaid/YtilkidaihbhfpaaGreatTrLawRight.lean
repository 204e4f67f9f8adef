import Derived.Test.YtilkidaihbhfpaaGreatTrAt1
import Derived.Test.YtilkidaihbhfpaaGreatTrColP
import Derived.Test.YtilkidaihbhfpaaGreatTrLR
import Derived.Test.YtilkidaihbhfpaaGreatTrALR
import Derived.Test.YtilkidaihbhfpaaGreatTrSW
import Derived.Test.YtilkidaihbhfpaaGreatTrIW
import Derived.Test.YtilkidaihbhfpaaGreatTrR
import Derived.Test.YtilkidaihbhfpaaGreatTrW

set_option maxRecDepth 100000
set_option maxHeartbeats 16000000
namespace Go.Proofs.YtilkidaihbhfpaaGreat
open Go.RowKit
set_option linter.unusedVariables false
set_option linter.unusedSimpArgs false
theorem zqw {D:WD} {fr L:List Int} (h:N7 D fr L) {x:Int} (hx:x ∈ L):I64 x:=by
 rcases h with ⟨hF,_,m⟩ | ⟨_,rfl⟩
 ·obtain ⟨k,j,ho⟩:=((m x).1 hx).obj
  have r:=ho.range hF
  have g:=hF.geo
  obtain ⟨g1,g2,g3,g4,g5,g6,g7⟩:=g
  unfold I64
  omega
 ·exact absurd hx (by simp)
theorem zvj {D:WD} {Z:List Int} (h:L0 D Z) (hm:∀ r,r ∈ D.muts→AllI r):AllI Z:=fun y hy=>by
 rcases h with ⟨_,_,m,_⟩ | ⟨_,rfl⟩
 ·obtain ⟨_,r,hr,hyr⟩:=(m y).1 hy
  exact hm r hr y hyr
 ·exact absurd hy (by simp)
theorem zth (hH:∀ w:World,Calls Tryz.prog 15 #[] w fun e w'=>e=.returned (.bool true)∧Below w.heap.size w w')
  (a:Option Addr) (len cap:Nat) (w:World) (hb:zls w a len) (ha:0<len→∀ x,a=some x→x.block<w.heap.size) :
  Calls Tryz.prog 5 #[.slice a len cap] w fun e w'=>e=.returned (.bool true)∧Below w.heap.size w w':=by
 have hH':=zaa hH
 have hd:=zaa (zmw a len cap w hb ha)
 clear hH hb ha
 go_enter Tryz.func5,Tryz.ntmps5
 go_wp2_with fail
 refine hd.out.mono ?_
 rintro e w1 ⟨v,D,⟨hB,hcw,hcg,hrd⟩,rfl,b1⟩
 obtain ⟨aw,ad,aS,am,ag,cw,cd,cS,cm,cg,rfl⟩:=hrd.written
 have bb1:=zaa (Z3 b1 (Z5 w1 (.cells #[.int .i64 D.base,.int .i64 D.pages,.slice aw D.words.length cw,.slice ad D.dirty.length cd,.slice aS D.spans.length cS,.slice am D.muts.length cm,.int .i64 D.phase,.int .i64 D.next,.slice ag D.grey.length cg] 30)))
 have x1:=zaa (Y7 w1 (.cells #[.int .i64 D.base,.int .i64 D.pages,.slice aw D.words.length cw,.slice ad D.dirty.length cd,.slice aS D.spans.length cS,.slice am D.muts.length cm,.int .i64 D.phase,.int .i64 D.next,.slice ag D.grey.length cg] 30))
 have o1:=zaa (hrd.below (Z5 w1 (.cells #[.int .i64 D.base,.int .i64 D.pages,.slice aw D.words.length cw,.slice ad D.dirty.length cd,.slice aS D.spans.length cS,.slice am D.muts.length cm,.int .i64 D.phase,.int .i64 D.next,.slice ag D.grey.length cg] 30)))
 have hm:=zaa hB.fit.marks
 have hw:=zaa hB.fit.words
 have hmut:=zaa hB.fit.muts
 have hfit:=zaa hB.fit
 have hcw':=zaa hcw
 have hcg':=zaa hcg
 clear hB hcw hcg hrd b1 hd
 unfold zpb at o1 hcw' hcg' ⊢
 go_upto_region 2 with fail
 generalize w1.alloc (.cells #[.int .i64 D.base,.int .i64 D.pages,.slice aw D.words.length cw,.slice ad D.dirty.length cd,.slice aS D.spans.length cS,.slice am D.muts.length cm,.int .i64 D.phase,.int .i64 D.next,.slice ag D.grey.length cg] 30)=W1 at *
 obtain ⟨f0,f1,f2,f3,f4,f5,f6,f7,f8⟩:=N1 x1.out
 go_wp2_with fail
 refine (zli _ D hfit.out hcw'.out _ o1.out).mono ?_
 rintro e w2 ⟨hq,b2⟩
 have hq2:=zaa hq.elim
 have bb2:=zaa (Z3 bb1.out b2)
 have x2:=zaa (Z7 b2 x1.out)
 have o2:=zaa (o1.out.below b2)
 clear hq b2 bb1 x1 o1
 clear f0 f1 f2 f3 f4 f5 f6 f7 f8
 obtain ⟨f0,f1,f2,f3,f4,f5,f6,f7,f8⟩:=N1 x2.out
 rcases hq2.out with ⟨hR,rfl⟩ | ⟨hR,rfl⟩
 case inr =>
  have hR':=zaa hR
  clear hR hq2
  go_wp2_with fail
  refine (zhv _ D hcg'.out _ o2.out).mono ?_
  rintro e w3 ⟨hq,b3⟩
  obtain rfl:=hq.of_no hR'.out
  have bb3:=zaa (Z3 bb2.out b3)
  clear hq b3
  clear f0 f1 f2 f3 f4 f5 f6 f7 f8
  go_wp2_with fail
  refine (hH'.out _).mono ?_
  rintro e w11 ⟨rfl,b11⟩
  have bb11:=zaa (Z3 bb3.out b11)
  clear b11
  go_wp2_with fail
  go_ret
  exact ⟨rfl,bb11.out⟩
 have hR':=zaa hR
 clear hR hq2
 go_wp2_with fail
 refine (zhv _ D hcg'.out _ o2.out).mono ?_
 rintro e w3 ⟨hq,b3⟩
 obtain rfl:=hq.of_yes hR'.out
 have bb3:=zaa (Z3 bb2.out b3)
 have x3:=zaa (Z7 b3 x2.out)
 have o3:=zaa (o2.out.below b3)
 have cO:=zaa (fun w' b=>zge _ D hm.out w' (o3.out.below b))
 clear hq b3 bb2 x2 o2
 clear f0 f1 f2 f3 f4 f5 f6 f7 f8
 go_wp2_with fail
 refine U2 (fun w'=>w'.cell? ⟨w1.heap.size,0,none⟩=some (.int .i64 D.base)∧w'.cell? ⟨w1.heap.size,1,none⟩=some (.int .i64 D.pages)∧w'.cell? ⟨w1.heap.size,2,none⟩=some (.slice aw D.words.length cw)∧w'.cell? ⟨w1.heap.size,3,none⟩=some (.slice ad D.dirty.length cd)∧w'.cell? ⟨w1.heap.size,4,none⟩=some (.slice aS D.spans.length cS)∧w'.cell? ⟨w1.heap.size,5,none⟩=some (.slice am D.muts.length cm)∧w'.cell? ⟨w1.heap.size,6,none⟩=some (.int .i64 D.phase)∧w'.cell? ⟨w1.heap.size,7,none⟩=some (.int .i64 D.next)∧w'.cell? ⟨w1.heap.size,8,none⟩=some (.slice ag D.grey.length cg)) (fun j=>j == 4) (by kernel_rfl) ?_
 intro wd hwd
 have bwd:=zaa (show Below w3.heap.size w3 wd from by rw [hwd];exact below_drewN (Below.refl _ _) 1)
 clear hwd
 have xd:=zaa (Z7 bwd.out x3.out)
 have hS:=zaa (show ∀ w',Below wd.heap.size wd w'→(fun w'=>w'.cell? ⟨w1.heap.size,0,none⟩=some (.int .i64 D.base)∧w'.cell? ⟨w1.heap.size,1,none⟩=some (.int .i64 D.pages)∧w'.cell? ⟨w1.heap.size,2,none⟩=some (.slice aw D.words.length cw)∧w'.cell? ⟨w1.heap.size,3,none⟩=some (.slice ad D.dirty.length cd)∧w'.cell? ⟨w1.heap.size,4,none⟩=some (.slice aS D.spans.length cS)∧w'.cell? ⟨w1.heap.size,5,none⟩=some (.slice am D.muts.length cm)∧w'.cell? ⟨w1.heap.size,6,none⟩=some (.int .i64 D.phase)∧w'.cell? ⟨w1.heap.size,7,none⟩=some (.int .i64 D.next)∧w'.cell? ⟨w1.heap.size,8,none⟩=some (.slice ag D.grey.length cg)) w' from fun w' b=>⟨Z0 (Z7 b xd.out) 0 (.int .i64 D.base) rfl,Z0 (Z7 b xd.out) 1 (.int .i64 D.pages) rfl,Z0 (Z7 b xd.out) 2 (.slice aw D.words.length cw) rfl,Z0 (Z7 b xd.out) 3 (.slice ad D.dirty.length cd) rfl,Z0 (Z7 b xd.out) 4 (.slice aS D.spans.length cS) rfl,Z0 (Z7 b xd.out) 5 (.slice am D.muts.length cm) rfl,Z0 (Z7 b xd.out) 6 (.int .i64 D.phase) rfl,Z0 (Z7 b xd.out) 7 (.int .i64 D.next) rfl,Z0 (Z7 b xd.out) 8 (.slice ag D.grey.length cg) rfl⟩)
 have h0:=hS.out wd (Below.refl _ _)
 refine X9 (i:=0) (v:=?vq1) rfl (by kernel_rfl) (by kernel_rfl) (by kernel_rfl) (by kernel_rfl) (fun j hj=>by simp at hj;subst hj;kernel_rfl) (fun _ _ _ h=>h) (Or.inl ⟨by rfl,?hyq1⟩) (by exact h0) ?restq1
 case hyq1=>(intro w hSw;(try dsimp only at hSw);obtain ⟨s0,s1,s2,s3,s4,s5,s6,s7,s8⟩:=hSw;go_simp;try with_reducible rfl)
 try simp only [Act.put,List.setIfInBounds_toArray,List.set_cons_zero,List.set_cons_succ]
 refine X9 (i:=1) (v:=?vq2) rfl (by kernel_rfl) (by kernel_rfl) (by kernel_rfl) (by kernel_rfl) (fun j hj=>by simp at hj;subst hj;kernel_rfl) (fun _ _ _ h=>h) (Or.inl ⟨by rfl,?hyq2⟩) (by exact h0) ?restq2
 case hyq2=>(intro w hSw;(try dsimp only at hSw);obtain ⟨s0,s1,s2,s3,s4,s5,s6,s7,s8⟩:=hSw;go_simp;try with_reducible rfl)
 try simp only [Act.put,List.setIfInBounds_toArray,List.set_cons_zero,List.set_cons_succ]
 refine X7 (rs:=[2]) (by kernel_rfl) (by simp) ?_
 intro i hi
 simp only [List.mem_cons,List.not_mem_nil,or_false] at hi
 subst hi
 refine Y9 (i:=2) rfl (fun K hK=>?_)
 go_simp
 go_wp2_with (go_at_call 14;refine (cO.out _ bwd.out).mono ?_;rintro e w4 ⟨Z,uz,hZ,rfl,h4,b4⟩;obtain ⟨az,cz,hz⟩:=Y4 h4;subst hz;have hZ':=zaa hZ;have b4':=zaa b4;have cR:=zaa (zio _ D hm.out hw.out hcw'.out az cz Z (zvj hZ hmut.out) (by have:=hZ.few;omega) w4 (o3.out.below (Z3 bwd.out b4)) (Rd.of_owns h4));clear h4 b4 hZ)
 refine hK.out _ _ (fun _=>(hS.out w4 b4'.out)) ?_
 clear hK K
 try simp only [Act.put,List.setIfInBounds_toArray,List.set_cons_zero,List.set_cons_succ]
 refine X7 (rs:=[3]) (by kernel_rfl) (by simp) ?_
 intro i hi
 simp only [List.mem_cons,List.not_mem_nil,or_false] at hi
 subst hi
 refine Y9 (i:=3) rfl (fun K hK=>?_)
 go_simp
 go_wp2_with (go_at_call 8;refine cR.out.mono ?_;rintro e w5 ⟨L,ul,hL,rfl,h5,b5⟩;obtain ⟨al,cl,hl5⟩:=Y4 h5;subst hl5;have hL':=zaa hL;have b5':=zaa (Z3 b4'.out b5);have rL:=zaa (Rd.of_owns h5);clear hL h5 b5)
 refine hK.out _ _ (fun _=>(hS.out w5 b5'.out)) ?_
 clear hK K
 try simp only [Act.put,List.setIfInBounds_toArray,List.set_cons_zero,List.set_cons_succ]
 refine X7 (rs:=[4]) (by kernel_rfl) (by simp) ?_
 intro i hi
 simp only [List.mem_cons,List.not_mem_nil,or_false] at hi
 subst hi
 refine Y9 (i:=4) rfl (fun K hK=>?_)
 go_simp
 refine hK.out _ _ (fun h=>Bool.noConfusion ((h 4 (by kernel_rfl)).symm.trans (show _=true by kernel_rfl))) ?_
 clear hK K
 try simp only [Act.put,List.setIfInBounds_toArray,List.set_cons_zero,List.set_cons_succ]
 refine R8 (by kernel_rfl) ?_ _
 have bb5:=zaa (Z3 bb3.out (Z3 bwd.out b5'.out))
 have x5:=zaa (Z7 b5'.out xd.out)
 have o5:=zaa (o3.out.below (Z3 bwd.out b5'.out))
 clear cO cR hS h0 xd b4' b5' bwd x3 o3 bb3
 obtain ⟨f0,f1,f2,f3,f4,f5,f6,f7,f8⟩:=N1 x5.out
 go_wp2_with fail
 refine (zge _ D hm.out _ o5.out).mono ?_
 rintro e w6 ⟨Z6,uz6,hZ6,rfl,h6,b6⟩
 obtain ⟨az6,cz6,rfl⟩:=Y4 h6
 obtain rfl:=hZ'.out.unique hZ6
 have bb6:=zaa (Z3 bb5.out b6)
 have x6:=zaa (Z7 b6 x5.out)
 have o6:=zaa (o5.out.below b6)
 have rL6:=zaa (rL.out.below b6)
 have rZ6:=zaa (Rd.of_owns h6)
 have hZ:=zaa hZ6
 clear hZ6 h6 b6 bb5 x5 o5 rL hZ'
 clear f0 f1 f2 f3 f4 f5 f6 f7 f8
 go_wp2_with fail
 go_loopw [7] (fun i wr=>∃ k:Nat,k≤Z6.length∧i=.int .i64 k∧Hid (Below w6.heap.size w6 wr)) (fun i _=>Z6.length-(Go.RowKit.intOf i).toNat)
 case atStart=>exact ⟨0,Nat.zero_le _,rfl,zaa (Below.refl _ _)⟩
 case round =>
  obtain ⟨k,hk,rfl,hBk⟩:=hrel
  have hZl:Z6.length≤maxLen:=rZ6.out.elim fun _ h=>h.elim fun _ h=>h.2.1
  unfold maxLen at hZl
  by_cases hlt:k<Z6.length
  ·have hlt1:(k:Int)<(Z6.length:Int):=by omega
   have rk:=zaa (rZ6.out.below hBk.out)
   have rLk:=zaa (rL6.out.below hBk.out)
   obtain ⟨bu,ou,rfl,xe⟩:=rk.out.at1 k hlt
   have hxL:=zaa (zpj hR'.out hZ.out hL'.out (zqa hlt))
   generalize Z6[k]?.getD 0=x at *
   go_wp2_with fail
   refine (zrg _ x L _ rLk.out hxL.out).mono ?_
   rintro e w7 ⟨rfl,rfl⟩
   go_wp2_with fail
   go_roundw
   case rel=>exact ⟨k+1,by omega,by go_num,hBk⟩
   case measure=>simp [Go.RowKit.intOf];omega
  ·obtain rfl:k=Z6.length:=by omega
   have bb7:=zaa (Z3 bb6.out hBk.out)
   have x7:=zaa (Z7 hBk.out x6.out)
   have o7:=zaa (o6.out.below hBk.out)
   have rL7:=zaa (rL6.out.below hBk.out)
   clear hlt hk hZl bb6 x6 o6 rL6 rZ6 hBk
   go_wp2_with fail
   go_loopw [8] (fun i wj=>∃ k:Nat,k≤L.length∧i=.int .i64 k∧Hid (Below wr.heap.size wr wj)) (fun i _=>L.length-(Go.RowKit.intOf i).toNat)
   case atStart=>exact ⟨0,Nat.zero_le _,rfl,zaa (Below.refl _ _)⟩
   case round =>
    obtain ⟨k,hk,rfl,hBk⟩:=hrel
    have hLl:L.length≤maxLen:=rL7.out.elim fun _ h=>h.elim fun _ h=>h.2.1
    unfold maxLen at hLl
    by_cases hlt:k<L.length
    ·have hlt1:(k:Int)<(L.length:Int):=by omega
     have xk:=zaa (Z7 hBk.out x7.out)
     have ok:=zaa (o7.out.below hBk.out)
     have rk:=zaa (rL7.out.below hBk.out)
     obtain ⟨bu,ou,rfl,xe⟩:=rk.out.at1 k hlt
     have hxL:=zaa (zqa hlt)
     have xe':=zaa xe
     clear xe
     generalize L[k]?.getD 0=x at *
     have hx64:=zaa (zqw hL'.out hxL.out)
     have hst:=zaa (zok hR'.out hZ.out hL'.out hxL.out)
     have cD:=zaa (fun x':Ext wr=>(zll _ D hm.out x hx64.out x'.val (ok.out.below x'.below)).mono fun e w' h=>(⟨h.1.of_no hst.out,h.2⟩:e=.returned (.bool false)∧Below x'.val.heap.size x'.val w'))
     have e0:=Ext.cell (Z0 xk.out 0 (.int .i64 D.base) rfl)
     have e1:=Ext.cell (Z0 xk.out 1 (.int .i64 D.pages) rfl)
     have e2:=Ext.cell (Z0 xk.out 2 (.slice aw D.words.length cw) rfl)
     have e3:=Ext.cell (Z0 xk.out 3 (.slice ad D.dirty.length cd) rfl)
     have e4:=Ext.cell (Z0 xk.out 4 (.slice aS D.spans.length cS) rfl)
     have e5:=Ext.cell (Z0 xk.out 5 (.slice am D.muts.length cm) rfl)
     have e6:=Ext.cell (Z0 xk.out 6 (.int .i64 D.phase) rfl)
     have e7:=Ext.cell (Z0 xk.out 7 (.int .i64 D.next) rfl)
     have e8:=Ext.cell (Z0 xk.out 8 (.slice ag D.grey.length cg) rfl)
     have ee:=Ext.cell xe'.out
     by_cases hp:D.phase=3
     ·have dp:(D.phase == 3)=true:=beq_iff_eq.2 hp
      have hbl:=zaa (zol hR'.out hp hZ.out hL'.out hxL.out)
      have cC:=zaa (fun x':Ext wr=>(zqs _ D x x'.val (ok.out.below x'.below)).mono fun e w' h=>(⟨by obtain ⟨⟨r,he,hr⟩,_⟩:=h;rw [he,hbl.out.unique hr],h.2⟩:e=.returned (.int .i64 3)∧Below x'.val.heap.size x'.val w'))
      clear hp
      go_upto_region 17 with fail
      refine Y6 (Below.refl _ _) (by kernel_rfl) (by kernel_rfl) ?_
      repeat (go_big_quiet_step ((first | (go_at_call 24;(with_reducible exact Ext.call (cD.out _))) | (go_at_call 25;(with_reducible exact Ext.call (cC.out _))))))
      refine wpQuiet_nil ?_
      intro _ hw'
      obtain ⟨x9,hw''⟩:=hw'
      subst hw''
      have hB9:=zaa (Z3 hBk.out x9.below)
      go_wp2_with fail
      go_roundw
      case rel=>exact ⟨k+1,by omega,by go_num,hB9⟩
      case measure=>simp [Go.RowKit.intOf];omega
     ·have dp:(D.phase == 3)=false:=beq_eq_false_iff_ne.2 hp
      clear hp
      go_upto_region 17 with fail
      refine Y6 (Below.refl _ _) (by kernel_rfl) (by kernel_rfl) ?_
      repeat (go_big_quiet_step ((go_at_call 24;(with_reducible exact Ext.call (cD.out _)))))
      refine wpQuiet_nil ?_
      intro _ hw'
      obtain ⟨x9,hw''⟩:=hw'
      subst hw''
      have hB9:=zaa (Z3 hBk.out x9.below)
      go_wp2_with fail
      go_roundw
      case rel=>exact ⟨k+1,by omega,by go_num,hB9⟩
      case measure=>simp [Go.RowKit.intOf];omega
    ·obtain rfl:k=L.length:=by omega
     have bb9:=zaa (Z3 bb7.out hBk.out)
     have x9:=zaa (Z7 hBk.out x7.out)
     have o9:=zaa (o7.out.below hBk.out)
     clear hlt hk hLl hBk bb7 x7 o7 rL7
     obtain ⟨f0,f1,f2,f3,f4,f5,f6,f7,f8⟩:=N1 x9.out
     go_wp2_with fail
     refine (F8 _ D hm.out _ o9.out).mono ?_
     rintro e w10 ⟨hq,b10⟩
     obtain rfl:=hq.of_yes hR'.out.1
     have bb10:=zaa (Z3 bb9.out b10)
     clear hq b10
     clear f0 f1 f2 f3 f4 f5 f6 f7 f8
     go_wp2_with fail
     refine (hH'.out _).mono ?_
     rintro e w11 ⟨rfl,b11⟩
     have bb11:=zaa (Z3 bb10.out b11)
     clear b11
     go_wp2_with fail
     go_ret
     exact ⟨rfl,bb11.out⟩
end Go.Proofs.YtilkidaihbhfpaaGreat
