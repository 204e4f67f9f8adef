import Derived.Test.YtilkidaihbhfpaaGreatTsIW
import Derived.Test.YtilkidaihbhfpaaGreatTsLeft

set_option maxRecDepth 100000
set_option maxHeartbeats 16000000
namespace Go.Proofs.YtilkidaihbhfpaaGreat
open Go.RowKit
set_option linter.unusedVariables false
theorem zqh (B:Nat) (v:Value) (D:WD) (hF:Z8 D) (w:World) (hr:RdW w v D) (hB:BoxW w B v) :
  Calls Tryz.prog 55 #[.pointer (some ⟨B,0,none⟩)] w fun e w'=>e=.returned (.int .i64 (zfu D D.spans.length:Int))∧Below w.heap.size w w':=by
 have hF':=zaa hF
 have hl12:D.spans.length≤12:=by have:=hF.spans;have:=hF.geo.2.2.2.2.1;omega
 have hwk:=zaa (fun k hk=>zqg (D:=D) hF.lens16 k hk)
 obtain ⟨vw,vd,vs,vm,vg,rfl,a1,a2,a3,a4,a5⟩:=hr
 obtain ⟨aS,cS,rfl,hls,hx⟩:=a3
 have hx':=zaa hx
 have g4w:=hB.cell 4 _ rfl
 have g4:=Ext.cell g4w
 clear hF hx hls a1 a2 a4 a5 hB
 go_enter Tryz.func55,Tryz.ntmps55
 go_wp2_with fail
 go_loopw [3,11] (fun u i wr=>∃ k:Nat,k≤D.spans.length∧i=.int .i64 k∧u=.int .i64 (zfu D k:Int)∧∃ x:Ext w,wr=x.val) (fun u i _=>D.spans.length-(Go.RowKit.intOf i).toNat)
 case atStart=>exact ⟨0,Nat.zero_le _,rfl,rfl,Ext.self w,rfl⟩
 case round =>
  obtain ⟨k,hk,rfl,rfl,x,rfl⟩:=hrel
  have hwb:=hwk.out k hk
  by_cases hlt:k<D.spans.length
  ·have hlt1:(k:Int)<(D.spans.length:Int):=by omega
   obtain ⟨s,hks⟩:∃ s,D.spans[k]?=some s:=⟨_,List.getElem?_eq_getElem hlt⟩
   obtain ⟨b1,o1,rfl,hs⟩:=hx'.out k s hks
   have hs':=zaa hs
   obtain ⟨vl,vp,y0,y1,y2,_⟩:=hs
   have y2:=Ext.cell y2
   obtain ⟨m0,m1,hcnt⟩:=hF'.out.white hks
   have hl16:=hF'.out.lens16 s (List.mem_of_getElem? hks)
   have hws:=znc hks
   have hwb2:=hwk.out (k+1) (by omega)
   have hone:=zaa (fun w=>ones_any s.mark m0 m1 w)
   have huc:=zlm s s.lens.length
   have hmc:=zvs s.mark 16
   have hd:IntKind.i64.wrap ((J2 s s.lens.length:Int)-(E8 s.mark 16:Int))=(zij s s.lens.length:Int):=by
    rw [← hcnt];rw [IntWalk.i64_in _ (by omega)];omega
   have he:IntKind.i64.wrap ((zfu D k:Int)+(zij s s.lens.length:Int))=(zfu D (k+1):Int):=by
    rw [hws];rw [IntWalk.i64_in _ (by omega)];omega
   have hu:IntKind.u64.wrap s.mark=s.mark:=IntWalk.u64_in _ (by omega)
   clear hcnt hws hks y0 y1 huc hmc hwb2
   go_wp2_with fail
   refine Y5 x.below (by kernel_rfl) (by kernel_rfl) ?_
   repeat (go_big_quiet_step ((first | (go_at_call 107;exact Ext.same (zkk _ _ s _ (hs'.out.below (Ext.below _)))) | (go_at_call 108;exact Ext.same (hone.out _)))))
   refine wpQuiet_nil ?_
   intro _ hw'
   obtain ⟨x9,hw''⟩:=hw'
   subst hw''
   clear hd he hu
   go_wp2_with fail
   go_roundw
   case rel=>exact ⟨k+1,by omega,by go_num,rfl,x9,rfl⟩
   case measure=>simp [Go.RowKit.intOf];omega
  ·obtain rfl:k=D.spans.length:=by omega
   go_wp2_with fail
   go_ret
   exact ⟨rfl,x.below⟩
theorem zrt (B:Nat) (v:Value) (D:WD) (hl12:D.spans.length≤12) (w:World) (hr:RdW w v D) (hB:BoxW w B v) :
  Calls Tryz.prog 56 #[.pointer (some ⟨B,0,none⟩)] w fun e w'=>e=.returned (.int .i64 (unsK D D.spans.length:Int))∧w=w':=by
 have huk:=zaa (fun k hk=>zwz D k hk)
 obtain ⟨vw,vd,vs,vm,vg,rfl,a1,a2,a3,a4,a5⟩:=hr
 obtain ⟨aS,cS,rfl,hls,hx⟩:=a3
 have hx':=zaa hx
 have g4:=hB.cell 4 _ rfl
 clear hx hls a1 a2 a4 a5 hB
 go_enter Tryz.func56,Tryz.ntmps56
 go_wp2_with fail
 go_loop [3,10] (fun u i=>∃ k:Nat,k≤D.spans.length∧i=.int .i64 k∧u=.int .i64 (unsK D k:Int)) (fun u i=>D.spans.length-(Go.RowKit.intOf i).toNat)
 case atStart=>exact ⟨0,Nat.zero_le _,rfl,rfl⟩
 case round =>
  obtain ⟨k,hk,rfl,rfl⟩:=hrel
  have hub:=huk.out k hk
  by_cases hlt:k<D.spans.length
  ·have hlt1:(k:Int)<(D.spans.length:Int):=by omega
   obtain ⟨s,hks⟩:∃ s,D.spans[k]?=some s:=⟨_,List.getElem?_eq_getElem hlt⟩
   obtain ⟨b1,o1,rfl,hs⟩:=hx'.out k s hks
   obtain ⟨vl,vp,y0,y1,y2,y3,_⟩:=hs
   have hus:=zaa (znf hks)
   obtain ⟨sw,hsw⟩:∃ b,s.swept=b:=⟨_,rfl⟩
   have hn3:unsK D (k+1)=unsK D k+(if sw=true then 0 else 1):=by rw [hus.out,hsw]
   rw [hsw] at y3
   clear hks y0 y1 y2 hsw
   cases sw
   all_goals
    simp only [if_true,if_false,Bool.false_eq_true] at hn3
    have hn4:=zaa hn3
    clear hn3
    go_wp2_with fail
    go_round
    case rel=>exact ⟨k+1,by omega,by go_num,by rw [hn4.out];go_num⟩
    case measure=>simp [Go.RowKit.intOf];omega
  ·obtain rfl:k=D.spans.length:=by omega
   go_wp2_with fail
   go_ret
   exact ⟨rfl,rfl⟩
theorem zrb (v:Value) (D:WD) (hfit:FitD D) (hcap:CapW v) (w:World) (hr:RdW w v D) :
  Calls Tryz.prog 22 #[v] w fun e w'=>ziw D e∧Below w.heap.size w w':=by
 have hcap':=zaa hcap
 have hfit':=zaa hfit
 clear hcap hfit
 obtain ⟨vw,vd,vs,vm,vg,rfl,a1,a2,a3,a4,a5⟩:=hr
 have bx:=Y6 w (.cells #[.int .i64 D.base,.int .i64 D.pages,vw,vd,vs,vm,.int .i64 D.phase,.int .i64 D.next,vg] 30)
 have bw:=Z5 w (.cells #[.int .i64 D.base,.int .i64 D.pages,vw,vd,vs,vm,.int .i64 D.phase,.int .i64 D.next,vg] 30)
 have hW:=zaa (show RdW (w.alloc (.cells #[.int .i64 D.base,.int .i64 D.pages,vw,vd,vs,vm,.int .i64 D.phase,.int .i64 D.next,vg] 30)) (.agg #[.int .i64 D.base,.int .i64 D.pages,vw,vd,vs,vm,.int .i64 D.phase,.int .i64 D.next,vg]) D from ⟨vw,vd,vs,vm,vg,rfl,a1.below bw,a2.below bw,a3.below bw,a4.below bw,a5.below bw⟩)
 have hBx:=zaa (show BoxW (w.alloc (.cells #[.int .i64 D.base,.int .i64 D.pages,vw,vd,vs,vm,.int .i64 D.phase,.int .i64 D.next,vg] 30)) w.heap.size (.agg #[.int .i64 D.base,.int .i64 D.pages,vw,vd,vs,vm,.int .i64 D.phase,.int .i64 D.next,vg]) from ⟨_,rfl,bx⟩)
 have bw':=zaa bw
 clear a1 a2 a3 a4 a5 bx bw
 go_enter Tryz.func22,Tryz.ntmps22
 go_wp2_with fail
 refine (J4 _ D hfit'.out hcap'.out _ hW.out).mono ?_
 rintro e w1 ⟨hq,b1⟩
 replace hq:=hq.elim
 obtain ⟨x1,rfl⟩:=Ext.of b1
 clear b1
 generalize w.alloc (.cells #[.int .i64 D.base,.int .i64 D.pages,vw,vd,vs,vm,.int .i64 D.phase,.int .i64 D.next,vg] 30)=W at *
 rcases hq with ⟨hG,rfl⟩ | ⟨hG,rfl⟩
 case inr =>
  have n:=zaa (show ziw D (.returned (.int .i64 0)) from ⟨0,rfl,.inr ⟨hG,rfl⟩⟩)
  clear hG
  go_wp2_with fail
  go_ret
  exact ⟨n.out,Z4 bw'.out x1.below⟩
 have hF':=zaa hG.1
 have hl12:D.spans.length≤12:=by have:=hG.1.spans;have:=hG.1.geo.2.2.2.2.1;omega
 have hml:D.muts.length≤3:=by have:=hG.1.geo.2.2.2.2.2.2;omega
 have hnx:=hG.2.1.2.1.1
 have hnx2:=hG.2.1.2.1.2.1
 have hph0:=hG.1.ph0
 have hph1:=hG.1.ph1
 have hwb:=zqg (D:=D) hG.1.lens16 _ (Nat.le_refl _)
 have hub:=zwz D _ (Nat.le_refl _)
 have hun:=zaa (U0.uns hG)
 have y:=zaa (show ziw D (.returned (.int .i64 (zjq D))) from ⟨_,rfl,.inl ⟨hG,rfl⟩⟩)
 have h1:=zaa (fun (x:Ext W)=>zqh w.heap.size _ D hF'.out x.val (hW.out.below x.below) (hBx.out.below x.below))
 have h2:=zaa (fun (x:Ext W)=>zrt w.heap.size _ D hl12 x.val (hW.out.below x.below) (hBx.out.below x.below))
 obtain ⟨am,cm,rfl,hmm,_⟩:=hW.out.parts.2.2.2.1
 obtain ⟨ag,cg,rfl,-,_⟩:=hW.out.parts.2.2.2.2
 have hg3:=U0.greyLen hG
 have g5:=Ext.cell (hBx.out.elim fun cs h=>by obtain rfl:=(Value.agg.inj h.1).symm;exact Z0 h.2 5 _ rfl)
 have g6:=Ext.cell (hBx.out.elim fun cs h=>by obtain rfl:=(Value.agg.inj h.1).symm;exact Z0 h.2 6 _ rfl)
 have g7:=Ext.cell (hBx.out.elim fun cs h=>by obtain rfl:=(Value.agg.inj h.1).symm;exact Z0 h.2 7 _ rfl)
 have g8:=Ext.cell (hBx.out.elim fun cs h=>by obtain rfl:=(Value.agg.inj h.1).symm;exact Z0 h.2 8 _ rfl)
 clear hG hmm
 have hp:D.phase=0∨D.phase=1∨D.phase=2∨D.phase=3∨D.phase=4:=by omega
 clear hph0 hph1
 rcases hp with hp | hp | hp | hp | hp
 ·rw [leftN_0 hp] at y
  rw [hp] at g6
  clear hp
  go_wp2_with fail
  go_ret
  exact ⟨y.out,Z4 bw'.out x1.below⟩
 ·rw [leftN_1 hp] at y
  rw [hp] at g6
  have hu:=hun.out (by omega)
  rw [hu] at h2
  clear hp hub hu
  generalize zfu D D.spans.length=wh at *
  go_wp2_with fail
  refine Y5 x1.below (by kernel_rfl) (by kernel_rfl) ?_
  repeat (go_big_quiet_step ((go_at_call 55;exact Ext.call (h1.out _))))
  refine wpQuiet_nil ?_
  intro _ hw'
  obtain ⟨x9,hw''⟩:=hw'
  subst hw''
  go_wp2_with fail
  refine (h2.out x9).mono ?_
  rintro e w' ⟨rfl,rfl⟩
  go_wp2_with fail
  go_ret
  refine ⟨?_,Z4 bw'.out x9.below⟩
  have y2:=y.out
  refine cast (congrArg (fun z:Int=>ziw D (.returned (.int .i64 z))) ?_) y2
  omega
 ·rw [leftN_2 hp] at y
  rw [hp] at g6
  have hu:=hun.out (by omega)
  rw [hu] at h2
  clear hp hub hu
  generalize zfu D D.spans.length=wh at *
  go_wp2_with fail
  refine Y5 x1.below (by kernel_rfl) (by kernel_rfl) ?_
  repeat (go_big_quiet_step ((go_at_call 55;exact Ext.call (h1.out _))))
  refine wpQuiet_nil ?_
  intro _ hw'
  obtain ⟨x9,hw''⟩:=hw'
  subst hw''
  go_wp2_with fail
  refine (h2.out x9).mono ?_
  rintro e w' ⟨rfl,rfl⟩
  go_wp2_with fail
  go_ret
  refine ⟨?_,Z4 bw'.out x9.below⟩
  have y2:=y.out
  refine cast (congrArg (fun z:Int=>ziw D (.returned (.int .i64 z))) ?_) y2
  omega
 ·rw [leftN_3 hp] at y
  rw [hp] at g6
  have hu:=hun.out (by omega)
  rw [hu] at h2
  clear hp hub hu
  go_wp2_with fail
  refine (h2.out x1).mono ?_
  rintro e w' ⟨rfl,rfl⟩
  go_wp2_with fail
  go_ret
  refine ⟨?_,Z4 bw'.out x1.below⟩
  have y2:=y.out
  refine cast (congrArg (fun z:Int=>ziw D (.returned (.int .i64 z))) ?_) y2
  omega
 ·rw [leftN_4 hp] at y
  rw [hp] at g6
  clear hp
  generalize unsK D D.spans.length=un at *
  go_wp2_with fail
  refine (h2.out x1).mono ?_
  rintro e w' ⟨rfl,rfl⟩
  go_wp2_with fail
  go_ret
  refine ⟨?_,Z4 bw'.out x1.below⟩
  have y2:=y.out
  refine cast (congrArg (fun z:Int=>ziw D (.returned (.int .i64 z))) ?_) y2
  omega
end Go.Proofs.YtilkidaihbhfpaaGreat
