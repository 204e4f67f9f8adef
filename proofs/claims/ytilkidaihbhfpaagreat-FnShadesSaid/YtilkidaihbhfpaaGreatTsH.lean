import Derived.Test.YtilkidaihbhfpaaGreatTsG
import Derived.Test.YtilkidaihbhfpaaGreatTsQ
import Derived.Test.YtilkidaihbhfpaaGreatTsV
import Derived.Test.YtilkidaihbhfpaaGreatTsP
import Derived.Test.YtilkidaihbhfpaaGreatTsR
import Derived.Deep.QuietTactic

set_option maxRecDepth 100000
set_option maxHeartbeats 16000000
namespace Go.Proofs.YtilkidaihbhfpaaGreat
open Go.RowKit
set_option linter.unusedVariables false
def zqa (D:WD) (base B:Nat) (S:Y2) (e:Ending) (w':World):Prop :=
 (∃ k s E S',zlt D k s∧zfs D k s E∧e=.returned (.bool true)∧VarW w' base B S' E)∨((∀ s,s ∈ D.spans→s.swept=true)∧e=.returned (.bool false)∧VarW w' base B S D)
theorem zuw (base B:Nat) (S:Y2) (D:WD) (hF:Z8 D) (hp4:D.phase=4) (w:World) (h:VarW w base B S D) :
  Calls Tryz.prog 155 #[.pointer (some ⟨B,0,none⟩)] w fun e w'=>zqa D base B S e w'∧Below base w w':=by
 have h':=zaa h
 have hF':=zaa hF
 have hp':=zaa hp4
 have hle:=zaa (Nat.le_of_lt (Nat.lt_of_le_of_lt h.le h.lt))
 obtain ⟨aS,cS,hvs⟩:=Y4 h.own.spans
 have hvs':=zaa hvs
 have hls:D.spans.length≤1000:=by have:=hF.spans;have:=hF.geo.2.2.2.2.1;omega
 have hls':=zaa hls
 clear hF h hvs hp4
 go_enter Tryz.func155,Tryz.ntmps155
 go_wp2_with fail
 go_loopw [3] (fun i wr=>∃ k:Nat,k≤D.spans.length∧i=.int .i64 k∧Hid (∀ q t,q<k→D.spans[q]?=some t→t.swept=true)∧Hid (VarW wr base B S D)∧Hid (Below base w wr)) (fun i _=>D.spans.length-(Go.RowKit.intOf i).toNat)
 case atStart=>exact ⟨0,Nat.zero_le _,rfl,zaa (fun q t h=>absurd h (by omega)),h',zaa (Below.refl _ _)⟩
 case round =>
  obtain ⟨k,hk,rfl,hsw,hv,hB⟩:=hrel
  have g4:=hv.out.cell 4 S.vs rfl
  rw [hvs'.out] at g4
  by_cases hlt:k<D.spans.length
  case neg =>
   obtain rfl:k=D.spans.length:=by omega
   have y:=zaa (show zqa D base B S (.returned (.bool false)) wr from .inr ⟨fun s hs=>by obtain ⟨q,hq⟩:=List.mem_iff_getElem?.1 hs;exact hsw.out q s (List.getElem?_eq_some_iff.1 hq).1 hq,rfl,hv.out⟩)
   clear hsw
   go_wp2_with fail
   go_ret
   exact ⟨y.out,hB.out⟩
  have hlt1:(k:Int)<(D.spans.length:Int):=by omega
  obtain ⟨s,hks⟩:∃ s,D.spans[k]?=some s:=⟨_,List.getElem?_eq_getElem hlt⟩
  obtain ⟨p,hp⟩:=hv.out.svAt hks
  obtain ⟨gs,cs,hgs⟩:=hv.out.headS (by omega)
  obtain ⟨rfl,rfl⟩:aS=some ⟨gs,0,none⟩∧cS=cs:=by have:=hvs'.out.symm.trans hgs;simpa using this
  have x3:=(hv.out.six hgs hks hp).2.2.2.1
  have hks':=zaa hks
  have hp'':=zaa hp
  have hn16:=zaa (show s.lens.length≤16 from by have A:=hF'.out.span k s hks;have h1:=A.lens;have h2:=(E7 s.cls).2;omega)
  clear hks hp hgs
  cases hss:s.swept
  case true =>
   rw [hss] at x3
   have hn:=zaa (show ∀ q t,q<k+1→D.spans[q]?=some t→t.swept=true from fun q t hq ht=>if e:q=k then by subst e;rw [hks'.out] at ht;cases ht;exact hss else hsw.out q t (by omega) ht)
   clear hss hsw
   go_wp2_with fail
   go_roundw
   case rel=>exact ⟨k+1,by omega,by go_num,hn,hv,hB⟩
   case measure=>simp [Go.RowKit.intOf];omega
  rw [hss] at x3
  have hu:=zaa (show zlt D k s from ⟨hks'.out,hss,hsw.out⟩)
  clear hss hsw
  go_wp2_with fail
  go_loopw [4] (fun i wr=>∃ j:Nat,j≤s.lens.length∧i=.int .i64 j∧Hid (VarW wr base B S (U2 D k j))∧Hid (Below base w wr)) (fun i _=>s.lens.length-(Go.RowKit.intOf i).toNat)
  case atStart=>exact ⟨0,Nat.zero_le _,rfl,hv,hB⟩
  case round =>
   obtain ⟨j,hj,rfl,hvq,hBq⟩:=hrel
   have hlike:=zaa (zgb (D:=D) hks'.out j)
   obtain ⟨t,ht,tpg,tcl,tsw,tll,tpl⟩:=hlike.out.here s hks'.out
   have hlen:=hlike.out.len
   have hFj:=zaa (zho hF'.out hks'.out hj)
   have hpj:=zaa (show (U2 D k j).phase=4 from hlike.out.phase.trans hp'.out)
   have g4:=hvq.out.cell 4 S.vs rfl
   rw [hvs'.out] at g4
   have hgs:S.vs=.slice (some ⟨gs,0,none⟩) (U2 D k j).spans.length cS:=by rw [hlen];exact hvs'.out
   obtain ⟨x0,x1,x2,x3,x4,x5⟩:=hvq.out.six hgs ht hp''.out
   obtain ⟨al,cl,hp1⟩:=Y4 (hvq.out.own.inner k t p ht hp''.out).1
   have hp1':=zaa hp1
   rw [hp1,tll] at x4
   have ht':=zaa ht
   have hgs':=zaa hgs
   have hsw1:=zaa (show t.swept=false from tsw.trans hu.out.2.1)
   have tll':=zaa tll
   by_cases hjl:j<s.lens.length
   ·have hjl1:(j:Int)<(s.lens.length:Int):=by omega
    have hd:=zaa (zjz B _ (U2 D k j) k j t ht (by omega) (by have:=hn16.out;omega) wr hvq.out.rd hvq.out.boxW)
    have hgive:=zaa (fun (w':World) (hb:Below wr.heap.size wr w')=>zxo base B S (U2 D k j) k j t ht (hFj.out.slotIn ht (by omega)) w' (hvq.out.below hb))
    have hs1:=zaa (show zqd (U2 D k j) t j→U2 D k (j+1)=zkc (U2 D k j) k t j from fun h=>zgx ht h.2.2.1 h.2.2.2)
    have hs2:=zaa (show ¬ zqd (U2 D k j) t j→U2 D k (j+1)=U2 D k j from fun h=>zil ht fun h2=>h ⟨hpj.out,hsw1.out,h2.1,h2.2⟩)
    clear ht hgs tpg tcl tsw tll tpl hlen x0 x1 x2 x3 x5 hp1
    generalize hE2:U2 D k (j+1)=E2 at hs1 hs2
    have hE2':=zaa hE2
    have hn:=hn16.out
    clear hE2
    generalize U2 D k j=E at *
    go_wp2_with fail
    refine hd.out.mono ?_
    rintro e w2 ⟨hq,b2⟩
    replace hq:=hq.elim
    have hv2:=zaa (hvq.out.below b2)
    have hB2:=zaa (hBq.out.trans (b2.mono (by have:=hBq.out.size;have:=hle.out;omega)))
    have hb2:=zaa b2
    clear b2 hd g4 x4
    rcases hq with ⟨hq,rfl⟩ | ⟨hq,rfl⟩
    ·have hE:=zaa (hs1.out hq)
     clear hq hs1 hs2
     go_wp2_with fail
     refine (hgive.out w2 hb2.out).mono ?_
     rintro e w3 ⟨rfl,hv3,b3⟩
     have hv3':=zaa (show VarW w3 base B S (U2 D k (j+1)) by rw [hE2'.out,hE.out];exact hv3)
     have hB3:=zaa (hB2.out.trans b3)
     clear hv3 b3 hgive
     go_wp2_with fail
     go_roundw
     case rel=>exact ⟨j+1,by omega,by go_num,hv3',hB3⟩
     case measure=>simp [Go.RowKit.intOf];omega
    ·have hE:=zaa (hs2.out hq)
     have hv3':=zaa (show VarW w2 base B S (U2 D k (j+1)) by rw [hE2'.out,hE.out];exact hv2.out)
     clear hq hs1 hs2 hgive
     go_wp2_with fail
     go_roundw
     case rel=>exact ⟨j+1,by omega,by go_num,hv3',hB2⟩
     case measure=>simp [Go.RowKit.intOf];omega
   obtain rfl:j=s.lens.length:=by omega
   have hm:=hvq.out.mark hgs k t p 0 ht hp''.out
   have hk2:=zaa (zhb (t:=({ t with mark:=0 }:Y3)) ht)
   have hgs2:S.vs=.slice (some ⟨gs,0,none⟩) ({ U2 D k s.lens.length with spans:=(U2 D k s.lens.length).spans.set k { t with mark:=0 } }:WD).spans.length cS:=by rw [List.length_set];exact hgs
   have hs:=hm.1.swept hgs2 k _ p true hk2.out hp''.out
   have hv3:=zaa (show VarW _ base B S (P8 (U2 D k s.lens.length) k t) from by simpa only [P8,offS,List.set_set] using hs.1)
   have hB3:=zaa ((hBq.out.trans hm.2).trans hs.2)
   have f2:=hvq.out.frzS hgs (k*6+2)
   have f3:=hvq.out.frzS hgs (k*6+3)
   have hne:B≠gs:=fun e=>hvq.out.ne (by rw [e];exact List.mem_filterMap.2 ⟨S.vs,by simp [Y2.all],by rw [hgs];rfl⟩)
   have hne':=hne.symm
   have hks3:=zaa (show (P8 (U2 D k s.lens.length) k t).spans[k]?=some (offS t) from zhb ht)
   have hl3:=zaa (show (P8 (U2 D k s.lens.length) k t).spans.length=D.spans.length from by simp only [P8,List.length_set];exact hlen)
   have y1:=zaa (show zhk (offS t)→zfs D k s (dropD (P8 (U2 D k s.lens.length) k t) k) from fun h=>⟨t,ht'.out,.inl ⟨h,rfl⟩⟩)
   have y2:=zaa (show ¬ zhk (offS t)→zfs D k s (P8 (U2 D k s.lens.length) k t) from fun h=>⟨t,ht'.out,.inr ⟨h,rfl⟩⟩)
   clear hm hs ht hgs hgs2 tpg tcl tsw tpl hlen hlike hFj hpj hp1 tll
   go_upto_region 12 with fail
   have hsz:w.heap.size≤wr.heap.size:=hBq.out.size
   generalize hwe:(wr.setCell ⟨gs,k*6+2,none⟩ (.int .i64 0)).setCell ⟨gs,k*6+3,none⟩ (.bool true)=w3 at *
   clear hwe x0 x1 x2 x3 x4 x5 f2 f3 g4
   unfold dropD at y1
   generalize offS t=t3 at *
   generalize P8 (U2 D k s.lens.length) k t=F at *
   have hgs3:S.vs=.slice (some ⟨gs,0,none⟩) F.spans.length cS:=by rw [hl3.out];exact hvs'.out
   have g4:=hv3.out.cell 4 S.vs rfl
   rw [hvs'.out] at g4
   obtain ⟨x0,x1,x2,x3,x4,x5⟩:=hv3.out.six hgs3 hks3.out hp''.out
   have hem:=zaa (zvg t3 p.1 p.2 w3 (Rd.of_owns (hv3.out.own.inner k t3 p hks3.out hp''.out).1))
   have hdr:=zaa (fun (w':World) (hb:Below w3.heap.size w3 w')=>zxr base B S F k t3 hks3.out (by rw [hl3.out];exact hls'.out) w' (hv3.out.below hb))
   clear hgs3
   unfold zgz at hem
   go_wp2_with fail
   refine hem.out.mono ?_
   rintro e w4 ⟨hq,b4⟩
   replace hq:=hq.elim
   have hv4:=zaa (hv3.out.below b4)
   have hB4:=zaa (hB3.out.trans (b4.mono (by have:=hB3.out.size;have:=hle.out;omega)))
   have hb4:=zaa b4
   clear b4 g4 x0 x1 x2 x3 x4 x5 hem
   rcases hq with ⟨hq,rfl⟩ | ⟨hq,rfl⟩
   ·have y:=zaa (y1.out hq)
    clear hq y1 y2
    go_wp2_with fail
    refine (hdr.out w4 hb4.out).mono ?_
    rintro e w5 ⟨rfl,⟨S5,hv5⟩,b5⟩
    have z:=zaa (show zqa D base B S (.returned (.bool true)) w5 from .inl ⟨k,s,_,S5,hu.out,y.out,rfl,hv5⟩)
    have hB5:=zaa (hB4.out.trans b5)
    clear hv5 b5 hdr
    go_wp2_with fail
    go_ret
    exact ⟨z.out,hB5.out⟩
   ·have z:=zaa (show zqa D base B S (.returned (.bool true)) w4 from .inl ⟨k,s,_,S,hu.out,y2.out hq,rfl,hv4.out⟩)
    clear hq y1 y2 hdr
    go_wp2_with fail
    go_ret
    exact ⟨z.out,hB4.out⟩
section
variable {w w':World} {base B:Nat} {S S':Y2} {D E:WD}
theorem F6.row (h:F6 w w' B S S') {b0:Nat} {v:Value} {L:List Int} (r:w.ownsRow b0 3 1 v L.length (L.map (Value.int .i64))) (hn:∀ q,v.ownBlock=some q→q ∉ B :: blks S.all):w'.ownsRow b0 3 1 v L.length (L.map (Value.int .i64)) :=
 X9 r h.chg hn
theorem F6.roots (h:F6 w w' B S S') {b0:Nat} (hv:VarW w' b0 B S' E) (hm:E.muts=D.muts) {m:Nat} {r:List Int} {u:Value} (hr:D.muts[m]?=some r) (hu:S.mv[m]?=some u):Rd w' u r:=by
 obtain ⟨v,rfl,_⟩:=h.vg
 exact Rd.of_owns (hv.own.innerM m r u (by rw [hm];exact hr) hu)
theorem ztr {b0 size n:Nat} {e:TypeId} {a:Option Addr} {m c:Nat} {xs:List Value} (h:w.ownsRow b0 e size (.slice a m c) n xs):m≤c:=by
 rcases h.2 with ⟨hv,h0⟩ | ⟨g,cap,cur,hv,_,_,hn,_⟩
 ·simp only [Value.slice.injEq] at hv
  omega
 ·simp only [Value.slice.injEq] at hv
  omega
theorem row_less {b0:Nat} {G:List Int} {x:Int} {a:Option Addr} {c:Nat} (h:w.ownsRow b0 3 1 (.slice a (G ++ [x]).length c) (G ++ [x]).length ((G ++ [x]).map (Value.int .i64))):w.ownsRow b0 3 1 (.slice a G.length c) G.length (G.map (Value.int .i64)):=by
 refine ⟨by simp,?_⟩
 rcases h.2 with ⟨_,h0⟩ | ⟨g,cap,cur,hv,hb,hh,hn,hc,hsz,ht⟩
 ·simp at h0
 ·simp only [Value.slice.injEq] at hv
  obtain ⟨rfl,_,rfl⟩:=hv
  refine .inr ⟨g,c,cur,rfl,hb,hh,by simp at hn;omega,hc,hsz,?_⟩
  have h1:=congrArg (List.take G.length) ht
  rw [List.take_take,Nat.min_eq_left (by simp),List.map_append,List.take_left' (by simp)] at h1
  rw [Nat.mul_one]
  exact h1
theorem VarW.cutGrey {G:List Int} {x:Int} (h:VarW w base B S D) (hg:D.grey=G ++ [x]) {a:Option Addr} {c:Nat} (hv:S.vg=.slice a D.grey.length c) :
  VarW (w.setCell ⟨B,8,none⟩ (.slice a G.length c)) base B { S with vg:=.slice a G.length c } { D with grey:=G }∧Below base w (w.setCell ⟨B,8,none⟩ (.slice a G.length c)):=by
 have hr:=h.own.grey
 rw [hv,hg] at hr
 refine h.grow (w':=w) ⟨rfl,rfl,rfl,Nat.le_refl _,fun _ _ _=>rfl⟩ (row_less hr) fun q hq=>.inl ?_
 rw [hv]
 cases a with
 | none=>simp [Value.ownBlock] at hq
 | some a=>simpa [Value.ownBlock] using hq
end
def L1 (L:List Y3):Nat→List Y3
 | 0=>L
 | k+1=>match L[k]? with
  | some s=>(L1 L k).set k (M1 s)
  | none=>L1 L k
theorem zhf (L:List Y3) (k:Nat):(L1 L k).length=L.length:=by
 induction k with
 | zero=>rfl
 | succ k ih=>unfold L1;split <;> simp [ih]
theorem zre (L:List Y3) (k i:Nat):(L1 L k)[i]?=if i<k then (L[i]?).map M1 else L[i]?:=by
 induction k with
 | zero=>simp [L1]
 | succ k ih =>
  unfold L1
  split
  ·rename_i s hs
   have hl:=(List.getElem?_eq_some_iff.1 hs).1
   rw [List.getElem?_set,zhf]
   by_cases e:k=i
   ·subst e
    rw [if_pos rfl,if_pos hl,if_pos (by omega),hs]
    rfl
   ·rw [if_neg e,ih]
    by_cases c:i<k
    ·rw [if_pos c,if_pos (by omega)]
    ·rw [if_neg c,if_neg (by omega)]
  ·rename_i hs
   rw [ih]
   by_cases e:i=k
   ·subst e
    simp [hs]
   ·by_cases c:i<k
    ·rw [if_pos c,if_pos (by omega)]
    ·rw [if_neg c,if_neg (by omega)]
theorem zoz (L:List Y3):L1 L L.length=L.map M1:=by
 apply List.ext_getElem?
 intro i
 rw [zre,List.getElem?_map]
 split
 ·rfl
 ·rename_i h
  rw [List.getElem?_eq_none (by omega)]
  rfl
theorem znq {L:List Y3} {k:Nat} {s:Y3} (hs:L[k]?=some s):(L1 L k)[k]?=some s∧L1 L (k+1)=(L1 L k).set k (M1 s):=by
 refine ⟨by rw [zre,if_neg (by omega)];exact hs,?_⟩
 show (match L[k]? with | some s=>(L1 L k).set k (M1 s) | none=>L1 L k)=_
 rw [hs]
end Go.Proofs.YtilkidaihbhfpaaGreat
namespace Go.Proofs.YtilkidaihbhfpaaGreat
open Go.RowKit
set_option linter.unusedVariables false
set_option linter.unusedSimpArgs false
def R6 (D:WD) (base B:Nat) (w':World):Prop:=∃ S' E,zet D E∧VarW w' base B S' E
theorem nz_nz (L:List Int):nz (nz L)=nz L:=by unfold nz;rw [List.filter_filter];congr 1;funext x;simp
theorem nat_of {x:Int} (h:0≤x):∃ n:Nat,x=(n:Int):=Int.eq_ofNat_of_zero_le h
theorem sstep_0 (base B:Nat) (S:Y2) (D:WD) (hG:U1 D) (hp:D.phase=0) (w:World) (h:VarW w base B S D) :
  Calls Tryz.prog 116 #[.pointer (some ⟨B,0,none⟩)] w fun e w'=>e=.returned (.tuple #[])∧R6 D base B w'∧Below base w w':=by
 have h':=zaa h
 have hG':=zaa hG
 have hp':=zaa hp
 have hle:=zaa (Nat.le_of_lt (Nat.lt_of_le_of_lt h.le h.lt))
 have g6:=h.cell 6 (.int .i64 0) (by rw [← hp];rfl)
 have f6:=h.frz 6
 have y:=zaa (show R6 D base B w from ⟨S,D,.inl ⟨hp,rfl⟩,h⟩)
 clear h hG hp
 go_enter Tryz.func116,Tryz.ntmps116
 go_wp2_with fail
 go_end0
 exact ⟨rfl,y.out,Below.refl _ _⟩
theorem sstep_3 (base B:Nat) (S:Y2) (D:WD) (hG:U1 D) (hp:D.phase=3) (w:World) (h:VarW w base B S D) :
  Calls Tryz.prog 116 #[.pointer (some ⟨B,0,none⟩)] w fun e w'=>e=.returned (.tuple #[])∧R6 D base B w'∧Below base w w':=by
 have h':=zaa h
 have hG':=zaa hG
 have hp':=zaa hp
 have hle:=zaa (Nat.le_of_lt (Nat.lt_of_le_of_lt h.le h.lt))
 have g6:=h.cell 6 (.int .i64 3) (by rw [← hp];rfl)
 have f6:=h.frz 6
 have v1:=h.phase 4
 have y:=zaa (show R6 D base B _ from ⟨S,_,.inr (.inr (.inr (.inl ⟨hp,rfl⟩))),v1.1⟩)
 have b1:=zaa v1.2
 clear h hG hp v1
 go_enter Tryz.func116,Tryz.ntmps116
 go_wp2_with fail
 go_end0
 exact ⟨rfl,y.out,b1.out⟩
theorem sstep_1 (base B:Nat) (S:Y2) (D:WD) (hG:U1 D) (hp:D.phase=1) (w:World) (h:VarW w base B S D) :
  Calls Tryz.prog 116 #[.pointer (some ⟨B,0,none⟩)] w fun e w'=>e=.returned (.tuple #[])∧R6 D base B w'∧Below base w w':=by
 have h':=zaa h
 have hG':=zaa hG
 have hp':=zaa hp
 have hle:=zaa (Nat.le_of_lt (Nat.lt_of_le_of_lt h.le h.lt))
 have g6:=h.cell 6 (.int .i64 1) (by rw [← hp];rfl)
 have f6:=h.frz 6
 obtain ⟨am,cm,hvm⟩:=Y4 h.own.muts
 have hvm':=zaa hvm
 have hml:D.muts.length≤9223372036854775807:=by have hmx:=h.rd.parts.2.2.2.1;obtain ⟨_,_,_,hml,_⟩:=hmx;unfold maxLen at hml;omega
 have g7:=h.cell 7 (.int .i64 D.next) rfl
 have g5:=h.cell 5 S.vm rfl
 rw [hvm] at g5
 have f7:=h.frz 7
 have n0:=hG.gc.2.1.1
 have n1:=hG.gc.2.1.2.1
 clear h hG hp hvm
 by_cases c:D.next<(D.muts.length:Int)
 case neg =>
  have hc:=zaa (show D.next=(D.muts.length:Int) by omega)
  have d1:decide (D.next<(D.muts.length:Int))=false:=decide_eq_false c
  clear c n0 n1
  go_enter Tryz.func116,Tryz.ntmps116
  go_wp2_with fail
  go_quiet (fail)
  go_wp2_with fail
  go_end0
  have v1:=(h'.out.drewN nq).phase 2
  have v2:=v1.1.next 0
  exact ⟨rfl,⟨S,{ D with phase:=2,next:=0 },.inr (.inl ⟨hp'.out,.inr ⟨hc.out,rfl⟩⟩),v2.1⟩,(below_drewN (Below.refl _ _) nq).trans (v1.2.trans v2.2)⟩
 obtain ⟨n,hn⟩:=nat_of n0
 have hn':=zaa hn
 rw [hn] at g7 c
 have hnl:n<D.muts.length:=by omega
 obtain ⟨r,hr⟩:∃ r,D.muts[n]?=some r:=⟨_,List.getElem?_eq_getElem hnl⟩
 have hr':=zaa hr
 have hmuts:=h'.out.own.ownM
 obtain ⟨u,hu⟩:∃ u,S.mv[n]?=some u:=⟨_,List.getElem?_eq_getElem (by have:=h'.out.own.mvl;omega)⟩
 obtain ⟨ar,cr,rfl⟩:=Y4 (h'.out.own.innerM n r u hr hu)
 have hu':=zaa hu
 obtain ⟨gm,cm',hgm⟩:∃ g c,S.vm=.slice (some ⟨g,0,none⟩) D.muts.length c:=by
  rcases h'.out.own.muts.2 with ⟨_,h0⟩ | ⟨g,cap,cur,e,_⟩
  ·omega
  ·exact ⟨g,cap,e⟩
 obtain ⟨rfl,rfl⟩:am=some ⟨gm,0,none⟩∧cm=cm':=by have:=hvm'.out.symm.trans hgm;simpa using this
 have xr:w.cell? ⟨gm,n,none⟩=some (.slice ar r.length cr):=by
  have hrow:=h'.out.own.muts
  rw [hgm] at hrow
  have:=hrow.cellAt n (by have:=h'.out.own.mvl;omega)
  rw [this]
  exact hu
 have hr6:=zaa (show r.length=6 from hG'.out.form.roots n r hr)
 clear hr hu hgm hmuts n0 n1
 have d1:decide ((n:Int)<(D.muts.length:Int))=true:=decide_eq_true c
 go_enter Tryz.func116,Tryz.ntmps116
 go_wp2_with fail
 go_quiet (fail)
 go_upto_region 4 with fail
 have v1:=zaa (h'.out.drewN nq)
 have B1:=zaa (show Below base w (w.drewN nq) from below_drewN (Below.refl _ _) nq)
 have g5':(w.drewN nq).cell? ⟨B,5,none⟩=some (.slice (some ⟨gm,0,none⟩) D.muts.length cm):=g5
 have g7':(w.drewN nq).cell? ⟨B,7,none⟩=some (.int .i64 (n:Int)):=g7
 have xr':(w.drewN nq).cell? ⟨gm,n,none⟩=some (.slice ar r.length cr):=xr
 generalize w.drewN nq=w1 at *
 clear g5 g6 g7 f6 f7 xr d1
 refine T6 (fun w'=>w'.cell? ⟨B,5,none⟩=some (.slice (some ⟨gm,0,none⟩) D.muts.length cm)∧w'.cell? ⟨B,7,none⟩=some (.int .i64 (n:Int))∧w'.cell? ⟨gm,n,none⟩=some (.slice ar r.length cr)) (fun j=>j == 12) (by kernel_rfl) ?_
 intro w3 hw3
 have v3:=zaa (show VarW w3 base B S D from hw3 ▸ v1.out.drew)
 have B3:=zaa (show Below base w w3 from hw3 ▸ below_drewN B1.out 1)
 have h0:(fun w'=>w'.cell? ⟨B,5,none⟩=some (.slice (some ⟨gm,0,none⟩) D.muts.length cm)∧w'.cell? ⟨B,7,none⟩=some (.int .i64 (n:Int))∧w'.cell? ⟨gm,n,none⟩=some (.slice ar r.length cr)) w3:=hw3 ▸ ⟨g5',g7',xr'⟩
 clear hw3 g5' g7' xr'
 have hcall:=zaa (zko base B S D r ar cr hG'.out.form (by have:=hG'.out.greyLen;have:=hr6.out;omega) w3 v3.out fun w' S' E hv hs hm=>hs.roots hv hm hr'.out hu'.out)
 refine Z9 (i:=0) (v:=?vq1) rfl (by kernel_rfl) (by kernel_rfl) (by kernel_rfl) rfl (fun _ _ _ h=>h) (Or.inl ⟨by rfl,?hq1⟩) (fun _=>h0) ?rq1
 case hq1=>(intro w _;go_simp;try with_reducible rfl)
 try simp only [Act.put,zab,zac,zad]
 refine Z9 (i:=1) (v:=?vq2) rfl (by kernel_rfl) (by kernel_rfl) (by kernel_rfl) rfl (fun _ _ _ h=>h) (Or.inl ⟨by rfl,?hq2⟩) (fun _=>h0) ?rq2
 case hq2=>(intro w _;go_simp;try with_reducible rfl)
 try simp only [Act.put,zab,zac,zad]
 refine Z9 (i:=2) (v:=?vq3) rfl (by kernel_rfl) (by kernel_rfl) (by kernel_rfl) rfl (fun _ _ _ h=>h) (Or.inl ⟨by rfl,?hq3⟩) (fun _=>h0) ?rq3
 case hq3=>(intro w _;go_simp;try with_reducible rfl)
 try simp only [Act.put,zab,zac,zad]
 refine Z9 (i:=3) (v:=?vq4) rfl (by kernel_rfl) (by kernel_rfl) (by kernel_rfl) rfl (fun _ _ _ h=>h) (Or.inl ⟨by rfl,?hq4⟩) (fun _=>h0) ?rq4
 case hq4=>(intro w _;go_simp;try with_reducible rfl)
 try simp only [Act.put,zab,zac,zad]
 refine X2 (i:=4) (v:=?vq5) rfl (by kernel_rfl) (by kernel_rfl) (by kernel_rfl) (by kernel_rfl) (fun j hj=>by simp at hj;subst hj;kernel_rfl) (fun _ _ _ h=>h) (Or.inl ⟨by rfl,?hq5⟩) (by exact h0) ?rq5
 case hq5=>(intro w hSw;(try dsimp only at hSw);obtain ⟨s0,s1,s2⟩:=hSw;go_simp;try with_reducible rfl)
 try simp only [Act.put,zab,zac,zad]
 refine Z9 (i:=5) (v:=?vq6) rfl (by kernel_rfl) (by kernel_rfl) (by kernel_rfl) rfl (fun _ _ _ h=>h) (Or.inl ⟨by rfl,?hq6⟩) (fun _=>h0) ?rq6
 case hq6=>(intro w _;go_simp;try with_reducible rfl)
 try simp only [Act.put,zab,zac,zad]
 refine Z9 (i:=6) (v:=?vq7) rfl (by kernel_rfl) (by kernel_rfl) (by kernel_rfl) rfl (fun _ _ _ h=>h) (Or.inl ⟨by rfl,?hq7⟩) (fun _=>h0) ?rq7
 case hq7=>(intro w _;go_simp;try with_reducible rfl)
 try simp only [Act.put,zab,zac,zad]
 refine Z9 (i:=7) (v:=?vq8) rfl (by kernel_rfl) (by kernel_rfl) (by kernel_rfl) rfl (fun _ _ _ h=>h) (Or.inl ⟨by rfl,?hq8⟩) (fun _=>h0) ?rq8
 case hq8=>(intro w _;go_simp;try with_reducible rfl)
 try simp only [Act.put,zab,zac,zad]
 refine X2 (i:=8) (v:=?vq9) rfl (by kernel_rfl) (by kernel_rfl) (by kernel_rfl) (by kernel_rfl) (fun j hj=>by simp at hj;subst hj;kernel_rfl) (fun _ _ _ h=>h) (Or.inl ⟨by rfl,?hq9⟩) (by exact h0) ?rq9
 case hq9=>(intro w hSw;(try dsimp only at hSw);obtain ⟨s0,s1,s2⟩:=hSw;go_simp;try with_reducible rfl)
 try simp only [Act.put,zab,zac,zad]
 refine Z9 (i:=9) (v:=?vq10) rfl (by kernel_rfl) (by kernel_rfl) (by kernel_rfl) rfl (fun _ _ _ h=>h) (Or.inl ⟨by rfl,?hq10⟩) (fun _=>h0) ?rq10
 case hq10=>(intro w _;go_simp;try with_reducible rfl)
 try simp only [Act.put,zab,zac,zad]
 refine Z9 (i:=10) (v:=?vq11) rfl (by kernel_rfl) (by kernel_rfl) (by kernel_rfl) rfl (fun _ _ _ h=>h) (Or.inl ⟨by rfl,?hq11⟩) (fun _=>h0) ?rq11
 case hq11=>(intro w _;go_simp;try with_reducible rfl)
 try simp only [Act.put,zab,zac,zad]
 refine X2 (i:=11) (v:=?vq12) rfl (by kernel_rfl) (by kernel_rfl) (by kernel_rfl) (by kernel_rfl) (fun j hj=>by simp at hj;subst hj;kernel_rfl) (fun _ _ _ h=>h) (Or.inl ⟨by rfl,?hq12⟩) (by exact h0) ?rq12
 case hq12=>(intro w hSw;(try dsimp only at hSw);obtain ⟨s0,s1,s2⟩:=hSw;go_simp;try with_reducible rfl)
 try simp only [Act.put,zab,zac,zad]
 refine V6 (rs:=[12]) (by kernel_rfl) (by simp) ?_
 intro i hi
 simp only [List.mem_cons,List.not_mem_nil,or_false] at hi
 subst hi
 refine X8 (i:=12) rfl (fun K hK=>?_)
 go_simp
 go_wp2_with (go_at_call 154;refine hcall.out.mono ?_;rintro e w4 ⟨rfl,S4,E4,st⟩;have st4:=zaa st;clear st)
 refine hK.out _ _ (fun h=>Bool.noConfusion ((h 12 (by kernel_rfl)).symm.trans (show _=true by kernel_rfl))) ?_
 clear hK K
 try simp only [Act.put,zab,zac,zad]
 refine P3 (by kernel_rfl) ?_ _
 have hgo:=zaa (st4.out.is.going (zpp (hG'.out.ints.muts r (List.mem_of_getElem? hr'.out))) hG'.out)
 have g7:=st4.out.var.cell 7 (.int .i64 (n:Int)) (by show some (Value.int .i64 E4.next)=_;rw [hgo.out.2.2.2.2.1,hn'.out])
 have f7:=st4.out.var.frz 7
 have v5:=st4.out.var.next ((n:Int)+1)
 have y:=zaa (show R6 D base B _ from ⟨S4,_,.inr (.inl ⟨hp'.out,.inl ⟨r,E4,by rw [hn'.out];omega,by rw [hn'.out];exact hr'.out,st4.out.is,by rw [hn'.out]⟩⟩),v5.1⟩)
 have b5:=zaa ((B3.out.trans st4.out.bel).trans v5.2)
 clear v5 h0 hcall
 go_wp2_with fail
 refine bodyPost_ret (v:=.tuple #[]) (by simp [results,Tryz.results116,go_sem]) rfl ?_
 exact ⟨rfl,y.out,b5.out⟩
theorem sstep_2 (base B:Nat) (S:Y2) (D:WD) (hG:U1 D) (hp:D.phase=2) (w:World) (h:VarW w base B S D) :
  Calls Tryz.prog 116 #[.pointer (some ⟨B,0,none⟩)] w fun e w'=>e=.returned (.tuple #[])∧R6 D base B w'∧Below base w w':=by
 have h':=zaa h
 have hG':=zaa hG
 have hp':=zaa hp
 have hle:=zaa (Nat.le_of_lt (Nat.lt_of_le_of_lt h.le h.lt))
 have g6:=h.cell 6 (.int .i64 2) (by rw [← hp];rfl)
 have f6:=h.frz 6
 obtain ⟨ag,cg,hvg⟩:=Y4 h.own.grey
 have g8:=h.cell 8 S.vg rfl
 rw [hvg] at g8
 have f8:=h.frz 8
 rcases List.eq_nil_or_concat D.grey with hg | ⟨G,a,hg⟩
 ·have y:=zaa (show R6 D base B _ from ⟨S,{ D with phase:=3 },.inr (.inr (.inl ⟨hp,.inr ⟨hg,rfl⟩⟩)),(h.phase 3).1⟩)
  have b1:=zaa (h.phase 3).2
  rw [hg] at g8
  clear h hG hp hvg hg
  go_enter Tryz.func116,Tryz.ntmps116
  go_wp2_with fail
  go_end0
  exact ⟨rfl,y.out,b1.out⟩
 rw [List.concat_eq_append] at hg
 have hm:D.grey.length=G.length+1:=by rw [hg];simp
 have hg':=zaa hg
 have hgl:=hG.greyLen
 obtain ⟨gg,cg',hgg⟩:=N7 h.own.grey (by omega)
 obtain ⟨rfl,rfl⟩:ag=some ⟨gg,0,none⟩∧cg=cg':=by have:=hvg.symm.trans hgg;simpa using this
 have hcap:G.length+1≤cg:=by have hr:=h.own.grey;rw [hvg] at hr;have:=ztr hr;omega
 have hxa:=(Y7 h.own.grey hvg G.length (by omega)).1
 rw [show D.grey[G.length]?.getD 0=a by rw [hg];simp] at hxa
 obtain ⟨k,j,ho,_⟩:=hG.gc.1.2.2 a (by rw [hg];simp)
 obtain ⟨s,hks,hin,p0,p1⟩:=N0 hG.form ho
 have hfind:=zaa (zff B _ D hG.form a w h.rd h.boxW)
 have hvg':=zaa hvg
 have ho':=zaa ho
 have hks':=zaa hks
 have hin':=zaa hin
 have p0':=zaa p0
 have p1':=zaa p1
 have hpl:=zaa (show (nz (ptrW D s j)).length≤16 from Nat.le_trans (List.length_filter_le _ _) (by unfold ptrW;rw [List.length_take];have:=(hin.bd).2.2.2.1;omega))
 rw [hm] at g8
 have hgl':G.length≤1000:=by omega
 have hmi:(G.length:Int)+1-1=(G.length:Int):=by omega
 have hk1:(G.length:Int)<(G.length:Int)+1:=by omega
 have hk2:(G.length:Int)≤(cg:Int):=by omega
 have hc0:¬ cg=0:=by omega
 have hpos:(0:Int)<(G.length:Int)+1:=by omega
 clear h hG hp hvg hg hm hgg ho hks hin p0 p1 hgl hcap
 go_enter Tryz.func116,Tryz.ntmps116
 go_wp2_with fail
 refine hfind.out.mono ?_
 rintro e w1 ⟨⟨r,q,rfl,hq⟩,b1⟩
 have hB1:=zaa (b1.mono hle.out)
 have v1:=zaa (h'.out.below b1)
 have g8':=Z7 b1 g8
 have f8':=v1.out.frz 8
 obtain ⟨rfl,rfl⟩:r=(k:Int)∧q=(j:Int):=by
  rcases hq with ⟨k',j',_,ho2,rfl,rfl⟩ | ⟨hn,_⟩
  ·obtain ⟨rfl,rfl⟩:=ho2.unique hG'.out.form ho'.out
   exact ⟨rfl,rfl⟩
  ·exact absurd ho'.out (hn hG'.out.form k j)
 clear b1 hfind g8 f8 g6 f6 hxa hq
 have v2:=v1.out.cutGrey hg'.out hvg'.out
 have v2':=zaa v2.1
 have hB2:=zaa (hB1.out.trans v2.2)
 clear v2
 have hptr:=zaa (zgy B _ { D with grey:=G } k j s hks'.out ⟨hin'.out.cls,hin'.out.lens,hin'.out.ptrs,hin'.out.j,hin'.out.pg0,hin'.out.pg1,hin'.out.words,hin'.out.dirty,hin'.out.pg⟩ p0'.out p1'.out _ v2'.out.rd v2'.out.boxW)
 go_wp2_with fail
 refine hptr.out.mono ?_
 rintro e w4 ⟨u,rfl,hrow,b4⟩
 obtain ⟨au,cu,rfl⟩:=Y4 hrow
 have v4:=zaa (v2'.out.below b4)
 have hB4:=zaa (hB2.out.trans (b4.mono (by have:=hB2.out.size;have:=hle.out;omega)))
 have hsa:=zaa (zko base B _ { D with grey:=G } (nz (ptrW D s j)) au cu (zgh hG'.out.form G) (by have:=hpl.out;show G.length+_≤1048576;omega) w4 v4.out fun w' S' E hv hs hm=>Rd.of_owns (hs.row hrow fun q hq hmem=>by
  have h1:=(hrow.lt q hq).1
  rcases List.mem_cons.1 hmem with rfl | hmem
  ·have:=v2'.out.lt
   omega
  ·have:=(v2'.out.own.lt q hmem).2
   omega))
 clear b4 hrow hptr
 go_wp2_with fail
 refine hsa.out.mono ?_
 rintro e w5 ⟨rfl,S5,E5,st⟩
 have y:=zaa (show R6 D base B w5 from ⟨S5,E5,.inr (.inr (.inl ⟨hp'.out,.inl ⟨G,a,k,j,s,hg'.out,ho'.out,hks'.out,by have:=st.is;rwa [nz_nz] at this⟩⟩)),st.var⟩)
 have b5:=zaa (hB4.out.trans st.bel)
 clear st hsa
 go_wp2_with fail
 refine bodyPost_ret (v:=.tuple #[]) (by simp [results,Tryz.results116,go_sem]) rfl ?_
 exact ⟨rfl,y.out,b5.out⟩
theorem sstep_4 (base B:Nat) (S:Y2) (D:WD) (hG:U1 D) (hp:D.phase=4) (w:World) (h:VarW w base B S D) :
  Calls Tryz.prog 116 #[.pointer (some ⟨B,0,none⟩)] w fun e w'=>e=.returned (.tuple #[])∧R6 D base B w'∧Below base w w':=by
 have h':=zaa h
 have hG':=zaa hG
 have hp':=zaa hp
 have hle:=zaa (Nat.le_of_lt (Nat.lt_of_le_of_lt h.le h.lt))
 have g6:=h.cell 6 (.int .i64 4) (by rw [← hp];rfl)
 have f6:=h.frz 6
 have hsw:=zaa (zuw base B S D hG.form hp w h)
 clear h hG hp
 go_enter Tryz.func116,Tryz.ntmps116
 go_wp2_with fail
 refine hsw.out.mono ?_
 rintro e w1 ⟨hq,b1⟩
 have b1':=zaa b1
 rcases hq with ⟨k,s,E,S1,hu,hsi,rfl,hv⟩ | ⟨hall,rfl,hv⟩
 ·have y:=zaa (show R6 D base B w1 from ⟨S1,E,.inr (.inr (.inr (.inr ⟨hp'.out,.inl ⟨k,s,hu,hsi⟩⟩))),hv⟩)
  clear hu hsi hv hsw b1
  go_wp2_with fail
  refine bodyPost_ret (v:=.tuple #[]) (by simp [results,Tryz.results116,go_sem]) rfl ?_
  exact ⟨rfl,y.out,b1'.out⟩
 have hv1:=zaa hv
 have g6:=hv.cell 6 (.int .i64 D.phase) rfl
 have f6:=hv.frz 6
 have hall':=zaa hall
 have v2:=zaa (hv.phase 0)
 have hls:D.spans.length≤1000:=by have:=hG'.out.form.spans;have:=hG'.out.form.geo.2.2.2.2.1;omega
 obtain ⟨aS,cS,hvs⟩:=Y4 hv.own.spans
 have hvs':=zaa hvs
 have B2:=zaa (b1'.out.trans v2.out.2)
 clear hv hall b1 hsw hvs
 go_wp2_with fail
 go_loopw [6] (fun i wr=>∃ k:Nat,k≤D.spans.length∧i=.int .i64 k∧Hid (VarW wr base B S { D with phase:=0,spans:=L1 D.spans k })∧Hid (Below base w wr)) (fun i _=>D.spans.length-(Go.RowKit.intOf i).toNat)
 case atStart=>exact ⟨0,Nat.zero_le _,rfl,zaa v2.out.1,B2⟩
 case round =>
  obtain ⟨k,hk,rfl,hv,hB⟩:=hrel
  have g4:=hv.out.cell 4 S.vs rfl
  rw [hvs'.out] at g4
  by_cases hlt:k<D.spans.length
  ·have hlt1:(k:Int)<(D.spans.length:Int):=by omega
   obtain ⟨s,hks⟩:∃ s,D.spans[k]?=some s:=⟨_,List.getElem?_eq_getElem hlt⟩
   obtain ⟨hk1,hk2⟩:=znq hks
   have hgs0:∃ g c,S.vs=.slice (some ⟨g,0,none⟩) (L1 D.spans k).length c:=hv.out.headS (by show 0<(L1 D.spans k).length;rw [zhf];omega)
   obtain ⟨gs,cs,hgs⟩:=hgs0
   obtain ⟨p,hp⟩:=hv.out.svAt (i:=k) (s:=s) hk1
   have hgs2:=hgs
   rw [zhf] at hgs2
   obtain ⟨rfl,rfl⟩:aS=some ⟨gs,0,none⟩∧cS=cs:=by have:=hvs'.out.symm.trans hgs2;simpa using this
   have x3:=(hv.out.six (D:={ D with phase:=0,spans:=L1 D.spans k }) hgs hk1 hp).2.2.2.1
   have f3:=hv.out.frzS (D:={ D with phase:=0,spans:=L1 D.spans k }) hgs (k*6+3)
   have v3:=hv.out.swept (D:={ D with phase:=0,spans:=L1 D.spans k }) hgs k s p false hk1 hp
   have hv3:=zaa (show VarW _ base B S { D with phase:=0,spans:=L1 D.spans (k+1) } from by rw [hk2];exact v3.1)
   have hB3:=zaa (hB.out.trans v3.2)
   clear hks hk1 hk2 hgs hgs2 hp v3
   go_wp2_with fail
   go_roundw
   case rel=>exact ⟨k+1,by omega,by go_num,hv3,hB3⟩
   case measure=>simp [Go.RowKit.intOf];omega
  ·obtain rfl:k=D.spans.length:=by omega
   have y:=zaa (show R6 D base B wr from ⟨S,{ D with phase:=0,spans:=D.spans.map M1 },.inr (.inr (.inr (.inr ⟨hp'.out,.inr ⟨hall'.out,rfl⟩⟩))),by have:=hv.out;rwa [zoz] at this⟩)
   go_wp2_with fail
   go_end0
   exact ⟨rfl,y.out,hB.out⟩
theorem zxg (base B:Nat) (S:Y2) (D:WD) (hG:U1 D) (w:World) (h:VarW w base B S D) :
  Calls Tryz.prog 116 #[.pointer (some ⟨B,0,none⟩)] w fun e w'=>e=.returned (.tuple #[])∧R6 D base B w'∧Below base w w':=by
 have h0:=hG.form.ph0
 have h4:=hG.form.ph1
 rcases (show D.phase=0∨D.phase=1∨D.phase=2∨D.phase=3∨D.phase=4 by omega) with hp | hp | hp | hp | hp
 ·exact sstep_0 base B S D hG hp w h
 ·exact sstep_1 base B S D hG hp w h
 ·exact sstep_2 base B S D hG hp w h
 ·exact sstep_3 base B S D hG hp w h
 ·exact sstep_4 base B S D hG hp w h
end Go.Proofs.YtilkidaihbhfpaaGreat
