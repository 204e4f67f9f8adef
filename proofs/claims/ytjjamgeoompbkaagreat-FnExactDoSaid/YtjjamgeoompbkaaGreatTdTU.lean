import Derived.Test.YtjjamgeoompbkaaGreatTdG
import Derived.Test.YtjjamgeoompbkaaGreatTdSTake

set_option maxRecDepth 100000
set_option maxHeartbeats 16000000
set_option linter.all false
namespace Go.Proofs.YtjjamgeoompbkaaGreat
open Go.RowKit
open Go.Proofs.Tryz
structure V8(w w':World)(B:Nat)(S S':Y9):Prop where
 own:∀q,q∈blks S'.all→q∈blks S.all∨w.heap.size≤q
 chg:Chg (B::blks S.all) w w'
theorem V8.of_below{w w':World}(B:Nat)(S:Y9)(h:Below w.heap.size w w'):V8 w w' B S S:=⟨fun q hq=>.inl hq,.of_below h _⟩
theorem V8.step{w w1 w2:World}{B:Nat}{S T:Y9}{bs:List Nat}(h:V8 w w1 B S T)(c:Chg bs w1 w2)(hn:∀q,q∈bs→q=B∨q∈blks T.all∨w.heap.size≤q):V8 w w2 B S T:=by
 refine⟨h.own,⟨c.os.trans h.chg.os,c.tape.trans h.chg.tape,c.output.trans h.chg.output,Nat.le_trans h.chg.size c.size,fun j hj hnj=>?_⟩⟩;refine(c.block j (Nat.lt_of_lt_of_le hj h.chg.size) fun hm=>?_).trans (h.chg.block j hj hnj)
 rcases hn j hm with rfl|h1|h1
 ·exact hnj (by simp)
 ·rcases h.own j h1 with h2|h2
  ·exact hnj (List.mem_cons_of_mem _ h2)
  ·omega
 ·omega
theorem V8.trans{w w1 w2:World}{B:Nat}{S T U:Y9}(h:V8 w w1 B S T)(g:V8 w1 w2 B T U):V8 w w2 B S U:=by
 have hs:=h.chg.size;refine⟨fun q hq=>?_,(h.step g.chg fun q hq=>?_).chg⟩
 ·rcases g.own q hq with h1|h1
  ·exact h.own q h1
  ·exact .inr (by omega)
 ·rcases List.mem_cons.1 hq with rfl|hq
  ·exact .inl rfl
  ·exact .inr (.inl hq)
theorem V8.keeps{w w':World}{B:Nat}{S S':Y9}(h:V8 w w' B S S'){V:Nat}{x:_}(hV:V∉B::blks S.all)(hx:w.heap[V]?=x)(hlt:V<w.heap.size):w'.heap[V]?=x :=
 (h.chg.block V hlt hV).trans hx
theorem zvl{sv:List (Value × Value)}{p:Value × Value}{k:Nat}{x:Value}(hx:x∈V9 (sv.take k++p::sv.drop k)):x∈V9 sv∨x=p.1∨x=p.2:=by
 have e:V9 sv=V9 (sv.take k)++V9 (sv.drop k):=by rw[←zgd,List.take_append_drop]
 rw[e];simp only[V9,List.flatMap_append,List.flatMap_cons,List.mem_append,List.mem_cons,List.not_mem_nil,or_false]at hx ⊢
 rcases hx with h|(h|h)|h
 ·exact .inl (.inl h)
 ·exact .inr (.inl h)
 ·exact .inr (.inr h)
 ·exact .inl (.inr h)
theorem zou{w w3:World}{B k:Nat}{S:Y9}{v:Value}{p:Value × Value}(hb:Below w.heap.size w w3)(hv:∀q,v.ownBlock=some q→w.heap.size≤q)(h1:∀q,p.1.ownBlock=some q→w.heap.size≤q)(h2:∀q,p.2.ownBlock=some q→w.heap.size≤q) :
  V8 w (w3.setCell ⟨B,4,none⟩ v) B S { S with vs:=v,sv:=S.sv.take k++p::S.sv.drop k }:=by
 refine⟨fun q hq=>?_,(Chg.of_below hb _).trans (Chg.of_grown (U5 w3 B 4 v) (by simp))⟩;obtain⟨x,hx,e⟩:=List.mem_filterMap.1 hq;simp only[Y9.all,List.mem_append,List.mem_cons,List.not_mem_nil,or_false]at hx
 rcases hx with(((rfl|rfl)|(rfl|hx))|(rfl|hx))|rfl
 ·exact .inl (List.mem_filterMap.2 ⟨_,by simp[Y9.all],e⟩)
 ·exact .inl (List.mem_filterMap.2 ⟨_,by simp[Y9.all],e⟩)
 ·exact .inr (hv q e)
 ·rcases zvl hx with h|rfl|rfl
  ·exact .inl (List.mem_filterMap.2 ⟨x,by simp[Y9.all,h],e⟩)
  ·exact .inr (h1 q e)
  ·exact .inr (h2 q e)
 ·exact .inl (List.mem_filterMap.2 ⟨_,by simp[Y9.all],e⟩)
 ·exact .inl (List.mem_filterMap.2 ⟨x,by simp[Y9.all,hx],e⟩)
 ·exact .inl (List.mem_filterMap.2 ⟨_,by simp[Y9.all],e⟩)
section
variable {w w1 w2:World} {B:Nat} {S T:Y9}
theorem V8.below(h:V8 w w1 B S T)(hb:Below w1.heap.size w1 w2):V8 w w2 B S T:=h.step (Chg.of_below hb []) fun q hq=>by simp at hq
theorem V8.own_set(h:V8 w w1 B S T){g:Nat}(hg:g∈blks T.all)(i:Nat)(u:Value):V8 w (w1.setCell ⟨g,i,none⟩ u) B S T :=
 h.step (Chg.of_grown (U5 w1 g i u) (bs:=[g]) (by simp)) fun q hq=>by rw[List.mem_singleton.1 hq];exact .inr (.inl hg)
theorem V8.chgAll(h:V8 w w1 B S T)(c:Chg (B::blks T.all) w1 w2):V8 w w2 B S T :=
 h.step c fun q hq=>(List.mem_cons.1 hq).imp id .inl
theorem zlc.turned(h:zlc w w1 B S T):V8 w w1 B S T:=by
 obtain⟨v,rfl,hv⟩:=h.vg;refine⟨fun q hq=>?_,h.chg⟩
 rcases Y9.all_vg hq with h1|h1
 ·exact .inl h1
 ·exact(hv q h1).imp (fun e=>List.mem_filterMap.2 ⟨S.vg,by simp[Y9.all],e⟩) id
theorem zjw{g n c:Nat}(h:S.vw=.slice (some ⟨g,0,none⟩) n c):g∈blks S.all:=List.mem_filterMap.2 ⟨S.vw,by simp[Y9.all],by rw[h];rfl⟩
theorem mem_vs{g n c:Nat}(h:S.vs=.slice (some ⟨g,0,none⟩) n c):g∈blks S.all:=List.mem_filterMap.2 ⟨S.vs,by simp[Y9.all],by rw[h];rfl⟩
theorem zfm{M g n c:Nat}(h:S.mv[M]?=some (.slice (some ⟨g,0,none⟩) n c)):g∈blks S.all:=List.mem_filterMap.2 ⟨.slice (some ⟨g,0,none⟩) n c,by have:=List.mem_of_getElem? h;simp[Y9.all,this],rfl⟩
end
theorem G9(base B:Nat)(S:Y9)(D:WD)(f m:Int)(hf0:0≤f)(hf:f≤1000000)(hm1:1≤m)(hm:m≤32)(hc:f+m≤8*(D.dirty.length:Int))(w:World)(h:VarW w base B S D) :
  Calls prog 67 #[.pointer (some ⟨B,0,none⟩),.int .i64 f,.int .i64 m] w fun e w'=>e=.returned (.tuple #[])∧VarW w' base B S { D with dirty:=zfs D.dirty f m }∧Below base w w'∧Chg (B::blks S.all) w w':=by
 have hcnt:=zzt (f:=f) hm1 hm;have h':=Z0 h;have hD:=h.headD (by omega);obtain⟨gd,cd,hgd⟩:=hD;have hgd':=Z0 hgd;have hle:=Z0 (Nat.le_of_lt (Nat.lt_of_le_of_lt h.le h.lt));have hvd:=Z0 h.own.dirty;have hbx:=Z0 h.box;have hcall:=Z0 (znh f m hf0 hf hm1 hm w);clear h hgd;go_enter func67,ntmps67;go_wp2_with fail;refine hcall.out.mono ?_;rintro e w1⟨v,rfl,hrow,b1⟩;have hv1:=Z0 (h'.out.below b1);have hB1:=Z0 (b1.mono hle.out);have hC1:=Z0 (Chg.of_below b1 (B::blks S.all));have hgm:=Z0 (show gd∈B::blks S.all from List.mem_cons_of_mem _ (List.mem_filterMap.2 ⟨S.vd,by simp[Y9.all],by rw[hgd'.out];rfl⟩));have hrl:=Z0 (Rd.of_owns (L:=upto f (cnt f m)) (by rw[zeh];exact hrow))
 have hne:=Z0 (show ∀k,v.ownBlock=some k→k≠gd from fun k hk e=>by
  have h1:=(hrow.lt k hk).1;have h2:=(h'.out.own.lt gd (List.mem_filterMap.2 ⟨S.vd,by simp[Y9.all],by rw[hgd'.out];rfl⟩)).2;omega)
 have hrow':=Z0 hrow;clear hrow b1 hcall;obtain⟨al,cl,rfl,hll,hj1⟩:=hrl.out;clear hj1;rw[zeh]at hll;have hrow2:=Z0 (show w1.ownsRow w.heap.size 3 1 (.slice al (cnt f m) cl) (cnt f m) ((upto f (cnt f m)).map (Value.int .i64)) by have:=hrow'.out;rw[zeh]at this;exact this);clear hrow' hrl;simp only[zeh];unfold maxLen at hll;go_wp2_with fail
 go_loopw [7] (fun i wr=>∃k:Nat,k≤cnt f m∧i=.int .i64 k∧Hid (VarW wr base B S { D with dirty:=zgz D.dirty f k })∧Hid (wr.ownsRow w.heap.size 3 1 (.slice al (cnt f m) cl) (cnt f m) ((upto f (cnt f m)).map (Value.int .i64)))∧Hid (Below base w wr)∧Hid (Chg (B::blks S.all) w wr)) (fun i _=>cnt f m-(intOf i).toNat)
 case atStart=>exact⟨0,Nat.zero_le _,rfl,hv1,hrow2,hB1,hC1⟩
 case round =>
  obtain⟨k,hk,rfl,hv,hro,hB,hC⟩:=hrel
  by_cases hlt:k<cnt f m
  ·have hlt1:(k:Int)<(cnt f m:Int):=by omega
   have hle2:=zzs hlt;obtain⟨al',cl',he,hj3,xl⟩:=Rd.of_owns (L:=upto f (cnt f m)) (v:=.slice al (cnt f m) cl) (by rw[zeh];exact hro.out);obtain⟨bl,ol,hal,xk⟩:=xl k (by rw[zeh];exact hlt);rw[upto_at f _ k hlt]at xk;obtain⟨rfl,hj2,rfl⟩:al=al'∧cnt f m=(upto f (cnt f m)).length∧cl=cl':=by simpa using he
   subst hal;have hidx:0≤f / 8+(k:Int):=by omega
   obtain⟨c,hcc⟩:=Int.eq_ofNat_of_zero_le hidx;have hcl:c<D.dirty.length:=by omega
   rw[hcc]at xk;have hcl1:(c:Int)<(D.dirty.length:Int):=by omega
   have hdl:(zgz D.dirty f k).length=D.dirty.length:=zox _ _ _;have g3:=hv.out.cell 3 S.vd rfl;rw[hgd'.out]at g3;have hrD:=hv.out.own.dirty;have hgd2:S.vd=.slice (some ⟨gd,0,none⟩) (zgz D.dirty f k).length cd:=by rw[hdl];exact hgd'.out
   rw[hgd2]at hrD
   have hcd:wr.cell? ⟨gd,c,none⟩=some (.bool ((zgz D.dirty f k)[c]?.getD false)):=by
    rw[hrD.cellAt c (by omega)];simp[show c<(zgz D.dirty f k).length by omega]
   have hfr:=hrD.frozenAt c;have hset:=Z0 (hv.out.dirty hgd2 c true);have hkeep:=Z0 (World.ownsRow.kept hro.out (U5 wr gd c (.bool true)) (.inr fun e=>hne.out bl (by simp[Value.ownBlock]) (by simpa[Value.ownBlock]using e)))
   have hstep:=Z0 (show zgz D.dirty f (k+1)=(zgz D.dirty f k).set c true by
    show(zgz D.dirty f k).set (f / 8+(k:Int)).toNat true=_
    rw[hcc];rfl)
   clear hj2 hj3 hro hv hrD he xl hgd2 hcc hidx hdl hle2;generalize (zgz D.dirty f k)[c]?.getD false=old at hcd;go_wp2_with fail
   go_region
   all_goals go_wp2_with fail
   all_goals go_roundw
   all_goals first
    | exact⟨k+1,by omega,by go_num,by rw[hstep.out];exact hset.out.1.drew,World.ownsRow.drew hkeep.out,below_drewN (hB.out.trans hset.out.2) 1,(hC.out.trans (Chg.of_grown (U5 wr gd c (.bool true)) fun q hq=>by cases hq;exact hgm.out)).trans (Chg.of_below (below_drewN (Below.refl _ _) 1) _)⟩
    | (simp[intOf];omega)
  ·obtain rfl:k=cnt f m:=by omega
   go_wp2_with fail
   go_end0
   exact⟨rfl,hv.out,hB.out,hC.out⟩
theorem zqz{w wr w3:World}{base B:Nat}{S:Y9}{D:WD}{c:Int}{k C g1 g2:Nat}{v:Value}(h:VarW w base B S D)(hI:PageI w wr c (D.phase == 4) k (sl' c).toNat C g1 g2)(hk:k≤D.spans.length)
  (hb:Below wr.heap.size wr w3) (hr:w3.ownsRow wr.heap.size 93 6 v (D.spans.length+1) ((P4 D.spans S.sv).take (k*6)++Q8 (J4 D c k) (.slice (some ⟨g1,0,none⟩) (sl' c).toNat (sl' c).toNat,.slice (some ⟨g2,0,none⟩) (sl' c).toNat (sl' c).toNat)++(P4 D.spans S.sv).drop (k*6))) :
  (∃S',VarW (w3.setCell ⟨B,4,none⟩ v) base B S' (insD D c k)∧V8 w (w3.setCell ⟨B,4,none⟩ v) B S S')∧Below base w (w3.setCell ⟨B,4,none⟩ v):=by
 have hsz:=hI.size;have hlt:=h.lt;have hle:=h.le;have hb2:Below w.heap.size w w3:=hI.below.trans (hb.mono (by omega));have hv:=h.below hb2;have hl:(sl' c).toNat≤maxLen:=by have:=(zfj c).2;unfold maxLen;omega
 have hr1:=U3 (X8 (zmp (base:=g1) hI.r1 (Nat.le_refl _) hl) hb) hI.h1.1;have hr2:=U3 (X8 (zmp (base:=g2) hI.r2 (Nat.le_refl _) hl) hb) hI.h2.1
 have hx:=hv.ins (n0:=w.heap.size) (fun q hq=>(h.own.lt q hq).2) hlt (p:=(.slice (some ⟨g1,0,none⟩) (sl' c).toNat (sl' c).toNat,.slice (some ⟨g2,0,none⟩) (sl' c).toNat (sl' c).toNat)) (s:=J4 D c k) hk (U3 hr (by omega))
  (by simpa[J4]using hr1) (by simpa[J4]using hr2) (fun q hq e=>hI.ne (by simp[Value.ownBlock]at hq e;omega))
 have ht:=zou (B:=B) (S:=S) (k:=k) (v:=v) (p:=(.slice (some ⟨g1,0,none⟩) (sl' c).toNat (sl' c).toNat,.slice (some ⟨g2,0,none⟩) (sl' c).toNat (sl' c).toNat)) hb2
  (fun q hq=>by have:=(hr.lt q hq).1;omega) (fun q hq=>by cases hq;exact hI.h1.1) (fun q hq=>by cases hq;exact hI.h2.1)
 exact⟨⟨_,hx.1,ht⟩,(hb2.mono (by omega)).trans hx.2⟩
def PageT(D:WD)(c:Int)(base B:Nat)(S:Y9)(w:World)(e:Ending)(w':World):Prop :=
 ∃k:Nat,zhc D k∧(((k:Int)=D.pages∧e=.returned (.int .i64 (-1))∧VarW w' base B S D∧V8 w w' B S S)∨((k:Int)≠D.pages∧e=.returned (.int .i64 (k:Int))∧∃S',VarW w' base B S' (insD D c k)∧V8 w w' B S S'))
theorem zvp(base B:Nat)(S:Y9)(D:WD)(c:Int)(hls:D.spans.length≤1000)(w:World)(h:VarW w base B S D) :
  Calls prog 121 #[.pointer (some ⟨B,0,none⟩),.int .i64 c] w fun e w'=>PageT D c base B S w e w'∧Below base w w':=by
 obtain⟨aS,cS,hgs⟩:=X0 h.own.spans;have h':=Z0 h;have hsrc:=h.own.ownS;rw[hgs]at hsrc;have hsrc':=Z0 (zyp hsrc);have hgs':=Z0 hgs;have hrd:=h.rd.parts.2.2.1;rw[hgs]at hrd;have hat:=Z0 (fun k s hk=>hrd.at_ k s hk);have g1:=h.cell 1 (.int .i64 D.pages) rfl;have g4:=h.cell 4 S.vs rfl;have g6:=h.cell 6 (.int .i64 D.phase) rfl;rw[hgs]at g4;have f4:=Z0 (h.frz 4);have hlt:=h.lt;have hns:=zfj c;obtain⟨ns,hns'⟩:=Int.eq_ofNat_of_zero_le hns.1;have hn16:ns≤16:=by omega
 have hsl:=Z0 (fun w=>zpi hns' w);have hnn:=Z0 (show(sl' c).toNat=ns by omega);clear h hsrc hgs hrd hns hns';go_enter func121,ntmps121;go_wp2_with fail
 go_loop [5,6] (fun a b=>∃k:Nat,k≤D.spans.length∧a=.int .i64 k∧b=.int .i64 k∧Hid (∀(j:Nat) (s:Y7),j<k→D.spans[j]?=some s→s.page=j)) (fun a b=>D.spans.length-(intOf a).toNat)
 case atStart=>exact⟨0,Nat.zero_le _,rfl,rfl,(fun j s hj=>absurd hj (by omega))⟩
 case round =>
  obtain⟨k,hk,rfl,rfl,hno⟩:=hrel
  by_cases hgo:∃s,D.spans[k]?=some s∧s.page=(k:Int)
  ·obtain⟨s,hks,hpg⟩:=hgo
   have hlt1:(k:Int)<(D.spans.length:Int):=by have:=(List.getElem?_eq_some_iff.1 hks).1;omega
   obtain⟨b1,o1,rfl,vl,vp,x0,_⟩:=hat.out k s hks;have hn:=Z0 (show ∀(j:Nat) (t:Y7),j<k+1→D.spans[j]?=some t→t.page=j from fun j t hj ht=>if e:j=k then by subst e;rw[hks]at ht;cases ht;exact hpg else hno.out j t (by omega) ht);rw[hpg]at x0;clear hks hpg;go_wp2_with fail
   go_round
   case rel=>exact⟨k+1,by omega,by go_num,by go_num,hn⟩
   case measure=>simp[intOf];omega
  ·have hfp:=Z0 (show zhc D k from⟨hk,hno.out,fun s hs e=>hgo ⟨s,hs,e⟩⟩)
   have hend:(¬(k:Int)<(D.spans.length:Int))∨∃s,D.spans[k]?=some s∧(s.page == (k:Int))=false:=by
    by_cases hlt:k<D.spans.length
    ·exact .inr ⟨D.spans[k],List.getElem?_eq_getElem hlt,beq_eq_false_iff_ne.2 fun e=>hgo ⟨_,List.getElem?_eq_getElem hlt,e⟩⟩
    ·exact .inl (by omega)
   clear hgo
   by_cases hp:(k:Int)=D.pages
   ·have y:=Z0 (show PageT D c base B S w (.returned (.int .i64 (-1))) w from⟨k,hfp.out,.inl ⟨hp,rfl,h'.out,.of_below _ _ (Below.refl _ _)⟩⟩)
    rw[←hp]at g1;clear hp
    rcases hend with hend|⟨s,hks,hpg⟩
    ·go_wp2_with fail
     go_ret;exact⟨y.out,Below.refl _ _⟩
    ·have hlt1:(k:Int)<(D.spans.length:Int):=by have:=(List.getElem?_eq_some_iff.1 hks).1;omega
     obtain⟨b1,o1,rfl,vl,vp,x0,_⟩:=hat.out k s hks;clear hks;go_wp2_with fail;go_ret;exact⟨y.out,Below.refl _ _⟩
   ·have hp':=Z0 hp
    have hpb:((k:Int) == D.pages)=false:=beq_eq_false_iff_ne.2 hp;clear hp;have hmk:∀(w:World),(Instr.makeSlice 22 (.int .i64 (ns:Int)) (.int .i64 (ns:Int))).run prog w=.ok (.slice (some ⟨w.heap.size,0,none⟩) ns ns) (w.alloc (.cells (madeCells #[.int .i64 0] ns) 3)):=run_make_row' (P:=prog) 22 3 (.int .i64 0) 8 underlying22 zer rfl .i64 .i64 ns (by omega) (by omega);have g6a:∀a,(w.alloc a).cell? ⟨B,6,none⟩=some (.int .i64 D.phase):=fun a=>Y3 (Y2 _ _) g6;have g6b:∀a b,((w.alloc a).alloc b).cell? ⟨B,6,none⟩=some (.int .i64 D.phase):=fun a b=>Y3 (Y2 _ _) (g6a a);have g6c:∀a b c,(((w.alloc a).alloc b).alloc c).cell? ⟨B,6,none⟩=some (.int .i64 D.phase):=fun a b c=>Y3 (Y2 _ _) (g6b a b);have hk':=Z0 hk;obtain⟨A1,c1,hs1,sr1⟩:=cut_to hsrc'.out.2.2.2 hk hsrc'.out.2.1;obtain⟨A2,hs2,sr2⟩:=zuq hsrc'.out.2.2.2 hk hsrc'.out.2.1 (k:Int) rfl;have sr1:=Z0 sr1;have sr2:=Z0 sr2;have hkb:k≤1000:=by omega
    have hlk:D.spans.length-k≤1000:=by omega
    clear hk
    rcases hend with hend|⟨s,hks,hpg⟩
    case inr =>
     have hlt1:(k:Int)<(D.spans.length:Int):=by have:=(List.getElem?_eq_some_iff.1 hks).1;omega
     obtain⟨b1,o1,rfl,vl,vp,x0,_⟩:=hat.out k s hks;clear hks;go_upto_region 9 with(go_at_call 119;refine(hsl.out _).mono ?_;rintro e w'⟨rfl,rfl⟩)
     go_cut [8] (fun q wx=>∃C x1 x2:Nat,q=.pointer (some ⟨C,0,none⟩)∧Hid (PageI w wx c (D.phase == 4) k ns C x1 x2))
     case first =>
      go_region
      all_goals go_wp2_with fail
      all_goals go_meet
      all_goals first
       | exact⟨w.heap.size+1+1,w.heap.size,w.heap.size+1,rfl,⟨(R9 w _ _ _).2.2.2.1,(R9 w _ _ _).2.2.2.2,(R9 w _ _ _).2.2.1,(R9 w _ _ _).1,(R9 w _ _ _).2.1,by omega,by omega,by omega,by omega⟩⟩
       | exact⟨w.heap.size+1+1,w.heap.size+1,w.heap.size,rfl,⟨(R9 w _ _ _).2.2.2.1,(R9 w _ _ _).2.2.2.2,(R9 w _ _ _).2.2.1,(R9 w _ _ _).2.1,(R9 w _ _ _).1,by omega,by omega,by omega,by omega⟩⟩
       | exact⟨w.heap.size+1,w.heap.size,w.heap.size+1+1,rfl,⟨(R9 w _ _ _).2.2.2.1,(R9 w _ _ _).2.2.2.2,(R9 w _ _ _).2.1,(R9 w _ _ _).1,(R9 w _ _ _).2.2.1,by omega,by omega,by omega,by omega⟩⟩
       | exact⟨w.heap.size+1,w.heap.size+1+1,w.heap.size,rfl,⟨(R9 w _ _ _).2.2.2.1,(R9 w _ _ _).2.2.2.2,(R9 w _ _ _).2.1,(R9 w _ _ _).2.2.1,(R9 w _ _ _).1,by omega,by omega,by omega,by omega⟩⟩
       | exact⟨w.heap.size,w.heap.size+1,w.heap.size+1+1,rfl,⟨(R9 w _ _ _).2.2.2.1,(R9 w _ _ _).2.2.2.2,(R9 w _ _ _).1,(R9 w _ _ _).2.1,(R9 w _ _ _).2.2.1,by omega,by omega,by omega,by omega⟩⟩
       | exact⟨w.heap.size,w.heap.size+1+1,w.heap.size+1,rfl,⟨(R9 w _ _ _).2.2.2.1,(R9 w _ _ _).2.2.2.2,(R9 w _ _ _).1,(R9 w _ _ _).2.2.1,(R9 w _ _ _).2.1,by omega,by omega,by omega,by omega⟩⟩
     case rest =>
      obtain⟨C,x1,x2,rfl,hI⟩:=hcut;have hIb:=Z0 hI.out.below;have hIs:=Z0 hI.out.size;have hBc:B<wc.heap.size:=by have:=hIb.out.size;omega
      have F1:=Z0 (ziy wc 93 6);have g4a:=Y3 (Z7 hIb.out (Y2 wc (.cells #[] 93))) g4;have r1:=Z0 (sr1.out.below (Z7 hIb.out (Y2 wc (.cells #[] 93))))
      go_wp2_with (first
       | (refine N6 rfl (.tmp 54) (.tmp 60) 33 rfl wc.heap.size 93 (.agg #[.int .i64 0,.int .i64 0,.int .i64 0,.bool false,.slice none 0 0,.slice none 0 0]) 6 80 underlying33 zeq (by rfl) (by decide) (.slice (some ⟨wc.heap.size,0,none⟩) 0 0) 0 [] rfl F1.out A1 k c1 ((P4 D.spans S.sv).take (k*6)) rfl r1.out (by unfold maxLen;omega) (by omega) (by simp) ?_;intro u1 w1 p1 h1;simp only[Nat.zero_add,List.nil_append]at p1;obtain⟨a3,c3,rfl⟩:=X0 p1;have b1:=Z0 ((Y2 wc (.cells #[] 93)).grown h1 (by simp) (fun q hq=>(by cases hq;exact Nat.le_refl _)));have bC1:=Z8 b1.out hI.out.boxC;have d0:=Z6 bC1 0 _ rfl;have d1:=Z6 bC1 1 _ rfl;have d2:=Z6 bC1 2 _ rfl;have d3:=Z6 bC1 3 _ rfl;have d4:=Z6 bC1 4 _ rfl;have d5:=Z6 bC1 5 _ rfl;have r2:=Z0 (znf w1 (cs:=#[.int .i64 k,.int .i64 c,.int .i64 0,.bool (D.phase == 4),.slice (some ⟨x1,0,none⟩) ns ns,.slice (some ⟨x2,0,none⟩) ns ns]) (T:=93) (m:=1) (size:=6) rfl (fun u hu=>(by simp only[List.mem_cons,List.not_mem_nil,or_false]at hu;rcases hu with rfl|rfl|rfl|rfl|rfl|rfl<;>rfl)));have p1':=Z0 (p1.alloc (.cells #[.int .i64 k,.int .i64 c,.int .i64 0,.bool (D.phase == 4),.slice (some ⟨x1,0,none⟩) ns ns,.slice (some ⟨x2,0,none⟩) ns ns] 93));have le2:=Z0 (show wc.heap.size≤(w1.alloc (.cells #[.int .i64 k,.int .i64 c,.int .i64 0,.bool (D.phase == 4),.slice (some ⟨x1,0,none⟩) ns ns,.slice (some ⟨x2,0,none⟩) ns ns] 93)).heap.size by have:=b1.out.size;simp;omega);clear p1 h1 bC1)
       | (refine N6 rfl (.tmp 62) (.tmp 64) 33 rfl wc.heap.size 93 (.agg #[.int .i64 0,.int .i64 0,.int .i64 0,.bool false,.slice none 0 0,.slice none 0 0]) 6 80 underlying33 zeq (by rfl) (by decide) (.slice a3 k c3) k _ rfl p1'.out (some ⟨w1.heap.size,0,none⟩) 1 1 _ rfl r2.out (by unfold maxLen;omega) (by omega) le2.out ?_;intro u2 w2 p2 h2;obtain⟨a4,c4,rfl⟩:=X0 p2;have b2:=Z0 (((b1.out.trans ((Y2 w1 _).mono b1.out.size))).grown h2 le2.out (fun q hq=>(p1'.out.lt q hq).1));have p2':=Z0 p2;have g4b:=Y3 (Z7 hIb.out b2.out) g4;have r3:=Z0 (sr2.out.below (Z7 hIb.out b2.out));clear p2 h2 d0 d1 d2 d3 d4 d5)
       | (refine N6 rfl (.tmp 67) (.tmp 73) 33 rfl wc.heap.size 93 (.agg #[.int .i64 0,.int .i64 0,.int .i64 0,.bool false,.slice none 0 0,.slice none 0 0]) 6 80 underlying33 zeq (by rfl) (by decide) (.slice a4 (k+1) c4) (k+1) _ rfl p2'.out A2 (D.spans.length-k) (cS-k) _ rfl r3.out (by unfold maxLen;omega) (by omega) b2.out.size ?_;intro u3 w3 p3 h3;obtain⟨a5,c5,rfl⟩:=X0 p3;have b3:=Z0 (b2.out.grown h3 b2.out.size (fun q hq=>(p2'.out.lt q hq).1));have p3':=Z0 p3;have g4c:=Y3 (Z7 hIb.out b3.out) g4;have f4c:w3.frozen? ⟨B,4,none⟩=false:=(World.frozen?_of_block ((Z7 hIb.out b3.out).block B hlt)).trans f4.out;clear p3 h3))
      go_ret;have hk:=hk'.out;have e9:k+1+(D.spans.length-k)=D.spans.length+1:=by omega
      have hf:=zqz (v:=.slice a5 (k+1+(D.spans.length-k)) c5) h'.out (show PageI w wc c (D.phase == 4) k (sl' c).toNat C x1 x2 by rw[hnn.out];exact hI.out) hk b3.out (by have:=p3'.out;rw[e9]at this ⊢;rw[hnn.out];exact this);exact⟨⟨k,hfp.out,.inr ⟨hp'.out,rfl,hf.1⟩⟩,hf.2⟩
    case inl =>
     go_upto_region 9 with(go_at_call 119;refine(hsl.out _).mono ?_;rintro e w'⟨rfl,rfl⟩)
     go_cut [8] (fun q wx=>∃C x1 x2:Nat,q=.pointer (some ⟨C,0,none⟩)∧Hid (PageI w wx c (D.phase == 4) k ns C x1 x2))
     case first =>
      go_region
      all_goals go_wp2_with fail
      all_goals go_meet
      all_goals first
       | exact⟨w.heap.size+1+1,w.heap.size,w.heap.size+1,rfl,⟨(R9 w _ _ _).2.2.2.1,(R9 w _ _ _).2.2.2.2,(R9 w _ _ _).2.2.1,(R9 w _ _ _).1,(R9 w _ _ _).2.1,by omega,by omega,by omega,by omega⟩⟩
       | exact⟨w.heap.size+1+1,w.heap.size+1,w.heap.size,rfl,⟨(R9 w _ _ _).2.2.2.1,(R9 w _ _ _).2.2.2.2,(R9 w _ _ _).2.2.1,(R9 w _ _ _).2.1,(R9 w _ _ _).1,by omega,by omega,by omega,by omega⟩⟩
       | exact⟨w.heap.size+1,w.heap.size,w.heap.size+1+1,rfl,⟨(R9 w _ _ _).2.2.2.1,(R9 w _ _ _).2.2.2.2,(R9 w _ _ _).2.1,(R9 w _ _ _).1,(R9 w _ _ _).2.2.1,by omega,by omega,by omega,by omega⟩⟩
       | exact⟨w.heap.size+1,w.heap.size+1+1,w.heap.size,rfl,⟨(R9 w _ _ _).2.2.2.1,(R9 w _ _ _).2.2.2.2,(R9 w _ _ _).2.1,(R9 w _ _ _).2.2.1,(R9 w _ _ _).1,by omega,by omega,by omega,by omega⟩⟩
       | exact⟨w.heap.size,w.heap.size+1,w.heap.size+1+1,rfl,⟨(R9 w _ _ _).2.2.2.1,(R9 w _ _ _).2.2.2.2,(R9 w _ _ _).1,(R9 w _ _ _).2.1,(R9 w _ _ _).2.2.1,by omega,by omega,by omega,by omega⟩⟩
       | exact⟨w.heap.size,w.heap.size+1+1,w.heap.size+1,rfl,⟨(R9 w _ _ _).2.2.2.1,(R9 w _ _ _).2.2.2.2,(R9 w _ _ _).1,(R9 w _ _ _).2.2.1,(R9 w _ _ _).2.1,by omega,by omega,by omega,by omega⟩⟩
     case rest =>
      obtain⟨C,x1,x2,rfl,hI⟩:=hcut;have hIb:=Z0 hI.out.below;have hIs:=Z0 hI.out.size;have hBc:B<wc.heap.size:=by have:=hIb.out.size;omega
      have F1:=Z0 (ziy wc 93 6);have g4a:=Y3 (Z7 hIb.out (Y2 wc (.cells #[] 93))) g4;have r1:=Z0 (sr1.out.below (Z7 hIb.out (Y2 wc (.cells #[] 93))))
      go_wp2_with (first
       | (refine N6 rfl (.tmp 54) (.tmp 60) 33 rfl wc.heap.size 93 (.agg #[.int .i64 0,.int .i64 0,.int .i64 0,.bool false,.slice none 0 0,.slice none 0 0]) 6 80 underlying33 zeq (by rfl) (by decide) (.slice (some ⟨wc.heap.size,0,none⟩) 0 0) 0 [] rfl F1.out A1 k c1 ((P4 D.spans S.sv).take (k*6)) rfl r1.out (by unfold maxLen;omega) (by omega) (by simp) ?_;intro u1 w1 p1 h1;simp only[Nat.zero_add,List.nil_append]at p1;obtain⟨a3,c3,rfl⟩:=X0 p1;have b1:=Z0 ((Y2 wc (.cells #[] 93)).grown h1 (by simp) (fun q hq=>(by cases hq;exact Nat.le_refl _)));have bC1:=Z8 b1.out hI.out.boxC;have d0:=Z6 bC1 0 _ rfl;have d1:=Z6 bC1 1 _ rfl;have d2:=Z6 bC1 2 _ rfl;have d3:=Z6 bC1 3 _ rfl;have d4:=Z6 bC1 4 _ rfl;have d5:=Z6 bC1 5 _ rfl;have r2:=Z0 (znf w1 (cs:=#[.int .i64 k,.int .i64 c,.int .i64 0,.bool (D.phase == 4),.slice (some ⟨x1,0,none⟩) ns ns,.slice (some ⟨x2,0,none⟩) ns ns]) (T:=93) (m:=1) (size:=6) rfl (fun u hu=>(by simp only[List.mem_cons,List.not_mem_nil,or_false]at hu;rcases hu with rfl|rfl|rfl|rfl|rfl|rfl<;>rfl)));have p1':=Z0 (p1.alloc (.cells #[.int .i64 k,.int .i64 c,.int .i64 0,.bool (D.phase == 4),.slice (some ⟨x1,0,none⟩) ns ns,.slice (some ⟨x2,0,none⟩) ns ns] 93));have le2:=Z0 (show wc.heap.size≤(w1.alloc (.cells #[.int .i64 k,.int .i64 c,.int .i64 0,.bool (D.phase == 4),.slice (some ⟨x1,0,none⟩) ns ns,.slice (some ⟨x2,0,none⟩) ns ns] 93)).heap.size by have:=b1.out.size;simp;omega);clear p1 h1 bC1)
       | (refine N6 rfl (.tmp 62) (.tmp 64) 33 rfl wc.heap.size 93 (.agg #[.int .i64 0,.int .i64 0,.int .i64 0,.bool false,.slice none 0 0,.slice none 0 0]) 6 80 underlying33 zeq (by rfl) (by decide) (.slice a3 k c3) k _ rfl p1'.out (some ⟨w1.heap.size,0,none⟩) 1 1 _ rfl r2.out (by unfold maxLen;omega) (by omega) le2.out ?_;intro u2 w2 p2 h2;obtain⟨a4,c4,rfl⟩:=X0 p2;have b2:=Z0 (((b1.out.trans ((Y2 w1 _).mono b1.out.size))).grown h2 le2.out (fun q hq=>(p1'.out.lt q hq).1));have p2':=Z0 p2;have g4b:=Y3 (Z7 hIb.out b2.out) g4;have r3:=Z0 (sr2.out.below (Z7 hIb.out b2.out));clear p2 h2 d0 d1 d2 d3 d4 d5)
       | (refine N6 rfl (.tmp 67) (.tmp 73) 33 rfl wc.heap.size 93 (.agg #[.int .i64 0,.int .i64 0,.int .i64 0,.bool false,.slice none 0 0,.slice none 0 0]) 6 80 underlying33 zeq (by rfl) (by decide) (.slice a4 (k+1) c4) (k+1) _ rfl p2'.out A2 (D.spans.length-k) (cS-k) _ rfl r3.out (by unfold maxLen;omega) (by omega) b2.out.size ?_;intro u3 w3 p3 h3;obtain⟨a5,c5,rfl⟩:=X0 p3;have b3:=Z0 (b2.out.grown h3 b2.out.size (fun q hq=>(p2'.out.lt q hq).1));have p3':=Z0 p3;have g4c:=Y3 (Z7 hIb.out b3.out) g4;have f4c:w3.frozen? ⟨B,4,none⟩=false:=(World.frozen?_of_block ((Z7 hIb.out b3.out).block B hlt)).trans f4.out;clear p3 h3))
      go_ret;have hk:=hk'.out;have e9:k+1+(D.spans.length-k)=D.spans.length+1:=by omega
      have hf:=zqz (v:=.slice a5 (k+1+(D.spans.length-k)) c5) h'.out (show PageI w wc c (D.phase == 4) k (sl' c).toNat C x1 x2 by rw[hnn.out];exact hI.out) hk b3.out (by have:=p3'.out;rw[e9]at this ⊢;rw[hnn.out];exact this);exact⟨⟨k,hfp.out,.inr ⟨hp'.out,rfl,hf.1⟩⟩,hf.2⟩
def TookT(D:WD)(n p:Int)(base B:Nat)(S:Y9)(w:World)(e:Ending)(w':World):Prop :=
 (∃D1 k j s S',M0 D (cl n) D1 k j∧D1.spans[k]?=some s∧e=.returned (.int .i64 (D1.base+atW s (j:Int)))∧VarW w' base B S' (zeo D1 k s j n p)∧V8 w w' B S S') ∨
 (zgm D (cl n)∧e=.returned (.int .i64 0)∧VarW w' base B S D∧V8 w w' B S S)
theorem zxo(base B:Nat)(S:Y9)(D:WD)(n p:Int)(hF:Y5 D)(hn1:1≤n)(hn:n≤16)(hp0:0≤p)(hp:p≤n)(w:World)(h:VarW w base B S D) :
  Calls prog 96 #[.pointer (some ⟨B,0,none⟩),.int .i64 n,.int .i64 p] w fun e w'=>TookT D n p base B S w e w'∧Below base w w':=by
 obtain⟨aS,cS,hgs⟩:=X0 h.own.spans;have h':=Z0 h;have hF':=Z0 hF;have hrd:=h.rd.parts.2.2.1;rw[hgs]at hrd;have hat:=Z0 (fun k s hk=>hrd.at_ k s hk);have hsl:D.spans.length≤12:=by have:=hF.spans;have:=hF.geo.2.2.2.2.1;omega
 have hb0:0≤D.base:=by have:=hF.geo.1;omega
 have hb1:D.base≤1048576:=hF.geo.2.1;have g4:=h.cell 4 S.vs rfl;rw[hgs]at g4;have hc:=Z0 (zwv hn1 hn);have hcn:=Z0 (fun w=>zik n w);have hbB:=Z0 (Below.refl base w);clear h hgs hrd hF;have hce:∃c,c=cl n:=⟨_,rfl⟩;obtain⟨c,hce⟩:=hce;rw[←hce]at hc;simp only[←hce]at hcn;have hce':=Z0 hce;clear hce;go_enter func96,ntmps96;go_wp2_with (go_at_call 95;refine(hcn.out _).mono ?_;rintro e w'⟨rfl,rfl⟩)
 go_loop [8,9,10] (fun a b i=>∃k:Nat,k≤D.spans.length∧i=.int .i64 k∧((∃z:Nat,a=.int .i64 (-1)∧b=.int .i64 z∧Hid (z=0)∧Hid (zmc D c k))∨∃k0 j0:Nat,a=.int .i64 k0∧b=.int .i64 j0∧Hid (M0 D c D k0 j0))) (fun a b i=>D.spans.length-(intOf i).toNat)
 case atStart=>exact⟨0,Nat.zero_le _,rfl,.inl ⟨0,rfl,rfl,Z0 rfl,fun i s hi=>absurd hi (by omega)⟩⟩
 case round =>
  obtain⟨i,hi,rfl,hst⟩:=hrel
  rcases hst with⟨z,rfl,rfl,hz0,hfu⟩|⟨k,j,rfl,rfl,hpl⟩
  case inr =>
   obtain⟨s,hs,hsc,hsj,hs0,hsb,hsf⟩:∃s,D.spans[k]?=some s∧s.cls=c∧j<s.lens.length∧s.lens[j]?.getD 0=0∧(∀i,i<j→s.lens[i]?.getD 0≠0)∧zmc D c k:=by
    rcases hpl.out with⟨_,h⟩|⟨_,_,_,e,_⟩
    ·exact h
    ·exfalso
     have:=congrArg (fun x:WD=>x.spans.length) e;simp only[insD,List.length_append,List.length_cons]at this;have h9:=congrArg List.length (List.take_append_drop k D.spans);simp only[List.length_append]at h9;omega
   have hpl:=Z0 (show M0 D (cl n) D k j from hce'.out ▸ hpl.out);have hin:=hF'.out.slotIn hs hsj;have hv:=h';have hBB:=hbB;have hszc:=hc.out.2.2.2;rw[←hsc]at hszc;have hbn:n≤32:=by omega
   obtain⟨D1,hD1⟩:∃x:WD,x=D:=⟨_,rfl⟩;obtain⟨S1,hS1⟩:∃x:Y9,x=S:=⟨_,rfl⟩;obtain⟨w1,hw1⟩:∃x:World,x=w:=⟨_,rfl⟩;clear hsc hs0 hsb hsf hsj g4;subst hD1 hS1 hw1;have hTT:=Z0 (V8.of_below (w:=w1) B S1 (Below.refl _ _))
   by_cases hil:(i:Int)<(D1.spans.length:Int)
   all_goals
    have hbd:=hin.bd;obtain⟨p0,hp0⟩:=hv.out.svAt hs;obtain⟨gs,cs,hgs⟩:=hv.out.headS (by have:=(List.getElem?_eq_some_iff.1 hs).1;omega);obtain⟨gl,cl1,hgl⟩:=J3 (hv.out.own.inner k s p0 hs hp0).1 (by have:=hin.j;omega);obtain⟨gp,cp,hgp⟩:=J3 (hv.out.own.inner k s p0 hs hp0).2 (by have:=hin.j;have:=hin.lens;have:=hin.ptrs;omega);have hj:=hin.j;have hjp:j<s.ptrs.length:=by have:=hin.lens;have:=hin.ptrs;omega
    have hkl1:(k:Int)<(D1.spans.length:Int):=by have:=(List.getElem?_eq_some_iff.1 hs).1;omega
    have hjl1:(j:Int)<(s.lens.length:Int):=by omega
    have hjp1:(j:Int)<(s.ptrs.length:Int):=by omega
    obtain⟨A,hA⟩:=Int.eq_ofNat_of_zero_le hbd.1;have hdl:=hin.dirty;have hpg:=hin.pg;have hpg0:=hin.pg0;have hpg1:=hin.pg1;have hA2:A≤1000:=by omega
    have hdd:(A:Int)+n≤8*(D1.dirty.length:Int):=by omega
    have hj15:(j:Int)≤15:=hbd.2.2.2.2.1
    have hat2:=Z0 (fun(w:World)=>(hA ▸ zjx s (.slice (some ⟨gl,0,none⟩) s.lens.length cl1) (.slice (some ⟨gp,0,none⟩) s.ptrs.length cp) (j:Int) hpg0 (by omega) (by omega) (by omega) w :
     Calls prog 65 #[zge s (.slice (some ⟨gl,0,none⟩) s.lens.length cl1) (.slice (some ⟨gp,0,none⟩) s.ptrs.length cp),.int .i64 j] w fun e w'=>e=.returned (.int .i64 (A:Int))∧Below w.heap.size w w'))
    have G4:=hv.out.cell 4 S1.vs rfl;rw[hgs]at G4;obtain⟨x0,x1,x2,x3,x4,x5⟩:=hv.out.six hgs hs hp0;rw[hgl]at x4;rw[hgp]at x5;obtain⟨n1,n2,n3,n4,n5,n6⟩:=hv.out.nes hgs hs hp0 hgl hgp;obtain⟨c1,c2⟩:=U0 (hv.out.own.inner k s p0 hs hp0).1 hgl j hj;obtain⟨d1,d2⟩:=U0 (hv.out.own.inner k s p0 hs hp0).2 hgp j hjp;have s1:=hv.out.lens k j s p0 n hs hp0 hgl;have hk2:=Z0 (zhl (t:=({ s with lens:=s.lens.set j n }:Y7)) hs);have s2:=Z0 (s1.1.ptrs k j _ p0 p hk2.out hp0 hgp);have B2:=Z0 (s1.2.trans s2.out.2);have C2:=Z0 ((Chg.of_grown (U5 w1 gl j (.int .i64 n)) (bs:=B::blks S1.all) (fun q hq=>by cases hq;exact List.mem_cons_of_mem _ (List.mem_filterMap.2 ⟨p0.1,(by have hm:p0.1∈V9 S1.sv:=List.mem_flatMap.2 ⟨p0,List.mem_of_getElem? hp0,by simp⟩;simp[Y9.all,hm]),by rw[hgl];rfl⟩))).trans (Chg.of_grown (U5 (w1.setCell ⟨gl,j,none⟩ (.int .i64 n)) gp j (.int .i64 p)) (bs:=B::blks S1.all) (fun q hq=>by cases hq;exact List.mem_cons_of_mem _ (List.mem_filterMap.2 ⟨p0.2,(by have hm:p0.2∈V9 S1.sv:=List.mem_flatMap.2 ⟨p0,List.mem_of_getElem? hp0,by simp⟩;simp[Y9.all,hm]),by rw[hgp];rfl⟩))));have hmx:=hv.out.rd.parts.2.2.1;obtain⟨_,_,_,hsm,_⟩:=hmx;unfold maxLen at hsm;have hlx:=(hv.out.own.inner k s p0 hs hp0);have hlx1:=(Rd.of_owns hlx.1);have hlx2:=(Rd.of_owns hlx.2);obtain⟨_,_,_,hsm1,_⟩:=hlx1;obtain⟨_,_,_,hsm2,_⟩:=hlx2;unfold maxLen at hsm1 hsm2;have hin':=Z0 hin;have hs':=Z0 hs;have hA':=Z0 hA;have hle1:=Z0 (Nat.le_of_lt (Nat.lt_of_le_of_lt hv.out.le hv.out.lt));have hz1:=Z0 (show(w1.setCell ⟨gl,j,none⟩ (.int .i64 n)).heap.size=w1.heap.size from World.size_setCell ..);generalize s.lens[j]?.getD 0=o3 at c1;generalize s.ptrs[j]?.getD 0=o4 at d1;clear s1 hin hs hgs hgl hgp hp0 hA hbd hlx hj hjp;go_wp2_with fail;refine(hat2.out _).mono ?_;rintro e w3⟨rfl,b3⟩;have v3:=Z0 (s2.out.1.below b3);have B3:=Z0 (B2.out.trans (b3.mono (by have:=hle1.out;simp;omega)));have C3:=Z0 (C2.out.trans (Chg.of_below b3 _));clear b3 G4 x0 x1 x2 x3 x4 x5 c1 c2 d1 d2;go_wp2_with fail;refine(G9 base B S1 _ (A:Int) n (by omega) (by omega) (by omega) (by omega) (by exact hdd) w3 v3.out).mono ?_;rintro e w4⟨rfl,v4,b4,t4⟩;have hks:=Z0 (show(zeo D1 k s j n p).spans[k]?=some (N7 s j n p)from zhl hs'.out);have v4':=Z0 (show VarW w4 base B S1 (zeo D1 k s j n p)from by simpa only[zeo,N7,hA'.out,List.set_set]using v4);have B4:=Z0 (B3.out.trans b4);have C4:=Z0 (C3.out.trans t4);clear v4 b4 t4;have hadr:=Z0 (zmx B _ (zeo D1 k s j n p) k j (N7 s j n p) hks.out hpg0 (by show s.page≤1000;omega) (by omega) hb0 hb1 w4 v4'.out.rd v4'.out.boxW);go_wp2_with fail;refine hadr.out.mono ?_;rintro e w5⟨rfl,b5⟩;go_wp2_with fail;go_ret;exact⟨.inl ⟨D1,k,j,s,S1,hpl.out,hs'.out,rfl,v4'.out.below b5,hTT.out.trans ⟨fun q hq=>.inl hq,C4.out.trans (Chg.of_below b5 _)⟩⟩,hBB.out.trans (B4.out.trans (b5.mono (by have:=v4'.out.le;have:=v4'.out.lt;omega)))⟩
  by_cases hil:i<D.spans.length
  ·obtain⟨s,hks⟩:∃s,D.spans[i]?=some s:=⟨_,List.getElem?_eq_getElem hil⟩
   have hil1:(i:Int)<(D.spans.length:Int):=by omega
   obtain⟨b1,o1,rfl,vl,vp,_,x1,_,_,x4,_,⟨al,cl1,rfl,hll,xl⟩,_⟩:=hat.out i s hks;have xl':=Z0 xl;have hks':=Z0 hks;unfold maxLen at hll;clear xl hks;go_wp2_with fail
   go_loop [8,9,11] (fun a b jj=>∃j:Nat,j≤s.lens.length∧jj=.int .i64 j∧((a=.int .i64 (-1)∧b=.int .i64 z∧Hid (s.cls=c→∀i,i<j→s.lens[i]?.getD 0≠0))∨∃j0:Nat,a=.int .i64 i∧b=.int .i64 j0∧Hid (s.cls=c)∧Hid (M0 D c D i j0))) (fun a b jj=>s.lens.length-(intOf jj).toNat)
   case atStart=>exact⟨0,Nat.zero_le _,rfl,.inl ⟨rfl,rfl,fun _ i hi=>absurd hi (by omega)⟩⟩
   case round =>
    obtain⟨j,hj,rfl,hst⟩:=hrel
    rcases hst with⟨rfl,rfl,hno⟩|⟨j0,rfl,rfl,hcc,hpl⟩
    case inr =>
     have hcb:(s.cls == c)=true:=beq_iff_eq.2 hcc.out
     by_cases hjl:(j:Int)<(s.lens.length:Int)
     all_goals go_wp2_with fail
     all_goals go_round
     all_goals first
      | exact⟨i+1,by omega,by go_num,.inr ⟨i,j0,rfl,rfl,hpl⟩⟩
      | (simp[intOf];omega)
    by_cases hcc:s.cls=c
    ·have hcb:(s.cls == c)=true:=beq_iff_eq.2 hcc
     have hcc':=Z0 hcc;clear hcc
     by_cases hjl:j<s.lens.length
     ·have hjl1:(j:Int)<(s.lens.length:Int):=by omega
      obtain⟨bl,ol,rfl,gl⟩:=xl'.out j hjl;have hyes:=Z0 (show s.lens[j]?.getD 0=0→M0 D c D i j from fun h=>.inl ⟨rfl,s,hks'.out,hcc'.out,hjl,h,hno.out hcc'.out,hfu.out⟩);have hnext:=Z0 (show s.lens[j]?.getD 0≠0→s.cls=c→∀i,i<j+1→s.lens[i]?.getD 0≠0 from fun h hc i hi=>if e:i=j then by subst e;exact h else hno.out hc i (by omega));generalize s.lens[j]?.getD 0=l at *
      by_cases hl:l=0
      ·have y:=Z0 (hyes.out hl)
       subst hl;go_wp2_with fail
       go_round
       case rel=>exact⟨j+1,by omega,by go_num,.inr ⟨j,rfl,rfl,hcc',y⟩⟩
       case measure=>simp[intOf];omega
      ·have y:=Z0 (hnext.out hl)
       go_wp2_with fail
       go_round
       case rel=>exact⟨j+1,by omega,by go_num,.inl ⟨rfl,rfl,y⟩⟩
       case measure=>simp[intOf];omega
     ·have hjl1:¬(j:Int)<(s.lens.length:Int):=by omega
      have y:=Z0 (zig hfu.out hks'.out fun h i hi=>hno.out h i (by omega));go_wp2_with fail
      go_round
      case rel=>exact⟨i+1,by omega,by go_num,.inl ⟨z,rfl,rfl,hz0,y⟩⟩
      case measure=>simp[intOf];omega
    ·have hcb:(s.cls == c)=false:=beq_eq_false_iff_ne.2 hcc
     have y:=Z0 (zig hfu.out hks'.out fun h=>absurd h hcc);clear hcc
     by_cases hjl:(j:Int)<(s.lens.length:Int)
     all_goals go_wp2_with fail
     all_goals go_round
     all_goals first
      | exact⟨i+1,by omega,by go_num,.inl ⟨z,rfl,rfl,hz0,y⟩⟩
      | (simp[intOf];omega)
  ·obtain rfl:i=D.spans.length:=by omega
   have hpage:=Z0 (fun w h=>zvp base B S D c (by omega) w h);go_wp2_with fail;refine(hpage.out _ h'.out).mono ?_;rintro e w1⟨hq,b1⟩;obtain⟨k,hfp,hq⟩:=hq;have hfp':=Z0 hfp;have hbB2:=Z0 b1;clear hfp b1 g4
   rcases hq with⟨hkp,rfl,hv1,ht1⟩|⟨hkp,rfl,S1,hv1,ht1⟩
   ·have hv1':=Z0 hv1
    have hTn:=Z0 ht1;clear ht1;have y:=Z0 (show zgm D (cl n)from hce'.out ▸ (⟨hfu.out,k,hfp'.out,hkp⟩:zgm D c));clear hv1 hkp;go_wp2_with fail;go_ret;exact⟨.inr ⟨y.out,rfl,hv1'.out,hTn.out⟩,hbB2.out⟩
   ·obtain⟨j,hj⟩:∃j:Nat,j=z:=⟨_,rfl⟩
    subst hj;have hj0:=hz0.out;have hv:=Z0 hv1;have hTT:=Z0 ht1;clear ht1;have hBB:=hbB2;have hkl:=hfp'.out.1;have hin:=zuo hF'.out hc.out.2.2.1 hkl hkp;have hs:(insD D c k).spans[k]?=some (J4 D c k):=zrm hkl _;have hpl:=Z0 (show M0 D (cl n) (insD D c k) k j from hce'.out ▸ (.inr ⟨hfu.out,hfp'.out,hkp,rfl,hj0⟩:M0 D c (insD D c k) k j));have hszc:n≤sz (J4 D c k).cls:=hc.out.2.2.2;have hbn:n≤32:=by omega
    replace hb0:0≤(insD D c k).base:=hb0;replace hb1:(insD D c k).base≤1048576:=hb1;rw[←hj0]at hin;clear hv1 hkp;generalize insD D c k=D1 at *;generalize J4 D c k=s at *;clear hj0 hz0;have hbd:=hin.bd;obtain⟨p0,hp0⟩:=hv.out.svAt hs;obtain⟨gs,cs,hgs⟩:=hv.out.headS (by have:=(List.getElem?_eq_some_iff.1 hs).1;omega);obtain⟨gl,cl1,hgl⟩:=J3 (hv.out.own.inner k s p0 hs hp0).1 (by have:=hin.j;omega);obtain⟨gp,cp,hgp⟩:=J3 (hv.out.own.inner k s p0 hs hp0).2 (by have:=hin.j;have:=hin.lens;have:=hin.ptrs;omega);have hj:=hin.j;have hjp:j<s.ptrs.length:=by have:=hin.lens;have:=hin.ptrs;omega
    have hkl1:(k:Int)<(D1.spans.length:Int):=by have:=(List.getElem?_eq_some_iff.1 hs).1;omega
    have hjl1:(j:Int)<(s.lens.length:Int):=by omega
    have hjp1:(j:Int)<(s.ptrs.length:Int):=by omega
    obtain⟨A,hA⟩:=Int.eq_ofNat_of_zero_le hbd.1;have hdl:=hin.dirty;have hpg:=hin.pg;have hpg0:=hin.pg0;have hpg1:=hin.pg1;have hA2:A≤1000:=by omega
    have hdd:(A:Int)+n≤8*(D1.dirty.length:Int):=by omega
    have hj15:(j:Int)≤15:=hbd.2.2.2.2.1
    have hat2:=Z0 (fun(w:World)=>(hA ▸ zjx s (.slice (some ⟨gl,0,none⟩) s.lens.length cl1) (.slice (some ⟨gp,0,none⟩) s.ptrs.length cp) (j:Int) hpg0 (by omega) (by omega) (by omega) w :
     Calls prog 65 #[zge s (.slice (some ⟨gl,0,none⟩) s.lens.length cl1) (.slice (some ⟨gp,0,none⟩) s.ptrs.length cp),.int .i64 j] w fun e w'=>e=.returned (.int .i64 (A:Int))∧Below w.heap.size w w'))
    have G4:=hv.out.cell 4 S1.vs rfl;rw[hgs]at G4;obtain⟨x0,x1,x2,x3,x4,x5⟩:=hv.out.six hgs hs hp0;rw[hgl]at x4;rw[hgp]at x5;obtain⟨n1,n2,n3,n4,n5,n6⟩:=hv.out.nes hgs hs hp0 hgl hgp;obtain⟨c1,c2⟩:=U0 (hv.out.own.inner k s p0 hs hp0).1 hgl j hj;obtain⟨d1,d2⟩:=U0 (hv.out.own.inner k s p0 hs hp0).2 hgp j hjp;have s1:=hv.out.lens k j s p0 n hs hp0 hgl;have hk2:=Z0 (zhl (t:=({ s with lens:=s.lens.set j n }:Y7)) hs);have s2:=Z0 (s1.1.ptrs k j _ p0 p hk2.out hp0 hgp);have B2:=Z0 (s1.2.trans s2.out.2);have C2:=Z0 ((Chg.of_grown (U5 w1 gl j (.int .i64 n)) (bs:=B::blks S1.all) (fun q hq=>by cases hq;exact List.mem_cons_of_mem _ (List.mem_filterMap.2 ⟨p0.1,(by have hm:p0.1∈V9 S1.sv:=List.mem_flatMap.2 ⟨p0,List.mem_of_getElem? hp0,by simp⟩;simp[Y9.all,hm]),by rw[hgl];rfl⟩))).trans (Chg.of_grown (U5 (w1.setCell ⟨gl,j,none⟩ (.int .i64 n)) gp j (.int .i64 p)) (bs:=B::blks S1.all) (fun q hq=>by cases hq;exact List.mem_cons_of_mem _ (List.mem_filterMap.2 ⟨p0.2,(by have hm:p0.2∈V9 S1.sv:=List.mem_flatMap.2 ⟨p0,List.mem_of_getElem? hp0,by simp⟩;simp[Y9.all,hm]),by rw[hgp];rfl⟩))));have hmx:=hv.out.rd.parts.2.2.1;obtain⟨_,_,_,hsm,_⟩:=hmx;unfold maxLen at hsm;have hlx:=(hv.out.own.inner k s p0 hs hp0);have hlx1:=(Rd.of_owns hlx.1);have hlx2:=(Rd.of_owns hlx.2);obtain⟨_,_,_,hsm1,_⟩:=hlx1;obtain⟨_,_,_,hsm2,_⟩:=hlx2;unfold maxLen at hsm1 hsm2;have hin':=Z0 hin;have hs':=Z0 hs;have hA':=Z0 hA;have hle1:=Z0 (Nat.le_of_lt (Nat.lt_of_le_of_lt hv.out.le hv.out.lt));have hz1:=Z0 (show(w1.setCell ⟨gl,j,none⟩ (.int .i64 n)).heap.size=w1.heap.size from World.size_setCell ..);generalize s.lens[j]?.getD 0=o3 at c1;generalize s.ptrs[j]?.getD 0=o4 at d1;clear s1 hin hs hgs hgl hgp hp0 hA hbd hlx hj hjp;go_wp2_with fail;refine(hat2.out _).mono ?_;rintro e w3⟨rfl,b3⟩;have v3:=Z0 (s2.out.1.below b3);have B3:=Z0 (B2.out.trans (b3.mono (by have:=hle1.out;simp;omega)));have C3:=Z0 (C2.out.trans (Chg.of_below b3 _));clear b3 G4 x0 x1 x2 x3 x4 x5 c1 c2 d1 d2;go_wp2_with fail;refine(G9 base B S1 _ (A:Int) n (by omega) (by omega) (by omega) (by omega) (by exact hdd) w3 v3.out).mono ?_;rintro e w4⟨rfl,v4,b4,t4⟩;have hks:=Z0 (show(zeo D1 k s j n p).spans[k]?=some (N7 s j n p)from zhl hs'.out);have v4':=Z0 (show VarW w4 base B S1 (zeo D1 k s j n p)from by simpa only[zeo,N7,hA'.out,List.set_set]using v4);have B4:=Z0 (B3.out.trans b4);have C4:=Z0 (C3.out.trans t4);clear v4 b4 t4;have hadr:=Z0 (zmx B _ (zeo D1 k s j n p) k j (N7 s j n p) hks.out hpg0 (by show s.page≤1000;omega) (by omega) hb0 hb1 w4 v4'.out.rd v4'.out.boxW);go_wp2_with fail;refine hadr.out.mono ?_;rintro e w5⟨rfl,b5⟩;go_wp2_with fail;go_ret;exact⟨.inl ⟨D1,k,j,s,S1,hpl.out,hs'.out,rfl,v4'.out.below b5,hTT.out.trans ⟨fun q hq=>.inl hq,C4.out.trans (Chg.of_below b5 _)⟩⟩,hBB.out.trans (B4.out.trans (b5.mono (by have:=v4'.out.le;have:=v4'.out.lt;omega)))⟩
end Go.Proofs.YtjjamgeoompbkaaGreat
