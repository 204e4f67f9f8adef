import Derived.Test.YtilkidaihbhfpaaGreatTsM
import Derived.Test.YtilkidaihbhfpaaGreatTsF2
import Derived.Test.YtilkidaihbhfpaaGreatTsW
import Derived.Test.YtilkidaihbhfpaaGreatTsA
import Derived.Deep.RegionLaw
import Derived.Deep.DeepCutAuto
import Derived.Deep.CutRange
import Derived.Deep.OwnRows
import Derived.Outline
import Derived.Test.YtilkidaihbhfpaaGreatTsF1
import Derived.Laws.CopyOwn

set_option maxRecDepth 100000
set_option maxHeartbeats 16000000
namespace Go.Proofs.YtilkidaihbhfpaaGreat
open Go.RowKit
set_option linter.unusedVariables false
def Y2.cells (S:Y2) (D:WD):Array Value:=#[.int .i64 D.base,.int .i64 D.pages,S.vw,S.vd,S.vs,S.vm,.int .i64 D.phase,.int .i64 D.next,S.vg]
structure VarW (w:World) (base B:Nat) (S:Y2) (D:WD):Prop where
 box:w.heap[B]?=some (.cells (S.cells D) 30 (0,0))
 own:OwnW w base S D
 le:base≤B
 ne:B ∉ blks S.all
section
variable {w w':World} {base B:Nat} {S:Y2} {D:WD}
theorem OwnW.mk' (h1:w.ownsRow base 3 1 S.vw D.words.length (D.words.map (Value.int .i64))) (h2:w.ownsRow base 4 1 S.vd D.dirty.length (D.dirty.map Value.bool)) (h3:OwnS w base S.vs D.spans S.sv) (h4:OwnM w base S.vm D.muts S.mv)
  (h5:w.ownsRow base 3 1 S.vg D.grey.length (D.grey.map (Value.int .i64))) (h6:(S.ints.filterMap Value.ownBlock).Nodup):OwnW w base S D :=
 ⟨h1,h2,h3.row,h3.len,h3.inner,h4.row,h4.len,h4.inner,h5,h6⟩
theorem OwnW.putWords (h:OwnW w base S D) (c:Chg (blks [S.vw]) w w') {L:List Int} (r:w'.ownsRow base 3 1 S.vw L.length (L.map (Value.int .i64))):OwnW w' base S { D with words:=L }:=by
 have P:=h.parts
 exact .mk' r (X9 h.dirty c fun q hq=>P.d01.symm.not_mem (by simp) hq) (h.ownS.chg c (fun q hq=>P.d02.symm.not_mem (by simp) hq) (fun x hx q hq=>P.d02.symm.not_mem (by simp [hx]) hq))
  (h.ownM.chg c (fun q hq=>P.d03.symm.not_mem (by simp) hq) (fun x hx q hq=>P.d03.symm.not_mem (by simp [hx]) hq)) (X9 h.grey c fun q hq=>P.d04.symm.not_mem (by simp) hq) h.nodup
theorem OwnW.putDirty (h:OwnW w base S D) (c:Chg (blks [S.vd]) w w') {L:List Bool} (r:w'.ownsRow base 4 1 S.vd L.length (L.map Value.bool)):OwnW w' base S { D with dirty:=L }:=by
 have P:=h.parts
 exact .mk' (X9 h.words c fun q hq=>P.d01.not_mem (by simp) hq) r (h.ownS.chg c (fun q hq=>P.d12.symm.not_mem (by simp) hq) (fun x hx q hq=>P.d12.symm.not_mem (by simp [hx]) hq))
  (h.ownM.chg c (fun q hq=>P.d13.symm.not_mem (by simp) hq) (fun x hx q hq=>P.d13.symm.not_mem (by simp [hx]) hq)) (X9 h.grey c fun q hq=>P.d14.symm.not_mem (by simp) hq) h.nodup
theorem OwnW.putSpans (h:OwnW w base S D) (c:Chg (blks (S.vs :: X7 S.sv)) w w') {L:List Y3} (r:OwnS w' base S.vs L S.sv):OwnW w' base S { D with spans:=L }:=by
 have P:=h.parts
 exact .mk' (X9 h.words c fun q hq=>P.d02.not_mem (by simp) hq) (X9 h.dirty c fun q hq=>P.d12.not_mem (by simp) hq) r
  (h.ownM.chg c (fun q hq=>P.d23.symm.not_mem (by simp) hq) (fun x hx q hq=>P.d23.symm.not_mem (by simp [hx]) hq)) (X9 h.grey c fun q hq=>P.d24.symm.not_mem (by simp) hq) h.nodup
theorem OwnW.putMuts (h:OwnW w base S D) (c:Chg (blks (S.vm :: S.mv)) w w') {L:List (List Int)} (r:OwnM w' base S.vm L S.mv):OwnW w' base S { D with muts:=L }:=by
 have P:=h.parts
 exact .mk' (X9 h.words c fun q hq=>P.d03.not_mem (by simp) hq) (X9 h.dirty c fun q hq=>P.d13.not_mem (by simp) hq)
  (h.ownS.chg c (fun q hq=>P.d23.not_mem (by simp) hq) (fun x hx q hq=>P.d23.not_mem (by simp [hx]) hq)) r (X9 h.grey c fun q hq=>P.d34.symm.not_mem (by simp) hq) h.nodup
theorem OwnW.chg (h:OwnW w base S D) {bs:List Nat} (c:Chg bs w w') (hn:∀ k,k ∈ blks S.all→k ∉ bs):OwnW w' base S D:=by
 have hm:∀ x,x ∈ S.all→∀ q,x.ownBlock=some q→q ∉ bs:=fun x hx q hq=>hn q (List.mem_filterMap.2 ⟨x,hx,hq⟩)
 exact .mk' (X9 h.words c (hm _ (by simp [Y2.all]))) (X9 h.dirty c (hm _ (by simp [Y2.all]))) (h.ownS.chg c (hm _ (by simp [Y2.all])) (fun x hx=>hm x (by simp [Y2.all,hx])))
  (h.ownM.chg c (hm _ (by simp [Y2.all])) (fun x hx=>hm x (by simp [Y2.all,hx]))) (X9 h.grey c (hm _ (by simp [Y2.all]))) h.nodup
theorem VarW.rd (h:VarW w base B S D):RdW w (S.val D) D:=h.own.rd
theorem VarW.boxW (h:VarW w base B S D):BoxW w B (S.val D):=⟨_,rfl,h.box⟩
theorem VarW.cell (h:VarW w base B S D) (j:Nat) (u:Value) (hu:(S.cells D)[j]?=some u):w.cell? ⟨B,j,none⟩=some u:=Z0 h.box j u hu
theorem VarW.frz (h:VarW w base B S D) (j:Nat):w.frozen? ⟨B,j,none⟩=false:=Z3 h.box j
theorem VarW.lt (h:VarW w base B S D):B<w.heap.size:=(Array.getElem?_eq_some_iff.1 h.box).1
theorem VarW.below (h:VarW w base B S D) (hb:Below w.heap.size w w'):VarW w' base B S D:=⟨Z6 hb h.box,h.own.below hb,h.le,h.ne⟩
theorem VarW.drewN (h:VarW w base B S D) (n:Nat):VarW (w.drewN n) base B S D:=h.below (below_drewN (Below.refl _ _) n)
theorem VarW.drew (h:VarW w base B S D):VarW w.drew base B S D:=h.drewN 1
theorem VarW.keep (h:VarW w base B S D) {bs:List Nat} (c:Chg bs w w') (hn:∀ k,k ∈ bs→k ∈ blks S.all):w'.heap[B]?=some (.cells (S.cells D) 30 (0,0)) :=
 (c.block B h.lt fun hm=>h.ne (hn B hm)).trans h.box
theorem zgg {x:Value} (hx:x ∈ S.all):∀ k,k ∈ blks [x]→k ∈ blks S.all:=fun k hk=>by
 obtain ⟨y,hy,e⟩:=List.mem_filterMap.1 hk
 obtain rfl:=List.mem_singleton.1 hy
 exact List.mem_filterMap.2 ⟨y,hx,e⟩
theorem VarW.bel (h:VarW w base B S D) {bs:List Nat} (c:Chg bs w w') (hn:∀ k,k ∈ bs→k ∈ blks S.all):Below base w w':=by
 have hB:=h.lt
 have hle:=h.le
 exact Chg.below (Below.refl _ _) c (by omega) fun x hx=>(h.own.lt x (hn x hx)).1
theorem VarW.putWords (h:VarW w base B S D) (c:Chg (blks [S.vw]) w w') {L:List Int} (r:w'.ownsRow base 3 1 S.vw L.length (L.map (Value.int .i64))):VarW w' base B S { D with words:=L }∧Below base w w' :=
 ⟨⟨h.keep c (zgg (by simp [Y2.all])),h.own.putWords c r,h.le,h.ne⟩,h.bel c (zgg (by simp [Y2.all]))⟩
theorem VarW.putDirty (h:VarW w base B S D) (c:Chg (blks [S.vd]) w w') {L:List Bool} (r:w'.ownsRow base 4 1 S.vd L.length (L.map Value.bool)):VarW w' base B S { D with dirty:=L }∧Below base w w' :=
 ⟨⟨h.keep c (zgg (by simp [Y2.all])),h.own.putDirty c r,h.le,h.ne⟩,h.bel c (zgg (by simp [Y2.all]))⟩
theorem zqk:∀ k,k ∈ blks (S.vs :: X7 S.sv)→k ∈ blks S.all:=zrz fun x hx=>by
 simp only [Y2.all,List.mem_append,List.mem_cons] at hx ⊢
 rcases hx with hx | hx <;> simp [hx]
theorem ztx:∀ k,k ∈ blks (S.vm :: S.mv)→k ∈ blks S.all:=zrz fun x hx=>by
 simp only [Y2.all,List.mem_append,List.mem_cons] at hx ⊢
 rcases hx with hx | hx <;> simp [hx]
theorem VarW.putSpans (h:VarW w base B S D) (c:Chg (blks (S.vs :: X7 S.sv)) w w') {L:List Y3} (r:OwnS w' base S.vs L S.sv):VarW w' base B S { D with spans:=L }∧Below base w w' :=
 ⟨⟨h.keep c zqk,h.own.putSpans c r,h.le,h.ne⟩,h.bel c zqk⟩
theorem VarW.putMuts (h:VarW w base B S D) (c:Chg (blks (S.vm :: S.mv)) w w') {L:List (List Int)} (r:OwnM w' base S.vm L S.mv):VarW w' base B S { D with muts:=L }∧Below base w w' :=
 ⟨⟨h.keep c ztx,h.own.putMuts c r,h.le,h.ne⟩,h.bel c ztx⟩
theorem VarW.word (h:VarW w base B S D) {g cap:Nat} (hg:S.vw=.slice (some ⟨g,0,none⟩) D.words.length cap) (i:Nat) (x:Int) :
  VarW (w.setCell ⟨g,i,none⟩ (.int .i64 x)) base B S { D with words:=D.words.set i x }∧Below base w (w.setCell ⟨g,i,none⟩ (.int .i64 x)):=by
 have hr:=h.own.words
 rw [hg] at hr
 have hst:=hr.stored i (.int .i64 x)
 refine h.putWords (L:=D.words.set i x) (zzj (x:=S.vw) (by rw [hg];exact hst.2)) ?_
 rw [List.length_set,hg,List.map_set]
 exact hst.1
theorem VarW.dirty (h:VarW w base B S D) {g cap:Nat} (hg:S.vd=.slice (some ⟨g,0,none⟩) D.dirty.length cap) (i:Nat) (x:Bool) :
  VarW (w.setCell ⟨g,i,none⟩ (.bool x)) base B S { D with dirty:=D.dirty.set i x }∧Below base w (w.setCell ⟨g,i,none⟩ (.bool x)):=by
 have hr:=h.own.dirty
 rw [hg] at hr
 have hst:=hr.stored i (.bool x)
 refine h.putDirty (L:=D.dirty.set i x) (zzj (x:=S.vd) (by rw [hg];exact hst.2)) ?_
 rw [List.length_set,hg,List.map_set]
 exact hst.1
theorem VarW.headD (h:VarW w base B S D) (hl:0<D.dirty.length):∃ g cap,S.vd=.slice (some ⟨g,0,none⟩) D.dirty.length cap:=by
 rcases h.own.dirty.2 with ⟨_,h0⟩ | ⟨g,cap,cur,e,_⟩
 ·omega
 ·exact ⟨g,cap,e⟩
theorem VarW.headW (h:VarW w base B S D) (hl:0<D.words.length):∃ g cap,S.vw=.slice (some ⟨g,0,none⟩) D.words.length cap:=by
 rcases h.own.words.2 with ⟨_,h0⟩ | ⟨g,cap,cur,e,_⟩
 ·omega
 ·exact ⟨g,cap,e⟩
theorem VarW.headS (h:VarW w base B S D) (hl:0<D.spans.length):∃ g cap,S.vs=.slice (some ⟨g,0,none⟩) D.spans.length cap:=by
 rcases h.own.spans.2 with ⟨_,h0⟩ | ⟨g,cap,cur,e,_⟩
 ·omega
 ·exact ⟨g,cap,e⟩
theorem VarW.phase (h:VarW w base B S D) (x:Int):VarW (w.setCell ⟨B,6,none⟩ (.int .i64 x)) base B S { D with phase:=x }∧Below base w (w.setCell ⟨B,6,none⟩ (.int .i64 x)):=by
 have c:=Chg.of_grown (V5 w B 6 (.int .i64 x)) (bs:=[B]) (by simp)
 refine ⟨⟨?_,?_,h.le,h.ne⟩,(Below.refl _ _).setCell (p:=⟨B,6,none⟩) h.le _⟩
 ·have:=heap_setCell_same w B 6 _ _ (.int .i64 x) h.box
  simpa [Y2.cells] using this
 ·have k:OwnW _ base S D:=h.own.chg c fun k hk hm=>h.ne (by rw [List.mem_singleton.1 hm] at hk;exact hk)
  exact ⟨k.words,k.dirty,k.spans,k.svl,k.inner,k.muts,k.mvl,k.innerM,k.grey,k.nodup⟩
theorem VarW.next (h:VarW w base B S D) (x:Int):VarW (w.setCell ⟨B,7,none⟩ (.int .i64 x)) base B S { D with next:=x }∧Below base w (w.setCell ⟨B,7,none⟩ (.int .i64 x)):=by
 have c:=Chg.of_grown (V5 w B 7 (.int .i64 x)) (bs:=[B]) (by simp)
 refine ⟨⟨?_,?_,h.le,h.ne⟩,(Below.refl _ _).setCell (p:=⟨B,7,none⟩) h.le _⟩
 ·have:=heap_setCell_same w B 7 _ _ (.int .i64 x) h.box
  simpa [Y2.cells] using this
 ·have k:OwnW _ base S D:=h.own.chg c fun k hk hm=>h.ne (by rw [List.mem_singleton.1 hm] at hk;exact hk)
  exact ⟨k.words,k.dirty,k.spans,k.svl,k.inner,k.muts,k.mvl,k.innerM,k.grey,k.nodup⟩
end
theorem zwd (L:List Y3) (sv:List (Value × Value)) (i j:Nat) (s s':Y3) (p:Value × Value) (u:Value) (h1:L[i]?=some s) (h2:sv[i]?=some p) (hj:j<6) (he:(Q8 s p).set j u=Q8 s' p) :
  (U9 L sv).set (i*6+j) u=U9 (L.set i s') sv:=by
 induction i generalizing L sv with
 | zero =>
  cases L with
  | nil=>simp at h1
  | cons a L =>
   cases sv with
   | nil=>simp at h2
   | cons q sv =>
    simp at h1 h2
    subst h1;subst h2
    simp only [U9,List.zip_cons_cons,List.flatMap_cons,List.set_cons_zero]
    rw [List.set_append_left _ _ (by simp [Q8];omega),Nat.zero_mul,Nat.zero_add,he]
 | succ i ih =>
  cases L with
  | nil=>simp at h1
  | cons a L =>
   cases sv with
   | nil=>simp at h2
   | cons q sv =>
    simp at h1 h2
    have:=ih L sv h1 h2
    simp only [U9,List.zip_cons_cons,List.flatMap_cons,List.set_cons_succ] at this ⊢
    rw [← this,List.set_append_right _ _ (by simp [Q8];omega)]
    rw [show (i+1)*6+j-(Q8 a q).length=i*6+j by simp [Q8];omega]
section
variable {w w':World} {base B:Nat} {S:Y2} {D:WD}
theorem OwnS.head1 {v:Value} {L:List Y3} {sv:List (Value × Value)} {g cap:Nat} (h:OwnS w base (.slice (some ⟨g,0,none⟩) L.length cap) L sv) (i j:Nat) (s s':Y3) (p:Value × Value) (u:Value) (hs:L[i]?=some s) (hp:sv[i]?=some p) (hj:j<4)
  (he:(Q8 s p).set j u=Q8 s' p) (el:s'.lens=s.lens) (ep:s'.ptrs=s.ptrs) :
  OwnS (w.setCell ⟨g,i*6+j,none⟩ u) base (.slice (some ⟨g,0,none⟩) L.length cap) (L.set i s') sv∧Chg [g] w (w.setCell ⟨g,i*6+j,none⟩ u):=by
 have c:=Chg.of_grown (V5 w g (i*6+j) u) (bs:=[g]) (by simp)
 refine ⟨⟨?_,by rw [List.length_set];exact h.len,fun q t r ht hq=>?_⟩,c⟩
 ·have hst:=h.row.stored (i*6+j) u
  rw [zwd L sv i j s s' p u hs hp (by omega) he] at hst
  rw [List.length_set]
  exact hst.1
 ·have hlt:=(List.getElem?_eq_some_iff.1 hs).1
  have key:∃ t0,L[q]?=some t0∧t.lens=t0.lens∧t.ptrs=t0.ptrs:=by
   by_cases e:q=i
   ·subst e
    simp [hlt] at ht
    subst ht
    exact ⟨s,hs,el,ep⟩
   ·rw [List.getElem?_set_ne (fun h=>e h.symm)] at ht
    exact ⟨t,ht,rfl,rfl⟩
  obtain ⟨t0,h0,e1,e2⟩:=key
  rw [e1,e2]
  have hi:=h.inner q t0 r h0 hq
  have ne:∀ {size m:Nat} {x:Value} {xs:List Value},w.ownsRow base 3 size x m xs→∀ k,x.ownBlock=some k→k ∉ [g]:=fun hx k hk=>by
   have:=L7 hx h.row (by decide) k hk
   simp only [List.mem_singleton]
   intro e
   subst e
   exact this rfl
  exact ⟨X9 hi.1 c (ne hi.1),X9 hi.2 c (ne hi.2)⟩
theorem VarW.head (h:VarW w base B S D) {g cap:Nat} (hg:S.vs=.slice (some ⟨g,0,none⟩) D.spans.length cap) (i j:Nat) (s s':Y3) (p:Value × Value) (u:Value) (hs:D.spans[i]?=some s) (hp:S.sv[i]?=some p) (hj:j<4)
  (he:(Q8 s p).set j u=Q8 s' p) (el:s'.lens=s.lens) (ep:s'.ptrs=s.ptrs) :
  VarW (w.setCell ⟨g,i*6+j,none⟩ u) base B S { D with spans:=D.spans.set i s' }∧Below base w (w.setCell ⟨g,i*6+j,none⟩ u):=by
 have ho:=h.own.ownS
 rw [hg] at ho
 have hst:=ho.head1 (v:=S.vs) i j s s' p u hs hp hj he el ep
 refine h.putSpans (L:=D.spans.set i s') (hst.2.mono fun x hx=>?_) (by rw [hg];exact hst.1)
 rw [List.mem_singleton.1 hx]
 exact List.mem_filterMap.2 ⟨S.vs,by simp,by rw [hg];rfl⟩
theorem VarW.mark (h:VarW w base B S D) {g cap:Nat} (hg:S.vs=.slice (some ⟨g,0,none⟩) D.spans.length cap) (i:Nat) (s:Y3) (p:Value × Value) (m:Int) (hs:D.spans[i]?=some s) (hp:S.sv[i]?=some p) :
  VarW (w.setCell ⟨g,i*6+2,none⟩ (.int .i64 m)) base B S { D with spans:=D.spans.set i { s with mark:=m } }∧Below base w (w.setCell ⟨g,i*6+2,none⟩ (.int .i64 m)) :=
 h.head hg i 2 s _ p _ hs hp (by omega) rfl rfl rfl
theorem VarW.swept (h:VarW w base B S D) {g cap:Nat} (hg:S.vs=.slice (some ⟨g,0,none⟩) D.spans.length cap) (i:Nat) (s:Y3) (p:Value × Value) (m:Bool) (hs:D.spans[i]?=some s) (hp:S.sv[i]?=some p) :
  VarW (w.setCell ⟨g,i*6+3,none⟩ (.bool m)) base B S { D with spans:=D.spans.set i { s with swept:=m } }∧Below base w (w.setCell ⟨g,i*6+3,none⟩ (.bool m)) :=
 h.head hg i 3 s _ p _ hs hp (by omega) rfl rfl rfl
theorem VarW.svAt (h:VarW w base B S D) {i:Nat} {s:Y3} (hs:D.spans[i]?=some s):∃ p,S.sv[i]?=some p :=
 ⟨_,List.getElem?_eq_getElem (by have:=h.own.svl;have:=(List.getElem?_eq_some_iff.1 hs).1;omega)⟩
theorem zwl {x:Value} {g cap n i:Nat} {u:Value} (hx:x=.slice (some ⟨g,0,none⟩) n cap):w.grownBy (w.setCell ⟨g,i,none⟩ u) x.ownBlock:=by
 rw [hx]
 exact V5 w g i u
theorem VarW.lens (h:VarW w base B S D) {g cap:Nat} (k i:Nat) (s:Y3) (p:Value × Value) (x:Int) (hs:D.spans[k]?=some s) (hp:S.sv[k]?=some p) (hg:p.1=.slice (some ⟨g,0,none⟩) s.lens.length cap) :
  VarW (w.setCell ⟨g,i,none⟩ (.int .i64 x)) base B S { D with spans:=D.spans.set k { s with lens:=s.lens.set i x } }∧Below base w (w.setCell ⟨g,i,none⟩ (.int .i64 x)):=by
 have ho:=h.own.ownS
 have hi:=(ho.inner k s p hs hp).1
 rw [hg] at hi
 have hst:=hi.stored i (.int .i64 x)
 have hr:=ho.lists h.own.parts.sv k s { s with lens:=s.lens.set i x } p hs hp rfl rfl rfl rfl p.1 (.inl rfl) (zwl hg) (.inl ⟨rfl,rfl,by rw [hg,List.length_set,List.map_set];exact hst.1⟩)
 refine h.putSpans (L:=D.spans.set k _) (Chg.of_grown (zwl (u:=.int .i64 x) (i:=i) hg) fun y hy=>?_) hr
 exact List.mem_filterMap.2 ⟨p.1,List.mem_cons_of_mem _ (List.mem_flatMap.2 ⟨p,List.mem_of_getElem? hp,by simp⟩),hy⟩
theorem VarW.ptrs (h:VarW w base B S D) {g cap:Nat} (k i:Nat) (s:Y3) (p:Value × Value) (x:Int) (hs:D.spans[k]?=some s) (hp:S.sv[k]?=some p) (hg:p.2=.slice (some ⟨g,0,none⟩) s.ptrs.length cap) :
  VarW (w.setCell ⟨g,i,none⟩ (.int .i64 x)) base B S { D with spans:=D.spans.set k { s with ptrs:=s.ptrs.set i x } }∧Below base w (w.setCell ⟨g,i,none⟩ (.int .i64 x)):=by
 have ho:=h.own.ownS
 have hi:=(ho.inner k s p hs hp).2
 rw [hg] at hi
 have hst:=hi.stored i (.int .i64 x)
 have hr:=ho.lists h.own.parts.sv k s { s with ptrs:=s.ptrs.set i x } p hs hp rfl rfl rfl rfl p.2 (.inr rfl) (zwl hg) (.inr ⟨rfl,rfl,by rw [hg,List.length_set,List.map_set];exact hst.1⟩)
 refine h.putSpans (L:=D.spans.set k _) (Chg.of_grown (zwl (u:=.int .i64 x) (i:=i) hg) fun y hy=>?_) hr
 exact List.mem_filterMap.2 ⟨p.2,List.mem_cons_of_mem _ (List.mem_flatMap.2 ⟨p,List.mem_of_getElem? hp,by simp⟩),hy⟩
theorem N7 {v:Value} {L:List Int} (h:w.ownsRow base 3 1 v L.length (L.map (Value.int .i64))) (hl:0<L.length):∃ g cap,v=.slice (some ⟨g,0,none⟩) L.length cap:=by
 rcases h.2 with ⟨_,h0⟩ | ⟨g,cap,cur,e,_⟩
 ·omega
 ·exact ⟨g,cap,e⟩
theorem VarW.root (h:VarW w base B S D) {g cap:Nat} (m i:Nat) (r:List Int) (u:Value) (x:Int) (hs:D.muts[m]?=some r) (hp:S.mv[m]?=some u) (hg:u=.slice (some ⟨g,0,none⟩) r.length cap) :
  VarW (w.setCell ⟨g,i,none⟩ (.int .i64 x)) base B S { D with muts:=D.muts.set m (r.set i x) }∧Below base w (w.setCell ⟨g,i,none⟩ (.int .i64 x)):=by
 have ho:=h.own.ownM
 have hi:=ho.inner m r u hs hp
 rw [hg] at hi
 have hst:=hi.stored i (.int .i64 x)
 have hr:=ho.list h.own.parts.mv m r (r.set i x) u hs hp (zwl hg) (by rw [hg,List.length_set,List.map_set];exact hst.1)
 refine h.putMuts (L:=D.muts.set m _) (Chg.of_grown (zwl (u:=.int .i64 x) (i:=i) hg) fun y hy=>?_) hr
 exact List.mem_filterMap.2 ⟨u,List.mem_cons_of_mem _ (List.mem_of_getElem? hp),hy⟩
theorem VarW.nes (h:VarW w base B S D) {gs cs gl cl gp cp:Nat} {k:Nat} {s:Y3} {p:Value × Value} (hg:S.vs=.slice (some ⟨gs,0,none⟩) D.spans.length cs) (hs:D.spans[k]?=some s) (hp:S.sv[k]?=some p)
  (h1:p.1=.slice (some ⟨gl,0,none⟩) s.lens.length cl) (h2:p.2=.slice (some ⟨gp,0,none⟩) s.ptrs.length cp):gl≠gs∧gp≠gs∧gl≠gp∧B≠gs∧B≠gl∧B≠gp:=by
 have hi:=h.own.inner k s p hs hp
 have hr:=h.own.spans
 rw [hg] at hr
 rw [h1,h2] at hi
 have hm:=List.mem_of_getElem? hp
 have n1:gl≠gs:=fun e=>L7 hi.1 hr (by decide) gl rfl (by rw [e];rfl)
 have n2:gp≠gs:=fun e=>L7 hi.2 hr (by decide) gp rfl (by rw [e];rfl)
 have n3:gl≠gp:=by
  obtain ⟨A,C,hab,_⟩:=zqi S.sv k p hp
  have ha:=h.own.parts.sv
  rw [hab] at ha
  intro e
  exact ((zld ha (k:=gl)).1 (by rw [h1];rfl)).1 (by rw [h2,e];rfl)
 have inS:∀ x,x ∈ S.all→∀ q,x.ownBlock=some q→B≠q:=fun x hx q hq e=>h.ne (by rw [e];exact List.mem_filterMap.2 ⟨x,hx,hq⟩)
 have mS:∀ x,x=p.1∨x=p.2→x ∈ S.all:=fun x hx=>by
  have:x ∈ X7 S.sv:=List.mem_flatMap.2 ⟨p,hm,by rcases hx with rfl | rfl <;> simp⟩
  simp [Y2.all,this]
 exact ⟨n1,n2,n3,inS S.vs (by simp [Y2.all]) gs (by rw [hg];rfl),inS p.1 (mS _ (.inl rfl)) gl (by rw [h1];rfl),inS p.2 (mS _ (.inr rfl)) gp (by rw [h2];rfl)⟩
theorem VarW.spanAt (h:VarW w base B S D) {g cap:Nat} (hg:S.vs=.slice (some ⟨g,0,none⟩) D.spans.length cap) {k:Nat} {s:Y3} {p:Value × Value} (hs:D.spans[k]?=some s) (hp:S.sv[k]?=some p) (j:Nat) (hj:j<6) :
  w.cell? ⟨g,k*6+j,none⟩=(Q8 s p)[j]?:=by
 have ho:=h.own.ownS
 rw [hg] at ho
 exact ho.cellOf k s p hs hp j hj
theorem VarW.six (h:VarW w base B S D) {g cap:Nat} (hg:S.vs=.slice (some ⟨g,0,none⟩) D.spans.length cap) {k:Nat} {s:Y3} {p:Value × Value} (hs:D.spans[k]?=some s) (hp:S.sv[k]?=some p) :
  w.cell? ⟨g,k*6,none⟩=some (.int .i64 s.page)∧w.cell? ⟨g,k*6+1,none⟩=some (.int .i64 s.cls)∧w.cell? ⟨g,k*6+2,none⟩=some (.int .i64 s.mark)∧w.cell? ⟨g,k*6+3,none⟩=some (.bool s.swept)∧w.cell? ⟨g,k*6+4,none⟩=some p.1∧w.cell? ⟨g,k*6+5,none⟩=some p.2 :=
 ⟨h.spanAt hg hs hp 0 (by omega),h.spanAt hg hs hp 1 (by omega),h.spanAt hg hs hp 2 (by omega),h.spanAt hg hs hp 3 (by omega),h.spanAt hg hs hp 4 (by omega),h.spanAt hg hs hp 5 (by omega)⟩
theorem VarW.frzS (h:VarW w base B S D) {g cap:Nat} (hg:S.vs=.slice (some ⟨g,0,none⟩) D.spans.length cap) (j:Nat):w.frozen? ⟨g,j,none⟩=false:=by
 have ho:=h.own.ownS
 rw [hg] at ho
 exact ho.frz j
theorem Y7 {v:Value} {L:List Int} {g cap:Nat} (h:w.ownsRow base 3 1 v L.length (L.map (Value.int .i64))) (hv:v=.slice (some ⟨g,0,none⟩) L.length cap) (i:Nat) (hi:i<L.length) :
  w.cell? ⟨g,i,none⟩=some (.int .i64 (L[i]?.getD 0))∧w.frozen? ⟨g,i,none⟩=false:=by
 subst hv
 refine ⟨?_,h.frozenAt i⟩
 rw [h.cellAt i (by omega)]
 simp [hi]
end
def J6 (L:List Bool) (f:Int):Nat→List Bool
 | 0=>L
 | k+1=>(J6 L f k).set (f / 8+(k:Int)).toNat true
def zfr (L:List Bool) (f m:Int):List Bool:=J6 L f (cnt f m)
theorem zlq (L:List Bool) (f:Int) (k:Nat):(J6 L f k).length=L.length:=by
 induction k with
 | zero=>rfl
 | succ k ih=>unfold J6;rw [List.length_set,ih]
theorem zhx (L:List Bool) (f m:Int):(zfr L f m).length=L.length:=zlq _ _ _
theorem zwy (f:Int) (n k:Nat) (h:k<n):(upto f n)[k]?.getD 0=f / 8+(k:Int):=by simp [upto,h]
theorem zvh (base B:Nat) (S:Y2) (D:WD) (f m:Int) (hf0:0≤f) (hf:f≤1000000) (hm1:1≤m) (hm:m≤32) (hc:f+m≤8*(D.dirty.length:Int)) (w:World) (h:VarW w base B S D) :
  Calls Tryz.prog 153 #[.pointer (some ⟨B,0,none⟩),.int .i64 f,.int .i64 m] w fun e w'=>e=.returned (.tuple #[])∧VarW w' base B S { D with dirty:=zfr D.dirty f m }∧Below base w w':=by
 have hcnt:=zuf (f:=f) hm1 hm
 have h':=zaa h
 have hD:=h.headD (by omega)
 obtain ⟨gd,cd,hgd⟩:=hD
 have hgd':=zaa hgd
 have hle:=zaa (Nat.le_of_lt (Nat.lt_of_le_of_lt h.le h.lt))
 have hvd:=zaa h.own.dirty
 have hbx:=zaa h.box
 have hcall:=zaa (zim f m hf0 hf hm1 hm w)
 clear h hgd
 go_enter Tryz.func153,Tryz.ntmps153
 go_wp2_with fail
 refine hcall.out.mono ?_
 rintro e w1 ⟨v,rfl,hrow,b1⟩
 have hv1:=zaa (h'.out.below b1)
 have hB1:=zaa (b1.mono hle.out)
 have hrl:=zaa (Rd.of_owns (L:=upto f (cnt f m)) (by rw [P6];exact hrow))
 have hne:=zaa (show ∀ k,v.ownBlock=some k→k≠gd from fun k hk e=>by
  have h1:=(hrow.lt k hk).1
  have h2:=(h'.out.own.lt gd (List.mem_filterMap.2 ⟨S.vd,by simp [Y2.all],by rw [hgd'.out];rfl⟩)).2
  omega)
 have hrow':=zaa hrow
 clear hrow b1 hcall
 obtain ⟨al,cl,rfl,hll,hj1⟩:=hrl.out
 clear hj1
 rw [P6] at hll
 have hrow2:=zaa (show w1.ownsRow w.heap.size 3 1 (.slice al (cnt f m) cl) (cnt f m) ((upto f (cnt f m)).map (Value.int .i64)) by have:=hrow'.out;rw [P6] at this;exact this)
 clear hrow' hrl
 simp only [P6]
 unfold maxLen at hll
 go_wp2_with fail
 go_loopw [7] (fun i wr=>∃ k:Nat,k≤cnt f m∧i=.int .i64 k∧Hid (VarW wr base B S { D with dirty:=J6 D.dirty f k })∧Hid (wr.ownsRow w.heap.size 3 1 (.slice al (cnt f m) cl) (cnt f m) ((upto f (cnt f m)).map (Value.int .i64)))∧Hid (Below base w wr)) (fun i _=>cnt f m-(intOf i).toNat)
 case atStart=>exact ⟨0,Nat.zero_le _,rfl,hv1,hrow2,hB1⟩
 case round =>
  obtain ⟨k,hk,rfl,hv,hro,hB⟩:=hrel
  by_cases hlt:k<cnt f m
  ·have hlt1:(k:Int)<(cnt f m:Int):=by omega
   have hle2:=zue hlt
   obtain ⟨al',cl',he,hj3,xl⟩:=Rd.of_owns (L:=upto f (cnt f m)) (v:=.slice al (cnt f m) cl) (by rw [P6];exact hro.out)
   obtain ⟨bl,ol,hal,xk⟩:=xl k (by rw [P6];exact hlt)
   rw [zwy f _ k hlt] at xk
   obtain ⟨rfl,hj2,rfl⟩:al=al'∧cnt f m=(upto f (cnt f m)).length∧cl=cl':=by simpa using he
   subst hal
   have hidx:0≤f / 8+(k:Int):=by omega
   obtain ⟨c,hcc⟩:=Int.eq_ofNat_of_zero_le hidx
   have hcl:c<D.dirty.length:=by omega
   rw [hcc] at xk
   have hcl1:(c:Int)<(D.dirty.length:Int):=by omega
   have hdl:(J6 D.dirty f k).length=D.dirty.length:=zlq _ _ _
   have g3:=hv.out.cell 3 S.vd rfl
   rw [hgd'.out] at g3
   have hrD:=hv.out.own.dirty
   have hgd2:S.vd=.slice (some ⟨gd,0,none⟩) (J6 D.dirty f k).length cd:=by rw [hdl];exact hgd'.out
   rw [hgd2] at hrD
   have hcd:wr.cell? ⟨gd,c,none⟩=some (.bool ((J6 D.dirty f k)[c]?.getD false)):=by
    rw [hrD.cellAt c (by omega)]
    simp [show c<(J6 D.dirty f k).length by omega]
   have hfr:=hrD.frozenAt c
   have hset:=zaa (hv.out.dirty hgd2 c true)
   have hkeep:=zaa (World.ownsRow.kept hro.out (V5 wr gd c (.bool true)) (.inr fun e=>hne.out bl (by simp [Value.ownBlock]) (by simpa [Value.ownBlock] using e)))
   have hstep:=zaa (show J6 D.dirty f (k+1)=(J6 D.dirty f k).set c true by
    show (J6 D.dirty f k).set (f / 8+(k:Int)).toNat true=_
    rw [hcc];rfl)
   clear hj2 hj3 hro hv hrD he xl hgd2 hcc hidx hdl hle2
   generalize (J6 D.dirty f k)[c]?.getD false=old at hcd
   go_wp2_with fail
   go_region
   all_goals go_wp2_with fail
   all_goals go_roundw
   all_goals first
    | exact ⟨k+1,by omega,by go_num,by rw [hstep.out];exact hset.out.1.drew,World.ownsRow.drew hkeep.out,below_drewN (hB.out.trans hset.out.2) 1⟩
    | (simp [intOf];omega)
  ·obtain rfl:k=cnt f m:=by omega
   go_wp2_with fail
   go_end0
   exact ⟨rfl,hv.out,hB.out⟩
theorem zpg {i:Nat} (h1:i≤16):wrap64 ((2:Int) ^ i)=2 ^ i:=by
 have hp:=zod h1
 have e:((2:Int) ^ i)=((2 ^ i:Nat):Int):=(Int.natCast_pow 2 i).symm
 rw [e]
 generalize 2 ^ i=p at hp ⊢
 exact IntWalk.wrap64_in _ (by omega)
def zjp (L:List Int) (A:Nat):Nat→List Int
 | 0=>L
 | n+1=>(zjp L A n).set (A+n) 0
theorem zgw (L:List Int) (A n:Nat):(zjp L A n).length=L.length:=by
 induction n with
 | zero=>rfl
 | succ n ih=>unfold zjp;rw [List.length_set,ih]
def zfq (s:Y3) (j:Nat):Y3:={ s with lens:=s.lens.set j 0,ptrs:=s.ptrs.set j 0,mark:=bits .andNot .i64 s.mark (2 ^ j) }
def zkc (D:WD) (k:Nat) (s:Y3) (j:Nat):WD :=
 { D with words:=zjp D.words (atW s (j:Int)).toNat (sz s.cls).toNat,dirty:=zfr D.dirty (atW s (j:Int)) (sz s.cls),spans:=D.spans.set k (zfq s j) }
structure zev (D:WD) (s:Y3) (j:Nat):Prop where
 cls:sl' s.cls≠0
 lens:(s.lens.length:Int)=sl' s.cls
 ptrs:(s.ptrs.length:Int)=sl' s.cls
 j:j<s.lens.length
 pg0:0≤s.page
 pg1:s.page<D.pages
 words:(D.words.length:Int)=D.pages*32
 dirty:(D.dirty.length:Int)=D.pages*4
 pg:D.pages≤12
theorem zev.bd {D:WD} {s:Y3} {j:Nat} (h:zev D s j):0≤atW s (j:Int)∧atW s (j:Int)+sz s.cls≤D.pages*32∧2≤sz s.cls∧sz s.cls≤16∧(j:Int)≤15∧atW s (j:Int)≤1000:=by
 have h1:=h.lens
 have h2:=h.j
 have h3:=zhq (c:=s.cls) (i:=(j:Int)) (t:=sz s.cls-1) (by omega) (by omega) (by have:=zkm h.cls;omega) (by omega)
 have h4:=zkm h.cls
 have h5:=zjw s.cls
 have h6:=E7 s.cls
 have h7:=h.pg0
 have h8:=h.pg1
 have h9:=h.pg
 unfold atW
 omega
theorem zxo (base B:Nat) (S:Y2) (D:WD) (k j:Nat) (s:Y3) (hk:D.spans[k]?=some s) (hin:zev D s j) (w:World) (h:VarW w base B S D) :
  Calls Tryz.prog 172 #[.pointer (some ⟨B,0,none⟩),.int .i64 k,.int .i64 j] w fun e w'=>e=.returned (.tuple #[])∧VarW w' base B S (zkc D k s j)∧Below base w w':=by
 have hbd:=hin.bd
 have hkl:=(List.getElem?_eq_some_iff.1 hk).1
 obtain ⟨p,hp⟩:=h.svAt hk
 obtain ⟨gs,cs,hgs⟩:=h.headS (by omega)
 obtain ⟨gw,cw,hgw⟩:=h.headW (by have:=hin.words;have:=hin.pg0;have:=hin.pg1;omega)
 obtain ⟨gl,cl,hgl⟩:=N7 (h.own.inner k s p hk hp).1 (by have:=hin.j;omega)
 obtain ⟨gp,cp,hgp⟩:=N7 (h.own.inner k s p hk hp).2 (by have:=hin.j;have:=hin.lens;have:=hin.ptrs;omega)
 have hj:=hin.j
 have hjp:j<s.ptrs.length:=by have:=hin.lens;have:=hin.ptrs;omega
 have hwl:=hin.words
 have hdl:=hin.dirty
 have hpg:=hin.pg
 have hpg0:=hin.pg0
 have hpg1:=hin.pg1
 obtain ⟨A,hA⟩:=Int.eq_ofNat_of_zero_le hbd.1
 obtain ⟨z,hz⟩:=Int.eq_ofNat_of_zero_le (show 0≤sz s.cls by omega)
 have hb2:A+z≤D.words.length:=by omega
 have hzb:2≤z∧z≤16:=by omega
 obtain ⟨hz1,hz2⟩:=hzb
 have hA2:A≤1000:=by omega
 have hdd:(A:Int)+(z:Int)≤8*(D.dirty.length:Int):=by omega
 have hj15:(j:Int)≤15:=hbd.2.2.2.2.1
 have hjl1:(j:Int)<(s.lens.length:Int):=by omega
 have hjp1:(j:Int)<(s.ptrs.length:Int):=by omega
 have hkl1:(k:Int)<(D.spans.length:Int):=by omega
 have hat:=zaa (fun (w:World)=>(hA ▸ zit s p.1 p.2 (j:Int) hpg0 (by omega) (by omega) (by omega) w :
  Calls Tryz.prog 117 #[zgz s p.1 p.2,.int .i64 j] w fun e w'=>e=.returned (.int .i64 (A:Int))∧Below w.heap.size w w'))
 have hcs:=zaa (fun (w:World)=>zfl (v:=(z:Int)) hz w)
 have hA':=zaa hA
 have hz':=zaa hz
 have hsl:=zaa (show D.spans.length≤1000000000∨True from .inr trivial)
 have hmx:=(h.rd.parts.2.2.1)
 obtain ⟨_,_,_,hsm,_⟩:=hmx
 unfold maxLen at hsm
 have hk':=zaa hk
 have hp':=zaa hp
 have hgs':=zaa hgs
 have hgw':=zaa hgw
 have hgl':=zaa hgl
 have hgp':=zaa hgp
 have h':=zaa h
 have hle:=zaa (Nat.le_of_lt (Nat.lt_of_le_of_lt h.le h.lt))
 have g4:=h.cell 4 S.vs rfl
 rw [hgs] at g4
 obtain ⟨x0,x1,x2,x3,x4,x5⟩:=h.six hgs hk hp
 clear hk hp hgs hgw hgl hgp h hA hz hbd hin hwl hdl hpg1
 go_enter Tryz.func172,Tryz.ntmps172
 go_wp2_with fail
 refine (hat.out _).mono ?_
 rintro e w1 ⟨rfl,b1⟩
 have v1:=zaa (h'.out.below b1)
 have B1:=zaa (b1.mono hle.out)
 clear b1 g4 x0 x1 x2 x3 x4 x5
 go_wp2_with fail
 go_loopw [8] (fun i wr=>∃ t:Nat,t≤z∧i=.int .i64 t∧Hid (VarW wr base B S { D with words:=zjp D.words A t })∧Hid (Below base w wr)) (fun i _=>z-(intOf i).toNat)
 case atStart=>exact ⟨0,Nat.zero_le _,rfl,v1,B1⟩
 case round =>
  obtain ⟨t,ht,rfl,hv,hB⟩:=hrel
  have x1:=(hv.out.six hgs'.out hk'.out hp'.out).2.1
  by_cases htl:t<z
  ·have htl1:(t:Int)<(z:Int):=by omega
   have hAt1:(A:Int)+(t:Int)<(D.words.length:Int):=by omega
   have hgw2:S.vw=.slice (some ⟨gw,0,none⟩) (zjp D.words A t).length cw:=by rw [zgw];exact hgw'.out
   have hset:=zaa (hv.out.word hgw2 (A+t) 0)
   have hc:=Y7 hv.out.own.words hgw2 (A+t) (by simp only [zgw];omega)
   obtain ⟨c1,c2⟩:=hc
   have g2:=hv.out.cell 2 S.vw rfl
   rw [hgw'.out] at g2
   clear hv hgw2
   generalize (zjp D.words A t)[A+t]?.getD 0=old at c1
   go_wp2_with (go_at_call 121;refine (hcs.out _).mono ?_;rintro e w' ⟨rfl,rfl⟩)
   go_roundw
   case rel=>exact ⟨t+1,by omega,by go_num,hset.out.1,hB.out.trans hset.out.2⟩
   case measure=>simp [intOf];omega
  ·obtain rfl:t=z:=by omega
   have hd:=zaa (zvh base B S { D with words:=zjp D.words A t } (A:Int) (t:Int) (by omega) (by omega) (by omega) (by omega) hdd wr hv.out)
   go_wp2_with (go_at_call 121;refine (hcs.out _).mono ?_;rintro e w' ⟨rfl,rfl⟩)
   refine hd.out.mono ?_
   rintro e w2 ⟨rfl,v2,B2⟩
   have hv2:=zaa v2
   have hB2:=zaa (hB.out.trans B2)
   obtain ⟨_,_,x2,_,x4,x5⟩:=v2.six hgs'.out hk'.out hp'.out
   rw [hgl'.out] at x4
   rw [hgp'.out] at x5
   obtain ⟨n1,n2,n3,n4,n5,n6⟩:=v2.nes hgs'.out hk'.out hp'.out hgl'.out hgp'.out
   obtain ⟨c1,c2⟩:=Y7 (v2.own.inner k s p hk'.out hp'.out).1 hgl'.out j hj
   obtain ⟨d1,d2⟩:=Y7 (v2.own.inner k s p hk'.out hp'.out).2 hgp'.out j hjp
   have f2:=v2.frzS hgs'.out (k*6+2)
   have s1:=v2.lens k j s p 0 hk'.out hp'.out hgl'.out
   have hk2:=zaa (zhb (t:=({ s with lens:=s.lens.set j 0 }:Y3)) hk'.out)
   have s2:=s1.1.ptrs k j _ p 0 hk2.out hp'.out hgp'.out
   have hk3:=zaa (zhb (t:=({ s with lens:=s.lens.set j 0,ptrs:=s.ptrs.set j 0 }:Y3)) hk2.out)
   have s3:=s2.1.mark (g:=gs) (cap:=cs) (by simp only [List.length_set];exact hgs'.out) k _ p (bits .andNot .i64 s.mark (2 ^ j)) hk3.out hp'.out
   have s3':=zaa (show VarW _ base B S (zkc D k s j) from by simpa only [zkc,zfq,hA'.out,hz'.out,List.set_set,Int.toNat_natCast] using s3.1)
   have B3:=zaa (((hB2.out.trans s1.2).trans s2.2).trans s3.2)
   generalize s.lens[j]?.getD 0=o3 at c1
   generalize s.ptrs[j]?.getD 0=o4 at d1
   clear v2 B2 hd x1 s1 s2 s3
   go_wp2_with fail
   go_region
   all_goals go_wp2
   all_goals go_end0
   rw [zpg (show j≤16 by omega)]
   exact ⟨rfl,s3'.out.drew,below_drewN B3.out 1⟩
def zhk (s:Y3):Prop:=∀ i,i<s.lens.length→¬ 0<s.lens[i]?.getD 0
theorem zvg (s:Y3) (vl vp:Value) (w:World) (hl:Rd w vl s.lens) :
  Calls Tryz.prog 173 #[zgz s vl vp] w fun e w'=>IsB (zhk s) e∧Below w.heap.size w w':=by
 unfold zgz
 obtain ⟨al,cl,rfl,hll,xl⟩:=hl
 unfold maxLen at hll
 have bb:=Z5 w (.cells #[.int .i64 s.page,.int .i64 s.cls,.int .i64 s.mark,.bool s.swept,.slice al s.lens.length cl,vp] 97)
 have bn:=Y6 w (.cells #[.int .i64 s.page,.int .i64 s.cls,.int .i64 s.mark,.bool s.swept,.slice al s.lens.length cl,vp] 97)
 have xl':=zaa (fun j (hj:j<s.lens.length)=>(xl j hj).elim fun b h=>h.elim fun o h=>(⟨b,o,h.1,Z7 bb h.2⟩:∃ b o,al=some ⟨b,o,none⟩∧(w.alloc _).cell? ⟨b,o+j,none⟩=some (.int .i64 (s.lens[j]?.getD 0))))
 have f4:=Z0 bn 4 _ rfl
 have bb':=zaa bb
 clear xl bb bn
 go_enter Tryz.func173,Tryz.ntmps173
 go_wp2_with fail
 generalize w.alloc (.cells #[.int .i64 s.page,.int .i64 s.cls,.int .i64 s.mark,.bool s.swept,.slice al s.lens.length cl,vp] 97)=W at *
 go_loop [3] (fun i=>∃ k:Nat,k≤s.lens.length∧i=.int .i64 k∧Hid (∀ i,i<k→¬ 0<s.lens[i]?.getD 0)) (fun i=>s.lens.length-(intOf i).toNat)
 case atStart=>exact ⟨0,Nat.zero_le _,rfl,fun i hi=>absurd hi (by omega)⟩
 case round =>
  obtain ⟨k,hk,rfl,hz⟩:=hrel
  by_cases hlt:k<s.lens.length
  ·have hlt1:(k:Int)<(s.lens.length:Int):=by omega
   obtain ⟨bl,ol,rfl,xk⟩:=xl'.out k hlt
   have hno:=zaa (fun (h:zhk s)=>h k hlt)
   have hyes:=zaa (fun (h:¬ 0<s.lens[k]?.getD 0)=>(fun i (hi:i<k+1)=>if e:i=k then by subst e;exact h else hz.out i (by omega):∀ i,i<k+1→¬ 0<s.lens[i]?.getD 0))
   clear hz
   generalize s.lens[k]?.getD 0=l at *
   by_cases hl:0<l
   ·have n:=zaa (show ¬ zhk s from fun h=>hno.out h hl)
    go_wp2_with fail
    go_ret
    exact ⟨IsB.no n.out,bb'.out⟩
   ·have hy:=zaa (hyes.out hl)
    go_wp2_with fail
    go_round
    case rel=>exact ⟨k+1,by omega,by go_num,hy⟩
    case measure=>simp [intOf];omega
  ·obtain rfl:k=s.lens.length:=by omega
   have y:=zaa (show zhk s from hz.out)
   clear hz
   go_wp2_with fail
   go_ret
   exact ⟨IsB.yes y.out,bb'.out⟩
section
variable {w w1:World} {base B:Nat} {S:Y2} {D:WD}
theorem VarW.newSpans (h:VarW w base B S D) {v:Value} {L:List Y3} {sv:List (Value × Value)} (r:OwnS w base v L sv) (hn:(({ S with vs:=v,sv:=sv }:Y2).ints.filterMap Value.ownBlock).Nodup)
  (hB:∀ x,x ∈ v :: X7 sv→x.ownBlock≠some B) :
  VarW (w.setCell ⟨B,4,none⟩ v) base B { S with vs:=v,sv:=sv } { D with spans:=L }∧Below base w (w.setCell ⟨B,4,none⟩ v):=by
 have c:=Chg.of_grown (V5 w B 4 v) (bs:=[B]) (by simp)
 have hne:∀ k,k ∈ blks S.all→k ∉ [B]:=fun k hk hm=>h.ne (by rw [List.mem_singleton.1 hm] at hk;exact hk)
 have hm:∀ x,x ∈ S.all→∀ q,x.ownBlock=some q→q ∉ [B]:=fun x hx q hq=>hne q (List.mem_filterMap.2 ⟨x,hx,hq⟩)
 refine ⟨⟨?_,?_,h.le,?_⟩,(Below.refl _ _).setCell (p:=⟨B,4,none⟩) h.le _⟩
 ·have:=heap_setCell_same w B 4 _ _ v h.box
  simpa [Y2.cells] using this
 ·refine .mk' (X9 h.own.words c (hm _ (by simp [Y2.all]))) (X9 h.own.dirty c (hm _ (by simp [Y2.all]))) (r.chg c (fun q hq hm=>hB v (by simp) (by rw [hq,List.mem_singleton.1 hm])) (fun x hx q hq hm=>hB x (by simp [hx]) (by rw [hq,List.mem_singleton.1 hm])))
   (h.own.ownM.chg c (hm _ (by simp [Y2.all])) (fun x hx=>hm x (by simp [Y2.all,hx]))) (X9 h.own.grey c (hm _ (by simp [Y2.all]))) hn
 ·intro hB2
  obtain ⟨x,hx,hxB⟩:=List.mem_filterMap.1 hB2
  simp only [Y2.all,List.mem_append,List.mem_cons,List.not_mem_nil,or_false] at hx
  have old:∀ y,y ∈ S.all→y.ownBlock≠some B:=fun y hy e=>h.ne (List.mem_filterMap.2 ⟨y,hy,e⟩)
  rcases hx with (((rfl | rfl) | (rfl | hx)) | (rfl | hx)) | rfl
  ·exact old _ (by simp [Y2.all]) hxB
  ·exact old _ (by simp [Y2.all]) hxB
  ·exact hB _ (by simp) hxB
  ·exact hB x (by simp [hx]) hxB
  ·exact old _ (by simp [Y2.all]) hxB
  ·exact old x (by simp [Y2.all,hx]) hxB
  ·exact old _ (by simp [Y2.all]) hxB
end
theorem zpb (L:List Y3) (sv:List (Value × Value)) (k:Nat) (h:sv.length=L.length):(U9 L sv).take (k*6)=U9 (L.take k) (sv.take k):=by
 induction k generalizing L sv with
 | zero=>simp [U9]
 | succ k ih =>
  cases L with
  | nil=>simp [U9]
  | cons s L =>
   cases sv with
   | nil=>simp at h
   | cons p sv =>
    have:=ih L sv (by simpa using h)
    simp only [U9,List.take_succ_cons,List.zip_cons_cons,List.flatMap_cons] at this ⊢
    rw [← this,show (k+1)*6=(Q8 s p).length+k*6 by simp [Q8];omega,List.take_length_add_append]
theorem zpc (L:List Y3) (sv:List (Value × Value)) (k:Nat) (h:sv.length=L.length):(U9 L sv).drop (k*6)=U9 (L.drop k) (sv.drop k):=by
 induction k generalizing L sv with
 | zero=>simp
 | succ k ih =>
  cases L with
  | nil =>
   cases sv with
   | nil=>simp [U9]
   | cons p sv=>simp at h
  | cons s L =>
   cases sv with
   | nil=>simp at h
   | cons p sv =>
    have:=ih L sv (by simpa using h)
    simp only [U9,List.drop_succ_cons,List.zip_cons_cons,List.flatMap_cons] at this ⊢
    rw [← this,show (k+1)*6=(Q8 s p).length+k*6 by simp [Q8];omega,List.drop_append]
    simp
theorem zns (L M:List Y3) (sv mv:List (Value × Value)) (h:sv.length=L.length):U9 (L ++ M) (sv ++ mv)=U9 L sv ++ U9 M mv:=by
 unfold U9
 rw [List.zip_append (by omega),List.flatMap_append]
theorem oneV (L:List Y3) (sv:List (Value × Value)) (h:∀ p,p ∈ sv→p.1.oneCell'=true∧p.2.oneCell'=true):∀ u,u ∈ U9 L sv→u.oneCell'=true:=by
 intro u hu
 obtain ⟨x,hx,hu⟩:=List.mem_flatMap.1 hu
 have hp:=h x.2 (List.of_mem_zip hx).2
 simp only [Q8,List.mem_cons,List.not_mem_nil,or_false] at hu
 rcases hu with rfl | rfl | rfl | rfl | rfl | rfl
 ·rfl
 ·rfl
 ·rfl
 ·rfl
 ·exact hp.1
 ·exact hp.2
theorem ztu {w:World} {base:Nat} {v:Value} {L:List Y3} {sv:List (Value × Value)} (h:OwnS w base v L sv):∀ u,u ∈ U9 L sv→u.oneCell'=true:=by
 refine oneV L sv fun p hp=>?_
 obtain ⟨i,hi⟩:=List.mem_iff_getElem?.1 hp
 have hlt:=(List.getElem?_eq_some_iff.1 hi).1
 obtain ⟨s,hs⟩:∃ s,L[i]?=some s:=⟨_,List.getElem?_eq_getElem (by have:=h.len;omega)⟩
 have hin:=h.inner i s p hs hi
 have one:∀ {n:Nat} {x:Value} {xs:List Value},w.ownsRow base 3 1 x n xs→x.oneCell'=true:=fun hx=>by
  rcases hx.2 with ⟨rfl,_⟩ | ⟨g,cap,cur,rfl,_⟩ <;> rfl
 exact ⟨one hin.1,one hin.2⟩
theorem zub {α:Type} (L:List α) (k:Nat):L.eraseIdx k=L.take k ++ L.drop (k+1):=List.eraseIdx_eq_take_drop_succ L k
theorem zga (a b:List (Value × Value)):X7 (a ++ b)=X7 a ++ X7 b:=by simp [X7]
theorem zjd (sv:List (Value × Value)) (k:Nat):(X7 (sv.eraseIdx k)).Sublist (X7 sv):=by
 induction sv generalizing k with
 | nil=>simp
 | cons a sv ih =>
  cases k with
  | zero=>exact List.sublist_append_right [a.1,a.2] (X7 sv)
  | succ k=>exact (List.Sublist.refl [a.1,a.2]).append (ih k)
theorem OwnS.erase {w:World} {base:Nat} {v:Value} {L:List Y3} {sv:List (Value × Value)} (hin:∀ (i:Nat) (s:Y3) (p:Value × Value),L[i]?=some s→sv[i]?=some p→w.ownsRow base 3 1 p.1 s.lens.length (s.lens.map (Value.int .i64))∧w.ownsRow base 3 1 p.2 s.ptrs.length (s.ptrs.map (Value.int .i64)))
  (hl:sv.length=L.length) (k:Nat) (hk:k<L.length) {base':Nat} (hb:base≤base') (hr:w.ownsRow base' 97 6 v (k+(L.length-(k+1))) ((U9 L sv).take (k*6) ++ (U9 L sv).drop ((k+1)*6))):OwnS w base v (L.eraseIdx k) (sv.eraseIdx k):=by
 have e:(U9 L sv).take (k*6) ++ (U9 L sv).drop ((k+1)*6)=U9 (L.eraseIdx k) (sv.eraseIdx k):=by
  rw [zpb L sv k hl,zpc L sv (k+1) hl,zub,zub,zns]
  simp [hl]
 have len:(L.eraseIdx k).length=k+(L.length-(k+1)):=by rw [List.length_eraseIdx];simp [hk];omega
 refine ⟨?_,by rw [List.length_eraseIdx,List.length_eraseIdx,hl],fun i s p hs hp=>?_⟩
 ·rw [len,← e]
  exact V8 hr hb
 ·rw [List.getElem?_eraseIdx] at hs hp
  split at hs
  ·rename_i hik
   rw [if_pos hik] at hp
   exact hin i s p hs hp
  ·rename_i hik
   rw [if_neg hik] at hp
   exact hin (i+1) s p hs hp
theorem zxr (base B:Nat) (S:Y2) (D:WD) (k:Nat) (s:Y3) (hk:D.spans[k]?=some s) (hls:D.spans.length≤1000) (w:World) (h:VarW w base B S D) :
  Calls Tryz.prog 174 #[.pointer (some ⟨B,0,none⟩),.int .i64 k] w fun e w'=>e=.returned (.tuple #[])∧(∃ S',VarW w' base B S' { D with spans:=D.spans.eraseIdx k })∧Below base w w':=by
 have hkl:=(List.getElem?_eq_some_iff.1 hk).1
 have hkl1:(k:Int)<(D.spans.length:Int):=by omega
 obtain ⟨gs,cs,hgs⟩:=h.headS (by omega)
 have hcs:D.spans.length≤cs:=by
  rcases h.own.spans.2 with ⟨hv,_⟩ | ⟨g,cap,cur,hv,_,_,hc,_⟩
  ·rw [hgs] at hv;simp at hv
  ·rw [hgs] at hv;simp at hv;omega
 have hsmall:cs≤9223372036854775807:=by
  rcases h.own.spans.2 with ⟨hv,_⟩ | ⟨g,cap,cur,hv,_,_,_,hc,_⟩
  ·rw [hgs] at hv;simp at hv
  ·rw [hgs] at hv;simp at hv;unfold maxLen at hc;omega
 have g4:=h.cell 4 S.vs rfl
 rw [hgs] at g4
 have f4:=h.frz 4
 have hBlt:=h.lt
 have hgl:gs<w.heap.size:=(h.own.lt gs (List.mem_filterMap.2 ⟨S.vs,by simp [Y2.all],by rw [hgs];rfl⟩)).2
 have g4b:=Z7 (Z5 w (.cells #[] 97)) g4
 have hwr:IntKind.i64.wrap ((k:Int)+1)=(k:Int)+1:=IntWalk.i64_in _ (by omega)
 have hk0:(0:Int)≤(k:Int)+1:=by omega
 have hk1:((k:Int)+1).toNat=k+1:=by omega
 have hk2:(k:Int)+1≤(D.spans.length:Int):=by omega
 have hkc:k≤cs:=by omega
 have hkk:(k:Int)≤(k:Int)+1:=by omega
 have hkn:k+1≤D.spans.length:=by omega
 obtain ⟨i0,hi,hz0,hz1,hz2⟩:=info_parts zfj
 have hown0:=zaa (show (w.alloc (.cells #[] 97)).drew.ownsRow w.heap.size 97 6 (.slice (some ⟨w.heap.size,0,none⟩) 0 0) 0 [] from
  ⟨by simp,.inr ⟨w.heap.size,0,#[],rfl,Nat.le_refl _,Y6 w _,Nat.le_refl _,by unfold maxLen;omega,by simp,by simp⟩⟩)
 have hrow:=h.own.spans
 rw [hgs] at hrow
 have hfl:=znr D.spans S.sv h.own.svl
 have hcell:=zaa (show ∀ (w':World),Below w.heap.size w w'→∀ j u,(U9 D.spans S.sv)[j]?=some u→w'.cell? ⟨gs,j,none⟩=some u from fun w' hb j u hu=>by
  have hj:=(List.getElem?_eq_some_iff.1 hu).1
  refine Z7 hb ?_
  rw [hrow.cellAt j (by omega)]
  exact hu)
 have hb0:=zaa (show Below w.heap.size w (w.alloc (.cells #[] 97)).drew from below_drewN (Z5 w _) 1)
 have hsrc:=zaa (show ∀ j u,((U9 D.spans S.sv).take (k*6))[j]?=some u→(w.alloc (.cells #[] 97)).drew.cell? ((⟨gs,0,none⟩:Addr).add j)=some u from fun j u hu=>by
  rw [show (⟨gs,0,none⟩:Addr).add j=⟨gs,j,none⟩ by rw [Addr.add_lit,Nat.zero_add]]
  refine hcell.out _ hb0.out j u ?_
  have hj:=(List.getElem?_eq_some_iff.1 hu).1
  rw [List.length_take] at hj
  rwa [List.getElem?_take_of_lt (by omega)] at hu)
 have hlen:=zaa (show ((U9 D.spans S.sv).take (k*6)).length=k*6 by rw [List.length_take,hfl];omega)
 have hone0:=ztu h.own.ownS
 have hone:=zaa (show ∀ u,u ∈ (U9 D.spans S.sv).take (k*6)→u.oneCell'=true from fun u hu=>hone0 u (List.mem_of_mem_take hu))
 have hone2:=zaa (show ∀ u,u ∈ (U9 D.spans S.sv).drop ((k+1)*6)→u.oneCell'=true from fun u hu=>hone0 u (List.mem_of_mem_drop hu))
 have hlen2:=zaa (show ((U9 D.spans S.sv).drop ((k+1)*6)).length=(D.spans.length-(k+1))*6 by rw [List.length_drop,hfl];omega)
 have hfin:=zaa (show ∀ (v2:Value) (w2:World),Below w.heap.size w w2→w2.ownsRow w.heap.size 97 6 v2 (k+(D.spans.length-(k+1))) ((U9 D.spans S.sv).take (k*6) ++ (U9 D.spans S.sv).drop ((k+1)*6)) →
   (∃ S',VarW (w2.setCell ⟨B,4,none⟩ v2) base B S' { D with spans:=D.spans.eraseIdx k })∧Below base w (w2.setCell ⟨B,4,none⟩ v2) from fun v2 w2 hb hr=>by
  have hv:=h.below hb
  have hle:=h.le
  have hS:OwnS w2 base v2 (D.spans.eraseIdx k) (S.sv.eraseIdx k):=OwnS.erase hv.own.inner h.own.svl k hkl (by omega) hr
  have hnew:=hv.newSpans hS ?_ ?_
  ·exact ⟨⟨_,hnew.1⟩,(hb.mono (by omega)).trans hnew.2⟩
  ·have hsub:(({ S with vs:=v2,sv:=S.sv.eraseIdx k }:Y2).ints).Sublist S.ints:=by
    show ((S.vw :: (X7 (S.sv.eraseIdx k))) ++ S.mv ++ [S.vg]).Sublist ((S.vw :: X7 S.sv) ++ S.mv ++ [S.vg])
    exact (((zjd S.sv k).cons_cons _).append (List.Sublist.refl _)).append (List.Sublist.refl _)
   exact h.own.nodup.sublist (hsub.filterMap _)
  ·intro x hx
   rcases List.mem_cons.1 hx with rfl | hx
   ·intro e
    have:=(hr.lt B e).1
    omega
   ·intro e
    exact h.ne (List.mem_filterMap.2 ⟨x,by have:=(zjd S.sv k).subset hx;simp [Y2.all,this],e⟩))
 clear hk hgs h hrow hfl hone0
 by_cases hne:cs=k+1
 ·subst hne
  have hz0':=zaa (show D.spans.length-(k+1)=0 by omega)
  have hz1':=zaa (show (U9 D.spans S.sv).drop ((k+1)*6)=[] from List.length_eq_zero_iff.1 (by rw [hlen2.out,hz0'.out]))
  go_enter Tryz.func174,Tryz.ntmps174
  go_wp2_with fail
  go_region_law (first
   | (refine zen rfl (wp_append_own _ (.tmp 5) (.tmp 11) 25 rfl w.heap.size 97 i0 _ 6 80 Tryz.underlying25 hi hz0 hz1 hz2 rfl (by decide) _ 0 [] rfl hown0.out ⟨gs,0,none⟩ k _ ((U9 D.spans S.sv).take (k*6)) rfl hlen.out hsrc.out hone.out (by unfold maxLen;omega) (by omega) (by simp) ?_);intro v1 w1 hown1 hgrow1 hnil1;have hb1:=zaa (show Below w.heap.size w w1 from hb0.out.grown hgrow1 hb0.out.size (fun q hq=>by cases hq;exact Nat.le_refl _));have hown1':=zaa (show w1.ownsRow w.heap.size 97 6 v1 k ((U9 D.spans S.sv).take (k*6)) by simpa using hown1);have g4c:=Z7 hb1.out g4;clear hnil1 hgrow1 hown1)
   | (refine zen rfl (wp_append_own _ (.tmp 12) (.tmp 19) 25 rfl w.heap.size 97 i0 _ 6 80 Tryz.underlying25 hi hz0 hz1 hz2 rfl (by decide) v1 k _ rfl hown1'.out ⟨gs,0,none⟩ 0 _ ([]:List Value) rfl rfl (fun j u h=>by simp at h) (fun u h=>by simp at h) (by unfold maxLen;omega) (by omega) hb1.out.size ?_);intro v2 w2 hown2 hgrow2 hnil2;obtain ⟨a2,c2,rfl⟩:=Y4 hown2;have hb2:=zaa (show Below w.heap.size w w2 from hb1.out.grown hgrow2 hb1.out.size (fun q hq=>(hown1'.out.lt q hq).1));have hown2':=zaa (show w2.ownsRow w.heap.size 97 6 _ (k+(D.spans.length-(k+1))) ((U9 D.spans S.sv).take (k*6) ++ (U9 D.spans S.sv).drop ((k+1)*6)) by rw [hz0'.out,hz1'.out];exact hown2);have g4d:=Z7 hb2.out g4;have f4d:w2.frozen? ⟨B,4,none⟩=false:=(World.frozen?_of_block (hb2.out.block B hBlt)).trans f4;clear hnil2 hgrow2 hown2))
  all_goals go_wp2
  all_goals go_end0
  all_goals exact ⟨rfl,hfin.out _ _ hb2.out (by have:=hown2'.out;exact this)⟩
 ·have hsrc2:=zaa (show ∀ (w':World),Below w.heap.size w w'→∀ j u,((U9 D.spans S.sv).drop ((k+1)*6))[j]?=some u→w'.cell? ((⟨gs,(k+1)*6,none⟩:Addr).add j)=some u from fun w' hb j u hu=>by
   rw [show (⟨gs,(k+1)*6,none⟩:Addr).add j=⟨gs,(k+1)*6+j,none⟩ from Addr.add_lit ..]
   refine hcell.out _ hb _ u ?_
   rwa [List.getElem?_drop] at hu)
  go_enter Tryz.func174,Tryz.ntmps174
  go_wp2_with fail
  go_region_law (first
   | (refine zen rfl (wp_append_own _ (.tmp 5) (.tmp 11) 25 rfl w.heap.size 97 i0 _ 6 80 Tryz.underlying25 hi hz0 hz1 hz2 rfl (by decide) _ 0 [] rfl hown0.out ⟨gs,0,none⟩ k _ ((U9 D.spans S.sv).take (k*6)) rfl hlen.out hsrc.out hone.out (by unfold maxLen;omega) (by omega) (by simp) ?_);intro v1 w1 hown1 hgrow1 hnil1;have hb1:=zaa (show Below w.heap.size w w1 from hb0.out.grown hgrow1 hb0.out.size (fun q hq=>by cases hq;exact Nat.le_refl _));have hown1':=zaa (show w1.ownsRow w.heap.size 97 6 v1 k ((U9 D.spans S.sv).take (k*6)) by simpa using hown1);have g4c:=Z7 hb1.out g4;clear hnil1 hgrow1 hown1)
   | (refine zen rfl (wp_append_own _ (.tmp 12) (.tmp 19) 25 rfl w.heap.size 97 i0 _ 6 80 Tryz.underlying25 hi hz0 hz1 hz2 rfl (by decide) v1 k _ rfl hown1'.out ⟨gs,(k+1)*6,none⟩ (D.spans.length-(k+1)) _ ((U9 D.spans S.sv).drop ((k+1)*6)) rfl hlen2.out (hsrc2.out _ hb1.out) hone2.out (by unfold maxLen;omega) (by omega) hb1.out.size ?_);intro v2 w2 hown2 hgrow2 hnil2;obtain ⟨a2,c2,rfl⟩:=Y4 hown2;have hb2:=zaa (show Below w.heap.size w w2 from hb1.out.grown hgrow2 hb1.out.size (fun q hq=>(hown1'.out.lt q hq).1));have hown2':=zaa hown2;have g4d:=Z7 hb2.out g4;have f4d:w2.frozen? ⟨B,4,none⟩=false:=(World.frozen?_of_block (hb2.out.block B hBlt)).trans f4;clear hnil2 hgrow2 hown2))
  all_goals go_wp2
  all_goals go_end0
  all_goals exact ⟨rfl,hfin.out _ _ hb2.out hown2'.out⟩
def newD (b:Int) (p m:Nat):WD:=⟨b,p,List.replicate (p*32) 0,List.replicate (p*4) false,[],List.replicate m (List.replicate 6 0),0,0,[]⟩
theorem V9 (w:World) (a b c d:Obj):((((w.alloc a).alloc b).alloc c).alloc d).drew.heap[w.heap.size]?=some a∧((((w.alloc a).alloc b).alloc c).alloc d).drew.heap[w.heap.size+1]?=some b∧((((w.alloc a).alloc b).alloc c).alloc d).drew.heap[w.heap.size+1+1]?=some c ∧
  ((((w.alloc a).alloc b).alloc c).alloc d).drew.heap[w.heap.size+1+1+1]?=some d∧Below w.heap.size w ((((w.alloc a).alloc b).alloc c).alloc d).drew∧((((w.alloc a).alloc b).alloc c).alloc d).drew.heap.size=w.heap.size+1+1+1+1:=by
 obtain ⟨h1,h2,h3,hb⟩:=box3 w a b c
 have hz:(((w.alloc a).alloc b).alloc c).heap.size=w.heap.size+1+1+1:=by simp
 have hn:=Z5 (((w.alloc a).alloc b).alloc c) d
 have h4:=Y6 (((w.alloc a).alloc b).alloc c) d
 rw [hz] at h4
 exact ⟨Z6 hn h1,Z6 hn h2,Z6 hn h3,h4,below_drewN (Z4 hb hn) 1,by simp [World.drew]⟩
structure NewI (w wr:World) (b:Int) (p B g1 g2:Nat):Prop where
 below:Below w.heap.size w wr
 size:wr.heap.size=w.heap.size+1+1+1+1
 boxR:wr.heap[w.heap.size]?=some (.cells #[.int .i64 0,.int .i64 0,.slice none 0 0,.slice none 0 0,.slice none 0 0,.slice none 0 0,.int .i64 0,.int .i64 0,.slice none 0 0] 30 (0,0))
 boxB:wr.heap[B]?=some (.cells #[.int .i64 b,.int .i64 p,.slice (some ⟨g1,0,none⟩) (p*32) (p*32),.slice (some ⟨g2,0,none⟩) (p*4) (p*4),.slice none 0 0,.slice none 0 0,.int .i64 0,.int .i64 0,.slice none 0 0] 30 (0,0))
 r1:wr.heap[g1]?=some (.cells (madeCells #[.int .i64 0] (p*32)) 3 (0,0))
 r2:wr.heap[g2]?=some (.cells (madeCells #[.bool false] (p*4)) 4 (0,0))
 hB:w.heap.size<B∧B<w.heap.size+1+1+1+1
 h1:w.heap.size<g1∧g1<w.heap.size+1+1+1+1
 h2:w.heap.size<g2∧g2<w.heap.size+1+1+1+1
structure NewS (w wr:World) (b:Int) (p B g1 g2:Nat) (v5:Value) (mv:List Value) (k:Nat):Prop where
 below:Below w.heap.size w wr
 size:w.heap.size+1+1+1+1≤wr.heap.size
 boxR:wr.heap[w.heap.size]?=some (.cells #[.int .i64 0,.int .i64 0,.slice none 0 0,.slice none 0 0,.slice none 0 0,.slice none 0 0,.int .i64 0,.int .i64 0,.slice none 0 0] 30 (0,0))
 boxB:wr.heap[B]?=some (.cells #[.int .i64 b,.int .i64 p,.slice (some ⟨g1,0,none⟩) (p*32) (p*32),.slice (some ⟨g2,0,none⟩) (p*4) (p*4),.slice none 0 0,v5,.int .i64 0,.int .i64 0,.slice none 0 0] 30 (0,0))
 r1:wr.heap[g1]?=some (.cells (madeCells #[.int .i64 0] (p*32)) 3 (0,0))
 r2:wr.heap[g2]?=some (.cells (madeCells #[.bool false] (p*4)) 4 (0,0))
 hB:w.heap.size<B∧B<w.heap.size+1+1+1+1
 h1:w.heap.size<g1∧g1<w.heap.size+1+1+1+1
 h2:w.heap.size<g2∧g2<w.heap.size+1+1+1+1
 muts:OwnM wr (w.heap.size+1+1+1+1) v5 (List.replicate k (List.replicate 6 0)) mv
 nodup:(mv.filterMap Value.ownBlock).Nodup
theorem NewI.start {w wr:World} {b:Int} {p B g1 g2:Nat} (h:NewI w wr b p B g1 g2):NewS w wr b p B g1 g2 (.slice none 0 0) [] 0 :=
 ⟨h.below,by have:=h.size;omega,h.boxR,h.boxB,h.r1,h.r2,h.hB,h.h1,h.h2,⟨World.ownsRow_nil _ _ _ _,rfl,fun i r u hr=>by simp at hr⟩,by simp⟩
theorem NewS.ne {w wr:World} {b:Int} {p B g1 g2:Nat} {v5:Value} {mv:List Value} {k:Nat} (h:NewS w wr b p B g1 g2 v5 mv k):g1≠B∧g2≠B:=by
 have hB:=h.boxB
 refine ⟨fun e=>?_,fun e=>?_⟩
 ·have:=h.r1
  rw [e,hB] at this
  simp at this
 ·have:=h.r2
  rw [e,hB] at this
  simp at this
theorem NewS.next {w wr Y w1:World} {b:Int} {p B g1 g2:Nat} {v5 v5':Value} {mv:List Value} {k:Nat} (h:NewS w wr b p B g1 g2 v5 mv k) (hY:Below wr.heap.size wr Y)
  (hr:Y.heap[wr.heap.size]?=some (.cells (madeCells #[.int .i64 0] 6) 3 (0,0))) (g:Y.grownBy w1 v5.ownBlock) (o:w1.ownsRow (w.heap.size+1+1+1+1) 74 1 v5' (k+1) (mv ++ [.slice (some ⟨wr.heap.size,0,none⟩) 6 6])) :
  NewS w (w1.setCell ⟨B,5,none⟩ v5') b p B g1 g2 v5' (mv ++ [.slice (some ⟨wr.heap.size,0,none⟩) 6 6]) (k+1):=by
 have hsz:=h.size
 have hB:=h.hB
 have hn:=h.ne
 have lt5:∀ q,v5.ownBlock=some q→w.heap.size+1+1+1+1≤q:=fun q hq=>(h.muts.row.lt q hq).1
 have at1:∀ {q:Nat} {o:Obj},q<w.heap.size+1+1+1+1→wr.heap[q]?=some o→w1.heap[q]?=some o:=fun {q o} hq ho =>
  C6 g (by have:=hY.size;omega) (fun r hr=>by have:=lt5 r hr;omega) (Z6 hY ho)
 have keep:∀ {q:Nat} {o:Obj},q<w.heap.size+1+1+1+1→q≠B→wr.heap[q]?=some o→(w1.setCell ⟨B,5,none⟩ v5').heap[q]?=some o:=fun {q o} hq hne ho=>by
  rw [heap_setCell_other w1 ⟨B,5,none⟩ q v5' (by simpa using hne)]
  exact at1 hq ho
 have cF:Chg [B] w1 (w1.setCell ⟨B,5,none⟩ v5'):=Chg.of_grown (V5 w1 B 5 v5') (by simp)
 have c5:Chg v5.ownBlock.toList Y w1:=Chg.of_grown g fun x hx=>by rw [hx];simp
 have m1:=h.muts.below hY
 have o1:Y.ownsRow wr.heap.size 3 1 (.slice (some ⟨wr.heap.size,0,none⟩) 6 6) 6 (List.replicate 6 (.int .i64 0)):=zji hr (Nat.le_refl _) (by unfold maxLen;omega)
 have ty:∀ {x:Value} {n:Nat} {xs:List Value} {t:TypeId} {sz b:Nat},Y.ownsRow b t sz x n xs→t≠74→∀ q,x.ownBlock=some q→q ∉ v5.ownBlock.toList:=fun hx ht q hq hm=>by
  refine L7 hx m1.row ht q hq ?_
  cases hv:v5.ownBlock with
  | none=>rw [hv] at hm;simp at hm
  | some b=>rw [hv] at hm;simp at hm;rw [hm]
 have fin:∀ {x:Value} {n b:Nat} {xs:List Value} {t:TypeId} {sz:Nat},Y.ownsRow b t sz x n xs→t≠74→w.heap.size+1+1+1+1≤b→(w1.setCell ⟨B,5,none⟩ v5').ownsRow b t sz x n xs:=fun hx ht hb =>
  X9 (X9 hx c5 (ty hx ht)) cF fun q hq hm=>by have:=(hx.lt q hq).1;rw [List.mem_singleton.1 hm] at this;omega
 have hl:=h.muts.len
 rw [List.length_replicate] at hl
 have e:List.replicate (k+1) (List.replicate 6 (0:Int))=List.replicate k (List.replicate 6 0) ++ [List.replicate 6 0]:=List.replicate_succ'
 refine ⟨?_,by have:=hY.size;have:=c5.size;simp;omega,keep (by omega) (by omega) h.boxR,heap_setCell_same w1 B 5 _ _ v5' (at1 hB.2 h.boxB),keep h.h1.2 hn.1 h.r1,keep h.h2.2 hn.2 h.r2,hB,h.h1,h.h2,⟨?_,by simp [hl],?_⟩,?_⟩
 ·have e1:Below w.heap.size w Y:=h.below.trans (hY.mono (by omega))
  have e2:Below w.heap.size w w1:=e1.grown g (by have:=hY.size;omega) (fun q hq=>by have:=lt5 q hq;omega)
  exact Chg.below e2 cF (by have:=e2.size;omega) (fun x hx=>by rw [List.mem_singleton.1 hx];omega)
 ·rw [List.length_replicate]
  exact X9 o cF fun q hq hm=>by have:=(o.lt q hq).1;rw [List.mem_singleton.1 hm] at this;omega
 ·intro i r u hr' hu
  rw [e] at hr'
  by_cases hi:i<k
  ·rw [List.getElem?_append_left (by simpa using hi)] at hr'
   rw [List.getElem?_append_left (by omega)] at hu
   exact fin (m1.inner i r u hr' hu) (by decide) (Nat.le_refl _)
  ·have hi2:i=k:=by
    have:=(List.getElem?_eq_some_iff.1 hr').1
    simp at this
    omega
   subst hi2
   rw [List.getElem?_append_right (by simp)] at hr'
   rw [List.getElem?_append_right (by omega)] at hu
   simp only [List.length_replicate,Nat.sub_self,List.getElem?_cons_zero,Option.some.injEq] at hr'
   simp only [hl,Nat.sub_self,List.getElem?_cons_zero,Option.some.injEq] at hu
   subst hr'
   subst hu
   exact V8 (fin o1 (by decide) hsz) hsz
 ·rw [List.filterMap_append,List.nodup_append]
  refine ⟨h.nodup,by simp [Value.ownBlock],fun a ha c hc eac=>?_⟩
  obtain ⟨x,hx,hxa⟩:=List.mem_filterMap.1 ha
  obtain ⟨i,hi⟩:=List.mem_iff_getElem?.1 hx
  have hik:i<k:=by have:=(List.getElem?_eq_some_iff.1 hi).1;omega
  have:=((h.muts.inner i (List.replicate 6 0) x (by simp [hik]) hi).lt a hxa).2
  obtain ⟨y,hy,hyc⟩:=List.mem_filterMap.1 hc
  rw [List.mem_singleton] at hy
  subst hy
  simp [Value.ownBlock] at hyc
  omega
theorem NewS.own {w wr wF:World} {b:Int} {p B g1 g2 m:Nat} {v5:Value} {mv:List Value} (h:NewS w wr b p B g1 g2 v5 mv m) (hp:p≤1024) (hF:Chg [w.heap.size] wr wF) :
  OwnW wF w.heap.size ⟨.slice (some ⟨g1,0,none⟩) (p*32) (p*32),.slice (some ⟨g2,0,none⟩) (p*4) (p*4),.slice none 0 0,v5,.slice none 0 0,[],mv⟩ (newD b p m)∧Below w.heap.size w wF:=by
 have h1:=h.h1
 have h2:=h.h2
 have o1:wr.ownsRow w.heap.size 3 1 _ (p*32) _:=zji h.r1 (by omega) (by unfold maxLen;omega)
 have o2:wr.ownsRow w.heap.size 4 1 _ (p*4) _:=zji h.r2 (by omega) (by unfold maxLen;omega)
 have f1:=X9 o1 hF (fun q hq hm=>by simp [Value.ownBlock] at hq;rw [List.mem_singleton.1 hm] at hq;omega)
 have f2:=X9 o2 hF (fun q hq hm=>by simp [Value.ownBlock] at hq;rw [List.mem_singleton.1 hm] at hq;omega)
 have m5:OwnM wF (w.heap.size+1+1+1+1) v5 (List.replicate m (List.replicate 6 0)) mv:=h.muts.chg hF (fun q hq hm=>by have:=(h.muts.row.lt q hq).1;rw [List.mem_singleton.1 hm] at this;omega) (fun x hx q hq hm=>by
  obtain ⟨i,hi⟩:=List.mem_iff_getElem?.1 hx
  have hl:=h.muts.len
  rw [List.length_replicate] at hl
  have hik:i<m:=by have:=(List.getElem?_eq_some_iff.1 hi).1;omega
  have:=((h.muts.inner i (List.replicate 6 0) x (by simp [hik]) hi).lt q hq).1
  rw [List.mem_singleton.1 hm] at this
  omega)
 refine ⟨⟨by simpa [newD] using f1,by simpa [newD] using f2,World.ownsRow_nil _ _ _ _,rfl,fun i s q hs=>by simp [newD] at hs,V8 m5.row (by omega),m5.len,fun i r v hr hv=>V8 (m5.inner i r v hr hv) (by omega),World.ownsRow_nil _ _ _ _,?_⟩,Chg.below h.below hF h.below.size (fun q hq=>by rw [List.mem_singleton.1 hq];omega)⟩
 show (((Value.slice (some ⟨g1,0,none⟩) (p*32) (p*32)) :: [] ++ mv ++ [Value.slice none 0 0]).filterMap Value.ownBlock).Nodup
 rw [List.filterMap_append,List.filterMap_append]
 simp only [List.filterMap_cons,List.filterMap_nil,Value.ownBlock,List.append_nil,List.singleton_append,List.nodup_cons]
 refine ⟨fun hm=>?_,h.nodup⟩
 obtain ⟨x,hx,hq⟩:=List.mem_filterMap.1 hm
 obtain ⟨i,hi⟩:=List.mem_iff_getElem?.1 hx
 have hl:=h.muts.len
 rw [List.length_replicate] at hl
 have hik:i<m:=by have:=(List.getElem?_eq_some_iff.1 hi).1;omega
 have:=((h.muts.inner i (List.replicate 6 0) x (by simp [hik]) hi).lt _ hq).1
 omega
theorem ztp (b:Int) (p m:Nat) (hp:p≤1024) (hm:m≤1024) (w:World) :
  Calls Tryz.prog 113 #[.int .i64 b,.int .i64 p,.int .i64 m] w fun e w'=>∃ S,e=.returned (S.val (newD b p m))∧OwnW w' w.heap.size S (newD b p m)∧Below w.heap.size w w':=by
 have e1:((p*32:Nat):Int)=(p:Int)*32:=by omega
 have e2:((p*4:Nat):Int)=(p:Int)*4:=by omega
 have m1:=run_make_row' (P:=Tryz.prog) 23 3 (.int .i64 0) 8 Tryz.underlying23 E9 rfl .i64 .i64 (p*32) (by omega) (by omega)
 have m2:=run_make_row' (P:=Tryz.prog) 24 4 (.bool false) 1 Tryz.underlying24 zjm rfl .i64 .i64 (p*4) (by omega) (by omega)
 simp only [e1] at m1
 simp only [e2] at m2
 clear e1 e2
 go_enter Tryz.func113,Tryz.ntmps113
 go_upto_region 1 with fail
 go_cut [7] from 9 to 17 (fun q wr=>∃ B g1 g2:Nat,q=.pointer (some ⟨B,0,none⟩)∧Hid (NewI w wr b p B g1 g2))
 case first =>
  go_region
  all_goals go_wp2_with fail
  all_goals go_meet
  all_goals first
   | exact ⟨w.heap.size+1+1+1,w.heap.size+1,w.heap.size+1+1,rfl,⟨(V9 w _ _ _ _).2.2.2.2.1,(V9 w _ _ _ _).2.2.2.2.2,(V9 w _ _ _ _).1,(by first | exact (V9 w _ _ _ _).2.1 | exact (V9 w _ _ _ _).2.2.1 | exact (V9 w _ _ _ _).2.2.2.1),(by first | exact (V9 w _ _ _ _).2.1 | exact (V9 w _ _ _ _).2.2.1 | exact (V9 w _ _ _ _).2.2.2.1),(by first | exact (V9 w _ _ _ _).2.1 | exact (V9 w _ _ _ _).2.2.1 | exact (V9 w _ _ _ _).2.2.2.1),by omega,by omega,by omega⟩⟩
   | exact ⟨w.heap.size+1+1,w.heap.size+1,w.heap.size+1+1+1,rfl,⟨(V9 w _ _ _ _).2.2.2.2.1,(V9 w _ _ _ _).2.2.2.2.2,(V9 w _ _ _ _).1,(by first | exact (V9 w _ _ _ _).2.1 | exact (V9 w _ _ _ _).2.2.1 | exact (V9 w _ _ _ _).2.2.2.1),(by first | exact (V9 w _ _ _ _).2.1 | exact (V9 w _ _ _ _).2.2.1 | exact (V9 w _ _ _ _).2.2.2.1),(by first | exact (V9 w _ _ _ _).2.1 | exact (V9 w _ _ _ _).2.2.1 | exact (V9 w _ _ _ _).2.2.2.1),by omega,by omega,by omega⟩⟩
   | exact ⟨w.heap.size+1+1+1,w.heap.size+1+1,w.heap.size+1,rfl,⟨(V9 w _ _ _ _).2.2.2.2.1,(V9 w _ _ _ _).2.2.2.2.2,(V9 w _ _ _ _).1,(by first | exact (V9 w _ _ _ _).2.1 | exact (V9 w _ _ _ _).2.2.1 | exact (V9 w _ _ _ _).2.2.2.1),(by first | exact (V9 w _ _ _ _).2.1 | exact (V9 w _ _ _ _).2.2.1 | exact (V9 w _ _ _ _).2.2.2.1),(by first | exact (V9 w _ _ _ _).2.1 | exact (V9 w _ _ _ _).2.2.1 | exact (V9 w _ _ _ _).2.2.2.1),by omega,by omega,by omega⟩⟩
   | exact ⟨w.heap.size+1+1,w.heap.size+1+1+1,w.heap.size+1,rfl,⟨(V9 w _ _ _ _).2.2.2.2.1,(V9 w _ _ _ _).2.2.2.2.2,(V9 w _ _ _ _).1,(by first | exact (V9 w _ _ _ _).2.1 | exact (V9 w _ _ _ _).2.2.1 | exact (V9 w _ _ _ _).2.2.2.1),(by first | exact (V9 w _ _ _ _).2.1 | exact (V9 w _ _ _ _).2.2.1 | exact (V9 w _ _ _ _).2.2.2.1),(by first | exact (V9 w _ _ _ _).2.1 | exact (V9 w _ _ _ _).2.2.1 | exact (V9 w _ _ _ _).2.2.2.1),by omega,by omega,by omega⟩⟩
   | exact ⟨w.heap.size+1,w.heap.size+1+1,w.heap.size+1+1+1,rfl,⟨(V9 w _ _ _ _).2.2.2.2.1,(V9 w _ _ _ _).2.2.2.2.2,(V9 w _ _ _ _).1,(by first | exact (V9 w _ _ _ _).2.1 | exact (V9 w _ _ _ _).2.2.1 | exact (V9 w _ _ _ _).2.2.2.1),(by first | exact (V9 w _ _ _ _).2.1 | exact (V9 w _ _ _ _).2.2.1 | exact (V9 w _ _ _ _).2.2.2.1),(by first | exact (V9 w _ _ _ _).2.1 | exact (V9 w _ _ _ _).2.2.1 | exact (V9 w _ _ _ _).2.2.2.1),by omega,by omega,by omega⟩⟩
   | exact ⟨w.heap.size+1,w.heap.size+1+1+1,w.heap.size+1+1,rfl,⟨(V9 w _ _ _ _).2.2.2.2.1,(V9 w _ _ _ _).2.2.2.2.2,(V9 w _ _ _ _).1,(by first | exact (V9 w _ _ _ _).2.1 | exact (V9 w _ _ _ _).2.2.1 | exact (V9 w _ _ _ _).2.2.2.1),(by first | exact (V9 w _ _ _ _).2.1 | exact (V9 w _ _ _ _).2.2.1 | exact (V9 w _ _ _ _).2.2.2.1),(by first | exact (V9 w _ _ _ _).2.1 | exact (V9 w _ _ _ _).2.2.1 | exact (V9 w _ _ _ _).2.2.2.1),by omega,by omega,by omega⟩⟩
 case rest =>
  obtain ⟨B,g1,g2,rfl,hI⟩:=hcut
  go_wp2_with fail
  go_loopw [8] (fun i wr=>∃ (k:Nat) (v5:Value) (mv:List Value),k≤m∧i=.int .i64 k∧Hid (NewS w wr b p B g1 g2 v5 mv k)) (fun i _=>m-(intOf i).toNat)
  case atStart=>exact ⟨0,.slice none 0 0,[],Nat.zero_le _,rfl,zaa hI.out.start⟩
  case round =>
   obtain ⟨k,v5,mv,hk,rfl,st⟩:=hrel
   have hB:=st.out.hB
   have hsz:=zaa st.out.size
   have szb:w.heap.size+1+1+1+1≤wr.heap.size:=hsz.out
   by_cases hlt:k<m
   ·have hlt1:(k:Int)<(m:Int):=by omega
    have z5:wr.cell? ⟨B,5,none⟩=some v5:=Z0 st.out.boxB 5 _ rfl
    have hY:=zaa (show Below wr.heap.size wr ((wr.alloc (.cells (madeCells #[.int .i64 0] 6) 3)).alloc (.cells #[.slice (some ⟨wr.heap.size,0,none⟩) 6 6] 74)).drew from below_drewN (Z4 (Z5 wr _) (Z5 _ _)) 1)
    have hr:=zaa (show ((wr.alloc (.cells (madeCells #[.int .i64 0] 6) 3)).alloc (.cells #[.slice (some ⟨wr.heap.size,0,none⟩) 6 6] 74)).drew.heap[wr.heap.size]?=some (.cells (madeCells #[.int .i64 0] 6) 3 (0,0)) from Z6 (Z5 _ _) (Y6 wr (.cells (madeCells #[.int .i64 0] 6) 3)))
    have z5a:=Z7 (Z5 wr (.cells (madeCells #[.int .i64 0] 6) 3)) z5
    have z5b:=Z7 hY.out z5
    have row5:=zaa (show ((wr.alloc (.cells (madeCells #[.int .i64 0] 6) 3)).alloc (.cells #[.slice (some ⟨wr.heap.size,0,none⟩) 6 6] 74)).drew.ownsRow (w.heap.size+1+1+1+1) 74 1 v5 k mv from by have:=Y9 st.out.muts.row hY.out;rwa [List.length_replicate] at this)
    have boxB:=zaa st.out.boxB
    have hv5:=zaa (show ∀ q,v5.ownBlock=some q→w.heap.size+1+1+1+1≤q from fun q hq=>(st.out.muts.row.lt q hq).1)
    obtain ⟨a0,c0,rfl⟩:=Y4 row5.out
    have mk6:∀ (w:World),(Instr.makeSlice 23 (.int .i64 6) (.int .i64 6)).run Tryz.prog w=.ok (.slice (some ⟨w.heap.size,0,none⟩) 6 6) (w.alloc (.cells (madeCells #[.int .i64 0] 6) 3)):=run_make_row' (P:=Tryz.prog) 23 3 (.int .i64 0) 8 Tryz.underlying23 E9 rfl .i64 .i64 6 (by omega) (by omega)
    have r3:=zaa (show N1 ((wr.alloc (.cells (madeCells #[.int .i64 0] 6) 3)).alloc (.cells #[.slice (some ⟨wr.heap.size,0,none⟩) 6 6] 74)).drew (some ⟨wr.heap.size+1,0,none⟩) 1 1 [.slice (some ⟨wr.heap.size,0,none⟩) 6 6] from by
     have:=zln (wr.alloc (.cells (madeCells #[.int .i64 0] 6) 3)) (cs:=#[.slice (some ⟨wr.heap.size,0,none⟩) 6 6]) (T:=74) (m:=1) (size:=1) rfl (fun u hu=>by simp only [List.mem_singleton] at hu;subst hu;rfl)
     rw [World.size_alloc] at this
     exact this.below (below_drewN (Below.refl _ _) 1))
    have le3:=zaa (Nat.le_trans szb hY.out.size)
    go_wp2_with fail
    go_region_law (first
     | (refine zen rfl (zog (.tmp 24) (.tmp 27) 26 rfl (w.heap.size+1+1+1+1) 74 (.agg #[.slice none 0 0]) 1 24 Tryz.underlying26 zpt (by rfl) (by decide) (.slice a0 k c0) k mv rfl row5.out (some ⟨wr.heap.size+1,0,none⟩) 1 1 [.slice (some ⟨wr.heap.size,0,none⟩) 6 6] rfl r3.out (by unfold maxLen;omega) (by omega) le3.out ?_);intro u2 x2 p2 h2;obtain ⟨a5,c5,rfl⟩:=Y4 p2;have boxB2:=St1.at4 hY.out h2 hv5.out hB.2 boxB.out;have z5d:=Z0 boxB2 5 _ rfl;have f5d:=Z3 boxB2 5;have nst:=zaa (NewS.next st.out hY.out hr.out h2 p2);clear p2 h2 boxB2))
    all_goals go_wp2_with fail
    all_goals exact ⟨⟨k+1,_,_,by omega,by go_num,nst⟩,by simp [intOf];omega⟩
   ·obtain rfl:k=m:=by omega
    obtain ⟨a0,c0,rfl⟩:=Y4 st.out.muts.row
    simp only [List.length_replicate] at st
    have hneB:¬ (w.heap.size=B):=by omega
    have boxB:=st.out.boxB
    have boxR:=st.out.boxR
    have m0:=Z0 boxB 0 _ rfl
    have n0:=Z0 boxR 0 _ rfl
    have z0:=Z3 boxR 0
    have m1:=Z0 boxB 1 _ rfl
    have n1:=Z0 boxR 1 _ rfl
    have z1:=Z3 boxR 1
    have m2:=Z0 boxB 2 _ rfl
    have n2:=Z0 boxR 2 _ rfl
    have z2:=Z3 boxR 2
    have m3:=Z0 boxB 3 _ rfl
    have n3:=Z0 boxR 3 _ rfl
    have z3:=Z3 boxR 3
    have m4:=Z0 boxB 4 _ rfl
    have n4:=Z0 boxR 4 _ rfl
    have z4:=Z3 boxR 4
    have m5:=Z0 boxB 5 _ rfl
    have n5:=Z0 boxR 5 _ rfl
    have z5:=Z3 boxR 5
    have m6:=Z0 boxB 6 _ rfl
    have n6:=Z0 boxR 6 _ rfl
    have z6:=Z3 boxR 6
    have m7:=Z0 boxB 7 _ rfl
    have n7:=Z0 boxR 7 _ rfl
    have z7:=Z3 boxR 7
    have m8:=Z0 boxB 8 _ rfl
    have n8:=Z0 boxR 8 _ rfl
    have z8:=Z3 boxR 8
    clear boxB boxR
    go_wp2_with fail
    refine bodyPost_ret (v:=.agg #[.int .i64 b,.int .i64 p,.slice (some ⟨g1,0,none⟩) (p*32) (p*32),.slice (some ⟨g2,0,none⟩) (p*4) (p*4),.slice none 0 0,.slice a0 k c0,.int .i64 0,.int .i64 0,.slice none 0 0]) (by simp [results,Tryz.results113,go_sem,n0,n1,n2,n3,n4,n5,n6,n7,n8]) rfl ?_
    exact ⟨_,rfl,NewS.own st.out hp ((Chg.refl [w.heap.size] wr).put9 (b:=w.heap.size) (by simp) _ _ _ _ _ _ _ _ _)⟩
def zeroD:WD:=⟨0,0,[],[],[],[],0,0,[]⟩
def zey:Y2:=⟨.slice none 0 0,.slice none 0 0,.slice none 0 0,.slice none 0 0,.slice none 0 0,[],[]⟩
theorem zfy (w:World) (base:Nat):OwnW w base zey zeroD :=
 ⟨World.ownsRow_nil _ _ _ _,World.ownsRow_nil _ _ _ _,World.ownsRow_nil _ _ _ _,rfl,fun i s p h=>by simp [zeroD] at h,World.ownsRow_nil _ _ _ _,rfl,fun i r v h=>by simp [zeroD] at h,World.ownsRow_nil _ _ _ _,(show ([]:List Nat).Nodup from List.nodup_nil)⟩
theorem OwnW.lits {w:World} {base:Nat} {S:Y2} {D:WD} (h:OwnW w base S D):∃ a1 n1 c1 a2 n2 c2 a3 n3 c3 a4 n4 c4 a5 n5 c5 sv mv,S=⟨.slice a1 n1 c1,.slice a2 n2 c2,.slice a3 n3 c3,.slice a4 n4 c4,.slice a5 n5 c5,sv,mv⟩:=by
 obtain ⟨vw,vd,vs,vm,vg,sv,mv⟩:=S
 obtain ⟨a1,c1,h1⟩:=Y4 h.words
 obtain ⟨a2,c2,h2⟩:=Y4 h.dirty
 obtain ⟨a3,c3,h3⟩:=Y4 h.spans
 obtain ⟨a4,c4,h4⟩:=Y4 h.muts
 obtain ⟨a5,c5,h5⟩:=Y4 h.grey
 simp only at h1 h2 h3 h4 h5
 subst h1 h2 h3 h4 h5
 exact ⟨_,_,_,_,_,_,_,_,_,_,_,_,_,_,_,_,_,rfl⟩
theorem OwnW.chg0 {w w':World} {base:Nat} {S:Y2} {D:WD} {bs:List Nat} (h:OwnW w base S D) (hc:Chg bs w w') (hn:∀ q,q ∈ bs→q<base):OwnW w' base S D:=by
 have f:∀ {x:Value} {n:Nat} {xs:List Value} {t:TypeId} {sz:Nat},w.ownsRow base t sz x n xs→w'.ownsRow base t sz x n xs:=fun hx=>X9 hx hc fun q hq hm=>by have:=(hx.lt q hq).1;have:=hn q hm;omega
 exact ⟨f h.words,f h.dirty,f h.spans,h.svl,fun i s p h1 h2=>⟨f (h.inner i s p h1 h2).1,f (h.inner i s p h1 h2).2⟩,f h.muts,h.mvl,fun i r v h1 h2=>f (h.innerM i r v h1 h2),f h.grey,h.nodup⟩
theorem OwnW.base_le {w:World} {base base':Nat} {S:Y2} {D:WD} (h:OwnW w base S D) (hb:base'≤base):OwnW w base' S D :=
 ⟨V8 h.words hb,V8 h.dirty hb,V8 h.spans hb,h.svl,fun i s p h1 h2=>⟨V8 (h.inner i s p h1 h2).1 hb,V8 (h.inner i s p h1 h2).2 hb⟩,V8 h.muts hb,h.mvl,fun i r v h1 h2=>V8 (h.innerM i r v h1 h2) hb,V8 h.grey hb,h.nodup⟩
theorem new_fin {w w2 wF:World} {o:Obj} {S:Y2} {D:WD} (h:OwnW w2 (w.heap.size+1) S D) (hb:Below (w.alloc o).heap.size (w.alloc o) w2) (hc:Chg [w.heap.size] w2 wF):OwnW wF w.heap.size S D∧Below w.heap.size w wF :=
 ⟨(h.chg0 hc (fun q hq=>by rw [List.mem_singleton.1 hq];omega)).base_le (by omega),Chg.below (Z4 (Z5 w o) hb) hc (Z4 (Z5 w o) hb).size (fun q hq=>by rw [List.mem_singleton.1 hq];omega)⟩
def zzs (b p m:Int) (D:WD) (f:Bool):Prop:=(Geo b p m∧D=newD b p.toNat m.toNat∧f=true)∨(¬ Geo b p m∧D=zeroD∧f=false)
theorem zpi (b p m:Int) (w:World) :
  Calls Tryz.prog 87 #[.int .i64 b,.int .i64 p,.int .i64 m] w fun e w'=>∃ S D f,zzs b p m D f∧e=.returned (.tuple #[S.val D,.bool f])∧OwnW w' w.heap.size S D∧Below w.heap.size w w':=by
 have hg:=zaa (fun w=>zmi b p m w)
 by_cases g:Geo b p m
 ·have g':=zaa g
  obtain ⟨g1,g2,g3,g4,g5,g6,g7⟩:=g
  have hn:=zaa (ztp b p.toNat m.toNat (by omega) (by omega))
  simp only [Int.toNat_of_nonneg (show 0≤p by omega),Int.toNat_of_nonneg (show 0≤m by omega)] at hn
  go_enter Tryz.func87,Tryz.ntmps87
  go_wp2_with (first
   | (go_at_call 80;refine (hg.out _).mono ?_;rintro e w' ⟨hq,rfl⟩;obtain ⟨r,rfl,hr⟩:=hq;obtain rfl:r=true:=hr.2 g'.out;clear hr)
   | (go_at_call 113;refine (hn.out _).mono ?_;rintro e w2 ⟨S,rfl,hS,hb⟩;obtain ⟨a1,k1,c1,a2,k2,c2,a3,k3,c3,a4,k4,c4,a5,k5,c5,sv,mv,rfl⟩:=hS.lits;have R2:=Z6 hb (Y6 w (.cells #[.int .i64 0,.int .i64 0,.slice none 0 0,.slice none 0 0,.slice none 0 0,.slice none 0 0,.int .i64 0,.int .i64 0,.slice none 0 0] 30));have n0:=Z0 R2 0 _ rfl;have z0:=Z3 R2 0;have n1:=Z0 R2 1 _ rfl;have z1:=Z3 R2 1;have n2:=Z0 R2 2 _ rfl;have z2:=Z3 R2 2;have n3:=Z0 R2 3 _ rfl;have z3:=Z3 R2 3;have n4:=Z0 R2 4 _ rfl;have z4:=Z3 R2 4;have n5:=Z0 R2 5 _ rfl;have z5:=Z3 R2 5;have n6:=Z0 R2 6 _ rfl;have z6:=Z3 R2 6;have n7:=Z0 R2 7 _ rfl;have z7:=Z3 R2 7;have n8:=Z0 R2 8 _ rfl;have z8:=Z3 R2 8;have H:=zaa (And.intro hS hb);clear hS hb R2;dsimp only [Y2.val,newD]))
  refine bodyPost_ret (v:=.tuple #[.agg #[.int .i64 b,.int .i64 p.toNat,.slice a1 k1 c1,.slice a2 k2 c2,.slice a3 k3 c3,.slice a4 k4 c4,.int .i64 0,.int .i64 0,.slice a5 k5 c5],.bool true]) (by simp [results,Tryz.results87,go_sem,n0,n1,n2,n3,n4,n5,n6,n7,n8]) rfl ?_
  obtain ⟨hS,hb⟩:=H.out
  simp only [World.size_alloc] at hS
  exact ⟨_,newD b p.toNat m.toNat,true,.inl ⟨g'.out,rfl,rfl⟩,rfl,new_fin hS hb ((Chg.refl [w.heap.size] w2).put9 (b:=w.heap.size) (by simp) _ _ _ _ _ _ _ _ _)⟩
 ·have g':=zaa g
  clear g
  go_enter Tryz.func87,Tryz.ntmps87
  go_wp2_with (first
   | (go_at_call 80;refine (hg.out _).mono ?_;rintro e w' ⟨hq,rfl⟩;obtain ⟨r,rfl,hr⟩:=hq;obtain rfl:r=false:=(by cases r;rfl;exact absurd (hr.1 rfl) g'.out);clear hr))
  have R2:=Y6 w (.cells #[.int .i64 0,.int .i64 0,.slice none 0 0,.slice none 0 0,.slice none 0 0,.slice none 0 0,.int .i64 0,.int .i64 0,.slice none 0 0] 30)
  obtain ⟨n0,n1,n2,n3,n4,n5,n6,n7,n8⟩:=U5 R2
  refine bodyPost_ret (v:=.tuple #[zey.val zeroD,.bool false]) (by simp [results,Tryz.results87,go_sem,n0,n1,n2,n3,n4,n5,n6,n7,n8,Y2.val,zey,zeroD]) rfl ?_
  exact ⟨zey,zeroD,false,.inr ⟨g'.out,rfl,rfl⟩,rfl,zfy _ _,Z5 w _⟩
end Go.Proofs.YtilkidaihbhfpaaGreat
namespace Go.Proofs.YtilkidaihbhfpaaGreat
open Go.RowKit
set_option linter.unusedVariables false
set_option linter.unusedSimpArgs false
theorem zfd (A:Option Addr) (n c:Nat) (news:List Value) (hs:n≤1048576) (w:World) (h:N1 w A n 1 news) :
  Calls Tryz.prog 78 #[.slice A n c] w fun e w'=>∃ v,e=.returned v∧w'.ownsRow w.heap.size 3 1 v n news∧Below w.heap.size w w':=by
 by_cases hn:n=0
 ·subst hn
  obtain rfl:news=[]:=List.length_eq_zero_iff.1 (by simpa using h.len)
  clear h
  go_enter Tryz.func78,Tryz.ntmps78
  go_wp2_with fail
  go_ret
  exact ⟨_,rfl,World.ownsRow_nil _ _ _ _,Below.refl _ _⟩
 ·have hlen:news.length=n:=by have:=h.len;omega
  obtain ⟨ad,rfl⟩:∃ ad,A=some ad:=by
   obtain ⟨a,e,_⟩:=h.at_ 0 news[0] (List.getElem?_eq_getElem (by omega))
   exact ⟨a,e⟩
  have h':=zaa (h.below (Z5 w (.cells (madeCells #[.int .i64 0] n) 3)))
  have mk:=run_make_row' (P:=Tryz.prog) 23 3 (.int .i64 0) 8 Tryz.underlying23 E9 rfl .i64 .i64 n (by omega) (by omega)
  have hlen':=zaa hlen
  have hnz:¬ (n:Int)=0:=by omega
  clear h hlen
  go_enter Tryz.func78,Tryz.ntmps78
  go_wp2_with (first
   | (refine wpList_copy_own rfl (.tmp 10) (.tmp 11) 23 23 rfl 3 Tryz.underlying23 (by kernel_rfl) w.heap.size 0 n n ad n c rfl rfl (madeCells #[.int .i64 0] n) 3 (Y6 w _) news (by rw [hlen'.out];exact (Nat.min_self n).symm) (fun j u hj=>(by obtain ⟨a,e,hc⟩:=h'.out.at_ j u hj;cases e;exact hc)) (by rw [hlen'.out];simp [size_madeCells]) h'.out.one ?_))
  go_ret
  refine ⟨_,rfl,⟨by simpa using hlen'.out,.inr ⟨w.heap.size,n,_,rfl,Nat.le_refl _,setRow_heap _ _ _ _ _ _ (Y6 w _),Nat.le_refl _,by unfold maxLen;omega,?_,?_⟩⟩,below_setRow (Z5 w _) (Nat.le_refl _) _⟩
  ·simp [hlen'.out,size_madeCells]
  ·have e:List.drop n (madeCells #[.int .i64 0] n).toList=[]:=List.drop_eq_nil_iff.2 (by simp [size_madeCells])
   have hl:=hlen'.out
   rw [List.toList_toArray,hl,e,List.append_nil,Nat.mul_one,List.take_of_length_le (by omega)]
theorem zqy (A:Option Addr) (n c:Nat) (news:List Value) (hs:n≤1048576) (w:World) (h:N1 w A n 1 news) :
  Calls Tryz.prog 90 #[.slice A n c] w fun e w'=>∃ v,e=.returned v∧w'.ownsRow w.heap.size 4 1 v n news∧Below w.heap.size w w':=by
 by_cases hn:n=0
 ·subst hn
  obtain rfl:news=[]:=List.length_eq_zero_iff.1 (by simpa using h.len)
  clear h
  go_enter Tryz.func90,Tryz.ntmps90
  go_wp2_with fail
  go_ret
  exact ⟨_,rfl,World.ownsRow_nil _ _ _ _,Below.refl _ _⟩
 ·have hlen:news.length=n:=by have:=h.len;omega
  obtain ⟨ad,rfl⟩:∃ ad,A=some ad:=by
   obtain ⟨a,e,_⟩:=h.at_ 0 news[0] (List.getElem?_eq_getElem (by omega))
   exact ⟨a,e⟩
  have h':=zaa (h.below (Z5 w (.cells (madeCells #[.bool false] n) 4)))
  have mk:=run_make_row' (P:=Tryz.prog) 24 4 (.bool false) 1 Tryz.underlying24 zjm rfl .i64 .i64 n (by omega) (by omega)
  have hlen':=zaa hlen
  have hnz:¬ (n:Int)=0:=by omega
  clear h hlen
  go_enter Tryz.func90,Tryz.ntmps90
  go_wp2_with (first
   | (refine wpList_copy_own rfl (.tmp 10) (.tmp 11) 24 24 rfl 4 Tryz.underlying24 (by kernel_rfl) w.heap.size 0 n n ad n c rfl rfl (madeCells #[.bool false] n) 4 (Y6 w _) news (by rw [hlen'.out];exact (Nat.min_self n).symm) (fun j u hj=>(by obtain ⟨a,e,hc⟩:=h'.out.at_ j u hj;cases e;exact hc)) (by rw [hlen'.out];simp [size_madeCells]) h'.out.one ?_))
  go_ret
  refine ⟨_,rfl,⟨by simpa using hlen'.out,.inr ⟨w.heap.size,n,_,rfl,Nat.le_refl _,setRow_heap _ _ _ _ _ _ (Y6 w _),Nat.le_refl _,by unfold maxLen;omega,?_,?_⟩⟩,below_setRow (Z5 w _) (Nat.le_refl _) _⟩
  ·simp [hlen'.out,size_madeCells]
  ·have e:List.drop n (madeCells #[.bool false] n).toList=[]:=List.drop_eq_nil_iff.2 (by simp [size_madeCells])
   have hl:=hlen'.out
   rw [List.toList_toArray,hl,e,List.append_nil,Nat.mul_one,List.take_of_length_le (by omega)]
theorem zsq (A:Option Addr) (n c:Nat) (news:List Value) (hs:n≤1048576) (w:World) (h:N1 w A n 1 news) :
  Calls Tryz.prog 134 #[.slice A n c] w fun e w'=>∃ v,e=.returned v∧w'.ownsRow w.heap.size 74 1 v n news∧Below w.heap.size w w':=by
 by_cases hn:n=0
 ·subst hn
  obtain rfl:news=[]:=List.length_eq_zero_iff.1 (by simpa using h.len)
  clear h
  go_enter Tryz.func134,Tryz.ntmps134
  go_wp2_with fail
  go_ret
  exact ⟨_,rfl,World.ownsRow_nil _ _ _ _,Below.refl _ _⟩
 ·have hlen:news.length=n:=by have:=h.len;omega
  obtain ⟨ad,rfl⟩:∃ ad,A=some ad:=by
   obtain ⟨a,e,_⟩:=h.at_ 0 news[0] (List.getElem?_eq_getElem (by omega))
   exact ⟨a,e⟩
  have h':=zaa (h.below (Z5 w (.cells (madeCells #[.slice none 0 0] n) 74)))
  obtain ⟨i0,hi,hz0,hz1,hz2⟩:=info_parts zpt
  have mk:∀ w:World,(Instr.makeSlice 26 (.int .i64 (n:Int)) (.int .i64 (n:Int))).run Tryz.prog w=.ok (.slice (some ⟨w.heap.size,0,none⟩) n n) (w.alloc (.cells (madeCells #[.slice none 0 0] n) 74)):=fun w=>by
   have:=run_make (P:=Tryz.prog) w 26 74 i0 _ Tryz.underlying26 hi hz0 .i64 .i64 (n:Int) (n:Int) (by omega) (by omega) (by rw [hz2];omega) (by omega)
   rw [this,hz1]
   simp [show (Value.agg #[.slice none 0 0]).cells=#[.slice none 0 0] from rfl]
  clear hi hz0 hz1 hz2
  have hlen':=zaa hlen
  have hnz:¬ (n:Int)=0:=by omega
  clear h hlen
  go_enter Tryz.func134,Tryz.ntmps134
  go_wp2_with (first
   | (refine wpList_copy_own rfl (.tmp 10) (.tmp 11) 26 26 rfl 74 Tryz.underlying26 (by kernel_rfl) w.heap.size 0 n n ad n c rfl rfl (madeCells #[.slice none 0 0] n) 74 (Y6 w _) news (by rw [hlen'.out];exact (Nat.min_self n).symm) (fun j u hj=>(by obtain ⟨a,e,hc⟩:=h'.out.at_ j u hj;cases e;exact hc)) (by rw [hlen'.out];simp [size_madeCells]) h'.out.one ?_))
  go_ret
  refine ⟨_,rfl,⟨by simpa using hlen'.out,.inr ⟨w.heap.size,n,_,rfl,Nat.le_refl _,setRow_heap _ _ _ _ _ _ (Y6 w _),Nat.le_refl _,by unfold maxLen;omega,?_,?_⟩⟩,below_setRow (Z5 w _) (Nat.le_refl _) _⟩
  ·simp [hlen'.out,size_madeCells]
  ·have e:List.drop n (madeCells #[.slice none 0 0] n).toList=[]:=List.drop_eq_nil_iff.2 (by simp [size_madeCells])
   have hl:=hlen'.out
   rw [List.toList_toArray,hl,e,List.append_nil,Nat.mul_one,List.take_of_length_le (by omega)]
end Go.Proofs.YtilkidaihbhfpaaGreat
namespace Go.Proofs.YtilkidaihbhfpaaGreat
open Go.RowKit
set_option linter.unusedVariables false
structure Cop (w:World) (base:Nat) (v1 v2 v3:Value) (sv:List (Value × Value)) (D:WD) (k:Nat):Prop where
 words:w.ownsRow base 3 1 v1 D.words.length (D.words.map (Value.int .i64))
 dirty:w.ownsRow base 4 1 v2 D.dirty.length (D.dirty.map Value.bool)
 spans:OwnS w base v3 (D.spans.take k) sv
 nodup:((v1 :: X7 sv).filterMap Value.ownBlock).Nodup
 lt:∀ x,x ∈ v1 :: v2 :: v3 :: X7 sv→∀ q,x.ownBlock=some q→base≤q∧q<w.heap.size
theorem Cop.kept {w w':World} {base:Nat} {v1 v2 v3:Value} {sv:List (Value × Value)} {D:WD} {k:Nat} (h:Cop w base v1 v2 v3 sv D k) {bs:List Nat} (c:Chg bs w w') (hn:∀ q,q ∈ bs→q<base∨w.heap.size≤q):Cop w' base v1 v2 v3 sv D k:=by
 have ne:∀ x,x ∈ v1 :: v2 :: v3 :: X7 sv→∀ q,x.ownBlock=some q→q ∉ bs:=fun x hx q hq hm=>by
  have:=h.lt x hx q hq
  rcases hn q hm with h | h <;> omega
 exact ⟨X9 h.words c (ne v1 (by simp)),X9 h.dirty c (ne v2 (by simp)),h.spans.chg c (ne v3 (by simp)) (fun x hx=>ne x (by simp [hx])),h.nodup,fun x hx q hq=>by have:=h.lt x hx q hq;have:=c.size;omega⟩
theorem Cop.snoc {w w':World} {base:Nat} {v1 v2 v3 v3':Value} {sv:List (Value × Value)} {D:WD} {k:Nat} (h:Cop w base v1 v2 v3 sv D k) {s:Y3} (hs:D.spans[k]?=some s) {p:Value × Value} {lo:Nat} (hlo:w.heap.size≤lo∨True)
  (g:w.grownBy w' v3.ownBlock) (hr:w'.ownsRow base 97 6 v3' ((D.spans.take k).length+1) (U9 (D.spans.take k) sv ++ Q8 s p)) (h1:w.ownsRow base 3 1 p.1 s.lens.length (s.lens.map (Value.int .i64))) (h2:w.ownsRow base 3 1 p.2 s.ptrs.length (s.ptrs.map (Value.int .i64)))
  (hd:(((v1 :: X7 sv) ++ [p.1,p.2]).filterMap Value.ownBlock).Nodup):Cop w' base v1 v2 v3' (sv ++ [p]) D (k+1):=by
 obtain ⟨hk,rfl⟩:=List.getElem?_eq_some_iff.1 hs
 have e:D.spans.take (k+1)=D.spans.take k ++ [D.spans[k]]:=List.take_succ_eq_append_getElem hk
 have hl:=h.spans.len
 have c:Chg v3.ownBlock.toList w w':=Chg.of_grown g fun x hx=>by rw [hx];simp
 have ty:∀ {x:Value} {n:Nat} {xs:List Value} {t:TypeId} {sz:Nat},w.ownsRow base t sz x n xs→t≠97→∀ q,x.ownBlock=some q→q ∉ v3.ownBlock.toList:=fun hx ht q hq hm=>by
  refine L7 hx h.spans.row ht q hq ?_
  cases hv:v3.ownBlock with
  | none=>rw [hv] at hm;simp at hm
  | some b=>rw [hv] at hm;simp at hm;rw [hm]
 refine ⟨X9 h.words c (ty h.words (by decide)),X9 h.dirty c (ty h.dirty (by decide)),⟨?_,?_,?_⟩,?_,?_⟩
 ·have e2:U9 [D.spans[k]] [p]=Q8 D.spans[k] p:=by simp [U9]
  rw [e,zns _ _ _ _ hl,e2,List.length_append]
  exact hr
 ·rw [e,List.length_append,List.length_append,hl];rfl
 ·intro i s' p' hs' hp'
  rw [e] at hs'
  by_cases hi:i<(D.spans.take k).length
  ·rw [List.getElem?_append_left hi] at hs'
   rw [List.getElem?_append_left (by omega)] at hp'
   have:=h.spans.inner i s' p' hs' hp'
   exact ⟨X9 this.1 c (ty this.1 (by decide)),X9 this.2 c (ty this.2 (by decide))⟩
  ·have hi2:i=(D.spans.take k).length:=by
    have:=(List.getElem?_eq_some_iff.1 hs').1
    simp at this hi ⊢
    omega
   subst hi2
   rw [List.getElem?_append_right (Nat.le_refl _)] at hs'
   rw [List.getElem?_append_right (by omega)] at hp'
   simp [hl] at hs' hp'
   subst hs'
   subst hp'
   exact ⟨X9 h1 c (ty h1 (by decide)),X9 h2 c (ty h2 (by decide))⟩
 ·rw [zga]
  exact hd
 ·intro x hx q hq
  rw [zga] at hx
  have hz:=c.size
  rcases List.mem_cons.1 hx with rfl | hx
  ·have:=h.lt x (by simp) q hq;omega
  rcases List.mem_cons.1 hx with rfl | hx
  ·have:=h.lt x (by simp) q hq;omega
  rcases List.mem_cons.1 hx with rfl | hx
  ·exact hr.lt q hq
  rcases List.mem_append.1 hx with hx | hx
  ·have:=h.lt x (by simp [hx]) q hq;omega
  ·simp [X7] at hx
   rcases hx with rfl | rfl
   ·have:=h1.lt q hq;omega
   ·have:=h2.lt q hq;omega
theorem zjj {w:World} {n:Nat} (hn:w.heap.size=n) (e:TypeId) (size:Nat):(w.alloc (.cells #[] e)).ownsRow n e size (.slice (some ⟨n,0,none⟩) 0 0) 0 []:=by subst hn;exact ziq w e size
structure St1 (w wr:World) (A:Array Value) (D:WD) (v1 v2 v3 vm vg:Value) (sv:List (Value × Value)) (k:Nat):Prop where
 below:Below w.heap.size w wr
 boxA:wr.heap[w.heap.size]?=some (.cells A 30 (0,0))
 boxR:wr.heap[w.heap.size+1]?=some (.cells #[.int .i64 0,.int .i64 0,.slice none 0 0,.slice none 0 0,.slice none 0 0,.slice none 0 0,.int .i64 0,.int .i64 0,.slice none 0 0] 30 (0,0))
 boxC:wr.heap[w.heap.size+1+1]?=some (.cells #[.int .i64 D.base,.int .i64 D.pages,v1,v2,v3,vm,.int .i64 D.phase,.int .i64 D.next,vg] 30 (0,0))
 size:w.heap.size+1+1+1≤wr.heap.size
 cop:Cop wr (w.heap.size+1+1+1) v1 v2 v3 sv D k
theorem step3 {x x':World} {b i:Nat} {u:Value} {e:TypeId} {cs:Array Value} {T:TypeId} (hb:b<x.heap.size) (hC:x.heap[b]?=some (.cells cs T (0,0))) (g:((x.setCell ⟨b,i,none⟩ u).alloc (.cells #[] e)).grownBy x' (some x.heap.size)) :
  x'.heap[b]?=some (.cells (cs.setIfInBounds i u) T (0,0))∧Chg [b] x x'∧x.heap.size<x'.heap.size:=by
 have hz:=g.size
 simp only [World.size_alloc,World.size_setCell] at hz
 have h1:=heap_setCell_same x b i _ _ u hC
 refine ⟨C6 g (by simp;omega) (fun r hr=>by cases hr;omega) (Z6 (Z5 _ _) h1),?_,by omega⟩
 refine ⟨g.os,g.tape,g.output,by omega,fun k hk hn=>?_⟩
 have hkb:k≠b:=fun e=>hn (by simp [e])
 rw [g.block k (by simp;omega) (fun e=>by cases e;omega),(Z5 (x.setCell ⟨b,i,none⟩ u) (.cells #[] e)).block k (by simp;omega),heap_setCell_other x ⟨b,i,none⟩ k u (by simpa using hkb)]
theorem step2 {x x':World} {e:TypeId} (g:(x.alloc (.cells #[] e)).grownBy x' (some x.heap.size)):Below x.heap.size x x'∧x.heap.size<x'.heap.size:=by
 have hz:=g.size
 simp only [World.size_alloc] at hz
 exact ⟨(Z5 x _).grown g (by simp) (fun k hk=>by cases hk;exact Nat.le_refl _),by omega⟩
theorem St1.next {w wr w1 w2 w3:World} {A:Array Value} {D:WD} {v1 v2 v3 vm vg:Value} {sv:List (Value × Value)} {k:Nat} (h:St1 w wr A D v1 v2 v3 vm vg sv k) {s:Y3} (hs:D.spans[k]?=some s) {S6 X6:Array Value} {p:Value × Value} {v3':Value}
  (g1:((wr.alloc (.cells S6 97)).alloc (.cells #[] 3)).grownBy w1 (some (wr.heap.size+1))) (o1:w1.ownsRow (wr.heap.size+1) 3 1 p.1 s.lens.length (s.lens.map (Value.int .i64)))
  (g2:((w1.setCell ⟨wr.heap.size,4,none⟩ p.1).alloc (.cells #[] 3)).grownBy w2 (some w1.heap.size)) (o2:w2.ownsRow w1.heap.size 3 1 p.2 s.ptrs.length (s.ptrs.map (Value.int .i64)))
  (g3:((w2.setCell ⟨wr.heap.size,5,none⟩ p.2).alloc (.cells X6 97)).grownBy w3 v3.ownBlock) (o3:w3.ownsRow (w.heap.size+1+1+1) 97 6 v3' ((D.spans.take k).length+1) (U9 (D.spans.take k) sv ++ Q8 s p)) :
  St1 w (w3.setCell ⟨w.heap.size+1+1,4,none⟩ v3') A D v1 v2 v3' vm vg (sv ++ [p]) (k+1):=by
 have hsz:=h.size
 have b1:Below wr.heap.size wr w1:=(Z4 (Z5 wr _) (Z5 _ _)).grown g1 (by simp;omega) (fun q hq=>by cases hq;omega)
 have z1:=g1.size
 simp only [World.size_alloc] at z1
 have c1:Cop w1 (w.heap.size+1+1+1) v1 v2 v3 sv D k:=h.cop.kept (bs:=[]) ⟨b1.os,b1.tape,b1.output,b1.size,fun q hq _=>b1.block q hq⟩ (fun q hq=>by cases hq)
 have t1:w1.heap[wr.heap.size]?=some (.cells S6 97 (0,0)):=C6 g1 (by simp;omega) (fun r hr=>by cases hr;omega) (Z6 (Z5 _ _) (Y6 wr _))
 obtain ⟨t2,k2,z2⟩:=step3 (by omega) t1 g2
 have hc2:Chg [wr.heap.size] w1 w2:=k2
 have c2:Cop w2 (w.heap.size+1+1+1) v1 v2 v3 sv D k:=by
  refine ⟨X9 c1.words hc2 fun q hq hm=>?_,X9 c1.dirty hc2 fun q hq hm=>?_,c1.spans.chg hc2 (fun q hq hm=>?_) (fun x hx q hq hm=>?_),c1.nodup,fun x hx q hq=>by have:=c1.lt x hx q hq;have:=hc2.size;omega⟩
  all_goals (rw [List.mem_singleton.1 hm] at hq)
  ·have:=(h.cop.lt v1 (by simp) _ hq).2;omega
  ·have:=(h.cop.lt v2 (by simp) _ hq).2;omega
  ·have:=(h.cop.lt v3 (by simp) _ hq).2;omega
  ·have:=(h.cop.lt x (by simp [hx]) _ hq).2;omega
 have o12:w2.ownsRow (wr.heap.size+1) 3 1 p.1 s.lens.length (s.lens.map (Value.int .i64)):=X9 o1 hc2 fun q hq hm=>by
  have:=(o1.lt q hq).1
  rw [List.mem_singleton.1 hm] at this
  omega
 -- the store into the span's box,the new row of one
 have z3:=g3.size
 simp only [World.size_alloc,World.size_setCell] at z3
 have m3:∀ {y:World},y=(w2.setCell ⟨wr.heap.size,5,none⟩ p.2).alloc (.cells X6 97)→Chg [wr.heap.size] w2 y:=fun {y} e=>by
  subst e
  refine (Chg.of_grown (V5 w2 wr.heap.size 5 p.2) (by simp)).trans ?_
  exact Chg.of_below (Z5 _ _) _
 have hc3:=m3 rfl
 have own3:∀ {x:Value} {n:Nat} {xs:List Value} {t:TypeId} {sz b:Nat},w2.ownsRow b t sz x n xs→(∀ q,x.ownBlock=some q→q≠wr.heap.size)→((w2.setCell ⟨wr.heap.size,5,none⟩ p.2).alloc (.cells X6 97)).ownsRow b t sz x n xs:=fun hx hn=>X9 hx hc3 fun q hq hm=>hn q hq (List.mem_singleton.1 hm)
 have lt3:∀ x,x ∈ v1 :: v2 :: v3 :: X7 sv→∀ q,x.ownBlock=some q→q≠wr.heap.size:=fun x hx q hq=>by have:=(h.cop.lt x hx q hq).2;omega
 have c3:Cop ((w2.setCell ⟨wr.heap.size,5,none⟩ p.2).alloc (.cells X6 97)) (w.heap.size+1+1+1) v1 v2 v3 sv D k :=
  ⟨own3 c2.words (lt3 v1 (by simp)),own3 c2.dirty (lt3 v2 (by simp)),c2.spans.chg hc3 (fun q hq hm=>lt3 v3 (by simp) q hq (List.mem_singleton.1 hm)) (fun x hx q hq hm=>lt3 x (by simp [hx]) q hq (List.mem_singleton.1 hm)),c2.nodup,
   fun x hx q hq=>by have:=c2.lt x hx q hq;have:=hc3.size;omega⟩
 have p1:=V8 (own3 o12 fun q hq=>by have:=(o1.lt q hq).1;omega) (show w.heap.size+1+1+1≤wr.heap.size+1 by omega)
 have p2:=V8 (own3 o2 fun q hq=>by have:=(o2.lt q hq).1;omega) (show w.heap.size+1+1+1≤w1.heap.size by omega)
 have nd:(((v1 :: X7 sv) ++ [p.1,p.2]).filterMap Value.ownBlock).Nodup:=by
  rw [List.filterMap_append,List.nodup_append]
  refine ⟨h.cop.nodup,?_,fun a ha b hb e=>?_⟩
  ·have:∀ q r,p.1.ownBlock=some q→p.2.ownBlock=some r→q≠r:=fun q r hq hr=>by
    have:=(o1.lt q hq).2
    have:=(o2.lt r hr).1
    omega
   cases h1:p.1.ownBlock with
   | none=>cases h2:p.2.ownBlock <;> simp [h1,h2]
   | some q=>cases h2:p.2.ownBlock with
    | none=>simp [h1,h2]
    | some r=>simp [h1,h2,this q r h1 h2]
  ·obtain ⟨x,hx,hxa⟩:=List.mem_filterMap.1 ha
   have l1:a<wr.heap.size:=by
    rcases List.mem_cons.1 hx with rfl | hx
    ·exact (h.cop.lt x (by simp) a hxa).2
    ·exact (h.cop.lt x (by simp [hx]) a hxa).2
   obtain ⟨y,hy,hyb⟩:=List.mem_filterMap.1 hb
   simp at hy
   rcases hy with rfl | rfl
   ·have:=(o1.lt b hyb).1;omega
   ·have:=(o2.lt b hyb).1;omega
 have c4:Cop w3 (w.heap.size+1+1+1) v1 v2 v3' (sv ++ [p]) D (k+1):=c3.snoc hs (lo:=0) (.inr trivial) g3 o3 p1 p2 nd
 have hB3:w.heap.size+1+1<wr.heap.size:=by omega
 have keep:∀ {b:Nat} {o:Obj},b<w.heap.size+1+1+1→wr.heap[b]?=some o→w3.heap[b]?=some o:=fun {b o} hb ho=>by
  refine C6 g3 (by simp;omega) (fun r hr=>by have:=(h.cop.lt v3 (by simp) r hr).1;omega) ?_
  refine Z6 (Z5 _ _) ?_
  rw [heap_setCell_other w2 ⟨wr.heap.size,5,none⟩ b p.2 (by simp;omega),k2.block b (by omega) (by simp;omega)]
  exact Z6 b1 ho
 have bA:=keep (by omega) h.boxA
 have bC:=keep (by omega) h.boxC
 have bR:=keep (by omega) h.boxR
 refine ⟨?_,?_,?_,?_,by simp;omega,?_⟩
 ·have e1:Below w.heap.size w w1:=h.below.trans (b1.mono (by omega))
  have e2:Below w.heap.size w w2:=Chg.below e1 hc2 (by omega) (fun x hx=>by rw [List.mem_singleton.1 hx];omega)
  have e3:=Chg.below e2 hc3 (by omega) (fun x hx=>by rw [List.mem_singleton.1 hx];omega)
  have e4:Below w.heap.size w w3:=e3.grown g3 (by simp;omega) (fun q hq=>by have:=(h.cop.lt v3 (by simp) q hq).1;omega)
  exact e4.setCell (p:=⟨w.heap.size+1+1,4,none⟩) (by simp;omega) _
 ·rw [heap_setCell_other w3 ⟨w.heap.size+1+1,4,none⟩ w.heap.size v3' (by simp;omega)]
  exact bA
 ·rw [heap_setCell_other w3 ⟨w.heap.size+1+1,4,none⟩ (w.heap.size+1) v3' (by simp)]
  exact bR
 ·exact heap_setCell_same w3 (w.heap.size+1+1) 4 _ _ v3' bC
 ·exact c4.kept (Chg.of_grown (V5 w3 (w.heap.size+1+1) 4 v3') (bs:=[w.heap.size+1+1]) (by simp)) (fun q hq=>by rw [List.mem_singleton.1 hq];omega)
theorem step2n {x x':World} {e:TypeId} {n:Nat} (hn:x.heap.size=n) (g:(x.alloc (.cells #[] e)).grownBy x' (some n)):Below x.heap.size x x'∧n<x'.heap.size:=by subst hn;exact step2 g
theorem St1.start {w w1 w2:World} {A:Array Value} {D:WD} {v1 v2 vs vm vg vw vd:Value}
  (hA:(((w.alloc (.cells A 30)).alloc (.cells #[.int .i64 0,.int .i64 0,.slice none 0 0,.slice none 0 0,.slice none 0 0,.slice none 0 0,.int .i64 0,.int .i64 0,.slice none 0 0] 30)).alloc (.cells #[.int .i64 D.base,.int .i64 D.pages,vw,vd,vs,vm,.int .i64 D.phase,.int .i64 D.next,vg] 30)).heap[w.heap.size]?=some (.cells A 30 (0,0)))
  (hR:(((w.alloc (.cells A 30)).alloc (.cells #[.int .i64 0,.int .i64 0,.slice none 0 0,.slice none 0 0,.slice none 0 0,.slice none 0 0,.int .i64 0,.int .i64 0,.slice none 0 0] 30)).alloc (.cells #[.int .i64 D.base,.int .i64 D.pages,vw,vd,vs,vm,.int .i64 D.phase,.int .i64 D.next,vg] 30)).heap[w.heap.size+1]?=some (.cells #[.int .i64 0,.int .i64 0,.slice none 0 0,.slice none 0 0,.slice none 0 0,.slice none 0 0,.int .i64 0,.int .i64 0,.slice none 0 0] 30 (0,0)))
  (hC:(((w.alloc (.cells A 30)).alloc (.cells #[.int .i64 0,.int .i64 0,.slice none 0 0,.slice none 0 0,.slice none 0 0,.slice none 0 0,.int .i64 0,.int .i64 0,.slice none 0 0] 30)).alloc (.cells #[.int .i64 D.base,.int .i64 D.pages,vw,vd,vs,vm,.int .i64 D.phase,.int .i64 D.next,vg] 30)).heap[w.heap.size+1+1]?=some (.cells #[.int .i64 D.base,.int .i64 D.pages,vw,vd,vs,vm,.int .i64 D.phase,.int .i64 D.next,vg] 30 (0,0)))
  (hb:Below w.heap.size w (((w.alloc (.cells A 30)).alloc (.cells #[.int .i64 0,.int .i64 0,.slice none 0 0,.slice none 0 0,.slice none 0 0,.slice none 0 0,.int .i64 0,.int .i64 0,.slice none 0 0] 30)).alloc (.cells #[.int .i64 D.base,.int .i64 D.pages,vw,vd,vs,vm,.int .i64 D.phase,.int .i64 D.next,vg] 30)))
  (g1:((((w.alloc (.cells A 30)).alloc (.cells #[.int .i64 0,.int .i64 0,.slice none 0 0,.slice none 0 0,.slice none 0 0,.slice none 0 0,.int .i64 0,.int .i64 0,.slice none 0 0] 30)).alloc (.cells #[.int .i64 D.base,.int .i64 D.pages,vw,vd,vs,vm,.int .i64 D.phase,.int .i64 D.next,vg] 30)).alloc (.cells #[] 3)).grownBy w1 (some (w.heap.size+1+1+1)))
  (o1:w1.ownsRow (w.heap.size+1+1+1) 3 1 v1 D.words.length (D.words.map (Value.int .i64)))
  (g2:((w1.setCell ⟨w.heap.size+1+1,2,none⟩ v1).alloc (.cells #[] 4)).grownBy w2 (some w1.heap.size))
  (o2:w2.ownsRow w1.heap.size 4 1 v2 D.dirty.length (D.dirty.map Value.bool)) :
  St1 w ((w2.setCell ⟨w.heap.size+1+1,3,none⟩ v2).setCell ⟨w.heap.size+1+1,4,none⟩ (.slice none 0 0)) A D v1 v2 (.slice none 0 0) vm vg [] 0:=by
 generalize hW:((w.alloc (.cells A 30)).alloc (.cells #[.int .i64 0,.int .i64 0,.slice none 0 0,.slice none 0 0,.slice none 0 0,.slice none 0 0,.int .i64 0,.int .i64 0,.slice none 0 0] 30)).alloc (.cells #[.int .i64 D.base,.int .i64 D.pages,vw,vd,vs,vm,.int .i64 D.phase,.int .i64 D.next,vg] 30)=W at *
 have hz:W.heap.size=w.heap.size+1+1+1:=by rw [← hW];simp
 obtain ⟨b1,z1⟩:=step2 (by rw [hz];exact g1)
 have A1:=Z6 b1 hA
 have R1:=Z6 b1 hR
 have C1:=Z6 b1 hC
 obtain ⟨C2,k2,z2⟩:=step3 (by omega) C1 g2
 have A2:w2.heap[w.heap.size]?=some (.cells A 30 (0,0)):=(k2.block _ (by omega) (by simp only [List.mem_singleton];omega)).trans A1
 have C3:=heap_setCell_same w2 (w.heap.size+1+1) 3 _ _ v2 C2
 have C4:=heap_setCell_same (w2.setCell ⟨w.heap.size+1+1,3,none⟩ v2) (w.heap.size+1+1) 4 _ _ (.slice none 0 0) C3
 have kk:Chg [w.heap.size+1+1] w2 ((w2.setCell ⟨w.heap.size+1+1,3,none⟩ v2).setCell ⟨w.heap.size+1+1,4,none⟩ (.slice none 0 0)) :=
  (Chg.of_grown (V5 w2 (w.heap.size+1+1) 3 v2) (by simp)).trans (Chg.of_grown (V5 (w2.setCell ⟨w.heap.size+1+1,3,none⟩ v2) (w.heap.size+1+1) 4 (.slice none 0 0)) (by simp))
 have l1:∀ q,v1.ownBlock=some q→w.heap.size+1+1+1≤q∧q<w1.heap.size:=o1.lt
 have l2:∀ q,v2.ownBlock=some q→w1.heap.size≤q∧q<w2.heap.size:=o2.lt
 refine ⟨?_,?_,?_,C4,by simp;omega,⟨?_,?_,⟨World.ownsRow_nil _ _ _ _,rfl,fun i s p hs=>by simp at hs⟩,?_,?_⟩⟩
 ·have e1:Below w.heap.size w w1:=hb.trans (b1.mono (by omega))
  have e2:=Chg.below e1 k2 (by omega) (fun x hx=>by rw [List.mem_singleton.1 hx];omega)
  exact Chg.below e2 kk (by omega) (fun x hx=>by rw [List.mem_singleton.1 hx];omega)
 ·exact (kk.block _ (by omega) (by simp only [List.mem_singleton];omega)).trans A2
 ·exact (kk.block _ (by omega) (by simp only [List.mem_singleton];omega)).trans ((k2.block _ (by omega) (by simp only [List.mem_singleton];omega)).trans R1)
 ·refine X9 (X9 o1 k2 fun q hq hm=>?_) kk fun q hq hm=>?_
  all_goals (rw [List.mem_singleton.1 hm] at hq;have:=l1 _ hq;omega)
 ·refine V8 (X9 o2 kk fun q hq hm=>?_) (by omega)
  rw [List.mem_singleton.1 hm] at hq;have:=l2 _ hq;omega
 ·cases h:v1.ownBlock <;> simp [X7,h]
 ·intro x hx q hq
  have hz3:=kk.size
  simp only [X7,List.flatMap_nil,List.mem_cons,List.not_mem_nil,or_false] at hx
  rcases hx with rfl | rfl | rfl
  ·have:=l1 q hq;omega
  ·have:=l2 q hq;omega
  ·cases hq
theorem src_span (w2:World) (at_:Addr) (u:Value) (s:Y3) (a3 a4:Option Addr) (n3 n4 c3 c4:Nat):N1 ((w2.setCell at_ u).alloc (.cells #[.int .i64 s.page,.int .i64 s.cls,.int .i64 s.mark,.bool s.swept,.slice a3 n3 c3,.slice a4 n4 c4] 97)) (some ⟨w2.heap.size,0,none⟩) 1 6 (Q8 s (.slice a3 n3 c3,.slice a4 n4 c4)):=by
 have:=zln (w2.setCell at_ u) (cs:=#[.int .i64 s.page,.int .i64 s.cls,.int .i64 s.mark,.bool s.swept,.slice a3 n3 c3,.slice a4 n4 c4]) (T:=97) (m:=1) (size:=6) rfl (by
  intro u hu
  simp only [List.mem_cons,List.not_mem_nil,or_false] at hu
  rcases hu with rfl | rfl | rfl | rfl | rfl | rfl <;> rfl)
 rwa [World.size_setCell] at this
theorem St1.at1 {wr w1:World} {S6:Array Value} {T e:TypeId} (g1:((wr.alloc (.cells S6 T)).alloc (.cells #[] e)).grownBy w1 (some (wr.heap.size+1))) :
  w1.heap[wr.heap.size]?=some (.cells S6 T (0,0))∧Below wr.heap.size wr w1∧wr.heap.size+1<w1.heap.size:=by
 have hz:(wr.alloc (.cells S6 T)).heap.size=wr.heap.size+1:=by simp
 obtain ⟨b,z⟩:=step2n hz g1
 exact ⟨Z6 b (Y6 wr _),Z4 (Z5 wr _) b,z⟩
theorem St1.at2 {wr w1 w2:World} {S6:Array Value} {T e:TypeId} {u:Value} {i:Nat} (h1:w1.heap[wr.heap.size]?=some (.cells S6 T (0,0))) (b1:Below wr.heap.size wr w1) (hz:wr.heap.size+1<w1.heap.size)
  (g2:((w1.setCell ⟨wr.heap.size,i,none⟩ u).alloc (.cells #[] e)).grownBy w2 (some w1.heap.size)) :
  w2.heap[wr.heap.size]?=some (.cells (S6.setIfInBounds i u) T (0,0))∧Below wr.heap.size wr w2∧w1.heap.size<w2.heap.size:=by
 obtain ⟨t2,k2,z2⟩:=step3 (by omega) h1 g2
 exact ⟨t2,Chg.below b1 k2 (by omega) (fun x hx=>by rw [List.mem_singleton.1 hx];omega),z2⟩
theorem St1.at3 {wr w2:World} (b2:Below wr.heap.size wr w2) {i:Nat} {u:Value} {X:Array Value} {T:TypeId}:Below wr.heap.size wr ((w2.setCell ⟨wr.heap.size,i,none⟩ u).alloc (.cells X T)) :=
 (b2.setCell (p:=⟨wr.heap.size,i,none⟩) (Nat.le_refl _) u).trans ((Z5 _ _).mono (by simpa using b2.size))
structure St2 (w wr:World) (A:Array Value) (D:WD) (v1 v2 v3 v5 vg:Value) (sv:List (Value × Value)) (mv:List Value) (k:Nat):Prop where
 below:Below w.heap.size w wr
 boxA:wr.heap[w.heap.size]?=some (.cells A 30 (0,0))
 boxR:wr.heap[w.heap.size+1]?=some (.cells #[.int .i64 0,.int .i64 0,.slice none 0 0,.slice none 0 0,.slice none 0 0,.slice none 0 0,.int .i64 0,.int .i64 0,.slice none 0 0] 30 (0,0))
 boxC:wr.heap[w.heap.size+1+1]?=some (.cells #[.int .i64 D.base,.int .i64 D.pages,v1,v2,v3,v5,.int .i64 D.phase,.int .i64 D.next,vg] 30 (0,0))
 size:w.heap.size+1+1+1≤wr.heap.size
 words:wr.ownsRow (w.heap.size+1+1+1) 3 1 v1 D.words.length (D.words.map (Value.int .i64))
 dirty:wr.ownsRow (w.heap.size+1+1+1) 4 1 v2 D.dirty.length (D.dirty.map Value.bool)
 spans:OwnS wr (w.heap.size+1+1+1) v3 D.spans sv
 muts:OwnM wr (w.heap.size+1+1+1) v5 (D.muts.take k) mv
 nodup:((v1 :: X7 sv ++ mv).filterMap Value.ownBlock).Nodup
 lt:∀ x,x ∈ v1 :: v2 :: v3 :: v5 :: (X7 sv ++ mv)→∀ q,x.ownBlock=some q→w.heap.size+1+1+1≤q∧q<wr.heap.size
theorem OwnS.below {w w':World} {base:Nat} {v:Value} {L:List Y3} {sv:List (Value × Value)} (h:OwnS w base v L sv) (hb:Below w.heap.size w w'):OwnS w' base v L sv:=h.chg (Chg.of_below hb []) (fun _ _=>by simp) (fun _ _ _ _=>by simp)
theorem St2.start {w wr:World} {A:Array Value} {D:WD} {v1 v2 v3 vm vg:Value} {sv:List (Value × Value)} (h:St1 w wr A D v1 v2 v3 vm vg sv D.spans.length) :
  St2 w (wr.setCell ⟨w.heap.size+1+1,5,none⟩ (.slice none 0 0)) A D v1 v2 v3 (.slice none 0 0) vg sv [] 0:=by
 have c:Chg [w.heap.size+1+1] wr (wr.setCell ⟨w.heap.size+1+1,5,none⟩ (.slice none 0 0)):=Chg.of_grown (V5 wr (w.heap.size+1+1) 5 (.slice none 0 0)) (by simp)
 have hs:=h.size
 have k:=h.cop.kept c (fun q hq=>by rw [List.mem_singleton.1 hq];omega)
 have e:D.spans.take D.spans.length=D.spans:=List.take_length
 refine ⟨h.below.setCell (p:=⟨w.heap.size+1+1,5,none⟩) (by simp;omega) _,?_,?_,heap_setCell_same wr (w.heap.size+1+1) 5 _ _ _ h.boxC,by simpa using hs,k.words,k.dirty,by have:=k.spans;rwa [e] at this,⟨World.ownsRow_nil _ _ _ _,rfl,fun i r u hr=>by simp at hr⟩,by simpa using k.nodup,fun x hx q hq=>?_⟩
 ·rw [heap_setCell_other wr ⟨w.heap.size+1+1,5,none⟩ w.heap.size _ (by simp;omega)]
  exact h.boxA
 ·rw [heap_setCell_other wr ⟨w.heap.size+1+1,5,none⟩ (w.heap.size+1) _ (by simp)]
  exact h.boxR
 ·simp only [List.append_nil,List.mem_cons] at hx
  rcases hx with rfl | rfl | rfl | rfl | hx
  ·exact k.lt _ (by simp) q hq
  ·exact k.lt _ (by simp) q hq
  ·exact k.lt _ (by simp) q hq
  ·cases hq
  ·exact k.lt _ (by simp [hx]) q hq
theorem St2.next {w wr y0 w1 y1 w2 wF:World} {A:Array Value} {D:WD} {v1 v2 v3 v5 vg v5' u:Value} {sv:List (Value × Value)} {mv:List Value} {k:Nat} (h:St2 w wr A D v1 v2 v3 v5 vg sv mv k) {r:List Int} (hr:D.muts[k]?=some r)
  (hy0:Below wr.heap.size wr y0) (g1:y0.grownBy w1 (some wr.heap.size)) (o1:w1.ownsRow wr.heap.size 3 1 u r.length (r.map (Value.int .i64)))
  (hy1:Below w1.heap.size w1 y1) (g2:y1.grownBy w2 v5.ownBlock) (o2:w2.ownsRow (w.heap.size+1+1+1) 74 1 v5' ((D.muts.take k).length+1) (mv ++ [u]))
  (hF:Chg [w.heap.size+1+1] w2 wF) (hC:wF.heap[w.heap.size+1+1]?=some (.cells #[.int .i64 D.base,.int .i64 D.pages,v1,v2,v3,v5',.int .i64 D.phase,.int .i64 D.next,vg] 30 (0,0))) :
  St2 w wF A D v1 v2 v3 v5' vg sv (mv ++ [u]) (k+1):=by
 obtain ⟨hk,rfl⟩:=List.getElem?_eq_some_iff.1 hr
 have hsz:=h.size
 have b1:Below wr.heap.size wr w1:=hy0.grown g1 hy0.size (fun q hq=>by cases hq;exact Nat.le_refl _)
 have b2:Below wr.heap.size wr y1:=b1.trans (hy1.mono b1.size)
 have c2:Chg v5.ownBlock.toList y1 w2:=Chg.of_grown g2 fun x hx=>by rw [hx];simp
 have e:D.muts.take (k+1)=D.muts.take k ++ [D.muts[k]]:=List.take_succ_eq_append_getElem hk
 have hl:=h.muts.len
 have m1:=h.muts.below b2
 have ty:∀ {x:Value} {n:Nat} {xs:List Value} {t:TypeId} {sz b:Nat},y1.ownsRow b t sz x n xs→t≠74→∀ q,x.ownBlock=some q→q ∉ v5.ownBlock.toList:=fun hx ht q hq hm=>by
  refine L7 hx m1.row ht q hq ?_
  cases hv:v5.ownBlock with
  | none=>rw [hv] at hm;simp at hm
  | some b=>rw [hv] at hm;simp at hm;rw [hm]
 have fin:∀ {x:Value} {n b:Nat} {xs:List Value} {t:TypeId} {sz:Nat},y1.ownsRow b t sz x n xs→t≠74→w.heap.size+1+1+1≤b→wF.ownsRow b t sz x n xs:=fun hx ht hb =>
  X9 (X9 hx c2 (ty hx ht)) hF fun q hq hm=>by have:=(hx.lt q hq).1;rw [List.mem_singleton.1 hm] at this;omega
 have o1':=Y9 o1 hy1
 have u1:=fin o1' (by decide) hsz
 have z1:=b1.size
 have z2:=b2.size
 have z3:=c2.size
 have z4:=hF.size
 have z5:=hy1.size
 have hlt:∀ x,x ∈ v1 :: v2 :: v3 :: v5 :: (X7 sv ++ mv)→∀ q,x.ownBlock=some q→w.heap.size+1+1+1≤q∧q<wF.heap.size:=fun x hx q hq=>by have:=h.lt x hx q hq;omega
 refine ⟨?_,?_,?_,hC,by omega,fin (Y9 h.words b2) (by decide) (Nat.le_refl _),fin (Y9 h.dirty b2) (by decide) (Nat.le_refl _),?_,⟨?_,by rw [e,List.length_append,List.length_append,hl];rfl,?_⟩,?_,?_⟩
 ·have e1:Below w.heap.size w y1:=h.below.trans (b2.mono (by omega))
  have e2:Below w.heap.size w w2:=e1.grown g2 (by omega) (fun q hq=>by have:=(h.lt v5 (by simp) q hq).1;omega)
  exact Chg.below e2 hF (by omega) (fun x hx=>by rw [List.mem_singleton.1 hx];omega)
 ·rw [hF.block _ (by omega) (by simp only [List.mem_singleton];omega)]
  exact C6 g2 (by omega) (fun q hq=>by have:=(h.lt v5 (by simp) q hq).1;omega) (Z6 b2 h.boxA)
 ·rw [hF.block _ (by omega) (by simp only [List.mem_singleton];omega)]
  exact C6 g2 (by omega) (fun q hq=>by have:=(h.lt v5 (by simp) q hq).1;omega) (Z6 b2 h.boxR)
 ·refine ⟨fin (Y9 h.spans.row b2) (by decide) (Nat.le_refl _),h.spans.len,fun i s p hs hp=>?_⟩
  have:=(h.spans.below b2).inner i s p hs hp
  exact ⟨fin this.1 (by decide) (Nat.le_refl _),fin this.2 (by decide) (Nat.le_refl _)⟩
 ·rw [e,List.length_append]
  exact X9 o2 hF fun q hq hm=>by have:=(o2.lt q hq).1;rw [List.mem_singleton.1 hm] at this;omega
 ·intro i r' u' hr' hu'
  rw [e] at hr'
  by_cases hi:i<(D.muts.take k).length
  ·rw [List.getElem?_append_left hi] at hr'
   rw [List.getElem?_append_left (by omega)] at hu'
   exact fin (m1.inner i r' u' hr' hu') (by decide) (Nat.le_refl _)
  ·have hi2:i=(D.muts.take k).length:=by
    have:=(List.getElem?_eq_some_iff.1 hr').1
    simp at this hi ⊢
    omega
   subst hi2
   rw [List.getElem?_append_right (Nat.le_refl _)] at hr'
   rw [List.getElem?_append_right (by omega)] at hu'
   simp [hl] at hr' hu'
   subst hr'
   subst hu'
   exact V8 u1 hsz
 ·rw [← List.append_assoc,List.filterMap_append,List.nodup_append]
  refine ⟨h.nodup,by cases hq:u.ownBlock <;> simp [hq],fun a ha b hb eab=>?_⟩
  obtain ⟨x,hx,hxa⟩:=List.mem_filterMap.1 ha
  have l1:a<wr.heap.size:=(h.lt x (by
   simp only [List.cons_append,List.mem_cons] at hx ⊢
   rcases hx with rfl | hx
   ·exact .inl rfl
   ·exact .inr (.inr (.inr (.inr hx)))) a hxa).2
  obtain ⟨y,hy,hyb⟩:=List.mem_filterMap.1 hb
  rw [List.mem_singleton] at hy
  subst hy
  have:=(o1.lt b hyb).1
  omega
 ·intro x hx q hq
  simp only [List.mem_cons,List.mem_append,List.not_mem_nil,or_false] at hx
  rcases hx with rfl | rfl | rfl | rfl | hx | hx | rfl
  ·exact hlt _ (by simp) q hq
  ·exact hlt _ (by simp) q hq
  ·exact hlt _ (by simp) q hq
  ·have:=o2.lt q hq;omega
  ·exact hlt _ (by simp [hx]) q hq
  ·exact hlt _ (by simp [hx]) q hq
  ·have:=u1.lt q hq;omega
theorem St2.own {w wr:World} {A:Array Value} {D:WD} {v1 v2 v3 v5 vg vg':Value} {sv:List (Value × Value)} {mv:List Value} (h:St2 w wr A D v1 v2 v3 v5 vg sv mv D.muts.length) {y0 w1:World}
  (hy0:Below wr.heap.size wr y0) (g1:y0.grownBy w1 (some wr.heap.size)) (o1:w1.ownsRow wr.heap.size 3 1 vg' D.grey.length (D.grey.map (Value.int .i64))) {wF:World} {bs:List Nat} (hF:Chg bs w1 wF) (hbs:∀ q,q ∈ bs→q<w.heap.size+1+1+1∧w.heap.size≤q) :
  OwnW wF w.heap.size ⟨v1,v2,v3,v5,vg',sv,mv⟩ D∧Below w.heap.size w wF:=by
 have hsz:=h.size
 have b1:Below wr.heap.size wr w1:=hy0.grown g1 hy0.size (fun q hq=>by cases hq;exact Nat.le_refl _)
 have z1:=b1.size
 have fin:∀ {x:Value} {n b:Nat} {xs:List Value} {t:TypeId} {sz:Nat},w1.ownsRow b t sz x n xs→w.heap.size+1+1+1≤b→wF.ownsRow w.heap.size t sz x n xs:=fun hx hb =>
  V8 (X9 hx hF fun q hq hm=>by have:=(hx.lt q hq).1;have:=(hbs q hm).1;omega) (by omega)
 have e:D.muts.take D.muts.length=D.muts:=List.take_length
 have m:=h.muts.below b1
 rw [e] at m
 have s:=h.spans.below b1
 refine ⟨⟨fin (Y9 h.words b1) (Nat.le_refl _),fin (Y9 h.dirty b1) (Nat.le_refl _),fin s.row (Nat.le_refl _),s.len,fun i s' p h1 h2=>⟨fin (s.inner i s' p h1 h2).1 (Nat.le_refl _),fin (s.inner i s' p h1 h2).2 (Nat.le_refl _)⟩,fin m.row (Nat.le_refl _),m.len,fun i r v h1 h2=>fin (m.inner i r v h1 h2) (Nat.le_refl _),fin o1 hsz,?_⟩,Chg.below (h.below.trans (b1.mono (by omega))) hF (by have:=h.below.size;omega) (fun q hq=>(hbs q hq).2)⟩
 show ((v1 :: X7 sv ++ mv ++ [vg']).filterMap Value.ownBlock).Nodup
 rw [List.filterMap_append,List.nodup_append]
 refine ⟨h.nodup,by cases hq:vg'.ownBlock <;> simp [hq],fun a ha b hb eab=>?_⟩
 obtain ⟨x,hx,hxa⟩:=List.mem_filterMap.1 ha
 have l1:a<wr.heap.size:=(h.lt x (by
  simp only [List.cons_append,List.mem_cons] at hx ⊢
  rcases hx with rfl | hx
  ·exact .inl rfl
  ·exact .inr (.inr (.inr (.inr hx)))) a hxa).2
 obtain ⟨y,hy,hyb⟩:=List.mem_filterMap.1 hb
 rw [List.mem_singleton] at hy
 subst hy
 have:=(o1.lt b hyb).1
 omega
theorem zxe (L:List Y3) (k:Nat) (s t:Y3) (hs:L[k]?=some s) (hb:t.bulk=s.bulk):zmo (L.set k t)=zmo L:=by
 induction L generalizing k with
 | nil=>simp at hs
 | cons a L ih =>
  cases k with
  | zero =>
   simp at hs
   subst hs
   simp [zmo,hb]
  | succ k =>
   have:=ih k (by simpa using hs)
   simp only [zmo,List.set_cons_succ,List.map_cons,List.sum_cons] at this ⊢
   omega
def zoc (D:WD) (c:Int) (k:Nat):Prop:=∀ (i:Nat) (s:Y3),i<k→D.spans[i]?=some s→s.cls=c→∀ j,j<s.lens.length→s.lens[j]?.getD 0≠0
def F3 (D:WD) (c:Int) (k:Nat):Y3:=⟨(k:Int),c,0,D.phase == 4,List.replicate (sl' c).toNat 0,List.replicate (sl' c).toNat 0⟩
def insD (D:WD) (c:Int) (k:Nat):WD:={ D with spans:=D.spans.take k ++ F3 D c k :: D.spans.drop k }
def J7 (D:WD) (c:Int) (D1:WD) (k j:Nat):Prop :=
 (D1=D∧∃ s,D.spans[k]?=some s∧s.cls=c∧j<s.lens.length∧s.lens[j]?.getD 0=0∧(∀ i,i<j→s.lens[i]?.getD 0≠0)∧zoc D c k) ∨
 (zoc D c D.spans.length∧ziy D k∧(k:Int)≠D.pages∧D1=insD D c k∧j=0)
def zob (D:WD) (c:Int):Prop:=zoc D c D.spans.length∧∃ k:Nat,ziy D k∧(k:Int)=D.pages
def M7 (s:Y3) (j:Nat) (n p:Int):Y3:={ s with lens:=s.lens.set j n,ptrs:=s.ptrs.set j p }
def zgp (D:WD) (k:Nat) (s:Y3) (j:Nat) (n p:Int):WD :=
 { D with dirty:=zfr D.dirty (atW s (j:Int)) n,spans:=D.spans.set k (M7 s j n p) }
theorem ziy.unique {D:WD} {k k':Nat} (h:ziy D k) (h':ziy D k'):k=k':=by
 have key:∀ {a b:Nat},ziy D a→ziy D b→¬ a<b:=fun {a b} ha hb hlt=>by
  obtain ⟨s,hs⟩:∃ s,D.spans[a]?=some s:=⟨_,List.getElem?_eq_getElem (by have:=hb.1;omega)⟩
  exact ha.2.2 s hs (hb.2.1 a s hlt hs)
 have h1:=key h h'
 have h2:=key h' h
 omega
theorem J7.unique {D:WD} {c:Int} {D1 D2:WD} {k j k' j':Nat} (h:J7 D c D1 k j) (h':J7 D c D2 k' j'):D2=D1∧k'=k∧j'=j:=by
 rcases h with ⟨rfl,s,hs,hc,hj,h0,hb,hf⟩ | ⟨hf,hp,hn,rfl,rfl⟩ <;> rcases h' with ⟨rfl,s',hs',hc',hj',h0',hb',hf'⟩ | ⟨hf',hp',hn',rfl,rfl⟩
 ·have e:k'=k:=by
   rcases Nat.lt_trichotomy k k' with h | h | h
   ·exact absurd h0 (hf' k s h hs hc j hj)
   ·exact h.symm
   ·exact absurd h0' (hf k' s' h hs' hc' j' hj')
  subst e
  rw [hs] at hs'
  cases hs'
  refine ⟨rfl,rfl,?_⟩
  rcases Nat.lt_trichotomy j j' with h | h | h
  ·exact absurd h0 (hb' j h)
  ·exact h.symm
  ·exact absurd h0' (hb j' h)
 ·exact absurd h0 (hf' k s (List.getElem?_eq_some_iff.1 hs).1 hs hc j hj)
 ·exact absurd h0' (hf k' s' (List.getElem?_eq_some_iff.1 hs').1 hs' hc' j' hj')
 ·obtain rfl:=hp.unique hp'
  exact ⟨rfl,rfl,rfl⟩
theorem J7.some {D:WD} {c:Int} {D1:WD} {k j:Nat} (h:J7 D c D1 k j):¬ zob D c:=by
 rintro ⟨hf,q,hq,hn⟩
 rcases h with ⟨rfl,s,hs,hc,hj,h0,hb,_⟩ | ⟨_,hp,hn',rfl,rfl⟩
 ·exact absurd h0 (hf k s (List.getElem?_eq_some_iff.1 hs).1 hs hc j hj)
 ·obtain rfl:=hp.unique hq
  exact hn' hn
theorem zzi {n:Int} (h1:1≤n) (h2:n≤16):0≤cl n∧cl n≤3∧sl' (cl n)≠0∧n≤sz (cl n):=by
 unfold cl
 rw [if_neg (by omega)]
 (repeat' split) <;> simp [sl',sz] <;> omega
theorem cl_no {n:Int} (h:n<1∨16<n):cl n=-1:=by
 unfold cl
 rcases h with h | h
 ·rw [if_pos h]
 ·rw [if_neg (by omega),if_neg (by omega),if_neg (by omega),if_neg (by omega),if_neg (by omega)]
theorem Z8.slotIn {D:WD} (h:Z8 D) {k j:Nat} {s:Y3} (hk:D.spans[k]?=some s) (hj:j<s.lens.length):zev D s j:=by
 have A:=h.span k s hk
 have g:=h.geo
 exact ⟨A.cls,A.lens,A.ptrs,hj,A.pg0,A.pg1,h.words,h.dirty,g.2.2.2.2.1⟩
end Go.Proofs.YtilkidaihbhfpaaGreat
