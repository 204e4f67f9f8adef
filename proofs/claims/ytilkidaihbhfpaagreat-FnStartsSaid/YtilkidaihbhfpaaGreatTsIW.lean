import Derived.Test.YtilkidaihbhfpaaGreatTsN
import Derived.Test.YtilkidaihbhfpaaGreatTsP
import Derived.Test.YtilkidaihbhfpaaGreatTsV
import Derived.Test.YtilkidaihbhfpaaGreatTsQ
import Derived.Maps.RangeWalk
import Derived.Test.YtilkidaihbhfpaaGreatTsSW
import Derived.Laws.EntriesVeiled

set_option maxRecDepth 100000
set_option maxHeartbeats 16000000
namespace Go.Proofs.YtilkidaihbhfpaaGreat
open Go.RowKit
set_option linter.unusedVariables false
theorem zcS_any (V:Nat) (Bz:Nat) (P:Int→Prop) (x:Int) (hx:I64 x) (w:World) (hc:w.cell? ⟨Bz,0,none⟩=some (.func (.func 137) #[.pointer (some ⟨V,0,none⟩)] #[])) (hP:Calls Tryz.prog 137 #[.pointer (some ⟨V,0,none⟩),.int .i64 x] w fun e w''=>IsB (P x) e∧Below w.heap.size w w'') :
  Calls Tryz.prog 163 #[.int .i64 x,.pointer (some ⟨Bz,0,none⟩)] w fun e w'=>IsB (x≠0∧¬ P x) e∧Below w.heap.size w w':=by
 have hP':=zaa hP
 clear hP
 by_cases c:x=0
 ·have y:=zaa (IsB.no (P:=x≠0∧¬ P x) fun h=>h.1 c)
  subst c
  clear hc
  go_enter Tryz.func163,Tryz.ntmps163
  go_wp2_with fail
  go_ret
  exact ⟨y.out,Below.refl _ _⟩
 have d:(x != 0)=true:=bne_iff_ne.2 c
 have hcx:=zaa c
 clear c
 go_enter Tryz.func163,Tryz.ntmps163
 go_wp2_with fail
 refine hP'.out.mono ?_
 rintro e w1 ⟨⟨r,rfl,hr⟩,b1⟩
 have y:=zaa (show IsB (x≠0∧¬ P x) (.returned (.bool (!r))) from ⟨_,rfl,by rw [← hr];have:=hcx.out;cases r <;> simp [this]⟩)
 have b1':=zaa b1
 clear hr b1 hP'
 go_wp2_with fail
 go_ret
 exact ⟨y.out,b1'.out⟩
theorem zwp (V:Nat) (Bz:Nat) (P:Int→Prop) (v:Value) (L:List Int) (hL:AllI L) (w:World) (hr:Rd w v L) (hc:w.cell? ⟨Bz,0,none⟩=some (.func (.func 137) #[.pointer (some ⟨V,0,none⟩)] #[])) (hP:∀ (x:Int) (w':World),I64 x→Below w.heap.size w w'→Calls Tryz.prog 137 #[.pointer (some ⟨V,0,none⟩),.int .i64 x] w' fun e w''=>IsB (P x) e∧Below w'.heap.size w' w'') :
  Calls Tryz.prog 176 #[v,.func (.func 163) #[] #[.pointer (some ⟨Bz,0,none⟩)]] w fun e w'=>∃ r:Int,e=.returned (.int .i64 r)∧Hid (0≤r↔∃ a,a ∈ L∧a≠0∧¬ P a)∧Below w.heap.size w w':=by
 have hP':=zaa hP
 have hL':=zaa hL
 have hc':=zaa hc
 obtain ⟨a1,c1,rfl,hl,r1⟩:=hr
 unfold maxLen at hl
 have r1:=zaa r1
 clear hP hL hc
 go_enter Tryz.func176,Tryz.ntmps176
 go_wp2_with fail
 go_loopw [8] (fun i wr=>∃ k:Nat,k≤L.length∧i=.int .i64 k∧Hid (zig P (L.take k))∧Hid (Below w.heap.size w wr)) (fun i _=>L.length-(Go.RowKit.intOf i).toNat)
 case atStart=>exact ⟨0,Nat.zero_le _,rfl,zaa (fun a h=>by simp at h),zaa (Below.refl _ _)⟩
 case round =>
  obtain ⟨k,hk,rfl,hno,hB⟩:=hrel
  by_cases hlt:k<L.length
  ·have hlt1:(k:Int)<(L.length:Int):=by omega
   obtain ⟨b1,o1,rfl,x0⟩:=r1.out k hlt
   have x1:=Z7 hB.out x0
   have hmem:=zaa (show L[k]?.getD 0 ∈ L by rw [List.getElem?_eq_getElem hlt];exact List.getElem_mem hlt)
   have hyes:=zaa (show ¬ (L[k]?.getD 0≠0∧¬ P (L[k]?.getD 0))→zig P (L.take (k+1)) from fun h a ha=>by
    rw [M0 hlt] at ha
    rcases List.mem_append.1 ha with m | m
    ·exact hno.out a m
    ·rw [List.mem_singleton.1 m]
     exact Classical.byContradiction fun h2=>h ⟨fun e=>h2 (.inl e),fun e=>h2 (.inr e)⟩)
   clear x0
   have hx:=hL'.out _ hmem.out
   generalize L[k]?.getD 0=x at *
   have hcall:=zaa (zcS_any V Bz P x hx wr (Z7 hB.out hc'.out) (hP'.out x wr hx hB.out))
   have hlen:k≤9223372036854775807:=by omega
   clear hx
   go_wp2_with fail
   refine hcall.out.mono ?_
   rintro e w2 ⟨hq,b2⟩
   replace hq:=hq.elim
   have hB2:=zaa (Z4 hB.out b2)
   clear b2 hcall x1
   rcases hq with ⟨hq,rfl⟩ | ⟨hq,rfl⟩
   ·have y:=zaa (show 0≤(k:Int)↔∃ a,a ∈ L∧a≠0∧¬ P a from ⟨fun _=>⟨x,hmem.out,hq⟩,fun _=>by omega⟩)
    clear hq
    go_wp2_with fail
    go_ret
    exact ⟨_,rfl,y,hB2.out⟩
   ·have hn:=zaa (hyes.out hq)
    clear hq
    go_wp2_with fail
    go_roundw
    case rel=>exact ⟨k+1,by omega,by go_num,hn,hB2⟩
    case measure=>simp [Go.RowKit.intOf];omega
  obtain rfl:k=L.length:=by omega
  have y:=zaa (show 0≤(-1:Int)↔∃ a,a ∈ L∧a≠0∧¬ P a from ⟨fun h=>absurd h (by omega),fun h=>absurd (show zig P L by simpa using hno.out) (zjb.1 h)⟩)
  go_wp2_with fail
  go_ret
  exact ⟨_,rfl,y,hB.out⟩
theorem zwt (V:Nat) (Bz:Nat) (P:Int→Prop) (v:Value) (L:List Int) (hL:AllI L) (w:World) (hr:Rd w v L) (hc:w.cell? ⟨Bz,0,none⟩=some (.func (.func 137) #[.pointer (some ⟨V,0,none⟩)] #[])) (hP:∀ (x:Int) (w':World),I64 x→Below w.heap.size w w'→Calls Tryz.prog 137 #[.pointer (some ⟨V,0,none⟩),.int .i64 x] w' fun e w''=>IsB (P x) e∧Below w'.heap.size w' w'') :
  Calls Tryz.prog 162 #[v,.func (.func 163) #[] #[.pointer (some ⟨Bz,0,none⟩)]] w fun e w'=>IsB (∃ a,a ∈ L∧a≠0∧¬ P a) e∧Below w.heap.size w w':=by
 have hcall:=zaa (zwp V Bz P v L hL w hr hc hP)
 clear hr hc hP hL
 go_enter Tryz.func162,Tryz.ntmps162
 go_wp2_with fail
 refine hcall.out.mono ?_
 rintro e w1 ⟨r,rfl,hf,b1⟩
 have y:=zaa (show IsB (∃ a,a ∈ L∧a≠0∧¬ P a) (.returned (.bool (decide (0≤r)))) from ⟨_,rfl,by rw [decide_eq_true_iff];exact hf.out⟩)
 have b1':=zaa b1
 clear b1 hcall hf
 go_wp2_with fail
 go_ret
 exact ⟨y.out,b1'.out⟩
theorem zmz (V:Nat) (P:Int→Prop) (v:Value) (L:List Int) (hL:AllI L) (w:World) (hr:Rd w v L) (hP:∀ (x:Int) (w':World),I64 x→Below w.heap.size w w'→Calls Tryz.prog 137 #[.pointer (some ⟨V,0,none⟩),.int .i64 x] w' fun e w''=>IsB (P x) e∧Below w'.heap.size w' w'') :
  Calls Tryz.prog 136 #[v,.func (.func 137) #[.pointer (some ⟨V,0,none⟩)] #[]] w fun e w'=>IsB (zig P L) e∧Below w.heap.size w w':=by
 have bb:=zaa (Z5 w (.cells #[.func (.func 137) #[.pointer (some ⟨V,0,none⟩)] #[]] 88))
 have bx:=Y6 w (.cells #[.func (.func 137) #[.pointer (some ⟨V,0,none⟩)] #[]] 88)
 have hcall:=zaa (zwt V w.heap.size P v L hL _ (hr.below bb.out) (Z0 bx 0 _ rfl) (fun x w' hx hb=>hP x w' hx (Z4 bb.out hb)))
 have hmf:∀ (fn:Fn) (first cap:Array Value) (w:World),(Instr.makeFunc fn first cap).run Tryz.prog w=.ok (.func fn first cap) w:=fun _ _ _ _=>rfl
 clear hr hP hL bx
 go_enter Tryz.func136,Tryz.ntmps136
 go_wp2_with fail
 refine hcall.out.mono ?_
 rintro e w1 ⟨⟨r,rfl,hr⟩,b1⟩
 have y:=zaa (show IsB (zig P L) (.returned (.bool (!r))) from ⟨_,rfl,by
  have h2:=hr.trans (zjb (P:=P) (L:=L))
  cases r
  ·simp only [Bool.not_false,true_iff]
   exact Classical.byContradiction fun h=>by have:=h2.2 h;cases this
  ·simp only [Bool.not_true,Bool.false_eq_true,false_iff]
   exact h2.1 rfl⟩)
 have b1':=zaa (Z4 bb.out b1)
 clear b1 hcall hr
 go_wp2_with fail
 go_ret
 exact ⟨y.out,b1'.out⟩
theorem zcK_any (B1 B2:Nat) (Bz:Nat) (P:Int→Prop) (x:Int) (hx:I64 x) (w:World) (hc:w.cell? ⟨Bz,0,none⟩=some (.func (.func 144) #[] #[.pointer (some ⟨B1,0,none⟩),.pointer (some ⟨B2,0,none⟩)])) (hP:Calls Tryz.prog 144 #[.int .i64 x,.pointer (some ⟨B1,0,none⟩),.pointer (some ⟨B2,0,none⟩)] w fun e w''=>IsB (P x) e∧Below w.heap.size w w'') :
  Calls Tryz.prog 163 #[.int .i64 x,.pointer (some ⟨Bz,0,none⟩)] w fun e w'=>IsB (x≠0∧¬ P x) e∧Below w.heap.size w w':=by
 have hP':=zaa hP
 clear hP
 by_cases c:x=0
 ·have y:=zaa (IsB.no (P:=x≠0∧¬ P x) fun h=>h.1 c)
  subst c
  clear hc
  go_enter Tryz.func163,Tryz.ntmps163
  go_wp2_with fail
  go_ret
  exact ⟨y.out,Below.refl _ _⟩
 have d:(x != 0)=true:=bne_iff_ne.2 c
 have hcx:=zaa c
 clear c
 go_enter Tryz.func163,Tryz.ntmps163
 go_wp2_with fail
 refine hP'.out.mono ?_
 rintro e w1 ⟨⟨r,rfl,hr⟩,b1⟩
 have y:=zaa (show IsB (x≠0∧¬ P x) (.returned (.bool (!r))) from ⟨_,rfl,by rw [← hr];have:=hcx.out;cases r <;> simp [this]⟩)
 have b1':=zaa b1
 clear hr b1 hP'
 go_wp2_with fail
 go_ret
 exact ⟨y.out,b1'.out⟩
theorem zwq (B1 B2:Nat) (Bz:Nat) (P:Int→Prop) (v:Value) (L:List Int) (hL:AllI L) (w:World) (hr:Rd w v L) (hc:w.cell? ⟨Bz,0,none⟩=some (.func (.func 144) #[] #[.pointer (some ⟨B1,0,none⟩),.pointer (some ⟨B2,0,none⟩)])) (hP:∀ (x:Int) (w':World),I64 x→Below w.heap.size w w'→Calls Tryz.prog 144 #[.int .i64 x,.pointer (some ⟨B1,0,none⟩),.pointer (some ⟨B2,0,none⟩)] w' fun e w''=>IsB (P x) e∧Below w'.heap.size w' w'') :
  Calls Tryz.prog 176 #[v,.func (.func 163) #[] #[.pointer (some ⟨Bz,0,none⟩)]] w fun e w'=>∃ r:Int,e=.returned (.int .i64 r)∧Hid (0≤r↔∃ a,a ∈ L∧a≠0∧¬ P a)∧Below w.heap.size w w':=by
 have hP':=zaa hP
 have hL':=zaa hL
 have hc':=zaa hc
 obtain ⟨a1,c1,rfl,hl,r1⟩:=hr
 unfold maxLen at hl
 have r1:=zaa r1
 clear hP hL hc
 go_enter Tryz.func176,Tryz.ntmps176
 go_wp2_with fail
 go_loopw [8] (fun i wr=>∃ k:Nat,k≤L.length∧i=.int .i64 k∧Hid (zig P (L.take k))∧Hid (Below w.heap.size w wr)) (fun i _=>L.length-(Go.RowKit.intOf i).toNat)
 case atStart=>exact ⟨0,Nat.zero_le _,rfl,zaa (fun a h=>by simp at h),zaa (Below.refl _ _)⟩
 case round =>
  obtain ⟨k,hk,rfl,hno,hB⟩:=hrel
  by_cases hlt:k<L.length
  ·have hlt1:(k:Int)<(L.length:Int):=by omega
   obtain ⟨b1,o1,rfl,x0⟩:=r1.out k hlt
   have x1:=Z7 hB.out x0
   have hmem:=zaa (show L[k]?.getD 0 ∈ L by rw [List.getElem?_eq_getElem hlt];exact List.getElem_mem hlt)
   have hyes:=zaa (show ¬ (L[k]?.getD 0≠0∧¬ P (L[k]?.getD 0))→zig P (L.take (k+1)) from fun h a ha=>by
    rw [M0 hlt] at ha
    rcases List.mem_append.1 ha with m | m
    ·exact hno.out a m
    ·rw [List.mem_singleton.1 m]
     exact Classical.byContradiction fun h2=>h ⟨fun e=>h2 (.inl e),fun e=>h2 (.inr e)⟩)
   clear x0
   have hx:=hL'.out _ hmem.out
   generalize L[k]?.getD 0=x at *
   have hcall:=zaa (zcK_any B1 B2 Bz P x hx wr (Z7 hB.out hc'.out) (hP'.out x wr hx hB.out))
   have hlen:k≤9223372036854775807:=by omega
   clear hx
   go_wp2_with fail
   refine hcall.out.mono ?_
   rintro e w2 ⟨hq,b2⟩
   replace hq:=hq.elim
   have hB2:=zaa (Z4 hB.out b2)
   clear b2 hcall x1
   rcases hq with ⟨hq,rfl⟩ | ⟨hq,rfl⟩
   ·have y:=zaa (show 0≤(k:Int)↔∃ a,a ∈ L∧a≠0∧¬ P a from ⟨fun _=>⟨x,hmem.out,hq⟩,fun _=>by omega⟩)
    clear hq
    go_wp2_with fail
    go_ret
    exact ⟨_,rfl,y,hB2.out⟩
   ·have hn:=zaa (hyes.out hq)
    clear hq
    go_wp2_with fail
    go_roundw
    case rel=>exact ⟨k+1,by omega,by go_num,hn,hB2⟩
    case measure=>simp [Go.RowKit.intOf];omega
  obtain rfl:k=L.length:=by omega
  have y:=zaa (show 0≤(-1:Int)↔∃ a,a ∈ L∧a≠0∧¬ P a from ⟨fun h=>absurd h (by omega),fun h=>absurd (show zig P L by simpa using hno.out) (zjb.1 h)⟩)
  go_wp2_with fail
  go_ret
  exact ⟨_,rfl,y,hB.out⟩
theorem zwu (B1 B2:Nat) (Bz:Nat) (P:Int→Prop) (v:Value) (L:List Int) (hL:AllI L) (w:World) (hr:Rd w v L) (hc:w.cell? ⟨Bz,0,none⟩=some (.func (.func 144) #[] #[.pointer (some ⟨B1,0,none⟩),.pointer (some ⟨B2,0,none⟩)])) (hP:∀ (x:Int) (w':World),I64 x→Below w.heap.size w w'→Calls Tryz.prog 144 #[.int .i64 x,.pointer (some ⟨B1,0,none⟩),.pointer (some ⟨B2,0,none⟩)] w' fun e w''=>IsB (P x) e∧Below w'.heap.size w' w'') :
  Calls Tryz.prog 162 #[v,.func (.func 163) #[] #[.pointer (some ⟨Bz,0,none⟩)]] w fun e w'=>IsB (∃ a,a ∈ L∧a≠0∧¬ P a) e∧Below w.heap.size w w':=by
 have hcall:=zaa (zwq B1 B2 Bz P v L hL w hr hc hP)
 clear hr hc hP hL
 go_enter Tryz.func162,Tryz.ntmps162
 go_wp2_with fail
 refine hcall.out.mono ?_
 rintro e w1 ⟨r,rfl,hf,b1⟩
 have y:=zaa (show IsB (∃ a,a ∈ L∧a≠0∧¬ P a) (.returned (.bool (decide (0≤r)))) from ⟨_,rfl,by rw [decide_eq_true_iff];exact hf.out⟩)
 have b1':=zaa b1
 clear b1 hcall hf
 go_wp2_with fail
 go_ret
 exact ⟨y.out,b1'.out⟩
theorem zna (B1 B2:Nat) (P:Int→Prop) (v:Value) (L:List Int) (hL:AllI L) (w:World) (hr:Rd w v L) (hP:∀ (x:Int) (w':World),I64 x→Below w.heap.size w w'→Calls Tryz.prog 144 #[.int .i64 x,.pointer (some ⟨B1,0,none⟩),.pointer (some ⟨B2,0,none⟩)] w' fun e w''=>IsB (P x) e∧Below w'.heap.size w' w'') :
  Calls Tryz.prog 136 #[v,.func (.func 144) #[] #[.pointer (some ⟨B1,0,none⟩),.pointer (some ⟨B2,0,none⟩)]] w fun e w'=>IsB (zig P L) e∧Below w.heap.size w w':=by
 have bb:=zaa (Z5 w (.cells #[.func (.func 144) #[] #[.pointer (some ⟨B1,0,none⟩),.pointer (some ⟨B2,0,none⟩)]] 88))
 have bx:=Y6 w (.cells #[.func (.func 144) #[] #[.pointer (some ⟨B1,0,none⟩),.pointer (some ⟨B2,0,none⟩)]] 88)
 have hcall:=zaa (zwu B1 B2 w.heap.size P v L hL _ (hr.below bb.out) (Z0 bx 0 _ rfl) (fun x w' hx hb=>hP x w' hx (Z4 bb.out hb)))
 have hmf:∀ (fn:Fn) (first cap:Array Value) (w:World),(Instr.makeFunc fn first cap).run Tryz.prog w=.ok (.func fn first cap) w:=fun _ _ _ _=>rfl
 clear hr hP hL bx
 go_enter Tryz.func136,Tryz.ntmps136
 go_wp2_with fail
 refine hcall.out.mono ?_
 rintro e w1 ⟨⟨r,rfl,hr⟩,b1⟩
 have y:=zaa (show IsB (zig P L) (.returned (.bool (!r))) from ⟨_,rfl,by
  have h2:=hr.trans (zjb (P:=P) (L:=L))
  cases r
  ·simp only [Bool.not_false,true_iff]
   exact Classical.byContradiction fun h=>by have:=h2.2 h;cases this
  ·simp only [Bool.not_true,Bool.false_eq_true,false_iff]
   exact h2.1 rfl⟩)
 have b1':=zaa (Z4 bb.out b1)
 clear b1 hcall hr
 go_wp2_with fail
 go_ret
 exact ⟨y.out,b1'.out⟩
end Go.Proofs.YtilkidaihbhfpaaGreat

namespace Go.Proofs.YtilkidaihbhfpaaGreat
open Go.RowKit
open Go.Maps (Keyed)
set_option linter.unusedVariables false
def zty (w:World) (g:Nat):Nat:=match w.heap[g]? with
 | some (.map es _)=>es.size
 | _=>0
theorem zyy {w:World} {g n:Nat} {M:DataW Unit} {S:List Int} (h:OwnB w g n M) (hM:zke M S) (hn:S.Nodup):zty w g=S.length:=by
 have hp:S.Perm (intKeys M):=CollectedI.perm (left:=fun _=>false) ⟨hn,fun x=>by rw [← hM.has];simp⟩ h zjt Tryz.underlying3 (fun _=>rfl)
 obtain ⟨es,clock,hb,F,hs,rfl⟩:=h
 unfold zty
 rw [hb,hp.length_eq]
 simp [intKeys,length_sorted]
theorem own_init {w:World} {base:Nat} {a:Option Addr} {c:Nat} {T:List Int} {x:Int} (h:w.ownsRow base 3 1 (.slice a (T.length+1) c) (T ++ [x]).length ((T ++ [x]).map (Value.int .i64))) :
  ∃ g,a=some ⟨g,0,none⟩∧T.length+1≤c∧c≤maxLen∧w.cell? ⟨g,T.length,none⟩=some (.int .i64 x)∧w.ownsRow base 3 1 (.slice (some ⟨g,0,none⟩) T.length c) T.length (T.map (Value.int .i64)):=by
 rcases h.2 with ⟨h0,_⟩ | ⟨g,cap,cur,he,hb,hg,hnc,hcm,hcs,ht⟩
 ·simp at h0
 ·simp only [Value.slice.injEq,List.length_append,List.length_cons,List.length_nil,Nat.zero_add] at he
  obtain ⟨rfl,_,rfl⟩:=he
  simp only [List.length_append,List.length_cons,List.length_nil,Nat.zero_add,Nat.mul_one,List.map_append,List.map_cons,List.map_nil] at hnc ht
  refine ⟨g,rfl,hnc,hcm,?_,by simp,.inr ⟨g,c,cur,rfl,hb,hg,by omega,hcm,hcs,?_⟩⟩
  ·rw [cell_of_row w g T.length cur _ (0,0) hg]
   have:=congrArg (fun l=>l[T.length]?) ht
   simpa [List.getElem?_take] using this
  ·have:=congrArg (List.take T.length) ht
   rw [List.take_take,Nat.min_eq_left (by omega)] at this
   rw [Nat.mul_one,this,List.take_left' (by simp)]
theorem zms {D:WD} (h:AllI D.words) (s:Y3) (j:Nat):AllI (ptrW D s j):=fun x hx=>h x (List.mem_of_mem_drop (List.mem_of_mem_take hx))
theorem World.below_none {w wr w2 w3:World} {g:Nat} (hg:w2.grownBy w3 (some g)) (h1:Below w.heap.size w wr) (h2:Below wr.heap.size wr w2) (hg2:w.heap.size≤g):Below w.heap.size w w3 :=
 (Z4 h1 h2).grown hg (by have:=h1.size;have:=h2.size;omega) (fun q hq=>by cases hq;exact hg2)
structure SpSt (D:WD) (F:Nat→Nat→Prop) (fr:List Int) (w wr:World) (g:Nat) (v:Value) (S T:List Int):Prop where
 st:GoSt D F fr S T
 i64:AllI T
 len:T.length≤fr.length+16*S.length
 met:∃ M,zke M S∧OwnB wr g S.length M
 own:wr.ownsRow w.heap.size 3 1 v T.length (T.map (Value.int .i64))
 below:Below w.heap.size w wr
 lo:w.heap.size≤g
theorem SpSt.next {D:WD} {F:Nat→Nat→Prop} {fr S T:List Int} {w wr w2:World} {g:Nat} {v:Value} (h:SpSt D F fr w wr g v S T) (hb:Below wr.heap.size wr w2):SpSt D F fr w w2 g v S T :=
 ⟨h.st,h.i64,h.len,by obtain ⟨M,h1,h2⟩:=h.met;exact ⟨M,h1,h2.below hb⟩,Y9 h.own hb,Z4 h.below hb,h.lo⟩
theorem SpSt.mlen {D:WD} {F:Nat→Nat→Prop} {fr S T:List Int} {w wr:World} {g:Nat} {v:Value} (h:SpSt D F fr w wr g v S T):zty wr g=S.length:=by
 obtain ⟨M,h1,h2⟩:=h.met
 exact zyy h2 h1 h.st.nodup
theorem zpr {T:List Int} {x:Int} (a:Int):a ∈ T ++ [x]↔a=x∨a ∈ T:=by
 rw [List.mem_append,List.mem_singleton];exact Or.comm
theorem SpSt.skip {D:WD} {F:Nat→Nat→Prop} {fr S T:List Int} {x:Int} {w wr w2:World} {g:Nat} {v v':Value} (h:SpSt D F fr w wr g v S (T ++ [x])) (hx:¬ R7 D x∨x ∈ S) (ho:wr.ownsRow w.heap.size 3 1 v' T.length (T.map (Value.int .i64))) (hb:Below wr.heap.size wr w2):SpSt D F fr w w2 g v' S T :=
 SpSt.next ⟨h.st.skip zpr hx,fun a ha=>h.i64 a (List.mem_append.2 (.inl ha)),by have:=h.len;rw [List.length_append] at this;omega,h.met,ho,h.below,h.lo⟩ hb
end Go.Proofs.YtilkidaihbhfpaaGreat

namespace Go.Proofs.YtilkidaihbhfpaaGreat
open Go.RowKit
set_option linter.unusedVariables false
theorem zxx {v:Value} {D:WD} {k j:Nat} {s:Y3} (hin:zev D s j) (hp0:0≤s.ptrs[j]?.getD 0) (hp1:s.ptrs[j]?.getD 0≤sz s.cls) {bw ow cW:Nat} (hv:∃ c0 c1 c3 c4 c5 c6 c7 c8,v=.agg #[c0,c1,.slice (some ⟨bw,ow,none⟩) D.words.length cW,c3,c4,c5,c6,c7,c8]) {w:World} (hr:RdW w v D) :
  Rd w (.slice (some ⟨bw,ow+(atW s (j:Int)).toNat,none⟩) (ptrW D s j).length (cW-(atW s (j:Int)).toNat)) (ptrW D s j):=by
 obtain ⟨c0,c1,c3,c4,c5,c6,c7,c8,rfl⟩:=hv
 have a1:=hr.parts.1
 have hbd:=hin.bd
 have hwd:=hin.words
 obtain ⟨A,hA⟩:=Int.eq_ofNat_of_zero_le hbd.1
 obtain ⟨P,hP⟩:=Int.eq_ofNat_of_zero_le hp0
 have hpt:ptrW D s j=(D.words.drop A).take P:=by unfold ptrW;rw [hA,hP];rfl
 have hsum:A+P≤D.words.length:=by have:=hin.pg;omega
 have hlen:((D.words.drop A).take P).length=P:=by simp;omega
 rw [hpt,hlen,hA,Int.toNat_natCast]
 exact Rd.part a1 hsum _
theorem zoh {w:World} {v:Value} {D:WD} (hr:RdW w v D) (hl:0<D.words.length):∃ bw ow cW,∃ c0 c1 c3 c4 c5 c6 c7 c8,v=.agg #[c0,c1,.slice (some ⟨bw,ow,none⟩) D.words.length cW,c3,c4,c5,c6,c7,c8]:=by
 obtain ⟨vw,vd,vs,vm,vg,rfl,⟨aW,cW,rfl,_,xw⟩,_⟩:=hr
 obtain ⟨bw,ow,rfl,_⟩:=xw 0 hl
 exact ⟨bw,ow,cW,_,_,_,_,_,_,_,_,rfl⟩
theorem zio (bw ow cW:Nat) (B:Nat) (v:Value) (D:WD) (k j:Nat) (s:Y3) (hks:D.spans[k]?=some s) (hin:zev D s j) (hp0:0≤s.ptrs[j]?.getD 0) (hp1:s.ptrs[j]?.getD 0≤sz s.cls) (hcap:CapW v) (hv:∃ c0 c1 c3 c4 c5 c6 c7 c8,v=.agg #[c0,c1,.slice (some ⟨bw,ow,none⟩) D.words.length cW,c3,c4,c5,c6,c7,c8]) (w:World) (hr:RdW w v D) (hB:BoxW w B v) :
  Calls Tryz.prog 79 #[.pointer (some ⟨B,0,none⟩),.agg #[.int .i64 k,.int .i64 j]] w fun e w'=>e=.returned (.slice (some ⟨bw,ow+(atW s (j:Int)).toNat,none⟩) (ptrW D s j).length (cW-(atW s (j:Int)).toNat))∧Below w.heap.size w w':=by
 obtain ⟨vw,vd,vs,vm,vg,rfl,a1,a2,a3,a4,a5⟩:=hr
 obtain ⟨cs,he,hh⟩:=hB
 obtain rfl:=(Value.agg.inj he).symm
 obtain ⟨aW,cW',rfl,hlw,xw⟩:=id a1
 have hc:=hcap _ _ _ _ _ _ _ _ _ _ _ rfl
 have hbd:=hin.bd
 have hwd:=hin.words
 have hpg:=hin.pg
 have hpg0:=hin.pg0
 have hpg1:=hin.pg1
 obtain ⟨bw',ow',rfl,_⟩:=xw 0 (by omega)
 obtain ⟨rfl,rfl,rfl⟩:bw'=bw∧ow'=ow∧cW'=cW:=by
  obtain ⟨c0,c1,c3,c4,c5,c6,c7,c8,e⟩:=hv
  simp only [Value.agg.injEq,Array.mk.injEq,List.cons.injEq,Value.slice.injEq,Option.some.injEq,Addr.mk.injEq,true_and,and_true] at e
  exact ⟨e.2.2.1.1.1,e.2.2.1.1.2,e.2.2.1.2⟩
 clear hv
 obtain ⟨aS,cS,rfl,hsl,hx⟩:=a3
 obtain ⟨b1,o1,rfl,hrs⟩:=hx k s hks
 have bb:=Z5 w (.cells #[.int .i64 k,.int .i64 j] 58)
 have bx:=Y6 w (.cells #[.int .i64 k,.int .i64 j] 58)
 have hrs':=hrs.below bb
 have hfw:=zaa (fun (w':World) (h:zez w' b1 (o1+k*6) s)=>zeq b1 (o1+k*6) s (j:Int) (by omega) (by omega) (by omega) (by omega) w' h)
 have hrs2:=zaa hrs'
 obtain ⟨vl,vp,x0,x1,x2,x3,x4,x5,xl,xp⟩:=hrs'
 obtain ⟨ap,cp,rfl,hpl,xp⟩:=xp
 have hj:=hin.j
 have hjp:j<s.ptrs.length:=by have:=hin.lens;have:=hin.ptrs;omega
 obtain ⟨bp,op,rfl,xj⟩:=xp j hjp
 have g4:=Z7 bb (Z0 hh 4 _ rfl)
 have g2:=Z7 bb (Z0 hh 2 _ rfl)
 have q0:=Z0 bx 0 _ rfl
 have q1:=Z0 bx 1 _ rfl
 have hkl1:(k:Int)<(D.spans.length:Int):=by have:=(List.getElem?_eq_some_iff.1 hks).1;omega
 have hjp1:(j:Int)<(s.ptrs.length:Int):=by omega
 obtain ⟨A,hA⟩:=Int.eq_ofNat_of_zero_le hbd.1
 obtain ⟨P,hP⟩:=Int.eq_ofNat_of_zero_le hp0
 have hsum:A+P≤D.words.length:=by omega
 have hA2:A+2≤D.words.length:=by omega
 have hP16:P≤16:=by omega
 have hpt:ptrW D s j=(D.words.drop A).take P:=by unfold ptrW;rw [hA,hP];rfl
 have hlen:((D.words.drop A).take P).length=P:=by simp;omega
 rw [hpt,hlen,hA,Int.toNat_natCast]
 have y:=zaa (fun c'=>Rd.part a1 hsum c')
 have bb':=zaa bb
 rw [hP] at xj
 rw [hA] at hfw
 unfold maxLen at hlw hpl hsl
 have e0:¬ cW'=A:=by omega
 have e1:IntKind.i64.wrap ((A:Int)+(P:Int))=(A:Int)+(P:Int):=IntWalk.i64_in _ (by omega)
 have e2:(A:Int)≤(A:Int)+(P:Int):=by omega
 have e3:(A:Int)+(P:Int)≤(cW':Int):=by omega
 have e4:(0:Int)≤(A:Int)+(P:Int):=by omega
 have e5:((A:Int)+(P:Int)).toNat=A+P:=by omega
 have hc':=zaa hc
 clear a1 a2 a4 a5 he hh xw hx hrs xl xp hbd hwd hpg hpg0 hpg1 hks hin hp0 hp1 hA hP hpt hlen hcap bb bx x0 x1 x2 x3 x4 hj hjp hsum hc hA2
 go_enter Tryz.func79,Tryz.ntmps79
 go_upto_region 1 with fail
 generalize w.alloc (.cells #[.int .i64 k,.int .i64 j] 58)=W at *
 go_quiet (fail)
 go_wp2_with (go_at_call 111;refine (hfw.out _ ?_).mono ?_;(first | exact hrs2.out | exact hrs2.out.drewN 1);rintro e w' ⟨rfl,dr⟩;obtain ⟨m,rfl⟩:=dr)
 go_quiet (fail)
 go_wp2_with fail
 go_ret
 exact ⟨rfl,below_drewN (below_drewN bb'.out _) _⟩
end Go.Proofs.YtilkidaihbhfpaaGreat

namespace Go.Proofs.YtilkidaihbhfpaaGreat
open Go.RowKit
open Go.Maps (Keyed)
set_option linter.unusedVariables false
theorem zot (w:World) {ops:Array Oper} {rest:List Oper} {o:Oper} {a:Act} {Q:Exit→Act→World→Prop} (hg:o.guard=none) (it:Operand) (hop:o.op=Op.next it false)
  (b r n:Nat) (D:DataW Unit) (left:Lit→Bool) (cnt:Nat) (hit:a.eval it=.pointer (some ⟨r,0,none⟩)) (h:w.ranges Tryz.prog 3 N5 b r n D left cnt)
  (hDone:cnt=0→(∀ kl,left kl=false)→wpList Tryz.prog ops Q rest (a.put o.dst (.tuple #[.bool false])) w)
  (hMore:∀ (x c d:Int) (w':World) (cnt':Nat),I64 x→left (.int .i64 x)=true→(∀ zd,D.atKey (.int .i64 x) zd=dat c d)→w'.ranges Tryz.prog 3 N5 b r n D (fun z=>left z && !z.sameKey (.int .i64 x)) cnt'→cnt'<cnt →
   w.grownBy w' (some r)→w'.heap.size=w.heap.size→(Instr.entry (.pointer (some ⟨r,0,none⟩))).run Tryz.prog w'=.ok (.tuple #[.int .i64 x,.agg #[.int .i64 c,.int .i64 d]]) w'→wpList Tryz.prog ops Q rest (a.put o.dst (.tuple #[.bool true,.int .i64 x,.agg #[.int .i64 c,.int .i64 d]])) w') :
  wpList Tryz.prog ops Q (o :: rest) a w :=
 wpList_next_ranges w hg it hop 3 zjt N5 (Value.int .i64) (fun p:Int × Int=>.agg #[.int .i64 p.1,.int .i64 p.2])
  (fun key kl hkey=>by obtain ⟨x,rfl,_⟩:=Maps.keyOf_int_inv (q:=.i64) Tryz.underlying3 hkey;exact ⟨x,rfl⟩) (fun v y hv=>by obtain ⟨c,d,rfl,_⟩:=zhu hv;exact ⟨(c,d),rfl⟩)
  b r n D left cnt hit h hDone (fun x p kl y w' cnt' hkey hlk hv hat hrg hlt hgr hsz hen=>by
   obtain ⟨x',ex,rfl,hwx⟩:=Maps.keyOf_int_inv (q:=.i64) Tryz.underlying3 hkey
   cases ex
   obtain ⟨c,d,hcd,rfl⟩:=zhu hv
   obtain ⟨c',d'⟩:=p
   simp only [Value.agg.injEq,Array.mk.injEq,List.cons.injEq,Value.int.injEq,true_and,and_true] at hcd
   obtain ⟨rfl,rfl⟩:=hcd
   exact hMore x c' d' w' cnt' (i64_wf hwx) hlk hat hrg hlt hgr hsz hen)
theorem zsi (a x:Int):(Lit.int .i64 a).sameKey (.int .i64 x)=decide (a=x):=by
 by_cases e:a=x
 ·subst e;simp [Lit.sameKey]
 ·simp [Lit.sameKey,e]
def Came (D:WD) (M:DataW Unit) (left:Lit→Bool) (P:Int→Nat→Nat→Y3→Prop):Prop :=
 ∀ a k j s,Maps.has M (.int .i64 a)=true→left (.int .i64 a)=false→U3 D a k j→D.spans[k]?=some s→P a k j s
theorem Came.start (D:WD) (M:DataW Unit) (P:Int→Nat→Nat→Y3→Prop):Came D M (Maps.has M) P:=fun a k j s h1 h2=>by rw [h1] at h2;cases h2
theorem Came.step {D:WD} {M:DataW Unit} {left:Lit→Bool} {P:Int→Nat→Nat→Y3→Prop} (hF:Z8 D) (h:Came D M left P) {x:Int} {k j:Nat} {s:Y3} (ho:U3 D x k j) (hs:D.spans[k]?=some s) (hp:P x k j s) :
  Came D M (fun z=>left z && !z.sameKey (.int .i64 x)) P:=by
 intro a k' j' s' h1 h2 ho' hs'
 by_cases e:a=x
 ·subst e
  obtain ⟨rfl,rfl⟩:=ho'.unique hF ho
  rw [hs] at hs'
  cases hs'
  exact hp
 ·refine h a k' j' s' h1 ?_ ho' hs'
  simpa [zsi,e] using h2
theorem Came.done {D:WD} {M:DataW Unit} {left:Lit→Bool} {P:Int→Nat→Nat→Y3→Prop} (h:Came D M left P) (hl:∀ kl,left kl=false) (hP:M5 D M D.spans.length 0) :
  ∀ a k j s,L6 D.spans.length 0 k j→U3 D a k j→D.spans[k]?=some s→P a k j s :=
 fun a k j s ha ho hs=>h a k j s ((hP.has a).2 ⟨k,j,ha,ho⟩) (hl _) ho hs
theorem pLed (V B g n:Nat) (M:DataW Unit) (v:Value) (D:WD) (hF:Z8 D) (hW:AllI D.words) (hM:∀ r,r ∈ D.muts→AllI r) (hcap:CapW v) (w:World) (hr:RdW w v D) (hB:BoxW w B v) (hv:M4 D w V B g n M) :
  Calls Tryz.prog 99 #[.pointer (some ⟨V,0,none⟩)] w fun e w'=>IsB (zny D) e∧Below w.heap.size w w':=by
 have hr':=zaa hr
 have hB':=zaa hB
 have hF':=zaa hF
 have hW':=zaa hW
 have hM':=zaa hM
 have hcap':=zaa hcap
 have hv':=zaa hv
 have hC0:=zaa (fun (w':World) (hb:Below w.heap.size w w')=>Z7 hb (Z0 hv.box 0 (.pointer (some ⟨B,0,none⟩)) rfl))
 have hC1:=zaa (fun (w':World) (hb:Below w.heap.size w w')=>Z7 hb (Z0 hv.box 1 (.map (some g)) rfl))
 have hst:=zaa (fun (x:Int) (w':World) (hx:I64 x) (hb:Below w.heap.size w w')=>zuo V B g n M v D hF x hx w' (hr.below hb) (hB.below hb) (hv.below hb))
 obtain ⟨bw,ow,cW,hv3⟩:=zoh hr (by have:=hF.words;have:=hF.geo.2.2.2.1;omega)
 have hv3:=zaa hv3
 obtain ⟨vw,vd,vs,vm,vg,rfl,a1,a2,a3,a4,a5⟩:=hr
 obtain ⟨aM,cM,rfl,hml,hxm⟩:=a4
 have hxm':=zaa hxm
 unfold maxLen at hml
 have G5:=zaa (fun (w':World) (hb:Below w.heap.size w w')=>Z7 hb (hB.cell 5 (.slice aM D.muts.length cM) rfl))
 have hmu:=hF.geo.2.2.2.2.2.2
 have hmf:∀ (fn:Fn) (first cap:Array Value) (w:World),(Instr.makeFunc fn first cap).run Tryz.prog w=.ok (.func fn first cap) w:=fun _ _ _ _=>rfl
 have c0:=hC0.out _ (Below.refl _ _)
 have g5:=G5.out _ (Below.refl _ _)
 clear a1 a2 a3 a5 hB hF hW hM hcap hv hxm
 go_enter Tryz.func99,Tryz.ntmps99
 go_wp2_with fail
 clear c0 g5
 go_loopw [14] (fun i wr=>∃ m:Nat,m≤D.muts.length∧i=.int .i64 m∧Hid (∀ q r,q<m→D.muts[q]?=some r→P1 D r)∧Hid (Below w.heap.size w wr)) (fun i _=>D.muts.length-(Go.RowKit.intOf i).toNat)
 case atStart=>exact ⟨0,Nat.zero_le _,rfl,zaa (fun q r h=>absurd h (by omega)),zaa (Below.refl _ _)⟩
 case round =>
  obtain ⟨m,hm,rfl,hok,hb⟩:=hrel
  have c0:=hC0.out _ hb.out
  have g5:=G5.out _ hb.out
  by_cases hlt:m<D.muts.length
  ·have hlt1:(m:Int)<(D.muts.length:Int):=by omega
   obtain ⟨r,hmr⟩:∃ r,D.muts[m]?=some r:=⟨_,List.getElem?_eq_getElem hlt⟩
   obtain ⟨bM,oM,vr,rfl,xm0,hrd⟩:=hxm'.out m r hmr
   obtain ⟨ar,cr,rfl,hrl,xr⟩:=id hrd
   have xm:=Z7 hb.out xm0
   have hz:=zaa (zmz V (ObjP D (fun k j=>¬ C9 D k j)) _ r (hM'.out r (List.mem_of_getElem? hmr)) wr (hrd.below hb.out) (fun x w' hx hb2=>hst.out x w' hx (Z4 hb.out hb2)))
   have hyes:=zaa (show P1 D r→∀ q r,q<m+1→D.muts[q]?=some r→P1 D r from fun h q r2 hq hr2=>if e:q=m then by subst e;rw [hmr] at hr2;cases hr2;exact h else hok.out q r2 (by omega) hr2)
   have hnot:=zaa (show ¬ P1 D r→¬ zny D from fun h h2=>h (h2.1 r (List.mem_of_getElem? hmr)))
   clear xm0 hrd xr hmr hrl
   go_wp2_with fail
   refine hz.out.mono ?_
   rintro e w2 ⟨hq,b2⟩
   replace hq:=hq.elim
   have hb2:=zaa (Z4 hb.out b2)
   clear b2 hz c0 g5 xm
   rcases hq with ⟨hq,rfl⟩ | ⟨hq,rfl⟩
   ·have hn:=zaa (hyes.out hq)
    clear hq
    go_wp2_with fail
    go_roundw
    case rel=>exact ⟨m+1,by omega,by go_num,hn,hb2⟩
    case measure=>simp [Go.RowKit.intOf];omega
   ·have y:=zaa (IsB.no (hnot.out hq))
    clear hq
    go_wp2_with fail
    go_ret
    exact ⟨y.out,hb2.out⟩
  obtain rfl:m=D.muts.length:=by omega
  have hroots:=zaa (show ∀ r,r ∈ D.muts→P1 D r from fun r hr=>by obtain ⟨q,hq⟩:=List.mem_iff_getElem?.1 hr;exact hok.out q r (List.getElem?_eq_some_iff.1 hq).1 hq)
  have c1:=hC1.out _ hb.out
  have hOw:=zaa ((hv'.out.below hb.out).own)
  clear hok
  go_wp2_with (at_range;refine wpList_range_own _ rfl _ 100 rfl 3 58 zjt Tryz.underlying100 N5 g n M rfl hOw.out ?_;intro w0 hrg0 hg0 hs0)
  have hb0:=zaa (hb.out.grown hg0 hb.out.size (fun q hq=>by cases hq))
  have hrs:=zaa (show w.heap.size≤wr.heap.size from hb.out.size)
  have hrg:=zaa hrg0
  clear c0 c1 g5 hg0 hs0 hrg0 hb hOw
  generalize wr.heap.size=R at *
  go_frame
  go_loopw [5] (fun _ wj=>∃ left cnt,Hid (wj.ranges Tryz.prog 3 N5 g R n M left cnt)∧Hid (Came D M left fun a k j s=>¬ C9 D k j→P1 D (ptrW D s j))∧Hid (Below w.heap.size w wj)) (fun _ wj=>wj.rangeLeft g R)
  case atStart=>exact ⟨_,_,hrg,zaa (Came.start _ _ _),hb0⟩
  case round =>
   clear hrg hb0
   obtain ⟨left,cnt,hrg,hcame,hb⟩:=hrel
   go_wp2_with (at_next;refine zot _ rfl _ rfl g _ n M left cnt rfl hrg.out ?_ ?_)
   ·intro hc0 hl0
    have y:=zaa (IsB.yes (P:=zny D) ⟨hroots.out,hcame.out.done hl0 hv'.out.is⟩)
    clear hc0 hl0
    go_wp2_with fail
    go_ret
    exact ⟨y.out,hb.out⟩
   ·intro x c d w1 cnt1 hx64 hlx hat hrg1 hlt1 hg1 hs1 hen
    obtain ⟨k,j,hah,ho⟩:=(hv'.out.is.has x).1 (Maps.has_true_of_atKey hat)
    obtain ⟨rfl,rfl⟩:=zsz ((hat (dat 0 0)).symm.trans (hv'.out.is.is x k j (dat 0 0) hah ho))
    obtain ⟨s,hks,hin,p0,p1⟩:=N0 hF'.out ho
    have hrgO:=zaa hrg.out
    have hrg1':=zaa hrg1
    have hb1:=zaa (hb.out.grown hg1 hb.out.size (fun q hq=>by cases hq;exact hrs.out))
    obtain ⟨dm,hdm⟩:=J5 (C9 D k j)
    obtain ⟨z,hz⟩:=J5 (P1 D (ptrW D s j))
    have hdmc:=zaa (fun (w':World) (hb:Below w.heap.size w w')=>(znn B _ D k j s hks (zev.mk16 hF'.out hks hin.j) w' (hr'.out.below hb) (hB'.out.below hb)).mono fun e w'' ⟨h1,h2⟩=>(⟨h1.at_ dm hdm,h2⟩:e=Ending.returned (.bool dm)∧Below w'.heap.size w' w''))
    have hpw:=zaa (fun (w':World) (hb:Below w.heap.size w w')=>zio bw ow cW B _ D k j s hks hin p0 p1 hcap'.out hv3.out w' (hr'.out.below hb) (hB'.out.below hb))
    have hprd:=zaa (fun (w':World) (hb:Below w.heap.size w w')=>zxx (k:=k) hin p0 p1 hv3.out (hr'.out.below hb))
    have hzc:=zaa (fun (w':World) (hb:Below w.heap.size w w')=>(zmz V (ObjP D (fun k j=>¬ C9 D k j)) _ (ptrW D s j) (zms hW'.out s j) w' (hprd.out w' hb) (fun x w'' hx hb2=>hst.out x w'' hx (Z4 hb hb2))).mono fun e w'' ⟨h1,h2⟩=>(⟨h1.at_ z hz,h2⟩:e=Ending.returned (.bool z)∧Below w'.heap.size w' w''))
    have hstep:=zaa (show (dm=true∨z=true)→Came D M (fun z=>left z && !z.sameKey (.int .i64 x)) (fun a k j s=>¬ C9 D k j→P1 D (ptrW D s j)) from fun h=>hcame.out.step hF'.out ho hks (fun hd=>h.elim (fun h=>absurd (hdm.1 h) hd) hz.1))
    have hnot:=zaa (show dm=false→z=false→¬ zny D from fun h1 h2 h=>by
     have:=hz.2 (h.2 x k j s hah ho hks (fun hd=>by have:=hdm.2 hd;rw [h1] at this;cases this))
     rw [h2] at this
     cases this)
    have bb:=zaa (Z5 w1 (.cells #[.int .i64 k,.int .i64 j] 58))
    have bx:=zaa (Y6 w1 (.cells #[.int .i64 k,.int .i64 j] 58))
    have hbW:=zaa (Z4 hb1.out bb.out)
    have hrgW:=zaa (hrg1.alloc (.cells #[.int .i64 k,.int .i64 j] 58))
    have hmeas:∀ (w':World),(∃ l,w'.ranges Tryz.prog 3 N5 g R n M l cnt1)→w'.rangeLeft g R<wr.rangeLeft g R:=by
     rintro w' ⟨l,h⟩
     have e1:=h.left_eq
     have e2:=hrgO.out.left_eq
     omega
    have hmeas:=zaa hmeas
    clear hat hrg1 hlt1 hg1 hs1 hlx ho hah hks hin p0 p1 hdm hz hrg hcame hb hrgO
    go_upto_region 10 with fail
    clear hen
    have c0:=hC0.out _ hbW.out
    have q0:=Z0 bx.out 0 (.int .i64 k) rfl
    have q1:=Z0 bx.out 1 (.int .i64 j) rfl
    clear bx
    generalize w1.alloc (.cells #[.int .i64 k,.int .i64 j] 58)=W1 at *
    have C0:=Ext.cell c0
    have Q0:=Ext.cell q0
    have Q1:=Ext.cell q1
    clear c0 q0 q1
    generalize (ptrW D s j).length=np at *
    cases dm
    case true =>
     refine Y5 (Below.refl _ _) (by kernel_rfl) (by kernel_rfl) ?_
     repeat (go_big_quiet_step ((go_at_call 58;exact Ext.call (hdmc.out _ (Z4 hbW.out (Ext.below _))))))
     refine wpQuiet_nil ?_
     intro _ hw'
     obtain ⟨x9,hw''⟩:=hw'
     subst hw''
     have hrg4:=zaa (hrgW.out.kept (N3 x9.below) (by simp) (by simp))
     have hb4:=zaa (Z4 hbW.out x9.below)
     have hn:=zaa (hstep.out (.inl rfl))
     go_wp2_with fail
     go_roundw
     case rel=>exact ⟨_,_,hrg4,hn,hb4⟩
     case measure=>exact hmeas.out _ ⟨_,hrg4.out⟩
    case false =>
     refine Y5 (Below.refl _ _) (by kernel_rfl) (by kernel_rfl) ?_
     repeat (go_big_quiet_step ((first | (go_at_call 58;exact Ext.call (hdmc.out _ (Z4 hbW.out (Ext.below _)))) | (go_at_call 79;exact Ext.call (hpw.out _ (Z4 hbW.out (Ext.below _)))) | (go_at_call 136;exact Ext.call (hzc.out _ (Z4 hbW.out (Ext.below _)))))))
     refine wpQuiet_nil ?_
     intro _ hw'
     obtain ⟨x9,hw''⟩:=hw'
     subst hw''
     have hrg6:=zaa (hrgW.out.kept (N3 x9.below) (by simp) (by simp))
     have hb6:=zaa (Z4 hbW.out x9.below)
     cases z
     ·have y:=zaa (IsB.no (hnot.out rfl rfl))
      go_wp2_with fail
      go_ret
      exact ⟨y.out,hb6.out⟩
     ·have hn:=zaa (hstep.out (.inr rfl))
      go_wp2_with fail
      go_roundw
      case rel=>exact ⟨_,_,hrg6,hn,hb6⟩
      case measure=>exact hmeas.out _ ⟨_,hrg6.out⟩
theorem kc_any (Bv V B g n:Nat) (M:DataW Unit) (v:Value) (D:WD) (k j:Nat) (s:Y3) (hks:D.spans[k]?=some s) (hm:0≤s.mark∧s.mark≤9223372036854775807∧j≤16) (w:World) (hr:RdW w v D) (hB:BoxW w B v) (hv:M4 D w V B g n M) (hbv:w.cell? ⟨Bv,0,none⟩=some (.pointer (some ⟨V,0,none⟩))) :
  Calls Tryz.prog 143 #[.agg #[.int .i64 k,.int .i64 j],.pointer (some ⟨Bv,0,none⟩)] w fun e w'=>IsB (¬ V2 D k j) e∧Below w.heap.size w w':=by
 have bb:=Z5 w (.cells #[.int .i64 k,.int .i64 j] 58)
 have bx:=Y6 w (.cells #[.int .i64 k,.int .i64 j] 58)
 obtain ⟨mk,hmk⟩:=J5 (V2 D k j)
 have hcall:=zaa (fun (w':World) (hb:Below w.heap.size w w')=>(zfe B v D k j s hks hm w' (hr.below hb) (hB.below hb)).mono fun e w'' ⟨h1,h2⟩=>(⟨h1.at_ mk hmk,h2⟩:e=Ending.returned (.bool mk)∧Below w'.heap.size w' w''))
 have y:=zaa (show IsB (¬ V2 D k j) (.returned (.bool (!mk))) from ⟨_,rfl,by rw [← hmk];cases mk <;> simp⟩)
 have c0:=Z7 bb (Z0 hv.box 0 (.pointer (some ⟨B,0,none⟩)) rfl)
 have v0:=Z7 bb hbv
 have q0:=Z0 bx 0 (.int .i64 k) rfl
 have q1:=Z0 bx 1 (.int .i64 j) rfl
 have bb':=zaa bb
 clear hr hB hv hbv hks hm hmk bb bx
 go_enter Tryz.func143,Tryz.ntmps143
 go_upto_region 1 with fail
 generalize w.alloc (.cells #[.int .i64 k,.int .i64 j] 58)=W at *
 have C0:=Ext.cell c0
 have V0:=Ext.cell v0
 have Q0:=Ext.cell q0
 have Q1:=Ext.cell q1
 clear c0 v0 q0 q1
 refine Y5 (Below.refl _ _) (by kernel_rfl) (by kernel_rfl) ?_
 repeat (go_big_quiet_step ((go_at_call 109;exact Ext.call (hcall.out _ (Z4 bb'.out (Ext.below _))))))
 refine wpQuiet_nil ?_
 intro _ hw'
 obtain ⟨x9,hw''⟩:=hw'
 subst hw''
 go_wp2_with fail
 go_ret
 exact ⟨y.out,Z4 bb'.out x9.below⟩
theorem zsc (V B gv n:Nat) (Mv:DataW Unit) (v:Value) (D:WD) (hF:Z8 D) (hI:AllI D.words) (hcap:CapW v) (af:Option Addr) (cf:Nat) (fr:List Int) (hfI:AllI fr) (hfr:fr.length≤1048576) (Bv:Nat) (w:World) (hr:RdW w v D) (hB:BoxW w B v) (hv:M4 D w V B gv n Mv) (hf:Rd w (.slice af fr.length cf) fr) (hbv:w.cell? ⟨Bv,0,none⟩=some (.pointer (some ⟨V,0,none⟩))) :
  Calls Tryz.prog 37 #[.pointer (some ⟨V,0,none⟩),.slice af fr.length cf,.func (.func 143) #[] #[.pointer (some ⟨Bv,0,none⟩)]] w fun e w'=>∃ g' S,Hid (S.Nodup∧∀ a,a ∈ S↔Led D (fun k j=>¬ V2 D k j) fr a)∧e=.returned (.map (some g'))∧Hid (∃ M,zke M S∧OwnB w' g' S.length M)∧w.heap.size≤g'∧Below w.heap.size w w':=by
 have hF':=zaa hF
 have hI':=zaa hI
 have hcap':=zaa hcap
 have hr':=zaa hr
 have hB':=zaa hB
 have hv':=zaa hv
 have hfI':=zaa hfI
 have hf':=zaa hf
 have hbv':=zaa hbv
 have c00:=zaa (Z0 hv.box 0 (.pointer (some ⟨B,0,none⟩)) rfl)
 have bb:=zaa (Z5 w (.map #[] 0))
 have hmk:=@run_makeMap Tryz.prog
 have hown0:=zaa (show OwnB (w.alloc (.map #[] 0)) w.heap.size 0 (.map []) from World.ownsMap_made w Tryz.prog 3 zfz)
 have hcall:=zaa (zfd af fr.length cf (fr.map (Value.int .i64)) hfr _ (Rd.src (hf.below bb.out)))
 clear hF hI hcap hr hB hv hfI hf hbv
 go_enter Tryz.func37,Tryz.ntmps37
 go_wp2_with fail
 refine hcall.out.mono ?_
 rintro e w1 ⟨v1,rfl,ho1,b1⟩
 have st1:=zaa (show SpSt D (fun k j=>¬ V2 D k j) fr w w1 w.heap.size v1 [] fr from ⟨GoSt.zero _ _ _,hfI'.out,by simp,⟨_,zke.zero,hown0.out.below b1⟩,V8 (base':=w.heap.size) ho1 (by simp),Z4 bb.out b1,Nat.le_refl _⟩)
 clear ho1 b1 hcall hmk
 go_wp2_with fail
 go_loopw [8] (fun v wr=>∃ S T:List Int,Hid (SpSt D (fun k j=>¬ V2 D k j) fr w wr w.heap.size v S T)) (fun v wr=>lenV v+17*(384-zty wr w.heap.size))
 case atStart=>exact ⟨[],fr,st1⟩
 case round =>
  clear st1
  obtain ⟨S,T,st⟩:=hrel
  have hml:=st.out.mlen
  have hlenS:S.length≤384:=st.out.st.len hF'.out
  have hl:=st.out.len
  obtain ⟨au,cu,hu⟩:=Y4 st.out.own
  rcases List.eq_nil_or_concat T with rfl | ⟨T,x,rfl⟩
  ·subst hu
   go_wp2_with fail
   go_ret
   exact ⟨_,S,zaa ⟨st.out.st.nodup,fun a=>st.out.st.done a⟩,rfl,zaa st.out.met,Nat.le_refl _,st.out.below⟩
  rw [List.concat_eq_append] at st hu hl
  have e1:(T ++ [x]).length=T.length+1:=by simp
  rw [e1] at hu hl
  subst hu
  obtain ⟨gu,hgu,hcap,hcm,x0,htail⟩:=own_init st.out.own
  subst hgu
  have hx64:=st.out.i64 x (by simp)
  have hkey:=zaa (zir hx64)
  obtain ⟨M,hM,hOM⟩:=st.out.met
  have hM':=zaa hM
  have hOM':=zaa hOM
  have hw:=zaa st.out.below
  have htail':=zaa htail
  have hvr:=zaa (hv'.out.below hw.out)
  have c0:=Z0 hvr.out.box 0 (.pointer (some ⟨B,0,none⟩)) rfl
  have c1:=Z0 hvr.out.box 1 (.map (some gv)) rfl
  have hpos:(0:Int)<((T.length+1:Nat):Int):=by omega
  have hcm':cu≤9223372036854775807:=by unfold maxLen at hcm;omega
  have hsub:IntKind.i64.wrap (((T.length+1:Nat):Int)-1)=(T.length:Int):=(IntWalk.i64_in _ (by omega)).trans (by omega)
  have hlt0:(T.length:Int)<((T.length+1:Nat):Int):=by omega
  have hle0:(T.length:Int)≤(cu:Int):=by omega
  clear hM hOM hcm htail hx64
  by_cases hh:∃ k j,U3 D x k j
  case neg =>
   have h1:=zaa (show Maps.has Mv (.int .i64 x)=false from by
    cases h:Maps.has Mv (.int .i64 x)
    ·rfl
    ·obtain ⟨k,j,_,ho⟩:=(hvr.out.is.has x).1 h
     exact absurd ⟨k,j,ho⟩ hh)
   have h2:=zaa (show Mv.atKey (.int .i64 x) (dat 0 0)=dat 0 0 from Maps.atKey_of_not_has h1.out _)
   have st2:=zaa (fun w2 (hb:Below wr.heap.size wr w2)=>st.out.skip (.inl fun ⟨k,j,h⟩=>hh ⟨k,j,h⟩) htail'.out hb)
   have st3:=zaa (st2.out _ (Z5 wr (.cells #[.int .i64 0,.int .i64 0] 58)))
   clear hh st
   go_wp2_with (at_lookup;refine P4 _ rfl rfl _ _ rfl gv n Mv rfl hvr.out.own _ _ rfl hkey.out false h1.out 0 0 h2.out ?_)
   go_roundw
   case rel=>exact ⟨S,T,st3⟩
   case measure=>rw [st3.out.mlen,hml];simp only [lenV];omega
  obtain ⟨k,j,ho⟩:=hh
  obtain ⟨s,hks,hin,p0,p1⟩:=N0 hF'.out ho
  have ho':=zaa ho
  have hks':=zaa hks
  have hin':=zaa hin
  have hk:=zaa (show L6 D.spans.length 0 k j from .inl (List.getElem?_eq_some_iff.1 hks).1)
  have h1:=zaa ((hvr.out.is.has x).2 ⟨k,j,hk.out,ho⟩)
  have h2:=zaa (hvr.out.is.is x k j (dat 0 0) hk.out ho)
  have bb2:=zaa (Z5 wr (.cells #[.int .i64 k,.int .i64 j] 58))
  have bx2:=zaa (Y6 wr (.cells #[.int .i64 k,.int .i64 j] 58))
  have hl3:=zaa (hM'.out.look x)
  have hOM2:=zaa (hOM'.out.below bb2.out)
  by_cases hxS:x ∈ S
  ·have st2:=zaa (st.out.skip (.inr hxS) htail'.out bb2.out)
   have h3:=zaa (show M.atKey (.int .i64 x) (flag false)=flag true by rw [hl3.out];simp [hxS])
   have hlk:=zjl hOM2.out hkey.out h3.out
   clear ho hks hin p0 p1 hxS st
   go_wp2_with (at_lookup;refine P4 _ rfl rfl _ _ rfl gv n Mv rfl hvr.out.own _ _ rfl hkey.out true h1.out (k:Int) (j:Int) h2.out ?_)
   go_roundw
   case rel=>exact ⟨S,T,st2⟩
   case measure=>rw [st2.out.mlen,hml];simp only [lenV];omega
  have h3:=zaa (show M.atKey (.int .i64 x) (flag false)=flag false by rw [hl3.out];simp [hxS])
  have hpw:=zaa (fun (w':World) (hb:Below w.heap.size w w')=>zic B v D k j s hks hin p0 p1 hcap'.out w' (hr'.out.below hb) (hB'.out.below hb))
  have hxS':=zaa hxS
  have hlk:=zjl hOM2.out hkey.out h3.out
  have hne:=zaa (show some wr.heap.size≠some w.heap.size from fun e=>by have:=hOM'.out.lt;simp at e;omega)
  have hne2:=zaa (hOM'.out.ne_row htail'.out)
  obtain ⟨mk,hmk⟩:=J5 (¬ V2 D k j)
  have hfoll:=zaa (fun (w':World) (hb:Below w.heap.size w w')=>(kc_any Bv V B gv n Mv v D k j s hks (zev.mk16 hF'.out hks hin.j) w' (hr'.out.below hb) (hB'.out.below hb) (hv'.out.below hb) (Z7 hb hbv'.out)).mono fun e w'' ⟨h1,h2⟩=>(⟨h1.at_ mk hmk,h2⟩:e=Ending.returned (.bool mk)∧Below w'.heap.size w' w''))
  have hmk':=zaa hmk
  clear hmk
  clear ho hks hin p0 p1 hxS
  cases mk
  case false =>
   go_wp2_with (first
    | (at_lookup;refine P4 _ rfl rfl _ _ rfl gv n Mv rfl hvr.out.own _ _ rfl hkey.out true h1.out (k:Int) (j:Int) h2.out ?_)
    | (at_mapUpdate;refine wpList_mapUpdate_own _ rfl _ _ _ 64 rfl 3 4 zjt Tryz.underlying64 zfz w.heap.size S.length M rfl hOM2.out (by unfold maxLen;omega) _ _ (.int .i64 x) rfl rfl hkey.out (flag true) [] (zhy true) ?_;intro w3 hown3 hgrow3;have y0:=World.grownBy.cell hgrow3 (Z0 bx2.out 0 (.int .i64 k) rfl) hne.out;have y1:=World.grownBy.cell hgrow3 (Z0 bx2.out 1 (.int .i64 j) rfl) hne.out)
    | (go_at_call 143;refine (hfoll.out _ ?_).mono ?_;(exact World.below_none hgrow3 hw.out bb2.out (Nat.le_refl _));rintro e w4 ⟨rfl,b4⟩))
   have M3:=zaa (hM'.out.put x)
   have own3:=zaa ((htail'.out.alloc (.cells #[.int .i64 k,.int .i64 j] 58)).kept hgrow3 (.inr hne2.out))
   have w3b:=zaa (show Below w.heap.size w w3 from Below.grown (Z4 hw.out bb2.out) hgrow3 (by have:=hw.out.size;have:=bb2.out.size;omega) (fun q hq=>by cases hq;exact Nat.le_refl _))
   have w4b:=zaa (Z4 w3b.out b4)
   have own4:=zaa (Y9 own3.out b4)
   have hown4:=zaa (show OwnB w4 w.heap.size (S.length+1) _ from OwnB.below hown3 b4)
   have st2:=zaa (st.out.st.put (S':=x :: S) (T'':=T) hF'.out zpr ho'.out hks'.out (List.nodup_cons.2 ⟨hxS'.out,st.out.st.nodup⟩) (fun a=>List.mem_cons) (fun hf=>by have:=hmk'.out.2 hf;cases this) (fun _=>rfl))
   have h384:=st2.out.len hF'.out
   have st7:=zaa (show SpSt D (fun k j=>¬ V2 D k j) fr w w4 w.heap.size _ (x :: S) T from ⟨st2.out,fun a ha=>st.out.i64 a (List.mem_append.2 (.inl ha)),by simp only [List.length_cons];omega,⟨_,M3.out,hown4.out⟩,own4.out,w4b.out,Nat.le_refl _⟩)
   clear hgrow3 hown3 b4 hlk x0
   go_wp2_with fail
   go_roundw
   case rel=>exact ⟨x :: S,T,st7⟩
   case measure=>rw [st7.out.mlen,hml];simp only [lenV,List.length_cons] at h384 ⊢;omega
  case true =>
   go_wp2_with (first
    | (at_lookup;refine P4 _ rfl rfl _ _ rfl gv n Mv rfl hvr.out.own _ _ rfl hkey.out true h1.out (k:Int) (j:Int) h2.out ?_)
    | (at_mapUpdate;refine wpList_mapUpdate_own _ rfl _ _ _ 64 rfl 3 4 zjt Tryz.underlying64 zfz w.heap.size S.length M rfl hOM2.out (by unfold maxLen;omega) _ _ (.int .i64 x) rfl rfl hkey.out (flag true) [] (zhy true) ?_;intro w3 hown3 hgrow3;have y0:=World.grownBy.cell hgrow3 (Z0 bx2.out 0 (.int .i64 k) rfl) hne.out;have y1:=World.grownBy.cell hgrow3 (Z0 bx2.out 1 (.int .i64 j) rfl) hne.out)
    | (go_at_call 143;refine (hfoll.out _ ?_).mono ?_;(exact World.below_none hgrow3 hw.out bb2.out (Nat.le_refl _));rintro e w4 ⟨rfl,b4⟩))
   have M3:=zaa (hM'.out.put x)
   have own3:=zaa ((htail'.out.alloc (.cells #[.int .i64 k,.int .i64 j] 58)).kept hgrow3 (.inr hne2.out))
   have w3b:=zaa (show Below w.heap.size w w3 from Below.grown (Z4 hw.out bb2.out) hgrow3 (by have:=hw.out.size;have:=bb2.out.size;omega) (fun q hq=>by cases hq;exact Nat.le_refl _))
   have w4b:=zaa (Z4 w3b.out b4)
   have own4:=zaa (Y9 own3.out b4)
   have hown4:=zaa (show OwnB w4 w.heap.size (S.length+1) _ from OwnB.below hown3 b4)
   have D0:=Z7 w4b.out c00.out
   have Y0:=Z7 b4 y0
   have Y1:=Z7 b4 y1
   have hl16:=ztv hF'.out ho'.out hks'.out
   clear c0 c1 y0 y1 hgrow3 hown3 b4 hlk x0
   have st2:=zaa (st.out.st.put (S':=x :: S) (T'':=T ++ ptrW D s j) hF'.out zpr ho'.out hks'.out (List.nodup_cons.2 ⟨hxS'.out,st.out.st.nodup⟩) (fun a=>List.mem_cons) (fun _ b _=>List.mem_append) (fun hn=>absurd (hmk'.out.1 (by simp)) hn))
   have hi64:=zaa (show AllI (T ++ ptrW D s j) from fun a ha=>(List.mem_append.1 ha).elim (fun h=>st.out.i64 a (List.mem_append.2 (.inl h))) (zms hI'.out s j a))
   have hle4:=zaa w4b.out.size
   clear st
   generalize ptrW D s j=Z at *
   go_region_law (first
    | (refine zen rfl (zog (.tmp 50) (.tmp 56) 23 rfl w.heap.size 3 (.int .i64 0) 1 8 Tryz.underlying23 E9 rfl (by decide) _ T.length _ rfl own6.out A Z.length c (Z.map (Value.int .i64)) rfl src6.out (by unfold maxLen;omega) (by omega) hle6.out ?_);intro v7 w7 o7 g7)
    | (go_simp;go_wp2_with (go_at_call 79;refine (hpw.out _ ?_).mono ?_;(first | exact w4b.out | exact below_drewN w4b.out 1 | exact below_drewN w4b.out 2);rintro e w6 ⟨A,c,rfl,hrd,h16,b6⟩;have b66:=zaa (show Below w4.heap.size w4 w6 from ⟨b6.os,b6.tape,b6.output,b6.size,b6.block⟩);have src6:=zaa (Rd.src hrd);have own6:=zaa (Y9 own4.out b66.out);have hle6:=zaa (Nat.le_trans hle4.out b66.out.size);clear hrd b6)))
   all_goals
    obtain ⟨a7,c7,hv7⟩:=Y4 o7
    subst hv7
    have st7:=zaa (show SpSt D (fun k j=>¬ V2 D k j) fr w w7 w.heap.size _ (x :: S) (T ++ Z) from ⟨st2.out,hi64.out,by simp only [List.length_append,List.length_cons];omega,⟨_,M3.out,World.ownsMap.kept (OwnB.below hown4.out b66.out) g7 (fun e=>hown4.out.ne_row own4.out e.symm)⟩,by simpa using o7,(Z4 w4b.out b66.out).grown g7 hle6.out (fun q hq=>(own6.out.lt q hq).1),Nat.le_refl _⟩)
    have h384:=st2.out.len hF'.out
    clear o7 g7
    go_simp
    go_wp2_with fail
    go_roundw
    case rel=>exact ⟨x :: S,T ++ Z,st7⟩
    case measure=>rw [st7.out.mlen,hml];simp only [lenV,List.length_cons] at h384 ⊢;omega
end Go.Proofs.YtilkidaihbhfpaaGreat

namespace Go.Proofs.YtilkidaihbhfpaaGreat
open Go.RowKit
set_option linter.unusedVariables false
def zex (L:List Y3) (P:Y3→Prop) (r:Int):Prop:=(∃ (k:Nat) (s:Y3),r=k∧L[k]?=some s∧P s∧∀ q t,q<k→L[q]?=some t→¬ P t)∨(r=-1∧∀ s,s ∈ L→¬ P s)
theorem zex.ge {L:List Y3} {P:Y3→Prop} {r:Int} (h:zex L P r):(0≤r↔∃ s,s ∈ L∧P s)∧-1≤r∧r≤(L.length:Int):=by
 rcases h with ⟨k,s,rfl,hs,hp,_⟩ | ⟨rfl,hn⟩
 ·have:=(List.getElem?_eq_some_iff.1 hs).1
  exact ⟨⟨fun _=>⟨s,List.mem_of_getElem? hs,hp⟩,fun _=>by omega⟩,by omega,by omega⟩
 ·exact ⟨⟨fun h=>absurd h (by omega),fun ⟨s,hs,hp⟩=>absurd hp (hn s hs)⟩,by omega,by omega⟩
theorem zwj (s:Y3) (al:Option Addr) (cl:Nat) (ap:Option Addr) (cp:Nat) (w:World) :
  Calls Tryz.prog 140 #[.agg #[.int .i64 s.page,.int .i64 s.cls,.int .i64 s.mark,.bool s.swept,.slice al s.lens.length cl,.slice ap s.ptrs.length cp]] w fun e w'=>IsB (s.swept=true) e∧Below w.heap.size w w':=by
 have bb:=zaa (Z5 w (.cells #[.int .i64 s.page,.int .i64 s.cls,.int .i64 s.mark,.bool s.swept,.slice al s.lens.length cl,.slice ap s.ptrs.length cp] 97))
 have y:=zaa (show IsB (s.swept=true) (.returned (.bool s.swept)) from ⟨_,rfl,Iff.rfl⟩)
 go_enter Tryz.func140,Tryz.ntmps140
 go_wp2_with fail
 go_ret
 exact ⟨y.out,bb.out⟩
theorem ztb (s:Y3) (al:Option Addr) (cl:Nat) (ap:Option Addr) (cp:Nat) (w:World) :
  Calls Tryz.prog 141 #[.agg #[.int .i64 s.page,.int .i64 s.cls,.int .i64 s.mark,.bool s.swept,.slice al s.lens.length cl,.slice ap s.ptrs.length cp]] w fun e w'=>IsB (s.mark≠0) e∧Below w.heap.size w w':=by
 have bb:=zaa (Z5 w (.cells #[.int .i64 s.page,.int .i64 s.cls,.int .i64 s.mark,.bool s.swept,.slice al s.lens.length cl,.slice ap s.ptrs.length cp] 97))
 have y:=zaa (show IsB (s.mark≠0) (.returned (.bool (s.mark != 0))) from ⟨_,rfl,bne_iff_ne⟩)
 go_enter Tryz.func141,Tryz.ntmps141
 go_wp2_with fail
 go_ret
 exact ⟨y.out,bb.out⟩
theorem cboth0 (pg c mk:Int) (sw:Bool) (al:Option Addr) (nl cl:Nat) (ap:Option Addr) (np cp:Nat) (w:World) :
  Calls Tryz.prog 142 #[.agg #[.int .i64 pg,.int .i64 c,.int .i64 mk,.bool sw,.slice al nl cl,.slice ap np cp]] w fun e w'=>IsB (sw=true∧mk≠0) e∧Below w.heap.size w w':=by
 have bb:=zaa (Z5 w (.cells #[.int .i64 pg,.int .i64 c,.int .i64 mk,.bool sw,.slice al nl cl,.slice ap np cp] 97))
 cases sw
 ·have y:=zaa (IsB.no (P:=false=true∧mk≠0) fun h=>absurd h.1 (by decide))
  go_enter Tryz.func142,Tryz.ntmps142
  go_wp2_with fail
  go_ret
  exact ⟨y.out,bb.out⟩
 ·have y:=zaa (show IsB (True∧mk≠0) (.returned (.bool (mk != 0))) from ⟨_,rfl,by rw [bne_iff_ne];simp⟩)
  go_enter Tryz.func142,Tryz.ntmps142
  go_wp2_with fail
  go_ret
  exact ⟨y.out,bb.out⟩
theorem zzk (s:Y3) (al:Option Addr) (cl:Nat) (ap:Option Addr) (cp:Nat) (w:World) :
  Calls Tryz.prog 142 #[.agg #[.int .i64 s.page,.int .i64 s.cls,.int .i64 s.mark,.bool s.swept,.slice al s.lens.length cl,.slice ap s.ptrs.length cp]] w fun e w'=>IsB (s.swept=true∧s.mark≠0) e∧Below w.heap.size w w':=cboth0 s.page s.cls s.mark s.swept al _ cl ap _ cp w
theorem zvz (v:Value) (L:List Y3) (w:World) (hr:RdS w v L) :
  Calls Tryz.prog 164 #[v,.func (.func 140) #[] #[]] w fun e w'=>∃ r:Int,e=.returned (.int .i64 r)∧Hid (zex L (fun s=>s.swept=true) r)∧Below w.heap.size w w':=by
 have hr':=zaa hr
 obtain ⟨aS,cS,rfl,hl,_⟩:=hr
 unfold maxLen at hl
 go_enter Tryz.func164,Tryz.ntmps164
 go_wp2_with fail
 go_loopw [8] (fun i wr=>∃ k:Nat,k≤L.length∧i=.int .i64 k∧Hid (∀ q t,q<k→L[q]?=some t→¬ (fun s=>s.swept=true) t)∧Hid (Below w.heap.size w wr)) (fun i _=>L.length-(Go.RowKit.intOf i).toNat)
 case atStart=>exact ⟨0,Nat.zero_le _,rfl,zaa (fun q t h=>absurd h (by omega)),zaa (Below.refl _ _)⟩
 case round =>
  obtain ⟨k,hk,rfl,hno,hB⟩:=hrel
  by_cases hlt:k<L.length
  ·have hlt1:(k:Int)<(L.length:Int):=by omega
   obtain ⟨s,hks⟩:∃ s,L[k]?=some s:=⟨_,List.getElem?_eq_getElem hlt⟩
   obtain ⟨b1,o1,rfl,vl,vp,x0,x1,x2,x3,x4,x5,⟨al,cl,rfl,_⟩,⟨ap,cp,rfl,_⟩⟩:=(hr'.out.below hB.out).at_ k s hks
   have hcall:=zaa (zwj s al cl ap cp wr)
   have hks':=zaa hks
   clear hks
   go_wp2_with fail
   refine hcall.out.mono ?_
   rintro e w2 ⟨hq,b2⟩
   replace hq:=hq.elim
   have hB2:=zaa (Z4 hB.out b2)
   clear b2 hcall x0 x1 x2 x3 x4 x5
   rcases hq with ⟨hq,rfl⟩ | ⟨hq,rfl⟩
   ·have y:=zaa (show zex L (fun s=>s.swept=true) (k:Int) from .inl ⟨k,s,rfl,hks'.out,hq,hno.out⟩)
    clear hq
    go_wp2_with fail
    go_ret
    exact ⟨_,rfl,y,hB2.out⟩
   ·have hn:=zaa (show ∀ q t,q<k+1→L[q]?=some t→¬ (fun s=>s.swept=true) t from fun q t hq2 ht=>if e:q=k then by subst e;rw [hks'.out] at ht;cases ht;exact hq else hno.out q t (by omega) ht)
    clear hq
    go_wp2_with fail
    go_roundw
    case rel=>exact ⟨k+1,by omega,by go_num,hn,hB2⟩
    case measure=>simp [Go.RowKit.intOf];omega
  obtain rfl:k=L.length:=by omega
  have y:=zaa (show zex L (fun s=>s.swept=true) (-1) from .inr ⟨rfl,fun s hs=>by obtain ⟨q,hq⟩:=List.mem_iff_getElem?.1 hs;exact hno.out q s (List.getElem?_eq_some_iff.1 hq).1 hq⟩)
  go_wp2_with fail
  go_ret
  exact ⟨_,rfl,y,hB.out⟩
theorem zwk (v:Value) (L:List Y3) (w:World) (hr:RdS w v L) :
  Calls Tryz.prog 139 #[v,.func (.func 140) #[] #[]] w fun e w'=>IsB (∃ s,s ∈ L∧(fun s=>s.swept=true) s) e∧Below w.heap.size w w':=by
 have hl:L.length≤9223372036854775807:=by obtain ⟨_,_,_,hl,_⟩:=hr;unfold maxLen at hl;omega
 have hcall:=zaa (zvz v L w hr)
 clear hr
 go_enter Tryz.func139,Tryz.ntmps139
 go_wp2_with fail
 refine hcall.out.mono ?_
 rintro e w1 ⟨r,rfl,hf,b1⟩
 have y:=zaa (show IsB (∃ s,s ∈ L∧(fun s=>s.swept=true) s) (.returned (.bool (decide (0≤r)))) from ⟨_,rfl,by rw [decide_eq_true_iff];exact hf.out.ge.1⟩)
 have b1':=zaa b1
 clear b1 hcall hf
 go_wp2_with fail
 go_ret
 exact ⟨y.out,b1'.out⟩
theorem zst (v:Value) (L:List Y3) (w:World) (hr:RdS w v L) :
  Calls Tryz.prog 164 #[v,.func (.func 141) #[] #[]] w fun e w'=>∃ r:Int,e=.returned (.int .i64 r)∧Hid (zex L (fun s=>s.mark≠0) r)∧Below w.heap.size w w':=by
 have hr':=zaa hr
 obtain ⟨aS,cS,rfl,hl,_⟩:=hr
 unfold maxLen at hl
 go_enter Tryz.func164,Tryz.ntmps164
 go_wp2_with fail
 go_loopw [8] (fun i wr=>∃ k:Nat,k≤L.length∧i=.int .i64 k∧Hid (∀ q t,q<k→L[q]?=some t→¬ (fun s=>s.mark≠0) t)∧Hid (Below w.heap.size w wr)) (fun i _=>L.length-(Go.RowKit.intOf i).toNat)
 case atStart=>exact ⟨0,Nat.zero_le _,rfl,zaa (fun q t h=>absurd h (by omega)),zaa (Below.refl _ _)⟩
 case round =>
  obtain ⟨k,hk,rfl,hno,hB⟩:=hrel
  by_cases hlt:k<L.length
  ·have hlt1:(k:Int)<(L.length:Int):=by omega
   obtain ⟨s,hks⟩:∃ s,L[k]?=some s:=⟨_,List.getElem?_eq_getElem hlt⟩
   obtain ⟨b1,o1,rfl,vl,vp,x0,x1,x2,x3,x4,x5,⟨al,cl,rfl,_⟩,⟨ap,cp,rfl,_⟩⟩:=(hr'.out.below hB.out).at_ k s hks
   have hcall:=zaa (ztb s al cl ap cp wr)
   have hks':=zaa hks
   clear hks
   go_wp2_with fail
   refine hcall.out.mono ?_
   rintro e w2 ⟨hq,b2⟩
   replace hq:=hq.elim
   have hB2:=zaa (Z4 hB.out b2)
   clear b2 hcall x0 x1 x2 x3 x4 x5
   rcases hq with ⟨hq,rfl⟩ | ⟨hq,rfl⟩
   ·have y:=zaa (show zex L (fun s=>s.mark≠0) (k:Int) from .inl ⟨k,s,rfl,hks'.out,hq,hno.out⟩)
    clear hq
    go_wp2_with fail
    go_ret
    exact ⟨_,rfl,y,hB2.out⟩
   ·have hn:=zaa (show ∀ q t,q<k+1→L[q]?=some t→¬ (fun s=>s.mark≠0) t from fun q t hq2 ht=>if e:q=k then by subst e;rw [hks'.out] at ht;cases ht;exact hq else hno.out q t (by omega) ht)
    clear hq
    go_wp2_with fail
    go_roundw
    case rel=>exact ⟨k+1,by omega,by go_num,hn,hB2⟩
    case measure=>simp [Go.RowKit.intOf];omega
  obtain rfl:k=L.length:=by omega
  have y:=zaa (show zex L (fun s=>s.mark≠0) (-1) from .inr ⟨rfl,fun s hs=>by obtain ⟨q,hq⟩:=List.mem_iff_getElem?.1 hs;exact hno.out q s (List.getElem?_eq_some_iff.1 hq).1 hq⟩)
  go_wp2_with fail
  go_ret
  exact ⟨_,rfl,y,hB.out⟩
theorem zta (v:Value) (L:List Y3) (w:World) (hr:RdS w v L) :
  Calls Tryz.prog 139 #[v,.func (.func 141) #[] #[]] w fun e w'=>IsB (∃ s,s ∈ L∧(fun s=>s.mark≠0) s) e∧Below w.heap.size w w':=by
 have hl:L.length≤9223372036854775807:=by obtain ⟨_,_,_,hl,_⟩:=hr;unfold maxLen at hl;omega
 have hcall:=zaa (zst v L w hr)
 clear hr
 go_enter Tryz.func139,Tryz.ntmps139
 go_wp2_with fail
 refine hcall.out.mono ?_
 rintro e w1 ⟨r,rfl,hf,b1⟩
 have y:=zaa (show IsB (∃ s,s ∈ L∧(fun s=>s.mark≠0) s) (.returned (.bool (decide (0≤r)))) from ⟨_,rfl,by rw [decide_eq_true_iff];exact hf.out.ge.1⟩)
 have b1':=zaa b1
 clear b1 hcall hf
 go_wp2_with fail
 go_ret
 exact ⟨y.out,b1'.out⟩
theorem zza (v:Value) (L:List Y3) (w:World) (hr:RdS w v L) :
  Calls Tryz.prog 164 #[v,.func (.func 142) #[] #[]] w fun e w'=>∃ r:Int,e=.returned (.int .i64 r)∧Hid (zex L (fun s=>s.swept=true∧s.mark≠0) r)∧Below w.heap.size w w':=by
 have hr':=zaa hr
 obtain ⟨aS,cS,rfl,hl,_⟩:=hr
 unfold maxLen at hl
 go_enter Tryz.func164,Tryz.ntmps164
 go_wp2_with fail
 go_loopw [8] (fun i wr=>∃ k:Nat,k≤L.length∧i=.int .i64 k∧Hid (∀ q t,q<k→L[q]?=some t→¬ (fun s=>s.swept=true∧s.mark≠0) t)∧Hid (Below w.heap.size w wr)) (fun i _=>L.length-(Go.RowKit.intOf i).toNat)
 case atStart=>exact ⟨0,Nat.zero_le _,rfl,zaa (fun q t h=>absurd h (by omega)),zaa (Below.refl _ _)⟩
 case round =>
  obtain ⟨k,hk,rfl,hno,hB⟩:=hrel
  by_cases hlt:k<L.length
  ·have hlt1:(k:Int)<(L.length:Int):=by omega
   obtain ⟨s,hks⟩:∃ s,L[k]?=some s:=⟨_,List.getElem?_eq_getElem hlt⟩
   obtain ⟨b1,o1,rfl,vl,vp,x0,x1,x2,x3,x4,x5,⟨al,cl,rfl,_⟩,⟨ap,cp,rfl,_⟩⟩:=(hr'.out.below hB.out).at_ k s hks
   have hcall:=zaa (zzk s al cl ap cp wr)
   have hks':=zaa hks
   clear hks
   go_wp2_with fail
   refine hcall.out.mono ?_
   rintro e w2 ⟨hq,b2⟩
   replace hq:=hq.elim
   have hB2:=zaa (Z4 hB.out b2)
   clear b2 hcall x0 x1 x2 x3 x4 x5
   rcases hq with ⟨hq,rfl⟩ | ⟨hq,rfl⟩
   ·have y:=zaa (show zex L (fun s=>s.swept=true∧s.mark≠0) (k:Int) from .inl ⟨k,s,rfl,hks'.out,hq,hno.out⟩)
    clear hq
    go_wp2_with fail
    go_ret
    exact ⟨_,rfl,y,hB2.out⟩
   ·have hn:=zaa (show ∀ q t,q<k+1→L[q]?=some t→¬ (fun s=>s.swept=true∧s.mark≠0) t from fun q t hq2 ht=>if e:q=k then by subst e;rw [hks'.out] at ht;cases ht;exact hq else hno.out q t (by omega) ht)
    clear hq
    go_wp2_with fail
    go_roundw
    case rel=>exact ⟨k+1,by omega,by go_num,hn,hB2⟩
    case measure=>simp [Go.RowKit.intOf];omega
  obtain rfl:k=L.length:=by omega
  have y:=zaa (show zex L (fun s=>s.swept=true∧s.mark≠0) (-1) from .inr ⟨rfl,fun s hs=>by obtain ⟨q,hq⟩:=List.mem_iff_getElem?.1 hs;exact hno.out q s (List.getElem?_eq_some_iff.1 hq).1 hq⟩)
  go_wp2_with fail
  go_ret
  exact ⟨_,rfl,y,hB.out⟩
theorem zze (v:Value) (L:List Y3) (w:World) (hr:RdS w v L) :
  Calls Tryz.prog 139 #[v,.func (.func 142) #[] #[]] w fun e w'=>IsB (∃ s,s ∈ L∧(fun s=>s.swept=true∧s.mark≠0) s) e∧Below w.heap.size w w':=by
 have hl:L.length≤9223372036854775807:=by obtain ⟨_,_,_,hl,_⟩:=hr;unfold maxLen at hl;omega
 have hcall:=zaa (zza v L w hr)
 clear hr
 go_enter Tryz.func139,Tryz.ntmps139
 go_wp2_with fail
 refine hcall.out.mono ?_
 rintro e w1 ⟨r,rfl,hf,b1⟩
 have y:=zaa (show IsB (∃ s,s ∈ L∧(fun s=>s.swept=true∧s.mark≠0) s) (.returned (.bool (decide (0≤r)))) from ⟨_,rfl,by rw [decide_eq_true_iff];exact hf.out.ge.1⟩)
 have b1':=zaa b1
 clear b1 hcall hf
 go_wp2_with fail
 go_ret
 exact ⟨y.out,b1'.out⟩
end Go.Proofs.YtilkidaihbhfpaaGreat

namespace Go.Proofs.YtilkidaihbhfpaaGreat
open Go.RowKit
open Go.Maps (Keyed)
set_option linter.unusedVariables false
theorem zoq (V B g n:Nat) (M:DataW Unit) (v:Value) (D:WD) (w:World) (hr:RdW w v D) (hB:BoxW w B v) (hv:M4 D w V B g n M) :
  Calls Tryz.prog 101 #[.pointer (some ⟨V,0,none⟩)] w fun e w'=>IsB (D.grey=[]) e∧Below w.heap.size w w':=by
 have c0:=Z0 hv.box 0 (.pointer (some ⟨B,0,none⟩)) rfl
 obtain ⟨vw,vd,vs,vm,vg,rfl,a1,a2,a3,a4,a5⟩:=hr
 obtain ⟨ag,cg,rfl,hl,_⟩:=a5
 unfold maxLen at hl
 have g8:=hB.cell 8 _ rfl
 clear a1 a2 a3 a4 hB hv
 by_cases c:D.grey=[]
 ·have y:=zaa (IsB.yes c)
  have hz:D.grey.length=0:=by rw [c];rfl
  rw [hz] at g8
  clear c
  go_enter Tryz.func101,Tryz.ntmps101
  go_wp2_with fail
  go_ret
  exact ⟨y.out,Below.refl _ _⟩
 ·have y:=zaa (IsB.no c)
  have hz:¬ D.grey.length=0:=fun h=>c (List.length_eq_zero_iff.1 h)
  have hz1:((D.grey.length:Int) == 0)=false:=beq_eq_false_iff_ne.2 (by omega)
  clear c
  go_enter Tryz.func101,Tryz.ntmps101
  go_wp2_with fail
  go_ret
  exact ⟨by simpa [hz,hz1] using y.out,Below.refl _ _⟩
theorem pNext (V B g n:Nat) (M:DataW Unit) (v:Value) (D:WD) (w:World) (hr:RdW w v D) (hB:BoxW w B v) (hv:M4 D w V B g n M) :
  Calls Tryz.prog 102 #[.pointer (some ⟨V,0,none⟩)] w fun e w'=>IsB ((D.phase=1→0≤D.next∧D.next≤(D.muts.length:Int))∧(D.phase≠1→D.next=0)) e∧Below w.heap.size w w':=by
 have c0:=Z0 hv.box 0 (.pointer (some ⟨B,0,none⟩)) rfl
 obtain ⟨vw,vd,vs,vm,vg,rfl,a1,a2,a3,a4,a5⟩:=hr
 obtain ⟨aM,cM,rfl,hml,_⟩:=a4
 unfold maxLen at hml
 have g5:=hB.cell 5 _ rfl
 have g6:=hB.cell 6 _ rfl
 have g7:=hB.cell 7 _ rfl
 have hP:=zaa (Iff.refl ((D.phase=1→0≤D.next∧D.next≤(D.muts.length:Int))∧(D.phase≠1→D.next=0)))
 clear a1 a2 a3 a5 hB hv
 by_cases c:D.phase=1
 ·have y:=zaa (show IsB ((D.phase=1→0≤D.next∧D.next≤(D.muts.length:Int))∧(D.phase≠1→D.next=0)) (.returned (.bool (inB D.next 0 (D.muts.length:Int)))) from ⟨_,rfl,by rw [T9];exact ⟨fun h=>⟨fun _=>h,fun h2=>absurd c h2⟩,fun h=>h.1 c⟩⟩)
  rw [c] at g6
  clear hP
  generalize ((D.phase=1→0≤D.next∧D.next≤(D.muts.length:Int))∧(D.phase≠1→D.next=0))=P at *
  clear c
  go_enter Tryz.func102,Tryz.ntmps102
  go_wp2_with fail
  go_quiet ((go_at_call 54;exact Calls.quiet_of_same ((zmv _ _ _ _).mono fun _ _ ⟨a,b⟩=>⟨a,b.symm⟩)))
  go_wp2_with fail
  go_ret
  exact ⟨y.out,below_drewN (Below.refl _ _) _⟩
 ·have y:=zaa (show IsB ((D.phase=1→0≤D.next∧D.next≤(D.muts.length:Int))∧(D.phase≠1→D.next=0)) (.returned (.bool (D.next == 0))) from ⟨_,rfl,by rw [beq_iff_eq];exact ⟨fun h=>⟨fun h2=>absurd h2 c,fun _=>h⟩,fun h=>h.2 c⟩⟩)
  have d:(D.phase == 1)=false:=beq_eq_false_iff_ne.2 c
  clear hP
  generalize ((D.phase=1→0≤D.next∧D.next≤(D.muts.length:Int))∧(D.phase≠1→D.next=0))=P at *
  clear c
  go_enter Tryz.func102,Tryz.ntmps102
  go_wp2_with fail
  go_ret
  exact ⟨y.out,Below.refl _ _⟩
theorem pSwept (V B g n:Nat) (M:DataW Unit) (v:Value) (D:WD) (w:World) (hr:RdW w v D) (hB:BoxW w B v) (hv:M4 D w V B g n M) :
  Calls Tryz.prog 103 #[.pointer (some ⟨V,0,none⟩)] w fun e w'=>IsB (¬ ∃ s,s ∈ D.spans∧(s.swept=true)) e∧Below w.heap.size w w':=by
 have c0:=Z0 hv.box 0 (.pointer (some ⟨B,0,none⟩)) rfl
 obtain ⟨vw,vd,vs,vm,vg,rfl,a1,a2,a3,a4,a5⟩:=hr
 have hcall:=zaa (zwk _ D.spans w a3)
 obtain ⟨aS,cS,rfl,_⟩:=a3
 have g4:=hB.cell 4 _ rfl
 clear a1 a2 a4 a5 hB hv
 go_enter Tryz.func103,Tryz.ntmps103
 go_wp2_with fail
 refine hcall.out.mono ?_
 rintro e w1 ⟨⟨r,rfl,hr⟩,b1⟩
 have y:=zaa (show IsB (¬ ∃ s,s ∈ D.spans∧(s.swept=true)) (.returned (.bool (!r))) from ⟨_,rfl,by rw [← hr];cases r <;> simp⟩)
 have b1':=zaa b1
 clear hr b1 hcall
 go_wp2_with fail
 go_ret
 exact ⟨y.out,b1'.out⟩
theorem pMarked (V B g n:Nat) (M:DataW Unit) (v:Value) (D:WD) (w:World) (hr:RdW w v D) (hB:BoxW w B v) (hv:M4 D w V B g n M) :
  Calls Tryz.prog 104 #[.pointer (some ⟨V,0,none⟩)] w fun e w'=>IsB (¬ ∃ s,s ∈ D.spans∧(s.mark≠0)) e∧Below w.heap.size w w':=by
 have c0:=Z0 hv.box 0 (.pointer (some ⟨B,0,none⟩)) rfl
 obtain ⟨vw,vd,vs,vm,vg,rfl,a1,a2,a3,a4,a5⟩:=hr
 have hcall:=zaa (zta _ D.spans w a3)
 obtain ⟨aS,cS,rfl,_⟩:=a3
 have g4:=hB.cell 4 _ rfl
 clear a1 a2 a4 a5 hB hv
 go_enter Tryz.func104,Tryz.ntmps104
 go_wp2_with fail
 refine hcall.out.mono ?_
 rintro e w1 ⟨⟨r,rfl,hr⟩,b1⟩
 have y:=zaa (show IsB (¬ ∃ s,s ∈ D.spans∧(s.mark≠0)) (.returned (.bool (!r))) from ⟨_,rfl,by rw [← hr];cases r <;> simp⟩)
 have b1':=zaa b1
 clear hr b1 hcall
 go_wp2_with fail
 go_ret
 exact ⟨y.out,b1'.out⟩
theorem pBoth (V B g n:Nat) (M:DataW Unit) (v:Value) (D:WD) (w:World) (hr:RdW w v D) (hB:BoxW w B v) (hv:M4 D w V B g n M) :
  Calls Tryz.prog 105 #[.pointer (some ⟨V,0,none⟩)] w fun e w'=>IsB (¬ ∃ s,s ∈ D.spans∧(s.swept=true∧s.mark≠0)) e∧Below w.heap.size w w':=by
 have c0:=Z0 hv.box 0 (.pointer (some ⟨B,0,none⟩)) rfl
 obtain ⟨vw,vd,vs,vm,vg,rfl,a1,a2,a3,a4,a5⟩:=hr
 have hcall:=zaa (zze _ D.spans w a3)
 obtain ⟨aS,cS,rfl,_⟩:=a3
 have g4:=hB.cell 4 _ rfl
 clear a1 a2 a4 a5 hB hv
 go_enter Tryz.func105,Tryz.ntmps105
 go_wp2_with fail
 refine hcall.out.mono ?_
 rintro e w1 ⟨⟨r,rfl,hr⟩,b1⟩
 have y:=zaa (show IsB (¬ ∃ s,s ∈ D.spans∧(s.swept=true∧s.mark≠0)) (.returned (.bool (!r))) from ⟨_,rfl,by rw [← hr];cases r <;> simp⟩)
 have b1':=zaa b1
 clear hr b1 hcall
 go_wp2_with fail
 go_ret
 exact ⟨y.out,b1'.out⟩
theorem pGrey (V B g n:Nat) (M:DataW Unit) (v:Value) (D:WD) (hF:Z8 D) (hI:AllI D.grey) (w:World) (hr:RdW w v D) (hB:BoxW w B v) (hv:M4 D w V B g n M) :
  Calls Tryz.prog 100 #[.pointer (some ⟨V,0,none⟩)] w fun e w'=>IsB (Y8 D D.grey) e∧Below w.heap.size w w':=by
 have hr':=zaa hr
 have hB':=zaa hB
 have hF':=zaa hF
 have hI':=zaa hI
 have hv':=zaa hv
 have c0:=Z0 hv.box 0 (.pointer (some ⟨B,0,none⟩)) rfl
 obtain ⟨vw,vd,vs,vm,vg,rfl,a1,a2,a3,a4,a5⟩:=hr
 obtain ⟨ag,cg,rfl,hl,xg⟩:=a5
 have xg':=zaa xg
 unfold maxLen at hl
 have bb:=zaa (Z5 w (.map #[] 0))
 have g8:=Z7 bb.out (hB.cell 8 _ rfl)
 have c0:=Z7 bb.out c0
 have hmk:=@run_makeMap Tryz.prog
 have hown0:=zaa (show OwnB (w.alloc (.map #[] 0)) w.heap.size 0 (.map []) from World.ownsMap_made w Tryz.prog 3 zfz)
 clear a1 a2 a3 a4 xg hB hF hI hv
 go_enter Tryz.func100,Tryz.ntmps100
 go_wp2_with fail
 clear g8 c0 hmk
 go_loopw [16] (fun i wr=>∃ (k:Nat) (S:List Int),k≤D.grey.length∧i=.int .i64 k∧Hid (∀ a,a ∈ S↔a ∈ D.grey.take k)∧Hid (Y8 D (D.grey.take k))∧Hid (∃ M2,zke M2 S∧OwnB wr w.heap.size k M2)∧Hid (Below w.heap.size w wr)) (fun i _=>D.grey.length-(Go.RowKit.intOf i).toNat)
 case atStart=>exact ⟨0,[],Nat.zero_le _,rfl,zaa (fun a=>by simp),zaa (by simpa using Y8.nil D),zaa ⟨_,zke.zero,hown0.out⟩,bb⟩
 case round =>
  obtain ⟨k,S,hk,rfl,hS,hgm,hM,hB⟩:=hrel
  by_cases hlt:k<D.grey.length
  ·have hlt1:(k:Int)<(D.grey.length:Int):=by omega
   obtain ⟨bg,og,rfl,x0⟩:=xg'.out k hlt
   have x1:=Z7 hB.out x0
   have hx64:=hI'.out (D.grey[k]?.getD 0) (by rw [List.getElem?_eq_getElem hlt];exact List.getElem_mem hlt)
   have hno1:=zaa (Y8.no1 (D:=D) hlt)
   have hno2:=zaa (Y8.no2 (D:=D) hlt)
   have hsn:=zaa (show V7 D (D.grey[k]?.getD 0)→D.grey[k]?.getD 0 ∉ D.grey.take k→Y8 D (D.grey.take (k+1)) from fun hm hx=>by rw [M0 hlt];exact hgm.out.snoc hm hx)
   have hS2:=zaa (show ∀ a,a ∈ D.grey[k]?.getD 0 :: S↔a ∈ D.grey.take (k+1) from fun a=>by rw [M0 hlt,List.mem_append,List.mem_singleton,List.mem_cons,hS.out];exact Or.comm)
   clear x0
   generalize D.grey[k]?.getD 0=x at *
   have hkey:=zaa (zir hx64)
   obtain ⟨M2,hM1,hM2⟩:=hM.out
   have hM1':=zaa hM1
   have hM2':=zaa hM2
   by_cases hxS:x ∈ S
   ·have hlk:=zjl hM2 hkey.out (show M2.atKey (.int .i64 x) (flag false)=flag true by rw [hM1.look x];simp [hxS])
    have y:=zaa (IsB.no (hno2.out ((hS.out x).1 hxS)))
    clear hM1 hM2 hxS hx64
    go_wp2_with fail
    go_ret
    exact ⟨y.out,hB.out⟩
   have hlk:=zjl hM2 hkey.out (show M2.atKey (.int .i64 x) (flag false)=flag false by rw [hM1.look x];simp [hxS])
   have hmk:=zaa (znd V B g n M _ D hF'.out x hx64 wr (hr'.out.below hB.out) (hB'.out.below hB.out) (hv'.out.below hB.out))
   have hnS:=zaa (show x ∉ D.grey.take k from fun h=>hxS ((hS.out x).2 h))
   clear hM1 hM2 hxS hx64
   go_wp2_with fail
   refine hmk.out.mono ?_
   rintro e w1 ⟨hq,b1⟩
   replace hq:=hq.elim
   have hB1:=zaa (Z4 hB.out b1)
   have hM3:=zaa (hM2'.out.below b1)
   clear b1 hmk hlk x1
   rcases hq with ⟨hq,rfl⟩ | ⟨hq,rfl⟩
   case inr =>
    have y:=zaa (IsB.no (hno1.out hq))
    clear hq
    go_wp2_with fail
    go_ret
    exact ⟨y.out,hB1.out⟩
   have hn:=zaa (hsn.out hq hnS.out)
   clear hq
   go_wp2_with (at_mapUpdate;refine wpList_mapUpdate_own _ rfl _ _ _ 64 rfl 3 4 zjt Tryz.underlying64 zfz w.heap.size k M2 rfl hM3.out (by unfold maxLen;omega) _ _ (.int .i64 x) rfl rfl hkey.out (flag true) [] (zhy true) ?_;intro w3 hown3 hgrow3)
   have hB3:=zaa (hB1.out.grown hgrow3 hB1.out.size (fun q hq=>by cases hq;exact Nat.le_refl _))
   have hMM:=zaa (show ∃ M3,zke M3 (x :: S)∧OwnB w3 w.heap.size (k+1) M3 from ⟨_,hM1'.out.put x,hown3⟩)
   clear hown3 hgrow3
   go_wp2_with fail
   go_roundw
   case rel=>exact ⟨k+1,x :: S,by omega,by go_num,hS2,hn,hMM,hB3⟩
   case measure=>simp [Go.RowKit.intOf];omega
  obtain rfl:k=D.grey.length:=by omega
  have y:=zaa (IsB.yes (P:=Y8 D D.grey) (by simpa using hgm.out))
  go_wp2_with fail
  go_ret
  exact ⟨y.out,hB.out⟩
theorem zxy {D:WD} {a:Int} {L:List Int} (hF:Z8 D) (h:zth D a L):L.length≤16:=by
 rcases h with ⟨k,j,s,_,ho,hs,rfl⟩ | ⟨_,rfl⟩
 ·exact zhv hF ho hs
 ·simp
theorem zxz {D:WD} {a:Int} {L:List Int} (hW:AllI D.words) (h:zth D a L):AllI L:=by
 rcases h with ⟨k,j,s,_,ho,hs,rfl⟩ | ⟨_,rfl⟩
 ·exact fun x hx=>zms hW s j x (zhe.1 hx).1
 ·exact fun x hx=>by simp at hx
theorem M9.any {D:WD} {L fr Z:List Int} {x:Int} (hF:Z8 D) (h:M9 D L fr) (hp:zth D x Z):M9 D (L ++ [x]) (fr ++ Z):=by
 rcases hp with ⟨k,j,s,_,ho,hs,rfl⟩ | ⟨hn,rfl⟩
 ·exact h.snoc hF ho hs
 ·refine ⟨by have:=h.1;simp only [List.length_append,List.length_cons,List.length_nil];omega,fun b hb=>?_,fun b hb=>h.2.2 b (by simpa using hb)⟩
  rw [List.append_nil,h.2.1 b hb]
  constructor
  ·rintro ⟨a,k,j,s,ha,h1⟩
   exact ⟨a,k,j,s,List.mem_append.2 (.inl ha),h1⟩
  ·rintro ⟨a,k,j,s,ha,h1,h2⟩
   rcases List.mem_append.1 ha with ha | ha
   ·exact ⟨a,k,j,s,ha,h1,h2⟩
   ·rw [List.mem_singleton.1 ha] at h1
    exact absurd h1 (hn hF k j)
theorem kept_any (B1 B2 V B g n g2 n2:Nat) (M M2:DataW Unit) (S:List Int) (v:Value) (D:WD) (hF:Z8 D) (hM2:zke M2 S) (x:Int) (hx:I64 x) (w:World) (hr:RdW w v D) (hB:BoxW w B v) (hv:M4 D w V B g n M) (hO:OwnB w g2 n2 M2)
  (h1:w.cell? ⟨B1,0,none⟩=some (.map (some g2))) (h2:w.cell? ⟨B2,0,none⟩=some (.pointer (some ⟨V,0,none⟩))) :
  Calls Tryz.prog 144 #[.int .i64 x,.pointer (some ⟨B1,0,none⟩),.pointer (some ⟨B2,0,none⟩)] w fun e w'=>IsB (x ∈ S∨V7 D x) e∧Below w.heap.size w w':=by
 have hkey:=zaa (zir hx)
 have hmk:=zaa (znd V B g n M v D hF x hx w hr hB hv)
 by_cases hxS:x ∈ S
 ·have hlk:=zjl hO hkey.out (show M2.atKey (.int .i64 x) (flag false)=flag true by rw [hM2.look x];simp [hxS])
  have y:=zaa (IsB.yes (show x ∈ S∨V7 D x from .inl hxS))
  clear hr hB hv hO hxS hx
  go_enter Tryz.func144,Tryz.ntmps144
  go_wp2_with fail
  go_ret
  exact ⟨y.out,Below.refl _ _⟩
 ·have hlk:=zjl hO hkey.out (show M2.atKey (.int .i64 x) (flag false)=flag false by rw [hM2.look x];simp [hxS])
  have hiff:=zaa (show (x ∈ S∨V7 D x)↔V7 D x from ⟨fun h=>h.elim (fun h=>absurd h hxS) id,.inr⟩)
  clear hr hB hv hO hxS hx
  go_enter Tryz.func144,Tryz.ntmps144
  go_wp2_with fail
  refine hmk.out.mono ?_
  rintro e w1 ⟨⟨r,rfl,hrr⟩,b1⟩
  have y:=zaa (show IsB (x ∈ S∨V7 D x) (.returned (.bool r)) from ⟨r,rfl,hrr.trans hiff.out.symm⟩)
  have b1':=zaa b1
  clear hrr b1 hmk hlk
  go_wp2_with fail
  go_ret
  exact ⟨y.out,b1'.out⟩
theorem pKept (V B g n:Nat) (M:DataW Unit) (v:Value) (D:WD) (hF:Z8 D) (hW:AllI D.words) (hG:AllI D.grey) (hgl:D.grey.length≤384) (hM:∀ r,r ∈ D.muts→AllI r) (hcap:CapW v) (w:World) (hr:RdW w v D) (hB:BoxW w B v) (hv:M4 D w V B g n M) :
  Calls Tryz.prog 106 #[.pointer (some ⟨V,0,none⟩)] w fun e w'=>IsB (zgs D D.muts.length∧zhi D D.spans.length 0) e∧Below w.heap.size w w':=by
 have hr':=zaa hr
 have hB':=zaa hB
 have hF':=zaa hF
 have hW':=zaa hW
 have hG':=zaa hG
 have hM':=zaa hM
 have hcap':=zaa hcap
 have hv':=zaa hv
 have hC0:=zaa (fun (w':World) (hb:Below w.heap.size w w')=>Z7 hb (Z0 hv.box 0 (.pointer (some ⟨B,0,none⟩)) rfl))
 have hC1:=zaa (fun (w':World) (hb:Below w.heap.size w w')=>Z7 hb (Z0 hv.box 1 (.map (some g)) rfl))
 obtain ⟨bw,ow,cW,hv3⟩:=zoh hr (by have:=hF.words;have:=hF.geo.2.2.2.1;omega)
 have hv3:=zaa hv3
 obtain ⟨vw,vd,vs,vm,vg,rfl,a1,a2,a3,a4,a5⟩:=hr
 obtain ⟨aM,cM,rfl,hml,hxm⟩:=a4
 obtain ⟨ag,cg,rfl,hgm,xg⟩:=a5
 have hxm':=zaa hxm
 have xg':=zaa xg
 unfold maxLen at hml
 have G5:=zaa (fun (w':World) (hb:Below w.heap.size w w')=>Z7 hb (hB.cell 5 (.slice aM D.muts.length cM) rfl))
 have G8:=zaa (fun (w':World) (hb:Below w.heap.size w w')=>Z7 hb (hB.cell 8 (.slice ag D.grey.length cg) rfl))
 have hmu:=hF.geo.2.2.2.2.2.2
 have hmf:∀ (fn:Fn) (first cap:Array Value) (w:World),(Instr.makeFunc fn first cap).run Tryz.prog w=.ok (.func fn first cap) w:=fun _ _ _ _=>rfl
 have bb:=zaa (Z5 w (.cells #[.pointer (some ⟨V,0,none⟩)] 65))
 have bx:=zaa (Y6 w (.cells #[.pointer (some ⟨V,0,none⟩)] 65))
 have hV0:=zaa (fun (w':World) (hb:Below (w.alloc (.cells #[.pointer (some ⟨V,0,none⟩)] 65)).heap.size (w.alloc (.cells #[.pointer (some ⟨V,0,none⟩)] 65)) w')=>Z7 hb (Z0 bx.out 0 (.pointer (some ⟨V,0,none⟩)) rfl))
 have v0:=hV0.out _ (Below.refl _ _)
 have c0:=hC0.out _ bb.out
 have g8:=G8.out _ bb.out
 clear a1 a2 a3 hB hF hW hG hM hcap hv hxm xg hgm bx
 go_enter Tryz.func106,Tryz.ntmps106
 go_upto_region 1 with fail
 generalize hWW:w.alloc (.cells #[.pointer (some ⟨V,0,none⟩)] 65)=W0 at *
 clear hWW
 have hz0:=zaa bb.out.size
 go_wp2_with fail
 clear v0 c0 g8
 go_loopw [3,20] (fun u i wr=>∃ (m:Nat) (fr:List Int),m≤D.grey.length∧i=.int .i64 m∧Hid (M9 D (D.grey.take m) fr)∧Hid (AllI fr)∧Hid (wr.ownsRow W0.heap.size 3 1 u fr.length (fr.map (Value.int .i64)))∧Hid (Below W0.heap.size W0 wr)) (fun _ i _=>D.grey.length-(Go.RowKit.intOf i).toNat)
 case atStart=>exact ⟨0,[],Nat.zero_le _,rfl,zaa (by simpa using M9.nil D),zaa (fun x hx=>by simp at hx),zaa (World.ownsRow_nil _ _ _ _),zaa (Below.refl _ _)⟩
 case round =>
  obtain ⟨m,fr,hm,rfl,hfr,hfi,hown,hb⟩:=hrel
  have v0:=hV0.out _ hb.out
  have hfl:=hfr.out.1
  rw [List.length_take] at hfl
  obtain ⟨au,cu,hu⟩:=Y4 hown.out
  subst hu
  by_cases hlt:m<D.grey.length
  ·have hlt1:(m:Int)<(D.grey.length:Int):=by omega
   obtain ⟨bg,og,rfl,x0⟩:=xg'.out m hlt
   have x1:=Z7 (Z4 bb.out hb.out) x0
   have hx64:=hG'.out (D.grey[m]?.getD 0) (by rw [List.getElem?_eq_getElem hlt];exact List.getElem_mem hlt)
   have ht1:=zaa (M0 hlt)
   clear x0
   generalize D.grey[m]?.getD 0=x at *
   have hbw:=zaa (Z4 bb.out hb.out)
   have hpt:=zaa (zkj V B g n M _ D hF'.out x hx64 hcap'.out _ (hr'.out.below hbw.out) (hB'.out.below hbw.out) (hv'.out.below hbw.out))
   clear hx64
   go_wp2_with (first
    | (go_at_call 40;refine hpt.out.mono ?_;rintro e w5 ⟨Z,u4,hZ,rfl,h4,b5⟩;obtain ⟨a4,c4,hu4⟩:=Y4 h4;subst hu4;have own5:=zaa (Y9 hown.out b5);have src5:=zaa (Rd.src (Rd.of_owns h4));have hb5:=zaa (Z4 hb.out b5);have hZ':=zaa hZ;have hZl:=zxy hF'.out hZ;clear h4 b5 hZ)
    | (at_builtin;refine P5 rfl (.tmp 24) (.tmp 27) 23 rfl W0.heap.size 3 (.int .i64 0) 1 8 Tryz.underlying23 E9 rfl (by decide) _ fr.length _ rfl own5.out a4 Z.length c4 (Z.map (Value.int .i64)) rfl src5.out (by unfold maxLen;omega) (by omega) hb5.out.size ?_;intro v6 w6 o6 g6))
   have hb6:=zaa (F8 hb5.out own5.out g6 hb5.out.size)
   have o6':=zaa (show w6.ownsRow W0.heap.size 3 1 v6 (fr ++ Z).length ((fr ++ Z).map (Value.int .i64)) by simpa using o6)
   have hnx:=zaa (show M9 D (D.grey.take (m+1)) (fr ++ Z) by rw [ht1.out];exact hfr.out.any hF'.out hZ'.out)
   have hni:=zaa (show AllI (fr ++ Z) from fun y hy=>(List.mem_append.1 hy).elim (hfi.out y) (zxz hW'.out hZ'.out y))
   clear o6 g6 v0 x1
   go_wp2_with fail
   go_roundw
   case rel=>exact ⟨m+1,fr ++ Z,by omega,by go_num,hnx,hni,o6',hb6⟩
   case measure=>simp [Go.RowKit.intOf];omega
  obtain rfl:m=D.grey.length:=by omega
  have hfr2:=zaa (show M9 D D.grey fr by simpa using hfr.out)
  have hfl2:fr.length≤1048576:=by omega
  have hbw:=zaa (Z4 bb.out hb.out)
  have hsp:=zaa (zsc V B g n M _ D hF'.out hW'.out hcap'.out au cu fr hfi.out hfl2 w.heap.size _ (hr'.out.below hbw.out) (hB'.out.below hbw.out) (hv'.out.below hbw.out) (Rd.of_owns hown.out) v0)
  clear hfr hlt hm hfl
  go_wp2_with fail
  refine hsp.out.mono ?_
  rintro e w3 ⟨g',S,hS,rfl,hMM,hg',b3⟩
  obtain ⟨M2,hM2,hO2⟩:=hMM.out
  have hM2':=zaa hM2
  have hKS:=zaa (show ∀ a,(a ∈ S∨V7 D a)↔(zfa D a∨V7 D a) from fun a=>by rw [hS.out.2 a,zfa.of_led hfr2.out.2.1 a])
  have hb3:=zaa (Z4 hb.out b3)
  have b4:=zaa (Z5 w3 (.cells #[.map (some g')] 64))
  have bx4:=zaa (Y6 w3 (.cells #[.map (some g')] 64))
  have hO4:=zaa (hO2.below b4.out)
  have hb4:=zaa (Z4 hb3.out b4.out)
  have v4:=hV0.out _ hb4.out
  have c4:=hC0.out _ (Z4 bb.out hb4.out)
  have g54:=G5.out _ (Z4 bb.out hb4.out)
  clear hM2 hO2 hMM hS b3 hsp v0 hown hb hbw
  go_upto_region 9 with fail
  generalize hB1:w3.heap.size=B1 at *
  generalize hWW:w3.alloc (.cells #[.map (some g')] 64)=W3 at *
  have hB1c:=zaa (fun (w':World) (hb:Below W3.heap.size W3 w')=>Z7 hb (Z0 bx4.out 0 (.map (some g')) rfl))
  clear hWW hB1 b4 bx4
  have hkc:=zaa (fun (x:Int) (w':World) (hx:I64 x) (hb:Below W3.heap.size W3 w')=>kept_any B1 w.heap.size V B g n g' S.length M M2 S _ D hF'.out hM2'.out x hx w' (hr'.out.below (Z4 bb.out (Z4 hb4.out hb))) (hB'.out.below (Z4 bb.out (Z4 hb4.out hb))) (hv'.out.below (Z4 bb.out (Z4 hb4.out hb))) (hO4.out.below hb) (hB1c.out _ hb) (hV0.out _ (Z4 hb4.out hb)))
  have hall:=zaa (show ∀ L,zig (fun a=>a ∈ S∨V7 D a) L↔zja D L from fun L=>⟨fun h a ha=>(h a ha).imp id (hKS.out a).1,fun h a ha=>(h a ha).imp id (hKS.out a).2⟩)
  have hbW:=zaa (show ∀ w',Below W3.heap.size W3 w'→Below w.heap.size w w' from fun w' hb=>Z4 bb.out (Z4 hb4.out hb))
  have hbV:=zaa (show ∀ w',Below W3.heap.size W3 w'→Below W0.heap.size W0 w' from fun w' hb=>Z4 hb4.out hb)
  go_wp2_with fail
  clear v4 c4 g54
  go_loopw [43] (fun i wr=>∃ m:Nat,m≤D.muts.length∧i=.int .i64 m∧Hid (zgs D m)∧Hid (Below W3.heap.size W3 wr)) (fun i _=>D.muts.length-(Go.RowKit.intOf i).toNat)
  case atStart=>exact ⟨0,Nat.zero_le _,rfl,zaa (fun q r h=>absurd h (by omega)),zaa (Below.refl _ _)⟩
  case round =>
   obtain ⟨m,hm,rfl,hok,hb⟩:=hrel
   have v0:=hV0.out _ (hbV.out _ hb.out)
   have c0:=hC0.out _ (hbW.out _ hb.out)
   have g5:=G5.out _ (hbW.out _ hb.out)
   by_cases hlt:m<D.muts.length
   ·have hlt1:(m:Int)<(D.muts.length:Int):=by omega
    obtain ⟨r,hmr⟩:∃ r,D.muts[m]?=some r:=⟨_,List.getElem?_eq_getElem hlt⟩
    obtain ⟨bM,oM,vr,rfl,xm0,hrd⟩:=hxm'.out m r hmr
    obtain ⟨ar,cr,rfl,hrl,xr⟩:=id hrd
    have xm:=Z7 (hbW.out _ hb.out) xm0
    have hseen:=zaa (zsu B _ D (m:Int) _ (hr'.out.below (hbW.out _ hb.out)) (hB'.out.below (hbW.out _ hb.out)))
    have hz:=zaa (zna B1 w.heap.size (fun a=>a ∈ S∨V7 D a) _ r (hM'.out r (List.mem_of_getElem? hmr)) _ (hrd.below (hbW.out _ hb.out)) (fun x w' hx hb2=>hkc.out x w' hx (Z4 hb.out hb2)))
    have hyes:=zaa (show (N8 D m→zja D r)→zgs D (m+1) from fun h q r2 hq hr2 hs=>if e:q=m then by subst e;rw [hmr] at hr2;cases hr2;exact h hs else hok.out q r2 (by omega) hr2 hs)
    have hnot:=zaa (show N8 D m→¬ zja D r→¬ (zgs D D.muts.length∧zhi D D.spans.length 0) from fun hs h h2=>h (h2.1 m r hlt hmr hs))
    clear xm0 hrd xr hmr hrl
    go_wp2_with fail
    refine hseen.out.mono ?_
    rintro e w2 ⟨hq,rfl⟩
    replace hq:=hq.elim
    clear hseen
    rcases hq with ⟨hq,rfl⟩ | ⟨hq,rfl⟩
    case inr =>
     have hn:=zaa (hyes.out fun h=>absurd h hq)
     clear hq
     go_wp2_with fail
     go_roundw
     case rel=>exact ⟨m+1,by omega,by go_num,hn,hb⟩
     case measure=>simp [Go.RowKit.intOf];omega
    have hs:=zaa hq
    clear hq
    go_wp2_with fail
    refine hz.out.mono ?_
    rintro e w4 ⟨hq,b5⟩
    replace hq:=hq.elim
    have hb5:=zaa (Z4 hb.out b5)
    clear b5 hz v0 c0 g5 xm
    rcases hq with ⟨hq,rfl⟩ | ⟨hq,rfl⟩
    ·have hn:=zaa (hyes.out fun _=>(hall.out r).1 hq)
     clear hq
     go_wp2_with fail
     go_roundw
     case rel=>exact ⟨m+1,by omega,by go_num,hn,hb5⟩
     case measure=>simp [Go.RowKit.intOf];omega
    ·have y:=zaa (IsB.no (hnot.out hs.out fun h=>hq ((hall.out r).2 h)))
     clear hq
     go_wp2_with fail
     go_ret
     exact ⟨y.out,hbW.out _ hb5.out⟩
   obtain rfl:m=D.muts.length:=by omega
   have hroots:=zaa hok.out
   have c1:=hC1.out _ (hbW.out _ hb.out)
   have hOw:=zaa ((hv'.out.below (hbW.out _ hb.out)).own)
   clear hok
   go_wp2_with (at_range;refine wpList_range_own _ rfl _ 100 rfl 3 58 zjt Tryz.underlying100 N5 g n M rfl hOw.out ?_;intro w0 hrg0 hg0 hs0)
   have hb0:=zaa (hb.out.grown hg0 hb.out.size (fun q hq=>by cases hq))
   have hrs:=zaa (show W3.heap.size≤wr.heap.size from hb.out.size)
   have hrg:=zaa hrg0
   clear c0 c1 g5 v0 hg0 hs0 hrg0 hb hOw
   generalize wr.heap.size=R at *
   go_frame
   go_loopw [10] (fun _ wj=>∃ left cnt,Hid (wj.ranges Tryz.prog 3 N5 g R n M left cnt)∧Hid (Came D M left fun a k j s=>V2 D k j→zja D (ptrW D s j))∧Hid (Below W3.heap.size W3 wj)) (fun _ wj=>wj.rangeLeft g R)
   case atStart=>exact ⟨_,_,hrg,zaa (Came.start _ _ _),hb0⟩
   case round =>
    clear hrg hb0
    obtain ⟨left,cnt,hrg,hcame,hb⟩:=hrel
    go_wp2_with (at_next;refine zot _ rfl _ rfl g _ n M left cnt rfl hrg.out ?_ ?_)
    ·intro hc0 hl0
     have y:=zaa (IsB.yes (P:=zgs D D.muts.length∧zhi D D.spans.length 0) ⟨hroots.out,hcame.out.done hl0 hv'.out.is⟩)
     clear hc0 hl0
     go_wp2_with fail
     go_ret
     exact ⟨y.out,hbW.out _ hb.out⟩
    ·intro x c d w1 cnt1 hx64 hlx hat hrg1 hlt1 hg1 hs1 hen
     obtain ⟨k,j,hah,ho⟩:=(hv'.out.is.has x).1 (Maps.has_true_of_atKey hat)
     obtain ⟨rfl,rfl⟩:=zsz ((hat (dat 0 0)).symm.trans (hv'.out.is.is x k j (dat 0 0) hah ho))
     obtain ⟨s,hks,hin,p0,p1⟩:=N0 hF'.out ho
     have hrgO:=zaa hrg.out
     have hb1:=zaa (hb.out.grown hg1 hb.out.size (fun q hq=>by cases hq;exact hrs.out))
     obtain ⟨dm,hdm⟩:=J5 (V2 D k j)
     obtain ⟨z,hz⟩:=J5 (zja D (ptrW D s j))
     have hdmc:=zaa (fun (w':World) (hb:Below w.heap.size w w')=>(zfe B _ D k j s hks (zev.mk16 hF'.out hks hin.j) w' (hr'.out.below hb) (hB'.out.below hb)).mono fun e w'' ⟨h1,h2⟩=>(⟨h1.at_ dm hdm,h2⟩:e=Ending.returned (.bool dm)∧Below w'.heap.size w' w''))
     have hpw:=zaa (fun (w':World) (hb:Below w.heap.size w w')=>zio bw ow cW B _ D k j s hks hin p0 p1 hcap'.out hv3.out w' (hr'.out.below hb) (hB'.out.below hb))
     have hprd:=zaa (fun (w':World) (hb:Below w.heap.size w w')=>zxx (k:=k) hin p0 p1 hv3.out (hr'.out.below hb))
     have hzc:=zaa (fun (w':World) (hb:Below W3.heap.size W3 w')=>(zna B1 w.heap.size (fun a=>a ∈ S∨V7 D a) _ (ptrW D s j) (zms hW'.out s j) w' (hprd.out w' (hbW.out _ hb)) (fun x w'' hx hb2=>hkc.out x w'' hx (Z4 hb hb2))).mono fun e w'' ⟨h1,h2⟩=>(⟨h1.at_ z (hz.trans (hall.out _).symm),h2⟩:e=Ending.returned (.bool z)∧Below w'.heap.size w' w''))
     have hstep:=zaa (show (dm=false∨z=true)→Came D M (fun z=>left z && !z.sameKey (.int .i64 x)) (fun a k j s=>V2 D k j→zja D (ptrW D s j)) from fun h=>hcame.out.step hF'.out ho hks (fun hd=>h.elim (fun h=>by have:=hdm.2 hd;rw [h] at this;cases this) hz.1))
     have hnot:=zaa (show dm=true→z=false→¬ (zgs D D.muts.length∧zhi D D.spans.length 0) from fun h1 h2 h=>by
      have:=hz.2 (h.2 x k j s hah ho hks (hdm.1 h1))
      rw [h2] at this
      cases this)
     have bbp:=zaa (Z5 w1 (.cells #[.int .i64 k,.int .i64 j] 58))
     have bxp:=zaa (Y6 w1 (.cells #[.int .i64 k,.int .i64 j] 58))
     have hbX:=zaa (Z4 hb1.out bbp.out)
     have hrgW:=zaa (hrg1.alloc (.cells #[.int .i64 k,.int .i64 j] 58))
     have hmeas:∀ (w':World),(∃ l,w'.ranges Tryz.prog 3 N5 g R n M l cnt1)→w'.rangeLeft g R<wr.rangeLeft g R:=by
      rintro w' ⟨l,h⟩
      have e1:=h.left_eq
      have e2:=hrgO.out.left_eq
      omega
     have hmeas:=zaa hmeas
     clear hat hrg1 hlt1 hg1 hs1 hlx ho hah hks hin p0 p1 hdm hz hrg hcame hb hrgO
     go_upto_region 18 with fail
     clear hen
     have c0:=hC0.out _ (hbW.out _ hbX.out)
     have v0:=hV0.out _ (hbV.out _ hbX.out)
     have q0:=Z0 bxp.out 0 (.int .i64 k) rfl
     have q1:=Z0 bxp.out 1 (.int .i64 j) rfl
     clear bxp
     generalize w1.alloc (.cells #[.int .i64 k,.int .i64 j] 58)=W1 at *
     have C0:=Ext.cell c0
     have V0:=Ext.cell v0
     have Q0:=Ext.cell q0
     have Q1:=Ext.cell q1
     clear c0 q0 q1 v0
     generalize (ptrW D s j).length=np at *
     cases dm
     case false =>
      refine Y5 (Below.refl _ _) (by kernel_rfl) (by kernel_rfl) ?_
      repeat (go_big_quiet_step ((go_at_call 109;exact Ext.call (hdmc.out _ (hbW.out _ (Z4 hbX.out (Ext.below _)))))))
      refine wpQuiet_nil ?_
      intro _ hw'
      obtain ⟨x9,hw''⟩:=hw'
      subst hw''
      have hrg4:=zaa (hrgW.out.kept (N3 x9.below) (by simp) (by simp))
      have hb4x:=zaa (Z4 hbX.out x9.below)
      have hn:=zaa (hstep.out (.inl rfl))
      go_wp2_with fail
      go_roundw
      case rel=>exact ⟨_,_,hrg4,hn,hb4x⟩
      case measure=>exact hmeas.out _ ⟨_,hrg4.out⟩
     case true =>
      refine Y5 (Below.refl _ _) (by kernel_rfl) (by kernel_rfl) ?_
      repeat (go_big_quiet_step ((first | (go_at_call 109;exact Ext.call (hdmc.out _ (hbW.out _ (Z4 hbX.out (Ext.below _))))) | (go_at_call 79;exact Ext.call (hpw.out _ (hbW.out _ (Z4 hbX.out (Ext.below _))))) | (go_at_call 136;exact Ext.call (hzc.out _ (Z4 hbX.out (Ext.below _)))))))
      refine wpQuiet_nil ?_
      intro _ hw'
      obtain ⟨x9,hw''⟩:=hw'
      subst hw''
      have hrg6:=zaa (hrgW.out.kept (N3 x9.below) (by simp) (by simp))
      have hb6:=zaa (Z4 hbX.out x9.below)
      cases z
      ·have y:=zaa (IsB.no (hnot.out rfl rfl))
       go_wp2_with fail
       go_ret
       exact ⟨y.out,hbW.out _ hb6.out⟩
      ·have hn:=zaa (hstep.out (.inr rfl))
       go_wp2_with fail
       go_roundw
       case rel=>exact ⟨_,_,hrg6,hn,hb6⟩
       case measure=>exact hmeas.out _ ⟨_,hrg6.out⟩
def zyg:Nat→Int | 0=>0 | 1=>1 | 2=>0 | 3=>3 | 4=>0 | 5=>0 | 6=>0 | 7=>4 | _=>1
def zyh:Nat→Int | 0=>4 | 1=>2 | 2=>0 | 3=>4 | 4=>4 | 5=>3 | 6=>0 | 7=>4 | _=>3
def zmn (D:WD):Nat→Prop
 | 0=>zny D
 | 1=>Y8 D D.grey
 | 2=>D.grey=[]
 | 3=>D.grey=[]
 | 4=>(D.phase=1→0≤D.next∧D.next≤(D.muts.length:Int))∧(D.phase≠1→D.next=0)
 | 5=>¬ ∃ s,s ∈ D.spans∧(s.swept=true)
 | 6=>¬ ∃ s,s ∈ D.spans∧(s.mark≠0)
 | 7=>¬ ∃ s,s ∈ D.spans∧(s.swept=true∧s.mark≠0)
 | _=>zgs D D.muts.length∧zhi D D.spans.length 0
def zkd (D:WD) (i:Nat):Prop:=∀ q,q<i→zyg q≤D.phase→D.phase≤zyh q→zmn D q
theorem zkd.step {D:WD} {i:Nat} (h:zkd D i) (h1:zyg i≤D.phase→D.phase≤zyh i→zmn D i):zkd D (i+1):=fun q hq=>if e:q=i then by subst e;exact h1 else h q (by omega)
theorem znk {D:WD} (h:zkd D 4) (h0:0≤D.phase) (h4:D.phase≤4):zlh D:=by
 by_cases e:D.phase=1∨D.phase=2
 ·exact ⟨fun _=>e,h 1 (by omega) (by show (1:Int)≤_;omega) (by show _≤(2:Int);omega)⟩
 ·have hz:D.grey=[]:=by
   by_cases e0:D.phase=0
   ·exact h 2 (by omega) (by show (0:Int)≤_;omega) (by show _≤(0:Int);omega)
   ·exact h 3 (by omega) (by show (3:Int)≤_;omega) (by show _≤(4:Int);omega)
  exact ⟨fun hn=>absurd hz hn,by rw [hz];exact Y8.nil D⟩
theorem zvq {D:WD} (hF:Z8 D) (h:zkd D 8) (hp:0≤D.phase∧D.phase≤4):D.grey.length≤384:=by
 have hg:=(znk (fun q hq=>h q (by omega)) hp.1 hp.2).2
 exact zge (lo:=D.base) hg.1 fun a ha=>zgd hF (hg.obj a ha)
theorem zsm {D:WD} (hF:Z8 D) (h:zkd D 9):U0 D:=by
 have h0:=hF.ph0
 have h4:=hF.ph1
 have hn:=h 4 (by omega) (show (0:Int)≤_ by omega) (show _≤(4:Int) by omega)
 refine ⟨hF,⟨znk (fun q hq=>h q (by omega)) h0 h4,?_,fun s hs=>⟨fun hsw=>?_,fun hm=>⟨fun e=>?_,?_⟩⟩⟩,h 0 (by omega) (show (0:Int)≤_ by omega) (show _≤(4:Int) by omega),fun e0 e4=>h 8 (by omega) (show (1:Int)≤_ by omega) (show _≤(3:Int) by omega)⟩
 ·by_cases e:D.phase=1
  ·exact ⟨(hn.1 e).1,(hn.1 e).2,fun _=>e⟩
  ·have:=hn.2 e
   exact ⟨by omega,by omega,fun h=>by omega⟩
 ·apply Classical.byContradiction
  intro e
  exact h 5 (by omega) (show (0:Int)≤_ by omega) (show _≤(3:Int) by omega) ⟨s,hs,hsw⟩
 ·exact h 6 (by omega) (show (0:Int)≤_ by omega) (show _≤(0:Int) by omega) ⟨s,hs,hm⟩
 ·cases hsw:s.swept
  ·rfl
  ·exfalso
   by_cases e:D.phase=4
   ·exact h 7 (by omega) (show (4:Int)≤_ by omega) (show _≤(4:Int) by omega) ⟨s,hs,hsw,hm⟩
   ·exact h 5 (by omega) (show (0:Int)≤_ by omega) (show _≤(3:Int) by omega) ⟨s,hs,hsw⟩
theorem G0 {D:WD} (h:U0 D) {q:Nat} (hl:zyg q≤D.phase) (hh:D.phase≤zyh q):zmn D q:=by
 obtain ⟨hF,⟨⟨g1,g2⟩,⟨n1,n2,n3⟩,hs⟩,hS,hK⟩:=h
 match q with
 | 0=>exact hS
 | 1=>exact g2
 | 2=>exact Classical.byContradiction fun h=>by have h1:D.phase≤0:=hh;have:=g1 h;omega
 | 3=>exact Classical.byContradiction fun h=>by have h1:3≤D.phase:=hl;have:=g1 h;omega
 | 4=>exact ⟨fun _=>⟨n1,n2⟩,fun h=>by
   by_cases e:0<D.next
   ·exact absurd (n3 e) h
   ·omega⟩
 | 5=>exact fun ⟨s,hm,hsw⟩=>by have h1:D.phase≤3:=hh;have:=(hs s hm).1 hsw;omega
 | 6=>exact fun ⟨s,hm,hmk⟩=>by have h1:D.phase≤0:=hh;have h2:0≤D.phase:=hl;have:=((hs s hm).2 hmk).1;omega
 | 7=>exact fun ⟨s,hm,hsw,hmk⟩=>by have:=((hs s hm).2 hmk).2;rw [hsw] at this;cases this
 | q+8=>exact hK (by have h1:1≤D.phase:=hl;omega) (by have h1:D.phase≤3:=hh;omega)
theorem zyf (w:World):Calls Tryz.prog 53 #[] w fun e w'=>∃ P,e=.returned (.slice (some ⟨P,0,none⟩) 9 9)∧w'.heap[P]?=some (.cells #[.int .i64 0,.int .i64 4,.func (.func 99) #[] #[],.int .i64 1,.int .i64 2,.func (.func 100) #[] #[],.int .i64 0,.int .i64 0,.func (.func 101) #[] #[],.int .i64 3,.int .i64 4,.func (.func 101) #[] #[],.int .i64 0,.int .i64 4,.func (.func 102) #[] #[],.int .i64 0,.int .i64 3,.func (.func 103) #[] #[],.int .i64 0,.int .i64 0,.func (.func 104) #[] #[],.int .i64 4,.int .i64 4,.func (.func 105) #[] #[],.int .i64 1,.int .i64 3,.func (.func 106) #[] #[]] 84 (0,0))∧Below w.heap.size w w':=by
 have bx:=Y6 w (.cells #[.int .i64 0,.int .i64 4,.func (.func 99) #[] #[],.int .i64 1,.int .i64 2,.func (.func 100) #[] #[],.int .i64 0,.int .i64 0,.func (.func 101) #[] #[],.int .i64 3,.int .i64 4,.func (.func 101) #[] #[],.int .i64 0,.int .i64 4,.func (.func 102) #[] #[],.int .i64 0,.int .i64 3,.func (.func 103) #[] #[],.int .i64 0,.int .i64 0,.func (.func 104) #[] #[],.int .i64 4,.int .i64 4,.func (.func 105) #[] #[],.int .i64 1,.int .i64 3,.func (.func 106) #[] #[]] 84)
 have bb:=zaa (Z5 w (.cells #[.int .i64 0,.int .i64 4,.func (.func 99) #[] #[],.int .i64 1,.int .i64 2,.func (.func 100) #[] #[],.int .i64 0,.int .i64 0,.func (.func 101) #[] #[],.int .i64 3,.int .i64 4,.func (.func 101) #[] #[],.int .i64 0,.int .i64 4,.func (.func 102) #[] #[],.int .i64 0,.int .i64 3,.func (.func 103) #[] #[],.int .i64 0,.int .i64 0,.func (.func 104) #[] #[],.int .i64 4,.int .i64 4,.func (.func 105) #[] #[],.int .i64 1,.int .i64 3,.func (.func 106) #[] #[]] 84))
 have bx':=zaa bx
 clear bx
 go_enter Tryz.func53,Tryz.ntmps53
 go_wp2_with fail
 go_ret
 exact ⟨_,rfl,bx'.out,bb.out⟩
theorem J4 (v:Value) (D:WD) (hfit:FitD D) (hcap:CapW v) (w:World) (hr:RdW w v D) :
  Calls Tryz.prog 21 #[v] w fun e w'=>IsB (U0 D) e∧Below w.heap.size w w':=by
 have hfit:=zaa hfit
 have hcap':=zaa hcap
 clear hcap
 obtain ⟨vw,vd,vs,vm,vg,rfl,a1,a2,a3,a4,a5⟩:=hr
 have bx:=Y6 w (.cells #[.int .i64 D.base,.int .i64 D.pages,vw,vd,vs,vm,.int .i64 D.phase,.int .i64 D.next,vg] 30)
 have bw:=Z5 w (.cells #[.int .i64 D.base,.int .i64 D.pages,vw,vd,vs,vm,.int .i64 D.phase,.int .i64 D.next,vg] 30)
 have hW:=zaa (show RdW (w.alloc (.cells #[.int .i64 D.base,.int .i64 D.pages,vw,vd,vs,vm,.int .i64 D.phase,.int .i64 D.next,vg] 30)) (.agg #[.int .i64 D.base,.int .i64 D.pages,vw,vd,vs,vm,.int .i64 D.phase,.int .i64 D.next,vg]) D from ⟨vw,vd,vs,vm,vg,rfl,a1.below bw,a2.below bw,a3.below bw,a4.below bw,a5.below bw⟩)
 have hBx:=zaa (show BoxW (w.alloc (.cells #[.int .i64 D.base,.int .i64 D.pages,vw,vd,vs,vm,.int .i64 D.phase,.int .i64 D.next,vg] 30)) w.heap.size (.agg #[.int .i64 D.base,.int .i64 D.pages,vw,vd,vs,vm,.int .i64 D.phase,.int .i64 D.next,vg]) from ⟨_,rfl,bx⟩)
 have bw':=zaa bw
 clear a1 a2 a3 a4 a5 bx bw
 go_enter Tryz.func21,Tryz.ntmps21
 go_wp2_with fail
 go_step3
 go_wp2_with fail
 refine (zsv _ D hfit.out.marks _ hW.out).mono ?_
 rintro e w1 ⟨hq,b1⟩
 have hq:=hq.elim
 obtain ⟨x1,rfl⟩:=Ext.of b1
 clear b1
 generalize w.alloc (.cells #[.int .i64 D.base,.int .i64 D.pages,vw,vd,vs,vm,.int .i64 D.phase,.int .i64 D.next,vg] 30)=W at *
 rcases hq with ⟨hF,rfl⟩ | ⟨hF,rfl⟩
 case inr =>
  have y:=zaa (IsB.no (zqn hF))
  clear hF
  go_wp2_with fail
  try rw [Exit.noGoto_ret]
  go_ret
  exact ⟨y.out,Z4 bw'.out x1.below⟩
 have hF':=zaa hF
 have hcall:=zaa (zup w.heap.size _ D hF x1.val (hW.out.below x1.below) (hBx.out.below x1.below))
 clear hF
 go_wp2_with fail
 refine hcall.out.mono ?_
 rintro e w2 ⟨V,g,n,M,rfl,hv,b2⟩
 have hv':=zaa hv
 have b2':=zaa (Z4 x1.below b2)
 clear hv b2 hcall
 go_wp2_with fail
 go_step3
 go_wp2_with fail
 refine (zyf w2).mono ?_
 rintro e w3 ⟨P,rfl,hPx,b3⟩
 have hr3:=zaa ((hW.out.below b2'.out).below b3)
 have hB3:=zaa ((hBx.out.below b2'.out).below b3)
 have hv3:=zaa (hv'.out.below b3)
 have bb3:=zaa (Z4 bw'.out (Z4 b2'.out b3))
 have g6:=zaa (fun (w':World) (hb:Below w3.heap.size w3 w')=>(hB3.out.below hb).cell 6 (.int .i64 D.phase) rfl)
 have hPc:=zaa (fun (w':World) (hb:Below w3.heap.size w3 w')=>Z6 hb hPx)
 have h0:=hF'.out.ph0
 have h4:=hF'.out.ph1
 clear hPx b3
 go_wp2_with fail
 go_loopw [4,13] (fun q i wr=>∃ k:Nat,k≤9∧q=.bool true∧i=.int .i64 k∧Hid (zkd D k)∧Hid (Below w3.heap.size w3 wr)) (fun _ i _=>9-(Go.RowKit.intOf i).toNat)
 case atStart=>exact ⟨0,Nat.zero_le _,rfl,rfl,zaa (fun q h=>absurd h (by omega)),zaa (Below.refl _ _)⟩
 case round =>
  obtain ⟨k,hk,rfl,rfl,hok,hb⟩:=hrel
  by_cases hlt:k<9
  ·have z6:=g6.out _ hb.out
   have hP:=hPc.out _ hb.out
   rcases (show k=0∨k=1∨k=2∨k=3∨k=4∨k=5∨k=6∨k=7∨k=8 by omega) with rfl | rfl | rfl | rfl | rfl | rfl | rfl | rfl | rfl
   ·have y0:=Z0 hP 0 (.int .i64 0) rfl
    have y1:=Z0 hP 1 (.int .i64 4) rfl
    have y2:=Z0 hP 2 (.func (.func 99) #[] #[]) rfl
    have bp:=zaa (Z5 wr (.cells #[.int .i64 0,.int .i64 4,.func (.func 99) #[] #[]] 84))
    have hbp:=zaa (Z4 hb.out bp.out)
    have z6:=g6.out _ hbp.out
    cases hin:inB D.phase 0 4
    ·have hn:=zaa (hok.out.step fun h1 h2=>by have:=T9.2 (⟨h1,h2⟩:(0:Int)≤D.phase∧D.phase≤4);rw [hin] at this;cases this)
     have hin':=zaa hin
     clear hin hP
     go_wp2_with (go_at_call 54;refine (U8 hin'.out _).mono ?_;rintro e w' ⟨rfl,rfl⟩)
     go_roundw
     case rel=>exact ⟨0+1,by omega,rfl,by go_num,hn,hbp⟩
     case measure=>simp [Go.RowKit.intOf]
    ·have hc:=zaa (pLed V w.heap.size g n M _ D hF'.out hfit.out.words hfit.out.muts hcap'.out _ (hr3.out.below hbp.out) (hB3.out.below hbp.out) (hv3.out.below hbp.out))
     have hnot:=zaa (show ¬ zmn D 0→¬ U0 D from fun h h2=>h (G0 h2 (T9.1 hin).1 (T9.1 hin).2))
     have hin':=zaa hin
     clear hin hP
     go_wp2_with (go_at_call 54;refine (U8 hin'.out _).mono ?_;rintro e w' ⟨rfl,rfl⟩)
     refine hc.out.mono ?_
     rintro e w5 ⟨hq,b5⟩
     replace hq:=hq.elim
     have hb5:=zaa (Z4 hbp.out b5)
     clear b5 hc y0 y1 y2 z6
     rcases hq with ⟨hq,rfl⟩ | ⟨hq,rfl⟩
     ·have hn:=zaa (hok.out.step fun _ _=>hq)
      clear hq
      go_wp2_with fail
      go_roundw
      case rel=>exact ⟨0+1,by omega,rfl,by go_num,hn,hb5⟩
      case measure=>simp [Go.RowKit.intOf]
     ·have y:=zaa (IsB.no (hnot.out hq))
      clear hq
      go_wp2_with fail
      try rw [Exit.noGoto_ret]
      go_ret
      exact ⟨y.out,Z4 bb3.out hb5.out⟩
   ·have y0:=Z0 hP 3 (.int .i64 1) rfl
    have y1:=Z0 hP 4 (.int .i64 2) rfl
    have y2:=Z0 hP 5 (.func (.func 100) #[] #[]) rfl
    have bp:=zaa (Z5 wr (.cells #[.int .i64 1,.int .i64 2,.func (.func 100) #[] #[]] 84))
    have hbp:=zaa (Z4 hb.out bp.out)
    have z6:=g6.out _ hbp.out
    cases hin:inB D.phase 1 2
    ·have hn:=zaa (hok.out.step fun h1 h2=>by have:=T9.2 (⟨h1,h2⟩:(1:Int)≤D.phase∧D.phase≤2);rw [hin] at this;cases this)
     have hin':=zaa hin
     clear hin hP
     go_wp2_with (go_at_call 54;refine (U8 hin'.out _).mono ?_;rintro e w' ⟨rfl,rfl⟩)
     go_roundw
     case rel=>exact ⟨1+1,by omega,rfl,by go_num,hn,hbp⟩
     case measure=>simp [Go.RowKit.intOf]
    ·have hc:=zaa (pGrey V w.heap.size g n M _ D hF'.out hfit.out.grey _ (hr3.out.below hbp.out) (hB3.out.below hbp.out) (hv3.out.below hbp.out))
     have hnot:=zaa (show ¬ zmn D 1→¬ U0 D from fun h h2=>h (G0 h2 (T9.1 hin).1 (T9.1 hin).2))
     have hin':=zaa hin
     clear hin hP
     go_wp2_with (go_at_call 54;refine (U8 hin'.out _).mono ?_;rintro e w' ⟨rfl,rfl⟩)
     refine hc.out.mono ?_
     rintro e w5 ⟨hq,b5⟩
     replace hq:=hq.elim
     have hb5:=zaa (Z4 hbp.out b5)
     clear b5 hc y0 y1 y2 z6
     rcases hq with ⟨hq,rfl⟩ | ⟨hq,rfl⟩
     ·have hn:=zaa (hok.out.step fun _ _=>hq)
      clear hq
      go_wp2_with fail
      go_roundw
      case rel=>exact ⟨1+1,by omega,rfl,by go_num,hn,hb5⟩
      case measure=>simp [Go.RowKit.intOf]
     ·have y:=zaa (IsB.no (hnot.out hq))
      clear hq
      go_wp2_with fail
      try rw [Exit.noGoto_ret]
      go_ret
      exact ⟨y.out,Z4 bb3.out hb5.out⟩
   ·have y0:=Z0 hP 6 (.int .i64 0) rfl
    have y1:=Z0 hP 7 (.int .i64 0) rfl
    have y2:=Z0 hP 8 (.func (.func 101) #[] #[]) rfl
    have bp:=zaa (Z5 wr (.cells #[.int .i64 0,.int .i64 0,.func (.func 101) #[] #[]] 84))
    have hbp:=zaa (Z4 hb.out bp.out)
    have z6:=g6.out _ hbp.out
    cases hin:inB D.phase 0 0
    ·have hn:=zaa (hok.out.step fun h1 h2=>by have:=T9.2 (⟨h1,h2⟩:(0:Int)≤D.phase∧D.phase≤0);rw [hin] at this;cases this)
     have hin':=zaa hin
     clear hin hP
     go_wp2_with (go_at_call 54;refine (U8 hin'.out _).mono ?_;rintro e w' ⟨rfl,rfl⟩)
     go_roundw
     case rel=>exact ⟨2+1,by omega,rfl,by go_num,hn,hbp⟩
     case measure=>simp [Go.RowKit.intOf]
    ·have hc:=zaa (zoq V w.heap.size g n M _ D _ (hr3.out.below hbp.out) (hB3.out.below hbp.out) (hv3.out.below hbp.out))
     have hnot:=zaa (show ¬ zmn D 2→¬ U0 D from fun h h2=>h (G0 h2 (T9.1 hin).1 (T9.1 hin).2))
     have hin':=zaa hin
     clear hin hP
     go_wp2_with (go_at_call 54;refine (U8 hin'.out _).mono ?_;rintro e w' ⟨rfl,rfl⟩)
     refine hc.out.mono ?_
     rintro e w5 ⟨hq,b5⟩
     replace hq:=hq.elim
     have hb5:=zaa (Z4 hbp.out b5)
     clear b5 hc y0 y1 y2 z6
     rcases hq with ⟨hq,rfl⟩ | ⟨hq,rfl⟩
     ·have hn:=zaa (hok.out.step fun _ _=>hq)
      clear hq
      go_wp2_with fail
      go_roundw
      case rel=>exact ⟨2+1,by omega,rfl,by go_num,hn,hb5⟩
      case measure=>simp [Go.RowKit.intOf]
     ·have y:=zaa (IsB.no (hnot.out hq))
      clear hq
      go_wp2_with fail
      try rw [Exit.noGoto_ret]
      go_ret
      exact ⟨y.out,Z4 bb3.out hb5.out⟩
   ·have y0:=Z0 hP 9 (.int .i64 3) rfl
    have y1:=Z0 hP 10 (.int .i64 4) rfl
    have y2:=Z0 hP 11 (.func (.func 101) #[] #[]) rfl
    have bp:=zaa (Z5 wr (.cells #[.int .i64 3,.int .i64 4,.func (.func 101) #[] #[]] 84))
    have hbp:=zaa (Z4 hb.out bp.out)
    have z6:=g6.out _ hbp.out
    cases hin:inB D.phase 3 4
    ·have hn:=zaa (hok.out.step fun h1 h2=>by have:=T9.2 (⟨h1,h2⟩:(3:Int)≤D.phase∧D.phase≤4);rw [hin] at this;cases this)
     have hin':=zaa hin
     clear hin hP
     go_wp2_with (go_at_call 54;refine (U8 hin'.out _).mono ?_;rintro e w' ⟨rfl,rfl⟩)
     go_roundw
     case rel=>exact ⟨3+1,by omega,rfl,by go_num,hn,hbp⟩
     case measure=>simp [Go.RowKit.intOf]
    ·have hc:=zaa (zoq V w.heap.size g n M _ D _ (hr3.out.below hbp.out) (hB3.out.below hbp.out) (hv3.out.below hbp.out))
     have hnot:=zaa (show ¬ zmn D 3→¬ U0 D from fun h h2=>h (G0 h2 (T9.1 hin).1 (T9.1 hin).2))
     have hin':=zaa hin
     clear hin hP
     go_wp2_with (go_at_call 54;refine (U8 hin'.out _).mono ?_;rintro e w' ⟨rfl,rfl⟩)
     refine hc.out.mono ?_
     rintro e w5 ⟨hq,b5⟩
     replace hq:=hq.elim
     have hb5:=zaa (Z4 hbp.out b5)
     clear b5 hc y0 y1 y2 z6
     rcases hq with ⟨hq,rfl⟩ | ⟨hq,rfl⟩
     ·have hn:=zaa (hok.out.step fun _ _=>hq)
      clear hq
      go_wp2_with fail
      go_roundw
      case rel=>exact ⟨3+1,by omega,rfl,by go_num,hn,hb5⟩
      case measure=>simp [Go.RowKit.intOf]
     ·have y:=zaa (IsB.no (hnot.out hq))
      clear hq
      go_wp2_with fail
      try rw [Exit.noGoto_ret]
      go_ret
      exact ⟨y.out,Z4 bb3.out hb5.out⟩
   ·have y0:=Z0 hP 12 (.int .i64 0) rfl
    have y1:=Z0 hP 13 (.int .i64 4) rfl
    have y2:=Z0 hP 14 (.func (.func 102) #[] #[]) rfl
    have bp:=zaa (Z5 wr (.cells #[.int .i64 0,.int .i64 4,.func (.func 102) #[] #[]] 84))
    have hbp:=zaa (Z4 hb.out bp.out)
    have z6:=g6.out _ hbp.out
    cases hin:inB D.phase 0 4
    ·have hn:=zaa (hok.out.step fun h1 h2=>by have:=T9.2 (⟨h1,h2⟩:(0:Int)≤D.phase∧D.phase≤4);rw [hin] at this;cases this)
     have hin':=zaa hin
     clear hin hP
     go_wp2_with (go_at_call 54;refine (U8 hin'.out _).mono ?_;rintro e w' ⟨rfl,rfl⟩)
     go_roundw
     case rel=>exact ⟨4+1,by omega,rfl,by go_num,hn,hbp⟩
     case measure=>simp [Go.RowKit.intOf]
    ·have hc:=zaa (pNext V w.heap.size g n M _ D _ (hr3.out.below hbp.out) (hB3.out.below hbp.out) (hv3.out.below hbp.out))
     have hnot:=zaa (show ¬ zmn D 4→¬ U0 D from fun h h2=>h (G0 h2 (T9.1 hin).1 (T9.1 hin).2))
     have hin':=zaa hin
     clear hin hP
     go_wp2_with (go_at_call 54;refine (U8 hin'.out _).mono ?_;rintro e w' ⟨rfl,rfl⟩)
     refine hc.out.mono ?_
     rintro e w5 ⟨hq,b5⟩
     replace hq:=hq.elim
     have hb5:=zaa (Z4 hbp.out b5)
     clear b5 hc y0 y1 y2 z6
     rcases hq with ⟨hq,rfl⟩ | ⟨hq,rfl⟩
     ·have hn:=zaa (hok.out.step fun _ _=>hq)
      clear hq
      go_wp2_with fail
      go_roundw
      case rel=>exact ⟨4+1,by omega,rfl,by go_num,hn,hb5⟩
      case measure=>simp [Go.RowKit.intOf]
     ·have y:=zaa (IsB.no (hnot.out hq))
      clear hq
      go_wp2_with fail
      try rw [Exit.noGoto_ret]
      go_ret
      exact ⟨y.out,Z4 bb3.out hb5.out⟩
   ·have y0:=Z0 hP 15 (.int .i64 0) rfl
    have y1:=Z0 hP 16 (.int .i64 3) rfl
    have y2:=Z0 hP 17 (.func (.func 103) #[] #[]) rfl
    have bp:=zaa (Z5 wr (.cells #[.int .i64 0,.int .i64 3,.func (.func 103) #[] #[]] 84))
    have hbp:=zaa (Z4 hb.out bp.out)
    have z6:=g6.out _ hbp.out
    cases hin:inB D.phase 0 3
    ·have hn:=zaa (hok.out.step fun h1 h2=>by have:=T9.2 (⟨h1,h2⟩:(0:Int)≤D.phase∧D.phase≤3);rw [hin] at this;cases this)
     have hin':=zaa hin
     clear hin hP
     go_wp2_with (go_at_call 54;refine (U8 hin'.out _).mono ?_;rintro e w' ⟨rfl,rfl⟩)
     go_roundw
     case rel=>exact ⟨5+1,by omega,rfl,by go_num,hn,hbp⟩
     case measure=>simp [Go.RowKit.intOf]
    ·have hc:=zaa (pSwept V w.heap.size g n M _ D _ (hr3.out.below hbp.out) (hB3.out.below hbp.out) (hv3.out.below hbp.out))
     have hnot:=zaa (show ¬ zmn D 5→¬ U0 D from fun h h2=>h (G0 h2 (T9.1 hin).1 (T9.1 hin).2))
     have hin':=zaa hin
     clear hin hP
     go_wp2_with (go_at_call 54;refine (U8 hin'.out _).mono ?_;rintro e w' ⟨rfl,rfl⟩)
     refine hc.out.mono ?_
     rintro e w5 ⟨hq,b5⟩
     replace hq:=hq.elim
     have hb5:=zaa (Z4 hbp.out b5)
     clear b5 hc y0 y1 y2 z6
     rcases hq with ⟨hq,rfl⟩ | ⟨hq,rfl⟩
     ·have hn:=zaa (hok.out.step fun _ _=>hq)
      clear hq
      go_wp2_with fail
      go_roundw
      case rel=>exact ⟨5+1,by omega,rfl,by go_num,hn,hb5⟩
      case measure=>simp [Go.RowKit.intOf]
     ·have y:=zaa (IsB.no (hnot.out hq))
      clear hq
      go_wp2_with fail
      try rw [Exit.noGoto_ret]
      go_ret
      exact ⟨y.out,Z4 bb3.out hb5.out⟩
   ·have y0:=Z0 hP 18 (.int .i64 0) rfl
    have y1:=Z0 hP 19 (.int .i64 0) rfl
    have y2:=Z0 hP 20 (.func (.func 104) #[] #[]) rfl
    have bp:=zaa (Z5 wr (.cells #[.int .i64 0,.int .i64 0,.func (.func 104) #[] #[]] 84))
    have hbp:=zaa (Z4 hb.out bp.out)
    have z6:=g6.out _ hbp.out
    cases hin:inB D.phase 0 0
    ·have hn:=zaa (hok.out.step fun h1 h2=>by have:=T9.2 (⟨h1,h2⟩:(0:Int)≤D.phase∧D.phase≤0);rw [hin] at this;cases this)
     have hin':=zaa hin
     clear hin hP
     go_wp2_with (go_at_call 54;refine (U8 hin'.out _).mono ?_;rintro e w' ⟨rfl,rfl⟩)
     go_roundw
     case rel=>exact ⟨6+1,by omega,rfl,by go_num,hn,hbp⟩
     case measure=>simp [Go.RowKit.intOf]
    ·have hc:=zaa (pMarked V w.heap.size g n M _ D _ (hr3.out.below hbp.out) (hB3.out.below hbp.out) (hv3.out.below hbp.out))
     have hnot:=zaa (show ¬ zmn D 6→¬ U0 D from fun h h2=>h (G0 h2 (T9.1 hin).1 (T9.1 hin).2))
     have hin':=zaa hin
     clear hin hP
     go_wp2_with (go_at_call 54;refine (U8 hin'.out _).mono ?_;rintro e w' ⟨rfl,rfl⟩)
     refine hc.out.mono ?_
     rintro e w5 ⟨hq,b5⟩
     replace hq:=hq.elim
     have hb5:=zaa (Z4 hbp.out b5)
     clear b5 hc y0 y1 y2 z6
     rcases hq with ⟨hq,rfl⟩ | ⟨hq,rfl⟩
     ·have hn:=zaa (hok.out.step fun _ _=>hq)
      clear hq
      go_wp2_with fail
      go_roundw
      case rel=>exact ⟨6+1,by omega,rfl,by go_num,hn,hb5⟩
      case measure=>simp [Go.RowKit.intOf]
     ·have y:=zaa (IsB.no (hnot.out hq))
      clear hq
      go_wp2_with fail
      try rw [Exit.noGoto_ret]
      go_ret
      exact ⟨y.out,Z4 bb3.out hb5.out⟩
   ·have y0:=Z0 hP 21 (.int .i64 4) rfl
    have y1:=Z0 hP 22 (.int .i64 4) rfl
    have y2:=Z0 hP 23 (.func (.func 105) #[] #[]) rfl
    have bp:=zaa (Z5 wr (.cells #[.int .i64 4,.int .i64 4,.func (.func 105) #[] #[]] 84))
    have hbp:=zaa (Z4 hb.out bp.out)
    have z6:=g6.out _ hbp.out
    cases hin:inB D.phase 4 4
    ·have hn:=zaa (hok.out.step fun h1 h2=>by have:=T9.2 (⟨h1,h2⟩:(4:Int)≤D.phase∧D.phase≤4);rw [hin] at this;cases this)
     have hin':=zaa hin
     clear hin hP
     go_wp2_with (go_at_call 54;refine (U8 hin'.out _).mono ?_;rintro e w' ⟨rfl,rfl⟩)
     go_roundw
     case rel=>exact ⟨7+1,by omega,rfl,by go_num,hn,hbp⟩
     case measure=>simp [Go.RowKit.intOf]
    ·have hc:=zaa (pBoth V w.heap.size g n M _ D _ (hr3.out.below hbp.out) (hB3.out.below hbp.out) (hv3.out.below hbp.out))
     have hnot:=zaa (show ¬ zmn D 7→¬ U0 D from fun h h2=>h (G0 h2 (T9.1 hin).1 (T9.1 hin).2))
     have hin':=zaa hin
     clear hin hP
     go_wp2_with (go_at_call 54;refine (U8 hin'.out _).mono ?_;rintro e w' ⟨rfl,rfl⟩)
     refine hc.out.mono ?_
     rintro e w5 ⟨hq,b5⟩
     replace hq:=hq.elim
     have hb5:=zaa (Z4 hbp.out b5)
     clear b5 hc y0 y1 y2 z6
     rcases hq with ⟨hq,rfl⟩ | ⟨hq,rfl⟩
     ·have hn:=zaa (hok.out.step fun _ _=>hq)
      clear hq
      go_wp2_with fail
      go_roundw
      case rel=>exact ⟨7+1,by omega,rfl,by go_num,hn,hb5⟩
      case measure=>simp [Go.RowKit.intOf]
     ·have y:=zaa (IsB.no (hnot.out hq))
      clear hq
      go_wp2_with fail
      try rw [Exit.noGoto_ret]
      go_ret
      exact ⟨y.out,Z4 bb3.out hb5.out⟩
   ·have y0:=Z0 hP 24 (.int .i64 1) rfl
    have y1:=Z0 hP 25 (.int .i64 3) rfl
    have y2:=Z0 hP 26 (.func (.func 106) #[] #[]) rfl
    have bp:=zaa (Z5 wr (.cells #[.int .i64 1,.int .i64 3,.func (.func 106) #[] #[]] 84))
    have hbp:=zaa (Z4 hb.out bp.out)
    have z6:=g6.out _ hbp.out
    cases hin:inB D.phase 1 3
    ·have hn:=zaa (hok.out.step fun h1 h2=>by have:=T9.2 (⟨h1,h2⟩:(1:Int)≤D.phase∧D.phase≤3);rw [hin] at this;cases this)
     have hin':=zaa hin
     clear hin hP
     go_wp2_with (go_at_call 54;refine (U8 hin'.out _).mono ?_;rintro e w' ⟨rfl,rfl⟩)
     go_roundw
     case rel=>exact ⟨8+1,by omega,rfl,by go_num,hn,hbp⟩
     case measure=>simp [Go.RowKit.intOf]
    ·have hc:=zaa (pKept V w.heap.size g n M _ D hF'.out hfit.out.words hfit.out.grey (zvq hF'.out hok.out (by have:=T9.1 hin;omega)) hfit.out.muts hcap'.out _ (hr3.out.below hbp.out) (hB3.out.below hbp.out) (hv3.out.below hbp.out))
     have hnot:=zaa (show ¬ zmn D 8→¬ U0 D from fun h h2=>h (G0 h2 (T9.1 hin).1 (T9.1 hin).2))
     have hin':=zaa hin
     clear hin hP
     go_wp2_with (go_at_call 54;refine (U8 hin'.out _).mono ?_;rintro e w' ⟨rfl,rfl⟩)
     refine hc.out.mono ?_
     rintro e w5 ⟨hq,b5⟩
     replace hq:=hq.elim
     have hb5:=zaa (Z4 hbp.out b5)
     clear b5 hc y0 y1 y2 z6
     rcases hq with ⟨hq,rfl⟩ | ⟨hq,rfl⟩
     ·have hn:=zaa (hok.out.step fun _ _=>hq)
      clear hq
      go_wp2_with fail
      go_roundw
      case rel=>exact ⟨8+1,by omega,rfl,by go_num,hn,hb5⟩
      case measure=>simp [Go.RowKit.intOf]
     ·have y:=zaa (IsB.no (hnot.out hq))
      clear hq
      go_wp2_with fail
      try rw [Exit.noGoto_ret]
      go_ret
      exact ⟨y.out,Z4 bb3.out hb5.out⟩
  obtain rfl:k=9:=by omega
  have y:=zaa (IsB.yes (zsm hF'.out hok.out))
  go_wp2_with fail
  try rw [Exit.noGoto_ret]
  go_ret
  exact ⟨y.out,Z4 bb3.out hb.out⟩
end Go.Proofs.YtilkidaihbhfpaaGreat
