import Derived.Maps.RangeWalk
import Derived.Test.YtjjamgeoompbkaaGreatTdSW
import Derived.Laws.EntriesVeiled

set_option maxRecDepth 100000
set_option maxHeartbeats 16000000
set_option linter.all false
namespace Go.Proofs.YtjjamgeoompbkaaGreat
open Go.RowKit
open Go.Proofs.Tryz
def zgr(L:List Y7)(P:Y7→Prop)(r:Int):Prop:=(∃(k:Nat) (s:Y7),r=k∧L[k]?=some s∧P s∧∀q t,q<k→L[q]?=some t→¬P t)∨(r=-1∧∀s,s∈L→¬P s)
theorem zgr.ge{L:List Y7}{P:Y7→Prop}{r:Int}(h:zgr L P r):(0≤r↔∃s,s∈L∧P s)∧-1≤r∧r≤(L.length:Int):=by
 rcases h with⟨k,s,rfl,hs,hp,_⟩|⟨rfl,hn⟩
 ·have:=(List.getElem?_eq_some_iff.1 hs).1
  exact⟨⟨fun _=>⟨s,List.mem_of_getElem? hs,hp⟩,fun _=>by omega⟩,by omega,by omega⟩
 ·exact⟨⟨fun h=>absurd h (by omega),fun⟨s,hs,hp⟩=>absurd hp (hn s hs)⟩,by omega,by omega⟩
theorem zws(s:Y7)(al:Option Addr)(cl:Nat)(ap:Option Addr)(cp:Nat)(w:World) :
  Calls prog 131 #[.agg #[.int .i64 s.page,.int .i64 s.cls,.int .i64 s.mark,.bool s.swept,.slice al s.lens.length cl,.slice ap s.ptrs.length cp]] w fun e w'=>IsB (s.swept=true) e∧Below w.heap.size w w':=by
 have bb:=Z0 (Y2 w (.cells #[.int .i64 s.page,.int .i64 s.cls,.int .i64 s.mark,.bool s.swept,.slice al s.lens.length cl,.slice ap s.ptrs.length cp] 93));have y:=Z0 (show IsB (s.swept=true) (.returned (.bool s.swept))from⟨_,rfl,Iff.rfl⟩);go_enter func131,ntmps131;go_wp2_with fail;go_ret;exact⟨y.out,bb.out⟩
theorem ztt(s:Y7)(al:Option Addr)(cl:Nat)(ap:Option Addr)(cp:Nat)(w:World) :
  Calls prog 132 #[.agg #[.int .i64 s.page,.int .i64 s.cls,.int .i64 s.mark,.bool s.swept,.slice al s.lens.length cl,.slice ap s.ptrs.length cp]] w fun e w'=>IsB (s.mark≠0) e∧Below w.heap.size w w':=by
 have bb:=Z0 (Y2 w (.cells #[.int .i64 s.page,.int .i64 s.cls,.int .i64 s.mark,.bool s.swept,.slice al s.lens.length cl,.slice ap s.ptrs.length cp] 93));have y:=Z0 (show IsB (s.mark≠0) (.returned (.bool (s.mark != 0)))from⟨_,rfl,bne_iff_ne⟩);go_enter func132,ntmps132;go_wp2_with fail;go_ret;exact⟨y.out,bb.out⟩
theorem cboth0(pg c mk:Int)(sw:Bool)(al:Option Addr)(nl cl:Nat)(ap:Option Addr)(np cp:Nat)(w:World) :
  Calls prog 133 #[.agg #[.int .i64 pg,.int .i64 c,.int .i64 mk,.bool sw,.slice al nl cl,.slice ap np cp]] w fun e w'=>IsB (sw=true∧mk≠0) e∧Below w.heap.size w w':=by
 have bb:=Z0 (Y2 w (.cells #[.int .i64 pg,.int .i64 c,.int .i64 mk,.bool sw,.slice al nl cl,.slice ap np cp] 93))
 cases sw
 ·have y:=Z0 (IsB.no (P:=false=true∧mk≠0) fun h=>absurd h.1 (by decide))
  go_enter func133,ntmps133;go_wp2_with fail;go_ret;exact⟨y.out,bb.out⟩
 ·have y:=Z0 (show IsB (True∧mk≠0) (.returned (.bool (mk != 0)))from⟨_,rfl,by rw[bne_iff_ne];simp⟩)
  go_enter func133,ntmps133;go_wp2_with fail;go_ret;exact⟨y.out,bb.out⟩
theorem zzx(s:Y7)(al:Option Addr)(cl:Nat)(ap:Option Addr)(cp:Nat)(w:World) :
  Calls prog 133 #[.agg #[.int .i64 s.page,.int .i64 s.cls,.int .i64 s.mark,.bool s.swept,.slice al s.lens.length cl,.slice ap s.ptrs.length cp]] w fun e w'=>IsB (s.swept=true∧s.mark≠0) e∧Below w.heap.size w w':=cboth0 s.page s.cls s.mark s.swept al _ cl ap _ cp w
theorem zwh(v:Value)(L:List Y7)(w:World)(hr:RdS w v L) :
  Calls prog 149 #[v,.func (.func 131) #[] #[]] w fun e w'=>∃r:Int,e=.returned (.int .i64 r)∧Hid (zgr L (fun s=>s.swept=true) r)∧Below w.heap.size w w':=by
 have hr':=Z0 hr;obtain⟨aS,cS,rfl,hl,_⟩:=hr;unfold maxLen at hl;go_enter func149,ntmps149;go_wp2_with fail
 go_loopw [8] (fun i wr=>∃k:Nat,k≤L.length∧i=.int .i64 k∧Hid (∀q t,q<k→L[q]?=some t→¬(fun s=>s.swept=true) t)∧Hid (Below w.heap.size w wr)) (fun i _=>L.length-(Go.RowKit.intOf i).toNat)
 case atStart=>exact⟨0,Nat.zero_le _,rfl,Z0 (fun q t h=>absurd h (by omega)),Z0 (Below.refl _ _)⟩
 case round =>
  obtain⟨k,hk,rfl,hno,hB⟩:=hrel
  by_cases hlt:k<L.length
  ·have hlt1:(k:Int)<(L.length:Int):=by omega
   obtain⟨s,hks⟩:∃s,L[k]?=some s:=⟨_,List.getElem?_eq_getElem hlt⟩;obtain⟨b1,o1,rfl,vl,vp,x0,x1,x2,x3,x4,x5,⟨al,cl,rfl,_⟩,⟨ap,cp,rfl,_⟩⟩:=(hr'.out.below hB.out).at_ k s hks;have hcall:=Z0 (zws s al cl ap cp wr);have hks':=Z0 hks;clear hks;go_wp2_with fail;refine hcall.out.mono ?_;rintro e w2⟨hq,b2⟩;replace hq:=hq.elim;have hB2:=Z0 (Z7 hB.out b2);clear b2 hcall x0 x1 x2 x3 x4 x5
   rcases hq with⟨hq,rfl⟩|⟨hq,rfl⟩
   ·have y:=Z0 (show zgr L (fun s=>s.swept=true) (k:Int)from .inl ⟨k,s,rfl,hks'.out,hq,hno.out⟩)
    clear hq;go_wp2_with fail;go_ret;exact⟨_,rfl,y,hB2.out⟩
   ·have hn:=Z0 (show ∀q t,q<k+1→L[q]?=some t→¬(fun s=>s.swept=true) t from fun q t hq2 ht=>if e:q=k then by subst e;rw[hks'.out]at ht;cases ht;exact hq else hno.out q t (by omega) ht)
    clear hq;go_wp2_with fail
    go_roundw
    case rel=>exact⟨k+1,by omega,by go_num,hn,hB2⟩
    case measure=>simp[Go.RowKit.intOf];omega
  obtain rfl:k=L.length:=by omega
  have y:=Z0 (show zgr L (fun s=>s.swept=true) (-1)from .inr ⟨rfl,fun s hs=>by obtain⟨q,hq⟩:=List.mem_iff_getElem?.1 hs;exact hno.out q s (List.getElem?_eq_some_iff.1 hq).1 hq⟩);go_wp2_with fail;go_ret;exact⟨_,rfl,y,hB.out⟩
theorem zwu(v:Value)(L:List Y7)(w:World)(hr:RdS w v L) :
  Calls prog 130 #[v,.func (.func 131) #[] #[]] w fun e w'=>IsB (∃s,s∈L∧(fun s=>s.swept=true) s) e∧Below w.heap.size w w':=by
 have hl:L.length≤9223372036854775807:=by obtain⟨_,_,_,hl,_⟩:=hr;unfold maxLen at hl;omega
 have hcall:=Z0 (zwh v L w hr);clear hr;go_enter func130,ntmps130;go_wp2_with fail;refine hcall.out.mono ?_;rintro e w1⟨r,rfl,hf,b1⟩;have y:=Z0 (show IsB (∃s,s∈L∧(fun s=>s.swept=true) s) (.returned (.bool (decide (0≤r))))from⟨_,rfl,by rw[decide_eq_true_iff];exact hf.out.ge.1⟩);have b1':=Z0 b1;clear b1 hcall hf;go_wp2_with fail;go_ret;exact⟨y.out,b1'.out⟩
theorem ztl(v:Value)(L:List Y7)(w:World)(hr:RdS w v L) :
  Calls prog 149 #[v,.func (.func 132) #[] #[]] w fun e w'=>∃r:Int,e=.returned (.int .i64 r)∧Hid (zgr L (fun s=>s.mark≠0) r)∧Below w.heap.size w w':=by
 have hr':=Z0 hr;obtain⟨aS,cS,rfl,hl,_⟩:=hr;unfold maxLen at hl;go_enter func149,ntmps149;go_wp2_with fail
 go_loopw [8] (fun i wr=>∃k:Nat,k≤L.length∧i=.int .i64 k∧Hid (∀q t,q<k→L[q]?=some t→¬(fun s=>s.mark≠0) t)∧Hid (Below w.heap.size w wr)) (fun i _=>L.length-(Go.RowKit.intOf i).toNat)
 case atStart=>exact⟨0,Nat.zero_le _,rfl,Z0 (fun q t h=>absurd h (by omega)),Z0 (Below.refl _ _)⟩
 case round =>
  obtain⟨k,hk,rfl,hno,hB⟩:=hrel
  by_cases hlt:k<L.length
  ·have hlt1:(k:Int)<(L.length:Int):=by omega
   obtain⟨s,hks⟩:∃s,L[k]?=some s:=⟨_,List.getElem?_eq_getElem hlt⟩;obtain⟨b1,o1,rfl,vl,vp,x0,x1,x2,x3,x4,x5,⟨al,cl,rfl,_⟩,⟨ap,cp,rfl,_⟩⟩:=(hr'.out.below hB.out).at_ k s hks;have hcall:=Z0 (ztt s al cl ap cp wr);have hks':=Z0 hks;clear hks;go_wp2_with fail;refine hcall.out.mono ?_;rintro e w2⟨hq,b2⟩;replace hq:=hq.elim;have hB2:=Z0 (Z7 hB.out b2);clear b2 hcall x0 x1 x2 x3 x4 x5
   rcases hq with⟨hq,rfl⟩|⟨hq,rfl⟩
   ·have y:=Z0 (show zgr L (fun s=>s.mark≠0) (k:Int)from .inl ⟨k,s,rfl,hks'.out,hq,hno.out⟩)
    clear hq;go_wp2_with fail;go_ret;exact⟨_,rfl,y,hB2.out⟩
   ·have hn:=Z0 (show ∀q t,q<k+1→L[q]?=some t→¬(fun s=>s.mark≠0) t from fun q t hq2 ht=>if e:q=k then by subst e;rw[hks'.out]at ht;cases ht;exact hq else hno.out q t (by omega) ht)
    clear hq;go_wp2_with fail
    go_roundw
    case rel=>exact⟨k+1,by omega,by go_num,hn,hB2⟩
    case measure=>simp[Go.RowKit.intOf];omega
  obtain rfl:k=L.length:=by omega
  have y:=Z0 (show zgr L (fun s=>s.mark≠0) (-1)from .inr ⟨rfl,fun s hs=>by obtain⟨q,hq⟩:=List.mem_iff_getElem?.1 hs;exact hno.out q s (List.getElem?_eq_some_iff.1 hq).1 hq⟩);go_wp2_with fail;go_ret;exact⟨_,rfl,y,hB.out⟩
theorem zts(v:Value)(L:List Y7)(w:World)(hr:RdS w v L) :
  Calls prog 130 #[v,.func (.func 132) #[] #[]] w fun e w'=>IsB (∃s,s∈L∧(fun s=>s.mark≠0) s) e∧Below w.heap.size w w':=by
 have hl:L.length≤9223372036854775807:=by obtain⟨_,_,_,hl,_⟩:=hr;unfold maxLen at hl;omega
 have hcall:=Z0 (ztl v L w hr);clear hr;go_enter func130,ntmps130;go_wp2_with fail;refine hcall.out.mono ?_;rintro e w1⟨r,rfl,hf,b1⟩;have y:=Z0 (show IsB (∃s,s∈L∧(fun s=>s.mark≠0) s) (.returned (.bool (decide (0≤r))))from⟨_,rfl,by rw[decide_eq_true_iff];exact hf.out.ge.1⟩);have b1':=Z0 b1;clear b1 hcall hf;go_wp2_with fail;go_ret;exact⟨y.out,b1'.out⟩
theorem zzl(v:Value)(L:List Y7)(w:World)(hr:RdS w v L) :
  Calls prog 149 #[v,.func (.func 133) #[] #[]] w fun e w'=>∃r:Int,e=.returned (.int .i64 r)∧Hid (zgr L (fun s=>s.swept=true∧s.mark≠0) r)∧Below w.heap.size w w':=by
 have hr':=Z0 hr;obtain⟨aS,cS,rfl,hl,_⟩:=hr;unfold maxLen at hl;go_enter func149,ntmps149;go_wp2_with fail
 go_loopw [8] (fun i wr=>∃k:Nat,k≤L.length∧i=.int .i64 k∧Hid (∀q t,q<k→L[q]?=some t→¬(fun s=>s.swept=true∧s.mark≠0) t)∧Hid (Below w.heap.size w wr)) (fun i _=>L.length-(Go.RowKit.intOf i).toNat)
 case atStart=>exact⟨0,Nat.zero_le _,rfl,Z0 (fun q t h=>absurd h (by omega)),Z0 (Below.refl _ _)⟩
 case round =>
  obtain⟨k,hk,rfl,hno,hB⟩:=hrel
  by_cases hlt:k<L.length
  ·have hlt1:(k:Int)<(L.length:Int):=by omega
   obtain⟨s,hks⟩:∃s,L[k]?=some s:=⟨_,List.getElem?_eq_getElem hlt⟩;obtain⟨b1,o1,rfl,vl,vp,x0,x1,x2,x3,x4,x5,⟨al,cl,rfl,_⟩,⟨ap,cp,rfl,_⟩⟩:=(hr'.out.below hB.out).at_ k s hks;have hcall:=Z0 (zzx s al cl ap cp wr);have hks':=Z0 hks;clear hks;go_wp2_with fail;refine hcall.out.mono ?_;rintro e w2⟨hq,b2⟩;replace hq:=hq.elim;have hB2:=Z0 (Z7 hB.out b2);clear b2 hcall x0 x1 x2 x3 x4 x5
   rcases hq with⟨hq,rfl⟩|⟨hq,rfl⟩
   ·have y:=Z0 (show zgr L (fun s=>s.swept=true∧s.mark≠0) (k:Int)from .inl ⟨k,s,rfl,hks'.out,hq,hno.out⟩)
    clear hq;go_wp2_with fail;go_ret;exact⟨_,rfl,y,hB2.out⟩
   ·have hn:=Z0 (show ∀q t,q<k+1→L[q]?=some t→¬(fun s=>s.swept=true∧s.mark≠0) t from fun q t hq2 ht=>if e:q=k then by subst e;rw[hks'.out]at ht;cases ht;exact hq else hno.out q t (by omega) ht)
    clear hq;go_wp2_with fail
    go_roundw
    case rel=>exact⟨k+1,by omega,by go_num,hn,hB2⟩
    case measure=>simp[Go.RowKit.intOf];omega
  obtain rfl:k=L.length:=by omega
  have y:=Z0 (show zgr L (fun s=>s.swept=true∧s.mark≠0) (-1)from .inr ⟨rfl,fun s hs=>by obtain⟨q,hq⟩:=List.mem_iff_getElem?.1 hs;exact hno.out q s (List.getElem?_eq_some_iff.1 hq).1 hq⟩);go_wp2_with fail;go_ret;exact⟨_,rfl,y,hB.out⟩
theorem zzr(v:Value)(L:List Y7)(w:World)(hr:RdS w v L) :
  Calls prog 130 #[v,.func (.func 133) #[] #[]] w fun e w'=>IsB (∃s,s∈L∧(fun s=>s.swept=true∧s.mark≠0) s) e∧Below w.heap.size w w':=by
 have hl:L.length≤9223372036854775807:=by obtain⟨_,_,_,hl,_⟩:=hr;unfold maxLen at hl;omega
 have hcall:=Z0 (zzl v L w hr);clear hr;go_enter func130,ntmps130;go_wp2_with fail;refine hcall.out.mono ?_;rintro e w1⟨r,rfl,hf,b1⟩;have y:=Z0 (show IsB (∃s,s∈L∧(fun s=>s.swept=true∧s.mark≠0) s) (.returned (.bool (decide (0≤r))))from⟨_,rfl,by rw[decide_eq_true_iff];exact hf.out.ge.1⟩);have b1':=Z0 b1;clear b1 hcall hf;go_wp2_with fail;go_ret;exact⟨y.out,b1'.out⟩
theorem zcS_any(V:Nat)(Bz:Nat)(P:Int→Prop)(x:Int)(hx:I64 x)(w:World)(hc:w.cell? ⟨Bz,0,none⟩=some (.func (.func 126) #[.pointer (some ⟨V,0,none⟩)] #[]))(hP:Calls prog 126 #[.pointer (some ⟨V,0,none⟩),.int .i64 x] w fun e w''=>IsB (P x) e∧Below w.heap.size w w'') :
  Calls prog 148 #[.int .i64 x,.pointer (some ⟨Bz,0,none⟩)] w fun e w'=>IsB (x≠0∧¬P x) e∧Below w.heap.size w w':=by
 have hP':=Z0 hP;clear hP
 by_cases c:x=0
 ·have y:=Z0 (IsB.no (P:=x≠0∧¬P x) fun h=>h.1 c)
  subst c;clear hc;go_enter func148,ntmps148;go_wp2_with fail;go_ret;exact⟨y.out,Below.refl _ _⟩
 have d:(x != 0)=true:=bne_iff_ne.2 c;have hcx:=Z0 c;clear c;go_enter func148,ntmps148;go_wp2_with fail;refine hP'.out.mono ?_;rintro e w1⟨⟨r,rfl,hr⟩,b1⟩;have y:=Z0 (show IsB (x≠0∧¬P x) (.returned (.bool (!r)))from⟨_,rfl,by rw[←hr];have:=hcx.out;cases r<;>simp[this]⟩);have b1':=Z0 b1;clear hr b1 hP';go_wp2_with fail;go_ret;exact⟨y.out,b1'.out⟩
theorem zxb(V:Nat)(Bz:Nat)(P:Int→Prop)(v:Value)(L:List Int)(hL:AllI L)(w:World)(hr:Rd w v L)(hc:w.cell? ⟨Bz,0,none⟩=some (.func (.func 126) #[.pointer (some ⟨V,0,none⟩)] #[]))(hP:∀(x:Int) (w':World),I64 x→Below w.heap.size w w'→Calls prog 126 #[.pointer (some ⟨V,0,none⟩),.int .i64 x] w' fun e w''=>IsB (P x) e∧Below w'.heap.size w' w'') :
  Calls prog 153 #[v,.func (.func 148) #[] #[.pointer (some ⟨Bz,0,none⟩)]] w fun e w'=>∃r:Int,e=.returned (.int .i64 r)∧Hid (0≤r↔∃a,a∈L∧a≠0∧¬P a)∧Below w.heap.size w w':=by
 have hP':=Z0 hP;have hL':=Z0 hL;have hc':=Z0 hc;obtain⟨a1,c1,rfl,hl,r1⟩:=hr;unfold maxLen at hl;have r1:=Z0 r1;clear hP hL hc;go_enter func153,ntmps153;go_wp2_with fail
 go_loopw [8] (fun i wr=>∃k:Nat,k≤L.length∧i=.int .i64 k∧Hid (zio P (L.take k))∧Hid (Below w.heap.size w wr)) (fun i _=>L.length-(Go.RowKit.intOf i).toNat)
 case atStart=>exact⟨0,Nat.zero_le _,rfl,Z0 (fun a h=>by simp at h),Z0 (Below.refl _ _)⟩
 case round =>
  obtain⟨k,hk,rfl,hno,hB⟩:=hrel
  by_cases hlt:k<L.length
  ·have hlt1:(k:Int)<(L.length:Int):=by omega
   obtain⟨b1,o1,rfl,x0⟩:=r1.out k hlt;have x1:=Y3 hB.out x0;have hmem:=Z0 (show L[k]?.getD 0∈L by rw[List.getElem?_eq_getElem hlt];exact List.getElem_mem hlt)
   have hyes:=Z0 (show ¬(L[k]?.getD 0≠0∧¬P (L[k]?.getD 0))→zio P (L.take (k+1))from fun h a ha=>by
    rw[L9 hlt]at ha
    rcases List.mem_append.1 ha with m|m
    ·exact hno.out a m
    ·rw[List.mem_singleton.1 m]
     exact Classical.byContradiction fun h2=>h ⟨fun e=>h2 (.inl e),fun e=>h2 (.inr e)⟩)
   clear x0;have hx:=hL'.out _ hmem.out;generalize L[k]?.getD 0=x at *;have hcall:=Z0 (zcS_any V Bz P x hx wr (Y3 hB.out hc'.out) (hP'.out x wr hx hB.out));have hlen:k≤9223372036854775807:=by omega
   clear hx;go_wp2_with fail;refine hcall.out.mono ?_;rintro e w2⟨hq,b2⟩;replace hq:=hq.elim;have hB2:=Z0 (Z7 hB.out b2);clear b2 hcall x1
   rcases hq with⟨hq,rfl⟩|⟨hq,rfl⟩
   ·have y:=Z0 (show 0≤(k:Int)↔∃a,a∈L∧a≠0∧¬P a from⟨fun _=>⟨x,hmem.out,hq⟩,fun _=>by omega⟩)
    clear hq;go_wp2_with fail;go_ret;exact⟨_,rfl,y,hB2.out⟩
   ·have hn:=Z0 (hyes.out hq)
    clear hq;go_wp2_with fail
    go_roundw
    case rel=>exact⟨k+1,by omega,by go_num,hn,hB2⟩
    case measure=>simp[Go.RowKit.intOf];omega
  obtain rfl:k=L.length:=by omega
  have y:=Z0 (show 0≤(-1:Int)↔∃a,a∈L∧a≠0∧¬P a from⟨fun h=>absurd h (by omega),fun h=>absurd (show zio P L by simpa using hno.out) (zjg.1 h)⟩);go_wp2_with fail;go_ret;exact⟨_,rfl,y,hB.out⟩
theorem zxd(V:Nat)(Bz:Nat)(P:Int→Prop)(v:Value)(L:List Int)(hL:AllI L)(w:World)(hr:Rd w v L)(hc:w.cell? ⟨Bz,0,none⟩=some (.func (.func 126) #[.pointer (some ⟨V,0,none⟩)] #[]))(hP:∀(x:Int) (w':World),I64 x→Below w.heap.size w w'→Calls prog 126 #[.pointer (some ⟨V,0,none⟩),.int .i64 x] w' fun e w''=>IsB (P x) e∧Below w'.heap.size w' w'') :
  Calls prog 147 #[v,.func (.func 148) #[] #[.pointer (some ⟨Bz,0,none⟩)]] w fun e w'=>IsB (∃a,a∈L∧a≠0∧¬P a) e∧Below w.heap.size w w':=by
 have hcall:=Z0 (zxb V Bz P v L hL w hr hc hP);clear hr hc hP hL;go_enter func147,ntmps147;go_wp2_with fail;refine hcall.out.mono ?_;rintro e w1⟨r,rfl,hf,b1⟩;have y:=Z0 (show IsB (∃a,a∈L∧a≠0∧¬P a) (.returned (.bool (decide (0≤r))))from⟨_,rfl,by rw[decide_eq_true_iff];exact hf.out⟩);have b1':=Z0 b1;clear b1 hcall hf;go_wp2_with fail;go_ret;exact⟨y.out,b1'.out⟩
theorem zmz(V:Nat)(P:Int→Prop)(v:Value)(L:List Int)(hL:AllI L)(w:World)(hr:Rd w v L)(hP:∀(x:Int) (w':World),I64 x→Below w.heap.size w w'→Calls prog 126 #[.pointer (some ⟨V,0,none⟩),.int .i64 x] w' fun e w''=>IsB (P x) e∧Below w'.heap.size w' w'') :
  Calls prog 125 #[v,.func (.func 126) #[.pointer (some ⟨V,0,none⟩)] #[]] w fun e w'=>IsB (zio P L) e∧Below w.heap.size w w':=by
 have bb:=Z0 (Y2 w (.cells #[.func (.func 126) #[.pointer (some ⟨V,0,none⟩)] #[]] 129));have bx:=Y8 w (.cells #[.func (.func 126) #[.pointer (some ⟨V,0,none⟩)] #[]] 129);have hcall:=Z0 (zxd V w.heap.size P v L hL _ (hr.below bb.out) (Z6 bx 0 _ rfl) (fun x w' hx hb=>hP x w' hx (Z7 bb.out hb)));have hmf:∀(fn:Fn) (first cap:Array Value) (w:World),(Instr.makeFunc fn first cap).run prog w=.ok (.func fn first cap) w:=fun _ _ _ _=>rfl;clear hr hP hL bx;go_enter func125,ntmps125;go_wp2_with fail;refine hcall.out.mono ?_;rintro e w1⟨⟨r,rfl,hr⟩,b1⟩
 have y:=Z0 (show IsB (zio P L) (.returned (.bool (!r)))from⟨_,rfl,by
  have h2:=hr.trans (zjg (P:=P) (L:=L))
  cases r
  ·simp only[Bool.not_false,true_iff]
   exact Classical.byContradiction fun h=>by have:=h2.2 h;cases this
  ·simp only[Bool.not_true,Bool.false_eq_true,false_iff]
   exact h2.1 rfl⟩)
 have b1':=Z0 (Z7 bb.out b1);clear b1 hcall hr;go_wp2_with fail;go_ret;exact⟨y.out,b1'.out⟩
theorem zcK_any(B1 B2:Nat)(Bz:Nat)(P:Int→Prop)(x:Int)(hx:I64 x)(w:World)(hc:w.cell? ⟨Bz,0,none⟩=some (.func (.func 138) #[] #[.pointer (some ⟨B1,0,none⟩),.pointer (some ⟨B2,0,none⟩)]))(hP:Calls prog 138 #[.int .i64 x,.pointer (some ⟨B1,0,none⟩),.pointer (some ⟨B2,0,none⟩)] w fun e w''=>IsB (P x) e∧Below w.heap.size w w'') :
  Calls prog 148 #[.int .i64 x,.pointer (some ⟨Bz,0,none⟩)] w fun e w'=>IsB (x≠0∧¬P x) e∧Below w.heap.size w w':=by
 have hP':=Z0 hP;clear hP
 by_cases c:x=0
 ·have y:=Z0 (IsB.no (P:=x≠0∧¬P x) fun h=>h.1 c)
  subst c;clear hc;go_enter func148,ntmps148;go_wp2_with fail;go_ret;exact⟨y.out,Below.refl _ _⟩
 have d:(x != 0)=true:=bne_iff_ne.2 c;have hcx:=Z0 c;clear c;go_enter func148,ntmps148;go_wp2_with fail;refine hP'.out.mono ?_;rintro e w1⟨⟨r,rfl,hr⟩,b1⟩;have y:=Z0 (show IsB (x≠0∧¬P x) (.returned (.bool (!r)))from⟨_,rfl,by rw[←hr];have:=hcx.out;cases r<;>simp[this]⟩);have b1':=Z0 b1;clear hr b1 hP';go_wp2_with fail;go_ret;exact⟨y.out,b1'.out⟩
theorem zxc(B1 B2:Nat)(Bz:Nat)(P:Int→Prop)(v:Value)(L:List Int)(hL:AllI L)(w:World)(hr:Rd w v L)(hc:w.cell? ⟨Bz,0,none⟩=some (.func (.func 138) #[] #[.pointer (some ⟨B1,0,none⟩),.pointer (some ⟨B2,0,none⟩)]))(hP:∀(x:Int) (w':World),I64 x→Below w.heap.size w w'→Calls prog 138 #[.int .i64 x,.pointer (some ⟨B1,0,none⟩),.pointer (some ⟨B2,0,none⟩)] w' fun e w''=>IsB (P x) e∧Below w'.heap.size w' w'') :
  Calls prog 153 #[v,.func (.func 148) #[] #[.pointer (some ⟨Bz,0,none⟩)]] w fun e w'=>∃r:Int,e=.returned (.int .i64 r)∧Hid (0≤r↔∃a,a∈L∧a≠0∧¬P a)∧Below w.heap.size w w':=by
 have hP':=Z0 hP;have hL':=Z0 hL;have hc':=Z0 hc;obtain⟨a1,c1,rfl,hl,r1⟩:=hr;unfold maxLen at hl;have r1:=Z0 r1;clear hP hL hc;go_enter func153,ntmps153;go_wp2_with fail
 go_loopw [8] (fun i wr=>∃k:Nat,k≤L.length∧i=.int .i64 k∧Hid (zio P (L.take k))∧Hid (Below w.heap.size w wr)) (fun i _=>L.length-(Go.RowKit.intOf i).toNat)
 case atStart=>exact⟨0,Nat.zero_le _,rfl,Z0 (fun a h=>by simp at h),Z0 (Below.refl _ _)⟩
 case round =>
  obtain⟨k,hk,rfl,hno,hB⟩:=hrel
  by_cases hlt:k<L.length
  ·have hlt1:(k:Int)<(L.length:Int):=by omega
   obtain⟨b1,o1,rfl,x0⟩:=r1.out k hlt;have x1:=Y3 hB.out x0;have hmem:=Z0 (show L[k]?.getD 0∈L by rw[List.getElem?_eq_getElem hlt];exact List.getElem_mem hlt)
   have hyes:=Z0 (show ¬(L[k]?.getD 0≠0∧¬P (L[k]?.getD 0))→zio P (L.take (k+1))from fun h a ha=>by
    rw[L9 hlt]at ha
    rcases List.mem_append.1 ha with m|m
    ·exact hno.out a m
    ·rw[List.mem_singleton.1 m]
     exact Classical.byContradiction fun h2=>h ⟨fun e=>h2 (.inl e),fun e=>h2 (.inr e)⟩)
   clear x0;have hx:=hL'.out _ hmem.out;generalize L[k]?.getD 0=x at *;have hcall:=Z0 (zcK_any B1 B2 Bz P x hx wr (Y3 hB.out hc'.out) (hP'.out x wr hx hB.out));have hlen:k≤9223372036854775807:=by omega
   clear hx;go_wp2_with fail;refine hcall.out.mono ?_;rintro e w2⟨hq,b2⟩;replace hq:=hq.elim;have hB2:=Z0 (Z7 hB.out b2);clear b2 hcall x1
   rcases hq with⟨hq,rfl⟩|⟨hq,rfl⟩
   ·have y:=Z0 (show 0≤(k:Int)↔∃a,a∈L∧a≠0∧¬P a from⟨fun _=>⟨x,hmem.out,hq⟩,fun _=>by omega⟩)
    clear hq;go_wp2_with fail;go_ret;exact⟨_,rfl,y,hB2.out⟩
   ·have hn:=Z0 (hyes.out hq)
    clear hq;go_wp2_with fail
    go_roundw
    case rel=>exact⟨k+1,by omega,by go_num,hn,hB2⟩
    case measure=>simp[Go.RowKit.intOf];omega
  obtain rfl:k=L.length:=by omega
  have y:=Z0 (show 0≤(-1:Int)↔∃a,a∈L∧a≠0∧¬P a from⟨fun h=>absurd h (by omega),fun h=>absurd (show zio P L by simpa using hno.out) (zjg.1 h)⟩);go_wp2_with fail;go_ret;exact⟨_,rfl,y,hB.out⟩
theorem zxe(B1 B2:Nat)(Bz:Nat)(P:Int→Prop)(v:Value)(L:List Int)(hL:AllI L)(w:World)(hr:Rd w v L)(hc:w.cell? ⟨Bz,0,none⟩=some (.func (.func 138) #[] #[.pointer (some ⟨B1,0,none⟩),.pointer (some ⟨B2,0,none⟩)]))(hP:∀(x:Int) (w':World),I64 x→Below w.heap.size w w'→Calls prog 138 #[.int .i64 x,.pointer (some ⟨B1,0,none⟩),.pointer (some ⟨B2,0,none⟩)] w' fun e w''=>IsB (P x) e∧Below w'.heap.size w' w'') :
  Calls prog 147 #[v,.func (.func 148) #[] #[.pointer (some ⟨Bz,0,none⟩)]] w fun e w'=>IsB (∃a,a∈L∧a≠0∧¬P a) e∧Below w.heap.size w w':=by
 have hcall:=Z0 (zxc B1 B2 Bz P v L hL w hr hc hP);clear hr hc hP hL;go_enter func147,ntmps147;go_wp2_with fail;refine hcall.out.mono ?_;rintro e w1⟨r,rfl,hf,b1⟩;have y:=Z0 (show IsB (∃a,a∈L∧a≠0∧¬P a) (.returned (.bool (decide (0≤r))))from⟨_,rfl,by rw[decide_eq_true_iff];exact hf.out⟩);have b1':=Z0 b1;clear b1 hcall hf;go_wp2_with fail;go_ret;exact⟨y.out,b1'.out⟩
theorem zna(B1 B2:Nat)(P:Int→Prop)(v:Value)(L:List Int)(hL:AllI L)(w:World)(hr:Rd w v L)(hP:∀(x:Int) (w':World),I64 x→Below w.heap.size w w'→Calls prog 138 #[.int .i64 x,.pointer (some ⟨B1,0,none⟩),.pointer (some ⟨B2,0,none⟩)] w' fun e w''=>IsB (P x) e∧Below w'.heap.size w' w'') :
  Calls prog 125 #[v,.func (.func 138) #[] #[.pointer (some ⟨B1,0,none⟩),.pointer (some ⟨B2,0,none⟩)]] w fun e w'=>IsB (zio P L) e∧Below w.heap.size w w':=by
 have bb:=Z0 (Y2 w (.cells #[.func (.func 138) #[] #[.pointer (some ⟨B1,0,none⟩),.pointer (some ⟨B2,0,none⟩)]] 129));have bx:=Y8 w (.cells #[.func (.func 138) #[] #[.pointer (some ⟨B1,0,none⟩),.pointer (some ⟨B2,0,none⟩)]] 129);have hcall:=Z0 (zxe B1 B2 w.heap.size P v L hL _ (hr.below bb.out) (Z6 bx 0 _ rfl) (fun x w' hx hb=>hP x w' hx (Z7 bb.out hb)));have hmf:∀(fn:Fn) (first cap:Array Value) (w:World),(Instr.makeFunc fn first cap).run prog w=.ok (.func fn first cap) w:=fun _ _ _ _=>rfl;clear hr hP hL bx;go_enter func125,ntmps125;go_wp2_with fail;refine hcall.out.mono ?_;rintro e w1⟨⟨r,rfl,hr⟩,b1⟩
 have y:=Z0 (show IsB (zio P L) (.returned (.bool (!r)))from⟨_,rfl,by
  have h2:=hr.trans (zjg (P:=P) (L:=L))
  cases r
  ·simp only[Bool.not_false,true_iff]
   exact Classical.byContradiction fun h=>by have:=h2.2 h;cases this
  ·simp only[Bool.not_true,Bool.false_eq_true,false_iff]
   exact h2.1 rfl⟩)
 have b1':=Z0 (Z7 bb.out b1);clear b1 hcall hr;go_wp2_with fail;go_ret;exact⟨y.out,b1'.out⟩
end Go.Proofs.YtjjamgeoompbkaaGreat

namespace Go.Proofs.YtjjamgeoompbkaaGreat
open Go.RowKit
open Go.Maps (Keyed)
open Go.Proofs.Tryz
def zum(w:World)(g:Nat):Nat:=match w.heap[g]? with
 | some (.map es _)=>es.size
 | _=>0
theorem zzd{w:World}{g n:Nat}{M:DataW Unit}{S:List Int}(h:OwnB w g n M)(hM:zke M S)(hn:S.Nodup):zum w g=S.length:=by
 have hp:S.Perm (intKeys M):=CollectedI.perm (left:=fun _=>false) ⟨hn,fun x=>by rw[←hM.has];simp⟩ h zja underlying3 (fun _=>rfl);obtain⟨es,clock,hb,F,hs,rfl⟩:=h;unfold zum;rw[hb,hp.length_eq];simp[intKeys,length_sorted]
theorem own_init{w:World}{base:Nat}{a:Option Addr}{c:Nat}{T:List Int}{x:Int}(h:w.ownsRow base 3 1 (.slice a (T.length+1) c) (T++[x]).length ((T++[x]).map (Value.int .i64))) :
  ∃g,a=some ⟨g,0,none⟩∧T.length+1≤c∧c≤maxLen∧w.cell? ⟨g,T.length,none⟩=some (.int .i64 x)∧w.ownsRow base 3 1 (.slice (some ⟨g,0,none⟩) T.length c) T.length (T.map (Value.int .i64)):=by
 rcases h.2 with⟨h0,_⟩|⟨g,cap,cur,he,hb,hg,hnc,hcm,hcs,ht⟩
 ·simp at h0
 ·simp only[Value.slice.injEq,List.length_append,List.length_cons,List.length_nil,Nat.zero_add]at he
  obtain⟨rfl,_,rfl⟩:=he;simp only[List.length_append,List.length_cons,List.length_nil,Nat.zero_add,Nat.mul_one,List.map_append,List.map_cons,List.map_nil]at hnc ht;refine⟨g,rfl,hnc,hcm,?_,by simp,.inr ⟨g,c,cur,rfl,hb,hg,by omega,hcm,hcs,?_⟩⟩
  ·rw[cell_of_row w g T.length cur _ (0,0) hg]
   have:=congrArg (fun l=>l[T.length]?) ht;simpa[List.getElem?_take]using this
  ·have:=congrArg (List.take T.length) ht
   rw[List.take_take,Nat.min_eq_left (by omega)]at this;rw[Nat.mul_one,this,List.take_left' (by simp)]
theorem zmo{D:WD}(h:AllI D.words)(s:Y7)(j:Nat):AllI (ptrW D s j):=fun x hx=>h x (List.mem_of_mem_drop (List.mem_of_mem_take hx))
theorem World.below_none{w wr w2 w3:World}{g:Nat}(hg:w2.grownBy w3 (some g))(h1:Below w.heap.size w wr)(h2:Below wr.heap.size wr w2)(hg2:w.heap.size≤g):Below w.heap.size w w3 :=
 (Z7 h1 h2).grown hg (by have:=h1.size;have:=h2.size;omega) (fun q hq=>by cases hq;exact hg2)
structure SpSt(D:WD)(F:Nat→Nat→Prop)(fr:List Int)(w wr:World)(g:Nat)(v:Value)(S T:List Int):Prop where
 st:GoSt D F fr S T
 i64:AllI T
 len:T.length≤fr.length+16*S.length
 met:∃M,zke M S∧OwnB wr g S.length M
 own:wr.ownsRow w.heap.size 3 1 v T.length (T.map (Value.int .i64))
 below:Below w.heap.size w wr
 lo:w.heap.size≤g
theorem SpSt.next{D:WD}{F:Nat→Nat→Prop}{fr S T:List Int}{w wr w2:World}{g:Nat}{v:Value}(h:SpSt D F fr w wr g v S T)(hb:Below wr.heap.size wr w2):SpSt D F fr w w2 g v S T :=
 ⟨h.st,h.i64,h.len,by obtain⟨M,h1,h2⟩:=h.met;exact⟨M,h1,h2.below hb⟩,X8 h.own hb,Z7 h.below hb,h.lo⟩
theorem SpSt.mlen{D:WD}{F:Nat→Nat→Prop}{fr S T:List Int}{w wr:World}{g:Nat}{v:Value}(h:SpSt D F fr w wr g v S T):zum wr g=S.length:=by
 obtain⟨M,h1,h2⟩:=h.met;exact zzd h2 h1 h.st.nodup
theorem zpp{T:List Int}{x:Int}(a:Int):a∈T++[x]↔a=x∨a∈T:=by
 rw[List.mem_append,List.mem_singleton];exact Or.comm
theorem SpSt.skip{D:WD}{F:Nat→Nat→Prop}{fr S T:List Int}{x:Int}{w wr w2:World}{g:Nat}{v v':Value}(h:SpSt D F fr w wr g v S (T++[x]))(hx:¬P8 D x∨x∈S)(ho:wr.ownsRow w.heap.size 3 1 v' T.length (T.map (Value.int .i64)))(hb:Below wr.heap.size wr w2):SpSt D F fr w w2 g v' S T :=
 SpSt.next ⟨h.st.skip zpp hx,fun a ha=>h.i64 a (List.mem_append.2 (.inl ha)),by have:=h.len;rw[List.length_append]at this;omega,h.met,ho,h.below,h.lo⟩ hb
end Go.Proofs.YtjjamgeoompbkaaGreat

namespace Go.Proofs.YtjjamgeoompbkaaGreat
open Go.RowKit
open Go.Proofs.Tryz
theorem zyh{v:Value}{D:WD}{k j:Nat}{s:Y7}(hin:zex D s j)(hp0:0≤s.ptrs[j]?.getD 0)(hp1:s.ptrs[j]?.getD 0≤sz s.cls){bw ow cW:Nat}(hv:∃c0 c1 c3 c4 c5 c6 c7 c8,v=.agg #[c0,c1,.slice (some ⟨bw,ow,none⟩) D.words.length cW,c3,c4,c5,c6,c7,c8]){w:World}(hr:RdW w v D) :
  Rd w (.slice (some ⟨bw,ow+(atW s (j:Int)).toNat,none⟩) (ptrW D s j).length (cW-(atW s (j:Int)).toNat)) (ptrW D s j):=by
 obtain⟨c0,c1,c3,c4,c5,c6,c7,c8,rfl⟩:=hv;have a1:=hr.parts.1;have hbd:=hin.bd;have hwd:=hin.words;obtain⟨A,hA⟩:=Int.eq_ofNat_of_zero_le hbd.1;obtain⟨P,hP⟩:=Int.eq_ofNat_of_zero_le hp0;have hpt:ptrW D s j=(D.words.drop A).take P:=by unfold ptrW;rw[hA,hP];rfl
 have hsum:A+P≤D.words.length:=by have:=hin.pg;omega
 have hlen:((D.words.drop A).take P).length=P:=by simp;omega
 rw[hpt,hlen,hA,Int.toNat_natCast];exact Rd.part a1 hsum _
theorem zog{w:World}{v:Value}{D:WD}(hr:RdW w v D)(hl:0<D.words.length):∃bw ow cW,∃c0 c1 c3 c4 c5 c6 c7 c8,v=.agg #[c0,c1,.slice (some ⟨bw,ow,none⟩) D.words.length cW,c3,c4,c5,c6,c7,c8]:=by
 obtain⟨vw,vd,vs,vm,vg,rfl,⟨aW,cW,rfl,_,xw⟩,_⟩:=hr;obtain⟨bw,ow,rfl,_⟩:=xw 0 hl;exact⟨bw,ow,cW,_,_,_,_,_,_,_,_,rfl⟩
theorem ziw(bw ow cW:Nat)(B:Nat)(v:Value)(D:WD)(k j:Nat)(s:Y7)(hks:D.spans[k]?=some s)(hin:zex D s j)(hp0:0≤s.ptrs[j]?.getD 0)(hp1:s.ptrs[j]?.getD 0≤sz s.cls)(hcap:CapW v)(hv:∃c0 c1 c3 c4 c5 c6 c7 c8,v=.agg #[c0,c1,.slice (some ⟨bw,ow,none⟩) D.words.length cW,c3,c4,c5,c6,c7,c8])(w:World)(hr:RdW w v D)(hB:BoxW w B v) :
  Calls prog 128 #[.pointer (some ⟨B,0,none⟩),.agg #[.int .i64 k,.int .i64 j]] w fun e w'=>e=.returned (.slice (some ⟨bw,ow+(atW s (j:Int)).toNat,none⟩) (ptrW D s j).length (cW-(atW s (j:Int)).toNat))∧Below w.heap.size w w':=by
 obtain⟨vw,vd,vs,vm,vg,rfl,a1,a2,a3,a4,a5⟩:=hr;obtain⟨cs,he,hh⟩:=hB;obtain rfl:=(Value.agg.inj he).symm;obtain⟨aW,cW',rfl,hlw,xw⟩:=id a1;have hc:=hcap _ _ _ _ _ _ _ _ _ _ _ rfl;have hbd:=hin.bd;have hwd:=hin.words;have hpg:=hin.pg;have hpg0:=hin.pg0;have hpg1:=hin.pg1;obtain⟨bw',ow',rfl,_⟩:=xw 0 (by omega)
 obtain⟨rfl,rfl,rfl⟩:bw'=bw∧ow'=ow∧cW'=cW:=by
  obtain⟨c0,c1,c3,c4,c5,c6,c7,c8,e⟩:=hv;simp only[Value.agg.injEq,Array.mk.injEq,List.cons.injEq,Value.slice.injEq,Option.some.injEq,Addr.mk.injEq,true_and,and_true]at e;exact⟨e.2.2.1.1.1,e.2.2.1.1.2,e.2.2.1.2⟩
 clear hv;obtain⟨aS,cS,rfl,hsl,hx⟩:=a3;obtain⟨b1,o1,rfl,hrs⟩:=hx k s hks;have bb:=Y2 w (.cells #[.int .i64 k,.int .i64 j] 150);have bx:=Y8 w (.cells #[.int .i64 k,.int .i64 j] 150);have hrs':=hrs.below bb;have hfw:=Z0 (fun(w':World) (h:zea w' b1 (o1+k*6) s)=>zdw b1 (o1+k*6) s (j:Int) (by omega) (by omega) (by omega) (by omega) w' h);have hrs2:=Z0 hrs';obtain⟨vl,vp,x0,x1,x2,x3,x4,x5,xl,xp⟩:=hrs';obtain⟨ap,cp,rfl,hpl,xp⟩:=xp;have hj:=hin.j;have hjp:j<s.ptrs.length:=by have:=hin.lens;have:=hin.ptrs;omega
 obtain⟨bp,op,rfl,xj⟩:=xp j hjp;have g4:=Y3 bb (Z6 hh 4 _ rfl);have g2:=Y3 bb (Z6 hh 2 _ rfl);have q0:=Z6 bx 0 _ rfl;have q1:=Z6 bx 1 _ rfl;have hkl1:(k:Int)<(D.spans.length:Int):=by have:=(List.getElem?_eq_some_iff.1 hks).1;omega
 have hjp1:(j:Int)<(s.ptrs.length:Int):=by omega
 obtain⟨A,hA⟩:=Int.eq_ofNat_of_zero_le hbd.1;obtain⟨P,hP⟩:=Int.eq_ofNat_of_zero_le hp0;have hsum:A+P≤D.words.length:=by omega
 have hA2:A+2≤D.words.length:=by omega
 have hP16:P≤16:=by omega
 have hpt:ptrW D s j=(D.words.drop A).take P:=by unfold ptrW;rw[hA,hP];rfl
 have hlen:((D.words.drop A).take P).length=P:=by simp;omega
 rw[hpt,hlen,hA,Int.toNat_natCast];have y:=Z0 (fun c'=>Rd.part a1 hsum c');have bb':=Z0 bb;rw[hP]at xj;rw[hA]at hfw;unfold maxLen at hlw hpl hsl;have e0:¬cW'=A:=by omega
 have e1:IntKind.i64.wrap ((A:Int)+(P:Int))=(A:Int)+(P:Int):=IntWalk.i64_in _ (by omega);have e2:(A:Int)≤(A:Int)+(P:Int):=by omega
 have e3:(A:Int)+(P:Int)≤(cW':Int):=by omega
 have e4:(0:Int)≤(A:Int)+(P:Int):=by omega
 have e5:((A:Int)+(P:Int)).toNat=A+P:=by omega
 have hc':=Z0 hc;clear a1 a2 a4 a5 he hh xw hx hrs xl xp hbd hwd hpg hpg0 hpg1 hks hin hp0 hp1 hA hP hpt hlen hcap bb bx x0 x1 x2 x3 x4 hj hjp hsum hc hA2;go_enter func128,ntmps128;go_upto_region 1 with fail;generalize w.alloc (.cells #[.int .i64 k,.int .i64 j] 150)=W at *
 go_quiet (fail)
 go_wp2_with (go_at_call 123;refine(hfw.out _ ?_).mono ?_;(first|exact hrs2.out|exact hrs2.out.drewN 1);rintro e w'⟨rfl,dr⟩;obtain⟨m,rfl⟩:=dr)
 go_quiet (fail)
 go_wp2_with fail;go_ret;exact⟨rfl,below_drewN (below_drewN bb'.out _) _⟩
end Go.Proofs.YtjjamgeoompbkaaGreat

namespace Go.Proofs.YtjjamgeoompbkaaGreat
open Go.RowKit
open Go.Maps (Keyed)
open Go.Proofs.Tryz
theorem zoq(w:World){ops:Array Oper}{rest:List Oper}{o:Oper}{a:Act}{Q:Exit→Act→World→Prop}(hg:o.guard=none)(it:Operand)(hop:o.op=Op.next it false)
  (b r n:Nat) (D:DataW Unit) (left:Lit→Bool) (cnt:Nat) (hit:a.eval it=.pointer (some ⟨r,0,none⟩)) (h:w.ranges prog 3 M9 b r n D left cnt)
  (hDone:cnt=0→(∀kl,left kl=false)→wpList prog ops Q rest (a.put o.dst (.tuple #[.bool false])) w)
  (hMore:∀(x c d:Int) (w':World) (cnt':Nat),I64 x→left (.int .i64 x)=true→(∀zd,D.atKey (.int .i64 x) zd=dat c d)→w'.ranges prog 3 M9 b r n D (fun z=>left z && !z.sameKey (.int .i64 x)) cnt'→cnt'<cnt →
   w.grownBy w' (some r)→w'.heap.size=w.heap.size→(Instr.entry (.pointer (some ⟨r,0,none⟩))).run prog w'=.ok (.tuple #[.int .i64 x,.agg #[.int .i64 c,.int .i64 d]]) w'→wpList prog ops Q rest (a.put o.dst (.tuple #[.bool true,.int .i64 x,.agg #[.int .i64 c,.int .i64 d]])) w') :
  wpList prog ops Q (o::rest) a w :=
 wpList_next_ranges w hg it hop 3 zja M9 (Value.int .i64) (fun p:Int × Int=>.agg #[.int .i64 p.1,.int .i64 p.2])
  (fun key kl hkey=>by obtain⟨x,rfl,_⟩:=Maps.keyOf_int_inv (q:=.i64) underlying3 hkey;exact⟨x,rfl⟩) (fun v y hv=>by obtain⟨c,d,rfl,_⟩:=zfz hv;exact⟨(c,d),rfl⟩)
  b r n D left cnt hit h hDone (fun x p kl y w' cnt' hkey hlk hv hat hrg hlt hgr hsz hen=>by
   obtain⟨x',ex,rfl,hwx⟩:=Maps.keyOf_int_inv (q:=.i64) underlying3 hkey
   cases ex
   obtain⟨c,d,hcd,rfl⟩:=zfz hv;obtain⟨c',d'⟩:=p;simp only[Value.agg.injEq,Array.mk.injEq,List.cons.injEq,Value.int.injEq,true_and,and_true]at hcd;obtain⟨rfl,rfl⟩:=hcd;exact hMore x c' d' w' cnt' (zfv hwx) hlk hat hrg hlt hgr hsz hen)
theorem zsy(a x:Int):(Lit.int .i64 a).sameKey (.int .i64 x)=decide (a=x):=by
 by_cases e:a=x
 ·subst e;simp[Lit.sameKey]
 ·simp[Lit.sameKey,e]
def Came(D:WD)(M:DataW Unit)(left:Lit→Bool)(P:Int→Nat→Nat→Y7→Prop):Prop :=
 ∀a k j s,Maps.has M (.int .i64 a)=true→left (.int .i64 a)=false→R6 D a k j→D.spans[k]?=some s→P a k j s
theorem Came.start(D:WD)(M:DataW Unit)(P:Int→Nat→Nat→Y7→Prop):Came D M (Maps.has M) P:=fun a k j s h1 h2=>by rw[h1]at h2;cases h2
theorem Came.step{D:WD}{M:DataW Unit}{left:Lit→Bool}{P:Int→Nat→Nat→Y7→Prop}(hF:Y5 D)(h:Came D M left P){x:Int}{k j:Nat}{s:Y7}(ho:R6 D x k j)(hs:D.spans[k]?=some s)(hp:P x k j s) :
  Came D M (fun z=>left z && !z.sameKey (.int .i64 x)) P:=by
 intro a k' j' s' h1 h2 ho' hs'
 by_cases e:a=x
 ·subst e
  obtain⟨rfl,rfl⟩:=ho'.unique hF ho;rw[hs]at hs'
  cases hs'
  exact hp
 ·refine h a k' j' s' h1 ?_ ho' hs'
  simpa[zsy,e]using h2
theorem Came.done{D:WD}{M:DataW Unit}{left:Lit→Bool}{P:Int→Nat→Nat→Y7→Prop}(h:Came D M left P)(hl:∀kl,left kl=false)(hP:J0 D M D.spans.length 0) :
  ∀a k j s,F0 D.spans.length 0 k j→R6 D a k j→D.spans[k]?=some s→P a k j s :=
 fun a k j s ha ho hs=>h a k j s ((hP.has a).2 ⟨k,j,ha,ho⟩) (hl _) ho hs
theorem pLed(V B g n:Nat)(M:DataW Unit)(v:Value)(D:WD)(hF:Y5 D)(hW:AllI D.words)(hM:∀r,r∈D.muts→AllI r)(hcap:CapW v)(w:World)(hr:RdW w v D)(hB:BoxW w B v)(hv:U6 D w V B g n M) :
  Calls prog 108 #[.pointer (some ⟨V,0,none⟩)] w fun e w'=>IsB (zny D) e∧Below w.heap.size w w':=by
 have hr':=Z0 hr;have hB':=Z0 hB;have hF':=Z0 hF;have hW':=Z0 hW;have hM':=Z0 hM;have hcap':=Z0 hcap;have hv':=Z0 hv;have hC0:=Z0 (fun(w':World) (hb:Below w.heap.size w w')=>Y3 hb (Z6 hv.box 0 (.pointer (some ⟨B,0,none⟩)) rfl));have hC1:=Z0 (fun(w':World) (hb:Below w.heap.size w w')=>Y3 hb (Z6 hv.box 1 (.map (some g)) rfl));have hst:=Z0 (fun(x:Int) (w':World) (hx:I64 x) (hb:Below w.heap.size w w')=>zuy V B g n M v D hF x hx w' (hr.below hb) (hB.below hb) (hv.below hb));obtain⟨bw,ow,cW,hv3⟩:=zog hr (by have:=hF.words;have:=hF.geo.2.2.2.1;omega);have hv3:=Z0 hv3;obtain⟨vw,vd,vs,vm,vg,rfl,a1,a2,a3,a4,a5⟩:=hr;obtain⟨aM,cM,rfl,hml,hxm⟩:=a4;have hxm':=Z0 hxm;unfold maxLen at hml;have G5:=Z0 (fun(w':World) (hb:Below w.heap.size w w')=>Y3 hb (hB.cell 5 (.slice aM D.muts.length cM) rfl));have hmu:=hF.geo.2.2.2.2.2.2;have hmf:∀(fn:Fn) (first cap:Array Value) (w:World),(Instr.makeFunc fn first cap).run prog w=.ok (.func fn first cap) w:=fun _ _ _ _=>rfl;have c0:=hC0.out _ (Below.refl _ _);have g5:=G5.out _ (Below.refl _ _);clear a1 a2 a3 a5 hB hF hW hM hcap hv hxm;go_enter func108,ntmps108;go_wp2_with fail;clear c0 g5
 go_loopw [14] (fun i wr=>∃m:Nat,m≤D.muts.length∧i=.int .i64 m∧Hid (∀q r,q<m→D.muts[q]?=some r→N2 D r)∧Hid (Below w.heap.size w wr)) (fun i _=>D.muts.length-(Go.RowKit.intOf i).toNat)
 case atStart=>exact⟨0,Nat.zero_le _,rfl,Z0 (fun q r h=>absurd h (by omega)),Z0 (Below.refl _ _)⟩
 case round =>
  obtain⟨m,hm,rfl,hok,hb⟩:=hrel;have c0:=hC0.out _ hb.out;have g5:=G5.out _ hb.out
  by_cases hlt:m<D.muts.length
  ·have hlt1:(m:Int)<(D.muts.length:Int):=by omega
   obtain⟨r,hmr⟩:∃r,D.muts[m]?=some r:=⟨_,List.getElem?_eq_getElem hlt⟩;obtain⟨bM,oM,vr,rfl,xm0,hrd⟩:=hxm'.out m r hmr;obtain⟨ar,cr,rfl,hrl,xr⟩:=id hrd;have xm:=Y3 hb.out xm0;have hz:=Z0 (zmz V (ObjP D (fun k j=>¬zei D k j)) _ r (hM'.out r (List.mem_of_getElem? hmr)) wr (hrd.below hb.out) (fun x w' hx hb2=>hst.out x w' hx (Z7 hb.out hb2)));have hyes:=Z0 (show N2 D r→∀q r,q<m+1→D.muts[q]?=some r→N2 D r from fun h q r2 hq hr2=>if e:q=m then by subst e;rw[hmr]at hr2;cases hr2;exact h else hok.out q r2 (by omega) hr2);have hnot:=Z0 (show ¬N2 D r→¬zny D from fun h h2=>h (h2.1 r (List.mem_of_getElem? hmr)));clear xm0 hrd xr hmr hrl;go_wp2_with fail;refine hz.out.mono ?_;rintro e w2⟨hq,b2⟩;replace hq:=hq.elim;have hb2:=Z0 (Z7 hb.out b2);clear b2 hz c0 g5 xm
   rcases hq with⟨hq,rfl⟩|⟨hq,rfl⟩
   ·have hn:=Z0 (hyes.out hq)
    clear hq;go_wp2_with fail
    go_roundw
    case rel=>exact⟨m+1,by omega,by go_num,hn,hb2⟩
    case measure=>simp[Go.RowKit.intOf];omega
   ·have y:=Z0 (IsB.no (hnot.out hq))
    clear hq;go_wp2_with fail;go_ret;exact⟨y.out,hb2.out⟩
  obtain rfl:m=D.muts.length:=by omega
  have hroots:=Z0 (show ∀r,r∈D.muts→N2 D r from fun r hr=>by obtain⟨q,hq⟩:=List.mem_iff_getElem?.1 hr;exact hok.out q r (List.getElem?_eq_some_iff.1 hq).1 hq);have c1:=hC1.out _ hb.out;have hOw:=Z0 ((hv'.out.below hb.out).own);clear hok;go_wp2_with (at_range;refine wpList_range_own _ rfl _ 134 rfl 3 150 zja underlying134 M9 g n M rfl hOw.out ?_;intro w0 hrg0 hg0 hs0);have hb0:=Z0 (hb.out.grown hg0 hb.out.size (fun q hq=>by cases hq));have hrs:=Z0 (show w.heap.size≤wr.heap.size from hb.out.size);have hrg:=Z0 hrg0;clear c0 c1 g5 hg0 hs0 hrg0 hb hOw;generalize wr.heap.size=R at *
  go_frame
  go_loopw [5] (fun _ wj=>∃left cnt,Hid (wj.ranges prog 3 M9 g R n M left cnt)∧Hid (Came D M left fun a k j s=>¬zei D k j→N2 D (ptrW D s j))∧Hid (Below w.heap.size w wj)) (fun _ wj=>wj.rangeLeft g R)
  case atStart=>exact⟨_,_,hrg,Z0 (Came.start _ _ _),hb0⟩
  case round =>
   clear hrg hb0;obtain⟨left,cnt,hrg,hcame,hb⟩:=hrel;go_wp2_with (at_next;refine zoq _ rfl _ rfl g _ n M left cnt rfl hrg.out ?_ ?_)
   ·intro hc0 hl0
    have y:=Z0 (IsB.yes (P:=zny D) ⟨hroots.out,hcame.out.done hl0 hv'.out.is⟩);clear hc0 hl0;go_wp2_with fail;go_ret;exact⟨y.out,hb.out⟩
   ·intro x c d w1 cnt1 hx64 hlx hat hrg1 hlt1 hg1 hs1 hen
    obtain⟨k,j,hah,ho⟩:=(hv'.out.is.has x).1 (Maps.has_true_of_atKey hat);obtain⟨rfl,rfl⟩:=zqa ((hat (dat 0 0)).symm.trans (hv'.out.is.is x k j (dat 0 0) hah ho));obtain⟨s,hks,hin,p0,p1⟩:=L6 hF'.out ho;have hrgO:=Z0 hrg.out;have hrg1':=Z0 hrg1;have hb1:=Z0 (hb.out.grown hg1 hb.out.size (fun q hq=>by cases hq;exact hrs.out));obtain⟨dm,hdm⟩:=E0 (zei D k j);obtain⟨z,hz⟩:=E0 (N2 D (ptrW D s j));have hdmc:=Z0 (fun(w':World) (hb:Below w.heap.size w w')=>(zns B _ D k j s hks (zex.mk16 hF'.out hks hin.j) w' (hr'.out.below hb) (hB'.out.below hb)).mono fun e w'' ⟨h1,h2⟩=>(⟨h1.at_ dm hdm,h2⟩:e=Ending.returned (.bool dm)∧Below w'.heap.size w' w''));have hpw:=Z0 (fun(w':World) (hb:Below w.heap.size w w')=>ziw bw ow cW B _ D k j s hks hin p0 p1 hcap'.out hv3.out w' (hr'.out.below hb) (hB'.out.below hb));have hprd:=Z0 (fun(w':World) (hb:Below w.heap.size w w')=>zyh (k:=k) hin p0 p1 hv3.out (hr'.out.below hb));have hzc:=Z0 (fun(w':World) (hb:Below w.heap.size w w')=>(zmz V (ObjP D (fun k j=>¬zei D k j)) _ (ptrW D s j) (zmo hW'.out s j) w' (hprd.out w' hb) (fun x w'' hx hb2=>hst.out x w'' hx (Z7 hb hb2))).mono fun e w'' ⟨h1,h2⟩=>(⟨h1.at_ z hz,h2⟩:e=Ending.returned (.bool z)∧Below w'.heap.size w' w''));have hstep:=Z0 (show(dm=true∨z=true)→Came D M (fun z=>left z && !z.sameKey (.int .i64 x)) (fun a k j s=>¬zei D k j→N2 D (ptrW D s j))from fun h=>hcame.out.step hF'.out ho hks (fun hd=>h.elim (fun h=>absurd (hdm.1 h) hd) hz.1))
    have hnot:=Z0 (show dm=false→z=false→¬zny D from fun h1 h2 h=>by
     have:=hz.2 (h.2 x k j s hah ho hks (fun hd=>by have:=hdm.2 hd;rw[h1]at this;cases this));rw[h2]at this
     cases this)
    have bb:=Z0 (Y2 w1 (.cells #[.int .i64 k,.int .i64 j] 150));have bx:=Z0 (Y8 w1 (.cells #[.int .i64 k,.int .i64 j] 150));have hbW:=Z0 (Z7 hb1.out bb.out);have hrgW:=Z0 (hrg1.alloc (.cells #[.int .i64 k,.int .i64 j] 150))
    have hmeas:∀(w':World),(∃l,w'.ranges prog 3 M9 g R n M l cnt1)→w'.rangeLeft g R<wr.rangeLeft g R:=by
     rintro w'⟨l,h⟩;have e1:=h.left_eq;have e2:=hrgO.out.left_eq;omega
    have hmeas:=Z0 hmeas;clear hat hrg1 hlt1 hg1 hs1 hlx ho hah hks hin p0 p1 hdm hz hrg hcame hb hrgO;go_upto_region 10 with fail;clear hen;have c0:=hC0.out _ hbW.out;have q0:=Z6 bx.out 0 (.int .i64 k) rfl;have q1:=Z6 bx.out 1 (.int .i64 j) rfl;clear bx;generalize w1.alloc (.cells #[.int .i64 k,.int .i64 j] 150)=W1 at *;have C0:=Ext.cell c0;have Q0:=Ext.cell q0;have Q1:=Ext.cell q1;clear c0 q0 q1;generalize (ptrW D s j).length=np at *
    cases dm
    case true =>
     refine Y6 (Below.refl _ _) (by kernel_rfl) (by kernel_rfl) ?_
     repeat (go_big_quiet_step ((go_at_call 127;exact Ext.call (hdmc.out _ (Z7 hbW.out (Ext.below _))))))
     refine wpQuiet_nil ?_;intro _ hw';obtain⟨x9,hw''⟩:=hw';subst hw'';have hrg4:=Z0 (hrgW.out.kept (M8 x9.below) (by simp) (by simp));have hb4:=Z0 (Z7 hbW.out x9.below);have hn:=Z0 (hstep.out (.inl rfl));go_wp2_with fail
     go_roundw
     case rel=>exact⟨_,_,hrg4,hn,hb4⟩
     case measure=>exact hmeas.out _ ⟨_,hrg4.out⟩
    case false =>
     refine Y6 (Below.refl _ _) (by kernel_rfl) (by kernel_rfl) ?_
     repeat (go_big_quiet_step ((first|(go_at_call 127;exact Ext.call (hdmc.out _ (Z7 hbW.out (Ext.below _))))|(go_at_call 128;exact Ext.call (hpw.out _ (Z7 hbW.out (Ext.below _))))|(go_at_call 125;exact Ext.call (hzc.out _ (Z7 hbW.out (Ext.below _)))))))
     refine wpQuiet_nil ?_;intro _ hw';obtain⟨x9,hw''⟩:=hw';subst hw'';have hrg6:=Z0 (hrgW.out.kept (M8 x9.below) (by simp) (by simp));have hb6:=Z0 (Z7 hbW.out x9.below)
     cases z
     ·have y:=Z0 (IsB.no (hnot.out rfl rfl))
      go_wp2_with fail;go_ret;exact⟨y.out,hb6.out⟩
     ·have hn:=Z0 (hstep.out (.inr rfl))
      go_wp2_with fail
      go_roundw
      case rel=>exact⟨_,_,hrg6,hn,hb6⟩
      case measure=>exact hmeas.out _ ⟨_,hrg6.out⟩
theorem kc_any(Bv V B g n:Nat)(M:DataW Unit)(v:Value)(D:WD)(k j:Nat)(s:Y7)(hks:D.spans[k]?=some s)(hm:0≤s.mark∧s.mark≤9223372036854775807∧j≤16)(w:World)(hr:RdW w v D)(hB:BoxW w B v)(hv:U6 D w V B g n M)(hbv:w.cell? ⟨Bv,0,none⟩=some (.pointer (some ⟨V,0,none⟩))) :
  Calls prog 136 #[.agg #[.int .i64 k,.int .i64 j],.pointer (some ⟨Bv,0,none⟩)] w fun e w'=>IsB (¬U4 D k j) e∧Below w.heap.size w w':=by
 have bb:=Y2 w (.cells #[.int .i64 k,.int .i64 j] 150);have bx:=Y8 w (.cells #[.int .i64 k,.int .i64 j] 150);obtain⟨mk,hmk⟩:=E0 (U4 D k j);have hcall:=Z0 (fun(w':World) (hb:Below w.heap.size w w')=>(zgi B v D k j s hks hm w' (hr.below hb) (hB.below hb)).mono fun e w'' ⟨h1,h2⟩=>(⟨h1.at_ mk hmk,h2⟩:e=Ending.returned (.bool mk)∧Below w'.heap.size w' w''));have y:=Z0 (show IsB (¬U4 D k j) (.returned (.bool (!mk)))from⟨_,rfl,by rw[←hmk];cases mk<;>simp⟩);have c0:=Y3 bb (Z6 hv.box 0 (.pointer (some ⟨B,0,none⟩)) rfl);have v0:=Y3 bb hbv;have q0:=Z6 bx 0 (.int .i64 k) rfl;have q1:=Z6 bx 1 (.int .i64 j) rfl;have bb':=Z0 bb;clear hr hB hv hbv hks hm hmk bb bx;go_enter func136,ntmps136;go_upto_region 1 with fail;generalize w.alloc (.cells #[.int .i64 k,.int .i64 j] 150)=W at *;have C0:=Ext.cell c0;have V0:=Ext.cell v0;have Q0:=Ext.cell q0;have Q1:=Ext.cell q1;clear c0 v0 q0 q1;refine Y6 (Below.refl _ _) (by kernel_rfl) (by kernel_rfl) ?_
 repeat (go_big_quiet_step ((go_at_call 137;exact Ext.call (hcall.out _ (Z7 bb'.out (Ext.below _))))))
 refine wpQuiet_nil ?_;intro _ hw';obtain⟨x9,hw''⟩:=hw';subst hw'';go_wp2_with fail;go_ret;exact⟨y.out,Z7 bb'.out x9.below⟩
theorem zsu(V B gv n:Nat)(Mv:DataW Unit)(v:Value)(D:WD)(hF:Y5 D)(hI:AllI D.words)(hcap:CapW v)(af:Option Addr)(cf:Nat)(fr:List Int)(hfI:AllI fr)(hfr:fr.length≤1048576)(Bv:Nat)(w:World)(hr:RdW w v D)(hB:BoxW w B v)(hv:U6 D w V B gv n Mv)(hf:Rd w (.slice af fr.length cf) fr)(hbv:w.cell? ⟨Bv,0,none⟩=some (.pointer (some ⟨V,0,none⟩))) :
  Calls prog 135 #[.pointer (some ⟨V,0,none⟩),.slice af fr.length cf,.func (.func 136) #[] #[.pointer (some ⟨Bv,0,none⟩)]] w fun e w'=>∃g' S,Hid (S.Nodup∧∀a,a∈S↔Led D (fun k j=>¬U4 D k j) fr a)∧e=.returned (.map (some g'))∧Hid (∃M,zke M S∧OwnB w' g' S.length M)∧w.heap.size≤g'∧Below w.heap.size w w':=by
 have hF':=Z0 hF;have hI':=Z0 hI;have hcap':=Z0 hcap;have hr':=Z0 hr;have hB':=Z0 hB;have hv':=Z0 hv;have hfI':=Z0 hfI;have hf':=Z0 hf;have hbv':=Z0 hbv;have c00:=Z0 (Z6 hv.box 0 (.pointer (some ⟨B,0,none⟩)) rfl);have bb:=Z0 (Y2 w (.map #[] 0));have hmk:=@run_makeMap prog;have hown0:=Z0 (show OwnB (w.alloc (.map #[] 0)) w.heap.size 0 (.map [])from World.ownsMap_made w prog 3 zgc);have hcall:=Z0 (zfd af fr.length cf (fr.map (Value.int .i64)) hfr _ (Rd.src (hf.below bb.out)));clear hF hI hcap hr hB hv hfI hf hbv;go_enter func135,ntmps135;go_wp2_with fail;refine hcall.out.mono ?_;rintro e w1⟨v1,rfl,ho1,b1⟩;have st1:=Z0 (show SpSt D (fun k j=>¬U4 D k j) fr w w1 w.heap.size v1 [] fr from⟨GoSt.zero _ _ _,hfI'.out,by simp,⟨_,zke.zero,hown0.out.below b1⟩,U3 (base':=w.heap.size) ho1 (by simp),Z7 bb.out b1,Nat.le_refl _⟩);clear ho1 b1 hcall hmk;go_wp2_with fail
 go_loopw [8] (fun v wr=>∃S T:List Int,Hid (SpSt D (fun k j=>¬U4 D k j) fr w wr w.heap.size v S T)) (fun v wr=>lenV v+17*(384-zum wr w.heap.size))
 case atStart=>exact⟨[],fr,st1⟩
 case round =>
  clear st1;obtain⟨S,T,st⟩:=hrel;have hml:=st.out.mlen;have hlenS:S.length≤384:=st.out.st.len hF'.out;have hl:=st.out.len;obtain⟨au,cu,hu⟩:=X0 st.out.own
  rcases List.eq_nil_or_concat T with rfl|⟨T,x,rfl⟩
  ·subst hu
   go_wp2_with fail;go_ret;exact⟨_,S,Z0 ⟨st.out.st.nodup,fun a=>st.out.st.done a⟩,rfl,Z0 st.out.met,Nat.le_refl _,st.out.below⟩
  rw[List.concat_eq_append]at st hu hl;have e1:(T++[x]).length=T.length+1:=by simp
  rw[e1]at hu hl;subst hu;obtain⟨gu,hgu,hcap,hcm,x0,htail⟩:=own_init st.out.own;subst hgu;have hx64:=st.out.i64 x (by simp);have hkey:=Z0 (zid hx64);obtain⟨M,hM,hOM⟩:=st.out.met;have hM':=Z0 hM;have hOM':=Z0 hOM;have hw:=Z0 st.out.below;have htail':=Z0 htail;have hvr:=Z0 (hv'.out.below hw.out);have c0:=Z6 hvr.out.box 0 (.pointer (some ⟨B,0,none⟩)) rfl;have c1:=Z6 hvr.out.box 1 (.map (some gv)) rfl;have hpos:(0:Int)<((T.length+1:Nat):Int):=by omega
  have hcm':cu≤9223372036854775807:=by unfold maxLen at hcm;omega
  have hsub:IntKind.i64.wrap (((T.length+1:Nat):Int)-1)=(T.length:Int):=(IntWalk.i64_in _ (by omega)).trans (by omega);have hlt0:(T.length:Int)<((T.length+1:Nat):Int):=by omega
  have hle0:(T.length:Int)≤(cu:Int):=by omega
  clear hM hOM hcm htail hx64
  by_cases hh:∃k j,R6 D x k j
  case neg =>
   have h1:=Z0 (show Maps.has Mv (.int .i64 x)=false from by
    cases h:Maps.has Mv (.int .i64 x)
    ·rfl
    ·obtain⟨k,j,_,ho⟩:=(hvr.out.is.has x).1 h
     exact absurd ⟨k,j,ho⟩ hh)
   have h2:=Z0 (show Mv.atKey (.int .i64 x) (dat 0 0)=dat 0 0 from Maps.atKey_of_not_has h1.out _);have st2:=Z0 (fun w2 (hb:Below wr.heap.size wr w2)=>st.out.skip (.inl fun⟨k,j,h⟩=>hh ⟨k,j,h⟩) htail'.out hb);have st3:=Z0 (st2.out _ (Y2 wr (.cells #[.int .i64 0,.int .i64 0] 150)));clear hh st;go_wp2_with (at_lookup;refine N5 _ rfl rfl _ _ rfl gv n Mv rfl hvr.out.own _ _ rfl hkey.out false h1.out 0 0 h2.out ?_)
   go_roundw
   case rel=>exact⟨S,T,st3⟩
   case measure=>rw[st3.out.mlen,hml];simp only[lenV];omega
  obtain⟨k,j,ho⟩:=hh;obtain⟨s,hks,hin,p0,p1⟩:=L6 hF'.out ho;have ho':=Z0 ho;have hks':=Z0 hks;have hin':=Z0 hin;have hk:=Z0 (show F0 D.spans.length 0 k j from .inl (List.getElem?_eq_some_iff.1 hks).1);have h1:=Z0 ((hvr.out.is.has x).2 ⟨k,j,hk.out,ho⟩);have h2:=Z0 (hvr.out.is.is x k j (dat 0 0) hk.out ho);have bb2:=Z0 (Y2 wr (.cells #[.int .i64 k,.int .i64 j] 150));have bx2:=Z0 (Y8 wr (.cells #[.int .i64 k,.int .i64 j] 150));have hl3:=Z0 (hM'.out.look x);have hOM2:=Z0 (hOM'.out.below bb2.out)
  by_cases hxS:x∈S
  ·have st2:=Z0 (st.out.skip (.inr hxS) htail'.out bb2.out)
   have h3:=Z0 (show M.atKey (.int .i64 x) (flag false)=flag true by rw[hl3.out];simp[hxS]);have hlk:=zjn hOM2.out hkey.out h3.out;clear ho hks hin p0 p1 hxS st;go_wp2_with (at_lookup;refine N5 _ rfl rfl _ _ rfl gv n Mv rfl hvr.out.own _ _ rfl hkey.out true h1.out (k:Int) (j:Int) h2.out ?_)
   go_roundw
   case rel=>exact⟨S,T,st2⟩
   case measure=>rw[st2.out.mlen,hml];simp only[lenV];omega
  have h3:=Z0 (show M.atKey (.int .i64 x) (flag false)=flag false by rw[hl3.out];simp[hxS]);have hpw:=Z0 (fun(w':World) (hb:Below w.heap.size w w')=>zil B v D k j s hks hin p0 p1 hcap'.out w' (hr'.out.below hb) (hB'.out.below hb));have hxS':=Z0 hxS;have hlk:=zjn hOM2.out hkey.out h3.out;have hne:=Z0 (show some wr.heap.size≠some w.heap.size from fun e=>by have:=hOM'.out.lt;simp at e;omega);have hne2:=Z0 (hOM'.out.ne_row htail'.out);obtain⟨mk,hmk⟩:=E0 (¬U4 D k j);have hfoll:=Z0 (fun(w':World) (hb:Below w.heap.size w w')=>(kc_any Bv V B gv n Mv v D k j s hks (zex.mk16 hF'.out hks hin.j) w' (hr'.out.below hb) (hB'.out.below hb) (hv'.out.below hb) (Y3 hb hbv'.out)).mono fun e w'' ⟨h1,h2⟩=>(⟨h1.at_ mk hmk,h2⟩:e=Ending.returned (.bool mk)∧Below w'.heap.size w' w''));have hmk':=Z0 hmk;clear hmk;clear ho hks hin p0 p1 hxS
  cases mk
  case false =>
   go_wp2_with (first
    | (at_lookup;refine N5 _ rfl rfl _ _ rfl gv n Mv rfl hvr.out.own _ _ rfl hkey.out true h1.out (k:Int) (j:Int) h2.out ?_)
    | (at_mapUpdate;refine wpList_mapUpdate_own _ rfl _ _ _ 155 rfl 3 4 zja underlying155 zgc w.heap.size S.length M rfl hOM2.out (by unfold maxLen;omega) _ _ (.int .i64 x) rfl rfl hkey.out (flag true) [] (zih true) ?_;intro w3 hown3 hgrow3;have y0:=World.grownBy.cell hgrow3 (Z6 bx2.out 0 (.int .i64 k) rfl) hne.out;have y1:=World.grownBy.cell hgrow3 (Z6 bx2.out 1 (.int .i64 j) rfl) hne.out)
    | (go_at_call 136;refine(hfoll.out _ ?_).mono ?_;(exact World.below_none hgrow3 hw.out bb2.out (Nat.le_refl _));rintro e w4⟨rfl,b4⟩))
   have M3:=Z0 (hM'.out.put x);have own3:=Z0 ((htail'.out.alloc (.cells #[.int .i64 k,.int .i64 j] 150)).kept hgrow3 (.inr hne2.out));have w3b:=Z0 (show Below w.heap.size w w3 from Below.grown (Z7 hw.out bb2.out) hgrow3 (by have:=hw.out.size;have:=bb2.out.size;omega) (fun q hq=>by cases hq;exact Nat.le_refl _));have w4b:=Z0 (Z7 w3b.out b4);have own4:=Z0 (X8 own3.out b4);have hown4:=Z0 (show OwnB w4 w.heap.size (S.length+1) _ from OwnB.below hown3 b4);have st2:=Z0 (st.out.st.put (S':=x::S) (T'':=T) hF'.out zpp ho'.out hks'.out (List.nodup_cons.2 ⟨hxS'.out,st.out.st.nodup⟩) (fun a=>List.mem_cons) (fun hf=>by have:=hmk'.out.2 hf;cases this) (fun _=>rfl));have h384:=st2.out.len hF'.out;have st7:=Z0 (show SpSt D (fun k j=>¬U4 D k j) fr w w4 w.heap.size _ (x::S) T from⟨st2.out,fun a ha=>st.out.i64 a (List.mem_append.2 (.inl ha)),by simp only[List.length_cons];omega,⟨_,M3.out,hown4.out⟩,own4.out,w4b.out,Nat.le_refl _⟩);clear hgrow3 hown3 b4 hlk x0;go_wp2_with fail
   go_roundw
   case rel=>exact⟨x::S,T,st7⟩
   case measure=>rw[st7.out.mlen,hml];simp only[lenV,List.length_cons]at h384 ⊢;omega
  case true =>
   go_wp2_with (first
    | (at_lookup;refine N5 _ rfl rfl _ _ rfl gv n Mv rfl hvr.out.own _ _ rfl hkey.out true h1.out (k:Int) (j:Int) h2.out ?_)
    | (at_mapUpdate;refine wpList_mapUpdate_own _ rfl _ _ _ 155 rfl 3 4 zja underlying155 zgc w.heap.size S.length M rfl hOM2.out (by unfold maxLen;omega) _ _ (.int .i64 x) rfl rfl hkey.out (flag true) [] (zih true) ?_;intro w3 hown3 hgrow3;have y0:=World.grownBy.cell hgrow3 (Z6 bx2.out 0 (.int .i64 k) rfl) hne.out;have y1:=World.grownBy.cell hgrow3 (Z6 bx2.out 1 (.int .i64 j) rfl) hne.out)
    | (go_at_call 136;refine(hfoll.out _ ?_).mono ?_;(exact World.below_none hgrow3 hw.out bb2.out (Nat.le_refl _));rintro e w4⟨rfl,b4⟩))
   have M3:=Z0 (hM'.out.put x);have own3:=Z0 ((htail'.out.alloc (.cells #[.int .i64 k,.int .i64 j] 150)).kept hgrow3 (.inr hne2.out));have w3b:=Z0 (show Below w.heap.size w w3 from Below.grown (Z7 hw.out bb2.out) hgrow3 (by have:=hw.out.size;have:=bb2.out.size;omega) (fun q hq=>by cases hq;exact Nat.le_refl _));have w4b:=Z0 (Z7 w3b.out b4);have own4:=Z0 (X8 own3.out b4);have hown4:=Z0 (show OwnB w4 w.heap.size (S.length+1) _ from OwnB.below hown3 b4);have D0:=Y3 w4b.out c00.out;have Y0:=Y3 b4 y0;have Y1:=Y3 b4 y1;have hl16:=zuj hF'.out ho'.out hks'.out;clear c0 c1 y0 y1 hgrow3 hown3 b4 hlk x0;have st2:=Z0 (st.out.st.put (S':=x::S) (T'':=T++ptrW D s j) hF'.out zpp ho'.out hks'.out (List.nodup_cons.2 ⟨hxS'.out,st.out.st.nodup⟩) (fun a=>List.mem_cons) (fun _ b _=>List.mem_append) (fun hn=>absurd (hmk'.out.1 (by simp)) hn));have hi64:=Z0 (show AllI (T++ptrW D s j)from fun a ha=>(List.mem_append.1 ha).elim (fun h=>st.out.i64 a (List.mem_append.2 (.inl h))) (zmo hI'.out s j a));have hle4:=Z0 w4b.out.size;clear st;generalize ptrW D s j=Z at *
   go_region_law (first
    | (refine zkn rfl (zuc (.tmp 50) (.tmp 56) 22 rfl w.heap.size 3 (.int .i64 0) 1 8 underlying22 zer rfl (by decide) _ T.length _ rfl own6.out A Z.length c (Z.map (Value.int .i64)) rfl src6.out (by unfold maxLen;omega) (by omega) hle6.out ?_);intro v7 w7 o7 g7)
    | (go_simp;go_wp2_with (go_at_call 128;refine(hpw.out _ ?_).mono ?_;(first|exact w4b.out|exact below_drewN w4b.out 1|exact below_drewN w4b.out 2);rintro e w6⟨A,c,rfl,hrd,h16,b6⟩;have b66:=Z0 (show Below w4.heap.size w4 w6 from⟨b6.os,b6.tape,b6.output,b6.size,b6.block⟩);have src6:=Z0 (Rd.src hrd);have own6:=Z0 (X8 own4.out b66.out);have hle6:=Z0 (Nat.le_trans hle4.out b66.out.size);clear hrd b6)))
   all_goals
    obtain⟨a7,c7,hv7⟩:=X0 o7;subst hv7;have st7:=Z0 (show SpSt D (fun k j=>¬U4 D k j) fr w w7 w.heap.size _ (x::S) (T++Z)from⟨st2.out,hi64.out,by simp only[List.length_append,List.length_cons];omega,⟨_,M3.out,World.ownsMap.kept (OwnB.below hown4.out b66.out) g7 (fun e=>hown4.out.ne_row own4.out e.symm)⟩,by simpa using o7,(Z7 w4b.out b66.out).grown g7 hle6.out (fun q hq=>(own6.out.lt q hq).1),Nat.le_refl _⟩);have h384:=st2.out.len hF'.out;clear o7 g7;go_simp;go_wp2_with fail
    go_roundw
    case rel=>exact⟨x::S,T++Z,st7⟩
    case measure=>rw[st7.out.mlen,hml];simp only[lenV,List.length_cons]at h384 ⊢;omega
theorem zop(V B g n:Nat)(M:DataW Unit)(v:Value)(D:WD)(w:World)(hr:RdW w v D)(hB:BoxW w B v)(hv:U6 D w V B g n M) :
  Calls prog 110 #[.pointer (some ⟨V,0,none⟩)] w fun e w'=>IsB (D.grey=[]) e∧Below w.heap.size w w':=by
 have c0:=Z6 hv.box 0 (.pointer (some ⟨B,0,none⟩)) rfl;obtain⟨vw,vd,vs,vm,vg,rfl,a1,a2,a3,a4,a5⟩:=hr;obtain⟨ag,cg,rfl,hl,_⟩:=a5;unfold maxLen at hl;have g8:=hB.cell 8 _ rfl;clear a1 a2 a3 a4 hB hv
 by_cases c:D.grey=[]
 ·have y:=Z0 (IsB.yes c)
  have hz:D.grey.length=0:=by rw[c];rfl
  rw[hz]at g8;clear c;go_enter func110,ntmps110;go_wp2_with fail;go_ret;exact⟨y.out,Below.refl _ _⟩
 ·have y:=Z0 (IsB.no c)
  have hz:¬D.grey.length=0:=fun h=>c (List.length_eq_zero_iff.1 h);have hz1:((D.grey.length:Int) == 0)=false:=beq_eq_false_iff_ne.2 (by omega);clear c;go_enter func110,ntmps110;go_wp2_with fail;go_ret;exact⟨by simpa[hz,hz1]using y.out,Below.refl _ _⟩
theorem pNext(V B g n:Nat)(M:DataW Unit)(v:Value)(D:WD)(w:World)(hr:RdW w v D)(hB:BoxW w B v)(hv:U6 D w V B g n M) :
  Calls prog 111 #[.pointer (some ⟨V,0,none⟩)] w fun e w'=>IsB ((D.phase=1→0≤D.next∧D.next≤(D.muts.length:Int))∧(D.phase≠1→D.next=0)) e∧Below w.heap.size w w':=by
 have c0:=Z6 hv.box 0 (.pointer (some ⟨B,0,none⟩)) rfl;obtain⟨vw,vd,vs,vm,vg,rfl,a1,a2,a3,a4,a5⟩:=hr;obtain⟨aM,cM,rfl,hml,_⟩:=a4;unfold maxLen at hml;have g5:=hB.cell 5 _ rfl;have g6:=hB.cell 6 _ rfl;have g7:=hB.cell 7 _ rfl;have hP:=Z0 (Iff.refl ((D.phase=1→0≤D.next∧D.next≤(D.muts.length:Int))∧(D.phase≠1→D.next=0)));clear a1 a2 a3 a5 hB hv
 by_cases c:D.phase=1
 ·have y:=Z0 (show IsB ((D.phase=1→0≤D.next∧D.next≤(D.muts.length:Int))∧(D.phase≠1→D.next=0)) (.returned (.bool (inB D.next 0 (D.muts.length:Int))))from⟨_,rfl,by rw[U7];exact⟨fun h=>⟨fun _=>h,fun h2=>absurd c h2⟩,fun h=>h.1 c⟩⟩)
  rw[c]at g6;clear hP;generalize ((D.phase=1→0≤D.next∧D.next≤(D.muts.length:Int))∧(D.phase≠1→D.next=0))=P at *;clear c;go_enter func111,ntmps111;go_wp2_with fail
  go_quiet ((go_at_call 73;exact Calls.quiet_of_same ((zms _ _ _ _).mono fun _ _ ⟨a,b⟩=>⟨a,b.symm⟩)))
  go_wp2_with fail;go_ret;exact⟨y.out,below_drewN (Below.refl _ _) _⟩
 ·have y:=Z0 (show IsB ((D.phase=1→0≤D.next∧D.next≤(D.muts.length:Int))∧(D.phase≠1→D.next=0)) (.returned (.bool (D.next == 0)))from⟨_,rfl,by rw[beq_iff_eq];exact⟨fun h=>⟨fun h2=>absurd h2 c,fun _=>h⟩,fun h=>h.2 c⟩⟩)
  have d:(D.phase == 1)=false:=beq_eq_false_iff_ne.2 c;clear hP;generalize ((D.phase=1→0≤D.next∧D.next≤(D.muts.length:Int))∧(D.phase≠1→D.next=0))=P at *;clear c;go_enter func111,ntmps111;go_wp2_with fail;go_ret;exact⟨y.out,Below.refl _ _⟩
theorem pSwept(V B g n:Nat)(M:DataW Unit)(v:Value)(D:WD)(w:World)(hr:RdW w v D)(hB:BoxW w B v)(hv:U6 D w V B g n M) :
  Calls prog 112 #[.pointer (some ⟨V,0,none⟩)] w fun e w'=>IsB (¬∃s,s∈D.spans∧(s.swept=true)) e∧Below w.heap.size w w':=by
 have c0:=Z6 hv.box 0 (.pointer (some ⟨B,0,none⟩)) rfl;obtain⟨vw,vd,vs,vm,vg,rfl,a1,a2,a3,a4,a5⟩:=hr;have hcall:=Z0 (zwu _ D.spans w a3);obtain⟨aS,cS,rfl,_⟩:=a3;have g4:=hB.cell 4 _ rfl;clear a1 a2 a4 a5 hB hv;go_enter func112,ntmps112;go_wp2_with fail;refine hcall.out.mono ?_;rintro e w1⟨⟨r,rfl,hr⟩,b1⟩;have y:=Z0 (show IsB (¬∃s,s∈D.spans∧(s.swept=true)) (.returned (.bool (!r)))from⟨_,rfl,by rw[←hr];cases r<;>simp⟩);have b1':=Z0 b1;clear hr b1 hcall;go_wp2_with fail;go_ret;exact⟨y.out,b1'.out⟩
theorem pMarked(V B g n:Nat)(M:DataW Unit)(v:Value)(D:WD)(w:World)(hr:RdW w v D)(hB:BoxW w B v)(hv:U6 D w V B g n M) :
  Calls prog 113 #[.pointer (some ⟨V,0,none⟩)] w fun e w'=>IsB (¬∃s,s∈D.spans∧(s.mark≠0)) e∧Below w.heap.size w w':=by
 have c0:=Z6 hv.box 0 (.pointer (some ⟨B,0,none⟩)) rfl;obtain⟨vw,vd,vs,vm,vg,rfl,a1,a2,a3,a4,a5⟩:=hr;have hcall:=Z0 (zts _ D.spans w a3);obtain⟨aS,cS,rfl,_⟩:=a3;have g4:=hB.cell 4 _ rfl;clear a1 a2 a4 a5 hB hv;go_enter func113,ntmps113;go_wp2_with fail;refine hcall.out.mono ?_;rintro e w1⟨⟨r,rfl,hr⟩,b1⟩;have y:=Z0 (show IsB (¬∃s,s∈D.spans∧(s.mark≠0)) (.returned (.bool (!r)))from⟨_,rfl,by rw[←hr];cases r<;>simp⟩);have b1':=Z0 b1;clear hr b1 hcall;go_wp2_with fail;go_ret;exact⟨y.out,b1'.out⟩
theorem pBoth(V B g n:Nat)(M:DataW Unit)(v:Value)(D:WD)(w:World)(hr:RdW w v D)(hB:BoxW w B v)(hv:U6 D w V B g n M) :
  Calls prog 114 #[.pointer (some ⟨V,0,none⟩)] w fun e w'=>IsB (¬∃s,s∈D.spans∧(s.swept=true∧s.mark≠0)) e∧Below w.heap.size w w':=by
 have c0:=Z6 hv.box 0 (.pointer (some ⟨B,0,none⟩)) rfl;obtain⟨vw,vd,vs,vm,vg,rfl,a1,a2,a3,a4,a5⟩:=hr;have hcall:=Z0 (zzr _ D.spans w a3);obtain⟨aS,cS,rfl,_⟩:=a3;have g4:=hB.cell 4 _ rfl;clear a1 a2 a4 a5 hB hv;go_enter func114,ntmps114;go_wp2_with fail;refine hcall.out.mono ?_;rintro e w1⟨⟨r,rfl,hr⟩,b1⟩;have y:=Z0 (show IsB (¬∃s,s∈D.spans∧(s.swept=true∧s.mark≠0)) (.returned (.bool (!r)))from⟨_,rfl,by rw[←hr];cases r<;>simp⟩);have b1':=Z0 b1;clear hr b1 hcall;go_wp2_with fail;go_ret;exact⟨y.out,b1'.out⟩
theorem pGrey(V B g n:Nat)(M:DataW Unit)(v:Value)(D:WD)(hF:Y5 D)(hI:AllI D.grey)(w:World)(hr:RdW w v D)(hB:BoxW w B v)(hv:U6 D w V B g n M) :
  Calls prog 109 #[.pointer (some ⟨V,0,none⟩)] w fun e w'=>IsB (U2 D D.grey) e∧Below w.heap.size w w':=by
 have hr':=Z0 hr;have hB':=Z0 hB;have hF':=Z0 hF;have hI':=Z0 hI;have hv':=Z0 hv;have c0:=Z6 hv.box 0 (.pointer (some ⟨B,0,none⟩)) rfl;obtain⟨vw,vd,vs,vm,vg,rfl,a1,a2,a3,a4,a5⟩:=hr;obtain⟨ag,cg,rfl,hl,xg⟩:=a5;have xg':=Z0 xg;unfold maxLen at hl;have bb:=Z0 (Y2 w (.map #[] 0));have g8:=Y3 bb.out (hB.cell 8 _ rfl);have c0:=Y3 bb.out c0;have hmk:=@run_makeMap prog;have hown0:=Z0 (show OwnB (w.alloc (.map #[] 0)) w.heap.size 0 (.map [])from World.ownsMap_made w prog 3 zgc);clear a1 a2 a3 a4 xg hB hF hI hv;go_enter func109,ntmps109;go_wp2_with fail;clear g8 c0 hmk
 go_loopw [16] (fun i wr=>∃(k:Nat) (S:List Int),k≤D.grey.length∧i=.int .i64 k∧Hid (∀a,a∈S↔a∈D.grey.take k)∧Hid (U2 D (D.grey.take k))∧Hid (∃M2,zke M2 S∧OwnB wr w.heap.size k M2)∧Hid (Below w.heap.size w wr)) (fun i _=>D.grey.length-(Go.RowKit.intOf i).toNat)
 case atStart=>exact⟨0,[],Nat.zero_le _,rfl,Z0 (fun a=>by simp),Z0 (by simpa using U2.nil D),Z0 ⟨_,zke.zero,hown0.out⟩,bb⟩
 case round =>
  obtain⟨k,S,hk,rfl,hS,hgm,hM,hB⟩:=hrel
  by_cases hlt:k<D.grey.length
  ·have hlt1:(k:Int)<(D.grey.length:Int):=by omega
   obtain⟨bg,og,rfl,x0⟩:=xg'.out k hlt;have x1:=Y3 hB.out x0;have hx64:=hI'.out (D.grey[k]?.getD 0) (by rw[List.getElem?_eq_getElem hlt];exact List.getElem_mem hlt);have hno1:=Z0 (U2.no1 (D:=D) hlt);have hno2:=Z0 (U2.no2 (D:=D) hlt);have hsn:=Z0 (show U8 D (D.grey[k]?.getD 0)→D.grey[k]?.getD 0∉D.grey.take k→U2 D (D.grey.take (k+1))from fun hm hx=>by rw[L9 hlt];exact hgm.out.snoc hm hx);have hS2:=Z0 (show ∀a,a∈D.grey[k]?.getD 0::S↔a∈D.grey.take (k+1)from fun a=>by rw[L9 hlt,List.mem_append,List.mem_singleton,List.mem_cons,hS.out];exact Or.comm);clear x0;generalize D.grey[k]?.getD 0=x at *;have hkey:=Z0 (zid hx64);obtain⟨M2,hM1,hM2⟩:=hM.out;have hM1':=Z0 hM1;have hM2':=Z0 hM2
   by_cases hxS:x∈S
   ·have hlk:=zjn hM2 hkey.out (show M2.atKey (.int .i64 x) (flag false)=flag true by rw[hM1.look x];simp[hxS])
    have y:=Z0 (IsB.no (hno2.out ((hS.out x).1 hxS)));clear hM1 hM2 hxS hx64;go_wp2_with fail;go_ret;exact⟨y.out,hB.out⟩
   have hlk:=zjn hM2 hkey.out (show M2.atKey (.int .i64 x) (flag false)=flag false by rw[hM1.look x];simp[hxS]);have hmk:=Z0 (znd V B g n M _ D hF'.out x hx64 wr (hr'.out.below hB.out) (hB'.out.below hB.out) (hv'.out.below hB.out));have hnS:=Z0 (show x∉D.grey.take k from fun h=>hxS ((hS.out x).2 h));clear hM1 hM2 hxS hx64;go_wp2_with fail;refine hmk.out.mono ?_;rintro e w1⟨hq,b1⟩;replace hq:=hq.elim;have hB1:=Z0 (Z7 hB.out b1);have hM3:=Z0 (hM2'.out.below b1);clear b1 hmk hlk x1
   rcases hq with⟨hq,rfl⟩|⟨hq,rfl⟩
   case inr =>
    have y:=Z0 (IsB.no (hno1.out hq));clear hq;go_wp2_with fail;go_ret;exact⟨y.out,hB1.out⟩
   have hn:=Z0 (hsn.out hq hnS.out);clear hq;go_wp2_with (at_mapUpdate;refine wpList_mapUpdate_own _ rfl _ _ _ 155 rfl 3 4 zja underlying155 zgc w.heap.size k M2 rfl hM3.out (by unfold maxLen;omega) _ _ (.int .i64 x) rfl rfl hkey.out (flag true) [] (zih true) ?_;intro w3 hown3 hgrow3);have hB3:=Z0 (hB1.out.grown hgrow3 hB1.out.size (fun q hq=>by cases hq;exact Nat.le_refl _));have hMM:=Z0 (show ∃M3,zke M3 (x::S)∧OwnB w3 w.heap.size (k+1) M3 from⟨_,hM1'.out.put x,hown3⟩);clear hown3 hgrow3;go_wp2_with fail
   go_roundw
   case rel=>exact⟨k+1,x::S,by omega,by go_num,hS2,hn,hMM,hB3⟩
   case measure=>simp[Go.RowKit.intOf];omega
  obtain rfl:k=D.grey.length:=by omega
  have y:=Z0 (IsB.yes (P:=U2 D D.grey) (by simpa using hgm.out));go_wp2_with fail;go_ret;exact⟨y.out,hB.out⟩
theorem zyi{D:WD}{a:Int}{L:List Int}(hF:Y5 D)(h:zxa D a L):L.length≤16:=by
 rcases h with⟨k,j,s,_,ho,hs,rfl⟩|⟨_,rfl⟩
 ·exact zia hF ho hs
 ·simp
theorem zyj{D:WD}{a:Int}{L:List Int}(hW:AllI D.words)(h:zxa D a L):AllI L:=by
 rcases h with⟨k,j,s,_,ho,hs,rfl⟩|⟨_,rfl⟩
 ·exact fun x hx=>zmo hW s j x (zho.1 hx).1
 ·exact fun x hx=>by simp at hx
theorem J5.any{D:WD}{L fr Z:List Int}{x:Int}(hF:Y5 D)(h:J5 D L fr)(hp:zxa D x Z):J5 D (L++[x]) (fr++Z):=by
 rcases hp with⟨k,j,s,_,ho,hs,rfl⟩|⟨hn,rfl⟩
 ·exact h.snoc hF ho hs
 ·refine⟨by have:=h.1;simp only[List.length_append,List.length_cons,List.length_nil];omega,fun b hb=>?_,fun b hb=>h.2.2 b (by simpa using hb)⟩
  rw[List.append_nil,h.2.1 b hb];constructor
  ·rintro⟨a,k,j,s,ha,h1⟩
   exact⟨a,k,j,s,List.mem_append.2 (.inl ha),h1⟩
  ·rintro⟨a,k,j,s,ha,h1,h2⟩
   rcases List.mem_append.1 ha with ha|ha
   ·exact⟨a,k,j,s,ha,h1,h2⟩
   ·rw[List.mem_singleton.1 ha]at h1
    exact absurd h1 (hn hF k j)
theorem kept_any(B1 B2 V B g n g2 n2:Nat)(M M2:DataW Unit)(S:List Int)(v:Value)(D:WD)(hF:Y5 D)(hM2:zke M2 S)(x:Int)(hx:I64 x)(w:World)(hr:RdW w v D)(hB:BoxW w B v)(hv:U6 D w V B g n M)(hO:OwnB w g2 n2 M2)
  (h1:w.cell? ⟨B1,0,none⟩=some (.map (some g2))) (h2:w.cell? ⟨B2,0,none⟩=some (.pointer (some ⟨V,0,none⟩))) :
  Calls prog 138 #[.int .i64 x,.pointer (some ⟨B1,0,none⟩),.pointer (some ⟨B2,0,none⟩)] w fun e w'=>IsB (x∈S∨U8 D x) e∧Below w.heap.size w w':=by
 have hkey:=Z0 (zid hx);have hmk:=Z0 (znd V B g n M v D hF x hx w hr hB hv)
 by_cases hxS:x∈S
 ·have hlk:=zjn hO hkey.out (show M2.atKey (.int .i64 x) (flag false)=flag true by rw[hM2.look x];simp[hxS])
  have y:=Z0 (IsB.yes (show x∈S∨U8 D x from .inl hxS));clear hr hB hv hO hxS hx;go_enter func138,ntmps138;go_wp2_with fail;go_ret;exact⟨y.out,Below.refl _ _⟩
 ·have hlk:=zjn hO hkey.out (show M2.atKey (.int .i64 x) (flag false)=flag false by rw[hM2.look x];simp[hxS])
  have hiff:=Z0 (show(x∈S∨U8 D x)↔U8 D x from⟨fun h=>h.elim (fun h=>absurd h hxS) id,.inr⟩);clear hr hB hv hO hxS hx;go_enter func138,ntmps138;go_wp2_with fail;refine hmk.out.mono ?_;rintro e w1⟨⟨r,rfl,hrr⟩,b1⟩;have y:=Z0 (show IsB (x∈S∨U8 D x) (.returned (.bool r))from⟨r,rfl,hrr.trans hiff.out.symm⟩);have b1':=Z0 b1;clear hrr b1 hmk hlk;go_wp2_with fail;go_ret;exact⟨y.out,b1'.out⟩
theorem pKept(V B g n:Nat)(M:DataW Unit)(v:Value)(D:WD)(hF:Y5 D)(hW:AllI D.words)(hG:AllI D.grey)(hgl:D.grey.length≤384)(hM:∀r,r∈D.muts→AllI r)(hcap:CapW v)(w:World)(hr:RdW w v D)(hB:BoxW w B v)(hv:U6 D w V B g n M) :
  Calls prog 115 #[.pointer (some ⟨V,0,none⟩)] w fun e w'=>IsB (zhb D D.muts.length∧zht D D.spans.length 0) e∧Below w.heap.size w w':=by
 have hr':=Z0 hr;have hB':=Z0 hB;have hF':=Z0 hF;have hW':=Z0 hW;have hG':=Z0 hG;have hM':=Z0 hM;have hcap':=Z0 hcap;have hv':=Z0 hv;have hC0:=Z0 (fun(w':World) (hb:Below w.heap.size w w')=>Y3 hb (Z6 hv.box 0 (.pointer (some ⟨B,0,none⟩)) rfl));have hC1:=Z0 (fun(w':World) (hb:Below w.heap.size w w')=>Y3 hb (Z6 hv.box 1 (.map (some g)) rfl));obtain⟨bw,ow,cW,hv3⟩:=zog hr (by have:=hF.words;have:=hF.geo.2.2.2.1;omega);have hv3:=Z0 hv3;obtain⟨vw,vd,vs,vm,vg,rfl,a1,a2,a3,a4,a5⟩:=hr;obtain⟨aM,cM,rfl,hml,hxm⟩:=a4;obtain⟨ag,cg,rfl,hgm,xg⟩:=a5;have hxm':=Z0 hxm;have xg':=Z0 xg;unfold maxLen at hml;have G5:=Z0 (fun(w':World) (hb:Below w.heap.size w w')=>Y3 hb (hB.cell 5 (.slice aM D.muts.length cM) rfl));have G8:=Z0 (fun(w':World) (hb:Below w.heap.size w w')=>Y3 hb (hB.cell 8 (.slice ag D.grey.length cg) rfl));have hmu:=hF.geo.2.2.2.2.2.2;have hmf:∀(fn:Fn) (first cap:Array Value) (w:World),(Instr.makeFunc fn first cap).run prog w=.ok (.func fn first cap) w:=fun _ _ _ _=>rfl;have bb:=Z0 (Y2 w (.cells #[.pointer (some ⟨V,0,none⟩)] 105));have bx:=Z0 (Y8 w (.cells #[.pointer (some ⟨V,0,none⟩)] 105));have hV0:=Z0 (fun(w':World) (hb:Below (w.alloc (.cells #[.pointer (some ⟨V,0,none⟩)] 105)).heap.size (w.alloc (.cells #[.pointer (some ⟨V,0,none⟩)] 105)) w')=>Y3 hb (Z6 bx.out 0 (.pointer (some ⟨V,0,none⟩)) rfl));have v0:=hV0.out _ (Below.refl _ _);have c0:=hC0.out _ bb.out;have g8:=G8.out _ bb.out;clear a1 a2 a3 hB hF hW hG hM hcap hv hxm xg hgm bx;go_enter func115,ntmps115;go_upto_region 1 with fail;generalize hWW:w.alloc (.cells #[.pointer (some ⟨V,0,none⟩)] 105)=W0 at *;clear hWW;have hz0:=Z0 bb.out.size;go_wp2_with fail;clear v0 c0 g8
 go_loopw [3,20] (fun u i wr=>∃(m:Nat) (fr:List Int),m≤D.grey.length∧i=.int .i64 m∧Hid (J5 D (D.grey.take m) fr)∧Hid (AllI fr)∧Hid (wr.ownsRow W0.heap.size 3 1 u fr.length (fr.map (Value.int .i64)))∧Hid (Below W0.heap.size W0 wr)) (fun _ i _=>D.grey.length-(Go.RowKit.intOf i).toNat)
 case atStart=>exact⟨0,[],Nat.zero_le _,rfl,Z0 (by simpa using J5.nil D),Z0 (fun x hx=>by simp at hx),Z0 (World.ownsRow_nil _ _ _ _),Z0 (Below.refl _ _)⟩
 case round =>
  obtain⟨m,fr,hm,rfl,hfr,hfi,hown,hb⟩:=hrel;have v0:=hV0.out _ hb.out;have hfl:=hfr.out.1;rw[List.length_take]at hfl;obtain⟨au,cu,hu⟩:=X0 hown.out;subst hu
  by_cases hlt:m<D.grey.length
  ·have hlt1:(m:Int)<(D.grey.length:Int):=by omega
   obtain⟨bg,og,rfl,x0⟩:=xg'.out m hlt;have x1:=Y3 (Z7 bb.out hb.out) x0;have hx64:=hG'.out (D.grey[m]?.getD 0) (by rw[List.getElem?_eq_getElem hlt];exact List.getElem_mem hlt);have ht1:=Z0 (L9 hlt);clear x0;generalize D.grey[m]?.getD 0=x at *;have hbw:=Z0 (Z7 bb.out hb.out);have hpt:=Z0 (zpe V B g n M _ D hF'.out x hx64 hcap'.out _ (hr'.out.below hbw.out) (hB'.out.below hbw.out) (hv'.out.below hbw.out));clear hx64
   go_wp2_with (first
    | (go_at_call 134;refine hpt.out.mono ?_;rintro e w5⟨Z,u4,hZ,rfl,h4,b5⟩;obtain⟨a4,c4,hu4⟩:=X0 h4;subst hu4;have own5:=Z0 (X8 hown.out b5);have src5:=Z0 (Rd.src (Rd.of_owns h4));have hb5:=Z0 (Z7 hb.out b5);have hZ':=Z0 hZ;have hZl:=zyi hF'.out hZ;clear h4 b5 hZ)
    | (at_builtin;refine N6 rfl (.tmp 24) (.tmp 27) 22 rfl W0.heap.size 3 (.int .i64 0) 1 8 underlying22 zer rfl (by decide) _ fr.length _ rfl own5.out a4 Z.length c4 (Z.map (Value.int .i64)) rfl src5.out (by unfold maxLen;omega) (by omega) hb5.out.size ?_;intro v6 w6 o6 g6))
   have hb6:=Z0 (zec hb5.out own5.out g6 hb5.out.size);have o6':=Z0 (show w6.ownsRow W0.heap.size 3 1 v6 (fr++Z).length ((fr++Z).map (Value.int .i64)) by simpa using o6);have hnx:=Z0 (show J5 D (D.grey.take (m+1)) (fr++Z) by rw[ht1.out];exact hfr.out.any hF'.out hZ'.out);have hni:=Z0 (show AllI (fr++Z)from fun y hy=>(List.mem_append.1 hy).elim (hfi.out y) (zyj hW'.out hZ'.out y));clear o6 g6 v0 x1;go_wp2_with fail
   go_roundw
   case rel=>exact⟨m+1,fr++Z,by omega,by go_num,hnx,hni,o6',hb6⟩
   case measure=>simp[Go.RowKit.intOf];omega
  obtain rfl:m=D.grey.length:=by omega
  have hfr2:=Z0 (show J5 D D.grey fr by simpa using hfr.out);have hfl2:fr.length≤1048576:=by omega
  have hbw:=Z0 (Z7 bb.out hb.out);have hsp:=Z0 (zsu V B g n M _ D hF'.out hW'.out hcap'.out au cu fr hfi.out hfl2 w.heap.size _ (hr'.out.below hbw.out) (hB'.out.below hbw.out) (hv'.out.below hbw.out) (Rd.of_owns hown.out) v0);clear hfr hlt hm hfl;go_wp2_with fail;refine hsp.out.mono ?_;rintro e w3⟨g',S,hS,rfl,hMM,hg',b3⟩;obtain⟨M2,hM2,hO2⟩:=hMM.out;have hM2':=Z0 hM2;have hKS:=Z0 (show ∀a,(a∈S∨U8 D a)↔(zfa D a∨U8 D a)from fun a=>by rw[hS.out.2 a,zfa.of_led hfr2.out.2.1 a]);have hb3:=Z0 (Z7 hb.out b3);have b4:=Z0 (Y2 w3 (.cells #[.map (some g')] 155));have bx4:=Z0 (Y8 w3 (.cells #[.map (some g')] 155));have hO4:=Z0 (hO2.below b4.out);have hb4:=Z0 (Z7 hb3.out b4.out);have v4:=hV0.out _ hb4.out;have c4:=hC0.out _ (Z7 bb.out hb4.out);have g54:=G5.out _ (Z7 bb.out hb4.out);clear hM2 hO2 hMM hS b3 hsp v0 hown hb hbw;go_upto_region 9 with fail;generalize hB1:w3.heap.size=B1 at *;generalize hWW:w3.alloc (.cells #[.map (some g')] 155)=W3 at *;have hB1c:=Z0 (fun(w':World) (hb:Below W3.heap.size W3 w')=>Y3 hb (Z6 bx4.out 0 (.map (some g')) rfl));clear hWW hB1 b4 bx4;have hkc:=Z0 (fun(x:Int) (w':World) (hx:I64 x) (hb:Below W3.heap.size W3 w')=>kept_any B1 w.heap.size V B g n g' S.length M M2 S _ D hF'.out hM2'.out x hx w' (hr'.out.below (Z7 bb.out (Z7 hb4.out hb))) (hB'.out.below (Z7 bb.out (Z7 hb4.out hb))) (hv'.out.below (Z7 bb.out (Z7 hb4.out hb))) (hO4.out.below hb) (hB1c.out _ hb) (hV0.out _ (Z7 hb4.out hb)));have hall:=Z0 (show ∀L,zio (fun a=>a∈S∨U8 D a) L↔zjf D L from fun L=>⟨fun h a ha=>(h a ha).imp id (hKS.out a).1,fun h a ha=>(h a ha).imp id (hKS.out a).2⟩);have hbW:=Z0 (show ∀w',Below W3.heap.size W3 w'→Below w.heap.size w w' from fun w' hb=>Z7 bb.out (Z7 hb4.out hb));have hbV:=Z0 (show ∀w',Below W3.heap.size W3 w'→Below W0.heap.size W0 w' from fun w' hb=>Z7 hb4.out hb);go_wp2_with fail;clear v4 c4 g54
  go_loopw [43] (fun i wr=>∃m:Nat,m≤D.muts.length∧i=.int .i64 m∧Hid (zhb D m)∧Hid (Below W3.heap.size W3 wr)) (fun i _=>D.muts.length-(Go.RowKit.intOf i).toNat)
  case atStart=>exact⟨0,Nat.zero_le _,rfl,Z0 (fun q r h=>absurd h (by omega)),Z0 (Below.refl _ _)⟩
  case round =>
   obtain⟨m,hm,rfl,hok,hb⟩:=hrel;have v0:=hV0.out _ (hbV.out _ hb.out);have c0:=hC0.out _ (hbW.out _ hb.out);have g5:=G5.out _ (hbW.out _ hb.out)
   by_cases hlt:m<D.muts.length
   ·have hlt1:(m:Int)<(D.muts.length:Int):=by omega
    obtain⟨r,hmr⟩:∃r,D.muts[m]?=some r:=⟨_,List.getElem?_eq_getElem hlt⟩;obtain⟨bM,oM,vr,rfl,xm0,hrd⟩:=hxm'.out m r hmr;obtain⟨ar,cr,rfl,hrl,xr⟩:=id hrd;have xm:=Y3 (hbW.out _ hb.out) xm0;have hseen:=Z0 (znu B _ D (m:Int) _ (hr'.out.below (hbW.out _ hb.out)) (hB'.out.below (hbW.out _ hb.out)));have hz:=Z0 (zna B1 w.heap.size (fun a=>a∈S∨U8 D a) _ r (hM'.out r (List.mem_of_getElem? hmr)) _ (hrd.below (hbW.out _ hb.out)) (fun x w' hx hb2=>hkc.out x w' hx (Z7 hb.out hb2)));have hyes:=Z0 (show(M5 D m→zjf D r)→zhb D (m+1)from fun h q r2 hq hr2 hs=>if e:q=m then by subst e;rw[hmr]at hr2;cases hr2;exact h hs else hok.out q r2 (by omega) hr2 hs);have hnot:=Z0 (show M5 D m→¬zjf D r→¬(zhb D D.muts.length∧zht D D.spans.length 0)from fun hs h h2=>h (h2.1 m r hlt hmr hs));clear xm0 hrd xr hmr hrl;go_wp2_with fail;refine hseen.out.mono ?_;rintro e w2⟨hq,rfl⟩;replace hq:=hq.elim;clear hseen
    rcases hq with⟨hq,rfl⟩|⟨hq,rfl⟩
    case inr =>
     have hn:=Z0 (hyes.out fun h=>absurd h hq);clear hq;go_wp2_with fail
     go_roundw
     case rel=>exact⟨m+1,by omega,by go_num,hn,hb⟩
     case measure=>simp[Go.RowKit.intOf];omega
    have hs:=Z0 hq;clear hq;go_wp2_with fail;refine hz.out.mono ?_;rintro e w4⟨hq,b5⟩;replace hq:=hq.elim;have hb5:=Z0 (Z7 hb.out b5);clear b5 hz v0 c0 g5 xm
    rcases hq with⟨hq,rfl⟩|⟨hq,rfl⟩
    ·have hn:=Z0 (hyes.out fun _=>(hall.out r).1 hq)
     clear hq;go_wp2_with fail
     go_roundw
     case rel=>exact⟨m+1,by omega,by go_num,hn,hb5⟩
     case measure=>simp[Go.RowKit.intOf];omega
    ·have y:=Z0 (IsB.no (hnot.out hs.out fun h=>hq ((hall.out r).2 h)))
     clear hq;go_wp2_with fail;go_ret;exact⟨y.out,hbW.out _ hb5.out⟩
   obtain rfl:m=D.muts.length:=by omega
   have hroots:=Z0 hok.out;have c1:=hC1.out _ (hbW.out _ hb.out);have hOw:=Z0 ((hv'.out.below (hbW.out _ hb.out)).own);clear hok;go_wp2_with (at_range;refine wpList_range_own _ rfl _ 134 rfl 3 150 zja underlying134 M9 g n M rfl hOw.out ?_;intro w0 hrg0 hg0 hs0);have hb0:=Z0 (hb.out.grown hg0 hb.out.size (fun q hq=>by cases hq));have hrs:=Z0 (show W3.heap.size≤wr.heap.size from hb.out.size);have hrg:=Z0 hrg0;clear c0 c1 g5 v0 hg0 hs0 hrg0 hb hOw;generalize wr.heap.size=R at *
   go_frame
   go_loopw [10] (fun _ wj=>∃left cnt,Hid (wj.ranges prog 3 M9 g R n M left cnt)∧Hid (Came D M left fun a k j s=>U4 D k j→zjf D (ptrW D s j))∧Hid (Below W3.heap.size W3 wj)) (fun _ wj=>wj.rangeLeft g R)
   case atStart=>exact⟨_,_,hrg,Z0 (Came.start _ _ _),hb0⟩
   case round =>
    clear hrg hb0;obtain⟨left,cnt,hrg,hcame,hb⟩:=hrel;go_wp2_with (at_next;refine zoq _ rfl _ rfl g _ n M left cnt rfl hrg.out ?_ ?_)
    ·intro hc0 hl0
     have y:=Z0 (IsB.yes (P:=zhb D D.muts.length∧zht D D.spans.length 0) ⟨hroots.out,hcame.out.done hl0 hv'.out.is⟩);clear hc0 hl0;go_wp2_with fail;go_ret;exact⟨y.out,hbW.out _ hb.out⟩
    ·intro x c d w1 cnt1 hx64 hlx hat hrg1 hlt1 hg1 hs1 hen
     obtain⟨k,j,hah,ho⟩:=(hv'.out.is.has x).1 (Maps.has_true_of_atKey hat);obtain⟨rfl,rfl⟩:=zqa ((hat (dat 0 0)).symm.trans (hv'.out.is.is x k j (dat 0 0) hah ho));obtain⟨s,hks,hin,p0,p1⟩:=L6 hF'.out ho;have hrgO:=Z0 hrg.out;have hb1:=Z0 (hb.out.grown hg1 hb.out.size (fun q hq=>by cases hq;exact hrs.out));obtain⟨dm,hdm⟩:=E0 (U4 D k j);obtain⟨z,hz⟩:=E0 (zjf D (ptrW D s j));have hdmc:=Z0 (fun(w':World) (hb:Below w.heap.size w w')=>(zgi B _ D k j s hks (zex.mk16 hF'.out hks hin.j) w' (hr'.out.below hb) (hB'.out.below hb)).mono fun e w'' ⟨h1,h2⟩=>(⟨h1.at_ dm hdm,h2⟩:e=Ending.returned (.bool dm)∧Below w'.heap.size w' w''));have hpw:=Z0 (fun(w':World) (hb:Below w.heap.size w w')=>ziw bw ow cW B _ D k j s hks hin p0 p1 hcap'.out hv3.out w' (hr'.out.below hb) (hB'.out.below hb));have hprd:=Z0 (fun(w':World) (hb:Below w.heap.size w w')=>zyh (k:=k) hin p0 p1 hv3.out (hr'.out.below hb));have hzc:=Z0 (fun(w':World) (hb:Below W3.heap.size W3 w')=>(zna B1 w.heap.size (fun a=>a∈S∨U8 D a) _ (ptrW D s j) (zmo hW'.out s j) w' (hprd.out w' (hbW.out _ hb)) (fun x w'' hx hb2=>hkc.out x w'' hx (Z7 hb hb2))).mono fun e w'' ⟨h1,h2⟩=>(⟨h1.at_ z (hz.trans (hall.out _).symm),h2⟩:e=Ending.returned (.bool z)∧Below w'.heap.size w' w''));have hstep:=Z0 (show(dm=false∨z=true)→Came D M (fun z=>left z && !z.sameKey (.int .i64 x)) (fun a k j s=>U4 D k j→zjf D (ptrW D s j))from fun h=>hcame.out.step hF'.out ho hks (fun hd=>h.elim (fun h=>by have:=hdm.2 hd;rw[h]at this;cases this) hz.1))
     have hnot:=Z0 (show dm=true→z=false→¬(zhb D D.muts.length∧zht D D.spans.length 0)from fun h1 h2 h=>by
      have:=hz.2 (h.2 x k j s hah ho hks (hdm.1 h1));rw[h2]at this
      cases this)
     have bbp:=Z0 (Y2 w1 (.cells #[.int .i64 k,.int .i64 j] 150));have bxp:=Z0 (Y8 w1 (.cells #[.int .i64 k,.int .i64 j] 150));have hbX:=Z0 (Z7 hb1.out bbp.out);have hrgW:=Z0 (hrg1.alloc (.cells #[.int .i64 k,.int .i64 j] 150))
     have hmeas:∀(w':World),(∃l,w'.ranges prog 3 M9 g R n M l cnt1)→w'.rangeLeft g R<wr.rangeLeft g R:=by
      rintro w'⟨l,h⟩;have e1:=h.left_eq;have e2:=hrgO.out.left_eq;omega
     have hmeas:=Z0 hmeas;clear hat hrg1 hlt1 hg1 hs1 hlx ho hah hks hin p0 p1 hdm hz hrg hcame hb hrgO;go_upto_region 18 with fail;clear hen;have c0:=hC0.out _ (hbW.out _ hbX.out);have v0:=hV0.out _ (hbV.out _ hbX.out);have q0:=Z6 bxp.out 0 (.int .i64 k) rfl;have q1:=Z6 bxp.out 1 (.int .i64 j) rfl;clear bxp;generalize w1.alloc (.cells #[.int .i64 k,.int .i64 j] 150)=W1 at *;have C0:=Ext.cell c0;have V0:=Ext.cell v0;have Q0:=Ext.cell q0;have Q1:=Ext.cell q1;clear c0 q0 q1 v0;generalize (ptrW D s j).length=np at *
     cases dm
     case false =>
      refine Y6 (Below.refl _ _) (by kernel_rfl) (by kernel_rfl) ?_
      repeat (go_big_quiet_step ((go_at_call 137;exact Ext.call (hdmc.out _ (hbW.out _ (Z7 hbX.out (Ext.below _)))))))
      refine wpQuiet_nil ?_;intro _ hw';obtain⟨x9,hw''⟩:=hw';subst hw'';have hrg4:=Z0 (hrgW.out.kept (M8 x9.below) (by simp) (by simp));have hb4x:=Z0 (Z7 hbX.out x9.below);have hn:=Z0 (hstep.out (.inl rfl));go_wp2_with fail
      go_roundw
      case rel=>exact⟨_,_,hrg4,hn,hb4x⟩
      case measure=>exact hmeas.out _ ⟨_,hrg4.out⟩
     case true =>
      refine Y6 (Below.refl _ _) (by kernel_rfl) (by kernel_rfl) ?_
      repeat (go_big_quiet_step ((first|(go_at_call 137;exact Ext.call (hdmc.out _ (hbW.out _ (Z7 hbX.out (Ext.below _)))))|(go_at_call 128;exact Ext.call (hpw.out _ (hbW.out _ (Z7 hbX.out (Ext.below _)))))|(go_at_call 125;exact Ext.call (hzc.out _ (Z7 hbX.out (Ext.below _)))))))
      refine wpQuiet_nil ?_;intro _ hw';obtain⟨x9,hw''⟩:=hw';subst hw'';have hrg6:=Z0 (hrgW.out.kept (M8 x9.below) (by simp) (by simp));have hb6:=Z0 (Z7 hbX.out x9.below)
      cases z
      ·have y:=Z0 (IsB.no (hnot.out rfl rfl))
       go_wp2_with fail;go_ret;exact⟨y.out,hbW.out _ hb6.out⟩
      ·have hn:=Z0 (hstep.out (.inr rfl))
       go_wp2_with fail
       go_roundw
       case rel=>exact⟨_,_,hrg6,hn,hb6⟩
       case measure=>exact hmeas.out _ ⟨_,hrg6.out⟩
def zyl:Nat→Int|0=>0|1=>1|2=>0|3=>3|4=>0|5=>0|6=>0|7=>4|_=>1
def zym:Nat→Int|0=>4|1=>2|2=>0|3=>4|4=>4|5=>3|6=>0|7=>4|_=>3
def zmi(D:WD):Nat→Prop
 | 0=>zny D
 | 1=>U2 D D.grey
 | 2=>D.grey=[]
 | 3=>D.grey=[]
 | 4=>(D.phase=1→0≤D.next∧D.next≤(D.muts.length:Int))∧(D.phase≠1→D.next=0)
 | 5=>¬∃s,s∈D.spans∧(s.swept=true)
 | 6=>¬∃s,s∈D.spans∧(s.mark≠0)
 | 7=>¬∃s,s∈D.spans∧(s.swept=true∧s.mark≠0)
 | _=>zhb D D.muts.length∧zht D D.spans.length 0
def zkd(D:WD)(i:Nat):Prop:=∀q,q<i→zyl q≤D.phase→D.phase≤zym q→zmi D q
theorem zkd.step{D:WD}{i:Nat}(h:zkd D i)(h1:zyl i≤D.phase→D.phase≤zym i→zmi D i):zkd D (i+1):=fun q hq=>if e:q=i then by subst e;exact h1 else h q (by omega)
theorem znn{D:WD}(h:zkd D 4)(h0:0≤D.phase)(h4:D.phase≤4):zoa D:=by
 by_cases e:D.phase=1∨D.phase=2
 ·exact⟨fun _=>e,h 1 (by omega) (by show(1:Int)≤_;omega) (by show _≤(2:Int);omega)⟩
 ·have hz:D.grey=[]:=by
   by_cases e0:D.phase=0
   ·exact h 2 (by omega) (by show(0:Int)≤_;omega) (by show _≤(0:Int);omega)
   ·exact h 3 (by omega) (by show(3:Int)≤_;omega) (by show _≤(4:Int);omega)
  exact⟨fun hn=>absurd hz hn,by rw[hz];exact U2.nil D⟩
theorem zvx{D:WD}(hF:Y5 D)(h:zkd D 8)(hp:0≤D.phase∧D.phase≤4):D.grey.length≤384:=by
 have hg:=(znn (fun q hq=>h q (by omega)) hp.1 hp.2).2;exact zib (lo:=D.base) hg.1 fun a ha=>zhn hF (hg.obj a ha)
theorem ztd{D:WD}(hF:Y5 D)(h:zkd D 9):M1 D:=by
 have h0:=hF.ph0;have h4:=hF.ph1;have hn:=h 4 (by omega) (show(0:Int)≤_ by omega) (show _≤(4:Int) by omega);refine⟨hF,⟨znn (fun q hq=>h q (by omega)) h0 h4,?_,fun s hs=>⟨fun hsw=>?_,fun hm=>⟨fun e=>?_,?_⟩⟩⟩,h 0 (by omega) (show(0:Int)≤_ by omega) (show _≤(4:Int) by omega),fun e0 e4=>h 8 (by omega) (show(1:Int)≤_ by omega) (show _≤(3:Int) by omega)⟩
 ·by_cases e:D.phase=1
  ·exact⟨(hn.1 e).1,(hn.1 e).2,fun _=>e⟩
  ·have:=hn.2 e
   exact⟨by omega,by omega,fun h=>by omega⟩
 ·apply Classical.byContradiction
  intro e;exact h 5 (by omega) (show(0:Int)≤_ by omega) (show _≤(3:Int) by omega) ⟨s,hs,hsw⟩
 ·exact h 6 (by omega) (show(0:Int)≤_ by omega) (show _≤(0:Int) by omega) ⟨s,hs,hm⟩
 ·cases hsw:s.swept
  ·rfl
  ·exfalso
   by_cases e:D.phase=4
   ·exact h 7 (by omega) (show(4:Int)≤_ by omega) (show _≤(4:Int) by omega) ⟨s,hs,hsw,hm⟩
   ·exact h 5 (by omega) (show(0:Int)≤_ by omega) (show _≤(3:Int) by omega) ⟨s,hs,hsw⟩
theorem C9{D:WD}(h:M1 D){q:Nat}(hl:zyl q≤D.phase)(hh:D.phase≤zym q):zmi D q:=by
 obtain⟨hF,⟨⟨g1,g2⟩,⟨n1,n2,n3⟩,hs⟩,hS,hK⟩:=h
 match q with
 | 0=>exact hS
 | 1=>exact g2
 | 2=>exact Classical.byContradiction fun h=>by have h1:D.phase≤0:=hh;have:=g1 h;omega
 | 3=>exact Classical.byContradiction fun h=>by have h1:3≤D.phase:=hl;have:=g1 h;omega
 | 4=>exact⟨fun _=>⟨n1,n2⟩,fun h=>by
   by_cases e:0<D.next
   ·exact absurd (n3 e) h
   ·omega⟩
 | 5=>exact fun⟨s,hm,hsw⟩=>by have h1:D.phase≤3:=hh;have:=(hs s hm).1 hsw;omega
 | 6=>exact fun⟨s,hm,hmk⟩=>by have h1:D.phase≤0:=hh;have h2:0≤D.phase:=hl;have:=((hs s hm).2 hmk).1;omega
 | 7=>exact fun⟨s,hm,hsw,hmk⟩=>by have:=((hs s hm).2 hmk).2;rw[hsw]at this;cases this
 | q+8=>exact hK (by have h1:1≤D.phase:=hl;omega) (by have h1:D.phase≤3:=hh;omega)
theorem zyk(w:World):Calls prog 72 #[] w fun e w'=>∃P,e=.returned (.slice (some ⟨P,0,none⟩) 9 9)∧w'.heap[P]?=some (.cells #[.int .i64 0,.int .i64 4,.func (.func 108) #[] #[],.int .i64 1,.int .i64 2,.func (.func 109) #[] #[],.int .i64 0,.int .i64 0,.func (.func 110) #[] #[],.int .i64 3,.int .i64 4,.func (.func 110) #[] #[],.int .i64 0,.int .i64 4,.func (.func 111) #[] #[],.int .i64 0,.int .i64 3,.func (.func 112) #[] #[],.int .i64 0,.int .i64 0,.func (.func 113) #[] #[],.int .i64 4,.int .i64 4,.func (.func 114) #[] #[],.int .i64 1,.int .i64 3,.func (.func 115) #[] #[]] 111 (0,0))∧Below w.heap.size w w':=by
 have bx:=Y8 w (.cells #[.int .i64 0,.int .i64 4,.func (.func 108) #[] #[],.int .i64 1,.int .i64 2,.func (.func 109) #[] #[],.int .i64 0,.int .i64 0,.func (.func 110) #[] #[],.int .i64 3,.int .i64 4,.func (.func 110) #[] #[],.int .i64 0,.int .i64 4,.func (.func 111) #[] #[],.int .i64 0,.int .i64 3,.func (.func 112) #[] #[],.int .i64 0,.int .i64 0,.func (.func 113) #[] #[],.int .i64 4,.int .i64 4,.func (.func 114) #[] #[],.int .i64 1,.int .i64 3,.func (.func 115) #[] #[]] 111);have bb:=Z0 (Y2 w (.cells #[.int .i64 0,.int .i64 4,.func (.func 108) #[] #[],.int .i64 1,.int .i64 2,.func (.func 109) #[] #[],.int .i64 0,.int .i64 0,.func (.func 110) #[] #[],.int .i64 3,.int .i64 4,.func (.func 110) #[] #[],.int .i64 0,.int .i64 4,.func (.func 111) #[] #[],.int .i64 0,.int .i64 3,.func (.func 112) #[] #[],.int .i64 0,.int .i64 0,.func (.func 113) #[] #[],.int .i64 4,.int .i64 4,.func (.func 114) #[] #[],.int .i64 1,.int .i64 3,.func (.func 115) #[] #[]] 111));have bx':=Z0 bx;clear bx;go_enter func72,ntmps72;go_wp2_with fail;go_ret;exact⟨_,rfl,bx'.out,bb.out⟩
theorem zrl(v:Value)(D:WD)(hfit:FitD D)(hcap:CapW v)(w:World)(hr:RdW w v D) :
  Calls prog 36 #[v] w fun e w'=>IsB (M1 D) e∧Below w.heap.size w w':=by
 have hfit:=Z0 hfit;have hcap':=Z0 hcap;clear hcap;obtain⟨vw,vd,vs,vm,vg,rfl,a1,a2,a3,a4,a5⟩:=hr;have bx:=Y8 w (.cells (Z5 D vw vd vs vm vg) 37);have bw:=Y2 w (.cells (Z5 D vw vd vs vm vg) 37);have hW:=Z0 (show RdW (w.alloc (.cells (Z5 D vw vd vs vm vg) 37)) (.agg #[.int .i64 D.base,.int .i64 D.pages,vw,vd,vs,vm,.int .i64 D.phase,.int .i64 D.next,vg]) D from⟨vw,vd,vs,vm,vg,rfl,a1.below bw,a2.below bw,a3.below bw,a4.below bw,a5.below bw⟩);have hBx:=Z0 (show BoxW (w.alloc (.cells (Z5 D vw vd vs vm vg) 37)) w.heap.size (.agg #[.int .i64 D.base,.int .i64 D.pages,vw,vd,vs,vm,.int .i64 D.phase,.int .i64 D.next,vg])from⟨_,rfl,bx⟩);have bw':=Z0 bw;clear a1 a2 a3 a4 a5 bx bw;go_enter func36,ntmps36;go_wp2_with fail
 go_step3
 go_wp2_with fail;refine(ztn _ D hfit.out.marks _ hW.out).mono ?_;rintro e w1⟨hq,b1⟩;have hq:=hq.elim;obtain⟨x1,rfl⟩:=Ext.of b1;clear b1;generalize w.alloc (.cells (Z5 D vw vd vs vm vg) 37)=W at *
 rcases hq with⟨hF,rfl⟩|⟨hF,rfl⟩
 case inr =>
  have y:=Z0 (IsB.no (zqx hF));clear hF;go_wp2_with fail
  try rw[Exit.noGoto_ret]
  go_ret;exact⟨y.out,Z7 bw'.out x1.below⟩
 have hF':=Z0 hF;have hcall:=Z0 (zvb w.heap.size _ D hF x1.val (hW.out.below x1.below) (hBx.out.below x1.below));clear hF;go_wp2_with fail;refine hcall.out.mono ?_;rintro e w2⟨V,g,n,M,rfl,hv,b2⟩;have hv':=Z0 hv;have b2':=Z0 (Z7 x1.below b2);clear hv b2 hcall;go_wp2_with fail
 go_step3
 go_wp2_with fail;refine(zyk w2).mono ?_;rintro e w3⟨P,rfl,hPx,b3⟩;have hr3:=Z0 ((hW.out.below b2'.out).below b3);have hB3:=Z0 ((hBx.out.below b2'.out).below b3);have hv3:=Z0 (hv'.out.below b3);have bb3:=Z0 (Z7 bw'.out (Z7 b2'.out b3));have g6:=Z0 (fun(w':World) (hb:Below w3.heap.size w3 w')=>(hB3.out.below hb).cell 6 (.int .i64 D.phase) rfl);have hPc:=Z0 (fun(w':World) (hb:Below w3.heap.size w3 w')=>Z8 hb hPx);have h0:=hF'.out.ph0;have h4:=hF'.out.ph1;clear hPx b3;go_wp2_with fail
 go_loopw [4,13] (fun q i wr=>∃k:Nat,k≤9∧q=.bool true∧i=.int .i64 k∧Hid (zkd D k)∧Hid (Below w3.heap.size w3 wr)) (fun _ i _=>9-(Go.RowKit.intOf i).toNat)
 case atStart=>exact⟨0,Nat.zero_le _,rfl,rfl,Z0 (fun q h=>absurd h (by omega)),Z0 (Below.refl _ _)⟩
 case round =>
  obtain⟨k,hk,rfl,rfl,hok,hb⟩:=hrel
  by_cases hlt:k<9
  ·have z6:=g6.out _ hb.out
   have hP:=hPc.out _ hb.out
   rcases(show k=0∨k=1∨k=2∨k=3∨k=4∨k=5∨k=6∨k=7∨k=8 by omega)with rfl|rfl|rfl|rfl|rfl|rfl|rfl|rfl|rfl
   ·have y0:=Z6 hP 0 (.int .i64 0) rfl
    have y1:=Z6 hP 1 (.int .i64 4) rfl;have y2:=Z6 hP 2 (.func (.func 108) #[] #[]) rfl;have bp:=Z0 (Y2 wr (.cells #[.int .i64 0,.int .i64 4,.func (.func 108) #[] #[]] 111));have hbp:=Z0 (Z7 hb.out bp.out);have z6:=g6.out _ hbp.out
    cases hin:inB D.phase 0 4
    ·have hn:=Z0 (hok.out.step fun h1 h2=>by have:=U7.2 (⟨h1,h2⟩:(0:Int)≤D.phase∧D.phase≤4);rw[hin]at this;cases this)
     have hin':=Z0 hin;clear hin hP;go_wp2_with (go_at_call 73;refine(T7 hin'.out _).mono ?_;rintro e w'⟨rfl,rfl⟩)
     go_roundw
     case rel=>exact⟨0+1,by omega,rfl,by go_num,hn,hbp⟩
     case measure=>simp[Go.RowKit.intOf]
    ·have hc:=Z0 (pLed V w.heap.size g n M _ D hF'.out hfit.out.words hfit.out.muts hcap'.out _ (hr3.out.below hbp.out) (hB3.out.below hbp.out) (hv3.out.below hbp.out))
     have hnot:=Z0 (show ¬zmi D 0→¬M1 D from fun h h2=>h (C9 h2 (U7.1 hin).1 (U7.1 hin).2));have hin':=Z0 hin;clear hin hP;go_wp2_with (go_at_call 73;refine(T7 hin'.out _).mono ?_;rintro e w'⟨rfl,rfl⟩);refine hc.out.mono ?_;rintro e w5⟨hq,b5⟩;replace hq:=hq.elim;have hb5:=Z0 (Z7 hbp.out b5);clear b5 hc y0 y1 y2 z6
     rcases hq with⟨hq,rfl⟩|⟨hq,rfl⟩
     ·have hn:=Z0 (hok.out.step fun _ _=>hq)
      clear hq;go_wp2_with fail
      go_roundw
      case rel=>exact⟨0+1,by omega,rfl,by go_num,hn,hb5⟩
      case measure=>simp[Go.RowKit.intOf]
     ·have y:=Z0 (IsB.no (hnot.out hq))
      clear hq;go_wp2_with fail
      try rw[Exit.noGoto_ret]
      go_ret;exact⟨y.out,Z7 bb3.out hb5.out⟩
   ·have y0:=Z6 hP 3 (.int .i64 1) rfl
    have y1:=Z6 hP 4 (.int .i64 2) rfl;have y2:=Z6 hP 5 (.func (.func 109) #[] #[]) rfl;have bp:=Z0 (Y2 wr (.cells #[.int .i64 1,.int .i64 2,.func (.func 109) #[] #[]] 111));have hbp:=Z0 (Z7 hb.out bp.out);have z6:=g6.out _ hbp.out
    cases hin:inB D.phase 1 2
    ·have hn:=Z0 (hok.out.step fun h1 h2=>by have:=U7.2 (⟨h1,h2⟩:(1:Int)≤D.phase∧D.phase≤2);rw[hin]at this;cases this)
     have hin':=Z0 hin;clear hin hP;go_wp2_with (go_at_call 73;refine(T7 hin'.out _).mono ?_;rintro e w'⟨rfl,rfl⟩)
     go_roundw
     case rel=>exact⟨1+1,by omega,rfl,by go_num,hn,hbp⟩
     case measure=>simp[Go.RowKit.intOf]
    ·have hc:=Z0 (pGrey V w.heap.size g n M _ D hF'.out hfit.out.grey _ (hr3.out.below hbp.out) (hB3.out.below hbp.out) (hv3.out.below hbp.out))
     have hnot:=Z0 (show ¬zmi D 1→¬M1 D from fun h h2=>h (C9 h2 (U7.1 hin).1 (U7.1 hin).2));have hin':=Z0 hin;clear hin hP;go_wp2_with (go_at_call 73;refine(T7 hin'.out _).mono ?_;rintro e w'⟨rfl,rfl⟩);refine hc.out.mono ?_;rintro e w5⟨hq,b5⟩;replace hq:=hq.elim;have hb5:=Z0 (Z7 hbp.out b5);clear b5 hc y0 y1 y2 z6
     rcases hq with⟨hq,rfl⟩|⟨hq,rfl⟩
     ·have hn:=Z0 (hok.out.step fun _ _=>hq)
      clear hq;go_wp2_with fail
      go_roundw
      case rel=>exact⟨1+1,by omega,rfl,by go_num,hn,hb5⟩
      case measure=>simp[Go.RowKit.intOf]
     ·have y:=Z0 (IsB.no (hnot.out hq))
      clear hq;go_wp2_with fail
      try rw[Exit.noGoto_ret]
      go_ret;exact⟨y.out,Z7 bb3.out hb5.out⟩
   ·have y0:=Z6 hP 6 (.int .i64 0) rfl
    have y1:=Z6 hP 7 (.int .i64 0) rfl;have y2:=Z6 hP 8 (.func (.func 110) #[] #[]) rfl;have bp:=Z0 (Y2 wr (.cells #[.int .i64 0,.int .i64 0,.func (.func 110) #[] #[]] 111));have hbp:=Z0 (Z7 hb.out bp.out);have z6:=g6.out _ hbp.out
    cases hin:inB D.phase 0 0
    ·have hn:=Z0 (hok.out.step fun h1 h2=>by have:=U7.2 (⟨h1,h2⟩:(0:Int)≤D.phase∧D.phase≤0);rw[hin]at this;cases this)
     have hin':=Z0 hin;clear hin hP;go_wp2_with (go_at_call 73;refine(T7 hin'.out _).mono ?_;rintro e w'⟨rfl,rfl⟩)
     go_roundw
     case rel=>exact⟨2+1,by omega,rfl,by go_num,hn,hbp⟩
     case measure=>simp[Go.RowKit.intOf]
    ·have hc:=Z0 (zop V w.heap.size g n M _ D _ (hr3.out.below hbp.out) (hB3.out.below hbp.out) (hv3.out.below hbp.out))
     have hnot:=Z0 (show ¬zmi D 2→¬M1 D from fun h h2=>h (C9 h2 (U7.1 hin).1 (U7.1 hin).2));have hin':=Z0 hin;clear hin hP;go_wp2_with (go_at_call 73;refine(T7 hin'.out _).mono ?_;rintro e w'⟨rfl,rfl⟩);refine hc.out.mono ?_;rintro e w5⟨hq,b5⟩;replace hq:=hq.elim;have hb5:=Z0 (Z7 hbp.out b5);clear b5 hc y0 y1 y2 z6
     rcases hq with⟨hq,rfl⟩|⟨hq,rfl⟩
     ·have hn:=Z0 (hok.out.step fun _ _=>hq)
      clear hq;go_wp2_with fail
      go_roundw
      case rel=>exact⟨2+1,by omega,rfl,by go_num,hn,hb5⟩
      case measure=>simp[Go.RowKit.intOf]
     ·have y:=Z0 (IsB.no (hnot.out hq))
      clear hq;go_wp2_with fail
      try rw[Exit.noGoto_ret]
      go_ret;exact⟨y.out,Z7 bb3.out hb5.out⟩
   ·have y0:=Z6 hP 9 (.int .i64 3) rfl
    have y1:=Z6 hP 10 (.int .i64 4) rfl;have y2:=Z6 hP 11 (.func (.func 110) #[] #[]) rfl;have bp:=Z0 (Y2 wr (.cells #[.int .i64 3,.int .i64 4,.func (.func 110) #[] #[]] 111));have hbp:=Z0 (Z7 hb.out bp.out);have z6:=g6.out _ hbp.out
    cases hin:inB D.phase 3 4
    ·have hn:=Z0 (hok.out.step fun h1 h2=>by have:=U7.2 (⟨h1,h2⟩:(3:Int)≤D.phase∧D.phase≤4);rw[hin]at this;cases this)
     have hin':=Z0 hin;clear hin hP;go_wp2_with (go_at_call 73;refine(T7 hin'.out _).mono ?_;rintro e w'⟨rfl,rfl⟩)
     go_roundw
     case rel=>exact⟨3+1,by omega,rfl,by go_num,hn,hbp⟩
     case measure=>simp[Go.RowKit.intOf]
    ·have hc:=Z0 (zop V w.heap.size g n M _ D _ (hr3.out.below hbp.out) (hB3.out.below hbp.out) (hv3.out.below hbp.out))
     have hnot:=Z0 (show ¬zmi D 3→¬M1 D from fun h h2=>h (C9 h2 (U7.1 hin).1 (U7.1 hin).2));have hin':=Z0 hin;clear hin hP;go_wp2_with (go_at_call 73;refine(T7 hin'.out _).mono ?_;rintro e w'⟨rfl,rfl⟩);refine hc.out.mono ?_;rintro e w5⟨hq,b5⟩;replace hq:=hq.elim;have hb5:=Z0 (Z7 hbp.out b5);clear b5 hc y0 y1 y2 z6
     rcases hq with⟨hq,rfl⟩|⟨hq,rfl⟩
     ·have hn:=Z0 (hok.out.step fun _ _=>hq)
      clear hq;go_wp2_with fail
      go_roundw
      case rel=>exact⟨3+1,by omega,rfl,by go_num,hn,hb5⟩
      case measure=>simp[Go.RowKit.intOf]
     ·have y:=Z0 (IsB.no (hnot.out hq))
      clear hq;go_wp2_with fail
      try rw[Exit.noGoto_ret]
      go_ret;exact⟨y.out,Z7 bb3.out hb5.out⟩
   ·have y0:=Z6 hP 12 (.int .i64 0) rfl
    have y1:=Z6 hP 13 (.int .i64 4) rfl;have y2:=Z6 hP 14 (.func (.func 111) #[] #[]) rfl;have bp:=Z0 (Y2 wr (.cells #[.int .i64 0,.int .i64 4,.func (.func 111) #[] #[]] 111));have hbp:=Z0 (Z7 hb.out bp.out);have z6:=g6.out _ hbp.out
    cases hin:inB D.phase 0 4
    ·have hn:=Z0 (hok.out.step fun h1 h2=>by have:=U7.2 (⟨h1,h2⟩:(0:Int)≤D.phase∧D.phase≤4);rw[hin]at this;cases this)
     have hin':=Z0 hin;clear hin hP;go_wp2_with (go_at_call 73;refine(T7 hin'.out _).mono ?_;rintro e w'⟨rfl,rfl⟩)
     go_roundw
     case rel=>exact⟨4+1,by omega,rfl,by go_num,hn,hbp⟩
     case measure=>simp[Go.RowKit.intOf]
    ·have hc:=Z0 (pNext V w.heap.size g n M _ D _ (hr3.out.below hbp.out) (hB3.out.below hbp.out) (hv3.out.below hbp.out))
     have hnot:=Z0 (show ¬zmi D 4→¬M1 D from fun h h2=>h (C9 h2 (U7.1 hin).1 (U7.1 hin).2));have hin':=Z0 hin;clear hin hP;go_wp2_with (go_at_call 73;refine(T7 hin'.out _).mono ?_;rintro e w'⟨rfl,rfl⟩);refine hc.out.mono ?_;rintro e w5⟨hq,b5⟩;replace hq:=hq.elim;have hb5:=Z0 (Z7 hbp.out b5);clear b5 hc y0 y1 y2 z6
     rcases hq with⟨hq,rfl⟩|⟨hq,rfl⟩
     ·have hn:=Z0 (hok.out.step fun _ _=>hq)
      clear hq;go_wp2_with fail
      go_roundw
      case rel=>exact⟨4+1,by omega,rfl,by go_num,hn,hb5⟩
      case measure=>simp[Go.RowKit.intOf]
     ·have y:=Z0 (IsB.no (hnot.out hq))
      clear hq;go_wp2_with fail
      try rw[Exit.noGoto_ret]
      go_ret;exact⟨y.out,Z7 bb3.out hb5.out⟩
   ·have y0:=Z6 hP 15 (.int .i64 0) rfl
    have y1:=Z6 hP 16 (.int .i64 3) rfl;have y2:=Z6 hP 17 (.func (.func 112) #[] #[]) rfl;have bp:=Z0 (Y2 wr (.cells #[.int .i64 0,.int .i64 3,.func (.func 112) #[] #[]] 111));have hbp:=Z0 (Z7 hb.out bp.out);have z6:=g6.out _ hbp.out
    cases hin:inB D.phase 0 3
    ·have hn:=Z0 (hok.out.step fun h1 h2=>by have:=U7.2 (⟨h1,h2⟩:(0:Int)≤D.phase∧D.phase≤3);rw[hin]at this;cases this)
     have hin':=Z0 hin;clear hin hP;go_wp2_with (go_at_call 73;refine(T7 hin'.out _).mono ?_;rintro e w'⟨rfl,rfl⟩)
     go_roundw
     case rel=>exact⟨5+1,by omega,rfl,by go_num,hn,hbp⟩
     case measure=>simp[Go.RowKit.intOf]
    ·have hc:=Z0 (pSwept V w.heap.size g n M _ D _ (hr3.out.below hbp.out) (hB3.out.below hbp.out) (hv3.out.below hbp.out))
     have hnot:=Z0 (show ¬zmi D 5→¬M1 D from fun h h2=>h (C9 h2 (U7.1 hin).1 (U7.1 hin).2));have hin':=Z0 hin;clear hin hP;go_wp2_with (go_at_call 73;refine(T7 hin'.out _).mono ?_;rintro e w'⟨rfl,rfl⟩);refine hc.out.mono ?_;rintro e w5⟨hq,b5⟩;replace hq:=hq.elim;have hb5:=Z0 (Z7 hbp.out b5);clear b5 hc y0 y1 y2 z6
     rcases hq with⟨hq,rfl⟩|⟨hq,rfl⟩
     ·have hn:=Z0 (hok.out.step fun _ _=>hq)
      clear hq;go_wp2_with fail
      go_roundw
      case rel=>exact⟨5+1,by omega,rfl,by go_num,hn,hb5⟩
      case measure=>simp[Go.RowKit.intOf]
     ·have y:=Z0 (IsB.no (hnot.out hq))
      clear hq;go_wp2_with fail
      try rw[Exit.noGoto_ret]
      go_ret;exact⟨y.out,Z7 bb3.out hb5.out⟩
   ·have y0:=Z6 hP 18 (.int .i64 0) rfl
    have y1:=Z6 hP 19 (.int .i64 0) rfl;have y2:=Z6 hP 20 (.func (.func 113) #[] #[]) rfl;have bp:=Z0 (Y2 wr (.cells #[.int .i64 0,.int .i64 0,.func (.func 113) #[] #[]] 111));have hbp:=Z0 (Z7 hb.out bp.out);have z6:=g6.out _ hbp.out
    cases hin:inB D.phase 0 0
    ·have hn:=Z0 (hok.out.step fun h1 h2=>by have:=U7.2 (⟨h1,h2⟩:(0:Int)≤D.phase∧D.phase≤0);rw[hin]at this;cases this)
     have hin':=Z0 hin;clear hin hP;go_wp2_with (go_at_call 73;refine(T7 hin'.out _).mono ?_;rintro e w'⟨rfl,rfl⟩)
     go_roundw
     case rel=>exact⟨6+1,by omega,rfl,by go_num,hn,hbp⟩
     case measure=>simp[Go.RowKit.intOf]
    ·have hc:=Z0 (pMarked V w.heap.size g n M _ D _ (hr3.out.below hbp.out) (hB3.out.below hbp.out) (hv3.out.below hbp.out))
     have hnot:=Z0 (show ¬zmi D 6→¬M1 D from fun h h2=>h (C9 h2 (U7.1 hin).1 (U7.1 hin).2));have hin':=Z0 hin;clear hin hP;go_wp2_with (go_at_call 73;refine(T7 hin'.out _).mono ?_;rintro e w'⟨rfl,rfl⟩);refine hc.out.mono ?_;rintro e w5⟨hq,b5⟩;replace hq:=hq.elim;have hb5:=Z0 (Z7 hbp.out b5);clear b5 hc y0 y1 y2 z6
     rcases hq with⟨hq,rfl⟩|⟨hq,rfl⟩
     ·have hn:=Z0 (hok.out.step fun _ _=>hq)
      clear hq;go_wp2_with fail
      go_roundw
      case rel=>exact⟨6+1,by omega,rfl,by go_num,hn,hb5⟩
      case measure=>simp[Go.RowKit.intOf]
     ·have y:=Z0 (IsB.no (hnot.out hq))
      clear hq;go_wp2_with fail
      try rw[Exit.noGoto_ret]
      go_ret;exact⟨y.out,Z7 bb3.out hb5.out⟩
   ·have y0:=Z6 hP 21 (.int .i64 4) rfl
    have y1:=Z6 hP 22 (.int .i64 4) rfl;have y2:=Z6 hP 23 (.func (.func 114) #[] #[]) rfl;have bp:=Z0 (Y2 wr (.cells #[.int .i64 4,.int .i64 4,.func (.func 114) #[] #[]] 111));have hbp:=Z0 (Z7 hb.out bp.out);have z6:=g6.out _ hbp.out
    cases hin:inB D.phase 4 4
    ·have hn:=Z0 (hok.out.step fun h1 h2=>by have:=U7.2 (⟨h1,h2⟩:(4:Int)≤D.phase∧D.phase≤4);rw[hin]at this;cases this)
     have hin':=Z0 hin;clear hin hP;go_wp2_with (go_at_call 73;refine(T7 hin'.out _).mono ?_;rintro e w'⟨rfl,rfl⟩)
     go_roundw
     case rel=>exact⟨7+1,by omega,rfl,by go_num,hn,hbp⟩
     case measure=>simp[Go.RowKit.intOf]
    ·have hc:=Z0 (pBoth V w.heap.size g n M _ D _ (hr3.out.below hbp.out) (hB3.out.below hbp.out) (hv3.out.below hbp.out))
     have hnot:=Z0 (show ¬zmi D 7→¬M1 D from fun h h2=>h (C9 h2 (U7.1 hin).1 (U7.1 hin).2));have hin':=Z0 hin;clear hin hP;go_wp2_with (go_at_call 73;refine(T7 hin'.out _).mono ?_;rintro e w'⟨rfl,rfl⟩);refine hc.out.mono ?_;rintro e w5⟨hq,b5⟩;replace hq:=hq.elim;have hb5:=Z0 (Z7 hbp.out b5);clear b5 hc y0 y1 y2 z6
     rcases hq with⟨hq,rfl⟩|⟨hq,rfl⟩
     ·have hn:=Z0 (hok.out.step fun _ _=>hq)
      clear hq;go_wp2_with fail
      go_roundw
      case rel=>exact⟨7+1,by omega,rfl,by go_num,hn,hb5⟩
      case measure=>simp[Go.RowKit.intOf]
     ·have y:=Z0 (IsB.no (hnot.out hq))
      clear hq;go_wp2_with fail
      try rw[Exit.noGoto_ret]
      go_ret;exact⟨y.out,Z7 bb3.out hb5.out⟩
   ·have y0:=Z6 hP 24 (.int .i64 1) rfl
    have y1:=Z6 hP 25 (.int .i64 3) rfl;have y2:=Z6 hP 26 (.func (.func 115) #[] #[]) rfl;have bp:=Z0 (Y2 wr (.cells #[.int .i64 1,.int .i64 3,.func (.func 115) #[] #[]] 111));have hbp:=Z0 (Z7 hb.out bp.out);have z6:=g6.out _ hbp.out
    cases hin:inB D.phase 1 3
    ·have hn:=Z0 (hok.out.step fun h1 h2=>by have:=U7.2 (⟨h1,h2⟩:(1:Int)≤D.phase∧D.phase≤3);rw[hin]at this;cases this)
     have hin':=Z0 hin;clear hin hP;go_wp2_with (go_at_call 73;refine(T7 hin'.out _).mono ?_;rintro e w'⟨rfl,rfl⟩)
     go_roundw
     case rel=>exact⟨8+1,by omega,rfl,by go_num,hn,hbp⟩
     case measure=>simp[Go.RowKit.intOf]
    ·have hc:=Z0 (pKept V w.heap.size g n M _ D hF'.out hfit.out.words hfit.out.grey (zvx hF'.out hok.out (by have:=U7.1 hin;omega)) hfit.out.muts hcap'.out _ (hr3.out.below hbp.out) (hB3.out.below hbp.out) (hv3.out.below hbp.out))
     have hnot:=Z0 (show ¬zmi D 8→¬M1 D from fun h h2=>h (C9 h2 (U7.1 hin).1 (U7.1 hin).2));have hin':=Z0 hin;clear hin hP;go_wp2_with (go_at_call 73;refine(T7 hin'.out _).mono ?_;rintro e w'⟨rfl,rfl⟩);refine hc.out.mono ?_;rintro e w5⟨hq,b5⟩;replace hq:=hq.elim;have hb5:=Z0 (Z7 hbp.out b5);clear b5 hc y0 y1 y2 z6
     rcases hq with⟨hq,rfl⟩|⟨hq,rfl⟩
     ·have hn:=Z0 (hok.out.step fun _ _=>hq)
      clear hq;go_wp2_with fail
      go_roundw
      case rel=>exact⟨8+1,by omega,rfl,by go_num,hn,hb5⟩
      case measure=>simp[Go.RowKit.intOf]
     ·have y:=Z0 (IsB.no (hnot.out hq))
      clear hq;go_wp2_with fail
      try rw[Exit.noGoto_ret]
      go_ret;exact⟨y.out,Z7 bb3.out hb5.out⟩
  obtain rfl:k=9:=by omega
  have y:=Z0 (IsB.yes (ztd hF'.out hok.out));go_wp2_with fail
  try rw[Exit.noGoto_ret]
  go_ret;exact⟨y.out,Z7 bb3.out hb.out⟩
end Go.Proofs.YtjjamgeoompbkaaGreat
