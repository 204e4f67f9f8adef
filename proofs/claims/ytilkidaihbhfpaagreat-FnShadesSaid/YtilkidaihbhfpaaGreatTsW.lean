import Derived.Test.YtilkidaihbhfpaaGreatRows
import Derived.WalkKit
import Derived.ProofKit
import Derived.BigQuiet
import Derived.Lib.Hide
import Derived.Deep.QuietTactic
import Derived.WalkSmall
import Derived.OwnWalk
import Derived.Laws.OwnMore
import Derived.LoopTactic
import Derived.Below
import Derived.Deep.Quiet
import Derived.RangeFuncNested
import Derived.RangeFuncBound
import Derived.RangeFuncCalls
import Derived.RangeFuncBox
import Derived.RangeFuncLeaves
import Derived.Shelf.Abstract
import Derived.Shelf.RegionOpen
import Derived.OwnWalkIn
import Derived.TacticsInMore
import Derived.LoopNIn
import Derived.LoopIn
import Derived.Maps.AppendAt
import Derived.StillTailTactics

set_option maxRecDepth 100000
set_option maxHeartbeats 16000000
namespace Go.Proofs.YtilkidaihbhfpaaGreat
open Go.RowKit
set_option linter.unusedVariables false
theorem zaa {p : Prop} (h : p) : Hid p := Lib.hid h
theorem zab {A : Type} (l : List A) (i : Nat) (a : A) : l.toArray.setIfInBounds i a = (l.set i a).toArray := List.setIfInBounds_toArray ..
theorem zac {A : Type} {a b : A} {l : List A} : (b :: l).set 0 a = a :: l := rfl
theorem zad {A : Type} {a b : A} {l : List A} {n : Nat} : (b :: l).set (n + 1) a = b :: l.set n a := rfl
structure Y3 where
 page:Int
 cls:Int
 mark:Int
 swept:Bool
 lens:List Int
 ptrs:List Int
structure WD where
 base:Int
 pages:Int
 words:List Int
 dirty:List Bool
 spans:List Y3
 muts:List (List Int)
 phase:Int
 next:Int
 grey:List Int
def I64 (x:Int):Prop:=-9223372036854775808≤x∧x≤9223372036854775807
def AllI (L:List Int):Prop:=∀ x,x ∈ L→I64 x
structure FitS (s:Y3):Prop where
 page:I64 s.page
 cls:I64 s.cls
 mark:I64 s.mark
 lens:AllI s.lens
 ptrs:AllI s.ptrs
structure FitD (D:WD):Prop where
 base:I64 D.base
 pages:I64 D.pages
 words:AllI D.words
 spans:∀ s,s ∈ D.spans→FitS s
 muts:∀ r,r ∈ D.muts→AllI r
 phase:I64 D.phase
 next:I64 D.next
 grey:AllI D.grey
def zti (D:WD):Prop:=∀ (k:Nat) (s:Y3),D.spans[k]?=some s→I64 s.mark
theorem FitD.marks {D:WD} (h:FitD D):zti D:=fun k s hs=>(h.spans s (List.mem_of_getElem? hs)).mark
theorem i64_wf {n:Int} (h:(Lit.int .i64 n).wf=true):I64 n:=by
 simp only [Lit.wf,IntKind.min,IntKind.max,IntKind.signed,IntKind.bits,Bool.and_eq_true,decide_eq_true_eq,if_true] at h
 unfold I64
 omega
theorem zpo {k:IntKind} {a b:Int} (h:a=b):Ending.returned (.int k a)=.returned (.int k b):=by rw [h]
theorem zis {w:World} {a:Addr} {v:Value} (h:w.cell? a=some v):a.block<w.heap.size:=by
 apply Decidable.byContradiction
 intro hn
 have:w.heap[a.block]?=none:=Array.getElem?_eq_none (by omega)
 simp [World.cell?,this] at h
theorem Z7 {w w':World} (hb:Below w.heap.size w w') {a:Addr} {v:Value} (h:w.cell? a=some v):w'.cell? a=some v :=
 (hb.cell (zis h)).trans h
theorem Z4 {a b c:World} (h:Below a.heap.size a b) (k:Below b.heap.size b c):Below a.heap.size a c:=h.trans (k.mono h.size)
def Rd (w:World) (v:Value) (L:List Int):Prop :=
 ∃ a cap,v=.slice a L.length cap∧L.length≤maxLen∧∀ j,j<L.length→∃ b off,a=some ⟨b,off,none⟩∧w.cell? ⟨b,off+j,none⟩=some (.int .i64 (L[j]?.getD 0))
def RdB (w:World) (v:Value) (L:List Bool):Prop :=
 ∃ a cap,v=.slice a L.length cap∧L.length≤maxLen∧∀ j,j<L.length→∃ b off,a=some ⟨b,off,none⟩∧w.cell? ⟨b,off+j,none⟩=some (.bool (L[j]?.getD false))
def zez (w:World) (b o:Nat) (s:Y3):Prop :=
 ∃ vl vp,w.cell? ⟨b,o,none⟩=some (.int .i64 s.page)∧w.cell? ⟨b,o+1,none⟩=some (.int .i64 s.cls)∧w.cell? ⟨b,o+2,none⟩=some (.int .i64 s.mark) ∧
  w.cell? ⟨b,o+3,none⟩=some (.bool s.swept)∧w.cell? ⟨b,o+4,none⟩=some vl∧w.cell? ⟨b,o+5,none⟩=some vp∧Rd w vl s.lens∧Rd w vp s.ptrs
def RdS (w:World) (v:Value) (L:List Y3):Prop :=
 ∃ a cap,v=.slice a L.length cap∧L.length≤maxLen∧∀ j s,L[j]?=some s→∃ b off,a=some ⟨b,off,none⟩∧zez w b (off+j*6) s
def RdM (w:World) (v:Value) (L:List (List Int)):Prop :=
 ∃ a cap,v=.slice a L.length cap∧L.length≤maxLen∧∀ j r,L[j]?=some r→∃ b off vr,a=some ⟨b,off,none⟩∧w.cell? ⟨b,off+j,none⟩=some vr∧Rd w vr r
def RdW (w:World) (v:Value) (D:WD):Prop :=
 ∃ vw vd vs vm vg,v=.agg #[.int .i64 D.base,.int .i64 D.pages,vw,vd,vs,vm,.int .i64 D.phase,.int .i64 D.next,vg] ∧
  Rd w vw D.words∧RdB w vd D.dirty∧RdS w vs D.spans∧RdM w vm D.muts∧Rd w vg D.grey
section
variable {w w':World} {v:Value}
theorem Rd.below {L:List Int} (h:Rd w v L) (hb:Below w.heap.size w w'):Rd w' v L:=by
 obtain ⟨a,cap,rfl,hl,hc⟩:=h
 refine ⟨a,cap,rfl,hl,fun j hj=>?_⟩
 obtain ⟨b,off,rfl,hx⟩:=hc j hj
 exact ⟨b,off,rfl,Z7 hb hx⟩
theorem RdB.below {L:List Bool} (h:RdB w v L) (hb:Below w.heap.size w w'):RdB w' v L:=by
 obtain ⟨a,cap,rfl,hl,hc⟩:=h
 refine ⟨a,cap,rfl,hl,fun j hj=>?_⟩
 obtain ⟨b,off,rfl,hx⟩:=hc j hj
 exact ⟨b,off,rfl,Z7 hb hx⟩
theorem zez.below {b o:Nat} {s:Y3} (h:zez w b o s) (hb:Below w.heap.size w w'):zez w' b o s:=by
 obtain ⟨vl,vp,h0,h1,h2,h3,h4,h5,hl,hp⟩:=h
 exact ⟨vl,vp,Z7 hb h0,Z7 hb h1,Z7 hb h2,Z7 hb h3,Z7 hb h4,Z7 hb h5,hl.below hb,hp.below hb⟩
theorem RdS.below {L:List Y3} (h:RdS w v L) (hb:Below w.heap.size w w'):RdS w' v L:=by
 obtain ⟨a,cap,rfl,hl,hc⟩:=h
 refine ⟨a,cap,rfl,hl,fun j s hj=>?_⟩
 obtain ⟨b,off,rfl,hx⟩:=hc j s hj
 exact ⟨b,off,rfl,hx.below hb⟩
theorem RdM.below {L:List (List Int)} (h:RdM w v L) (hb:Below w.heap.size w w'):RdM w' v L:=by
 obtain ⟨a,cap,rfl,hl,hc⟩:=h
 refine ⟨a,cap,rfl,hl,fun j r hj=>?_⟩
 obtain ⟨b,off,vr,rfl,hx,hr⟩:=hc j r hj
 exact ⟨b,off,vr,rfl,Z7 hb hx,hr.below hb⟩
theorem RdW.below {D:WD} (h:RdW w v D) (hb:Below w.heap.size w w'):RdW w' v D:=by
 obtain ⟨vw,vd,vs,vm,vg,rfl,h1,h2,h3,h4,h5⟩:=h
 exact ⟨vw,vd,vs,vm,vg,rfl,h1.below hb,h2.below hb,h3.below hb,h4.below hb,h5.below hb⟩
end
def Y3.bulk (s:Y3):Nat:=s.lens.length+s.ptrs.length
def zmo (l:List Y3):Nat:=(l.map Y3.bulk).sum
def zlc (l:List (List Int)):Nat:=(l.map List.length).sum
def WD.bulk (D:WD):Nat:=D.words.length+D.dirty.length+(D.spans.length+zmo D.spans)+(D.muts.length+zlc D.muts)+D.grey.length
structure Ext (W:World) where
 val:World
 below:Below W.heap.size W val
def Ext.self (W:World):Ext W:=⟨W,Below.refl _ _⟩
instance Ext.inh (W:World):Nonempty (Ext W):=⟨Ext.self W⟩
theorem Ext.cell {W:World} {a:Addr} {v:Value} (h:W.cell? a=some v):∀ x:Ext W,x.val.cell? a=some v:=fun x=>Z7 x.below h
theorem Ext.then {W:World} (x:Ext W) {w':World} (h:Below x.val.heap.size x.val w'):∃ y:Ext W,w'=y.val:=⟨⟨w',Z4 x.below h⟩,rfl⟩
theorem Ext.of {W w':World} (h:Below W.heap.size W w'):∃ y:Ext W,w'=y.val:=⟨⟨w',h⟩,rfl⟩
theorem Ext.size {W:World} (x:Ext W):W.heap.size≤x.val.heap.size:=x.below.size
theorem Ext.call {P:Program} {W:World} {f:FuncId} {args:Array Value} {x:Ext W} {v:Value} (h:Calls P f args x.val fun e w'=>e=.returned v∧Below x.val.heap.size x.val w') :
  Calls P f args x.val fun e w''=>e=.returned v∧∃ y:Ext W,w''=y.val :=
 h.mono fun _ _ ⟨a,b⟩=>⟨a,x.then b⟩
theorem Ext.same {P:Program} {W:World} {f:FuncId} {args:Array Value} {x:Ext W} {v:Value} (h:Calls P f args x.val fun e w'=>e=.returned v∧x.val=w') :
  Calls P f args x.val fun e w''=>e=.returned v∧∃ y:Ext W,w''=y.val :=
 h.mono fun _ _ ⟨a,b⟩=>⟨a,x,b.symm⟩
theorem Y5 {P:Program} {id:Nat} {Q:Exit→Act→World→Prop} {a:Act} {W w:World} {l:List Oper} (hb:Below W.heap.size W w) (hm:P.follows .mixedOrders=true) (hB:Region.lexB .any l.toArray=true)
  (h:wpQuiet P l.toArray (fun w'=>∃ x:Ext W,w'=x.val) (fun a'=>∀ w',(∃ x:Ext W,w'=x.val)→Q .normal a' w') l a):(Code.region id l.toArray true).wp P Q a w :=
 wp_region_quiet (C:=fun w'=>∃ x:Ext W,w'=x.val) hm hB ⟨⟨{ w with drawn:=w.drawn+1 },⟨hb.os,hb.tape,hb.output,hb.size,hb.block⟩⟩,rfl⟩ (by simpa using h)
def IsB (P:Prop) (e:Ending):Prop:=∃ r:Bool,e=.returned (.bool r)∧(r=true↔P)
theorem IsB.yes {P:Prop} (h:P):IsB P (.returned (.bool true)):=⟨true,rfl,by simp [h]⟩
theorem IsB.no {P:Prop} (h:¬ P):IsB P (.returned (.bool false)):=⟨false,rfl,by simp [h]⟩
theorem IsB.elim {P:Prop} {e:Ending} (h:IsB P e):(P∧e=.returned (.bool true))∨(¬ P∧e=.returned (.bool false)):=by
 obtain ⟨r,rfl,hr⟩:=h
 cases r
 ·exact .inr ⟨by simpa using hr,rfl⟩
 ·exact .inl ⟨by simpa using hr,rfl⟩
theorem Calls.isTrue {P:Prop} {R:World→Prop} {f:FuncId} {args:Array Value} {w:World} (h:Calls Tryz.prog f args w fun e w'=>IsB P e∧R w') (hp:P):Calls Tryz.prog f args w fun e w'=>e=.returned (.bool true)∧R w' :=
 h.mono fun e w' ⟨hb,hr⟩=>⟨by rcases hb.elim with ⟨_,rfl⟩ | ⟨hn,_⟩;rfl;exact absurd hp hn,hr⟩
theorem Calls.isFalse {P:Prop} {R:World→Prop} {f:FuncId} {args:Array Value} {w:World} (h:Calls Tryz.prog f args w fun e w'=>IsB P e∧R w') (hp:¬ P):Calls Tryz.prog f args w fun e w'=>e=.returned (.bool false)∧R w' :=
 h.mono fun e w' ⟨hb,hr⟩=>⟨by rcases hb.elim with ⟨hn,_⟩ | ⟨_,rfl⟩;exact absurd hn hp;rfl,hr⟩
theorem IsB.of_yes {P:Prop} {e:Ending} (h:IsB P e) (hp:P):e=.returned (.bool true):=by
 obtain ⟨r,rfl,hr⟩:=h
 rw [hr.2 hp]
theorem IsB.of_no {P:Prop} {e:Ending} (h:IsB P e) (hp:¬ P):e=.returned (.bool false):=by
 obtain ⟨r,rfl,hr⟩:=h
 cases r
 ·rfl
 ·exact absurd (hr.1 rfl) hp
theorem IsB.at_ {P:Prop} (d:Bool) (hd:d=true↔P) {e:Ending} (h:IsB P e):e=.returned (.bool d):=by
 cases d
 ·exact h.of_no fun hp=>by have:=hd.2 hp;cases this
 ·exact h.of_yes (hd.1 rfl)
theorem M0 {L:List Int} {k:Nat} (h:k<L.length):L.take (k+1)=L.take k ++ [L[k]?.getD 0]:=by
 rw [List.take_succ_eq_append_getElem h];simp [List.getElem?_eq_getElem h]
def zig (P:Int→Prop) (L:List Int):Prop:=∀ a,a ∈ L→a=0∨P a
theorem zjb {P:Int→Prop} {L:List Int}:(∃ a,a ∈ L∧a≠0∧¬ P a)↔¬ zig P L:=by
 constructor
 ·rintro ⟨a,ha,h0,hn⟩ h
  exact (h a ha).elim h0 hn
 ·intro h
  apply Classical.byContradiction
  intro hn
  exact h fun a ha=>Classical.byContradiction fun h2=>hn ⟨a,ha,fun e=>h2 (.inl e),fun e=>h2 (.inr e)⟩
def sz (c:Int):Int:=if c=0 then 2 else if c=1 then 4 else if c=2 then 8 else if c=3 then 16 else 0
def sl' (c:Int):Int:=if c=0 then 16 else if c=1 then 8 else if c=2 then 4 else if c=3 then 2 else 0
def cl (n:Int):Int:=if n<1 then -1 else if n≤2 then 0 else if n≤4 then 1 else if n≤8 then 2 else if n≤16 then 3 else -1
theorem zqf (c:Int) (w:World):Calls Tryz.prog 166 #[.int .i64 c] w fun e w'=>e=.returned (.int .i64 (sz c))∧w=w':=by
 by_cases h0:c=0
 ·subst h0
  go_enter Tryz.func166,Tryz.ntmps166
  go_wp2
  go_ret
  exact ⟨rfl,rfl⟩
 by_cases h1:c=1
 ·subst h1
  go_enter Tryz.func166,Tryz.ntmps166
  go_wp2
  go_ret
  exact ⟨rfl,rfl⟩
 by_cases h2:c=2
 ·subst h2
  go_enter Tryz.func166,Tryz.ntmps166
  go_wp2
  go_ret
  exact ⟨rfl,rfl⟩
 by_cases h3:c=3
 ·subst h3
  go_enter Tryz.func166,Tryz.ntmps166
  go_wp2
  go_ret
  exact ⟨rfl,rfl⟩
 have e0:(c == 0)=false:=beq_eq_false_iff_ne.2 h0
 have e1:(c == 1)=false:=beq_eq_false_iff_ne.2 h1
 have e2:(c == 2)=false:=beq_eq_false_iff_ne.2 h2
 have e3:(c == 3)=false:=beq_eq_false_iff_ne.2 h3
 have hz:sz c=0:=by unfold sz;rw [if_neg h0,if_neg h1,if_neg h2,if_neg h3]
 rw [hz]
 clear hz
 go_enter Tryz.func166,Tryz.ntmps166
 go_wp2
 go_ret
 exact ⟨rfl,rfl⟩
theorem zjg (c:Int) (w:World):Calls Tryz.prog 148 #[.int .i64 c] w fun e w'=>e=.returned (.int .i64 (sz c))∧w=w':=by
 go_enter Tryz.func148,Tryz.ntmps148
 go_wp2_with (go_at_call 166;refine (zqf _ _).mono ?_;rintro e w' ⟨rfl,rfl⟩)
 go_ret
 exact ⟨rfl,rfl⟩
theorem part (c:Int):c=0∨c=1∨c=2∨c=3∨(c≠0∧c≠1∧c≠2∧c≠3):=by omega
theorem sz_no {c:Int} (h:c≠0∧c≠1∧c≠2∧c≠3):sz c=0:=by
 obtain ⟨h0,h1,h2,h3⟩:=h
 unfold sz;rw [if_neg h0,if_neg h1,if_neg h2,if_neg h3]
theorem slno {c:Int} (h:c≠0∧c≠1∧c≠2∧c≠3):sl' c=0:=by
 obtain ⟨h0,h1,h2,h3⟩:=h
 unfold sl';rw [if_neg h0,if_neg h1,if_neg h2,if_neg h3]
theorem zki {c v:Int} (h:sz c=v) (w:World):Calls Tryz.prog 166 #[.int .i64 c] w fun e w'=>e=.returned (.int .i64 v)∧w=w':=by
 rw [← h];exact zqf c w
theorem zsd (c:Int) (w:World):Calls Tryz.prog 165 #[.int .i64 c] w fun e w'=>e=.returned (.int .i64 (sl' c))∧w=w':=by
 rcases part c with rfl | rfl | rfl | rfl | h
 ·go_enter Tryz.func165,Tryz.ntmps165
  go_wp2_with (go_at_call 166;refine (zki (v:=2) rfl _).mono ?_;rintro e w' ⟨rfl,rfl⟩)
  go_ret
  exact ⟨rfl,rfl⟩
 ·go_enter Tryz.func165,Tryz.ntmps165
  go_wp2_with (go_at_call 166;refine (zki (v:=4) rfl _).mono ?_;rintro e w' ⟨rfl,rfl⟩)
  go_ret
  exact ⟨rfl,rfl⟩
 ·go_enter Tryz.func165,Tryz.ntmps165
  go_wp2_with (go_at_call 166;refine (zki (v:=8) rfl _).mono ?_;rintro e w' ⟨rfl,rfl⟩)
  go_ret
  exact ⟨rfl,rfl⟩
 ·go_enter Tryz.func165,Tryz.ntmps165
  go_wp2_with (go_at_call 166;refine (zki (v:=16) rfl _).mono ?_;rintro e w' ⟨rfl,rfl⟩)
  go_ret
  exact ⟨rfl,rfl⟩
 ·rw [slno h]
  have hs:=zaa (sz_no h)
  clear h
  go_enter Tryz.func165,Tryz.ntmps165
  go_wp2_with (go_at_call 166;refine (zki (v:=0) hs.out _).mono ?_;rintro e w' ⟨rfl,rfl⟩)
  go_ret
  exact ⟨rfl,rfl⟩
theorem zkp (c:Int) (w:World):Calls Tryz.prog 147 #[.int .i64 c] w fun e w'=>e=.returned (.int .i64 (sl' c))∧w=w':=by
 go_enter Tryz.func147,Tryz.ntmps147
 go_wp2_with (go_at_call 165;refine (zsd _ _).mono ?_;rintro e w' ⟨rfl,rfl⟩)
 go_ret
 exact ⟨rfl,rfl⟩
theorem U7 (c:Int) (w:World):Calls Tryz.prog 121 #[.int .i64 c] w fun e w'=>e=.returned (.int .i64 (sz c))∧w=w':=by
 rcases part c with rfl | rfl | rfl | rfl | h
 ·go_enter Tryz.func121,Tryz.ntmps121
  go_wp2
  go_ret
  exact ⟨rfl,rfl⟩
 ·go_enter Tryz.func121,Tryz.ntmps121
  go_wp2
  go_ret
  exact ⟨rfl,rfl⟩
 ·go_enter Tryz.func121,Tryz.ntmps121
  go_wp2
  go_ret
  exact ⟨rfl,rfl⟩
 ·go_enter Tryz.func121,Tryz.ntmps121
  go_wp2
  go_ret
  exact ⟨rfl,rfl⟩
 ·rw [sz_no h]
  rcases (show c<0∨4≤c by omega) with h' | h'
  ·clear h
   go_enter Tryz.func121,Tryz.ntmps121
   go_wp2
   go_ret
   exact ⟨rfl,rfl⟩
  ·have h2:¬ c<0:=by omega
   clear h
   go_enter Tryz.func121,Tryz.ntmps121
   go_wp2
   go_ret
   exact ⟨rfl,rfl⟩
theorem zfl {c v:Int} (h:sz c=v) (w:World):Calls Tryz.prog 121 #[.int .i64 c] w fun e w'=>e=.returned (.int .i64 v)∧w=w':=by
 rw [← h];exact U7 c w
theorem zgt (c:Int) (w:World):Calls Tryz.prog 120 #[.int .i64 c] w fun e w'=>e=.returned (.int .i64 (sl' c))∧w=w':=by
 rcases part c with rfl | rfl | rfl | rfl | h
 ·go_enter Tryz.func120,Tryz.ntmps120
  go_wp2_with (go_at_call 121;refine (zfl (v:=2) rfl _).mono ?_;rintro e w' ⟨rfl,rfl⟩)
  go_ret
  exact ⟨rfl,rfl⟩
 ·go_enter Tryz.func120,Tryz.ntmps120
  go_wp2_with (go_at_call 121;refine (zfl (v:=4) rfl _).mono ?_;rintro e w' ⟨rfl,rfl⟩)
  go_ret
  exact ⟨rfl,rfl⟩
 ·go_enter Tryz.func120,Tryz.ntmps120
  go_wp2_with (go_at_call 121;refine (zfl (v:=8) rfl _).mono ?_;rintro e w' ⟨rfl,rfl⟩)
  go_ret
  exact ⟨rfl,rfl⟩
 ·go_enter Tryz.func120,Tryz.ntmps120
  go_wp2_with (go_at_call 121;refine (zfl (v:=16) rfl _).mono ?_;rintro e w' ⟨rfl,rfl⟩)
  go_ret
  exact ⟨rfl,rfl⟩
 ·rw [slno h]
  rcases (show c<0∨4≤c by omega) with h' | h'
  ·clear h
   go_enter Tryz.func120,Tryz.ntmps120
   go_wp2
   go_ret
   exact ⟨rfl,rfl⟩
  ·have h2:¬ c<0:=by omega
   clear h
   go_enter Tryz.func120,Tryz.ntmps120
   go_wp2
   go_ret
   exact ⟨rfl,rfl⟩
def Lo (k:Nat) (n:Int):Prop:=k=0∨(k=1∧2<n)∨(k=2∧4<n)∨(k=3∧8<n)∨(k=4∧16<n)
theorem lo_next {k:Nat} {n:Int} (h:Lo k n) (hk:k≤3) (hs:sz k<n):Lo (k+1) n:=by
 rcases (show k=0∨k=1∨k=2∨k=3 by omega) with rfl | rfl | rfl | rfl <;> simp [sz] at hs <;> unfold Lo <;> omega
theorem lo_cl {k:Nat} {n:Int} (h:Lo k n) (h1:1≤n) (hk:k≤3) (hs:n≤sz k):(k:Int)=cl n:=by
 unfold Lo at h;unfold cl
 rcases (show k=0∨k=1∨k=2∨k=3 by omega) with rfl | rfl | rfl | rfl <;> simp [sz] at hs <;> simp at h <;> (repeat' split) <;> omega
theorem lo_end {n:Int} (h:Lo 4 n):(-1:Int)=cl n:=by
 unfold Lo at h;unfold cl;simp at h;(repeat' split) <;> omega
theorem zib (n:Int) (w:World):Calls Tryz.prog 168 #[.int .i64 n] w fun e w'=>e=.returned (.int .i64 (cl n))∧w=w':=by
 by_cases h1:n<1
 ·have hc:cl n=-1:=by unfold cl;rw [if_pos h1]
  rw [hc];clear hc
  have h0:¬ 0<n:=by omega
  clear h1
  go_enter Tryz.func168,Tryz.ntmps168
  go_wp2
  go_loop [3] (fun c=>c=.int .i64 0) (fun c=>0)
  case atStart=>rfl
  case round =>
   subst hrel
   go_wp2
   go_ret
   exact ⟨rfl,rfl⟩
 have g1:1≤n:=by omega
 have g0:0<n:=by omega
 clear h1
 go_enter Tryz.func168,Tryz.ntmps168
 go_wp2
 go_loop [3] (fun c=>∃ k:Nat,Lo k n∧k≤4∧c=.int .i64 k) (fun c=>4-(intOf c).toNat)
 case atStart=>exact ⟨0,.inl rfl,by omega,rfl⟩
 case round =>
  obtain ⟨k,hlo,h4,rfl⟩:=hrel
  by_cases hk:k≤3
  ·by_cases hs:sz k<n
   ·have hlo':=lo_next hlo hk hs
    clear hlo
    go_wp2_with (go_at_call 121;refine (U7 _ _).mono ?_;rintro e w' ⟨rfl,rfl⟩)
    go_round
    case rel=>exact ⟨k+1,hlo',by omega,by go_num⟩
    case measure=>simp [intOf];omega
   ·have hv:=zaa (lo_cl hlo g1 hk (by omega))
    clear hlo
    go_wp2_with (go_at_call 121;refine (U7 _ _).mono ?_;rintro e w' ⟨rfl,rfl⟩)
    go_ret
    exact ⟨zpo hv.out,rfl⟩
  ·obtain rfl:k=4:=by omega
   have hv:=zaa (lo_end hlo)
   clear hlo hk h4
   go_wp2
   go_ret
   exact ⟨zpo hv.out,rfl⟩
end Go.Proofs.YtilkidaihbhfpaaGreat
namespace Go.Proofs.YtilkidaihbhfpaaGreat
open Go.RowKit Go.Shelf
set_option linter.unusedVariables false
attribute [local go_sem] Oper.semAt_some
def cnt (f m:Int):Nat:=((f+m-1) / 8+1-f / 8).toNat
def upto (f:Int) (k:Nat):List Int:=(List.range k).map fun j:Nat=>f / 8+(j:Int)
theorem zkl (f:Int) (k:Nat):upto f (k+1)=upto f k ++ [f / 8+(k:Int)]:=by simp [upto,List.range_succ]
theorem P6 (f:Int) (k:Nat):(upto f k).length=k:=by simp [upto]
theorem cnt_pos {f m:Int} (hm:1≤m):1≤cnt f m:=by unfold cnt;omega
theorem zuf {f m:Int} (hm:1≤m) (hm':m≤32):cnt f m≤5:=by unfold cnt;omega
theorem zue {f m:Int} {k:Nat} (h:k<cnt f m):f / 8+(k:Int)≤(f+m-1) / 8:=by unfold cnt at h;omega
theorem zzf {f m:Int} {k:Nat} (h:k=cnt f m) (hm:1≤m):(f+m-1) / 8<f / 8+(k:Int):=by unfold cnt at h;omega
theorem cards_in (F:Fence) (n:Nat) (h31:F.fn 205) (hro:F.round=none) (f m:Int) (w:World) :
  CallsIn F n Tryz.prog 205 #[.int .i64 f,.int .i64 m] w fun e w'=>e=.returned (.func (.func 206) #[] #[.pointer (some ⟨w.heap.size,0,none⟩),.pointer (some ⟨w.heap.size+1,0,none⟩)])∧w'=(w.alloc (.cells #[.int .i64 f] 3)).alloc (.cells #[.int .i64 m] 3):=by
 refine callsIn_of_wp Tryz.func205 rfl h31 ?_ hro
 simp only [Tryz.ntmps205,List.size_toArray,List.length_cons,List.length_nil,Nat.reduceAdd,Nat.reduceSub,Array.replicate_succ,Array.replicate_zero,List.push_toArray,List.append_toArray,List.nil_append,List.cons_append]
 gi_wp2
 go_ret
 exact ⟨rfl,rfl⟩
theorem info3:(Tryz.prog.info? 3).map (fun i=>(i.zero,i.size,i.bytes))=some (some (.int .i64 0),1,8):=by kernel_rfl
end Go.Proofs.YtilkidaihbhfpaaGreat
namespace Go.Proofs.YtilkidaihbhfpaaGreat
open Go.RowKit
set_option linter.unusedVariables false
theorem E0 (w:World) (t:TypeId) (x:Value):∀ j u,[x][j]?=some u→(w.alloc (.cells #[x] t)).cell? ((⟨w.heap.size,0,none⟩:Addr).add j)=some u:=by
 intro j u hj
 match j,hj with
 | 0,hj=>simp at hj;subst hj;simp [Addr.add]
theorem F8 {B:Nat} {a w w':World} {size:Nat} {e:TypeId} {v:Value} {n:Nat} {xs:List Value} (h:Below B a w) (hr:w.ownsRow B e size v n xs) (hg:w.grownBy w' v.ownBlock) (hB:B≤w.heap.size):Below B a w' :=
 h.grown hg hB fun k hk=>(hr.lt k hk).1
theorem zim (f m:Int) (hf0:0≤f) (hf:f≤1000000) (hm1:1≤m) (hm:m≤32) (w:World) :
  Calls Tryz.prog 171 #[.int .i64 f,.int .i64 m] w fun e w'=>∃ v,e=.returned v∧w'.ownsRow w.heap.size 3 1 v (cnt f m) ((upto f (cnt f m)).map (Value.int .i64))∧Below w.heap.size w w':=by
 have hcnt:=zuf (f:=f) hm1 hm
 obtain ⟨i0,hi,hz0,hz1,hz2⟩:=info_parts info3
 go_enter Tryz.func171,Tryz.ntmps171
 go_wp2
 go_loopw [5,6] (fun v c wr=>∃ k:Nat,k≤cnt f m∧c=.int .i64 (f / 8+(k:Int))∧wr.ownsRow w.heap.size 3 1 v k ((upto f k).map (Value.int .i64))∧Below w.heap.size w wr) (fun v c _=>cnt f m-(intOf c-f / 8).toNat)
 case atStart=>exact ⟨0,Nat.zero_le _,by simp,World.ownsRow_nil _ _ _ _,Below.refl _ _⟩
 case round =>
  obtain ⟨k,hk,rfl,hown,hB⟩:=hrel
  by_cases hlt:k<cnt f m
  ·have hle:=zue hlt
   have hBs:=hB.size
   go_wp2_with (at_builtin;refine wpList_append_own _ rfl _ _ 23 rfl w.heap.size 3 i0 (.int .i64 0) 1 8 Tryz.underlying23 hi hz0 hz1 hz2 rfl (by decide) _ _ _ rfl (hown.alloc _) ⟨wr.heap.size,0,none⟩ 1 1 [.int .i64 (f / 8+(k:Int))] rfl rfl (E0 _ _ _) (by simp [Value.oneCell']) (by unfold maxLen;omega) (by omega) (by simp;omega) ?_;intro v' w1 hown' hgrow _)
   have hB':=F8 (hB.alloc hBs _) (hown.alloc _) hgrow (by simp;omega)
   have ho2:w1.ownsRow w.heap.size 3 1 v' (k+1) ((upto f (k+1)).map (Value.int .i64)):=by rw [zkl];simpa using hown'
   clear hown' hgrow hown hB hBs
   go_wp2
   go_roundw
   case rel=>exact ⟨k+1,by omega,by go_num,ho2,hB'⟩
   case measure=>simp [intOf];omega
  ·have hkk:k=cnt f m:=by omega
   have hle:=zzf hkk hm1
   have hown':=hown
   rw [hkk] at hown'
   clear hkk hown hlt
   go_wp2
   go_ret
   exact ⟨_,rfl,hown',hB⟩
def zgz (s:Y3) (vl vp:Value):Value:=.agg #[.int .i64 s.page,.int .i64 s.cls,.int .i64 s.mark,.bool s.swept,vl,vp]
theorem Z5 (w:World) (o:Obj):Below w.heap.size w (w.alloc o):=(Below.refl _ _).alloc (Nat.le_refl _) o
theorem Z6 {w w':World} (hb:Below w.heap.size w w') {g:Nat} {o:Obj} (h:w.heap[g]?=some o):w'.heap[g]?=some o :=
 (hb.block g (Array.getElem?_eq_some_iff.1 h).1).trans h
theorem Z0 {w:World} {B:Nat} {c:Array Value} {t:TypeId} (h:w.heap[B]?=some (.cells c t (0,0))) (j:Nat) (v:Value) (hv:c[j]?=some v):w.cell? ⟨B,j,none⟩=some v:=by
 simp [World.cell?,h,hv]
theorem Z3 {w:World} {B:Nat} {c:Array Value} {t:TypeId} (h:w.heap[B]?=some (.cells c t (0,0))) (j:Nat):w.frozen? ⟨B,j,none⟩=false:=by
 simp [World.frozen?,h]
theorem U5 {w:World} {b:Nat} {T:TypeId} {v0 v1 v2 v3 v4 v5 v6 v7 v8:Value} (h:w.heap[b]?=some (.cells #[v0,v1,v2,v3,v4,v5,v6,v7,v8] T (0,0))):w.cell? ⟨b,0,none⟩=some v0∧w.cell? ⟨b,1,none⟩=some v1∧w.cell? ⟨b,2,none⟩=some v2∧w.cell? ⟨b,3,none⟩=some v3∧w.cell? ⟨b,4,none⟩=some v4∧w.cell? ⟨b,5,none⟩=some v5∧w.cell? ⟨b,6,none⟩=some v6∧w.cell? ⟨b,7,none⟩=some v7∧w.cell? ⟨b,8,none⟩=some v8:=⟨Z0 h 0 _ rfl,Z0 h 1 _ rfl,Z0 h 2 _ rfl,Z0 h 3 _ rfl,Z0 h 4 _ rfl,Z0 h 5 _ rfl,Z0 h 6 _ rfl,Z0 h 7 _ rfl,Z0 h 8 _ rfl⟩
theorem zfv {w:World} {b:Nat} {T:TypeId} {v0 v1 v2 v3 v4 v5 v6 v7 v8:Value} (h:w.heap[b]?=some (.cells #[v0,v1,v2,v3,v4,v5,v6,v7,v8] T (0,0))):w.cell? ⟨b,0,none⟩=some v0∧w.frozen? ⟨b,0,none⟩=false∧w.cell? ⟨b,1,none⟩=some v1∧w.frozen? ⟨b,1,none⟩=false∧w.cell? ⟨b,2,none⟩=some v2∧w.frozen? ⟨b,2,none⟩=false∧w.cell? ⟨b,3,none⟩=some v3∧w.frozen? ⟨b,3,none⟩=false∧w.cell? ⟨b,4,none⟩=some v4∧w.frozen? ⟨b,4,none⟩=false∧w.cell? ⟨b,5,none⟩=some v5∧w.frozen? ⟨b,5,none⟩=false∧w.cell? ⟨b,6,none⟩=some v6∧w.frozen? ⟨b,6,none⟩=false∧w.cell? ⟨b,7,none⟩=some v7∧w.frozen? ⟨b,7,none⟩=false∧w.cell? ⟨b,8,none⟩=some v8∧w.frozen? ⟨b,8,none⟩=false:=⟨Z0 h 0 _ rfl,Z3 h 0,Z0 h 1 _ rfl,Z3 h 1,Z0 h 2 _ rfl,Z3 h 2,Z0 h 3 _ rfl,Z3 h 3,Z0 h 4 _ rfl,Z3 h 4,Z0 h 5 _ rfl,Z3 h 5,Z0 h 6 _ rfl,Z3 h 6,Z0 h 7 _ rfl,Z3 h 7,Z0 h 8 _ rfl,Z3 h 8⟩
theorem Y6 (w:World) (o:Obj):(w.alloc o).heap[w.heap.size]?=some o:=heap_alloc_new w o
theorem E9:(Tryz.prog.info? 3).map (fun i=>(i.zero,i.size,i.bytes))=some (some (.int .i64 0),1,8):=by kernel_rfl
theorem zjm:(Tryz.prog.info? 4).map (fun i=>(i.zero,i.size,i.bytes))=some (some (.bool false),1,1):=by kernel_rfl
theorem zfj:(Tryz.prog.info? 97).map (fun i=>(i.zero,i.size,i.bytes))=some (some (.agg #[.int .i64 0,.int .i64 0,.int .i64 0,.bool false,.slice none 0 0,.slice none 0 0]),6,80):=by kernel_rfl
theorem zpt:(Tryz.prog.info? 74).map (fun i=>(i.zero,i.size,i.bytes))=some (some (.agg #[.slice none 0 0]),1,24):=by kernel_rfl
theorem N3 {w w':World} (h:Below w.heap.size w w'):w.grownBy w' none:=⟨h.os,h.tape,h.output,h.size,fun k hk _=>h.block k hk⟩
theorem Y9 {w w':World} {base size n:Nat} {e:TypeId} {v:Value} {xs:List Value} (h:w.ownsRow base e size v n xs) (hb:Below w.heap.size w w'):w'.ownsRow base e size v n xs :=
 h.kept (N3 hb) (by cases v.ownBlock <;> simp)
theorem V8 {w:World} {base base' size n:Nat} {e:TypeId} {v:Value} {xs:List Value} (h:w.ownsRow base e size v n xs) (hb:base'≤base):w.ownsRow base' e size v n xs :=
 ⟨h.1,h.2.imp id fun ⟨g,cap,cur,h1,h2,h3⟩=>⟨g,cap,cur,h1,Nat.le_trans hb h2,h3⟩⟩
theorem box3 (w:World) (A B C:Obj):(((w.alloc A).alloc B).alloc C).heap[w.heap.size]?=some A∧(((w.alloc A).alloc B).alloc C).heap[w.heap.size+1]?=some B∧(((w.alloc A).alloc B).alloc C).heap[w.heap.size+1+1]?=some C∧Below w.heap.size w (((w.alloc A).alloc B).alloc C):=by
 have h1:=Y6 w A
 have h2:=Y6 (w.alloc A) B
 have h3:=Y6 ((w.alloc A).alloc B) C
 have b2:=Z5 (w.alloc A) B
 have b3:=Z5 ((w.alloc A).alloc B) C
 rw [World.size_alloc] at h2 h3
 rw [World.size_alloc] at h3
 exact ⟨Z6 b3 (Z6 b2 h1),Z6 b3 h2,h3,Z4 (Z4 (Z5 w A) b2) b3⟩
theorem V5 (w:World) (b i:Nat) (v:Value):w.grownBy (w.setCell ⟨b,i,none⟩ v) (some b) :=
 ⟨rfl,rfl,rfl,by simp,fun k _ hk=>heap_setCell_other w ⟨b,i,none⟩ k v (fun e=>hk (by simp [e]))⟩
theorem own_set {w:World} {base size n b:Nat} {e:TypeId} {v:Value} {xs:List Value} (h:w.ownsRow base e size v n xs) (hb:b<base) (i:Nat) (u:Value):(w.setCell ⟨b,i,none⟩ u).ownsRow base e size v n xs:=by
 refine h.kept (V5 w b i u) ?_
 cases hv:v.ownBlock with
 | none=>exact .inl rfl
 | some k=>refine .inr fun e=>?_;have:=(h.lt k hv).1;cases e;omega
abbrev sl (g n:Nat):Value:=.slice (some ⟨g,0,none⟩) n n
def zws:List Value:=[.int .i64 0,.int .i64 0,.int .i64 0,.bool false,.slice none 0 0,.slice none 0 0]
structure Y2 where
 vw:Value
 vd:Value
 vs:Value
 vm:Value
 vg:Value
 sv:List (Value × Value)
 mv:List Value
def Q8 (s:Y3) (p:Value × Value):List Value:=[.int .i64 s.page,.int .i64 s.cls,.int .i64 s.mark,.bool s.swept,p.1,p.2]
def U9 (L:List Y3) (sv:List (Value × Value)):List Value:=(List.zip L sv).flatMap fun x=>Q8 x.1 x.2
def Y2.val (S:Y2) (D:WD):Value:=.agg #[.int .i64 D.base,.int .i64 D.pages,S.vw,S.vd,S.vs,S.vm,.int .i64 D.phase,.int .i64 D.next,S.vg]
def Y2.ints (S:Y2):List Value:=S.vw :: (S.sv.flatMap fun p=>[p.1,p.2]) ++ S.mv ++ [S.vg]
structure OwnW (w:World) (base:Nat) (S:Y2) (D:WD):Prop where
 words:w.ownsRow base 3 1 S.vw D.words.length (D.words.map (Value.int .i64))
 dirty:w.ownsRow base 4 1 S.vd D.dirty.length (D.dirty.map Value.bool)
 spans:w.ownsRow base 97 6 S.vs D.spans.length (U9 D.spans S.sv)
 svl:S.sv.length=D.spans.length
 inner:∀ (i:Nat) (s:Y3) (p:Value × Value),D.spans[i]?=some s→S.sv[i]?=some p→w.ownsRow base 3 1 p.1 s.lens.length (s.lens.map (Value.int .i64))∧w.ownsRow base 3 1 p.2 s.ptrs.length (s.ptrs.map (Value.int .i64))
 muts:w.ownsRow base 74 1 S.vm D.muts.length S.mv
 mvl:S.mv.length=D.muts.length
 innerM:∀ (i:Nat) (r:List Int) (v:Value),D.muts[i]?=some r→S.mv[i]?=some v→w.ownsRow base 3 1 v r.length (r.map (Value.int .i64))
 grey:w.ownsRow base 3 1 S.vg D.grey.length (D.grey.map (Value.int .i64))
 nodup:(S.ints.filterMap Value.ownBlock).Nodup
theorem OwnW.below {w w':World} {base:Nat} {S:Y2} {D:WD} (h:OwnW w base S D) (hb:Below w.heap.size w w'):OwnW w' base S D :=
 ⟨Y9 h.words hb,Y9 h.dirty hb,Y9 h.spans hb,h.svl,fun i s p h1 h2=>⟨Y9 (h.inner i s p h1 h2).1 hb,Y9 (h.inner i s p h1 h2).2 hb⟩,
  Y9 h.muts hb,h.mvl,fun i r v h1 h2=>Y9 (h.innerM i r v h1 h2) hb,Y9 h.grey hb,h.nodup⟩
theorem OwnW.base {w:World} {base base':Nat} {S:Y2} {D:WD} (h:OwnW w base S D) (hb:base'≤base):OwnW w base' S D :=
 ⟨V8 h.words hb,V8 h.dirty hb,V8 h.spans hb,h.svl,fun i s p h1 h2=>⟨V8 (h.inner i s p h1 h2).1 hb,V8 (h.inner i s p h1 h2).2 hb⟩,
  V8 h.muts hb,h.mvl,fun i r v h1 h2=>V8 (h.innerM i r v h1 h2) hb,V8 h.grey hb,h.nodup⟩
theorem Rd.of_owns {w:World} {base:Nat} {v:Value} {L:List Int} (h:w.ownsRow base 3 1 v L.length (L.map (Value.int .i64))):Rd w v L:=by
 have h':=h
 rcases h.2 with ⟨rfl,h0⟩ | ⟨g,cap,cur,rfl,_,_,hc1,hc2,_,_⟩
 ·exact ⟨none,0,by rw [h0],by rw [h0];unfold maxLen;omega,fun j hj=>by omega⟩
 ·refine ⟨some ⟨g,0,none⟩,cap,rfl,by omega,fun j hj=>⟨g,0,rfl,?_⟩⟩
  rw [Nat.zero_add,h'.cellAt j (by simpa using hj)]
  simp [hj]
theorem RdB.of_owns {w:World} {base:Nat} {v:Value} {L:List Bool} (h:w.ownsRow base 4 1 v L.length (L.map Value.bool)):RdB w v L:=by
 have h':=h
 rcases h.2 with ⟨rfl,h0⟩ | ⟨g,cap,cur,rfl,_,_,hc1,hc2,_,_⟩
 ·exact ⟨none,0,by rw [h0],by rw [h0];unfold maxLen;omega,fun j hj=>by omega⟩
 ·refine ⟨some ⟨g,0,none⟩,cap,rfl,by omega,fun j hj=>⟨g,0,rfl,?_⟩⟩
  rw [Nat.zero_add,h'.cellAt j (by simpa using hj)]
  simp [hj]
theorem znr (L:List Y3) (sv:List (Value × Value)) (h:sv.length=L.length):(U9 L sv).length=L.length*6:=by
 induction sv generalizing L with
 | nil=>cases L with
  | nil=>simp [U9]
  | cons s L=>simp at h
 | cons p sv ih =>
  cases L with
  | nil=>simp at h
  | cons s L =>
   simp only [List.length_cons] at h
   have:=ih L (by omega)
   simp only [U9,List.zip_cons_cons,List.flatMap_cons,List.length_append,List.length_cons] at this ⊢
   rw [this]
   simp [Q8];omega
theorem zlb (L:List Y3) (sv:List (Value × Value)) (k:Nat) (s:Y3) (p:Value × Value) (h1:L[k]?=some s) (h2:sv[k]?=some p) (j:Nat) (hj:j<6):(U9 L sv)[k*6+j]?=(Q8 s p)[j]?:=by
 induction k generalizing L sv with
 | zero =>
  cases L with
  | nil=>simp at h1
  | cons s' L =>
   cases sv with
   | nil=>simp at h2
   | cons p' sv =>
    simp at h1 h2
    subst h1;subst h2
    simp only [U9,List.zip_cons_cons,List.flatMap_cons]
    rw [List.getElem?_append_left (by simp [Q8];omega)]
    simp
 | succ k ih =>
  cases L with
  | nil=>simp at h1
  | cons s' L =>
   cases sv with
   | nil=>simp at h2
   | cons p' sv =>
    simp at h1 h2
    have:=ih L sv h1 h2
    simp only [U9,List.zip_cons_cons,List.flatMap_cons] at this ⊢
    rw [List.getElem?_append_right (by simp [Q8];omega)]
    have e:(k+1)*6+j-(Q8 s' p').length=k*6+j:=by simp [Q8];omega
    rw [e,this]
theorem RdS.of_owns {w:World} {base:Nat} {v:Value} {L:List Y3} {sv:List (Value × Value)} (h:w.ownsRow base 97 6 v L.length (U9 L sv)) (hl:sv.length=L.length)
  (hi:∀ (i:Nat) (s:Y3) (p:Value × Value),L[i]?=some s→sv[i]?=some p→w.ownsRow base 3 1 p.1 s.lens.length (s.lens.map (Value.int .i64))∧w.ownsRow base 3 1 p.2 s.ptrs.length (s.ptrs.map (Value.int .i64))):RdS w v L:=by
 have h':=h
 rcases h.2 with ⟨rfl,h0⟩ | ⟨g,cap,cur,rfl,_,_,hc1,hc2,_,_⟩
 ·obtain rfl:L=[]:=List.length_eq_zero_iff.1 h0
  exact ⟨none,0,rfl,by unfold maxLen;simp,fun j s hj=>by simp at hj⟩
 ·refine ⟨some ⟨g,0,none⟩,cap,rfl,by omega,fun j s hj=>⟨g,0,rfl,?_⟩⟩
  have hlt:=(List.getElem?_eq_some_iff.1 hj).1
  obtain ⟨p,hp⟩:∃ p,sv[j]?=some p:=⟨_,List.getElem?_eq_getElem (by omega)⟩
  have hc:∀ i,i<6→w.cell? ⟨g,0+j*6+i,none⟩=(Q8 s p)[i]?:=fun i hi6=>by
   rw [Nat.zero_add,h'.cellAt (j*6+i) (by omega),zlb L sv j s p hj hp i hi6]
  exact ⟨p.1,p.2,hc 0 (by omega),hc 1 (by omega),hc 2 (by omega),hc 3 (by omega),hc 4 (by omega),hc 5 (by omega),Rd.of_owns (hi j s p hj hp).1,Rd.of_owns (hi j s p hj hp).2⟩
theorem RdM.of_owns {w:World} {base:Nat} {v:Value} {L:List (List Int)} {mv:List Value} (h:w.ownsRow base 74 1 v L.length mv) (hl:mv.length=L.length)
  (hi:∀ (i:Nat) (r:List Int) (u:Value),L[i]?=some r→mv[i]?=some u→w.ownsRow base 3 1 u r.length (r.map (Value.int .i64))):RdM w v L:=by
 have h':=h
 rcases h.2 with ⟨rfl,h0⟩ | ⟨g,cap,cur,rfl,_,_,hc1,hc2,_,_⟩
 ·obtain rfl:L=[]:=List.length_eq_zero_iff.1 h0
  exact ⟨none,0,rfl,by unfold maxLen;simp,fun j s hj=>by simp at hj⟩
 ·refine ⟨some ⟨g,0,none⟩,cap,rfl,by omega,fun j r hj=>?_⟩
  have hlt:=(List.getElem?_eq_some_iff.1 hj).1
  obtain ⟨u,hu⟩:∃ u,mv[j]?=some u:=⟨_,List.getElem?_eq_getElem (by omega)⟩
  refine ⟨g,0,u,rfl,?_,Rd.of_owns (hi j r u hj hu)⟩
  rw [Nat.zero_add,h'.cellAt j (by omega),hu]
theorem OwnW.rd {w:World} {base:Nat} {S:Y2} {D:WD} (h:OwnW w base S D):RdW w (S.val D) D :=
 ⟨_,_,_,_,_,rfl,Rd.of_owns h.words,RdB.of_owns h.dirty,RdS.of_owns h.spans h.svl h.inner,RdM.of_owns h.muts h.mvl h.innerM,Rd.of_owns h.grey⟩
structure zgk (D:WD):Prop where
 words:D.words.length≤1048576
 dirty:D.dirty.length≤1048576
 spans:D.spans.length≤1048576
 inner:∀ s ∈ D.spans,s.lens.length≤1048576∧s.ptrs.length≤1048576
 muts:D.muts.length≤1048576
 innerM:∀ r ∈ D.muts,r.length≤1048576
 grey:D.grey.length≤1048576
theorem sum_ge {α:Type} (f:α→Nat) (l:List α) (x:α) (h:x ∈ l):f x≤(l.map f).sum:=by
 induction l with
 | nil=>simp at h
 | cons y l ih =>
  simp only [List.mem_cons] at h
  simp only [List.map_cons,List.sum_cons]
  rcases h with rfl | h
  ·omega
  ·have:=ih h;omega
theorem zgk.of_bulk {D:WD} (h:D.bulk≤1048576):zgk D:=by
 unfold WD.bulk at h
 refine ⟨by omega,by omega,by omega,fun s hs=>?_,by omega,fun r hr=>?_,by omega⟩
 ·have:=sum_ge Y3.bulk D.spans s hs
  unfold zmo at h
  unfold Y3.bulk at this
  have e:(D.spans.map Y3.bulk).sum=(D.spans.map fun s=>s.lens.length+s.ptrs.length).sum:=rfl
  rw [e] at h
  omega
 ·have:=sum_ge List.length D.muts r hr
  unfold zlc at h
  omega
end Go.Proofs.YtilkidaihbhfpaaGreat
