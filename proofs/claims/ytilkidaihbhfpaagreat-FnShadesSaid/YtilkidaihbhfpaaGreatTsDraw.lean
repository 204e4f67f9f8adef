import Derived.Test.YtilkidaihbhfpaaGreatTsM
import Derived.ChangeOld
import Derived.Below
import Derived.OneCell

set_option maxRecDepth 100000
set_option maxHeartbeats 16000000
namespace Go.Proofs.YtilkidaihbhfpaaGreat
open Go.RowKit
set_option linter.unusedVariables false
def zlj (w:World) (a:Option Addr) (len:Nat):Prop :=
 len≤maxLen∧∀ j,j<len→∃ b off x,a=some ⟨b,off,none⟩∧0≤x∧x<256∧w.cell? ⟨b,off+j,none⟩=some (.int .u8 x)
def Cur (w:World) (B:Nat) (a:Option Addr) (len:Nat):Prop :=
 ∃ cap i h,w.heap[B]?=some (.cells #[.slice a len cap,.int .i64 i,.int .i64 h] 93 (0,0))∧0≤i
theorem zwa (n:Int):bits .and .i64 n 255=n % 256:=by
 have h127:(BitVec.ofInt 64 255).toNat=2 ^ 8-1:=by decide
 have key:(BitVec.ofInt 64 n &&& BitVec.ofInt 64 255).toNat=(n % ((2 ^ 64:Nat):Int)).toNat % 2 ^ 8:=by
  rw [BitVec.toNat_and,BitVec.toNat_ofInt,h127,Nat.and_two_pow_sub_one_eq_mod]
 show IntKind.i64.wrap ((BitVec.ofInt 64 n &&& BitVec.ofInt 64 255).toNat:Nat)=n % 256
 rw [key,IntKind.wrap_i64]
 omega
theorem zpx (n:Int):0≤bits .and .i64 n 255∧bits .and .i64 n 255≤255:=by rw [zwa];omega
theorem zkb {w w':World} {row:Option Nat} (h:w.grownBy w' row) (n:Nat):w.grownBy (w'.drewN n) row:=⟨h.os,h.tape,h.output,h.size,h.block⟩
theorem zud {w:World} {B:Nat} {u v x:Value} (h:w.heap[B]?=some (.cells #[u,v,x] 93 (0,0))) (h':Int):(w.setCell ⟨B,2,none⟩ (.int .i64 h')).heap[B]?=some (.cells #[u,v,.int .i64 h'] 93 (0,0)):=by
 rw [heap_setCell_same w B 2 _ _ _ h];rfl
theorem cur_set1 {w:World} {B len cap:Nat} {a:Option Addr} {v:Value} {i h:Int} (hh:w.heap[B]?=some (.cells #[.slice a len cap,v,.int .i64 h] 93 (0,0))) (hi:0≤i) (n:Nat):Cur ((w.drewN n).setCell ⟨B,1,none⟩ (.int .i64 i)) B a len :=
 ⟨cap,i,h,by rw [heap_setCell_same (w.drewN n) B 1 _ _ _ hh];rfl,hi⟩
theorem zvv (B:Nat) (a:Option Addr) (len:Nat) (w:World) (hb:zlj w a len) (hc:Cur w B a len) (n₀:Nat) (hn:n₀≤B) (ha:0<len→∀ x,a=some x→x.block<n₀) :
  Calls Tryz.prog 73 #[.pointer (some ⟨B,0,none⟩)] w fun e w'=>∃ x:Int,e=.returned (.int .i64 x)∧0≤x∧x≤255∧w.grownBy w' (some B)∧Cur w' B a len:=by
 obtain ⟨cap,i,h,hh,hi⟩:=hc
 have hlen:=hb.1
 unfold maxLen at hlen
 have f0:w.cell? ⟨B,0,none⟩=some (.slice a len cap):=Z0 hh 0 _ rfl
 have f1:w.cell? ⟨B,1,none⟩=some (.int .i64 i):=Z0 hh 1 _ rfl
 have f2:w.cell? ⟨B,2,none⟩=some (.int .i64 h):=Z0 hh 2 _ rfl
 have z1:=Z3 hh 1
 have z2:=Z3 hh 2
 obtain ⟨hh⟩:Nonempty (Hid _):=⟨zaa hh⟩
 by_cases hlt:i<(len:Int)
 ·obtain ⟨b1,o1,x1,rfl,hx0,hx1,hcx⟩:=hb.2 i.toNat (by omega)
  have hne:b1<n₀:=ha (by omega) _ rfl
  have hne':¬ b1=B:=by omega
  have hne'':¬ B=b1:=by omega
  obtain ⟨j,rfl⟩:=Int.eq_ofNat_of_zero_le hi
  rw [Int.toNat_natCast] at hcx
  clear hb ha
  go_enter Tryz.func73,Tryz.ntmps73
  go_wp2
  go_quiet (fail)
  generalize wrap64 (wrap64 (h*6364136223846793005)+1442695040888963407)=h'
  go_wp2
  go_quiet (fail)
  go_wp2
  go_quiet (fail)
  go_wp2
  go_ret
  exact ⟨_,rfl,(zpx _).1,(zpx _).2,P0 (zkb (V5 _ _ _ _) _) (V5 _ _ _ _),cur_set1 (zud hh.out h') (by omega) _⟩
 ·clear hb ha
  go_enter Tryz.func73,Tryz.ntmps73
  go_wp2
  go_quiet (fail)
  generalize wrap64 (wrap64 (h*6364136223846793005)+1442695040888963407)=h'
  go_wp2
  go_quiet (fail)
  go_wp2
  go_ret
  exact ⟨_,rfl,(zpx _).1,(zpx _).2,zkb (zkb (V5 _ _ _ _) _) _,_,_,_,zud hh.out h',hi⟩
theorem zlj.below {w w':World} {a:Option Addr} {len n₀:Nat} (h:zlj w a len) (ha:0<len→∀ x,a=some x→x.block<n₀) (hb:Below n₀ w w'):zlj w' a len :=
 ⟨h.1,fun j hj=>by
  obtain ⟨b,off,x,rfl,h0,h1,hc⟩:=h.2 j hj
  exact ⟨b,off,x,rfl,h0,h1,(hb.cell (p:=⟨b,off+j,none⟩) (ha (by omega) ⟨b,off,none⟩ rfl)).trans hc⟩⟩
structure At (w:World) (n₀ B:Nat) (a:Option Addr) (len:Nat):Prop where
 bytes:zlj w a len
 cur:Cur w B a len
 le:n₀≤B
 low:0<len→∀ x,a=some x→x.block<n₀
theorem At.lt {w:World} {n₀ B len:Nat} {a:Option Addr} (h:At w n₀ B a len):B<w.heap.size:=by
 obtain ⟨_,_,_,hh,_⟩:=h.cur
 exact (Array.getElem?_eq_some_iff.1 hh).1
theorem At.below {w w':World} {n₀ B len:Nat} {a:Option Addr} (h:At w n₀ B a len) (hg:w.grownBy w' (some B)):Below n₀ w w' :=
 (Below.refl n₀ w).grown hg (by have:=h.lt;have:=h.le;omega) (fun k e=>by cases e;exact h.le)
theorem At.step {w w':World} {n₀ B len:Nat} {a:Option Addr} (h:At w n₀ B a len) (hg:w.grownBy w' (some B)) (hc:Cur w' B a len):At w' n₀ B a len :=
 ⟨h.bytes.below h.low (h.below hg),hc,h.le,h.low⟩
theorem At.kept {w w':World} {n₀ B len:Nat} {a:Option Addr} (h:At w n₀ B a len) (hb:Below w.heap.size w w'):At w' n₀ B a len:=by
 obtain ⟨cap,i,q,hh,hi⟩:=h.cur
 exact ⟨h.bytes.below h.low (hb.mono (by have:=h.lt;have:=h.le;omega)),⟨cap,i,q,(hb.block B h.lt).trans hh,hi⟩,h.le,h.low⟩
theorem znw {w:World} {n₀ B len:Nat} {a:Option Addr} (h:At w n₀ B a len) :
  Calls Tryz.prog 73 #[.pointer (some ⟨B,0,none⟩)] w fun e w'=>∃ x:Int,e=.returned (.int .i64 x)∧0≤x∧x≤255∧w.grownBy w' (some B)∧At w' n₀ B a len :=
 (zvv B a len w h.bytes h.cur n₀ h.le h.low).mono fun _ _ ⟨x,he,h0,h1,hb,hc⟩=>⟨x,he,h0,h1,hb,h.step hb hc⟩
theorem zer {w:World} {n₀ B len:Nat} {a:Option Addr} (h:At w n₀ B a len) (n:Int) (hn:1≤n) :
  Calls Tryz.prog 31 #[.pointer (some ⟨B,0,none⟩),.int .i64 n] w fun e w'=>∃ x:Int,e=.returned (.int .i64 x)∧0≤x∧x<n∧w.grownBy w' (some B)∧At w' n₀ B a len:=by
 by_cases hs:n≤256
 ·go_enter Tryz.func31,Tryz.ntmps31
  go_wp2_with fail
  refine (znw h).mono ?_
  rintro e w1 ⟨x,rfl,h0,h1,hb,hat⟩
  go_wp2
  go_ret
  exact ⟨_,rfl,Int.emod_nonneg _ (by omega),Int.emod_lt_of_pos _ (by omega),hb,hat⟩
 ·go_enter Tryz.func31,Tryz.ntmps31
  go_wp2_with fail
  refine (znw h).mono ?_
  rintro e w1 ⟨x1,rfl,h01,h11,hb1,hat1⟩
  go_wp2_with fail
  refine (znw hat1).mono ?_
  rintro e w2 ⟨x2,rfl,h02,h12,hb2,hat2⟩
  go_wp2_with fail
  refine (znw hat2).mono ?_
  rintro e w3 ⟨x3,rfl,h03,h13,hb3,hat3⟩
  go_wp2_with fail
  refine (znw hat3).mono ?_
  rintro e w4 ⟨x4,rfl,h04,h14,hb4,hat4⟩
  go_wp2
  go_ret
  exact ⟨_,rfl,Int.emod_nonneg _ (by omega),Int.emod_lt_of_pos _ (by omega),P0 (P0 (P0 hb1 hb2) hb3) hb4,hat4⟩
theorem zyn {w:World} {n₀ B len:Nat} {a:Option Addr} (h:At w n₀ B a len) (n:Int) (hn:1≤n) :
  Calls Tryz.prog 71 #[.pointer (some ⟨B,0,none⟩),.int .i64 n] w fun e w'=>∃ x:Bool,e=.returned (.bool x)∧w.grownBy w' (some B)∧At w' n₀ B a len:=by
 go_enter Tryz.func71,Tryz.ntmps71
 go_wp2_with fail
 refine (zer h n hn).mono ?_
 rintro e w1 ⟨x,rfl,h0,h1,hb,hat⟩
 go_wp2
 go_ret
 exact ⟨_,rfl,hb,hat⟩
theorem zvp {w:World} {n₀ B len:Nat} {a:Option Addr} (h:At w n₀ B a len) (v:Value) (L:List Int) (hL:1≤L.length) (hr:∀ w',w.grownBy w' (some B)→Rd w' v L) :
  Calls Tryz.prog 72 #[.pointer (some ⟨B,0,none⟩),v] w fun e w'=>∃ x:Int,e=.returned (.int .i64 x)∧x ∈ L∧w.grownBy w' (some B)∧At w' n₀ B a len:=by
 obtain ⟨a1,c1,rfl,hL',_⟩:=hr w (World.grownBy.refl _ _)
 unfold maxLen at hL'
 obtain ⟨hr⟩:Nonempty (Hid _):=⟨zaa hr⟩
 go_enter Tryz.func72,Tryz.ntmps72
 go_wp2_with fail
 refine (zer h L.length (by omega)).mono ?_
 rintro e w1 ⟨x,rfl,h0,h1,hb,hat⟩
 obtain ⟨a2,c2,he,_,r2⟩:=hr.out w1 hb
 obtain ⟨rfl,_,rfl⟩:a1=a2∧L.length=L.length∧c1=c2:=by simpa using he
 obtain ⟨j,rfl⟩:=Int.eq_ofNat_of_zero_le h0
 obtain ⟨b1,o1,rfl,x1⟩:=r2 j (by omega)
 have hj:j<L.length:=by omega
 have hm:L[j]?.getD 0 ∈ L:=by simp [hj]
 generalize L[j]?.getD 0=y at *
 clear hr r2 he
 go_wp2
 go_ret
 exact ⟨_,rfl,hm,hb,hat⟩
theorem zrl (w:World) (o:Obj):(w.alloc o).heap[w.heap.size]?=some o:=heap_alloc_new w o
theorem zso (a:Option Addr) (len cap:Nat) (w:World) (hb:zlj w a len) (ha:0<len→∀ x,a=some x→x.block<w.heap.size) :
  Calls Tryz.prog 29 #[.slice a len cap] w fun e w'=>∃ B,e=.returned (.pointer (some ⟨B,0,none⟩))∧Below w.heap.size w w'∧At w' w.heap.size B a len:=by
 have hlen:=hb.1
 unfold maxLen at hlen
 have hbb:=zaa hb.2
 go_enter Tryz.func29,Tryz.ntmps29
 go_wp2
 go_loop [3,4] (fun h i=>∃ (k:Nat) (q:Int),k≤len∧i=.int .i64 k∧h=.int .i64 q) (fun _ i=>len-(intOf i).toNat)
 case atStart=>exact ⟨0,_,Nat.zero_le _,rfl,rfl⟩
 case round =>
  obtain ⟨k,q,hk,rfl,rfl⟩:=hrel
  by_cases hlt:k<len∧k<4000
  ·obtain ⟨hlt,h4⟩:=hlt
   obtain ⟨b1,o1,x1,rfl,hx0,hx1,hcx⟩:=hbb.out k hlt
   clear hb
   go_wp2
   go_round
   case rel=>exact ⟨k+1,_,by omega,by go_num,rfl⟩
   case measure=>simp [intOf];omega
  ·by_cases hlt':k<len
   ·have h4:¬ k<4000:=fun h=>hlt ⟨hlt',h⟩
    have hbk:=zaa hb
    clear hb hlt
    go_wp2
    go_ret
    exact ⟨_,rfl,(Below.refl _ _).alloc (Nat.le_refl _) _,hbk.out.below ha ((Below.refl _ _).alloc (Nat.le_refl _) _),⟨_,_,_,zrl w _,by omega⟩,Nat.le_refl _,ha⟩
   ·have hbk:=zaa hb
    clear hb hlt
    go_wp2
    go_ret
    exact ⟨_,rfl,(Below.refl _ _).alloc (Nat.le_refl _) _,hbk.out.below ha ((Below.refl _ _).alloc (Nat.le_refl _) _),⟨_,_,_,zrl w _,by omega⟩,Nat.le_refl _,ha⟩
end Go.Proofs.YtilkidaihbhfpaaGreat
