import Derived.Test.YtilkidaihbhfpaaGreatTsW

set_option maxRecDepth 100000
set_option maxHeartbeats 16000000
namespace Go.Proofs.YtilkidaihbhfpaaGreat
open Go.RowKit
set_option linter.unusedVariables false
theorem zhs (v1 v2:Value) (L:List Int) (w:World) (h1:Rd w v1 L) (h2:Rd w v2 L) :
  Calls Tryz.prog 9 #[v1,v2] w fun e w'=>e=.returned (.bool true)∧∃ n,w'=w.drewN n:=by
 obtain ⟨a1,c1,rfl,hL,r1⟩:=h1
 obtain ⟨a2,c2,rfl,_,r2⟩:=h2
 unfold maxLen at hL
 obtain ⟨r1⟩:Nonempty (Hid _):=⟨zaa r1⟩
 obtain ⟨r2⟩:Nonempty (Hid _):=⟨zaa r2⟩
 go_enter Tryz.func9,Tryz.ntmps9
 go_wp2
 go_loopw [5] (fun i wr=>∃ k n:Nat,k≤L.length∧i=.int .i64 k∧wr=w.drewN n) (fun i _=>L.length-(intOf i).toNat)
 case atStart=>exact ⟨0,0,Nat.zero_le _,rfl,rfl⟩
 case round =>
  obtain ⟨k,n,hk,rfl,rfl⟩:=hrel
  by_cases hlt:k<L.length
  ·obtain ⟨b1,o1,rfl,x1⟩:=r1.out k hlt
   obtain ⟨b2,o2,rfl,x2⟩:=r2.out k hlt
   go_wp2
   go_quiet (fail)
   go_wp2
   go_roundw
   case rel=>exact ⟨k+1,_,by omega,by go_num,rfl⟩
   case measure=>simp [intOf];omega
  ·obtain rfl:k=L.length:=by omega
   go_wp2
   go_ret
   exact ⟨rfl,n,rfl⟩
end Go.Proofs.YtilkidaihbhfpaaGreat
