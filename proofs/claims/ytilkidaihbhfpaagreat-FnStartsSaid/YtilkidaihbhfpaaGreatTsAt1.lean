import Derived.Test.YtilkidaihbhfpaaGreatTsDRB

set_option maxRecDepth 100000
set_option maxHeartbeats 16000000
namespace Go.Proofs.YtilkidaihbhfpaaGreat
open Go.RowKit
set_option linter.unusedVariables false
theorem Rd.at1 {w:World} {a:Option Addr} {c:Nat} {L:List Int} (h:Rd w (.slice a L.length c) L) (j:Nat) (hj:j<L.length):∃ b off,a=some ⟨b,off,none⟩∧w.cell? ⟨b,off+j,none⟩=some (.int .i64 (L[j]?.getD 0)):=by
 obtain ⟨a',c',he,_,hx⟩:=h
 obtain ⟨rfl,_⟩:a=a'∧c=c':=by simpa using he
 exact hx j hj
theorem zoj {D:WD} (h:zgo D):zgk D:=zgk.of_bulk (by have:=h.size;omega)
end Go.Proofs.YtilkidaihbhfpaaGreat
