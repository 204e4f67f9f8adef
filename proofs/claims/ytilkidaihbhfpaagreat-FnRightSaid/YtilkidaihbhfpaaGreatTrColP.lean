import Derived.Test.YtilkidaihbhfpaaGreatTrRtk
import Derived.Test.YtilkidaihbhfpaaGreatTrSColour
import Derived.Test.YtilkidaihbhfpaaGreatTrSW
import Derived.Test.YtilkidaihbhfpaaGreatTrALR

set_option maxRecDepth 100000
set_option maxHeartbeats 16000000
namespace Go.Proofs.YtilkidaihbhfpaaGreat
open Go.RowKit
set_option linter.unusedVariables false
theorem zoy.unique {D:WD} {a r r':Int} (h:zoy D a r) (h':zoy D a r'):r'=r:=by
 rcases h with ⟨n,rfl⟩ | ⟨hF,ho,h⟩ <;> rcases h' with ⟨n',rfl⟩ | ⟨hF',ho',h'⟩
 ·rfl
 ·exact absurd ⟨hF',ho'⟩ n
 ·exact absurd ⟨hF,ho⟩ n'
 ·rcases h with ⟨g,rfl⟩ | ⟨g,⟨m,rfl⟩ | ⟨m,rfl⟩⟩ <;> rcases h' with ⟨g',rfl⟩ | ⟨g',⟨m',rfl⟩ | ⟨m',rfl⟩⟩ <;> first | rfl | exact absurd g g' | exact absurd g' g | exact absurd m m' | exact absurd m' m
theorem zpj {D:WD} (hR:U8 D) {Z L:List Int} (hZ:L0 D Z) (hL:N7 D Z L) {x:Int} (hx:x ∈ Z):x ∈ L:=by
 rcases hZ with ⟨hF,_,m,_⟩ | ⟨_,rfl⟩
 ·rcases hL with ⟨_,_,ml⟩ | ⟨hn,_⟩
  ·obtain ⟨h0,r,hr,hxr⟩:=(m x).1 hx
   exact (ml x).2 (.start hx (zka.1 (((V8.1 hR).roots r hr x hxr).resolve_left h0).ob))
  ·exact absurd hF hn
 ·exact absurd hx (by simp)
theorem zok {D:WD} (hR:U8 D) {Z L:List Int} (hZ:L0 D Z) (hL:N7 D Z L) {x:Int} (hx:x ∈ L):¬ zis D x:=by
 rintro ⟨k,j,hF,ho,hd⟩
 rcases hL with ⟨_,_,ml⟩ | ⟨hn,_⟩
 ·have hl:Lv D x:=led_lv hR (fun a ha=>by
   rcases hZ with ⟨_,_,m,_⟩ | ⟨hn,_⟩
   ·obtain ⟨h0,r,hr,har⟩:=(m a).1 ha
    exact (V8.1 hR).roots r hr a har
   ·exact absurd hF hn) ((ml x).1 hx)
  exact ((Live.at_ hF ho).1 (zkb.2 (.inr hl))) hd
 ·exact hn hF
theorem zol {D:WD} (hR:U8 D) (hp:D.phase=3) {Z L:List Int} (hZ:L0 D Z) (hL:N7 D Z L) {x:Int} (hx:x ∈ L):zoy D x 3:=by
 have hF:=hR.1
 rcases hL with ⟨_,_,ml⟩ | ⟨hn,_⟩
 ·have hl:=(ml x).1 hx
  have hm:Mk D x:=led_mk hR hp (fun a ha=>by
   rcases hZ with ⟨_,_,m,_⟩ | ⟨hn,_⟩
   ·exact ((m a).1 ha).2
   ·exact absurd hF hn) hl
  have hg:=(V8.1 hR).noGrey (by omega) (by omega)
  exact .inr ⟨hF,hl.obj,.inr ⟨by rw [hg];simp,.inl ⟨zgu.1 hm,rfl⟩⟩⟩
 ·exact absurd hF hn
end Go.Proofs.YtilkidaihbhfpaaGreat
