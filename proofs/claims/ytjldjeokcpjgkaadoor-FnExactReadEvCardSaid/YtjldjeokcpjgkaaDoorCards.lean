/-
  DERIVED. GIVEN WITH THE SEED: THE CARDS: each row of YtjldjeokcpjgkaaDoorRows.lean that lists a variable, with what it lists TIED to the program's text (the seventh form; the later family's looks); each row that meets fmt, with fmt's text TOLD by the authors' own Lean function (tested against real Go, not proved from fmt's source: count such statements apart). THE CARD IS WHAT COUNTS. Prove the row's statement (the work); the ties are given (YtjldjeokcpjgkaaDoorTie.lean); close each card by the builder's one call (the guide's Derived/Test/ToyasCard.lean, 'card_holds'). Laid BY PROGRAM, IN A SANDBOX (cutbox-door.mjs). By AI agents, Wed Nov 11 2026. No macro, syntax, notation, axiom, sorry.
-/
import Derived.Test.YtjldjeokcpjgkaaDoorRows
import GoSem.ClaimSeven
namespace Go.Proofs.YtjldjeokcpjgkaaDoor
namespace Rows

/-- THE TIED CARD OF 'laws.FnExactEvText'. -/
def fnExactEvTextCard : Claim7 := { stood := { row := fnExactEvTextRow, standIns := [], harness := (true, "80237ba44832c9db5f4f39072f4a7ccf35d779c233e5e58efa8cd8b08235a6d0"), looks := false }, kinds := [], alts := [], laidByText := true, laidKinds := [.data, .data, .data], laidTests := true, laidLooks := .later }
def FnExactEvTextCardSaid : Prop := Claim7.holds Tryd.pinned (.plain (OpenSpec.ofChange fnExactEvTextSpec)) fnExactEvTextCard

/-- THE TIED CARD OF 'laws.FnExactReadEv'. -/
def fnExactReadEvCard : Claim7 := { stood := { row := fnExactReadEvRow, standIns := [], harness := (true, "80237ba44832c9db5f4f39072f4a7ccf35d779c233e5e58efa8cd8b08235a6d0"), looks := false }, kinds := [], alts := [], laidByText := true, laidKinds := [.data, .data, .data, .data, .pinned], laidTests := true, laidLooks := .later }
def FnExactReadEvCardSaid : Prop := Claim7.holds Tryd.pinned (.plain (OpenSpec.ofChange fnExactReadEvSpec)) fnExactReadEvCard

/-- THE TIED CARD OF 'laws.FnExactScriptText'. -/
def fnExactScriptTextCard : Claim7 := { stood := { row := fnExactScriptTextRow, standIns := [], harness := (true, "80237ba44832c9db5f4f39072f4a7ccf35d779c233e5e58efa8cd8b08235a6d0"), looks := false }, kinds := [], alts := [], laidByText := true, laidKinds := [.data, .data, .data], laidTests := true, laidLooks := .later }
def FnExactScriptTextCardSaid : Prop := Claim7.holds Tryd.pinned (.plain (OpenSpec.ofChange fnExactScriptTextSpec)) fnExactScriptTextCard

/-- THE TIED CARD OF 'laws.FnExactReadScript'. -/
def fnExactReadScriptCard : Claim7 := { stood := { row := fnExactReadScriptRow, standIns := [], harness := (true, "80237ba44832c9db5f4f39072f4a7ccf35d779c233e5e58efa8cd8b08235a6d0"), looks := false }, kinds := [], alts := [], goes := true, laidByText := true, laidKinds := [.data, .data, .data, .data, .pinned], laidTests := true, laidLooks := .later }
def FnExactReadScriptCardSaid : Prop := Claim7.holds Tryd.pinned (.plain (OpenSpec.ofChange fnExactReadScriptSpec)) fnExactReadScriptCard

/-- THE SECOND FORM's CARD OF 'laws.FnExactEvText'. -/
def fnExactEvTextUptoCard : Claim7 := { stood := { row := fnExactEvTextUptoRow, standIns := [], harness := (true, "80237ba44832c9db5f4f39072f4a7ccf35d779c233e5e58efa8cd8b08235a6d0"), looks := false }, kinds := [], alts := [], laidByText := true, laidKinds := [.data, .data, .data], laidTests := true, laidLooks := .later }
def FnExactEvTextUptoCardSaid : Prop := Claim7.holds Tryd.pinned (.plain (OpenSpec.upto fnExactEvTextSpec)) fnExactEvTextUptoCard

/-- THE SECOND FORM's CARD OF 'laws.FnExactReadEv'. -/
def fnExactReadEvUptoCard : Claim7 := { stood := { row := fnExactReadEvUptoRow, standIns := [], harness := (true, "80237ba44832c9db5f4f39072f4a7ccf35d779c233e5e58efa8cd8b08235a6d0"), looks := false }, kinds := [], alts := [], laidByText := true, laidKinds := [.data, .data, .data, .data, .pinned], laidTests := true, laidLooks := .later }
def FnExactReadEvUptoCardSaid : Prop := Claim7.holds Tryd.pinned (.plain (OpenSpec.upto fnExactReadEvSpec)) fnExactReadEvUptoCard

/-- THE SECOND FORM's CARD OF 'laws.FnExactScriptText'. -/
def fnExactScriptTextUptoCard : Claim7 := { stood := { row := fnExactScriptTextUptoRow, standIns := [], harness := (true, "80237ba44832c9db5f4f39072f4a7ccf35d779c233e5e58efa8cd8b08235a6d0"), looks := false }, kinds := [], alts := [], laidByText := true, laidKinds := [.data, .data, .data], laidTests := true, laidLooks := .later }
def FnExactScriptTextUptoCardSaid : Prop := Claim7.holds Tryd.pinned (.plain (OpenSpec.upto fnExactScriptTextSpec)) fnExactScriptTextUptoCard

/-- THE SECOND FORM's CARD OF 'laws.FnExactReadScript'. -/
def fnExactReadScriptUptoCard : Claim7 := { stood := { row := fnExactReadScriptUptoRow, standIns := [], harness := (true, "80237ba44832c9db5f4f39072f4a7ccf35d779c233e5e58efa8cd8b08235a6d0"), looks := false }, kinds := [], alts := [], goes := true, laidByText := true, laidKinds := [.data, .data, .data, .data, .pinned], laidTests := true, laidLooks := .later }
def FnExactReadScriptUptoCardSaid : Prop := Claim7.holds Tryd.pinned (.plain (OpenSpec.upto fnExactReadScriptSpec)) fnExactReadScriptUptoCard
end Rows
end Go.Proofs.YtjldjeokcpjgkaaDoor
