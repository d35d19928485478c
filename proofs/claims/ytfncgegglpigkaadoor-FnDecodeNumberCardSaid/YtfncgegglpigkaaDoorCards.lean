/-
  DERIVED. GIVEN WITH THE SEED: THE CARDS: each row of YtfncgegglpigkaaDoorRows.lean that lists a variable, with what it lists TIED to the program's text (the seventh form; the later family's looks); each row that meets fmt, with fmt's text TOLD by the authors' own Lean function (tested against real Go, not proved from fmt's source: count such statements apart). THE CARD IS WHAT COUNTS. Prove the row's statement (the work); the ties are given (YtfncgegglpigkaaDoorTie.lean); close each card by the builder's one call (the guide's Derived/Test/ToyasCard.lean, 'card_holds'). Laid BY PROGRAM, IN A SANDBOX (cutbox-door.mjs). By AI agents, Wed Nov 11 2026. No macro, syntax, notation, axiom, sorry.
-/
import Derived.Test.YtfncgegglpigkaaDoorRows
import GoSem.ClaimSeven
namespace Go.Proofs.YtfncgegglpigkaaDoor
namespace Rows

/-- THE TIED CARD OF 'laws.FnEncodeNumber'. -/
def fnEncodeNumberCard : Claim7 := { stood := { row := fnEncodeNumberRow, standIns := [], harness := (true, "beee0ea2378311ea6879f5825b627755ba6dea7ea88c70d2a3dcebc2b1a2bdc3"), looks := false }, kinds := [], alts := [], laidByText := true, laidKinds := [.data], laidTests := true, laidLooks := .later }
def FnEncodeNumberCardSaid : Prop := Claim7.holds Tryd.pinned (.plain (OpenSpec.ofChange fnEncodeNumberSpec)) fnEncodeNumberCard

/-- THE TIED CARD OF 'laws.FnDecodeNumber'. -/
def fnDecodeNumberCard : Claim7 := { stood := { row := fnDecodeNumberRow, standIns := [], harness := (true, "beee0ea2378311ea6879f5825b627755ba6dea7ea88c70d2a3dcebc2b1a2bdc3"), looks := false }, kinds := [], alts := [], laidByText := true, laidKinds := [.data], laidTests := true, laidLooks := .later }
def FnDecodeNumberCardSaid : Prop := Claim7.holds Tryd.pinned (.plain (OpenSpec.ofChange fnDecodeNumberSpec)) fnDecodeNumberCard

/-- THE SECOND FORM's CARD OF 'laws.FnEncodeNumber'. -/
def fnEncodeNumberUptoCard : Claim7 := { stood := { row := fnEncodeNumberUptoRow, standIns := [], harness := (true, "beee0ea2378311ea6879f5825b627755ba6dea7ea88c70d2a3dcebc2b1a2bdc3"), looks := false }, kinds := [], alts := [], laidByText := true, laidKinds := [.data], laidTests := true, laidLooks := .later }
def FnEncodeNumberUptoCardSaid : Prop := Claim7.holds Tryd.pinned (.plain (OpenSpec.upto fnEncodeNumberSpec)) fnEncodeNumberUptoCard

/-- THE SECOND FORM's CARD OF 'laws.FnDecodeNumber'. -/
def fnDecodeNumberUptoCard : Claim7 := { stood := { row := fnDecodeNumberUptoRow, standIns := [], harness := (true, "beee0ea2378311ea6879f5825b627755ba6dea7ea88c70d2a3dcebc2b1a2bdc3"), looks := false }, kinds := [], alts := [], laidByText := true, laidKinds := [.data], laidTests := true, laidLooks := .later }
def FnDecodeNumberUptoCardSaid : Prop := Claim7.holds Tryd.pinned (.plain (OpenSpec.upto fnDecodeNumberSpec)) fnDecodeNumberUptoCard
end Rows
end Go.Proofs.YtfncgegglpigkaaDoor
