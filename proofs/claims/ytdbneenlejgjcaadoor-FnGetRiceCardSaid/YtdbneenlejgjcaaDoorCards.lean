/-
  DERIVED. GIVEN WITH THE SEED: THE CARDS: each row of YtdbneenlejgjcaaDoorRows.lean that lists a variable, with what it lists TIED to the program's text (the seventh form; the later family's looks); each row that meets fmt, with fmt's text TOLD by the authors' own Lean function (tested against real Go, not proved from fmt's source: count such statements apart). THE CARD IS WHAT COUNTS. Prove the row's statement (the work); the ties are given (YtdbneenlejgjcaaDoorTie.lean); close each card by the builder's one call (the guide's Derived/Test/ToyasCard.lean, 'card_holds'). Laid BY PROGRAM, IN A SANDBOX (cutbox-door.mjs). By AI agents, Wed Nov 11 2026. No macro, syntax, notation, axiom, sorry.
-/
import Derived.Test.YtdbneenlejgjcaaDoorRows
import GoSem.ClaimSeven
namespace Go.Proofs.YtdbneenlejgjcaaDoor
namespace Rows

/-- THE TIED CARD OF 'laws.FnRiceLength'. -/
def fnRiceLengthCard : Claim7 := { stood := { row := fnRiceLengthRow, standIns := [], harness := (true, "c7d68c2fc1c055cd79c8d87688a53302ee0f656e1418f4faefcc64ea3f771c14"), looks := false }, kinds := [], alts := [], laidByText := true, laidKinds := [.sentinel, .sentinel, .sentinel], laidTests := true, laidLooks := .later }
def FnRiceLengthCardSaid : Prop := Claim7.holds Tryd.pinned (.plain (OpenSpec.ofChange fnRiceLengthSpec)) fnRiceLengthCard

/-- THE TIED CARD OF 'laws.FnPutUnary'. -/
def fnPutUnaryCard : Claim7 := { stood := { row := fnPutUnaryRow, standIns := [], harness := (true, "c7d68c2fc1c055cd79c8d87688a53302ee0f656e1418f4faefcc64ea3f771c14"), looks := false }, kinds := [], alts := [], laidByText := true, laidKinds := [.sentinel, .sentinel, .sentinel, .sentinel], laidTests := true, laidLooks := .later }
def FnPutUnaryCardSaid : Prop := Claim7.holds Tryd.pinned (.plain (OpenSpec.ofChange fnPutUnarySpec)) fnPutUnaryCard

/-- THE TIED CARD OF 'laws.FnGetUnary'. -/
def fnGetUnaryCard : Claim7 := { stood := { row := fnGetUnaryRow, standIns := [], harness := (true, "c7d68c2fc1c055cd79c8d87688a53302ee0f656e1418f4faefcc64ea3f771c14"), looks := false }, kinds := [], alts := [], laidByText := true, laidKinds := [.sentinel, .sentinel, .sentinel], laidTests := true, laidLooks := .later }
def FnGetUnaryCardSaid : Prop := Claim7.holds Tryd.pinned (.plain (OpenSpec.ofChange fnGetUnarySpec)) fnGetUnaryCard

/-- THE TIED CARD OF 'laws.FnPutRice'. -/
def fnPutRiceCard : Claim7 := { stood := { row := fnPutRiceRow, standIns := [], harness := (true, "c7d68c2fc1c055cd79c8d87688a53302ee0f656e1418f4faefcc64ea3f771c14"), looks := false }, kinds := [], alts := [], laidByText := true, laidKinds := [.sentinel, .sentinel, .sentinel, .sentinel], laidTests := true, laidLooks := .later }
def FnPutRiceCardSaid : Prop := Claim7.holds Tryd.pinned (.plain (OpenSpec.ofChange fnPutRiceSpec)) fnPutRiceCard

/-- THE TIED CARD OF 'laws.FnGetRice'. -/
def fnGetRiceCard : Claim7 := { stood := { row := fnGetRiceRow, standIns := [], harness := (true, "c7d68c2fc1c055cd79c8d87688a53302ee0f656e1418f4faefcc64ea3f771c14"), looks := false }, kinds := [], alts := [], laidByText := true, laidKinds := [.sentinel, .sentinel, .sentinel, .sentinel], laidTests := true, laidLooks := .later }
def FnGetRiceCardSaid : Prop := Claim7.holds Tryd.pinned (.plain (OpenSpec.ofChange fnGetRiceSpec)) fnGetRiceCard

/-- THE TIED CARD OF 'laws.FnExactPutUnary'. -/
def fnExactPutUnaryCard : Claim7 := { stood := { row := fnExactPutUnaryRow, standIns := [], harness := (true, "c7d68c2fc1c055cd79c8d87688a53302ee0f656e1418f4faefcc64ea3f771c14"), looks := false }, kinds := [], alts := [], laidByText := true, laidKinds := [.sentinel, .sentinel, .sentinel], laidTests := true, laidLooks := .later }
def FnExactPutUnaryCardSaid : Prop := Claim7.holds Tryd.pinned (.plain (OpenSpec.ofChange fnExactPutUnarySpec)) fnExactPutUnaryCard

/-- THE TIED CARD OF 'laws.FnExactGetUnary'. -/
def fnExactGetUnaryCard : Claim7 := { stood := { row := fnExactGetUnaryRow, standIns := [], harness := (true, "c7d68c2fc1c055cd79c8d87688a53302ee0f656e1418f4faefcc64ea3f771c14"), looks := false }, kinds := [], alts := [], laidByText := true, laidKinds := [.sentinel, .sentinel, .sentinel], laidTests := true, laidLooks := .later }
def FnExactGetUnaryCardSaid : Prop := Claim7.holds Tryd.pinned (.plain (OpenSpec.ofChange fnExactGetUnarySpec)) fnExactGetUnaryCard

/-- THE TIED CARD OF 'laws.FnExactPutRice'. -/
def fnExactPutRiceCard : Claim7 := { stood := { row := fnExactPutRiceRow, standIns := [], harness := (true, "c7d68c2fc1c055cd79c8d87688a53302ee0f656e1418f4faefcc64ea3f771c14"), looks := false }, kinds := [], alts := [], laidByText := true, laidKinds := [.sentinel, .sentinel, .sentinel], laidTests := true, laidLooks := .later }
def FnExactPutRiceCardSaid : Prop := Claim7.holds Tryd.pinned (.plain (OpenSpec.ofChange fnExactPutRiceSpec)) fnExactPutRiceCard

/-- THE TIED CARD OF 'laws.FnExactGetRice'. -/
def fnExactGetRiceCard : Claim7 := { stood := { row := fnExactGetRiceRow, standIns := [], harness := (true, "c7d68c2fc1c055cd79c8d87688a53302ee0f656e1418f4faefcc64ea3f771c14"), looks := false }, kinds := [], alts := [], laidByText := true, laidKinds := [.sentinel, .sentinel, .sentinel], laidTests := true, laidLooks := .later }
def FnExactGetRiceCardSaid : Prop := Claim7.holds Tryd.pinned (.plain (OpenSpec.ofChange fnExactGetRiceSpec)) fnExactGetRiceCard

/-- THE SECOND FORM's CARD OF 'laws.FnRiceLength'. -/
def fnRiceLengthUptoCard : Claim7 := { stood := { row := fnRiceLengthUptoRow, standIns := [], harness := (true, "c7d68c2fc1c055cd79c8d87688a53302ee0f656e1418f4faefcc64ea3f771c14"), looks := false }, kinds := [], alts := [], laidByText := true, laidKinds := [.sentinel, .sentinel, .sentinel], laidTests := true, laidLooks := .later }
def FnRiceLengthUptoCardSaid : Prop := Claim7.holds Tryd.pinned (.plain (OpenSpec.upto fnRiceLengthSpec)) fnRiceLengthUptoCard

/-- THE SECOND FORM's CARD OF 'laws.FnPutUnary'. -/
def fnPutUnaryUptoCard : Claim7 := { stood := { row := fnPutUnaryUptoRow, standIns := [], harness := (true, "c7d68c2fc1c055cd79c8d87688a53302ee0f656e1418f4faefcc64ea3f771c14"), looks := false }, kinds := [], alts := [], laidByText := true, laidKinds := [.sentinel, .sentinel, .sentinel, .sentinel], laidTests := true, laidLooks := .later }
def FnPutUnaryUptoCardSaid : Prop := Claim7.holds Tryd.pinned (.plain (OpenSpec.upto fnPutUnarySpec)) fnPutUnaryUptoCard

/-- THE SECOND FORM's CARD OF 'laws.FnGetUnary'. -/
def fnGetUnaryUptoCard : Claim7 := { stood := { row := fnGetUnaryUptoRow, standIns := [], harness := (true, "c7d68c2fc1c055cd79c8d87688a53302ee0f656e1418f4faefcc64ea3f771c14"), looks := false }, kinds := [], alts := [], laidByText := true, laidKinds := [.sentinel, .sentinel, .sentinel], laidTests := true, laidLooks := .later }
def FnGetUnaryUptoCardSaid : Prop := Claim7.holds Tryd.pinned (.plain (OpenSpec.upto fnGetUnarySpec)) fnGetUnaryUptoCard

/-- THE SECOND FORM's CARD OF 'laws.FnPutRice'. -/
def fnPutRiceUptoCard : Claim7 := { stood := { row := fnPutRiceUptoRow, standIns := [], harness := (true, "c7d68c2fc1c055cd79c8d87688a53302ee0f656e1418f4faefcc64ea3f771c14"), looks := false }, kinds := [], alts := [], laidByText := true, laidKinds := [.sentinel, .sentinel, .sentinel, .sentinel], laidTests := true, laidLooks := .later }
def FnPutRiceUptoCardSaid : Prop := Claim7.holds Tryd.pinned (.plain (OpenSpec.upto fnPutRiceSpec)) fnPutRiceUptoCard

/-- THE SECOND FORM's CARD OF 'laws.FnGetRice'. -/
def fnGetRiceUptoCard : Claim7 := { stood := { row := fnGetRiceUptoRow, standIns := [], harness := (true, "c7d68c2fc1c055cd79c8d87688a53302ee0f656e1418f4faefcc64ea3f771c14"), looks := false }, kinds := [], alts := [], laidByText := true, laidKinds := [.sentinel, .sentinel, .sentinel, .sentinel], laidTests := true, laidLooks := .later }
def FnGetRiceUptoCardSaid : Prop := Claim7.holds Tryd.pinned (.plain (OpenSpec.upto fnGetRiceSpec)) fnGetRiceUptoCard

/-- THE SECOND FORM's CARD OF 'laws.FnExactPutUnary'. -/
def fnExactPutUnaryUptoCard : Claim7 := { stood := { row := fnExactPutUnaryUptoRow, standIns := [], harness := (true, "c7d68c2fc1c055cd79c8d87688a53302ee0f656e1418f4faefcc64ea3f771c14"), looks := false }, kinds := [], alts := [], laidByText := true, laidKinds := [.sentinel, .sentinel, .sentinel], laidTests := true, laidLooks := .later }
def FnExactPutUnaryUptoCardSaid : Prop := Claim7.holds Tryd.pinned (.plain (OpenSpec.upto fnExactPutUnarySpec)) fnExactPutUnaryUptoCard

/-- THE SECOND FORM's CARD OF 'laws.FnExactGetUnary'. -/
def fnExactGetUnaryUptoCard : Claim7 := { stood := { row := fnExactGetUnaryUptoRow, standIns := [], harness := (true, "c7d68c2fc1c055cd79c8d87688a53302ee0f656e1418f4faefcc64ea3f771c14"), looks := false }, kinds := [], alts := [], laidByText := true, laidKinds := [.sentinel, .sentinel, .sentinel], laidTests := true, laidLooks := .later }
def FnExactGetUnaryUptoCardSaid : Prop := Claim7.holds Tryd.pinned (.plain (OpenSpec.upto fnExactGetUnarySpec)) fnExactGetUnaryUptoCard

/-- THE SECOND FORM's CARD OF 'laws.FnExactPutRice'. -/
def fnExactPutRiceUptoCard : Claim7 := { stood := { row := fnExactPutRiceUptoRow, standIns := [], harness := (true, "c7d68c2fc1c055cd79c8d87688a53302ee0f656e1418f4faefcc64ea3f771c14"), looks := false }, kinds := [], alts := [], laidByText := true, laidKinds := [.sentinel, .sentinel, .sentinel], laidTests := true, laidLooks := .later }
def FnExactPutRiceUptoCardSaid : Prop := Claim7.holds Tryd.pinned (.plain (OpenSpec.upto fnExactPutRiceSpec)) fnExactPutRiceUptoCard

/-- THE SECOND FORM's CARD OF 'laws.FnExactGetRice'. -/
def fnExactGetRiceUptoCard : Claim7 := { stood := { row := fnExactGetRiceUptoRow, standIns := [], harness := (true, "c7d68c2fc1c055cd79c8d87688a53302ee0f656e1418f4faefcc64ea3f771c14"), looks := false }, kinds := [], alts := [], laidByText := true, laidKinds := [.sentinel, .sentinel, .sentinel], laidTests := true, laidLooks := .later }
def FnExactGetRiceUptoCardSaid : Prop := Claim7.holds Tryd.pinned (.plain (OpenSpec.upto fnExactGetRiceSpec)) fnExactGetRiceUptoCard
end Rows
end Go.Proofs.YtdbneenlejgjcaaDoor
