/-
  DERIVED. GIVEN WITH THE SEED: THE CARDS: each row of YtcgcippniicaaaaDoorRows.lean that lists a variable, with what it lists TIED to the program's text (the seventh form; the later family's looks); each row that meets fmt, with fmt's text TOLD by the authors' own Lean function (tested against real Go, not proved from fmt's source: count such statements apart). THE CARD IS WHAT COUNTS. Prove the row's statement (the work); the ties are given (YtcgcippniicaaaaDoorTie.lean); close each card by the builder's one call (the guide's Derived/Test/ToyasCard.lean, 'card_holds'). Laid BY PROGRAM, IN A SANDBOX (cutbox-door.mjs). By AI agents, Wed Nov 11 2026. No macro, syntax, notation, axiom, sorry.
-/
import Derived.Test.YtcgcippniicaaaaDoorRows
import GoSem.ClaimSeven
namespace Go.Proofs.YtcgcippniicaaaaDoor
namespace Rows

/-- THE TIED CARD OF 'laws.FnPutBits'. -/
def fnPutBitsCard : Claim7 := { stood := { row := fnPutBitsRow, standIns := [], harness := (true, "7cfdf1b9520d280ecb035c9ba53f3e9afb6ed4b412fb84ad37b068b710c6c794"), looks := false }, kinds := [], alts := [], laidByText := true, laidKinds := [.sentinel, .sentinel, .sentinel, .sentinel], laidTests := true, laidLooks := .later }
def FnPutBitsCardSaid : Prop := Claim7.holds Tryd.pinned (.plain (OpenSpec.ofChange fnPutBitsSpec)) fnPutBitsCard

/-- THE TIED CARD OF 'laws.FnPutBitsParts'. -/
def fnPutBitsPartsCard : Claim7 := { stood := { row := fnPutBitsPartsRow, standIns := [], harness := (true, "7cfdf1b9520d280ecb035c9ba53f3e9afb6ed4b412fb84ad37b068b710c6c794"), looks := false }, kinds := [], alts := [], laidByText := true, laidKinds := [.sentinel, .sentinel, .sentinel], laidTests := true, laidLooks := .later }
def FnPutBitsPartsCardSaid : Prop := Claim7.holds Tryd.pinned (.plain (OpenSpec.ofChange fnPutBitsPartsSpec)) fnPutBitsPartsCard

/-- THE TIED CARD OF 'laws.FnGetBits'. -/
def fnGetBitsCard : Claim7 := { stood := { row := fnGetBitsRow, standIns := [], harness := (true, "7cfdf1b9520d280ecb035c9ba53f3e9afb6ed4b412fb84ad37b068b710c6c794"), looks := false }, kinds := [], alts := [], laidByText := true, laidKinds := [.sentinel, .sentinel, .sentinel], laidTests := true, laidLooks := .later }
def FnGetBitsCardSaid : Prop := Claim7.holds Tryd.pinned (.plain (OpenSpec.ofChange fnGetBitsSpec)) fnGetBitsCard

/-- THE TIED CARD OF 'laws.FnJoinBits'. -/
def fnJoinBitsCard : Claim7 := { stood := { row := fnJoinBitsRow, standIns := [], harness := (true, "7cfdf1b9520d280ecb035c9ba53f3e9afb6ed4b412fb84ad37b068b710c6c794"), looks := false }, kinds := [], alts := [], laidByText := true, laidKinds := [.sentinel, .sentinel, .sentinel, .sentinel], laidTests := true, laidLooks := .later }
def FnJoinBitsCardSaid : Prop := Claim7.holds Tryd.pinned (.plain (OpenSpec.ofChange fnJoinBitsSpec)) fnJoinBitsCard

/-- THE TIED CARD OF 'laws.FnBitsOf'. -/
def fnBitsOfCard : Claim7 := { stood := { row := fnBitsOfRow, standIns := [], harness := (true, "7cfdf1b9520d280ecb035c9ba53f3e9afb6ed4b412fb84ad37b068b710c6c794"), looks := false }, kinds := [], alts := [], laidByText := true, laidKinds := [.sentinel, .sentinel, .sentinel], laidTests := true, laidLooks := .later }
def FnBitsOfCardSaid : Prop := Claim7.holds Tryd.pinned (.plain (OpenSpec.ofChange fnBitsOfSpec)) fnBitsOfCard

/-- THE TIED CARD OF 'laws.FnPutBitsNothing'. -/
def fnPutBitsNothingCard : Claim7 := { stood := { row := fnPutBitsNothingRow, standIns := [], harness := (true, "7cfdf1b9520d280ecb035c9ba53f3e9afb6ed4b412fb84ad37b068b710c6c794"), looks := false }, kinds := [], alts := [], laidByText := true, laidKinds := [.sentinel, .sentinel, .sentinel], laidTests := true, laidLooks := .later }
def FnPutBitsNothingCardSaid : Prop := Claim7.holds Tryd.pinned (.plain (OpenSpec.ofChange fnPutBitsNothingSpec)) fnPutBitsNothingCard

/-- THE TIED CARD OF 'laws.FnJoinBitsThree'. -/
def fnJoinBitsThreeCard : Claim7 := { stood := { row := fnJoinBitsThreeRow, standIns := [], harness := (true, "7cfdf1b9520d280ecb035c9ba53f3e9afb6ed4b412fb84ad37b068b710c6c794"), looks := false }, kinds := [], alts := [], laidByText := true, laidKinds := [.sentinel, .sentinel, .sentinel], laidTests := true, laidLooks := .later }
def FnJoinBitsThreeCardSaid : Prop := Claim7.holds Tryd.pinned (.plain (OpenSpec.ofChange fnJoinBitsThreeSpec)) fnJoinBitsThreeCard

/-- THE TIED CARD OF 'laws.FnExactPutBits'. -/
def fnExactPutBitsCard : Claim7 := { stood := { row := fnExactPutBitsRow, standIns := [], harness := (true, "7cfdf1b9520d280ecb035c9ba53f3e9afb6ed4b412fb84ad37b068b710c6c794"), looks := false }, kinds := [], alts := [], laidByText := true, laidKinds := [.sentinel, .sentinel, .sentinel], laidTests := true, laidLooks := .later }
def FnExactPutBitsCardSaid : Prop := Claim7.holds Tryd.pinned (.plain (OpenSpec.ofChange fnExactPutBitsSpec)) fnExactPutBitsCard

/-- THE TIED CARD OF 'laws.FnExactGetBits'. -/
def fnExactGetBitsCard : Claim7 := { stood := { row := fnExactGetBitsRow, standIns := [], harness := (true, "7cfdf1b9520d280ecb035c9ba53f3e9afb6ed4b412fb84ad37b068b710c6c794"), looks := false }, kinds := [], alts := [], laidByText := true, laidKinds := [.sentinel, .sentinel, .sentinel], laidTests := true, laidLooks := .later }
def FnExactGetBitsCardSaid : Prop := Claim7.holds Tryd.pinned (.plain (OpenSpec.ofChange fnExactGetBitsSpec)) fnExactGetBitsCard

/-- THE TIED CARD OF 'laws.FnExactJoinBits'. -/
def fnExactJoinBitsCard : Claim7 := { stood := { row := fnExactJoinBitsRow, standIns := [], harness := (true, "7cfdf1b9520d280ecb035c9ba53f3e9afb6ed4b412fb84ad37b068b710c6c794"), looks := false }, kinds := [], alts := [], laidByText := true, laidKinds := [.sentinel, .sentinel, .sentinel], laidTests := true, laidLooks := .later }
def FnExactJoinBitsCardSaid : Prop := Claim7.holds Tryd.pinned (.plain (OpenSpec.ofChange fnExactJoinBitsSpec)) fnExactJoinBitsCard

/-- THE SECOND FORM's CARD OF 'laws.FnPutBits'. -/
def fnPutBitsUptoCard : Claim7 := { stood := { row := fnPutBitsUptoRow, standIns := [], harness := (true, "7cfdf1b9520d280ecb035c9ba53f3e9afb6ed4b412fb84ad37b068b710c6c794"), looks := false }, kinds := [], alts := [], laidByText := true, laidKinds := [.sentinel, .sentinel, .sentinel, .sentinel], laidTests := true, laidLooks := .later }
def FnPutBitsUptoCardSaid : Prop := Claim7.holds Tryd.pinned (.plain (OpenSpec.upto fnPutBitsSpec)) fnPutBitsUptoCard

/-- THE SECOND FORM's CARD OF 'laws.FnPutBitsParts'. -/
def fnPutBitsPartsUptoCard : Claim7 := { stood := { row := fnPutBitsPartsUptoRow, standIns := [], harness := (true, "7cfdf1b9520d280ecb035c9ba53f3e9afb6ed4b412fb84ad37b068b710c6c794"), looks := false }, kinds := [], alts := [], laidByText := true, laidKinds := [.sentinel, .sentinel, .sentinel], laidTests := true, laidLooks := .later }
def FnPutBitsPartsUptoCardSaid : Prop := Claim7.holds Tryd.pinned (.plain (OpenSpec.upto fnPutBitsPartsSpec)) fnPutBitsPartsUptoCard

/-- THE SECOND FORM's CARD OF 'laws.FnGetBits'. -/
def fnGetBitsUptoCard : Claim7 := { stood := { row := fnGetBitsUptoRow, standIns := [], harness := (true, "7cfdf1b9520d280ecb035c9ba53f3e9afb6ed4b412fb84ad37b068b710c6c794"), looks := false }, kinds := [], alts := [], laidByText := true, laidKinds := [.sentinel, .sentinel, .sentinel], laidTests := true, laidLooks := .later }
def FnGetBitsUptoCardSaid : Prop := Claim7.holds Tryd.pinned (.plain (OpenSpec.upto fnGetBitsSpec)) fnGetBitsUptoCard

/-- THE SECOND FORM's CARD OF 'laws.FnJoinBits'. -/
def fnJoinBitsUptoCard : Claim7 := { stood := { row := fnJoinBitsUptoRow, standIns := [], harness := (true, "7cfdf1b9520d280ecb035c9ba53f3e9afb6ed4b412fb84ad37b068b710c6c794"), looks := false }, kinds := [], alts := [], laidByText := true, laidKinds := [.sentinel, .sentinel, .sentinel, .sentinel], laidTests := true, laidLooks := .later }
def FnJoinBitsUptoCardSaid : Prop := Claim7.holds Tryd.pinned (.plain (OpenSpec.upto fnJoinBitsSpec)) fnJoinBitsUptoCard

/-- THE SECOND FORM's CARD OF 'laws.FnBitsOf'. -/
def fnBitsOfUptoCard : Claim7 := { stood := { row := fnBitsOfUptoRow, standIns := [], harness := (true, "7cfdf1b9520d280ecb035c9ba53f3e9afb6ed4b412fb84ad37b068b710c6c794"), looks := false }, kinds := [], alts := [], laidByText := true, laidKinds := [.sentinel, .sentinel, .sentinel], laidTests := true, laidLooks := .later }
def FnBitsOfUptoCardSaid : Prop := Claim7.holds Tryd.pinned (.plain (OpenSpec.upto fnBitsOfSpec)) fnBitsOfUptoCard

/-- THE SECOND FORM's CARD OF 'laws.FnPutBitsNothing'. -/
def fnPutBitsNothingUptoCard : Claim7 := { stood := { row := fnPutBitsNothingUptoRow, standIns := [], harness := (true, "7cfdf1b9520d280ecb035c9ba53f3e9afb6ed4b412fb84ad37b068b710c6c794"), looks := false }, kinds := [], alts := [], laidByText := true, laidKinds := [.sentinel, .sentinel, .sentinel], laidTests := true, laidLooks := .later }
def FnPutBitsNothingUptoCardSaid : Prop := Claim7.holds Tryd.pinned (.plain (OpenSpec.upto fnPutBitsNothingSpec)) fnPutBitsNothingUptoCard

/-- THE SECOND FORM's CARD OF 'laws.FnJoinBitsThree'. -/
def fnJoinBitsThreeUptoCard : Claim7 := { stood := { row := fnJoinBitsThreeUptoRow, standIns := [], harness := (true, "7cfdf1b9520d280ecb035c9ba53f3e9afb6ed4b412fb84ad37b068b710c6c794"), looks := false }, kinds := [], alts := [], laidByText := true, laidKinds := [.sentinel, .sentinel, .sentinel], laidTests := true, laidLooks := .later }
def FnJoinBitsThreeUptoCardSaid : Prop := Claim7.holds Tryd.pinned (.plain (OpenSpec.upto fnJoinBitsThreeSpec)) fnJoinBitsThreeUptoCard

/-- THE SECOND FORM's CARD OF 'laws.FnExactPutBits'. -/
def fnExactPutBitsUptoCard : Claim7 := { stood := { row := fnExactPutBitsUptoRow, standIns := [], harness := (true, "7cfdf1b9520d280ecb035c9ba53f3e9afb6ed4b412fb84ad37b068b710c6c794"), looks := false }, kinds := [], alts := [], laidByText := true, laidKinds := [.sentinel, .sentinel, .sentinel], laidTests := true, laidLooks := .later }
def FnExactPutBitsUptoCardSaid : Prop := Claim7.holds Tryd.pinned (.plain (OpenSpec.upto fnExactPutBitsSpec)) fnExactPutBitsUptoCard

/-- THE SECOND FORM's CARD OF 'laws.FnExactGetBits'. -/
def fnExactGetBitsUptoCard : Claim7 := { stood := { row := fnExactGetBitsUptoRow, standIns := [], harness := (true, "7cfdf1b9520d280ecb035c9ba53f3e9afb6ed4b412fb84ad37b068b710c6c794"), looks := false }, kinds := [], alts := [], laidByText := true, laidKinds := [.sentinel, .sentinel, .sentinel], laidTests := true, laidLooks := .later }
def FnExactGetBitsUptoCardSaid : Prop := Claim7.holds Tryd.pinned (.plain (OpenSpec.upto fnExactGetBitsSpec)) fnExactGetBitsUptoCard

/-- THE SECOND FORM's CARD OF 'laws.FnExactJoinBits'. -/
def fnExactJoinBitsUptoCard : Claim7 := { stood := { row := fnExactJoinBitsUptoRow, standIns := [], harness := (true, "7cfdf1b9520d280ecb035c9ba53f3e9afb6ed4b412fb84ad37b068b710c6c794"), looks := false }, kinds := [], alts := [], laidByText := true, laidKinds := [.sentinel, .sentinel, .sentinel], laidTests := true, laidLooks := .later }
def FnExactJoinBitsUptoCardSaid : Prop := Claim7.holds Tryd.pinned (.plain (OpenSpec.upto fnExactJoinBitsSpec)) fnExactJoinBitsUptoCard
end Rows
end Go.Proofs.YtcgcippniicaaaaDoor
