/-
  DERIVED. GIVEN WITH THE SEED: THE CARDS: each row of YtikblehndmikoaaDoorRows.lean that lists a variable, with what it lists TIED to the program's text (the seventh form; the later family's looks); each row that meets fmt, with fmt's text TOLD by the authors' own Lean function (tested against real Go, not proved from fmt's source: count such statements apart). THE CARD IS WHAT COUNTS. Prove the row's statement (the work); the ties are given (YtikblehndmikoaaDoorTie.lean); close each card by the builder's one call (the guide's Derived/Test/ToyasCard.lean, 'card_holds'). Laid BY PROGRAM, IN A SANDBOX (cutbox-door.mjs). By AI agents, Wed Nov 11 2026. No macro, syntax, notation, axiom, sorry.
-/
import Derived.Test.YtikblehndmikoaaDoorRows
import GoSem.ClaimSeven
namespace Go.Proofs.YtikblehndmikoaaDoor
namespace Rows

/-- THE TIED CARD OF 'laws.FnWastedBits'. -/
def fnWastedBitsCard : Claim7 := { stood := { row := fnWastedBitsRow, standIns := [], harness := (true, "726cd4e645c082e90faf72241fedc7488625710b3c0568e22cdf2a0ab900c8ca"), looks := false }, kinds := [], alts := [], laidByText := true, laidKinds := [.data, .data], laidTests := true, laidLooks := .later }
def FnWastedBitsCardSaid : Prop := Claim7.holds Tryd.pinned (.plain (OpenSpec.ofChange fnWastedBitsSpec)) fnWastedBitsCard

/-- THE TIED CARD OF 'laws.FnWastedBitsMore'. -/
def fnWastedBitsMoreCard : Claim7 := { stood := { row := fnWastedBitsMoreRow, standIns := [], harness := (true, "726cd4e645c082e90faf72241fedc7488625710b3c0568e22cdf2a0ab900c8ca"), looks := false }, kinds := [], alts := [], laidByText := true, laidKinds := [.data, .data], laidTests := true, laidLooks := .later }
def FnWastedBitsMoreCardSaid : Prop := Claim7.holds Tryd.pinned (.plain (OpenSpec.ofChange fnWastedBitsMoreSpec)) fnWastedBitsMoreCard

/-- THE TIED CARD OF 'laws.FnShiftUp'. -/
def fnShiftUpCard : Claim7 := { stood := { row := fnShiftUpRow, standIns := [], harness := (true, "726cd4e645c082e90faf72241fedc7488625710b3c0568e22cdf2a0ab900c8ca"), looks := false }, kinds := [], alts := [], laidByText := true, laidKinds := [.data, .data], laidTests := true, laidLooks := .later }
def FnShiftUpCardSaid : Prop := Claim7.holds Tryd.pinned (.plain (OpenSpec.ofChange fnShiftUpSpec)) fnShiftUpCard

/-- THE TIED CARD OF 'laws.FnExactWastedBits'. -/
def fnExactWastedBitsCard : Claim7 := { stood := { row := fnExactWastedBitsRow, standIns := [], harness := (true, "726cd4e645c082e90faf72241fedc7488625710b3c0568e22cdf2a0ab900c8ca"), looks := false }, kinds := [], alts := [], laidByText := true, laidKinds := [.data, .data], laidTests := true, laidLooks := .later }
def FnExactWastedBitsCardSaid : Prop := Claim7.holds Tryd.pinned (.plain (OpenSpec.ofChange fnExactWastedBitsSpec)) fnExactWastedBitsCard

/-- THE SECOND FORM's CARD OF 'laws.FnWastedBits'. -/
def fnWastedBitsUptoCard : Claim7 := { stood := { row := fnWastedBitsUptoRow, standIns := [], harness := (true, "726cd4e645c082e90faf72241fedc7488625710b3c0568e22cdf2a0ab900c8ca"), looks := false }, kinds := [], alts := [], laidByText := true, laidKinds := [.data, .data], laidTests := true, laidLooks := .later }
def FnWastedBitsUptoCardSaid : Prop := Claim7.holds Tryd.pinned (.plain (OpenSpec.upto fnWastedBitsSpec)) fnWastedBitsUptoCard

/-- THE SECOND FORM's CARD OF 'laws.FnWastedBitsMore'. -/
def fnWastedBitsMoreUptoCard : Claim7 := { stood := { row := fnWastedBitsMoreUptoRow, standIns := [], harness := (true, "726cd4e645c082e90faf72241fedc7488625710b3c0568e22cdf2a0ab900c8ca"), looks := false }, kinds := [], alts := [], laidByText := true, laidKinds := [.data, .data], laidTests := true, laidLooks := .later }
def FnWastedBitsMoreUptoCardSaid : Prop := Claim7.holds Tryd.pinned (.plain (OpenSpec.upto fnWastedBitsMoreSpec)) fnWastedBitsMoreUptoCard

/-- THE SECOND FORM's CARD OF 'laws.FnShiftUp'. -/
def fnShiftUpUptoCard : Claim7 := { stood := { row := fnShiftUpUptoRow, standIns := [], harness := (true, "726cd4e645c082e90faf72241fedc7488625710b3c0568e22cdf2a0ab900c8ca"), looks := false }, kinds := [], alts := [], laidByText := true, laidKinds := [.data, .data], laidTests := true, laidLooks := .later }
def FnShiftUpUptoCardSaid : Prop := Claim7.holds Tryd.pinned (.plain (OpenSpec.upto fnShiftUpSpec)) fnShiftUpUptoCard

/-- THE SECOND FORM's CARD OF 'laws.FnExactWastedBits'. -/
def fnExactWastedBitsUptoCard : Claim7 := { stood := { row := fnExactWastedBitsUptoRow, standIns := [], harness := (true, "726cd4e645c082e90faf72241fedc7488625710b3c0568e22cdf2a0ab900c8ca"), looks := false }, kinds := [], alts := [], laidByText := true, laidKinds := [.data, .data], laidTests := true, laidLooks := .later }
def FnExactWastedBitsUptoCardSaid : Prop := Claim7.holds Tryd.pinned (.plain (OpenSpec.upto fnExactWastedBitsSpec)) fnExactWastedBitsUptoCard
end Rows
end Go.Proofs.YtikblehndmikoaaDoor
