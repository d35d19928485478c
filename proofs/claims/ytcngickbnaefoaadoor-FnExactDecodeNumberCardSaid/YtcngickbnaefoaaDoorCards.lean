/-
  DERIVED. GIVEN WITH THE SEED: THE CARDS: each row of YtcngickbnaefoaaDoorRows.lean that lists a variable, with what it lists TIED to the program's text (the seventh form; the later family's looks); each row that meets fmt, with fmt's text TOLD by the authors' own Lean function (tested against real Go, not proved from fmt's source: count such statements apart). THE CARD IS WHAT COUNTS. Prove the row's statement (the work); the ties are given (YtcngickbnaefoaaDoorTie.lean); close each card by the builder's one call (the guide's Derived/Test/ToyasCard.lean, 'card_holds'). Laid BY PROGRAM, IN A SANDBOX (cutbox-door.mjs). By AI agents, Wed Nov 11 2026. No macro, syntax, notation, axiom, sorry.
-/
import Derived.Test.YtcngickbnaefoaaDoorRows
import GoSem.ClaimSeven
namespace Go.Proofs.YtcngickbnaefoaaDoor
namespace Rows

/-- THE TIED CARD OF 'laws.FnEncodeNumber'. -/
def fnEncodeNumberCard : Claim7 := { stood := { row := fnEncodeNumberRow, standIns := [], harness := (true, "2719103b312209e325216891a39f881628f08a964ccafd8ea3a4ae7fad6b5bbc"), looks := false }, kinds := [], alts := [], laidByText := true, laidKinds := [.data], laidTests := true, laidLooks := .later }
def FnEncodeNumberCardSaid : Prop := Claim7.holds Tryd.pinned (.plain (OpenSpec.ofChange fnEncodeNumberSpec)) fnEncodeNumberCard

/-- THE TIED CARD OF 'laws.FnEncodeNumberParts'. -/
def fnEncodeNumberPartsCard : Claim7 := { stood := { row := fnEncodeNumberPartsRow, standIns := [], harness := (true, "2719103b312209e325216891a39f881628f08a964ccafd8ea3a4ae7fad6b5bbc"), looks := false }, kinds := [], alts := [], laidByText := true, laidKinds := [.data], laidTests := true, laidLooks := .later }
def FnEncodeNumberPartsCardSaid : Prop := Claim7.holds Tryd.pinned (.plain (OpenSpec.ofChange fnEncodeNumberPartsSpec)) fnEncodeNumberPartsCard

/-- THE TIED CARD OF 'laws.FnDecodeNumber'. -/
def fnDecodeNumberCard : Claim7 := { stood := { row := fnDecodeNumberRow, standIns := [], harness := (true, "2719103b312209e325216891a39f881628f08a964ccafd8ea3a4ae7fad6b5bbc"), looks := false }, kinds := [], alts := [], laidByText := true, laidKinds := [.data], laidTests := true, laidLooks := .later }
def FnDecodeNumberCardSaid : Prop := Claim7.holds Tryd.pinned (.plain (OpenSpec.ofChange fnDecodeNumberSpec)) fnDecodeNumberCard

/-- THE TIED CARD OF 'laws.FnExactEncodeNumber'. -/
def fnExactEncodeNumberCard : Claim7 := { stood := { row := fnExactEncodeNumberRow, standIns := [], harness := (true, "2719103b312209e325216891a39f881628f08a964ccafd8ea3a4ae7fad6b5bbc"), looks := false }, kinds := [], alts := [], laidByText := true, laidKinds := [.data], laidTests := true, laidLooks := .later }
def FnExactEncodeNumberCardSaid : Prop := Claim7.holds Tryd.pinned (.plain (OpenSpec.ofChange fnExactEncodeNumberSpec)) fnExactEncodeNumberCard

/-- THE TIED CARD OF 'laws.FnExactDecodeNumber'. -/
def fnExactDecodeNumberCard : Claim7 := { stood := { row := fnExactDecodeNumberRow, standIns := [], harness := (true, "2719103b312209e325216891a39f881628f08a964ccafd8ea3a4ae7fad6b5bbc"), looks := false }, kinds := [], alts := [], laidByText := true, laidKinds := [.data], laidTests := true, laidLooks := .later }
def FnExactDecodeNumberCardSaid : Prop := Claim7.holds Tryd.pinned (.plain (OpenSpec.ofChange fnExactDecodeNumberSpec)) fnExactDecodeNumberCard

/-- THE SECOND FORM's CARD OF 'laws.FnEncodeNumber'. -/
def fnEncodeNumberUptoCard : Claim7 := { stood := { row := fnEncodeNumberUptoRow, standIns := [], harness := (true, "2719103b312209e325216891a39f881628f08a964ccafd8ea3a4ae7fad6b5bbc"), looks := false }, kinds := [], alts := [], laidByText := true, laidKinds := [.data], laidTests := true, laidLooks := .later }
def FnEncodeNumberUptoCardSaid : Prop := Claim7.holds Tryd.pinned (.plain (OpenSpec.upto fnEncodeNumberSpec)) fnEncodeNumberUptoCard

/-- THE SECOND FORM's CARD OF 'laws.FnEncodeNumberParts'. -/
def fnEncodeNumberPartsUptoCard : Claim7 := { stood := { row := fnEncodeNumberPartsUptoRow, standIns := [], harness := (true, "2719103b312209e325216891a39f881628f08a964ccafd8ea3a4ae7fad6b5bbc"), looks := false }, kinds := [], alts := [], laidByText := true, laidKinds := [.data], laidTests := true, laidLooks := .later }
def FnEncodeNumberPartsUptoCardSaid : Prop := Claim7.holds Tryd.pinned (.plain (OpenSpec.upto fnEncodeNumberPartsSpec)) fnEncodeNumberPartsUptoCard

/-- THE SECOND FORM's CARD OF 'laws.FnDecodeNumber'. -/
def fnDecodeNumberUptoCard : Claim7 := { stood := { row := fnDecodeNumberUptoRow, standIns := [], harness := (true, "2719103b312209e325216891a39f881628f08a964ccafd8ea3a4ae7fad6b5bbc"), looks := false }, kinds := [], alts := [], laidByText := true, laidKinds := [.data], laidTests := true, laidLooks := .later }
def FnDecodeNumberUptoCardSaid : Prop := Claim7.holds Tryd.pinned (.plain (OpenSpec.upto fnDecodeNumberSpec)) fnDecodeNumberUptoCard

/-- THE SECOND FORM's CARD OF 'laws.FnExactEncodeNumber'. -/
def fnExactEncodeNumberUptoCard : Claim7 := { stood := { row := fnExactEncodeNumberUptoRow, standIns := [], harness := (true, "2719103b312209e325216891a39f881628f08a964ccafd8ea3a4ae7fad6b5bbc"), looks := false }, kinds := [], alts := [], laidByText := true, laidKinds := [.data], laidTests := true, laidLooks := .later }
def FnExactEncodeNumberUptoCardSaid : Prop := Claim7.holds Tryd.pinned (.plain (OpenSpec.upto fnExactEncodeNumberSpec)) fnExactEncodeNumberUptoCard

/-- THE SECOND FORM's CARD OF 'laws.FnExactDecodeNumber'. -/
def fnExactDecodeNumberUptoCard : Claim7 := { stood := { row := fnExactDecodeNumberUptoRow, standIns := [], harness := (true, "2719103b312209e325216891a39f881628f08a964ccafd8ea3a4ae7fad6b5bbc"), looks := false }, kinds := [], alts := [], laidByText := true, laidKinds := [.data], laidTests := true, laidLooks := .later }
def FnExactDecodeNumberUptoCardSaid : Prop := Claim7.holds Tryd.pinned (.plain (OpenSpec.upto fnExactDecodeNumberSpec)) fnExactDecodeNumberUptoCard
end Rows
end Go.Proofs.YtcngickbnaefoaaDoor
