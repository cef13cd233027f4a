/-
  DERIVED. GIVEN WITH THE SEED: THE CARDS: each row of YthkbeaffkcfgiabGreatDoorRows.lean that lists a variable, with what it lists TIED to the program's text (the seventh form; the later family's looks); each row that meets fmt, with fmt's text TOLD by the authors' own Lean function (tested against real Go, not proved from fmt's source: count such statements apart). THE CARD IS WHAT COUNTS. Prove the row's statement (the work); the ties are given (YthkbeaffkcfgiabGreatDoorTie.lean); close each card by the builder's one call (the guide's Derived/Test/ToyasCard.lean, 'card_holds'). Laid BY PROGRAM, IN A SANDBOX (cutbox-door.mjs). By AI agents, Wed Nov 11 2026. No macro, syntax, notation, axiom, sorry.
-/
import Derived.Test.YthkbeaffkcfgiabGreatDoorRows
import GoSem.ClaimSeven
namespace Go.Proofs.YthkbeaffkcfgiabGreatDoor
namespace Rows

/-- THE TIED CARD OF 'sceneslaw.Unpacks'. -/
def unpacksCard : Claim7 := { stood := { row := unpacksRow, standIns := [], harness := (true, "efbf0eed3b0a4b5ea7218526b0f8d6b851620bab8bbbbe7228ae5ba3fa0b9b77"), looks := true }, kinds := [], alts := [], goes := true, laidByText := true, laidKinds := [.data, .data, .data, .data, .sentinel, .sentinel, .pinned], laidTests := true, laidLooks := .later }
def UnpacksCardSaid : Prop := Claim7.holds Tryz.pinned (.plain (OpenSpec.ofChange unpacksSpec)) unpacksCard

/-- THE TIED CARD OF 'sceneslaw.Puts'. -/
def putsCard : Claim7 := { stood := { row := putsRow, standIns := [], harness := (true, "efbf0eed3b0a4b5ea7218526b0f8d6b851620bab8bbbbe7228ae5ba3fa0b9b77"), looks := true }, kinds := [], alts := [], goes := true, laidByText := true, laidKinds := [.data, .data, .data, .data, .sentinel, .sentinel, .pinned], laidTests := true, laidLooks := .later }
def PutsCardSaid : Prop := Claim7.holds Tryz.pinned (.plain (OpenSpec.ofChange putsSpec)) putsCard

/-- THE TIED CARD OF 'sceneslaw.Owned'. -/
def ownedCard : Claim7 := { stood := { row := ownedRow, standIns := [], harness := (true, "efbf0eed3b0a4b5ea7218526b0f8d6b851620bab8bbbbe7228ae5ba3fa0b9b77"), looks := true }, kinds := [], alts := [], goes := true, laidByText := true, laidKinds := [.data, .data, .data, .data, .sentinel, .sentinel, .pinned], laidTests := true, laidLooks := .later }
def OwnedCardSaid : Prop := Claim7.holds Tryz.pinned (.plain (OpenSpec.ofChange ownedSpec)) ownedCard

/-- THE TIED CARD OF 'sceneslaw.All'. -/
def allCard : Claim7 := { stood := { row := allRow, standIns := [], harness := (true, "efbf0eed3b0a4b5ea7218526b0f8d6b851620bab8bbbbe7228ae5ba3fa0b9b77"), looks := true }, kinds := [], alts := [], goes := true, laidByText := true, laidKinds := [.data, .data, .data, .data, .sentinel, .sentinel, .pinned], laidTests := true, laidLooks := .later }
def AllCardSaid : Prop := Claim7.holds Tryz.pinned (.plain (OpenSpec.ofChange allSpec)) allCard

/-- THE TIED CARD OF 'sceneskeep.Round'. -/
def roundCard : Claim7 := { stood := { row := roundRow, standIns := [], harness := (true, "efbf0eed3b0a4b5ea7218526b0f8d6b851620bab8bbbbe7228ae5ba3fa0b9b77"), looks := true }, kinds := [], alts := [], goes := true, laidByText := true, laidKinds := [.data, .data, .data, .data, .sentinel, .sentinel, .data, .data, .data, .pinned], laidTests := true, laidLooks := .later }
def RoundCardSaid : Prop := Claim7.holds Tryz.pinned (.plain (OpenSpec.ofChange roundSpec)) roundCard

/-- THE TIED CARD OF 'sceneskeep.Beside'. -/
def besideCard : Claim7 := { stood := { row := besideRow, standIns := [], harness := (true, "efbf0eed3b0a4b5ea7218526b0f8d6b851620bab8bbbbe7228ae5ba3fa0b9b77"), looks := true }, kinds := [], alts := [], goes := true, laidByText := true, laidKinds := [.data, .data, .data, .data, .sentinel, .sentinel, .data, .data, .data, .pinned], laidTests := true, laidLooks := .later }
def BesideCardSaid : Prop := Claim7.holds Tryz.pinned (.plain (OpenSpec.ofChange besideSpec)) besideCard

/-- THE TIED CARD OF 'sceneskeep.Gone'. -/
def goneCard : Claim7 := { stood := { row := goneRow, standIns := [], harness := (true, "efbf0eed3b0a4b5ea7218526b0f8d6b851620bab8bbbbe7228ae5ba3fa0b9b77"), looks := true }, kinds := [], alts := [], goes := true, laidByText := true, laidKinds := [.data, .data, .data, .data, .pinned], laidTests := true, laidLooks := .later }
def GoneCardSaid : Prop := Claim7.holds Tryz.pinned (.plain (OpenSpec.ofChange goneSpec)) goneCard

/-- THE TIED CARD OF 'sceneskeep.Counted'. -/
def countedCard : Claim7 := { stood := { row := countedRow, standIns := [], harness := (true, "efbf0eed3b0a4b5ea7218526b0f8d6b851620bab8bbbbe7228ae5ba3fa0b9b77"), looks := true }, kinds := [], alts := [], goes := true, laidByText := true, laidKinds := [.data, .data, .data, .data, .data, .data, .data, .pinned], laidTests := true, laidLooks := .later }
def CountedCardSaid : Prop := Claim7.holds Tryz.pinned (.plain (OpenSpec.ofChange countedSpec)) countedCard

/-- THE TIED CARD OF 'sceneskeep.Lives'. -/
def livesCard : Claim7 := { stood := { row := livesRow, standIns := [], harness := (true, "efbf0eed3b0a4b5ea7218526b0f8d6b851620bab8bbbbe7228ae5ba3fa0b9b77"), looks := true }, kinds := [], alts := [], goes := true, laidByText := true, laidKinds := [.data, .pinned], laidTests := true, laidLooks := .later }
def LivesCardSaid : Prop := Claim7.holds Tryz.pinned (.plain (OpenSpec.ofChange livesSpec)) livesCard

/-- THE TIED CARD OF 'sceneskeep.Known'. -/
def knownCard : Claim7 := { stood := { row := knownRow, standIns := [], harness := (true, "efbf0eed3b0a4b5ea7218526b0f8d6b851620bab8bbbbe7228ae5ba3fa0b9b77"), looks := true }, kinds := [], alts := [], goes := true, laidByText := true, laidKinds := [.data, .data, .data, .data, .sentinel, .sentinel, .pinned], laidTests := true, laidLooks := .later }
def KnownCardSaid : Prop := Claim7.holds Tryz.pinned (.plain (OpenSpec.ofChange knownSpec)) knownCard

/-- THE TIED CARD OF 'sceneskeep.Refuses'. -/
def refusesCard : Claim7 := { stood := { row := refusesRow, standIns := [], harness := (true, "efbf0eed3b0a4b5ea7218526b0f8d6b851620bab8bbbbe7228ae5ba3fa0b9b77"), looks := true }, kinds := [], alts := [], goes := true, laidByText := true, laidKinds := [.data, .data, .data, .data, .sentinel, .sentinel, .pinned], laidTests := true, laidLooks := .later }
def RefusesCardSaid : Prop := Claim7.holds Tryz.pinned (.plain (OpenSpec.ofChange refusesSpec)) refusesCard

/-- THE SECOND FORM's CARD OF 'sceneslaw.Unpacks'. -/
def unpacksUptoCard : Claim7 := { stood := { row := unpacksUptoRow, standIns := [], harness := (true, "efbf0eed3b0a4b5ea7218526b0f8d6b851620bab8bbbbe7228ae5ba3fa0b9b77"), looks := true }, kinds := [], alts := [], goes := true, laidByText := true, laidKinds := [.data, .data, .data, .data, .sentinel, .sentinel, .pinned], laidTests := true, laidLooks := .later }
def UnpacksUptoCardSaid : Prop := Claim7.holds Tryz.pinned (.plain (OpenSpec.upto unpacksSpec)) unpacksUptoCard

/-- THE SECOND FORM's CARD OF 'sceneslaw.Puts'. -/
def putsUptoCard : Claim7 := { stood := { row := putsUptoRow, standIns := [], harness := (true, "efbf0eed3b0a4b5ea7218526b0f8d6b851620bab8bbbbe7228ae5ba3fa0b9b77"), looks := true }, kinds := [], alts := [], goes := true, laidByText := true, laidKinds := [.data, .data, .data, .data, .sentinel, .sentinel, .pinned], laidTests := true, laidLooks := .later }
def PutsUptoCardSaid : Prop := Claim7.holds Tryz.pinned (.plain (OpenSpec.upto putsSpec)) putsUptoCard

/-- THE SECOND FORM's CARD OF 'sceneslaw.Owned'. -/
def ownedUptoCard : Claim7 := { stood := { row := ownedUptoRow, standIns := [], harness := (true, "efbf0eed3b0a4b5ea7218526b0f8d6b851620bab8bbbbe7228ae5ba3fa0b9b77"), looks := true }, kinds := [], alts := [], goes := true, laidByText := true, laidKinds := [.data, .data, .data, .data, .sentinel, .sentinel, .pinned], laidTests := true, laidLooks := .later }
def OwnedUptoCardSaid : Prop := Claim7.holds Tryz.pinned (.plain (OpenSpec.upto ownedSpec)) ownedUptoCard

/-- THE SECOND FORM's CARD OF 'sceneslaw.All'. -/
def allUptoCard : Claim7 := { stood := { row := allUptoRow, standIns := [], harness := (true, "efbf0eed3b0a4b5ea7218526b0f8d6b851620bab8bbbbe7228ae5ba3fa0b9b77"), looks := true }, kinds := [], alts := [], goes := true, laidByText := true, laidKinds := [.data, .data, .data, .data, .sentinel, .sentinel, .pinned], laidTests := true, laidLooks := .later }
def AllUptoCardSaid : Prop := Claim7.holds Tryz.pinned (.plain (OpenSpec.upto allSpec)) allUptoCard

/-- THE SECOND FORM's CARD OF 'sceneskeep.Round'. -/
def roundUptoCard : Claim7 := { stood := { row := roundUptoRow, standIns := [], harness := (true, "efbf0eed3b0a4b5ea7218526b0f8d6b851620bab8bbbbe7228ae5ba3fa0b9b77"), looks := true }, kinds := [], alts := [], goes := true, laidByText := true, laidKinds := [.data, .data, .data, .data, .sentinel, .sentinel, .data, .data, .data, .pinned], laidTests := true, laidLooks := .later }
def RoundUptoCardSaid : Prop := Claim7.holds Tryz.pinned (.plain (OpenSpec.upto roundSpec)) roundUptoCard

/-- THE SECOND FORM's CARD OF 'sceneskeep.Beside'. -/
def besideUptoCard : Claim7 := { stood := { row := besideUptoRow, standIns := [], harness := (true, "efbf0eed3b0a4b5ea7218526b0f8d6b851620bab8bbbbe7228ae5ba3fa0b9b77"), looks := true }, kinds := [], alts := [], goes := true, laidByText := true, laidKinds := [.data, .data, .data, .data, .sentinel, .sentinel, .data, .data, .data, .pinned], laidTests := true, laidLooks := .later }
def BesideUptoCardSaid : Prop := Claim7.holds Tryz.pinned (.plain (OpenSpec.upto besideSpec)) besideUptoCard

/-- THE SECOND FORM's CARD OF 'sceneskeep.Gone'. -/
def goneUptoCard : Claim7 := { stood := { row := goneUptoRow, standIns := [], harness := (true, "efbf0eed3b0a4b5ea7218526b0f8d6b851620bab8bbbbe7228ae5ba3fa0b9b77"), looks := true }, kinds := [], alts := [], goes := true, laidByText := true, laidKinds := [.data, .data, .data, .data, .pinned], laidTests := true, laidLooks := .later }
def GoneUptoCardSaid : Prop := Claim7.holds Tryz.pinned (.plain (OpenSpec.upto goneSpec)) goneUptoCard

/-- THE SECOND FORM's CARD OF 'sceneskeep.Counted'. -/
def countedUptoCard : Claim7 := { stood := { row := countedUptoRow, standIns := [], harness := (true, "efbf0eed3b0a4b5ea7218526b0f8d6b851620bab8bbbbe7228ae5ba3fa0b9b77"), looks := true }, kinds := [], alts := [], goes := true, laidByText := true, laidKinds := [.data, .data, .data, .data, .data, .data, .data, .pinned], laidTests := true, laidLooks := .later }
def CountedUptoCardSaid : Prop := Claim7.holds Tryz.pinned (.plain (OpenSpec.upto countedSpec)) countedUptoCard

/-- THE SECOND FORM's CARD OF 'sceneskeep.Lives'. -/
def livesUptoCard : Claim7 := { stood := { row := livesUptoRow, standIns := [], harness := (true, "efbf0eed3b0a4b5ea7218526b0f8d6b851620bab8bbbbe7228ae5ba3fa0b9b77"), looks := true }, kinds := [], alts := [], goes := true, laidByText := true, laidKinds := [.data, .pinned], laidTests := true, laidLooks := .later }
def LivesUptoCardSaid : Prop := Claim7.holds Tryz.pinned (.plain (OpenSpec.upto livesSpec)) livesUptoCard

/-- THE SECOND FORM's CARD OF 'sceneskeep.Known'. -/
def knownUptoCard : Claim7 := { stood := { row := knownUptoRow, standIns := [], harness := (true, "efbf0eed3b0a4b5ea7218526b0f8d6b851620bab8bbbbe7228ae5ba3fa0b9b77"), looks := true }, kinds := [], alts := [], goes := true, laidByText := true, laidKinds := [.data, .data, .data, .data, .sentinel, .sentinel, .pinned], laidTests := true, laidLooks := .later }
def KnownUptoCardSaid : Prop := Claim7.holds Tryz.pinned (.plain (OpenSpec.upto knownSpec)) knownUptoCard

/-- THE SECOND FORM's CARD OF 'sceneskeep.Refuses'. -/
def refusesUptoCard : Claim7 := { stood := { row := refusesUptoRow, standIns := [], harness := (true, "efbf0eed3b0a4b5ea7218526b0f8d6b851620bab8bbbbe7228ae5ba3fa0b9b77"), looks := true }, kinds := [], alts := [], goes := true, laidByText := true, laidKinds := [.data, .data, .data, .data, .sentinel, .sentinel, .pinned], laidTests := true, laidLooks := .later }
def RefusesUptoCardSaid : Prop := Claim7.holds Tryz.pinned (.plain (OpenSpec.upto refusesSpec)) refusesUptoCard
end Rows
end Go.Proofs.YthkbeaffkcfgiabGreatDoor
