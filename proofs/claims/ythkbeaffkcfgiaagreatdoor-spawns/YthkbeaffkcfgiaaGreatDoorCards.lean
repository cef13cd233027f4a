/-
  DERIVED. GIVEN WITH THE SEED: THE CARDS: each row of YthkbeaffkcfgiaaGreatDoorRows.lean that lists a variable, with what it lists TIED to the program's text (the seventh form; the later family's looks); each row that meets fmt, with fmt's text TOLD by the authors' own Lean function (tested against real Go, not proved from fmt's source: count such statements apart). THE CARD IS WHAT COUNTS. Prove the row's statement (the work); the ties are given (YthkbeaffkcfgiaaGreatDoorTie.lean); close each card by the builder's one call (the guide's Derived/Test/ToyasCard.lean, 'card_holds'). Laid BY PROGRAM, IN A SANDBOX (cutbox-door.mjs). By AI agents, Wed Nov 11 2026. No macro, syntax, notation, axiom, sorry.
-/
import Derived.Test.YthkbeaffkcfgiaaGreatDoorRows
import GoSem.ClaimSeven
namespace Go.Proofs.YthkbeaffkcfgiaaGreatDoor
namespace Rows

/-- THE TIED CARD OF 'sceneslaw.News'. -/
def newsCard : Claim7 := { stood := { row := newsRow, standIns := [], harness := (true, "d734b1d776b1ec9f8e3bb2b24789e8d4c1ab57ecae6abbd43adafbd766e98857"), looks := true }, kinds := [], alts := [], goes := true, laidByText := true, laidKinds := [.data, .data, .data, .data, .sentinel, .sentinel, .pinned], laidTests := true, laidLooks := .later }
def NewsCardSaid : Prop := Claim7.holds Tryz.pinned (.plain (OpenSpec.ofChange newsSpec)) newsCard

/-- THE TIED CARD OF 'sceneslaw.Spawns'. -/
def spawnsCard : Claim7 := { stood := { row := spawnsRow, standIns := [], harness := (true, "d734b1d776b1ec9f8e3bb2b24789e8d4c1ab57ecae6abbd43adafbd766e98857"), looks := true }, kinds := [], alts := [], goes := true, laidByText := true, laidKinds := [.data, .data, .data, .data, .sentinel, .sentinel, .pinned], laidTests := true, laidLooks := .later }
def SpawnsCardSaid : Prop := Claim7.holds Tryz.pinned (.plain (OpenSpec.ofChange spawnsSpec)) spawnsCard

/-- THE TIED CARD OF 'sceneslaw.Despawns'. -/
def despawnsCard : Claim7 := { stood := { row := despawnsRow, standIns := [], harness := (true, "d734b1d776b1ec9f8e3bb2b24789e8d4c1ab57ecae6abbd43adafbd766e98857"), looks := true }, kinds := [], alts := [], goes := true, laidByText := true, laidKinds := [.data, .data, .data, .data, .sentinel, .sentinel, .pinned], laidTests := true, laidLooks := .later }
def DespawnsCardSaid : Prop := Claim7.holds Tryz.pinned (.plain (OpenSpec.ofChange despawnsSpec)) despawnsCard

/-- THE TIED CARD OF 'sceneslaw.Alives'. -/
def alivesCard : Claim7 := { stood := { row := alivesRow, standIns := [], harness := (true, "d734b1d776b1ec9f8e3bb2b24789e8d4c1ab57ecae6abbd43adafbd766e98857"), looks := true }, kinds := [], alts := [], goes := true, laidByText := true, laidKinds := [.data, .data, .data, .data, .sentinel, .sentinel, .pinned], laidTests := true, laidLooks := .later }
def AlivesCardSaid : Prop := Claim7.holds Tryz.pinned (.plain (OpenSpec.ofChange alivesSpec)) alivesCard

/-- THE TIED CARD OF 'sceneslaw.Adds'. -/
def addsCard : Claim7 := { stood := { row := addsRow, standIns := [], harness := (true, "d734b1d776b1ec9f8e3bb2b24789e8d4c1ab57ecae6abbd43adafbd766e98857"), looks := true }, kinds := [], alts := [], goes := true, laidByText := true, laidKinds := [.data, .data, .data, .data, .sentinel, .sentinel, .pinned], laidTests := true, laidLooks := .later }
def AddsCardSaid : Prop := Claim7.holds Tryz.pinned (.plain (OpenSpec.ofChange addsSpec)) addsCard

/-- THE TIED CARD OF 'sceneslaw.Removes'. -/
def removesCard : Claim7 := { stood := { row := removesRow, standIns := [], harness := (true, "d734b1d776b1ec9f8e3bb2b24789e8d4c1ab57ecae6abbd43adafbd766e98857"), looks := true }, kinds := [], alts := [], goes := true, laidByText := true, laidKinds := [.data, .data, .data, .data, .sentinel, .sentinel, .pinned], laidTests := true, laidLooks := .later }
def RemovesCardSaid : Prop := Claim7.holds Tryz.pinned (.plain (OpenSpec.ofChange removesSpec)) removesCard

/-- THE TIED CARD OF 'sceneslaw.Sets'. -/
def setsCard : Claim7 := { stood := { row := setsRow, standIns := [], harness := (true, "d734b1d776b1ec9f8e3bb2b24789e8d4c1ab57ecae6abbd43adafbd766e98857"), looks := true }, kinds := [], alts := [], goes := true, laidByText := true, laidKinds := [.data, .data, .data, .data, .sentinel, .sentinel, .pinned], laidTests := true, laidLooks := .later }
def SetsCardSaid : Prop := Claim7.holds Tryz.pinned (.plain (OpenSpec.ofChange setsSpec)) setsCard

/-- THE TIED CARD OF 'sceneslaw.Gets'. -/
def getsCard : Claim7 := { stood := { row := getsRow, standIns := [], harness := (true, "d734b1d776b1ec9f8e3bb2b24789e8d4c1ab57ecae6abbd43adafbd766e98857"), looks := true }, kinds := [], alts := [], goes := true, laidByText := true, laidKinds := [.data, .data, .data, .data, .sentinel, .sentinel, .pinned], laidTests := true, laidLooks := .later }
def GetsCardSaid : Prop := Claim7.holds Tryz.pinned (.plain (OpenSpec.ofChange getsSpec)) getsCard

/-- THE TIED CARD OF 'sceneslaw.Queries'. -/
def queriesCard : Claim7 := { stood := { row := queriesRow, standIns := [], harness := (true, "d734b1d776b1ec9f8e3bb2b24789e8d4c1ab57ecae6abbd43adafbd766e98857"), looks := true }, kinds := [], alts := [], goes := true, laidByText := true, laidKinds := [.data, .data, .data, .data, .sentinel, .sentinel, .pinned], laidTests := true, laidLooks := .later }
def QueriesCardSaid : Prop := Claim7.holds Tryz.pinned (.plain (OpenSpec.ofChange queriesSpec)) queriesCard

/-- THE TIED CARD OF 'sceneslaw.Saves'. -/
def savesCard : Claim7 := { stood := { row := savesRow, standIns := [], harness := (true, "d734b1d776b1ec9f8e3bb2b24789e8d4c1ab57ecae6abbd43adafbd766e98857"), looks := true }, kinds := [], alts := [], goes := true, laidByText := true, laidKinds := [.data, .data, .data, .data, .sentinel, .sentinel, .pinned], laidTests := true, laidLooks := .later }
def SavesCardSaid : Prop := Claim7.holds Tryz.pinned (.plain (OpenSpec.ofChange savesSpec)) savesCard

/-- THE TIED CARD OF 'sceneslaw.Packs'. -/
def packsCard : Claim7 := { stood := { row := packsRow, standIns := [], harness := (true, "d734b1d776b1ec9f8e3bb2b24789e8d4c1ab57ecae6abbd43adafbd766e98857"), looks := true }, kinds := [], alts := [], goes := true, laidByText := true, laidKinds := [.data, .data, .data, .data, .sentinel, .sentinel, .pinned], laidTests := true, laidLooks := .later }
def PacksCardSaid : Prop := Claim7.holds Tryz.pinned (.plain (OpenSpec.ofChange packsSpec)) packsCard

/-- THE TIED CARD OF 'sceneslaw.Loads'. -/
def loadsCard : Claim7 := { stood := { row := loadsRow, standIns := [], harness := (true, "d734b1d776b1ec9f8e3bb2b24789e8d4c1ab57ecae6abbd43adafbd766e98857"), looks := true }, kinds := [], alts := [], goes := true, laidByText := true, laidKinds := [.data, .data, .data, .data, .sentinel, .sentinel, .pinned], laidTests := true, laidLooks := .later }
def LoadsCardSaid : Prop := Claim7.holds Tryz.pinned (.plain (OpenSpec.ofChange loadsSpec)) loadsCard

/-- THE SECOND FORM's CARD OF 'sceneslaw.News'. -/
def newsUptoCard : Claim7 := { stood := { row := newsUptoRow, standIns := [], harness := (true, "d734b1d776b1ec9f8e3bb2b24789e8d4c1ab57ecae6abbd43adafbd766e98857"), looks := true }, kinds := [], alts := [], goes := true, laidByText := true, laidKinds := [.data, .data, .data, .data, .sentinel, .sentinel, .pinned], laidTests := true, laidLooks := .later }
def NewsUptoCardSaid : Prop := Claim7.holds Tryz.pinned (.plain (OpenSpec.upto newsSpec)) newsUptoCard

/-- THE SECOND FORM's CARD OF 'sceneslaw.Spawns'. -/
def spawnsUptoCard : Claim7 := { stood := { row := spawnsUptoRow, standIns := [], harness := (true, "d734b1d776b1ec9f8e3bb2b24789e8d4c1ab57ecae6abbd43adafbd766e98857"), looks := true }, kinds := [], alts := [], goes := true, laidByText := true, laidKinds := [.data, .data, .data, .data, .sentinel, .sentinel, .pinned], laidTests := true, laidLooks := .later }
def SpawnsUptoCardSaid : Prop := Claim7.holds Tryz.pinned (.plain (OpenSpec.upto spawnsSpec)) spawnsUptoCard

/-- THE SECOND FORM's CARD OF 'sceneslaw.Despawns'. -/
def despawnsUptoCard : Claim7 := { stood := { row := despawnsUptoRow, standIns := [], harness := (true, "d734b1d776b1ec9f8e3bb2b24789e8d4c1ab57ecae6abbd43adafbd766e98857"), looks := true }, kinds := [], alts := [], goes := true, laidByText := true, laidKinds := [.data, .data, .data, .data, .sentinel, .sentinel, .pinned], laidTests := true, laidLooks := .later }
def DespawnsUptoCardSaid : Prop := Claim7.holds Tryz.pinned (.plain (OpenSpec.upto despawnsSpec)) despawnsUptoCard

/-- THE SECOND FORM's CARD OF 'sceneslaw.Alives'. -/
def alivesUptoCard : Claim7 := { stood := { row := alivesUptoRow, standIns := [], harness := (true, "d734b1d776b1ec9f8e3bb2b24789e8d4c1ab57ecae6abbd43adafbd766e98857"), looks := true }, kinds := [], alts := [], goes := true, laidByText := true, laidKinds := [.data, .data, .data, .data, .sentinel, .sentinel, .pinned], laidTests := true, laidLooks := .later }
def AlivesUptoCardSaid : Prop := Claim7.holds Tryz.pinned (.plain (OpenSpec.upto alivesSpec)) alivesUptoCard

/-- THE SECOND FORM's CARD OF 'sceneslaw.Adds'. -/
def addsUptoCard : Claim7 := { stood := { row := addsUptoRow, standIns := [], harness := (true, "d734b1d776b1ec9f8e3bb2b24789e8d4c1ab57ecae6abbd43adafbd766e98857"), looks := true }, kinds := [], alts := [], goes := true, laidByText := true, laidKinds := [.data, .data, .data, .data, .sentinel, .sentinel, .pinned], laidTests := true, laidLooks := .later }
def AddsUptoCardSaid : Prop := Claim7.holds Tryz.pinned (.plain (OpenSpec.upto addsSpec)) addsUptoCard

/-- THE SECOND FORM's CARD OF 'sceneslaw.Removes'. -/
def removesUptoCard : Claim7 := { stood := { row := removesUptoRow, standIns := [], harness := (true, "d734b1d776b1ec9f8e3bb2b24789e8d4c1ab57ecae6abbd43adafbd766e98857"), looks := true }, kinds := [], alts := [], goes := true, laidByText := true, laidKinds := [.data, .data, .data, .data, .sentinel, .sentinel, .pinned], laidTests := true, laidLooks := .later }
def RemovesUptoCardSaid : Prop := Claim7.holds Tryz.pinned (.plain (OpenSpec.upto removesSpec)) removesUptoCard

/-- THE SECOND FORM's CARD OF 'sceneslaw.Sets'. -/
def setsUptoCard : Claim7 := { stood := { row := setsUptoRow, standIns := [], harness := (true, "d734b1d776b1ec9f8e3bb2b24789e8d4c1ab57ecae6abbd43adafbd766e98857"), looks := true }, kinds := [], alts := [], goes := true, laidByText := true, laidKinds := [.data, .data, .data, .data, .sentinel, .sentinel, .pinned], laidTests := true, laidLooks := .later }
def SetsUptoCardSaid : Prop := Claim7.holds Tryz.pinned (.plain (OpenSpec.upto setsSpec)) setsUptoCard

/-- THE SECOND FORM's CARD OF 'sceneslaw.Gets'. -/
def getsUptoCard : Claim7 := { stood := { row := getsUptoRow, standIns := [], harness := (true, "d734b1d776b1ec9f8e3bb2b24789e8d4c1ab57ecae6abbd43adafbd766e98857"), looks := true }, kinds := [], alts := [], goes := true, laidByText := true, laidKinds := [.data, .data, .data, .data, .sentinel, .sentinel, .pinned], laidTests := true, laidLooks := .later }
def GetsUptoCardSaid : Prop := Claim7.holds Tryz.pinned (.plain (OpenSpec.upto getsSpec)) getsUptoCard

/-- THE SECOND FORM's CARD OF 'sceneslaw.Queries'. -/
def queriesUptoCard : Claim7 := { stood := { row := queriesUptoRow, standIns := [], harness := (true, "d734b1d776b1ec9f8e3bb2b24789e8d4c1ab57ecae6abbd43adafbd766e98857"), looks := true }, kinds := [], alts := [], goes := true, laidByText := true, laidKinds := [.data, .data, .data, .data, .sentinel, .sentinel, .pinned], laidTests := true, laidLooks := .later }
def QueriesUptoCardSaid : Prop := Claim7.holds Tryz.pinned (.plain (OpenSpec.upto queriesSpec)) queriesUptoCard

/-- THE SECOND FORM's CARD OF 'sceneslaw.Saves'. -/
def savesUptoCard : Claim7 := { stood := { row := savesUptoRow, standIns := [], harness := (true, "d734b1d776b1ec9f8e3bb2b24789e8d4c1ab57ecae6abbd43adafbd766e98857"), looks := true }, kinds := [], alts := [], goes := true, laidByText := true, laidKinds := [.data, .data, .data, .data, .sentinel, .sentinel, .pinned], laidTests := true, laidLooks := .later }
def SavesUptoCardSaid : Prop := Claim7.holds Tryz.pinned (.plain (OpenSpec.upto savesSpec)) savesUptoCard

/-- THE SECOND FORM's CARD OF 'sceneslaw.Packs'. -/
def packsUptoCard : Claim7 := { stood := { row := packsUptoRow, standIns := [], harness := (true, "d734b1d776b1ec9f8e3bb2b24789e8d4c1ab57ecae6abbd43adafbd766e98857"), looks := true }, kinds := [], alts := [], goes := true, laidByText := true, laidKinds := [.data, .data, .data, .data, .sentinel, .sentinel, .pinned], laidTests := true, laidLooks := .later }
def PacksUptoCardSaid : Prop := Claim7.holds Tryz.pinned (.plain (OpenSpec.upto packsSpec)) packsUptoCard

/-- THE SECOND FORM's CARD OF 'sceneslaw.Loads'. -/
def loadsUptoCard : Claim7 := { stood := { row := loadsUptoRow, standIns := [], harness := (true, "d734b1d776b1ec9f8e3bb2b24789e8d4c1ab57ecae6abbd43adafbd766e98857"), looks := true }, kinds := [], alts := [], goes := true, laidByText := true, laidKinds := [.data, .data, .data, .data, .sentinel, .sentinel, .pinned], laidTests := true, laidLooks := .later }
def LoadsUptoCardSaid : Prop := Claim7.holds Tryz.pinned (.plain (OpenSpec.upto loadsSpec)) loadsUptoCard
end Rows
end Go.Proofs.YthkbeaffkcfgiaaGreatDoor
