/-
  DERIVED. GIVEN WITH THE SEED: THE CARDS: each row of YtknfcmfnnjgkdabDoorRows.lean that lists a variable, with what it lists TIED to the program's text (the seventh form; the later family's looks); each row that meets fmt, with fmt's text TOLD by the authors' own Lean function (tested against real Go, not proved from fmt's source: count such statements apart). THE CARD IS WHAT COUNTS. Prove the row's statement (the work); the ties are given (YtknfcmfnnjgkdabDoorTie.lean); close each card by the builder's one call (the guide's Derived/Test/ToyasCard.lean, 'card_holds'). Laid BY PROGRAM, IN A SANDBOX (cutbox-door.mjs). By AI agents, Wed Nov 11 2026. No macro, syntax, notation, axiom, sorry.
-/
import Derived.Test.YtknfcmfnnjgkdabDoorRows
import GoSem.ClaimSeven
namespace Go.Proofs.YtknfcmfnnjgkdabDoor
namespace Rows

/-- THE TIED CARD OF 'sceneskeep.Lives'. -/
def livesCard : Claim7 := { stood := { row := livesRow, standIns := [], harness := (true, "706c83c08821c503438f9d33e468a98ccbe7eb2b101a622889dbd34d00155fec"), looks := true }, kinds := [], alts := [], laidByText := true, laidKinds := [.data, .pinned], laidTests := true, laidLooks := .later }
def LivesCardSaid : Prop := Claim7.holds Tryd.pinned (.plain (OpenSpec.ofChange livesSpec)) livesCard

/-- THE SECOND FORM's CARD OF 'sceneskeep.Lives'. -/
def livesUptoCard : Claim7 := { stood := { row := livesUptoRow, standIns := [], harness := (true, "706c83c08821c503438f9d33e468a98ccbe7eb2b101a622889dbd34d00155fec"), looks := true }, kinds := [], alts := [], laidByText := true, laidKinds := [.data, .pinned], laidTests := true, laidLooks := .later }
def LivesUptoCardSaid : Prop := Claim7.holds Tryd.pinned (.plain (OpenSpec.upto livesSpec)) livesUptoCard
end Rows
end Go.Proofs.YtknfcmfnnjgkdabDoor
