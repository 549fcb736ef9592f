/-
  DERIVED. GIVEN WITH THE SEED: THE CARDS: each row of YtpbankmbdacdaaaGreatDoorRows.lean that lists a variable, with what it lists TIED to the program's text (the seventh form; the later family's looks); each row that meets fmt, with fmt's text TOLD by the authors' own Lean function (tested against real Go, not proved from fmt's source: count such statements apart). THE CARD IS WHAT COUNTS. Prove the row's statement (the work); the ties are given (YtpbankmbdacdaaaGreatDoorTie.lean); close each card by the builder's one call (the guide's Derived/Test/ToyasCard.lean, 'card_holds'). Laid BY PROGRAM, IN A SANDBOX (cutbox-door.mjs). By AI agents, Wed Nov 11 2026. No macro, syntax, notation, axiom, sorry.
-/
import Derived.Test.YtpbankmbdacdaaaGreatDoorRows
import GoSem.ClaimSeven
namespace Go.Proofs.YtpbankmbdacdaaaGreatDoor
namespace Rows

/-- THE TIED CARD OF 'yardarmlaw.PickClear'. -/
def pickClearCard : Claim7 := { stood := { row := pickClearRow, standIns := [], harness := (true, "811e2ecd0df99c0bbdff651a4e2e941605cf52be158047256a24ff25d330c096"), looks := true }, kinds := [], alts := [], laidByText := true, laidKinds := [.data, .data, .data, .data, .sentinel, .sentinel, .pinned], laidTests := true, laidLooks := .later }
def PickClearCardSaid : Prop := Claim7.holds Tryz.pinned (.plain (OpenSpec.ofChange pickClearSpec)) pickClearCard

/-- THE TIED CARD OF 'yardarmlaw.PickAll'. -/
def pickAllCard : Claim7 := { stood := { row := pickAllRow, standIns := [], harness := (true, "811e2ecd0df99c0bbdff651a4e2e941605cf52be158047256a24ff25d330c096"), looks := true }, kinds := [], alts := [], laidByText := true, laidKinds := [.data, .data, .data, .data, .sentinel, .sentinel, .pinned], laidTests := true, laidLooks := .later }
def PickAllCardSaid : Prop := Claim7.holds Tryz.pinned (.plain (OpenSpec.ofChange pickAllSpec)) pickAllCard

/-- THE SECOND FORM's CARD OF 'yardarmlaw.PickClear'. -/
def pickClearUptoCard : Claim7 := { stood := { row := pickClearUptoRow, standIns := [], harness := (true, "811e2ecd0df99c0bbdff651a4e2e941605cf52be158047256a24ff25d330c096"), looks := true }, kinds := [], alts := [], laidByText := true, laidKinds := [.data, .data, .data, .data, .sentinel, .sentinel, .pinned], laidTests := true, laidLooks := .later }
def PickClearUptoCardSaid : Prop := Claim7.holds Tryz.pinned (.plain (OpenSpec.upto pickClearSpec)) pickClearUptoCard

/-- THE SECOND FORM's CARD OF 'yardarmlaw.PickAll'. -/
def pickAllUptoCard : Claim7 := { stood := { row := pickAllUptoRow, standIns := [], harness := (true, "811e2ecd0df99c0bbdff651a4e2e941605cf52be158047256a24ff25d330c096"), looks := true }, kinds := [], alts := [], laidByText := true, laidKinds := [.data, .data, .data, .data, .sentinel, .sentinel, .pinned], laidTests := true, laidLooks := .later }
def PickAllUptoCardSaid : Prop := Claim7.holds Tryz.pinned (.plain (OpenSpec.upto pickAllSpec)) pickAllUptoCard
end Rows
end Go.Proofs.YtpbankmbdacdaaaGreatDoor
