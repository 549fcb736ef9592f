/-
  DERIVED. GIVEN WITH THE SEED: THE CARDS: each row of YtiiankekobgebaaGreatDoorRows.lean that lists a variable, with what it lists TIED to the program's text (the seventh form; the later family's looks); each row that meets fmt, with fmt's text TOLD by the authors' own Lean function (tested against real Go, not proved from fmt's source: count such statements apart). THE CARD IS WHAT COUNTS. Prove the row's statement (the work); the ties are given (YtiiankekobgebaaGreatDoorTie.lean); close each card by the builder's one call (the guide's Derived/Test/ToyasCard.lean, 'card_holds'). Laid BY PROGRAM, IN A SANDBOX (cutbox-door.mjs). By AI agents, Wed Nov 11 2026. No macro, syntax, notation, axiom, sorry.
-/
import Derived.Test.YtiiankekobgebaaGreatDoorRows
import GoSem.ClaimSeven
namespace Go.Proofs.YtiiankekobgebaaGreatDoor
namespace Rows

/-- THE TIED CARD OF 'yardarmlaw.LeaseOnce'. -/
def leaseOnceCard : Claim7 := { stood := { row := leaseOnceRow, standIns := [], harness := (true, "9382228da928b7e255b4c47b5591c92b4e29eb6a65f3c04b1f8e38cfc36e0dc5"), looks := true }, kinds := [], alts := [], laidByText := true, laidKinds := [.data, .data, .data, .data, .sentinel, .sentinel, .pinned], laidTests := true, laidLooks := .later }
def LeaseOnceCardSaid : Prop := Claim7.holds Tryz.pinned (.plain (OpenSpec.ofChange leaseOnceSpec)) leaseOnceCard

/-- THE TIED CARD OF 'yardarmlaw.LeaseFirst'. -/
def leaseFirstCard : Claim7 := { stood := { row := leaseFirstRow, standIns := [], harness := (true, "9382228da928b7e255b4c47b5591c92b4e29eb6a65f3c04b1f8e38cfc36e0dc5"), looks := true }, kinds := [], alts := [], laidByText := true, laidKinds := [.data, .data, .data, .data, .sentinel, .sentinel, .pinned], laidTests := true, laidLooks := .later }
def LeaseFirstCardSaid : Prop := Claim7.holds Tryz.pinned (.plain (OpenSpec.ofChange leaseFirstSpec)) leaseFirstCard

/-- THE SECOND FORM's CARD OF 'yardarmlaw.LeaseOnce'. -/
def leaseOnceUptoCard : Claim7 := { stood := { row := leaseOnceUptoRow, standIns := [], harness := (true, "9382228da928b7e255b4c47b5591c92b4e29eb6a65f3c04b1f8e38cfc36e0dc5"), looks := true }, kinds := [], alts := [], laidByText := true, laidKinds := [.data, .data, .data, .data, .sentinel, .sentinel, .pinned], laidTests := true, laidLooks := .later }
def LeaseOnceUptoCardSaid : Prop := Claim7.holds Tryz.pinned (.plain (OpenSpec.upto leaseOnceSpec)) leaseOnceUptoCard

/-- THE SECOND FORM's CARD OF 'yardarmlaw.LeaseFirst'. -/
def leaseFirstUptoCard : Claim7 := { stood := { row := leaseFirstUptoRow, standIns := [], harness := (true, "9382228da928b7e255b4c47b5591c92b4e29eb6a65f3c04b1f8e38cfc36e0dc5"), looks := true }, kinds := [], alts := [], laidByText := true, laidKinds := [.data, .data, .data, .data, .sentinel, .sentinel, .pinned], laidTests := true, laidLooks := .later }
def LeaseFirstUptoCardSaid : Prop := Claim7.holds Tryz.pinned (.plain (OpenSpec.upto leaseFirstSpec)) leaseFirstUptoCard
end Rows
end Go.Proofs.YtiiankekobgebaaGreatDoor
