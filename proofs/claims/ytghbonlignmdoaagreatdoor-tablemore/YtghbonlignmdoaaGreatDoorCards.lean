/-
  DERIVED. GIVEN WITH THE SEED: THE CARDS: each row of YtghbonlignmdoaaGreatDoorRows.lean that lists a variable, with what it lists TIED to the program's text (the seventh form; the later family's looks); each row that meets fmt, with fmt's text TOLD by the authors' own Lean function (tested against real Go, not proved from fmt's source: count such statements apart). THE CARD IS WHAT COUNTS. Prove the row's statement (the work); the ties are given (YtghbonlignmdoaaGreatDoorTie.lean); close each card by the builder's one call (the guide's Derived/Test/ToyasCard.lean, 'card_holds'). Laid BY PROGRAM, IN A SANDBOX (cutbox-door.mjs). By AI agents, Wed Nov 11 2026. No macro, syntax, notation, axiom, sorry.
-/
import Derived.Test.YtghbonlignmdoaaGreatDoorRows
import GoSem.ClaimSeven
namespace Go.Proofs.YtghbonlignmdoaaGreatDoor
namespace Rows

/-- THE TIED CARD OF 'yardarmlaw.TableTree'. -/
def tableTreeCard : Claim7 := { stood := { row := tableTreeRow, standIns := [], harness := (true, "08181e1340ee08dc54a80931547385aa7fc3ed5a34289973cfe7820b48d49464"), looks := true }, kinds := [], alts := [], laidByText := true, laidKinds := [.data, .data, .data, .data, .sentinel, .sentinel, .pinned], laidTests := true, laidLooks := .later }
def TableTreeCardSaid : Prop := Claim7.holds Tryz.pinned (.plain (OpenSpec.ofChange tableTreeSpec)) tableTreeCard

/-- THE TIED CARD OF 'yardarmlaw.TableMore'. -/
def tableMoreCard : Claim7 := { stood := { row := tableMoreRow, standIns := [], harness := (true, "08181e1340ee08dc54a80931547385aa7fc3ed5a34289973cfe7820b48d49464"), looks := true }, kinds := [], alts := [], laidByText := true, laidKinds := [.data, .data, .data, .data, .sentinel, .sentinel, .pinned], laidTests := true, laidLooks := .later }
def TableMoreCardSaid : Prop := Claim7.holds Tryz.pinned (.plain (OpenSpec.ofChange tableMoreSpec)) tableMoreCard

/-- THE SECOND FORM's CARD OF 'yardarmlaw.TableTree'. -/
def tableTreeUptoCard : Claim7 := { stood := { row := tableTreeUptoRow, standIns := [], harness := (true, "08181e1340ee08dc54a80931547385aa7fc3ed5a34289973cfe7820b48d49464"), looks := true }, kinds := [], alts := [], laidByText := true, laidKinds := [.data, .data, .data, .data, .sentinel, .sentinel, .pinned], laidTests := true, laidLooks := .later }
def TableTreeUptoCardSaid : Prop := Claim7.holds Tryz.pinned (.plain (OpenSpec.upto tableTreeSpec)) tableTreeUptoCard

/-- THE SECOND FORM's CARD OF 'yardarmlaw.TableMore'. -/
def tableMoreUptoCard : Claim7 := { stood := { row := tableMoreUptoRow, standIns := [], harness := (true, "08181e1340ee08dc54a80931547385aa7fc3ed5a34289973cfe7820b48d49464"), looks := true }, kinds := [], alts := [], laidByText := true, laidKinds := [.data, .data, .data, .data, .sentinel, .sentinel, .pinned], laidTests := true, laidLooks := .later }
def TableMoreUptoCardSaid : Prop := Claim7.holds Tryz.pinned (.plain (OpenSpec.upto tableMoreSpec)) tableMoreUptoCard
end Rows
end Go.Proofs.YtghbonlignmdoaaGreatDoor
