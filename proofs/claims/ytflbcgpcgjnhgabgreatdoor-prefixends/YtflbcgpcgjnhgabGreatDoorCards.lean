/-
  DERIVED. GIVEN WITH THE SEED: THE CARDS: each row of YtflbcgpcgjnhgabGreatDoorRows.lean that lists a variable, with what it lists TIED to the program's text (the seventh form; the later family's looks); each row that meets fmt, with fmt's text TOLD by the authors' own Lean function (tested against real Go, not proved from fmt's source: count such statements apart). THE CARD IS WHAT COUNTS. Prove the row's statement (the work); the ties are given (YtflbcgpcgjnhgabGreatDoorTie.lean); close each card by the builder's one call (the guide's Derived/Test/ToyasCard.lean, 'card_holds'). Laid BY PROGRAM, IN A SANDBOX (cutbox-door.mjs). By AI agents, Wed Nov 11 2026. No macro, syntax, notation, axiom, sorry.
-/
import Derived.Test.YtflbcgpcgjnhgabGreatDoorRows
import GoSem.ClaimSeven
namespace Go.Proofs.YtflbcgpcgjnhgabGreatDoor
namespace Rows

/-- THE TIED CARD OF 'yardarmlaw.PrefixEnds'. -/
def prefixEndsCard : Claim7 := { stood := { row := prefixEndsRow, standIns := [], harness := (true, "e34bcdf216c0d991e4abeb171a5985ab209e4d2368cceb6ef1c88ca62504b53a"), looks := true }, kinds := [], alts := [], laidByText := true, laidKinds := [.data, .data, .data, .data, .sentinel, .sentinel, .pinned], laidTests := true, laidLooks := .later }
def PrefixEndsCardSaid : Prop := Claim7.holds Tryz.pinned (.plain (OpenSpec.ofChange prefixEndsSpec)) prefixEndsCard

/-- THE SECOND FORM's CARD OF 'yardarmlaw.PrefixEnds'. -/
def prefixEndsUptoCard : Claim7 := { stood := { row := prefixEndsUptoRow, standIns := [], harness := (true, "e34bcdf216c0d991e4abeb171a5985ab209e4d2368cceb6ef1c88ca62504b53a"), looks := true }, kinds := [], alts := [], laidByText := true, laidKinds := [.data, .data, .data, .data, .sentinel, .sentinel, .pinned], laidTests := true, laidLooks := .later }
def PrefixEndsUptoCardSaid : Prop := Claim7.holds Tryz.pinned (.plain (OpenSpec.upto prefixEndsSpec)) prefixEndsUptoCard
end Rows
end Go.Proofs.YtflbcgpcgjnhgabGreatDoor
