/-
  No cell of these rows narrows 'for every input' (looked for: loops, veiled, ifaces, maps, wideKeys, modest, calm, conditions, laid).
  DERIVED. THE GIVEN ROWS OF THIS SEAT. 2 by the template 'for every input the law returns true; each argument reads behind the call as it read before'; 0 by the template 'total and deterministic' (their statements: YtclnfkohlklbpaaGreatTotals.lean).
  GIVEN WITH THE SEED: the statements are not yours to turn. If you find one false, say at which input.
  Laid BY PROGRAM, IN A SANDBOX (cutbox-rows.mjs): the forced cells as the released guide's own fill.sh prints them over the translation f585e0fe58a9523d… (all of the seat's roots in one cut). By AI agents, Wed Nov 11 2026. No macro, syntax, notation, axiom, sorry.
-/
import Derived.Test.YtclnfkohlklbpaaGreatChecked
import GoSem.Claim
import GoSem.ClaimJoined
import GoSem.ClaimMapViews
import Derived.JoinedTies
import Derived.KernelRfl
namespace Go.Proofs.YtclnfkohlklbpaaGreat
/- THE CELL 'sum', in the pinned program and in every row, IS THE sha256 OF THE DUMP (.gsa) THAT YtclnfkohlklbpaaGreatProg.lean LOADS. Nothing in Lean hashes anything: it is a label: what it is worth is what the hold of that sum in a sandbox is worth. -/
noncomputable def Tryz.pinned : Pinned := { name := "ytclnfkohlklbpaagreat", sum := "f585e0fe58a9523d58d88f35c6743ab90d9f575c701033fcdb126b3907131f1f", checked := Tryz.checked }
namespace Rows
def none {H : Type} : Left H := { results := [], args := [] }

/-- 'yardarmlaw.ShipNearer': WHATEVER THE INPUT: true; the input reads as it did. -/
def shipNearerSpec : ChangeSpec := { name := "shipNearer", fn := fun _ => fun
  | [d1, d2, d3, d4] => { results := [.lit (.bool true)], args := [d1, d2, d3, d4] }
  | _ => none }
def shipNearerRow : OpenClaim := { program := "ytclnfkohlklbpaagreat", sum := "f585e0fe58a9523d58d88f35c6743ab90d9f575c701033fcdb126b3907131f1f", func := "yardarm/yardarmlaw.ShipNearer", spec := "shipNearer", inPlace := ["slices.overlaps[yardarm/api.Pool]", "slices.overlaps[yardarm/api.Addr]", "math/bits.Add64", "slices.overlaps[yardarm/api.Lease]"], unfollowed := true, recurses := true, apart := false }
def ShipNearerSaid : Prop := shipNearerRow.holds Tryz.pinned (OpenSpec.ofChange shipNearerSpec)

/-- ITS FALSE NEIGHBOUR: 'it returns false'. Refute it at one input. -/
def shipNearerWrong : ChangeSpec := { name := "shipNearer", fn := fun _ => fun
  | [d1, d2, d3, d4] => { results := [.lit (.bool false)], args := [d1, d2, d3, d4] }
  | _ => none }
def ShipNearerWrongFalsely : Prop := shipNearerRow.holds Tryz.pinned (OpenSpec.ofChange shipNearerWrong)

/-- 'yardarmlaw.ShipWhole': WHATEVER THE INPUT: true; the input reads as it did. -/
def shipWholeSpec : ChangeSpec := { name := "shipWhole", fn := fun _ => fun
  | [d1, d2] => { results := [.lit (.bool true)], args := [d1, d2] }
  | _ => none }
def shipWholeRow : OpenClaim := { program := "ytclnfkohlklbpaagreat", sum := "f585e0fe58a9523d58d88f35c6743ab90d9f575c701033fcdb126b3907131f1f", func := "yardarm/yardarmlaw.ShipWhole", spec := "shipWhole", inPlace := ["slices.overlaps[yardarm/api.Pool]", "slices.overlaps[yardarm/api.Addr]", "math/bits.Add64", "slices.overlaps[yardarm/api.Lease]"], unfollowed := true, recurses := true, apart := false }
def ShipWholeSaid : Prop := shipWholeRow.holds Tryz.pinned (OpenSpec.ofChange shipWholeSpec)

/-- ITS FALSE NEIGHBOUR: 'it returns false'. Refute it at one input. -/
def shipWholeWrong : ChangeSpec := { name := "shipWhole", fn := fun _ => fun
  | [d1, d2] => { results := [.lit (.bool false)], args := [d1, d2] }
  | _ => none }
def ShipWholeWrongFalsely : Prop := shipWholeRow.holds Tryz.pinned (OpenSpec.ofChange shipWholeWrong)

/- THE SECOND FORM. 'bulk': how many values and letters a reading holds, each counted each time it is reached (what is shared counts as often as it is met; a slice's spare places count too). A statement '..UptoSaid' is the law's where the arguments, and the package variables that the reading takes, are together of bulk at most 1048576: NARROWER than '..Said'. Prove '..Said' where nothing that the law and all that it calls make is longer than what came in: it says more and counts as full. Else prove '..UptoSaid'. A law counts once. -/
mutual
def uptoBulk {H : Type} : DataW H → Nat
  | .lit (.string bytes) => bytes.length + 1
  | .lit _ => 1
  | .nil => 1
  | .ptr d => uptoBulk d + 1
  | .slice elems spare => uptoBulkAll elems + uptoBulkAll spare + 1
  | .agg parts => uptoBulkAll parts + 1
  | .iface _ d => uptoBulk d + 1
  | .map entries => uptoBulkEntries entries + 1
  | .held _ => 1
def uptoBulkAll {H : Type} : List (DataW H) → Nat
  | [] => 0
  | d :: r => uptoBulk d + uptoBulkAll r
def uptoBulkEntries {H : Type} : List (Lit × DataW H) → Nat
  | [] => 0
  | x :: r => uptoBulkEntry x + uptoBulkEntries r
def uptoBulkEntry {H : Type} : Lit × DataW H → Nat
  | (.string bytes, d) => bytes.length + uptoBulk d + 1
  | (_, d) => uptoBulk d + 1
 end
def uptoSmall : (H : Type) → List (DataW H) → Bool := fun _ ds => decide (uptoBulkAll ds ≤ 1048576)
def OpenSpec.upto (s : _root_.Go.ChangeSpec) : _root_.Go.OpenSpec := { _root_.Go.OpenSpec.ofChange s with cond := some uptoSmall }

/-- 'yardarmlaw.ShipNearer', WHERE WHAT IT READS IS OF BULK AT MOST 1048576: true; the input reads as it did. -/
def shipNearerUptoRow : OpenClaim := { program := "ytclnfkohlklbpaagreat", sum := "f585e0fe58a9523d58d88f35c6743ab90d9f575c701033fcdb126b3907131f1f", func := "yardarm/yardarmlaw.ShipNearer", spec := "shipNearer", inPlace := ["slices.overlaps[yardarm/api.Pool]", "slices.overlaps[yardarm/api.Addr]", "math/bits.Add64", "slices.overlaps[yardarm/api.Lease]"], unfollowed := true, recurses := true, apart := false, narrowed := true }
def ShipNearerUptoSaid : Prop := shipNearerUptoRow.holds Tryz.pinned (OpenSpec.upto shipNearerSpec)

/-- 'yardarmlaw.ShipWhole', WHERE WHAT IT READS IS OF BULK AT MOST 1048576: true; the input reads as it did. -/
def shipWholeUptoRow : OpenClaim := { program := "ytclnfkohlklbpaagreat", sum := "f585e0fe58a9523d58d88f35c6743ab90d9f575c701033fcdb126b3907131f1f", func := "yardarm/yardarmlaw.ShipWhole", spec := "shipWhole", inPlace := ["slices.overlaps[yardarm/api.Pool]", "slices.overlaps[yardarm/api.Addr]", "math/bits.Add64", "slices.overlaps[yardarm/api.Lease]"], unfollowed := true, recurses := true, apart := false, narrowed := true }
def ShipWholeUptoSaid : Prop := shipWholeUptoRow.holds Tryz.pinned (OpenSpec.upto shipWholeSpec)

end Rows
end Go.Proofs.YtclnfkohlklbpaaGreat
