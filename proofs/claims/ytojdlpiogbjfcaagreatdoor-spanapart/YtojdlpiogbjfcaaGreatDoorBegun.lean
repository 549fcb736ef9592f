/- yardarmlaw.addrBegun: the closed part of the laws on addresses: it is true. -/
import Derived.Test.YtojdlpiogbjfcaaGreatDoorPr16
import Derived.Test.YtojdlpiogbjfcaaGreatDoorV4
import Derived.Test.YtojdlpiogbjfcaaGreatDoorParse
import Derived.Test.YtojdlpiogbjfcaaGreatDoorNext
namespace Go.Proofs.YtojdlpiogbjfcaaGreatDoor
open Go.RowKit

theorem ev1 : rparse [50, 48, 48, 49, 58, 68, 66, 56, 58, 48, 58, 48, 58, 49, 58, 58, 49, 46, 50, 46, 51, 46, 52] = some (true, 2306139568115548160, 281474993619716) := by decide +kernel
theorem ev2 : rparse [49, 48, 46, 48, 46, 48, 46, 50, 53, 53] = some (false, 0, 167772415) := by decide +kernel
theorem ev3 : rparse [49, 58, 58, 50, 58, 58, 51] = none := by decide +kernel
theorem ev4 : ptxt true 2306139568115548160 281474993619716 = [50, 48, 48, 49, 58, 100, 98, 56, 58, 58, 49, 58, 48, 58, 49, 48, 50, 58, 51, 48, 52] := by decide +kernel
theorem ev5 : ptxt true 0 0 = [58, 58] := by decide +kernel


theorem keepA {w W : World} {pb pd : Nat} {x y z x' y' z' : Value} {o : Obj} (h : Has3 W pb x y z ∧ Has3 W pd x' y' z' ∧ Below w.heap.size w W) :
    Has3 (W.alloc o) pb x y z ∧ Has3 (W.alloc o) pd x' y' z' ∧ Below w.heap.size w (W.alloc o) := ⟨h.1.alloc _, h.2.1.alloc _, bal h.2.2 _⟩

theorem keepB {w W : World} {pb pd : Nat} {x y z x' y' z' : Value} (h : Has3 W pb x y z ∧ Has3 W pd x' y' z' ∧ Below w.heap.size w W) : Below w.heap.size w W := h.2.2


theorem pc1 (w : World) (hg : Good w) : Calls Tryz.prog 59 #[.string ⟨#[50, 48, 48, 49, 58, 68, 66, 56, 58, 48, 58, 48, 58, 49, 58, 58, 49, 46, 50, 46, 51, 46, 52]⟩] w fun e w' =>
    e = .returned (.tuple #[.agg #[.bool true, .int .u64 2306139568115548160, .int .u64 281474993619716], .int .i64 0]) ∧ Below w.heap.size w w' := by
  have := parse_any ⟨#[50, 48, 48, 49, 58, 68, 66, 56, 58, 48, 58, 48, 58, 49, 58, 58, 49, 46, 50, 46, 51, 46, 52]⟩ w hg
  rw [ev1] at this
  exact this
theorem pc2 (w : World) (hg : Good w) : Calls Tryz.prog 59 #[.string ⟨#[49, 48, 46, 48, 46, 48, 46, 50, 53, 53]⟩] w fun e w' =>
    e = .returned (.tuple #[.agg #[.bool false, .int .u64 0, .int .u64 167772415], .int .i64 0]) ∧ Below w.heap.size w w' := by
  have := parse_any ⟨#[49, 48, 46, 48, 46, 48, 46, 50, 53, 53]⟩ w hg
  rw [ev2] at this
  exact this
theorem pc3 (w : World) (hg : Good w) : Calls Tryz.prog 59 #[.string ⟨#[49, 58, 58, 50, 58, 58, 51]⟩] w fun e w' =>
    e = .returned (.tuple #[.agg #[.bool false, .int .u64 0, .int .u64 0], .int .i64 1]) ∧ Below w.heap.size w w' := by
  have := parse_any ⟨#[49, 58, 58, 50, 58, 58, 51]⟩ w hg
  rw [ev3] at this
  exact this
theorem pc4 (w : World) (hg : Good w) : Calls Tryz.prog 38 #[.agg #[.bool true, .int .u64 2306139568115548160, .int .u64 281474993619716]] w fun e w' =>
    e = .returned (.tuple #[.string ⟨#[50, 48, 48, 49, 58, 100, 98, 56, 58, 58, 49, 58, 48, 58, 49, 48, 50, 58, 51, 48, 52]⟩, .int .i64 0]) ∧ Below w.heap.size w w' := by
  have := print_any true 2306139568115548160 281474993619716 w hg (by decide) (by decide) (by decide) (by decide)
  rw [ev4] at this
  exact this
theorem pc5 (w : World) (hg : Good w) : Calls Tryz.prog 38 #[.agg #[.bool true, .int .u64 0, .int .u64 0]] w fun e w' =>
    e = .returned (.tuple #[.string ⟨#[58, 58]⟩, .int .i64 0]) ∧ Below w.heap.size w w' := by
  have := print_any true 0 0 w hg (by decide) (by decide) (by decide) (by decide)
  rw [ev5] at this
  exact this
theorem pc7 (w : World) : Calls Tryz.prog 16 #[.agg #[.bool false, .int .u64 0, .int .u64 167772415], .agg #[.bool true, .int .u64 2306139568115548160, .int .u64 281474993619716]] w fun e w' =>
    e = .returned (.tuple #[.bool true, .int .i64 0]) ∧ Below w.heap.size w w' := by
  have := less_any false true 0 167772415 2306139568115548160 281474993619716 w (by decide) (by decide) (by decide) (by decide)
  rw [show lessB false 0 167772415 true 2306139568115548160 281474993619716 = true by decide +kernel, show lessE false 0 167772415 true 2306139568115548160 281474993619716 = 0 by decide +kernel] at this
  exact this

end Go.Proofs.YtojdlpiogbjfcaaGreatDoor
