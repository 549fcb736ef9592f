/- yardarmlaw.prefixBegun: its calls at their own inputs. -/
import Derived.Test.YtghbonlignmdoaaGreatDoorPfH
import Derived.Test.YtghbonlignmdoaaGreatDoorNetV
set_option linter.unusedVariables false
set_option linter.unusedSimpArgs false
namespace Go.Proofs.YtghbonlignmdoaaGreatDoor
open Go.RowKit

theorem pv1 : rform [49, 48, 46, 48, 46, 48, 46, 48, 47, 51, 48] = some (false, 0, 167772160, 30) := by decide +kernel
theorem pv2 : pchk false 0 167772160 30 = 0 := by decide +kernel
theorem pv3 : pchk false 0 167772162 31 = 0 := by decide +kernel
theorem pv4 : pchk false 0 167772160 31 = 0 := by decide +kernel
theorem pv5 : hasB false 0 167772160 30 false 0 167772162 31 = true := by decide +kernel
theorem pv6 : laH false 0 30 = 0 := by decide +kernel
theorem pv7 : laL false 167772160 30 = 167772163 := by decide +kernel
theorem pv8 : fsH false (laH false 0 30) (30 + 1) = 0 := by decide +kernel
theorem pv9 : fsL false (laL false 167772160 30) (30 + 1) = 167772162 := by decide +kernel
theorem pv10 : pchk false 0 1 31 = 4 := by decide +kernel
theorem pv11 : pfTxt false 0 167772162 31 = [49, 48, 46, 48, 46, 48, 46, 50, 47, 51, 49] := by
  unfold pfTxt ptxt
  rw [if_pos (by decide +kernel), if_neg (by simp)]
  unfold four
  simp only [dec3_eq _ (show (167772162 : Int).toNat / 16777216 % 256 < 1000 by decide), dec3_eq _ (show (167772162 : Int).toNat / 65536 % 256 < 1000 by decide), dec3_eq _ (show (167772162 : Int).toNat / 256 % 256 < 1000 by decide), dec3_eq _ (show (167772162 : Int).toNat % 256 < 1000 by decide), dec3_eq _ (show (31 : Int).toNat < 1000 by decide)]
  decide +kernel


theorem qc1 (w : World) (hg : Good w) : Calls Tryz.prog 15 #[.string ⟨#[49, 48, 46, 48, 46, 48, 46, 48, 47, 51, 48]⟩] w fun e w' =>
    e = .returned (.tuple #[.agg #[.bool false, .int .u64 0, .int .u64 167772160, .int .i64 30], .int .i64 0]) ∧ Below w.heap.size w w' := by
  have := pparse_any ⟨#[49, 48, 46, 48, 46, 48, 46, 48, 47, 51, 48]⟩ w hg (by decide)
  rw [show (⟨#[49, 48, 46, 48, 46, 48, 46, 48, 47, 51, 48]⟩ : ByteArray).data.toList = [49, 48, 46, 48, 46, 48, 46, 48, 47, 51, 48] from rfl, pv1] at this
  have e1 : ppE (some (false, 0, 167772160, 30)) = 0 := pv2
  have e2 : ppV (some (false, 0, 167772160, 30)) = .agg #[.bool false, .int .u64 0, .int .u64 167772160, .int .i64 30] := by unfold ppV; exact if_pos (c := pchk false 0 167772160 30 = 0) pv2
  rw [e1, e2] at this
  exact this
theorem qc2 (w : World) : Calls Tryz.prog 10 #[.agg #[.bool false, .int .u64 0, .int .u64 167772160, .int .i64 30], .agg #[.bool false, .int .u64 0, .int .u64 167772162, .int .i64 31]] w fun e w' =>
    e = .returned (.tuple #[.bool true, .int .i64 0]) ∧ Below w.heap.size w w' := by
  have := has_ok false 0 167772160 30 false 0 167772162 31 w (by decide) (by decide) (by decide) (by decide) (by decide) (by decide) (by decide) (by decide) (by rw [pv2, pv3]; rfl)
  rw [pv5] at this
  exact this
theorem qc3 (w : World) : Calls Tryz.prog 17 #[.agg #[.bool false, .int .u64 0, .int .u64 167772160, .int .i64 30]] w fun e w' =>
    e = .returned (.tuple #[.agg #[.bool false, .int .u64 0, .int .u64 167772160], .agg #[.bool false, .int .u64 0, .int .u64 167772163], .int .i64 0]) ∧ Below w.heap.size w w' := by
  have := ends_ok false 0 167772160 30 w (by decide) (by decide) (by decide) (by decide) pv2
  rw [pv6, pv7] at this
  exact this
theorem qc4 (w : World) : Calls Tryz.prog 18 #[.agg #[.bool false, .int .u64 0, .int .u64 167772160, .int .i64 30]] w fun e w' =>
    e = .returned (.tuple #[.agg #[.bool false, .int .u64 0, .int .u64 167772160, .int .i64 31], .agg #[.bool false, .int .u64 0, .int .u64 167772162, .int .i64 31], .int .i64 0]) ∧ Below w.heap.size w w' := by
  have := halves_ok false 0 167772160 30 w (by decide) (by decide) (by decide) (by decide) pv2 (by decide)
  rw [pv8, pv9] at this
  exact this
theorem qc5 (w : World) : Calls Tryz.prog 19 #[.agg #[.bool false, .int .u64 0, .int .u64 167772160, .int .i64 31], .agg #[.bool false, .int .u64 0, .int .u64 167772162, .int .i64 31]] w fun e w' =>
    e = .returned (.tuple #[.agg #[.bool false, .int .u64 0, .int .u64 167772160, .int .i64 30], .int .i64 0]) ∧ Below w.heap.size w w' := by
  have := whole_ok false 0 167772160 31 false 0 167772162 31 w (by decide) (by decide) (by decide) (by decide) (by decide) (by decide) (by decide) (by decide) (by rw [pv4, pv3]; rfl) (by decide +kernel) (by decide +kernel)
  exact this
theorem qc6 (w : World) (hg : Good w) : Calls Tryz.prog 20 #[.agg #[.bool false, .int .u64 0, .int .u64 167772162, .int .i64 31]] w fun e w' =>
    e = .returned (.tuple #[.string ⟨#[49, 48, 46, 48, 46, 48, 46, 50, 47, 51, 49]⟩, .int .i64 0]) ∧ Below w.heap.size w w' := by
  have := pprint_ok false 0 167772162 31 w hg (by decide) (by decide) (by decide) (by decide) pv3
  rw [pv11] at this
  exact this
theorem qc7 (w : World) : Calls Tryz.prog 21 #[.agg #[.bool false, .int .u64 0, .int .u64 1, .int .i64 31]] w fun e w' => e = .returned (.int .i64 4) ∧ Below w.heap.size w w' := by
  have := pcheck_any false 0 1 31 w (by decide) (by decide) (by decide) (by decide)
  rw [pv10] at this
  exact this
end Go.Proofs.YtghbonlignmdoaaGreatDoor
