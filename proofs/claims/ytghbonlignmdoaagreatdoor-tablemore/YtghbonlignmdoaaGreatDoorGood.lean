/- What the walks lean on of the package-level variables of Go's library, and that it stays so while nothing old turns. -/
import Derived.Test.YtghbonlignmdoaaGreatDoorRows
import Derived.Test.YtghbonlignmdoaaGreatDoorLess
import Derived.Lib.SmallJoins
import Derived.Lib.LaidTab
import Derived.Test.YtghbonlignmdoaaGreatDoorShelf
namespace Go.Proofs.YtghbonlignmdoaaGreatDoor
open Go.RowKit

/-- The library's variables that the road reads hold what its text lays in them. -/
structure Good (w : World) : Prop where
  size : Tryz.prog.globals.size ≤ w.heap.size
  maxlen : ∃ m, w.cell? ⟨1, 0, none⟩ = some (.int .i64 m)
  syn : ∃ t p, w.cell? ⟨2, 0, none⟩ = some (.iface t p)
  rng : ∃ t p, w.cell? ⟨3, 0, none⟩ = some (.iface t p)
  pow : Lib.TabIs Tryz.prog w "internal/strconv.uint64pow10" .u64 Lib.pow10Tab
  tz : w.cell? ⟨5, 15, none⟩ = some (.int .u8 4)

theorem glob_size : Tryz.prog.globals.size = 8 := by kernel_rfl
theorem Good.below {w w' : World} (h : Good w) (hb : Below w.heap.size w w') : Good w' := by
  have hs := h.size
  rw [glob_size] at hs
  obtain ⟨hc, _⟩ := bcell hb
  refine ⟨?_, ?_, ?_, ?_, ?_, ?_⟩
  · rw [glob_size]; exact Nat.le_trans hs hb.size
  · rw [hc _ _ (by omega)]; exact h.maxlen
  · rw [hc _ _ (by omega)]; exact h.syn
  · rw [hc _ _ (by omega)]; exact h.rng
  · exact Go.Joins.tab_stays (g := 0) (by kernel_rfl) h.pow hb (Nat.le_refl _)
  · rw [hc _ _ (by omega)]; exact h.tz
end Go.Proofs.YtghbonlignmdoaaGreatDoor
