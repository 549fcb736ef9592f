/- The document's SameDisk at two disks that are the same. -/
import Derived.Test.YtjainfehlbfiaaaGreatQ36
import Derived.Test.YtjainfehlbfiaaaGreatQ07
import Derived.Test.YtjainfehlbfiaaaGreatQ06
set_option linter.unusedVariables false
set_option linter.unusedSimpArgs false
namespace Go.Proofs.YtjainfehlbfiaaaGreat
open Go.RowKit

theorem eql_lock (h u : Int) (w : World) : (binOp .eql 23 (.agg #[.int .i64 h, .int .i64 u]) (.agg #[.int .i64 h, .int .i64 u])).run Tryz.prog w = .ok (.bool true) w := by
  simp [go_sem]
set_option maxHeartbeats 16000000 in
set_option maxRecDepth 100000 in
theorem rsame_disk (d : Dk) (a a' : Option Addr) (c c' : Nat) (w : World) (hn : d.l.length ≤ 1000) (hs : Lies enE w a d.l) (hs' : Lies enE w a' d.l) :
    Calls Tryz.prog 10 #[.agg #[.int .i64 d.ep, .int .i64 d.h, .int .i64 d.u, .slice a d.l.length c], .agg #[.int .i64 d.ep, .int .i64 d.h, .int .i64 d.u, .slice a' d.l.length c']] w fun e w' => e = .returned (.bool true) ∧ Below w.heap.size w w' := by
  obtain ⟨W1, hW1⟩ : ∃ W1, W1 = (w.alloc (.cells #[.int .i64 d.ep, .int .i64 d.h, .int .i64 d.u, .slice a d.l.length c] 26)).alloc (.cells #[.int .i64 d.ep, .int .i64 d.h, .int .i64 d.u, .slice a' d.l.length c'] 26) := ⟨_, rfl⟩
  have hb1 : Below w.heap.size w W1 := by rw [hW1]; exact bal (bal (Below.refl w.heap.size w) _) _
  have hD : Blk W1 w.heap.size 26 [.int .i64 d.ep, .int .i64 d.h, .int .i64 d.u, .slice a d.l.length c] := by rw [hW1]; exact (Blk.new w _ _).below (bal (Below.refl _ _) _)
  have hE : Blk W1 (w.heap.size + 1) 26 [.int .i64 d.ep, .int .i64 d.h, .int .i64 d.u, .slice a' d.l.length c'] := by
    rw [hW1]
    have := Blk.new (w.alloc (.cells #[.int .i64 d.ep, .int .i64 d.h, .int .i64 d.u, .slice a d.l.length c] 26)) [.int .i64 d.ep, .int .i64 d.h, .int .i64 d.u, .slice a' d.l.length c'] 26
    rw [show (w.alloc (.cells #[.int .i64 d.ep, .int .i64 d.h, .int .i64 d.u, .slice a d.l.length c] 26)).heap.size = w.heap.size + 1 by simp] at this
    exact this
  have HS := Lib.hid (rsame_log a a' c c' d.l W1 hn (hs.below hb1) (hs'.below hb1))
  have HB1 := Lib.hid hb1
  obtain ⟨⟨d0, d1, d2, d3⟩, f0, f1, f2, f3⟩ := hD.four
  obtain ⟨⟨e0, e1, e2, e3⟩, g0, g1, g2, g3⟩ := hE.four
  rw [hW1] at HS HB1 d0 d1 d2 d3 f0 f1 f2 f3 e0 e1 e2 e3 g0 g1 g2 g3
  clear hb1 hD hE hW1 hs hs' hn W1
  have hL : ∀ W : World, (binOp .eql 23 (.agg #[.int .i64 d.h, .int .i64 d.u]) (.agg #[.int .i64 d.h, .int .i64 d.u])).run Tryz.prog W = .ok (.bool true) W := eql_lock d.h d.u
  generalize d.ep = x0 at *
  generalize d.h = x1 at *
  generalize d.u = x2 at *
  generalize d.l.length = N at *
  go_enter Tryz.func10, Tryz.ntmps10
  go_wp2_with fail
  refine HS.out.mono ?_
  rintro e w2 ⟨rfl, hb2⟩
  have HB2 := Lib.hid (btr HB1.out hb2)
  clear hb2 HS
  go_wp2
  go_ret
  exact ⟨rfl, HB2.out⟩
end Go.Proofs.YtjainfehlbfiaaaGreat
