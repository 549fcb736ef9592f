/- yardarmlaw.PrefixHalves, its walks, a road each. -/
import Derived.Test.YtflbcgpcgjnhgaaGreatDoorPBb
set_option linter.unusedVariables false
set_option linter.unusedSimpArgs false
namespace Go.Proofs.YtflbcgpcgjnhgaaGreatDoor
open Go.RowKit

set_option maxHeartbeats 32000000 in
set_option maxRecDepth 100000 in
theorem halv_bad (v : Bool) (hi lo b b' gh gl yh yl lh ll k : Int) (s : ByteArray) (w : World) (hg : Good w)
    (h1 : Hid (∀ w : World, Calls Tryz.prog 10 #[.agg #[.bool v, .int .u64 hi, .int .u64 lo, .int .i64 b]] w fun e w' => e = .returned (.tuple #[.agg #[.bool false, .int .u64 0, .int .u64 0, .int .i64 0], .agg #[.bool false, .int .u64 0, .int .u64 0, .int .i64 0], .int .i64 k]) ∧ Below w.heap.size w w'))
    (h2 : Hid (∀ w : World, Good w → Calls Tryz.prog 6 #[.agg #[.bool v, .int .u64 hi, .int .u64 lo, .int .i64 b]] w fun e w' => e = .returned (.tuple #[.string s, .int .i64 k]) ∧ Below w.heap.size w w'))
    (hk : (k == 0) = false) (hk0 : (k != 0) = true) (hk5 : (k != 5) = true)
    : Calls Tryz.prog 5 #[.agg #[.bool v, .int .u64 hi, .int .u64 lo, .int .i64 b]] w fun e w' => e = .returned (.bool true) ∧ Below w.heap.size w w' := by
  have hB1 : Hid (∀ w : World, Good w → Calls Tryz.prog 19 #[] w fun e w' => e = .returned (.bool true) ∧ Below w.heap.size w w') := fun w => pbegun_any w
  have hB2 : Hid (∀ w : World, Good w → Calls Tryz.prog 22 #[] w fun e w' => e = .returned (.bool true) ∧ Below w.heap.size w w') := fun w => begun_any w
  have HG : Hid (∀ w1 : World, Below w.heap.size w w1 → Good w1) := fun w1 h => hg.below h
  have B : Hid (Below w.heap.size w w) := Below.refl _ _
  clear hg
  replace B : Hid (Below w.heap.size w (w.alloc (.cells #[.bool v, .int .u64 hi, .int .u64 lo, .int .i64 b] 26))) := bal (B.out) _
  have P : Hid (Has4 (w.alloc (.cells #[.bool v, .int .u64 hi, .int .u64 lo, .int .i64 b] 26)) (w.heap.size) v hi lo b) := Has4.new w v hi lo b 26
  go_enter Tryz.func5, Tryz.ntmps5
  obtain ⟨P0, P1, P2, P3, P4⟩ := P.out
  go_wp2_with fail
  generalize (w.alloc (.cells #[.bool v, .int .u64 hi, .int .u64 lo, .int .i64 b] 26)) = W0 at *
  refine (h1.out _).mono ?_
  clear P0 P1 P2 P3 P4 
  rintro e w1 ⟨rfl, hb⟩
  replace B : Hid (Below w.heap.size w w1) := btr B.out hb
  replace P : Hid (Has4 w1 (w.heap.size) v hi lo b) := P.out.below hb
  clear hb
  replace P : Hid (Has4 ((w1.alloc (.cells #[.bool false, .int .u64 0, .int .u64 0, .int .i64 0] 26)).alloc (.cells #[.bool false, .int .u64 0, .int .u64 0, .int .i64 0] 26)) (w.heap.size) v hi lo b) := ((P.out).alloc (.cells #[.bool false, .int .u64 0, .int .u64 0, .int .i64 0] 26)).alloc (.cells #[.bool false, .int .u64 0, .int .u64 0, .int .i64 0] 26)
  replace B : Hid (Below w.heap.size w ((w1.alloc (.cells #[.bool false, .int .u64 0, .int .u64 0, .int .i64 0] 26)).alloc (.cells #[.bool false, .int .u64 0, .int .u64 0, .int .i64 0] 26))) := bal (bal (B.out) _) _
  have A1 : Hid (Has4 ((w1.alloc (.cells #[.bool false, .int .u64 0, .int .u64 0, .int .i64 0] 26)).alloc (.cells #[.bool false, .int .u64 0, .int .u64 0, .int .i64 0] 26)) (w1.heap.size) false 0 0 0) := (Has4.new w1 false 0 0 0 26).alloc (.cells #[.bool false, .int .u64 0, .int .u64 0, .int .i64 0] 26)
  have B1 : Hid (Has4 ((w1.alloc (.cells #[.bool false, .int .u64 0, .int .u64 0, .int .i64 0] 26)).alloc (.cells #[.bool false, .int .u64 0, .int .u64 0, .int .i64 0] 26)) (w1.heap.size + 1) false 0 0 0) := by
    have := Has4.new (w1.alloc (.cells #[.bool false, .int .u64 0, .int .u64 0, .int .i64 0] 26)) false 0 0 0 26
    rw [show (w1.alloc (.cells #[.bool false, .int .u64 0, .int .u64 0, .int .i64 0] 26)).heap.size = w1.heap.size + 1 by simp] at this
    exact this
  go_wp2_with fail
  generalize ((w1.alloc (.cells #[.bool false, .int .u64 0, .int .u64 0, .int .i64 0] 26)).alloc (.cells #[.bool false, .int .u64 0, .int .u64 0, .int .i64 0] 26)) = W1 at *
  generalize w1.heap.size = m1 at *
  refine (hB1.out _ (HG.out _ B.out)).mono ?_
  rintro e w2 ⟨rfl, hb⟩
  replace B : Hid (Below w.heap.size w w2) := btr B.out hb
  replace P : Hid (Has4 w2 (w.heap.size) v hi lo b) := P.out.below hb
  replace A1 : Hid (Has4 w2 (m1) false 0 0 0) := A1.out.below hb
  replace B1 : Hid (Has4 w2 (m1 + 1) false 0 0 0) := B1.out.below hb
  clear hb
  go_wp2_with fail
  refine (hB2.out _ (HG.out _ B.out)).mono ?_
  rintro e w3 ⟨rfl, hb⟩
  replace B : Hid (Below w.heap.size w w3) := btr B.out hb
  replace P : Hid (Has4 w3 (w.heap.size) v hi lo b) := P.out.below hb
  replace A1 : Hid (Has4 w3 (m1) false 0 0 0) := A1.out.below hb
  replace B1 : Hid (Has4 w3 (m1 + 1) false 0 0 0) := B1.out.below hb
  clear hb
  obtain ⟨P0, P1, P2, P3, P4⟩ := P.out
  go_wp2_with fail
  refine (h2.out _ (HG.out _ B.out)).mono ?_
  clear P0 P1 P2 P3 P4 
  rintro e w4 ⟨rfl, hb⟩
  replace B : Hid (Below w.heap.size w w4) := btr B.out hb
  replace P : Hid (Has4 w4 (w.heap.size) v hi lo b) := P.out.below hb
  replace A1 : Hid (Has4 w4 (m1) false 0 0 0) := A1.out.below hb
  replace B1 : Hid (Has4 w4 (m1 + 1) false 0 0 0) := B1.out.below hb
  clear hb
  obtain ⟨P0, P1, P2, P3, P4⟩ := P.out
  go_wp2
  go_ret
  exact ⟨rfl, B.out⟩

set_option maxHeartbeats 32000000 in
set_option maxRecDepth 100000 in
theorem halv_none6 (v : Bool) (hi lo b b' gh gl yh yl lh ll k : Int) (s : ByteArray) (w : World) (hg : Good w)
    (h1 : Hid (∀ w : World, Calls Tryz.prog 10 #[.agg #[.bool v, .int .u64 hi, .int .u64 lo, .int .i64 b]] w fun e w' => e = .returned (.tuple #[.agg #[.bool false, .int .u64 0, .int .u64 0, .int .i64 0], .agg #[.bool false, .int .u64 0, .int .u64 0, .int .i64 0], .int .i64 5]) ∧ Below w.heap.size w w'))
    (h2 : Hid (∀ w : World, Good w → Calls Tryz.prog 6 #[.agg #[.bool v, .int .u64 hi, .int .u64 lo, .int .i64 b]] w fun e w' => e = .returned (.tuple #[.string s, .int .i64 0]) ∧ Below w.heap.size w w'))
    (h3 : Hid (∀ w : World, Good w → Calls Tryz.prog 7 #[.string s] w fun e w' => e = .returned (.tuple #[.agg #[.bool v, .int .u64 hi, .int .u64 lo, .int .i64 b], .int .i64 0]) ∧ Below w.heap.size w w'))
    (hv : v = true) (hb : b = 128)
    : Calls Tryz.prog 5 #[.agg #[.bool v, .int .u64 hi, .int .u64 lo, .int .i64 b]] w fun e w' => e = .returned (.bool true) ∧ Below w.heap.size w w' := by
  have hB1 : Hid (∀ w : World, Good w → Calls Tryz.prog 19 #[] w fun e w' => e = .returned (.bool true) ∧ Below w.heap.size w w') := fun w => pbegun_any w
  have hB2 : Hid (∀ w : World, Good w → Calls Tryz.prog 22 #[] w fun e w' => e = .returned (.bool true) ∧ Below w.heap.size w w') := fun w => begun_any w
  subst hv hb
  have hN := neq_pf true hi lo 128 true hi lo 128
  rw [show eqP true hi lo 128 true hi lo 128 = true by simp [eqA, eqP]] at hN
  have HG : Hid (∀ w1 : World, Below w.heap.size w w1 → Good w1) := fun w1 h => hg.below h
  have B : Hid (Below w.heap.size w w) := Below.refl _ _
  clear hg
  replace B : Hid (Below w.heap.size w (w.alloc (.cells #[.bool true, .int .u64 hi, .int .u64 lo, .int .i64 128] 26))) := bal (B.out) _
  have P : Hid (Has4 (w.alloc (.cells #[.bool true, .int .u64 hi, .int .u64 lo, .int .i64 128] 26)) (w.heap.size) true hi lo 128) := Has4.new w true hi lo 128 26
  go_enter Tryz.func5, Tryz.ntmps5
  obtain ⟨P0, P1, P2, P3, P4⟩ := P.out
  go_wp2_with fail
  generalize (w.alloc (.cells #[.bool true, .int .u64 hi, .int .u64 lo, .int .i64 128] 26)) = W0 at *
  refine (h1.out _).mono ?_
  clear P0 P1 P2 P3 P4 
  rintro e w1 ⟨rfl, hb⟩
  replace B : Hid (Below w.heap.size w w1) := btr B.out hb
  replace P : Hid (Has4 w1 (w.heap.size) true hi lo 128) := P.out.below hb
  clear hb
  replace P : Hid (Has4 ((w1.alloc (.cells #[.bool false, .int .u64 0, .int .u64 0, .int .i64 0] 26)).alloc (.cells #[.bool false, .int .u64 0, .int .u64 0, .int .i64 0] 26)) (w.heap.size) true hi lo 128) := ((P.out).alloc (.cells #[.bool false, .int .u64 0, .int .u64 0, .int .i64 0] 26)).alloc (.cells #[.bool false, .int .u64 0, .int .u64 0, .int .i64 0] 26)
  replace B : Hid (Below w.heap.size w ((w1.alloc (.cells #[.bool false, .int .u64 0, .int .u64 0, .int .i64 0] 26)).alloc (.cells #[.bool false, .int .u64 0, .int .u64 0, .int .i64 0] 26))) := bal (bal (B.out) _) _
  have A1 : Hid (Has4 ((w1.alloc (.cells #[.bool false, .int .u64 0, .int .u64 0, .int .i64 0] 26)).alloc (.cells #[.bool false, .int .u64 0, .int .u64 0, .int .i64 0] 26)) (w1.heap.size) false 0 0 0) := (Has4.new w1 false 0 0 0 26).alloc (.cells #[.bool false, .int .u64 0, .int .u64 0, .int .i64 0] 26)
  have B1 : Hid (Has4 ((w1.alloc (.cells #[.bool false, .int .u64 0, .int .u64 0, .int .i64 0] 26)).alloc (.cells #[.bool false, .int .u64 0, .int .u64 0, .int .i64 0] 26)) (w1.heap.size + 1) false 0 0 0) := by
    have := Has4.new (w1.alloc (.cells #[.bool false, .int .u64 0, .int .u64 0, .int .i64 0] 26)) false 0 0 0 26
    rw [show (w1.alloc (.cells #[.bool false, .int .u64 0, .int .u64 0, .int .i64 0] 26)).heap.size = w1.heap.size + 1 by simp] at this
    exact this
  go_wp2_with fail
  generalize ((w1.alloc (.cells #[.bool false, .int .u64 0, .int .u64 0, .int .i64 0] 26)).alloc (.cells #[.bool false, .int .u64 0, .int .u64 0, .int .i64 0] 26)) = W1 at *
  generalize w1.heap.size = m1 at *
  refine (hB1.out _ (HG.out _ B.out)).mono ?_
  rintro e w2 ⟨rfl, hb⟩
  replace B : Hid (Below w.heap.size w w2) := btr B.out hb
  replace P : Hid (Has4 w2 (w.heap.size) true hi lo 128) := P.out.below hb
  replace A1 : Hid (Has4 w2 (m1) false 0 0 0) := A1.out.below hb
  replace B1 : Hid (Has4 w2 (m1 + 1) false 0 0 0) := B1.out.below hb
  clear hb
  go_wp2_with fail
  refine (hB2.out _ (HG.out _ B.out)).mono ?_
  rintro e w3 ⟨rfl, hb⟩
  replace B : Hid (Below w.heap.size w w3) := btr B.out hb
  replace P : Hid (Has4 w3 (w.heap.size) true hi lo 128) := P.out.below hb
  replace A1 : Hid (Has4 w3 (m1) false 0 0 0) := A1.out.below hb
  replace B1 : Hid (Has4 w3 (m1 + 1) false 0 0 0) := B1.out.below hb
  clear hb
  obtain ⟨P0, P1, P2, P3, P4⟩ := P.out
  go_wp2_with fail
  refine (h2.out _ (HG.out _ B.out)).mono ?_
  clear P0 P1 P2 P3 P4 
  rintro e w4 ⟨rfl, hb⟩
  replace B : Hid (Below w.heap.size w w4) := btr B.out hb
  replace P : Hid (Has4 w4 (w.heap.size) true hi lo 128) := P.out.below hb
  replace A1 : Hid (Has4 w4 (m1) false 0 0 0) := A1.out.below hb
  replace B1 : Hid (Has4 w4 (m1 + 1) false 0 0 0) := B1.out.below hb
  clear hb
  obtain ⟨P0, P1, P2, P3, P4⟩ := P.out
  go_wp2_with fail
  refine (h3.out _ (HG.out _ B.out)).mono ?_
  clear P0 P1 P2 P3 P4 
  rintro e w5 ⟨rfl, hb⟩
  replace B : Hid (Below w.heap.size w w5) := btr B.out hb
  replace P : Hid (Has4 w5 (w.heap.size) true hi lo 128) := P.out.below hb
  replace A1 : Hid (Has4 w5 (m1) false 0 0 0) := A1.out.below hb
  replace B1 : Hid (Has4 w5 (m1 + 1) false 0 0 0) := B1.out.below hb
  clear hb
  replace P : Hid (Has4 (w5.alloc (.cells #[.bool true, .int .u64 hi, .int .u64 lo, .int .i64 128] 26)) (w.heap.size) true hi lo 128) := (P.out).alloc (.cells #[.bool true, .int .u64 hi, .int .u64 lo, .int .i64 128] 26)
  replace A1 : Hid (Has4 (w5.alloc (.cells #[.bool true, .int .u64 hi, .int .u64 lo, .int .i64 128] 26)) (m1) false 0 0 0) := (A1.out).alloc (.cells #[.bool true, .int .u64 hi, .int .u64 lo, .int .i64 128] 26)
  replace B1 : Hid (Has4 (w5.alloc (.cells #[.bool true, .int .u64 hi, .int .u64 lo, .int .i64 128] 26)) (m1 + 1) false 0 0 0) := (B1.out).alloc (.cells #[.bool true, .int .u64 hi, .int .u64 lo, .int .i64 128] 26)
  replace B : Hid (Below w.heap.size w (w5.alloc (.cells #[.bool true, .int .u64 hi, .int .u64 lo, .int .i64 128] 26))) := bal (B.out) _
  have Q : Hid (Has4 (w5.alloc (.cells #[.bool true, .int .u64 hi, .int .u64 lo, .int .i64 128] 26)) (w5.heap.size) true hi lo 128) := Has4.new w5 true hi lo 128 26
  obtain ⟨P0, P1, P2, P3, P4⟩ := P.out
  obtain ⟨Q0, Q1, Q2, Q3, Q4⟩ := Q.out
  go_wp2
  go_ret
  exact ⟨rfl, B.out⟩

set_option maxHeartbeats 32000000 in
set_option maxRecDepth 100000 in
theorem halv_none4 (v : Bool) (hi lo b b' gh gl yh yl lh ll k : Int) (s : ByteArray) (w : World) (hg : Good w)
    (h1 : Hid (∀ w : World, Calls Tryz.prog 10 #[.agg #[.bool v, .int .u64 hi, .int .u64 lo, .int .i64 b]] w fun e w' => e = .returned (.tuple #[.agg #[.bool false, .int .u64 0, .int .u64 0, .int .i64 0], .agg #[.bool false, .int .u64 0, .int .u64 0, .int .i64 0], .int .i64 5]) ∧ Below w.heap.size w w'))
    (h2 : Hid (∀ w : World, Good w → Calls Tryz.prog 6 #[.agg #[.bool v, .int .u64 hi, .int .u64 lo, .int .i64 b]] w fun e w' => e = .returned (.tuple #[.string s, .int .i64 0]) ∧ Below w.heap.size w w'))
    (h3 : Hid (∀ w : World, Good w → Calls Tryz.prog 7 #[.string s] w fun e w' => e = .returned (.tuple #[.agg #[.bool v, .int .u64 hi, .int .u64 lo, .int .i64 b], .int .i64 0]) ∧ Below w.heap.size w w'))
    (hv : v = false) (hb : b = 32)
    : Calls Tryz.prog 5 #[.agg #[.bool v, .int .u64 hi, .int .u64 lo, .int .i64 b]] w fun e w' => e = .returned (.bool true) ∧ Below w.heap.size w w' := by
  have hB1 : Hid (∀ w : World, Good w → Calls Tryz.prog 19 #[] w fun e w' => e = .returned (.bool true) ∧ Below w.heap.size w w') := fun w => pbegun_any w
  have hB2 : Hid (∀ w : World, Good w → Calls Tryz.prog 22 #[] w fun e w' => e = .returned (.bool true) ∧ Below w.heap.size w w') := fun w => begun_any w
  subst hv hb
  have hN := neq_pf false hi lo 32 false hi lo 32
  rw [show eqP false hi lo 32 false hi lo 32 = true by simp [eqA, eqP]] at hN
  have HG : Hid (∀ w1 : World, Below w.heap.size w w1 → Good w1) := fun w1 h => hg.below h
  have B : Hid (Below w.heap.size w w) := Below.refl _ _
  clear hg
  replace B : Hid (Below w.heap.size w (w.alloc (.cells #[.bool false, .int .u64 hi, .int .u64 lo, .int .i64 32] 26))) := bal (B.out) _
  have P : Hid (Has4 (w.alloc (.cells #[.bool false, .int .u64 hi, .int .u64 lo, .int .i64 32] 26)) (w.heap.size) false hi lo 32) := Has4.new w false hi lo 32 26
  go_enter Tryz.func5, Tryz.ntmps5
  obtain ⟨P0, P1, P2, P3, P4⟩ := P.out
  go_wp2_with fail
  generalize (w.alloc (.cells #[.bool false, .int .u64 hi, .int .u64 lo, .int .i64 32] 26)) = W0 at *
  refine (h1.out _).mono ?_
  clear P0 P1 P2 P3 P4 
  rintro e w1 ⟨rfl, hb⟩
  replace B : Hid (Below w.heap.size w w1) := btr B.out hb
  replace P : Hid (Has4 w1 (w.heap.size) false hi lo 32) := P.out.below hb
  clear hb
  replace P : Hid (Has4 ((w1.alloc (.cells #[.bool false, .int .u64 0, .int .u64 0, .int .i64 0] 26)).alloc (.cells #[.bool false, .int .u64 0, .int .u64 0, .int .i64 0] 26)) (w.heap.size) false hi lo 32) := ((P.out).alloc (.cells #[.bool false, .int .u64 0, .int .u64 0, .int .i64 0] 26)).alloc (.cells #[.bool false, .int .u64 0, .int .u64 0, .int .i64 0] 26)
  replace B : Hid (Below w.heap.size w ((w1.alloc (.cells #[.bool false, .int .u64 0, .int .u64 0, .int .i64 0] 26)).alloc (.cells #[.bool false, .int .u64 0, .int .u64 0, .int .i64 0] 26))) := bal (bal (B.out) _) _
  have A1 : Hid (Has4 ((w1.alloc (.cells #[.bool false, .int .u64 0, .int .u64 0, .int .i64 0] 26)).alloc (.cells #[.bool false, .int .u64 0, .int .u64 0, .int .i64 0] 26)) (w1.heap.size) false 0 0 0) := (Has4.new w1 false 0 0 0 26).alloc (.cells #[.bool false, .int .u64 0, .int .u64 0, .int .i64 0] 26)
  have B1 : Hid (Has4 ((w1.alloc (.cells #[.bool false, .int .u64 0, .int .u64 0, .int .i64 0] 26)).alloc (.cells #[.bool false, .int .u64 0, .int .u64 0, .int .i64 0] 26)) (w1.heap.size + 1) false 0 0 0) := by
    have := Has4.new (w1.alloc (.cells #[.bool false, .int .u64 0, .int .u64 0, .int .i64 0] 26)) false 0 0 0 26
    rw [show (w1.alloc (.cells #[.bool false, .int .u64 0, .int .u64 0, .int .i64 0] 26)).heap.size = w1.heap.size + 1 by simp] at this
    exact this
  go_wp2_with fail
  generalize ((w1.alloc (.cells #[.bool false, .int .u64 0, .int .u64 0, .int .i64 0] 26)).alloc (.cells #[.bool false, .int .u64 0, .int .u64 0, .int .i64 0] 26)) = W1 at *
  generalize w1.heap.size = m1 at *
  refine (hB1.out _ (HG.out _ B.out)).mono ?_
  rintro e w2 ⟨rfl, hb⟩
  replace B : Hid (Below w.heap.size w w2) := btr B.out hb
  replace P : Hid (Has4 w2 (w.heap.size) false hi lo 32) := P.out.below hb
  replace A1 : Hid (Has4 w2 (m1) false 0 0 0) := A1.out.below hb
  replace B1 : Hid (Has4 w2 (m1 + 1) false 0 0 0) := B1.out.below hb
  clear hb
  go_wp2_with fail
  refine (hB2.out _ (HG.out _ B.out)).mono ?_
  rintro e w3 ⟨rfl, hb⟩
  replace B : Hid (Below w.heap.size w w3) := btr B.out hb
  replace P : Hid (Has4 w3 (w.heap.size) false hi lo 32) := P.out.below hb
  replace A1 : Hid (Has4 w3 (m1) false 0 0 0) := A1.out.below hb
  replace B1 : Hid (Has4 w3 (m1 + 1) false 0 0 0) := B1.out.below hb
  clear hb
  obtain ⟨P0, P1, P2, P3, P4⟩ := P.out
  go_wp2_with fail
  refine (h2.out _ (HG.out _ B.out)).mono ?_
  clear P0 P1 P2 P3 P4 
  rintro e w4 ⟨rfl, hb⟩
  replace B : Hid (Below w.heap.size w w4) := btr B.out hb
  replace P : Hid (Has4 w4 (w.heap.size) false hi lo 32) := P.out.below hb
  replace A1 : Hid (Has4 w4 (m1) false 0 0 0) := A1.out.below hb
  replace B1 : Hid (Has4 w4 (m1 + 1) false 0 0 0) := B1.out.below hb
  clear hb
  obtain ⟨P0, P1, P2, P3, P4⟩ := P.out
  go_wp2_with fail
  refine (h3.out _ (HG.out _ B.out)).mono ?_
  clear P0 P1 P2 P3 P4 
  rintro e w5 ⟨rfl, hb⟩
  replace B : Hid (Below w.heap.size w w5) := btr B.out hb
  replace P : Hid (Has4 w5 (w.heap.size) false hi lo 32) := P.out.below hb
  replace A1 : Hid (Has4 w5 (m1) false 0 0 0) := A1.out.below hb
  replace B1 : Hid (Has4 w5 (m1 + 1) false 0 0 0) := B1.out.below hb
  clear hb
  replace P : Hid (Has4 (w5.alloc (.cells #[.bool false, .int .u64 hi, .int .u64 lo, .int .i64 32] 26)) (w.heap.size) false hi lo 32) := (P.out).alloc (.cells #[.bool false, .int .u64 hi, .int .u64 lo, .int .i64 32] 26)
  replace A1 : Hid (Has4 (w5.alloc (.cells #[.bool false, .int .u64 hi, .int .u64 lo, .int .i64 32] 26)) (m1) false 0 0 0) := (A1.out).alloc (.cells #[.bool false, .int .u64 hi, .int .u64 lo, .int .i64 32] 26)
  replace B1 : Hid (Has4 (w5.alloc (.cells #[.bool false, .int .u64 hi, .int .u64 lo, .int .i64 32] 26)) (m1 + 1) false 0 0 0) := (B1.out).alloc (.cells #[.bool false, .int .u64 hi, .int .u64 lo, .int .i64 32] 26)
  replace B : Hid (Below w.heap.size w (w5.alloc (.cells #[.bool false, .int .u64 hi, .int .u64 lo, .int .i64 32] 26))) := bal (B.out) _
  have Q : Hid (Has4 (w5.alloc (.cells #[.bool false, .int .u64 hi, .int .u64 lo, .int .i64 32] 26)) (w5.heap.size) false hi lo 32) := Has4.new w5 false hi lo 32 26
  obtain ⟨P0, P1, P2, P3, P4⟩ := P.out
  obtain ⟨Q0, Q1, Q2, Q3, Q4⟩ := Q.out
  go_wp2
  go_ret
  exact ⟨rfl, B.out⟩

set_option maxHeartbeats 32000000 in
set_option maxRecDepth 100000 in
theorem halv_ok (v : Bool) (hi lo b b' gh gl yh yl lh ll k : Int) (s : ByteArray) (w : World) (hg : Good w)
    (h1 : Hid (∀ w : World, Calls Tryz.prog 10 #[.agg #[.bool v, .int .u64 hi, .int .u64 lo, .int .i64 b]] w fun e w' => e = .returned (.tuple #[.agg #[.bool v, .int .u64 hi, .int .u64 lo, .int .i64 b'], .agg #[.bool v, .int .u64 gh, .int .u64 gl, .int .i64 b'], .int .i64 0]) ∧ Below w.heap.size w w'))
    (h2 : Hid (∀ w : World, Good w → Calls Tryz.prog 6 #[.agg #[.bool v, .int .u64 hi, .int .u64 lo, .int .i64 b]] w fun e w' => e = .returned (.tuple #[.string s, .int .i64 0]) ∧ Below w.heap.size w w'))
    (h3 : Hid (∀ w : World, Good w → Calls Tryz.prog 7 #[.string s] w fun e w' => e = .returned (.tuple #[.agg #[.bool v, .int .u64 hi, .int .u64 lo, .int .i64 b], .int .i64 0]) ∧ Below w.heap.size w w'))
    (h4 : Hid (∀ w : World, Calls Tryz.prog 11 #[.agg #[.bool v, .int .u64 hi, .int .u64 lo, .int .i64 b'], .agg #[.bool v, .int .u64 gh, .int .u64 gl, .int .i64 b']] w fun e w' => e = .returned (.tuple #[.agg #[.bool v, .int .u64 hi, .int .u64 lo, .int .i64 b], .int .i64 0]) ∧ Below w.heap.size w w'))
    (h5 : Hid (∀ w : World, Calls Tryz.prog 9 #[.agg #[.bool v, .int .u64 hi, .int .u64 lo, .int .i64 b']] w fun e w' => e = .returned (.tuple #[.agg #[.bool v, .int .u64 hi, .int .u64 lo], .agg #[.bool v, .int .u64 yh, .int .u64 yl], .int .i64 0]) ∧ Below w.heap.size w w'))
    (h6 : Hid (∀ w : World, Calls Tryz.prog 9 #[.agg #[.bool v, .int .u64 gh, .int .u64 gl, .int .i64 b']] w fun e w' => e = .returned (.tuple #[.agg #[.bool v, .int .u64 gh, .int .u64 gl], .agg #[.bool v, .int .u64 lh, .int .u64 ll], .int .i64 0]) ∧ Below w.heap.size w w'))
    (h7 : Hid (∀ w : World, Calls Tryz.prog 9 #[.agg #[.bool v, .int .u64 hi, .int .u64 lo, .int .i64 b]] w fun e w' => e = .returned (.tuple #[.agg #[.bool v, .int .u64 hi, .int .u64 lo], .agg #[.bool v, .int .u64 lh, .int .u64 ll], .int .i64 0]) ∧ Below w.heap.size w w'))
    (h8 : Hid (∀ w : World, Calls Tryz.prog 24 #[.agg #[.bool v, .int .u64 yh, .int .u64 yl]] w fun e w' => e = .returned (.tuple #[.agg #[.bool v, .int .u64 gh, .int .u64 gl], .bool true, .int .i64 0]) ∧ Below w.heap.size w w'))
    : Calls Tryz.prog 5 #[.agg #[.bool v, .int .u64 hi, .int .u64 lo, .int .i64 b]] w fun e w' => e = .returned (.bool true) ∧ Below w.heap.size w w' := by
  have hB1 : Hid (∀ w : World, Good w → Calls Tryz.prog 19 #[] w fun e w' => e = .returned (.bool true) ∧ Below w.heap.size w w') := fun w => pbegun_any w
  have hB2 : Hid (∀ w : World, Good w → Calls Tryz.prog 22 #[] w fun e w' => e = .returned (.bool true) ∧ Below w.heap.size w w') := fun w => begun_any w
  have hN := neq_pf v hi lo b v hi lo b
  rw [show eqP v hi lo b v hi lo b = true by simp [eqA, eqP]] at hN
  have HG : Hid (∀ w1 : World, Below w.heap.size w w1 → Good w1) := fun w1 h => hg.below h
  have B : Hid (Below w.heap.size w w) := Below.refl _ _
  clear hg
  replace B : Hid (Below w.heap.size w (w.alloc (.cells #[.bool v, .int .u64 hi, .int .u64 lo, .int .i64 b] 26))) := bal (B.out) _
  have P : Hid (Has4 (w.alloc (.cells #[.bool v, .int .u64 hi, .int .u64 lo, .int .i64 b] 26)) (w.heap.size) v hi lo b) := Has4.new w v hi lo b 26
  go_enter Tryz.func5, Tryz.ntmps5
  obtain ⟨P0, P1, P2, P3, P4⟩ := P.out
  go_wp2_with fail
  generalize (w.alloc (.cells #[.bool v, .int .u64 hi, .int .u64 lo, .int .i64 b] 26)) = W0 at *
  refine (h1.out _).mono ?_
  clear P0 P1 P2 P3 P4 
  rintro e w1 ⟨rfl, hb⟩
  replace B : Hid (Below w.heap.size w w1) := btr B.out hb
  replace P : Hid (Has4 w1 (w.heap.size) v hi lo b) := P.out.below hb
  clear hb
  replace P : Hid (Has4 ((w1.alloc (.cells #[.bool v, .int .u64 hi, .int .u64 lo, .int .i64 b'] 26)).alloc (.cells #[.bool v, .int .u64 gh, .int .u64 gl, .int .i64 b'] 26)) (w.heap.size) v hi lo b) := ((P.out).alloc (.cells #[.bool v, .int .u64 hi, .int .u64 lo, .int .i64 b'] 26)).alloc (.cells #[.bool v, .int .u64 gh, .int .u64 gl, .int .i64 b'] 26)
  replace B : Hid (Below w.heap.size w ((w1.alloc (.cells #[.bool v, .int .u64 hi, .int .u64 lo, .int .i64 b'] 26)).alloc (.cells #[.bool v, .int .u64 gh, .int .u64 gl, .int .i64 b'] 26))) := bal (bal (B.out) _) _
  have A1 : Hid (Has4 ((w1.alloc (.cells #[.bool v, .int .u64 hi, .int .u64 lo, .int .i64 b'] 26)).alloc (.cells #[.bool v, .int .u64 gh, .int .u64 gl, .int .i64 b'] 26)) (w1.heap.size) v hi lo b') := (Has4.new w1 v hi lo b' 26).alloc (.cells #[.bool v, .int .u64 gh, .int .u64 gl, .int .i64 b'] 26)
  have B1 : Hid (Has4 ((w1.alloc (.cells #[.bool v, .int .u64 hi, .int .u64 lo, .int .i64 b'] 26)).alloc (.cells #[.bool v, .int .u64 gh, .int .u64 gl, .int .i64 b'] 26)) (w1.heap.size + 1) v gh gl b') := by
    have := Has4.new (w1.alloc (.cells #[.bool v, .int .u64 hi, .int .u64 lo, .int .i64 b'] 26)) v gh gl b' 26
    rw [show (w1.alloc (.cells #[.bool v, .int .u64 hi, .int .u64 lo, .int .i64 b'] 26)).heap.size = w1.heap.size + 1 by simp] at this
    exact this
  go_wp2_with fail
  generalize ((w1.alloc (.cells #[.bool v, .int .u64 hi, .int .u64 lo, .int .i64 b'] 26)).alloc (.cells #[.bool v, .int .u64 gh, .int .u64 gl, .int .i64 b'] 26)) = W1 at *
  generalize w1.heap.size = m1 at *
  refine (hB1.out _ (HG.out _ B.out)).mono ?_
  rintro e w2 ⟨rfl, hb⟩
  replace B : Hid (Below w.heap.size w w2) := btr B.out hb
  replace P : Hid (Has4 w2 (w.heap.size) v hi lo b) := P.out.below hb
  replace A1 : Hid (Has4 w2 (m1) v hi lo b') := A1.out.below hb
  replace B1 : Hid (Has4 w2 (m1 + 1) v gh gl b') := B1.out.below hb
  clear hb
  go_wp2_with fail
  refine (hB2.out _ (HG.out _ B.out)).mono ?_
  rintro e w3 ⟨rfl, hb⟩
  replace B : Hid (Below w.heap.size w w3) := btr B.out hb
  replace P : Hid (Has4 w3 (w.heap.size) v hi lo b) := P.out.below hb
  replace A1 : Hid (Has4 w3 (m1) v hi lo b') := A1.out.below hb
  replace B1 : Hid (Has4 w3 (m1 + 1) v gh gl b') := B1.out.below hb
  clear hb
  obtain ⟨P0, P1, P2, P3, P4⟩ := P.out
  go_wp2_with fail
  refine (h2.out _ (HG.out _ B.out)).mono ?_
  clear P0 P1 P2 P3 P4 
  rintro e w4 ⟨rfl, hb⟩
  replace B : Hid (Below w.heap.size w w4) := btr B.out hb
  replace P : Hid (Has4 w4 (w.heap.size) v hi lo b) := P.out.below hb
  replace A1 : Hid (Has4 w4 (m1) v hi lo b') := A1.out.below hb
  replace B1 : Hid (Has4 w4 (m1 + 1) v gh gl b') := B1.out.below hb
  clear hb
  obtain ⟨P0, P1, P2, P3, P4⟩ := P.out
  go_wp2_with fail
  refine (h3.out _ (HG.out _ B.out)).mono ?_
  clear P0 P1 P2 P3 P4 
  rintro e w5 ⟨rfl, hb⟩
  replace B : Hid (Below w.heap.size w w5) := btr B.out hb
  replace P : Hid (Has4 w5 (w.heap.size) v hi lo b) := P.out.below hb
  replace A1 : Hid (Has4 w5 (m1) v hi lo b') := A1.out.below hb
  replace B1 : Hid (Has4 w5 (m1 + 1) v gh gl b') := B1.out.below hb
  clear hb
  replace P : Hid (Has4 (w5.alloc (.cells #[.bool v, .int .u64 hi, .int .u64 lo, .int .i64 b] 26)) (w.heap.size) v hi lo b) := (P.out).alloc (.cells #[.bool v, .int .u64 hi, .int .u64 lo, .int .i64 b] 26)
  replace A1 : Hid (Has4 (w5.alloc (.cells #[.bool v, .int .u64 hi, .int .u64 lo, .int .i64 b] 26)) (m1) v hi lo b') := (A1.out).alloc (.cells #[.bool v, .int .u64 hi, .int .u64 lo, .int .i64 b] 26)
  replace B1 : Hid (Has4 (w5.alloc (.cells #[.bool v, .int .u64 hi, .int .u64 lo, .int .i64 b] 26)) (m1 + 1) v gh gl b') := (B1.out).alloc (.cells #[.bool v, .int .u64 hi, .int .u64 lo, .int .i64 b] 26)
  replace B : Hid (Below w.heap.size w (w5.alloc (.cells #[.bool v, .int .u64 hi, .int .u64 lo, .int .i64 b] 26))) := bal (B.out) _
  have Q : Hid (Has4 (w5.alloc (.cells #[.bool v, .int .u64 hi, .int .u64 lo, .int .i64 b] 26)) (w5.heap.size) v hi lo b) := Has4.new w5 v hi lo b 26
  obtain ⟨P0, P1, P2, P3, P4⟩ := P.out
  obtain ⟨A10, A11, A12, A13, A14⟩ := A1.out
  obtain ⟨B10, B11, B12, B13, B14⟩ := B1.out
  obtain ⟨Q0, Q1, Q2, Q3, Q4⟩ := Q.out
  go_wp2_with fail
  generalize (w5.alloc (.cells #[.bool v, .int .u64 hi, .int .u64 lo, .int .i64 b] 26)) = W5 at *
  generalize w5.heap.size = m5 at *
  refine (h4.out _).mono ?_
  clear P0 P1 P2 P3 P4 A10 A11 A12 A13 A14 B10 B11 B12 B13 B14 Q0 Q1 Q2 Q3 Q4 
  rintro e w6 ⟨rfl, hb⟩
  replace B : Hid (Below w.heap.size w w6) := btr B.out hb
  replace P : Hid (Has4 w6 (w.heap.size) v hi lo b) := P.out.below hb
  replace A1 : Hid (Has4 w6 (m1) v hi lo b') := A1.out.below hb
  replace B1 : Hid (Has4 w6 (m1 + 1) v gh gl b') := B1.out.below hb
  replace Q : Hid (Has4 w6 (m5) v hi lo b) := Q.out.below hb
  clear hb
  replace P : Hid (Has4 (w6.alloc (.cells #[.bool v, .int .u64 hi, .int .u64 lo, .int .i64 b] 26)) (w.heap.size) v hi lo b) := (P.out).alloc (.cells #[.bool v, .int .u64 hi, .int .u64 lo, .int .i64 b] 26)
  replace A1 : Hid (Has4 (w6.alloc (.cells #[.bool v, .int .u64 hi, .int .u64 lo, .int .i64 b] 26)) (m1) v hi lo b') := (A1.out).alloc (.cells #[.bool v, .int .u64 hi, .int .u64 lo, .int .i64 b] 26)
  replace B1 : Hid (Has4 (w6.alloc (.cells #[.bool v, .int .u64 hi, .int .u64 lo, .int .i64 b] 26)) (m1 + 1) v gh gl b') := (B1.out).alloc (.cells #[.bool v, .int .u64 hi, .int .u64 lo, .int .i64 b] 26)
  replace Q : Hid (Has4 (w6.alloc (.cells #[.bool v, .int .u64 hi, .int .u64 lo, .int .i64 b] 26)) (m5) v hi lo b) := (Q.out).alloc (.cells #[.bool v, .int .u64 hi, .int .u64 lo, .int .i64 b] 26)
  replace B : Hid (Below w.heap.size w (w6.alloc (.cells #[.bool v, .int .u64 hi, .int .u64 lo, .int .i64 b] 26))) := bal (B.out) _
  have V1 : Hid (Has4 (w6.alloc (.cells #[.bool v, .int .u64 hi, .int .u64 lo, .int .i64 b] 26)) (w6.heap.size) v hi lo b) := Has4.new w6 v hi lo b 26
  obtain ⟨A10, A11, A12, A13, A14⟩ := A1.out
  go_wp2_with fail
  generalize (w6.alloc (.cells #[.bool v, .int .u64 hi, .int .u64 lo, .int .i64 b] 26)) = W6 at *
  generalize w6.heap.size = m6 at *
  refine (h5.out _).mono ?_
  clear A10 A11 A12 A13 A14 
  rintro e w7 ⟨rfl, hb⟩
  replace B : Hid (Below w.heap.size w w7) := btr B.out hb
  replace P : Hid (Has4 w7 (w.heap.size) v hi lo b) := P.out.below hb
  replace A1 : Hid (Has4 w7 (m1) v hi lo b') := A1.out.below hb
  replace B1 : Hid (Has4 w7 (m1 + 1) v gh gl b') := B1.out.below hb
  replace Q : Hid (Has4 w7 (m5) v hi lo b) := Q.out.below hb
  replace V1 : Hid (Has4 w7 (m6) v hi lo b) := V1.out.below hb
  clear hb
  replace P : Hid (Has4 ((w7.alloc (.cells #[.bool v, .int .u64 hi, .int .u64 lo] 24)).alloc (.cells #[.bool v, .int .u64 yh, .int .u64 yl] 24)) (w.heap.size) v hi lo b) := ((P.out).alloc (.cells #[.bool v, .int .u64 hi, .int .u64 lo] 24)).alloc (.cells #[.bool v, .int .u64 yh, .int .u64 yl] 24)
  replace A1 : Hid (Has4 ((w7.alloc (.cells #[.bool v, .int .u64 hi, .int .u64 lo] 24)).alloc (.cells #[.bool v, .int .u64 yh, .int .u64 yl] 24)) (m1) v hi lo b') := ((A1.out).alloc (.cells #[.bool v, .int .u64 hi, .int .u64 lo] 24)).alloc (.cells #[.bool v, .int .u64 yh, .int .u64 yl] 24)
  replace B1 : Hid (Has4 ((w7.alloc (.cells #[.bool v, .int .u64 hi, .int .u64 lo] 24)).alloc (.cells #[.bool v, .int .u64 yh, .int .u64 yl] 24)) (m1 + 1) v gh gl b') := ((B1.out).alloc (.cells #[.bool v, .int .u64 hi, .int .u64 lo] 24)).alloc (.cells #[.bool v, .int .u64 yh, .int .u64 yl] 24)
  replace Q : Hid (Has4 ((w7.alloc (.cells #[.bool v, .int .u64 hi, .int .u64 lo] 24)).alloc (.cells #[.bool v, .int .u64 yh, .int .u64 yl] 24)) (m5) v hi lo b) := ((Q.out).alloc (.cells #[.bool v, .int .u64 hi, .int .u64 lo] 24)).alloc (.cells #[.bool v, .int .u64 yh, .int .u64 yl] 24)
  replace V1 : Hid (Has4 ((w7.alloc (.cells #[.bool v, .int .u64 hi, .int .u64 lo] 24)).alloc (.cells #[.bool v, .int .u64 yh, .int .u64 yl] 24)) (m6) v hi lo b) := ((V1.out).alloc (.cells #[.bool v, .int .u64 hi, .int .u64 lo] 24)).alloc (.cells #[.bool v, .int .u64 yh, .int .u64 yl] 24)
  replace B : Hid (Below w.heap.size w ((w7.alloc (.cells #[.bool v, .int .u64 hi, .int .u64 lo] 24)).alloc (.cells #[.bool v, .int .u64 yh, .int .u64 yl] 24))) := bal (bal (B.out) _) _
  have X1 : Hid (Has3 ((w7.alloc (.cells #[.bool v, .int .u64 hi, .int .u64 lo] 24)).alloc (.cells #[.bool v, .int .u64 yh, .int .u64 yl] 24)) (w7.heap.size) (.bool v) (.int .u64 hi) (.int .u64 lo)) := (Has3.new w7 (.bool v) (.int .u64 hi) (.int .u64 lo) 24).alloc (.cells #[.bool v, .int .u64 yh, .int .u64 yl] 24)
  have Y1 : Hid (Has3 ((w7.alloc (.cells #[.bool v, .int .u64 hi, .int .u64 lo] 24)).alloc (.cells #[.bool v, .int .u64 yh, .int .u64 yl] 24)) (w7.heap.size + 1) (.bool v) (.int .u64 yh) (.int .u64 yl)) := by
    have := Has3.new (w7.alloc (.cells #[.bool v, .int .u64 hi, .int .u64 lo] 24)) (.bool v) (.int .u64 yh) (.int .u64 yl) 24
    rw [show (w7.alloc (.cells #[.bool v, .int .u64 hi, .int .u64 lo] 24)).heap.size = w7.heap.size + 1 by simp] at this
    exact this
  obtain ⟨B10, B11, B12, B13, B14⟩ := B1.out
  go_wp2_with fail
  generalize ((w7.alloc (.cells #[.bool v, .int .u64 hi, .int .u64 lo] 24)).alloc (.cells #[.bool v, .int .u64 yh, .int .u64 yl] 24)) = W7 at *
  generalize w7.heap.size = m7 at *
  refine (h6.out _).mono ?_
  clear B10 B11 B12 B13 B14 
  rintro e w8 ⟨rfl, hb⟩
  replace B : Hid (Below w.heap.size w w8) := btr B.out hb
  replace P : Hid (Has4 w8 (w.heap.size) v hi lo b) := P.out.below hb
  replace A1 : Hid (Has4 w8 (m1) v hi lo b') := A1.out.below hb
  replace B1 : Hid (Has4 w8 (m1 + 1) v gh gl b') := B1.out.below hb
  replace Q : Hid (Has4 w8 (m5) v hi lo b) := Q.out.below hb
  replace V1 : Hid (Has4 w8 (m6) v hi lo b) := V1.out.below hb
  replace X1 : Hid (Has3 w8 (m7) (.bool v) (.int .u64 hi) (.int .u64 lo)) := X1.out.below hb
  replace Y1 : Hid (Has3 w8 (m7 + 1) (.bool v) (.int .u64 yh) (.int .u64 yl)) := Y1.out.below hb
  clear hb
  replace P : Hid (Has4 ((w8.alloc (.cells #[.bool v, .int .u64 gh, .int .u64 gl] 24)).alloc (.cells #[.bool v, .int .u64 lh, .int .u64 ll] 24)) (w.heap.size) v hi lo b) := ((P.out).alloc (.cells #[.bool v, .int .u64 gh, .int .u64 gl] 24)).alloc (.cells #[.bool v, .int .u64 lh, .int .u64 ll] 24)
  replace A1 : Hid (Has4 ((w8.alloc (.cells #[.bool v, .int .u64 gh, .int .u64 gl] 24)).alloc (.cells #[.bool v, .int .u64 lh, .int .u64 ll] 24)) (m1) v hi lo b') := ((A1.out).alloc (.cells #[.bool v, .int .u64 gh, .int .u64 gl] 24)).alloc (.cells #[.bool v, .int .u64 lh, .int .u64 ll] 24)
  replace B1 : Hid (Has4 ((w8.alloc (.cells #[.bool v, .int .u64 gh, .int .u64 gl] 24)).alloc (.cells #[.bool v, .int .u64 lh, .int .u64 ll] 24)) (m1 + 1) v gh gl b') := ((B1.out).alloc (.cells #[.bool v, .int .u64 gh, .int .u64 gl] 24)).alloc (.cells #[.bool v, .int .u64 lh, .int .u64 ll] 24)
  replace Q : Hid (Has4 ((w8.alloc (.cells #[.bool v, .int .u64 gh, .int .u64 gl] 24)).alloc (.cells #[.bool v, .int .u64 lh, .int .u64 ll] 24)) (m5) v hi lo b) := ((Q.out).alloc (.cells #[.bool v, .int .u64 gh, .int .u64 gl] 24)).alloc (.cells #[.bool v, .int .u64 lh, .int .u64 ll] 24)
  replace V1 : Hid (Has4 ((w8.alloc (.cells #[.bool v, .int .u64 gh, .int .u64 gl] 24)).alloc (.cells #[.bool v, .int .u64 lh, .int .u64 ll] 24)) (m6) v hi lo b) := ((V1.out).alloc (.cells #[.bool v, .int .u64 gh, .int .u64 gl] 24)).alloc (.cells #[.bool v, .int .u64 lh, .int .u64 ll] 24)
  replace X1 : Hid (Has3 ((w8.alloc (.cells #[.bool v, .int .u64 gh, .int .u64 gl] 24)).alloc (.cells #[.bool v, .int .u64 lh, .int .u64 ll] 24)) (m7) (.bool v) (.int .u64 hi) (.int .u64 lo)) := ((X1.out).alloc (.cells #[.bool v, .int .u64 gh, .int .u64 gl] 24)).alloc (.cells #[.bool v, .int .u64 lh, .int .u64 ll] 24)
  replace Y1 : Hid (Has3 ((w8.alloc (.cells #[.bool v, .int .u64 gh, .int .u64 gl] 24)).alloc (.cells #[.bool v, .int .u64 lh, .int .u64 ll] 24)) (m7 + 1) (.bool v) (.int .u64 yh) (.int .u64 yl)) := ((Y1.out).alloc (.cells #[.bool v, .int .u64 gh, .int .u64 gl] 24)).alloc (.cells #[.bool v, .int .u64 lh, .int .u64 ll] 24)
  replace B : Hid (Below w.heap.size w ((w8.alloc (.cells #[.bool v, .int .u64 gh, .int .u64 gl] 24)).alloc (.cells #[.bool v, .int .u64 lh, .int .u64 ll] 24))) := bal (bal (B.out) _) _
  have Z1 : Hid (Has3 ((w8.alloc (.cells #[.bool v, .int .u64 gh, .int .u64 gl] 24)).alloc (.cells #[.bool v, .int .u64 lh, .int .u64 ll] 24)) (w8.heap.size) (.bool v) (.int .u64 gh) (.int .u64 gl)) := (Has3.new w8 (.bool v) (.int .u64 gh) (.int .u64 gl) 24).alloc (.cells #[.bool v, .int .u64 lh, .int .u64 ll] 24)
  have T1 : Hid (Has3 ((w8.alloc (.cells #[.bool v, .int .u64 gh, .int .u64 gl] 24)).alloc (.cells #[.bool v, .int .u64 lh, .int .u64 ll] 24)) (w8.heap.size + 1) (.bool v) (.int .u64 lh) (.int .u64 ll)) := by
    have := Has3.new (w8.alloc (.cells #[.bool v, .int .u64 gh, .int .u64 gl] 24)) (.bool v) (.int .u64 lh) (.int .u64 ll) 24
    rw [show (w8.alloc (.cells #[.bool v, .int .u64 gh, .int .u64 gl] 24)).heap.size = w8.heap.size + 1 by simp] at this
    exact this
  obtain ⟨P0, P1, P2, P3, P4⟩ := P.out
  go_wp2_with fail
  generalize ((w8.alloc (.cells #[.bool v, .int .u64 gh, .int .u64 gl] 24)).alloc (.cells #[.bool v, .int .u64 lh, .int .u64 ll] 24)) = W8 at *
  generalize w8.heap.size = m8 at *
  refine (h7.out _).mono ?_
  clear P0 P1 P2 P3 P4 
  rintro e w9 ⟨rfl, hb⟩
  replace B : Hid (Below w.heap.size w w9) := btr B.out hb
  replace P : Hid (Has4 w9 (w.heap.size) v hi lo b) := P.out.below hb
  replace A1 : Hid (Has4 w9 (m1) v hi lo b') := A1.out.below hb
  replace B1 : Hid (Has4 w9 (m1 + 1) v gh gl b') := B1.out.below hb
  replace Q : Hid (Has4 w9 (m5) v hi lo b) := Q.out.below hb
  replace V1 : Hid (Has4 w9 (m6) v hi lo b) := V1.out.below hb
  replace X1 : Hid (Has3 w9 (m7) (.bool v) (.int .u64 hi) (.int .u64 lo)) := X1.out.below hb
  replace Y1 : Hid (Has3 w9 (m7 + 1) (.bool v) (.int .u64 yh) (.int .u64 yl)) := Y1.out.below hb
  replace Z1 : Hid (Has3 w9 (m8) (.bool v) (.int .u64 gh) (.int .u64 gl)) := Z1.out.below hb
  replace T1 : Hid (Has3 w9 (m8 + 1) (.bool v) (.int .u64 lh) (.int .u64 ll)) := T1.out.below hb
  clear hb
  replace P : Hid (Has4 ((w9.alloc (.cells #[.bool v, .int .u64 hi, .int .u64 lo] 24)).alloc (.cells #[.bool v, .int .u64 lh, .int .u64 ll] 24)) (w.heap.size) v hi lo b) := ((P.out).alloc (.cells #[.bool v, .int .u64 hi, .int .u64 lo] 24)).alloc (.cells #[.bool v, .int .u64 lh, .int .u64 ll] 24)
  replace A1 : Hid (Has4 ((w9.alloc (.cells #[.bool v, .int .u64 hi, .int .u64 lo] 24)).alloc (.cells #[.bool v, .int .u64 lh, .int .u64 ll] 24)) (m1) v hi lo b') := ((A1.out).alloc (.cells #[.bool v, .int .u64 hi, .int .u64 lo] 24)).alloc (.cells #[.bool v, .int .u64 lh, .int .u64 ll] 24)
  replace B1 : Hid (Has4 ((w9.alloc (.cells #[.bool v, .int .u64 hi, .int .u64 lo] 24)).alloc (.cells #[.bool v, .int .u64 lh, .int .u64 ll] 24)) (m1 + 1) v gh gl b') := ((B1.out).alloc (.cells #[.bool v, .int .u64 hi, .int .u64 lo] 24)).alloc (.cells #[.bool v, .int .u64 lh, .int .u64 ll] 24)
  replace Q : Hid (Has4 ((w9.alloc (.cells #[.bool v, .int .u64 hi, .int .u64 lo] 24)).alloc (.cells #[.bool v, .int .u64 lh, .int .u64 ll] 24)) (m5) v hi lo b) := ((Q.out).alloc (.cells #[.bool v, .int .u64 hi, .int .u64 lo] 24)).alloc (.cells #[.bool v, .int .u64 lh, .int .u64 ll] 24)
  replace V1 : Hid (Has4 ((w9.alloc (.cells #[.bool v, .int .u64 hi, .int .u64 lo] 24)).alloc (.cells #[.bool v, .int .u64 lh, .int .u64 ll] 24)) (m6) v hi lo b) := ((V1.out).alloc (.cells #[.bool v, .int .u64 hi, .int .u64 lo] 24)).alloc (.cells #[.bool v, .int .u64 lh, .int .u64 ll] 24)
  replace X1 : Hid (Has3 ((w9.alloc (.cells #[.bool v, .int .u64 hi, .int .u64 lo] 24)).alloc (.cells #[.bool v, .int .u64 lh, .int .u64 ll] 24)) (m7) (.bool v) (.int .u64 hi) (.int .u64 lo)) := ((X1.out).alloc (.cells #[.bool v, .int .u64 hi, .int .u64 lo] 24)).alloc (.cells #[.bool v, .int .u64 lh, .int .u64 ll] 24)
  replace Y1 : Hid (Has3 ((w9.alloc (.cells #[.bool v, .int .u64 hi, .int .u64 lo] 24)).alloc (.cells #[.bool v, .int .u64 lh, .int .u64 ll] 24)) (m7 + 1) (.bool v) (.int .u64 yh) (.int .u64 yl)) := ((Y1.out).alloc (.cells #[.bool v, .int .u64 hi, .int .u64 lo] 24)).alloc (.cells #[.bool v, .int .u64 lh, .int .u64 ll] 24)
  replace Z1 : Hid (Has3 ((w9.alloc (.cells #[.bool v, .int .u64 hi, .int .u64 lo] 24)).alloc (.cells #[.bool v, .int .u64 lh, .int .u64 ll] 24)) (m8) (.bool v) (.int .u64 gh) (.int .u64 gl)) := ((Z1.out).alloc (.cells #[.bool v, .int .u64 hi, .int .u64 lo] 24)).alloc (.cells #[.bool v, .int .u64 lh, .int .u64 ll] 24)
  replace T1 : Hid (Has3 ((w9.alloc (.cells #[.bool v, .int .u64 hi, .int .u64 lo] 24)).alloc (.cells #[.bool v, .int .u64 lh, .int .u64 ll] 24)) (m8 + 1) (.bool v) (.int .u64 lh) (.int .u64 ll)) := ((T1.out).alloc (.cells #[.bool v, .int .u64 hi, .int .u64 lo] 24)).alloc (.cells #[.bool v, .int .u64 lh, .int .u64 ll] 24)
  replace B : Hid (Below w.heap.size w ((w9.alloc (.cells #[.bool v, .int .u64 hi, .int .u64 lo] 24)).alloc (.cells #[.bool v, .int .u64 lh, .int .u64 ll] 24))) := bal (bal (B.out) _) _
  have U1 : Hid (Has3 ((w9.alloc (.cells #[.bool v, .int .u64 hi, .int .u64 lo] 24)).alloc (.cells #[.bool v, .int .u64 lh, .int .u64 ll] 24)) (w9.heap.size) (.bool v) (.int .u64 hi) (.int .u64 lo)) := (Has3.new w9 (.bool v) (.int .u64 hi) (.int .u64 lo) 24).alloc (.cells #[.bool v, .int .u64 lh, .int .u64 ll] 24)
  have V2 : Hid (Has3 ((w9.alloc (.cells #[.bool v, .int .u64 hi, .int .u64 lo] 24)).alloc (.cells #[.bool v, .int .u64 lh, .int .u64 ll] 24)) (w9.heap.size + 1) (.bool v) (.int .u64 lh) (.int .u64 ll)) := by
    have := Has3.new (w9.alloc (.cells #[.bool v, .int .u64 hi, .int .u64 lo] 24)) (.bool v) (.int .u64 lh) (.int .u64 ll) 24
    rw [show (w9.alloc (.cells #[.bool v, .int .u64 hi, .int .u64 lo] 24)).heap.size = w9.heap.size + 1 by simp] at this
    exact this
  obtain ⟨Y10, Y11, Y12, Y13⟩ := Y1.out
  go_wp2_with fail
  generalize ((w9.alloc (.cells #[.bool v, .int .u64 hi, .int .u64 lo] 24)).alloc (.cells #[.bool v, .int .u64 lh, .int .u64 ll] 24)) = W9 at *
  generalize w9.heap.size = m9 at *
  refine (h8.out _).mono ?_
  clear Y10 Y11 Y12 Y13 
  rintro e w10 ⟨rfl, hb⟩
  replace B : Hid (Below w.heap.size w w10) := btr B.out hb
  replace P : Hid (Has4 w10 (w.heap.size) v hi lo b) := P.out.below hb
  replace A1 : Hid (Has4 w10 (m1) v hi lo b') := A1.out.below hb
  replace B1 : Hid (Has4 w10 (m1 + 1) v gh gl b') := B1.out.below hb
  replace Q : Hid (Has4 w10 (m5) v hi lo b) := Q.out.below hb
  replace V1 : Hid (Has4 w10 (m6) v hi lo b) := V1.out.below hb
  replace X1 : Hid (Has3 w10 (m7) (.bool v) (.int .u64 hi) (.int .u64 lo)) := X1.out.below hb
  replace Y1 : Hid (Has3 w10 (m7 + 1) (.bool v) (.int .u64 yh) (.int .u64 yl)) := Y1.out.below hb
  replace Z1 : Hid (Has3 w10 (m8) (.bool v) (.int .u64 gh) (.int .u64 gl)) := Z1.out.below hb
  replace T1 : Hid (Has3 w10 (m8 + 1) (.bool v) (.int .u64 lh) (.int .u64 ll)) := T1.out.below hb
  replace U1 : Hid (Has3 w10 (m9) (.bool v) (.int .u64 hi) (.int .u64 lo)) := U1.out.below hb
  replace V2 : Hid (Has3 w10 (m9 + 1) (.bool v) (.int .u64 lh) (.int .u64 ll)) := V2.out.below hb
  clear hb
  replace P : Hid (Has4 (w10.alloc (.cells #[.bool v, .int .u64 gh, .int .u64 gl] 24)) (w.heap.size) v hi lo b) := (P.out).alloc (.cells #[.bool v, .int .u64 gh, .int .u64 gl] 24)
  replace A1 : Hid (Has4 (w10.alloc (.cells #[.bool v, .int .u64 gh, .int .u64 gl] 24)) (m1) v hi lo b') := (A1.out).alloc (.cells #[.bool v, .int .u64 gh, .int .u64 gl] 24)
  replace B1 : Hid (Has4 (w10.alloc (.cells #[.bool v, .int .u64 gh, .int .u64 gl] 24)) (m1 + 1) v gh gl b') := (B1.out).alloc (.cells #[.bool v, .int .u64 gh, .int .u64 gl] 24)
  replace Q : Hid (Has4 (w10.alloc (.cells #[.bool v, .int .u64 gh, .int .u64 gl] 24)) (m5) v hi lo b) := (Q.out).alloc (.cells #[.bool v, .int .u64 gh, .int .u64 gl] 24)
  replace V1 : Hid (Has4 (w10.alloc (.cells #[.bool v, .int .u64 gh, .int .u64 gl] 24)) (m6) v hi lo b) := (V1.out).alloc (.cells #[.bool v, .int .u64 gh, .int .u64 gl] 24)
  replace X1 : Hid (Has3 (w10.alloc (.cells #[.bool v, .int .u64 gh, .int .u64 gl] 24)) (m7) (.bool v) (.int .u64 hi) (.int .u64 lo)) := (X1.out).alloc (.cells #[.bool v, .int .u64 gh, .int .u64 gl] 24)
  replace Y1 : Hid (Has3 (w10.alloc (.cells #[.bool v, .int .u64 gh, .int .u64 gl] 24)) (m7 + 1) (.bool v) (.int .u64 yh) (.int .u64 yl)) := (Y1.out).alloc (.cells #[.bool v, .int .u64 gh, .int .u64 gl] 24)
  replace Z1 : Hid (Has3 (w10.alloc (.cells #[.bool v, .int .u64 gh, .int .u64 gl] 24)) (m8) (.bool v) (.int .u64 gh) (.int .u64 gl)) := (Z1.out).alloc (.cells #[.bool v, .int .u64 gh, .int .u64 gl] 24)
  replace T1 : Hid (Has3 (w10.alloc (.cells #[.bool v, .int .u64 gh, .int .u64 gl] 24)) (m8 + 1) (.bool v) (.int .u64 lh) (.int .u64 ll)) := (T1.out).alloc (.cells #[.bool v, .int .u64 gh, .int .u64 gl] 24)
  replace U1 : Hid (Has3 (w10.alloc (.cells #[.bool v, .int .u64 gh, .int .u64 gl] 24)) (m9) (.bool v) (.int .u64 hi) (.int .u64 lo)) := (U1.out).alloc (.cells #[.bool v, .int .u64 gh, .int .u64 gl] 24)
  replace V2 : Hid (Has3 (w10.alloc (.cells #[.bool v, .int .u64 gh, .int .u64 gl] 24)) (m9 + 1) (.bool v) (.int .u64 lh) (.int .u64 ll)) := (V2.out).alloc (.cells #[.bool v, .int .u64 gh, .int .u64 gl] 24)
  replace B : Hid (Below w.heap.size w (w10.alloc (.cells #[.bool v, .int .u64 gh, .int .u64 gl] 24))) := bal (B.out) _
  have N1 : Hid (Has3 (w10.alloc (.cells #[.bool v, .int .u64 gh, .int .u64 gl] 24)) (w10.heap.size) (.bool v) (.int .u64 gh) (.int .u64 gl)) := Has3.new w10 (.bool v) (.int .u64 gh) (.int .u64 gl) 24
  clear Q A1 B1 Y1
  obtain ⟨P0, P1, P2, P3, P4⟩ := P.out
  obtain ⟨V10, V11, V12, V13, V14⟩ := V1.out
  obtain ⟨X10, X11, X12, X13⟩ := X1.out
  obtain ⟨Z10, Z11, Z12, Z13⟩ := Z1.out
  obtain ⟨T10, T11, T12, T13⟩ := T1.out
  obtain ⟨U10, U11, U12, U13⟩ := U1.out
  obtain ⟨V20, V21, V22, V23⟩ := V2.out
  obtain ⟨N10, N11, N12, N13⟩ := N1.out
  have E1 := eql_pf v hi lo b v hi lo b
  rw [show eqP v hi lo b v hi lo b = true by simp [eqA, eqP]] at E1
  have E2 := eql_addr v gh gl v gh gl
  rw [show eqA v gh gl v gh gl = true by simp [eqA]] at E2
  have E3 := eql_addr v hi lo v hi lo
  rw [show eqA v hi lo v hi lo = true by simp [eqA]] at E3
  have E4 := eql_addr v lh ll v lh ll
  rw [show eqA v lh ll v lh ll = true by simp [eqA]] at E4
  go_wp2
  go_ret
  exact ⟨rfl, B.out⟩

end Go.Proofs.YtflbcgpcgjnhgaaGreatDoor
