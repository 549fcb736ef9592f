/- yardarmlaw.PrefixApart, its walks, a road each. -/
import Derived.Test.YtflbcgpcgjnhgaaGreatDoorPBb
set_option linter.unusedVariables false
set_option linter.unusedSimpArgs false
namespace Go.Proofs.YtflbcgpcgjnhgaaGreatDoor
open Go.RowKit

set_option maxHeartbeats 32000000 in
set_option maxRecDepth 100000 in
theorem apart_ffl_bad (v : Bool) (hi lo b : Int) (u : Bool) (yi yo c : Int) (t : Bool) (zi zo d : Int) (k k' lh ll kh kl : Int) (bb cc dd mm : Bool) (w : World) (hg : Good w)
    (h1 : Hid (∀ w : World, Calls Tryz.prog 8 #[.agg #[.bool v, .int .u64 hi, .int .u64 lo, .int .i64 b], .agg #[.bool u, .int .u64 yi, .int .u64 yo, .int .i64 c]] w fun e w' => e = .returned (.tuple #[.bool false, .int .i64 0]) ∧ Below w.heap.size w w'))
    (h2 : Hid (∀ w : World, Calls Tryz.prog 8 #[.agg #[.bool u, .int .u64 yi, .int .u64 yo, .int .i64 c], .agg #[.bool v, .int .u64 hi, .int .u64 lo, .int .i64 b]] w fun e w' => e = .returned (.tuple #[.bool false, .int .i64 0]) ∧ Below w.heap.size w w'))
    (h3 : Hid (∀ w : World, Calls Tryz.prog 9 #[.agg #[.bool v, .int .u64 hi, .int .u64 lo, .int .i64 b]] w fun e w' => e = .returned (.tuple #[.agg #[.bool v, .int .u64 hi, .int .u64 lo], .agg #[.bool v, .int .u64 lh, .int .u64 ll], .int .i64 0]) ∧ Below w.heap.size w w'))
    (h4 : Hid (∀ w : World, Calls Tryz.prog 9 #[.agg #[.bool u, .int .u64 yi, .int .u64 yo, .int .i64 c]] w fun e w' => e = .returned (.tuple #[.agg #[.bool u, .int .u64 yi, .int .u64 yo], .agg #[.bool u, .int .u64 kh, .int .u64 kl], .int .i64 0]) ∧ Below w.heap.size w w'))
    (h5 : Hid (∀ w : World, Calls Tryz.prog 23 #[.agg #[.bool v, .int .u64 lh, .int .u64 ll], .agg #[.bool u, .int .u64 yi, .int .u64 yo]] w fun e w' => e = .returned (.tuple #[.bool true, .int .i64 0]) ∧ Below w.heap.size w w'))
    (h6 : Hid (∀ w : World, Calls Tryz.prog 23 #[.agg #[.bool u, .int .u64 kh, .int .u64 kl], .agg #[.bool v, .int .u64 hi, .int .u64 lo]] w fun e w' => e = .returned (.tuple #[.bool mm, .int .i64 0]) ∧ Below w.heap.size w w'))
    (h7 : Hid (∀ w : World, Calls Tryz.prog 8 #[.agg #[.bool u, .int .u64 yi, .int .u64 yo, .int .i64 c], .agg #[.bool t, .int .u64 zi, .int .u64 zo, .int .i64 d]] w fun e w' => e = .returned (.tuple #[.bool false, .int .i64 k]) ∧ Below w.heap.size w w'))
    (h8 : Hid (∀ w : World, Calls Tryz.prog 8 #[.agg #[.bool v, .int .u64 hi, .int .u64 lo, .int .i64 b], .agg #[.bool t, .int .u64 zi, .int .u64 zo, .int .i64 d]] w fun e w' => e = .returned (.tuple #[.bool false, .int .i64 k']) ∧ Below w.heap.size w w'))
    (hk : (k != 0) = true)
    : Calls Tryz.prog 4 #[.agg #[.bool v, .int .u64 hi, .int .u64 lo, .int .i64 b], .agg #[.bool u, .int .u64 yi, .int .u64 yo, .int .i64 c], .agg #[.bool t, .int .u64 zi, .int .u64 zo, .int .i64 d]] w fun e w' => e = .returned (.bool true) ∧ Below w.heap.size w w' := by
  have hB1 : Hid (∀ w : World, Good w → Calls Tryz.prog 19 #[] w fun e w' => e = .returned (.bool true) ∧ Below w.heap.size w w') := fun w => pbegun_any w
  have hB2 : Hid (∀ w : World, Good w → Calls Tryz.prog 22 #[] w fun e w' => e = .returned (.bool true) ∧ Below w.heap.size w w') := fun w => begun_any w
  have HG : Hid (∀ w1 : World, Below w.heap.size w w1 → Good w1) := fun w1 h => hg.below h
  have B : Hid (Below w.heap.size w w) := Below.refl _ _
  clear hg
  replace B : Hid (Below w.heap.size w (((w.alloc (.cells #[.bool v, .int .u64 hi, .int .u64 lo, .int .i64 b] 26)).alloc (.cells #[.bool u, .int .u64 yi, .int .u64 yo, .int .i64 c] 26)).alloc (.cells #[.bool t, .int .u64 zi, .int .u64 zo, .int .i64 d] 26))) := bal (bal (bal (B.out) _) _) _
  have P : Hid (Has4 (((w.alloc (.cells #[.bool v, .int .u64 hi, .int .u64 lo, .int .i64 b] 26)).alloc (.cells #[.bool u, .int .u64 yi, .int .u64 yo, .int .i64 c] 26)).alloc (.cells #[.bool t, .int .u64 zi, .int .u64 zo, .int .i64 d] 26)) (w.heap.size) v hi lo b) := ((Has4.new w v hi lo b 26).alloc (.cells #[.bool u, .int .u64 yi, .int .u64 yo, .int .i64 c] 26)).alloc (.cells #[.bool t, .int .u64 zi, .int .u64 zo, .int .i64 d] 26)
  have Q : Hid (Has4 (((w.alloc (.cells #[.bool v, .int .u64 hi, .int .u64 lo, .int .i64 b] 26)).alloc (.cells #[.bool u, .int .u64 yi, .int .u64 yo, .int .i64 c] 26)).alloc (.cells #[.bool t, .int .u64 zi, .int .u64 zo, .int .i64 d] 26)) (w.heap.size + 1) u yi yo c) := by
    have := (Has4.new (w.alloc (.cells #[.bool v, .int .u64 hi, .int .u64 lo, .int .i64 b] 26)) u yi yo c 26).alloc (.cells #[.bool t, .int .u64 zi, .int .u64 zo, .int .i64 d] 26)
    rw [show (w.alloc (.cells #[.bool v, .int .u64 hi, .int .u64 lo, .int .i64 b] 26)).heap.size = w.heap.size + 1 by simp] at this
    exact this
  have R : Hid (Has4 (((w.alloc (.cells #[.bool v, .int .u64 hi, .int .u64 lo, .int .i64 b] 26)).alloc (.cells #[.bool u, .int .u64 yi, .int .u64 yo, .int .i64 c] 26)).alloc (.cells #[.bool t, .int .u64 zi, .int .u64 zo, .int .i64 d] 26)) (w.heap.size + 1 + 1) t zi zo d) := by
    have := Has4.new ((w.alloc (.cells #[.bool v, .int .u64 hi, .int .u64 lo, .int .i64 b] 26)).alloc (.cells #[.bool u, .int .u64 yi, .int .u64 yo, .int .i64 c] 26)) t zi zo d 26
    rw [show ((w.alloc (.cells #[.bool v, .int .u64 hi, .int .u64 lo, .int .i64 b] 26)).alloc (.cells #[.bool u, .int .u64 yi, .int .u64 yo, .int .i64 c] 26)).heap.size = w.heap.size + 1 + 1 by simp] at this
    exact this
  go_enter Tryz.func4, Tryz.ntmps4
  obtain ⟨P0, P1, P2, P3, P4⟩ := P.out
  obtain ⟨Q0, Q1, Q2, Q3, Q4⟩ := Q.out
  go_wp2_with fail
  generalize (((w.alloc (.cells #[.bool v, .int .u64 hi, .int .u64 lo, .int .i64 b] 26)).alloc (.cells #[.bool u, .int .u64 yi, .int .u64 yo, .int .i64 c] 26)).alloc (.cells #[.bool t, .int .u64 zi, .int .u64 zo, .int .i64 d] 26)) = W0 at *
  refine (h1.out _).mono ?_
  clear P0 P1 P2 P3 P4 Q0 Q1 Q2 Q3 Q4 
  rintro e w1 ⟨rfl, hb⟩
  replace B : Hid (Below w.heap.size w w1) := btr B.out hb
  replace P : Hid (Has4 w1 (w.heap.size) v hi lo b) := P.out.below hb
  replace Q : Hid (Has4 w1 (w.heap.size + 1) u yi yo c) := Q.out.below hb
  replace R : Hid (Has4 w1 (w.heap.size + 1 + 1) t zi zo d) := R.out.below hb
  clear hb
  obtain ⟨P0, P1, P2, P3, P4⟩ := P.out
  obtain ⟨Q0, Q1, Q2, Q3, Q4⟩ := Q.out
  go_wp2_with fail
  refine (h2.out _).mono ?_
  clear P0 P1 P2 P3 P4 Q0 Q1 Q2 Q3 Q4 
  rintro e w2 ⟨rfl, hb⟩
  replace B : Hid (Below w.heap.size w w2) := btr B.out hb
  replace P : Hid (Has4 w2 (w.heap.size) v hi lo b) := P.out.below hb
  replace Q : Hid (Has4 w2 (w.heap.size + 1) u yi yo c) := Q.out.below hb
  replace R : Hid (Has4 w2 (w.heap.size + 1 + 1) t zi zo d) := R.out.below hb
  clear hb
  go_wp2_with fail
  refine (hB1.out _ (HG.out _ B.out)).mono ?_
  rintro e w3 ⟨rfl, hb⟩
  replace B : Hid (Below w.heap.size w w3) := btr B.out hb
  replace P : Hid (Has4 w3 (w.heap.size) v hi lo b) := P.out.below hb
  replace Q : Hid (Has4 w3 (w.heap.size + 1) u yi yo c) := Q.out.below hb
  replace R : Hid (Has4 w3 (w.heap.size + 1 + 1) t zi zo d) := R.out.below hb
  clear hb
  go_wp2_with fail
  refine (hB2.out _ (HG.out _ B.out)).mono ?_
  rintro e w4 ⟨rfl, hb⟩
  replace B : Hid (Below w.heap.size w w4) := btr B.out hb
  replace P : Hid (Has4 w4 (w.heap.size) v hi lo b) := P.out.below hb
  replace Q : Hid (Has4 w4 (w.heap.size + 1) u yi yo c) := Q.out.below hb
  replace R : Hid (Has4 w4 (w.heap.size + 1 + 1) t zi zo d) := R.out.below hb
  clear hb
  obtain ⟨P0, P1, P2, P3, P4⟩ := P.out
  obtain ⟨Q0, Q1, Q2, Q3, Q4⟩ := Q.out
  go_wp2_with fail
  refine (h3.out _).mono ?_
  clear P0 P1 P2 P3 P4 Q0 Q1 Q2 Q3 Q4 
  rintro e w5 ⟨rfl, hb⟩
  replace B : Hid (Below w.heap.size w w5) := btr B.out hb
  replace P : Hid (Has4 w5 (w.heap.size) v hi lo b) := P.out.below hb
  replace Q : Hid (Has4 w5 (w.heap.size + 1) u yi yo c) := Q.out.below hb
  replace R : Hid (Has4 w5 (w.heap.size + 1 + 1) t zi zo d) := R.out.below hb
  clear hb
  replace P : Hid (Has4 ((w5.alloc (.cells #[.bool v, .int .u64 hi, .int .u64 lo] 24)).alloc (.cells #[.bool v, .int .u64 lh, .int .u64 ll] 24)) (w.heap.size) v hi lo b) := ((P.out).alloc (.cells #[.bool v, .int .u64 hi, .int .u64 lo] 24)).alloc (.cells #[.bool v, .int .u64 lh, .int .u64 ll] 24)
  replace Q : Hid (Has4 ((w5.alloc (.cells #[.bool v, .int .u64 hi, .int .u64 lo] 24)).alloc (.cells #[.bool v, .int .u64 lh, .int .u64 ll] 24)) (w.heap.size + 1) u yi yo c) := ((Q.out).alloc (.cells #[.bool v, .int .u64 hi, .int .u64 lo] 24)).alloc (.cells #[.bool v, .int .u64 lh, .int .u64 ll] 24)
  replace R : Hid (Has4 ((w5.alloc (.cells #[.bool v, .int .u64 hi, .int .u64 lo] 24)).alloc (.cells #[.bool v, .int .u64 lh, .int .u64 ll] 24)) (w.heap.size + 1 + 1) t zi zo d) := ((R.out).alloc (.cells #[.bool v, .int .u64 hi, .int .u64 lo] 24)).alloc (.cells #[.bool v, .int .u64 lh, .int .u64 ll] 24)
  replace B : Hid (Below w.heap.size w ((w5.alloc (.cells #[.bool v, .int .u64 hi, .int .u64 lo] 24)).alloc (.cells #[.bool v, .int .u64 lh, .int .u64 ll] 24))) := bal (bal (B.out) _) _
  have X : Hid (Has3 ((w5.alloc (.cells #[.bool v, .int .u64 hi, .int .u64 lo] 24)).alloc (.cells #[.bool v, .int .u64 lh, .int .u64 ll] 24)) (w5.heap.size) (.bool v) (.int .u64 hi) (.int .u64 lo)) := (Has3.new w5 (.bool v) (.int .u64 hi) (.int .u64 lo) 24).alloc (.cells #[.bool v, .int .u64 lh, .int .u64 ll] 24)
  have Y : Hid (Has3 ((w5.alloc (.cells #[.bool v, .int .u64 hi, .int .u64 lo] 24)).alloc (.cells #[.bool v, .int .u64 lh, .int .u64 ll] 24)) (w5.heap.size + 1) (.bool v) (.int .u64 lh) (.int .u64 ll)) := by
    have := Has3.new (w5.alloc (.cells #[.bool v, .int .u64 hi, .int .u64 lo] 24)) (.bool v) (.int .u64 lh) (.int .u64 ll) 24
    rw [show (w5.alloc (.cells #[.bool v, .int .u64 hi, .int .u64 lo] 24)).heap.size = w5.heap.size + 1 by simp] at this
    exact this
  obtain ⟨P0, P1, P2, P3, P4⟩ := P.out
  obtain ⟨Q0, Q1, Q2, Q3, Q4⟩ := Q.out
  go_wp2_with fail
  generalize ((w5.alloc (.cells #[.bool v, .int .u64 hi, .int .u64 lo] 24)).alloc (.cells #[.bool v, .int .u64 lh, .int .u64 ll] 24)) = W5 at *
  generalize w5.heap.size = m5 at *
  refine (h4.out _).mono ?_
  clear P0 P1 P2 P3 P4 Q0 Q1 Q2 Q3 Q4 
  rintro e w6 ⟨rfl, hb⟩
  replace B : Hid (Below w.heap.size w w6) := btr B.out hb
  replace P : Hid (Has4 w6 (w.heap.size) v hi lo b) := P.out.below hb
  replace Q : Hid (Has4 w6 (w.heap.size + 1) u yi yo c) := Q.out.below hb
  replace R : Hid (Has4 w6 (w.heap.size + 1 + 1) t zi zo d) := R.out.below hb
  replace X : Hid (Has3 w6 (m5) (.bool v) (.int .u64 hi) (.int .u64 lo)) := X.out.below hb
  replace Y : Hid (Has3 w6 (m5 + 1) (.bool v) (.int .u64 lh) (.int .u64 ll)) := Y.out.below hb
  clear hb
  replace P : Hid (Has4 ((w6.alloc (.cells #[.bool u, .int .u64 yi, .int .u64 yo] 24)).alloc (.cells #[.bool u, .int .u64 kh, .int .u64 kl] 24)) (w.heap.size) v hi lo b) := ((P.out).alloc (.cells #[.bool u, .int .u64 yi, .int .u64 yo] 24)).alloc (.cells #[.bool u, .int .u64 kh, .int .u64 kl] 24)
  replace Q : Hid (Has4 ((w6.alloc (.cells #[.bool u, .int .u64 yi, .int .u64 yo] 24)).alloc (.cells #[.bool u, .int .u64 kh, .int .u64 kl] 24)) (w.heap.size + 1) u yi yo c) := ((Q.out).alloc (.cells #[.bool u, .int .u64 yi, .int .u64 yo] 24)).alloc (.cells #[.bool u, .int .u64 kh, .int .u64 kl] 24)
  replace R : Hid (Has4 ((w6.alloc (.cells #[.bool u, .int .u64 yi, .int .u64 yo] 24)).alloc (.cells #[.bool u, .int .u64 kh, .int .u64 kl] 24)) (w.heap.size + 1 + 1) t zi zo d) := ((R.out).alloc (.cells #[.bool u, .int .u64 yi, .int .u64 yo] 24)).alloc (.cells #[.bool u, .int .u64 kh, .int .u64 kl] 24)
  replace X : Hid (Has3 ((w6.alloc (.cells #[.bool u, .int .u64 yi, .int .u64 yo] 24)).alloc (.cells #[.bool u, .int .u64 kh, .int .u64 kl] 24)) (m5) (.bool v) (.int .u64 hi) (.int .u64 lo)) := ((X.out).alloc (.cells #[.bool u, .int .u64 yi, .int .u64 yo] 24)).alloc (.cells #[.bool u, .int .u64 kh, .int .u64 kl] 24)
  replace Y : Hid (Has3 ((w6.alloc (.cells #[.bool u, .int .u64 yi, .int .u64 yo] 24)).alloc (.cells #[.bool u, .int .u64 kh, .int .u64 kl] 24)) (m5 + 1) (.bool v) (.int .u64 lh) (.int .u64 ll)) := ((Y.out).alloc (.cells #[.bool u, .int .u64 yi, .int .u64 yo] 24)).alloc (.cells #[.bool u, .int .u64 kh, .int .u64 kl] 24)
  replace B : Hid (Below w.heap.size w ((w6.alloc (.cells #[.bool u, .int .u64 yi, .int .u64 yo] 24)).alloc (.cells #[.bool u, .int .u64 kh, .int .u64 kl] 24))) := bal (bal (B.out) _) _
  have Z : Hid (Has3 ((w6.alloc (.cells #[.bool u, .int .u64 yi, .int .u64 yo] 24)).alloc (.cells #[.bool u, .int .u64 kh, .int .u64 kl] 24)) (w6.heap.size) (.bool u) (.int .u64 yi) (.int .u64 yo)) := (Has3.new w6 (.bool u) (.int .u64 yi) (.int .u64 yo) 24).alloc (.cells #[.bool u, .int .u64 kh, .int .u64 kl] 24)
  have V : Hid (Has3 ((w6.alloc (.cells #[.bool u, .int .u64 yi, .int .u64 yo] 24)).alloc (.cells #[.bool u, .int .u64 kh, .int .u64 kl] 24)) (w6.heap.size + 1) (.bool u) (.int .u64 kh) (.int .u64 kl)) := by
    have := Has3.new (w6.alloc (.cells #[.bool u, .int .u64 yi, .int .u64 yo] 24)) (.bool u) (.int .u64 kh) (.int .u64 kl) 24
    rw [show (w6.alloc (.cells #[.bool u, .int .u64 yi, .int .u64 yo] 24)).heap.size = w6.heap.size + 1 by simp] at this
    exact this
  obtain ⟨Y0, Y1, Y2, Y3⟩ := Y.out
  obtain ⟨Z0, Z1, Z2, Z3⟩ := Z.out
  go_wp2_with fail
  generalize ((w6.alloc (.cells #[.bool u, .int .u64 yi, .int .u64 yo] 24)).alloc (.cells #[.bool u, .int .u64 kh, .int .u64 kl] 24)) = W6 at *
  generalize w6.heap.size = m6 at *
  refine (h5.out _).mono ?_
  clear Y0 Y1 Y2 Y3 Z0 Z1 Z2 Z3 
  rintro e w7 ⟨rfl, hb⟩
  replace B : Hid (Below w.heap.size w w7) := btr B.out hb
  replace P : Hid (Has4 w7 (w.heap.size) v hi lo b) := P.out.below hb
  replace Q : Hid (Has4 w7 (w.heap.size + 1) u yi yo c) := Q.out.below hb
  replace R : Hid (Has4 w7 (w.heap.size + 1 + 1) t zi zo d) := R.out.below hb
  replace X : Hid (Has3 w7 (m5) (.bool v) (.int .u64 hi) (.int .u64 lo)) := X.out.below hb
  replace Y : Hid (Has3 w7 (m5 + 1) (.bool v) (.int .u64 lh) (.int .u64 ll)) := Y.out.below hb
  replace Z : Hid (Has3 w7 (m6) (.bool u) (.int .u64 yi) (.int .u64 yo)) := Z.out.below hb
  replace V : Hid (Has3 w7 (m6 + 1) (.bool u) (.int .u64 kh) (.int .u64 kl)) := V.out.below hb
  clear hb
  obtain ⟨X0, X1, X2, X3⟩ := X.out
  obtain ⟨V0, V1, V2, V3⟩ := V.out
  go_wp2_with fail
  refine (h6.out _).mono ?_
  clear X0 X1 X2 X3 V0 V1 V2 V3 
  rintro e w8 ⟨rfl, hb⟩
  replace B : Hid (Below w.heap.size w w8) := btr B.out hb
  replace P : Hid (Has4 w8 (w.heap.size) v hi lo b) := P.out.below hb
  replace Q : Hid (Has4 w8 (w.heap.size + 1) u yi yo c) := Q.out.below hb
  replace R : Hid (Has4 w8 (w.heap.size + 1 + 1) t zi zo d) := R.out.below hb
  replace X : Hid (Has3 w8 (m5) (.bool v) (.int .u64 hi) (.int .u64 lo)) := X.out.below hb
  replace Y : Hid (Has3 w8 (m5 + 1) (.bool v) (.int .u64 lh) (.int .u64 ll)) := Y.out.below hb
  replace Z : Hid (Has3 w8 (m6) (.bool u) (.int .u64 yi) (.int .u64 yo)) := Z.out.below hb
  replace V : Hid (Has3 w8 (m6 + 1) (.bool u) (.int .u64 kh) (.int .u64 kl)) := V.out.below hb
  clear hb
  obtain ⟨P0, P1, P2, P3, P4⟩ := P.out
  obtain ⟨Q0, Q1, Q2, Q3, Q4⟩ := Q.out
  obtain ⟨R0, R1, R2, R3, R4⟩ := R.out
  go_wp2_with fail
  refine (h7.out _).mono ?_
  clear P0 P1 P2 P3 P4 Q0 Q1 Q2 Q3 Q4 R0 R1 R2 R3 R4 
  rintro e w9 ⟨rfl, hb⟩
  replace B : Hid (Below w.heap.size w w9) := btr B.out hb
  replace P : Hid (Has4 w9 (w.heap.size) v hi lo b) := P.out.below hb
  replace Q : Hid (Has4 w9 (w.heap.size + 1) u yi yo c) := Q.out.below hb
  replace R : Hid (Has4 w9 (w.heap.size + 1 + 1) t zi zo d) := R.out.below hb
  replace X : Hid (Has3 w9 (m5) (.bool v) (.int .u64 hi) (.int .u64 lo)) := X.out.below hb
  replace Y : Hid (Has3 w9 (m5 + 1) (.bool v) (.int .u64 lh) (.int .u64 ll)) := Y.out.below hb
  replace Z : Hid (Has3 w9 (m6) (.bool u) (.int .u64 yi) (.int .u64 yo)) := Z.out.below hb
  replace V : Hid (Has3 w9 (m6 + 1) (.bool u) (.int .u64 kh) (.int .u64 kl)) := V.out.below hb
  clear hb
  obtain ⟨P0, P1, P2, P3, P4⟩ := P.out
  obtain ⟨Q0, Q1, Q2, Q3, Q4⟩ := Q.out
  obtain ⟨R0, R1, R2, R3, R4⟩ := R.out
  go_wp2_with fail
  refine (h8.out _).mono ?_
  clear P0 P1 P2 P3 P4 Q0 Q1 Q2 Q3 Q4 R0 R1 R2 R3 R4 
  rintro e w10 ⟨rfl, hb⟩
  replace B : Hid (Below w.heap.size w w10) := btr B.out hb
  replace P : Hid (Has4 w10 (w.heap.size) v hi lo b) := P.out.below hb
  replace Q : Hid (Has4 w10 (w.heap.size + 1) u yi yo c) := Q.out.below hb
  replace R : Hid (Has4 w10 (w.heap.size + 1 + 1) t zi zo d) := R.out.below hb
  replace X : Hid (Has3 w10 (m5) (.bool v) (.int .u64 hi) (.int .u64 lo)) := X.out.below hb
  replace Y : Hid (Has3 w10 (m5 + 1) (.bool v) (.int .u64 lh) (.int .u64 ll)) := Y.out.below hb
  replace Z : Hid (Has3 w10 (m6) (.bool u) (.int .u64 yi) (.int .u64 yo)) := Z.out.below hb
  replace V : Hid (Has3 w10 (m6 + 1) (.bool u) (.int .u64 kh) (.int .u64 kl)) := V.out.below hb
  clear hb
  go_wp2
  go_ret
  exact ⟨rfl, B.out⟩

set_option maxHeartbeats 32000000 in
set_option maxRecDepth 100000 in
theorem apart_ffl_ok (v : Bool) (hi lo b : Int) (u : Bool) (yi yo c : Int) (t : Bool) (zi zo d : Int) (k k' lh ll kh kl : Int) (bb cc dd mm : Bool) (w : World) (hg : Good w)
    (h1 : Hid (∀ w : World, Calls Tryz.prog 8 #[.agg #[.bool v, .int .u64 hi, .int .u64 lo, .int .i64 b], .agg #[.bool u, .int .u64 yi, .int .u64 yo, .int .i64 c]] w fun e w' => e = .returned (.tuple #[.bool false, .int .i64 0]) ∧ Below w.heap.size w w'))
    (h2 : Hid (∀ w : World, Calls Tryz.prog 8 #[.agg #[.bool u, .int .u64 yi, .int .u64 yo, .int .i64 c], .agg #[.bool v, .int .u64 hi, .int .u64 lo, .int .i64 b]] w fun e w' => e = .returned (.tuple #[.bool false, .int .i64 0]) ∧ Below w.heap.size w w'))
    (h3 : Hid (∀ w : World, Calls Tryz.prog 9 #[.agg #[.bool v, .int .u64 hi, .int .u64 lo, .int .i64 b]] w fun e w' => e = .returned (.tuple #[.agg #[.bool v, .int .u64 hi, .int .u64 lo], .agg #[.bool v, .int .u64 lh, .int .u64 ll], .int .i64 0]) ∧ Below w.heap.size w w'))
    (h4 : Hid (∀ w : World, Calls Tryz.prog 9 #[.agg #[.bool u, .int .u64 yi, .int .u64 yo, .int .i64 c]] w fun e w' => e = .returned (.tuple #[.agg #[.bool u, .int .u64 yi, .int .u64 yo], .agg #[.bool u, .int .u64 kh, .int .u64 kl], .int .i64 0]) ∧ Below w.heap.size w w'))
    (h5 : Hid (∀ w : World, Calls Tryz.prog 23 #[.agg #[.bool v, .int .u64 lh, .int .u64 ll], .agg #[.bool u, .int .u64 yi, .int .u64 yo]] w fun e w' => e = .returned (.tuple #[.bool true, .int .i64 0]) ∧ Below w.heap.size w w'))
    (h6 : Hid (∀ w : World, Calls Tryz.prog 23 #[.agg #[.bool u, .int .u64 kh, .int .u64 kl], .agg #[.bool v, .int .u64 hi, .int .u64 lo]] w fun e w' => e = .returned (.tuple #[.bool mm, .int .i64 0]) ∧ Below w.heap.size w w'))
    (h7 : Hid (∀ w : World, Calls Tryz.prog 8 #[.agg #[.bool u, .int .u64 yi, .int .u64 yo, .int .i64 c], .agg #[.bool t, .int .u64 zi, .int .u64 zo, .int .i64 d]] w fun e w' => e = .returned (.tuple #[.bool cc, .int .i64 0]) ∧ Below w.heap.size w w'))
    (h8 : Hid (∀ w : World, Calls Tryz.prog 8 #[.agg #[.bool v, .int .u64 hi, .int .u64 lo, .int .i64 b], .agg #[.bool t, .int .u64 zi, .int .u64 zo, .int .i64 d]] w fun e w' => e = .returned (.tuple #[.bool dd, .int .i64 0]) ∧ Below w.heap.size w w'))
    : Calls Tryz.prog 4 #[.agg #[.bool v, .int .u64 hi, .int .u64 lo, .int .i64 b], .agg #[.bool u, .int .u64 yi, .int .u64 yo, .int .i64 c], .agg #[.bool t, .int .u64 zi, .int .u64 zo, .int .i64 d]] w fun e w' => e = .returned (.bool true) ∧ Below w.heap.size w w' := by
  have hB1 : Hid (∀ w : World, Good w → Calls Tryz.prog 19 #[] w fun e w' => e = .returned (.bool true) ∧ Below w.heap.size w w') := fun w => pbegun_any w
  have hB2 : Hid (∀ w : World, Good w → Calls Tryz.prog 22 #[] w fun e w' => e = .returned (.bool true) ∧ Below w.heap.size w w') := fun w => begun_any w
  have HG : Hid (∀ w1 : World, Below w.heap.size w w1 → Good w1) := fun w1 h => hg.below h
  have B : Hid (Below w.heap.size w w) := Below.refl _ _
  clear hg
  replace B : Hid (Below w.heap.size w (((w.alloc (.cells #[.bool v, .int .u64 hi, .int .u64 lo, .int .i64 b] 26)).alloc (.cells #[.bool u, .int .u64 yi, .int .u64 yo, .int .i64 c] 26)).alloc (.cells #[.bool t, .int .u64 zi, .int .u64 zo, .int .i64 d] 26))) := bal (bal (bal (B.out) _) _) _
  have P : Hid (Has4 (((w.alloc (.cells #[.bool v, .int .u64 hi, .int .u64 lo, .int .i64 b] 26)).alloc (.cells #[.bool u, .int .u64 yi, .int .u64 yo, .int .i64 c] 26)).alloc (.cells #[.bool t, .int .u64 zi, .int .u64 zo, .int .i64 d] 26)) (w.heap.size) v hi lo b) := ((Has4.new w v hi lo b 26).alloc (.cells #[.bool u, .int .u64 yi, .int .u64 yo, .int .i64 c] 26)).alloc (.cells #[.bool t, .int .u64 zi, .int .u64 zo, .int .i64 d] 26)
  have Q : Hid (Has4 (((w.alloc (.cells #[.bool v, .int .u64 hi, .int .u64 lo, .int .i64 b] 26)).alloc (.cells #[.bool u, .int .u64 yi, .int .u64 yo, .int .i64 c] 26)).alloc (.cells #[.bool t, .int .u64 zi, .int .u64 zo, .int .i64 d] 26)) (w.heap.size + 1) u yi yo c) := by
    have := (Has4.new (w.alloc (.cells #[.bool v, .int .u64 hi, .int .u64 lo, .int .i64 b] 26)) u yi yo c 26).alloc (.cells #[.bool t, .int .u64 zi, .int .u64 zo, .int .i64 d] 26)
    rw [show (w.alloc (.cells #[.bool v, .int .u64 hi, .int .u64 lo, .int .i64 b] 26)).heap.size = w.heap.size + 1 by simp] at this
    exact this
  have R : Hid (Has4 (((w.alloc (.cells #[.bool v, .int .u64 hi, .int .u64 lo, .int .i64 b] 26)).alloc (.cells #[.bool u, .int .u64 yi, .int .u64 yo, .int .i64 c] 26)).alloc (.cells #[.bool t, .int .u64 zi, .int .u64 zo, .int .i64 d] 26)) (w.heap.size + 1 + 1) t zi zo d) := by
    have := Has4.new ((w.alloc (.cells #[.bool v, .int .u64 hi, .int .u64 lo, .int .i64 b] 26)).alloc (.cells #[.bool u, .int .u64 yi, .int .u64 yo, .int .i64 c] 26)) t zi zo d 26
    rw [show ((w.alloc (.cells #[.bool v, .int .u64 hi, .int .u64 lo, .int .i64 b] 26)).alloc (.cells #[.bool u, .int .u64 yi, .int .u64 yo, .int .i64 c] 26)).heap.size = w.heap.size + 1 + 1 by simp] at this
    exact this
  go_enter Tryz.func4, Tryz.ntmps4
  obtain ⟨P0, P1, P2, P3, P4⟩ := P.out
  obtain ⟨Q0, Q1, Q2, Q3, Q4⟩ := Q.out
  go_wp2_with fail
  generalize (((w.alloc (.cells #[.bool v, .int .u64 hi, .int .u64 lo, .int .i64 b] 26)).alloc (.cells #[.bool u, .int .u64 yi, .int .u64 yo, .int .i64 c] 26)).alloc (.cells #[.bool t, .int .u64 zi, .int .u64 zo, .int .i64 d] 26)) = W0 at *
  refine (h1.out _).mono ?_
  clear P0 P1 P2 P3 P4 Q0 Q1 Q2 Q3 Q4 
  rintro e w1 ⟨rfl, hb⟩
  replace B : Hid (Below w.heap.size w w1) := btr B.out hb
  replace P : Hid (Has4 w1 (w.heap.size) v hi lo b) := P.out.below hb
  replace Q : Hid (Has4 w1 (w.heap.size + 1) u yi yo c) := Q.out.below hb
  replace R : Hid (Has4 w1 (w.heap.size + 1 + 1) t zi zo d) := R.out.below hb
  clear hb
  obtain ⟨P0, P1, P2, P3, P4⟩ := P.out
  obtain ⟨Q0, Q1, Q2, Q3, Q4⟩ := Q.out
  go_wp2_with fail
  refine (h2.out _).mono ?_
  clear P0 P1 P2 P3 P4 Q0 Q1 Q2 Q3 Q4 
  rintro e w2 ⟨rfl, hb⟩
  replace B : Hid (Below w.heap.size w w2) := btr B.out hb
  replace P : Hid (Has4 w2 (w.heap.size) v hi lo b) := P.out.below hb
  replace Q : Hid (Has4 w2 (w.heap.size + 1) u yi yo c) := Q.out.below hb
  replace R : Hid (Has4 w2 (w.heap.size + 1 + 1) t zi zo d) := R.out.below hb
  clear hb
  go_wp2_with fail
  refine (hB1.out _ (HG.out _ B.out)).mono ?_
  rintro e w3 ⟨rfl, hb⟩
  replace B : Hid (Below w.heap.size w w3) := btr B.out hb
  replace P : Hid (Has4 w3 (w.heap.size) v hi lo b) := P.out.below hb
  replace Q : Hid (Has4 w3 (w.heap.size + 1) u yi yo c) := Q.out.below hb
  replace R : Hid (Has4 w3 (w.heap.size + 1 + 1) t zi zo d) := R.out.below hb
  clear hb
  go_wp2_with fail
  refine (hB2.out _ (HG.out _ B.out)).mono ?_
  rintro e w4 ⟨rfl, hb⟩
  replace B : Hid (Below w.heap.size w w4) := btr B.out hb
  replace P : Hid (Has4 w4 (w.heap.size) v hi lo b) := P.out.below hb
  replace Q : Hid (Has4 w4 (w.heap.size + 1) u yi yo c) := Q.out.below hb
  replace R : Hid (Has4 w4 (w.heap.size + 1 + 1) t zi zo d) := R.out.below hb
  clear hb
  obtain ⟨P0, P1, P2, P3, P4⟩ := P.out
  obtain ⟨Q0, Q1, Q2, Q3, Q4⟩ := Q.out
  go_wp2_with fail
  refine (h3.out _).mono ?_
  clear P0 P1 P2 P3 P4 Q0 Q1 Q2 Q3 Q4 
  rintro e w5 ⟨rfl, hb⟩
  replace B : Hid (Below w.heap.size w w5) := btr B.out hb
  replace P : Hid (Has4 w5 (w.heap.size) v hi lo b) := P.out.below hb
  replace Q : Hid (Has4 w5 (w.heap.size + 1) u yi yo c) := Q.out.below hb
  replace R : Hid (Has4 w5 (w.heap.size + 1 + 1) t zi zo d) := R.out.below hb
  clear hb
  replace P : Hid (Has4 ((w5.alloc (.cells #[.bool v, .int .u64 hi, .int .u64 lo] 24)).alloc (.cells #[.bool v, .int .u64 lh, .int .u64 ll] 24)) (w.heap.size) v hi lo b) := ((P.out).alloc (.cells #[.bool v, .int .u64 hi, .int .u64 lo] 24)).alloc (.cells #[.bool v, .int .u64 lh, .int .u64 ll] 24)
  replace Q : Hid (Has4 ((w5.alloc (.cells #[.bool v, .int .u64 hi, .int .u64 lo] 24)).alloc (.cells #[.bool v, .int .u64 lh, .int .u64 ll] 24)) (w.heap.size + 1) u yi yo c) := ((Q.out).alloc (.cells #[.bool v, .int .u64 hi, .int .u64 lo] 24)).alloc (.cells #[.bool v, .int .u64 lh, .int .u64 ll] 24)
  replace R : Hid (Has4 ((w5.alloc (.cells #[.bool v, .int .u64 hi, .int .u64 lo] 24)).alloc (.cells #[.bool v, .int .u64 lh, .int .u64 ll] 24)) (w.heap.size + 1 + 1) t zi zo d) := ((R.out).alloc (.cells #[.bool v, .int .u64 hi, .int .u64 lo] 24)).alloc (.cells #[.bool v, .int .u64 lh, .int .u64 ll] 24)
  replace B : Hid (Below w.heap.size w ((w5.alloc (.cells #[.bool v, .int .u64 hi, .int .u64 lo] 24)).alloc (.cells #[.bool v, .int .u64 lh, .int .u64 ll] 24))) := bal (bal (B.out) _) _
  have X : Hid (Has3 ((w5.alloc (.cells #[.bool v, .int .u64 hi, .int .u64 lo] 24)).alloc (.cells #[.bool v, .int .u64 lh, .int .u64 ll] 24)) (w5.heap.size) (.bool v) (.int .u64 hi) (.int .u64 lo)) := (Has3.new w5 (.bool v) (.int .u64 hi) (.int .u64 lo) 24).alloc (.cells #[.bool v, .int .u64 lh, .int .u64 ll] 24)
  have Y : Hid (Has3 ((w5.alloc (.cells #[.bool v, .int .u64 hi, .int .u64 lo] 24)).alloc (.cells #[.bool v, .int .u64 lh, .int .u64 ll] 24)) (w5.heap.size + 1) (.bool v) (.int .u64 lh) (.int .u64 ll)) := by
    have := Has3.new (w5.alloc (.cells #[.bool v, .int .u64 hi, .int .u64 lo] 24)) (.bool v) (.int .u64 lh) (.int .u64 ll) 24
    rw [show (w5.alloc (.cells #[.bool v, .int .u64 hi, .int .u64 lo] 24)).heap.size = w5.heap.size + 1 by simp] at this
    exact this
  obtain ⟨P0, P1, P2, P3, P4⟩ := P.out
  obtain ⟨Q0, Q1, Q2, Q3, Q4⟩ := Q.out
  go_wp2_with fail
  generalize ((w5.alloc (.cells #[.bool v, .int .u64 hi, .int .u64 lo] 24)).alloc (.cells #[.bool v, .int .u64 lh, .int .u64 ll] 24)) = W5 at *
  generalize w5.heap.size = m5 at *
  refine (h4.out _).mono ?_
  clear P0 P1 P2 P3 P4 Q0 Q1 Q2 Q3 Q4 
  rintro e w6 ⟨rfl, hb⟩
  replace B : Hid (Below w.heap.size w w6) := btr B.out hb
  replace P : Hid (Has4 w6 (w.heap.size) v hi lo b) := P.out.below hb
  replace Q : Hid (Has4 w6 (w.heap.size + 1) u yi yo c) := Q.out.below hb
  replace R : Hid (Has4 w6 (w.heap.size + 1 + 1) t zi zo d) := R.out.below hb
  replace X : Hid (Has3 w6 (m5) (.bool v) (.int .u64 hi) (.int .u64 lo)) := X.out.below hb
  replace Y : Hid (Has3 w6 (m5 + 1) (.bool v) (.int .u64 lh) (.int .u64 ll)) := Y.out.below hb
  clear hb
  replace P : Hid (Has4 ((w6.alloc (.cells #[.bool u, .int .u64 yi, .int .u64 yo] 24)).alloc (.cells #[.bool u, .int .u64 kh, .int .u64 kl] 24)) (w.heap.size) v hi lo b) := ((P.out).alloc (.cells #[.bool u, .int .u64 yi, .int .u64 yo] 24)).alloc (.cells #[.bool u, .int .u64 kh, .int .u64 kl] 24)
  replace Q : Hid (Has4 ((w6.alloc (.cells #[.bool u, .int .u64 yi, .int .u64 yo] 24)).alloc (.cells #[.bool u, .int .u64 kh, .int .u64 kl] 24)) (w.heap.size + 1) u yi yo c) := ((Q.out).alloc (.cells #[.bool u, .int .u64 yi, .int .u64 yo] 24)).alloc (.cells #[.bool u, .int .u64 kh, .int .u64 kl] 24)
  replace R : Hid (Has4 ((w6.alloc (.cells #[.bool u, .int .u64 yi, .int .u64 yo] 24)).alloc (.cells #[.bool u, .int .u64 kh, .int .u64 kl] 24)) (w.heap.size + 1 + 1) t zi zo d) := ((R.out).alloc (.cells #[.bool u, .int .u64 yi, .int .u64 yo] 24)).alloc (.cells #[.bool u, .int .u64 kh, .int .u64 kl] 24)
  replace X : Hid (Has3 ((w6.alloc (.cells #[.bool u, .int .u64 yi, .int .u64 yo] 24)).alloc (.cells #[.bool u, .int .u64 kh, .int .u64 kl] 24)) (m5) (.bool v) (.int .u64 hi) (.int .u64 lo)) := ((X.out).alloc (.cells #[.bool u, .int .u64 yi, .int .u64 yo] 24)).alloc (.cells #[.bool u, .int .u64 kh, .int .u64 kl] 24)
  replace Y : Hid (Has3 ((w6.alloc (.cells #[.bool u, .int .u64 yi, .int .u64 yo] 24)).alloc (.cells #[.bool u, .int .u64 kh, .int .u64 kl] 24)) (m5 + 1) (.bool v) (.int .u64 lh) (.int .u64 ll)) := ((Y.out).alloc (.cells #[.bool u, .int .u64 yi, .int .u64 yo] 24)).alloc (.cells #[.bool u, .int .u64 kh, .int .u64 kl] 24)
  replace B : Hid (Below w.heap.size w ((w6.alloc (.cells #[.bool u, .int .u64 yi, .int .u64 yo] 24)).alloc (.cells #[.bool u, .int .u64 kh, .int .u64 kl] 24))) := bal (bal (B.out) _) _
  have Z : Hid (Has3 ((w6.alloc (.cells #[.bool u, .int .u64 yi, .int .u64 yo] 24)).alloc (.cells #[.bool u, .int .u64 kh, .int .u64 kl] 24)) (w6.heap.size) (.bool u) (.int .u64 yi) (.int .u64 yo)) := (Has3.new w6 (.bool u) (.int .u64 yi) (.int .u64 yo) 24).alloc (.cells #[.bool u, .int .u64 kh, .int .u64 kl] 24)
  have V : Hid (Has3 ((w6.alloc (.cells #[.bool u, .int .u64 yi, .int .u64 yo] 24)).alloc (.cells #[.bool u, .int .u64 kh, .int .u64 kl] 24)) (w6.heap.size + 1) (.bool u) (.int .u64 kh) (.int .u64 kl)) := by
    have := Has3.new (w6.alloc (.cells #[.bool u, .int .u64 yi, .int .u64 yo] 24)) (.bool u) (.int .u64 kh) (.int .u64 kl) 24
    rw [show (w6.alloc (.cells #[.bool u, .int .u64 yi, .int .u64 yo] 24)).heap.size = w6.heap.size + 1 by simp] at this
    exact this
  obtain ⟨Y0, Y1, Y2, Y3⟩ := Y.out
  obtain ⟨Z0, Z1, Z2, Z3⟩ := Z.out
  go_wp2_with fail
  generalize ((w6.alloc (.cells #[.bool u, .int .u64 yi, .int .u64 yo] 24)).alloc (.cells #[.bool u, .int .u64 kh, .int .u64 kl] 24)) = W6 at *
  generalize w6.heap.size = m6 at *
  refine (h5.out _).mono ?_
  clear Y0 Y1 Y2 Y3 Z0 Z1 Z2 Z3 
  rintro e w7 ⟨rfl, hb⟩
  replace B : Hid (Below w.heap.size w w7) := btr B.out hb
  replace P : Hid (Has4 w7 (w.heap.size) v hi lo b) := P.out.below hb
  replace Q : Hid (Has4 w7 (w.heap.size + 1) u yi yo c) := Q.out.below hb
  replace R : Hid (Has4 w7 (w.heap.size + 1 + 1) t zi zo d) := R.out.below hb
  replace X : Hid (Has3 w7 (m5) (.bool v) (.int .u64 hi) (.int .u64 lo)) := X.out.below hb
  replace Y : Hid (Has3 w7 (m5 + 1) (.bool v) (.int .u64 lh) (.int .u64 ll)) := Y.out.below hb
  replace Z : Hid (Has3 w7 (m6) (.bool u) (.int .u64 yi) (.int .u64 yo)) := Z.out.below hb
  replace V : Hid (Has3 w7 (m6 + 1) (.bool u) (.int .u64 kh) (.int .u64 kl)) := V.out.below hb
  clear hb
  obtain ⟨X0, X1, X2, X3⟩ := X.out
  obtain ⟨V0, V1, V2, V3⟩ := V.out
  go_wp2_with fail
  refine (h6.out _).mono ?_
  clear X0 X1 X2 X3 V0 V1 V2 V3 
  rintro e w8 ⟨rfl, hb⟩
  replace B : Hid (Below w.heap.size w w8) := btr B.out hb
  replace P : Hid (Has4 w8 (w.heap.size) v hi lo b) := P.out.below hb
  replace Q : Hid (Has4 w8 (w.heap.size + 1) u yi yo c) := Q.out.below hb
  replace R : Hid (Has4 w8 (w.heap.size + 1 + 1) t zi zo d) := R.out.below hb
  replace X : Hid (Has3 w8 (m5) (.bool v) (.int .u64 hi) (.int .u64 lo)) := X.out.below hb
  replace Y : Hid (Has3 w8 (m5 + 1) (.bool v) (.int .u64 lh) (.int .u64 ll)) := Y.out.below hb
  replace Z : Hid (Has3 w8 (m6) (.bool u) (.int .u64 yi) (.int .u64 yo)) := Z.out.below hb
  replace V : Hid (Has3 w8 (m6 + 1) (.bool u) (.int .u64 kh) (.int .u64 kl)) := V.out.below hb
  clear hb
  obtain ⟨P0, P1, P2, P3, P4⟩ := P.out
  obtain ⟨Q0, Q1, Q2, Q3, Q4⟩ := Q.out
  obtain ⟨R0, R1, R2, R3, R4⟩ := R.out
  go_wp2_with fail
  refine (h7.out _).mono ?_
  clear P0 P1 P2 P3 P4 Q0 Q1 Q2 Q3 Q4 R0 R1 R2 R3 R4 
  rintro e w9 ⟨rfl, hb⟩
  replace B : Hid (Below w.heap.size w w9) := btr B.out hb
  replace P : Hid (Has4 w9 (w.heap.size) v hi lo b) := P.out.below hb
  replace Q : Hid (Has4 w9 (w.heap.size + 1) u yi yo c) := Q.out.below hb
  replace R : Hid (Has4 w9 (w.heap.size + 1 + 1) t zi zo d) := R.out.below hb
  replace X : Hid (Has3 w9 (m5) (.bool v) (.int .u64 hi) (.int .u64 lo)) := X.out.below hb
  replace Y : Hid (Has3 w9 (m5 + 1) (.bool v) (.int .u64 lh) (.int .u64 ll)) := Y.out.below hb
  replace Z : Hid (Has3 w9 (m6) (.bool u) (.int .u64 yi) (.int .u64 yo)) := Z.out.below hb
  replace V : Hid (Has3 w9 (m6 + 1) (.bool u) (.int .u64 kh) (.int .u64 kl)) := V.out.below hb
  clear hb
  obtain ⟨P0, P1, P2, P3, P4⟩ := P.out
  obtain ⟨Q0, Q1, Q2, Q3, Q4⟩ := Q.out
  obtain ⟨R0, R1, R2, R3, R4⟩ := R.out
  go_wp2_with fail
  refine (h8.out _).mono ?_
  clear P0 P1 P2 P3 P4 Q0 Q1 Q2 Q3 Q4 R0 R1 R2 R3 R4 
  rintro e w10 ⟨rfl, hb⟩
  replace B : Hid (Below w.heap.size w w10) := btr B.out hb
  replace P : Hid (Has4 w10 (w.heap.size) v hi lo b) := P.out.below hb
  replace Q : Hid (Has4 w10 (w.heap.size + 1) u yi yo c) := Q.out.below hb
  replace R : Hid (Has4 w10 (w.heap.size + 1 + 1) t zi zo d) := R.out.below hb
  replace X : Hid (Has3 w10 (m5) (.bool v) (.int .u64 hi) (.int .u64 lo)) := X.out.below hb
  replace Y : Hid (Has3 w10 (m5 + 1) (.bool v) (.int .u64 lh) (.int .u64 ll)) := Y.out.below hb
  replace Z : Hid (Has3 w10 (m6) (.bool u) (.int .u64 yi) (.int .u64 yo)) := Z.out.below hb
  replace V : Hid (Has3 w10 (m6 + 1) (.bool u) (.int .u64 kh) (.int .u64 kl)) := V.out.below hb
  clear hb
  go_wp2
  go_ret
  exact ⟨rfl, B.out⟩

set_option maxHeartbeats 32000000 in
set_option maxRecDepth 100000 in
theorem apart_ffm_bad (v : Bool) (hi lo b : Int) (u : Bool) (yi yo c : Int) (t : Bool) (zi zo d : Int) (k k' lh ll kh kl : Int) (bb cc dd mm : Bool) (w : World) (hg : Good w)
    (h1 : Hid (∀ w : World, Calls Tryz.prog 8 #[.agg #[.bool v, .int .u64 hi, .int .u64 lo, .int .i64 b], .agg #[.bool u, .int .u64 yi, .int .u64 yo, .int .i64 c]] w fun e w' => e = .returned (.tuple #[.bool false, .int .i64 0]) ∧ Below w.heap.size w w'))
    (h2 : Hid (∀ w : World, Calls Tryz.prog 8 #[.agg #[.bool u, .int .u64 yi, .int .u64 yo, .int .i64 c], .agg #[.bool v, .int .u64 hi, .int .u64 lo, .int .i64 b]] w fun e w' => e = .returned (.tuple #[.bool false, .int .i64 0]) ∧ Below w.heap.size w w'))
    (h3 : Hid (∀ w : World, Calls Tryz.prog 9 #[.agg #[.bool v, .int .u64 hi, .int .u64 lo, .int .i64 b]] w fun e w' => e = .returned (.tuple #[.agg #[.bool v, .int .u64 hi, .int .u64 lo], .agg #[.bool v, .int .u64 lh, .int .u64 ll], .int .i64 0]) ∧ Below w.heap.size w w'))
    (h4 : Hid (∀ w : World, Calls Tryz.prog 9 #[.agg #[.bool u, .int .u64 yi, .int .u64 yo, .int .i64 c]] w fun e w' => e = .returned (.tuple #[.agg #[.bool u, .int .u64 yi, .int .u64 yo], .agg #[.bool u, .int .u64 kh, .int .u64 kl], .int .i64 0]) ∧ Below w.heap.size w w'))
    (h5 : Hid (∀ w : World, Calls Tryz.prog 23 #[.agg #[.bool v, .int .u64 lh, .int .u64 ll], .agg #[.bool u, .int .u64 yi, .int .u64 yo]] w fun e w' => e = .returned (.tuple #[.bool false, .int .i64 0]) ∧ Below w.heap.size w w'))
    (h6 : Hid (∀ w : World, Calls Tryz.prog 23 #[.agg #[.bool u, .int .u64 kh, .int .u64 kl], .agg #[.bool v, .int .u64 hi, .int .u64 lo]] w fun e w' => e = .returned (.tuple #[.bool true, .int .i64 0]) ∧ Below w.heap.size w w'))
    (h7 : Hid (∀ w : World, Calls Tryz.prog 8 #[.agg #[.bool u, .int .u64 yi, .int .u64 yo, .int .i64 c], .agg #[.bool t, .int .u64 zi, .int .u64 zo, .int .i64 d]] w fun e w' => e = .returned (.tuple #[.bool false, .int .i64 k]) ∧ Below w.heap.size w w'))
    (h8 : Hid (∀ w : World, Calls Tryz.prog 8 #[.agg #[.bool v, .int .u64 hi, .int .u64 lo, .int .i64 b], .agg #[.bool t, .int .u64 zi, .int .u64 zo, .int .i64 d]] w fun e w' => e = .returned (.tuple #[.bool false, .int .i64 k']) ∧ Below w.heap.size w w'))
    (hk : (k != 0) = true)
    : Calls Tryz.prog 4 #[.agg #[.bool v, .int .u64 hi, .int .u64 lo, .int .i64 b], .agg #[.bool u, .int .u64 yi, .int .u64 yo, .int .i64 c], .agg #[.bool t, .int .u64 zi, .int .u64 zo, .int .i64 d]] w fun e w' => e = .returned (.bool true) ∧ Below w.heap.size w w' := by
  have hB1 : Hid (∀ w : World, Good w → Calls Tryz.prog 19 #[] w fun e w' => e = .returned (.bool true) ∧ Below w.heap.size w w') := fun w => pbegun_any w
  have hB2 : Hid (∀ w : World, Good w → Calls Tryz.prog 22 #[] w fun e w' => e = .returned (.bool true) ∧ Below w.heap.size w w') := fun w => begun_any w
  have HG : Hid (∀ w1 : World, Below w.heap.size w w1 → Good w1) := fun w1 h => hg.below h
  have B : Hid (Below w.heap.size w w) := Below.refl _ _
  clear hg
  replace B : Hid (Below w.heap.size w (((w.alloc (.cells #[.bool v, .int .u64 hi, .int .u64 lo, .int .i64 b] 26)).alloc (.cells #[.bool u, .int .u64 yi, .int .u64 yo, .int .i64 c] 26)).alloc (.cells #[.bool t, .int .u64 zi, .int .u64 zo, .int .i64 d] 26))) := bal (bal (bal (B.out) _) _) _
  have P : Hid (Has4 (((w.alloc (.cells #[.bool v, .int .u64 hi, .int .u64 lo, .int .i64 b] 26)).alloc (.cells #[.bool u, .int .u64 yi, .int .u64 yo, .int .i64 c] 26)).alloc (.cells #[.bool t, .int .u64 zi, .int .u64 zo, .int .i64 d] 26)) (w.heap.size) v hi lo b) := ((Has4.new w v hi lo b 26).alloc (.cells #[.bool u, .int .u64 yi, .int .u64 yo, .int .i64 c] 26)).alloc (.cells #[.bool t, .int .u64 zi, .int .u64 zo, .int .i64 d] 26)
  have Q : Hid (Has4 (((w.alloc (.cells #[.bool v, .int .u64 hi, .int .u64 lo, .int .i64 b] 26)).alloc (.cells #[.bool u, .int .u64 yi, .int .u64 yo, .int .i64 c] 26)).alloc (.cells #[.bool t, .int .u64 zi, .int .u64 zo, .int .i64 d] 26)) (w.heap.size + 1) u yi yo c) := by
    have := (Has4.new (w.alloc (.cells #[.bool v, .int .u64 hi, .int .u64 lo, .int .i64 b] 26)) u yi yo c 26).alloc (.cells #[.bool t, .int .u64 zi, .int .u64 zo, .int .i64 d] 26)
    rw [show (w.alloc (.cells #[.bool v, .int .u64 hi, .int .u64 lo, .int .i64 b] 26)).heap.size = w.heap.size + 1 by simp] at this
    exact this
  have R : Hid (Has4 (((w.alloc (.cells #[.bool v, .int .u64 hi, .int .u64 lo, .int .i64 b] 26)).alloc (.cells #[.bool u, .int .u64 yi, .int .u64 yo, .int .i64 c] 26)).alloc (.cells #[.bool t, .int .u64 zi, .int .u64 zo, .int .i64 d] 26)) (w.heap.size + 1 + 1) t zi zo d) := by
    have := Has4.new ((w.alloc (.cells #[.bool v, .int .u64 hi, .int .u64 lo, .int .i64 b] 26)).alloc (.cells #[.bool u, .int .u64 yi, .int .u64 yo, .int .i64 c] 26)) t zi zo d 26
    rw [show ((w.alloc (.cells #[.bool v, .int .u64 hi, .int .u64 lo, .int .i64 b] 26)).alloc (.cells #[.bool u, .int .u64 yi, .int .u64 yo, .int .i64 c] 26)).heap.size = w.heap.size + 1 + 1 by simp] at this
    exact this
  go_enter Tryz.func4, Tryz.ntmps4
  obtain ⟨P0, P1, P2, P3, P4⟩ := P.out
  obtain ⟨Q0, Q1, Q2, Q3, Q4⟩ := Q.out
  go_wp2_with fail
  generalize (((w.alloc (.cells #[.bool v, .int .u64 hi, .int .u64 lo, .int .i64 b] 26)).alloc (.cells #[.bool u, .int .u64 yi, .int .u64 yo, .int .i64 c] 26)).alloc (.cells #[.bool t, .int .u64 zi, .int .u64 zo, .int .i64 d] 26)) = W0 at *
  refine (h1.out _).mono ?_
  clear P0 P1 P2 P3 P4 Q0 Q1 Q2 Q3 Q4 
  rintro e w1 ⟨rfl, hb⟩
  replace B : Hid (Below w.heap.size w w1) := btr B.out hb
  replace P : Hid (Has4 w1 (w.heap.size) v hi lo b) := P.out.below hb
  replace Q : Hid (Has4 w1 (w.heap.size + 1) u yi yo c) := Q.out.below hb
  replace R : Hid (Has4 w1 (w.heap.size + 1 + 1) t zi zo d) := R.out.below hb
  clear hb
  obtain ⟨P0, P1, P2, P3, P4⟩ := P.out
  obtain ⟨Q0, Q1, Q2, Q3, Q4⟩ := Q.out
  go_wp2_with fail
  refine (h2.out _).mono ?_
  clear P0 P1 P2 P3 P4 Q0 Q1 Q2 Q3 Q4 
  rintro e w2 ⟨rfl, hb⟩
  replace B : Hid (Below w.heap.size w w2) := btr B.out hb
  replace P : Hid (Has4 w2 (w.heap.size) v hi lo b) := P.out.below hb
  replace Q : Hid (Has4 w2 (w.heap.size + 1) u yi yo c) := Q.out.below hb
  replace R : Hid (Has4 w2 (w.heap.size + 1 + 1) t zi zo d) := R.out.below hb
  clear hb
  go_wp2_with fail
  refine (hB1.out _ (HG.out _ B.out)).mono ?_
  rintro e w3 ⟨rfl, hb⟩
  replace B : Hid (Below w.heap.size w w3) := btr B.out hb
  replace P : Hid (Has4 w3 (w.heap.size) v hi lo b) := P.out.below hb
  replace Q : Hid (Has4 w3 (w.heap.size + 1) u yi yo c) := Q.out.below hb
  replace R : Hid (Has4 w3 (w.heap.size + 1 + 1) t zi zo d) := R.out.below hb
  clear hb
  go_wp2_with fail
  refine (hB2.out _ (HG.out _ B.out)).mono ?_
  rintro e w4 ⟨rfl, hb⟩
  replace B : Hid (Below w.heap.size w w4) := btr B.out hb
  replace P : Hid (Has4 w4 (w.heap.size) v hi lo b) := P.out.below hb
  replace Q : Hid (Has4 w4 (w.heap.size + 1) u yi yo c) := Q.out.below hb
  replace R : Hid (Has4 w4 (w.heap.size + 1 + 1) t zi zo d) := R.out.below hb
  clear hb
  obtain ⟨P0, P1, P2, P3, P4⟩ := P.out
  obtain ⟨Q0, Q1, Q2, Q3, Q4⟩ := Q.out
  go_wp2_with fail
  refine (h3.out _).mono ?_
  clear P0 P1 P2 P3 P4 Q0 Q1 Q2 Q3 Q4 
  rintro e w5 ⟨rfl, hb⟩
  replace B : Hid (Below w.heap.size w w5) := btr B.out hb
  replace P : Hid (Has4 w5 (w.heap.size) v hi lo b) := P.out.below hb
  replace Q : Hid (Has4 w5 (w.heap.size + 1) u yi yo c) := Q.out.below hb
  replace R : Hid (Has4 w5 (w.heap.size + 1 + 1) t zi zo d) := R.out.below hb
  clear hb
  replace P : Hid (Has4 ((w5.alloc (.cells #[.bool v, .int .u64 hi, .int .u64 lo] 24)).alloc (.cells #[.bool v, .int .u64 lh, .int .u64 ll] 24)) (w.heap.size) v hi lo b) := ((P.out).alloc (.cells #[.bool v, .int .u64 hi, .int .u64 lo] 24)).alloc (.cells #[.bool v, .int .u64 lh, .int .u64 ll] 24)
  replace Q : Hid (Has4 ((w5.alloc (.cells #[.bool v, .int .u64 hi, .int .u64 lo] 24)).alloc (.cells #[.bool v, .int .u64 lh, .int .u64 ll] 24)) (w.heap.size + 1) u yi yo c) := ((Q.out).alloc (.cells #[.bool v, .int .u64 hi, .int .u64 lo] 24)).alloc (.cells #[.bool v, .int .u64 lh, .int .u64 ll] 24)
  replace R : Hid (Has4 ((w5.alloc (.cells #[.bool v, .int .u64 hi, .int .u64 lo] 24)).alloc (.cells #[.bool v, .int .u64 lh, .int .u64 ll] 24)) (w.heap.size + 1 + 1) t zi zo d) := ((R.out).alloc (.cells #[.bool v, .int .u64 hi, .int .u64 lo] 24)).alloc (.cells #[.bool v, .int .u64 lh, .int .u64 ll] 24)
  replace B : Hid (Below w.heap.size w ((w5.alloc (.cells #[.bool v, .int .u64 hi, .int .u64 lo] 24)).alloc (.cells #[.bool v, .int .u64 lh, .int .u64 ll] 24))) := bal (bal (B.out) _) _
  have X : Hid (Has3 ((w5.alloc (.cells #[.bool v, .int .u64 hi, .int .u64 lo] 24)).alloc (.cells #[.bool v, .int .u64 lh, .int .u64 ll] 24)) (w5.heap.size) (.bool v) (.int .u64 hi) (.int .u64 lo)) := (Has3.new w5 (.bool v) (.int .u64 hi) (.int .u64 lo) 24).alloc (.cells #[.bool v, .int .u64 lh, .int .u64 ll] 24)
  have Y : Hid (Has3 ((w5.alloc (.cells #[.bool v, .int .u64 hi, .int .u64 lo] 24)).alloc (.cells #[.bool v, .int .u64 lh, .int .u64 ll] 24)) (w5.heap.size + 1) (.bool v) (.int .u64 lh) (.int .u64 ll)) := by
    have := Has3.new (w5.alloc (.cells #[.bool v, .int .u64 hi, .int .u64 lo] 24)) (.bool v) (.int .u64 lh) (.int .u64 ll) 24
    rw [show (w5.alloc (.cells #[.bool v, .int .u64 hi, .int .u64 lo] 24)).heap.size = w5.heap.size + 1 by simp] at this
    exact this
  obtain ⟨P0, P1, P2, P3, P4⟩ := P.out
  obtain ⟨Q0, Q1, Q2, Q3, Q4⟩ := Q.out
  go_wp2_with fail
  generalize ((w5.alloc (.cells #[.bool v, .int .u64 hi, .int .u64 lo] 24)).alloc (.cells #[.bool v, .int .u64 lh, .int .u64 ll] 24)) = W5 at *
  generalize w5.heap.size = m5 at *
  refine (h4.out _).mono ?_
  clear P0 P1 P2 P3 P4 Q0 Q1 Q2 Q3 Q4 
  rintro e w6 ⟨rfl, hb⟩
  replace B : Hid (Below w.heap.size w w6) := btr B.out hb
  replace P : Hid (Has4 w6 (w.heap.size) v hi lo b) := P.out.below hb
  replace Q : Hid (Has4 w6 (w.heap.size + 1) u yi yo c) := Q.out.below hb
  replace R : Hid (Has4 w6 (w.heap.size + 1 + 1) t zi zo d) := R.out.below hb
  replace X : Hid (Has3 w6 (m5) (.bool v) (.int .u64 hi) (.int .u64 lo)) := X.out.below hb
  replace Y : Hid (Has3 w6 (m5 + 1) (.bool v) (.int .u64 lh) (.int .u64 ll)) := Y.out.below hb
  clear hb
  replace P : Hid (Has4 ((w6.alloc (.cells #[.bool u, .int .u64 yi, .int .u64 yo] 24)).alloc (.cells #[.bool u, .int .u64 kh, .int .u64 kl] 24)) (w.heap.size) v hi lo b) := ((P.out).alloc (.cells #[.bool u, .int .u64 yi, .int .u64 yo] 24)).alloc (.cells #[.bool u, .int .u64 kh, .int .u64 kl] 24)
  replace Q : Hid (Has4 ((w6.alloc (.cells #[.bool u, .int .u64 yi, .int .u64 yo] 24)).alloc (.cells #[.bool u, .int .u64 kh, .int .u64 kl] 24)) (w.heap.size + 1) u yi yo c) := ((Q.out).alloc (.cells #[.bool u, .int .u64 yi, .int .u64 yo] 24)).alloc (.cells #[.bool u, .int .u64 kh, .int .u64 kl] 24)
  replace R : Hid (Has4 ((w6.alloc (.cells #[.bool u, .int .u64 yi, .int .u64 yo] 24)).alloc (.cells #[.bool u, .int .u64 kh, .int .u64 kl] 24)) (w.heap.size + 1 + 1) t zi zo d) := ((R.out).alloc (.cells #[.bool u, .int .u64 yi, .int .u64 yo] 24)).alloc (.cells #[.bool u, .int .u64 kh, .int .u64 kl] 24)
  replace X : Hid (Has3 ((w6.alloc (.cells #[.bool u, .int .u64 yi, .int .u64 yo] 24)).alloc (.cells #[.bool u, .int .u64 kh, .int .u64 kl] 24)) (m5) (.bool v) (.int .u64 hi) (.int .u64 lo)) := ((X.out).alloc (.cells #[.bool u, .int .u64 yi, .int .u64 yo] 24)).alloc (.cells #[.bool u, .int .u64 kh, .int .u64 kl] 24)
  replace Y : Hid (Has3 ((w6.alloc (.cells #[.bool u, .int .u64 yi, .int .u64 yo] 24)).alloc (.cells #[.bool u, .int .u64 kh, .int .u64 kl] 24)) (m5 + 1) (.bool v) (.int .u64 lh) (.int .u64 ll)) := ((Y.out).alloc (.cells #[.bool u, .int .u64 yi, .int .u64 yo] 24)).alloc (.cells #[.bool u, .int .u64 kh, .int .u64 kl] 24)
  replace B : Hid (Below w.heap.size w ((w6.alloc (.cells #[.bool u, .int .u64 yi, .int .u64 yo] 24)).alloc (.cells #[.bool u, .int .u64 kh, .int .u64 kl] 24))) := bal (bal (B.out) _) _
  have Z : Hid (Has3 ((w6.alloc (.cells #[.bool u, .int .u64 yi, .int .u64 yo] 24)).alloc (.cells #[.bool u, .int .u64 kh, .int .u64 kl] 24)) (w6.heap.size) (.bool u) (.int .u64 yi) (.int .u64 yo)) := (Has3.new w6 (.bool u) (.int .u64 yi) (.int .u64 yo) 24).alloc (.cells #[.bool u, .int .u64 kh, .int .u64 kl] 24)
  have V : Hid (Has3 ((w6.alloc (.cells #[.bool u, .int .u64 yi, .int .u64 yo] 24)).alloc (.cells #[.bool u, .int .u64 kh, .int .u64 kl] 24)) (w6.heap.size + 1) (.bool u) (.int .u64 kh) (.int .u64 kl)) := by
    have := Has3.new (w6.alloc (.cells #[.bool u, .int .u64 yi, .int .u64 yo] 24)) (.bool u) (.int .u64 kh) (.int .u64 kl) 24
    rw [show (w6.alloc (.cells #[.bool u, .int .u64 yi, .int .u64 yo] 24)).heap.size = w6.heap.size + 1 by simp] at this
    exact this
  obtain ⟨Y0, Y1, Y2, Y3⟩ := Y.out
  obtain ⟨Z0, Z1, Z2, Z3⟩ := Z.out
  go_wp2_with fail
  generalize ((w6.alloc (.cells #[.bool u, .int .u64 yi, .int .u64 yo] 24)).alloc (.cells #[.bool u, .int .u64 kh, .int .u64 kl] 24)) = W6 at *
  generalize w6.heap.size = m6 at *
  refine (h5.out _).mono ?_
  clear Y0 Y1 Y2 Y3 Z0 Z1 Z2 Z3 
  rintro e w7 ⟨rfl, hb⟩
  replace B : Hid (Below w.heap.size w w7) := btr B.out hb
  replace P : Hid (Has4 w7 (w.heap.size) v hi lo b) := P.out.below hb
  replace Q : Hid (Has4 w7 (w.heap.size + 1) u yi yo c) := Q.out.below hb
  replace R : Hid (Has4 w7 (w.heap.size + 1 + 1) t zi zo d) := R.out.below hb
  replace X : Hid (Has3 w7 (m5) (.bool v) (.int .u64 hi) (.int .u64 lo)) := X.out.below hb
  replace Y : Hid (Has3 w7 (m5 + 1) (.bool v) (.int .u64 lh) (.int .u64 ll)) := Y.out.below hb
  replace Z : Hid (Has3 w7 (m6) (.bool u) (.int .u64 yi) (.int .u64 yo)) := Z.out.below hb
  replace V : Hid (Has3 w7 (m6 + 1) (.bool u) (.int .u64 kh) (.int .u64 kl)) := V.out.below hb
  clear hb
  obtain ⟨X0, X1, X2, X3⟩ := X.out
  obtain ⟨V0, V1, V2, V3⟩ := V.out
  go_wp2_with fail
  refine (h6.out _).mono ?_
  clear X0 X1 X2 X3 V0 V1 V2 V3 
  rintro e w8 ⟨rfl, hb⟩
  replace B : Hid (Below w.heap.size w w8) := btr B.out hb
  replace P : Hid (Has4 w8 (w.heap.size) v hi lo b) := P.out.below hb
  replace Q : Hid (Has4 w8 (w.heap.size + 1) u yi yo c) := Q.out.below hb
  replace R : Hid (Has4 w8 (w.heap.size + 1 + 1) t zi zo d) := R.out.below hb
  replace X : Hid (Has3 w8 (m5) (.bool v) (.int .u64 hi) (.int .u64 lo)) := X.out.below hb
  replace Y : Hid (Has3 w8 (m5 + 1) (.bool v) (.int .u64 lh) (.int .u64 ll)) := Y.out.below hb
  replace Z : Hid (Has3 w8 (m6) (.bool u) (.int .u64 yi) (.int .u64 yo)) := Z.out.below hb
  replace V : Hid (Has3 w8 (m6 + 1) (.bool u) (.int .u64 kh) (.int .u64 kl)) := V.out.below hb
  clear hb
  obtain ⟨P0, P1, P2, P3, P4⟩ := P.out
  obtain ⟨Q0, Q1, Q2, Q3, Q4⟩ := Q.out
  obtain ⟨R0, R1, R2, R3, R4⟩ := R.out
  go_wp2_with fail
  refine (h7.out _).mono ?_
  clear P0 P1 P2 P3 P4 Q0 Q1 Q2 Q3 Q4 R0 R1 R2 R3 R4 
  rintro e w9 ⟨rfl, hb⟩
  replace B : Hid (Below w.heap.size w w9) := btr B.out hb
  replace P : Hid (Has4 w9 (w.heap.size) v hi lo b) := P.out.below hb
  replace Q : Hid (Has4 w9 (w.heap.size + 1) u yi yo c) := Q.out.below hb
  replace R : Hid (Has4 w9 (w.heap.size + 1 + 1) t zi zo d) := R.out.below hb
  replace X : Hid (Has3 w9 (m5) (.bool v) (.int .u64 hi) (.int .u64 lo)) := X.out.below hb
  replace Y : Hid (Has3 w9 (m5 + 1) (.bool v) (.int .u64 lh) (.int .u64 ll)) := Y.out.below hb
  replace Z : Hid (Has3 w9 (m6) (.bool u) (.int .u64 yi) (.int .u64 yo)) := Z.out.below hb
  replace V : Hid (Has3 w9 (m6 + 1) (.bool u) (.int .u64 kh) (.int .u64 kl)) := V.out.below hb
  clear hb
  obtain ⟨P0, P1, P2, P3, P4⟩ := P.out
  obtain ⟨Q0, Q1, Q2, Q3, Q4⟩ := Q.out
  obtain ⟨R0, R1, R2, R3, R4⟩ := R.out
  go_wp2_with fail
  refine (h8.out _).mono ?_
  clear P0 P1 P2 P3 P4 Q0 Q1 Q2 Q3 Q4 R0 R1 R2 R3 R4 
  rintro e w10 ⟨rfl, hb⟩
  replace B : Hid (Below w.heap.size w w10) := btr B.out hb
  replace P : Hid (Has4 w10 (w.heap.size) v hi lo b) := P.out.below hb
  replace Q : Hid (Has4 w10 (w.heap.size + 1) u yi yo c) := Q.out.below hb
  replace R : Hid (Has4 w10 (w.heap.size + 1 + 1) t zi zo d) := R.out.below hb
  replace X : Hid (Has3 w10 (m5) (.bool v) (.int .u64 hi) (.int .u64 lo)) := X.out.below hb
  replace Y : Hid (Has3 w10 (m5 + 1) (.bool v) (.int .u64 lh) (.int .u64 ll)) := Y.out.below hb
  replace Z : Hid (Has3 w10 (m6) (.bool u) (.int .u64 yi) (.int .u64 yo)) := Z.out.below hb
  replace V : Hid (Has3 w10 (m6 + 1) (.bool u) (.int .u64 kh) (.int .u64 kl)) := V.out.below hb
  clear hb
  go_wp2
  go_ret
  exact ⟨rfl, B.out⟩

set_option maxHeartbeats 32000000 in
set_option maxRecDepth 100000 in
theorem apart_ffm_ok (v : Bool) (hi lo b : Int) (u : Bool) (yi yo c : Int) (t : Bool) (zi zo d : Int) (k k' lh ll kh kl : Int) (bb cc dd mm : Bool) (w : World) (hg : Good w)
    (h1 : Hid (∀ w : World, Calls Tryz.prog 8 #[.agg #[.bool v, .int .u64 hi, .int .u64 lo, .int .i64 b], .agg #[.bool u, .int .u64 yi, .int .u64 yo, .int .i64 c]] w fun e w' => e = .returned (.tuple #[.bool false, .int .i64 0]) ∧ Below w.heap.size w w'))
    (h2 : Hid (∀ w : World, Calls Tryz.prog 8 #[.agg #[.bool u, .int .u64 yi, .int .u64 yo, .int .i64 c], .agg #[.bool v, .int .u64 hi, .int .u64 lo, .int .i64 b]] w fun e w' => e = .returned (.tuple #[.bool false, .int .i64 0]) ∧ Below w.heap.size w w'))
    (h3 : Hid (∀ w : World, Calls Tryz.prog 9 #[.agg #[.bool v, .int .u64 hi, .int .u64 lo, .int .i64 b]] w fun e w' => e = .returned (.tuple #[.agg #[.bool v, .int .u64 hi, .int .u64 lo], .agg #[.bool v, .int .u64 lh, .int .u64 ll], .int .i64 0]) ∧ Below w.heap.size w w'))
    (h4 : Hid (∀ w : World, Calls Tryz.prog 9 #[.agg #[.bool u, .int .u64 yi, .int .u64 yo, .int .i64 c]] w fun e w' => e = .returned (.tuple #[.agg #[.bool u, .int .u64 yi, .int .u64 yo], .agg #[.bool u, .int .u64 kh, .int .u64 kl], .int .i64 0]) ∧ Below w.heap.size w w'))
    (h5 : Hid (∀ w : World, Calls Tryz.prog 23 #[.agg #[.bool v, .int .u64 lh, .int .u64 ll], .agg #[.bool u, .int .u64 yi, .int .u64 yo]] w fun e w' => e = .returned (.tuple #[.bool false, .int .i64 0]) ∧ Below w.heap.size w w'))
    (h6 : Hid (∀ w : World, Calls Tryz.prog 23 #[.agg #[.bool u, .int .u64 kh, .int .u64 kl], .agg #[.bool v, .int .u64 hi, .int .u64 lo]] w fun e w' => e = .returned (.tuple #[.bool true, .int .i64 0]) ∧ Below w.heap.size w w'))
    (h7 : Hid (∀ w : World, Calls Tryz.prog 8 #[.agg #[.bool u, .int .u64 yi, .int .u64 yo, .int .i64 c], .agg #[.bool t, .int .u64 zi, .int .u64 zo, .int .i64 d]] w fun e w' => e = .returned (.tuple #[.bool cc, .int .i64 0]) ∧ Below w.heap.size w w'))
    (h8 : Hid (∀ w : World, Calls Tryz.prog 8 #[.agg #[.bool v, .int .u64 hi, .int .u64 lo, .int .i64 b], .agg #[.bool t, .int .u64 zi, .int .u64 zo, .int .i64 d]] w fun e w' => e = .returned (.tuple #[.bool dd, .int .i64 0]) ∧ Below w.heap.size w w'))
    : Calls Tryz.prog 4 #[.agg #[.bool v, .int .u64 hi, .int .u64 lo, .int .i64 b], .agg #[.bool u, .int .u64 yi, .int .u64 yo, .int .i64 c], .agg #[.bool t, .int .u64 zi, .int .u64 zo, .int .i64 d]] w fun e w' => e = .returned (.bool true) ∧ Below w.heap.size w w' := by
  have hB1 : Hid (∀ w : World, Good w → Calls Tryz.prog 19 #[] w fun e w' => e = .returned (.bool true) ∧ Below w.heap.size w w') := fun w => pbegun_any w
  have hB2 : Hid (∀ w : World, Good w → Calls Tryz.prog 22 #[] w fun e w' => e = .returned (.bool true) ∧ Below w.heap.size w w') := fun w => begun_any w
  have HG : Hid (∀ w1 : World, Below w.heap.size w w1 → Good w1) := fun w1 h => hg.below h
  have B : Hid (Below w.heap.size w w) := Below.refl _ _
  clear hg
  replace B : Hid (Below w.heap.size w (((w.alloc (.cells #[.bool v, .int .u64 hi, .int .u64 lo, .int .i64 b] 26)).alloc (.cells #[.bool u, .int .u64 yi, .int .u64 yo, .int .i64 c] 26)).alloc (.cells #[.bool t, .int .u64 zi, .int .u64 zo, .int .i64 d] 26))) := bal (bal (bal (B.out) _) _) _
  have P : Hid (Has4 (((w.alloc (.cells #[.bool v, .int .u64 hi, .int .u64 lo, .int .i64 b] 26)).alloc (.cells #[.bool u, .int .u64 yi, .int .u64 yo, .int .i64 c] 26)).alloc (.cells #[.bool t, .int .u64 zi, .int .u64 zo, .int .i64 d] 26)) (w.heap.size) v hi lo b) := ((Has4.new w v hi lo b 26).alloc (.cells #[.bool u, .int .u64 yi, .int .u64 yo, .int .i64 c] 26)).alloc (.cells #[.bool t, .int .u64 zi, .int .u64 zo, .int .i64 d] 26)
  have Q : Hid (Has4 (((w.alloc (.cells #[.bool v, .int .u64 hi, .int .u64 lo, .int .i64 b] 26)).alloc (.cells #[.bool u, .int .u64 yi, .int .u64 yo, .int .i64 c] 26)).alloc (.cells #[.bool t, .int .u64 zi, .int .u64 zo, .int .i64 d] 26)) (w.heap.size + 1) u yi yo c) := by
    have := (Has4.new (w.alloc (.cells #[.bool v, .int .u64 hi, .int .u64 lo, .int .i64 b] 26)) u yi yo c 26).alloc (.cells #[.bool t, .int .u64 zi, .int .u64 zo, .int .i64 d] 26)
    rw [show (w.alloc (.cells #[.bool v, .int .u64 hi, .int .u64 lo, .int .i64 b] 26)).heap.size = w.heap.size + 1 by simp] at this
    exact this
  have R : Hid (Has4 (((w.alloc (.cells #[.bool v, .int .u64 hi, .int .u64 lo, .int .i64 b] 26)).alloc (.cells #[.bool u, .int .u64 yi, .int .u64 yo, .int .i64 c] 26)).alloc (.cells #[.bool t, .int .u64 zi, .int .u64 zo, .int .i64 d] 26)) (w.heap.size + 1 + 1) t zi zo d) := by
    have := Has4.new ((w.alloc (.cells #[.bool v, .int .u64 hi, .int .u64 lo, .int .i64 b] 26)).alloc (.cells #[.bool u, .int .u64 yi, .int .u64 yo, .int .i64 c] 26)) t zi zo d 26
    rw [show ((w.alloc (.cells #[.bool v, .int .u64 hi, .int .u64 lo, .int .i64 b] 26)).alloc (.cells #[.bool u, .int .u64 yi, .int .u64 yo, .int .i64 c] 26)).heap.size = w.heap.size + 1 + 1 by simp] at this
    exact this
  go_enter Tryz.func4, Tryz.ntmps4
  obtain ⟨P0, P1, P2, P3, P4⟩ := P.out
  obtain ⟨Q0, Q1, Q2, Q3, Q4⟩ := Q.out
  go_wp2_with fail
  generalize (((w.alloc (.cells #[.bool v, .int .u64 hi, .int .u64 lo, .int .i64 b] 26)).alloc (.cells #[.bool u, .int .u64 yi, .int .u64 yo, .int .i64 c] 26)).alloc (.cells #[.bool t, .int .u64 zi, .int .u64 zo, .int .i64 d] 26)) = W0 at *
  refine (h1.out _).mono ?_
  clear P0 P1 P2 P3 P4 Q0 Q1 Q2 Q3 Q4 
  rintro e w1 ⟨rfl, hb⟩
  replace B : Hid (Below w.heap.size w w1) := btr B.out hb
  replace P : Hid (Has4 w1 (w.heap.size) v hi lo b) := P.out.below hb
  replace Q : Hid (Has4 w1 (w.heap.size + 1) u yi yo c) := Q.out.below hb
  replace R : Hid (Has4 w1 (w.heap.size + 1 + 1) t zi zo d) := R.out.below hb
  clear hb
  obtain ⟨P0, P1, P2, P3, P4⟩ := P.out
  obtain ⟨Q0, Q1, Q2, Q3, Q4⟩ := Q.out
  go_wp2_with fail
  refine (h2.out _).mono ?_
  clear P0 P1 P2 P3 P4 Q0 Q1 Q2 Q3 Q4 
  rintro e w2 ⟨rfl, hb⟩
  replace B : Hid (Below w.heap.size w w2) := btr B.out hb
  replace P : Hid (Has4 w2 (w.heap.size) v hi lo b) := P.out.below hb
  replace Q : Hid (Has4 w2 (w.heap.size + 1) u yi yo c) := Q.out.below hb
  replace R : Hid (Has4 w2 (w.heap.size + 1 + 1) t zi zo d) := R.out.below hb
  clear hb
  go_wp2_with fail
  refine (hB1.out _ (HG.out _ B.out)).mono ?_
  rintro e w3 ⟨rfl, hb⟩
  replace B : Hid (Below w.heap.size w w3) := btr B.out hb
  replace P : Hid (Has4 w3 (w.heap.size) v hi lo b) := P.out.below hb
  replace Q : Hid (Has4 w3 (w.heap.size + 1) u yi yo c) := Q.out.below hb
  replace R : Hid (Has4 w3 (w.heap.size + 1 + 1) t zi zo d) := R.out.below hb
  clear hb
  go_wp2_with fail
  refine (hB2.out _ (HG.out _ B.out)).mono ?_
  rintro e w4 ⟨rfl, hb⟩
  replace B : Hid (Below w.heap.size w w4) := btr B.out hb
  replace P : Hid (Has4 w4 (w.heap.size) v hi lo b) := P.out.below hb
  replace Q : Hid (Has4 w4 (w.heap.size + 1) u yi yo c) := Q.out.below hb
  replace R : Hid (Has4 w4 (w.heap.size + 1 + 1) t zi zo d) := R.out.below hb
  clear hb
  obtain ⟨P0, P1, P2, P3, P4⟩ := P.out
  obtain ⟨Q0, Q1, Q2, Q3, Q4⟩ := Q.out
  go_wp2_with fail
  refine (h3.out _).mono ?_
  clear P0 P1 P2 P3 P4 Q0 Q1 Q2 Q3 Q4 
  rintro e w5 ⟨rfl, hb⟩
  replace B : Hid (Below w.heap.size w w5) := btr B.out hb
  replace P : Hid (Has4 w5 (w.heap.size) v hi lo b) := P.out.below hb
  replace Q : Hid (Has4 w5 (w.heap.size + 1) u yi yo c) := Q.out.below hb
  replace R : Hid (Has4 w5 (w.heap.size + 1 + 1) t zi zo d) := R.out.below hb
  clear hb
  replace P : Hid (Has4 ((w5.alloc (.cells #[.bool v, .int .u64 hi, .int .u64 lo] 24)).alloc (.cells #[.bool v, .int .u64 lh, .int .u64 ll] 24)) (w.heap.size) v hi lo b) := ((P.out).alloc (.cells #[.bool v, .int .u64 hi, .int .u64 lo] 24)).alloc (.cells #[.bool v, .int .u64 lh, .int .u64 ll] 24)
  replace Q : Hid (Has4 ((w5.alloc (.cells #[.bool v, .int .u64 hi, .int .u64 lo] 24)).alloc (.cells #[.bool v, .int .u64 lh, .int .u64 ll] 24)) (w.heap.size + 1) u yi yo c) := ((Q.out).alloc (.cells #[.bool v, .int .u64 hi, .int .u64 lo] 24)).alloc (.cells #[.bool v, .int .u64 lh, .int .u64 ll] 24)
  replace R : Hid (Has4 ((w5.alloc (.cells #[.bool v, .int .u64 hi, .int .u64 lo] 24)).alloc (.cells #[.bool v, .int .u64 lh, .int .u64 ll] 24)) (w.heap.size + 1 + 1) t zi zo d) := ((R.out).alloc (.cells #[.bool v, .int .u64 hi, .int .u64 lo] 24)).alloc (.cells #[.bool v, .int .u64 lh, .int .u64 ll] 24)
  replace B : Hid (Below w.heap.size w ((w5.alloc (.cells #[.bool v, .int .u64 hi, .int .u64 lo] 24)).alloc (.cells #[.bool v, .int .u64 lh, .int .u64 ll] 24))) := bal (bal (B.out) _) _
  have X : Hid (Has3 ((w5.alloc (.cells #[.bool v, .int .u64 hi, .int .u64 lo] 24)).alloc (.cells #[.bool v, .int .u64 lh, .int .u64 ll] 24)) (w5.heap.size) (.bool v) (.int .u64 hi) (.int .u64 lo)) := (Has3.new w5 (.bool v) (.int .u64 hi) (.int .u64 lo) 24).alloc (.cells #[.bool v, .int .u64 lh, .int .u64 ll] 24)
  have Y : Hid (Has3 ((w5.alloc (.cells #[.bool v, .int .u64 hi, .int .u64 lo] 24)).alloc (.cells #[.bool v, .int .u64 lh, .int .u64 ll] 24)) (w5.heap.size + 1) (.bool v) (.int .u64 lh) (.int .u64 ll)) := by
    have := Has3.new (w5.alloc (.cells #[.bool v, .int .u64 hi, .int .u64 lo] 24)) (.bool v) (.int .u64 lh) (.int .u64 ll) 24
    rw [show (w5.alloc (.cells #[.bool v, .int .u64 hi, .int .u64 lo] 24)).heap.size = w5.heap.size + 1 by simp] at this
    exact this
  obtain ⟨P0, P1, P2, P3, P4⟩ := P.out
  obtain ⟨Q0, Q1, Q2, Q3, Q4⟩ := Q.out
  go_wp2_with fail
  generalize ((w5.alloc (.cells #[.bool v, .int .u64 hi, .int .u64 lo] 24)).alloc (.cells #[.bool v, .int .u64 lh, .int .u64 ll] 24)) = W5 at *
  generalize w5.heap.size = m5 at *
  refine (h4.out _).mono ?_
  clear P0 P1 P2 P3 P4 Q0 Q1 Q2 Q3 Q4 
  rintro e w6 ⟨rfl, hb⟩
  replace B : Hid (Below w.heap.size w w6) := btr B.out hb
  replace P : Hid (Has4 w6 (w.heap.size) v hi lo b) := P.out.below hb
  replace Q : Hid (Has4 w6 (w.heap.size + 1) u yi yo c) := Q.out.below hb
  replace R : Hid (Has4 w6 (w.heap.size + 1 + 1) t zi zo d) := R.out.below hb
  replace X : Hid (Has3 w6 (m5) (.bool v) (.int .u64 hi) (.int .u64 lo)) := X.out.below hb
  replace Y : Hid (Has3 w6 (m5 + 1) (.bool v) (.int .u64 lh) (.int .u64 ll)) := Y.out.below hb
  clear hb
  replace P : Hid (Has4 ((w6.alloc (.cells #[.bool u, .int .u64 yi, .int .u64 yo] 24)).alloc (.cells #[.bool u, .int .u64 kh, .int .u64 kl] 24)) (w.heap.size) v hi lo b) := ((P.out).alloc (.cells #[.bool u, .int .u64 yi, .int .u64 yo] 24)).alloc (.cells #[.bool u, .int .u64 kh, .int .u64 kl] 24)
  replace Q : Hid (Has4 ((w6.alloc (.cells #[.bool u, .int .u64 yi, .int .u64 yo] 24)).alloc (.cells #[.bool u, .int .u64 kh, .int .u64 kl] 24)) (w.heap.size + 1) u yi yo c) := ((Q.out).alloc (.cells #[.bool u, .int .u64 yi, .int .u64 yo] 24)).alloc (.cells #[.bool u, .int .u64 kh, .int .u64 kl] 24)
  replace R : Hid (Has4 ((w6.alloc (.cells #[.bool u, .int .u64 yi, .int .u64 yo] 24)).alloc (.cells #[.bool u, .int .u64 kh, .int .u64 kl] 24)) (w.heap.size + 1 + 1) t zi zo d) := ((R.out).alloc (.cells #[.bool u, .int .u64 yi, .int .u64 yo] 24)).alloc (.cells #[.bool u, .int .u64 kh, .int .u64 kl] 24)
  replace X : Hid (Has3 ((w6.alloc (.cells #[.bool u, .int .u64 yi, .int .u64 yo] 24)).alloc (.cells #[.bool u, .int .u64 kh, .int .u64 kl] 24)) (m5) (.bool v) (.int .u64 hi) (.int .u64 lo)) := ((X.out).alloc (.cells #[.bool u, .int .u64 yi, .int .u64 yo] 24)).alloc (.cells #[.bool u, .int .u64 kh, .int .u64 kl] 24)
  replace Y : Hid (Has3 ((w6.alloc (.cells #[.bool u, .int .u64 yi, .int .u64 yo] 24)).alloc (.cells #[.bool u, .int .u64 kh, .int .u64 kl] 24)) (m5 + 1) (.bool v) (.int .u64 lh) (.int .u64 ll)) := ((Y.out).alloc (.cells #[.bool u, .int .u64 yi, .int .u64 yo] 24)).alloc (.cells #[.bool u, .int .u64 kh, .int .u64 kl] 24)
  replace B : Hid (Below w.heap.size w ((w6.alloc (.cells #[.bool u, .int .u64 yi, .int .u64 yo] 24)).alloc (.cells #[.bool u, .int .u64 kh, .int .u64 kl] 24))) := bal (bal (B.out) _) _
  have Z : Hid (Has3 ((w6.alloc (.cells #[.bool u, .int .u64 yi, .int .u64 yo] 24)).alloc (.cells #[.bool u, .int .u64 kh, .int .u64 kl] 24)) (w6.heap.size) (.bool u) (.int .u64 yi) (.int .u64 yo)) := (Has3.new w6 (.bool u) (.int .u64 yi) (.int .u64 yo) 24).alloc (.cells #[.bool u, .int .u64 kh, .int .u64 kl] 24)
  have V : Hid (Has3 ((w6.alloc (.cells #[.bool u, .int .u64 yi, .int .u64 yo] 24)).alloc (.cells #[.bool u, .int .u64 kh, .int .u64 kl] 24)) (w6.heap.size + 1) (.bool u) (.int .u64 kh) (.int .u64 kl)) := by
    have := Has3.new (w6.alloc (.cells #[.bool u, .int .u64 yi, .int .u64 yo] 24)) (.bool u) (.int .u64 kh) (.int .u64 kl) 24
    rw [show (w6.alloc (.cells #[.bool u, .int .u64 yi, .int .u64 yo] 24)).heap.size = w6.heap.size + 1 by simp] at this
    exact this
  obtain ⟨Y0, Y1, Y2, Y3⟩ := Y.out
  obtain ⟨Z0, Z1, Z2, Z3⟩ := Z.out
  go_wp2_with fail
  generalize ((w6.alloc (.cells #[.bool u, .int .u64 yi, .int .u64 yo] 24)).alloc (.cells #[.bool u, .int .u64 kh, .int .u64 kl] 24)) = W6 at *
  generalize w6.heap.size = m6 at *
  refine (h5.out _).mono ?_
  clear Y0 Y1 Y2 Y3 Z0 Z1 Z2 Z3 
  rintro e w7 ⟨rfl, hb⟩
  replace B : Hid (Below w.heap.size w w7) := btr B.out hb
  replace P : Hid (Has4 w7 (w.heap.size) v hi lo b) := P.out.below hb
  replace Q : Hid (Has4 w7 (w.heap.size + 1) u yi yo c) := Q.out.below hb
  replace R : Hid (Has4 w7 (w.heap.size + 1 + 1) t zi zo d) := R.out.below hb
  replace X : Hid (Has3 w7 (m5) (.bool v) (.int .u64 hi) (.int .u64 lo)) := X.out.below hb
  replace Y : Hid (Has3 w7 (m5 + 1) (.bool v) (.int .u64 lh) (.int .u64 ll)) := Y.out.below hb
  replace Z : Hid (Has3 w7 (m6) (.bool u) (.int .u64 yi) (.int .u64 yo)) := Z.out.below hb
  replace V : Hid (Has3 w7 (m6 + 1) (.bool u) (.int .u64 kh) (.int .u64 kl)) := V.out.below hb
  clear hb
  obtain ⟨X0, X1, X2, X3⟩ := X.out
  obtain ⟨V0, V1, V2, V3⟩ := V.out
  go_wp2_with fail
  refine (h6.out _).mono ?_
  clear X0 X1 X2 X3 V0 V1 V2 V3 
  rintro e w8 ⟨rfl, hb⟩
  replace B : Hid (Below w.heap.size w w8) := btr B.out hb
  replace P : Hid (Has4 w8 (w.heap.size) v hi lo b) := P.out.below hb
  replace Q : Hid (Has4 w8 (w.heap.size + 1) u yi yo c) := Q.out.below hb
  replace R : Hid (Has4 w8 (w.heap.size + 1 + 1) t zi zo d) := R.out.below hb
  replace X : Hid (Has3 w8 (m5) (.bool v) (.int .u64 hi) (.int .u64 lo)) := X.out.below hb
  replace Y : Hid (Has3 w8 (m5 + 1) (.bool v) (.int .u64 lh) (.int .u64 ll)) := Y.out.below hb
  replace Z : Hid (Has3 w8 (m6) (.bool u) (.int .u64 yi) (.int .u64 yo)) := Z.out.below hb
  replace V : Hid (Has3 w8 (m6 + 1) (.bool u) (.int .u64 kh) (.int .u64 kl)) := V.out.below hb
  clear hb
  obtain ⟨P0, P1, P2, P3, P4⟩ := P.out
  obtain ⟨Q0, Q1, Q2, Q3, Q4⟩ := Q.out
  obtain ⟨R0, R1, R2, R3, R4⟩ := R.out
  go_wp2_with fail
  refine (h7.out _).mono ?_
  clear P0 P1 P2 P3 P4 Q0 Q1 Q2 Q3 Q4 R0 R1 R2 R3 R4 
  rintro e w9 ⟨rfl, hb⟩
  replace B : Hid (Below w.heap.size w w9) := btr B.out hb
  replace P : Hid (Has4 w9 (w.heap.size) v hi lo b) := P.out.below hb
  replace Q : Hid (Has4 w9 (w.heap.size + 1) u yi yo c) := Q.out.below hb
  replace R : Hid (Has4 w9 (w.heap.size + 1 + 1) t zi zo d) := R.out.below hb
  replace X : Hid (Has3 w9 (m5) (.bool v) (.int .u64 hi) (.int .u64 lo)) := X.out.below hb
  replace Y : Hid (Has3 w9 (m5 + 1) (.bool v) (.int .u64 lh) (.int .u64 ll)) := Y.out.below hb
  replace Z : Hid (Has3 w9 (m6) (.bool u) (.int .u64 yi) (.int .u64 yo)) := Z.out.below hb
  replace V : Hid (Has3 w9 (m6 + 1) (.bool u) (.int .u64 kh) (.int .u64 kl)) := V.out.below hb
  clear hb
  obtain ⟨P0, P1, P2, P3, P4⟩ := P.out
  obtain ⟨Q0, Q1, Q2, Q3, Q4⟩ := Q.out
  obtain ⟨R0, R1, R2, R3, R4⟩ := R.out
  go_wp2_with fail
  refine (h8.out _).mono ?_
  clear P0 P1 P2 P3 P4 Q0 Q1 Q2 Q3 Q4 R0 R1 R2 R3 R4 
  rintro e w10 ⟨rfl, hb⟩
  replace B : Hid (Below w.heap.size w w10) := btr B.out hb
  replace P : Hid (Has4 w10 (w.heap.size) v hi lo b) := P.out.below hb
  replace Q : Hid (Has4 w10 (w.heap.size + 1) u yi yo c) := Q.out.below hb
  replace R : Hid (Has4 w10 (w.heap.size + 1 + 1) t zi zo d) := R.out.below hb
  replace X : Hid (Has3 w10 (m5) (.bool v) (.int .u64 hi) (.int .u64 lo)) := X.out.below hb
  replace Y : Hid (Has3 w10 (m5 + 1) (.bool v) (.int .u64 lh) (.int .u64 ll)) := Y.out.below hb
  replace Z : Hid (Has3 w10 (m6) (.bool u) (.int .u64 yi) (.int .u64 yo)) := Z.out.below hb
  replace V : Hid (Has3 w10 (m6 + 1) (.bool u) (.int .u64 kh) (.int .u64 kl)) := V.out.below hb
  clear hb
  go_wp2
  go_ret
  exact ⟨rfl, B.out⟩

end Go.Proofs.YtflbcgpcgjnhgaaGreatDoor
