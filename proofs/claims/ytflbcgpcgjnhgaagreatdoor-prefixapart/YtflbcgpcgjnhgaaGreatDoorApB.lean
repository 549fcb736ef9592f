/- yardarmlaw.PrefixApart, its walks, a road each. -/
import Derived.Test.YtflbcgpcgjnhgaaGreatDoorPBb
set_option linter.unusedVariables false
set_option linter.unusedSimpArgs false
namespace Go.Proofs.YtflbcgpcgjnhgaaGreatDoor
open Go.RowKit

set_option maxHeartbeats 32000000 in
set_option maxRecDepth 100000 in
theorem apart_t_bad (v : Bool) (hi lo b : Int) (u : Bool) (yi yo c : Int) (t : Bool) (zi zo d : Int) (k k' lh ll kh kl : Int) (bb cc dd mm : Bool) (w : World) (hg : Good w)
    (h1 : Hid (∀ w : World, Calls Tryz.prog 8 #[.agg #[.bool v, .int .u64 hi, .int .u64 lo, .int .i64 b], .agg #[.bool u, .int .u64 yi, .int .u64 yo, .int .i64 c]] w fun e w' => e = .returned (.tuple #[.bool true, .int .i64 0]) ∧ Below w.heap.size w w'))
    (h2 : Hid (∀ w : World, Calls Tryz.prog 8 #[.agg #[.bool u, .int .u64 yi, .int .u64 yo, .int .i64 c], .agg #[.bool v, .int .u64 hi, .int .u64 lo, .int .i64 b]] w fun e w' => e = .returned (.tuple #[.bool bb, .int .i64 0]) ∧ Below w.heap.size w w'))
    (hbb : eqP v hi lo b u yi yo c = bb)
    (h7 : Hid (∀ w : World, Calls Tryz.prog 8 #[.agg #[.bool u, .int .u64 yi, .int .u64 yo, .int .i64 c], .agg #[.bool t, .int .u64 zi, .int .u64 zo, .int .i64 d]] w fun e w' => e = .returned (.tuple #[.bool false, .int .i64 k]) ∧ Below w.heap.size w w'))
    (h8 : Hid (∀ w : World, Calls Tryz.prog 8 #[.agg #[.bool v, .int .u64 hi, .int .u64 lo, .int .i64 b], .agg #[.bool t, .int .u64 zi, .int .u64 zo, .int .i64 d]] w fun e w' => e = .returned (.tuple #[.bool false, .int .i64 k']) ∧ Below w.heap.size w w'))
    (hk : (k != 0) = true)
    : Calls Tryz.prog 4 #[.agg #[.bool v, .int .u64 hi, .int .u64 lo, .int .i64 b], .agg #[.bool u, .int .u64 yi, .int .u64 yo, .int .i64 c], .agg #[.bool t, .int .u64 zi, .int .u64 zo, .int .i64 d]] w fun e w' => e = .returned (.bool true) ∧ Below w.heap.size w w' := by
  have hB1 : Hid (∀ w : World, Good w → Calls Tryz.prog 19 #[] w fun e w' => e = .returned (.bool true) ∧ Below w.heap.size w w') := fun w => pbegun_any w
  have hB2 : Hid (∀ w : World, Good w → Calls Tryz.prog 22 #[] w fun e w' => e = .returned (.bool true) ∧ Below w.heap.size w w') := fun w => begun_any w
  have hE := eql_pf v hi lo b u yi yo c
  rw [hbb] at hE
  have hbx : (bb != bb) = false := by cases bb <;> rfl
  clear hbb
  have HG : Hid (∀ w1 : World, Below w.heap.size w w1 → Good w1) := fun w1 h => hg.below h
  have B : Hid (Below w.heap.size w w) := Below.refl _ _
  clear hg
  replace B : Hid (Below w.heap.size w (((w.alloc (.cells #[.bool v, .int .u64 hi, .int .u64 lo, .int .i64 b] 26)).alloc (.cells #[.bool u, .int .u64 yi, .int .u64 yo, .int .i64 c] 26)).alloc (.cells #[.bool t, .int .u64 zi, .int .u64 zo, .int .i64 d] 26))) := bal (bal (bal (B.out) _) _) _
  have P : Hid (Has4 (((w.alloc (.cells #[.bool v, .int .u64 hi, .int .u64 lo, .int .i64 b] 26)).alloc (.cells #[.bool u, .int .u64 yi, .int .u64 yo, .int .i64 c] 26)).alloc (.cells #[.bool t, .int .u64 zi, .int .u64 zo, .int .i64 d] 26)) (w.heap.size) v hi lo b) := ((Has4.new w v hi lo b 26).alloc (.cells #[.bool u, .int .u64 yi, .int .u64 yo, .int .i64 c] 26)).alloc (.cells #[.bool t, .int .u64 zi, .int .u64 zo, .int .i64 d] 26)
  have Q : Hid (Has4 (((w.alloc (.cells #[.bool v, .int .u64 hi, .int .u64 lo, .int .i64 b] 26)).alloc (.cells #[.bool u, .int .u64 yi, .int .u64 yo, .int .i64 c] 26)).alloc (.cells #[.bool t, .int .u64 zi, .int .u64 zo, .int .i64 d] 26)) (w.heap.size + 1) u yi yo c) := by
    have := (Has4.new (w.alloc (.cells #[.bool v, .int .u64 hi, .int .u64 lo, .int .i64 b] 26)) u yi yo c 26).alloc (.cells #[.bool t, .int .u64 zi, .int .u64 zo, .int .i64 d] 26)
    rw [show (w.alloc (.cells #[.bool v, .int .u64 hi, .int .u64 lo, .int .i64 b] 26)).heap.size = w.heap.size + 1 by simp] at this
    exact this
  have R : Hid (Has4 (((w.alloc (.cells #[.bool v, .int .u64 hi, .int .u64 lo, .int .i64 b] 26)).alloc (.cells #[.bool u, .int .u64 yi, .int .u64 yo, .int .i64 c] 26)).alloc (.cells #[.bool t, .int .u64 zi, .int .u64 zo, .int .i64 d] 26)) (w.heap.size + 1 + 1) t zi zo d) := by
    have := Has4.new ((w.alloc (.cells #[.bool v, .int .u64 hi, .int .u64 lo, .int .i64 b] 26)).alloc (.cells #[.bool u, .int .u64 yi, .int .u64 yo, .int .i64 c] 26)) t zi zo d 26
    rw [show ((w.alloc (.cells #[.bool v, .int .u64 hi, .int .u64 lo, .int .i64 b] 26)).alloc (.cells #[.bool u, .int .u64 yi, .int .u64 yo, .int .i64 c] 26)).heap.size = w.heap.size + 1 + 1 by simp] at this
    exact this
  go_enter Tryz.func4, Tryz.ntmps4
  obtain ⟨P0, P1, P2, P3, P4⟩ := P.out
  obtain ⟨Q0, Q1, Q2, Q3, Q4⟩ := Q.out
  go_wp2_with fail
  generalize (((w.alloc (.cells #[.bool v, .int .u64 hi, .int .u64 lo, .int .i64 b] 26)).alloc (.cells #[.bool u, .int .u64 yi, .int .u64 yo, .int .i64 c] 26)).alloc (.cells #[.bool t, .int .u64 zi, .int .u64 zo, .int .i64 d] 26)) = W0 at *
  refine (h1.out _).mono ?_
  clear P0 P1 P2 P3 P4 Q0 Q1 Q2 Q3 Q4 
  rintro e w1 ⟨rfl, hb⟩
  replace B : Hid (Below w.heap.size w w1) := btr B.out hb
  replace P : Hid (Has4 w1 (w.heap.size) v hi lo b) := P.out.below hb
  replace Q : Hid (Has4 w1 (w.heap.size + 1) u yi yo c) := Q.out.below hb
  replace R : Hid (Has4 w1 (w.heap.size + 1 + 1) t zi zo d) := R.out.below hb
  clear hb
  obtain ⟨P0, P1, P2, P3, P4⟩ := P.out
  obtain ⟨Q0, Q1, Q2, Q3, Q4⟩ := Q.out
  go_wp2_with fail
  refine (h2.out _).mono ?_
  clear P0 P1 P2 P3 P4 Q0 Q1 Q2 Q3 Q4 
  rintro e w2 ⟨rfl, hb⟩
  replace B : Hid (Below w.heap.size w w2) := btr B.out hb
  replace P : Hid (Has4 w2 (w.heap.size) v hi lo b) := P.out.below hb
  replace Q : Hid (Has4 w2 (w.heap.size + 1) u yi yo c) := Q.out.below hb
  replace R : Hid (Has4 w2 (w.heap.size + 1 + 1) t zi zo d) := R.out.below hb
  clear hb
  go_wp2_with fail
  refine (hB1.out _ (HG.out _ B.out)).mono ?_
  rintro e w3 ⟨rfl, hb⟩
  replace B : Hid (Below w.heap.size w w3) := btr B.out hb
  replace P : Hid (Has4 w3 (w.heap.size) v hi lo b) := P.out.below hb
  replace Q : Hid (Has4 w3 (w.heap.size + 1) u yi yo c) := Q.out.below hb
  replace R : Hid (Has4 w3 (w.heap.size + 1 + 1) t zi zo d) := R.out.below hb
  clear hb
  go_wp2_with fail
  refine (hB2.out _ (HG.out _ B.out)).mono ?_
  rintro e w4 ⟨rfl, hb⟩
  replace B : Hid (Below w.heap.size w w4) := btr B.out hb
  replace P : Hid (Has4 w4 (w.heap.size) v hi lo b) := P.out.below hb
  replace Q : Hid (Has4 w4 (w.heap.size + 1) u yi yo c) := Q.out.below hb
  replace R : Hid (Has4 w4 (w.heap.size + 1 + 1) t zi zo d) := R.out.below hb
  clear hb
  obtain ⟨P0, P1, P2, P3, P4⟩ := P.out
  obtain ⟨Q0, Q1, Q2, Q3, Q4⟩ := Q.out
  obtain ⟨R0, R1, R2, R3, R4⟩ := R.out
  go_wp2_with fail
  refine (h7.out _).mono ?_
  clear P0 P1 P2 P3 P4 Q0 Q1 Q2 Q3 Q4 R0 R1 R2 R3 R4 
  rintro e w5 ⟨rfl, hb⟩
  replace B : Hid (Below w.heap.size w w5) := btr B.out hb
  replace P : Hid (Has4 w5 (w.heap.size) v hi lo b) := P.out.below hb
  replace Q : Hid (Has4 w5 (w.heap.size + 1) u yi yo c) := Q.out.below hb
  replace R : Hid (Has4 w5 (w.heap.size + 1 + 1) t zi zo d) := R.out.below hb
  clear hb
  obtain ⟨P0, P1, P2, P3, P4⟩ := P.out
  obtain ⟨Q0, Q1, Q2, Q3, Q4⟩ := Q.out
  obtain ⟨R0, R1, R2, R3, R4⟩ := R.out
  go_wp2_with fail
  refine (h8.out _).mono ?_
  clear P0 P1 P2 P3 P4 Q0 Q1 Q2 Q3 Q4 R0 R1 R2 R3 R4 
  rintro e w6 ⟨rfl, hb⟩
  replace B : Hid (Below w.heap.size w w6) := btr B.out hb
  replace P : Hid (Has4 w6 (w.heap.size) v hi lo b) := P.out.below hb
  replace Q : Hid (Has4 w6 (w.heap.size + 1) u yi yo c) := Q.out.below hb
  replace R : Hid (Has4 w6 (w.heap.size + 1 + 1) t zi zo d) := R.out.below hb
  clear hb
  go_wp2
  go_ret
  exact ⟨rfl, B.out⟩

set_option maxHeartbeats 32000000 in
set_option maxRecDepth 100000 in
theorem apart_t_cf (v : Bool) (hi lo b : Int) (u : Bool) (yi yo c : Int) (t : Bool) (zi zo d : Int) (k k' lh ll kh kl : Int) (bb cc dd mm : Bool) (w : World) (hg : Good w)
    (h1 : Hid (∀ w : World, Calls Tryz.prog 8 #[.agg #[.bool v, .int .u64 hi, .int .u64 lo, .int .i64 b], .agg #[.bool u, .int .u64 yi, .int .u64 yo, .int .i64 c]] w fun e w' => e = .returned (.tuple #[.bool true, .int .i64 0]) ∧ Below w.heap.size w w'))
    (h2 : Hid (∀ w : World, Calls Tryz.prog 8 #[.agg #[.bool u, .int .u64 yi, .int .u64 yo, .int .i64 c], .agg #[.bool v, .int .u64 hi, .int .u64 lo, .int .i64 b]] w fun e w' => e = .returned (.tuple #[.bool bb, .int .i64 0]) ∧ Below w.heap.size w w'))
    (hbb : eqP v hi lo b u yi yo c = bb)
    (h7 : Hid (∀ w : World, Calls Tryz.prog 8 #[.agg #[.bool u, .int .u64 yi, .int .u64 yo, .int .i64 c], .agg #[.bool t, .int .u64 zi, .int .u64 zo, .int .i64 d]] w fun e w' => e = .returned (.tuple #[.bool false, .int .i64 0]) ∧ Below w.heap.size w w'))
    (h8 : Hid (∀ w : World, Calls Tryz.prog 8 #[.agg #[.bool v, .int .u64 hi, .int .u64 lo, .int .i64 b], .agg #[.bool t, .int .u64 zi, .int .u64 zo, .int .i64 d]] w fun e w' => e = .returned (.tuple #[.bool dd, .int .i64 0]) ∧ Below w.heap.size w w'))
    : Calls Tryz.prog 4 #[.agg #[.bool v, .int .u64 hi, .int .u64 lo, .int .i64 b], .agg #[.bool u, .int .u64 yi, .int .u64 yo, .int .i64 c], .agg #[.bool t, .int .u64 zi, .int .u64 zo, .int .i64 d]] w fun e w' => e = .returned (.bool true) ∧ Below w.heap.size w w' := by
  have hB1 : Hid (∀ w : World, Good w → Calls Tryz.prog 19 #[] w fun e w' => e = .returned (.bool true) ∧ Below w.heap.size w w') := fun w => pbegun_any w
  have hB2 : Hid (∀ w : World, Good w → Calls Tryz.prog 22 #[] w fun e w' => e = .returned (.bool true) ∧ Below w.heap.size w w') := fun w => begun_any w
  have hE := eql_pf v hi lo b u yi yo c
  rw [hbb] at hE
  have hbx : (bb != bb) = false := by cases bb <;> rfl
  clear hbb
  have HG : Hid (∀ w1 : World, Below w.heap.size w w1 → Good w1) := fun w1 h => hg.below h
  have B : Hid (Below w.heap.size w w) := Below.refl _ _
  clear hg
  replace B : Hid (Below w.heap.size w (((w.alloc (.cells #[.bool v, .int .u64 hi, .int .u64 lo, .int .i64 b] 26)).alloc (.cells #[.bool u, .int .u64 yi, .int .u64 yo, .int .i64 c] 26)).alloc (.cells #[.bool t, .int .u64 zi, .int .u64 zo, .int .i64 d] 26))) := bal (bal (bal (B.out) _) _) _
  have P : Hid (Has4 (((w.alloc (.cells #[.bool v, .int .u64 hi, .int .u64 lo, .int .i64 b] 26)).alloc (.cells #[.bool u, .int .u64 yi, .int .u64 yo, .int .i64 c] 26)).alloc (.cells #[.bool t, .int .u64 zi, .int .u64 zo, .int .i64 d] 26)) (w.heap.size) v hi lo b) := ((Has4.new w v hi lo b 26).alloc (.cells #[.bool u, .int .u64 yi, .int .u64 yo, .int .i64 c] 26)).alloc (.cells #[.bool t, .int .u64 zi, .int .u64 zo, .int .i64 d] 26)
  have Q : Hid (Has4 (((w.alloc (.cells #[.bool v, .int .u64 hi, .int .u64 lo, .int .i64 b] 26)).alloc (.cells #[.bool u, .int .u64 yi, .int .u64 yo, .int .i64 c] 26)).alloc (.cells #[.bool t, .int .u64 zi, .int .u64 zo, .int .i64 d] 26)) (w.heap.size + 1) u yi yo c) := by
    have := (Has4.new (w.alloc (.cells #[.bool v, .int .u64 hi, .int .u64 lo, .int .i64 b] 26)) u yi yo c 26).alloc (.cells #[.bool t, .int .u64 zi, .int .u64 zo, .int .i64 d] 26)
    rw [show (w.alloc (.cells #[.bool v, .int .u64 hi, .int .u64 lo, .int .i64 b] 26)).heap.size = w.heap.size + 1 by simp] at this
    exact this
  have R : Hid (Has4 (((w.alloc (.cells #[.bool v, .int .u64 hi, .int .u64 lo, .int .i64 b] 26)).alloc (.cells #[.bool u, .int .u64 yi, .int .u64 yo, .int .i64 c] 26)).alloc (.cells #[.bool t, .int .u64 zi, .int .u64 zo, .int .i64 d] 26)) (w.heap.size + 1 + 1) t zi zo d) := by
    have := Has4.new ((w.alloc (.cells #[.bool v, .int .u64 hi, .int .u64 lo, .int .i64 b] 26)).alloc (.cells #[.bool u, .int .u64 yi, .int .u64 yo, .int .i64 c] 26)) t zi zo d 26
    rw [show ((w.alloc (.cells #[.bool v, .int .u64 hi, .int .u64 lo, .int .i64 b] 26)).alloc (.cells #[.bool u, .int .u64 yi, .int .u64 yo, .int .i64 c] 26)).heap.size = w.heap.size + 1 + 1 by simp] at this
    exact this
  go_enter Tryz.func4, Tryz.ntmps4
  obtain ⟨P0, P1, P2, P3, P4⟩ := P.out
  obtain ⟨Q0, Q1, Q2, Q3, Q4⟩ := Q.out
  go_wp2_with fail
  generalize (((w.alloc (.cells #[.bool v, .int .u64 hi, .int .u64 lo, .int .i64 b] 26)).alloc (.cells #[.bool u, .int .u64 yi, .int .u64 yo, .int .i64 c] 26)).alloc (.cells #[.bool t, .int .u64 zi, .int .u64 zo, .int .i64 d] 26)) = W0 at *
  refine (h1.out _).mono ?_
  clear P0 P1 P2 P3 P4 Q0 Q1 Q2 Q3 Q4 
  rintro e w1 ⟨rfl, hb⟩
  replace B : Hid (Below w.heap.size w w1) := btr B.out hb
  replace P : Hid (Has4 w1 (w.heap.size) v hi lo b) := P.out.below hb
  replace Q : Hid (Has4 w1 (w.heap.size + 1) u yi yo c) := Q.out.below hb
  replace R : Hid (Has4 w1 (w.heap.size + 1 + 1) t zi zo d) := R.out.below hb
  clear hb
  obtain ⟨P0, P1, P2, P3, P4⟩ := P.out
  obtain ⟨Q0, Q1, Q2, Q3, Q4⟩ := Q.out
  go_wp2_with fail
  refine (h2.out _).mono ?_
  clear P0 P1 P2 P3 P4 Q0 Q1 Q2 Q3 Q4 
  rintro e w2 ⟨rfl, hb⟩
  replace B : Hid (Below w.heap.size w w2) := btr B.out hb
  replace P : Hid (Has4 w2 (w.heap.size) v hi lo b) := P.out.below hb
  replace Q : Hid (Has4 w2 (w.heap.size + 1) u yi yo c) := Q.out.below hb
  replace R : Hid (Has4 w2 (w.heap.size + 1 + 1) t zi zo d) := R.out.below hb
  clear hb
  go_wp2_with fail
  refine (hB1.out _ (HG.out _ B.out)).mono ?_
  rintro e w3 ⟨rfl, hb⟩
  replace B : Hid (Below w.heap.size w w3) := btr B.out hb
  replace P : Hid (Has4 w3 (w.heap.size) v hi lo b) := P.out.below hb
  replace Q : Hid (Has4 w3 (w.heap.size + 1) u yi yo c) := Q.out.below hb
  replace R : Hid (Has4 w3 (w.heap.size + 1 + 1) t zi zo d) := R.out.below hb
  clear hb
  go_wp2_with fail
  refine (hB2.out _ (HG.out _ B.out)).mono ?_
  rintro e w4 ⟨rfl, hb⟩
  replace B : Hid (Below w.heap.size w w4) := btr B.out hb
  replace P : Hid (Has4 w4 (w.heap.size) v hi lo b) := P.out.below hb
  replace Q : Hid (Has4 w4 (w.heap.size + 1) u yi yo c) := Q.out.below hb
  replace R : Hid (Has4 w4 (w.heap.size + 1 + 1) t zi zo d) := R.out.below hb
  clear hb
  obtain ⟨P0, P1, P2, P3, P4⟩ := P.out
  obtain ⟨Q0, Q1, Q2, Q3, Q4⟩ := Q.out
  obtain ⟨R0, R1, R2, R3, R4⟩ := R.out
  go_wp2_with fail
  refine (h7.out _).mono ?_
  clear P0 P1 P2 P3 P4 Q0 Q1 Q2 Q3 Q4 R0 R1 R2 R3 R4 
  rintro e w5 ⟨rfl, hb⟩
  replace B : Hid (Below w.heap.size w w5) := btr B.out hb
  replace P : Hid (Has4 w5 (w.heap.size) v hi lo b) := P.out.below hb
  replace Q : Hid (Has4 w5 (w.heap.size + 1) u yi yo c) := Q.out.below hb
  replace R : Hid (Has4 w5 (w.heap.size + 1 + 1) t zi zo d) := R.out.below hb
  clear hb
  obtain ⟨P0, P1, P2, P3, P4⟩ := P.out
  obtain ⟨Q0, Q1, Q2, Q3, Q4⟩ := Q.out
  obtain ⟨R0, R1, R2, R3, R4⟩ := R.out
  go_wp2_with fail
  refine (h8.out _).mono ?_
  clear P0 P1 P2 P3 P4 Q0 Q1 Q2 Q3 Q4 R0 R1 R2 R3 R4 
  rintro e w6 ⟨rfl, hb⟩
  replace B : Hid (Below w.heap.size w w6) := btr B.out hb
  replace P : Hid (Has4 w6 (w.heap.size) v hi lo b) := P.out.below hb
  replace Q : Hid (Has4 w6 (w.heap.size + 1) u yi yo c) := Q.out.below hb
  replace R : Hid (Has4 w6 (w.heap.size + 1 + 1) t zi zo d) := R.out.below hb
  clear hb
  go_wp2
  go_ret
  exact ⟨rfl, B.out⟩

set_option maxHeartbeats 32000000 in
set_option maxRecDepth 100000 in
theorem apart_t_cd (v : Bool) (hi lo b : Int) (u : Bool) (yi yo c : Int) (t : Bool) (zi zo d : Int) (k k' lh ll kh kl : Int) (bb cc dd mm : Bool) (w : World) (hg : Good w)
    (h1 : Hid (∀ w : World, Calls Tryz.prog 8 #[.agg #[.bool v, .int .u64 hi, .int .u64 lo, .int .i64 b], .agg #[.bool u, .int .u64 yi, .int .u64 yo, .int .i64 c]] w fun e w' => e = .returned (.tuple #[.bool true, .int .i64 0]) ∧ Below w.heap.size w w'))
    (h2 : Hid (∀ w : World, Calls Tryz.prog 8 #[.agg #[.bool u, .int .u64 yi, .int .u64 yo, .int .i64 c], .agg #[.bool v, .int .u64 hi, .int .u64 lo, .int .i64 b]] w fun e w' => e = .returned (.tuple #[.bool bb, .int .i64 0]) ∧ Below w.heap.size w w'))
    (hbb : eqP v hi lo b u yi yo c = bb)
    (h7 : Hid (∀ w : World, Calls Tryz.prog 8 #[.agg #[.bool u, .int .u64 yi, .int .u64 yo, .int .i64 c], .agg #[.bool t, .int .u64 zi, .int .u64 zo, .int .i64 d]] w fun e w' => e = .returned (.tuple #[.bool true, .int .i64 0]) ∧ Below w.heap.size w w'))
    (h8 : Hid (∀ w : World, Calls Tryz.prog 8 #[.agg #[.bool v, .int .u64 hi, .int .u64 lo, .int .i64 b], .agg #[.bool t, .int .u64 zi, .int .u64 zo, .int .i64 d]] w fun e w' => e = .returned (.tuple #[.bool true, .int .i64 0]) ∧ Below w.heap.size w w'))
    : Calls Tryz.prog 4 #[.agg #[.bool v, .int .u64 hi, .int .u64 lo, .int .i64 b], .agg #[.bool u, .int .u64 yi, .int .u64 yo, .int .i64 c], .agg #[.bool t, .int .u64 zi, .int .u64 zo, .int .i64 d]] w fun e w' => e = .returned (.bool true) ∧ Below w.heap.size w w' := by
  have hB1 : Hid (∀ w : World, Good w → Calls Tryz.prog 19 #[] w fun e w' => e = .returned (.bool true) ∧ Below w.heap.size w w') := fun w => pbegun_any w
  have hB2 : Hid (∀ w : World, Good w → Calls Tryz.prog 22 #[] w fun e w' => e = .returned (.bool true) ∧ Below w.heap.size w w') := fun w => begun_any w
  have hE := eql_pf v hi lo b u yi yo c
  rw [hbb] at hE
  have hbx : (bb != bb) = false := by cases bb <;> rfl
  clear hbb
  have HG : Hid (∀ w1 : World, Below w.heap.size w w1 → Good w1) := fun w1 h => hg.below h
  have B : Hid (Below w.heap.size w w) := Below.refl _ _
  clear hg
  replace B : Hid (Below w.heap.size w (((w.alloc (.cells #[.bool v, .int .u64 hi, .int .u64 lo, .int .i64 b] 26)).alloc (.cells #[.bool u, .int .u64 yi, .int .u64 yo, .int .i64 c] 26)).alloc (.cells #[.bool t, .int .u64 zi, .int .u64 zo, .int .i64 d] 26))) := bal (bal (bal (B.out) _) _) _
  have P : Hid (Has4 (((w.alloc (.cells #[.bool v, .int .u64 hi, .int .u64 lo, .int .i64 b] 26)).alloc (.cells #[.bool u, .int .u64 yi, .int .u64 yo, .int .i64 c] 26)).alloc (.cells #[.bool t, .int .u64 zi, .int .u64 zo, .int .i64 d] 26)) (w.heap.size) v hi lo b) := ((Has4.new w v hi lo b 26).alloc (.cells #[.bool u, .int .u64 yi, .int .u64 yo, .int .i64 c] 26)).alloc (.cells #[.bool t, .int .u64 zi, .int .u64 zo, .int .i64 d] 26)
  have Q : Hid (Has4 (((w.alloc (.cells #[.bool v, .int .u64 hi, .int .u64 lo, .int .i64 b] 26)).alloc (.cells #[.bool u, .int .u64 yi, .int .u64 yo, .int .i64 c] 26)).alloc (.cells #[.bool t, .int .u64 zi, .int .u64 zo, .int .i64 d] 26)) (w.heap.size + 1) u yi yo c) := by
    have := (Has4.new (w.alloc (.cells #[.bool v, .int .u64 hi, .int .u64 lo, .int .i64 b] 26)) u yi yo c 26).alloc (.cells #[.bool t, .int .u64 zi, .int .u64 zo, .int .i64 d] 26)
    rw [show (w.alloc (.cells #[.bool v, .int .u64 hi, .int .u64 lo, .int .i64 b] 26)).heap.size = w.heap.size + 1 by simp] at this
    exact this
  have R : Hid (Has4 (((w.alloc (.cells #[.bool v, .int .u64 hi, .int .u64 lo, .int .i64 b] 26)).alloc (.cells #[.bool u, .int .u64 yi, .int .u64 yo, .int .i64 c] 26)).alloc (.cells #[.bool t, .int .u64 zi, .int .u64 zo, .int .i64 d] 26)) (w.heap.size + 1 + 1) t zi zo d) := by
    have := Has4.new ((w.alloc (.cells #[.bool v, .int .u64 hi, .int .u64 lo, .int .i64 b] 26)).alloc (.cells #[.bool u, .int .u64 yi, .int .u64 yo, .int .i64 c] 26)) t zi zo d 26
    rw [show ((w.alloc (.cells #[.bool v, .int .u64 hi, .int .u64 lo, .int .i64 b] 26)).alloc (.cells #[.bool u, .int .u64 yi, .int .u64 yo, .int .i64 c] 26)).heap.size = w.heap.size + 1 + 1 by simp] at this
    exact this
  go_enter Tryz.func4, Tryz.ntmps4
  obtain ⟨P0, P1, P2, P3, P4⟩ := P.out
  obtain ⟨Q0, Q1, Q2, Q3, Q4⟩ := Q.out
  go_wp2_with fail
  generalize (((w.alloc (.cells #[.bool v, .int .u64 hi, .int .u64 lo, .int .i64 b] 26)).alloc (.cells #[.bool u, .int .u64 yi, .int .u64 yo, .int .i64 c] 26)).alloc (.cells #[.bool t, .int .u64 zi, .int .u64 zo, .int .i64 d] 26)) = W0 at *
  refine (h1.out _).mono ?_
  clear P0 P1 P2 P3 P4 Q0 Q1 Q2 Q3 Q4 
  rintro e w1 ⟨rfl, hb⟩
  replace B : Hid (Below w.heap.size w w1) := btr B.out hb
  replace P : Hid (Has4 w1 (w.heap.size) v hi lo b) := P.out.below hb
  replace Q : Hid (Has4 w1 (w.heap.size + 1) u yi yo c) := Q.out.below hb
  replace R : Hid (Has4 w1 (w.heap.size + 1 + 1) t zi zo d) := R.out.below hb
  clear hb
  obtain ⟨P0, P1, P2, P3, P4⟩ := P.out
  obtain ⟨Q0, Q1, Q2, Q3, Q4⟩ := Q.out
  go_wp2_with fail
  refine (h2.out _).mono ?_
  clear P0 P1 P2 P3 P4 Q0 Q1 Q2 Q3 Q4 
  rintro e w2 ⟨rfl, hb⟩
  replace B : Hid (Below w.heap.size w w2) := btr B.out hb
  replace P : Hid (Has4 w2 (w.heap.size) v hi lo b) := P.out.below hb
  replace Q : Hid (Has4 w2 (w.heap.size + 1) u yi yo c) := Q.out.below hb
  replace R : Hid (Has4 w2 (w.heap.size + 1 + 1) t zi zo d) := R.out.below hb
  clear hb
  go_wp2_with fail
  refine (hB1.out _ (HG.out _ B.out)).mono ?_
  rintro e w3 ⟨rfl, hb⟩
  replace B : Hid (Below w.heap.size w w3) := btr B.out hb
  replace P : Hid (Has4 w3 (w.heap.size) v hi lo b) := P.out.below hb
  replace Q : Hid (Has4 w3 (w.heap.size + 1) u yi yo c) := Q.out.below hb
  replace R : Hid (Has4 w3 (w.heap.size + 1 + 1) t zi zo d) := R.out.below hb
  clear hb
  go_wp2_with fail
  refine (hB2.out _ (HG.out _ B.out)).mono ?_
  rintro e w4 ⟨rfl, hb⟩
  replace B : Hid (Below w.heap.size w w4) := btr B.out hb
  replace P : Hid (Has4 w4 (w.heap.size) v hi lo b) := P.out.below hb
  replace Q : Hid (Has4 w4 (w.heap.size + 1) u yi yo c) := Q.out.below hb
  replace R : Hid (Has4 w4 (w.heap.size + 1 + 1) t zi zo d) := R.out.below hb
  clear hb
  obtain ⟨P0, P1, P2, P3, P4⟩ := P.out
  obtain ⟨Q0, Q1, Q2, Q3, Q4⟩ := Q.out
  obtain ⟨R0, R1, R2, R3, R4⟩ := R.out
  go_wp2_with fail
  refine (h7.out _).mono ?_
  clear P0 P1 P2 P3 P4 Q0 Q1 Q2 Q3 Q4 R0 R1 R2 R3 R4 
  rintro e w5 ⟨rfl, hb⟩
  replace B : Hid (Below w.heap.size w w5) := btr B.out hb
  replace P : Hid (Has4 w5 (w.heap.size) v hi lo b) := P.out.below hb
  replace Q : Hid (Has4 w5 (w.heap.size + 1) u yi yo c) := Q.out.below hb
  replace R : Hid (Has4 w5 (w.heap.size + 1 + 1) t zi zo d) := R.out.below hb
  clear hb
  obtain ⟨P0, P1, P2, P3, P4⟩ := P.out
  obtain ⟨Q0, Q1, Q2, Q3, Q4⟩ := Q.out
  obtain ⟨R0, R1, R2, R3, R4⟩ := R.out
  go_wp2_with fail
  refine (h8.out _).mono ?_
  clear P0 P1 P2 P3 P4 Q0 Q1 Q2 Q3 Q4 R0 R1 R2 R3 R4 
  rintro e w6 ⟨rfl, hb⟩
  replace B : Hid (Below w.heap.size w w6) := btr B.out hb
  replace P : Hid (Has4 w6 (w.heap.size) v hi lo b) := P.out.below hb
  replace Q : Hid (Has4 w6 (w.heap.size + 1) u yi yo c) := Q.out.below hb
  replace R : Hid (Has4 w6 (w.heap.size + 1 + 1) t zi zo d) := R.out.below hb
  clear hb
  go_wp2
  go_ret
  exact ⟨rfl, B.out⟩

end Go.Proofs.YtflbcgpcgjnhgaaGreatDoor
