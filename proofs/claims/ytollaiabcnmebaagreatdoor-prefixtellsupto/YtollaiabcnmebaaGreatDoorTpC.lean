/- yardarmlaw.PrefixTells, its walks, a road each. -/
import Derived.Test.YtollaiabcnmebaaGreatDoorRmC
set_option linter.unusedVariables false
set_option linter.unusedSimpArgs false
namespace Go.Proofs.YtollaiabcnmebaaGreatDoor
open Go.RowKit

set_option maxHeartbeats 32000000 in
set_option maxRecDepth 100000 in
theorem ptells_n1 (v : Bool) (hi lo b : Int) (u : Bool) (yi yo c : Int) (s T BT : ByteArray) (xv : Bool) (xh xl xb xe k lh ll gh gl : Int) (zv : Bool) (zh zl zb : Int) (hs : Bool) (w : World) (hg : Good w)
    (h1 : Hid (∀ w : World, Good w → Calls Tryz.prog 4 #[.agg #[.bool v, .int .u64 hi, .int .u64 lo, .int .i64 b]] w fun e w' => e = .returned (.tuple #[.string T, .int .i64 0]) ∧ Below w.heap.size w w'))
    (h2 : Hid (∀ w : World, Good w → Calls Tryz.prog 5 #[.string s] w fun e w' => e = .returned (.tuple #[.agg #[.bool xv, .int .u64 xh, .int .u64 xl, .int .i64 xb], .int .i64 xe]) ∧ Below w.heap.size w w'))
    (h3 : Hid (∀ w : World, Calls Tryz.prog 6 #[.agg #[.bool v, .int .u64 hi, .int .u64 lo, .int .i64 b], .agg #[.bool u, .int .u64 yi, .int .u64 yo, .int .i64 c]] w fun e w' => e = .returned (.tuple #[.bool hs, .int .i64 0]) ∧ Below w.heap.size w w'))
    (h4 : Hid (∀ w : World, Calls Tryz.prog 7 #[.agg #[.bool v, .int .u64 hi, .int .u64 lo, .int .i64 b]] w fun e w' => e = .returned (.tuple #[.agg #[.bool v, .int .u64 hi, .int .u64 lo], .agg #[.bool v, .int .u64 lh, .int .u64 ll], .int .i64 0]) ∧ Below w.heap.size w w'))
    (h5 : Hid (∀ w : World, Calls Tryz.prog 8 #[.agg #[.bool v, .int .u64 hi, .int .u64 lo, .int .i64 b]] w fun e w' => e = .returned (.tuple #[.agg #[.bool v, .int .u64 hi, .int .u64 lo, .int .i64 (b + 1)], .agg #[.bool v, .int .u64 gh, .int .u64 gl, .int .i64 (b + 1)], .int .i64 0]) ∧ Below w.heap.size w w'))
    (h6 : Hid (∀ w : World, Calls Tryz.prog 9 #[.agg #[.bool v, .int .u64 hi, .int .u64 lo, .int .i64 b], .agg #[.bool u, .int .u64 yi, .int .u64 yo, .int .i64 c]] w fun e w' => e = .returned (.tuple #[.agg #[.bool v, .int .u64 hi, .int .u64 lo, .int .i64 (b - 1)], .int .i64 0]) ∧ Below w.heap.size w w'))
    (h7 : Hid (∀ w : World, Calls Tryz.prog 10 #[.agg #[.bool v, .int .u64 hi, .int .u64 lo, .int .i64 b]] w fun e w' => e = .returned (.int .i64 0) ∧ Below w.heap.size w w'))
    (h8 : Hid (∀ w : World, Calls Tryz.prog 10 #[.agg #[.bool u, .int .u64 yi, .int .u64 yo, .int .i64 c]] w fun e w' => e = .returned (.int .i64 0) ∧ Below w.heap.size w w'))
    (h9 : Hid (∀ w : World, Calls Tryz.prog 11 #[.agg #[.bool v, .int .u64 hi, .int .u64 lo, .int .i64 b]] w fun e w' => e = .returned (.string T) ∧ Below w.heap.size w w'))
    (h10 : Hid (∀ w : World, Calls Tryz.prog 12 #[.agg #[.bool v, .int .u64 hi, .int .u64 lo, .int .i64 b]] w fun e w' => e = .returned (.agg #[.bool v, .int .u64 lh, .int .u64 ll]) ∧ Below w.heap.size w w'))
    (h11 : Hid (∀ w : World, Calls Tryz.prog 13 #[.agg #[.bool v, .int .u64 hi, .int .u64 lo]] w fun e w' => e = .returned (.string BT) ∧ Below w.heap.size w w'))
    (h12 : Hid (∀ w : World, Calls Tryz.prog 14 #[.agg #[.bool v, .int .u64 hi, .int .u64 lo, .int .i64 b]] w fun e w' => e = .returned (.tuple #[.agg #[.bool v, .int .u64 hi, .int .u64 lo, .int .i64 (b + 1)], .agg #[.bool v, .int .u64 gh, .int .u64 gl, .int .i64 (b + 1)]]) ∧ Below w.heap.size w w'))
    (h13 : Hid (∀ w : World, Calls Tryz.prog 15 #[.agg #[.bool v, .int .u64 hi, .int .u64 lo, .int .i64 b], .agg #[.bool u, .int .u64 yi, .int .u64 yo, .int .i64 c]] w fun e w' => e = .returned (.tuple #[.agg #[.bool v, .int .u64 hi, .int .u64 lo, .int .i64 (b - 1)], .bool true]) ∧ Below w.heap.size w w'))
    (h16 : Hid (∀ w : World, Calls Tryz.prog 19 #[.agg #[.bool v, .int .u64 hi, .int .u64 lo, .int .i64 b], .agg #[.bool u, .int .u64 yi, .int .u64 yo, .int .i64 c]] w fun e w' => e = .returned (.bool hs) ∧ Below w.heap.size w w'))
    (h14 : Hid (∀ w : World, Calls Tryz.prog 16 #[.string s] w fun e w' => e = .returned (.tuple #[.agg #[.bool xv, .int .u64 xh, .int .u64 xl, .int .i64 xb], .int .i64 xe]) ∧ Below w.heap.size w w'))
    (h15 : Hid (∀ w : World, Calls Tryz.prog 18 #[.agg #[.bool v, .int .u64 hi, .int .u64 lo, .int .i64 b]] w fun e w' => e = .returned (.int .i64 0) ∧ Below w.heap.size w w'))
    (hbt : (b == (BT.size : Int)) = false) (hb0 : 0 ≤ b) (hb1 : b ≤ 128)
    : Calls Tryz.prog 3 #[.agg #[.bool v, .int .u64 hi, .int .u64 lo, .int .i64 b], .agg #[.bool u, .int .u64 yi, .int .u64 yo, .int .i64 c], .string s] w fun e w' => e = .returned (.bool true) ∧ Below w.heap.size w w' := by
  have hB : Hid (∀ w : World, Good w → Calls Tryz.prog 17 #[] w fun e w' => e = .returned (.bool true) ∧ Below w.heap.size w w') := fun w => pbegun_any w
  have HG : Hid (∀ w1 : World, Below w.heap.size w w1 → Good w1) := fun w1 h => hg.below h
  have B : Hid (Below w.heap.size w w) := Below.refl _ _
  clear hg
  replace B : Hid (Below w.heap.size w ((w.alloc (.cells #[.bool v, .int .u64 hi, .int .u64 lo, .int .i64 b] 26)).alloc (.cells #[.bool u, .int .u64 yi, .int .u64 yo, .int .i64 c] 26))) := bal (bal (B.out) _) _
  have PP : Hid (HasG ((w.alloc (.cells #[.bool v, .int .u64 hi, .int .u64 lo, .int .i64 b] 26)).alloc (.cells #[.bool u, .int .u64 yi, .int .u64 yo, .int .i64 c] 26)) (w.heap.size) v hi lo b) := (HasG.new w v hi lo b 26).alloc (.cells #[.bool u, .int .u64 yi, .int .u64 yo, .int .i64 c] 26)
  have PQ : Hid (HasG ((w.alloc (.cells #[.bool v, .int .u64 hi, .int .u64 lo, .int .i64 b] 26)).alloc (.cells #[.bool u, .int .u64 yi, .int .u64 yo, .int .i64 c] 26)) (w.heap.size + 1) u yi yo c) := by
    have := HasG.new (w.alloc (.cells #[.bool v, .int .u64 hi, .int .u64 lo, .int .i64 b] 26)) u yi yo c 26
    rw [show (w.alloc (.cells #[.bool v, .int .u64 hi, .int .u64 lo, .int .i64 b] 26)).heap.size = w.heap.size + 1 by simp] at this
    exact this
  go_enter Tryz.func3, Tryz.ntmps3
  obtain ⟨⟨PP0, PP1, PP2, PP3, PP4⟩, _⟩ := PP.out
  go_wp2_with fail
  generalize ((w.alloc (.cells #[.bool v, .int .u64 hi, .int .u64 lo, .int .i64 b] 26)).alloc (.cells #[.bool u, .int .u64 yi, .int .u64 yo, .int .i64 c] 26)) = W0 at *
  refine (h1.out _ (HG.out _ B.out)).mono ?_
  clear PP0 PP1 PP2 PP3 PP4
  rintro e w1 ⟨rfl, hb⟩
  replace PP : Hid (HasG w1 (w.heap.size) v hi lo b) := PP.out.below hb
  replace PQ : Hid (HasG w1 (w.heap.size + 1) u yi yo c) := PQ.out.below hb
  replace B : Hid (Below w.heap.size w w1) := btr B.out hb
  clear hb
  go_wp2_with fail
  refine (h2.out _ (HG.out _ B.out)).mono ?_
  rintro e w2 ⟨rfl, hb⟩
  replace PP : Hid (HasG w2 (w.heap.size) v hi lo b) := PP.out.below hb
  replace PQ : Hid (HasG w2 (w.heap.size + 1) u yi yo c) := PQ.out.below hb
  replace B : Hid (Below w.heap.size w w2) := btr B.out hb
  clear hb
  replace PP : Hid (HasG (w2.alloc (.cells #[.bool xv, .int .u64 xh, .int .u64 xl, .int .i64 xb] 26)) (w.heap.size) v hi lo b) := (PP.out).alloc (.cells #[.bool xv, .int .u64 xh, .int .u64 xl, .int .i64 xb] 26)
  replace PQ : Hid (HasG (w2.alloc (.cells #[.bool xv, .int .u64 xh, .int .u64 xl, .int .i64 xb] 26)) (w.heap.size + 1) u yi yo c) := (PQ.out).alloc (.cells #[.bool xv, .int .u64 xh, .int .u64 xl, .int .i64 xb] 26)
  replace B : Hid (Below w.heap.size w (w2.alloc (.cells #[.bool xv, .int .u64 xh, .int .u64 xl, .int .i64 xb] 26))) := bal (B.out) _
  have PX : Hid (HasG (w2.alloc (.cells #[.bool xv, .int .u64 xh, .int .u64 xl, .int .i64 xb] 26)) (w2.heap.size) xv xh xl xb) := HasG.new w2 xv xh xl xb 26
  obtain ⟨⟨PP0, PP1, PP2, PP3, PP4⟩, _⟩ := PP.out
  obtain ⟨⟨PQ0, PQ1, PQ2, PQ3, PQ4⟩, _⟩ := PQ.out
  go_wp2_with fail
  generalize (w2.alloc (.cells #[.bool xv, .int .u64 xh, .int .u64 xl, .int .i64 xb] 26)) = W2 at *
  generalize w2.heap.size = m2 at *
  refine (h3.out _).mono ?_
  clear PP0 PP1 PP2 PP3 PP4 PQ0 PQ1 PQ2 PQ3 PQ4
  rintro e w3 ⟨rfl, hb⟩
  replace PP : Hid (HasG w3 (w.heap.size) v hi lo b) := PP.out.below hb
  replace PQ : Hid (HasG w3 (w.heap.size + 1) u yi yo c) := PQ.out.below hb
  replace PX : Hid (HasG w3 (m2) xv xh xl xb) := PX.out.below hb
  replace B : Hid (Below w.heap.size w w3) := btr B.out hb
  clear hb
  obtain ⟨⟨PP0, PP1, PP2, PP3, PP4⟩, _⟩ := PP.out
  go_wp2_with fail
  refine (h4.out _).mono ?_
  clear PP0 PP1 PP2 PP3 PP4
  rintro e w4 ⟨rfl, hb⟩
  replace PP : Hid (HasG w4 (w.heap.size) v hi lo b) := PP.out.below hb
  replace PQ : Hid (HasG w4 (w.heap.size + 1) u yi yo c) := PQ.out.below hb
  replace PX : Hid (HasG w4 (m2) xv xh xl xb) := PX.out.below hb
  replace B : Hid (Below w.heap.size w w4) := btr B.out hb
  clear hb
  replace PP : Hid (HasG ((w4.alloc (.cells #[.bool v, .int .u64 hi, .int .u64 lo] 24)).alloc (.cells #[.bool v, .int .u64 lh, .int .u64 ll] 24)) (w.heap.size) v hi lo b) := ((PP.out).alloc (.cells #[.bool v, .int .u64 hi, .int .u64 lo] 24)).alloc (.cells #[.bool v, .int .u64 lh, .int .u64 ll] 24)
  replace PQ : Hid (HasG ((w4.alloc (.cells #[.bool v, .int .u64 hi, .int .u64 lo] 24)).alloc (.cells #[.bool v, .int .u64 lh, .int .u64 ll] 24)) (w.heap.size + 1) u yi yo c) := ((PQ.out).alloc (.cells #[.bool v, .int .u64 hi, .int .u64 lo] 24)).alloc (.cells #[.bool v, .int .u64 lh, .int .u64 ll] 24)
  replace PX : Hid (HasG ((w4.alloc (.cells #[.bool v, .int .u64 hi, .int .u64 lo] 24)).alloc (.cells #[.bool v, .int .u64 lh, .int .u64 ll] 24)) (m2) xv xh xl xb) := ((PX.out).alloc (.cells #[.bool v, .int .u64 hi, .int .u64 lo] 24)).alloc (.cells #[.bool v, .int .u64 lh, .int .u64 ll] 24)
  replace B : Hid (Below w.heap.size w ((w4.alloc (.cells #[.bool v, .int .u64 hi, .int .u64 lo] 24)).alloc (.cells #[.bool v, .int .u64 lh, .int .u64 ll] 24))) := bal (bal (B.out) _) _
  have EA : Hid (HasF ((w4.alloc (.cells #[.bool v, .int .u64 hi, .int .u64 lo] 24)).alloc (.cells #[.bool v, .int .u64 lh, .int .u64 ll] 24)) (w4.heap.size) (.bool v) (.int .u64 hi) (.int .u64 lo)) := (HasF.new w4 (.bool v) (.int .u64 hi) (.int .u64 lo) 24).alloc (.cells #[.bool v, .int .u64 lh, .int .u64 ll] 24)
  have EB : Hid (HasF ((w4.alloc (.cells #[.bool v, .int .u64 hi, .int .u64 lo] 24)).alloc (.cells #[.bool v, .int .u64 lh, .int .u64 ll] 24)) (w4.heap.size + 1) (.bool v) (.int .u64 lh) (.int .u64 ll)) := by
    have := HasF.new (w4.alloc (.cells #[.bool v, .int .u64 hi, .int .u64 lo] 24)) (.bool v) (.int .u64 lh) (.int .u64 ll) 24
    rw [show (w4.alloc (.cells #[.bool v, .int .u64 hi, .int .u64 lo] 24)).heap.size = w4.heap.size + 1 by simp] at this
    exact this
  obtain ⟨⟨PP0, PP1, PP2, PP3, PP4⟩, _⟩ := PP.out
  go_wp2_with fail
  generalize ((w4.alloc (.cells #[.bool v, .int .u64 hi, .int .u64 lo] 24)).alloc (.cells #[.bool v, .int .u64 lh, .int .u64 ll] 24)) = W4 at *
  generalize w4.heap.size = m4 at *
  refine (h5.out _).mono ?_
  clear PP0 PP1 PP2 PP3 PP4
  rintro e w5 ⟨rfl, hb⟩
  replace PP : Hid (HasG w5 (w.heap.size) v hi lo b) := PP.out.below hb
  replace PQ : Hid (HasG w5 (w.heap.size + 1) u yi yo c) := PQ.out.below hb
  replace PX : Hid (HasG w5 (m2) xv xh xl xb) := PX.out.below hb
  replace EA : Hid (HasF w5 (m4) (.bool v) (.int .u64 hi) (.int .u64 lo)) := EA.out.below hb
  replace EB : Hid (HasF w5 (m4 + 1) (.bool v) (.int .u64 lh) (.int .u64 ll)) := EB.out.below hb
  replace B : Hid (Below w.heap.size w w5) := btr B.out hb
  clear hb
  replace PP : Hid (HasG ((w5.alloc (.cells #[.bool v, .int .u64 hi, .int .u64 lo, .int .i64 (b + 1)] 26)).alloc (.cells #[.bool v, .int .u64 gh, .int .u64 gl, .int .i64 (b + 1)] 26)) (w.heap.size) v hi lo b) := ((PP.out).alloc (.cells #[.bool v, .int .u64 hi, .int .u64 lo, .int .i64 (b + 1)] 26)).alloc (.cells #[.bool v, .int .u64 gh, .int .u64 gl, .int .i64 (b + 1)] 26)
  replace PQ : Hid (HasG ((w5.alloc (.cells #[.bool v, .int .u64 hi, .int .u64 lo, .int .i64 (b + 1)] 26)).alloc (.cells #[.bool v, .int .u64 gh, .int .u64 gl, .int .i64 (b + 1)] 26)) (w.heap.size + 1) u yi yo c) := ((PQ.out).alloc (.cells #[.bool v, .int .u64 hi, .int .u64 lo, .int .i64 (b + 1)] 26)).alloc (.cells #[.bool v, .int .u64 gh, .int .u64 gl, .int .i64 (b + 1)] 26)
  replace PX : Hid (HasG ((w5.alloc (.cells #[.bool v, .int .u64 hi, .int .u64 lo, .int .i64 (b + 1)] 26)).alloc (.cells #[.bool v, .int .u64 gh, .int .u64 gl, .int .i64 (b + 1)] 26)) (m2) xv xh xl xb) := ((PX.out).alloc (.cells #[.bool v, .int .u64 hi, .int .u64 lo, .int .i64 (b + 1)] 26)).alloc (.cells #[.bool v, .int .u64 gh, .int .u64 gl, .int .i64 (b + 1)] 26)
  replace EA : Hid (HasF ((w5.alloc (.cells #[.bool v, .int .u64 hi, .int .u64 lo, .int .i64 (b + 1)] 26)).alloc (.cells #[.bool v, .int .u64 gh, .int .u64 gl, .int .i64 (b + 1)] 26)) (m4) (.bool v) (.int .u64 hi) (.int .u64 lo)) := ((EA.out).alloc (.cells #[.bool v, .int .u64 hi, .int .u64 lo, .int .i64 (b + 1)] 26)).alloc (.cells #[.bool v, .int .u64 gh, .int .u64 gl, .int .i64 (b + 1)] 26)
  replace EB : Hid (HasF ((w5.alloc (.cells #[.bool v, .int .u64 hi, .int .u64 lo, .int .i64 (b + 1)] 26)).alloc (.cells #[.bool v, .int .u64 gh, .int .u64 gl, .int .i64 (b + 1)] 26)) (m4 + 1) (.bool v) (.int .u64 lh) (.int .u64 ll)) := ((EB.out).alloc (.cells #[.bool v, .int .u64 hi, .int .u64 lo, .int .i64 (b + 1)] 26)).alloc (.cells #[.bool v, .int .u64 gh, .int .u64 gl, .int .i64 (b + 1)] 26)
  replace B : Hid (Below w.heap.size w ((w5.alloc (.cells #[.bool v, .int .u64 hi, .int .u64 lo, .int .i64 (b + 1)] 26)).alloc (.cells #[.bool v, .int .u64 gh, .int .u64 gl, .int .i64 (b + 1)] 26))) := bal (bal (B.out) _) _
  have HC : Hid (HasG ((w5.alloc (.cells #[.bool v, .int .u64 hi, .int .u64 lo, .int .i64 (b + 1)] 26)).alloc (.cells #[.bool v, .int .u64 gh, .int .u64 gl, .int .i64 (b + 1)] 26)) (w5.heap.size) v hi lo (b + 1)) := (HasG.new w5 v hi lo (b + 1) 26).alloc (.cells #[.bool v, .int .u64 gh, .int .u64 gl, .int .i64 (b + 1)] 26)
  have HD : Hid (HasG ((w5.alloc (.cells #[.bool v, .int .u64 hi, .int .u64 lo, .int .i64 (b + 1)] 26)).alloc (.cells #[.bool v, .int .u64 gh, .int .u64 gl, .int .i64 (b + 1)] 26)) (w5.heap.size + 1) v gh gl (b + 1)) := by
    have := HasG.new (w5.alloc (.cells #[.bool v, .int .u64 hi, .int .u64 lo, .int .i64 (b + 1)] 26)) v gh gl (b + 1) 26
    rw [show (w5.alloc (.cells #[.bool v, .int .u64 hi, .int .u64 lo, .int .i64 (b + 1)] 26)).heap.size = w5.heap.size + 1 by simp] at this
    exact this
  obtain ⟨⟨PP0, PP1, PP2, PP3, PP4⟩, _⟩ := PP.out
  obtain ⟨⟨PQ0, PQ1, PQ2, PQ3, PQ4⟩, _⟩ := PQ.out
  go_wp2_with fail
  generalize ((w5.alloc (.cells #[.bool v, .int .u64 hi, .int .u64 lo, .int .i64 (b + 1)] 26)).alloc (.cells #[.bool v, .int .u64 gh, .int .u64 gl, .int .i64 (b + 1)] 26)) = W5 at *
  generalize w5.heap.size = m5 at *
  refine (h6.out _).mono ?_
  clear PP0 PP1 PP2 PP3 PP4 PQ0 PQ1 PQ2 PQ3 PQ4
  rintro e w6 ⟨rfl, hb⟩
  replace PP : Hid (HasG w6 (w.heap.size) v hi lo b) := PP.out.below hb
  replace PQ : Hid (HasG w6 (w.heap.size + 1) u yi yo c) := PQ.out.below hb
  replace PX : Hid (HasG w6 (m2) xv xh xl xb) := PX.out.below hb
  replace EA : Hid (HasF w6 (m4) (.bool v) (.int .u64 hi) (.int .u64 lo)) := EA.out.below hb
  replace EB : Hid (HasF w6 (m4 + 1) (.bool v) (.int .u64 lh) (.int .u64 ll)) := EB.out.below hb
  replace HC : Hid (HasG w6 (m5) v hi lo (b + 1)) := HC.out.below hb
  replace HD : Hid (HasG w6 (m5 + 1) v gh gl (b + 1)) := HD.out.below hb
  replace B : Hid (Below w.heap.size w w6) := btr B.out hb
  clear hb
  replace PP : Hid (HasG (w6.alloc (.cells #[.bool v, .int .u64 hi, .int .u64 lo, .int .i64 (b - 1)] 26)) (w.heap.size) v hi lo b) := (PP.out).alloc (.cells #[.bool v, .int .u64 hi, .int .u64 lo, .int .i64 (b - 1)] 26)
  replace PQ : Hid (HasG (w6.alloc (.cells #[.bool v, .int .u64 hi, .int .u64 lo, .int .i64 (b - 1)] 26)) (w.heap.size + 1) u yi yo c) := (PQ.out).alloc (.cells #[.bool v, .int .u64 hi, .int .u64 lo, .int .i64 (b - 1)] 26)
  replace PX : Hid (HasG (w6.alloc (.cells #[.bool v, .int .u64 hi, .int .u64 lo, .int .i64 (b - 1)] 26)) (m2) xv xh xl xb) := (PX.out).alloc (.cells #[.bool v, .int .u64 hi, .int .u64 lo, .int .i64 (b - 1)] 26)
  replace EA : Hid (HasF (w6.alloc (.cells #[.bool v, .int .u64 hi, .int .u64 lo, .int .i64 (b - 1)] 26)) (m4) (.bool v) (.int .u64 hi) (.int .u64 lo)) := (EA.out).alloc (.cells #[.bool v, .int .u64 hi, .int .u64 lo, .int .i64 (b - 1)] 26)
  replace EB : Hid (HasF (w6.alloc (.cells #[.bool v, .int .u64 hi, .int .u64 lo, .int .i64 (b - 1)] 26)) (m4 + 1) (.bool v) (.int .u64 lh) (.int .u64 ll)) := (EB.out).alloc (.cells #[.bool v, .int .u64 hi, .int .u64 lo, .int .i64 (b - 1)] 26)
  replace HC : Hid (HasG (w6.alloc (.cells #[.bool v, .int .u64 hi, .int .u64 lo, .int .i64 (b - 1)] 26)) (m5) v hi lo (b + 1)) := (HC.out).alloc (.cells #[.bool v, .int .u64 hi, .int .u64 lo, .int .i64 (b - 1)] 26)
  replace HD : Hid (HasG (w6.alloc (.cells #[.bool v, .int .u64 hi, .int .u64 lo, .int .i64 (b - 1)] 26)) (m5 + 1) v gh gl (b + 1)) := (HD.out).alloc (.cells #[.bool v, .int .u64 hi, .int .u64 lo, .int .i64 (b - 1)] 26)
  replace B : Hid (Below w.heap.size w (w6.alloc (.cells #[.bool v, .int .u64 hi, .int .u64 lo, .int .i64 (b - 1)] 26))) := bal (B.out) _
  have PW : Hid (HasG (w6.alloc (.cells #[.bool v, .int .u64 hi, .int .u64 lo, .int .i64 (b - 1)] 26)) (w6.heap.size) v hi lo (b - 1)) := HasG.new w6 v hi lo (b - 1) 26
  obtain ⟨⟨PP0, PP1, PP2, PP3, PP4⟩, _⟩ := PP.out
  go_wp2_with fail
  generalize (w6.alloc (.cells #[.bool v, .int .u64 hi, .int .u64 lo, .int .i64 (b - 1)] 26)) = W6 at *
  generalize w6.heap.size = m6 at *
  refine (h7.out _).mono ?_
  clear PP0 PP1 PP2 PP3 PP4
  rintro e w7 ⟨rfl, hb⟩
  replace PP : Hid (HasG w7 (w.heap.size) v hi lo b) := PP.out.below hb
  replace PQ : Hid (HasG w7 (w.heap.size + 1) u yi yo c) := PQ.out.below hb
  replace PX : Hid (HasG w7 (m2) xv xh xl xb) := PX.out.below hb
  replace EA : Hid (HasF w7 (m4) (.bool v) (.int .u64 hi) (.int .u64 lo)) := EA.out.below hb
  replace EB : Hid (HasF w7 (m4 + 1) (.bool v) (.int .u64 lh) (.int .u64 ll)) := EB.out.below hb
  replace HC : Hid (HasG w7 (m5) v hi lo (b + 1)) := HC.out.below hb
  replace HD : Hid (HasG w7 (m5 + 1) v gh gl (b + 1)) := HD.out.below hb
  replace PW : Hid (HasG w7 (m6) v hi lo (b - 1)) := PW.out.below hb
  replace B : Hid (Below w.heap.size w w7) := btr B.out hb
  clear hb
  obtain ⟨⟨PQ0, PQ1, PQ2, PQ3, PQ4⟩, _⟩ := PQ.out
  go_wp2_with fail
  refine (h8.out _).mono ?_
  clear PQ0 PQ1 PQ2 PQ3 PQ4
  rintro e w8 ⟨rfl, hb⟩
  replace PP : Hid (HasG w8 (w.heap.size) v hi lo b) := PP.out.below hb
  replace PQ : Hid (HasG w8 (w.heap.size + 1) u yi yo c) := PQ.out.below hb
  replace PX : Hid (HasG w8 (m2) xv xh xl xb) := PX.out.below hb
  replace EA : Hid (HasF w8 (m4) (.bool v) (.int .u64 hi) (.int .u64 lo)) := EA.out.below hb
  replace EB : Hid (HasF w8 (m4 + 1) (.bool v) (.int .u64 lh) (.int .u64 ll)) := EB.out.below hb
  replace HC : Hid (HasG w8 (m5) v hi lo (b + 1)) := HC.out.below hb
  replace HD : Hid (HasG w8 (m5 + 1) v gh gl (b + 1)) := HD.out.below hb
  replace PW : Hid (HasG w8 (m6) v hi lo (b - 1)) := PW.out.below hb
  replace B : Hid (Below w.heap.size w w8) := btr B.out hb
  clear hb
  have LPPFI : Hid (w.heap.size ≠ w8.heap.size) := Nat.ne_of_lt (Nat.lt_of_lt_of_le PP.out.1.2.2.2.2 (by omega))
  have LPQFI : Hid (w.heap.size + 1 ≠ w8.heap.size) := Nat.ne_of_lt (Nat.lt_of_lt_of_le PQ.out.1.2.2.2.2 (by omega))
  have LPXFI : Hid (m2 ≠ w8.heap.size) := Nat.ne_of_lt (Nat.lt_of_lt_of_le PX.out.1.2.2.2.2 (by omega))
  have LEAFI : Hid (m4 ≠ w8.heap.size) := Nat.ne_of_lt (Nat.lt_of_lt_of_le EA.out.1.2.2.2 (by omega))
  have LEBFI : Hid (m4 + 1 ≠ w8.heap.size) := Nat.ne_of_lt (Nat.lt_of_lt_of_le EB.out.1.2.2.2 (by omega))
  have LHCFI : Hid (m5 ≠ w8.heap.size) := Nat.ne_of_lt (Nat.lt_of_lt_of_le HC.out.1.2.2.2.2 (by omega))
  have LHDFI : Hid (m5 + 1 ≠ w8.heap.size) := Nat.ne_of_lt (Nat.lt_of_lt_of_le HD.out.1.2.2.2.2 (by omega))
  have LPWFI : Hid (m6 ≠ w8.heap.size) := Nat.ne_of_lt (Nat.lt_of_lt_of_le PW.out.1.2.2.2.2 (by omega))
  have GFI : Hid (w.heap.size ≤ w8.heap.size) := Nat.le_trans B.out.size (by omega)
  have LPPLA : Hid (w.heap.size ≠ w8.heap.size + 1) := Nat.ne_of_lt (Nat.lt_of_lt_of_le PP.out.1.2.2.2.2 (by omega))
  have LPQLA : Hid (w.heap.size + 1 ≠ w8.heap.size + 1) := Nat.ne_of_lt (Nat.lt_of_lt_of_le PQ.out.1.2.2.2.2 (by omega))
  have LPXLA : Hid (m2 ≠ w8.heap.size + 1) := Nat.ne_of_lt (Nat.lt_of_lt_of_le PX.out.1.2.2.2.2 (by omega))
  have LEALA : Hid (m4 ≠ w8.heap.size + 1) := Nat.ne_of_lt (Nat.lt_of_lt_of_le EA.out.1.2.2.2 (by omega))
  have LEBLA : Hid (m4 + 1 ≠ w8.heap.size + 1) := Nat.ne_of_lt (Nat.lt_of_lt_of_le EB.out.1.2.2.2 (by omega))
  have LHCLA : Hid (m5 ≠ w8.heap.size + 1) := Nat.ne_of_lt (Nat.lt_of_lt_of_le HC.out.1.2.2.2.2 (by omega))
  have LHDLA : Hid (m5 + 1 ≠ w8.heap.size + 1) := Nat.ne_of_lt (Nat.lt_of_lt_of_le HD.out.1.2.2.2.2 (by omega))
  have LPWLA : Hid (m6 ≠ w8.heap.size + 1) := Nat.ne_of_lt (Nat.lt_of_lt_of_le PW.out.1.2.2.2.2 (by omega))
  have LFILA : Hid (w8.heap.size ≠ w8.heap.size + 1) := (by omega : w8.heap.size ≠ w8.heap.size + 1)
  have GLA : Hid (w.heap.size ≤ w8.heap.size + 1) := Nat.le_trans B.out.size (by omega)
  have LPPON : Hid (w.heap.size ≠ w8.heap.size + 1 + 1) := Nat.ne_of_lt (Nat.lt_of_lt_of_le PP.out.1.2.2.2.2 (by omega))
  have LPQON : Hid (w.heap.size + 1 ≠ w8.heap.size + 1 + 1) := Nat.ne_of_lt (Nat.lt_of_lt_of_le PQ.out.1.2.2.2.2 (by omega))
  have LPXON : Hid (m2 ≠ w8.heap.size + 1 + 1) := Nat.ne_of_lt (Nat.lt_of_lt_of_le PX.out.1.2.2.2.2 (by omega))
  have LEAON : Hid (m4 ≠ w8.heap.size + 1 + 1) := Nat.ne_of_lt (Nat.lt_of_lt_of_le EA.out.1.2.2.2 (by omega))
  have LEBON : Hid (m4 + 1 ≠ w8.heap.size + 1 + 1) := Nat.ne_of_lt (Nat.lt_of_lt_of_le EB.out.1.2.2.2 (by omega))
  have LHCON : Hid (m5 ≠ w8.heap.size + 1 + 1) := Nat.ne_of_lt (Nat.lt_of_lt_of_le HC.out.1.2.2.2.2 (by omega))
  have LHDON : Hid (m5 + 1 ≠ w8.heap.size + 1 + 1) := Nat.ne_of_lt (Nat.lt_of_lt_of_le HD.out.1.2.2.2.2 (by omega))
  have LPWON : Hid (m6 ≠ w8.heap.size + 1 + 1) := Nat.ne_of_lt (Nat.lt_of_lt_of_le PW.out.1.2.2.2.2 (by omega))
  have LFION : Hid (w8.heap.size ≠ w8.heap.size + 1 + 1) := (by omega : w8.heap.size ≠ w8.heap.size + 1 + 1)
  have LLAON : Hid (w8.heap.size + 1 ≠ w8.heap.size + 1 + 1) := (by omega : w8.heap.size + 1 ≠ w8.heap.size + 1 + 1)
  have GON : Hid (w.heap.size ≤ w8.heap.size + 1 + 1) := Nat.le_trans B.out.size (by omega)
  have LPPTW : Hid (w.heap.size ≠ w8.heap.size + 1 + 1 + 1) := Nat.ne_of_lt (Nat.lt_of_lt_of_le PP.out.1.2.2.2.2 (by omega))
  have LPQTW : Hid (w.heap.size + 1 ≠ w8.heap.size + 1 + 1 + 1) := Nat.ne_of_lt (Nat.lt_of_lt_of_le PQ.out.1.2.2.2.2 (by omega))
  have LPXTW : Hid (m2 ≠ w8.heap.size + 1 + 1 + 1) := Nat.ne_of_lt (Nat.lt_of_lt_of_le PX.out.1.2.2.2.2 (by omega))
  have LEATW : Hid (m4 ≠ w8.heap.size + 1 + 1 + 1) := Nat.ne_of_lt (Nat.lt_of_lt_of_le EA.out.1.2.2.2 (by omega))
  have LEBTW : Hid (m4 + 1 ≠ w8.heap.size + 1 + 1 + 1) := Nat.ne_of_lt (Nat.lt_of_lt_of_le EB.out.1.2.2.2 (by omega))
  have LHCTW : Hid (m5 ≠ w8.heap.size + 1 + 1 + 1) := Nat.ne_of_lt (Nat.lt_of_lt_of_le HC.out.1.2.2.2.2 (by omega))
  have LHDTW : Hid (m5 + 1 ≠ w8.heap.size + 1 + 1 + 1) := Nat.ne_of_lt (Nat.lt_of_lt_of_le HD.out.1.2.2.2.2 (by omega))
  have LPWTW : Hid (m6 ≠ w8.heap.size + 1 + 1 + 1) := Nat.ne_of_lt (Nat.lt_of_lt_of_le PW.out.1.2.2.2.2 (by omega))
  have LFITW : Hid (w8.heap.size ≠ w8.heap.size + 1 + 1 + 1) := (by omega : w8.heap.size ≠ w8.heap.size + 1 + 1 + 1)
  have LLATW : Hid (w8.heap.size + 1 ≠ w8.heap.size + 1 + 1 + 1) := (by omega : w8.heap.size + 1 ≠ w8.heap.size + 1 + 1 + 1)
  have LONTW : Hid (w8.heap.size + 1 + 1 ≠ w8.heap.size + 1 + 1 + 1) := (by omega : w8.heap.size + 1 + 1 ≠ w8.heap.size + 1 + 1 + 1)
  have GTW : Hid (w.heap.size ≤ w8.heap.size + 1 + 1 + 1) := Nat.le_trans B.out.size (by omega)
  have LPPWH : Hid (w.heap.size ≠ w8.heap.size + 1 + 1 + 1 + 1) := Nat.ne_of_lt (Nat.lt_of_lt_of_le PP.out.1.2.2.2.2 (by omega))
  have LPQWH : Hid (w.heap.size + 1 ≠ w8.heap.size + 1 + 1 + 1 + 1) := Nat.ne_of_lt (Nat.lt_of_lt_of_le PQ.out.1.2.2.2.2 (by omega))
  have LPXWH : Hid (m2 ≠ w8.heap.size + 1 + 1 + 1 + 1) := Nat.ne_of_lt (Nat.lt_of_lt_of_le PX.out.1.2.2.2.2 (by omega))
  have LEAWH : Hid (m4 ≠ w8.heap.size + 1 + 1 + 1 + 1) := Nat.ne_of_lt (Nat.lt_of_lt_of_le EA.out.1.2.2.2 (by omega))
  have LEBWH : Hid (m4 + 1 ≠ w8.heap.size + 1 + 1 + 1 + 1) := Nat.ne_of_lt (Nat.lt_of_lt_of_le EB.out.1.2.2.2 (by omega))
  have LHCWH : Hid (m5 ≠ w8.heap.size + 1 + 1 + 1 + 1) := Nat.ne_of_lt (Nat.lt_of_lt_of_le HC.out.1.2.2.2.2 (by omega))
  have LHDWH : Hid (m5 + 1 ≠ w8.heap.size + 1 + 1 + 1 + 1) := Nat.ne_of_lt (Nat.lt_of_lt_of_le HD.out.1.2.2.2.2 (by omega))
  have LPWWH : Hid (m6 ≠ w8.heap.size + 1 + 1 + 1 + 1) := Nat.ne_of_lt (Nat.lt_of_lt_of_le PW.out.1.2.2.2.2 (by omega))
  have LFIWH : Hid (w8.heap.size ≠ w8.heap.size + 1 + 1 + 1 + 1) := (by omega : w8.heap.size ≠ w8.heap.size + 1 + 1 + 1 + 1)
  have LLAWH : Hid (w8.heap.size + 1 ≠ w8.heap.size + 1 + 1 + 1 + 1) := (by omega : w8.heap.size + 1 ≠ w8.heap.size + 1 + 1 + 1 + 1)
  have LONWH : Hid (w8.heap.size + 1 + 1 ≠ w8.heap.size + 1 + 1 + 1 + 1) := (by omega : w8.heap.size + 1 + 1 ≠ w8.heap.size + 1 + 1 + 1 + 1)
  have LTWWH : Hid (w8.heap.size + 1 + 1 + 1 ≠ w8.heap.size + 1 + 1 + 1 + 1) := (by omega : w8.heap.size + 1 + 1 + 1 ≠ w8.heap.size + 1 + 1 + 1 + 1)
  have GWH : Hid (w.heap.size ≤ w8.heap.size + 1 + 1 + 1 + 1) := Nat.le_trans B.out.size (by omega)
  replace PP : Hid (HasG (((((w8.alloc (.cells #[.bool false, .int .u64 0, .int .u64 0] 24)).alloc (.cells #[.bool false, .int .u64 0, .int .u64 0] 24)).alloc (.cells #[.bool false, .int .u64 0, .int .u64 0, .int .i64 0] 26)).alloc (.cells #[.bool false, .int .u64 0, .int .u64 0, .int .i64 0] 26)).alloc (.cells #[.bool false, .int .u64 0, .int .u64 0, .int .i64 0] 26)) (w.heap.size) v hi lo b) := (((((PP.out).alloc (.cells #[.bool false, .int .u64 0, .int .u64 0] 24)).alloc (.cells #[.bool false, .int .u64 0, .int .u64 0] 24)).alloc (.cells #[.bool false, .int .u64 0, .int .u64 0, .int .i64 0] 26)).alloc (.cells #[.bool false, .int .u64 0, .int .u64 0, .int .i64 0] 26)).alloc (.cells #[.bool false, .int .u64 0, .int .u64 0, .int .i64 0] 26)
  replace PQ : Hid (HasG (((((w8.alloc (.cells #[.bool false, .int .u64 0, .int .u64 0] 24)).alloc (.cells #[.bool false, .int .u64 0, .int .u64 0] 24)).alloc (.cells #[.bool false, .int .u64 0, .int .u64 0, .int .i64 0] 26)).alloc (.cells #[.bool false, .int .u64 0, .int .u64 0, .int .i64 0] 26)).alloc (.cells #[.bool false, .int .u64 0, .int .u64 0, .int .i64 0] 26)) (w.heap.size + 1) u yi yo c) := (((((PQ.out).alloc (.cells #[.bool false, .int .u64 0, .int .u64 0] 24)).alloc (.cells #[.bool false, .int .u64 0, .int .u64 0] 24)).alloc (.cells #[.bool false, .int .u64 0, .int .u64 0, .int .i64 0] 26)).alloc (.cells #[.bool false, .int .u64 0, .int .u64 0, .int .i64 0] 26)).alloc (.cells #[.bool false, .int .u64 0, .int .u64 0, .int .i64 0] 26)
  replace PX : Hid (HasG (((((w8.alloc (.cells #[.bool false, .int .u64 0, .int .u64 0] 24)).alloc (.cells #[.bool false, .int .u64 0, .int .u64 0] 24)).alloc (.cells #[.bool false, .int .u64 0, .int .u64 0, .int .i64 0] 26)).alloc (.cells #[.bool false, .int .u64 0, .int .u64 0, .int .i64 0] 26)).alloc (.cells #[.bool false, .int .u64 0, .int .u64 0, .int .i64 0] 26)) (m2) xv xh xl xb) := (((((PX.out).alloc (.cells #[.bool false, .int .u64 0, .int .u64 0] 24)).alloc (.cells #[.bool false, .int .u64 0, .int .u64 0] 24)).alloc (.cells #[.bool false, .int .u64 0, .int .u64 0, .int .i64 0] 26)).alloc (.cells #[.bool false, .int .u64 0, .int .u64 0, .int .i64 0] 26)).alloc (.cells #[.bool false, .int .u64 0, .int .u64 0, .int .i64 0] 26)
  replace EA : Hid (HasF (((((w8.alloc (.cells #[.bool false, .int .u64 0, .int .u64 0] 24)).alloc (.cells #[.bool false, .int .u64 0, .int .u64 0] 24)).alloc (.cells #[.bool false, .int .u64 0, .int .u64 0, .int .i64 0] 26)).alloc (.cells #[.bool false, .int .u64 0, .int .u64 0, .int .i64 0] 26)).alloc (.cells #[.bool false, .int .u64 0, .int .u64 0, .int .i64 0] 26)) (m4) (.bool v) (.int .u64 hi) (.int .u64 lo)) := (((((EA.out).alloc (.cells #[.bool false, .int .u64 0, .int .u64 0] 24)).alloc (.cells #[.bool false, .int .u64 0, .int .u64 0] 24)).alloc (.cells #[.bool false, .int .u64 0, .int .u64 0, .int .i64 0] 26)).alloc (.cells #[.bool false, .int .u64 0, .int .u64 0, .int .i64 0] 26)).alloc (.cells #[.bool false, .int .u64 0, .int .u64 0, .int .i64 0] 26)
  replace EB : Hid (HasF (((((w8.alloc (.cells #[.bool false, .int .u64 0, .int .u64 0] 24)).alloc (.cells #[.bool false, .int .u64 0, .int .u64 0] 24)).alloc (.cells #[.bool false, .int .u64 0, .int .u64 0, .int .i64 0] 26)).alloc (.cells #[.bool false, .int .u64 0, .int .u64 0, .int .i64 0] 26)).alloc (.cells #[.bool false, .int .u64 0, .int .u64 0, .int .i64 0] 26)) (m4 + 1) (.bool v) (.int .u64 lh) (.int .u64 ll)) := (((((EB.out).alloc (.cells #[.bool false, .int .u64 0, .int .u64 0] 24)).alloc (.cells #[.bool false, .int .u64 0, .int .u64 0] 24)).alloc (.cells #[.bool false, .int .u64 0, .int .u64 0, .int .i64 0] 26)).alloc (.cells #[.bool false, .int .u64 0, .int .u64 0, .int .i64 0] 26)).alloc (.cells #[.bool false, .int .u64 0, .int .u64 0, .int .i64 0] 26)
  replace HC : Hid (HasG (((((w8.alloc (.cells #[.bool false, .int .u64 0, .int .u64 0] 24)).alloc (.cells #[.bool false, .int .u64 0, .int .u64 0] 24)).alloc (.cells #[.bool false, .int .u64 0, .int .u64 0, .int .i64 0] 26)).alloc (.cells #[.bool false, .int .u64 0, .int .u64 0, .int .i64 0] 26)).alloc (.cells #[.bool false, .int .u64 0, .int .u64 0, .int .i64 0] 26)) (m5) v hi lo (b + 1)) := (((((HC.out).alloc (.cells #[.bool false, .int .u64 0, .int .u64 0] 24)).alloc (.cells #[.bool false, .int .u64 0, .int .u64 0] 24)).alloc (.cells #[.bool false, .int .u64 0, .int .u64 0, .int .i64 0] 26)).alloc (.cells #[.bool false, .int .u64 0, .int .u64 0, .int .i64 0] 26)).alloc (.cells #[.bool false, .int .u64 0, .int .u64 0, .int .i64 0] 26)
  replace HD : Hid (HasG (((((w8.alloc (.cells #[.bool false, .int .u64 0, .int .u64 0] 24)).alloc (.cells #[.bool false, .int .u64 0, .int .u64 0] 24)).alloc (.cells #[.bool false, .int .u64 0, .int .u64 0, .int .i64 0] 26)).alloc (.cells #[.bool false, .int .u64 0, .int .u64 0, .int .i64 0] 26)).alloc (.cells #[.bool false, .int .u64 0, .int .u64 0, .int .i64 0] 26)) (m5 + 1) v gh gl (b + 1)) := (((((HD.out).alloc (.cells #[.bool false, .int .u64 0, .int .u64 0] 24)).alloc (.cells #[.bool false, .int .u64 0, .int .u64 0] 24)).alloc (.cells #[.bool false, .int .u64 0, .int .u64 0, .int .i64 0] 26)).alloc (.cells #[.bool false, .int .u64 0, .int .u64 0, .int .i64 0] 26)).alloc (.cells #[.bool false, .int .u64 0, .int .u64 0, .int .i64 0] 26)
  replace PW : Hid (HasG (((((w8.alloc (.cells #[.bool false, .int .u64 0, .int .u64 0] 24)).alloc (.cells #[.bool false, .int .u64 0, .int .u64 0] 24)).alloc (.cells #[.bool false, .int .u64 0, .int .u64 0, .int .i64 0] 26)).alloc (.cells #[.bool false, .int .u64 0, .int .u64 0, .int .i64 0] 26)).alloc (.cells #[.bool false, .int .u64 0, .int .u64 0, .int .i64 0] 26)) (m6) v hi lo (b - 1)) := (((((PW.out).alloc (.cells #[.bool false, .int .u64 0, .int .u64 0] 24)).alloc (.cells #[.bool false, .int .u64 0, .int .u64 0] 24)).alloc (.cells #[.bool false, .int .u64 0, .int .u64 0, .int .i64 0] 26)).alloc (.cells #[.bool false, .int .u64 0, .int .u64 0, .int .i64 0] 26)).alloc (.cells #[.bool false, .int .u64 0, .int .u64 0, .int .i64 0] 26)
  replace B : Hid (Below w.heap.size w (((((w8.alloc (.cells #[.bool false, .int .u64 0, .int .u64 0] 24)).alloc (.cells #[.bool false, .int .u64 0, .int .u64 0] 24)).alloc (.cells #[.bool false, .int .u64 0, .int .u64 0, .int .i64 0] 26)).alloc (.cells #[.bool false, .int .u64 0, .int .u64 0, .int .i64 0] 26)).alloc (.cells #[.bool false, .int .u64 0, .int .u64 0, .int .i64 0] 26))) := bal (bal (bal (bal (bal (B.out) _) _) _) _) _
  have FI : Hid (HasF (((((w8.alloc (.cells #[.bool false, .int .u64 0, .int .u64 0] 24)).alloc (.cells #[.bool false, .int .u64 0, .int .u64 0] 24)).alloc (.cells #[.bool false, .int .u64 0, .int .u64 0, .int .i64 0] 26)).alloc (.cells #[.bool false, .int .u64 0, .int .u64 0, .int .i64 0] 26)).alloc (.cells #[.bool false, .int .u64 0, .int .u64 0, .int .i64 0] 26)) (w8.heap.size) (.bool false) (.int .u64 0) (.int .u64 0)) := ((((HasF.new w8 (.bool false) (.int .u64 0) (.int .u64 0) 24).alloc (.cells #[.bool false, .int .u64 0, .int .u64 0] 24)).alloc (.cells #[.bool false, .int .u64 0, .int .u64 0, .int .i64 0] 26)).alloc (.cells #[.bool false, .int .u64 0, .int .u64 0, .int .i64 0] 26)).alloc (.cells #[.bool false, .int .u64 0, .int .u64 0, .int .i64 0] 26)
  have LA : Hid (HasF (((((w8.alloc (.cells #[.bool false, .int .u64 0, .int .u64 0] 24)).alloc (.cells #[.bool false, .int .u64 0, .int .u64 0] 24)).alloc (.cells #[.bool false, .int .u64 0, .int .u64 0, .int .i64 0] 26)).alloc (.cells #[.bool false, .int .u64 0, .int .u64 0, .int .i64 0] 26)).alloc (.cells #[.bool false, .int .u64 0, .int .u64 0, .int .i64 0] 26)) (w8.heap.size + 1) (.bool false) (.int .u64 0) (.int .u64 0)) := by
    have := (((HasF.new (w8.alloc (.cells #[.bool false, .int .u64 0, .int .u64 0] 24)) (.bool false) (.int .u64 0) (.int .u64 0) 24).alloc (.cells #[.bool false, .int .u64 0, .int .u64 0, .int .i64 0] 26)).alloc (.cells #[.bool false, .int .u64 0, .int .u64 0, .int .i64 0] 26)).alloc (.cells #[.bool false, .int .u64 0, .int .u64 0, .int .i64 0] 26)
    rw [show (w8.alloc (.cells #[.bool false, .int .u64 0, .int .u64 0] 24)).heap.size = w8.heap.size + 1 by simp] at this
    exact this
  have ON : Hid (HasG (((((w8.alloc (.cells #[.bool false, .int .u64 0, .int .u64 0] 24)).alloc (.cells #[.bool false, .int .u64 0, .int .u64 0] 24)).alloc (.cells #[.bool false, .int .u64 0, .int .u64 0, .int .i64 0] 26)).alloc (.cells #[.bool false, .int .u64 0, .int .u64 0, .int .i64 0] 26)).alloc (.cells #[.bool false, .int .u64 0, .int .u64 0, .int .i64 0] 26)) (w8.heap.size + 1 + 1) false 0 0 0) := by
    have := ((HasG.new ((w8.alloc (.cells #[.bool false, .int .u64 0, .int .u64 0] 24)).alloc (.cells #[.bool false, .int .u64 0, .int .u64 0] 24)) false 0 0 0 26).alloc (.cells #[.bool false, .int .u64 0, .int .u64 0, .int .i64 0] 26)).alloc (.cells #[.bool false, .int .u64 0, .int .u64 0, .int .i64 0] 26)
    rw [show ((w8.alloc (.cells #[.bool false, .int .u64 0, .int .u64 0] 24)).alloc (.cells #[.bool false, .int .u64 0, .int .u64 0] 24)).heap.size = w8.heap.size + 1 + 1 by simp] at this
    exact this
  have TW : Hid (HasG (((((w8.alloc (.cells #[.bool false, .int .u64 0, .int .u64 0] 24)).alloc (.cells #[.bool false, .int .u64 0, .int .u64 0] 24)).alloc (.cells #[.bool false, .int .u64 0, .int .u64 0, .int .i64 0] 26)).alloc (.cells #[.bool false, .int .u64 0, .int .u64 0, .int .i64 0] 26)).alloc (.cells #[.bool false, .int .u64 0, .int .u64 0, .int .i64 0] 26)) (w8.heap.size + 1 + 1 + 1) false 0 0 0) := by
    have := (HasG.new (((w8.alloc (.cells #[.bool false, .int .u64 0, .int .u64 0] 24)).alloc (.cells #[.bool false, .int .u64 0, .int .u64 0] 24)).alloc (.cells #[.bool false, .int .u64 0, .int .u64 0, .int .i64 0] 26)) false 0 0 0 26).alloc (.cells #[.bool false, .int .u64 0, .int .u64 0, .int .i64 0] 26)
    rw [show (((w8.alloc (.cells #[.bool false, .int .u64 0, .int .u64 0] 24)).alloc (.cells #[.bool false, .int .u64 0, .int .u64 0] 24)).alloc (.cells #[.bool false, .int .u64 0, .int .u64 0, .int .i64 0] 26)).heap.size = w8.heap.size + 1 + 1 + 1 by simp] at this
    exact this
  have WH : Hid (HasG (((((w8.alloc (.cells #[.bool false, .int .u64 0, .int .u64 0] 24)).alloc (.cells #[.bool false, .int .u64 0, .int .u64 0] 24)).alloc (.cells #[.bool false, .int .u64 0, .int .u64 0, .int .i64 0] 26)).alloc (.cells #[.bool false, .int .u64 0, .int .u64 0, .int .i64 0] 26)).alloc (.cells #[.bool false, .int .u64 0, .int .u64 0, .int .i64 0] 26)) (w8.heap.size + 1 + 1 + 1 + 1) false 0 0 0) := by
    have := HasG.new ((((w8.alloc (.cells #[.bool false, .int .u64 0, .int .u64 0] 24)).alloc (.cells #[.bool false, .int .u64 0, .int .u64 0] 24)).alloc (.cells #[.bool false, .int .u64 0, .int .u64 0, .int .i64 0] 26)).alloc (.cells #[.bool false, .int .u64 0, .int .u64 0, .int .i64 0] 26)) false 0 0 0 26
    rw [show ((((w8.alloc (.cells #[.bool false, .int .u64 0, .int .u64 0] 24)).alloc (.cells #[.bool false, .int .u64 0, .int .u64 0] 24)).alloc (.cells #[.bool false, .int .u64 0, .int .u64 0, .int .i64 0] 26)).alloc (.cells #[.bool false, .int .u64 0, .int .u64 0, .int .i64 0] 26)).heap.size = w8.heap.size + 1 + 1 + 1 + 1 by simp] at this
    exact this
  go_wp2_with fail
  generalize (((((w8.alloc (.cells #[.bool false, .int .u64 0, .int .u64 0] 24)).alloc (.cells #[.bool false, .int .u64 0, .int .u64 0] 24)).alloc (.cells #[.bool false, .int .u64 0, .int .u64 0, .int .i64 0] 26)).alloc (.cells #[.bool false, .int .u64 0, .int .u64 0, .int .i64 0] 26)).alloc (.cells #[.bool false, .int .u64 0, .int .u64 0, .int .i64 0] 26)) = W8 at *
  generalize w8.heap.size = m8 at *
  replace PP : Hid (HasG W8.drew (w.heap.size) v hi lo b) := PP.out
  replace PQ : Hid (HasG W8.drew (w.heap.size + 1) u yi yo c) := PQ.out
  replace PX : Hid (HasG W8.drew (m2) xv xh xl xb) := PX.out
  replace EA : Hid (HasF W8.drew (m4) (.bool v) (.int .u64 hi) (.int .u64 lo)) := EA.out
  replace EB : Hid (HasF W8.drew (m4 + 1) (.bool v) (.int .u64 lh) (.int .u64 ll)) := EB.out
  replace HC : Hid (HasG W8.drew (m5) v hi lo (b + 1)) := HC.out
  replace HD : Hid (HasG W8.drew (m5 + 1) v gh gl (b + 1)) := HD.out
  replace PW : Hid (HasG W8.drew (m6) v hi lo (b - 1)) := PW.out
  replace FI : Hid (HasF W8.drew (m8) (.bool false) (.int .u64 0) (.int .u64 0)) := FI.out
  replace LA : Hid (HasF W8.drew (m8 + 1) (.bool false) (.int .u64 0) (.int .u64 0)) := LA.out
  replace ON : Hid (HasG W8.drew (m8 + 1 + 1) false 0 0 0) := ON.out
  replace TW : Hid (HasG W8.drew (m8 + 1 + 1 + 1) false 0 0 0) := TW.out
  replace WH : Hid (HasG W8.drew (m8 + 1 + 1 + 1 + 1) false 0 0 0) := WH.out
  replace B : Hid (Below w.heap.size w W8.drew) := B.out.drew
  have HS0 : (W8.drew.cell? ⟨w.heap.size, 0, none⟩ = some (.bool v) ∧ W8.drew.cell? ⟨w.heap.size, 1, none⟩ = some (.int .u64 hi) ∧ W8.drew.cell? ⟨w.heap.size, 2, none⟩ = some (.int .u64 lo) ∧ W8.drew.cell? ⟨w.heap.size, 3, none⟩ = some (.int .i64 b) ∧ w.heap.size < W8.drew.heap.size) ∧ Below w.heap.size w W8.drew := ⟨PP.out.1, B.out⟩
  have nq1 := Ne.symm LPPFI.out
  have nq2 := Ne.symm LPPLA.out
  have gq1 := GFI.out
  have gq2 := GLA.out
  go_region_held3 (fun w' => (w'.cell? ⟨w.heap.size, 0, none⟩ = some (.bool v) ∧ w'.cell? ⟨w.heap.size, 1, none⟩ = some (.int .u64 hi) ∧ w'.cell? ⟨w.heap.size, 2, none⟩ = some (.int .u64 lo) ∧ w'.cell? ⟨w.heap.size, 3, none⟩ = some (.int .i64 b) ∧ w.heap.size < w'.heap.size) ∧ Below w.heap.size w w')
    (first | with_reducible exact HS0 | with_reducible exact keep3s (by with_reducible assumption) nq1 gq1 | with_reducible exact keep3s (by with_reducible assumption) nq2 gq2 | with_reducible exact keep4b (by with_reducible assumption) (by with_reducible assumption))
    (first
      | (go_at_call 11; refine (h9.out _).mono ?_; rintro e u1 ⟨rfl, hb1⟩; have PPk1 : Hid (HasG u1 (w.heap.size) v hi lo b) := PP.out.below hb1; have PQk1 : Hid (HasG u1 (w.heap.size + 1) u yi yo c) := PQ.out.below hb1; have PXk1 : Hid (HasG u1 (m2) xv xh xl xb) := PX.out.below hb1; have EAk1 : Hid (HasF u1 (m4) (.bool v) (.int .u64 hi) (.int .u64 lo)) := EA.out.below hb1; have EBk1 : Hid (HasF u1 (m4 + 1) (.bool v) (.int .u64 lh) (.int .u64 ll)) := EB.out.below hb1; have HCk1 : Hid (HasG u1 (m5) v hi lo (b + 1)) := HC.out.below hb1; have HDk1 : Hid (HasG u1 (m5 + 1) v gh gl (b + 1)) := HD.out.below hb1; have PWk1 : Hid (HasG u1 (m6) v hi lo (b - 1)) := PW.out.below hb1; have FIk1 : Hid (HasF u1 (m8) (.bool false) (.int .u64 0) (.int .u64 0)) := FI.out.below hb1; have LAk1 : Hid (HasF u1 (m8 + 1) (.bool false) (.int .u64 0) (.int .u64 0)) := LA.out.below hb1; have ONk1 : Hid (HasG u1 (m8 + 1 + 1) false 0 0 0) := ON.out.below hb1; have TWk1 : Hid (HasG u1 (m8 + 1 + 1 + 1) false 0 0 0) := TW.out.below hb1; have WHk1 : Hid (HasG u1 (m8 + 1 + 1 + 1 + 1) false 0 0 0) := WH.out.below hb1; have Bk1 : Hid (Below w.heap.size w u1) := btr B.out hb1)
      | (go_at_call 12; refine (h10.out _).mono ?_; rintro e u2 ⟨rfl, hb2⟩; have PPk2 : Hid (HasG u2 (w.heap.size) v hi lo b) := PPk1.out.below hb2; have PQk2 : Hid (HasG u2 (w.heap.size + 1) u yi yo c) := PQk1.out.below hb2; have PXk2 : Hid (HasG u2 (m2) xv xh xl xb) := PXk1.out.below hb2; have EAk2 : Hid (HasF u2 (m4) (.bool v) (.int .u64 hi) (.int .u64 lo)) := EAk1.out.below hb2; have EBk2 : Hid (HasF u2 (m4 + 1) (.bool v) (.int .u64 lh) (.int .u64 ll)) := EBk1.out.below hb2; have HCk2 : Hid (HasG u2 (m5) v hi lo (b + 1)) := HCk1.out.below hb2; have HDk2 : Hid (HasG u2 (m5 + 1) v gh gl (b + 1)) := HDk1.out.below hb2; have PWk2 : Hid (HasG u2 (m6) v hi lo (b - 1)) := PWk1.out.below hb2; have FIk2 : Hid (HasF u2 (m8) (.bool false) (.int .u64 0) (.int .u64 0)) := FIk1.out.below hb2; have LAk2 : Hid (HasF u2 (m8 + 1) (.bool false) (.int .u64 0) (.int .u64 0)) := LAk1.out.below hb2; have ONk2 : Hid (HasG u2 (m8 + 1 + 1) false 0 0 0) := ONk1.out.below hb2; have TWk2 : Hid (HasG u2 (m8 + 1 + 1 + 1) false 0 0 0) := TWk1.out.below hb2; have WHk2 : Hid (HasG u2 (m8 + 1 + 1 + 1 + 1) false 0 0 0) := WHk1.out.below hb2; have Bk2 : Hid (Below w.heap.size w u2) := btr Bk1.out hb2; obtain ⟨⟨FIa0, FIa1, FIa2, FIa3⟩, FIF⟩ := FIk2.out; have FIf0 := FIF 0; have FIf1 := FIF 1; have FIf2 := FIF 2; clear FIF; obtain ⟨⟨LAa0, LAa1, LAa2, LAa3⟩, LAF⟩ := LAk2.out; have LAf0 := LAF 0; have LAf1 := LAF 1; have LAf2 := LAF 2; clear LAF))
  replace PP := PPk2
  replace PQ := PQk2
  replace PX := PXk2
  replace EA := EAk2
  replace EB := EBk2
  replace HC := HCk2
  replace HD := HDk2
  replace PW := PWk2
  replace FI := FIk2
  replace LA := LAk2
  replace ON := ONk2
  replace TW := TWk2
  replace WH := WHk2
  replace B := Bk2
  clear PPk1 PQk1 PXk1 EAk1 EBk1 HCk1 HDk1 PWk1 FIk1 LAk1 ONk1 TWk1 WHk1 Bk1 PPk2 PQk2 PXk2 EAk2 EBk2 HCk2 HDk2 PWk2 FIk2 LAk2 ONk2 TWk2 WHk2 Bk2 HS0 nq1 nq2 gq1 gq2
  replace PP : Hid (HasG (((u2.setCell ⟨m8, 0, none⟩ (.bool v)).setCell ⟨m8, 1, none⟩ (.int .u64 hi)).setCell ⟨m8, 2, none⟩ (.int .u64 lo)) (w.heap.size) v hi lo b) := PP.out.other3 LPPFI.out _ _ _
  replace PQ : Hid (HasG (((u2.setCell ⟨m8, 0, none⟩ (.bool v)).setCell ⟨m8, 1, none⟩ (.int .u64 hi)).setCell ⟨m8, 2, none⟩ (.int .u64 lo)) (w.heap.size + 1) u yi yo c) := PQ.out.other3 LPQFI.out _ _ _
  replace PX : Hid (HasG (((u2.setCell ⟨m8, 0, none⟩ (.bool v)).setCell ⟨m8, 1, none⟩ (.int .u64 hi)).setCell ⟨m8, 2, none⟩ (.int .u64 lo)) (m2) xv xh xl xb) := PX.out.other3 LPXFI.out _ _ _
  replace EA : Hid (HasF (((u2.setCell ⟨m8, 0, none⟩ (.bool v)).setCell ⟨m8, 1, none⟩ (.int .u64 hi)).setCell ⟨m8, 2, none⟩ (.int .u64 lo)) (m4) (.bool v) (.int .u64 hi) (.int .u64 lo)) := EA.out.other3 LEAFI.out _ _ _
  replace EB : Hid (HasF (((u2.setCell ⟨m8, 0, none⟩ (.bool v)).setCell ⟨m8, 1, none⟩ (.int .u64 hi)).setCell ⟨m8, 2, none⟩ (.int .u64 lo)) (m4 + 1) (.bool v) (.int .u64 lh) (.int .u64 ll)) := EB.out.other3 LEBFI.out _ _ _
  replace HC : Hid (HasG (((u2.setCell ⟨m8, 0, none⟩ (.bool v)).setCell ⟨m8, 1, none⟩ (.int .u64 hi)).setCell ⟨m8, 2, none⟩ (.int .u64 lo)) (m5) v hi lo (b + 1)) := HC.out.other3 LHCFI.out _ _ _
  replace HD : Hid (HasG (((u2.setCell ⟨m8, 0, none⟩ (.bool v)).setCell ⟨m8, 1, none⟩ (.int .u64 hi)).setCell ⟨m8, 2, none⟩ (.int .u64 lo)) (m5 + 1) v gh gl (b + 1)) := HD.out.other3 LHDFI.out _ _ _
  replace PW : Hid (HasG (((u2.setCell ⟨m8, 0, none⟩ (.bool v)).setCell ⟨m8, 1, none⟩ (.int .u64 hi)).setCell ⟨m8, 2, none⟩ (.int .u64 lo)) (m6) v hi lo (b - 1)) := PW.out.other3 LPWFI.out _ _ _
  replace LA : Hid (HasF (((u2.setCell ⟨m8, 0, none⟩ (.bool v)).setCell ⟨m8, 1, none⟩ (.int .u64 hi)).setCell ⟨m8, 2, none⟩ (.int .u64 lo)) (m8 + 1) (.bool false) (.int .u64 0) (.int .u64 0)) := LA.out.other3 (Ne.symm LFILA.out) _ _ _
  replace ON : Hid (HasG (((u2.setCell ⟨m8, 0, none⟩ (.bool v)).setCell ⟨m8, 1, none⟩ (.int .u64 hi)).setCell ⟨m8, 2, none⟩ (.int .u64 lo)) (m8 + 1 + 1) false 0 0 0) := ON.out.other3 (Ne.symm LFION.out) _ _ _
  replace TW : Hid (HasG (((u2.setCell ⟨m8, 0, none⟩ (.bool v)).setCell ⟨m8, 1, none⟩ (.int .u64 hi)).setCell ⟨m8, 2, none⟩ (.int .u64 lo)) (m8 + 1 + 1 + 1) false 0 0 0) := TW.out.other3 (Ne.symm LFITW.out) _ _ _
  replace WH : Hid (HasG (((u2.setCell ⟨m8, 0, none⟩ (.bool v)).setCell ⟨m8, 1, none⟩ (.int .u64 hi)).setCell ⟨m8, 2, none⟩ (.int .u64 lo)) (m8 + 1 + 1 + 1 + 1) false 0 0 0) := WH.out.other3 (Ne.symm LFIWH.out) _ _ _
  replace FI : Hid (HasF (((u2.setCell ⟨m8, 0, none⟩ (.bool v)).setCell ⟨m8, 1, none⟩ (.int .u64 hi)).setCell ⟨m8, 2, none⟩ (.int .u64 lo)) (m8) (.bool v) (.int .u64 hi) (.int .u64 lo)) := FI.out.store _ _ _
  replace B : Hid (Below w.heap.size w (((u2.setCell ⟨m8, 0, none⟩ (.bool v)).setCell ⟨m8, 1, none⟩ (.int .u64 hi)).setCell ⟨m8, 2, none⟩ (.int .u64 lo))) := bse (bse (bse (B.out) GFI.out _) GFI.out _) GFI.out _
  replace PP : Hid (HasG ((((((u2.setCell ⟨m8, 0, none⟩ (.bool v)).setCell ⟨m8, 1, none⟩ (.int .u64 hi)).setCell ⟨m8, 2, none⟩ (.int .u64 lo)).setCell ⟨m8 + 1, 0, none⟩ (.bool v)).setCell ⟨m8 + 1, 1, none⟩ (.int .u64 lh)).setCell ⟨m8 + 1, 2, none⟩ (.int .u64 ll)) (w.heap.size) v hi lo b) := PP.out.other3 LPPLA.out _ _ _
  replace PQ : Hid (HasG ((((((u2.setCell ⟨m8, 0, none⟩ (.bool v)).setCell ⟨m8, 1, none⟩ (.int .u64 hi)).setCell ⟨m8, 2, none⟩ (.int .u64 lo)).setCell ⟨m8 + 1, 0, none⟩ (.bool v)).setCell ⟨m8 + 1, 1, none⟩ (.int .u64 lh)).setCell ⟨m8 + 1, 2, none⟩ (.int .u64 ll)) (w.heap.size + 1) u yi yo c) := PQ.out.other3 LPQLA.out _ _ _
  replace PX : Hid (HasG ((((((u2.setCell ⟨m8, 0, none⟩ (.bool v)).setCell ⟨m8, 1, none⟩ (.int .u64 hi)).setCell ⟨m8, 2, none⟩ (.int .u64 lo)).setCell ⟨m8 + 1, 0, none⟩ (.bool v)).setCell ⟨m8 + 1, 1, none⟩ (.int .u64 lh)).setCell ⟨m8 + 1, 2, none⟩ (.int .u64 ll)) (m2) xv xh xl xb) := PX.out.other3 LPXLA.out _ _ _
  replace EA : Hid (HasF ((((((u2.setCell ⟨m8, 0, none⟩ (.bool v)).setCell ⟨m8, 1, none⟩ (.int .u64 hi)).setCell ⟨m8, 2, none⟩ (.int .u64 lo)).setCell ⟨m8 + 1, 0, none⟩ (.bool v)).setCell ⟨m8 + 1, 1, none⟩ (.int .u64 lh)).setCell ⟨m8 + 1, 2, none⟩ (.int .u64 ll)) (m4) (.bool v) (.int .u64 hi) (.int .u64 lo)) := EA.out.other3 LEALA.out _ _ _
  replace EB : Hid (HasF ((((((u2.setCell ⟨m8, 0, none⟩ (.bool v)).setCell ⟨m8, 1, none⟩ (.int .u64 hi)).setCell ⟨m8, 2, none⟩ (.int .u64 lo)).setCell ⟨m8 + 1, 0, none⟩ (.bool v)).setCell ⟨m8 + 1, 1, none⟩ (.int .u64 lh)).setCell ⟨m8 + 1, 2, none⟩ (.int .u64 ll)) (m4 + 1) (.bool v) (.int .u64 lh) (.int .u64 ll)) := EB.out.other3 LEBLA.out _ _ _
  replace HC : Hid (HasG ((((((u2.setCell ⟨m8, 0, none⟩ (.bool v)).setCell ⟨m8, 1, none⟩ (.int .u64 hi)).setCell ⟨m8, 2, none⟩ (.int .u64 lo)).setCell ⟨m8 + 1, 0, none⟩ (.bool v)).setCell ⟨m8 + 1, 1, none⟩ (.int .u64 lh)).setCell ⟨m8 + 1, 2, none⟩ (.int .u64 ll)) (m5) v hi lo (b + 1)) := HC.out.other3 LHCLA.out _ _ _
  replace HD : Hid (HasG ((((((u2.setCell ⟨m8, 0, none⟩ (.bool v)).setCell ⟨m8, 1, none⟩ (.int .u64 hi)).setCell ⟨m8, 2, none⟩ (.int .u64 lo)).setCell ⟨m8 + 1, 0, none⟩ (.bool v)).setCell ⟨m8 + 1, 1, none⟩ (.int .u64 lh)).setCell ⟨m8 + 1, 2, none⟩ (.int .u64 ll)) (m5 + 1) v gh gl (b + 1)) := HD.out.other3 LHDLA.out _ _ _
  replace PW : Hid (HasG ((((((u2.setCell ⟨m8, 0, none⟩ (.bool v)).setCell ⟨m8, 1, none⟩ (.int .u64 hi)).setCell ⟨m8, 2, none⟩ (.int .u64 lo)).setCell ⟨m8 + 1, 0, none⟩ (.bool v)).setCell ⟨m8 + 1, 1, none⟩ (.int .u64 lh)).setCell ⟨m8 + 1, 2, none⟩ (.int .u64 ll)) (m6) v hi lo (b - 1)) := PW.out.other3 LPWLA.out _ _ _
  replace FI : Hid (HasF ((((((u2.setCell ⟨m8, 0, none⟩ (.bool v)).setCell ⟨m8, 1, none⟩ (.int .u64 hi)).setCell ⟨m8, 2, none⟩ (.int .u64 lo)).setCell ⟨m8 + 1, 0, none⟩ (.bool v)).setCell ⟨m8 + 1, 1, none⟩ (.int .u64 lh)).setCell ⟨m8 + 1, 2, none⟩ (.int .u64 ll)) (m8) (.bool v) (.int .u64 hi) (.int .u64 lo)) := FI.out.other3 LFILA.out _ _ _
  replace ON : Hid (HasG ((((((u2.setCell ⟨m8, 0, none⟩ (.bool v)).setCell ⟨m8, 1, none⟩ (.int .u64 hi)).setCell ⟨m8, 2, none⟩ (.int .u64 lo)).setCell ⟨m8 + 1, 0, none⟩ (.bool v)).setCell ⟨m8 + 1, 1, none⟩ (.int .u64 lh)).setCell ⟨m8 + 1, 2, none⟩ (.int .u64 ll)) (m8 + 1 + 1) false 0 0 0) := ON.out.other3 (Ne.symm LLAON.out) _ _ _
  replace TW : Hid (HasG ((((((u2.setCell ⟨m8, 0, none⟩ (.bool v)).setCell ⟨m8, 1, none⟩ (.int .u64 hi)).setCell ⟨m8, 2, none⟩ (.int .u64 lo)).setCell ⟨m8 + 1, 0, none⟩ (.bool v)).setCell ⟨m8 + 1, 1, none⟩ (.int .u64 lh)).setCell ⟨m8 + 1, 2, none⟩ (.int .u64 ll)) (m8 + 1 + 1 + 1) false 0 0 0) := TW.out.other3 (Ne.symm LLATW.out) _ _ _
  replace WH : Hid (HasG ((((((u2.setCell ⟨m8, 0, none⟩ (.bool v)).setCell ⟨m8, 1, none⟩ (.int .u64 hi)).setCell ⟨m8, 2, none⟩ (.int .u64 lo)).setCell ⟨m8 + 1, 0, none⟩ (.bool v)).setCell ⟨m8 + 1, 1, none⟩ (.int .u64 lh)).setCell ⟨m8 + 1, 2, none⟩ (.int .u64 ll)) (m8 + 1 + 1 + 1 + 1) false 0 0 0) := WH.out.other3 (Ne.symm LLAWH.out) _ _ _
  replace LA : Hid (HasF ((((((u2.setCell ⟨m8, 0, none⟩ (.bool v)).setCell ⟨m8, 1, none⟩ (.int .u64 hi)).setCell ⟨m8, 2, none⟩ (.int .u64 lo)).setCell ⟨m8 + 1, 0, none⟩ (.bool v)).setCell ⟨m8 + 1, 1, none⟩ (.int .u64 lh)).setCell ⟨m8 + 1, 2, none⟩ (.int .u64 ll)) (m8 + 1) (.bool v) (.int .u64 lh) (.int .u64 ll)) := LA.out.store _ _ _
  replace B : Hid (Below w.heap.size w ((((((u2.setCell ⟨m8, 0, none⟩ (.bool v)).setCell ⟨m8, 1, none⟩ (.int .u64 hi)).setCell ⟨m8, 2, none⟩ (.int .u64 lo)).setCell ⟨m8 + 1, 0, none⟩ (.bool v)).setCell ⟨m8 + 1, 1, none⟩ (.int .u64 lh)).setCell ⟨m8 + 1, 2, none⟩ (.int .u64 ll))) := bse (bse (bse (B.out) GLA.out _) GLA.out _) GLA.out _
  go_wp2_with fail
  clear FIa0 FIa1 FIa2 FIa3 FIf0 FIf1 FIf2
  clear LAa0 LAa1 LAa2 LAa3 LAf0 LAf1 LAf2
  generalize ((((((u2.setCell ⟨m8, 0, none⟩ (.bool v)).setCell ⟨m8, 1, none⟩ (.int .u64 hi)).setCell ⟨m8, 2, none⟩ (.int .u64 lo)).setCell ⟨m8 + 1, 0, none⟩ (.bool v)).setCell ⟨m8 + 1, 1, none⟩ (.int .u64 lh)).setCell ⟨m8 + 1, 2, none⟩ (.int .u64 ll)) = W20 at *
  replace PP : Hid (HasG W20.drew (w.heap.size) v hi lo b) := PP.out
  replace PQ : Hid (HasG W20.drew (w.heap.size + 1) u yi yo c) := PQ.out
  replace PX : Hid (HasG W20.drew (m2) xv xh xl xb) := PX.out
  replace EA : Hid (HasF W20.drew (m4) (.bool v) (.int .u64 hi) (.int .u64 lo)) := EA.out
  replace EB : Hid (HasF W20.drew (m4 + 1) (.bool v) (.int .u64 lh) (.int .u64 ll)) := EB.out
  replace HC : Hid (HasG W20.drew (m5) v hi lo (b + 1)) := HC.out
  replace HD : Hid (HasG W20.drew (m5 + 1) v gh gl (b + 1)) := HD.out
  replace PW : Hid (HasG W20.drew (m6) v hi lo (b - 1)) := PW.out
  replace FI : Hid (HasF W20.drew (m8) (.bool v) (.int .u64 hi) (.int .u64 lo)) := FI.out
  replace LA : Hid (HasF W20.drew (m8 + 1) (.bool v) (.int .u64 lh) (.int .u64 ll)) := LA.out
  replace ON : Hid (HasG W20.drew (m8 + 1 + 1) false 0 0 0) := ON.out
  replace TW : Hid (HasG W20.drew (m8 + 1 + 1 + 1) false 0 0 0) := TW.out
  replace WH : Hid (HasG W20.drew (m8 + 1 + 1 + 1 + 1) false 0 0 0) := WH.out
  replace B : Hid (Below w.heap.size w W20.drew) := B.out.drew
  have HS0 : (W20.drew.cell? ⟨w.heap.size, 0, none⟩ = some (.bool v) ∧ W20.drew.cell? ⟨w.heap.size, 1, none⟩ = some (.int .u64 hi) ∧ W20.drew.cell? ⟨w.heap.size, 2, none⟩ = some (.int .u64 lo) ∧ W20.drew.cell? ⟨w.heap.size, 3, none⟩ = some (.int .i64 b) ∧ w.heap.size < W20.drew.heap.size) ∧ Below w.heap.size w W20.drew := ⟨PP.out.1, B.out⟩
  go_region_held3 (fun w' => (w'.cell? ⟨w.heap.size, 0, none⟩ = some (.bool v) ∧ w'.cell? ⟨w.heap.size, 1, none⟩ = some (.int .u64 hi) ∧ w'.cell? ⟨w.heap.size, 2, none⟩ = some (.int .u64 lo) ∧ w'.cell? ⟨w.heap.size, 3, none⟩ = some (.int .i64 b) ∧ w.heap.size < w'.heap.size) ∧ Below w.heap.size w w')
    (first | with_reducible exact HS0 | with_reducible exact keep4b (by with_reducible assumption) (by with_reducible assumption))
    ((go_at_call 13; refine (h11.out _).mono ?_; rintro e u3 ⟨rfl, hb3⟩; have PPk3 : Hid (HasG u3 (w.heap.size) v hi lo b) := PP.out.below hb3; have PQk3 : Hid (HasG u3 (w.heap.size + 1) u yi yo c) := PQ.out.below hb3; have PXk3 : Hid (HasG u3 (m2) xv xh xl xb) := PX.out.below hb3; have EAk3 : Hid (HasF u3 (m4) (.bool v) (.int .u64 hi) (.int .u64 lo)) := EA.out.below hb3; have EBk3 : Hid (HasF u3 (m4 + 1) (.bool v) (.int .u64 lh) (.int .u64 ll)) := EB.out.below hb3; have HCk3 : Hid (HasG u3 (m5) v hi lo (b + 1)) := HC.out.below hb3; have HDk3 : Hid (HasG u3 (m5 + 1) v gh gl (b + 1)) := HD.out.below hb3; have PWk3 : Hid (HasG u3 (m6) v hi lo (b - 1)) := PW.out.below hb3; have FIk3 : Hid (HasF u3 (m8) (.bool v) (.int .u64 hi) (.int .u64 lo)) := FI.out.below hb3; have LAk3 : Hid (HasF u3 (m8 + 1) (.bool v) (.int .u64 lh) (.int .u64 ll)) := LA.out.below hb3; have ONk3 : Hid (HasG u3 (m8 + 1 + 1) false 0 0 0) := ON.out.below hb3; have TWk3 : Hid (HasG u3 (m8 + 1 + 1 + 1) false 0 0 0) := TW.out.below hb3; have WHk3 : Hid (HasG u3 (m8 + 1 + 1 + 1 + 1) false 0 0 0) := WH.out.below hb3; have Bk3 : Hid (Below w.heap.size w u3) := btr B.out hb3))
  replace PP := PPk3
  replace PQ := PQk3
  replace PX := PXk3
  replace EA := EAk3
  replace EB := EBk3
  replace HC := HCk3
  replace HD := HDk3
  replace PW := PWk3
  replace FI := FIk3
  replace LA := LAk3
  replace ON := ONk3
  replace TW := TWk3
  replace WH := WHk3
  replace B := Bk3
  clear PPk3 PQk3 PXk3 EAk3 EBk3 HCk3 HDk3 PWk3 FIk3 LAk3 ONk3 TWk3 WHk3 Bk3 HS0
  obtain ⟨⟨PP0, PP1, PP2, PP3, PP4⟩, _⟩ := PP.out
  go_wp2_with fail
  refine (h12.out _).mono ?_
  clear PP0 PP1 PP2 PP3 PP4
  rintro e w31 ⟨rfl, hb⟩
  replace PP : Hid (HasG w31 (w.heap.size) v hi lo b) := PP.out.below hb
  replace PQ : Hid (HasG w31 (w.heap.size + 1) u yi yo c) := PQ.out.below hb
  replace PX : Hid (HasG w31 (m2) xv xh xl xb) := PX.out.below hb
  replace EA : Hid (HasF w31 (m4) (.bool v) (.int .u64 hi) (.int .u64 lo)) := EA.out.below hb
  replace EB : Hid (HasF w31 (m4 + 1) (.bool v) (.int .u64 lh) (.int .u64 ll)) := EB.out.below hb
  replace HC : Hid (HasG w31 (m5) v hi lo (b + 1)) := HC.out.below hb
  replace HD : Hid (HasG w31 (m5 + 1) v gh gl (b + 1)) := HD.out.below hb
  replace PW : Hid (HasG w31 (m6) v hi lo (b - 1)) := PW.out.below hb
  replace FI : Hid (HasF w31 (m8) (.bool v) (.int .u64 hi) (.int .u64 lo)) := FI.out.below hb
  replace LA : Hid (HasF w31 (m8 + 1) (.bool v) (.int .u64 lh) (.int .u64 ll)) := LA.out.below hb
  replace ON : Hid (HasG w31 (m8 + 1 + 1) false 0 0 0) := ON.out.below hb
  replace TW : Hid (HasG w31 (m8 + 1 + 1 + 1) false 0 0 0) := TW.out.below hb
  replace WH : Hid (HasG w31 (m8 + 1 + 1 + 1 + 1) false 0 0 0) := WH.out.below hb
  replace B : Hid (Below w.heap.size w w31) := btr B.out hb
  clear hb
  obtain ⟨⟨ONa0, ONa1, ONa2, ONa3, ONa4⟩, ONF⟩ := ON.out
  have ONf0 := ONF 0
  have ONf1 := ONF 1
  have ONf2 := ONF 2
  have ONf3 := ONF 3
  clear ONF
  replace PP : Hid (HasG ((((w31.setCell ⟨m8 + 1 + 1, 0, none⟩ (.bool v)).setCell ⟨m8 + 1 + 1, 1, none⟩ (.int .u64 hi)).setCell ⟨m8 + 1 + 1, 2, none⟩ (.int .u64 lo)).setCell ⟨m8 + 1 + 1, 3, none⟩ (.int .i64 (b + 1))) (w.heap.size) v hi lo b) := PP.out.other4 LPPON.out _ _ _ _
  replace PQ : Hid (HasG ((((w31.setCell ⟨m8 + 1 + 1, 0, none⟩ (.bool v)).setCell ⟨m8 + 1 + 1, 1, none⟩ (.int .u64 hi)).setCell ⟨m8 + 1 + 1, 2, none⟩ (.int .u64 lo)).setCell ⟨m8 + 1 + 1, 3, none⟩ (.int .i64 (b + 1))) (w.heap.size + 1) u yi yo c) := PQ.out.other4 LPQON.out _ _ _ _
  replace PX : Hid (HasG ((((w31.setCell ⟨m8 + 1 + 1, 0, none⟩ (.bool v)).setCell ⟨m8 + 1 + 1, 1, none⟩ (.int .u64 hi)).setCell ⟨m8 + 1 + 1, 2, none⟩ (.int .u64 lo)).setCell ⟨m8 + 1 + 1, 3, none⟩ (.int .i64 (b + 1))) (m2) xv xh xl xb) := PX.out.other4 LPXON.out _ _ _ _
  replace EA : Hid (HasF ((((w31.setCell ⟨m8 + 1 + 1, 0, none⟩ (.bool v)).setCell ⟨m8 + 1 + 1, 1, none⟩ (.int .u64 hi)).setCell ⟨m8 + 1 + 1, 2, none⟩ (.int .u64 lo)).setCell ⟨m8 + 1 + 1, 3, none⟩ (.int .i64 (b + 1))) (m4) (.bool v) (.int .u64 hi) (.int .u64 lo)) := EA.out.other4 LEAON.out _ _ _ _
  replace EB : Hid (HasF ((((w31.setCell ⟨m8 + 1 + 1, 0, none⟩ (.bool v)).setCell ⟨m8 + 1 + 1, 1, none⟩ (.int .u64 hi)).setCell ⟨m8 + 1 + 1, 2, none⟩ (.int .u64 lo)).setCell ⟨m8 + 1 + 1, 3, none⟩ (.int .i64 (b + 1))) (m4 + 1) (.bool v) (.int .u64 lh) (.int .u64 ll)) := EB.out.other4 LEBON.out _ _ _ _
  replace HC : Hid (HasG ((((w31.setCell ⟨m8 + 1 + 1, 0, none⟩ (.bool v)).setCell ⟨m8 + 1 + 1, 1, none⟩ (.int .u64 hi)).setCell ⟨m8 + 1 + 1, 2, none⟩ (.int .u64 lo)).setCell ⟨m8 + 1 + 1, 3, none⟩ (.int .i64 (b + 1))) (m5) v hi lo (b + 1)) := HC.out.other4 LHCON.out _ _ _ _
  replace HD : Hid (HasG ((((w31.setCell ⟨m8 + 1 + 1, 0, none⟩ (.bool v)).setCell ⟨m8 + 1 + 1, 1, none⟩ (.int .u64 hi)).setCell ⟨m8 + 1 + 1, 2, none⟩ (.int .u64 lo)).setCell ⟨m8 + 1 + 1, 3, none⟩ (.int .i64 (b + 1))) (m5 + 1) v gh gl (b + 1)) := HD.out.other4 LHDON.out _ _ _ _
  replace PW : Hid (HasG ((((w31.setCell ⟨m8 + 1 + 1, 0, none⟩ (.bool v)).setCell ⟨m8 + 1 + 1, 1, none⟩ (.int .u64 hi)).setCell ⟨m8 + 1 + 1, 2, none⟩ (.int .u64 lo)).setCell ⟨m8 + 1 + 1, 3, none⟩ (.int .i64 (b + 1))) (m6) v hi lo (b - 1)) := PW.out.other4 LPWON.out _ _ _ _
  replace FI : Hid (HasF ((((w31.setCell ⟨m8 + 1 + 1, 0, none⟩ (.bool v)).setCell ⟨m8 + 1 + 1, 1, none⟩ (.int .u64 hi)).setCell ⟨m8 + 1 + 1, 2, none⟩ (.int .u64 lo)).setCell ⟨m8 + 1 + 1, 3, none⟩ (.int .i64 (b + 1))) (m8) (.bool v) (.int .u64 hi) (.int .u64 lo)) := FI.out.other4 LFION.out _ _ _ _
  replace LA : Hid (HasF ((((w31.setCell ⟨m8 + 1 + 1, 0, none⟩ (.bool v)).setCell ⟨m8 + 1 + 1, 1, none⟩ (.int .u64 hi)).setCell ⟨m8 + 1 + 1, 2, none⟩ (.int .u64 lo)).setCell ⟨m8 + 1 + 1, 3, none⟩ (.int .i64 (b + 1))) (m8 + 1) (.bool v) (.int .u64 lh) (.int .u64 ll)) := LA.out.other4 LLAON.out _ _ _ _
  replace TW : Hid (HasG ((((w31.setCell ⟨m8 + 1 + 1, 0, none⟩ (.bool v)).setCell ⟨m8 + 1 + 1, 1, none⟩ (.int .u64 hi)).setCell ⟨m8 + 1 + 1, 2, none⟩ (.int .u64 lo)).setCell ⟨m8 + 1 + 1, 3, none⟩ (.int .i64 (b + 1))) (m8 + 1 + 1 + 1) false 0 0 0) := TW.out.other4 (Ne.symm LONTW.out) _ _ _ _
  replace WH : Hid (HasG ((((w31.setCell ⟨m8 + 1 + 1, 0, none⟩ (.bool v)).setCell ⟨m8 + 1 + 1, 1, none⟩ (.int .u64 hi)).setCell ⟨m8 + 1 + 1, 2, none⟩ (.int .u64 lo)).setCell ⟨m8 + 1 + 1, 3, none⟩ (.int .i64 (b + 1))) (m8 + 1 + 1 + 1 + 1) false 0 0 0) := WH.out.other4 (Ne.symm LONWH.out) _ _ _ _
  replace ON : Hid (HasG ((((w31.setCell ⟨m8 + 1 + 1, 0, none⟩ (.bool v)).setCell ⟨m8 + 1 + 1, 1, none⟩ (.int .u64 hi)).setCell ⟨m8 + 1 + 1, 2, none⟩ (.int .u64 lo)).setCell ⟨m8 + 1 + 1, 3, none⟩ (.int .i64 (b + 1))) (m8 + 1 + 1) v hi lo (b + 1)) := ON.out.store _ _ _ _
  replace B : Hid (Below w.heap.size w ((((w31.setCell ⟨m8 + 1 + 1, 0, none⟩ (.bool v)).setCell ⟨m8 + 1 + 1, 1, none⟩ (.int .u64 hi)).setCell ⟨m8 + 1 + 1, 2, none⟩ (.int .u64 lo)).setCell ⟨m8 + 1 + 1, 3, none⟩ (.int .i64 (b + 1)))) := bse (bse (bse (bse (B.out) GON.out _) GON.out _) GON.out _) GON.out _
  obtain ⟨⟨TWa0, TWa1, TWa2, TWa3, TWa4⟩, TWF⟩ := TW.out
  have TWf0 := TWF 0
  have TWf1 := TWF 1
  have TWf2 := TWF 2
  have TWf3 := TWF 3
  clear TWF
  replace PP : Hid (HasG ((((((((w31.setCell ⟨m8 + 1 + 1, 0, none⟩ (.bool v)).setCell ⟨m8 + 1 + 1, 1, none⟩ (.int .u64 hi)).setCell ⟨m8 + 1 + 1, 2, none⟩ (.int .u64 lo)).setCell ⟨m8 + 1 + 1, 3, none⟩ (.int .i64 (b + 1))).setCell ⟨m8 + 1 + 1 + 1, 0, none⟩ (.bool v)).setCell ⟨m8 + 1 + 1 + 1, 1, none⟩ (.int .u64 gh)).setCell ⟨m8 + 1 + 1 + 1, 2, none⟩ (.int .u64 gl)).setCell ⟨m8 + 1 + 1 + 1, 3, none⟩ (.int .i64 (b + 1))) (w.heap.size) v hi lo b) := PP.out.other4 LPPTW.out _ _ _ _
  replace PQ : Hid (HasG ((((((((w31.setCell ⟨m8 + 1 + 1, 0, none⟩ (.bool v)).setCell ⟨m8 + 1 + 1, 1, none⟩ (.int .u64 hi)).setCell ⟨m8 + 1 + 1, 2, none⟩ (.int .u64 lo)).setCell ⟨m8 + 1 + 1, 3, none⟩ (.int .i64 (b + 1))).setCell ⟨m8 + 1 + 1 + 1, 0, none⟩ (.bool v)).setCell ⟨m8 + 1 + 1 + 1, 1, none⟩ (.int .u64 gh)).setCell ⟨m8 + 1 + 1 + 1, 2, none⟩ (.int .u64 gl)).setCell ⟨m8 + 1 + 1 + 1, 3, none⟩ (.int .i64 (b + 1))) (w.heap.size + 1) u yi yo c) := PQ.out.other4 LPQTW.out _ _ _ _
  replace PX : Hid (HasG ((((((((w31.setCell ⟨m8 + 1 + 1, 0, none⟩ (.bool v)).setCell ⟨m8 + 1 + 1, 1, none⟩ (.int .u64 hi)).setCell ⟨m8 + 1 + 1, 2, none⟩ (.int .u64 lo)).setCell ⟨m8 + 1 + 1, 3, none⟩ (.int .i64 (b + 1))).setCell ⟨m8 + 1 + 1 + 1, 0, none⟩ (.bool v)).setCell ⟨m8 + 1 + 1 + 1, 1, none⟩ (.int .u64 gh)).setCell ⟨m8 + 1 + 1 + 1, 2, none⟩ (.int .u64 gl)).setCell ⟨m8 + 1 + 1 + 1, 3, none⟩ (.int .i64 (b + 1))) (m2) xv xh xl xb) := PX.out.other4 LPXTW.out _ _ _ _
  replace EA : Hid (HasF ((((((((w31.setCell ⟨m8 + 1 + 1, 0, none⟩ (.bool v)).setCell ⟨m8 + 1 + 1, 1, none⟩ (.int .u64 hi)).setCell ⟨m8 + 1 + 1, 2, none⟩ (.int .u64 lo)).setCell ⟨m8 + 1 + 1, 3, none⟩ (.int .i64 (b + 1))).setCell ⟨m8 + 1 + 1 + 1, 0, none⟩ (.bool v)).setCell ⟨m8 + 1 + 1 + 1, 1, none⟩ (.int .u64 gh)).setCell ⟨m8 + 1 + 1 + 1, 2, none⟩ (.int .u64 gl)).setCell ⟨m8 + 1 + 1 + 1, 3, none⟩ (.int .i64 (b + 1))) (m4) (.bool v) (.int .u64 hi) (.int .u64 lo)) := EA.out.other4 LEATW.out _ _ _ _
  replace EB : Hid (HasF ((((((((w31.setCell ⟨m8 + 1 + 1, 0, none⟩ (.bool v)).setCell ⟨m8 + 1 + 1, 1, none⟩ (.int .u64 hi)).setCell ⟨m8 + 1 + 1, 2, none⟩ (.int .u64 lo)).setCell ⟨m8 + 1 + 1, 3, none⟩ (.int .i64 (b + 1))).setCell ⟨m8 + 1 + 1 + 1, 0, none⟩ (.bool v)).setCell ⟨m8 + 1 + 1 + 1, 1, none⟩ (.int .u64 gh)).setCell ⟨m8 + 1 + 1 + 1, 2, none⟩ (.int .u64 gl)).setCell ⟨m8 + 1 + 1 + 1, 3, none⟩ (.int .i64 (b + 1))) (m4 + 1) (.bool v) (.int .u64 lh) (.int .u64 ll)) := EB.out.other4 LEBTW.out _ _ _ _
  replace HC : Hid (HasG ((((((((w31.setCell ⟨m8 + 1 + 1, 0, none⟩ (.bool v)).setCell ⟨m8 + 1 + 1, 1, none⟩ (.int .u64 hi)).setCell ⟨m8 + 1 + 1, 2, none⟩ (.int .u64 lo)).setCell ⟨m8 + 1 + 1, 3, none⟩ (.int .i64 (b + 1))).setCell ⟨m8 + 1 + 1 + 1, 0, none⟩ (.bool v)).setCell ⟨m8 + 1 + 1 + 1, 1, none⟩ (.int .u64 gh)).setCell ⟨m8 + 1 + 1 + 1, 2, none⟩ (.int .u64 gl)).setCell ⟨m8 + 1 + 1 + 1, 3, none⟩ (.int .i64 (b + 1))) (m5) v hi lo (b + 1)) := HC.out.other4 LHCTW.out _ _ _ _
  replace HD : Hid (HasG ((((((((w31.setCell ⟨m8 + 1 + 1, 0, none⟩ (.bool v)).setCell ⟨m8 + 1 + 1, 1, none⟩ (.int .u64 hi)).setCell ⟨m8 + 1 + 1, 2, none⟩ (.int .u64 lo)).setCell ⟨m8 + 1 + 1, 3, none⟩ (.int .i64 (b + 1))).setCell ⟨m8 + 1 + 1 + 1, 0, none⟩ (.bool v)).setCell ⟨m8 + 1 + 1 + 1, 1, none⟩ (.int .u64 gh)).setCell ⟨m8 + 1 + 1 + 1, 2, none⟩ (.int .u64 gl)).setCell ⟨m8 + 1 + 1 + 1, 3, none⟩ (.int .i64 (b + 1))) (m5 + 1) v gh gl (b + 1)) := HD.out.other4 LHDTW.out _ _ _ _
  replace PW : Hid (HasG ((((((((w31.setCell ⟨m8 + 1 + 1, 0, none⟩ (.bool v)).setCell ⟨m8 + 1 + 1, 1, none⟩ (.int .u64 hi)).setCell ⟨m8 + 1 + 1, 2, none⟩ (.int .u64 lo)).setCell ⟨m8 + 1 + 1, 3, none⟩ (.int .i64 (b + 1))).setCell ⟨m8 + 1 + 1 + 1, 0, none⟩ (.bool v)).setCell ⟨m8 + 1 + 1 + 1, 1, none⟩ (.int .u64 gh)).setCell ⟨m8 + 1 + 1 + 1, 2, none⟩ (.int .u64 gl)).setCell ⟨m8 + 1 + 1 + 1, 3, none⟩ (.int .i64 (b + 1))) (m6) v hi lo (b - 1)) := PW.out.other4 LPWTW.out _ _ _ _
  replace FI : Hid (HasF ((((((((w31.setCell ⟨m8 + 1 + 1, 0, none⟩ (.bool v)).setCell ⟨m8 + 1 + 1, 1, none⟩ (.int .u64 hi)).setCell ⟨m8 + 1 + 1, 2, none⟩ (.int .u64 lo)).setCell ⟨m8 + 1 + 1, 3, none⟩ (.int .i64 (b + 1))).setCell ⟨m8 + 1 + 1 + 1, 0, none⟩ (.bool v)).setCell ⟨m8 + 1 + 1 + 1, 1, none⟩ (.int .u64 gh)).setCell ⟨m8 + 1 + 1 + 1, 2, none⟩ (.int .u64 gl)).setCell ⟨m8 + 1 + 1 + 1, 3, none⟩ (.int .i64 (b + 1))) (m8) (.bool v) (.int .u64 hi) (.int .u64 lo)) := FI.out.other4 LFITW.out _ _ _ _
  replace LA : Hid (HasF ((((((((w31.setCell ⟨m8 + 1 + 1, 0, none⟩ (.bool v)).setCell ⟨m8 + 1 + 1, 1, none⟩ (.int .u64 hi)).setCell ⟨m8 + 1 + 1, 2, none⟩ (.int .u64 lo)).setCell ⟨m8 + 1 + 1, 3, none⟩ (.int .i64 (b + 1))).setCell ⟨m8 + 1 + 1 + 1, 0, none⟩ (.bool v)).setCell ⟨m8 + 1 + 1 + 1, 1, none⟩ (.int .u64 gh)).setCell ⟨m8 + 1 + 1 + 1, 2, none⟩ (.int .u64 gl)).setCell ⟨m8 + 1 + 1 + 1, 3, none⟩ (.int .i64 (b + 1))) (m8 + 1) (.bool v) (.int .u64 lh) (.int .u64 ll)) := LA.out.other4 LLATW.out _ _ _ _
  replace ON : Hid (HasG ((((((((w31.setCell ⟨m8 + 1 + 1, 0, none⟩ (.bool v)).setCell ⟨m8 + 1 + 1, 1, none⟩ (.int .u64 hi)).setCell ⟨m8 + 1 + 1, 2, none⟩ (.int .u64 lo)).setCell ⟨m8 + 1 + 1, 3, none⟩ (.int .i64 (b + 1))).setCell ⟨m8 + 1 + 1 + 1, 0, none⟩ (.bool v)).setCell ⟨m8 + 1 + 1 + 1, 1, none⟩ (.int .u64 gh)).setCell ⟨m8 + 1 + 1 + 1, 2, none⟩ (.int .u64 gl)).setCell ⟨m8 + 1 + 1 + 1, 3, none⟩ (.int .i64 (b + 1))) (m8 + 1 + 1) v hi lo (b + 1)) := ON.out.other4 LONTW.out _ _ _ _
  replace WH : Hid (HasG ((((((((w31.setCell ⟨m8 + 1 + 1, 0, none⟩ (.bool v)).setCell ⟨m8 + 1 + 1, 1, none⟩ (.int .u64 hi)).setCell ⟨m8 + 1 + 1, 2, none⟩ (.int .u64 lo)).setCell ⟨m8 + 1 + 1, 3, none⟩ (.int .i64 (b + 1))).setCell ⟨m8 + 1 + 1 + 1, 0, none⟩ (.bool v)).setCell ⟨m8 + 1 + 1 + 1, 1, none⟩ (.int .u64 gh)).setCell ⟨m8 + 1 + 1 + 1, 2, none⟩ (.int .u64 gl)).setCell ⟨m8 + 1 + 1 + 1, 3, none⟩ (.int .i64 (b + 1))) (m8 + 1 + 1 + 1 + 1) false 0 0 0) := WH.out.other4 (Ne.symm LTWWH.out) _ _ _ _
  replace TW : Hid (HasG ((((((((w31.setCell ⟨m8 + 1 + 1, 0, none⟩ (.bool v)).setCell ⟨m8 + 1 + 1, 1, none⟩ (.int .u64 hi)).setCell ⟨m8 + 1 + 1, 2, none⟩ (.int .u64 lo)).setCell ⟨m8 + 1 + 1, 3, none⟩ (.int .i64 (b + 1))).setCell ⟨m8 + 1 + 1 + 1, 0, none⟩ (.bool v)).setCell ⟨m8 + 1 + 1 + 1, 1, none⟩ (.int .u64 gh)).setCell ⟨m8 + 1 + 1 + 1, 2, none⟩ (.int .u64 gl)).setCell ⟨m8 + 1 + 1 + 1, 3, none⟩ (.int .i64 (b + 1))) (m8 + 1 + 1 + 1) v gh gl (b + 1)) := TW.out.store _ _ _ _
  replace B : Hid (Below w.heap.size w ((((((((w31.setCell ⟨m8 + 1 + 1, 0, none⟩ (.bool v)).setCell ⟨m8 + 1 + 1, 1, none⟩ (.int .u64 hi)).setCell ⟨m8 + 1 + 1, 2, none⟩ (.int .u64 lo)).setCell ⟨m8 + 1 + 1, 3, none⟩ (.int .i64 (b + 1))).setCell ⟨m8 + 1 + 1 + 1, 0, none⟩ (.bool v)).setCell ⟨m8 + 1 + 1 + 1, 1, none⟩ (.int .u64 gh)).setCell ⟨m8 + 1 + 1 + 1, 2, none⟩ (.int .u64 gl)).setCell ⟨m8 + 1 + 1 + 1, 3, none⟩ (.int .i64 (b + 1)))) := bse (bse (bse (bse (B.out) GTW.out _) GTW.out _) GTW.out _) GTW.out _
  obtain ⟨⟨PP0, PP1, PP2, PP3, PP4⟩, _⟩ := PP.out
  obtain ⟨⟨PQ0, PQ1, PQ2, PQ3, PQ4⟩, _⟩ := PQ.out
  go_wp2_with fail
  clear ONa0 ONa1 ONa2 ONa3 ONa4 ONf0 ONf1 ONf2 ONf3
  clear TWa0 TWa1 TWa2 TWa3 TWa4 TWf0 TWf1 TWf2 TWf3
  generalize ((((((((w31.setCell ⟨m8 + 1 + 1, 0, none⟩ (.bool v)).setCell ⟨m8 + 1 + 1, 1, none⟩ (.int .u64 hi)).setCell ⟨m8 + 1 + 1, 2, none⟩ (.int .u64 lo)).setCell ⟨m8 + 1 + 1, 3, none⟩ (.int .i64 (b + 1))).setCell ⟨m8 + 1 + 1 + 1, 0, none⟩ (.bool v)).setCell ⟨m8 + 1 + 1 + 1, 1, none⟩ (.int .u64 gh)).setCell ⟨m8 + 1 + 1 + 1, 2, none⟩ (.int .u64 gl)).setCell ⟨m8 + 1 + 1 + 1, 3, none⟩ (.int .i64 (b + 1))) = W31 at *
  refine (h13.out _).mono ?_
  clear PP0 PP1 PP2 PP3 PP4 PQ0 PQ1 PQ2 PQ3 PQ4
  rintro e w32 ⟨rfl, hb⟩
  replace PP : Hid (HasG w32 (w.heap.size) v hi lo b) := PP.out.below hb
  replace PQ : Hid (HasG w32 (w.heap.size + 1) u yi yo c) := PQ.out.below hb
  replace PX : Hid (HasG w32 (m2) xv xh xl xb) := PX.out.below hb
  replace EA : Hid (HasF w32 (m4) (.bool v) (.int .u64 hi) (.int .u64 lo)) := EA.out.below hb
  replace EB : Hid (HasF w32 (m4 + 1) (.bool v) (.int .u64 lh) (.int .u64 ll)) := EB.out.below hb
  replace HC : Hid (HasG w32 (m5) v hi lo (b + 1)) := HC.out.below hb
  replace HD : Hid (HasG w32 (m5 + 1) v gh gl (b + 1)) := HD.out.below hb
  replace PW : Hid (HasG w32 (m6) v hi lo (b - 1)) := PW.out.below hb
  replace FI : Hid (HasF w32 (m8) (.bool v) (.int .u64 hi) (.int .u64 lo)) := FI.out.below hb
  replace LA : Hid (HasF w32 (m8 + 1) (.bool v) (.int .u64 lh) (.int .u64 ll)) := LA.out.below hb
  replace ON : Hid (HasG w32 (m8 + 1 + 1) v hi lo (b + 1)) := ON.out.below hb
  replace TW : Hid (HasG w32 (m8 + 1 + 1 + 1) v gh gl (b + 1)) := TW.out.below hb
  replace WH : Hid (HasG w32 (m8 + 1 + 1 + 1 + 1) false 0 0 0) := WH.out.below hb
  replace B : Hid (Below w.heap.size w w32) := btr B.out hb
  clear hb
  have LFIPY : Hid (m8 ≠ w32.heap.size) := Nat.ne_of_lt (Nat.lt_of_lt_of_le FI.out.1.2.2.2 (by omega))
  have LLAPY : Hid (m8 + 1 ≠ w32.heap.size) := Nat.ne_of_lt (Nat.lt_of_lt_of_le LA.out.1.2.2.2 (by omega))
  have LONPY : Hid (m8 + 1 + 1 ≠ w32.heap.size) := Nat.ne_of_lt (Nat.lt_of_lt_of_le ON.out.1.2.2.2.2 (by omega))
  have LTWPY : Hid (m8 + 1 + 1 + 1 ≠ w32.heap.size) := Nat.ne_of_lt (Nat.lt_of_lt_of_le TW.out.1.2.2.2.2 (by omega))
  have LWHPY : Hid (m8 + 1 + 1 + 1 + 1 ≠ w32.heap.size) := Nat.ne_of_lt (Nat.lt_of_lt_of_le WH.out.1.2.2.2.2 (by omega))
  replace PP : Hid (HasG (w32.alloc (.cells #[.bool v, .int .u64 hi, .int .u64 lo, .int .i64 (b - 1)] 26)) (w.heap.size) v hi lo b) := (PP.out).alloc (.cells #[.bool v, .int .u64 hi, .int .u64 lo, .int .i64 (b - 1)] 26)
  replace PQ : Hid (HasG (w32.alloc (.cells #[.bool v, .int .u64 hi, .int .u64 lo, .int .i64 (b - 1)] 26)) (w.heap.size + 1) u yi yo c) := (PQ.out).alloc (.cells #[.bool v, .int .u64 hi, .int .u64 lo, .int .i64 (b - 1)] 26)
  replace PX : Hid (HasG (w32.alloc (.cells #[.bool v, .int .u64 hi, .int .u64 lo, .int .i64 (b - 1)] 26)) (m2) xv xh xl xb) := (PX.out).alloc (.cells #[.bool v, .int .u64 hi, .int .u64 lo, .int .i64 (b - 1)] 26)
  replace EA : Hid (HasF (w32.alloc (.cells #[.bool v, .int .u64 hi, .int .u64 lo, .int .i64 (b - 1)] 26)) (m4) (.bool v) (.int .u64 hi) (.int .u64 lo)) := (EA.out).alloc (.cells #[.bool v, .int .u64 hi, .int .u64 lo, .int .i64 (b - 1)] 26)
  replace EB : Hid (HasF (w32.alloc (.cells #[.bool v, .int .u64 hi, .int .u64 lo, .int .i64 (b - 1)] 26)) (m4 + 1) (.bool v) (.int .u64 lh) (.int .u64 ll)) := (EB.out).alloc (.cells #[.bool v, .int .u64 hi, .int .u64 lo, .int .i64 (b - 1)] 26)
  replace HC : Hid (HasG (w32.alloc (.cells #[.bool v, .int .u64 hi, .int .u64 lo, .int .i64 (b - 1)] 26)) (m5) v hi lo (b + 1)) := (HC.out).alloc (.cells #[.bool v, .int .u64 hi, .int .u64 lo, .int .i64 (b - 1)] 26)
  replace HD : Hid (HasG (w32.alloc (.cells #[.bool v, .int .u64 hi, .int .u64 lo, .int .i64 (b - 1)] 26)) (m5 + 1) v gh gl (b + 1)) := (HD.out).alloc (.cells #[.bool v, .int .u64 hi, .int .u64 lo, .int .i64 (b - 1)] 26)
  replace PW : Hid (HasG (w32.alloc (.cells #[.bool v, .int .u64 hi, .int .u64 lo, .int .i64 (b - 1)] 26)) (m6) v hi lo (b - 1)) := (PW.out).alloc (.cells #[.bool v, .int .u64 hi, .int .u64 lo, .int .i64 (b - 1)] 26)
  replace FI : Hid (HasF (w32.alloc (.cells #[.bool v, .int .u64 hi, .int .u64 lo, .int .i64 (b - 1)] 26)) (m8) (.bool v) (.int .u64 hi) (.int .u64 lo)) := (FI.out).alloc (.cells #[.bool v, .int .u64 hi, .int .u64 lo, .int .i64 (b - 1)] 26)
  replace LA : Hid (HasF (w32.alloc (.cells #[.bool v, .int .u64 hi, .int .u64 lo, .int .i64 (b - 1)] 26)) (m8 + 1) (.bool v) (.int .u64 lh) (.int .u64 ll)) := (LA.out).alloc (.cells #[.bool v, .int .u64 hi, .int .u64 lo, .int .i64 (b - 1)] 26)
  replace ON : Hid (HasG (w32.alloc (.cells #[.bool v, .int .u64 hi, .int .u64 lo, .int .i64 (b - 1)] 26)) (m8 + 1 + 1) v hi lo (b + 1)) := (ON.out).alloc (.cells #[.bool v, .int .u64 hi, .int .u64 lo, .int .i64 (b - 1)] 26)
  replace TW : Hid (HasG (w32.alloc (.cells #[.bool v, .int .u64 hi, .int .u64 lo, .int .i64 (b - 1)] 26)) (m8 + 1 + 1 + 1) v gh gl (b + 1)) := (TW.out).alloc (.cells #[.bool v, .int .u64 hi, .int .u64 lo, .int .i64 (b - 1)] 26)
  replace WH : Hid (HasG (w32.alloc (.cells #[.bool v, .int .u64 hi, .int .u64 lo, .int .i64 (b - 1)] 26)) (m8 + 1 + 1 + 1 + 1) false 0 0 0) := (WH.out).alloc (.cells #[.bool v, .int .u64 hi, .int .u64 lo, .int .i64 (b - 1)] 26)
  replace B : Hid (Below w.heap.size w (w32.alloc (.cells #[.bool v, .int .u64 hi, .int .u64 lo, .int .i64 (b - 1)] 26))) := bal (B.out) _
  have PY : Hid (HasG (w32.alloc (.cells #[.bool v, .int .u64 hi, .int .u64 lo, .int .i64 (b - 1)] 26)) (w32.heap.size) v hi lo (b - 1)) := HasG.new w32 v hi lo (b - 1) 26
  obtain ⟨⟨PY0, PY1, PY2, PY3, PY4⟩, _⟩ := PY.out
  obtain ⟨⟨WHa0, WHa1, WHa2, WHa3, WHa4⟩, WHF⟩ := WH.out
  have WHf0 := WHF 0
  have WHf1 := WHF 1
  have WHf2 := WHF 2
  have WHf3 := WHF 3
  clear WHF
  replace PP : Hid (HasG (((((w32.alloc (.cells #[.bool v, .int .u64 hi, .int .u64 lo, .int .i64 (b - 1)] 26)).setCell ⟨m8 + 1 + 1 + 1 + 1, 0, none⟩ (.bool v)).setCell ⟨m8 + 1 + 1 + 1 + 1, 1, none⟩ (.int .u64 hi)).setCell ⟨m8 + 1 + 1 + 1 + 1, 2, none⟩ (.int .u64 lo)).setCell ⟨m8 + 1 + 1 + 1 + 1, 3, none⟩ (.int .i64 (b - 1))) (w.heap.size) v hi lo b) := PP.out.other4 LPPWH.out _ _ _ _
  replace PQ : Hid (HasG (((((w32.alloc (.cells #[.bool v, .int .u64 hi, .int .u64 lo, .int .i64 (b - 1)] 26)).setCell ⟨m8 + 1 + 1 + 1 + 1, 0, none⟩ (.bool v)).setCell ⟨m8 + 1 + 1 + 1 + 1, 1, none⟩ (.int .u64 hi)).setCell ⟨m8 + 1 + 1 + 1 + 1, 2, none⟩ (.int .u64 lo)).setCell ⟨m8 + 1 + 1 + 1 + 1, 3, none⟩ (.int .i64 (b - 1))) (w.heap.size + 1) u yi yo c) := PQ.out.other4 LPQWH.out _ _ _ _
  replace PX : Hid (HasG (((((w32.alloc (.cells #[.bool v, .int .u64 hi, .int .u64 lo, .int .i64 (b - 1)] 26)).setCell ⟨m8 + 1 + 1 + 1 + 1, 0, none⟩ (.bool v)).setCell ⟨m8 + 1 + 1 + 1 + 1, 1, none⟩ (.int .u64 hi)).setCell ⟨m8 + 1 + 1 + 1 + 1, 2, none⟩ (.int .u64 lo)).setCell ⟨m8 + 1 + 1 + 1 + 1, 3, none⟩ (.int .i64 (b - 1))) (m2) xv xh xl xb) := PX.out.other4 LPXWH.out _ _ _ _
  replace EA : Hid (HasF (((((w32.alloc (.cells #[.bool v, .int .u64 hi, .int .u64 lo, .int .i64 (b - 1)] 26)).setCell ⟨m8 + 1 + 1 + 1 + 1, 0, none⟩ (.bool v)).setCell ⟨m8 + 1 + 1 + 1 + 1, 1, none⟩ (.int .u64 hi)).setCell ⟨m8 + 1 + 1 + 1 + 1, 2, none⟩ (.int .u64 lo)).setCell ⟨m8 + 1 + 1 + 1 + 1, 3, none⟩ (.int .i64 (b - 1))) (m4) (.bool v) (.int .u64 hi) (.int .u64 lo)) := EA.out.other4 LEAWH.out _ _ _ _
  replace EB : Hid (HasF (((((w32.alloc (.cells #[.bool v, .int .u64 hi, .int .u64 lo, .int .i64 (b - 1)] 26)).setCell ⟨m8 + 1 + 1 + 1 + 1, 0, none⟩ (.bool v)).setCell ⟨m8 + 1 + 1 + 1 + 1, 1, none⟩ (.int .u64 hi)).setCell ⟨m8 + 1 + 1 + 1 + 1, 2, none⟩ (.int .u64 lo)).setCell ⟨m8 + 1 + 1 + 1 + 1, 3, none⟩ (.int .i64 (b - 1))) (m4 + 1) (.bool v) (.int .u64 lh) (.int .u64 ll)) := EB.out.other4 LEBWH.out _ _ _ _
  replace HC : Hid (HasG (((((w32.alloc (.cells #[.bool v, .int .u64 hi, .int .u64 lo, .int .i64 (b - 1)] 26)).setCell ⟨m8 + 1 + 1 + 1 + 1, 0, none⟩ (.bool v)).setCell ⟨m8 + 1 + 1 + 1 + 1, 1, none⟩ (.int .u64 hi)).setCell ⟨m8 + 1 + 1 + 1 + 1, 2, none⟩ (.int .u64 lo)).setCell ⟨m8 + 1 + 1 + 1 + 1, 3, none⟩ (.int .i64 (b - 1))) (m5) v hi lo (b + 1)) := HC.out.other4 LHCWH.out _ _ _ _
  replace HD : Hid (HasG (((((w32.alloc (.cells #[.bool v, .int .u64 hi, .int .u64 lo, .int .i64 (b - 1)] 26)).setCell ⟨m8 + 1 + 1 + 1 + 1, 0, none⟩ (.bool v)).setCell ⟨m8 + 1 + 1 + 1 + 1, 1, none⟩ (.int .u64 hi)).setCell ⟨m8 + 1 + 1 + 1 + 1, 2, none⟩ (.int .u64 lo)).setCell ⟨m8 + 1 + 1 + 1 + 1, 3, none⟩ (.int .i64 (b - 1))) (m5 + 1) v gh gl (b + 1)) := HD.out.other4 LHDWH.out _ _ _ _
  replace PW : Hid (HasG (((((w32.alloc (.cells #[.bool v, .int .u64 hi, .int .u64 lo, .int .i64 (b - 1)] 26)).setCell ⟨m8 + 1 + 1 + 1 + 1, 0, none⟩ (.bool v)).setCell ⟨m8 + 1 + 1 + 1 + 1, 1, none⟩ (.int .u64 hi)).setCell ⟨m8 + 1 + 1 + 1 + 1, 2, none⟩ (.int .u64 lo)).setCell ⟨m8 + 1 + 1 + 1 + 1, 3, none⟩ (.int .i64 (b - 1))) (m6) v hi lo (b - 1)) := PW.out.other4 LPWWH.out _ _ _ _
  replace FI : Hid (HasF (((((w32.alloc (.cells #[.bool v, .int .u64 hi, .int .u64 lo, .int .i64 (b - 1)] 26)).setCell ⟨m8 + 1 + 1 + 1 + 1, 0, none⟩ (.bool v)).setCell ⟨m8 + 1 + 1 + 1 + 1, 1, none⟩ (.int .u64 hi)).setCell ⟨m8 + 1 + 1 + 1 + 1, 2, none⟩ (.int .u64 lo)).setCell ⟨m8 + 1 + 1 + 1 + 1, 3, none⟩ (.int .i64 (b - 1))) (m8) (.bool v) (.int .u64 hi) (.int .u64 lo)) := FI.out.other4 LFIWH.out _ _ _ _
  replace LA : Hid (HasF (((((w32.alloc (.cells #[.bool v, .int .u64 hi, .int .u64 lo, .int .i64 (b - 1)] 26)).setCell ⟨m8 + 1 + 1 + 1 + 1, 0, none⟩ (.bool v)).setCell ⟨m8 + 1 + 1 + 1 + 1, 1, none⟩ (.int .u64 hi)).setCell ⟨m8 + 1 + 1 + 1 + 1, 2, none⟩ (.int .u64 lo)).setCell ⟨m8 + 1 + 1 + 1 + 1, 3, none⟩ (.int .i64 (b - 1))) (m8 + 1) (.bool v) (.int .u64 lh) (.int .u64 ll)) := LA.out.other4 LLAWH.out _ _ _ _
  replace ON : Hid (HasG (((((w32.alloc (.cells #[.bool v, .int .u64 hi, .int .u64 lo, .int .i64 (b - 1)] 26)).setCell ⟨m8 + 1 + 1 + 1 + 1, 0, none⟩ (.bool v)).setCell ⟨m8 + 1 + 1 + 1 + 1, 1, none⟩ (.int .u64 hi)).setCell ⟨m8 + 1 + 1 + 1 + 1, 2, none⟩ (.int .u64 lo)).setCell ⟨m8 + 1 + 1 + 1 + 1, 3, none⟩ (.int .i64 (b - 1))) (m8 + 1 + 1) v hi lo (b + 1)) := ON.out.other4 LONWH.out _ _ _ _
  replace TW : Hid (HasG (((((w32.alloc (.cells #[.bool v, .int .u64 hi, .int .u64 lo, .int .i64 (b - 1)] 26)).setCell ⟨m8 + 1 + 1 + 1 + 1, 0, none⟩ (.bool v)).setCell ⟨m8 + 1 + 1 + 1 + 1, 1, none⟩ (.int .u64 hi)).setCell ⟨m8 + 1 + 1 + 1 + 1, 2, none⟩ (.int .u64 lo)).setCell ⟨m8 + 1 + 1 + 1 + 1, 3, none⟩ (.int .i64 (b - 1))) (m8 + 1 + 1 + 1) v gh gl (b + 1)) := TW.out.other4 LTWWH.out _ _ _ _
  replace PY : Hid (HasG (((((w32.alloc (.cells #[.bool v, .int .u64 hi, .int .u64 lo, .int .i64 (b - 1)] 26)).setCell ⟨m8 + 1 + 1 + 1 + 1, 0, none⟩ (.bool v)).setCell ⟨m8 + 1 + 1 + 1 + 1, 1, none⟩ (.int .u64 hi)).setCell ⟨m8 + 1 + 1 + 1 + 1, 2, none⟩ (.int .u64 lo)).setCell ⟨m8 + 1 + 1 + 1 + 1, 3, none⟩ (.int .i64 (b - 1))) (w32.heap.size) v hi lo (b - 1)) := PY.out.other4 (Ne.symm LWHPY.out) _ _ _ _
  replace WH : Hid (HasG (((((w32.alloc (.cells #[.bool v, .int .u64 hi, .int .u64 lo, .int .i64 (b - 1)] 26)).setCell ⟨m8 + 1 + 1 + 1 + 1, 0, none⟩ (.bool v)).setCell ⟨m8 + 1 + 1 + 1 + 1, 1, none⟩ (.int .u64 hi)).setCell ⟨m8 + 1 + 1 + 1 + 1, 2, none⟩ (.int .u64 lo)).setCell ⟨m8 + 1 + 1 + 1 + 1, 3, none⟩ (.int .i64 (b - 1))) (m8 + 1 + 1 + 1 + 1) v hi lo (b - 1)) := WH.out.store _ _ _ _
  replace B : Hid (Below w.heap.size w (((((w32.alloc (.cells #[.bool v, .int .u64 hi, .int .u64 lo, .int .i64 (b - 1)] 26)).setCell ⟨m8 + 1 + 1 + 1 + 1, 0, none⟩ (.bool v)).setCell ⟨m8 + 1 + 1 + 1 + 1, 1, none⟩ (.int .u64 hi)).setCell ⟨m8 + 1 + 1 + 1 + 1, 2, none⟩ (.int .u64 lo)).setCell ⟨m8 + 1 + 1 + 1 + 1, 3, none⟩ (.int .i64 (b - 1)))) := bse (bse (bse (bse (B.out) GWH.out _) GWH.out _) GWH.out _) GWH.out _
  go_wp2_with fail
  clear WHa0 WHa1 WHa2 WHa3 WHa4 WHf0 WHf1 WHf2 WHf3
  generalize (((((w32.alloc (.cells #[.bool v, .int .u64 hi, .int .u64 lo, .int .i64 (b - 1)] 26)).setCell ⟨m8 + 1 + 1 + 1 + 1, 0, none⟩ (.bool v)).setCell ⟨m8 + 1 + 1 + 1 + 1, 1, none⟩ (.int .u64 hi)).setCell ⟨m8 + 1 + 1 + 1 + 1, 2, none⟩ (.int .u64 lo)).setCell ⟨m8 + 1 + 1 + 1 + 1, 3, none⟩ (.int .i64 (b - 1))) = W32 at *
  generalize w32.heap.size = m32 at *
  refine (h14.out _).mono ?_
  rintro e w33 ⟨rfl, hb⟩
  replace PP : Hid (HasG w33 (w.heap.size) v hi lo b) := PP.out.below hb
  replace PQ : Hid (HasG w33 (w.heap.size + 1) u yi yo c) := PQ.out.below hb
  replace PX : Hid (HasG w33 (m2) xv xh xl xb) := PX.out.below hb
  replace EA : Hid (HasF w33 (m4) (.bool v) (.int .u64 hi) (.int .u64 lo)) := EA.out.below hb
  replace EB : Hid (HasF w33 (m4 + 1) (.bool v) (.int .u64 lh) (.int .u64 ll)) := EB.out.below hb
  replace HC : Hid (HasG w33 (m5) v hi lo (b + 1)) := HC.out.below hb
  replace HD : Hid (HasG w33 (m5 + 1) v gh gl (b + 1)) := HD.out.below hb
  replace PW : Hid (HasG w33 (m6) v hi lo (b - 1)) := PW.out.below hb
  replace FI : Hid (HasF w33 (m8) (.bool v) (.int .u64 hi) (.int .u64 lo)) := FI.out.below hb
  replace LA : Hid (HasF w33 (m8 + 1) (.bool v) (.int .u64 lh) (.int .u64 ll)) := LA.out.below hb
  replace ON : Hid (HasG w33 (m8 + 1 + 1) v hi lo (b + 1)) := ON.out.below hb
  replace TW : Hid (HasG w33 (m8 + 1 + 1 + 1) v gh gl (b + 1)) := TW.out.below hb
  replace WH : Hid (HasG w33 (m8 + 1 + 1 + 1 + 1) v hi lo (b - 1)) := WH.out.below hb
  replace PY : Hid (HasG w33 (m32) v hi lo (b - 1)) := PY.out.below hb
  replace B : Hid (Below w.heap.size w w33) := btr B.out hb
  clear hb
  have LFIPR : Hid (m8 ≠ w33.heap.size) := Nat.ne_of_lt (Nat.lt_of_lt_of_le FI.out.1.2.2.2 (by omega))
  have LLAPR : Hid (m8 + 1 ≠ w33.heap.size) := Nat.ne_of_lt (Nat.lt_of_lt_of_le LA.out.1.2.2.2 (by omega))
  have LONPR : Hid (m8 + 1 + 1 ≠ w33.heap.size) := Nat.ne_of_lt (Nat.lt_of_lt_of_le ON.out.1.2.2.2.2 (by omega))
  have LTWPR : Hid (m8 + 1 + 1 + 1 ≠ w33.heap.size) := Nat.ne_of_lt (Nat.lt_of_lt_of_le TW.out.1.2.2.2.2 (by omega))
  have LWHPR : Hid (m8 + 1 + 1 + 1 + 1 ≠ w33.heap.size) := Nat.ne_of_lt (Nat.lt_of_lt_of_le WH.out.1.2.2.2.2 (by omega))
  replace PP : Hid (HasG (w33.alloc (.cells #[.bool xv, .int .u64 xh, .int .u64 xl, .int .i64 xb] 26)) (w.heap.size) v hi lo b) := (PP.out).alloc (.cells #[.bool xv, .int .u64 xh, .int .u64 xl, .int .i64 xb] 26)
  replace PQ : Hid (HasG (w33.alloc (.cells #[.bool xv, .int .u64 xh, .int .u64 xl, .int .i64 xb] 26)) (w.heap.size + 1) u yi yo c) := (PQ.out).alloc (.cells #[.bool xv, .int .u64 xh, .int .u64 xl, .int .i64 xb] 26)
  replace PX : Hid (HasG (w33.alloc (.cells #[.bool xv, .int .u64 xh, .int .u64 xl, .int .i64 xb] 26)) (m2) xv xh xl xb) := (PX.out).alloc (.cells #[.bool xv, .int .u64 xh, .int .u64 xl, .int .i64 xb] 26)
  replace EA : Hid (HasF (w33.alloc (.cells #[.bool xv, .int .u64 xh, .int .u64 xl, .int .i64 xb] 26)) (m4) (.bool v) (.int .u64 hi) (.int .u64 lo)) := (EA.out).alloc (.cells #[.bool xv, .int .u64 xh, .int .u64 xl, .int .i64 xb] 26)
  replace EB : Hid (HasF (w33.alloc (.cells #[.bool xv, .int .u64 xh, .int .u64 xl, .int .i64 xb] 26)) (m4 + 1) (.bool v) (.int .u64 lh) (.int .u64 ll)) := (EB.out).alloc (.cells #[.bool xv, .int .u64 xh, .int .u64 xl, .int .i64 xb] 26)
  replace HC : Hid (HasG (w33.alloc (.cells #[.bool xv, .int .u64 xh, .int .u64 xl, .int .i64 xb] 26)) (m5) v hi lo (b + 1)) := (HC.out).alloc (.cells #[.bool xv, .int .u64 xh, .int .u64 xl, .int .i64 xb] 26)
  replace HD : Hid (HasG (w33.alloc (.cells #[.bool xv, .int .u64 xh, .int .u64 xl, .int .i64 xb] 26)) (m5 + 1) v gh gl (b + 1)) := (HD.out).alloc (.cells #[.bool xv, .int .u64 xh, .int .u64 xl, .int .i64 xb] 26)
  replace PW : Hid (HasG (w33.alloc (.cells #[.bool xv, .int .u64 xh, .int .u64 xl, .int .i64 xb] 26)) (m6) v hi lo (b - 1)) := (PW.out).alloc (.cells #[.bool xv, .int .u64 xh, .int .u64 xl, .int .i64 xb] 26)
  replace FI : Hid (HasF (w33.alloc (.cells #[.bool xv, .int .u64 xh, .int .u64 xl, .int .i64 xb] 26)) (m8) (.bool v) (.int .u64 hi) (.int .u64 lo)) := (FI.out).alloc (.cells #[.bool xv, .int .u64 xh, .int .u64 xl, .int .i64 xb] 26)
  replace LA : Hid (HasF (w33.alloc (.cells #[.bool xv, .int .u64 xh, .int .u64 xl, .int .i64 xb] 26)) (m8 + 1) (.bool v) (.int .u64 lh) (.int .u64 ll)) := (LA.out).alloc (.cells #[.bool xv, .int .u64 xh, .int .u64 xl, .int .i64 xb] 26)
  replace ON : Hid (HasG (w33.alloc (.cells #[.bool xv, .int .u64 xh, .int .u64 xl, .int .i64 xb] 26)) (m8 + 1 + 1) v hi lo (b + 1)) := (ON.out).alloc (.cells #[.bool xv, .int .u64 xh, .int .u64 xl, .int .i64 xb] 26)
  replace TW : Hid (HasG (w33.alloc (.cells #[.bool xv, .int .u64 xh, .int .u64 xl, .int .i64 xb] 26)) (m8 + 1 + 1 + 1) v gh gl (b + 1)) := (TW.out).alloc (.cells #[.bool xv, .int .u64 xh, .int .u64 xl, .int .i64 xb] 26)
  replace WH : Hid (HasG (w33.alloc (.cells #[.bool xv, .int .u64 xh, .int .u64 xl, .int .i64 xb] 26)) (m8 + 1 + 1 + 1 + 1) v hi lo (b - 1)) := (WH.out).alloc (.cells #[.bool xv, .int .u64 xh, .int .u64 xl, .int .i64 xb] 26)
  replace PY : Hid (HasG (w33.alloc (.cells #[.bool xv, .int .u64 xh, .int .u64 xl, .int .i64 xb] 26)) (m32) v hi lo (b - 1)) := (PY.out).alloc (.cells #[.bool xv, .int .u64 xh, .int .u64 xl, .int .i64 xb] 26)
  replace B : Hid (Below w.heap.size w (w33.alloc (.cells #[.bool xv, .int .u64 xh, .int .u64 xl, .int .i64 xb] 26))) := bal (B.out) _
  have PR : Hid (HasG (w33.alloc (.cells #[.bool xv, .int .u64 xh, .int .u64 xl, .int .i64 xb] 26)) (w33.heap.size) xv xh xl xb) := HasG.new w33 xv xh xl xb 26
  have E1 := eql_pf xv xh xl xb xv xh xl xb
  rw [eqP_same] at E1
  have E2 := eql_addr v hi lo v hi lo
  rw [eqA_same] at E2
  have E3 := eql_addr v lh ll v lh ll
  rw [eqA_same] at E3
  have E4 := eql_pf v hi lo (b + 1) v hi lo (b + 1)
  rw [eqP_same] at E4
  have E5 := eql_pf v gh gl (b + 1) v gh gl (b + 1)
  rw [eqP_same] at E5
  have E6 := eql_pf v hi lo (b - 1) v hi lo (b - 1)
  rw [eqP_same] at E6
  go_wp2_with fail
  generalize (w33.alloc (.cells #[.bool xv, .int .u64 xh, .int .u64 xl, .int .i64 xb] 26)) = W33 at *
  generalize w33.heap.size = m33 at *
  refine (hB.out _ (HG.out _ B.out)).mono ?_
  rintro e w34 ⟨rfl, hb⟩
  replace PP : Hid (HasG w34 (w.heap.size) v hi lo b) := PP.out.below hb
  replace PQ : Hid (HasG w34 (w.heap.size + 1) u yi yo c) := PQ.out.below hb
  replace PX : Hid (HasG w34 (m2) xv xh xl xb) := PX.out.below hb
  replace EA : Hid (HasF w34 (m4) (.bool v) (.int .u64 hi) (.int .u64 lo)) := EA.out.below hb
  replace EB : Hid (HasF w34 (m4 + 1) (.bool v) (.int .u64 lh) (.int .u64 ll)) := EB.out.below hb
  replace HC : Hid (HasG w34 (m5) v hi lo (b + 1)) := HC.out.below hb
  replace HD : Hid (HasG w34 (m5 + 1) v gh gl (b + 1)) := HD.out.below hb
  replace PW : Hid (HasG w34 (m6) v hi lo (b - 1)) := PW.out.below hb
  replace FI : Hid (HasF w34 (m8) (.bool v) (.int .u64 hi) (.int .u64 lo)) := FI.out.below hb
  replace LA : Hid (HasF w34 (m8 + 1) (.bool v) (.int .u64 lh) (.int .u64 ll)) := LA.out.below hb
  replace ON : Hid (HasG w34 (m8 + 1 + 1) v hi lo (b + 1)) := ON.out.below hb
  replace TW : Hid (HasG w34 (m8 + 1 + 1 + 1) v gh gl (b + 1)) := TW.out.below hb
  replace WH : Hid (HasG w34 (m8 + 1 + 1 + 1 + 1) v hi lo (b - 1)) := WH.out.below hb
  replace PY : Hid (HasG w34 (m32) v hi lo (b - 1)) := PY.out.below hb
  replace PR : Hid (HasG w34 (m33) xv xh xl xb) := PR.out.below hb
  replace B : Hid (Below w.heap.size w w34) := btr B.out hb
  clear hb
  obtain ⟨⟨PP0, PP1, PP2, PP3, PP4⟩, _⟩ := PP.out
  go_wp2_with fail
  refine (h15.out _).mono ?_
  clear PP0 PP1 PP2 PP3 PP4
  rintro e w35 ⟨rfl, hb⟩
  replace PP : Hid (HasG w35 (w.heap.size) v hi lo b) := PP.out.below hb
  replace PQ : Hid (HasG w35 (w.heap.size + 1) u yi yo c) := PQ.out.below hb
  replace PX : Hid (HasG w35 (m2) xv xh xl xb) := PX.out.below hb
  replace EA : Hid (HasF w35 (m4) (.bool v) (.int .u64 hi) (.int .u64 lo)) := EA.out.below hb
  replace EB : Hid (HasF w35 (m4 + 1) (.bool v) (.int .u64 lh) (.int .u64 ll)) := EB.out.below hb
  replace HC : Hid (HasG w35 (m5) v hi lo (b + 1)) := HC.out.below hb
  replace HD : Hid (HasG w35 (m5 + 1) v gh gl (b + 1)) := HD.out.below hb
  replace PW : Hid (HasG w35 (m6) v hi lo (b - 1)) := PW.out.below hb
  replace FI : Hid (HasF w35 (m8) (.bool v) (.int .u64 hi) (.int .u64 lo)) := FI.out.below hb
  replace LA : Hid (HasF w35 (m8 + 1) (.bool v) (.int .u64 lh) (.int .u64 ll)) := LA.out.below hb
  replace ON : Hid (HasG w35 (m8 + 1 + 1) v hi lo (b + 1)) := ON.out.below hb
  replace TW : Hid (HasG w35 (m8 + 1 + 1 + 1) v gh gl (b + 1)) := TW.out.below hb
  replace WH : Hid (HasG w35 (m8 + 1 + 1 + 1 + 1) v hi lo (b - 1)) := WH.out.below hb
  replace PY : Hid (HasG w35 (m32) v hi lo (b - 1)) := PY.out.below hb
  replace PR : Hid (HasG w35 (m33) xv xh xl xb) := PR.out.below hb
  replace B : Hid (Below w.heap.size w w35) := btr B.out hb
  clear hb
  obtain ⟨⟨PP0, PP1, PP2, PP3, PP4⟩, _⟩ := PP.out
  obtain ⟨⟨PQ0, PQ1, PQ2, PQ3, PQ4⟩, _⟩ := PQ.out
  obtain ⟨⟨PX0, PX1, PX2, PX3, PX4⟩, _⟩ := PX.out
  obtain ⟨⟨EA0, EA1, EA2, EA3⟩, _⟩ := EA.out
  obtain ⟨⟨EB0, EB1, EB2, EB3⟩, _⟩ := EB.out
  obtain ⟨⟨HC0, HC1, HC2, HC3, HC4⟩, _⟩ := HC.out
  obtain ⟨⟨HD0, HD1, HD2, HD3, HD4⟩, _⟩ := HD.out
  obtain ⟨⟨PW0, PW1, PW2, PW3, PW4⟩, _⟩ := PW.out
  obtain ⟨⟨FI0, FI1, FI2, FI3⟩, _⟩ := FI.out
  obtain ⟨⟨LA0, LA1, LA2, LA3⟩, _⟩ := LA.out
  obtain ⟨⟨ON0, ON1, ON2, ON3, ON4⟩, _⟩ := ON.out
  obtain ⟨⟨TW0, TW1, TW2, TW3, TW4⟩, _⟩ := TW.out
  obtain ⟨⟨WH0, WH1, WH2, WH3, WH4⟩, _⟩ := WH.out
  obtain ⟨⟨PY0, PY1, PY2, PY3, PY4⟩, _⟩ := PY.out
  obtain ⟨⟨PR0, PR1, PR2, PR3, PR4⟩, _⟩ := PR.out
  go_wp2_with fail
  refine (h16.out _).mono ?_
  clear PP0 PP1 PP2 PP3 PP4 PQ0 PQ1 PQ2 PQ3 PQ4 PX0 PX1 PX2 PX3 PX4 EA0 EA1 EA2 EA3 EB0 EB1 EB2 EB3 HC0 HC1 HC2 HC3 HC4 HD0 HD1 HD2 HD3 HD4 PW0 PW1 PW2 PW3 PW4 FI0 FI1 FI2 FI3 LA0 LA1 LA2 LA3 ON0 ON1 ON2 ON3 ON4 TW0 TW1 TW2 TW3 TW4 WH0 WH1 WH2 WH3 WH4 PY0 PY1 PY2 PY3 PY4 PR0 PR1 PR2 PR3 PR4
  rintro e w36 ⟨rfl, hb⟩
  replace PP : Hid (HasG w36 (w.heap.size) v hi lo b) := PP.out.below hb
  replace PQ : Hid (HasG w36 (w.heap.size + 1) u yi yo c) := PQ.out.below hb
  replace PX : Hid (HasG w36 (m2) xv xh xl xb) := PX.out.below hb
  replace EA : Hid (HasF w36 (m4) (.bool v) (.int .u64 hi) (.int .u64 lo)) := EA.out.below hb
  replace EB : Hid (HasF w36 (m4 + 1) (.bool v) (.int .u64 lh) (.int .u64 ll)) := EB.out.below hb
  replace HC : Hid (HasG w36 (m5) v hi lo (b + 1)) := HC.out.below hb
  replace HD : Hid (HasG w36 (m5 + 1) v gh gl (b + 1)) := HD.out.below hb
  replace PW : Hid (HasG w36 (m6) v hi lo (b - 1)) := PW.out.below hb
  replace FI : Hid (HasF w36 (m8) (.bool v) (.int .u64 hi) (.int .u64 lo)) := FI.out.below hb
  replace LA : Hid (HasF w36 (m8 + 1) (.bool v) (.int .u64 lh) (.int .u64 ll)) := LA.out.below hb
  replace ON : Hid (HasG w36 (m8 + 1 + 1) v hi lo (b + 1)) := ON.out.below hb
  replace TW : Hid (HasG w36 (m8 + 1 + 1 + 1) v gh gl (b + 1)) := TW.out.below hb
  replace WH : Hid (HasG w36 (m8 + 1 + 1 + 1 + 1) v hi lo (b - 1)) := WH.out.below hb
  replace PY : Hid (HasG w36 (m32) v hi lo (b - 1)) := PY.out.below hb
  replace PR : Hid (HasG w36 (m33) xv xh xl xb) := PR.out.below hb
  replace B : Hid (Below w.heap.size w w36) := btr B.out hb
  clear hb
  obtain ⟨⟨PP0, PP1, PP2, PP3, PP4⟩, _⟩ := PP.out
  obtain ⟨⟨PQ0, PQ1, PQ2, PQ3, PQ4⟩, _⟩ := PQ.out
  obtain ⟨⟨PX0, PX1, PX2, PX3, PX4⟩, _⟩ := PX.out
  obtain ⟨⟨EA0, EA1, EA2, EA3⟩, _⟩ := EA.out
  obtain ⟨⟨EB0, EB1, EB2, EB3⟩, _⟩ := EB.out
  obtain ⟨⟨HC0, HC1, HC2, HC3, HC4⟩, _⟩ := HC.out
  obtain ⟨⟨HD0, HD1, HD2, HD3, HD4⟩, _⟩ := HD.out
  obtain ⟨⟨PW0, PW1, PW2, PW3, PW4⟩, _⟩ := PW.out
  obtain ⟨⟨FI0, FI1, FI2, FI3⟩, _⟩ := FI.out
  obtain ⟨⟨LA0, LA1, LA2, LA3⟩, _⟩ := LA.out
  obtain ⟨⟨ON0, ON1, ON2, ON3, ON4⟩, _⟩ := ON.out
  obtain ⟨⟨TW0, TW1, TW2, TW3, TW4⟩, _⟩ := TW.out
  obtain ⟨⟨WH0, WH1, WH2, WH3, WH4⟩, _⟩ := WH.out
  obtain ⟨⟨PY0, PY1, PY2, PY3, PY4⟩, _⟩ := PY.out
  obtain ⟨⟨PR0, PR1, PR2, PR3, PR4⟩, _⟩ := PR.out
  go_wp2
  go_ret
  exact ⟨rfl, B.out⟩

set_option maxHeartbeats 32000000 in
set_option maxRecDepth 100000 in
theorem ptells_n0 (v : Bool) (hi lo b : Int) (u : Bool) (yi yo c : Int) (s T BT : ByteArray) (xv : Bool) (xh xl xb xe k lh ll gh gl : Int) (zv : Bool) (zh zl zb : Int) (hs : Bool) (w : World) (hg : Good w)
    (h1 : Hid (∀ w : World, Good w → Calls Tryz.prog 4 #[.agg #[.bool v, .int .u64 hi, .int .u64 lo, .int .i64 b]] w fun e w' => e = .returned (.tuple #[.string T, .int .i64 0]) ∧ Below w.heap.size w w'))
    (h2 : Hid (∀ w : World, Good w → Calls Tryz.prog 5 #[.string s] w fun e w' => e = .returned (.tuple #[.agg #[.bool xv, .int .u64 xh, .int .u64 xl, .int .i64 xb], .int .i64 xe]) ∧ Below w.heap.size w w'))
    (h3 : Hid (∀ w : World, Calls Tryz.prog 6 #[.agg #[.bool v, .int .u64 hi, .int .u64 lo, .int .i64 b], .agg #[.bool u, .int .u64 yi, .int .u64 yo, .int .i64 c]] w fun e w' => e = .returned (.tuple #[.bool hs, .int .i64 0]) ∧ Below w.heap.size w w'))
    (h4 : Hid (∀ w : World, Calls Tryz.prog 7 #[.agg #[.bool v, .int .u64 hi, .int .u64 lo, .int .i64 b]] w fun e w' => e = .returned (.tuple #[.agg #[.bool v, .int .u64 hi, .int .u64 lo], .agg #[.bool v, .int .u64 lh, .int .u64 ll], .int .i64 0]) ∧ Below w.heap.size w w'))
    (h5 : Hid (∀ w : World, Calls Tryz.prog 8 #[.agg #[.bool v, .int .u64 hi, .int .u64 lo, .int .i64 b]] w fun e w' => e = .returned (.tuple #[.agg #[.bool v, .int .u64 hi, .int .u64 lo, .int .i64 (b + 1)], .agg #[.bool v, .int .u64 gh, .int .u64 gl, .int .i64 (b + 1)], .int .i64 0]) ∧ Below w.heap.size w w'))
    (h6 : Hid (∀ w : World, Calls Tryz.prog 9 #[.agg #[.bool v, .int .u64 hi, .int .u64 lo, .int .i64 b], .agg #[.bool u, .int .u64 yi, .int .u64 yo, .int .i64 c]] w fun e w' => e = .returned (.tuple #[.agg #[.bool false, .int .u64 0, .int .u64 0, .int .i64 0], .int .i64 4]) ∧ Below w.heap.size w w'))
    (h7 : Hid (∀ w : World, Calls Tryz.prog 10 #[.agg #[.bool v, .int .u64 hi, .int .u64 lo, .int .i64 b]] w fun e w' => e = .returned (.int .i64 0) ∧ Below w.heap.size w w'))
    (h8 : Hid (∀ w : World, Calls Tryz.prog 10 #[.agg #[.bool u, .int .u64 yi, .int .u64 yo, .int .i64 c]] w fun e w' => e = .returned (.int .i64 0) ∧ Below w.heap.size w w'))
    (h9 : Hid (∀ w : World, Calls Tryz.prog 11 #[.agg #[.bool v, .int .u64 hi, .int .u64 lo, .int .i64 b]] w fun e w' => e = .returned (.string T) ∧ Below w.heap.size w w'))
    (h10 : Hid (∀ w : World, Calls Tryz.prog 12 #[.agg #[.bool v, .int .u64 hi, .int .u64 lo, .int .i64 b]] w fun e w' => e = .returned (.agg #[.bool v, .int .u64 lh, .int .u64 ll]) ∧ Below w.heap.size w w'))
    (h11 : Hid (∀ w : World, Calls Tryz.prog 13 #[.agg #[.bool v, .int .u64 hi, .int .u64 lo]] w fun e w' => e = .returned (.string BT) ∧ Below w.heap.size w w'))
    (h12 : Hid (∀ w : World, Calls Tryz.prog 14 #[.agg #[.bool v, .int .u64 hi, .int .u64 lo, .int .i64 b]] w fun e w' => e = .returned (.tuple #[.agg #[.bool v, .int .u64 hi, .int .u64 lo, .int .i64 (b + 1)], .agg #[.bool v, .int .u64 gh, .int .u64 gl, .int .i64 (b + 1)]]) ∧ Below w.heap.size w w'))
    (h13 : Hid (∀ w : World, Calls Tryz.prog 15 #[.agg #[.bool v, .int .u64 hi, .int .u64 lo, .int .i64 b], .agg #[.bool u, .int .u64 yi, .int .u64 yo, .int .i64 c]] w fun e w' => e = .returned (.tuple #[.agg #[.bool zv, .int .u64 zh, .int .u64 zl, .int .i64 zb], .bool false]) ∧ Below w.heap.size w w'))
    (h16 : Hid (∀ w : World, Calls Tryz.prog 19 #[.agg #[.bool v, .int .u64 hi, .int .u64 lo, .int .i64 b], .agg #[.bool u, .int .u64 yi, .int .u64 yo, .int .i64 c]] w fun e w' => e = .returned (.bool hs) ∧ Below w.heap.size w w'))
    (h14 : Hid (∀ w : World, Calls Tryz.prog 16 #[.string s] w fun e w' => e = .returned (.tuple #[.agg #[.bool xv, .int .u64 xh, .int .u64 xl, .int .i64 xb], .int .i64 xe]) ∧ Below w.heap.size w w'))
    (h15 : Hid (∀ w : World, Calls Tryz.prog 18 #[.agg #[.bool v, .int .u64 hi, .int .u64 lo, .int .i64 b]] w fun e w' => e = .returned (.int .i64 0) ∧ Below w.heap.size w w'))
    (hbt : (b == (BT.size : Int)) = false) (hb0 : 0 ≤ b) (hb1 : b ≤ 128)
    : Calls Tryz.prog 3 #[.agg #[.bool v, .int .u64 hi, .int .u64 lo, .int .i64 b], .agg #[.bool u, .int .u64 yi, .int .u64 yo, .int .i64 c], .string s] w fun e w' => e = .returned (.bool true) ∧ Below w.heap.size w w' := by
  have hB : Hid (∀ w : World, Good w → Calls Tryz.prog 17 #[] w fun e w' => e = .returned (.bool true) ∧ Below w.heap.size w w') := fun w => pbegun_any w
  have HG : Hid (∀ w1 : World, Below w.heap.size w w1 → Good w1) := fun w1 h => hg.below h
  have B : Hid (Below w.heap.size w w) := Below.refl _ _
  clear hg
  replace B : Hid (Below w.heap.size w ((w.alloc (.cells #[.bool v, .int .u64 hi, .int .u64 lo, .int .i64 b] 26)).alloc (.cells #[.bool u, .int .u64 yi, .int .u64 yo, .int .i64 c] 26))) := bal (bal (B.out) _) _
  have PP : Hid (HasG ((w.alloc (.cells #[.bool v, .int .u64 hi, .int .u64 lo, .int .i64 b] 26)).alloc (.cells #[.bool u, .int .u64 yi, .int .u64 yo, .int .i64 c] 26)) (w.heap.size) v hi lo b) := (HasG.new w v hi lo b 26).alloc (.cells #[.bool u, .int .u64 yi, .int .u64 yo, .int .i64 c] 26)
  have PQ : Hid (HasG ((w.alloc (.cells #[.bool v, .int .u64 hi, .int .u64 lo, .int .i64 b] 26)).alloc (.cells #[.bool u, .int .u64 yi, .int .u64 yo, .int .i64 c] 26)) (w.heap.size + 1) u yi yo c) := by
    have := HasG.new (w.alloc (.cells #[.bool v, .int .u64 hi, .int .u64 lo, .int .i64 b] 26)) u yi yo c 26
    rw [show (w.alloc (.cells #[.bool v, .int .u64 hi, .int .u64 lo, .int .i64 b] 26)).heap.size = w.heap.size + 1 by simp] at this
    exact this
  go_enter Tryz.func3, Tryz.ntmps3
  obtain ⟨⟨PP0, PP1, PP2, PP3, PP4⟩, _⟩ := PP.out
  go_wp2_with fail
  generalize ((w.alloc (.cells #[.bool v, .int .u64 hi, .int .u64 lo, .int .i64 b] 26)).alloc (.cells #[.bool u, .int .u64 yi, .int .u64 yo, .int .i64 c] 26)) = W0 at *
  refine (h1.out _ (HG.out _ B.out)).mono ?_
  clear PP0 PP1 PP2 PP3 PP4
  rintro e w1 ⟨rfl, hb⟩
  replace PP : Hid (HasG w1 (w.heap.size) v hi lo b) := PP.out.below hb
  replace PQ : Hid (HasG w1 (w.heap.size + 1) u yi yo c) := PQ.out.below hb
  replace B : Hid (Below w.heap.size w w1) := btr B.out hb
  clear hb
  go_wp2_with fail
  refine (h2.out _ (HG.out _ B.out)).mono ?_
  rintro e w2 ⟨rfl, hb⟩
  replace PP : Hid (HasG w2 (w.heap.size) v hi lo b) := PP.out.below hb
  replace PQ : Hid (HasG w2 (w.heap.size + 1) u yi yo c) := PQ.out.below hb
  replace B : Hid (Below w.heap.size w w2) := btr B.out hb
  clear hb
  replace PP : Hid (HasG (w2.alloc (.cells #[.bool xv, .int .u64 xh, .int .u64 xl, .int .i64 xb] 26)) (w.heap.size) v hi lo b) := (PP.out).alloc (.cells #[.bool xv, .int .u64 xh, .int .u64 xl, .int .i64 xb] 26)
  replace PQ : Hid (HasG (w2.alloc (.cells #[.bool xv, .int .u64 xh, .int .u64 xl, .int .i64 xb] 26)) (w.heap.size + 1) u yi yo c) := (PQ.out).alloc (.cells #[.bool xv, .int .u64 xh, .int .u64 xl, .int .i64 xb] 26)
  replace B : Hid (Below w.heap.size w (w2.alloc (.cells #[.bool xv, .int .u64 xh, .int .u64 xl, .int .i64 xb] 26))) := bal (B.out) _
  have PX : Hid (HasG (w2.alloc (.cells #[.bool xv, .int .u64 xh, .int .u64 xl, .int .i64 xb] 26)) (w2.heap.size) xv xh xl xb) := HasG.new w2 xv xh xl xb 26
  obtain ⟨⟨PP0, PP1, PP2, PP3, PP4⟩, _⟩ := PP.out
  obtain ⟨⟨PQ0, PQ1, PQ2, PQ3, PQ4⟩, _⟩ := PQ.out
  go_wp2_with fail
  generalize (w2.alloc (.cells #[.bool xv, .int .u64 xh, .int .u64 xl, .int .i64 xb] 26)) = W2 at *
  generalize w2.heap.size = m2 at *
  refine (h3.out _).mono ?_
  clear PP0 PP1 PP2 PP3 PP4 PQ0 PQ1 PQ2 PQ3 PQ4
  rintro e w3 ⟨rfl, hb⟩
  replace PP : Hid (HasG w3 (w.heap.size) v hi lo b) := PP.out.below hb
  replace PQ : Hid (HasG w3 (w.heap.size + 1) u yi yo c) := PQ.out.below hb
  replace PX : Hid (HasG w3 (m2) xv xh xl xb) := PX.out.below hb
  replace B : Hid (Below w.heap.size w w3) := btr B.out hb
  clear hb
  obtain ⟨⟨PP0, PP1, PP2, PP3, PP4⟩, _⟩ := PP.out
  go_wp2_with fail
  refine (h4.out _).mono ?_
  clear PP0 PP1 PP2 PP3 PP4
  rintro e w4 ⟨rfl, hb⟩
  replace PP : Hid (HasG w4 (w.heap.size) v hi lo b) := PP.out.below hb
  replace PQ : Hid (HasG w4 (w.heap.size + 1) u yi yo c) := PQ.out.below hb
  replace PX : Hid (HasG w4 (m2) xv xh xl xb) := PX.out.below hb
  replace B : Hid (Below w.heap.size w w4) := btr B.out hb
  clear hb
  replace PP : Hid (HasG ((w4.alloc (.cells #[.bool v, .int .u64 hi, .int .u64 lo] 24)).alloc (.cells #[.bool v, .int .u64 lh, .int .u64 ll] 24)) (w.heap.size) v hi lo b) := ((PP.out).alloc (.cells #[.bool v, .int .u64 hi, .int .u64 lo] 24)).alloc (.cells #[.bool v, .int .u64 lh, .int .u64 ll] 24)
  replace PQ : Hid (HasG ((w4.alloc (.cells #[.bool v, .int .u64 hi, .int .u64 lo] 24)).alloc (.cells #[.bool v, .int .u64 lh, .int .u64 ll] 24)) (w.heap.size + 1) u yi yo c) := ((PQ.out).alloc (.cells #[.bool v, .int .u64 hi, .int .u64 lo] 24)).alloc (.cells #[.bool v, .int .u64 lh, .int .u64 ll] 24)
  replace PX : Hid (HasG ((w4.alloc (.cells #[.bool v, .int .u64 hi, .int .u64 lo] 24)).alloc (.cells #[.bool v, .int .u64 lh, .int .u64 ll] 24)) (m2) xv xh xl xb) := ((PX.out).alloc (.cells #[.bool v, .int .u64 hi, .int .u64 lo] 24)).alloc (.cells #[.bool v, .int .u64 lh, .int .u64 ll] 24)
  replace B : Hid (Below w.heap.size w ((w4.alloc (.cells #[.bool v, .int .u64 hi, .int .u64 lo] 24)).alloc (.cells #[.bool v, .int .u64 lh, .int .u64 ll] 24))) := bal (bal (B.out) _) _
  have EA : Hid (HasF ((w4.alloc (.cells #[.bool v, .int .u64 hi, .int .u64 lo] 24)).alloc (.cells #[.bool v, .int .u64 lh, .int .u64 ll] 24)) (w4.heap.size) (.bool v) (.int .u64 hi) (.int .u64 lo)) := (HasF.new w4 (.bool v) (.int .u64 hi) (.int .u64 lo) 24).alloc (.cells #[.bool v, .int .u64 lh, .int .u64 ll] 24)
  have EB : Hid (HasF ((w4.alloc (.cells #[.bool v, .int .u64 hi, .int .u64 lo] 24)).alloc (.cells #[.bool v, .int .u64 lh, .int .u64 ll] 24)) (w4.heap.size + 1) (.bool v) (.int .u64 lh) (.int .u64 ll)) := by
    have := HasF.new (w4.alloc (.cells #[.bool v, .int .u64 hi, .int .u64 lo] 24)) (.bool v) (.int .u64 lh) (.int .u64 ll) 24
    rw [show (w4.alloc (.cells #[.bool v, .int .u64 hi, .int .u64 lo] 24)).heap.size = w4.heap.size + 1 by simp] at this
    exact this
  obtain ⟨⟨PP0, PP1, PP2, PP3, PP4⟩, _⟩ := PP.out
  go_wp2_with fail
  generalize ((w4.alloc (.cells #[.bool v, .int .u64 hi, .int .u64 lo] 24)).alloc (.cells #[.bool v, .int .u64 lh, .int .u64 ll] 24)) = W4 at *
  generalize w4.heap.size = m4 at *
  refine (h5.out _).mono ?_
  clear PP0 PP1 PP2 PP3 PP4
  rintro e w5 ⟨rfl, hb⟩
  replace PP : Hid (HasG w5 (w.heap.size) v hi lo b) := PP.out.below hb
  replace PQ : Hid (HasG w5 (w.heap.size + 1) u yi yo c) := PQ.out.below hb
  replace PX : Hid (HasG w5 (m2) xv xh xl xb) := PX.out.below hb
  replace EA : Hid (HasF w5 (m4) (.bool v) (.int .u64 hi) (.int .u64 lo)) := EA.out.below hb
  replace EB : Hid (HasF w5 (m4 + 1) (.bool v) (.int .u64 lh) (.int .u64 ll)) := EB.out.below hb
  replace B : Hid (Below w.heap.size w w5) := btr B.out hb
  clear hb
  replace PP : Hid (HasG ((w5.alloc (.cells #[.bool v, .int .u64 hi, .int .u64 lo, .int .i64 (b + 1)] 26)).alloc (.cells #[.bool v, .int .u64 gh, .int .u64 gl, .int .i64 (b + 1)] 26)) (w.heap.size) v hi lo b) := ((PP.out).alloc (.cells #[.bool v, .int .u64 hi, .int .u64 lo, .int .i64 (b + 1)] 26)).alloc (.cells #[.bool v, .int .u64 gh, .int .u64 gl, .int .i64 (b + 1)] 26)
  replace PQ : Hid (HasG ((w5.alloc (.cells #[.bool v, .int .u64 hi, .int .u64 lo, .int .i64 (b + 1)] 26)).alloc (.cells #[.bool v, .int .u64 gh, .int .u64 gl, .int .i64 (b + 1)] 26)) (w.heap.size + 1) u yi yo c) := ((PQ.out).alloc (.cells #[.bool v, .int .u64 hi, .int .u64 lo, .int .i64 (b + 1)] 26)).alloc (.cells #[.bool v, .int .u64 gh, .int .u64 gl, .int .i64 (b + 1)] 26)
  replace PX : Hid (HasG ((w5.alloc (.cells #[.bool v, .int .u64 hi, .int .u64 lo, .int .i64 (b + 1)] 26)).alloc (.cells #[.bool v, .int .u64 gh, .int .u64 gl, .int .i64 (b + 1)] 26)) (m2) xv xh xl xb) := ((PX.out).alloc (.cells #[.bool v, .int .u64 hi, .int .u64 lo, .int .i64 (b + 1)] 26)).alloc (.cells #[.bool v, .int .u64 gh, .int .u64 gl, .int .i64 (b + 1)] 26)
  replace EA : Hid (HasF ((w5.alloc (.cells #[.bool v, .int .u64 hi, .int .u64 lo, .int .i64 (b + 1)] 26)).alloc (.cells #[.bool v, .int .u64 gh, .int .u64 gl, .int .i64 (b + 1)] 26)) (m4) (.bool v) (.int .u64 hi) (.int .u64 lo)) := ((EA.out).alloc (.cells #[.bool v, .int .u64 hi, .int .u64 lo, .int .i64 (b + 1)] 26)).alloc (.cells #[.bool v, .int .u64 gh, .int .u64 gl, .int .i64 (b + 1)] 26)
  replace EB : Hid (HasF ((w5.alloc (.cells #[.bool v, .int .u64 hi, .int .u64 lo, .int .i64 (b + 1)] 26)).alloc (.cells #[.bool v, .int .u64 gh, .int .u64 gl, .int .i64 (b + 1)] 26)) (m4 + 1) (.bool v) (.int .u64 lh) (.int .u64 ll)) := ((EB.out).alloc (.cells #[.bool v, .int .u64 hi, .int .u64 lo, .int .i64 (b + 1)] 26)).alloc (.cells #[.bool v, .int .u64 gh, .int .u64 gl, .int .i64 (b + 1)] 26)
  replace B : Hid (Below w.heap.size w ((w5.alloc (.cells #[.bool v, .int .u64 hi, .int .u64 lo, .int .i64 (b + 1)] 26)).alloc (.cells #[.bool v, .int .u64 gh, .int .u64 gl, .int .i64 (b + 1)] 26))) := bal (bal (B.out) _) _
  have HC : Hid (HasG ((w5.alloc (.cells #[.bool v, .int .u64 hi, .int .u64 lo, .int .i64 (b + 1)] 26)).alloc (.cells #[.bool v, .int .u64 gh, .int .u64 gl, .int .i64 (b + 1)] 26)) (w5.heap.size) v hi lo (b + 1)) := (HasG.new w5 v hi lo (b + 1) 26).alloc (.cells #[.bool v, .int .u64 gh, .int .u64 gl, .int .i64 (b + 1)] 26)
  have HD : Hid (HasG ((w5.alloc (.cells #[.bool v, .int .u64 hi, .int .u64 lo, .int .i64 (b + 1)] 26)).alloc (.cells #[.bool v, .int .u64 gh, .int .u64 gl, .int .i64 (b + 1)] 26)) (w5.heap.size + 1) v gh gl (b + 1)) := by
    have := HasG.new (w5.alloc (.cells #[.bool v, .int .u64 hi, .int .u64 lo, .int .i64 (b + 1)] 26)) v gh gl (b + 1) 26
    rw [show (w5.alloc (.cells #[.bool v, .int .u64 hi, .int .u64 lo, .int .i64 (b + 1)] 26)).heap.size = w5.heap.size + 1 by simp] at this
    exact this
  obtain ⟨⟨PP0, PP1, PP2, PP3, PP4⟩, _⟩ := PP.out
  obtain ⟨⟨PQ0, PQ1, PQ2, PQ3, PQ4⟩, _⟩ := PQ.out
  go_wp2_with fail
  generalize ((w5.alloc (.cells #[.bool v, .int .u64 hi, .int .u64 lo, .int .i64 (b + 1)] 26)).alloc (.cells #[.bool v, .int .u64 gh, .int .u64 gl, .int .i64 (b + 1)] 26)) = W5 at *
  generalize w5.heap.size = m5 at *
  refine (h6.out _).mono ?_
  clear PP0 PP1 PP2 PP3 PP4 PQ0 PQ1 PQ2 PQ3 PQ4
  rintro e w6 ⟨rfl, hb⟩
  replace PP : Hid (HasG w6 (w.heap.size) v hi lo b) := PP.out.below hb
  replace PQ : Hid (HasG w6 (w.heap.size + 1) u yi yo c) := PQ.out.below hb
  replace PX : Hid (HasG w6 (m2) xv xh xl xb) := PX.out.below hb
  replace EA : Hid (HasF w6 (m4) (.bool v) (.int .u64 hi) (.int .u64 lo)) := EA.out.below hb
  replace EB : Hid (HasF w6 (m4 + 1) (.bool v) (.int .u64 lh) (.int .u64 ll)) := EB.out.below hb
  replace HC : Hid (HasG w6 (m5) v hi lo (b + 1)) := HC.out.below hb
  replace HD : Hid (HasG w6 (m5 + 1) v gh gl (b + 1)) := HD.out.below hb
  replace B : Hid (Below w.heap.size w w6) := btr B.out hb
  clear hb
  replace PP : Hid (HasG (w6.alloc (.cells #[.bool false, .int .u64 0, .int .u64 0, .int .i64 0] 26)) (w.heap.size) v hi lo b) := (PP.out).alloc (.cells #[.bool false, .int .u64 0, .int .u64 0, .int .i64 0] 26)
  replace PQ : Hid (HasG (w6.alloc (.cells #[.bool false, .int .u64 0, .int .u64 0, .int .i64 0] 26)) (w.heap.size + 1) u yi yo c) := (PQ.out).alloc (.cells #[.bool false, .int .u64 0, .int .u64 0, .int .i64 0] 26)
  replace PX : Hid (HasG (w6.alloc (.cells #[.bool false, .int .u64 0, .int .u64 0, .int .i64 0] 26)) (m2) xv xh xl xb) := (PX.out).alloc (.cells #[.bool false, .int .u64 0, .int .u64 0, .int .i64 0] 26)
  replace EA : Hid (HasF (w6.alloc (.cells #[.bool false, .int .u64 0, .int .u64 0, .int .i64 0] 26)) (m4) (.bool v) (.int .u64 hi) (.int .u64 lo)) := (EA.out).alloc (.cells #[.bool false, .int .u64 0, .int .u64 0, .int .i64 0] 26)
  replace EB : Hid (HasF (w6.alloc (.cells #[.bool false, .int .u64 0, .int .u64 0, .int .i64 0] 26)) (m4 + 1) (.bool v) (.int .u64 lh) (.int .u64 ll)) := (EB.out).alloc (.cells #[.bool false, .int .u64 0, .int .u64 0, .int .i64 0] 26)
  replace HC : Hid (HasG (w6.alloc (.cells #[.bool false, .int .u64 0, .int .u64 0, .int .i64 0] 26)) (m5) v hi lo (b + 1)) := (HC.out).alloc (.cells #[.bool false, .int .u64 0, .int .u64 0, .int .i64 0] 26)
  replace HD : Hid (HasG (w6.alloc (.cells #[.bool false, .int .u64 0, .int .u64 0, .int .i64 0] 26)) (m5 + 1) v gh gl (b + 1)) := (HD.out).alloc (.cells #[.bool false, .int .u64 0, .int .u64 0, .int .i64 0] 26)
  replace B : Hid (Below w.heap.size w (w6.alloc (.cells #[.bool false, .int .u64 0, .int .u64 0, .int .i64 0] 26))) := bal (B.out) _
  have PW : Hid (HasG (w6.alloc (.cells #[.bool false, .int .u64 0, .int .u64 0, .int .i64 0] 26)) (w6.heap.size) false 0 0 0) := HasG.new w6 false 0 0 0 26
  obtain ⟨⟨PP0, PP1, PP2, PP3, PP4⟩, _⟩ := PP.out
  go_wp2_with fail
  generalize (w6.alloc (.cells #[.bool false, .int .u64 0, .int .u64 0, .int .i64 0] 26)) = W6 at *
  generalize w6.heap.size = m6 at *
  refine (h7.out _).mono ?_
  clear PP0 PP1 PP2 PP3 PP4
  rintro e w7 ⟨rfl, hb⟩
  replace PP : Hid (HasG w7 (w.heap.size) v hi lo b) := PP.out.below hb
  replace PQ : Hid (HasG w7 (w.heap.size + 1) u yi yo c) := PQ.out.below hb
  replace PX : Hid (HasG w7 (m2) xv xh xl xb) := PX.out.below hb
  replace EA : Hid (HasF w7 (m4) (.bool v) (.int .u64 hi) (.int .u64 lo)) := EA.out.below hb
  replace EB : Hid (HasF w7 (m4 + 1) (.bool v) (.int .u64 lh) (.int .u64 ll)) := EB.out.below hb
  replace HC : Hid (HasG w7 (m5) v hi lo (b + 1)) := HC.out.below hb
  replace HD : Hid (HasG w7 (m5 + 1) v gh gl (b + 1)) := HD.out.below hb
  replace PW : Hid (HasG w7 (m6) false 0 0 0) := PW.out.below hb
  replace B : Hid (Below w.heap.size w w7) := btr B.out hb
  clear hb
  obtain ⟨⟨PQ0, PQ1, PQ2, PQ3, PQ4⟩, _⟩ := PQ.out
  go_wp2_with fail
  refine (h8.out _).mono ?_
  clear PQ0 PQ1 PQ2 PQ3 PQ4
  rintro e w8 ⟨rfl, hb⟩
  replace PP : Hid (HasG w8 (w.heap.size) v hi lo b) := PP.out.below hb
  replace PQ : Hid (HasG w8 (w.heap.size + 1) u yi yo c) := PQ.out.below hb
  replace PX : Hid (HasG w8 (m2) xv xh xl xb) := PX.out.below hb
  replace EA : Hid (HasF w8 (m4) (.bool v) (.int .u64 hi) (.int .u64 lo)) := EA.out.below hb
  replace EB : Hid (HasF w8 (m4 + 1) (.bool v) (.int .u64 lh) (.int .u64 ll)) := EB.out.below hb
  replace HC : Hid (HasG w8 (m5) v hi lo (b + 1)) := HC.out.below hb
  replace HD : Hid (HasG w8 (m5 + 1) v gh gl (b + 1)) := HD.out.below hb
  replace PW : Hid (HasG w8 (m6) false 0 0 0) := PW.out.below hb
  replace B : Hid (Below w.heap.size w w8) := btr B.out hb
  clear hb
  have LPPFI : Hid (w.heap.size ≠ w8.heap.size) := Nat.ne_of_lt (Nat.lt_of_lt_of_le PP.out.1.2.2.2.2 (by omega))
  have LPQFI : Hid (w.heap.size + 1 ≠ w8.heap.size) := Nat.ne_of_lt (Nat.lt_of_lt_of_le PQ.out.1.2.2.2.2 (by omega))
  have LPXFI : Hid (m2 ≠ w8.heap.size) := Nat.ne_of_lt (Nat.lt_of_lt_of_le PX.out.1.2.2.2.2 (by omega))
  have LEAFI : Hid (m4 ≠ w8.heap.size) := Nat.ne_of_lt (Nat.lt_of_lt_of_le EA.out.1.2.2.2 (by omega))
  have LEBFI : Hid (m4 + 1 ≠ w8.heap.size) := Nat.ne_of_lt (Nat.lt_of_lt_of_le EB.out.1.2.2.2 (by omega))
  have LHCFI : Hid (m5 ≠ w8.heap.size) := Nat.ne_of_lt (Nat.lt_of_lt_of_le HC.out.1.2.2.2.2 (by omega))
  have LHDFI : Hid (m5 + 1 ≠ w8.heap.size) := Nat.ne_of_lt (Nat.lt_of_lt_of_le HD.out.1.2.2.2.2 (by omega))
  have LPWFI : Hid (m6 ≠ w8.heap.size) := Nat.ne_of_lt (Nat.lt_of_lt_of_le PW.out.1.2.2.2.2 (by omega))
  have GFI : Hid (w.heap.size ≤ w8.heap.size) := Nat.le_trans B.out.size (by omega)
  have LPPLA : Hid (w.heap.size ≠ w8.heap.size + 1) := Nat.ne_of_lt (Nat.lt_of_lt_of_le PP.out.1.2.2.2.2 (by omega))
  have LPQLA : Hid (w.heap.size + 1 ≠ w8.heap.size + 1) := Nat.ne_of_lt (Nat.lt_of_lt_of_le PQ.out.1.2.2.2.2 (by omega))
  have LPXLA : Hid (m2 ≠ w8.heap.size + 1) := Nat.ne_of_lt (Nat.lt_of_lt_of_le PX.out.1.2.2.2.2 (by omega))
  have LEALA : Hid (m4 ≠ w8.heap.size + 1) := Nat.ne_of_lt (Nat.lt_of_lt_of_le EA.out.1.2.2.2 (by omega))
  have LEBLA : Hid (m4 + 1 ≠ w8.heap.size + 1) := Nat.ne_of_lt (Nat.lt_of_lt_of_le EB.out.1.2.2.2 (by omega))
  have LHCLA : Hid (m5 ≠ w8.heap.size + 1) := Nat.ne_of_lt (Nat.lt_of_lt_of_le HC.out.1.2.2.2.2 (by omega))
  have LHDLA : Hid (m5 + 1 ≠ w8.heap.size + 1) := Nat.ne_of_lt (Nat.lt_of_lt_of_le HD.out.1.2.2.2.2 (by omega))
  have LPWLA : Hid (m6 ≠ w8.heap.size + 1) := Nat.ne_of_lt (Nat.lt_of_lt_of_le PW.out.1.2.2.2.2 (by omega))
  have LFILA : Hid (w8.heap.size ≠ w8.heap.size + 1) := (by omega : w8.heap.size ≠ w8.heap.size + 1)
  have GLA : Hid (w.heap.size ≤ w8.heap.size + 1) := Nat.le_trans B.out.size (by omega)
  have LPPON : Hid (w.heap.size ≠ w8.heap.size + 1 + 1) := Nat.ne_of_lt (Nat.lt_of_lt_of_le PP.out.1.2.2.2.2 (by omega))
  have LPQON : Hid (w.heap.size + 1 ≠ w8.heap.size + 1 + 1) := Nat.ne_of_lt (Nat.lt_of_lt_of_le PQ.out.1.2.2.2.2 (by omega))
  have LPXON : Hid (m2 ≠ w8.heap.size + 1 + 1) := Nat.ne_of_lt (Nat.lt_of_lt_of_le PX.out.1.2.2.2.2 (by omega))
  have LEAON : Hid (m4 ≠ w8.heap.size + 1 + 1) := Nat.ne_of_lt (Nat.lt_of_lt_of_le EA.out.1.2.2.2 (by omega))
  have LEBON : Hid (m4 + 1 ≠ w8.heap.size + 1 + 1) := Nat.ne_of_lt (Nat.lt_of_lt_of_le EB.out.1.2.2.2 (by omega))
  have LHCON : Hid (m5 ≠ w8.heap.size + 1 + 1) := Nat.ne_of_lt (Nat.lt_of_lt_of_le HC.out.1.2.2.2.2 (by omega))
  have LHDON : Hid (m5 + 1 ≠ w8.heap.size + 1 + 1) := Nat.ne_of_lt (Nat.lt_of_lt_of_le HD.out.1.2.2.2.2 (by omega))
  have LPWON : Hid (m6 ≠ w8.heap.size + 1 + 1) := Nat.ne_of_lt (Nat.lt_of_lt_of_le PW.out.1.2.2.2.2 (by omega))
  have LFION : Hid (w8.heap.size ≠ w8.heap.size + 1 + 1) := (by omega : w8.heap.size ≠ w8.heap.size + 1 + 1)
  have LLAON : Hid (w8.heap.size + 1 ≠ w8.heap.size + 1 + 1) := (by omega : w8.heap.size + 1 ≠ w8.heap.size + 1 + 1)
  have GON : Hid (w.heap.size ≤ w8.heap.size + 1 + 1) := Nat.le_trans B.out.size (by omega)
  have LPPTW : Hid (w.heap.size ≠ w8.heap.size + 1 + 1 + 1) := Nat.ne_of_lt (Nat.lt_of_lt_of_le PP.out.1.2.2.2.2 (by omega))
  have LPQTW : Hid (w.heap.size + 1 ≠ w8.heap.size + 1 + 1 + 1) := Nat.ne_of_lt (Nat.lt_of_lt_of_le PQ.out.1.2.2.2.2 (by omega))
  have LPXTW : Hid (m2 ≠ w8.heap.size + 1 + 1 + 1) := Nat.ne_of_lt (Nat.lt_of_lt_of_le PX.out.1.2.2.2.2 (by omega))
  have LEATW : Hid (m4 ≠ w8.heap.size + 1 + 1 + 1) := Nat.ne_of_lt (Nat.lt_of_lt_of_le EA.out.1.2.2.2 (by omega))
  have LEBTW : Hid (m4 + 1 ≠ w8.heap.size + 1 + 1 + 1) := Nat.ne_of_lt (Nat.lt_of_lt_of_le EB.out.1.2.2.2 (by omega))
  have LHCTW : Hid (m5 ≠ w8.heap.size + 1 + 1 + 1) := Nat.ne_of_lt (Nat.lt_of_lt_of_le HC.out.1.2.2.2.2 (by omega))
  have LHDTW : Hid (m5 + 1 ≠ w8.heap.size + 1 + 1 + 1) := Nat.ne_of_lt (Nat.lt_of_lt_of_le HD.out.1.2.2.2.2 (by omega))
  have LPWTW : Hid (m6 ≠ w8.heap.size + 1 + 1 + 1) := Nat.ne_of_lt (Nat.lt_of_lt_of_le PW.out.1.2.2.2.2 (by omega))
  have LFITW : Hid (w8.heap.size ≠ w8.heap.size + 1 + 1 + 1) := (by omega : w8.heap.size ≠ w8.heap.size + 1 + 1 + 1)
  have LLATW : Hid (w8.heap.size + 1 ≠ w8.heap.size + 1 + 1 + 1) := (by omega : w8.heap.size + 1 ≠ w8.heap.size + 1 + 1 + 1)
  have LONTW : Hid (w8.heap.size + 1 + 1 ≠ w8.heap.size + 1 + 1 + 1) := (by omega : w8.heap.size + 1 + 1 ≠ w8.heap.size + 1 + 1 + 1)
  have GTW : Hid (w.heap.size ≤ w8.heap.size + 1 + 1 + 1) := Nat.le_trans B.out.size (by omega)
  have LPPWH : Hid (w.heap.size ≠ w8.heap.size + 1 + 1 + 1 + 1) := Nat.ne_of_lt (Nat.lt_of_lt_of_le PP.out.1.2.2.2.2 (by omega))
  have LPQWH : Hid (w.heap.size + 1 ≠ w8.heap.size + 1 + 1 + 1 + 1) := Nat.ne_of_lt (Nat.lt_of_lt_of_le PQ.out.1.2.2.2.2 (by omega))
  have LPXWH : Hid (m2 ≠ w8.heap.size + 1 + 1 + 1 + 1) := Nat.ne_of_lt (Nat.lt_of_lt_of_le PX.out.1.2.2.2.2 (by omega))
  have LEAWH : Hid (m4 ≠ w8.heap.size + 1 + 1 + 1 + 1) := Nat.ne_of_lt (Nat.lt_of_lt_of_le EA.out.1.2.2.2 (by omega))
  have LEBWH : Hid (m4 + 1 ≠ w8.heap.size + 1 + 1 + 1 + 1) := Nat.ne_of_lt (Nat.lt_of_lt_of_le EB.out.1.2.2.2 (by omega))
  have LHCWH : Hid (m5 ≠ w8.heap.size + 1 + 1 + 1 + 1) := Nat.ne_of_lt (Nat.lt_of_lt_of_le HC.out.1.2.2.2.2 (by omega))
  have LHDWH : Hid (m5 + 1 ≠ w8.heap.size + 1 + 1 + 1 + 1) := Nat.ne_of_lt (Nat.lt_of_lt_of_le HD.out.1.2.2.2.2 (by omega))
  have LPWWH : Hid (m6 ≠ w8.heap.size + 1 + 1 + 1 + 1) := Nat.ne_of_lt (Nat.lt_of_lt_of_le PW.out.1.2.2.2.2 (by omega))
  have LFIWH : Hid (w8.heap.size ≠ w8.heap.size + 1 + 1 + 1 + 1) := (by omega : w8.heap.size ≠ w8.heap.size + 1 + 1 + 1 + 1)
  have LLAWH : Hid (w8.heap.size + 1 ≠ w8.heap.size + 1 + 1 + 1 + 1) := (by omega : w8.heap.size + 1 ≠ w8.heap.size + 1 + 1 + 1 + 1)
  have LONWH : Hid (w8.heap.size + 1 + 1 ≠ w8.heap.size + 1 + 1 + 1 + 1) := (by omega : w8.heap.size + 1 + 1 ≠ w8.heap.size + 1 + 1 + 1 + 1)
  have LTWWH : Hid (w8.heap.size + 1 + 1 + 1 ≠ w8.heap.size + 1 + 1 + 1 + 1) := (by omega : w8.heap.size + 1 + 1 + 1 ≠ w8.heap.size + 1 + 1 + 1 + 1)
  have GWH : Hid (w.heap.size ≤ w8.heap.size + 1 + 1 + 1 + 1) := Nat.le_trans B.out.size (by omega)
  replace PP : Hid (HasG (((((w8.alloc (.cells #[.bool false, .int .u64 0, .int .u64 0] 24)).alloc (.cells #[.bool false, .int .u64 0, .int .u64 0] 24)).alloc (.cells #[.bool false, .int .u64 0, .int .u64 0, .int .i64 0] 26)).alloc (.cells #[.bool false, .int .u64 0, .int .u64 0, .int .i64 0] 26)).alloc (.cells #[.bool false, .int .u64 0, .int .u64 0, .int .i64 0] 26)) (w.heap.size) v hi lo b) := (((((PP.out).alloc (.cells #[.bool false, .int .u64 0, .int .u64 0] 24)).alloc (.cells #[.bool false, .int .u64 0, .int .u64 0] 24)).alloc (.cells #[.bool false, .int .u64 0, .int .u64 0, .int .i64 0] 26)).alloc (.cells #[.bool false, .int .u64 0, .int .u64 0, .int .i64 0] 26)).alloc (.cells #[.bool false, .int .u64 0, .int .u64 0, .int .i64 0] 26)
  replace PQ : Hid (HasG (((((w8.alloc (.cells #[.bool false, .int .u64 0, .int .u64 0] 24)).alloc (.cells #[.bool false, .int .u64 0, .int .u64 0] 24)).alloc (.cells #[.bool false, .int .u64 0, .int .u64 0, .int .i64 0] 26)).alloc (.cells #[.bool false, .int .u64 0, .int .u64 0, .int .i64 0] 26)).alloc (.cells #[.bool false, .int .u64 0, .int .u64 0, .int .i64 0] 26)) (w.heap.size + 1) u yi yo c) := (((((PQ.out).alloc (.cells #[.bool false, .int .u64 0, .int .u64 0] 24)).alloc (.cells #[.bool false, .int .u64 0, .int .u64 0] 24)).alloc (.cells #[.bool false, .int .u64 0, .int .u64 0, .int .i64 0] 26)).alloc (.cells #[.bool false, .int .u64 0, .int .u64 0, .int .i64 0] 26)).alloc (.cells #[.bool false, .int .u64 0, .int .u64 0, .int .i64 0] 26)
  replace PX : Hid (HasG (((((w8.alloc (.cells #[.bool false, .int .u64 0, .int .u64 0] 24)).alloc (.cells #[.bool false, .int .u64 0, .int .u64 0] 24)).alloc (.cells #[.bool false, .int .u64 0, .int .u64 0, .int .i64 0] 26)).alloc (.cells #[.bool false, .int .u64 0, .int .u64 0, .int .i64 0] 26)).alloc (.cells #[.bool false, .int .u64 0, .int .u64 0, .int .i64 0] 26)) (m2) xv xh xl xb) := (((((PX.out).alloc (.cells #[.bool false, .int .u64 0, .int .u64 0] 24)).alloc (.cells #[.bool false, .int .u64 0, .int .u64 0] 24)).alloc (.cells #[.bool false, .int .u64 0, .int .u64 0, .int .i64 0] 26)).alloc (.cells #[.bool false, .int .u64 0, .int .u64 0, .int .i64 0] 26)).alloc (.cells #[.bool false, .int .u64 0, .int .u64 0, .int .i64 0] 26)
  replace EA : Hid (HasF (((((w8.alloc (.cells #[.bool false, .int .u64 0, .int .u64 0] 24)).alloc (.cells #[.bool false, .int .u64 0, .int .u64 0] 24)).alloc (.cells #[.bool false, .int .u64 0, .int .u64 0, .int .i64 0] 26)).alloc (.cells #[.bool false, .int .u64 0, .int .u64 0, .int .i64 0] 26)).alloc (.cells #[.bool false, .int .u64 0, .int .u64 0, .int .i64 0] 26)) (m4) (.bool v) (.int .u64 hi) (.int .u64 lo)) := (((((EA.out).alloc (.cells #[.bool false, .int .u64 0, .int .u64 0] 24)).alloc (.cells #[.bool false, .int .u64 0, .int .u64 0] 24)).alloc (.cells #[.bool false, .int .u64 0, .int .u64 0, .int .i64 0] 26)).alloc (.cells #[.bool false, .int .u64 0, .int .u64 0, .int .i64 0] 26)).alloc (.cells #[.bool false, .int .u64 0, .int .u64 0, .int .i64 0] 26)
  replace EB : Hid (HasF (((((w8.alloc (.cells #[.bool false, .int .u64 0, .int .u64 0] 24)).alloc (.cells #[.bool false, .int .u64 0, .int .u64 0] 24)).alloc (.cells #[.bool false, .int .u64 0, .int .u64 0, .int .i64 0] 26)).alloc (.cells #[.bool false, .int .u64 0, .int .u64 0, .int .i64 0] 26)).alloc (.cells #[.bool false, .int .u64 0, .int .u64 0, .int .i64 0] 26)) (m4 + 1) (.bool v) (.int .u64 lh) (.int .u64 ll)) := (((((EB.out).alloc (.cells #[.bool false, .int .u64 0, .int .u64 0] 24)).alloc (.cells #[.bool false, .int .u64 0, .int .u64 0] 24)).alloc (.cells #[.bool false, .int .u64 0, .int .u64 0, .int .i64 0] 26)).alloc (.cells #[.bool false, .int .u64 0, .int .u64 0, .int .i64 0] 26)).alloc (.cells #[.bool false, .int .u64 0, .int .u64 0, .int .i64 0] 26)
  replace HC : Hid (HasG (((((w8.alloc (.cells #[.bool false, .int .u64 0, .int .u64 0] 24)).alloc (.cells #[.bool false, .int .u64 0, .int .u64 0] 24)).alloc (.cells #[.bool false, .int .u64 0, .int .u64 0, .int .i64 0] 26)).alloc (.cells #[.bool false, .int .u64 0, .int .u64 0, .int .i64 0] 26)).alloc (.cells #[.bool false, .int .u64 0, .int .u64 0, .int .i64 0] 26)) (m5) v hi lo (b + 1)) := (((((HC.out).alloc (.cells #[.bool false, .int .u64 0, .int .u64 0] 24)).alloc (.cells #[.bool false, .int .u64 0, .int .u64 0] 24)).alloc (.cells #[.bool false, .int .u64 0, .int .u64 0, .int .i64 0] 26)).alloc (.cells #[.bool false, .int .u64 0, .int .u64 0, .int .i64 0] 26)).alloc (.cells #[.bool false, .int .u64 0, .int .u64 0, .int .i64 0] 26)
  replace HD : Hid (HasG (((((w8.alloc (.cells #[.bool false, .int .u64 0, .int .u64 0] 24)).alloc (.cells #[.bool false, .int .u64 0, .int .u64 0] 24)).alloc (.cells #[.bool false, .int .u64 0, .int .u64 0, .int .i64 0] 26)).alloc (.cells #[.bool false, .int .u64 0, .int .u64 0, .int .i64 0] 26)).alloc (.cells #[.bool false, .int .u64 0, .int .u64 0, .int .i64 0] 26)) (m5 + 1) v gh gl (b + 1)) := (((((HD.out).alloc (.cells #[.bool false, .int .u64 0, .int .u64 0] 24)).alloc (.cells #[.bool false, .int .u64 0, .int .u64 0] 24)).alloc (.cells #[.bool false, .int .u64 0, .int .u64 0, .int .i64 0] 26)).alloc (.cells #[.bool false, .int .u64 0, .int .u64 0, .int .i64 0] 26)).alloc (.cells #[.bool false, .int .u64 0, .int .u64 0, .int .i64 0] 26)
  replace PW : Hid (HasG (((((w8.alloc (.cells #[.bool false, .int .u64 0, .int .u64 0] 24)).alloc (.cells #[.bool false, .int .u64 0, .int .u64 0] 24)).alloc (.cells #[.bool false, .int .u64 0, .int .u64 0, .int .i64 0] 26)).alloc (.cells #[.bool false, .int .u64 0, .int .u64 0, .int .i64 0] 26)).alloc (.cells #[.bool false, .int .u64 0, .int .u64 0, .int .i64 0] 26)) (m6) false 0 0 0) := (((((PW.out).alloc (.cells #[.bool false, .int .u64 0, .int .u64 0] 24)).alloc (.cells #[.bool false, .int .u64 0, .int .u64 0] 24)).alloc (.cells #[.bool false, .int .u64 0, .int .u64 0, .int .i64 0] 26)).alloc (.cells #[.bool false, .int .u64 0, .int .u64 0, .int .i64 0] 26)).alloc (.cells #[.bool false, .int .u64 0, .int .u64 0, .int .i64 0] 26)
  replace B : Hid (Below w.heap.size w (((((w8.alloc (.cells #[.bool false, .int .u64 0, .int .u64 0] 24)).alloc (.cells #[.bool false, .int .u64 0, .int .u64 0] 24)).alloc (.cells #[.bool false, .int .u64 0, .int .u64 0, .int .i64 0] 26)).alloc (.cells #[.bool false, .int .u64 0, .int .u64 0, .int .i64 0] 26)).alloc (.cells #[.bool false, .int .u64 0, .int .u64 0, .int .i64 0] 26))) := bal (bal (bal (bal (bal (B.out) _) _) _) _) _
  have FI : Hid (HasF (((((w8.alloc (.cells #[.bool false, .int .u64 0, .int .u64 0] 24)).alloc (.cells #[.bool false, .int .u64 0, .int .u64 0] 24)).alloc (.cells #[.bool false, .int .u64 0, .int .u64 0, .int .i64 0] 26)).alloc (.cells #[.bool false, .int .u64 0, .int .u64 0, .int .i64 0] 26)).alloc (.cells #[.bool false, .int .u64 0, .int .u64 0, .int .i64 0] 26)) (w8.heap.size) (.bool false) (.int .u64 0) (.int .u64 0)) := ((((HasF.new w8 (.bool false) (.int .u64 0) (.int .u64 0) 24).alloc (.cells #[.bool false, .int .u64 0, .int .u64 0] 24)).alloc (.cells #[.bool false, .int .u64 0, .int .u64 0, .int .i64 0] 26)).alloc (.cells #[.bool false, .int .u64 0, .int .u64 0, .int .i64 0] 26)).alloc (.cells #[.bool false, .int .u64 0, .int .u64 0, .int .i64 0] 26)
  have LA : Hid (HasF (((((w8.alloc (.cells #[.bool false, .int .u64 0, .int .u64 0] 24)).alloc (.cells #[.bool false, .int .u64 0, .int .u64 0] 24)).alloc (.cells #[.bool false, .int .u64 0, .int .u64 0, .int .i64 0] 26)).alloc (.cells #[.bool false, .int .u64 0, .int .u64 0, .int .i64 0] 26)).alloc (.cells #[.bool false, .int .u64 0, .int .u64 0, .int .i64 0] 26)) (w8.heap.size + 1) (.bool false) (.int .u64 0) (.int .u64 0)) := by
    have := (((HasF.new (w8.alloc (.cells #[.bool false, .int .u64 0, .int .u64 0] 24)) (.bool false) (.int .u64 0) (.int .u64 0) 24).alloc (.cells #[.bool false, .int .u64 0, .int .u64 0, .int .i64 0] 26)).alloc (.cells #[.bool false, .int .u64 0, .int .u64 0, .int .i64 0] 26)).alloc (.cells #[.bool false, .int .u64 0, .int .u64 0, .int .i64 0] 26)
    rw [show (w8.alloc (.cells #[.bool false, .int .u64 0, .int .u64 0] 24)).heap.size = w8.heap.size + 1 by simp] at this
    exact this
  have ON : Hid (HasG (((((w8.alloc (.cells #[.bool false, .int .u64 0, .int .u64 0] 24)).alloc (.cells #[.bool false, .int .u64 0, .int .u64 0] 24)).alloc (.cells #[.bool false, .int .u64 0, .int .u64 0, .int .i64 0] 26)).alloc (.cells #[.bool false, .int .u64 0, .int .u64 0, .int .i64 0] 26)).alloc (.cells #[.bool false, .int .u64 0, .int .u64 0, .int .i64 0] 26)) (w8.heap.size + 1 + 1) false 0 0 0) := by
    have := ((HasG.new ((w8.alloc (.cells #[.bool false, .int .u64 0, .int .u64 0] 24)).alloc (.cells #[.bool false, .int .u64 0, .int .u64 0] 24)) false 0 0 0 26).alloc (.cells #[.bool false, .int .u64 0, .int .u64 0, .int .i64 0] 26)).alloc (.cells #[.bool false, .int .u64 0, .int .u64 0, .int .i64 0] 26)
    rw [show ((w8.alloc (.cells #[.bool false, .int .u64 0, .int .u64 0] 24)).alloc (.cells #[.bool false, .int .u64 0, .int .u64 0] 24)).heap.size = w8.heap.size + 1 + 1 by simp] at this
    exact this
  have TW : Hid (HasG (((((w8.alloc (.cells #[.bool false, .int .u64 0, .int .u64 0] 24)).alloc (.cells #[.bool false, .int .u64 0, .int .u64 0] 24)).alloc (.cells #[.bool false, .int .u64 0, .int .u64 0, .int .i64 0] 26)).alloc (.cells #[.bool false, .int .u64 0, .int .u64 0, .int .i64 0] 26)).alloc (.cells #[.bool false, .int .u64 0, .int .u64 0, .int .i64 0] 26)) (w8.heap.size + 1 + 1 + 1) false 0 0 0) := by
    have := (HasG.new (((w8.alloc (.cells #[.bool false, .int .u64 0, .int .u64 0] 24)).alloc (.cells #[.bool false, .int .u64 0, .int .u64 0] 24)).alloc (.cells #[.bool false, .int .u64 0, .int .u64 0, .int .i64 0] 26)) false 0 0 0 26).alloc (.cells #[.bool false, .int .u64 0, .int .u64 0, .int .i64 0] 26)
    rw [show (((w8.alloc (.cells #[.bool false, .int .u64 0, .int .u64 0] 24)).alloc (.cells #[.bool false, .int .u64 0, .int .u64 0] 24)).alloc (.cells #[.bool false, .int .u64 0, .int .u64 0, .int .i64 0] 26)).heap.size = w8.heap.size + 1 + 1 + 1 by simp] at this
    exact this
  have WH : Hid (HasG (((((w8.alloc (.cells #[.bool false, .int .u64 0, .int .u64 0] 24)).alloc (.cells #[.bool false, .int .u64 0, .int .u64 0] 24)).alloc (.cells #[.bool false, .int .u64 0, .int .u64 0, .int .i64 0] 26)).alloc (.cells #[.bool false, .int .u64 0, .int .u64 0, .int .i64 0] 26)).alloc (.cells #[.bool false, .int .u64 0, .int .u64 0, .int .i64 0] 26)) (w8.heap.size + 1 + 1 + 1 + 1) false 0 0 0) := by
    have := HasG.new ((((w8.alloc (.cells #[.bool false, .int .u64 0, .int .u64 0] 24)).alloc (.cells #[.bool false, .int .u64 0, .int .u64 0] 24)).alloc (.cells #[.bool false, .int .u64 0, .int .u64 0, .int .i64 0] 26)).alloc (.cells #[.bool false, .int .u64 0, .int .u64 0, .int .i64 0] 26)) false 0 0 0 26
    rw [show ((((w8.alloc (.cells #[.bool false, .int .u64 0, .int .u64 0] 24)).alloc (.cells #[.bool false, .int .u64 0, .int .u64 0] 24)).alloc (.cells #[.bool false, .int .u64 0, .int .u64 0, .int .i64 0] 26)).alloc (.cells #[.bool false, .int .u64 0, .int .u64 0, .int .i64 0] 26)).heap.size = w8.heap.size + 1 + 1 + 1 + 1 by simp] at this
    exact this
  go_wp2_with fail
  generalize (((((w8.alloc (.cells #[.bool false, .int .u64 0, .int .u64 0] 24)).alloc (.cells #[.bool false, .int .u64 0, .int .u64 0] 24)).alloc (.cells #[.bool false, .int .u64 0, .int .u64 0, .int .i64 0] 26)).alloc (.cells #[.bool false, .int .u64 0, .int .u64 0, .int .i64 0] 26)).alloc (.cells #[.bool false, .int .u64 0, .int .u64 0, .int .i64 0] 26)) = W8 at *
  generalize w8.heap.size = m8 at *
  replace PP : Hid (HasG W8.drew (w.heap.size) v hi lo b) := PP.out
  replace PQ : Hid (HasG W8.drew (w.heap.size + 1) u yi yo c) := PQ.out
  replace PX : Hid (HasG W8.drew (m2) xv xh xl xb) := PX.out
  replace EA : Hid (HasF W8.drew (m4) (.bool v) (.int .u64 hi) (.int .u64 lo)) := EA.out
  replace EB : Hid (HasF W8.drew (m4 + 1) (.bool v) (.int .u64 lh) (.int .u64 ll)) := EB.out
  replace HC : Hid (HasG W8.drew (m5) v hi lo (b + 1)) := HC.out
  replace HD : Hid (HasG W8.drew (m5 + 1) v gh gl (b + 1)) := HD.out
  replace PW : Hid (HasG W8.drew (m6) false 0 0 0) := PW.out
  replace FI : Hid (HasF W8.drew (m8) (.bool false) (.int .u64 0) (.int .u64 0)) := FI.out
  replace LA : Hid (HasF W8.drew (m8 + 1) (.bool false) (.int .u64 0) (.int .u64 0)) := LA.out
  replace ON : Hid (HasG W8.drew (m8 + 1 + 1) false 0 0 0) := ON.out
  replace TW : Hid (HasG W8.drew (m8 + 1 + 1 + 1) false 0 0 0) := TW.out
  replace WH : Hid (HasG W8.drew (m8 + 1 + 1 + 1 + 1) false 0 0 0) := WH.out
  replace B : Hid (Below w.heap.size w W8.drew) := B.out.drew
  have HS0 : (W8.drew.cell? ⟨w.heap.size, 0, none⟩ = some (.bool v) ∧ W8.drew.cell? ⟨w.heap.size, 1, none⟩ = some (.int .u64 hi) ∧ W8.drew.cell? ⟨w.heap.size, 2, none⟩ = some (.int .u64 lo) ∧ W8.drew.cell? ⟨w.heap.size, 3, none⟩ = some (.int .i64 b) ∧ w.heap.size < W8.drew.heap.size) ∧ Below w.heap.size w W8.drew := ⟨PP.out.1, B.out⟩
  have nq1 := Ne.symm LPPFI.out
  have nq2 := Ne.symm LPPLA.out
  have gq1 := GFI.out
  have gq2 := GLA.out
  go_region_held3 (fun w' => (w'.cell? ⟨w.heap.size, 0, none⟩ = some (.bool v) ∧ w'.cell? ⟨w.heap.size, 1, none⟩ = some (.int .u64 hi) ∧ w'.cell? ⟨w.heap.size, 2, none⟩ = some (.int .u64 lo) ∧ w'.cell? ⟨w.heap.size, 3, none⟩ = some (.int .i64 b) ∧ w.heap.size < w'.heap.size) ∧ Below w.heap.size w w')
    (first | with_reducible exact HS0 | with_reducible exact keep3s (by with_reducible assumption) nq1 gq1 | with_reducible exact keep3s (by with_reducible assumption) nq2 gq2 | with_reducible exact keep4b (by with_reducible assumption) (by with_reducible assumption))
    (first
      | (go_at_call 11; refine (h9.out _).mono ?_; rintro e u1 ⟨rfl, hb1⟩; have PPk1 : Hid (HasG u1 (w.heap.size) v hi lo b) := PP.out.below hb1; have PQk1 : Hid (HasG u1 (w.heap.size + 1) u yi yo c) := PQ.out.below hb1; have PXk1 : Hid (HasG u1 (m2) xv xh xl xb) := PX.out.below hb1; have EAk1 : Hid (HasF u1 (m4) (.bool v) (.int .u64 hi) (.int .u64 lo)) := EA.out.below hb1; have EBk1 : Hid (HasF u1 (m4 + 1) (.bool v) (.int .u64 lh) (.int .u64 ll)) := EB.out.below hb1; have HCk1 : Hid (HasG u1 (m5) v hi lo (b + 1)) := HC.out.below hb1; have HDk1 : Hid (HasG u1 (m5 + 1) v gh gl (b + 1)) := HD.out.below hb1; have PWk1 : Hid (HasG u1 (m6) false 0 0 0) := PW.out.below hb1; have FIk1 : Hid (HasF u1 (m8) (.bool false) (.int .u64 0) (.int .u64 0)) := FI.out.below hb1; have LAk1 : Hid (HasF u1 (m8 + 1) (.bool false) (.int .u64 0) (.int .u64 0)) := LA.out.below hb1; have ONk1 : Hid (HasG u1 (m8 + 1 + 1) false 0 0 0) := ON.out.below hb1; have TWk1 : Hid (HasG u1 (m8 + 1 + 1 + 1) false 0 0 0) := TW.out.below hb1; have WHk1 : Hid (HasG u1 (m8 + 1 + 1 + 1 + 1) false 0 0 0) := WH.out.below hb1; have Bk1 : Hid (Below w.heap.size w u1) := btr B.out hb1)
      | (go_at_call 12; refine (h10.out _).mono ?_; rintro e u2 ⟨rfl, hb2⟩; have PPk2 : Hid (HasG u2 (w.heap.size) v hi lo b) := PPk1.out.below hb2; have PQk2 : Hid (HasG u2 (w.heap.size + 1) u yi yo c) := PQk1.out.below hb2; have PXk2 : Hid (HasG u2 (m2) xv xh xl xb) := PXk1.out.below hb2; have EAk2 : Hid (HasF u2 (m4) (.bool v) (.int .u64 hi) (.int .u64 lo)) := EAk1.out.below hb2; have EBk2 : Hid (HasF u2 (m4 + 1) (.bool v) (.int .u64 lh) (.int .u64 ll)) := EBk1.out.below hb2; have HCk2 : Hid (HasG u2 (m5) v hi lo (b + 1)) := HCk1.out.below hb2; have HDk2 : Hid (HasG u2 (m5 + 1) v gh gl (b + 1)) := HDk1.out.below hb2; have PWk2 : Hid (HasG u2 (m6) false 0 0 0) := PWk1.out.below hb2; have FIk2 : Hid (HasF u2 (m8) (.bool false) (.int .u64 0) (.int .u64 0)) := FIk1.out.below hb2; have LAk2 : Hid (HasF u2 (m8 + 1) (.bool false) (.int .u64 0) (.int .u64 0)) := LAk1.out.below hb2; have ONk2 : Hid (HasG u2 (m8 + 1 + 1) false 0 0 0) := ONk1.out.below hb2; have TWk2 : Hid (HasG u2 (m8 + 1 + 1 + 1) false 0 0 0) := TWk1.out.below hb2; have WHk2 : Hid (HasG u2 (m8 + 1 + 1 + 1 + 1) false 0 0 0) := WHk1.out.below hb2; have Bk2 : Hid (Below w.heap.size w u2) := btr Bk1.out hb2; obtain ⟨⟨FIa0, FIa1, FIa2, FIa3⟩, FIF⟩ := FIk2.out; have FIf0 := FIF 0; have FIf1 := FIF 1; have FIf2 := FIF 2; clear FIF; obtain ⟨⟨LAa0, LAa1, LAa2, LAa3⟩, LAF⟩ := LAk2.out; have LAf0 := LAF 0; have LAf1 := LAF 1; have LAf2 := LAF 2; clear LAF))
  replace PP := PPk2
  replace PQ := PQk2
  replace PX := PXk2
  replace EA := EAk2
  replace EB := EBk2
  replace HC := HCk2
  replace HD := HDk2
  replace PW := PWk2
  replace FI := FIk2
  replace LA := LAk2
  replace ON := ONk2
  replace TW := TWk2
  replace WH := WHk2
  replace B := Bk2
  clear PPk1 PQk1 PXk1 EAk1 EBk1 HCk1 HDk1 PWk1 FIk1 LAk1 ONk1 TWk1 WHk1 Bk1 PPk2 PQk2 PXk2 EAk2 EBk2 HCk2 HDk2 PWk2 FIk2 LAk2 ONk2 TWk2 WHk2 Bk2 HS0 nq1 nq2 gq1 gq2
  replace PP : Hid (HasG (((u2.setCell ⟨m8, 0, none⟩ (.bool v)).setCell ⟨m8, 1, none⟩ (.int .u64 hi)).setCell ⟨m8, 2, none⟩ (.int .u64 lo)) (w.heap.size) v hi lo b) := PP.out.other3 LPPFI.out _ _ _
  replace PQ : Hid (HasG (((u2.setCell ⟨m8, 0, none⟩ (.bool v)).setCell ⟨m8, 1, none⟩ (.int .u64 hi)).setCell ⟨m8, 2, none⟩ (.int .u64 lo)) (w.heap.size + 1) u yi yo c) := PQ.out.other3 LPQFI.out _ _ _
  replace PX : Hid (HasG (((u2.setCell ⟨m8, 0, none⟩ (.bool v)).setCell ⟨m8, 1, none⟩ (.int .u64 hi)).setCell ⟨m8, 2, none⟩ (.int .u64 lo)) (m2) xv xh xl xb) := PX.out.other3 LPXFI.out _ _ _
  replace EA : Hid (HasF (((u2.setCell ⟨m8, 0, none⟩ (.bool v)).setCell ⟨m8, 1, none⟩ (.int .u64 hi)).setCell ⟨m8, 2, none⟩ (.int .u64 lo)) (m4) (.bool v) (.int .u64 hi) (.int .u64 lo)) := EA.out.other3 LEAFI.out _ _ _
  replace EB : Hid (HasF (((u2.setCell ⟨m8, 0, none⟩ (.bool v)).setCell ⟨m8, 1, none⟩ (.int .u64 hi)).setCell ⟨m8, 2, none⟩ (.int .u64 lo)) (m4 + 1) (.bool v) (.int .u64 lh) (.int .u64 ll)) := EB.out.other3 LEBFI.out _ _ _
  replace HC : Hid (HasG (((u2.setCell ⟨m8, 0, none⟩ (.bool v)).setCell ⟨m8, 1, none⟩ (.int .u64 hi)).setCell ⟨m8, 2, none⟩ (.int .u64 lo)) (m5) v hi lo (b + 1)) := HC.out.other3 LHCFI.out _ _ _
  replace HD : Hid (HasG (((u2.setCell ⟨m8, 0, none⟩ (.bool v)).setCell ⟨m8, 1, none⟩ (.int .u64 hi)).setCell ⟨m8, 2, none⟩ (.int .u64 lo)) (m5 + 1) v gh gl (b + 1)) := HD.out.other3 LHDFI.out _ _ _
  replace PW : Hid (HasG (((u2.setCell ⟨m8, 0, none⟩ (.bool v)).setCell ⟨m8, 1, none⟩ (.int .u64 hi)).setCell ⟨m8, 2, none⟩ (.int .u64 lo)) (m6) false 0 0 0) := PW.out.other3 LPWFI.out _ _ _
  replace LA : Hid (HasF (((u2.setCell ⟨m8, 0, none⟩ (.bool v)).setCell ⟨m8, 1, none⟩ (.int .u64 hi)).setCell ⟨m8, 2, none⟩ (.int .u64 lo)) (m8 + 1) (.bool false) (.int .u64 0) (.int .u64 0)) := LA.out.other3 (Ne.symm LFILA.out) _ _ _
  replace ON : Hid (HasG (((u2.setCell ⟨m8, 0, none⟩ (.bool v)).setCell ⟨m8, 1, none⟩ (.int .u64 hi)).setCell ⟨m8, 2, none⟩ (.int .u64 lo)) (m8 + 1 + 1) false 0 0 0) := ON.out.other3 (Ne.symm LFION.out) _ _ _
  replace TW : Hid (HasG (((u2.setCell ⟨m8, 0, none⟩ (.bool v)).setCell ⟨m8, 1, none⟩ (.int .u64 hi)).setCell ⟨m8, 2, none⟩ (.int .u64 lo)) (m8 + 1 + 1 + 1) false 0 0 0) := TW.out.other3 (Ne.symm LFITW.out) _ _ _
  replace WH : Hid (HasG (((u2.setCell ⟨m8, 0, none⟩ (.bool v)).setCell ⟨m8, 1, none⟩ (.int .u64 hi)).setCell ⟨m8, 2, none⟩ (.int .u64 lo)) (m8 + 1 + 1 + 1 + 1) false 0 0 0) := WH.out.other3 (Ne.symm LFIWH.out) _ _ _
  replace FI : Hid (HasF (((u2.setCell ⟨m8, 0, none⟩ (.bool v)).setCell ⟨m8, 1, none⟩ (.int .u64 hi)).setCell ⟨m8, 2, none⟩ (.int .u64 lo)) (m8) (.bool v) (.int .u64 hi) (.int .u64 lo)) := FI.out.store _ _ _
  replace B : Hid (Below w.heap.size w (((u2.setCell ⟨m8, 0, none⟩ (.bool v)).setCell ⟨m8, 1, none⟩ (.int .u64 hi)).setCell ⟨m8, 2, none⟩ (.int .u64 lo))) := bse (bse (bse (B.out) GFI.out _) GFI.out _) GFI.out _
  replace PP : Hid (HasG ((((((u2.setCell ⟨m8, 0, none⟩ (.bool v)).setCell ⟨m8, 1, none⟩ (.int .u64 hi)).setCell ⟨m8, 2, none⟩ (.int .u64 lo)).setCell ⟨m8 + 1, 0, none⟩ (.bool v)).setCell ⟨m8 + 1, 1, none⟩ (.int .u64 lh)).setCell ⟨m8 + 1, 2, none⟩ (.int .u64 ll)) (w.heap.size) v hi lo b) := PP.out.other3 LPPLA.out _ _ _
  replace PQ : Hid (HasG ((((((u2.setCell ⟨m8, 0, none⟩ (.bool v)).setCell ⟨m8, 1, none⟩ (.int .u64 hi)).setCell ⟨m8, 2, none⟩ (.int .u64 lo)).setCell ⟨m8 + 1, 0, none⟩ (.bool v)).setCell ⟨m8 + 1, 1, none⟩ (.int .u64 lh)).setCell ⟨m8 + 1, 2, none⟩ (.int .u64 ll)) (w.heap.size + 1) u yi yo c) := PQ.out.other3 LPQLA.out _ _ _
  replace PX : Hid (HasG ((((((u2.setCell ⟨m8, 0, none⟩ (.bool v)).setCell ⟨m8, 1, none⟩ (.int .u64 hi)).setCell ⟨m8, 2, none⟩ (.int .u64 lo)).setCell ⟨m8 + 1, 0, none⟩ (.bool v)).setCell ⟨m8 + 1, 1, none⟩ (.int .u64 lh)).setCell ⟨m8 + 1, 2, none⟩ (.int .u64 ll)) (m2) xv xh xl xb) := PX.out.other3 LPXLA.out _ _ _
  replace EA : Hid (HasF ((((((u2.setCell ⟨m8, 0, none⟩ (.bool v)).setCell ⟨m8, 1, none⟩ (.int .u64 hi)).setCell ⟨m8, 2, none⟩ (.int .u64 lo)).setCell ⟨m8 + 1, 0, none⟩ (.bool v)).setCell ⟨m8 + 1, 1, none⟩ (.int .u64 lh)).setCell ⟨m8 + 1, 2, none⟩ (.int .u64 ll)) (m4) (.bool v) (.int .u64 hi) (.int .u64 lo)) := EA.out.other3 LEALA.out _ _ _
  replace EB : Hid (HasF ((((((u2.setCell ⟨m8, 0, none⟩ (.bool v)).setCell ⟨m8, 1, none⟩ (.int .u64 hi)).setCell ⟨m8, 2, none⟩ (.int .u64 lo)).setCell ⟨m8 + 1, 0, none⟩ (.bool v)).setCell ⟨m8 + 1, 1, none⟩ (.int .u64 lh)).setCell ⟨m8 + 1, 2, none⟩ (.int .u64 ll)) (m4 + 1) (.bool v) (.int .u64 lh) (.int .u64 ll)) := EB.out.other3 LEBLA.out _ _ _
  replace HC : Hid (HasG ((((((u2.setCell ⟨m8, 0, none⟩ (.bool v)).setCell ⟨m8, 1, none⟩ (.int .u64 hi)).setCell ⟨m8, 2, none⟩ (.int .u64 lo)).setCell ⟨m8 + 1, 0, none⟩ (.bool v)).setCell ⟨m8 + 1, 1, none⟩ (.int .u64 lh)).setCell ⟨m8 + 1, 2, none⟩ (.int .u64 ll)) (m5) v hi lo (b + 1)) := HC.out.other3 LHCLA.out _ _ _
  replace HD : Hid (HasG ((((((u2.setCell ⟨m8, 0, none⟩ (.bool v)).setCell ⟨m8, 1, none⟩ (.int .u64 hi)).setCell ⟨m8, 2, none⟩ (.int .u64 lo)).setCell ⟨m8 + 1, 0, none⟩ (.bool v)).setCell ⟨m8 + 1, 1, none⟩ (.int .u64 lh)).setCell ⟨m8 + 1, 2, none⟩ (.int .u64 ll)) (m5 + 1) v gh gl (b + 1)) := HD.out.other3 LHDLA.out _ _ _
  replace PW : Hid (HasG ((((((u2.setCell ⟨m8, 0, none⟩ (.bool v)).setCell ⟨m8, 1, none⟩ (.int .u64 hi)).setCell ⟨m8, 2, none⟩ (.int .u64 lo)).setCell ⟨m8 + 1, 0, none⟩ (.bool v)).setCell ⟨m8 + 1, 1, none⟩ (.int .u64 lh)).setCell ⟨m8 + 1, 2, none⟩ (.int .u64 ll)) (m6) false 0 0 0) := PW.out.other3 LPWLA.out _ _ _
  replace FI : Hid (HasF ((((((u2.setCell ⟨m8, 0, none⟩ (.bool v)).setCell ⟨m8, 1, none⟩ (.int .u64 hi)).setCell ⟨m8, 2, none⟩ (.int .u64 lo)).setCell ⟨m8 + 1, 0, none⟩ (.bool v)).setCell ⟨m8 + 1, 1, none⟩ (.int .u64 lh)).setCell ⟨m8 + 1, 2, none⟩ (.int .u64 ll)) (m8) (.bool v) (.int .u64 hi) (.int .u64 lo)) := FI.out.other3 LFILA.out _ _ _
  replace ON : Hid (HasG ((((((u2.setCell ⟨m8, 0, none⟩ (.bool v)).setCell ⟨m8, 1, none⟩ (.int .u64 hi)).setCell ⟨m8, 2, none⟩ (.int .u64 lo)).setCell ⟨m8 + 1, 0, none⟩ (.bool v)).setCell ⟨m8 + 1, 1, none⟩ (.int .u64 lh)).setCell ⟨m8 + 1, 2, none⟩ (.int .u64 ll)) (m8 + 1 + 1) false 0 0 0) := ON.out.other3 (Ne.symm LLAON.out) _ _ _
  replace TW : Hid (HasG ((((((u2.setCell ⟨m8, 0, none⟩ (.bool v)).setCell ⟨m8, 1, none⟩ (.int .u64 hi)).setCell ⟨m8, 2, none⟩ (.int .u64 lo)).setCell ⟨m8 + 1, 0, none⟩ (.bool v)).setCell ⟨m8 + 1, 1, none⟩ (.int .u64 lh)).setCell ⟨m8 + 1, 2, none⟩ (.int .u64 ll)) (m8 + 1 + 1 + 1) false 0 0 0) := TW.out.other3 (Ne.symm LLATW.out) _ _ _
  replace WH : Hid (HasG ((((((u2.setCell ⟨m8, 0, none⟩ (.bool v)).setCell ⟨m8, 1, none⟩ (.int .u64 hi)).setCell ⟨m8, 2, none⟩ (.int .u64 lo)).setCell ⟨m8 + 1, 0, none⟩ (.bool v)).setCell ⟨m8 + 1, 1, none⟩ (.int .u64 lh)).setCell ⟨m8 + 1, 2, none⟩ (.int .u64 ll)) (m8 + 1 + 1 + 1 + 1) false 0 0 0) := WH.out.other3 (Ne.symm LLAWH.out) _ _ _
  replace LA : Hid (HasF ((((((u2.setCell ⟨m8, 0, none⟩ (.bool v)).setCell ⟨m8, 1, none⟩ (.int .u64 hi)).setCell ⟨m8, 2, none⟩ (.int .u64 lo)).setCell ⟨m8 + 1, 0, none⟩ (.bool v)).setCell ⟨m8 + 1, 1, none⟩ (.int .u64 lh)).setCell ⟨m8 + 1, 2, none⟩ (.int .u64 ll)) (m8 + 1) (.bool v) (.int .u64 lh) (.int .u64 ll)) := LA.out.store _ _ _
  replace B : Hid (Below w.heap.size w ((((((u2.setCell ⟨m8, 0, none⟩ (.bool v)).setCell ⟨m8, 1, none⟩ (.int .u64 hi)).setCell ⟨m8, 2, none⟩ (.int .u64 lo)).setCell ⟨m8 + 1, 0, none⟩ (.bool v)).setCell ⟨m8 + 1, 1, none⟩ (.int .u64 lh)).setCell ⟨m8 + 1, 2, none⟩ (.int .u64 ll))) := bse (bse (bse (B.out) GLA.out _) GLA.out _) GLA.out _
  go_wp2_with fail
  clear FIa0 FIa1 FIa2 FIa3 FIf0 FIf1 FIf2
  clear LAa0 LAa1 LAa2 LAa3 LAf0 LAf1 LAf2
  generalize ((((((u2.setCell ⟨m8, 0, none⟩ (.bool v)).setCell ⟨m8, 1, none⟩ (.int .u64 hi)).setCell ⟨m8, 2, none⟩ (.int .u64 lo)).setCell ⟨m8 + 1, 0, none⟩ (.bool v)).setCell ⟨m8 + 1, 1, none⟩ (.int .u64 lh)).setCell ⟨m8 + 1, 2, none⟩ (.int .u64 ll)) = W20 at *
  replace PP : Hid (HasG W20.drew (w.heap.size) v hi lo b) := PP.out
  replace PQ : Hid (HasG W20.drew (w.heap.size + 1) u yi yo c) := PQ.out
  replace PX : Hid (HasG W20.drew (m2) xv xh xl xb) := PX.out
  replace EA : Hid (HasF W20.drew (m4) (.bool v) (.int .u64 hi) (.int .u64 lo)) := EA.out
  replace EB : Hid (HasF W20.drew (m4 + 1) (.bool v) (.int .u64 lh) (.int .u64 ll)) := EB.out
  replace HC : Hid (HasG W20.drew (m5) v hi lo (b + 1)) := HC.out
  replace HD : Hid (HasG W20.drew (m5 + 1) v gh gl (b + 1)) := HD.out
  replace PW : Hid (HasG W20.drew (m6) false 0 0 0) := PW.out
  replace FI : Hid (HasF W20.drew (m8) (.bool v) (.int .u64 hi) (.int .u64 lo)) := FI.out
  replace LA : Hid (HasF W20.drew (m8 + 1) (.bool v) (.int .u64 lh) (.int .u64 ll)) := LA.out
  replace ON : Hid (HasG W20.drew (m8 + 1 + 1) false 0 0 0) := ON.out
  replace TW : Hid (HasG W20.drew (m8 + 1 + 1 + 1) false 0 0 0) := TW.out
  replace WH : Hid (HasG W20.drew (m8 + 1 + 1 + 1 + 1) false 0 0 0) := WH.out
  replace B : Hid (Below w.heap.size w W20.drew) := B.out.drew
  have HS0 : (W20.drew.cell? ⟨w.heap.size, 0, none⟩ = some (.bool v) ∧ W20.drew.cell? ⟨w.heap.size, 1, none⟩ = some (.int .u64 hi) ∧ W20.drew.cell? ⟨w.heap.size, 2, none⟩ = some (.int .u64 lo) ∧ W20.drew.cell? ⟨w.heap.size, 3, none⟩ = some (.int .i64 b) ∧ w.heap.size < W20.drew.heap.size) ∧ Below w.heap.size w W20.drew := ⟨PP.out.1, B.out⟩
  go_region_held3 (fun w' => (w'.cell? ⟨w.heap.size, 0, none⟩ = some (.bool v) ∧ w'.cell? ⟨w.heap.size, 1, none⟩ = some (.int .u64 hi) ∧ w'.cell? ⟨w.heap.size, 2, none⟩ = some (.int .u64 lo) ∧ w'.cell? ⟨w.heap.size, 3, none⟩ = some (.int .i64 b) ∧ w.heap.size < w'.heap.size) ∧ Below w.heap.size w w')
    (first | with_reducible exact HS0 | with_reducible exact keep4b (by with_reducible assumption) (by with_reducible assumption))
    ((go_at_call 13; refine (h11.out _).mono ?_; rintro e u3 ⟨rfl, hb3⟩; have PPk3 : Hid (HasG u3 (w.heap.size) v hi lo b) := PP.out.below hb3; have PQk3 : Hid (HasG u3 (w.heap.size + 1) u yi yo c) := PQ.out.below hb3; have PXk3 : Hid (HasG u3 (m2) xv xh xl xb) := PX.out.below hb3; have EAk3 : Hid (HasF u3 (m4) (.bool v) (.int .u64 hi) (.int .u64 lo)) := EA.out.below hb3; have EBk3 : Hid (HasF u3 (m4 + 1) (.bool v) (.int .u64 lh) (.int .u64 ll)) := EB.out.below hb3; have HCk3 : Hid (HasG u3 (m5) v hi lo (b + 1)) := HC.out.below hb3; have HDk3 : Hid (HasG u3 (m5 + 1) v gh gl (b + 1)) := HD.out.below hb3; have PWk3 : Hid (HasG u3 (m6) false 0 0 0) := PW.out.below hb3; have FIk3 : Hid (HasF u3 (m8) (.bool v) (.int .u64 hi) (.int .u64 lo)) := FI.out.below hb3; have LAk3 : Hid (HasF u3 (m8 + 1) (.bool v) (.int .u64 lh) (.int .u64 ll)) := LA.out.below hb3; have ONk3 : Hid (HasG u3 (m8 + 1 + 1) false 0 0 0) := ON.out.below hb3; have TWk3 : Hid (HasG u3 (m8 + 1 + 1 + 1) false 0 0 0) := TW.out.below hb3; have WHk3 : Hid (HasG u3 (m8 + 1 + 1 + 1 + 1) false 0 0 0) := WH.out.below hb3; have Bk3 : Hid (Below w.heap.size w u3) := btr B.out hb3))
  replace PP := PPk3
  replace PQ := PQk3
  replace PX := PXk3
  replace EA := EAk3
  replace EB := EBk3
  replace HC := HCk3
  replace HD := HDk3
  replace PW := PWk3
  replace FI := FIk3
  replace LA := LAk3
  replace ON := ONk3
  replace TW := TWk3
  replace WH := WHk3
  replace B := Bk3
  clear PPk3 PQk3 PXk3 EAk3 EBk3 HCk3 HDk3 PWk3 FIk3 LAk3 ONk3 TWk3 WHk3 Bk3 HS0
  obtain ⟨⟨PP0, PP1, PP2, PP3, PP4⟩, _⟩ := PP.out
  go_wp2_with fail
  refine (h12.out _).mono ?_
  clear PP0 PP1 PP2 PP3 PP4
  rintro e w31 ⟨rfl, hb⟩
  replace PP : Hid (HasG w31 (w.heap.size) v hi lo b) := PP.out.below hb
  replace PQ : Hid (HasG w31 (w.heap.size + 1) u yi yo c) := PQ.out.below hb
  replace PX : Hid (HasG w31 (m2) xv xh xl xb) := PX.out.below hb
  replace EA : Hid (HasF w31 (m4) (.bool v) (.int .u64 hi) (.int .u64 lo)) := EA.out.below hb
  replace EB : Hid (HasF w31 (m4 + 1) (.bool v) (.int .u64 lh) (.int .u64 ll)) := EB.out.below hb
  replace HC : Hid (HasG w31 (m5) v hi lo (b + 1)) := HC.out.below hb
  replace HD : Hid (HasG w31 (m5 + 1) v gh gl (b + 1)) := HD.out.below hb
  replace PW : Hid (HasG w31 (m6) false 0 0 0) := PW.out.below hb
  replace FI : Hid (HasF w31 (m8) (.bool v) (.int .u64 hi) (.int .u64 lo)) := FI.out.below hb
  replace LA : Hid (HasF w31 (m8 + 1) (.bool v) (.int .u64 lh) (.int .u64 ll)) := LA.out.below hb
  replace ON : Hid (HasG w31 (m8 + 1 + 1) false 0 0 0) := ON.out.below hb
  replace TW : Hid (HasG w31 (m8 + 1 + 1 + 1) false 0 0 0) := TW.out.below hb
  replace WH : Hid (HasG w31 (m8 + 1 + 1 + 1 + 1) false 0 0 0) := WH.out.below hb
  replace B : Hid (Below w.heap.size w w31) := btr B.out hb
  clear hb
  obtain ⟨⟨ONa0, ONa1, ONa2, ONa3, ONa4⟩, ONF⟩ := ON.out
  have ONf0 := ONF 0
  have ONf1 := ONF 1
  have ONf2 := ONF 2
  have ONf3 := ONF 3
  clear ONF
  replace PP : Hid (HasG ((((w31.setCell ⟨m8 + 1 + 1, 0, none⟩ (.bool v)).setCell ⟨m8 + 1 + 1, 1, none⟩ (.int .u64 hi)).setCell ⟨m8 + 1 + 1, 2, none⟩ (.int .u64 lo)).setCell ⟨m8 + 1 + 1, 3, none⟩ (.int .i64 (b + 1))) (w.heap.size) v hi lo b) := PP.out.other4 LPPON.out _ _ _ _
  replace PQ : Hid (HasG ((((w31.setCell ⟨m8 + 1 + 1, 0, none⟩ (.bool v)).setCell ⟨m8 + 1 + 1, 1, none⟩ (.int .u64 hi)).setCell ⟨m8 + 1 + 1, 2, none⟩ (.int .u64 lo)).setCell ⟨m8 + 1 + 1, 3, none⟩ (.int .i64 (b + 1))) (w.heap.size + 1) u yi yo c) := PQ.out.other4 LPQON.out _ _ _ _
  replace PX : Hid (HasG ((((w31.setCell ⟨m8 + 1 + 1, 0, none⟩ (.bool v)).setCell ⟨m8 + 1 + 1, 1, none⟩ (.int .u64 hi)).setCell ⟨m8 + 1 + 1, 2, none⟩ (.int .u64 lo)).setCell ⟨m8 + 1 + 1, 3, none⟩ (.int .i64 (b + 1))) (m2) xv xh xl xb) := PX.out.other4 LPXON.out _ _ _ _
  replace EA : Hid (HasF ((((w31.setCell ⟨m8 + 1 + 1, 0, none⟩ (.bool v)).setCell ⟨m8 + 1 + 1, 1, none⟩ (.int .u64 hi)).setCell ⟨m8 + 1 + 1, 2, none⟩ (.int .u64 lo)).setCell ⟨m8 + 1 + 1, 3, none⟩ (.int .i64 (b + 1))) (m4) (.bool v) (.int .u64 hi) (.int .u64 lo)) := EA.out.other4 LEAON.out _ _ _ _
  replace EB : Hid (HasF ((((w31.setCell ⟨m8 + 1 + 1, 0, none⟩ (.bool v)).setCell ⟨m8 + 1 + 1, 1, none⟩ (.int .u64 hi)).setCell ⟨m8 + 1 + 1, 2, none⟩ (.int .u64 lo)).setCell ⟨m8 + 1 + 1, 3, none⟩ (.int .i64 (b + 1))) (m4 + 1) (.bool v) (.int .u64 lh) (.int .u64 ll)) := EB.out.other4 LEBON.out _ _ _ _
  replace HC : Hid (HasG ((((w31.setCell ⟨m8 + 1 + 1, 0, none⟩ (.bool v)).setCell ⟨m8 + 1 + 1, 1, none⟩ (.int .u64 hi)).setCell ⟨m8 + 1 + 1, 2, none⟩ (.int .u64 lo)).setCell ⟨m8 + 1 + 1, 3, none⟩ (.int .i64 (b + 1))) (m5) v hi lo (b + 1)) := HC.out.other4 LHCON.out _ _ _ _
  replace HD : Hid (HasG ((((w31.setCell ⟨m8 + 1 + 1, 0, none⟩ (.bool v)).setCell ⟨m8 + 1 + 1, 1, none⟩ (.int .u64 hi)).setCell ⟨m8 + 1 + 1, 2, none⟩ (.int .u64 lo)).setCell ⟨m8 + 1 + 1, 3, none⟩ (.int .i64 (b + 1))) (m5 + 1) v gh gl (b + 1)) := HD.out.other4 LHDON.out _ _ _ _
  replace PW : Hid (HasG ((((w31.setCell ⟨m8 + 1 + 1, 0, none⟩ (.bool v)).setCell ⟨m8 + 1 + 1, 1, none⟩ (.int .u64 hi)).setCell ⟨m8 + 1 + 1, 2, none⟩ (.int .u64 lo)).setCell ⟨m8 + 1 + 1, 3, none⟩ (.int .i64 (b + 1))) (m6) false 0 0 0) := PW.out.other4 LPWON.out _ _ _ _
  replace FI : Hid (HasF ((((w31.setCell ⟨m8 + 1 + 1, 0, none⟩ (.bool v)).setCell ⟨m8 + 1 + 1, 1, none⟩ (.int .u64 hi)).setCell ⟨m8 + 1 + 1, 2, none⟩ (.int .u64 lo)).setCell ⟨m8 + 1 + 1, 3, none⟩ (.int .i64 (b + 1))) (m8) (.bool v) (.int .u64 hi) (.int .u64 lo)) := FI.out.other4 LFION.out _ _ _ _
  replace LA : Hid (HasF ((((w31.setCell ⟨m8 + 1 + 1, 0, none⟩ (.bool v)).setCell ⟨m8 + 1 + 1, 1, none⟩ (.int .u64 hi)).setCell ⟨m8 + 1 + 1, 2, none⟩ (.int .u64 lo)).setCell ⟨m8 + 1 + 1, 3, none⟩ (.int .i64 (b + 1))) (m8 + 1) (.bool v) (.int .u64 lh) (.int .u64 ll)) := LA.out.other4 LLAON.out _ _ _ _
  replace TW : Hid (HasG ((((w31.setCell ⟨m8 + 1 + 1, 0, none⟩ (.bool v)).setCell ⟨m8 + 1 + 1, 1, none⟩ (.int .u64 hi)).setCell ⟨m8 + 1 + 1, 2, none⟩ (.int .u64 lo)).setCell ⟨m8 + 1 + 1, 3, none⟩ (.int .i64 (b + 1))) (m8 + 1 + 1 + 1) false 0 0 0) := TW.out.other4 (Ne.symm LONTW.out) _ _ _ _
  replace WH : Hid (HasG ((((w31.setCell ⟨m8 + 1 + 1, 0, none⟩ (.bool v)).setCell ⟨m8 + 1 + 1, 1, none⟩ (.int .u64 hi)).setCell ⟨m8 + 1 + 1, 2, none⟩ (.int .u64 lo)).setCell ⟨m8 + 1 + 1, 3, none⟩ (.int .i64 (b + 1))) (m8 + 1 + 1 + 1 + 1) false 0 0 0) := WH.out.other4 (Ne.symm LONWH.out) _ _ _ _
  replace ON : Hid (HasG ((((w31.setCell ⟨m8 + 1 + 1, 0, none⟩ (.bool v)).setCell ⟨m8 + 1 + 1, 1, none⟩ (.int .u64 hi)).setCell ⟨m8 + 1 + 1, 2, none⟩ (.int .u64 lo)).setCell ⟨m8 + 1 + 1, 3, none⟩ (.int .i64 (b + 1))) (m8 + 1 + 1) v hi lo (b + 1)) := ON.out.store _ _ _ _
  replace B : Hid (Below w.heap.size w ((((w31.setCell ⟨m8 + 1 + 1, 0, none⟩ (.bool v)).setCell ⟨m8 + 1 + 1, 1, none⟩ (.int .u64 hi)).setCell ⟨m8 + 1 + 1, 2, none⟩ (.int .u64 lo)).setCell ⟨m8 + 1 + 1, 3, none⟩ (.int .i64 (b + 1)))) := bse (bse (bse (bse (B.out) GON.out _) GON.out _) GON.out _) GON.out _
  obtain ⟨⟨TWa0, TWa1, TWa2, TWa3, TWa4⟩, TWF⟩ := TW.out
  have TWf0 := TWF 0
  have TWf1 := TWF 1
  have TWf2 := TWF 2
  have TWf3 := TWF 3
  clear TWF
  replace PP : Hid (HasG ((((((((w31.setCell ⟨m8 + 1 + 1, 0, none⟩ (.bool v)).setCell ⟨m8 + 1 + 1, 1, none⟩ (.int .u64 hi)).setCell ⟨m8 + 1 + 1, 2, none⟩ (.int .u64 lo)).setCell ⟨m8 + 1 + 1, 3, none⟩ (.int .i64 (b + 1))).setCell ⟨m8 + 1 + 1 + 1, 0, none⟩ (.bool v)).setCell ⟨m8 + 1 + 1 + 1, 1, none⟩ (.int .u64 gh)).setCell ⟨m8 + 1 + 1 + 1, 2, none⟩ (.int .u64 gl)).setCell ⟨m8 + 1 + 1 + 1, 3, none⟩ (.int .i64 (b + 1))) (w.heap.size) v hi lo b) := PP.out.other4 LPPTW.out _ _ _ _
  replace PQ : Hid (HasG ((((((((w31.setCell ⟨m8 + 1 + 1, 0, none⟩ (.bool v)).setCell ⟨m8 + 1 + 1, 1, none⟩ (.int .u64 hi)).setCell ⟨m8 + 1 + 1, 2, none⟩ (.int .u64 lo)).setCell ⟨m8 + 1 + 1, 3, none⟩ (.int .i64 (b + 1))).setCell ⟨m8 + 1 + 1 + 1, 0, none⟩ (.bool v)).setCell ⟨m8 + 1 + 1 + 1, 1, none⟩ (.int .u64 gh)).setCell ⟨m8 + 1 + 1 + 1, 2, none⟩ (.int .u64 gl)).setCell ⟨m8 + 1 + 1 + 1, 3, none⟩ (.int .i64 (b + 1))) (w.heap.size + 1) u yi yo c) := PQ.out.other4 LPQTW.out _ _ _ _
  replace PX : Hid (HasG ((((((((w31.setCell ⟨m8 + 1 + 1, 0, none⟩ (.bool v)).setCell ⟨m8 + 1 + 1, 1, none⟩ (.int .u64 hi)).setCell ⟨m8 + 1 + 1, 2, none⟩ (.int .u64 lo)).setCell ⟨m8 + 1 + 1, 3, none⟩ (.int .i64 (b + 1))).setCell ⟨m8 + 1 + 1 + 1, 0, none⟩ (.bool v)).setCell ⟨m8 + 1 + 1 + 1, 1, none⟩ (.int .u64 gh)).setCell ⟨m8 + 1 + 1 + 1, 2, none⟩ (.int .u64 gl)).setCell ⟨m8 + 1 + 1 + 1, 3, none⟩ (.int .i64 (b + 1))) (m2) xv xh xl xb) := PX.out.other4 LPXTW.out _ _ _ _
  replace EA : Hid (HasF ((((((((w31.setCell ⟨m8 + 1 + 1, 0, none⟩ (.bool v)).setCell ⟨m8 + 1 + 1, 1, none⟩ (.int .u64 hi)).setCell ⟨m8 + 1 + 1, 2, none⟩ (.int .u64 lo)).setCell ⟨m8 + 1 + 1, 3, none⟩ (.int .i64 (b + 1))).setCell ⟨m8 + 1 + 1 + 1, 0, none⟩ (.bool v)).setCell ⟨m8 + 1 + 1 + 1, 1, none⟩ (.int .u64 gh)).setCell ⟨m8 + 1 + 1 + 1, 2, none⟩ (.int .u64 gl)).setCell ⟨m8 + 1 + 1 + 1, 3, none⟩ (.int .i64 (b + 1))) (m4) (.bool v) (.int .u64 hi) (.int .u64 lo)) := EA.out.other4 LEATW.out _ _ _ _
  replace EB : Hid (HasF ((((((((w31.setCell ⟨m8 + 1 + 1, 0, none⟩ (.bool v)).setCell ⟨m8 + 1 + 1, 1, none⟩ (.int .u64 hi)).setCell ⟨m8 + 1 + 1, 2, none⟩ (.int .u64 lo)).setCell ⟨m8 + 1 + 1, 3, none⟩ (.int .i64 (b + 1))).setCell ⟨m8 + 1 + 1 + 1, 0, none⟩ (.bool v)).setCell ⟨m8 + 1 + 1 + 1, 1, none⟩ (.int .u64 gh)).setCell ⟨m8 + 1 + 1 + 1, 2, none⟩ (.int .u64 gl)).setCell ⟨m8 + 1 + 1 + 1, 3, none⟩ (.int .i64 (b + 1))) (m4 + 1) (.bool v) (.int .u64 lh) (.int .u64 ll)) := EB.out.other4 LEBTW.out _ _ _ _
  replace HC : Hid (HasG ((((((((w31.setCell ⟨m8 + 1 + 1, 0, none⟩ (.bool v)).setCell ⟨m8 + 1 + 1, 1, none⟩ (.int .u64 hi)).setCell ⟨m8 + 1 + 1, 2, none⟩ (.int .u64 lo)).setCell ⟨m8 + 1 + 1, 3, none⟩ (.int .i64 (b + 1))).setCell ⟨m8 + 1 + 1 + 1, 0, none⟩ (.bool v)).setCell ⟨m8 + 1 + 1 + 1, 1, none⟩ (.int .u64 gh)).setCell ⟨m8 + 1 + 1 + 1, 2, none⟩ (.int .u64 gl)).setCell ⟨m8 + 1 + 1 + 1, 3, none⟩ (.int .i64 (b + 1))) (m5) v hi lo (b + 1)) := HC.out.other4 LHCTW.out _ _ _ _
  replace HD : Hid (HasG ((((((((w31.setCell ⟨m8 + 1 + 1, 0, none⟩ (.bool v)).setCell ⟨m8 + 1 + 1, 1, none⟩ (.int .u64 hi)).setCell ⟨m8 + 1 + 1, 2, none⟩ (.int .u64 lo)).setCell ⟨m8 + 1 + 1, 3, none⟩ (.int .i64 (b + 1))).setCell ⟨m8 + 1 + 1 + 1, 0, none⟩ (.bool v)).setCell ⟨m8 + 1 + 1 + 1, 1, none⟩ (.int .u64 gh)).setCell ⟨m8 + 1 + 1 + 1, 2, none⟩ (.int .u64 gl)).setCell ⟨m8 + 1 + 1 + 1, 3, none⟩ (.int .i64 (b + 1))) (m5 + 1) v gh gl (b + 1)) := HD.out.other4 LHDTW.out _ _ _ _
  replace PW : Hid (HasG ((((((((w31.setCell ⟨m8 + 1 + 1, 0, none⟩ (.bool v)).setCell ⟨m8 + 1 + 1, 1, none⟩ (.int .u64 hi)).setCell ⟨m8 + 1 + 1, 2, none⟩ (.int .u64 lo)).setCell ⟨m8 + 1 + 1, 3, none⟩ (.int .i64 (b + 1))).setCell ⟨m8 + 1 + 1 + 1, 0, none⟩ (.bool v)).setCell ⟨m8 + 1 + 1 + 1, 1, none⟩ (.int .u64 gh)).setCell ⟨m8 + 1 + 1 + 1, 2, none⟩ (.int .u64 gl)).setCell ⟨m8 + 1 + 1 + 1, 3, none⟩ (.int .i64 (b + 1))) (m6) false 0 0 0) := PW.out.other4 LPWTW.out _ _ _ _
  replace FI : Hid (HasF ((((((((w31.setCell ⟨m8 + 1 + 1, 0, none⟩ (.bool v)).setCell ⟨m8 + 1 + 1, 1, none⟩ (.int .u64 hi)).setCell ⟨m8 + 1 + 1, 2, none⟩ (.int .u64 lo)).setCell ⟨m8 + 1 + 1, 3, none⟩ (.int .i64 (b + 1))).setCell ⟨m8 + 1 + 1 + 1, 0, none⟩ (.bool v)).setCell ⟨m8 + 1 + 1 + 1, 1, none⟩ (.int .u64 gh)).setCell ⟨m8 + 1 + 1 + 1, 2, none⟩ (.int .u64 gl)).setCell ⟨m8 + 1 + 1 + 1, 3, none⟩ (.int .i64 (b + 1))) (m8) (.bool v) (.int .u64 hi) (.int .u64 lo)) := FI.out.other4 LFITW.out _ _ _ _
  replace LA : Hid (HasF ((((((((w31.setCell ⟨m8 + 1 + 1, 0, none⟩ (.bool v)).setCell ⟨m8 + 1 + 1, 1, none⟩ (.int .u64 hi)).setCell ⟨m8 + 1 + 1, 2, none⟩ (.int .u64 lo)).setCell ⟨m8 + 1 + 1, 3, none⟩ (.int .i64 (b + 1))).setCell ⟨m8 + 1 + 1 + 1, 0, none⟩ (.bool v)).setCell ⟨m8 + 1 + 1 + 1, 1, none⟩ (.int .u64 gh)).setCell ⟨m8 + 1 + 1 + 1, 2, none⟩ (.int .u64 gl)).setCell ⟨m8 + 1 + 1 + 1, 3, none⟩ (.int .i64 (b + 1))) (m8 + 1) (.bool v) (.int .u64 lh) (.int .u64 ll)) := LA.out.other4 LLATW.out _ _ _ _
  replace ON : Hid (HasG ((((((((w31.setCell ⟨m8 + 1 + 1, 0, none⟩ (.bool v)).setCell ⟨m8 + 1 + 1, 1, none⟩ (.int .u64 hi)).setCell ⟨m8 + 1 + 1, 2, none⟩ (.int .u64 lo)).setCell ⟨m8 + 1 + 1, 3, none⟩ (.int .i64 (b + 1))).setCell ⟨m8 + 1 + 1 + 1, 0, none⟩ (.bool v)).setCell ⟨m8 + 1 + 1 + 1, 1, none⟩ (.int .u64 gh)).setCell ⟨m8 + 1 + 1 + 1, 2, none⟩ (.int .u64 gl)).setCell ⟨m8 + 1 + 1 + 1, 3, none⟩ (.int .i64 (b + 1))) (m8 + 1 + 1) v hi lo (b + 1)) := ON.out.other4 LONTW.out _ _ _ _
  replace WH : Hid (HasG ((((((((w31.setCell ⟨m8 + 1 + 1, 0, none⟩ (.bool v)).setCell ⟨m8 + 1 + 1, 1, none⟩ (.int .u64 hi)).setCell ⟨m8 + 1 + 1, 2, none⟩ (.int .u64 lo)).setCell ⟨m8 + 1 + 1, 3, none⟩ (.int .i64 (b + 1))).setCell ⟨m8 + 1 + 1 + 1, 0, none⟩ (.bool v)).setCell ⟨m8 + 1 + 1 + 1, 1, none⟩ (.int .u64 gh)).setCell ⟨m8 + 1 + 1 + 1, 2, none⟩ (.int .u64 gl)).setCell ⟨m8 + 1 + 1 + 1, 3, none⟩ (.int .i64 (b + 1))) (m8 + 1 + 1 + 1 + 1) false 0 0 0) := WH.out.other4 (Ne.symm LTWWH.out) _ _ _ _
  replace TW : Hid (HasG ((((((((w31.setCell ⟨m8 + 1 + 1, 0, none⟩ (.bool v)).setCell ⟨m8 + 1 + 1, 1, none⟩ (.int .u64 hi)).setCell ⟨m8 + 1 + 1, 2, none⟩ (.int .u64 lo)).setCell ⟨m8 + 1 + 1, 3, none⟩ (.int .i64 (b + 1))).setCell ⟨m8 + 1 + 1 + 1, 0, none⟩ (.bool v)).setCell ⟨m8 + 1 + 1 + 1, 1, none⟩ (.int .u64 gh)).setCell ⟨m8 + 1 + 1 + 1, 2, none⟩ (.int .u64 gl)).setCell ⟨m8 + 1 + 1 + 1, 3, none⟩ (.int .i64 (b + 1))) (m8 + 1 + 1 + 1) v gh gl (b + 1)) := TW.out.store _ _ _ _
  replace B : Hid (Below w.heap.size w ((((((((w31.setCell ⟨m8 + 1 + 1, 0, none⟩ (.bool v)).setCell ⟨m8 + 1 + 1, 1, none⟩ (.int .u64 hi)).setCell ⟨m8 + 1 + 1, 2, none⟩ (.int .u64 lo)).setCell ⟨m8 + 1 + 1, 3, none⟩ (.int .i64 (b + 1))).setCell ⟨m8 + 1 + 1 + 1, 0, none⟩ (.bool v)).setCell ⟨m8 + 1 + 1 + 1, 1, none⟩ (.int .u64 gh)).setCell ⟨m8 + 1 + 1 + 1, 2, none⟩ (.int .u64 gl)).setCell ⟨m8 + 1 + 1 + 1, 3, none⟩ (.int .i64 (b + 1)))) := bse (bse (bse (bse (B.out) GTW.out _) GTW.out _) GTW.out _) GTW.out _
  obtain ⟨⟨PP0, PP1, PP2, PP3, PP4⟩, _⟩ := PP.out
  obtain ⟨⟨PQ0, PQ1, PQ2, PQ3, PQ4⟩, _⟩ := PQ.out
  go_wp2_with fail
  clear ONa0 ONa1 ONa2 ONa3 ONa4 ONf0 ONf1 ONf2 ONf3
  clear TWa0 TWa1 TWa2 TWa3 TWa4 TWf0 TWf1 TWf2 TWf3
  generalize ((((((((w31.setCell ⟨m8 + 1 + 1, 0, none⟩ (.bool v)).setCell ⟨m8 + 1 + 1, 1, none⟩ (.int .u64 hi)).setCell ⟨m8 + 1 + 1, 2, none⟩ (.int .u64 lo)).setCell ⟨m8 + 1 + 1, 3, none⟩ (.int .i64 (b + 1))).setCell ⟨m8 + 1 + 1 + 1, 0, none⟩ (.bool v)).setCell ⟨m8 + 1 + 1 + 1, 1, none⟩ (.int .u64 gh)).setCell ⟨m8 + 1 + 1 + 1, 2, none⟩ (.int .u64 gl)).setCell ⟨m8 + 1 + 1 + 1, 3, none⟩ (.int .i64 (b + 1))) = W31 at *
  refine (h13.out _).mono ?_
  clear PP0 PP1 PP2 PP3 PP4 PQ0 PQ1 PQ2 PQ3 PQ4
  rintro e w32 ⟨rfl, hb⟩
  replace PP : Hid (HasG w32 (w.heap.size) v hi lo b) := PP.out.below hb
  replace PQ : Hid (HasG w32 (w.heap.size + 1) u yi yo c) := PQ.out.below hb
  replace PX : Hid (HasG w32 (m2) xv xh xl xb) := PX.out.below hb
  replace EA : Hid (HasF w32 (m4) (.bool v) (.int .u64 hi) (.int .u64 lo)) := EA.out.below hb
  replace EB : Hid (HasF w32 (m4 + 1) (.bool v) (.int .u64 lh) (.int .u64 ll)) := EB.out.below hb
  replace HC : Hid (HasG w32 (m5) v hi lo (b + 1)) := HC.out.below hb
  replace HD : Hid (HasG w32 (m5 + 1) v gh gl (b + 1)) := HD.out.below hb
  replace PW : Hid (HasG w32 (m6) false 0 0 0) := PW.out.below hb
  replace FI : Hid (HasF w32 (m8) (.bool v) (.int .u64 hi) (.int .u64 lo)) := FI.out.below hb
  replace LA : Hid (HasF w32 (m8 + 1) (.bool v) (.int .u64 lh) (.int .u64 ll)) := LA.out.below hb
  replace ON : Hid (HasG w32 (m8 + 1 + 1) v hi lo (b + 1)) := ON.out.below hb
  replace TW : Hid (HasG w32 (m8 + 1 + 1 + 1) v gh gl (b + 1)) := TW.out.below hb
  replace WH : Hid (HasG w32 (m8 + 1 + 1 + 1 + 1) false 0 0 0) := WH.out.below hb
  replace B : Hid (Below w.heap.size w w32) := btr B.out hb
  clear hb
  have LFIPY : Hid (m8 ≠ w32.heap.size) := Nat.ne_of_lt (Nat.lt_of_lt_of_le FI.out.1.2.2.2 (by omega))
  have LLAPY : Hid (m8 + 1 ≠ w32.heap.size) := Nat.ne_of_lt (Nat.lt_of_lt_of_le LA.out.1.2.2.2 (by omega))
  have LONPY : Hid (m8 + 1 + 1 ≠ w32.heap.size) := Nat.ne_of_lt (Nat.lt_of_lt_of_le ON.out.1.2.2.2.2 (by omega))
  have LTWPY : Hid (m8 + 1 + 1 + 1 ≠ w32.heap.size) := Nat.ne_of_lt (Nat.lt_of_lt_of_le TW.out.1.2.2.2.2 (by omega))
  have LWHPY : Hid (m8 + 1 + 1 + 1 + 1 ≠ w32.heap.size) := Nat.ne_of_lt (Nat.lt_of_lt_of_le WH.out.1.2.2.2.2 (by omega))
  replace PP : Hid (HasG (w32.alloc (.cells #[.bool zv, .int .u64 zh, .int .u64 zl, .int .i64 zb] 26)) (w.heap.size) v hi lo b) := (PP.out).alloc (.cells #[.bool zv, .int .u64 zh, .int .u64 zl, .int .i64 zb] 26)
  replace PQ : Hid (HasG (w32.alloc (.cells #[.bool zv, .int .u64 zh, .int .u64 zl, .int .i64 zb] 26)) (w.heap.size + 1) u yi yo c) := (PQ.out).alloc (.cells #[.bool zv, .int .u64 zh, .int .u64 zl, .int .i64 zb] 26)
  replace PX : Hid (HasG (w32.alloc (.cells #[.bool zv, .int .u64 zh, .int .u64 zl, .int .i64 zb] 26)) (m2) xv xh xl xb) := (PX.out).alloc (.cells #[.bool zv, .int .u64 zh, .int .u64 zl, .int .i64 zb] 26)
  replace EA : Hid (HasF (w32.alloc (.cells #[.bool zv, .int .u64 zh, .int .u64 zl, .int .i64 zb] 26)) (m4) (.bool v) (.int .u64 hi) (.int .u64 lo)) := (EA.out).alloc (.cells #[.bool zv, .int .u64 zh, .int .u64 zl, .int .i64 zb] 26)
  replace EB : Hid (HasF (w32.alloc (.cells #[.bool zv, .int .u64 zh, .int .u64 zl, .int .i64 zb] 26)) (m4 + 1) (.bool v) (.int .u64 lh) (.int .u64 ll)) := (EB.out).alloc (.cells #[.bool zv, .int .u64 zh, .int .u64 zl, .int .i64 zb] 26)
  replace HC : Hid (HasG (w32.alloc (.cells #[.bool zv, .int .u64 zh, .int .u64 zl, .int .i64 zb] 26)) (m5) v hi lo (b + 1)) := (HC.out).alloc (.cells #[.bool zv, .int .u64 zh, .int .u64 zl, .int .i64 zb] 26)
  replace HD : Hid (HasG (w32.alloc (.cells #[.bool zv, .int .u64 zh, .int .u64 zl, .int .i64 zb] 26)) (m5 + 1) v gh gl (b + 1)) := (HD.out).alloc (.cells #[.bool zv, .int .u64 zh, .int .u64 zl, .int .i64 zb] 26)
  replace PW : Hid (HasG (w32.alloc (.cells #[.bool zv, .int .u64 zh, .int .u64 zl, .int .i64 zb] 26)) (m6) false 0 0 0) := (PW.out).alloc (.cells #[.bool zv, .int .u64 zh, .int .u64 zl, .int .i64 zb] 26)
  replace FI : Hid (HasF (w32.alloc (.cells #[.bool zv, .int .u64 zh, .int .u64 zl, .int .i64 zb] 26)) (m8) (.bool v) (.int .u64 hi) (.int .u64 lo)) := (FI.out).alloc (.cells #[.bool zv, .int .u64 zh, .int .u64 zl, .int .i64 zb] 26)
  replace LA : Hid (HasF (w32.alloc (.cells #[.bool zv, .int .u64 zh, .int .u64 zl, .int .i64 zb] 26)) (m8 + 1) (.bool v) (.int .u64 lh) (.int .u64 ll)) := (LA.out).alloc (.cells #[.bool zv, .int .u64 zh, .int .u64 zl, .int .i64 zb] 26)
  replace ON : Hid (HasG (w32.alloc (.cells #[.bool zv, .int .u64 zh, .int .u64 zl, .int .i64 zb] 26)) (m8 + 1 + 1) v hi lo (b + 1)) := (ON.out).alloc (.cells #[.bool zv, .int .u64 zh, .int .u64 zl, .int .i64 zb] 26)
  replace TW : Hid (HasG (w32.alloc (.cells #[.bool zv, .int .u64 zh, .int .u64 zl, .int .i64 zb] 26)) (m8 + 1 + 1 + 1) v gh gl (b + 1)) := (TW.out).alloc (.cells #[.bool zv, .int .u64 zh, .int .u64 zl, .int .i64 zb] 26)
  replace WH : Hid (HasG (w32.alloc (.cells #[.bool zv, .int .u64 zh, .int .u64 zl, .int .i64 zb] 26)) (m8 + 1 + 1 + 1 + 1) false 0 0 0) := (WH.out).alloc (.cells #[.bool zv, .int .u64 zh, .int .u64 zl, .int .i64 zb] 26)
  replace B : Hid (Below w.heap.size w (w32.alloc (.cells #[.bool zv, .int .u64 zh, .int .u64 zl, .int .i64 zb] 26))) := bal (B.out) _
  have PY : Hid (HasG (w32.alloc (.cells #[.bool zv, .int .u64 zh, .int .u64 zl, .int .i64 zb] 26)) (w32.heap.size) zv zh zl zb) := HasG.new w32 zv zh zl zb 26
  obtain ⟨⟨PY0, PY1, PY2, PY3, PY4⟩, _⟩ := PY.out
  obtain ⟨⟨WHa0, WHa1, WHa2, WHa3, WHa4⟩, WHF⟩ := WH.out
  have WHf0 := WHF 0
  have WHf1 := WHF 1
  have WHf2 := WHF 2
  have WHf3 := WHF 3
  clear WHF
  replace PP : Hid (HasG (((((w32.alloc (.cells #[.bool zv, .int .u64 zh, .int .u64 zl, .int .i64 zb] 26)).setCell ⟨m8 + 1 + 1 + 1 + 1, 0, none⟩ (.bool zv)).setCell ⟨m8 + 1 + 1 + 1 + 1, 1, none⟩ (.int .u64 zh)).setCell ⟨m8 + 1 + 1 + 1 + 1, 2, none⟩ (.int .u64 zl)).setCell ⟨m8 + 1 + 1 + 1 + 1, 3, none⟩ (.int .i64 zb)) (w.heap.size) v hi lo b) := PP.out.other4 LPPWH.out _ _ _ _
  replace PQ : Hid (HasG (((((w32.alloc (.cells #[.bool zv, .int .u64 zh, .int .u64 zl, .int .i64 zb] 26)).setCell ⟨m8 + 1 + 1 + 1 + 1, 0, none⟩ (.bool zv)).setCell ⟨m8 + 1 + 1 + 1 + 1, 1, none⟩ (.int .u64 zh)).setCell ⟨m8 + 1 + 1 + 1 + 1, 2, none⟩ (.int .u64 zl)).setCell ⟨m8 + 1 + 1 + 1 + 1, 3, none⟩ (.int .i64 zb)) (w.heap.size + 1) u yi yo c) := PQ.out.other4 LPQWH.out _ _ _ _
  replace PX : Hid (HasG (((((w32.alloc (.cells #[.bool zv, .int .u64 zh, .int .u64 zl, .int .i64 zb] 26)).setCell ⟨m8 + 1 + 1 + 1 + 1, 0, none⟩ (.bool zv)).setCell ⟨m8 + 1 + 1 + 1 + 1, 1, none⟩ (.int .u64 zh)).setCell ⟨m8 + 1 + 1 + 1 + 1, 2, none⟩ (.int .u64 zl)).setCell ⟨m8 + 1 + 1 + 1 + 1, 3, none⟩ (.int .i64 zb)) (m2) xv xh xl xb) := PX.out.other4 LPXWH.out _ _ _ _
  replace EA : Hid (HasF (((((w32.alloc (.cells #[.bool zv, .int .u64 zh, .int .u64 zl, .int .i64 zb] 26)).setCell ⟨m8 + 1 + 1 + 1 + 1, 0, none⟩ (.bool zv)).setCell ⟨m8 + 1 + 1 + 1 + 1, 1, none⟩ (.int .u64 zh)).setCell ⟨m8 + 1 + 1 + 1 + 1, 2, none⟩ (.int .u64 zl)).setCell ⟨m8 + 1 + 1 + 1 + 1, 3, none⟩ (.int .i64 zb)) (m4) (.bool v) (.int .u64 hi) (.int .u64 lo)) := EA.out.other4 LEAWH.out _ _ _ _
  replace EB : Hid (HasF (((((w32.alloc (.cells #[.bool zv, .int .u64 zh, .int .u64 zl, .int .i64 zb] 26)).setCell ⟨m8 + 1 + 1 + 1 + 1, 0, none⟩ (.bool zv)).setCell ⟨m8 + 1 + 1 + 1 + 1, 1, none⟩ (.int .u64 zh)).setCell ⟨m8 + 1 + 1 + 1 + 1, 2, none⟩ (.int .u64 zl)).setCell ⟨m8 + 1 + 1 + 1 + 1, 3, none⟩ (.int .i64 zb)) (m4 + 1) (.bool v) (.int .u64 lh) (.int .u64 ll)) := EB.out.other4 LEBWH.out _ _ _ _
  replace HC : Hid (HasG (((((w32.alloc (.cells #[.bool zv, .int .u64 zh, .int .u64 zl, .int .i64 zb] 26)).setCell ⟨m8 + 1 + 1 + 1 + 1, 0, none⟩ (.bool zv)).setCell ⟨m8 + 1 + 1 + 1 + 1, 1, none⟩ (.int .u64 zh)).setCell ⟨m8 + 1 + 1 + 1 + 1, 2, none⟩ (.int .u64 zl)).setCell ⟨m8 + 1 + 1 + 1 + 1, 3, none⟩ (.int .i64 zb)) (m5) v hi lo (b + 1)) := HC.out.other4 LHCWH.out _ _ _ _
  replace HD : Hid (HasG (((((w32.alloc (.cells #[.bool zv, .int .u64 zh, .int .u64 zl, .int .i64 zb] 26)).setCell ⟨m8 + 1 + 1 + 1 + 1, 0, none⟩ (.bool zv)).setCell ⟨m8 + 1 + 1 + 1 + 1, 1, none⟩ (.int .u64 zh)).setCell ⟨m8 + 1 + 1 + 1 + 1, 2, none⟩ (.int .u64 zl)).setCell ⟨m8 + 1 + 1 + 1 + 1, 3, none⟩ (.int .i64 zb)) (m5 + 1) v gh gl (b + 1)) := HD.out.other4 LHDWH.out _ _ _ _
  replace PW : Hid (HasG (((((w32.alloc (.cells #[.bool zv, .int .u64 zh, .int .u64 zl, .int .i64 zb] 26)).setCell ⟨m8 + 1 + 1 + 1 + 1, 0, none⟩ (.bool zv)).setCell ⟨m8 + 1 + 1 + 1 + 1, 1, none⟩ (.int .u64 zh)).setCell ⟨m8 + 1 + 1 + 1 + 1, 2, none⟩ (.int .u64 zl)).setCell ⟨m8 + 1 + 1 + 1 + 1, 3, none⟩ (.int .i64 zb)) (m6) false 0 0 0) := PW.out.other4 LPWWH.out _ _ _ _
  replace FI : Hid (HasF (((((w32.alloc (.cells #[.bool zv, .int .u64 zh, .int .u64 zl, .int .i64 zb] 26)).setCell ⟨m8 + 1 + 1 + 1 + 1, 0, none⟩ (.bool zv)).setCell ⟨m8 + 1 + 1 + 1 + 1, 1, none⟩ (.int .u64 zh)).setCell ⟨m8 + 1 + 1 + 1 + 1, 2, none⟩ (.int .u64 zl)).setCell ⟨m8 + 1 + 1 + 1 + 1, 3, none⟩ (.int .i64 zb)) (m8) (.bool v) (.int .u64 hi) (.int .u64 lo)) := FI.out.other4 LFIWH.out _ _ _ _
  replace LA : Hid (HasF (((((w32.alloc (.cells #[.bool zv, .int .u64 zh, .int .u64 zl, .int .i64 zb] 26)).setCell ⟨m8 + 1 + 1 + 1 + 1, 0, none⟩ (.bool zv)).setCell ⟨m8 + 1 + 1 + 1 + 1, 1, none⟩ (.int .u64 zh)).setCell ⟨m8 + 1 + 1 + 1 + 1, 2, none⟩ (.int .u64 zl)).setCell ⟨m8 + 1 + 1 + 1 + 1, 3, none⟩ (.int .i64 zb)) (m8 + 1) (.bool v) (.int .u64 lh) (.int .u64 ll)) := LA.out.other4 LLAWH.out _ _ _ _
  replace ON : Hid (HasG (((((w32.alloc (.cells #[.bool zv, .int .u64 zh, .int .u64 zl, .int .i64 zb] 26)).setCell ⟨m8 + 1 + 1 + 1 + 1, 0, none⟩ (.bool zv)).setCell ⟨m8 + 1 + 1 + 1 + 1, 1, none⟩ (.int .u64 zh)).setCell ⟨m8 + 1 + 1 + 1 + 1, 2, none⟩ (.int .u64 zl)).setCell ⟨m8 + 1 + 1 + 1 + 1, 3, none⟩ (.int .i64 zb)) (m8 + 1 + 1) v hi lo (b + 1)) := ON.out.other4 LONWH.out _ _ _ _
  replace TW : Hid (HasG (((((w32.alloc (.cells #[.bool zv, .int .u64 zh, .int .u64 zl, .int .i64 zb] 26)).setCell ⟨m8 + 1 + 1 + 1 + 1, 0, none⟩ (.bool zv)).setCell ⟨m8 + 1 + 1 + 1 + 1, 1, none⟩ (.int .u64 zh)).setCell ⟨m8 + 1 + 1 + 1 + 1, 2, none⟩ (.int .u64 zl)).setCell ⟨m8 + 1 + 1 + 1 + 1, 3, none⟩ (.int .i64 zb)) (m8 + 1 + 1 + 1) v gh gl (b + 1)) := TW.out.other4 LTWWH.out _ _ _ _
  replace PY : Hid (HasG (((((w32.alloc (.cells #[.bool zv, .int .u64 zh, .int .u64 zl, .int .i64 zb] 26)).setCell ⟨m8 + 1 + 1 + 1 + 1, 0, none⟩ (.bool zv)).setCell ⟨m8 + 1 + 1 + 1 + 1, 1, none⟩ (.int .u64 zh)).setCell ⟨m8 + 1 + 1 + 1 + 1, 2, none⟩ (.int .u64 zl)).setCell ⟨m8 + 1 + 1 + 1 + 1, 3, none⟩ (.int .i64 zb)) (w32.heap.size) zv zh zl zb) := PY.out.other4 (Ne.symm LWHPY.out) _ _ _ _
  replace WH : Hid (HasG (((((w32.alloc (.cells #[.bool zv, .int .u64 zh, .int .u64 zl, .int .i64 zb] 26)).setCell ⟨m8 + 1 + 1 + 1 + 1, 0, none⟩ (.bool zv)).setCell ⟨m8 + 1 + 1 + 1 + 1, 1, none⟩ (.int .u64 zh)).setCell ⟨m8 + 1 + 1 + 1 + 1, 2, none⟩ (.int .u64 zl)).setCell ⟨m8 + 1 + 1 + 1 + 1, 3, none⟩ (.int .i64 zb)) (m8 + 1 + 1 + 1 + 1) zv zh zl zb) := WH.out.store _ _ _ _
  replace B : Hid (Below w.heap.size w (((((w32.alloc (.cells #[.bool zv, .int .u64 zh, .int .u64 zl, .int .i64 zb] 26)).setCell ⟨m8 + 1 + 1 + 1 + 1, 0, none⟩ (.bool zv)).setCell ⟨m8 + 1 + 1 + 1 + 1, 1, none⟩ (.int .u64 zh)).setCell ⟨m8 + 1 + 1 + 1 + 1, 2, none⟩ (.int .u64 zl)).setCell ⟨m8 + 1 + 1 + 1 + 1, 3, none⟩ (.int .i64 zb))) := bse (bse (bse (bse (B.out) GWH.out _) GWH.out _) GWH.out _) GWH.out _
  replace PP : Hid (HasG (((((((((w32.alloc (.cells #[.bool zv, .int .u64 zh, .int .u64 zl, .int .i64 zb] 26)).setCell ⟨m8 + 1 + 1 + 1 + 1, 0, none⟩ (.bool zv)).setCell ⟨m8 + 1 + 1 + 1 + 1, 1, none⟩ (.int .u64 zh)).setCell ⟨m8 + 1 + 1 + 1 + 1, 2, none⟩ (.int .u64 zl)).setCell ⟨m8 + 1 + 1 + 1 + 1, 3, none⟩ (.int .i64 zb)).setCell ⟨m8 + 1 + 1 + 1 + 1, 0, none⟩ (.bool false)).setCell ⟨m8 + 1 + 1 + 1 + 1, 1, none⟩ (.int .u64 0)).setCell ⟨m8 + 1 + 1 + 1 + 1, 2, none⟩ (.int .u64 0)).setCell ⟨m8 + 1 + 1 + 1 + 1, 3, none⟩ (.int .i64 0)) (w.heap.size) v hi lo b) := PP.out.other4 LPPWH.out _ _ _ _
  replace PQ : Hid (HasG (((((((((w32.alloc (.cells #[.bool zv, .int .u64 zh, .int .u64 zl, .int .i64 zb] 26)).setCell ⟨m8 + 1 + 1 + 1 + 1, 0, none⟩ (.bool zv)).setCell ⟨m8 + 1 + 1 + 1 + 1, 1, none⟩ (.int .u64 zh)).setCell ⟨m8 + 1 + 1 + 1 + 1, 2, none⟩ (.int .u64 zl)).setCell ⟨m8 + 1 + 1 + 1 + 1, 3, none⟩ (.int .i64 zb)).setCell ⟨m8 + 1 + 1 + 1 + 1, 0, none⟩ (.bool false)).setCell ⟨m8 + 1 + 1 + 1 + 1, 1, none⟩ (.int .u64 0)).setCell ⟨m8 + 1 + 1 + 1 + 1, 2, none⟩ (.int .u64 0)).setCell ⟨m8 + 1 + 1 + 1 + 1, 3, none⟩ (.int .i64 0)) (w.heap.size + 1) u yi yo c) := PQ.out.other4 LPQWH.out _ _ _ _
  replace PX : Hid (HasG (((((((((w32.alloc (.cells #[.bool zv, .int .u64 zh, .int .u64 zl, .int .i64 zb] 26)).setCell ⟨m8 + 1 + 1 + 1 + 1, 0, none⟩ (.bool zv)).setCell ⟨m8 + 1 + 1 + 1 + 1, 1, none⟩ (.int .u64 zh)).setCell ⟨m8 + 1 + 1 + 1 + 1, 2, none⟩ (.int .u64 zl)).setCell ⟨m8 + 1 + 1 + 1 + 1, 3, none⟩ (.int .i64 zb)).setCell ⟨m8 + 1 + 1 + 1 + 1, 0, none⟩ (.bool false)).setCell ⟨m8 + 1 + 1 + 1 + 1, 1, none⟩ (.int .u64 0)).setCell ⟨m8 + 1 + 1 + 1 + 1, 2, none⟩ (.int .u64 0)).setCell ⟨m8 + 1 + 1 + 1 + 1, 3, none⟩ (.int .i64 0)) (m2) xv xh xl xb) := PX.out.other4 LPXWH.out _ _ _ _
  replace EA : Hid (HasF (((((((((w32.alloc (.cells #[.bool zv, .int .u64 zh, .int .u64 zl, .int .i64 zb] 26)).setCell ⟨m8 + 1 + 1 + 1 + 1, 0, none⟩ (.bool zv)).setCell ⟨m8 + 1 + 1 + 1 + 1, 1, none⟩ (.int .u64 zh)).setCell ⟨m8 + 1 + 1 + 1 + 1, 2, none⟩ (.int .u64 zl)).setCell ⟨m8 + 1 + 1 + 1 + 1, 3, none⟩ (.int .i64 zb)).setCell ⟨m8 + 1 + 1 + 1 + 1, 0, none⟩ (.bool false)).setCell ⟨m8 + 1 + 1 + 1 + 1, 1, none⟩ (.int .u64 0)).setCell ⟨m8 + 1 + 1 + 1 + 1, 2, none⟩ (.int .u64 0)).setCell ⟨m8 + 1 + 1 + 1 + 1, 3, none⟩ (.int .i64 0)) (m4) (.bool v) (.int .u64 hi) (.int .u64 lo)) := EA.out.other4 LEAWH.out _ _ _ _
  replace EB : Hid (HasF (((((((((w32.alloc (.cells #[.bool zv, .int .u64 zh, .int .u64 zl, .int .i64 zb] 26)).setCell ⟨m8 + 1 + 1 + 1 + 1, 0, none⟩ (.bool zv)).setCell ⟨m8 + 1 + 1 + 1 + 1, 1, none⟩ (.int .u64 zh)).setCell ⟨m8 + 1 + 1 + 1 + 1, 2, none⟩ (.int .u64 zl)).setCell ⟨m8 + 1 + 1 + 1 + 1, 3, none⟩ (.int .i64 zb)).setCell ⟨m8 + 1 + 1 + 1 + 1, 0, none⟩ (.bool false)).setCell ⟨m8 + 1 + 1 + 1 + 1, 1, none⟩ (.int .u64 0)).setCell ⟨m8 + 1 + 1 + 1 + 1, 2, none⟩ (.int .u64 0)).setCell ⟨m8 + 1 + 1 + 1 + 1, 3, none⟩ (.int .i64 0)) (m4 + 1) (.bool v) (.int .u64 lh) (.int .u64 ll)) := EB.out.other4 LEBWH.out _ _ _ _
  replace HC : Hid (HasG (((((((((w32.alloc (.cells #[.bool zv, .int .u64 zh, .int .u64 zl, .int .i64 zb] 26)).setCell ⟨m8 + 1 + 1 + 1 + 1, 0, none⟩ (.bool zv)).setCell ⟨m8 + 1 + 1 + 1 + 1, 1, none⟩ (.int .u64 zh)).setCell ⟨m8 + 1 + 1 + 1 + 1, 2, none⟩ (.int .u64 zl)).setCell ⟨m8 + 1 + 1 + 1 + 1, 3, none⟩ (.int .i64 zb)).setCell ⟨m8 + 1 + 1 + 1 + 1, 0, none⟩ (.bool false)).setCell ⟨m8 + 1 + 1 + 1 + 1, 1, none⟩ (.int .u64 0)).setCell ⟨m8 + 1 + 1 + 1 + 1, 2, none⟩ (.int .u64 0)).setCell ⟨m8 + 1 + 1 + 1 + 1, 3, none⟩ (.int .i64 0)) (m5) v hi lo (b + 1)) := HC.out.other4 LHCWH.out _ _ _ _
  replace HD : Hid (HasG (((((((((w32.alloc (.cells #[.bool zv, .int .u64 zh, .int .u64 zl, .int .i64 zb] 26)).setCell ⟨m8 + 1 + 1 + 1 + 1, 0, none⟩ (.bool zv)).setCell ⟨m8 + 1 + 1 + 1 + 1, 1, none⟩ (.int .u64 zh)).setCell ⟨m8 + 1 + 1 + 1 + 1, 2, none⟩ (.int .u64 zl)).setCell ⟨m8 + 1 + 1 + 1 + 1, 3, none⟩ (.int .i64 zb)).setCell ⟨m8 + 1 + 1 + 1 + 1, 0, none⟩ (.bool false)).setCell ⟨m8 + 1 + 1 + 1 + 1, 1, none⟩ (.int .u64 0)).setCell ⟨m8 + 1 + 1 + 1 + 1, 2, none⟩ (.int .u64 0)).setCell ⟨m8 + 1 + 1 + 1 + 1, 3, none⟩ (.int .i64 0)) (m5 + 1) v gh gl (b + 1)) := HD.out.other4 LHDWH.out _ _ _ _
  replace PW : Hid (HasG (((((((((w32.alloc (.cells #[.bool zv, .int .u64 zh, .int .u64 zl, .int .i64 zb] 26)).setCell ⟨m8 + 1 + 1 + 1 + 1, 0, none⟩ (.bool zv)).setCell ⟨m8 + 1 + 1 + 1 + 1, 1, none⟩ (.int .u64 zh)).setCell ⟨m8 + 1 + 1 + 1 + 1, 2, none⟩ (.int .u64 zl)).setCell ⟨m8 + 1 + 1 + 1 + 1, 3, none⟩ (.int .i64 zb)).setCell ⟨m8 + 1 + 1 + 1 + 1, 0, none⟩ (.bool false)).setCell ⟨m8 + 1 + 1 + 1 + 1, 1, none⟩ (.int .u64 0)).setCell ⟨m8 + 1 + 1 + 1 + 1, 2, none⟩ (.int .u64 0)).setCell ⟨m8 + 1 + 1 + 1 + 1, 3, none⟩ (.int .i64 0)) (m6) false 0 0 0) := PW.out.other4 LPWWH.out _ _ _ _
  replace FI : Hid (HasF (((((((((w32.alloc (.cells #[.bool zv, .int .u64 zh, .int .u64 zl, .int .i64 zb] 26)).setCell ⟨m8 + 1 + 1 + 1 + 1, 0, none⟩ (.bool zv)).setCell ⟨m8 + 1 + 1 + 1 + 1, 1, none⟩ (.int .u64 zh)).setCell ⟨m8 + 1 + 1 + 1 + 1, 2, none⟩ (.int .u64 zl)).setCell ⟨m8 + 1 + 1 + 1 + 1, 3, none⟩ (.int .i64 zb)).setCell ⟨m8 + 1 + 1 + 1 + 1, 0, none⟩ (.bool false)).setCell ⟨m8 + 1 + 1 + 1 + 1, 1, none⟩ (.int .u64 0)).setCell ⟨m8 + 1 + 1 + 1 + 1, 2, none⟩ (.int .u64 0)).setCell ⟨m8 + 1 + 1 + 1 + 1, 3, none⟩ (.int .i64 0)) (m8) (.bool v) (.int .u64 hi) (.int .u64 lo)) := FI.out.other4 LFIWH.out _ _ _ _
  replace LA : Hid (HasF (((((((((w32.alloc (.cells #[.bool zv, .int .u64 zh, .int .u64 zl, .int .i64 zb] 26)).setCell ⟨m8 + 1 + 1 + 1 + 1, 0, none⟩ (.bool zv)).setCell ⟨m8 + 1 + 1 + 1 + 1, 1, none⟩ (.int .u64 zh)).setCell ⟨m8 + 1 + 1 + 1 + 1, 2, none⟩ (.int .u64 zl)).setCell ⟨m8 + 1 + 1 + 1 + 1, 3, none⟩ (.int .i64 zb)).setCell ⟨m8 + 1 + 1 + 1 + 1, 0, none⟩ (.bool false)).setCell ⟨m8 + 1 + 1 + 1 + 1, 1, none⟩ (.int .u64 0)).setCell ⟨m8 + 1 + 1 + 1 + 1, 2, none⟩ (.int .u64 0)).setCell ⟨m8 + 1 + 1 + 1 + 1, 3, none⟩ (.int .i64 0)) (m8 + 1) (.bool v) (.int .u64 lh) (.int .u64 ll)) := LA.out.other4 LLAWH.out _ _ _ _
  replace ON : Hid (HasG (((((((((w32.alloc (.cells #[.bool zv, .int .u64 zh, .int .u64 zl, .int .i64 zb] 26)).setCell ⟨m8 + 1 + 1 + 1 + 1, 0, none⟩ (.bool zv)).setCell ⟨m8 + 1 + 1 + 1 + 1, 1, none⟩ (.int .u64 zh)).setCell ⟨m8 + 1 + 1 + 1 + 1, 2, none⟩ (.int .u64 zl)).setCell ⟨m8 + 1 + 1 + 1 + 1, 3, none⟩ (.int .i64 zb)).setCell ⟨m8 + 1 + 1 + 1 + 1, 0, none⟩ (.bool false)).setCell ⟨m8 + 1 + 1 + 1 + 1, 1, none⟩ (.int .u64 0)).setCell ⟨m8 + 1 + 1 + 1 + 1, 2, none⟩ (.int .u64 0)).setCell ⟨m8 + 1 + 1 + 1 + 1, 3, none⟩ (.int .i64 0)) (m8 + 1 + 1) v hi lo (b + 1)) := ON.out.other4 LONWH.out _ _ _ _
  replace TW : Hid (HasG (((((((((w32.alloc (.cells #[.bool zv, .int .u64 zh, .int .u64 zl, .int .i64 zb] 26)).setCell ⟨m8 + 1 + 1 + 1 + 1, 0, none⟩ (.bool zv)).setCell ⟨m8 + 1 + 1 + 1 + 1, 1, none⟩ (.int .u64 zh)).setCell ⟨m8 + 1 + 1 + 1 + 1, 2, none⟩ (.int .u64 zl)).setCell ⟨m8 + 1 + 1 + 1 + 1, 3, none⟩ (.int .i64 zb)).setCell ⟨m8 + 1 + 1 + 1 + 1, 0, none⟩ (.bool false)).setCell ⟨m8 + 1 + 1 + 1 + 1, 1, none⟩ (.int .u64 0)).setCell ⟨m8 + 1 + 1 + 1 + 1, 2, none⟩ (.int .u64 0)).setCell ⟨m8 + 1 + 1 + 1 + 1, 3, none⟩ (.int .i64 0)) (m8 + 1 + 1 + 1) v gh gl (b + 1)) := TW.out.other4 LTWWH.out _ _ _ _
  replace PY : Hid (HasG (((((((((w32.alloc (.cells #[.bool zv, .int .u64 zh, .int .u64 zl, .int .i64 zb] 26)).setCell ⟨m8 + 1 + 1 + 1 + 1, 0, none⟩ (.bool zv)).setCell ⟨m8 + 1 + 1 + 1 + 1, 1, none⟩ (.int .u64 zh)).setCell ⟨m8 + 1 + 1 + 1 + 1, 2, none⟩ (.int .u64 zl)).setCell ⟨m8 + 1 + 1 + 1 + 1, 3, none⟩ (.int .i64 zb)).setCell ⟨m8 + 1 + 1 + 1 + 1, 0, none⟩ (.bool false)).setCell ⟨m8 + 1 + 1 + 1 + 1, 1, none⟩ (.int .u64 0)).setCell ⟨m8 + 1 + 1 + 1 + 1, 2, none⟩ (.int .u64 0)).setCell ⟨m8 + 1 + 1 + 1 + 1, 3, none⟩ (.int .i64 0)) (w32.heap.size) zv zh zl zb) := PY.out.other4 (Ne.symm LWHPY.out) _ _ _ _
  replace WH : Hid (HasG (((((((((w32.alloc (.cells #[.bool zv, .int .u64 zh, .int .u64 zl, .int .i64 zb] 26)).setCell ⟨m8 + 1 + 1 + 1 + 1, 0, none⟩ (.bool zv)).setCell ⟨m8 + 1 + 1 + 1 + 1, 1, none⟩ (.int .u64 zh)).setCell ⟨m8 + 1 + 1 + 1 + 1, 2, none⟩ (.int .u64 zl)).setCell ⟨m8 + 1 + 1 + 1 + 1, 3, none⟩ (.int .i64 zb)).setCell ⟨m8 + 1 + 1 + 1 + 1, 0, none⟩ (.bool false)).setCell ⟨m8 + 1 + 1 + 1 + 1, 1, none⟩ (.int .u64 0)).setCell ⟨m8 + 1 + 1 + 1 + 1, 2, none⟩ (.int .u64 0)).setCell ⟨m8 + 1 + 1 + 1 + 1, 3, none⟩ (.int .i64 0)) (m8 + 1 + 1 + 1 + 1) false 0 0 0) := WH.out.store _ _ _ _
  replace B : Hid (Below w.heap.size w (((((((((w32.alloc (.cells #[.bool zv, .int .u64 zh, .int .u64 zl, .int .i64 zb] 26)).setCell ⟨m8 + 1 + 1 + 1 + 1, 0, none⟩ (.bool zv)).setCell ⟨m8 + 1 + 1 + 1 + 1, 1, none⟩ (.int .u64 zh)).setCell ⟨m8 + 1 + 1 + 1 + 1, 2, none⟩ (.int .u64 zl)).setCell ⟨m8 + 1 + 1 + 1 + 1, 3, none⟩ (.int .i64 zb)).setCell ⟨m8 + 1 + 1 + 1 + 1, 0, none⟩ (.bool false)).setCell ⟨m8 + 1 + 1 + 1 + 1, 1, none⟩ (.int .u64 0)).setCell ⟨m8 + 1 + 1 + 1 + 1, 2, none⟩ (.int .u64 0)).setCell ⟨m8 + 1 + 1 + 1 + 1, 3, none⟩ (.int .i64 0))) := bse (bse (bse (bse (B.out) GWH.out _) GWH.out _) GWH.out _) GWH.out _
  go_wp2_with fail
  clear WHa0 WHa1 WHa2 WHa3 WHa4 WHf0 WHf1 WHf2 WHf3
  generalize (((((((((w32.alloc (.cells #[.bool zv, .int .u64 zh, .int .u64 zl, .int .i64 zb] 26)).setCell ⟨m8 + 1 + 1 + 1 + 1, 0, none⟩ (.bool zv)).setCell ⟨m8 + 1 + 1 + 1 + 1, 1, none⟩ (.int .u64 zh)).setCell ⟨m8 + 1 + 1 + 1 + 1, 2, none⟩ (.int .u64 zl)).setCell ⟨m8 + 1 + 1 + 1 + 1, 3, none⟩ (.int .i64 zb)).setCell ⟨m8 + 1 + 1 + 1 + 1, 0, none⟩ (.bool false)).setCell ⟨m8 + 1 + 1 + 1 + 1, 1, none⟩ (.int .u64 0)).setCell ⟨m8 + 1 + 1 + 1 + 1, 2, none⟩ (.int .u64 0)).setCell ⟨m8 + 1 + 1 + 1 + 1, 3, none⟩ (.int .i64 0)) = W32 at *
  generalize w32.heap.size = m32 at *
  refine (h14.out _).mono ?_
  rintro e w33 ⟨rfl, hb⟩
  replace PP : Hid (HasG w33 (w.heap.size) v hi lo b) := PP.out.below hb
  replace PQ : Hid (HasG w33 (w.heap.size + 1) u yi yo c) := PQ.out.below hb
  replace PX : Hid (HasG w33 (m2) xv xh xl xb) := PX.out.below hb
  replace EA : Hid (HasF w33 (m4) (.bool v) (.int .u64 hi) (.int .u64 lo)) := EA.out.below hb
  replace EB : Hid (HasF w33 (m4 + 1) (.bool v) (.int .u64 lh) (.int .u64 ll)) := EB.out.below hb
  replace HC : Hid (HasG w33 (m5) v hi lo (b + 1)) := HC.out.below hb
  replace HD : Hid (HasG w33 (m5 + 1) v gh gl (b + 1)) := HD.out.below hb
  replace PW : Hid (HasG w33 (m6) false 0 0 0) := PW.out.below hb
  replace FI : Hid (HasF w33 (m8) (.bool v) (.int .u64 hi) (.int .u64 lo)) := FI.out.below hb
  replace LA : Hid (HasF w33 (m8 + 1) (.bool v) (.int .u64 lh) (.int .u64 ll)) := LA.out.below hb
  replace ON : Hid (HasG w33 (m8 + 1 + 1) v hi lo (b + 1)) := ON.out.below hb
  replace TW : Hid (HasG w33 (m8 + 1 + 1 + 1) v gh gl (b + 1)) := TW.out.below hb
  replace WH : Hid (HasG w33 (m8 + 1 + 1 + 1 + 1) false 0 0 0) := WH.out.below hb
  replace PY : Hid (HasG w33 (m32) zv zh zl zb) := PY.out.below hb
  replace B : Hid (Below w.heap.size w w33) := btr B.out hb
  clear hb
  have LFIPR : Hid (m8 ≠ w33.heap.size) := Nat.ne_of_lt (Nat.lt_of_lt_of_le FI.out.1.2.2.2 (by omega))
  have LLAPR : Hid (m8 + 1 ≠ w33.heap.size) := Nat.ne_of_lt (Nat.lt_of_lt_of_le LA.out.1.2.2.2 (by omega))
  have LONPR : Hid (m8 + 1 + 1 ≠ w33.heap.size) := Nat.ne_of_lt (Nat.lt_of_lt_of_le ON.out.1.2.2.2.2 (by omega))
  have LTWPR : Hid (m8 + 1 + 1 + 1 ≠ w33.heap.size) := Nat.ne_of_lt (Nat.lt_of_lt_of_le TW.out.1.2.2.2.2 (by omega))
  have LWHPR : Hid (m8 + 1 + 1 + 1 + 1 ≠ w33.heap.size) := Nat.ne_of_lt (Nat.lt_of_lt_of_le WH.out.1.2.2.2.2 (by omega))
  replace PP : Hid (HasG (w33.alloc (.cells #[.bool xv, .int .u64 xh, .int .u64 xl, .int .i64 xb] 26)) (w.heap.size) v hi lo b) := (PP.out).alloc (.cells #[.bool xv, .int .u64 xh, .int .u64 xl, .int .i64 xb] 26)
  replace PQ : Hid (HasG (w33.alloc (.cells #[.bool xv, .int .u64 xh, .int .u64 xl, .int .i64 xb] 26)) (w.heap.size + 1) u yi yo c) := (PQ.out).alloc (.cells #[.bool xv, .int .u64 xh, .int .u64 xl, .int .i64 xb] 26)
  replace PX : Hid (HasG (w33.alloc (.cells #[.bool xv, .int .u64 xh, .int .u64 xl, .int .i64 xb] 26)) (m2) xv xh xl xb) := (PX.out).alloc (.cells #[.bool xv, .int .u64 xh, .int .u64 xl, .int .i64 xb] 26)
  replace EA : Hid (HasF (w33.alloc (.cells #[.bool xv, .int .u64 xh, .int .u64 xl, .int .i64 xb] 26)) (m4) (.bool v) (.int .u64 hi) (.int .u64 lo)) := (EA.out).alloc (.cells #[.bool xv, .int .u64 xh, .int .u64 xl, .int .i64 xb] 26)
  replace EB : Hid (HasF (w33.alloc (.cells #[.bool xv, .int .u64 xh, .int .u64 xl, .int .i64 xb] 26)) (m4 + 1) (.bool v) (.int .u64 lh) (.int .u64 ll)) := (EB.out).alloc (.cells #[.bool xv, .int .u64 xh, .int .u64 xl, .int .i64 xb] 26)
  replace HC : Hid (HasG (w33.alloc (.cells #[.bool xv, .int .u64 xh, .int .u64 xl, .int .i64 xb] 26)) (m5) v hi lo (b + 1)) := (HC.out).alloc (.cells #[.bool xv, .int .u64 xh, .int .u64 xl, .int .i64 xb] 26)
  replace HD : Hid (HasG (w33.alloc (.cells #[.bool xv, .int .u64 xh, .int .u64 xl, .int .i64 xb] 26)) (m5 + 1) v gh gl (b + 1)) := (HD.out).alloc (.cells #[.bool xv, .int .u64 xh, .int .u64 xl, .int .i64 xb] 26)
  replace PW : Hid (HasG (w33.alloc (.cells #[.bool xv, .int .u64 xh, .int .u64 xl, .int .i64 xb] 26)) (m6) false 0 0 0) := (PW.out).alloc (.cells #[.bool xv, .int .u64 xh, .int .u64 xl, .int .i64 xb] 26)
  replace FI : Hid (HasF (w33.alloc (.cells #[.bool xv, .int .u64 xh, .int .u64 xl, .int .i64 xb] 26)) (m8) (.bool v) (.int .u64 hi) (.int .u64 lo)) := (FI.out).alloc (.cells #[.bool xv, .int .u64 xh, .int .u64 xl, .int .i64 xb] 26)
  replace LA : Hid (HasF (w33.alloc (.cells #[.bool xv, .int .u64 xh, .int .u64 xl, .int .i64 xb] 26)) (m8 + 1) (.bool v) (.int .u64 lh) (.int .u64 ll)) := (LA.out).alloc (.cells #[.bool xv, .int .u64 xh, .int .u64 xl, .int .i64 xb] 26)
  replace ON : Hid (HasG (w33.alloc (.cells #[.bool xv, .int .u64 xh, .int .u64 xl, .int .i64 xb] 26)) (m8 + 1 + 1) v hi lo (b + 1)) := (ON.out).alloc (.cells #[.bool xv, .int .u64 xh, .int .u64 xl, .int .i64 xb] 26)
  replace TW : Hid (HasG (w33.alloc (.cells #[.bool xv, .int .u64 xh, .int .u64 xl, .int .i64 xb] 26)) (m8 + 1 + 1 + 1) v gh gl (b + 1)) := (TW.out).alloc (.cells #[.bool xv, .int .u64 xh, .int .u64 xl, .int .i64 xb] 26)
  replace WH : Hid (HasG (w33.alloc (.cells #[.bool xv, .int .u64 xh, .int .u64 xl, .int .i64 xb] 26)) (m8 + 1 + 1 + 1 + 1) false 0 0 0) := (WH.out).alloc (.cells #[.bool xv, .int .u64 xh, .int .u64 xl, .int .i64 xb] 26)
  replace PY : Hid (HasG (w33.alloc (.cells #[.bool xv, .int .u64 xh, .int .u64 xl, .int .i64 xb] 26)) (m32) zv zh zl zb) := (PY.out).alloc (.cells #[.bool xv, .int .u64 xh, .int .u64 xl, .int .i64 xb] 26)
  replace B : Hid (Below w.heap.size w (w33.alloc (.cells #[.bool xv, .int .u64 xh, .int .u64 xl, .int .i64 xb] 26))) := bal (B.out) _
  have PR : Hid (HasG (w33.alloc (.cells #[.bool xv, .int .u64 xh, .int .u64 xl, .int .i64 xb] 26)) (w33.heap.size) xv xh xl xb) := HasG.new w33 xv xh xl xb 26
  have E1 := eql_pf xv xh xl xb xv xh xl xb
  rw [eqP_same] at E1
  have E2 := eql_addr v hi lo v hi lo
  rw [eqA_same] at E2
  have E3 := eql_addr v lh ll v lh ll
  rw [eqA_same] at E3
  have E4 := eql_pf v hi lo (b + 1) v hi lo (b + 1)
  rw [eqP_same] at E4
  have E5 := eql_pf v gh gl (b + 1) v gh gl (b + 1)
  rw [eqP_same] at E5
  have E6 := eql_pf false 0 0 0 false 0 0 0
  rw [eqP_same] at E6
  go_wp2_with fail
  generalize (w33.alloc (.cells #[.bool xv, .int .u64 xh, .int .u64 xl, .int .i64 xb] 26)) = W33 at *
  generalize w33.heap.size = m33 at *
  refine (hB.out _ (HG.out _ B.out)).mono ?_
  rintro e w34 ⟨rfl, hb⟩
  replace PP : Hid (HasG w34 (w.heap.size) v hi lo b) := PP.out.below hb
  replace PQ : Hid (HasG w34 (w.heap.size + 1) u yi yo c) := PQ.out.below hb
  replace PX : Hid (HasG w34 (m2) xv xh xl xb) := PX.out.below hb
  replace EA : Hid (HasF w34 (m4) (.bool v) (.int .u64 hi) (.int .u64 lo)) := EA.out.below hb
  replace EB : Hid (HasF w34 (m4 + 1) (.bool v) (.int .u64 lh) (.int .u64 ll)) := EB.out.below hb
  replace HC : Hid (HasG w34 (m5) v hi lo (b + 1)) := HC.out.below hb
  replace HD : Hid (HasG w34 (m5 + 1) v gh gl (b + 1)) := HD.out.below hb
  replace PW : Hid (HasG w34 (m6) false 0 0 0) := PW.out.below hb
  replace FI : Hid (HasF w34 (m8) (.bool v) (.int .u64 hi) (.int .u64 lo)) := FI.out.below hb
  replace LA : Hid (HasF w34 (m8 + 1) (.bool v) (.int .u64 lh) (.int .u64 ll)) := LA.out.below hb
  replace ON : Hid (HasG w34 (m8 + 1 + 1) v hi lo (b + 1)) := ON.out.below hb
  replace TW : Hid (HasG w34 (m8 + 1 + 1 + 1) v gh gl (b + 1)) := TW.out.below hb
  replace WH : Hid (HasG w34 (m8 + 1 + 1 + 1 + 1) false 0 0 0) := WH.out.below hb
  replace PY : Hid (HasG w34 (m32) zv zh zl zb) := PY.out.below hb
  replace PR : Hid (HasG w34 (m33) xv xh xl xb) := PR.out.below hb
  replace B : Hid (Below w.heap.size w w34) := btr B.out hb
  clear hb
  obtain ⟨⟨PP0, PP1, PP2, PP3, PP4⟩, _⟩ := PP.out
  go_wp2_with fail
  refine (h15.out _).mono ?_
  clear PP0 PP1 PP2 PP3 PP4
  rintro e w35 ⟨rfl, hb⟩
  replace PP : Hid (HasG w35 (w.heap.size) v hi lo b) := PP.out.below hb
  replace PQ : Hid (HasG w35 (w.heap.size + 1) u yi yo c) := PQ.out.below hb
  replace PX : Hid (HasG w35 (m2) xv xh xl xb) := PX.out.below hb
  replace EA : Hid (HasF w35 (m4) (.bool v) (.int .u64 hi) (.int .u64 lo)) := EA.out.below hb
  replace EB : Hid (HasF w35 (m4 + 1) (.bool v) (.int .u64 lh) (.int .u64 ll)) := EB.out.below hb
  replace HC : Hid (HasG w35 (m5) v hi lo (b + 1)) := HC.out.below hb
  replace HD : Hid (HasG w35 (m5 + 1) v gh gl (b + 1)) := HD.out.below hb
  replace PW : Hid (HasG w35 (m6) false 0 0 0) := PW.out.below hb
  replace FI : Hid (HasF w35 (m8) (.bool v) (.int .u64 hi) (.int .u64 lo)) := FI.out.below hb
  replace LA : Hid (HasF w35 (m8 + 1) (.bool v) (.int .u64 lh) (.int .u64 ll)) := LA.out.below hb
  replace ON : Hid (HasG w35 (m8 + 1 + 1) v hi lo (b + 1)) := ON.out.below hb
  replace TW : Hid (HasG w35 (m8 + 1 + 1 + 1) v gh gl (b + 1)) := TW.out.below hb
  replace WH : Hid (HasG w35 (m8 + 1 + 1 + 1 + 1) false 0 0 0) := WH.out.below hb
  replace PY : Hid (HasG w35 (m32) zv zh zl zb) := PY.out.below hb
  replace PR : Hid (HasG w35 (m33) xv xh xl xb) := PR.out.below hb
  replace B : Hid (Below w.heap.size w w35) := btr B.out hb
  clear hb
  obtain ⟨⟨PP0, PP1, PP2, PP3, PP4⟩, _⟩ := PP.out
  obtain ⟨⟨PQ0, PQ1, PQ2, PQ3, PQ4⟩, _⟩ := PQ.out
  obtain ⟨⟨PX0, PX1, PX2, PX3, PX4⟩, _⟩ := PX.out
  obtain ⟨⟨EA0, EA1, EA2, EA3⟩, _⟩ := EA.out
  obtain ⟨⟨EB0, EB1, EB2, EB3⟩, _⟩ := EB.out
  obtain ⟨⟨HC0, HC1, HC2, HC3, HC4⟩, _⟩ := HC.out
  obtain ⟨⟨HD0, HD1, HD2, HD3, HD4⟩, _⟩ := HD.out
  obtain ⟨⟨PW0, PW1, PW2, PW3, PW4⟩, _⟩ := PW.out
  obtain ⟨⟨FI0, FI1, FI2, FI3⟩, _⟩ := FI.out
  obtain ⟨⟨LA0, LA1, LA2, LA3⟩, _⟩ := LA.out
  obtain ⟨⟨ON0, ON1, ON2, ON3, ON4⟩, _⟩ := ON.out
  obtain ⟨⟨TW0, TW1, TW2, TW3, TW4⟩, _⟩ := TW.out
  obtain ⟨⟨WH0, WH1, WH2, WH3, WH4⟩, _⟩ := WH.out
  obtain ⟨⟨PY0, PY1, PY2, PY3, PY4⟩, _⟩ := PY.out
  obtain ⟨⟨PR0, PR1, PR2, PR3, PR4⟩, _⟩ := PR.out
  go_wp2_with fail
  refine (h16.out _).mono ?_
  clear PP0 PP1 PP2 PP3 PP4 PQ0 PQ1 PQ2 PQ3 PQ4 PX0 PX1 PX2 PX3 PX4 EA0 EA1 EA2 EA3 EB0 EB1 EB2 EB3 HC0 HC1 HC2 HC3 HC4 HD0 HD1 HD2 HD3 HD4 PW0 PW1 PW2 PW3 PW4 FI0 FI1 FI2 FI3 LA0 LA1 LA2 LA3 ON0 ON1 ON2 ON3 ON4 TW0 TW1 TW2 TW3 TW4 WH0 WH1 WH2 WH3 WH4 PY0 PY1 PY2 PY3 PY4 PR0 PR1 PR2 PR3 PR4
  rintro e w36 ⟨rfl, hb⟩
  replace PP : Hid (HasG w36 (w.heap.size) v hi lo b) := PP.out.below hb
  replace PQ : Hid (HasG w36 (w.heap.size + 1) u yi yo c) := PQ.out.below hb
  replace PX : Hid (HasG w36 (m2) xv xh xl xb) := PX.out.below hb
  replace EA : Hid (HasF w36 (m4) (.bool v) (.int .u64 hi) (.int .u64 lo)) := EA.out.below hb
  replace EB : Hid (HasF w36 (m4 + 1) (.bool v) (.int .u64 lh) (.int .u64 ll)) := EB.out.below hb
  replace HC : Hid (HasG w36 (m5) v hi lo (b + 1)) := HC.out.below hb
  replace HD : Hid (HasG w36 (m5 + 1) v gh gl (b + 1)) := HD.out.below hb
  replace PW : Hid (HasG w36 (m6) false 0 0 0) := PW.out.below hb
  replace FI : Hid (HasF w36 (m8) (.bool v) (.int .u64 hi) (.int .u64 lo)) := FI.out.below hb
  replace LA : Hid (HasF w36 (m8 + 1) (.bool v) (.int .u64 lh) (.int .u64 ll)) := LA.out.below hb
  replace ON : Hid (HasG w36 (m8 + 1 + 1) v hi lo (b + 1)) := ON.out.below hb
  replace TW : Hid (HasG w36 (m8 + 1 + 1 + 1) v gh gl (b + 1)) := TW.out.below hb
  replace WH : Hid (HasG w36 (m8 + 1 + 1 + 1 + 1) false 0 0 0) := WH.out.below hb
  replace PY : Hid (HasG w36 (m32) zv zh zl zb) := PY.out.below hb
  replace PR : Hid (HasG w36 (m33) xv xh xl xb) := PR.out.below hb
  replace B : Hid (Below w.heap.size w w36) := btr B.out hb
  clear hb
  obtain ⟨⟨PP0, PP1, PP2, PP3, PP4⟩, _⟩ := PP.out
  obtain ⟨⟨PQ0, PQ1, PQ2, PQ3, PQ4⟩, _⟩ := PQ.out
  obtain ⟨⟨PX0, PX1, PX2, PX3, PX4⟩, _⟩ := PX.out
  obtain ⟨⟨EA0, EA1, EA2, EA3⟩, _⟩ := EA.out
  obtain ⟨⟨EB0, EB1, EB2, EB3⟩, _⟩ := EB.out
  obtain ⟨⟨HC0, HC1, HC2, HC3, HC4⟩, _⟩ := HC.out
  obtain ⟨⟨HD0, HD1, HD2, HD3, HD4⟩, _⟩ := HD.out
  obtain ⟨⟨PW0, PW1, PW2, PW3, PW4⟩, _⟩ := PW.out
  obtain ⟨⟨FI0, FI1, FI2, FI3⟩, _⟩ := FI.out
  obtain ⟨⟨LA0, LA1, LA2, LA3⟩, _⟩ := LA.out
  obtain ⟨⟨ON0, ON1, ON2, ON3, ON4⟩, _⟩ := ON.out
  obtain ⟨⟨TW0, TW1, TW2, TW3, TW4⟩, _⟩ := TW.out
  obtain ⟨⟨WH0, WH1, WH2, WH3, WH4⟩, _⟩ := WH.out
  obtain ⟨⟨PY0, PY1, PY2, PY3, PY4⟩, _⟩ := PY.out
  obtain ⟨⟨PR0, PR1, PR2, PR3, PR4⟩, _⟩ := PR.out
  go_wp2
  go_ret
  exact ⟨rfl, B.out⟩

end Go.Proofs.YtollaiabcnmebaaGreatDoor
