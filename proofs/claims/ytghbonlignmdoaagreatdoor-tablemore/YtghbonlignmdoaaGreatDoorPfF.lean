/- prefix.Halves and prefix.Whole where nothing is wrong. -/
import Derived.Test.YtghbonlignmdoaaGreatDoorPfE
set_option linter.unusedVariables false
set_option linter.unusedSimpArgs false
namespace Go.Proofs.YtghbonlignmdoaaGreatDoor
open Go.RowKit

set_option maxHeartbeats 8000000 in
set_option maxRecDepth 100000 in
theorem halves_ok (v : Bool) (hi lo b : Int) (w : World) (i0 : 0 ≤ hi) (i1 : hi < 18446744073709551616) (i2 : 0 ≤ lo) (i3 : lo < 18446744073709551616) (c0 : pchk v hi lo b = 0) (hlt : b < wid v) :
    Calls Tryz.prog 18 #[.agg #[.bool v, .int .u64 hi, .int .u64 lo, .int .i64 b]] w fun e w' => e = .returned (.tuple #[.agg #[.bool v, .int .u64 hi, .int .u64 lo, .int .i64 (b + 1)], .agg #[.bool v, .int .u64 (fsH v (laH v hi b) (b + 1)), .int .u64 (fsL v (laL v lo b) (b + 1)), .int .i64 (b + 1)], .int .i64 0]) ∧ Below w.heap.size w w' := by
  obtain ⟨b0, b1⟩ := pchk_rng c0
  have hL : Hid (∀ (g c : Nat) (w : World), Has4 w g v hi lo b → Calls Tryz.prog 25 #[.slice (some ⟨g, 0, none⟩) 1 c] w fun e w' => e = .returned (.int .i64 0) ∧ Below w.heap.size w w') := by
    intro g c w h
    have := look1 v hi lo b g c w i0 i1 i2 i3 h
    rw [c0] at this; exact this
  have hW : Hid (∀ w : World, Calls Tryz.prog 34 #[.agg #[.bool v, .int .u64 hi, .int .u64 lo]] w fun e w' => e = .returned (.int .i64 (wid v)) ∧ Below w.heap.size w w') := fun w => (width_any v hi lo w).mono fun e w' h => ⟨h.1, by obtain ⟨_, c, rfl⟩ := h; exact bal (Below.refl _ _) _⟩
  have hH : Hid (∀ w : World, Calls Tryz.prog 35 #[.agg #[.bool v, .int .u64 hi, .int .u64 lo, .int .i64 b]] w fun e w' => e = .returned (.tuple #[.agg #[.bool v, .int .u64 hi, .int .u64 lo, .int .i64 (b + 1)], .agg #[.bool v, .int .u64 (fsH v (laH v hi b) (b + 1)), .int .u64 (fsL v (laL v lo b) (b + 1)), .int .i64 (b + 1)]]) ∧ Below w.heap.size w w') :=
    fun w => half_any v hi lo b w i0 i1 i2 i3 b0 hlt
  have hne : (b == wid v) = false := by rw [beq_eq_false_iff_ne]; omega
  clear c0 b0 b1 hlt
  generalize (fsH v (laH v hi b) (b + 1)) = g1 at *
  generalize (fsL v (laL v lo b) (b + 1)) = g2 at *
  generalize wid v = d at *
  go_enter Tryz.func18, Tryz.ntmps18
  go_wp2_with fail
  have hs1 : (w.alloc (.cells #[.bool v, .int .u64 hi, .int .u64 lo, .int .i64 b] 37)).heap.size = w.heap.size + 1 := by simp
  have hs2 : ((w.alloc (.cells #[.bool v, .int .u64 hi, .int .u64 lo, .int .i64 b] 37)).alloc (.cells #[.bool false, .int .u64 0, .int .u64 0, .int .i64 0] 37)).heap.size = w.heap.size + 1 + 1 := by simp
  have hs3 : (((w.alloc (.cells #[.bool v, .int .u64 hi, .int .u64 lo, .int .i64 b] 37)).alloc (.cells #[.bool false, .int .u64 0, .int .u64 0, .int .i64 0] 37)).alloc (.cells #[.bool false, .int .u64 0, .int .u64 0, .int .i64 0] 37)).heap.size = w.heap.size + 1 + 1 + 1 := by simp
  have B1 : Below w.heap.size w ((((w.alloc (.cells #[.bool v, .int .u64 hi, .int .u64 lo, .int .i64 b] 37)).alloc (.cells #[.bool false, .int .u64 0, .int .u64 0, .int .i64 0] 37)).alloc (.cells #[.bool false, .int .u64 0, .int .u64 0, .int .i64 0] 37)).alloc (.cells #[.bool v, .int .u64 hi, .int .u64 lo, .int .i64 b] 37)) := bal (bal (bal (bal (Below.refl _ _) _) _) _) _
  have P0 := (((Has4.new w v hi lo b 37).alloc (.cells #[.bool false, .int .u64 0, .int .u64 0, .int .i64 0] 37)).alloc (.cells #[.bool false, .int .u64 0, .int .u64 0, .int .i64 0] 37)).alloc (.cells #[.bool v, .int .u64 hi, .int .u64 lo, .int .i64 b] 37)
  have R0 := ((Own4.new (w.alloc (.cells #[.bool v, .int .u64 hi, .int .u64 lo, .int .i64 b] 37)) (.bool false) (.int .u64 0) (.int .u64 0) (.int .i64 0) 37).alloc (.cells #[.bool false, .int .u64 0, .int .u64 0, .int .i64 0] 37)).alloc (.cells #[.bool v, .int .u64 hi, .int .u64 lo, .int .i64 b] 37)
  rw [hs1] at R0
  have R1 := (Own4.new ((w.alloc (.cells #[.bool v, .int .u64 hi, .int .u64 lo, .int .i64 b] 37)).alloc (.cells #[.bool false, .int .u64 0, .int .u64 0, .int .i64 0] 37)) (.bool false) (.int .u64 0) (.int .u64 0) (.int .i64 0) 37).alloc (.cells #[.bool v, .int .u64 hi, .int .u64 lo, .int .i64 b] 37)
  rw [hs2] at R1
  have G1 := Has4.new (((w.alloc (.cells #[.bool v, .int .u64 hi, .int .u64 lo, .int .i64 b] 37)).alloc (.cells #[.bool false, .int .u64 0, .int .u64 0, .int .i64 0] 37)).alloc (.cells #[.bool false, .int .u64 0, .int .u64 0, .int .i64 0] 37)) v hi lo b 37
  rw [hs3] at G1
  refine (hL.out _ _ _ G1).mono ?_
  clear G1
  generalize (((w.alloc (.cells #[.bool v, .int .u64 hi, .int .u64 lo, .int .i64 b] 37)).alloc (.cells #[.bool false, .int .u64 0, .int .u64 0, .int .i64 0] 37)).alloc (.cells #[.bool false, .int .u64 0, .int .u64 0, .int .i64 0] 37)).alloc (.cells #[.bool v, .int .u64 hi, .int .u64 lo, .int .i64 b] 37) = W at B1 P0 R0 R1 ⊢
  clear hs1 hs2 hs3 hL
  rintro e w2 ⟨rfl, hb⟩
  replace P0 := P0.below hb
  replace R0 := R0.below hb
  replace R1 := R1.below hb
  replace B1 := btr B1 hb
  clear hb
  have HP : Hid (Has4 w2.drew w.heap.size v hi lo b) := P0
  have HR1 : Hid (Own4 w2.drew (w.heap.size + 1) (.bool false) (.int .u64 0) (.int .u64 0) (.int .i64 0)) := R0
  have HR2 : Hid (Own4 w2.drew (w.heap.size + 1 + 1) (.bool false) (.int .u64 0) (.int .u64 0) (.int .i64 0)) := R1
  have HB : Hid (Below w.heap.size w w2.drew) := B1.drew
  clear B1 R0 R1 P0
  go_wp2_with fail
  go_region_held3 (fun w' => (w'.cell? ⟨w.heap.size, 0, none⟩ = some (.bool v) ∧ w'.cell? ⟨w.heap.size, 1, none⟩ = some (.int .u64 hi) ∧ w'.cell? ⟨w.heap.size, 2, none⟩ = some (.int .u64 lo) ∧ w'.cell? ⟨w.heap.size, 3, none⟩ = some (.int .i64 b) ∧ w.heap.size < w'.heap.size) ∧ Below w2.drew.heap.size w2.drew w')
    (first | exact ⟨HP.out, Below.refl _ _⟩ | exact keep4b (by assumption) (by assumption))
    ((go_at_call 34; refine (hW.out _).mono ?_; rintro e w' ⟨rfl, hb⟩))
  obtain ⟨⟨p0, p1, p2, p3, p4⟩, hb3⟩ : (w'.cell? ⟨w.heap.size, 0, none⟩ = some (.bool v) ∧ w'.cell? ⟨w.heap.size, 1, none⟩ = some (.int .u64 hi) ∧ w'.cell? ⟨w.heap.size, 2, none⟩ = some (.int .u64 lo) ∧ w'.cell? ⟨w.heap.size, 3, none⟩ = some (.int .i64 b) ∧ w.heap.size < w'.heap.size) ∧ Below w2.drew.heap.size w2.drew w' := by assumption
  replace HR1 : Hid (Own4 w' (w.heap.size + 1) (.bool false) (.int .u64 0) (.int .u64 0) (.int .i64 0)) := HR1.out.below hb3
  replace HR2 : Hid (Own4 w' (w.heap.size + 1 + 1) (.bool false) (.int .u64 0) (.int .u64 0) (.int .i64 0)) := HR2.out.below hb3
  replace HB : Hid (Below w.heap.size w w') := btr HB.out hb3
  clear hb3 HP
  go_wp2_with fail
  refine (hH.out _).mono ?_
  rintro e w4 ⟨rfl, hb4⟩
  have R1 := (HR1.out.below hb4).alloc (.cells #[.bool v, .int .u64 hi, .int .u64 lo, .int .i64 (b + 1)] 37)
  have R2 := (HR2.out.below hb4).alloc (.cells #[.bool v, .int .u64 hi, .int .u64 lo, .int .i64 (b + 1)] 37)
  replace R1 := R1.alloc (.cells #[.bool v, .int .u64 g1, .int .u64 g2, .int .i64 (b + 1)] 37)
  replace R2 := R2.alloc (.cells #[.bool v, .int .u64 g1, .int .u64 g2, .int .i64 (b + 1)] 37)
  have HB4 : Hid (Below w.heap.size w ((w4.alloc (.cells #[.bool v, .int .u64 hi, .int .u64 lo, .int .i64 (b + 1)] 37)).alloc (.cells #[.bool v, .int .u64 g1, .int .u64 g2, .int .i64 (b + 1)] 37))) := bal (bal (btr HB.out hb4) _) _
  obtain ⟨⟨r0, r1', r2', r3'⟩, ⟨r4, r5, r6, r7⟩, r8⟩ := R1
  obtain ⟨⟨q0, q1, q2, q3⟩, ⟨q4, q5, q6, q7⟩, q8⟩ := R2
  have u8 : w.heap.size + 1 < w4.heap.size := (HR1.out.below hb4).2.2
  have u9 : w.heap.size + 1 + 1 < w4.heap.size := (HR2.out.below hb4).2.2
  clear hb4 HR1 HR2 HB
  go_wp2_with fail
  have L1 : Has4 _ _ v hi lo (b + 1) := (Has4.new w4 v hi lo (b + 1) 37).alloc (.cells #[.bool v, .int .u64 g1, .int .u64 g2, .int .i64 (b + 1)] 37)
  have L2 : Has4 _ _ v g1 g2 (b + 1) := Has4.new (w4.alloc (.cells #[.bool v, .int .u64 hi, .int .u64 lo, .int .i64 (b + 1)] 37)) v g1 g2 (b + 1) 37
  rw [show (w4.alloc (.cells #[.bool v, .int .u64 hi, .int .u64 lo, .int .i64 (b + 1)] 37)).heap.size = w4.heap.size + 1 by simp] at L2
  generalize (w4.alloc (.cells #[.bool v, .int .u64 hi, .int .u64 lo, .int .i64 (b + 1)] 37)).alloc (.cells #[.bool v, .int .u64 g1, .int .u64 g2, .int .i64 (b + 1)] 37) = W4 at *
  generalize w4.heap.size = m at *
  obtain ⟨x0, x1, x2, x3, x4⟩ := L1
  obtain ⟨y0, y1, y2, y3, y4⟩ := L2
  have n1 : m ≠ w.heap.size + 1 := by omega
  have n2 : m ≠ w.heap.size := by omega
  have n3 : m + 1 ≠ w.heap.size + 1 := by omega
  have n4 : m ≠ w.heap.size + 1 + 1 := by omega
  go_region
  all_goals
    go_wp2
    refine bodyPost_ret (v := .tuple #[.agg #[.bool v, .int .u64 hi, .int .u64 lo, .int .i64 (b + 1)], .agg #[.bool v, .int .u64 g1, .int .u64 g2, .int .i64 (b + 1)], .int .i64 0]) ?_ rfl ⟨rfl, ?_⟩
    · simp [results, Tryz.results18, go_sem, r0, r1', r2', r3', q0, q1, q2, q3]
    · exact Below.drew (bse (bse (bse (bse (bse (bse (bse (bse (HB4.out) (by first | (simp; done) | (simp; omega)) _) (by first | (simp; done) | (simp; omega)) _) (by first | (simp; done) | (simp; omega)) _) (by first | (simp; done) | (simp; omega)) _) (by first | (simp; done) | (simp; omega)) _) (by first | (simp; done) | (simp; omega)) _) (by first | (simp; done) | (simp; omega)) _) (by first | (simp; done) | (simp; omega)) _)

set_option maxHeartbeats 8000000 in
set_option maxRecDepth 100000 in
theorem halves_none (v : Bool) (hi lo b : Int) (w : World) (i0 : 0 ≤ hi) (i1 : hi < 18446744073709551616) (i2 : 0 ≤ lo) (i3 : lo < 18446744073709551616) (c0 : pchk v hi lo b = 0) (hlt : b = wid v) :
    Calls Tryz.prog 18 #[.agg #[.bool v, .int .u64 hi, .int .u64 lo, .int .i64 b]] w fun e w' => e = .returned (.tuple #[.agg #[.bool false, .int .u64 0, .int .u64 0, .int .i64 0], .agg #[.bool false, .int .u64 0, .int .u64 0, .int .i64 0], .int .i64 5]) ∧ Below w.heap.size w w' := by
  have hL : Hid (∀ (g c : Nat) (w : World), Has4 w g v hi lo b → Calls Tryz.prog 25 #[.slice (some ⟨g, 0, none⟩) 1 c] w fun e w' => e = .returned (.int .i64 0) ∧ Below w.heap.size w w') := by
    intro g c w h
    have := look1 v hi lo b g c w i0 i1 i2 i3 h
    rw [c0] at this; exact this
  have hW : Hid (∀ w : World, Calls Tryz.prog 34 #[.agg #[.bool v, .int .u64 hi, .int .u64 lo]] w fun e w' => e = .returned (.int .i64 (wid v)) ∧ Below w.heap.size w w') := fun w => (width_any v hi lo w).mono fun e w' h => ⟨h.1, by obtain ⟨_, c, rfl⟩ := h; exact bal (Below.refl _ _) _⟩
  have hne : (b == wid v) = true := by rw [beq_iff_eq]; exact hlt
  clear c0 hlt
  generalize wid v = d at *
  go_enter Tryz.func18, Tryz.ntmps18
  go_wp2_with fail
  have hs1 : (w.alloc (.cells #[.bool v, .int .u64 hi, .int .u64 lo, .int .i64 b] 37)).heap.size = w.heap.size + 1 := by simp
  have hs2 : ((w.alloc (.cells #[.bool v, .int .u64 hi, .int .u64 lo, .int .i64 b] 37)).alloc (.cells #[.bool false, .int .u64 0, .int .u64 0, .int .i64 0] 37)).heap.size = w.heap.size + 1 + 1 := by simp
  have hs3 : (((w.alloc (.cells #[.bool v, .int .u64 hi, .int .u64 lo, .int .i64 b] 37)).alloc (.cells #[.bool false, .int .u64 0, .int .u64 0, .int .i64 0] 37)).alloc (.cells #[.bool false, .int .u64 0, .int .u64 0, .int .i64 0] 37)).heap.size = w.heap.size + 1 + 1 + 1 := by simp
  have B1 : Below w.heap.size w ((((w.alloc (.cells #[.bool v, .int .u64 hi, .int .u64 lo, .int .i64 b] 37)).alloc (.cells #[.bool false, .int .u64 0, .int .u64 0, .int .i64 0] 37)).alloc (.cells #[.bool false, .int .u64 0, .int .u64 0, .int .i64 0] 37)).alloc (.cells #[.bool v, .int .u64 hi, .int .u64 lo, .int .i64 b] 37)) := bal (bal (bal (bal (Below.refl _ _) _) _) _) _
  have P0 := (((Has4.new w v hi lo b 37).alloc (.cells #[.bool false, .int .u64 0, .int .u64 0, .int .i64 0] 37)).alloc (.cells #[.bool false, .int .u64 0, .int .u64 0, .int .i64 0] 37)).alloc (.cells #[.bool v, .int .u64 hi, .int .u64 lo, .int .i64 b] 37)
  have R0 := ((Own4.new (w.alloc (.cells #[.bool v, .int .u64 hi, .int .u64 lo, .int .i64 b] 37)) (.bool false) (.int .u64 0) (.int .u64 0) (.int .i64 0) 37).alloc (.cells #[.bool false, .int .u64 0, .int .u64 0, .int .i64 0] 37)).alloc (.cells #[.bool v, .int .u64 hi, .int .u64 lo, .int .i64 b] 37)
  rw [hs1] at R0
  have R1 := (Own4.new ((w.alloc (.cells #[.bool v, .int .u64 hi, .int .u64 lo, .int .i64 b] 37)).alloc (.cells #[.bool false, .int .u64 0, .int .u64 0, .int .i64 0] 37)) (.bool false) (.int .u64 0) (.int .u64 0) (.int .i64 0) 37).alloc (.cells #[.bool v, .int .u64 hi, .int .u64 lo, .int .i64 b] 37)
  rw [hs2] at R1
  have G1 := Has4.new (((w.alloc (.cells #[.bool v, .int .u64 hi, .int .u64 lo, .int .i64 b] 37)).alloc (.cells #[.bool false, .int .u64 0, .int .u64 0, .int .i64 0] 37)).alloc (.cells #[.bool false, .int .u64 0, .int .u64 0, .int .i64 0] 37)) v hi lo b 37
  rw [hs3] at G1
  refine (hL.out _ _ _ G1).mono ?_
  clear G1
  generalize (((w.alloc (.cells #[.bool v, .int .u64 hi, .int .u64 lo, .int .i64 b] 37)).alloc (.cells #[.bool false, .int .u64 0, .int .u64 0, .int .i64 0] 37)).alloc (.cells #[.bool false, .int .u64 0, .int .u64 0, .int .i64 0] 37)).alloc (.cells #[.bool v, .int .u64 hi, .int .u64 lo, .int .i64 b] 37) = W at B1 P0 R0 R1 ⊢
  clear hs1 hs2 hs3 hL
  rintro e w2 ⟨rfl, hb⟩
  replace P0 := P0.below hb
  replace R0 := R0.below hb
  replace R1 := R1.below hb
  replace B1 := btr B1 hb
  clear hb
  have HP : Hid (Has4 w2.drew w.heap.size v hi lo b) := P0
  have HR1 : Hid (Own4 w2.drew (w.heap.size + 1) (.bool false) (.int .u64 0) (.int .u64 0) (.int .i64 0)) := R0
  have HR2 : Hid (Own4 w2.drew (w.heap.size + 1 + 1) (.bool false) (.int .u64 0) (.int .u64 0) (.int .i64 0)) := R1
  have HB : Hid (Below w.heap.size w w2.drew) := B1.drew
  clear B1 R0 R1 P0
  go_wp2_with fail
  go_region_held3 (fun w' => (w'.cell? ⟨w.heap.size, 0, none⟩ = some (.bool v) ∧ w'.cell? ⟨w.heap.size, 1, none⟩ = some (.int .u64 hi) ∧ w'.cell? ⟨w.heap.size, 2, none⟩ = some (.int .u64 lo) ∧ w'.cell? ⟨w.heap.size, 3, none⟩ = some (.int .i64 b) ∧ w.heap.size < w'.heap.size) ∧ Below w2.drew.heap.size w2.drew w')
    (first | exact ⟨HP.out, Below.refl _ _⟩ | exact keep4b (by assumption) (by assumption))
    ((go_at_call 34; refine (hW.out _).mono ?_; rintro e w' ⟨rfl, hb⟩))
  obtain ⟨⟨p0, p1, p2, p3, p4⟩, hb3⟩ : (w'.cell? ⟨w.heap.size, 0, none⟩ = some (.bool v) ∧ w'.cell? ⟨w.heap.size, 1, none⟩ = some (.int .u64 hi) ∧ w'.cell? ⟨w.heap.size, 2, none⟩ = some (.int .u64 lo) ∧ w'.cell? ⟨w.heap.size, 3, none⟩ = some (.int .i64 b) ∧ w.heap.size < w'.heap.size) ∧ Below w2.drew.heap.size w2.drew w' := by assumption
  obtain ⟨⟨r0, r1', r2', r3'⟩, ⟨r4, r5, r6, r7⟩, r8⟩ := HR1.out.below hb3
  obtain ⟨⟨q0, q1, q2, q3⟩, ⟨q4, q5, q6, q7⟩, q8⟩ := HR2.out.below hb3
  replace HB : Hid (Below w.heap.size w w') := btr HB.out hb3
  clear hb3 HP HR1 HR2
  go_wp2
  refine bodyPost_ret (v := .tuple #[.agg #[.bool false, .int .u64 0, .int .u64 0, .int .i64 0], .agg #[.bool false, .int .u64 0, .int .u64 0, .int .i64 0], .int .i64 5]) ?_ rfl ⟨rfl, ?_⟩
  · simp [results, Tryz.results18, go_sem, r0, r1', r2', r3', q0, q1, q2, q3]
  · exact bse (bse (bse (bse (bse (bse (bse (bse (HB.out) (by first | (simp; done) | (simp; omega)) _) (by first | (simp; done) | (simp; omega)) _) (by first | (simp; done) | (simp; omega)) _) (by first | (simp; done) | (simp; omega)) _) (by first | (simp; done) | (simp; omega)) _) (by first | (simp; done) | (simp; omega)) _) (by first | (simp; done) | (simp; omega)) _) (by first | (simp; done) | (simp; omega)) _

def eqP (v : Bool) (hi lo b : Int) (u : Bool) (yi yo c : Int) : Bool := eqA v hi lo u yi yo && (b == c)
theorem neq_pf (v : Bool) (hi lo b : Int) (u : Bool) (yi yo c : Int) (w : World) :
    (binOp .neq 37 (.agg #[.bool v, .int .u64 hi, .int .u64 lo, .int .i64 b]) (.agg #[.bool u, .int .u64 yi, .int .u64 yo, .int .i64 c])).run Tryz.prog w = .ok (.bool (!(eqP v hi lo b u yi yo c))) w := by
  unfold eqP eqA
  cases h1 : v == u <;> cases h2 : hi == yi <;> cases h3 : lo == yo <;> cases h4 : b == c <;> simp [go_sem, h1, h2, h3, h4]
theorem eql_pf (v : Bool) (hi lo b : Int) (u : Bool) (yi yo c : Int) (w : World) :
    (binOp .eql 37 (.agg #[.bool v, .int .u64 hi, .int .u64 lo, .int .i64 b]) (.agg #[.bool u, .int .u64 yi, .int .u64 yo, .int .i64 c])).run Tryz.prog w = .ok (.bool (eqP v hi lo b u yi yo c)) w := by
  unfold eqP eqA
  cases h1 : v == u <;> cases h2 : hi == yi <;> cases h3 : lo == yo <;> cases h4 : b == c <;> simp [go_sem, h1, h2, h3, h4]

set_option maxHeartbeats 8000000 in
set_option maxRecDepth 100000 in
theorem whole_chk (v : Bool) (hi lo b : Int) (u : Bool) (yi yo c : Int) (w : World) (i0 : 0 ≤ hi) (i1 : hi < 18446744073709551616) (i2 : 0 ≤ lo) (i3 : lo < 18446744073709551616) (j0 : 0 ≤ yi) (j1 : yi < 18446744073709551616) (j2 : 0 ≤ yo) (j3 : yo < 18446744073709551616) (c0 : two (pchk v hi lo b) (pchk u yi yo c) = 0) (hk : pchk v hi lo (b - 1) ≠ 0) :
    Calls Tryz.prog 19 #[.agg #[.bool v, .int .u64 hi, .int .u64 lo, .int .i64 b], .agg #[.bool u, .int .u64 yi, .int .u64 yo, .int .i64 c]] w fun e w' => e = .returned (.tuple #[.agg #[.bool false, .int .u64 0, .int .u64 0, .int .i64 0], .int .i64 4]) ∧ Below w.heap.size w w' := by
  obtain ⟨cp, cq⟩ := two_ok c0
  obtain ⟨b0, b1⟩ := pchk_rng cp
  have hv : wid v ≤ 128 := by unfold wid; split <;> omega
  have hb128 : b ≤ 128 := by omega
  have hL : Hid (∀ w : World, Calls Tryz.prog 25 #[.slice (some ⟨w.heap.size, 0, none⟩) 2 2] (w.alloc (.cells #[.bool v, .int .u64 hi, .int .u64 lo, .int .i64 b, .bool u, .int .u64 yi, .int .u64 yo, .int .i64 c] 37)) fun e w' => e = .returned (.int .i64 0) ∧ Below (w.alloc (.cells #[.bool v, .int .u64 hi, .int .u64 lo, .int .i64 b, .bool u, .int .u64 yi, .int .u64 yo, .int .i64 c] 37)).heap.size (w.alloc (.cells #[.bool v, .int .u64 hi, .int .u64 lo, .int .i64 b, .bool u, .int .u64 yi, .int .u64 yo, .int .i64 c] 37)) w') := by
    intro w
    have := look2 v hi lo b u yi yo c w i0 i1 i2 i3 j0 j1 j2 j3
    rw [c0] at this; exact this
  have hC : Hid (∀ w : World, Calls Tryz.prog 21 #[.agg #[.bool v, .int .u64 hi, .int .u64 lo, .int .i64 (b - 1)]] w fun e w' => e = .returned (.int .i64 (pchk v hi lo (b - 1))) ∧ Below w.heap.size w w') := fun w => pcheck_any v hi lo (b - 1) w i0 i1 i2 i3
  have hkn : (pchk v hi lo (b - 1) != 0) = true := by rw [bne_iff_ne]; exact hk
  generalize pchk v hi lo (b - 1) = k at *
  clear cp cq c0 hk hv b1
  go_enter Tryz.func19, Tryz.ntmps19
  go_wp2_with fail
  have hs1 : (w.alloc (.cells #[.bool v, .int .u64 hi, .int .u64 lo, .int .i64 b] 37)).heap.size = w.heap.size + 1 := by simp
  have hs2 : ((w.alloc (.cells #[.bool v, .int .u64 hi, .int .u64 lo, .int .i64 b] 37)).alloc (.cells #[.bool u, .int .u64 yi, .int .u64 yo, .int .i64 c] 37)).heap.size = w.heap.size + 1 + 1 := by simp
  have hs3 : (((w.alloc (.cells #[.bool v, .int .u64 hi, .int .u64 lo, .int .i64 b] 37)).alloc (.cells #[.bool u, .int .u64 yi, .int .u64 yo, .int .i64 c] 37)).alloc (.cells #[.bool false, .int .u64 0, .int .u64 0, .int .i64 0] 37)).heap.size = w.heap.size + 1 + 1 + 1 := by simp
  have B1 : Below w.heap.size w ((((w.alloc (.cells #[.bool v, .int .u64 hi, .int .u64 lo, .int .i64 b] 37)).alloc (.cells #[.bool u, .int .u64 yi, .int .u64 yo, .int .i64 c] 37)).alloc (.cells #[.bool false, .int .u64 0, .int .u64 0, .int .i64 0] 37)).alloc (.cells #[.bool v, .int .u64 hi, .int .u64 lo, .int .i64 b, .bool u, .int .u64 yi, .int .u64 yo, .int .i64 c] 37)) := bal (bal (bal (bal (Below.refl _ _) _) _) _) _
  have P0 := (((Has4.new w v hi lo b 37).alloc (.cells #[.bool u, .int .u64 yi, .int .u64 yo, .int .i64 c] 37)).alloc (.cells #[.bool false, .int .u64 0, .int .u64 0, .int .i64 0] 37)).alloc (.cells #[.bool v, .int .u64 hi, .int .u64 lo, .int .i64 b, .bool u, .int .u64 yi, .int .u64 yo, .int .i64 c] 37)
  have P1 := ((Has4.new (w.alloc (.cells #[.bool v, .int .u64 hi, .int .u64 lo, .int .i64 b] 37)) u yi yo c 37).alloc (.cells #[.bool false, .int .u64 0, .int .u64 0, .int .i64 0] 37)).alloc (.cells #[.bool v, .int .u64 hi, .int .u64 lo, .int .i64 b, .bool u, .int .u64 yi, .int .u64 yo, .int .i64 c] 37)
  rw [hs1] at P1
  have R0 := (Own4.new ((w.alloc (.cells #[.bool v, .int .u64 hi, .int .u64 lo, .int .i64 b] 37)).alloc (.cells #[.bool u, .int .u64 yi, .int .u64 yo, .int .i64 c] 37)) (.bool false) (.int .u64 0) (.int .u64 0) (.int .i64 0) 37).alloc (.cells #[.bool v, .int .u64 hi, .int .u64 lo, .int .i64 b, .bool u, .int .u64 yi, .int .u64 yo, .int .i64 c] 37)
  rw [hs2] at R0
  have G1 := hL.out (((w.alloc (.cells #[.bool v, .int .u64 hi, .int .u64 lo, .int .i64 b] 37)).alloc (.cells #[.bool u, .int .u64 yi, .int .u64 yo, .int .i64 c] 37)).alloc (.cells #[.bool false, .int .u64 0, .int .u64 0, .int .i64 0] 37))
  rw [hs3] at G1
  refine G1.mono ?_
  clear G1
  generalize (((w.alloc (.cells #[.bool v, .int .u64 hi, .int .u64 lo, .int .i64 b] 37)).alloc (.cells #[.bool u, .int .u64 yi, .int .u64 yo, .int .i64 c] 37)).alloc (.cells #[.bool false, .int .u64 0, .int .u64 0, .int .i64 0] 37)).alloc (.cells #[.bool v, .int .u64 hi, .int .u64 lo, .int .i64 b, .bool u, .int .u64 yi, .int .u64 yo, .int .i64 c] 37) = W at B1 P0 P1 R0 ⊢
  clear hs1 hs2 hs3 hL
  rintro e w2 ⟨rfl, hb⟩
  replace P0 := P0.below hb
  replace P1 := P1.below hb
  replace R0 := R0.below hb
  replace B1 := btr B1 hb
  clear hb
  replace B1 := bal B1 (.cells #[.bool v, .int .u64 hi, .int .u64 lo, .int .i64 (b - 1)] 37)
  have PW : Has4 _ _ v hi lo (b - 1) := Has4.new w2 v hi lo (b - 1) 37
  have P0' := P0
  replace P0 := P0.alloc (.cells #[.bool v, .int .u64 hi, .int .u64 lo, .int .i64 (b - 1)] 37)
  replace P1 := P1.alloc (.cells #[.bool v, .int .u64 hi, .int .u64 lo, .int .i64 (b - 1)] 37)
  replace R0 := R0.alloc (.cells #[.bool v, .int .u64 hi, .int .u64 lo, .int .i64 (b - 1)] 37)
  obtain ⟨p0, p1, p2, p3, p4⟩ := P0'
  go_wp2_with fail
  generalize w2.alloc (.cells #[.bool v, .int .u64 hi, .int .u64 lo, .int .i64 (b - 1)] 37) = W2 at *
  generalize w2.heap.size = m at *
  refine (hC.out _).mono ?_
  rintro e w3 ⟨rfl, hb⟩
  replace B1 : Below w.heap.size w w3 := btr B1 hb
  replace P1 := P1.below hb
  replace R0 := R0.below hb
  replace PW := PW.below hb
  clear hb p0 p1 p2 p3 P0
  obtain ⟨⟨r0, r1, r2, r3⟩, ⟨r4, r5, r6, r7⟩, r8⟩ := R0
  have HB : Hid (Below w.heap.size w w3) := B1
  clear B1
  go_wp2
  refine bodyPost_ret (v := .tuple #[.agg #[.bool false, .int .u64 0, .int .u64 0, .int .i64 0], .int .i64 4]) ?_ rfl ⟨rfl, ?_⟩
  · simp [results, Tryz.results19, go_sem, r0, r1, r2, r3]
  · exact bse (bse (bse (bse (HB.out) (by first | (simp; done) | (simp; omega)) _) (by first | (simp; done) | (simp; omega)) _) (by first | (simp; done) | (simp; omega)) _) (by first | (simp; done) | (simp; omega)) _

set_option maxHeartbeats 8000000 in
set_option maxRecDepth 100000 in
theorem whole_neq (v : Bool) (hi lo b : Int) (u : Bool) (yi yo c : Int) (w : World) (i0 : 0 ≤ hi) (i1 : hi < 18446744073709551616) (i2 : 0 ≤ lo) (i3 : lo < 18446744073709551616) (j0 : 0 ≤ yi) (j1 : yi < 18446744073709551616) (j2 : 0 ≤ yo) (j3 : yo < 18446744073709551616) (c0 : two (pchk v hi lo b) (pchk u yi yo c) = 0) (hk : pchk v hi lo (b - 1) = 0) (hq : eqP v (fsH v (laH v hi (b - 1)) (b - 1 + 1)) (fsL v (laL v lo (b - 1)) (b - 1 + 1)) (b - 1 + 1) u yi yo c = false) :
    Calls Tryz.prog 19 #[.agg #[.bool v, .int .u64 hi, .int .u64 lo, .int .i64 b], .agg #[.bool u, .int .u64 yi, .int .u64 yo, .int .i64 c]] w fun e w' => e = .returned (.tuple #[.agg #[.bool false, .int .u64 0, .int .u64 0, .int .i64 0], .int .i64 4]) ∧ Below w.heap.size w w' := by
  obtain ⟨cp, cq⟩ := two_ok c0
  obtain ⟨b0, b1⟩ := pchk_rng cp
  have hv : wid v ≤ 128 := by unfold wid; split <;> omega
  have hb128 : b ≤ 128 := by omega
  have hL : Hid (∀ w : World, Calls Tryz.prog 25 #[.slice (some ⟨w.heap.size, 0, none⟩) 2 2] (w.alloc (.cells #[.bool v, .int .u64 hi, .int .u64 lo, .int .i64 b, .bool u, .int .u64 yi, .int .u64 yo, .int .i64 c] 37)) fun e w' => e = .returned (.int .i64 0) ∧ Below (w.alloc (.cells #[.bool v, .int .u64 hi, .int .u64 lo, .int .i64 b, .bool u, .int .u64 yi, .int .u64 yo, .int .i64 c] 37)).heap.size (w.alloc (.cells #[.bool v, .int .u64 hi, .int .u64 lo, .int .i64 b, .bool u, .int .u64 yi, .int .u64 yo, .int .i64 c] 37)) w') := by
    intro w
    have := look2 v hi lo b u yi yo c w i0 i1 i2 i3 j0 j1 j2 j3
    rw [c0] at this; exact this
  have hC : Hid (∀ w : World, Calls Tryz.prog 21 #[.agg #[.bool v, .int .u64 hi, .int .u64 lo, .int .i64 (b - 1)]] w fun e w' => e = .returned (.int .i64 (pchk v hi lo (b - 1))) ∧ Below w.heap.size w w') := fun w => pcheck_any v hi lo (b - 1) w i0 i1 i2 i3
  rw [hk] at hC
  have hH : Hid (∀ w : World, Calls Tryz.prog 35 #[.agg #[.bool v, .int .u64 hi, .int .u64 lo, .int .i64 (b - 1)]] w fun e w' => e = .returned (.tuple #[.agg #[.bool v, .int .u64 hi, .int .u64 lo, .int .i64 (b - 1 + 1)], .agg #[.bool v, .int .u64 (fsH v (laH v hi (b - 1)) (b - 1 + 1)), .int .u64 (fsL v (laL v lo (b - 1)) (b - 1 + 1)), .int .i64 (b - 1 + 1)]]) ∧ Below w.heap.size w w') :=
    fun w => half_any v hi lo (b - 1) w i0 i1 i2 i3 (pchk_rng hk).1 (by omega)
  have hE := neq_pf v (fsH v (laH v hi (b - 1)) (b - 1 + 1)) (fsL v (laL v lo (b - 1)) (b - 1 + 1)) (b - 1 + 1) u yi yo c
  rw [hq] at hE
  clear cp cq c0 hk hv b1 hq
  generalize fsH v (laH v hi (b - 1)) (b - 1 + 1) = g1 at *
  generalize fsL v (laL v lo (b - 1)) (b - 1 + 1) = g2 at *
  generalize b - 1 + 1 = b' at *
  go_enter Tryz.func19, Tryz.ntmps19
  go_wp2_with fail
  have hs1 : (w.alloc (.cells #[.bool v, .int .u64 hi, .int .u64 lo, .int .i64 b] 37)).heap.size = w.heap.size + 1 := by simp
  have hs2 : ((w.alloc (.cells #[.bool v, .int .u64 hi, .int .u64 lo, .int .i64 b] 37)).alloc (.cells #[.bool u, .int .u64 yi, .int .u64 yo, .int .i64 c] 37)).heap.size = w.heap.size + 1 + 1 := by simp
  have hs3 : (((w.alloc (.cells #[.bool v, .int .u64 hi, .int .u64 lo, .int .i64 b] 37)).alloc (.cells #[.bool u, .int .u64 yi, .int .u64 yo, .int .i64 c] 37)).alloc (.cells #[.bool false, .int .u64 0, .int .u64 0, .int .i64 0] 37)).heap.size = w.heap.size + 1 + 1 + 1 := by simp
  have B1 : Below w.heap.size w ((((w.alloc (.cells #[.bool v, .int .u64 hi, .int .u64 lo, .int .i64 b] 37)).alloc (.cells #[.bool u, .int .u64 yi, .int .u64 yo, .int .i64 c] 37)).alloc (.cells #[.bool false, .int .u64 0, .int .u64 0, .int .i64 0] 37)).alloc (.cells #[.bool v, .int .u64 hi, .int .u64 lo, .int .i64 b, .bool u, .int .u64 yi, .int .u64 yo, .int .i64 c] 37)) := bal (bal (bal (bal (Below.refl _ _) _) _) _) _
  have P0 := (((Has4.new w v hi lo b 37).alloc (.cells #[.bool u, .int .u64 yi, .int .u64 yo, .int .i64 c] 37)).alloc (.cells #[.bool false, .int .u64 0, .int .u64 0, .int .i64 0] 37)).alloc (.cells #[.bool v, .int .u64 hi, .int .u64 lo, .int .i64 b, .bool u, .int .u64 yi, .int .u64 yo, .int .i64 c] 37)
  have P1 := ((Has4.new (w.alloc (.cells #[.bool v, .int .u64 hi, .int .u64 lo, .int .i64 b] 37)) u yi yo c 37).alloc (.cells #[.bool false, .int .u64 0, .int .u64 0, .int .i64 0] 37)).alloc (.cells #[.bool v, .int .u64 hi, .int .u64 lo, .int .i64 b, .bool u, .int .u64 yi, .int .u64 yo, .int .i64 c] 37)
  rw [hs1] at P1
  have R0 := (Own4.new ((w.alloc (.cells #[.bool v, .int .u64 hi, .int .u64 lo, .int .i64 b] 37)).alloc (.cells #[.bool u, .int .u64 yi, .int .u64 yo, .int .i64 c] 37)) (.bool false) (.int .u64 0) (.int .u64 0) (.int .i64 0) 37).alloc (.cells #[.bool v, .int .u64 hi, .int .u64 lo, .int .i64 b, .bool u, .int .u64 yi, .int .u64 yo, .int .i64 c] 37)
  rw [hs2] at R0
  have G1 := hL.out (((w.alloc (.cells #[.bool v, .int .u64 hi, .int .u64 lo, .int .i64 b] 37)).alloc (.cells #[.bool u, .int .u64 yi, .int .u64 yo, .int .i64 c] 37)).alloc (.cells #[.bool false, .int .u64 0, .int .u64 0, .int .i64 0] 37))
  rw [hs3] at G1
  refine G1.mono ?_
  clear G1
  generalize (((w.alloc (.cells #[.bool v, .int .u64 hi, .int .u64 lo, .int .i64 b] 37)).alloc (.cells #[.bool u, .int .u64 yi, .int .u64 yo, .int .i64 c] 37)).alloc (.cells #[.bool false, .int .u64 0, .int .u64 0, .int .i64 0] 37)).alloc (.cells #[.bool v, .int .u64 hi, .int .u64 lo, .int .i64 b, .bool u, .int .u64 yi, .int .u64 yo, .int .i64 c] 37) = W at B1 P0 P1 R0 ⊢
  clear hs1 hs2 hs3 hL
  rintro e w2 ⟨rfl, hb⟩
  replace P0 := P0.below hb
  replace P1 := P1.below hb
  replace R0 := R0.below hb
  replace B1 := btr B1 hb
  clear hb
  replace B1 := bal B1 (.cells #[.bool v, .int .u64 hi, .int .u64 lo, .int .i64 (b - 1)] 37)
  have PW : Has4 _ _ v hi lo (b - 1) := Has4.new w2 v hi lo (b - 1) 37
  have P0' := P0
  replace P0 := P0.alloc (.cells #[.bool v, .int .u64 hi, .int .u64 lo, .int .i64 (b - 1)] 37)
  replace P1 := P1.alloc (.cells #[.bool v, .int .u64 hi, .int .u64 lo, .int .i64 (b - 1)] 37)
  replace R0 := R0.alloc (.cells #[.bool v, .int .u64 hi, .int .u64 lo, .int .i64 (b - 1)] 37)
  obtain ⟨p0, p1, p2, p3, p4⟩ := P0'
  go_wp2_with fail
  generalize w2.alloc (.cells #[.bool v, .int .u64 hi, .int .u64 lo, .int .i64 (b - 1)] 37) = W2 at *
  generalize w2.heap.size = m at *
  refine (hC.out _).mono ?_
  rintro e w3 ⟨rfl, hb⟩
  replace B1 : Below w.heap.size w w3 := btr B1 hb
  replace P1 := P1.below hb
  replace R0 := R0.below hb
  replace PW := PW.below hb
  clear hb p0 p1 p2 p3 P0
  have PW' := PW
  obtain ⟨x0, x1, x2, x3, x4⟩ := PW'
  go_wp2_with fail
  refine (hH.out _).mono ?_
  clear x0 x1 x2 x3 x4
  rintro e w4 ⟨rfl, hb⟩
  replace B1 : Below w.heap.size w ((w4.alloc (.cells #[.bool v, .int .u64 hi, .int .u64 lo, .int .i64 b'] 37)).alloc (.cells #[.bool v, .int .u64 g1, .int .u64 g2, .int .i64 b'] 37)) := bal (bal (btr B1 hb) _) _
  replace P1 := ((P1.below hb).alloc (.cells #[.bool v, .int .u64 hi, .int .u64 lo, .int .i64 b'] 37)).alloc (.cells #[.bool v, .int .u64 g1, .int .u64 g2, .int .i64 b'] 37)
  have u1 := (R0.below hb).2.2
  have u2 := (PW.below hb).2.2.2.2
  replace R0 := ((R0.below hb).alloc (.cells #[.bool v, .int .u64 hi, .int .u64 lo, .int .i64 b'] 37)).alloc (.cells #[.bool v, .int .u64 g1, .int .u64 g2, .int .i64 b'] 37)
  replace PW := ((PW.below hb).alloc (.cells #[.bool v, .int .u64 hi, .int .u64 lo, .int .i64 b'] 37)).alloc (.cells #[.bool v, .int .u64 g1, .int .u64 g2, .int .i64 b'] 37)
  clear hb
  obtain ⟨⟨r0, r1, r2, r3⟩, ⟨r4, r5, r6, r7⟩, r8⟩ := R0
  obtain ⟨x0, x1, x2, x3, x4⟩ := PW
  obtain ⟨q0, q1, q2, q3, q4⟩ := P1
  have HB : Hid (Below w.heap.size w ((w4.alloc (.cells #[.bool v, .int .u64 hi, .int .u64 lo, .int .i64 b'] 37)).alloc (.cells #[.bool v, .int .u64 g1, .int .u64 g2, .int .i64 b'] 37))) := B1
  clear B1
  go_wp2
  refine bodyPost_ret (v := .tuple #[.agg #[.bool false, .int .u64 0, .int .u64 0, .int .i64 0], .int .i64 4]) ?_ rfl ⟨rfl, ?_⟩
  · simp [results, Tryz.results19, go_sem, r0, r1, r2, r3]
  · exact bse (bse (bse (bse (HB.out) (by first | (simp; done) | (simp; omega)) _) (by first | (simp; done) | (simp; omega)) _) (by first | (simp; done) | (simp; omega)) _) (by first | (simp; done) | (simp; omega)) _

set_option maxHeartbeats 8000000 in
set_option maxRecDepth 100000 in
theorem whole_ok (v : Bool) (hi lo b : Int) (u : Bool) (yi yo c : Int) (w : World) (i0 : 0 ≤ hi) (i1 : hi < 18446744073709551616) (i2 : 0 ≤ lo) (i3 : lo < 18446744073709551616) (j0 : 0 ≤ yi) (j1 : yi < 18446744073709551616) (j2 : 0 ≤ yo) (j3 : yo < 18446744073709551616) (c0 : two (pchk v hi lo b) (pchk u yi yo c) = 0) (hk : pchk v hi lo (b - 1) = 0) (hq : eqP v (fsH v (laH v hi (b - 1)) (b - 1 + 1)) (fsL v (laL v lo (b - 1)) (b - 1 + 1)) (b - 1 + 1) u yi yo c = true) :
    Calls Tryz.prog 19 #[.agg #[.bool v, .int .u64 hi, .int .u64 lo, .int .i64 b], .agg #[.bool u, .int .u64 yi, .int .u64 yo, .int .i64 c]] w fun e w' => e = .returned (.tuple #[.agg #[.bool v, .int .u64 hi, .int .u64 lo, .int .i64 (b - 1)], .int .i64 0]) ∧ Below w.heap.size w w' := by
  obtain ⟨cp, cq⟩ := two_ok c0
  obtain ⟨b0, b1⟩ := pchk_rng cp
  have hv : wid v ≤ 128 := by unfold wid; split <;> omega
  have hb128 : b ≤ 128 := by omega
  have hL : Hid (∀ w : World, Calls Tryz.prog 25 #[.slice (some ⟨w.heap.size, 0, none⟩) 2 2] (w.alloc (.cells #[.bool v, .int .u64 hi, .int .u64 lo, .int .i64 b, .bool u, .int .u64 yi, .int .u64 yo, .int .i64 c] 37)) fun e w' => e = .returned (.int .i64 0) ∧ Below (w.alloc (.cells #[.bool v, .int .u64 hi, .int .u64 lo, .int .i64 b, .bool u, .int .u64 yi, .int .u64 yo, .int .i64 c] 37)).heap.size (w.alloc (.cells #[.bool v, .int .u64 hi, .int .u64 lo, .int .i64 b, .bool u, .int .u64 yi, .int .u64 yo, .int .i64 c] 37)) w') := by
    intro w
    have := look2 v hi lo b u yi yo c w i0 i1 i2 i3 j0 j1 j2 j3
    rw [c0] at this; exact this
  have hC : Hid (∀ w : World, Calls Tryz.prog 21 #[.agg #[.bool v, .int .u64 hi, .int .u64 lo, .int .i64 (b - 1)]] w fun e w' => e = .returned (.int .i64 (pchk v hi lo (b - 1))) ∧ Below w.heap.size w w') := fun w => pcheck_any v hi lo (b - 1) w i0 i1 i2 i3
  rw [hk] at hC
  have hH : Hid (∀ w : World, Calls Tryz.prog 35 #[.agg #[.bool v, .int .u64 hi, .int .u64 lo, .int .i64 (b - 1)]] w fun e w' => e = .returned (.tuple #[.agg #[.bool v, .int .u64 hi, .int .u64 lo, .int .i64 (b - 1 + 1)], .agg #[.bool v, .int .u64 (fsH v (laH v hi (b - 1)) (b - 1 + 1)), .int .u64 (fsL v (laL v lo (b - 1)) (b - 1 + 1)), .int .i64 (b - 1 + 1)]]) ∧ Below w.heap.size w w') :=
    fun w => half_any v hi lo (b - 1) w i0 i1 i2 i3 (pchk_rng hk).1 (by omega)
  have hE := neq_pf v (fsH v (laH v hi (b - 1)) (b - 1 + 1)) (fsL v (laL v lo (b - 1)) (b - 1 + 1)) (b - 1 + 1) u yi yo c
  rw [hq] at hE
  clear cp cq c0 hk hv b1 hq
  generalize fsH v (laH v hi (b - 1)) (b - 1 + 1) = g1 at *
  generalize fsL v (laL v lo (b - 1)) (b - 1 + 1) = g2 at *
  generalize b - 1 + 1 = b' at *
  go_enter Tryz.func19, Tryz.ntmps19
  go_wp2_with fail
  have hs1 : (w.alloc (.cells #[.bool v, .int .u64 hi, .int .u64 lo, .int .i64 b] 37)).heap.size = w.heap.size + 1 := by simp
  have hs2 : ((w.alloc (.cells #[.bool v, .int .u64 hi, .int .u64 lo, .int .i64 b] 37)).alloc (.cells #[.bool u, .int .u64 yi, .int .u64 yo, .int .i64 c] 37)).heap.size = w.heap.size + 1 + 1 := by simp
  have hs3 : (((w.alloc (.cells #[.bool v, .int .u64 hi, .int .u64 lo, .int .i64 b] 37)).alloc (.cells #[.bool u, .int .u64 yi, .int .u64 yo, .int .i64 c] 37)).alloc (.cells #[.bool false, .int .u64 0, .int .u64 0, .int .i64 0] 37)).heap.size = w.heap.size + 1 + 1 + 1 := by simp
  have B1 : Below w.heap.size w ((((w.alloc (.cells #[.bool v, .int .u64 hi, .int .u64 lo, .int .i64 b] 37)).alloc (.cells #[.bool u, .int .u64 yi, .int .u64 yo, .int .i64 c] 37)).alloc (.cells #[.bool false, .int .u64 0, .int .u64 0, .int .i64 0] 37)).alloc (.cells #[.bool v, .int .u64 hi, .int .u64 lo, .int .i64 b, .bool u, .int .u64 yi, .int .u64 yo, .int .i64 c] 37)) := bal (bal (bal (bal (Below.refl _ _) _) _) _) _
  have P0 := (((Has4.new w v hi lo b 37).alloc (.cells #[.bool u, .int .u64 yi, .int .u64 yo, .int .i64 c] 37)).alloc (.cells #[.bool false, .int .u64 0, .int .u64 0, .int .i64 0] 37)).alloc (.cells #[.bool v, .int .u64 hi, .int .u64 lo, .int .i64 b, .bool u, .int .u64 yi, .int .u64 yo, .int .i64 c] 37)
  have P1 := ((Has4.new (w.alloc (.cells #[.bool v, .int .u64 hi, .int .u64 lo, .int .i64 b] 37)) u yi yo c 37).alloc (.cells #[.bool false, .int .u64 0, .int .u64 0, .int .i64 0] 37)).alloc (.cells #[.bool v, .int .u64 hi, .int .u64 lo, .int .i64 b, .bool u, .int .u64 yi, .int .u64 yo, .int .i64 c] 37)
  rw [hs1] at P1
  have R0 := (Own4.new ((w.alloc (.cells #[.bool v, .int .u64 hi, .int .u64 lo, .int .i64 b] 37)).alloc (.cells #[.bool u, .int .u64 yi, .int .u64 yo, .int .i64 c] 37)) (.bool false) (.int .u64 0) (.int .u64 0) (.int .i64 0) 37).alloc (.cells #[.bool v, .int .u64 hi, .int .u64 lo, .int .i64 b, .bool u, .int .u64 yi, .int .u64 yo, .int .i64 c] 37)
  rw [hs2] at R0
  have G1 := hL.out (((w.alloc (.cells #[.bool v, .int .u64 hi, .int .u64 lo, .int .i64 b] 37)).alloc (.cells #[.bool u, .int .u64 yi, .int .u64 yo, .int .i64 c] 37)).alloc (.cells #[.bool false, .int .u64 0, .int .u64 0, .int .i64 0] 37))
  rw [hs3] at G1
  refine G1.mono ?_
  clear G1
  generalize (((w.alloc (.cells #[.bool v, .int .u64 hi, .int .u64 lo, .int .i64 b] 37)).alloc (.cells #[.bool u, .int .u64 yi, .int .u64 yo, .int .i64 c] 37)).alloc (.cells #[.bool false, .int .u64 0, .int .u64 0, .int .i64 0] 37)).alloc (.cells #[.bool v, .int .u64 hi, .int .u64 lo, .int .i64 b, .bool u, .int .u64 yi, .int .u64 yo, .int .i64 c] 37) = W at B1 P0 P1 R0 ⊢
  clear hs1 hs2 hs3 hL
  rintro e w2 ⟨rfl, hb⟩
  replace P0 := P0.below hb
  replace P1 := P1.below hb
  replace R0 := R0.below hb
  replace B1 := btr B1 hb
  clear hb
  replace B1 := bal B1 (.cells #[.bool v, .int .u64 hi, .int .u64 lo, .int .i64 (b - 1)] 37)
  have PW : Has4 _ _ v hi lo (b - 1) := Has4.new w2 v hi lo (b - 1) 37
  have P0' := P0
  replace P0 := P0.alloc (.cells #[.bool v, .int .u64 hi, .int .u64 lo, .int .i64 (b - 1)] 37)
  replace P1 := P1.alloc (.cells #[.bool v, .int .u64 hi, .int .u64 lo, .int .i64 (b - 1)] 37)
  replace R0 := R0.alloc (.cells #[.bool v, .int .u64 hi, .int .u64 lo, .int .i64 (b - 1)] 37)
  obtain ⟨p0, p1, p2, p3, p4⟩ := P0'
  go_wp2_with fail
  generalize w2.alloc (.cells #[.bool v, .int .u64 hi, .int .u64 lo, .int .i64 (b - 1)] 37) = W2 at *
  generalize w2.heap.size = m at *
  refine (hC.out _).mono ?_
  rintro e w3 ⟨rfl, hb⟩
  replace B1 : Below w.heap.size w w3 := btr B1 hb
  replace P1 := P1.below hb
  replace R0 := R0.below hb
  replace PW := PW.below hb
  clear hb p0 p1 p2 p3 P0
  have PW' := PW
  obtain ⟨x0, x1, x2, x3, x4⟩ := PW'
  go_wp2_with fail
  refine (hH.out _).mono ?_
  clear x0 x1 x2 x3 x4
  rintro e w4 ⟨rfl, hb⟩
  replace B1 : Below w.heap.size w ((w4.alloc (.cells #[.bool v, .int .u64 hi, .int .u64 lo, .int .i64 b'] 37)).alloc (.cells #[.bool v, .int .u64 g1, .int .u64 g2, .int .i64 b'] 37)) := bal (bal (btr B1 hb) _) _
  replace P1 := ((P1.below hb).alloc (.cells #[.bool v, .int .u64 hi, .int .u64 lo, .int .i64 b'] 37)).alloc (.cells #[.bool v, .int .u64 g1, .int .u64 g2, .int .i64 b'] 37)
  have u1 := (R0.below hb).2.2
  have u2 := (PW.below hb).2.2.2.2
  replace R0 := ((R0.below hb).alloc (.cells #[.bool v, .int .u64 hi, .int .u64 lo, .int .i64 b'] 37)).alloc (.cells #[.bool v, .int .u64 g1, .int .u64 g2, .int .i64 b'] 37)
  replace PW := ((PW.below hb).alloc (.cells #[.bool v, .int .u64 hi, .int .u64 lo, .int .i64 b'] 37)).alloc (.cells #[.bool v, .int .u64 g1, .int .u64 g2, .int .i64 b'] 37)
  clear hb
  obtain ⟨⟨r0, r1, r2, r3⟩, ⟨r4, r5, r6, r7⟩, r8⟩ := R0
  obtain ⟨x0, x1, x2, x3, x4⟩ := PW
  obtain ⟨q0, q1, q2, q3, q4⟩ := P1
  have HB : Hid (Below w.heap.size w ((w4.alloc (.cells #[.bool v, .int .u64 hi, .int .u64 lo, .int .i64 b'] 37)).alloc (.cells #[.bool v, .int .u64 g1, .int .u64 g2, .int .i64 b'] 37))) := B1
  clear B1
  go_wp2
  refine bodyPost_ret (v := .tuple #[.agg #[.bool v, .int .u64 hi, .int .u64 lo, .int .i64 (b - 1)], .int .i64 0]) ?_ rfl ⟨rfl, ?_⟩
  · simp [results, Tryz.results19, go_sem, r0, r1, r2, r3]
  · exact bse (bse (bse (bse (HB.out) (by first | (simp; done) | (simp; omega)) _) (by first | (simp; done) | (simp; omega)) _) (by first | (simp; done) | (simp; omega)) _) (by first | (simp; done) | (simp; omega)) _

end Go.Proofs.YtghbonlignmdoaaGreatDoor
