/- prefix.Has, prefix.Halves, prefix.Whole where nothing is wrong. -/
import Derived.Test.YtghbonlignmdoaaGreatDoorPfD
set_option linter.unusedVariables false
set_option linter.unusedSimpArgs false
namespace Go.Proofs.YtghbonlignmdoaaGreatDoor
open Go.RowKit

/-- Has a prefix another one? -/
def hasB (v : Bool) (hi lo b : Int) (u : Bool) (yi yo c : Int) : Bool := decide (b ≤ c) && eqA u (fsH u yi b) (fsL u yo b) v hi lo

theorem keep8b {w W W' : World} {p q : Nat} {v : Bool} {hi lo b : Int} {u : Bool} {yi yo c : Int}
    (h : (W.cell? ⟨p, 0, none⟩ = some (.bool v) ∧ W.cell? ⟨p, 1, none⟩ = some (.int .u64 hi) ∧ W.cell? ⟨p, 2, none⟩ = some (.int .u64 lo) ∧ W.cell? ⟨p, 3, none⟩ = some (.int .i64 b) ∧ p < W.heap.size) ∧ (W.cell? ⟨q, 0, none⟩ = some (.bool u) ∧ W.cell? ⟨q, 1, none⟩ = some (.int .u64 yi) ∧ W.cell? ⟨q, 2, none⟩ = some (.int .u64 yo) ∧ W.cell? ⟨q, 3, none⟩ = some (.int .i64 c) ∧ q < W.heap.size) ∧ Below w.heap.size w W)
    (hb : Below W.heap.size W W') :
    (W'.cell? ⟨p, 0, none⟩ = some (.bool v) ∧ W'.cell? ⟨p, 1, none⟩ = some (.int .u64 hi) ∧ W'.cell? ⟨p, 2, none⟩ = some (.int .u64 lo) ∧ W'.cell? ⟨p, 3, none⟩ = some (.int .i64 b) ∧ p < W'.heap.size) ∧ (W'.cell? ⟨q, 0, none⟩ = some (.bool u) ∧ W'.cell? ⟨q, 1, none⟩ = some (.int .u64 yi) ∧ W'.cell? ⟨q, 2, none⟩ = some (.int .u64 yo) ∧ W'.cell? ⟨q, 3, none⟩ = some (.int .i64 c) ∧ q < W'.heap.size) ∧ Below w.heap.size w W' :=
  ⟨Has4.below h.1 hb, Has4.below h.2.1 hb, btr h.2.2 hb⟩

set_option maxHeartbeats 8000000 in
set_option maxRecDepth 100000 in
theorem has_ok (v : Bool) (hi lo b : Int) (u : Bool) (yi yo c : Int) (w : World) (i0 : 0 ≤ hi) (i1 : hi < 18446744073709551616) (i2 : 0 ≤ lo) (i3 : lo < 18446744073709551616) (j0 : 0 ≤ yi) (j1 : yi < 18446744073709551616) (j2 : 0 ≤ yo) (j3 : yo < 18446744073709551616) (c0 : two (pchk v hi lo b) (pchk u yi yo c) = 0) :
    Calls Tryz.prog 10 #[.agg #[.bool v, .int .u64 hi, .int .u64 lo, .int .i64 b], .agg #[.bool u, .int .u64 yi, .int .u64 yo, .int .i64 c]] w fun e w' => e = .returned (.tuple #[.bool (hasB v hi lo b u yi yo c), .int .i64 0]) ∧ Below w.heap.size w w' := by
  obtain ⟨cp, cq⟩ := two_ok c0
  obtain ⟨b0, b1⟩ := pchk_rng cp
  obtain ⟨d0, d1⟩ := pchk_rng cq
  have hL : Hid (∀ w : World, Calls Tryz.prog 25 #[.slice (some ⟨w.heap.size, 0, none⟩) 2 2] (w.alloc (.cells #[.bool v, .int .u64 hi, .int .u64 lo, .int .i64 b, .bool u, .int .u64 yi, .int .u64 yo, .int .i64 c] 37)) fun e w' => e = .returned (.int .i64 0) ∧ Below (w.alloc (.cells #[.bool v, .int .u64 hi, .int .u64 lo, .int .i64 b, .bool u, .int .u64 yi, .int .u64 yo, .int .i64 c] 37)).heap.size (w.alloc (.cells #[.bool v, .int .u64 hi, .int .u64 lo, .int .i64 b, .bool u, .int .u64 yi, .int .u64 yo, .int .i64 c] 37)) w') := by
    intro w
    have := look2 v hi lo b u yi yo c w i0 i1 i2 i3 j0 j1 j2 j3
    rw [c0] at this; exact this
  clear c0 cp cq
  by_cases hbc : b ≤ c
  · have hF : Hid (∀ w : World, Calls Tryz.prog 26 #[.agg #[.bool u, .int .u64 yi, .int .u64 yo], .int .i64 b] w fun e w' => e = .returned (.agg #[.bool u, .int .u64 (fsH u yi b), .int .u64 (fsL u yo b)]) ∧ Below w.heap.size w w') :=
      fun w => (first_any u yi yo b w b0 (by omega) j0 j1 j2 j3).mono fun e w' h => ⟨h.1, below4 h.2⟩
    have hq := eql_addr u (fsH u yi b) (fsL u yo b) v hi lo
    have e1 : hasB v hi lo b u yi yo c = eqA u (fsH u yi b) (fsL u yo b) v hi lo := by simp [hasB, hbc]
    rw [e1]
    clear e1 b0 b1 d0 d1
    generalize fsH u yi b = r1 at *
    generalize fsL u yo b = r2 at *
    generalize eqA u r1 r2 v hi lo = r3 at *
    go_enter Tryz.func10, Tryz.ntmps10
    go_wp2_with fail
    have hs1 : (w.alloc (.cells #[.bool v, .int .u64 hi, .int .u64 lo, .int .i64 b] 37)).heap.size = w.heap.size + 1 := by simp
    have hs2 : ((w.alloc (.cells #[.bool v, .int .u64 hi, .int .u64 lo, .int .i64 b] 37)).alloc (.cells #[.bool u, .int .u64 yi, .int .u64 yo, .int .i64 c] 37)).heap.size = w.heap.size + 1 + 1 := by simp
    have B1 : Below w.heap.size w (((w.alloc (.cells #[.bool v, .int .u64 hi, .int .u64 lo, .int .i64 b] 37)).alloc (.cells #[.bool u, .int .u64 yi, .int .u64 yo, .int .i64 c] 37)).alloc (.cells #[.bool v, .int .u64 hi, .int .u64 lo, .int .i64 b, .bool u, .int .u64 yi, .int .u64 yo, .int .i64 c] 37)) := bal (bal (bal (Below.refl _ _) _) _) _
    have P0 := ((Has4.new w v hi lo b 37).alloc (.cells #[.bool u, .int .u64 yi, .int .u64 yo, .int .i64 c] 37)).alloc (.cells #[.bool v, .int .u64 hi, .int .u64 lo, .int .i64 b, .bool u, .int .u64 yi, .int .u64 yo, .int .i64 c] 37)
    have P1 := (Has4.new (w.alloc (.cells #[.bool v, .int .u64 hi, .int .u64 lo, .int .i64 b] 37)) u yi yo c 37).alloc (.cells #[.bool v, .int .u64 hi, .int .u64 lo, .int .i64 b, .bool u, .int .u64 yi, .int .u64 yo, .int .i64 c] 37)
    rw [hs1] at P1
    have G1 := hL.out ((w.alloc (.cells #[.bool v, .int .u64 hi, .int .u64 lo, .int .i64 b] 37)).alloc (.cells #[.bool u, .int .u64 yi, .int .u64 yo, .int .i64 c] 37))
    rw [hs2] at G1
    refine G1.mono ?_
    clear G1
    generalize ((w.alloc (.cells #[.bool v, .int .u64 hi, .int .u64 lo, .int .i64 b] 37)).alloc (.cells #[.bool u, .int .u64 yi, .int .u64 yo, .int .i64 c] 37)).alloc (.cells #[.bool v, .int .u64 hi, .int .u64 lo, .int .i64 b, .bool u, .int .u64 yi, .int .u64 yo, .int .i64 c] 37) = W at B1 P0 P1 ⊢
    clear hs1 hs2 hL
    rintro e w2 ⟨rfl, hb⟩
    replace P0 := P0.below hb
    replace P1 := P1.below hb
    replace B1 := btr B1 hb
    clear hb
    have HP : Hid (Has4 w2.drew (w.heap.size) v hi lo b) := P0
    have HQ : Hid (Has4 w2.drew (w.heap.size + 1) u yi yo c) := P1
    have HB : Hid (Below w.heap.size w w2.drew) := B1.drew
    clear B1 P0 P1
    go_wp2_with fail
    go_region_held3 (fun w' => (w'.cell? ⟨w.heap.size, 0, none⟩ = some (.bool v) ∧ w'.cell? ⟨w.heap.size, 1, none⟩ = some (.int .u64 hi) ∧ w'.cell? ⟨w.heap.size, 2, none⟩ = some (.int .u64 lo) ∧ w'.cell? ⟨w.heap.size, 3, none⟩ = some (.int .i64 b) ∧ w.heap.size < w'.heap.size) ∧ (w'.cell? ⟨w.heap.size + 1, 0, none⟩ = some (.bool u) ∧ w'.cell? ⟨w.heap.size + 1, 1, none⟩ = some (.int .u64 yi) ∧ w'.cell? ⟨w.heap.size + 1, 2, none⟩ = some (.int .u64 yo) ∧ w'.cell? ⟨w.heap.size + 1, 3, none⟩ = some (.int .i64 c) ∧ w.heap.size + 1 < w'.heap.size) ∧ Below w.heap.size w w')
      (first | exact ⟨HP.out, HQ.out, HB.out⟩ | exact keep8b (by assumption) (by assumption))
      ((go_at_call 26; refine (hF.out _).mono ?_; rintro e w' ⟨rfl, hb⟩))
    go_wp2
    go_ret2
    exact ⟨rfl, And.right (And.right (by assumption))⟩
  · have e1 : hasB v hi lo b u yi yo c = false := by simp [hasB, hbc]
    have hbd : decide (b ≤ c) = false := decide_eq_false hbc
    rw [e1]
    clear e1 b0 b1 d0 d1
    go_enter Tryz.func10, Tryz.ntmps10
    go_wp2_with fail
    have hs1 : (w.alloc (.cells #[.bool v, .int .u64 hi, .int .u64 lo, .int .i64 b] 37)).heap.size = w.heap.size + 1 := by simp
    have hs2 : ((w.alloc (.cells #[.bool v, .int .u64 hi, .int .u64 lo, .int .i64 b] 37)).alloc (.cells #[.bool u, .int .u64 yi, .int .u64 yo, .int .i64 c] 37)).heap.size = w.heap.size + 1 + 1 := by simp
    have B1 : Below w.heap.size w (((w.alloc (.cells #[.bool v, .int .u64 hi, .int .u64 lo, .int .i64 b] 37)).alloc (.cells #[.bool u, .int .u64 yi, .int .u64 yo, .int .i64 c] 37)).alloc (.cells #[.bool v, .int .u64 hi, .int .u64 lo, .int .i64 b, .bool u, .int .u64 yi, .int .u64 yo, .int .i64 c] 37)) := bal (bal (bal (Below.refl _ _) _) _) _
    have P0 := ((Has4.new w v hi lo b 37).alloc (.cells #[.bool u, .int .u64 yi, .int .u64 yo, .int .i64 c] 37)).alloc (.cells #[.bool v, .int .u64 hi, .int .u64 lo, .int .i64 b, .bool u, .int .u64 yi, .int .u64 yo, .int .i64 c] 37)
    have P1 := (Has4.new (w.alloc (.cells #[.bool v, .int .u64 hi, .int .u64 lo, .int .i64 b] 37)) u yi yo c 37).alloc (.cells #[.bool v, .int .u64 hi, .int .u64 lo, .int .i64 b, .bool u, .int .u64 yi, .int .u64 yo, .int .i64 c] 37)
    rw [hs1] at P1
    have G1 := hL.out ((w.alloc (.cells #[.bool v, .int .u64 hi, .int .u64 lo, .int .i64 b] 37)).alloc (.cells #[.bool u, .int .u64 yi, .int .u64 yo, .int .i64 c] 37))
    rw [hs2] at G1
    refine G1.mono ?_
    clear G1
    generalize ((w.alloc (.cells #[.bool v, .int .u64 hi, .int .u64 lo, .int .i64 b] 37)).alloc (.cells #[.bool u, .int .u64 yi, .int .u64 yo, .int .i64 c] 37)).alloc (.cells #[.bool v, .int .u64 hi, .int .u64 lo, .int .i64 b, .bool u, .int .u64 yi, .int .u64 yo, .int .i64 c] 37) = W at B1 P0 P1 ⊢
    clear hs1 hs2 hL
    rintro e w2 ⟨rfl, hb⟩
    replace P0 := P0.below hb
    replace P1 := P1.below hb
    replace B1 := btr B1 hb
    clear hb
    obtain ⟨p0, p1, p2, p3, p4⟩ := P0
    obtain ⟨q0, q1, q2, q3, q4⟩ := P1
    have HB : Hid (Below w.heap.size w w2.drew) := B1.drew
    clear B1
    go_wp2_with fail
    go_region
    go_wp2
    go_ret2
    exact ⟨rfl, HB.out⟩

theorem cut_lt {k : Nat} {x : Int} (h0 : 0 ≤ x) (h1 : x < 18446744073709551616) (hk : k ≤ 64) : 0 ≤ cutI k x ∧ cutI k x + (2 ^ k - 1) < 18446744073709551616 := by
  obtain ⟨n, rfl⟩ := Int.eq_ofNat_of_zero_le h0
  have e : cutI k (n : Int) = ((n / 2 ^ k * 2 ^ k : Nat) : Int) := by simp [cutI]
  have hd : (2 : Nat) ^ k * 2 ^ (64 - k) = 18446744073709551616 := by rw [← Nat.pow_add, show k + (64 - k) = 64 by omega]
  have hlt : n / 2 ^ k < 2 ^ (64 - k) := Nat.div_lt_of_lt_mul (by omega)
  have h2 : (n / 2 ^ k + 1) * 2 ^ k ≤ 2 ^ (64 - k) * 2 ^ k := Nat.mul_le_mul_right _ hlt
  rw [Nat.mul_comm (2 ^ (64 - k)), hd, Nat.add_mul, Nat.one_mul] at h2
  have e2 : (2 : Int) ^ k = ((2 ^ k : Nat) : Int) := (pow_cast k).symm
  rw [e, e2]
  have h3 : 0 < 2 ^ k := Nat.pow_pos (by decide)
  generalize n / 2 ^ k * 2 ^ k = m at *
  generalize 2 ^ k = t at *
  omega
theorem laH_lt {v : Bool} {hi b : Int} (h0 : 0 ≤ hi) (h1 : hi < 18446744073709551616) : 0 ≤ laH v hi b ∧ laH v hi b < 18446744073709551616 := by
  have := cut_lt h0 h1 (Nat.min_le_right (wid v - b - 64).toNat 64)
  unfold laH fsH mask
  have hp : (0 : Int) < 2 ^ (min (wid v - b - 64).toNat 64) := Int.pow_pos (by decide)
  omega
theorem laL_lt {v : Bool} {lo b : Int} (h0 : 0 ≤ lo) (h1 : lo < 18446744073709551616) : 0 ≤ laL v lo b ∧ laL v lo b < 18446744073709551616 := by
  have := cut_lt h0 h1 (Nat.min_le_right (wid v - b).toNat 64)
  unfold laL fsL mask
  have hp : (0 : Int) < 2 ^ (min (wid v - b).toNat 64) := Int.pow_pos (by decide)
  omega

set_option maxHeartbeats 8000000 in
set_option maxRecDepth 100000 in
theorem half_any (v : Bool) (hi lo b : Int) (w : World) (i0 : 0 ≤ hi) (i1 : hi < 18446744073709551616) (i2 : 0 ≤ lo) (i3 : lo < 18446744073709551616) (b0 : 0 ≤ b) (b1 : b < wid v) :
    Calls Tryz.prog 35 #[.agg #[.bool v, .int .u64 hi, .int .u64 lo, .int .i64 b]] w fun e w' => e = .returned (.tuple #[.agg #[.bool v, .int .u64 hi, .int .u64 lo, .int .i64 (b + 1)], .agg #[.bool v, .int .u64 (fsH v (laH v hi b) (b + 1)), .int .u64 (fsL v (laL v lo b) (b + 1)), .int .i64 (b + 1)]]) ∧ Below w.heap.size w w' := by
  have hv : wid v ≤ 128 := by unfold wid; split <;> omega
  have hA : Hid (∀ w : World, Calls Tryz.prog 33 #[.agg #[.bool v, .int .u64 hi, .int .u64 lo, .int .i64 b]] w fun e w' => e = .returned (.agg #[.bool v, .int .u64 (laH v hi b), .int .u64 (laL v lo b)]) ∧ ∃ o1 o2 o3 o4, w' = ((((w.alloc o1).alloc o2).alloc o3).alloc o4).drew) :=
    fun w => last_pf v hi lo b w b0 (by omega) i0 i1 i2 i3
  have hF : Hid (∀ w : World, Calls Tryz.prog 26 #[.agg #[.bool v, .int .u64 (laH v hi b), .int .u64 (laL v lo b)], .int .i64 (b + 1)] w fun e w' => e = .returned (.agg #[.bool v, .int .u64 (fsH v (laH v hi b) (b + 1)), .int .u64 (fsL v (laL v lo b) (b + 1))]) ∧ ∃ o1 o2 o3 o4, w' = ((((w.alloc o1).alloc o2).alloc o3).alloc o4).drew) :=
    fun w => first_any v (laH v hi b) (laL v lo b) (b + 1) w (by omega) (by omega) (laH_lt i0 i1).1 (laH_lt i0 i1).2 (laL_lt i2 i3).1 (laL_lt i2 i3).2
  have hb128 : b < 128 := by omega
  generalize (fsH v (laH v hi b) (b + 1)) = g1 at *
  generalize (fsL v (laL v lo b) (b + 1)) = g2 at *
  generalize laH v hi b = r1 at *
  generalize laL v lo b = r2 at *
  clear hv b1
  go_enter Tryz.func35, Tryz.ntmps35
  go_wp2_with fail
  go_region_with (first | (go_at_call 33; refine (hA.out _).mono ?_; rintro e w3 ⟨rfl, o1, o2, o3, o4, rfl⟩) | (go_at_call 26; refine (hF.out _).mono ?_; rintro e w3 ⟨rfl, o1, o2, o3, o4, rfl⟩))
  all_goals
    go_wp2
    refine bodyPost_ret (v := .tuple #[.agg #[.bool v, .int .u64 hi, .int .u64 lo, .int .i64 (b + 1)], .agg #[.bool v, .int .u64 g1, .int .u64 g2, .int .i64 (b + 1)]]) ?_ rfl ⟨rfl, ?_⟩
    · simp [results, Tryz.results35, go_sem]
    · repeat (first | exact Below.refl _ _ | apply bal | apply Below.drew)

end Go.Proofs.YtghbonlignmdoaaGreatDoor
