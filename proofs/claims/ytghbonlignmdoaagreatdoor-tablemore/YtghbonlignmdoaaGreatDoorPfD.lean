/- prefix.Ends, prefix.Has, prefix.Halves, prefix.Whole: whatever they are handed. -/
import Derived.Test.YtghbonlignmdoaaGreatDoorPfC
set_option linter.unusedVariables false
set_option linter.unusedSimpArgs false
namespace Go.Proofs.YtghbonlignmdoaaGreatDoor
open Go.RowKit

/-- Three cells of a variable that may be written. -/
def Own3 (w : World) (p : Nat) (x y z : Value) : Prop := (w.cell? ⟨p, 0, none⟩ = some x ∧ w.cell? ⟨p, 1, none⟩ = some y ∧ w.cell? ⟨p, 2, none⟩ = some z) ∧ (w.frozen? ⟨p, 0, none⟩ = false ∧ w.frozen? ⟨p, 1, none⟩ = false ∧ w.frozen? ⟨p, 2, none⟩ = false) ∧ p < w.heap.size
theorem Own3.below {W w' : World} {p : Nat} {x y z : Value} (h : Own3 W p x y z) (hb : Below W.heap.size W w') : Own3 w' p x y z := by
  obtain ⟨⟨a, b, c⟩, ⟨d, e, f⟩, k⟩ := h
  obtain ⟨h1, h2⟩ := bcell hb
  exact ⟨⟨by rw [h1 _ _ k]; exact a, by rw [h1 _ _ k]; exact b, by rw [h1 _ _ k]; exact c⟩, ⟨by rw [h2 _ _ k]; exact d, by rw [h2 _ _ k]; exact e, by rw [h2 _ _ k]; exact f⟩, Nat.lt_of_lt_of_le k hb.size⟩
theorem Own3.new (W : World) (x y z : Value) (t : Nat) : Own3 (W.alloc (.cells #[x, y, z] t)) W.heap.size x y z := by
  refine ⟨⟨?_, ?_, ?_⟩, ⟨?_, ?_, ?_⟩, ?_⟩
  · simp [go_sem]
  · simp [go_sem]
  · simp [go_sem]
  · simp [go_sem]
  · simp [go_sem]
  · simp [go_sem]
  · simp
theorem Own3.alloc {W : World} {p : Nat} {x y z : Value} (h : Own3 W p x y z) (o : Obj) : Own3 (W.alloc o) p x y z := h.below (bal (Below.refl _ _) _)
/-- Four of them. -/
def Own4 (w : World) (p : Nat) (x y z t : Value) : Prop := (w.cell? ⟨p, 0, none⟩ = some x ∧ w.cell? ⟨p, 1, none⟩ = some y ∧ w.cell? ⟨p, 2, none⟩ = some z ∧ w.cell? ⟨p, 3, none⟩ = some t) ∧ (w.frozen? ⟨p, 0, none⟩ = false ∧ w.frozen? ⟨p, 1, none⟩ = false ∧ w.frozen? ⟨p, 2, none⟩ = false ∧ w.frozen? ⟨p, 3, none⟩ = false) ∧ p < w.heap.size
theorem Own4.below {W w' : World} {p : Nat} {x y z t : Value} (h : Own4 W p x y z t) (hb : Below W.heap.size W w') : Own4 w' p x y z t := by
  obtain ⟨⟨a, b, c, c'⟩, ⟨d, e, f, f'⟩, k⟩ := h
  obtain ⟨h1, h2⟩ := bcell hb
  exact ⟨⟨by rw [h1 _ _ k]; exact a, by rw [h1 _ _ k]; exact b, by rw [h1 _ _ k]; exact c, by rw [h1 _ _ k]; exact c'⟩, ⟨by rw [h2 _ _ k]; exact d, by rw [h2 _ _ k]; exact e, by rw [h2 _ _ k]; exact f, by rw [h2 _ _ k]; exact f'⟩, Nat.lt_of_lt_of_le k hb.size⟩
theorem Own4.new (W : World) (x y z t : Value) (ty : Nat) : Own4 (W.alloc (.cells #[x, y, z, t] ty)) W.heap.size x y z t := by
  refine ⟨⟨?_, ?_, ?_, ?_⟩, ⟨?_, ?_, ?_, ?_⟩, ?_⟩
  · simp [go_sem]
  · simp [go_sem]
  · simp [go_sem]
  · simp [go_sem]
  · simp [go_sem]
  · simp [go_sem]
  · simp [go_sem]
  · simp [go_sem]
  · simp
theorem Own4.alloc {W : World} {p : Nat} {x y z t : Value} (h : Own4 W p x y z t) (o : Obj) : Own4 (W.alloc o) p x y z t := h.below (bal (Below.refl _ _) _)

theorem look1 (v : Bool) (hi lo b : Int) (g c : Nat) (w : World) (i0 : 0 ≤ hi) (i1 : hi < 18446744073709551616) (l0 : 0 ≤ lo) (l1 : lo < 18446744073709551616) (h : Has4 w g v hi lo b) :
    Calls Tryz.prog 25 #[.slice (some ⟨g, 0, none⟩) 1 c] w fun e w' => e = .returned (.int .i64 (pchk v hi lo b)) ∧ Below w.heap.size w w' := by
  obtain ⟨a0, a1, a2, a3, a4⟩ := h
  have := look_any g c [⟨v, hi, lo, b⟩] w (by simp) (by intro p hp; simp at hp; subst hp; exact ⟨i0, i1, l0, l1⟩) a4 (by
    intro j hj
    have : j = 0 := by simp at hj; omega
    subst this
    exact ⟨a0, a1, a2, a3⟩)
  have e : lookR [⟨v, hi, lo, b⟩] = pchk v hi lo b := by
    simp only [lookR, Pf.chk]
    by_cases h : pchk v hi lo b = 0
    · simp [h]
    · simp [h]
  rw [e] at this
  exact this

/-- What is told of two prefixes: the first one's error, else the second one's. -/
def two (x y : Int) : Int := if x = 0 then y else x
theorem look2 (v : Bool) (hi lo b : Int) (u : Bool) (yi yo c : Int) (w : World) (i0 : 0 ≤ hi) (i1 : hi < 18446744073709551616) (l0 : 0 ≤ lo) (l1 : lo < 18446744073709551616) (j0 : 0 ≤ yi) (j1 : yi < 18446744073709551616) (m0 : 0 ≤ yo) (m1 : yo < 18446744073709551616) :
    Calls Tryz.prog 25 #[.slice (some ⟨w.heap.size, 0, none⟩) 2 2] (w.alloc (.cells #[.bool v, .int .u64 hi, .int .u64 lo, .int .i64 b, .bool u, .int .u64 yi, .int .u64 yo, .int .i64 c] 37)) fun e w' =>
      e = .returned (.int .i64 (two (pchk v hi lo b) (pchk u yi yo c))) ∧ Below (w.alloc (.cells #[.bool v, .int .u64 hi, .int .u64 lo, .int .i64 b, .bool u, .int .u64 yi, .int .u64 yo, .int .i64 c] 37)).heap.size (w.alloc (.cells #[.bool v, .int .u64 hi, .int .u64 lo, .int .i64 b, .bool u, .int .u64 yi, .int .u64 yo, .int .i64 c] 37)) w' := by
  have := look_any w.heap.size 2 [⟨v, hi, lo, b⟩, ⟨u, yi, yo, c⟩] (w.alloc (.cells #[.bool v, .int .u64 hi, .int .u64 lo, .int .i64 b, .bool u, .int .u64 yi, .int .u64 yo, .int .i64 c] 37)) (by simp) (by
      intro p hp
      simp at hp
      rcases hp with rfl | rfl
      · exact ⟨i0, i1, l0, l1⟩
      · exact ⟨j0, j1, m0, m1⟩) (by simp) (by
    intro j hj
    have : j = 0 ∨ j = 1 := by simp at hj; omega
    rcases this with rfl | rfl
    · simp [go_sem]
    · simp [go_sem])
  have e : lookR [⟨v, hi, lo, b⟩, ⟨u, yi, yo, c⟩] = two (pchk v hi lo b) (pchk u yi yo c) := by
    simp only [lookR, Pf.chk, two]
    by_cases h : pchk v hi lo b = 0
    · by_cases h' : pchk u yi yo c = 0
      · simp [h, h']
      · simp [h, h']
    · simp [h]
  rw [e] at this
  exact this

theorem pchk_rng {v : Bool} {hi lo b : Int} (c0 : pchk v hi lo b = 0) : 0 ≤ b ∧ b ≤ wid v := by
  rcases pchk_cases v hi lo b with ⟨_, _, b0, b1, _, _⟩ | c | c
  · exact ⟨b0, b1⟩
  · omega
  · omega
theorem two_ok {x y : Int} (h : two x y = 0) : x = 0 ∧ y = 0 := by
  unfold two at h
  split at h
  · rename_i e; exact ⟨e, h⟩
  · rename_i e; exact absurd h e

set_option maxHeartbeats 8000000 in
set_option maxRecDepth 100000 in
theorem ends_ok (v : Bool) (hi lo b : Int) (w : World) (i0 : 0 ≤ hi) (i1 : hi < 18446744073709551616) (i2 : 0 ≤ lo) (i3 : lo < 18446744073709551616) (c0 : pchk v hi lo b = 0) :
    Calls Tryz.prog 17 #[.agg #[.bool v, .int .u64 hi, .int .u64 lo, .int .i64 b]] w fun e w' => e = .returned (.tuple #[.agg #[.bool v, .int .u64 hi, .int .u64 lo], .agg #[.bool v, .int .u64 (laH v hi b), .int .u64 (laL v lo b)], .int .i64 0]) ∧ Below w.heap.size w w' := by
  obtain ⟨b0, b1⟩ := pchk_rng c0
  have hL : Hid (∀ (g c : Nat) (w : World), Has4 w g v hi lo b → Calls Tryz.prog 25 #[.slice (some ⟨g, 0, none⟩) 1 c] w fun e w' => e = .returned (.int .i64 0) ∧ Below w.heap.size w w') := by
    intro g c w h
    have := look1 v hi lo b g c w i0 i1 i2 i3 h
    rw [c0] at this; exact this
  have hA : Hid (∀ w : World, Calls Tryz.prog 33 #[.agg #[.bool v, .int .u64 hi, .int .u64 lo, .int .i64 b]] w fun e w' => e = .returned (.agg #[.bool v, .int .u64 (laH v hi b), .int .u64 (laL v lo b)]) ∧ ∃ o1 o2 o3 o4, w' = ((((w.alloc o1).alloc o2).alloc o3).alloc o4).drew) :=
    fun w => last_pf v hi lo b w b0 b1 i0 i1 i2 i3
  clear c0 b0 b1
  generalize laH v hi b = r1 at *
  generalize laL v lo b = r2 at *
  go_enter Tryz.func17, Tryz.ntmps17
  go_wp2_with fail
  have hs1 : (w.alloc (.cells #[.bool v, .int .u64 hi, .int .u64 lo, .int .i64 b] 37)).heap.size = w.heap.size + 1 := by simp
  have hs2 : ((w.alloc (.cells #[.bool v, .int .u64 hi, .int .u64 lo, .int .i64 b] 37)).alloc (.cells #[.bool false, .int .u64 0, .int .u64 0] 25)).heap.size = w.heap.size + 1 + 1 := by simp
  have hs3 : (((w.alloc (.cells #[.bool v, .int .u64 hi, .int .u64 lo, .int .i64 b] 37)).alloc (.cells #[.bool false, .int .u64 0, .int .u64 0] 25)).alloc (.cells #[.bool false, .int .u64 0, .int .u64 0] 25)).heap.size = w.heap.size + 1 + 1 + 1 := by simp
  have B1 : Below w.heap.size w ((((w.alloc (.cells #[.bool v, .int .u64 hi, .int .u64 lo, .int .i64 b] 37)).alloc (.cells #[.bool false, .int .u64 0, .int .u64 0] 25)).alloc (.cells #[.bool false, .int .u64 0, .int .u64 0] 25)).alloc (.cells #[.bool v, .int .u64 hi, .int .u64 lo, .int .i64 b] 37)) := bal (bal (bal (bal (Below.refl _ _) _) _) _) _
  have P0 := (((Has4.new w v hi lo b 37).alloc (.cells #[.bool false, .int .u64 0, .int .u64 0] 25)).alloc (.cells #[.bool false, .int .u64 0, .int .u64 0] 25)).alloc (.cells #[.bool v, .int .u64 hi, .int .u64 lo, .int .i64 b] 37)
  have R0 := ((Own3.new (w.alloc (.cells #[.bool v, .int .u64 hi, .int .u64 lo, .int .i64 b] 37)) (.bool false) (.int .u64 0) (.int .u64 0) 25).alloc (.cells #[.bool false, .int .u64 0, .int .u64 0] 25)).alloc (.cells #[.bool v, .int .u64 hi, .int .u64 lo, .int .i64 b] 37)
  rw [hs1] at R0
  have R1 := (Own3.new ((w.alloc (.cells #[.bool v, .int .u64 hi, .int .u64 lo, .int .i64 b] 37)).alloc (.cells #[.bool false, .int .u64 0, .int .u64 0] 25)) (.bool false) (.int .u64 0) (.int .u64 0) 25).alloc (.cells #[.bool v, .int .u64 hi, .int .u64 lo, .int .i64 b] 37)
  rw [hs2] at R1
  have G1 := Has4.new (((w.alloc (.cells #[.bool v, .int .u64 hi, .int .u64 lo, .int .i64 b] 37)).alloc (.cells #[.bool false, .int .u64 0, .int .u64 0] 25)).alloc (.cells #[.bool false, .int .u64 0, .int .u64 0] 25)) v hi lo b 37
  rw [hs3] at G1
  refine (hL.out _ _ _ G1).mono ?_
  clear G1
  generalize (((w.alloc (.cells #[.bool v, .int .u64 hi, .int .u64 lo, .int .i64 b] 37)).alloc (.cells #[.bool false, .int .u64 0, .int .u64 0] 25)).alloc (.cells #[.bool false, .int .u64 0, .int .u64 0] 25)).alloc (.cells #[.bool v, .int .u64 hi, .int .u64 lo, .int .i64 b] 37) = W at B1 P0 R0 R1 ⊢
  clear hs1 hs2 hs3 hL
  rintro e w2 ⟨rfl, hb⟩
  replace P0 := P0.below hb
  replace R0 := R0.below hb
  replace R1 := R1.below hb
  replace B1 := btr B1 hb
  clear hb
  obtain ⟨p0, p1, p2, p3, p4⟩ := P0
  have HP : Hid (Has4 w2.drew w.heap.size v hi lo b) := ⟨p0, p1, p2, p3, p4⟩
  have HR1 : Hid (Own3 w2.drew (w.heap.size + 1) (.bool false) (.int .u64 0) (.int .u64 0)) := R0
  have HR2 : Hid (Own3 w2.drew (w.heap.size + 1 + 1) (.bool false) (.int .u64 0) (.int .u64 0)) := R1
  have HB : Hid (Below w.heap.size w w2.drew) := B1.drew
  clear B1 R0 R1
  go_wp2_with fail
  go_region_with (go_at_call 33; refine (hA.out _).mono ?_; rintro e w3 ⟨rfl, ho⟩; have hb3 := below4 ho; clear ho; obtain ⟨p0, p1, p2, p3, p4⟩ := HP.out.below hb3; obtain ⟨⟨r0, r1', r2'⟩, ⟨r3, r4, r5⟩, r6⟩ := HR1.out.below hb3; obtain ⟨⟨q0, q1, q2⟩, ⟨q3, q4, q5⟩, q6⟩ := HR2.out.below hb3; have HB3 : Hid (Below w.heap.size w w3) := btr HB.out hb3; clear hb3)
  all_goals
    go_wp2
    refine bodyPost_ret (v := .tuple #[.agg #[.bool v, .int .u64 hi, .int .u64 lo], .agg #[.bool v, .int .u64 r1, .int .u64 r2], .int .i64 0]) ?_ rfl ⟨rfl, ?_⟩
    · simp [results, Tryz.results17, go_sem, r0, r1', r2', q0, q1, q2]
    · exact bse (bse (bse (bse (bse (bse HB3.out (by first | (simp; done) | (simp; omega)) _) (by first | (simp; done) | (simp; omega)) _) (by first | (simp; done) | (simp; omega)) _) (by first | (simp; done) | (simp; omega)) _) (by first | (simp; done) | (simp; omega)) _) (by first | (simp; done) | (simp; omega)) _

set_option maxHeartbeats 8000000 in
set_option maxRecDepth 100000 in
theorem ends_bad (v : Bool) (hi lo b : Int) (k : Int) (w : World) (i0 : 0 ≤ hi) (i1 : hi < 18446744073709551616) (i2 : 0 ≤ lo) (i3 : lo < 18446744073709551616) (c0 : pchk v hi lo b = k) (hk : (k != 0) = true) :
    Calls Tryz.prog 17 #[.agg #[.bool v, .int .u64 hi, .int .u64 lo, .int .i64 b]] w fun e w' => e = .returned (.tuple #[.agg #[.bool false, .int .u64 0, .int .u64 0], .agg #[.bool false, .int .u64 0, .int .u64 0], .int .i64 k]) ∧ Below w.heap.size w w' := by
  have hL : Hid (∀ (g c : Nat) (w : World), Has4 w g v hi lo b → Calls Tryz.prog 25 #[.slice (some ⟨g, 0, none⟩) 1 c] w fun e w' => e = .returned (.int .i64 k) ∧ Below w.heap.size w w') := by
    intro g c w h
    have := look1 v hi lo b g c w i0 i1 i2 i3 h
    rw [c0] at this; exact this
  clear c0
  go_enter Tryz.func17, Tryz.ntmps17
  go_wp2_with fail
  have hs1 : (w.alloc (.cells #[.bool v, .int .u64 hi, .int .u64 lo, .int .i64 b] 37)).heap.size = w.heap.size + 1 := by simp
  have hs2 : ((w.alloc (.cells #[.bool v, .int .u64 hi, .int .u64 lo, .int .i64 b] 37)).alloc (.cells #[.bool false, .int .u64 0, .int .u64 0] 25)).heap.size = w.heap.size + 1 + 1 := by simp
  have hs3 : (((w.alloc (.cells #[.bool v, .int .u64 hi, .int .u64 lo, .int .i64 b] 37)).alloc (.cells #[.bool false, .int .u64 0, .int .u64 0] 25)).alloc (.cells #[.bool false, .int .u64 0, .int .u64 0] 25)).heap.size = w.heap.size + 1 + 1 + 1 := by simp
  have B1 : Below w.heap.size w ((((w.alloc (.cells #[.bool v, .int .u64 hi, .int .u64 lo, .int .i64 b] 37)).alloc (.cells #[.bool false, .int .u64 0, .int .u64 0] 25)).alloc (.cells #[.bool false, .int .u64 0, .int .u64 0] 25)).alloc (.cells #[.bool v, .int .u64 hi, .int .u64 lo, .int .i64 b] 37)) := bal (bal (bal (bal (Below.refl _ _) _) _) _) _
  have P0 := (((Has4.new w v hi lo b 37).alloc (.cells #[.bool false, .int .u64 0, .int .u64 0] 25)).alloc (.cells #[.bool false, .int .u64 0, .int .u64 0] 25)).alloc (.cells #[.bool v, .int .u64 hi, .int .u64 lo, .int .i64 b] 37)
  have R0 := ((Own3.new (w.alloc (.cells #[.bool v, .int .u64 hi, .int .u64 lo, .int .i64 b] 37)) (.bool false) (.int .u64 0) (.int .u64 0) 25).alloc (.cells #[.bool false, .int .u64 0, .int .u64 0] 25)).alloc (.cells #[.bool v, .int .u64 hi, .int .u64 lo, .int .i64 b] 37)
  rw [hs1] at R0
  have R1 := (Own3.new ((w.alloc (.cells #[.bool v, .int .u64 hi, .int .u64 lo, .int .i64 b] 37)).alloc (.cells #[.bool false, .int .u64 0, .int .u64 0] 25)) (.bool false) (.int .u64 0) (.int .u64 0) 25).alloc (.cells #[.bool v, .int .u64 hi, .int .u64 lo, .int .i64 b] 37)
  rw [hs2] at R1
  have G1 := Has4.new (((w.alloc (.cells #[.bool v, .int .u64 hi, .int .u64 lo, .int .i64 b] 37)).alloc (.cells #[.bool false, .int .u64 0, .int .u64 0] 25)).alloc (.cells #[.bool false, .int .u64 0, .int .u64 0] 25)) v hi lo b 37
  rw [hs3] at G1
  refine (hL.out _ _ _ G1).mono ?_
  clear G1
  generalize (((w.alloc (.cells #[.bool v, .int .u64 hi, .int .u64 lo, .int .i64 b] 37)).alloc (.cells #[.bool false, .int .u64 0, .int .u64 0] 25)).alloc (.cells #[.bool false, .int .u64 0, .int .u64 0] 25)).alloc (.cells #[.bool v, .int .u64 hi, .int .u64 lo, .int .i64 b] 37) = W at B1 P0 R0 R1 ⊢
  clear hs1 hs2 hs3 hL
  rintro e w2 ⟨rfl, hb⟩
  replace P0 := P0.below hb
  replace R0 := R0.below hb
  replace R1 := R1.below hb
  replace B1 := btr B1 hb
  clear hb
  obtain ⟨⟨r00, r01, r02⟩, ⟨r03, r04, r05⟩, r06⟩ := R0
  obtain ⟨⟨r10, r11, r12⟩, ⟨r13, r14, r15⟩, r16⟩ := R1
  have HB : Hid (Below w.heap.size w w2) := B1
  clear B1
  go_wp2
  refine bodyPost_ret (v := .tuple #[.agg #[.bool false, .int .u64 0, .int .u64 0], .agg #[.bool false, .int .u64 0, .int .u64 0], .int .i64 k]) ?_ rfl ⟨rfl, ?_⟩
  · simp [results, Tryz.results17, go_sem, r00, r01, r02, r10, r11, r12]
  · exact bse (bse (bse (bse (bse (bse (HB.out) (by first | (simp; done) | (simp; omega)) _) (by first | (simp; done) | (simp; omega)) _) (by first | (simp; done) | (simp; omega)) _) (by first | (simp; done) | (simp; omega)) _) (by first | (simp; done) | (simp; omega)) _) (by first | (simp; done) | (simp; omega)) _

set_option maxHeartbeats 8000000 in
set_option maxRecDepth 100000 in
theorem has_bad (v : Bool) (hi lo b : Int) (u : Bool) (yi yo c : Int) (k : Int) (w : World) (i0 : 0 ≤ hi) (i1 : hi < 18446744073709551616) (i2 : 0 ≤ lo) (i3 : lo < 18446744073709551616) (j0 : 0 ≤ yi) (j1 : yi < 18446744073709551616) (j2 : 0 ≤ yo) (j3 : yo < 18446744073709551616) (c0 : two (pchk v hi lo b) (pchk u yi yo c) = k) (hk : (k != 0) = true) :
    Calls Tryz.prog 10 #[.agg #[.bool v, .int .u64 hi, .int .u64 lo, .int .i64 b], .agg #[.bool u, .int .u64 yi, .int .u64 yo, .int .i64 c]] w fun e w' => e = .returned (.tuple #[.bool false, .int .i64 k]) ∧ Below w.heap.size w w' := by
  have hL : Hid (∀ w : World, Calls Tryz.prog 25 #[.slice (some ⟨w.heap.size, 0, none⟩) 2 2] (w.alloc (.cells #[.bool v, .int .u64 hi, .int .u64 lo, .int .i64 b, .bool u, .int .u64 yi, .int .u64 yo, .int .i64 c] 37)) fun e w' => e = .returned (.int .i64 k) ∧ Below (w.alloc (.cells #[.bool v, .int .u64 hi, .int .u64 lo, .int .i64 b, .bool u, .int .u64 yi, .int .u64 yo, .int .i64 c] 37)).heap.size (w.alloc (.cells #[.bool v, .int .u64 hi, .int .u64 lo, .int .i64 b, .bool u, .int .u64 yi, .int .u64 yo, .int .i64 c] 37)) w') := by
    intro w
    have := look2 v hi lo b u yi yo c w i0 i1 i2 i3 j0 j1 j2 j3
    rw [c0] at this; exact this
  clear c0
  go_enter Tryz.func10, Tryz.ntmps10
  go_wp2_with fail
  have hs1 : (w.alloc (.cells #[.bool v, .int .u64 hi, .int .u64 lo, .int .i64 b] 37)).heap.size = w.heap.size + 1 := by simp
  have hs2 : ((w.alloc (.cells #[.bool v, .int .u64 hi, .int .u64 lo, .int .i64 b] 37)).alloc (.cells #[.bool u, .int .u64 yi, .int .u64 yo, .int .i64 c] 37)).heap.size = w.heap.size + 1 + 1 := by simp
  have B1 : Below w.heap.size w (((w.alloc (.cells #[.bool v, .int .u64 hi, .int .u64 lo, .int .i64 b] 37)).alloc (.cells #[.bool u, .int .u64 yi, .int .u64 yo, .int .i64 c] 37)).alloc (.cells #[.bool v, .int .u64 hi, .int .u64 lo, .int .i64 b, .bool u, .int .u64 yi, .int .u64 yo, .int .i64 c] 37)) := bal (bal (bal (Below.refl _ _) _) _) _
  have P0 := ((Has4.new w v hi lo b 37).alloc (.cells #[.bool u, .int .u64 yi, .int .u64 yo, .int .i64 c] 37)).alloc (.cells #[.bool v, .int .u64 hi, .int .u64 lo, .int .i64 b, .bool u, .int .u64 yi, .int .u64 yo, .int .i64 c] 37)
  have P1 := (Has4.new (w.alloc (.cells #[.bool v, .int .u64 hi, .int .u64 lo, .int .i64 b] 37)) u yi yo c 37).alloc (.cells #[.bool v, .int .u64 hi, .int .u64 lo, .int .i64 b, .bool u, .int .u64 yi, .int .u64 yo, .int .i64 c] 37)
  rw [hs1] at P1
  have G1 := hL.out ((w.alloc (.cells #[.bool v, .int .u64 hi, .int .u64 lo, .int .i64 b] 37)).alloc (.cells #[.bool u, .int .u64 yi, .int .u64 yo, .int .i64 c] 37))
  rw [hs2] at G1
  refine G1.mono ?_
  clear G1
  generalize ((w.alloc (.cells #[.bool v, .int .u64 hi, .int .u64 lo, .int .i64 b] 37)).alloc (.cells #[.bool u, .int .u64 yi, .int .u64 yo, .int .i64 c] 37)).alloc (.cells #[.bool v, .int .u64 hi, .int .u64 lo, .int .i64 b, .bool u, .int .u64 yi, .int .u64 yo, .int .i64 c] 37) = W at B1 P0 P1 ⊢
  clear hs1 hs2 hL
  rintro e w2 ⟨rfl, hb⟩
  replace P0 := P0.below hb
  replace P1 := P1.below hb
  replace B1 := btr B1 hb
  clear hb
  have HB : Hid (Below w.heap.size w w2) := B1
  clear B1
  go_wp2
  refine bodyPost_ret (v := .tuple #[.bool false, .int .i64 k]) ?_ rfl ⟨rfl, ?_⟩
  · simp [results, Tryz.results10, go_sem]
  · exact HB.out

set_option maxHeartbeats 8000000 in
set_option maxRecDepth 100000 in
theorem halves_bad (v : Bool) (hi lo b : Int) (k : Int) (w : World) (i0 : 0 ≤ hi) (i1 : hi < 18446744073709551616) (i2 : 0 ≤ lo) (i3 : lo < 18446744073709551616) (c0 : pchk v hi lo b = k) (hk : (k != 0) = true) :
    Calls Tryz.prog 18 #[.agg #[.bool v, .int .u64 hi, .int .u64 lo, .int .i64 b]] w fun e w' => e = .returned (.tuple #[.agg #[.bool false, .int .u64 0, .int .u64 0, .int .i64 0], .agg #[.bool false, .int .u64 0, .int .u64 0, .int .i64 0], .int .i64 k]) ∧ Below w.heap.size w w' := by
  have hL : Hid (∀ (g c : Nat) (w : World), Has4 w g v hi lo b → Calls Tryz.prog 25 #[.slice (some ⟨g, 0, none⟩) 1 c] w fun e w' => e = .returned (.int .i64 k) ∧ Below w.heap.size w w') := by
    intro g c w h
    have := look1 v hi lo b g c w i0 i1 i2 i3 h
    rw [c0] at this; exact this
  clear c0
  go_enter Tryz.func18, Tryz.ntmps18
  go_wp2_with fail
  have hs1 : (w.alloc (.cells #[.bool v, .int .u64 hi, .int .u64 lo, .int .i64 b] 37)).heap.size = w.heap.size + 1 := by simp
  have hs2 : ((w.alloc (.cells #[.bool v, .int .u64 hi, .int .u64 lo, .int .i64 b] 37)).alloc (.cells #[.bool false, .int .u64 0, .int .u64 0, .int .i64 0] 37)).heap.size = w.heap.size + 1 + 1 := by simp
  have hs3 : (((w.alloc (.cells #[.bool v, .int .u64 hi, .int .u64 lo, .int .i64 b] 37)).alloc (.cells #[.bool false, .int .u64 0, .int .u64 0, .int .i64 0] 37)).alloc (.cells #[.bool false, .int .u64 0, .int .u64 0, .int .i64 0] 37)).heap.size = w.heap.size + 1 + 1 + 1 := by simp
  have B1 : Below w.heap.size w ((((w.alloc (.cells #[.bool v, .int .u64 hi, .int .u64 lo, .int .i64 b] 37)).alloc (.cells #[.bool false, .int .u64 0, .int .u64 0, .int .i64 0] 37)).alloc (.cells #[.bool false, .int .u64 0, .int .u64 0, .int .i64 0] 37)).alloc (.cells #[.bool v, .int .u64 hi, .int .u64 lo, .int .i64 b] 37)) := bal (bal (bal (bal (Below.refl _ _) _) _) _) _
  have P0 := (((Has4.new w v hi lo b 37).alloc (.cells #[.bool false, .int .u64 0, .int .u64 0, .int .i64 0] 37)).alloc (.cells #[.bool false, .int .u64 0, .int .u64 0, .int .i64 0] 37)).alloc (.cells #[.bool v, .int .u64 hi, .int .u64 lo, .int .i64 b] 37)
  have R0 := ((Own4.new (w.alloc (.cells #[.bool v, .int .u64 hi, .int .u64 lo, .int .i64 b] 37)) (.bool false) (.int .u64 0) (.int .u64 0) (.int .i64 0) 37).alloc (.cells #[.bool false, .int .u64 0, .int .u64 0, .int .i64 0] 37)).alloc (.cells #[.bool v, .int .u64 hi, .int .u64 lo, .int .i64 b] 37)
  rw [hs1] at R0
  have R1 := (Own4.new ((w.alloc (.cells #[.bool v, .int .u64 hi, .int .u64 lo, .int .i64 b] 37)).alloc (.cells #[.bool false, .int .u64 0, .int .u64 0, .int .i64 0] 37)) (.bool false) (.int .u64 0) (.int .u64 0) (.int .i64 0) 37).alloc (.cells #[.bool v, .int .u64 hi, .int .u64 lo, .int .i64 b] 37)
  rw [hs2] at R1
  have G1 := Has4.new (((w.alloc (.cells #[.bool v, .int .u64 hi, .int .u64 lo, .int .i64 b] 37)).alloc (.cells #[.bool false, .int .u64 0, .int .u64 0, .int .i64 0] 37)).alloc (.cells #[.bool false, .int .u64 0, .int .u64 0, .int .i64 0] 37)) v hi lo b 37
  rw [hs3] at G1
  refine (hL.out _ _ _ G1).mono ?_
  clear G1
  generalize (((w.alloc (.cells #[.bool v, .int .u64 hi, .int .u64 lo, .int .i64 b] 37)).alloc (.cells #[.bool false, .int .u64 0, .int .u64 0, .int .i64 0] 37)).alloc (.cells #[.bool false, .int .u64 0, .int .u64 0, .int .i64 0] 37)).alloc (.cells #[.bool v, .int .u64 hi, .int .u64 lo, .int .i64 b] 37) = W at B1 P0 R0 R1 ⊢
  clear hs1 hs2 hs3 hL
  rintro e w2 ⟨rfl, hb⟩
  replace P0 := P0.below hb
  replace R0 := R0.below hb
  replace R1 := R1.below hb
  replace B1 := btr B1 hb
  clear hb
  obtain ⟨⟨r00, r01, r02, r0a⟩, ⟨r03, r04, r05, r0b⟩, r06⟩ := R0
  obtain ⟨⟨r10, r11, r12, r1a⟩, ⟨r13, r14, r15, r1b⟩, r16⟩ := R1
  have HB : Hid (Below w.heap.size w w2) := B1
  clear B1
  go_wp2
  refine bodyPost_ret (v := .tuple #[.agg #[.bool false, .int .u64 0, .int .u64 0, .int .i64 0], .agg #[.bool false, .int .u64 0, .int .u64 0, .int .i64 0], .int .i64 k]) ?_ rfl ⟨rfl, ?_⟩
  · simp [results, Tryz.results18, go_sem, r00, r01, r02, r0a, r10, r11, r12, r1a]
  · exact bse (bse (bse (bse (bse (bse (bse (bse (HB.out) (by first | (simp; done) | (simp; omega)) _) (by first | (simp; done) | (simp; omega)) _) (by first | (simp; done) | (simp; omega)) _) (by first | (simp; done) | (simp; omega)) _) (by first | (simp; done) | (simp; omega)) _) (by first | (simp; done) | (simp; omega)) _) (by first | (simp; done) | (simp; omega)) _) (by first | (simp; done) | (simp; omega)) _

set_option maxHeartbeats 8000000 in
set_option maxRecDepth 100000 in
theorem whole_bad (v : Bool) (hi lo b : Int) (u : Bool) (yi yo c : Int) (k : Int) (w : World) (i0 : 0 ≤ hi) (i1 : hi < 18446744073709551616) (i2 : 0 ≤ lo) (i3 : lo < 18446744073709551616) (j0 : 0 ≤ yi) (j1 : yi < 18446744073709551616) (j2 : 0 ≤ yo) (j3 : yo < 18446744073709551616) (c0 : two (pchk v hi lo b) (pchk u yi yo c) = k) (hk : (k != 0) = true) :
    Calls Tryz.prog 19 #[.agg #[.bool v, .int .u64 hi, .int .u64 lo, .int .i64 b], .agg #[.bool u, .int .u64 yi, .int .u64 yo, .int .i64 c]] w fun e w' => e = .returned (.tuple #[.agg #[.bool false, .int .u64 0, .int .u64 0, .int .i64 0], .int .i64 k]) ∧ Below w.heap.size w w' := by
  have hL : Hid (∀ w : World, Calls Tryz.prog 25 #[.slice (some ⟨w.heap.size, 0, none⟩) 2 2] (w.alloc (.cells #[.bool v, .int .u64 hi, .int .u64 lo, .int .i64 b, .bool u, .int .u64 yi, .int .u64 yo, .int .i64 c] 37)) fun e w' => e = .returned (.int .i64 k) ∧ Below (w.alloc (.cells #[.bool v, .int .u64 hi, .int .u64 lo, .int .i64 b, .bool u, .int .u64 yi, .int .u64 yo, .int .i64 c] 37)).heap.size (w.alloc (.cells #[.bool v, .int .u64 hi, .int .u64 lo, .int .i64 b, .bool u, .int .u64 yi, .int .u64 yo, .int .i64 c] 37)) w') := by
    intro w
    have := look2 v hi lo b u yi yo c w i0 i1 i2 i3 j0 j1 j2 j3
    rw [c0] at this; exact this
  clear c0
  go_enter Tryz.func19, Tryz.ntmps19
  go_wp2_with fail
  have hs1 : (w.alloc (.cells #[.bool v, .int .u64 hi, .int .u64 lo, .int .i64 b] 37)).heap.size = w.heap.size + 1 := by simp
  have hs2 : ((w.alloc (.cells #[.bool v, .int .u64 hi, .int .u64 lo, .int .i64 b] 37)).alloc (.cells #[.bool u, .int .u64 yi, .int .u64 yo, .int .i64 c] 37)).heap.size = w.heap.size + 1 + 1 := by simp
  have hs3 : (((w.alloc (.cells #[.bool v, .int .u64 hi, .int .u64 lo, .int .i64 b] 37)).alloc (.cells #[.bool u, .int .u64 yi, .int .u64 yo, .int .i64 c] 37)).alloc (.cells #[.bool false, .int .u64 0, .int .u64 0, .int .i64 0] 37)).heap.size = w.heap.size + 1 + 1 + 1 := by simp
  have B1 : Below w.heap.size w ((((w.alloc (.cells #[.bool v, .int .u64 hi, .int .u64 lo, .int .i64 b] 37)).alloc (.cells #[.bool u, .int .u64 yi, .int .u64 yo, .int .i64 c] 37)).alloc (.cells #[.bool false, .int .u64 0, .int .u64 0, .int .i64 0] 37)).alloc (.cells #[.bool v, .int .u64 hi, .int .u64 lo, .int .i64 b, .bool u, .int .u64 yi, .int .u64 yo, .int .i64 c] 37)) := bal (bal (bal (bal (Below.refl _ _) _) _) _) _
  have P0 := (((Has4.new w v hi lo b 37).alloc (.cells #[.bool u, .int .u64 yi, .int .u64 yo, .int .i64 c] 37)).alloc (.cells #[.bool false, .int .u64 0, .int .u64 0, .int .i64 0] 37)).alloc (.cells #[.bool v, .int .u64 hi, .int .u64 lo, .int .i64 b, .bool u, .int .u64 yi, .int .u64 yo, .int .i64 c] 37)
  have P1 := ((Has4.new (w.alloc (.cells #[.bool v, .int .u64 hi, .int .u64 lo, .int .i64 b] 37)) u yi yo c 37).alloc (.cells #[.bool false, .int .u64 0, .int .u64 0, .int .i64 0] 37)).alloc (.cells #[.bool v, .int .u64 hi, .int .u64 lo, .int .i64 b, .bool u, .int .u64 yi, .int .u64 yo, .int .i64 c] 37)
  rw [hs1] at P1
  have R0 := (Own4.new ((w.alloc (.cells #[.bool v, .int .u64 hi, .int .u64 lo, .int .i64 b] 37)).alloc (.cells #[.bool u, .int .u64 yi, .int .u64 yo, .int .i64 c] 37)) (.bool false) (.int .u64 0) (.int .u64 0) (.int .i64 0) 37).alloc (.cells #[.bool v, .int .u64 hi, .int .u64 lo, .int .i64 b, .bool u, .int .u64 yi, .int .u64 yo, .int .i64 c] 37)
  rw [hs2] at R0
  have G1 := hL.out (((w.alloc (.cells #[.bool v, .int .u64 hi, .int .u64 lo, .int .i64 b] 37)).alloc (.cells #[.bool u, .int .u64 yi, .int .u64 yo, .int .i64 c] 37)).alloc (.cells #[.bool false, .int .u64 0, .int .u64 0, .int .i64 0] 37))
  rw [hs3] at G1
  refine G1.mono ?_
  clear G1
  generalize (((w.alloc (.cells #[.bool v, .int .u64 hi, .int .u64 lo, .int .i64 b] 37)).alloc (.cells #[.bool u, .int .u64 yi, .int .u64 yo, .int .i64 c] 37)).alloc (.cells #[.bool false, .int .u64 0, .int .u64 0, .int .i64 0] 37)).alloc (.cells #[.bool v, .int .u64 hi, .int .u64 lo, .int .i64 b, .bool u, .int .u64 yi, .int .u64 yo, .int .i64 c] 37) = W at B1 P0 P1 R0 ⊢
  clear hs1 hs2 hs3 hL
  rintro e w2 ⟨rfl, hb⟩
  replace P0 := P0.below hb
  replace P1 := P1.below hb
  replace R0 := R0.below hb
  replace B1 := btr B1 hb
  clear hb
  obtain ⟨⟨r00, r01, r02, r0a⟩, ⟨r03, r04, r05, r0b⟩, r06⟩ := R0
  have HB : Hid (Below w.heap.size w w2) := B1
  clear B1
  go_wp2
  refine bodyPost_ret (v := .tuple #[.agg #[.bool false, .int .u64 0, .int .u64 0, .int .i64 0], .int .i64 k]) ?_ rfl ⟨rfl, ?_⟩
  · simp [results, Tryz.results19, go_sem, r00, r01, r02, r0a]
  · exact bse (bse (bse (bse (HB.out) (by first | (simp; done) | (simp; omega)) _) (by first | (simp; done) | (simp; omega)) _) (by first | (simp; done) | (simp; omega)) _) (by first | (simp; done) | (simp; omega)) _

end Go.Proofs.YtghbonlignmdoaaGreatDoor
