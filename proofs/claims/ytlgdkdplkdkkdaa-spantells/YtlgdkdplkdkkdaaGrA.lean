/- order.Compare and what it calls, with the world behind it: nothing but draws and new blocks. -/
import Derived.Test.YtlgdkdplkdkkdaaTbP
import Derived.Shelf.SlSortCmp.WholeK
set_option linter.unusedVariables false
set_option linter.unusedSimpArgs false
namespace Go.Proofs.Ytlgdkdplkdkkdaa
open Go.RowKit Go.Shelf
open Go.Sort (grow grow_empty grow_grow alloc_eq_grow)

/-- Draws and new blocks alone. -/
def Grw (w w' : World) : Prop := ∃ q os, w' = grow (w.drewN q) os
theorem Grw.refl (w : World) : Grw w w := ⟨0, #[], by rw [grow_empty]; rfl⟩
theorem grow_drewN (w : World) (os : Array Obj) (q : Nat) : (grow w os).drewN q = grow (w.drewN q) os := rfl
theorem gtr {w w' w'' : World} (h : Grw w w') (h' : Grw w' w'') : Grw w w'' := by
  obtain ⟨q, os, rfl⟩ := h
  obtain ⟨q', os', rfl⟩ := h'
  refine ⟨q + q', os ++ os', ?_⟩
  rw [grow_drewN, grow_grow]
  simp only [World.drewN, Nat.add_assoc]
theorem gal {w w' : World} (h : Grw w w') (o : Obj) : Grw w (w'.alloc o) := gtr h ⟨0, #[o], by rw [alloc_eq_grow]; rfl⟩
theorem Grw.drew {w w' : World} (h : Grw w w') : Grw w w'.drew := gtr h ⟨1, #[], by rw [grow_empty]; rfl⟩
theorem Grw.below {w w' : World} (h : Grw w w') : Below w.heap.size w w' := by
  obtain ⟨q, os, rfl⟩ := h
  exact ⟨rfl, rfl, rfl, by simp [grow, World.drewN], fun k hk => by simp [grow, World.drewN, Array.getElem?_append_left hk]⟩

theorem lit_gr (v u : Bool) (xh xl yh yl : Int) (w : World) :
    Calls Try.prog 67 #[.agg #[.bool v, .int .u64 xh, .int .u64 xl], .agg #[.bool u, .int .u64 yh, .int .u64 yl]] w fun e w' => e = .returned (.bool (lsB xh xl yh yl)) ∧ Grw w w' := by
  by_cases h : xh < yh
  · go_enter Try.func67, Try.ntmps67
    go_wp2
    go_ret
    exact ⟨by simp [lsB, h], gal (gal (Grw.refl _) _) _⟩
  · have hd : decide (xh < yh) = false := by simp; omega
    by_cases e : xh = yh
    · subst e
      have hq : (xh == xh) = true := by simp
      by_cases l : xl < yl
      all_goals
        go_enter Try.func67, Try.ntmps67
        go_wp2
        go_ret
        exact ⟨by simp [lsB, l], gal (gal (Grw.refl _) _) _⟩
    · have hq : (xh == yh) = false := by simp [e]
      go_enter Try.func67, Try.ntmps67
      go_wp2
      go_ret
      exact ⟨by simp [lsB, h, e], gal (gal (Grw.refl _) _) _⟩

theorem less_gr (v u : Bool) (xh xl yh yl : Int) (w : World) (h0 : 0 ≤ xh) (h1 : 0 ≤ xl) (h2 : 0 ≤ yh) (h3 : 0 ≤ yl) :
    Calls Try.prog 50 #[.agg #[.bool v, .int .u64 xh, .int .u64 xl], .agg #[.bool u, .int .u64 yh, .int .u64 yl]] w fun e w' =>
      e = .returned (.tuple #[.bool (lessB v xh xl u yh yl), .int .i64 (lessE v xh xl u yh yl)]) ∧ Grw w w' := by
  rcases chk_cases v xh xl with ⟨c1, _⟩ | c1
  · rcases chk_cases u yh yl with ⟨c2, _⟩ | c2
    · have hE : lessE v xh xl u yh yl = 0 := by simp [lessE, c1, c2]
      have hB : lessB v xh xl u yh yl = if v = u then lsB xh xl yh yl else u := by simp [lessB, hE]
      have HE := hE; clear hE
      rw [HE, hB]; clear HE hB
      have C1 : Hid (chk v xh xl = 0) := c1
      have C2 : Hid (chk u yh yl = 0) := c2
      clear c1 c2
      by_cases hvu : v = u
      · subst hvu
        have hb : (v != v) = false := by simp
        go_enter Try.func50, Try.ntmps50
        go_wp2_with fail
        refine (check_any v xh xl _ h0 h1).mono ?_
        rintro e w' ⟨rfl, k1, rfl⟩
        rw [C1.out]
        go_wp2_with fail
        refine (check_any v yh yl _ h2 h3).mono ?_
        rintro e w' ⟨rfl, k2, rfl⟩
        rw [C2.out]
        go_wp2_with fail
        refine (lit_gr v v xh xl yh yl _).mono ?_
        rintro e w' ⟨rfl, hB⟩
        go_wp2_with fail
        go_ret2
        refine ⟨by simp, ?_⟩
        exact gtr (gal (gal (gal (gal (Grw.refl _) _) _) _) _) hB
      · have hb : (!(v == u)) = true := by simp [hvu]
        go_enter Try.func50, Try.ntmps50
        go_wp2_with fail
        refine (check_any v xh xl _ h0 h1).mono ?_
        rintro e w' ⟨rfl, k1, rfl⟩
        rw [C1.out]
        go_wp2_with fail
        refine (check_any u yh yl _ h2 h3).mono ?_
        rintro e w' ⟨rfl, k2, rfl⟩
        rw [C2.out]
        go_wp2_with fail
        go_ret2
        refine ⟨by simp [hvu], ?_⟩
        exact gal (gal (gal (gal (Grw.refl _) _) _) _) _
    · have hE : lessE v xh xl u yh yl = 3 := by simp [lessE, c1, c2]
      have hB : lessB v xh xl u yh yl = false := by simp [lessB, hE]
      rw [hE, hB]; clear hE hB
      have C1 : Hid (chk v xh xl = 0) := c1
      have C2 : Hid (chk u yh yl = 3) := c2
      clear c1 c2
      go_enter Try.func50, Try.ntmps50
      go_wp2_with fail
      refine (check_any v xh xl _ h0 h1).mono ?_
      rintro e w' ⟨rfl, k1, rfl⟩
      rw [C1.out]
      go_wp2_with fail
      refine (check_any u yh yl _ h2 h3).mono ?_
      rintro e w' ⟨rfl, k2, rfl⟩
      rw [C2.out]
      go_wp2_with fail
      go_ret2
      refine ⟨by simp, ?_⟩
      exact gal (gal (gal (gal (Grw.refl _) _) _) _) _
  · have hE : lessE v xh xl u yh yl = 3 := by simp [lessE, c1]
    have hB : lessB v xh xl u yh yl = false := by simp [lessB, hE]
    rw [hE, hB]; clear hE hB
    have C1 : Hid (chk v xh xl = 3) := c1
    clear c1
    go_enter Try.func50, Try.ntmps50
    go_wp2_with fail
    refine (check_any v xh xl _ h0 h1).mono ?_
    rintro e w' ⟨rfl, k1, rfl⟩
    rw [C1.out]
    go_wp2_with fail
    go_ret2
    refine ⟨by simp, ?_⟩
    exact gal (gal (gal (Grw.refl _) _) _) _

theorem oless_gr (v u : Bool) (xh xl yh yl : Int) (w : World) (h0 : 0 ≤ xh) (h1 : 0 ≤ xl) (h2 : 0 ≤ yh) (h3 : 0 ≤ yl) :
    Calls Try.prog 35 #[.agg #[.bool v, .int .u64 xh, .int .u64 xl], .agg #[.bool u, .int .u64 yh, .int .u64 yl]] w fun e w' =>
      e = .returned (.bool (lessB v xh xl u yh yl)) ∧ Grw w w' := by
  have hL : Hid (∀ w : World, Calls Try.prog 50 #[.agg #[.bool v, .int .u64 xh, .int .u64 xl], .agg #[.bool u, .int .u64 yh, .int .u64 yl]] w fun e w' =>
      e = .returned (.tuple #[.bool (lessB v xh xl u yh yl), .int .i64 (lessE v xh xl u yh yl)]) ∧ Grw w w') := fun w => less_gr v u xh xl yh yl w h0 h1 h2 h3
  generalize lessB v xh xl u yh yl = r at *
  generalize lessE v xh xl u yh yl = r' at *
  clear h0 h1 h2 h3
  go_enter Try.func35, Try.ntmps35
  go_wp2_with fail
  refine (hL.out _).mono ?_
  rintro e w2 ⟨rfl, hb⟩
  go_wp2
  go_ret
  exact ⟨rfl, gtr (gal (gal (Grw.refl _) _) _) hb⟩

theorem compare_gr (v : Bool) (hi lo b : Int) (u : Bool) (yi yo c : Int) (w : World) (h0 : 0 ≤ hi) (h1 : 0 ≤ lo) (h2 : 0 ≤ yi) (h3 : 0 ≤ yo) :
    Calls Try.prog 31 #[.agg #[.bool v, .int .u64 hi, .int .u64 lo, .int .i64 b], .agg #[.bool u, .int .u64 yi, .int .u64 yo, .int .i64 c]] w fun e w' =>
      e = .returned (.int .i64 (cmpP v hi lo b u yi yo c)) ∧ Grw w w' := by
  have hL : Hid (∀ w : World, Calls Try.prog 35 #[.agg #[.bool v, .int .u64 hi, .int .u64 lo], .agg #[.bool u, .int .u64 yi, .int .u64 yo]] w fun e w' =>
      e = .returned (.bool (lessB v hi lo u yi yo)) ∧ Grw w w') := fun w => oless_gr v u hi lo yi yo w h0 h1 h2 h3
  have hM : Hid (∀ w : World, Calls Try.prog 35 #[.agg #[.bool u, .int .u64 yi, .int .u64 yo], .agg #[.bool v, .int .u64 hi, .int .u64 lo]] w fun e w' =>
      e = .returned (.bool (lessB u yi yo v hi lo)) ∧ Grw w w') := fun w => oless_gr u v yi yo hi lo w h2 h3 h0 h1
  have hC : Hid (∀ w : World, Calls Try.prog 46 #[.int .i64 b, .int .i64 c] w fun e w' => e = .returned (.int .i64 (cmpN b c)) ∧ w' = w) := cmp_any b c
  have P0 := Has4.alloc (Has4.new w v hi lo b 27) (.cells #[.bool u, .int .u64 yi, .int .u64 yo, .int .i64 c] 27)
  have P1 := Has4.new (w.alloc (.cells #[.bool v, .int .u64 hi, .int .u64 lo, .int .i64 b] 27)) u yi yo c 27
  have B1 : Grw w ((w.alloc (.cells #[.bool v, .int .u64 hi, .int .u64 lo, .int .i64 b] 27)).alloc (.cells #[.bool u, .int .u64 yi, .int .u64 yo, .int .i64 c] 27)) := gal (gal (Grw.refl _) _) _
  rw [show (w.alloc (.cells #[.bool v, .int .u64 hi, .int .u64 lo, .int .i64 b] 27)).heap.size = w.heap.size + 1 by simp] at P1
  have HP : Hid (Has4 _ _ v hi lo b) := P0
  have HQ : Hid (Has4 _ _ u yi yo c) := P1
  have HB : Hid (Grw w _) := B1
  unfold cmpP
  generalize lessB v hi lo u yi yo = r1 at *
  generalize lessB u yi yo v hi lo = r2 at *
  generalize cmpN b c = r3 at *
  clear P0 P1 B1 h0 h1 h2 h3
  cases r1
  · cases r2
    all_goals
      go_enter Try.func31, Try.ntmps31
      go_wp2_with fail
      refine (hL.out _).mono ?_
      rintro e w2 ⟨rfl, hb⟩
      replace HP := Lib.hid (HP.out.below hb.below)
      replace HQ := Lib.hid (HQ.out.below hb.below)
      replace HB := Lib.hid (gtr HB.out hb)
      clear hb
      obtain ⟨p0, p1, p2, p3, p4⟩ := HP.out
      obtain ⟨q0, q1, q2, q3, q4⟩ := HQ.out
      go_wp2_with fail
      refine (hM.out _).mono ?_
      rintro e w3 ⟨rfl, hb⟩
      clear p0 p1 p2 p3 p4 q0 q1 q2 q3 q4
      obtain ⟨p0, p1, p2, p3, p4⟩ := HP.out.below hb.below
      obtain ⟨q0, q1, q2, q3, q4⟩ := HQ.out.below hb.below
      replace HB := Lib.hid (gtr HB.out hb)
      clear hb
      go_wp2_with (go_at_call 46; refine (hC.out _).mono ?_; rintro e w' ⟨rfl, rfl⟩)
      go_ret
      exact ⟨rfl, HB.out⟩
  · go_enter Try.func31, Try.ntmps31
    go_wp2_with fail
    refine (hL.out _).mono ?_
    rintro e w2 ⟨rfl, hb⟩
    replace HB := Lib.hid (gtr HB.out hb)
    clear hb
    go_wp2
    go_ret
    exact ⟨rfl, HB.out⟩

end Go.Proofs.Ytlgdkdplkdkkdaa
