/- yardarmlaw.AddrOrder: whatever three addresses it is handed, it answers true. -/
import Derived.Test.YtflbcgpcgjnhgaaDoorOrdA
import Derived.Test.YtflbcgpcgjnhgaaDoorOrdB
import Derived.Test.YtflbcgpcgjnhgaaDoorOrdC
import Derived.Test.YtflbcgpcgjnhgaaDoorOrdD
namespace Go.Proofs.YtflbcgpcgjnhgaaDoor
open Go.RowKit

set_option maxHeartbeats 16000000 in
set_option maxRecDepth 100000 in
theorem order_err (va vb vc : Bool) (ah al bh bl ch cl : Int) (w : World) (hg : Good w)
    (h1 : Hid (∀ w : World, Calls Tryd.prog 9 #[.agg #[.bool va, .int .u64 ah, .int .u64 al], .agg #[.bool vb, .int .u64 bh, .int .u64 bl]] w fun e w' => e = .returned (.tuple #[.bool false, .int .i64 3]) ∧ Below w.heap.size w w'))
    (h2 : Hid (∀ w : World, Calls Tryd.prog 9 #[.agg #[.bool vb, .int .u64 bh, .int .u64 bl], .agg #[.bool va, .int .u64 ah, .int .u64 al]] w fun e w' => e = .returned (.tuple #[.bool false, .int .i64 3]) ∧ Below w.heap.size w w')) :
    Calls Tryd.prog 5 #[.agg #[.bool va, .int .u64 ah, .int .u64 al], .agg #[.bool vb, .int .u64 bh, .int .u64 bl], .agg #[.bool vc, .int .u64 ch, .int .u64 cl]] w fun e w' => e = .returned (.bool true) ∧ Below w.heap.size w w' := by
  have hB : Hid (∀ w : World, Good w → Calls Tryd.prog 14 #[] w fun e w' => e = .returned (.bool true) ∧ Below w.heap.size w w') := fun w => begun_any w
  have HG : Hid (Good w) := hg
  clear hg
  have B0 : Hid (Below w.heap.size w (((w.alloc (.cells #[.bool va, .int .u64 ah, .int .u64 al] 24)).alloc (.cells #[.bool vb, .int .u64 bh, .int .u64 bl] 24)).alloc (.cells #[.bool vc, .int .u64 ch, .int .u64 cl] 24))) := bal (bal (bal (Below.refl _ _) _) _) _
  have PA : Hid (Has3 (((w.alloc (.cells #[.bool va, .int .u64 ah, .int .u64 al] 24)).alloc (.cells #[.bool vb, .int .u64 bh, .int .u64 bl] 24)).alloc (.cells #[.bool vc, .int .u64 ch, .int .u64 cl] 24)) w.heap.size (.bool va) (.int .u64 ah) (.int .u64 al)) := ((Has3.new _ _ _ _ _).alloc _).alloc _
  have PB : Hid (Has3 (((w.alloc (.cells #[.bool va, .int .u64 ah, .int .u64 al] 24)).alloc (.cells #[.bool vb, .int .u64 bh, .int .u64 bl] 24)).alloc (.cells #[.bool vc, .int .u64 ch, .int .u64 cl] 24)) (w.heap.size + 1) (.bool vb) (.int .u64 bh) (.int .u64 bl)) := by
    have := (Has3.new (w.alloc (.cells #[.bool va, .int .u64 ah, .int .u64 al] 24)) (.bool vb) (.int .u64 bh) (.int .u64 bl) 24).alloc (.cells #[.bool vc, .int .u64 ch, .int .u64 cl] 24)
    simp at this
    exact this
  go_enter Tryd.func5, Tryd.ntmps5
  go_wp2_with fail
  refine (hB.out _ (HG.out.below B0.out)).mono ?_
  generalize ((w.alloc (.cells #[.bool va, .int .u64 ah, .int .u64 al] 24)).alloc (.cells #[.bool vb, .int .u64 bh, .int .u64 bl] 24)).alloc (.cells #[.bool vc, .int .u64 ch, .int .u64 cl] 24) = W0 at B0 PA PB ⊢
  clear hB HG
  rintro e w1 ⟨rfl, hb⟩
  have B1 : Hid (Below w.heap.size w w1) := btr B0.out hb
  replace PA := Hid.below3 PA hb
  replace PB := Hid.below3 PB hb
  clear hb B0
  obtain ⟨a0, a1, a2, a3⟩ := PA.out
  obtain ⟨b0, b1, b2, b3⟩ := PB.out
  go_wp2_with fail
  refine (h1.out _).mono ?_
  clear a0 a1 a2 a3 b0 b1 b2 b3
  rintro e w2 ⟨rfl, hb⟩
  have B2 : Hid (Below w.heap.size w w2) := btr B1.out hb
  replace PA := Hid.below3 PA hb
  replace PB := Hid.below3 PB hb
  clear hb B1
  obtain ⟨a0, a1, a2, a3⟩ := PA.out
  obtain ⟨b0, b1, b2, b3⟩ := PB.out
  go_wp2_with fail
  refine (h2.out _).mono ?_
  rintro e w3 ⟨rfl, hb⟩
  have B3 : Hid (Below w.heap.size w w3) := btr B2.out hb
  clear hb B2 a0 a1 a2 a3 b0 b1 b2 b3
  go_wp2
  go_ret
  exact ⟨rfl, B3.out⟩

/-- A word. -/
def Wd (x : Int) : Prop := 0 ≤ x ∧ x < 18446744073709551616
/-- An address as one number: those of four bytes ahead of those of sixteen. -/
def key (v : Bool) (h l : Int) : Int := (if v then 1361129467683753853853498429727072845824 else 0) + h * 18446744073709551616 + l

theorem less_key {v u : Bool} {xh xl yh yl : Int} (h1 : Wd xh) (h2 : Wd xl) (h3 : Wd yh) (h4 : Wd yl) (c1 : chk v xh xl = 0) (c2 : chk u yh yl = 0) :
    lessE v xh xl u yh yl = 0 ∧ lessB v xh xl u yh yl = decide (key v xh xl < key u yh yl) := by
  have hE : lessE v xh xl u yh yl = 0 := by simp [lessE, c1, c2]
  refine ⟨hE, ?_⟩
  obtain ⟨a1, a2⟩ := h1; obtain ⟨b1, b2⟩ := h2; obtain ⟨d1, d2⟩ := h3; obtain ⟨e1, e2⟩ := h4
  rw [Bool.eq_iff_iff]
  simp only [lessB, hE, if_true, decide_eq_true_eq]
  cases v <;> cases u <;> simp [key, lsB] <;> omega
theorem key_inj {v u : Bool} {xh xl yh yl : Int} (h1 : Wd xh) (h2 : Wd xl) (h3 : Wd yh) (h4 : Wd yl) (h : key v xh xl = key u yh yl) : v = u ∧ xh = yh ∧ xl = yl := by
  obtain ⟨a1, a2⟩ := h1; obtain ⟨b1, b2⟩ := h2; obtain ⟨d1, d2⟩ := h3; obtain ⟨e1, e2⟩ := h4
  cases v <;> cases u <;> simp [key] at h ⊢ <;> omega
theorem lessE_bad {v u : Bool} {xh xl yh yl : Int} (h : chk v xh xl = 3 ∨ chk u yh yl = 3) : lessE v xh xl u yh yl = 3 ∧ lessB v xh xl u yh yl = false := by
  have hE : lessE v xh xl u yh yl = 3 := by
    rcases chk_cases v xh xl with ⟨c1, _⟩ | c1
    · rcases h with h | h
      · omega
      · simp [lessE, c1, h]
    · simp [lessE, c1]
  exact ⟨hE, by simp [lessB, hE]⟩

theorem next_ok {v : Bool} {hi lo : Int} (h1 : Wd hi) (h2 : Wd lo) (c : chk v hi lo = 0) (hl : isLast v hi lo = false) :
    nxV v hi lo = v ∧ nxB v hi lo = true ∧ Wd (nxH v hi lo) ∧ Wd (nxL v hi lo) ∧ chk v (nxH v hi lo) (nxL v hi lo) = 0 ∧ key v (nxH v hi lo) (nxL v hi lo) = key v hi lo + 1 := by
  have e1 : nxV v hi lo = v := by simp [nxV, c, hl]
  have e2 : nxH v hi lo = hi + (lo + 1) / 18446744073709551616 := by simp [nxH, c, hl]
  have e3 : nxL v hi lo = (lo + 1) % 18446744073709551616 := by simp [nxL, c, hl]
  have e4 : nxB v hi lo = true := by simp [nxB, c, hl]
  obtain ⟨a1, a2⟩ := h1; obtain ⟨b1, b2⟩ := h2
  have hc : v = true ∨ (hi = 0 ∧ lo ≤ 4294967295) := by
    rcases chk_cases v hi lo with ⟨_, h⟩ | h
    · exact h
    · omega
  have hN := not_last a1 b1 a2 b2 hc hl
  rw [e1, e2, e3, e4]
  refine ⟨rfl, rfl, ⟨by omega, by omega⟩, ⟨by omega, by omega⟩, ?_, by unfold key; omega⟩
  cases v
  · simp at hc
    simp [isLast, eqA, mxH, mxL] at hl
    unfold chk
    rw [if_neg]
    simp
    omega
  · simp [chk]
theorem next_no {v : Bool} {hi lo : Int} (hl : isLast v hi lo = true) :
    nxV v hi lo = false ∧ nxB v hi lo = false ∧ nxH v hi lo = 0 ∧ nxL v hi lo = 0 := by
  refine ⟨by simp [nxV, hl], by simp [nxB, hl], by simp [nxH, hl], by simp [nxL, hl]⟩

theorem order_any (va vb vc : Bool) (ah al bh bl ch cl : Int) (w : World) (hg : Good w) (a1 : Wd ah) (a2 : Wd al) (b1 : Wd bh) (b2 : Wd bl) (c1 : Wd ch) (c2 : Wd cl) :
    Calls Tryd.prog 5 #[.agg #[.bool va, .int .u64 ah, .int .u64 al], .agg #[.bool vb, .int .u64 bh, .int .u64 bl], .agg #[.bool vc, .int .u64 ch, .int .u64 cl]] w fun e w' => e = .returned (.bool true) ∧ Below w.heap.size w w' := by
  have L : ∀ (v u : Bool) (xh xl yh yl : Int) (r : Bool) (k : Int), Wd xh → Wd xl → Wd yh → Wd yl → lessB v xh xl u yh yl = r → lessE v xh xl u yh yl = k →
      Hid (∀ w : World, Calls Tryd.prog 9 #[.agg #[.bool v, .int .u64 xh, .int .u64 xl], .agg #[.bool u, .int .u64 yh, .int .u64 yl]] w fun e w' => e = .returned (.tuple #[.bool r, .int .i64 k]) ∧ Below w.heap.size w w') := by
    intro v u xh xl yh yl r k p1 p2 p3 p4 hr hk w
    have := less_any v u xh xl yh yl w p1.1 p2.1 p3.1 p4.1
    rw [hr, hk] at this
    exact this
  by_cases hE : chk va ah al = 3 ∨ chk vb bh bl = 3
  · obtain ⟨e1, e2⟩ := lessE_bad hE
    obtain ⟨e3, e4⟩ := lessE_bad (v := vb) (u := va) (xh := bh) (xl := bl) (yh := ah) (yl := al) hE.symm
    exact order_err va vb vc ah al bh bl ch cl w hg (L _ _ _ _ _ _ _ _ a1 a2 b1 b2 e2 e1) (L _ _ _ _ _ _ _ _ b1 b2 a1 a2 e4 e3)
  · have ca : chk va ah al = 0 := by rcases chk_cases va ah al with ⟨h, _⟩ | h; exact h; exact absurd (.inl h) hE
    have cb : chk vb bh bl = 0 := by rcases chk_cases vb bh bl with ⟨h, _⟩ | h; exact h; exact absurd (.inr h) hE
    obtain ⟨eab, xab⟩ := less_key a1 a2 b1 b2 ca cb
    obtain ⟨eba, xba⟩ := less_key b1 b2 a1 a2 cb ca
    -- the next one
    have HN5 : Hid (∀ w : World, Calls Tryd.prog 8 #[.agg #[.bool va, .int .u64 ah, .int .u64 al]] w fun e w' => e = .returned (.tuple #[.agg #[.bool (nxV va ah al), .int .u64 (nxH va ah al), .int .u64 (nxL va ah al)], .bool (nxB va ah al), .int .i64 (chk va ah al)]) ∧ Below w.heap.size w w') :=
      fun w => next_any va ah al w a1.1 a2.1 a1.2 a2.2
    rw [ca] at HN5
    have cc := chk_cases vc ch cl
    have h3b : chk vc ch cl = 3 → Hid (∀ w : World, Calls Tryd.prog 9 #[.agg #[.bool vb, .int .u64 bh, .int .u64 bl], .agg #[.bool vc, .int .u64 ch, .int .u64 cl]] w fun e w' => e = .returned (.tuple #[.bool false, .int .i64 3]) ∧ Below w.heap.size w w') := fun h =>
      L _ _ _ _ _ _ _ _ b1 b2 c1 c2 (lessE_bad (.inr h)).2 (lessE_bad (.inr h)).1
    have h4b : chk vc ch cl = 3 → Hid (∀ w : World, Calls Tryd.prog 9 #[.agg #[.bool va, .int .u64 ah, .int .u64 al], .agg #[.bool vc, .int .u64 ch, .int .u64 cl]] w fun e w' => e = .returned (.tuple #[.bool false, .int .i64 3]) ∧ Below w.heap.size w w') := fun h =>
      L _ _ _ _ _ _ _ _ a1 a2 c1 c2 (lessE_bad (.inr h)).2 (lessE_bad (.inr h)).1
    have h3g : chk vc ch cl = 0 → Hid (∀ w : World, Calls Tryd.prog 9 #[.agg #[.bool vb, .int .u64 bh, .int .u64 bl], .agg #[.bool vc, .int .u64 ch, .int .u64 cl]] w fun e w' => e = .returned (.tuple #[.bool (decide (key vb bh bl < key vc ch cl)), .int .i64 0]) ∧ Below w.heap.size w w') := fun h =>
      L _ _ _ _ _ _ _ _ b1 b2 c1 c2 (less_key b1 b2 c1 c2 cb h).2 (less_key b1 b2 c1 c2 cb h).1
    have h4g : chk vc ch cl = 0 → Hid (∀ w : World, Calls Tryd.prog 9 #[.agg #[.bool va, .int .u64 ah, .int .u64 al], .agg #[.bool vc, .int .u64 ch, .int .u64 cl]] w fun e w' => e = .returned (.tuple #[.bool (decide (key va ah al < key vc ch cl)), .int .i64 0]) ∧ Below w.heap.size w w') := fun h =>
      L _ _ _ _ _ _ _ _ a1 a2 c1 c2 (less_key a1 a2 c1 c2 ca h).2 (less_key a1 a2 c1 c2 ca h).1
    have H1 := L _ _ _ _ _ _ _ _ a1 a2 b1 b2 xab eab
    have H2 := L _ _ _ _ _ _ _ _ b1 b2 a1 a2 xba eba
    cases hl : isLast va ah al with
    | true =>
      obtain ⟨n1, n2, n3, n4⟩ := next_no hl
      rw [n1, n2, n3, n4] at HN5
      by_cases hlt : key va ah al < key vb bh bl
      · rw [decide_eq_true hlt] at H1
        rw [decide_eq_false (show ¬ key vb bh bl < key va ah al by omega)] at H2
        rcases cc with ⟨cc, _⟩ | cc
        · have h3 := h3g cc
          have h4 := h4g cc
          by_cases hz : key vb bh bl < key vc ch cl
          · rw [decide_eq_true hz] at h3
            rw [decide_eq_true (show key va ah al < key vc ch cl by omega)] at h4
            exact order_tft0 va vb vc ah al bh bl ch cl 0 0 false false false w hg H1 H2 h3 h4 HN5
          · rw [decide_eq_false hz] at h3
            exact order_tfz0 va vb vc ah al bh bl ch cl 0 0 false (decide (key va ah al < key vc ch cl)) false w hg H1 H2 h3 h4 HN5
        · exact order_tfb0 va vb vc ah al bh bl ch cl 0 0 false false false w hg H1 H2 (h3b cc) (h4b cc) HN5
      · rw [decide_eq_false hlt] at H1
        by_cases hgt : key vb bh bl < key va ah al
        · rw [decide_eq_true hgt] at H2
          rcases cc with ⟨cc, _⟩ | cc
          · exact order_fto0 va vb vc ah al bh bl ch cl 0 0 _ _ false w hg H1 H2 (h3g cc) (h4g cc) HN5
          · exact order_ftb0 va vb vc ah al bh bl ch cl 0 0 false false false w hg H1 H2 (h3b cc) (h4b cc) HN5
        · rw [decide_eq_false hgt] at H2
          obtain ⟨k1, k2, k3⟩ := key_inj a1 a2 b1 b2 (show key va ah al = key vb bh bl by omega)
          have heq : eqA va ah al vb bh bl = true := by simp [eqA, k1, k2, k3]
          rcases cc with ⟨cc, _⟩ | cc
          · exact order_ffo0 va vb vc ah al bh bl ch cl 0 0 _ _ false w hg H1 H2 (h3g cc) (h4g cc) HN5 heq
          · exact order_ffb0 va vb vc ah al bh bl ch cl 0 0 false false false w hg H1 H2 (h3b cc) (h4b cc) HN5 heq
    | false =>
      obtain ⟨n1, n2, w1, w2, n5, n6⟩ := next_ok a1 a2 ca hl
      rw [n1, n2] at HN5
      have h6 := L _ _ _ _ _ _ _ _ a1 a2 w1 w2 (less_key a1 a2 w1 w2 ca n5).2 (less_key a1 a2 w1 w2 ca n5).1
      rw [decide_eq_true (show key va ah al < key va (nxH va ah al) (nxL va ah al) by omega)] at h6
      have h7 := L _ _ _ _ _ _ _ _ b1 b2 w1 w2 (less_key b1 b2 w1 w2 cb n5).2 (less_key b1 b2 w1 w2 cb n5).1
      by_cases hlt : key va ah al < key vb bh bl
      · rw [decide_eq_true hlt] at H1
        rw [decide_eq_false (show ¬ key vb bh bl < key va ah al by omega)] at H2
        rw [decide_eq_false (show ¬ key vb bh bl < key va (nxH va ah al) (nxL va ah al) by omega)] at h7
        rcases cc with ⟨cc, _⟩ | cc
        · have h3 := h3g cc
          have h4 := h4g cc
          by_cases hz : key vb bh bl < key vc ch cl
          · rw [decide_eq_true hz] at h3
            rw [decide_eq_true (show key va ah al < key vc ch cl by omega)] at h4
            exact order_tft1 va vb vc ah al bh bl ch cl _ _ false false false w hg H1 H2 h3 h4 HN5 h6 h7
          · rw [decide_eq_false hz] at h3
            exact order_tfz1 va vb vc ah al bh bl ch cl _ _ false (decide (key va ah al < key vc ch cl)) false w hg H1 H2 h3 h4 HN5 h6 h7
        · exact order_tfb1 va vb vc ah al bh bl ch cl _ _ false false false w hg H1 H2 (h3b cc) (h4b cc) HN5 h6 h7
      · rw [decide_eq_false hlt] at H1
        by_cases hgt : key vb bh bl < key va ah al
        · rw [decide_eq_true hgt] at H2
          rcases cc with ⟨cc, _⟩ | cc
          · exact order_fto1 va vb vc ah al bh bl ch cl _ _ _ _ _ w hg H1 H2 (h3g cc) (h4g cc) HN5 h6 h7
          · exact order_ftb1 va vb vc ah al bh bl ch cl _ _ false false _ w hg H1 H2 (h3b cc) (h4b cc) HN5 h6 h7
        · rw [decide_eq_false hgt] at H2
          obtain ⟨k1, k2, k3⟩ := key_inj a1 a2 b1 b2 (show key va ah al = key vb bh bl by omega)
          have heq : eqA va ah al vb bh bl = true := by simp [eqA, k1, k2, k3]
          rcases cc with ⟨cc, _⟩ | cc
          · exact order_ffo1 va vb vc ah al bh bl ch cl _ _ _ _ _ w hg H1 H2 (h3g cc) (h4g cc) HN5 h6 h7 heq
          · exact order_ffb1 va vb vc ah al bh bl ch cl _ _ false false _ w hg H1 H2 (h3b cc) (h4b cc) HN5 h6 h7 heq
end Go.Proofs.YtflbcgpcgjnhgaaDoor
