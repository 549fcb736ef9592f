/- leaseBegun. -/
import Derived.Test.YtiiankekobgebaaLmE
import Derived.Test.YtiiankekobgebaaNetV
set_option linter.unusedVariables false
set_option linter.unusedSimpArgs false
namespace Go.Proofs.Ytiiankekobgebaa
open Go.RowKit Go.Shelf

def qP : Pf := ⟨false, 0, 8, 30⟩
def a8 : Ad := ⟨false, 0, 8, by decide⟩
def a9 : Ad := ⟨false, 0, 9, by decide⟩
def a10 : Ad := ⟨false, 0, 10, by decide⟩
def lx : Ls := ⟨a9, ⟨#[120]⟩, 15⟩
def ly : Ls := ⟨a10, ⟨#[121]⟩, 6⟩
def lz : Ls := ⟨a10, ⟨#[122]⟩, 8⟩
theorem qP_ok : qP.Ok := ⟨by decide, by decide, by decide, by decide⟩
set_option maxRecDepth 100000 in
theorem g_x : gOut qP [a8] [] ⟨#[120]⟩ 5 10 = (0, [lx], a9) := by kernel_rfl
set_option maxRecDepth 100000 in
theorem g_y : gOut qP [a8] [lx] ⟨#[121]⟩ 5 1 = (0, [lx, ly], a10) := by kernel_rfl
set_option maxRecDepth 100000 in
theorem g_z : gOut qP [a8] [lx, ly] ⟨#[122]⟩ 7 1 = (0, [lx, lz], a10) := by kernel_rfl
set_option maxRecDepth 100000 in
theorem d_7 : lookL [lx, ly] 7 = 0 ∧ dropL [lx, ly] 7 = [lx] ∧ dropN [lx, ly] 7 = 1 := ⟨by kernel_rfl, by kernel_rfl, by kernel_rfl⟩
set_option maxRecDepth 100000 in
theorem p_q : poolE qP [a8] = 0 := by kernel_rfl
set_option maxRecDepth 100000 in
theorem c_q : checkE qP [a8] [lx, ly] 5 = 0 := by kernel_rfl

theorem Box5.unfrozen {W : World} {b : Nat} {p : Pf} {ks : Value} (h : Box5 W b p ks) : W.frozen? ⟨b, 0, none⟩ = false ∧ W.frozen? ⟨b, 1, none⟩ = false ∧ W.frozen? ⟨b, 2, none⟩ = false ∧ W.frozen? ⟨b, 3, none⟩ = false ∧ W.frozen? ⟨b, 4, none⟩ = false := by
  unfold Box5 at h
  simp [World.frozen?, h]
theorem Box5.put {W : World} {b : Nat} {p q : Pf} {ks ks' : Value} (h : Box5 W b p ks) : Box5 (((((W.setCell ⟨b, 0, none⟩ (.bool q.v)).setCell ⟨b, 1, none⟩ (.int .u64 q.hi)).setCell ⟨b, 2, none⟩ (.int .u64 q.lo)).setCell ⟨b, 3, none⟩ (.int .i64 q.b)).setCell ⟨b, 4, none⟩ ks') b q ks' := by
  unfold Box5 at *
  have h1 := heap_setCell_same W b 0 _ _ (.bool q.v) h
  have h2 := heap_setCell_same _ b 1 _ _ (.int .u64 q.hi) h1
  have h3 := heap_setCell_same _ b 2 _ _ (.int .u64 q.lo) h2
  have h4 := heap_setCell_same _ b 3 _ _ (.int .i64 q.b) h3
  have h5 := heap_setCell_same _ b 4 _ _ ks' h4
  rw [h5]
  rfl

set_option maxHeartbeats 4000000 in
theorem quad_any (w : World) : Calls Try.prog 29 #[] w fun e w' => ∃ g : Nat, e = .returned (.agg #[.bool false, .int .u64 0, .int .u64 8, .int .i64 30, .slice (some ⟨g, 0, none⟩) 1 1]) ∧ Lies adE w' (some ⟨g, 0, none⟩) [a8] ∧ Below w.heap.size w w' := by
  have hN : Hid (∀ (n b : Int) (w : World), Calls Try.prog 48 #[.int .u64 n, .int .i64 b] w fun e w' => e = .returned (.agg #[.bool false, .int .u64 0, .int .u64 n, .int .i64 b]) ∧ Below w.heap.size w w') := net_any
  have hV : Hid (∀ (n : Int) (w : World), Calls Try.prog 30 #[.int .u64 n] w fun e w' => e = .returned (.agg #[.bool false, .int .u64 0, .int .u64 n]) ∧ Below w.heap.size w w') := fun n w => (v4_any n w).mono fun e w' h => by obtain ⟨h1, c, rfl⟩ := h; exact ⟨h1, bal (Below.refl _ _) _⟩
  have HX : Hid (Box5 (w.alloc (.cells #[.bool false, .int .u64 0, .int .u64 0, .int .i64 0, .slice none 0 0] 29)) w.heap.size zeroPf (.slice none 0 0)) := Box5.new w zeroPf _
  have HB := Lib.hid (bal (Below.refl w.heap.size w) (.cells #[.bool false, .int .u64 0, .int .u64 0, .int .i64 0, .slice none 0 0] 29))
  go_enter Try.func29, Try.ntmps29
  go_wp2_with fail
  refine (hN.out _ _ _).mono ?_
  rintro e w1 ⟨rfl, hb1⟩
  go_wp2_with fail
  refine (hV.out _ _).mono ?_
  rintro e w2 ⟨rfl, hb2⟩
  have hb := btr hb1 hb2
  have hx := HX.out.below hb
  obtain ⟨x0, x1, x2, x3, x4⟩ := hx.cells
  obtain ⟨f0, f1, f2, f3, f4⟩ := hx.unfrozen
  have hlt := hx.lt
  have hp := hx.put (q := qP) (ks' := .slice (some ⟨w2.heap.size, 0, none⟩) 1 1)
  have hB2 := btr HB.out hb
  have HL : Hid (Box3 ((((((w2.setCell ⟨w.heap.size, 0, none⟩ (.bool qP.v)).setCell ⟨w.heap.size, 1, none⟩ (.int .u64 qP.hi)).setCell ⟨w.heap.size, 2, none⟩ (.int .u64 qP.lo)).setCell ⟨w.heap.size, 3, none⟩ (.int .i64 qP.b)).setCell ⟨w.heap.size, 4, none⟩ (.slice (some ⟨w2.heap.size, 0, none⟩) 1 1)).alloc (.cells #[.bool a8.v, .int .u64 a8.hi, .int .u64 a8.lo] 24)) w2.heap.size a8) := by
    have := Box3.new (((((w2.setCell ⟨w.heap.size, 0, none⟩ (.bool qP.v)).setCell ⟨w.heap.size, 1, none⟩ (.int .u64 qP.hi)).setCell ⟨w.heap.size, 2, none⟩ (.int .u64 qP.lo)).setCell ⟨w.heap.size, 3, none⟩ (.int .i64 qP.b)).setCell ⟨w.heap.size, 4, none⟩ (.slice (some ⟨w2.heap.size, 0, none⟩) 1 1)) a8
    rw [Hid]
    simpa using this
  have HFin : Hid (Below w.heap.size w ((((((w2.setCell ⟨w.heap.size, 0, none⟩ (.bool qP.v)).setCell ⟨w.heap.size, 1, none⟩ (.int .u64 qP.hi)).setCell ⟨w.heap.size, 2, none⟩ (.int .u64 qP.lo)).setCell ⟨w.heap.size, 3, none⟩ (.int .i64 qP.b)).setCell ⟨w.heap.size, 4, none⟩ (.slice (some ⟨w2.heap.size, 0, none⟩) 1 1)).alloc (.cells #[.bool a8.v, .int .u64 a8.hi, .int .u64 a8.lo] 24))) :=
    bal (bse (bse (bse (bse (bse hB2 (Nat.le_refl _) _) (Nat.le_refl _) _) (Nat.le_refl _) _) (Nat.le_refl _) _) (Nat.le_refl _) _) _
  obtain ⟨u0, u1, u2, u3, u4⟩ := (hp.below (bal (Below.refl _ _) (.cells #[.bool a8.v, .int .u64 a8.hi, .int .u64 a8.lo] 24))).cells
  simp only [qP, a8] at u0 u1 u2 u3 u4 HL HFin
  clear hp hx hb hb1 hb2 HX HB hB2
  go_wp2_with fail
  refine ⟨rfl, .agg #[.bool false, .int .u64 0, .int .u64 8, .int .i64 30, .slice (some ⟨w2.heap.size, 0, none⟩) 1 1], by simp [results, Try.f29, go_sem, u0, u1, u2, u3, u4], w2.heap.size, rfl, ?_, HFin.out⟩
  intro j hj
  obtain rfl : j = 0 := by simpa using hj
  refine ⟨w2.heap.size, 0, rfl, HL.out.lt, ?_⟩
  obtain ⟨⟨c0, c1, c2⟩, _⟩ := HL.out.cells
  intro i v hv
  match i, hv with
  | 0, hv => simpa [adE, a8] using (c0.trans (by simpa [adE, a8] using hv))
  | 1, hv => simpa [adE, a8] using (c1.trans (by simpa [adE, a8] using hv))
  | 2, hv => simpa [adE, a8] using (c2.trans (by simpa [adE, a8] using hv))
theorem keepB3 {w W W' : World} {p q r : Nat} {x0 x1 x2 y0 y1 y2 z0 z1 z2 : Value} (h : (W.cell? ⟨p, 0, none⟩ = some x0 ∧ W.cell? ⟨p, 1, none⟩ = some x1 ∧ W.cell? ⟨p, 2, none⟩ = some x2 ∧ p < W.heap.size) ∧ (W.cell? ⟨q, 0, none⟩ = some y0 ∧ W.cell? ⟨q, 1, none⟩ = some y1 ∧ W.cell? ⟨q, 2, none⟩ = some y2 ∧ q < W.heap.size) ∧ (W.cell? ⟨r, 0, none⟩ = some z0 ∧ W.cell? ⟨r, 1, none⟩ = some z1 ∧ W.cell? ⟨r, 2, none⟩ = some z2 ∧ r < W.heap.size) ∧ Below w.heap.size w W) (hb : Below W.heap.size W W') :
    (W'.cell? ⟨p, 0, none⟩ = some x0 ∧ W'.cell? ⟨p, 1, none⟩ = some x1 ∧ W'.cell? ⟨p, 2, none⟩ = some x2 ∧ p < W'.heap.size) ∧ (W'.cell? ⟨q, 0, none⟩ = some y0 ∧ W'.cell? ⟨q, 1, none⟩ = some y1 ∧ W'.cell? ⟨q, 2, none⟩ = some y2 ∧ q < W'.heap.size) ∧ (W'.cell? ⟨r, 0, none⟩ = some z0 ∧ W'.cell? ⟨r, 1, none⟩ = some z1 ∧ W'.cell? ⟨r, 2, none⟩ = some z2 ∧ r < W'.heap.size) ∧ Below w.heap.size w W' := by
  obtain ⟨⟨a, b, c, d⟩, ⟨e, f, g, i⟩, ⟨j, k, l, m⟩, n⟩ := h
  obtain ⟨h1, _⟩ := bcell hb
  have hs := hb.size
  refine ⟨⟨?_, ?_, ?_, by omega⟩, ⟨?_, ?_, ?_, by omega⟩, ⟨?_, ?_, ?_, by omega⟩, btr n hb⟩
  · rw [h1 _ _ d]; exact a
  · rw [h1 _ _ d]; exact b
  · rw [h1 _ _ d]; exact c
  · rw [h1 _ _ i]; exact e
  · rw [h1 _ _ i]; exact f
  · rw [h1 _ _ i]; exact g
  · rw [h1 _ _ m]; exact j
  · rw [h1 _ _ m]; exact k
  · rw [h1 _ _ m]; exact l

set_option maxHeartbeats 16000000 in
set_option maxRecDepth 100000 in
theorem lbegun_any (w : World) : Calls Try.prog 12 #[] w fun e w' => e = .returned (.bool true) ∧ Below w.heap.size w w' := by
  have hQ : Hid (∀ w : World, Calls Try.prog 29 #[] w fun e w' => ∃ g : Nat, e = .returned (.agg #[.bool false, .int .u64 0, .int .u64 8, .int .i64 30, .slice (some ⟨g, 0, none⟩) 1 1]) ∧ Lies adE w' (some ⟨g, 0, none⟩) [a8] ∧ Below w.heap.size w w') := quad_any
  have hV : Hid (∀ (n : Int) (w : World), Calls Try.prog 30 #[.int .u64 n] w fun e w' => e = .returned (.agg #[.bool false, .int .u64 0, .int .u64 n]) ∧ Below w.heap.size w w') := fun n w => (v4_any n w).mono fun e w' h => by obtain ⟨h1, c, rfl⟩ := h; exact ⟨h1, bal (Below.refl _ _) _⟩
  have h1 : Hid (∀ (g : Nat) (w : World), Lies adE w (some ⟨g, 0, none⟩) [a8] → Calls Try.prog 5 #[.agg #[.bool false, .int .u64 0, .int .u64 8, .int .i64 30, .slice (some ⟨g, 0, none⟩) 1 1], .slice none 0 0, .string ⟨#[120]⟩, .int .i64 5, .int .i64 10] w fun e w' => ∃ a4 c4, e = .returned (.tuple #[.slice a4 1 c4, .agg #[.bool false, .int .u64 0, .int .u64 9], .int .i64 0]) ∧ Lies lsE w' a4 [lx] ∧ Below w.heap.size w w') := fun g w h => by
    have := lgrant_any qP qP_ok (some ⟨g, 0, none⟩) 1 [a8] none 0 [] ⟨#[120]⟩ 5 10 w h (Lies.nil _ _ _)
    rw [g_x] at this
    exact this
  have h2 : Hid (∀ (g : Nat) (a : Option Addr) (c : Nat) (w : World), Lies adE w (some ⟨g, 0, none⟩) [a8] → Lies lsE w a [lx] → Calls Try.prog 5 #[.agg #[.bool false, .int .u64 0, .int .u64 8, .int .i64 30, .slice (some ⟨g, 0, none⟩) 1 1], .slice a 1 c, .string ⟨#[121]⟩, .int .i64 5, .int .i64 1] w fun e w' => ∃ a4 c4, e = .returned (.tuple #[.slice a4 2 c4, .agg #[.bool false, .int .u64 0, .int .u64 10], .int .i64 0]) ∧ Lies lsE w' a4 [lx, ly] ∧ Below w.heap.size w w') := fun g a c w h hl => by
    have := lgrant_any qP qP_ok (some ⟨g, 0, none⟩) 1 [a8] a c [lx] ⟨#[121]⟩ 5 1 w h hl
    rw [g_y] at this
    exact this
  have h3 : Hid (∀ (g : Nat) (a : Option Addr) (c : Nat) (w : World), Lies adE w (some ⟨g, 0, none⟩) [a8] → Lies lsE w a [lx, ly] → Calls Try.prog 5 #[.agg #[.bool false, .int .u64 0, .int .u64 8, .int .i64 30, .slice (some ⟨g, 0, none⟩) 1 1], .slice a 2 c, .string ⟨#[122]⟩, .int .i64 7, .int .i64 1] w fun e w' => ∃ a4 c4, e = .returned (.tuple #[.slice a4 2 c4, .agg #[.bool false, .int .u64 0, .int .u64 10], .int .i64 0]) ∧ Below w.heap.size w w') := fun g a c w h hl => by
    have := lgrant_any qP qP_ok (some ⟨g, 0, none⟩) 1 [a8] a c [lx, ly] ⟨#[122]⟩ 7 1 w h hl
    rw [g_z] at this
    exact this.mono fun e w' ⟨a4, c4, h1, h2, h3⟩ => ⟨a4, c4, h1, h3⟩
  have h4 : Hid (∀ (a : Option Addr) (c : Nat) (w : World), Lies lsE w a [lx, ly] → Calls Try.prog 6 #[.slice a 2 c, .int .i64 7] w fun e w' => ∃ a4 c4, e = .returned (.tuple #[.slice a4 1 c4, .int .i64 1, .int .i64 0]) ∧ Below w.heap.size w w') := fun a c w hl => by
    have := ldrop_any a c [lx, ly] 7 w hl
    rw [d_7.1, d_7.2.1, d_7.2.2] at this
    exact this.mono fun e w' ⟨a4, c4, h1, h2, h3⟩ => ⟨a4, c4, h1, h3⟩
  have h5 : Hid (∀ (g : Nat) (w : World), Lies adE w (some ⟨g, 0, none⟩) [a8] → Calls Try.prog 13 #[.agg #[.bool false, .int .u64 0, .int .u64 8, .int .i64 30, .slice (some ⟨g, 0, none⟩) 1 1]] w fun e w' => e = .returned (.int .i64 0) ∧ Below w.heap.size w w') := fun g w h => by
    have := pool_any qP qP_ok (some ⟨g, 0, none⟩) 1 [a8] w h
    rw [p_q] at this
    exact this
  have h6 : Hid (∀ (g : Nat) (a : Option Addr) (c : Nat) (w : World), Lies adE w (some ⟨g, 0, none⟩) [a8] → Lies lsE w a [lx, ly] → Calls Try.prog 15 #[.agg #[.bool false, .int .u64 0, .int .u64 8, .int .i64 30, .slice (some ⟨g, 0, none⟩) 1 1], .slice a 2 c, .int .i64 5] w fun e w' => e = .returned (.int .i64 0) ∧ Below w.heap.size w w') := fun g a c w h hl => by
    have := check_ls qP qP_ok (some ⟨g, 0, none⟩) 1 [a8] a c [lx, ly] 5 w h hl
    rw [c_q] at this
    exact this
  go_enter Try.func12, Try.ntmps12
  go_wp2_with fail
  refine (hQ.out _).mono ?_
  rintro e w1 ⟨g1, rfl, hk1, hb1⟩
  go_wp2_with fail
  refine (h1.out _ _ hk1).mono ?_
  rintro e w2 ⟨a2, c2, rfl, hl2, hb2⟩
  have HB := Lib.hid (bal (btr hb1 hb2) (.cells #[.bool false, .int .u64 0, .int .u64 9] 24))
  have HX := Lib.hid (Box3.new w2 a9)
  have HL := Lib.hid (hl2.below (bal (Below.refl _ _) (.cells #[.bool false, .int .u64 0, .int .u64 9] 24)))
  clear hk1 hb1 hl2 hb2 h1
  obtain ⟨xb, hxb⟩ : ∃ xb, xb = w2.heap.size := ⟨_, rfl⟩
  go_wp2_with fail
  rw [← hxb] at HX ⊢
  rw [show (Box3 (w2.alloc (.cells #[.bool a9.v, .int .u64 a9.hi, .int .u64 a9.lo] 24)) xb a9) = (Box3 (w2.alloc (.cells #[.bool false, .int .u64 0, .int .u64 9] 24)) xb a9) from rfl] at HX
  generalize w2.alloc (.cells #[.bool false, .int .u64 0, .int .u64 9] 24) = w3 at *
  clear hxb
  refine (hQ.out _).mono ?_
  rintro e w4 ⟨g2, rfl, hk4, hb4⟩
  have hl4 := HL.out.below hb4
  go_wp2_with fail
  refine (h2.out _ _ _ _ hk4 hl4).mono ?_
  rintro e w5 ⟨a5, c5, rfl, hl5, hb5⟩
  replace HB := Lib.hid (bal (btr HB.out (btr hb4 hb5)) (.cells #[.bool false, .int .u64 0, .int .u64 10] 24))
  replace HX := Lib.hid ((HX.out.below (btr hb4 hb5)).below (bal (Below.refl _ _) (.cells #[.bool false, .int .u64 0, .int .u64 10] 24)))
  have HY := Lib.hid (Box3.new w5 a10)
  replace HL := Lib.hid (hl5.below (bal (Below.refl _ _) (.cells #[.bool false, .int .u64 0, .int .u64 10] 24)))
  clear hk4 hb4 hl4 hl5 hb5 h2
  obtain ⟨yb, hyb⟩ : ∃ yb, yb = w5.heap.size := ⟨_, rfl⟩
  go_wp2_with fail
  rw [← hyb] at HY ⊢
  rw [show (Box3 (w5.alloc (.cells #[.bool a10.v, .int .u64 a10.hi, .int .u64 a10.lo] 24)) yb a10) = (Box3 (w5.alloc (.cells #[.bool false, .int .u64 0, .int .u64 10] 24)) yb a10) from rfl] at HY
  generalize w5.alloc (.cells #[.bool false, .int .u64 0, .int .u64 10] 24) = w6 at *
  clear hyb
  refine (hQ.out _).mono ?_
  rintro e w7 ⟨g3, rfl, hk7, hb7⟩
  have hl7 := HL.out.below hb7
  go_wp2_with fail
  refine (h3.out _ _ _ _ hk7 hl7).mono ?_
  rintro e w8 ⟨a8', c8, rfl, hb8⟩
  replace HB := Lib.hid (bal (btr HB.out (btr hb7 hb8)) (.cells #[.bool false, .int .u64 0, .int .u64 10] 24))
  replace HX := Lib.hid ((HX.out.below (btr hb7 hb8)).below (bal (Below.refl _ _) (.cells #[.bool false, .int .u64 0, .int .u64 10] 24)))
  replace HY := Lib.hid ((HY.out.below (btr hb7 hb8)).below (bal (Below.refl _ _) (.cells #[.bool false, .int .u64 0, .int .u64 10] 24)))
  have HZ := Lib.hid (Box3.new w8 a10)
  replace HL := Lib.hid ((HL.out.below (btr hb7 hb8)).below (bal (Below.refl _ _) (.cells #[.bool false, .int .u64 0, .int .u64 10] 24)))
  clear hk7 hb7 hl7 hb8 h3
  obtain ⟨zb, hzb⟩ : ∃ zb, zb = w8.heap.size := ⟨_, rfl⟩
  go_wp2_with fail
  rw [← hzb] at HZ ⊢
  rw [show (Box3 (w8.alloc (.cells #[.bool a10.v, .int .u64 a10.hi, .int .u64 a10.lo] 24)) zb a10) = (Box3 (w8.alloc (.cells #[.bool false, .int .u64 0, .int .u64 10] 24)) zb a10) from rfl] at HZ
  generalize w8.alloc (.cells #[.bool false, .int .u64 0, .int .u64 10] 24) = w9 at *
  clear hzb
  refine (h4.out _ _ _ HL.out).mono ?_
  rintro e wb ⟨ad, cd, rfl, hbd⟩
  replace HB := Lib.hid (btr HB.out hbd)
  replace HX := Lib.hid (HX.out.below hbd)
  replace HY := Lib.hid (HY.out.below hbd)
  replace HZ := Lib.hid (HZ.out.below hbd)
  replace HL := Lib.hid (HL.out.below hbd)
  clear hbd h4
  have HSd := Lib.hid (keepB3 (w := wb) ⟨⟨HX.out.cells.1.1, HX.out.cells.1.2.1, HX.out.cells.1.2.2, HX.out.lt⟩, ⟨HY.out.cells.1.1, HY.out.cells.1.2.1, HY.out.cells.1.2.2, HY.out.lt⟩, ⟨HZ.out.cells.1.1, HZ.out.cells.1.2.1, HZ.out.cells.1.2.2, HZ.out.lt⟩, Below.refl _ _⟩ (Below.refl _ _).drew)
  simp only [a9, a10] at HSd
  clear HX HY HZ
  go_wp2_with fail
  go_region_held3 (fun w' => (w'.cell? ⟨xb, 0, none⟩ = some (.bool false) ∧ w'.cell? ⟨xb, 1, none⟩ = some (.int .u64 0) ∧ w'.cell? ⟨xb, 2, none⟩ = some (.int .u64 9) ∧ xb < w'.heap.size) ∧ (w'.cell? ⟨yb, 0, none⟩ = some (.bool false) ∧ w'.cell? ⟨yb, 1, none⟩ = some (.int .u64 0) ∧ w'.cell? ⟨yb, 2, none⟩ = some (.int .u64 10) ∧ yb < w'.heap.size) ∧ (w'.cell? ⟨zb, 0, none⟩ = some (.bool false) ∧ w'.cell? ⟨zb, 1, none⟩ = some (.int .u64 0) ∧ w'.cell? ⟨zb, 2, none⟩ = some (.int .u64 10) ∧ zb < w'.heap.size) ∧ Below wb.heap.size wb w')
    (first | with_reducible exact HSd.out | fail)
    (first
      | (go_at_call 29; refine (hQ.out _).mono ?_; rintro e wx ⟨gq, rfl, hk, hb⟩; replace HSd := Lib.hid (keepB3 HSd.out hb); have HKq := Lib.hid hk; clear hk hb)
      | (go_at_call 13; refine (h5.out _ _ HKq.out).mono ?_; rintro e wx ⟨rfl, hb⟩; replace HSd := Lib.hid (keepB3 HSd.out hb); clear hb HKq)
      | (go_at_call 15; refine (h6.out _ _ _ _ HKq.out (HL.out.below HSd.out.2.2.2)).mono ?_; rintro e wx ⟨rfl, hb⟩; replace HSd := Lib.hid (keepB3 HSd.out hb); clear hb HKq)
      | (go_at_call 30; refine (hV.out _ _).mono ?_; rintro e wx ⟨rfl, hb⟩; replace HSd := Lib.hid (keepB3 HSd.out hb); clear hb))
  have HBz : Hid (Below w.heap.size w wx) := btr HB.out HSd.out.2.2.2
  clear HSd
  go_wp2_with fail
  go_ret
  exact ⟨rfl, HBz.out⟩
end Go.Proofs.Ytiiankekobgebaa
