/- span.cut: what is left of one prefix without another one. -/
import Derived.Test.YtlgdkdplkdkkdaaCcA
import Derived.Test.YtlgdkdplkdkkdaaSpQ
set_option linter.unusedVariables false
set_option linter.unusedSimpArgs false
namespace Go.Proofs.Ytlgdkdplkdkkdaa
open Go.RowKit

/-- The call hands back a list, in memory of its own. -/
def RowPost (w : World) (M : List Pf) (e : Ending) (w' : World) : Prop := ∃ v', e = .returned v' ∧ w'.ownsRow w.heap.size 27 4 v' M.length (flat M) ∧ Below w.heap.size w w'
theorem row_one (w : World) (p : Pf) : (w.alloc (.cells #[.bool p.v, .int .u64 p.hi, .int .u64 p.lo, .int .i64 p.b] 27)).ownsRow w.heap.size 27 4 (.slice (some ⟨w.heap.size, 0, none⟩) 1 1) [p].length (flat [p]) :=
  ⟨rfl, .inr ⟨w.heap.size, 1, _, rfl, Nat.le_refl _, heap_alloc_new w _, Nat.le_refl _, by unfold maxLen; omega, rfl, rfl⟩⟩

set_option maxHeartbeats 16000000 in
set_option maxRecDepth 100000 in
theorem scut_all (p q : Pf) (w : World) (rp : p.R) (rq : q.R) (h : p.has q = true) :
    Calls Try.prog 21 #[.agg #[.bool q.v, .int .u64 q.hi, .int .u64 q.lo, .int .i64 q.b], .agg #[.bool p.v, .int .u64 p.hi, .int .u64 p.lo, .int .i64 p.b]] w (RowPost w []) := by
  have H1 : Hid (∀ w : World, Calls Try.prog 38 #[.agg #[.bool p.v, .int .u64 p.hi, .int .u64 p.lo, .int .i64 p.b], .agg #[.bool q.v, .int .u64 q.hi, .int .u64 q.lo, .int .i64 q.b]] w fun x w' => x = .returned (.bool (p.has q)) ∧ Below w.heap.size w w') := fun w => shas_any p q w rp rq
  have H2 : Hid (∀ w : World, Calls Try.prog 38 #[.agg #[.bool q.v, .int .u64 q.hi, .int .u64 q.lo, .int .i64 q.b], .agg #[.bool p.v, .int .u64 p.hi, .int .u64 p.lo, .int .i64 p.b]] w fun x w' => x = .returned (.bool (q.has p)) ∧ Below w.heap.size w w') := fun w => shas_any q p w rq rp
  have HQ : Hid (Has4 ((w.alloc (.cells #[.bool q.v, .int .u64 q.hi, .int .u64 q.lo, .int .i64 q.b] 27)).alloc (.cells #[.bool p.v, .int .u64 p.hi, .int .u64 p.lo, .int .i64 p.b] 27)) w.heap.size q.v q.hi q.lo q.b) := (Has4.new w q.v q.hi q.lo q.b 27).alloc _
  have HP : Hid (Has4 ((w.alloc (.cells #[.bool q.v, .int .u64 q.hi, .int .u64 q.lo, .int .i64 q.b] 27)).alloc (.cells #[.bool p.v, .int .u64 p.hi, .int .u64 p.lo, .int .i64 p.b] 27)) (w.heap.size + 1) p.v p.hi p.lo p.b) := by
    have := Has4.new (w.alloc (.cells #[.bool q.v, .int .u64 q.hi, .int .u64 q.lo, .int .i64 q.b] 27)) p.v p.hi p.lo p.b 27
    rw [show (w.alloc (.cells #[.bool q.v, .int .u64 q.hi, .int .u64 q.lo, .int .i64 q.b] 27)).heap.size = w.heap.size + 1 by simp] at this
    exact this
  have HB : Hid (Below w.heap.size w ((w.alloc (.cells #[.bool q.v, .int .u64 q.hi, .int .u64 q.lo, .int .i64 q.b] 27)).alloc (.cells #[.bool p.v, .int .u64 p.hi, .int .u64 p.lo, .int .i64 p.b] 27))) := bal (bal (Below.refl _ _) _) _
  rw [h] at H1
  clear rp rq h H2
  go_enter Try.func21, Try.ntmps21
  go_wp2_with fail
  refine (H1.out _).mono ?_
  rintro x w2 ⟨rfl, hb⟩
  replace HQ := Lib.hid (HQ.out.below hb)
  replace HP := Lib.hid (HP.out.below hb)
  replace HB := Lib.hid (btr HB.out hb)
  clear hb
  go_wp2_with fail
  go_ret
  exact ⟨_, rfl, row_nil _ _ _ _, HB.out⟩

set_option maxHeartbeats 16000000 in
set_option maxRecDepth 100000 in
theorem scut_none (p q : Pf) (w : World) (rp : p.R) (rq : q.R) (h : p.has q = false) (h2 : q.has p = false) :
    Calls Try.prog 21 #[.agg #[.bool q.v, .int .u64 q.hi, .int .u64 q.lo, .int .i64 q.b], .agg #[.bool p.v, .int .u64 p.hi, .int .u64 p.lo, .int .i64 p.b]] w (RowPost w [q]) := by
  have H1 : Hid (∀ w : World, Calls Try.prog 38 #[.agg #[.bool p.v, .int .u64 p.hi, .int .u64 p.lo, .int .i64 p.b], .agg #[.bool q.v, .int .u64 q.hi, .int .u64 q.lo, .int .i64 q.b]] w fun x w' => x = .returned (.bool (p.has q)) ∧ Below w.heap.size w w') := fun w => shas_any p q w rp rq
  have H2 : Hid (∀ w : World, Calls Try.prog 38 #[.agg #[.bool q.v, .int .u64 q.hi, .int .u64 q.lo, .int .i64 q.b], .agg #[.bool p.v, .int .u64 p.hi, .int .u64 p.lo, .int .i64 p.b]] w fun x w' => x = .returned (.bool (q.has p)) ∧ Below w.heap.size w w') := fun w => shas_any q p w rq rp
  have HQ : Hid (Has4 ((w.alloc (.cells #[.bool q.v, .int .u64 q.hi, .int .u64 q.lo, .int .i64 q.b] 27)).alloc (.cells #[.bool p.v, .int .u64 p.hi, .int .u64 p.lo, .int .i64 p.b] 27)) w.heap.size q.v q.hi q.lo q.b) := (Has4.new w q.v q.hi q.lo q.b 27).alloc _
  have HP : Hid (Has4 ((w.alloc (.cells #[.bool q.v, .int .u64 q.hi, .int .u64 q.lo, .int .i64 q.b] 27)).alloc (.cells #[.bool p.v, .int .u64 p.hi, .int .u64 p.lo, .int .i64 p.b] 27)) (w.heap.size + 1) p.v p.hi p.lo p.b) := by
    have := Has4.new (w.alloc (.cells #[.bool q.v, .int .u64 q.hi, .int .u64 q.lo, .int .i64 q.b] 27)) p.v p.hi p.lo p.b 27
    rw [show (w.alloc (.cells #[.bool q.v, .int .u64 q.hi, .int .u64 q.lo, .int .i64 q.b] 27)).heap.size = w.heap.size + 1 by simp] at this
    exact this
  have HB : Hid (Below w.heap.size w ((w.alloc (.cells #[.bool q.v, .int .u64 q.hi, .int .u64 q.lo, .int .i64 q.b] 27)).alloc (.cells #[.bool p.v, .int .u64 p.hi, .int .u64 p.lo, .int .i64 p.b] 27))) := bal (bal (Below.refl _ _) _) _
  rw [h] at H1
  rw [h2] at H2
  clear rp rq h h2
  go_enter Try.func21, Try.ntmps21
  go_wp2_with fail
  refine (H1.out _).mono ?_
  rintro x w2 ⟨rfl, hb⟩
  replace HQ := Lib.hid (HQ.out.below hb)
  replace HP := Lib.hid (HP.out.below hb)
  replace HB := Lib.hid (btr HB.out hb)
  clear hb
  obtain ⟨p0, p1, p2, p3, p4⟩ := HP.out
  obtain ⟨q0, q1, q2, q3, q4⟩ := HQ.out
  go_wp2_with fail
  refine (H2.out _).mono ?_
  rintro x w3 ⟨rfl, hb⟩
  clear p0 p1 p2 p3 p4 q0 q1 q2 q3 q4
  replace HQ := Lib.hid (HQ.out.below hb)
  replace HP := Lib.hid (HP.out.below hb)
  replace HB := Lib.hid (btr HB.out hb)
  clear hb
  obtain ⟨q0, q1, q2, q3, q4⟩ := HQ.out
  go_wp2_with fail
  go_ret
  exact ⟨_, rfl, row_base (row_one w3 q) HB.out.size, bal HB.out _⟩

theorem keepC {w W W' : World} {m1 m2 m3 : Nat} {lv gv pv : Bool} {lh ll lb gh gl gb ph pl pb : Int}
    (h : (W.cell? ⟨m1, 0, none⟩ = some (.bool lv) ∧ W.cell? ⟨m1, 1, none⟩ = some (.int .u64 lh) ∧ W.cell? ⟨m1, 2, none⟩ = some (.int .u64 ll) ∧ W.cell? ⟨m1, 3, none⟩ = some (.int .i64 lb) ∧ m1 < W.heap.size) ∧ (W.cell? ⟨m2, 0, none⟩ = some (.bool gv) ∧ W.cell? ⟨m2, 1, none⟩ = some (.int .u64 gh) ∧ W.cell? ⟨m2, 2, none⟩ = some (.int .u64 gl) ∧ W.cell? ⟨m2, 3, none⟩ = some (.int .i64 gb) ∧ m2 < W.heap.size) ∧ (W.cell? ⟨m3, 0, none⟩ = some (.bool pv) ∧ W.cell? ⟨m3, 1, none⟩ = some (.int .u64 ph) ∧ W.cell? ⟨m3, 2, none⟩ = some (.int .u64 pl) ∧ W.cell? ⟨m3, 3, none⟩ = some (.int .i64 pb) ∧ m3 < W.heap.size) ∧ Below w.heap.size w W) (hb : Below W.heap.size W W') :
    (W'.cell? ⟨m1, 0, none⟩ = some (.bool lv) ∧ W'.cell? ⟨m1, 1, none⟩ = some (.int .u64 lh) ∧ W'.cell? ⟨m1, 2, none⟩ = some (.int .u64 ll) ∧ W'.cell? ⟨m1, 3, none⟩ = some (.int .i64 lb) ∧ m1 < W'.heap.size) ∧ (W'.cell? ⟨m2, 0, none⟩ = some (.bool gv) ∧ W'.cell? ⟨m2, 1, none⟩ = some (.int .u64 gh) ∧ W'.cell? ⟨m2, 2, none⟩ = some (.int .u64 gl) ∧ W'.cell? ⟨m2, 3, none⟩ = some (.int .i64 gb) ∧ m2 < W'.heap.size) ∧ (W'.cell? ⟨m3, 0, none⟩ = some (.bool pv) ∧ W'.cell? ⟨m3, 1, none⟩ = some (.int .u64 ph) ∧ W'.cell? ⟨m3, 2, none⟩ = some (.int .u64 pl) ∧ W'.cell? ⟨m3, 3, none⟩ = some (.int .i64 pb) ∧ m3 < W'.heap.size) ∧ Below w.heap.size w W' :=
  ⟨Has4.below h.1 hb, Has4.below h.2.1 hb, Has4.below h.2.2.1 hb, btr h.2.2.2 hb⟩

set_option maxHeartbeats 16000000 in
set_option maxRecDepth 100000 in
theorem scut_half (p q : Pf) (w : World) (rp : p.R) (rq : q.R) (h : p.has q = false) (h2 : q.has p = true) (hlt : q.b < wid q.v) (L G : List Pf) (hL : L.length ≤ 1000) (hG : G.length ≤ 1000) (hne : 0 < L.length + G.length)
    (IL : ∀ w : World, Calls Try.prog 21 #[.agg #[.bool q.lo'.v, .int .u64 q.lo'.hi, .int .u64 q.lo'.lo, .int .i64 q.lo'.b], .agg #[.bool p.v, .int .u64 p.hi, .int .u64 p.lo, .int .i64 p.b]] w (RowPost w L))
    (IG : ∀ w : World, Calls Try.prog 21 #[.agg #[.bool q.hi'.v, .int .u64 q.hi'.hi, .int .u64 q.hi'.lo, .int .i64 q.hi'.b], .agg #[.bool p.v, .int .u64 p.hi, .int .u64 p.lo, .int .i64 p.b]] w (RowPost w G)) :
    Calls Try.prog 21 #[.agg #[.bool q.v, .int .u64 q.hi, .int .u64 q.lo, .int .i64 q.b], .agg #[.bool p.v, .int .u64 p.hi, .int .u64 p.lo, .int .i64 p.b]] w (RowPost w (L ++ G)) := by
  have H1 : Hid (∀ w : World, Calls Try.prog 38 #[.agg #[.bool p.v, .int .u64 p.hi, .int .u64 p.lo, .int .i64 p.b], .agg #[.bool q.v, .int .u64 q.hi, .int .u64 q.lo, .int .i64 q.b]] w fun x w' => x = .returned (.bool (p.has q)) ∧ Below w.heap.size w w') := fun w => shas_any p q w rp rq
  have H2 : Hid (∀ w : World, Calls Try.prog 38 #[.agg #[.bool q.v, .int .u64 q.hi, .int .u64 q.lo, .int .i64 q.b], .agg #[.bool p.v, .int .u64 p.hi, .int .u64 p.lo, .int .i64 p.b]] w fun x w' => x = .returned (.bool (q.has p)) ∧ Below w.heap.size w w') := fun w => shas_any q p w rq rp
  have HQ : Hid (Has4 ((w.alloc (.cells #[.bool q.v, .int .u64 q.hi, .int .u64 q.lo, .int .i64 q.b] 27)).alloc (.cells #[.bool p.v, .int .u64 p.hi, .int .u64 p.lo, .int .i64 p.b] 27)) w.heap.size q.v q.hi q.lo q.b) := (Has4.new w q.v q.hi q.lo q.b 27).alloc _
  have HP : Hid (Has4 ((w.alloc (.cells #[.bool q.v, .int .u64 q.hi, .int .u64 q.lo, .int .i64 q.b] 27)).alloc (.cells #[.bool p.v, .int .u64 p.hi, .int .u64 p.lo, .int .i64 p.b] 27)) (w.heap.size + 1) p.v p.hi p.lo p.b) := by
    have := Has4.new (w.alloc (.cells #[.bool q.v, .int .u64 q.hi, .int .u64 q.lo, .int .i64 q.b] 27)) p.v p.hi p.lo p.b 27
    rw [show (w.alloc (.cells #[.bool q.v, .int .u64 q.hi, .int .u64 q.lo, .int .i64 q.b] 27)).heap.size = w.heap.size + 1 by simp] at this
    exact this
  have HB : Hid (Below w.heap.size w ((w.alloc (.cells #[.bool q.v, .int .u64 q.hi, .int .u64 q.lo, .int .i64 q.b] 27)).alloc (.cells #[.bool p.v, .int .u64 p.hi, .int .u64 p.lo, .int .i64 p.b] 27))) := bal (bal (Below.refl _ _) _) _
  rw [h] at H1
  rw [h2] at H2
  have HH : Hid (∀ w : World, Calls Try.prog 39 #[.agg #[.bool q.v, .int .u64 q.hi, .int .u64 q.lo, .int .i64 q.b]] w fun x w' => x = .returned (.tuple #[.agg #[.bool q.lo'.v, .int .u64 q.lo'.hi, .int .u64 q.lo'.lo, .int .i64 q.lo'.b], .agg #[.bool q.hi'.v, .int .u64 q.hi'.hi, .int .u64 q.hi'.lo, .int .i64 q.hi'.b], .int .i64 0]) ∧ Below w.heap.size w w') := fun w => halves_ok q.v q.hi q.lo q.b w rq.h0 rq.h1 rq.l0 rq.l1 ((right_iff _ _ _ _ rq.h0 rq.h1 rq.l0 rq.l1).2 rq) hlt
  have HIL := Lib.hid IL
  have HIG := Lib.hid IG
  generalize q.lo' = l at *
  generalize q.hi' = g at *
  obtain ⟨lv, lh, ll, lb⟩ := l
  obtain ⟨gv, gh, gl, gb⟩ := g
  have A1 := Lib.hid hL
  have A2 := Lib.hid hG
  have A3 := Lib.hid hne
  clear rp rq h h2 IL IG hlt hL hG hne
  go_enter Try.func21, Try.ntmps21
  go_wp2_with fail
  refine (H1.out _).mono ?_
  rintro x w2 ⟨rfl, hb⟩
  replace HQ := Lib.hid (HQ.out.below hb)
  replace HP := Lib.hid (HP.out.below hb)
  replace HB := Lib.hid (btr HB.out hb)
  clear hb
  obtain ⟨p0, p1, p2, p3, p4⟩ := HP.out
  obtain ⟨q0, q1, q2, q3, q4⟩ := HQ.out
  go_wp2_with fail
  refine (H2.out _).mono ?_
  rintro x w3 ⟨rfl, hb⟩
  clear p0 p1 p2 p3 p4 q0 q1 q2 q3 q4
  replace HQ := Lib.hid (HQ.out.below hb)
  replace HP := Lib.hid (HP.out.below hb)
  replace HB := Lib.hid (btr HB.out hb)
  clear hb
  obtain ⟨q0, q1, q2, q3, q4⟩ := HQ.out
  go_wp2_with fail
  refine (HH.out _).mono ?_
  rintro x w5 ⟨rfl, hb⟩
  clear q0 q1 q2 q3 q4
  replace HP := Lib.hid (HP.out.below hb)
  replace HB := Lib.hid (btr HB.out hb)
  clear hb HQ HH H1 H2
  have S0 : Hid ((((w5.alloc (.cells #[.bool lv, .int .u64 lh, .int .u64 ll, .int .i64 lb] 27)).alloc (.cells #[.bool gv, .int .u64 gh, .int .u64 gl, .int .i64 gb] 27)).cell? ⟨w5.heap.size, 0, none⟩ = some (.bool lv) ∧ ((w5.alloc (.cells #[.bool lv, .int .u64 lh, .int .u64 ll, .int .i64 lb] 27)).alloc (.cells #[.bool gv, .int .u64 gh, .int .u64 gl, .int .i64 gb] 27)).cell? ⟨w5.heap.size, 1, none⟩ = some (.int .u64 lh) ∧ ((w5.alloc (.cells #[.bool lv, .int .u64 lh, .int .u64 ll, .int .i64 lb] 27)).alloc (.cells #[.bool gv, .int .u64 gh, .int .u64 gl, .int .i64 gb] 27)).cell? ⟨w5.heap.size, 2, none⟩ = some (.int .u64 ll) ∧ ((w5.alloc (.cells #[.bool lv, .int .u64 lh, .int .u64 ll, .int .i64 lb] 27)).alloc (.cells #[.bool gv, .int .u64 gh, .int .u64 gl, .int .i64 gb] 27)).cell? ⟨w5.heap.size, 3, none⟩ = some (.int .i64 lb) ∧ w5.heap.size < ((w5.alloc (.cells #[.bool lv, .int .u64 lh, .int .u64 ll, .int .i64 lb] 27)).alloc (.cells #[.bool gv, .int .u64 gh, .int .u64 gl, .int .i64 gb] 27)).heap.size) ∧ (((w5.alloc (.cells #[.bool lv, .int .u64 lh, .int .u64 ll, .int .i64 lb] 27)).alloc (.cells #[.bool gv, .int .u64 gh, .int .u64 gl, .int .i64 gb] 27)).cell? ⟨(w5.heap.size + 1), 0, none⟩ = some (.bool gv) ∧ ((w5.alloc (.cells #[.bool lv, .int .u64 lh, .int .u64 ll, .int .i64 lb] 27)).alloc (.cells #[.bool gv, .int .u64 gh, .int .u64 gl, .int .i64 gb] 27)).cell? ⟨(w5.heap.size + 1), 1, none⟩ = some (.int .u64 gh) ∧ ((w5.alloc (.cells #[.bool lv, .int .u64 lh, .int .u64 ll, .int .i64 lb] 27)).alloc (.cells #[.bool gv, .int .u64 gh, .int .u64 gl, .int .i64 gb] 27)).cell? ⟨(w5.heap.size + 1), 2, none⟩ = some (.int .u64 gl) ∧ ((w5.alloc (.cells #[.bool lv, .int .u64 lh, .int .u64 ll, .int .i64 lb] 27)).alloc (.cells #[.bool gv, .int .u64 gh, .int .u64 gl, .int .i64 gb] 27)).cell? ⟨(w5.heap.size + 1), 3, none⟩ = some (.int .i64 gb) ∧ (w5.heap.size + 1) < ((w5.alloc (.cells #[.bool lv, .int .u64 lh, .int .u64 ll, .int .i64 lb] 27)).alloc (.cells #[.bool gv, .int .u64 gh, .int .u64 gl, .int .i64 gb] 27)).heap.size) ∧ (((w5.alloc (.cells #[.bool lv, .int .u64 lh, .int .u64 ll, .int .i64 lb] 27)).alloc (.cells #[.bool gv, .int .u64 gh, .int .u64 gl, .int .i64 gb] 27)).cell? ⟨(w.heap.size + 1), 0, none⟩ = some (.bool p.v) ∧ ((w5.alloc (.cells #[.bool lv, .int .u64 lh, .int .u64 ll, .int .i64 lb] 27)).alloc (.cells #[.bool gv, .int .u64 gh, .int .u64 gl, .int .i64 gb] 27)).cell? ⟨(w.heap.size + 1), 1, none⟩ = some (.int .u64 p.hi) ∧ ((w5.alloc (.cells #[.bool lv, .int .u64 lh, .int .u64 ll, .int .i64 lb] 27)).alloc (.cells #[.bool gv, .int .u64 gh, .int .u64 gl, .int .i64 gb] 27)).cell? ⟨(w.heap.size + 1), 2, none⟩ = some (.int .u64 p.lo) ∧ ((w5.alloc (.cells #[.bool lv, .int .u64 lh, .int .u64 ll, .int .i64 lb] 27)).alloc (.cells #[.bool gv, .int .u64 gh, .int .u64 gl, .int .i64 gb] 27)).cell? ⟨(w.heap.size + 1), 3, none⟩ = some (.int .i64 p.b) ∧ (w.heap.size + 1) < ((w5.alloc (.cells #[.bool lv, .int .u64 lh, .int .u64 ll, .int .i64 lb] 27)).alloc (.cells #[.bool gv, .int .u64 gh, .int .u64 gl, .int .i64 gb] 27)).heap.size) ∧ Below w.heap.size w ((w5.alloc (.cells #[.bool lv, .int .u64 lh, .int .u64 ll, .int .i64 lb] 27)).alloc (.cells #[.bool gv, .int .u64 gh, .int .u64 gl, .int .i64 gb] 27))) := by
    refine ⟨(Has4.new w5 lv lh ll lb 27).alloc _, ?_, (HP.out.alloc _).alloc _, bal (bal HB.out _) _⟩
    have := Has4.new (w5.alloc (.cells #[.bool lv, .int .u64 lh, .int .u64 ll, .int .i64 lb] 27)) gv gh gl gb 27
    rw [show (w5.alloc (.cells #[.bool lv, .int .u64 lh, .int .u64 ll, .int .i64 lb] 27)).heap.size = w5.heap.size + 1 by simp] at this
    exact this
  go_wp2_with fail
  clear HP HB
  generalize ((w5.alloc (.cells #[.bool lv, .int .u64 lh, .int .u64 ll, .int .i64 lb] 27)).alloc (.cells #[.bool gv, .int .u64 gh, .int .u64 gl, .int .i64 gb] 27)) = W at *
  generalize w5.heap.size = m at *
  have S1 := Lib.hid (keepC S0.out (Below.refl W.heap.size W).drew)
  go_region_held3 (fun w' => (w'.cell? ⟨m, 0, none⟩ = some (.bool lv) ∧ w'.cell? ⟨m, 1, none⟩ = some (.int .u64 lh) ∧ w'.cell? ⟨m, 2, none⟩ = some (.int .u64 ll) ∧ w'.cell? ⟨m, 3, none⟩ = some (.int .i64 lb) ∧ m < w'.heap.size) ∧ (w'.cell? ⟨(m + 1), 0, none⟩ = some (.bool gv) ∧ w'.cell? ⟨(m + 1), 1, none⟩ = some (.int .u64 gh) ∧ w'.cell? ⟨(m + 1), 2, none⟩ = some (.int .u64 gl) ∧ w'.cell? ⟨(m + 1), 3, none⟩ = some (.int .i64 gb) ∧ (m + 1) < w'.heap.size) ∧ (w'.cell? ⟨(w.heap.size + 1), 0, none⟩ = some (.bool p.v) ∧ w'.cell? ⟨(w.heap.size + 1), 1, none⟩ = some (.int .u64 p.hi) ∧ w'.cell? ⟨(w.heap.size + 1), 2, none⟩ = some (.int .u64 p.lo) ∧ w'.cell? ⟨(w.heap.size + 1), 3, none⟩ = some (.int .i64 p.b) ∧ (w.heap.size + 1) < w'.heap.size) ∧ Below w.heap.size w w')
    (first | with_reducible exact S1.out | with_reducible exact S2.out | with_reducible exact S3.out | with_reducible exact S4.out | with_reducible exact S5.out | fail)
    (first
      | (go_at_call 21; refine (HIL.out _).mono ?_; rintro x w6 ⟨v1, rfl, hown1, hb1⟩; (with_reducible have S2 := Lib.hid (keepC S1.out hb1)); obtain ⟨a1, c1, rfl, hc1, _⟩ := own_sl hown1; have R1 := Lib.hid hown1; have B1 := Lib.hid hb1; clear HIL hown1 hb1 hc1)
      | (go_at_call 21; refine (HIG.out _).mono ?_; rintro x w7 ⟨v2, rfl, hown2, hb2⟩; (with_reducible have S3 := Lib.hid (keepC S2.out hb2)); obtain ⟨a2, c2, rfl, hc2, _⟩ := own_sl hown2; have R2 := Lib.hid hown2; have R3 := Lib.hid (own_keep R1.out hb2); have S4 := Lib.hid (keepC S3.out (bal (Below.refl w7.heap.size w7) (.cells #[.slice a1 L.length c1, .slice a2 G.length c2] 22))); clear HIG hown2 hb2 hc2)
      | (go_at_call 40; refine (concatP_any _ _ _ a1 a2 L.length G.length c1 c2 L G _ rfl rfl (R3.out.alloc _) (R2.out.alloc _) (by simp) (by simp) (by simp) A3.out (Nat.le_trans A1.out (by decide)) (Nat.le_trans A2.out (by decide))).mono ?_; rintro x w8 ⟨v3, rfl, hown3, hb3⟩; (with_reducible have S5 := Lib.hid (keepC S4.out hb3)); have R5 := Lib.hid hown3; clear hown3 hb3))
  go_wp2_with fail
  go_ret
  exact ⟨_, rfl, row_base R5.out (Nat.le_trans (Nat.le_trans S3.out.2.2.2.size (by simp)) (Nat.le_refl _)), S5.out.2.2.2⟩

theorem scut_any (p : Pf) (rp : p.R) : ∀ (k : Nat) (q : Pf) (w : World), q.R → q.nd.h = k → Calls Try.prog 21 #[.agg #[.bool q.v, .int .u64 q.hi, .int .u64 q.lo, .int .i64 q.b], .agg #[.bool p.v, .int .u64 p.hi, .int .u64 p.lo, .int .i64 p.b]] w (RowPost w (cutP p k q))
  | 0, q, w, rq, hk => by
    by_cases h : p.has q = true
    · rw [cutP, if_pos h]; exact scut_all p q w rp rq h
    · have h' : ¬ q.has p = true := fun h' => h ((has_nd rp rq).2 (by
        have := (has_nd rq rp).1 h'
        rw [Nd.same_h (nd_ok rq) (nd_ok rp) this (by omega)]
        exact Nd.has_refl _))
      rw [cutP, if_neg h, if_neg h']; exact scut_none p q w rp rq (by simpa using h) (by simpa using h')
  | k + 1, q, w, rq, hk => by
    by_cases h : p.has q = true
    · rw [cutP, if_pos h]; exact scut_all p q w rp rq h
    · by_cases h' : q.has p = true
      · have b1 := rq.b1
        have hlt : q.b < wid q.v := by
          have : (wid q.v - q.b).toNat = k + 1 := hk
          omega
        have hh1 : q.lo'.nd.h = k := by rw [nd_lo rq hlt]; simp [Nd.lo, hk]
        have hh2 : q.hi'.nd.h = k := by rw [nd_hi rq hlt]; simp [Nd.hi, hk]
        have l1 := (cutP_nd p rp k q.lo' (lo_R rq hlt) hh1).2.2
        have l2 := (cutP_nd p rp k q.hi' (hi_R rq hlt) hh2).2.2
        have hk128 := nd_h_le rq
        have hne : 0 < (cutP p k q.lo').length + (cutP p k q.hi').length := by
          rcases cut_side (nd_ok rp) (nd_ok rq) (by omega) ((has_nd rq rp).1 h') (fun e => h ((has_nd rp rq).2 e)) with ⟨e1, e2⟩ | ⟨e1, e2⟩
          · rw [← nd_hi rq hlt] at e1 e2
            have := cutP_one (k := k) (fun e => e1 ((has_nd rp (hi_R rq hlt)).1 e)) (fun e => e2 ((has_nd (hi_R rq hlt) rp).1 e))
            omega
          · rw [← nd_lo rq hlt] at e1 e2
            have := cutP_one (k := k) (fun e => e1 ((has_nd rp (lo_R rq hlt)).1 e)) (fun e => e2 ((has_nd (lo_R rq hlt) rp).1 e))
            omega
        rw [cutP, if_neg h, if_pos h']
        exact scut_half p q w rp rq (by simpa using h) h' hlt _ _ (by omega) (by omega) hne (fun w => scut_any p rp k q.lo' w (lo_R rq hlt) hh1) (fun w => scut_any p rp k q.hi' w (hi_R rq hlt) hh2)
      · rw [cutP, if_neg h, if_neg h']; exact scut_none p q w rp rq (by simpa using h) (by simpa using h')
end Go.Proofs.Ytlgdkdplkdkkdaa
