/- yardarmlaw.PrefixEnds, its walks, a road each. -/
import Derived.Test.YtflbcgpcgjnhgabGreatDoorPBb
set_option linter.unusedVariables false
set_option linter.unusedSimpArgs false
namespace Go.Proofs.YtflbcgpcgjnhgabGreatDoor
open Go.RowKit

theorem wide_any (v : Bool) (hi lo : Int) (w : World) :
    Calls Tryz.prog 24 #[.agg #[.bool v, .int .u64 hi, .int .u64 lo]] w fun e w' => e = .returned (.int .i64 (wid v)) ∧ ∃ c, w' = w.alloc (.cells c 24) := by
  cases v
  all_goals
    go_enter Tryz.func24, Tryz.ntmps24
    go_wp2
    simp [bodyPost, results, Tryz.results24, go_sem, wid]
    exact ⟨_, rfl⟩
theorem host_any (v : Bool) (hi lo : Int) (w : World) :
    Calls Tryz.prog 9 #[.agg #[.bool v, .int .u64 hi, .int .u64 lo]] w fun e w' => e = .returned (.agg #[.bool v, .int .u64 hi, .int .u64 lo, .int .i64 (wid v)]) ∧ Below w.heap.size w w' := by
  have hW : Hid (∀ w : World, Calls Tryz.prog 24 #[.agg #[.bool v, .int .u64 hi, .int .u64 lo]] w fun e w' => e = .returned (.int .i64 (wid v)) ∧ ∃ c, w' = w.alloc (.cells c 24)) := fun w => wide_any v hi lo w
  generalize wid v = d at *
  go_enter Tryz.func9, Tryz.ntmps9
  go_wp2_with fail
  first
  | (refine (hW.out _).mono ?_; rintro e w1 ⟨rfl, c, rfl⟩)
  | (go_region_with (go_at_call 24; refine (hW.out _).mono ?_; rintro e w1 ⟨rfl, c, rfl⟩))
  all_goals
    go_wp2
    refine bodyPost_ret (v := .agg #[.bool v, .int .u64 hi, .int .u64 lo, .int .i64 d]) ?_ rfl ⟨rfl, ?_⟩
    · simp [results, Tryz.results9, go_sem]
    · repeat (first | exact Below.refl _ _ | apply bal | apply Below.drew)

theorem keepE {w W W' : World} {p q x y : Nat} {v : Bool} {hi lo b : Int} {u : Bool} {ai ao : Int} {x0 y0 : Bool} {x1 x2 y1 y2 : Int}
    (h : (W.cell? ⟨p, 0, none⟩ = some (.bool v) ∧ W.cell? ⟨p, 1, none⟩ = some (.int .u64 hi) ∧ W.cell? ⟨p, 2, none⟩ = some (.int .u64 lo) ∧ W.cell? ⟨p, 3, none⟩ = some (.int .i64 b) ∧ p < W.heap.size) ∧ (W.cell? ⟨q, 0, none⟩ = some (.bool u) ∧ W.cell? ⟨q, 1, none⟩ = some (.int .u64 ai) ∧ W.cell? ⟨q, 2, none⟩ = some (.int .u64 ao) ∧ q < W.heap.size) ∧ (W.cell? ⟨x, 0, none⟩ = some (.bool x0) ∧ W.cell? ⟨x, 1, none⟩ = some (.int .u64 x1) ∧ W.cell? ⟨x, 2, none⟩ = some (.int .u64 x2) ∧ x < W.heap.size) ∧ (W.cell? ⟨y, 0, none⟩ = some (.bool y0) ∧ W.cell? ⟨y, 1, none⟩ = some (.int .u64 y1) ∧ W.cell? ⟨y, 2, none⟩ = some (.int .u64 y2) ∧ y < W.heap.size) ∧ Below w.heap.size w W)
    (hb : Below W.heap.size W W') :
    (W'.cell? ⟨p, 0, none⟩ = some (.bool v) ∧ W'.cell? ⟨p, 1, none⟩ = some (.int .u64 hi) ∧ W'.cell? ⟨p, 2, none⟩ = some (.int .u64 lo) ∧ W'.cell? ⟨p, 3, none⟩ = some (.int .i64 b) ∧ p < W'.heap.size) ∧ (W'.cell? ⟨q, 0, none⟩ = some (.bool u) ∧ W'.cell? ⟨q, 1, none⟩ = some (.int .u64 ai) ∧ W'.cell? ⟨q, 2, none⟩ = some (.int .u64 ao) ∧ q < W'.heap.size) ∧ (W'.cell? ⟨x, 0, none⟩ = some (.bool x0) ∧ W'.cell? ⟨x, 1, none⟩ = some (.int .u64 x1) ∧ W'.cell? ⟨x, 2, none⟩ = some (.int .u64 x2) ∧ x < W'.heap.size) ∧ (W'.cell? ⟨y, 0, none⟩ = some (.bool y0) ∧ W'.cell? ⟨y, 1, none⟩ = some (.int .u64 y1) ∧ W'.cell? ⟨y, 2, none⟩ = some (.int .u64 y2) ∧ y < W'.heap.size) ∧ Below w.heap.size w W' :=
  ⟨Has4.below h.1 hb, Has3.below h.2.1 hb, Has3.below h.2.2.1 hb, Has3.below h.2.2.2.1 hb, btr h.2.2.2.2 hb⟩

set_option maxHeartbeats 32000000 in
set_option maxRecDepth 100000 in
theorem ends_bad' (v : Bool) (hi lo b : Int) (u : Bool) (ai ao lh ll k : Int) (mm : Bool) (w : World) (hg : Good w)
    (h1 : Hid (∀ w : World, Calls Tryz.prog 6 #[.agg #[.bool v, .int .u64 hi, .int .u64 lo, .int .i64 b]] w fun e w' => e = .returned (.tuple #[.agg #[.bool false, .int .u64 0, .int .u64 0], .agg #[.bool false, .int .u64 0, .int .u64 0], .int .i64 k]) ∧ Below w.heap.size w w'))
    (hk : (k != 0) = true) (hk0 : (k == 0) = false)
    : Calls Tryz.prog 3 #[.agg #[.bool v, .int .u64 hi, .int .u64 lo, .int .i64 b], .agg #[.bool u, .int .u64 ai, .int .u64 ao]] w fun e w' => e = .returned (.bool true) ∧ Below w.heap.size w w' := by
  have hB1 : Hid (∀ w : World, Good w → Calls Tryz.prog 4 #[] w fun e w' => e = .returned (.bool true) ∧ Below w.heap.size w w') := fun w => pbegun_any w
  have hB2 : Hid (∀ w : World, Good w → Calls Tryz.prog 5 #[] w fun e w' => e = .returned (.bool true) ∧ Below w.heap.size w w') := fun w => begun_any w
  have hZ := eql_addr false 0 0 false 0 0
  rw [show eqA false 0 0 false 0 0 = true by decide +kernel] at hZ
  have HG : Hid (∀ w1 : World, Below w.heap.size w w1 → Good w1) := fun w1 h => hg.below h
  have B : Hid (Below w.heap.size w w) := Below.refl _ _
  clear hg
  replace B : Hid (Below w.heap.size w ((w.alloc (.cells #[.bool v, .int .u64 hi, .int .u64 lo, .int .i64 b] 26)).alloc (.cells #[.bool u, .int .u64 ai, .int .u64 ao] 24))) := bal (bal (B.out) _) _
  have P : Hid (Has4 ((w.alloc (.cells #[.bool v, .int .u64 hi, .int .u64 lo, .int .i64 b] 26)).alloc (.cells #[.bool u, .int .u64 ai, .int .u64 ao] 24)) (w.heap.size) v hi lo b) := (Has4.new w v hi lo b 26).alloc (.cells #[.bool u, .int .u64 ai, .int .u64 ao] 24)
  have A1 : Hid (Has3 ((w.alloc (.cells #[.bool v, .int .u64 hi, .int .u64 lo, .int .i64 b] 26)).alloc (.cells #[.bool u, .int .u64 ai, .int .u64 ao] 24)) (w.heap.size + 1) (.bool u) (.int .u64 ai) (.int .u64 ao)) := by
    have := Has3.new (w.alloc (.cells #[.bool v, .int .u64 hi, .int .u64 lo, .int .i64 b] 26)) (.bool u) (.int .u64 ai) (.int .u64 ao) 24
    rw [show (w.alloc (.cells #[.bool v, .int .u64 hi, .int .u64 lo, .int .i64 b] 26)).heap.size = w.heap.size + 1 by simp] at this
    exact this
  go_enter Tryz.func3, Tryz.ntmps3
  go_wp2_with fail
  generalize ((w.alloc (.cells #[.bool v, .int .u64 hi, .int .u64 lo, .int .i64 b] 26)).alloc (.cells #[.bool u, .int .u64 ai, .int .u64 ao] 24)) = W0 at *
  refine (hB1.out _ (HG.out _ B.out)).mono ?_
  rintro e w1 ⟨rfl, hb⟩
  replace B : Hid (Below w.heap.size w w1) := btr B.out hb
  replace P : Hid (Has4 w1 (w.heap.size) v hi lo b) := P.out.below hb
  replace A1 : Hid (Has3 w1 (w.heap.size + 1) (.bool u) (.int .u64 ai) (.int .u64 ao)) := A1.out.below hb
  clear hb
  go_wp2_with fail
  refine (hB2.out _ (HG.out _ B.out)).mono ?_
  rintro e w2 ⟨rfl, hb⟩
  replace B : Hid (Below w.heap.size w w2) := btr B.out hb
  replace P : Hid (Has4 w2 (w.heap.size) v hi lo b) := P.out.below hb
  replace A1 : Hid (Has3 w2 (w.heap.size + 1) (.bool u) (.int .u64 ai) (.int .u64 ao)) := A1.out.below hb
  clear hb
  obtain ⟨P0, P1, P2, P3, P4⟩ := P.out
  go_wp2_with fail
  refine (h1.out _).mono ?_
  clear P0 P1 P2 P3 P4 
  rintro e w3 ⟨rfl, hb⟩
  replace B : Hid (Below w.heap.size w w3) := btr B.out hb
  replace P : Hid (Has4 w3 (w.heap.size) v hi lo b) := P.out.below hb
  replace A1 : Hid (Has3 w3 (w.heap.size + 1) (.bool u) (.int .u64 ai) (.int .u64 ao)) := A1.out.below hb
  clear hb
  replace P : Hid (Has4 ((w3.alloc (.cells #[.bool false, .int .u64 0, .int .u64 0] 24)).alloc (.cells #[.bool false, .int .u64 0, .int .u64 0] 24)) (w.heap.size) v hi lo b) := ((P.out).alloc (.cells #[.bool false, .int .u64 0, .int .u64 0] 24)).alloc (.cells #[.bool false, .int .u64 0, .int .u64 0] 24)
  replace A1 : Hid (Has3 ((w3.alloc (.cells #[.bool false, .int .u64 0, .int .u64 0] 24)).alloc (.cells #[.bool false, .int .u64 0, .int .u64 0] 24)) (w.heap.size + 1) (.bool u) (.int .u64 ai) (.int .u64 ao)) := ((A1.out).alloc (.cells #[.bool false, .int .u64 0, .int .u64 0] 24)).alloc (.cells #[.bool false, .int .u64 0, .int .u64 0] 24)
  replace B : Hid (Below w.heap.size w ((w3.alloc (.cells #[.bool false, .int .u64 0, .int .u64 0] 24)).alloc (.cells #[.bool false, .int .u64 0, .int .u64 0] 24))) := bal (bal (B.out) _) _
  have X : Hid (Has3 ((w3.alloc (.cells #[.bool false, .int .u64 0, .int .u64 0] 24)).alloc (.cells #[.bool false, .int .u64 0, .int .u64 0] 24)) (w3.heap.size) (.bool false) (.int .u64 0) (.int .u64 0)) := (Has3.new w3 (.bool false) (.int .u64 0) (.int .u64 0) 24).alloc (.cells #[.bool false, .int .u64 0, .int .u64 0] 24)
  have Y : Hid (Has3 ((w3.alloc (.cells #[.bool false, .int .u64 0, .int .u64 0] 24)).alloc (.cells #[.bool false, .int .u64 0, .int .u64 0] 24)) (w3.heap.size + 1) (.bool false) (.int .u64 0) (.int .u64 0)) := by
    have := Has3.new (w3.alloc (.cells #[.bool false, .int .u64 0, .int .u64 0] 24)) (.bool false) (.int .u64 0) (.int .u64 0) 24
    rw [show (w3.alloc (.cells #[.bool false, .int .u64 0, .int .u64 0] 24)).heap.size = w3.heap.size + 1 by simp] at this
    exact this
  obtain ⟨P0, P1, P2, P3, P4⟩ := P.out
  obtain ⟨A10, A11, A12, A13⟩ := A1.out
  obtain ⟨X0, X1, X2, X3⟩ := X.out
  go_wp2
  go_ret
  exact ⟨rfl, B.out⟩

set_option maxHeartbeats 32000000 in
set_option maxRecDepth 100000 in
theorem ends_bada (v : Bool) (hi lo b : Int) (u : Bool) (ai ao lh ll k : Int) (mm : Bool) (w : World) (hg : Good w)
    (h1 : Hid (∀ w : World, Calls Tryz.prog 6 #[.agg #[.bool v, .int .u64 hi, .int .u64 lo, .int .i64 b]] w fun e w' => e = .returned (.tuple #[.agg #[.bool v, .int .u64 hi, .int .u64 lo], .agg #[.bool v, .int .u64 lh, .int .u64 ll], .int .i64 0]) ∧ Below w.heap.size w w'))
    (h2 : Hid (∀ w : World, Calls Tryz.prog 7 #[.agg #[.bool u, .int .u64 ai, .int .u64 ao]] w fun e w' => e = .returned (.int .i64 3) ∧ Below w.heap.size w w'))
    : Calls Tryz.prog 3 #[.agg #[.bool v, .int .u64 hi, .int .u64 lo, .int .i64 b], .agg #[.bool u, .int .u64 ai, .int .u64 ao]] w fun e w' => e = .returned (.bool true) ∧ Below w.heap.size w w' := by
  have hB1 : Hid (∀ w : World, Good w → Calls Tryz.prog 4 #[] w fun e w' => e = .returned (.bool true) ∧ Below w.heap.size w w') := fun w => pbegun_any w
  have hB2 : Hid (∀ w : World, Good w → Calls Tryz.prog 5 #[] w fun e w' => e = .returned (.bool true) ∧ Below w.heap.size w w') := fun w => begun_any w
  have HG : Hid (∀ w1 : World, Below w.heap.size w w1 → Good w1) := fun w1 h => hg.below h
  have B : Hid (Below w.heap.size w w) := Below.refl _ _
  clear hg
  replace B : Hid (Below w.heap.size w ((w.alloc (.cells #[.bool v, .int .u64 hi, .int .u64 lo, .int .i64 b] 26)).alloc (.cells #[.bool u, .int .u64 ai, .int .u64 ao] 24))) := bal (bal (B.out) _) _
  have P : Hid (Has4 ((w.alloc (.cells #[.bool v, .int .u64 hi, .int .u64 lo, .int .i64 b] 26)).alloc (.cells #[.bool u, .int .u64 ai, .int .u64 ao] 24)) (w.heap.size) v hi lo b) := (Has4.new w v hi lo b 26).alloc (.cells #[.bool u, .int .u64 ai, .int .u64 ao] 24)
  have A1 : Hid (Has3 ((w.alloc (.cells #[.bool v, .int .u64 hi, .int .u64 lo, .int .i64 b] 26)).alloc (.cells #[.bool u, .int .u64 ai, .int .u64 ao] 24)) (w.heap.size + 1) (.bool u) (.int .u64 ai) (.int .u64 ao)) := by
    have := Has3.new (w.alloc (.cells #[.bool v, .int .u64 hi, .int .u64 lo, .int .i64 b] 26)) (.bool u) (.int .u64 ai) (.int .u64 ao) 24
    rw [show (w.alloc (.cells #[.bool v, .int .u64 hi, .int .u64 lo, .int .i64 b] 26)).heap.size = w.heap.size + 1 by simp] at this
    exact this
  go_enter Tryz.func3, Tryz.ntmps3
  go_wp2_with fail
  generalize ((w.alloc (.cells #[.bool v, .int .u64 hi, .int .u64 lo, .int .i64 b] 26)).alloc (.cells #[.bool u, .int .u64 ai, .int .u64 ao] 24)) = W0 at *
  refine (hB1.out _ (HG.out _ B.out)).mono ?_
  rintro e w1 ⟨rfl, hb⟩
  replace B : Hid (Below w.heap.size w w1) := btr B.out hb
  replace P : Hid (Has4 w1 (w.heap.size) v hi lo b) := P.out.below hb
  replace A1 : Hid (Has3 w1 (w.heap.size + 1) (.bool u) (.int .u64 ai) (.int .u64 ao)) := A1.out.below hb
  clear hb
  go_wp2_with fail
  refine (hB2.out _ (HG.out _ B.out)).mono ?_
  rintro e w2 ⟨rfl, hb⟩
  replace B : Hid (Below w.heap.size w w2) := btr B.out hb
  replace P : Hid (Has4 w2 (w.heap.size) v hi lo b) := P.out.below hb
  replace A1 : Hid (Has3 w2 (w.heap.size + 1) (.bool u) (.int .u64 ai) (.int .u64 ao)) := A1.out.below hb
  clear hb
  obtain ⟨P0, P1, P2, P3, P4⟩ := P.out
  go_wp2_with fail
  refine (h1.out _).mono ?_
  clear P0 P1 P2 P3 P4 
  rintro e w3 ⟨rfl, hb⟩
  replace B : Hid (Below w.heap.size w w3) := btr B.out hb
  replace P : Hid (Has4 w3 (w.heap.size) v hi lo b) := P.out.below hb
  replace A1 : Hid (Has3 w3 (w.heap.size + 1) (.bool u) (.int .u64 ai) (.int .u64 ao)) := A1.out.below hb
  clear hb
  replace P : Hid (Has4 ((w3.alloc (.cells #[.bool v, .int .u64 hi, .int .u64 lo] 24)).alloc (.cells #[.bool v, .int .u64 lh, .int .u64 ll] 24)) (w.heap.size) v hi lo b) := ((P.out).alloc (.cells #[.bool v, .int .u64 hi, .int .u64 lo] 24)).alloc (.cells #[.bool v, .int .u64 lh, .int .u64 ll] 24)
  replace A1 : Hid (Has3 ((w3.alloc (.cells #[.bool v, .int .u64 hi, .int .u64 lo] 24)).alloc (.cells #[.bool v, .int .u64 lh, .int .u64 ll] 24)) (w.heap.size + 1) (.bool u) (.int .u64 ai) (.int .u64 ao)) := ((A1.out).alloc (.cells #[.bool v, .int .u64 hi, .int .u64 lo] 24)).alloc (.cells #[.bool v, .int .u64 lh, .int .u64 ll] 24)
  replace B : Hid (Below w.heap.size w ((w3.alloc (.cells #[.bool v, .int .u64 hi, .int .u64 lo] 24)).alloc (.cells #[.bool v, .int .u64 lh, .int .u64 ll] 24))) := bal (bal (B.out) _) _
  have X : Hid (Has3 ((w3.alloc (.cells #[.bool v, .int .u64 hi, .int .u64 lo] 24)).alloc (.cells #[.bool v, .int .u64 lh, .int .u64 ll] 24)) (w3.heap.size) (.bool v) (.int .u64 hi) (.int .u64 lo)) := (Has3.new w3 (.bool v) (.int .u64 hi) (.int .u64 lo) 24).alloc (.cells #[.bool v, .int .u64 lh, .int .u64 ll] 24)
  have Y : Hid (Has3 ((w3.alloc (.cells #[.bool v, .int .u64 hi, .int .u64 lo] 24)).alloc (.cells #[.bool v, .int .u64 lh, .int .u64 ll] 24)) (w3.heap.size + 1) (.bool v) (.int .u64 lh) (.int .u64 ll)) := by
    have := Has3.new (w3.alloc (.cells #[.bool v, .int .u64 hi, .int .u64 lo] 24)) (.bool v) (.int .u64 lh) (.int .u64 ll) 24
    rw [show (w3.alloc (.cells #[.bool v, .int .u64 hi, .int .u64 lo] 24)).heap.size = w3.heap.size + 1 by simp] at this
    exact this
  obtain ⟨A10, A11, A12, A13⟩ := A1.out
  go_wp2_with fail
  generalize ((w3.alloc (.cells #[.bool v, .int .u64 hi, .int .u64 lo] 24)).alloc (.cells #[.bool v, .int .u64 lh, .int .u64 ll] 24)) = W3 at *
  generalize w3.heap.size = m3 at *
  refine (h2.out _).mono ?_
  clear A10 A11 A12 A13 
  rintro e w4 ⟨rfl, hb⟩
  replace B : Hid (Below w.heap.size w w4) := btr B.out hb
  replace P : Hid (Has4 w4 (w.heap.size) v hi lo b) := P.out.below hb
  replace A1 : Hid (Has3 w4 (w.heap.size + 1) (.bool u) (.int .u64 ai) (.int .u64 ao)) := A1.out.below hb
  replace X : Hid (Has3 w4 (m3) (.bool v) (.int .u64 hi) (.int .u64 lo)) := X.out.below hb
  replace Y : Hid (Has3 w4 (m3 + 1) (.bool v) (.int .u64 lh) (.int .u64 ll)) := Y.out.below hb
  clear hb
  obtain ⟨X0, X1, X2, X3⟩ := X.out
  go_wp2
  go_ret
  exact ⟨rfl, B.out⟩

set_option maxHeartbeats 32000000 in
set_option maxRecDepth 100000 in
theorem ends_in (v : Bool) (hi lo b : Int) (u : Bool) (ai ao lh ll k : Int) (mm : Bool) (w : World) (hg : Good w)
    (h1 : Hid (∀ w : World, Calls Tryz.prog 6 #[.agg #[.bool v, .int .u64 hi, .int .u64 lo, .int .i64 b]] w fun e w' => e = .returned (.tuple #[.agg #[.bool v, .int .u64 hi, .int .u64 lo], .agg #[.bool v, .int .u64 lh, .int .u64 ll], .int .i64 0]) ∧ Below w.heap.size w w'))
    (h2 : Hid (∀ w : World, Calls Tryz.prog 7 #[.agg #[.bool u, .int .u64 ai, .int .u64 ao]] w fun e w' => e = .returned (.int .i64 0) ∧ Below w.heap.size w w'))
    (h3 : Hid (∀ w : World, Calls Tryz.prog 9 #[.agg #[.bool u, .int .u64 ai, .int .u64 ao]] w fun e w' => e = .returned (.agg #[.bool u, .int .u64 ai, .int .u64 ao, .int .i64 (wid u)]) ∧ Below w.heap.size w w'))
    (h4 : Hid (∀ w : World, Calls Tryz.prog 8 #[.agg #[.bool v, .int .u64 hi, .int .u64 lo, .int .i64 b], .agg #[.bool u, .int .u64 ai, .int .u64 ao, .int .i64 (wid u)]] w fun e w' => e = .returned (.tuple #[.bool true, .int .i64 0]) ∧ Below w.heap.size w w'))
    (h5 : Hid (∀ w : World, Calls Tryz.prog 10 #[.agg #[.bool u, .int .u64 ai, .int .u64 ao], .agg #[.bool v, .int .u64 hi, .int .u64 lo]] w fun e w' => e = .returned (.tuple #[.bool false, .int .i64 0]) ∧ Below w.heap.size w w'))
    (h6 : Hid (∀ w : World, Calls Tryz.prog 10 #[.agg #[.bool v, .int .u64 lh, .int .u64 ll], .agg #[.bool u, .int .u64 ai, .int .u64 ao]] w fun e w' => e = .returned (.tuple #[.bool false, .int .i64 0]) ∧ Below w.heap.size w w'))
    : Calls Tryz.prog 3 #[.agg #[.bool v, .int .u64 hi, .int .u64 lo, .int .i64 b], .agg #[.bool u, .int .u64 ai, .int .u64 ao]] w fun e w' => e = .returned (.bool true) ∧ Below w.heap.size w w' := by
  have hB1 : Hid (∀ w : World, Good w → Calls Tryz.prog 4 #[] w fun e w' => e = .returned (.bool true) ∧ Below w.heap.size w w') := fun w => pbegun_any w
  have hB2 : Hid (∀ w : World, Good w → Calls Tryz.prog 5 #[] w fun e w' => e = .returned (.bool true) ∧ Below w.heap.size w w') := fun w => begun_any w
  have HG : Hid (∀ w1 : World, Below w.heap.size w w1 → Good w1) := fun w1 h => hg.below h
  have B : Hid (Below w.heap.size w w) := Below.refl _ _
  clear hg
  replace B : Hid (Below w.heap.size w ((w.alloc (.cells #[.bool v, .int .u64 hi, .int .u64 lo, .int .i64 b] 26)).alloc (.cells #[.bool u, .int .u64 ai, .int .u64 ao] 24))) := bal (bal (B.out) _) _
  have P : Hid (Has4 ((w.alloc (.cells #[.bool v, .int .u64 hi, .int .u64 lo, .int .i64 b] 26)).alloc (.cells #[.bool u, .int .u64 ai, .int .u64 ao] 24)) (w.heap.size) v hi lo b) := (Has4.new w v hi lo b 26).alloc (.cells #[.bool u, .int .u64 ai, .int .u64 ao] 24)
  have A1 : Hid (Has3 ((w.alloc (.cells #[.bool v, .int .u64 hi, .int .u64 lo, .int .i64 b] 26)).alloc (.cells #[.bool u, .int .u64 ai, .int .u64 ao] 24)) (w.heap.size + 1) (.bool u) (.int .u64 ai) (.int .u64 ao)) := by
    have := Has3.new (w.alloc (.cells #[.bool v, .int .u64 hi, .int .u64 lo, .int .i64 b] 26)) (.bool u) (.int .u64 ai) (.int .u64 ao) 24
    rw [show (w.alloc (.cells #[.bool v, .int .u64 hi, .int .u64 lo, .int .i64 b] 26)).heap.size = w.heap.size + 1 by simp] at this
    exact this
  go_enter Tryz.func3, Tryz.ntmps3
  go_wp2_with fail
  generalize ((w.alloc (.cells #[.bool v, .int .u64 hi, .int .u64 lo, .int .i64 b] 26)).alloc (.cells #[.bool u, .int .u64 ai, .int .u64 ao] 24)) = W0 at *
  refine (hB1.out _ (HG.out _ B.out)).mono ?_
  rintro e w1 ⟨rfl, hb⟩
  replace B : Hid (Below w.heap.size w w1) := btr B.out hb
  replace P : Hid (Has4 w1 (w.heap.size) v hi lo b) := P.out.below hb
  replace A1 : Hid (Has3 w1 (w.heap.size + 1) (.bool u) (.int .u64 ai) (.int .u64 ao)) := A1.out.below hb
  clear hb
  go_wp2_with fail
  refine (hB2.out _ (HG.out _ B.out)).mono ?_
  rintro e w2 ⟨rfl, hb⟩
  replace B : Hid (Below w.heap.size w w2) := btr B.out hb
  replace P : Hid (Has4 w2 (w.heap.size) v hi lo b) := P.out.below hb
  replace A1 : Hid (Has3 w2 (w.heap.size + 1) (.bool u) (.int .u64 ai) (.int .u64 ao)) := A1.out.below hb
  clear hb
  obtain ⟨P0, P1, P2, P3, P4⟩ := P.out
  go_wp2_with fail
  refine (h1.out _).mono ?_
  clear P0 P1 P2 P3 P4 
  rintro e w3 ⟨rfl, hb⟩
  replace B : Hid (Below w.heap.size w w3) := btr B.out hb
  replace P : Hid (Has4 w3 (w.heap.size) v hi lo b) := P.out.below hb
  replace A1 : Hid (Has3 w3 (w.heap.size + 1) (.bool u) (.int .u64 ai) (.int .u64 ao)) := A1.out.below hb
  clear hb
  replace P : Hid (Has4 ((w3.alloc (.cells #[.bool v, .int .u64 hi, .int .u64 lo] 24)).alloc (.cells #[.bool v, .int .u64 lh, .int .u64 ll] 24)) (w.heap.size) v hi lo b) := ((P.out).alloc (.cells #[.bool v, .int .u64 hi, .int .u64 lo] 24)).alloc (.cells #[.bool v, .int .u64 lh, .int .u64 ll] 24)
  replace A1 : Hid (Has3 ((w3.alloc (.cells #[.bool v, .int .u64 hi, .int .u64 lo] 24)).alloc (.cells #[.bool v, .int .u64 lh, .int .u64 ll] 24)) (w.heap.size + 1) (.bool u) (.int .u64 ai) (.int .u64 ao)) := ((A1.out).alloc (.cells #[.bool v, .int .u64 hi, .int .u64 lo] 24)).alloc (.cells #[.bool v, .int .u64 lh, .int .u64 ll] 24)
  replace B : Hid (Below w.heap.size w ((w3.alloc (.cells #[.bool v, .int .u64 hi, .int .u64 lo] 24)).alloc (.cells #[.bool v, .int .u64 lh, .int .u64 ll] 24))) := bal (bal (B.out) _) _
  have X : Hid (Has3 ((w3.alloc (.cells #[.bool v, .int .u64 hi, .int .u64 lo] 24)).alloc (.cells #[.bool v, .int .u64 lh, .int .u64 ll] 24)) (w3.heap.size) (.bool v) (.int .u64 hi) (.int .u64 lo)) := (Has3.new w3 (.bool v) (.int .u64 hi) (.int .u64 lo) 24).alloc (.cells #[.bool v, .int .u64 lh, .int .u64 ll] 24)
  have Y : Hid (Has3 ((w3.alloc (.cells #[.bool v, .int .u64 hi, .int .u64 lo] 24)).alloc (.cells #[.bool v, .int .u64 lh, .int .u64 ll] 24)) (w3.heap.size + 1) (.bool v) (.int .u64 lh) (.int .u64 ll)) := by
    have := Has3.new (w3.alloc (.cells #[.bool v, .int .u64 hi, .int .u64 lo] 24)) (.bool v) (.int .u64 lh) (.int .u64 ll) 24
    rw [show (w3.alloc (.cells #[.bool v, .int .u64 hi, .int .u64 lo] 24)).heap.size = w3.heap.size + 1 by simp] at this
    exact this
  obtain ⟨A10, A11, A12, A13⟩ := A1.out
  go_wp2_with fail
  generalize ((w3.alloc (.cells #[.bool v, .int .u64 hi, .int .u64 lo] 24)).alloc (.cells #[.bool v, .int .u64 lh, .int .u64 ll] 24)) = W3 at *
  generalize w3.heap.size = m3 at *
  refine (h2.out _).mono ?_
  clear A10 A11 A12 A13 
  rintro e w4 ⟨rfl, hb⟩
  replace B : Hid (Below w.heap.size w w4) := btr B.out hb
  replace P : Hid (Has4 w4 (w.heap.size) v hi lo b) := P.out.below hb
  replace A1 : Hid (Has3 w4 (w.heap.size + 1) (.bool u) (.int .u64 ai) (.int .u64 ao)) := A1.out.below hb
  replace X : Hid (Has3 w4 (m3) (.bool v) (.int .u64 hi) (.int .u64 lo)) := X.out.below hb
  replace Y : Hid (Has3 w4 (m3 + 1) (.bool v) (.int .u64 lh) (.int .u64 ll)) := Y.out.below hb
  clear hb
  go_wp2_with fail
  have HS : Hid ((w4.drew.cell? ⟨w.heap.size, 0, none⟩ = some (.bool v) ∧ w4.drew.cell? ⟨w.heap.size, 1, none⟩ = some (.int .u64 hi) ∧ w4.drew.cell? ⟨w.heap.size, 2, none⟩ = some (.int .u64 lo) ∧ w4.drew.cell? ⟨w.heap.size, 3, none⟩ = some (.int .i64 b) ∧ w.heap.size < w4.drew.heap.size) ∧ (w4.drew.cell? ⟨w.heap.size + 1, 0, none⟩ = some (.bool u) ∧ w4.drew.cell? ⟨w.heap.size + 1, 1, none⟩ = some (.int .u64 ai) ∧ w4.drew.cell? ⟨w.heap.size + 1, 2, none⟩ = some (.int .u64 ao) ∧ w.heap.size + 1 < w4.drew.heap.size) ∧ (w4.drew.cell? ⟨m3, 0, none⟩ = some (.bool v) ∧ w4.drew.cell? ⟨m3, 1, none⟩ = some (.int .u64 hi) ∧ w4.drew.cell? ⟨m3, 2, none⟩ = some (.int .u64 lo) ∧ m3 < w4.drew.heap.size) ∧ (w4.drew.cell? ⟨m3 + 1, 0, none⟩ = some (.bool v) ∧ w4.drew.cell? ⟨m3 + 1, 1, none⟩ = some (.int .u64 lh) ∧ w4.drew.cell? ⟨m3 + 1, 2, none⟩ = some (.int .u64 ll) ∧ m3 + 1 < w4.drew.heap.size) ∧ Below w.heap.size w w4.drew) := ⟨P.out, A1.out, X.out, Y.out, B.out.drew⟩
  clear P A1 X Y B
  go_region_held3 (fun w' => (w'.cell? ⟨w.heap.size, 0, none⟩ = some (.bool v) ∧ w'.cell? ⟨w.heap.size, 1, none⟩ = some (.int .u64 hi) ∧ w'.cell? ⟨w.heap.size, 2, none⟩ = some (.int .u64 lo) ∧ w'.cell? ⟨w.heap.size, 3, none⟩ = some (.int .i64 b) ∧ w.heap.size < w'.heap.size) ∧ (w'.cell? ⟨w.heap.size + 1, 0, none⟩ = some (.bool u) ∧ w'.cell? ⟨w.heap.size + 1, 1, none⟩ = some (.int .u64 ai) ∧ w'.cell? ⟨w.heap.size + 1, 2, none⟩ = some (.int .u64 ao) ∧ w.heap.size + 1 < w'.heap.size) ∧ (w'.cell? ⟨m3, 0, none⟩ = some (.bool v) ∧ w'.cell? ⟨m3, 1, none⟩ = some (.int .u64 hi) ∧ w'.cell? ⟨m3, 2, none⟩ = some (.int .u64 lo) ∧ m3 < w'.heap.size) ∧ (w'.cell? ⟨m3 + 1, 0, none⟩ = some (.bool v) ∧ w'.cell? ⟨m3 + 1, 1, none⟩ = some (.int .u64 lh) ∧ w'.cell? ⟨m3 + 1, 2, none⟩ = some (.int .u64 ll) ∧ m3 + 1 < w'.heap.size) ∧ Below w.heap.size w w')
    (first | exact HS.out | exact keepE (by assumption) (by assumption))
    (first
      | (go_at_call 9; refine (h3.out _).mono ?_; rintro e w9 ⟨rfl, hb⟩)
      | (go_at_call 8; refine (h4.out _).mono ?_; rintro e w9 ⟨rfl, hb⟩))
  obtain ⟨P, A1, X, Y, B⟩ : (w9.cell? ⟨w.heap.size, 0, none⟩ = some (.bool v) ∧ w9.cell? ⟨w.heap.size, 1, none⟩ = some (.int .u64 hi) ∧ w9.cell? ⟨w.heap.size, 2, none⟩ = some (.int .u64 lo) ∧ w9.cell? ⟨w.heap.size, 3, none⟩ = some (.int .i64 b) ∧ w.heap.size < w9.heap.size) ∧ (w9.cell? ⟨w.heap.size + 1, 0, none⟩ = some (.bool u) ∧ w9.cell? ⟨w.heap.size + 1, 1, none⟩ = some (.int .u64 ai) ∧ w9.cell? ⟨w.heap.size + 1, 2, none⟩ = some (.int .u64 ao) ∧ w.heap.size + 1 < w9.heap.size) ∧ (w9.cell? ⟨m3, 0, none⟩ = some (.bool v) ∧ w9.cell? ⟨m3, 1, none⟩ = some (.int .u64 hi) ∧ w9.cell? ⟨m3, 2, none⟩ = some (.int .u64 lo) ∧ m3 < w9.heap.size) ∧ (w9.cell? ⟨m3 + 1, 0, none⟩ = some (.bool v) ∧ w9.cell? ⟨m3 + 1, 1, none⟩ = some (.int .u64 lh) ∧ w9.cell? ⟨m3 + 1, 2, none⟩ = some (.int .u64 ll) ∧ m3 + 1 < w9.heap.size) ∧ Below w.heap.size w w9 := by assumption
  replace P : Hid (Has4 w9 (w.heap.size) v hi lo b) := P
  replace A1 : Hid (Has3 w9 (w.heap.size + 1) (.bool u) (.int .u64 ai) (.int .u64 ao)) := A1
  replace X : Hid (Has3 w9 (m3) (.bool v) (.int .u64 hi) (.int .u64 lo)) := X
  replace Y : Hid (Has3 w9 (m3 + 1) (.bool v) (.int .u64 lh) (.int .u64 ll)) := Y
  replace B : Hid (Below w.heap.size w w9) := B
  clear HS
  obtain ⟨A10, A11, A12, A13⟩ := A1.out
  obtain ⟨X0, X1, X2, X3⟩ := X.out
  go_wp2_with fail
  refine (h5.out _).mono ?_
  clear A10 A11 A12 A13 X0 X1 X2 X3 
  rintro e w10 ⟨rfl, hb⟩
  replace B : Hid (Below w.heap.size w w10) := btr B.out hb
  replace P : Hid (Has4 w10 (w.heap.size) v hi lo b) := P.out.below hb
  replace A1 : Hid (Has3 w10 (w.heap.size + 1) (.bool u) (.int .u64 ai) (.int .u64 ao)) := A1.out.below hb
  replace X : Hid (Has3 w10 (m3) (.bool v) (.int .u64 hi) (.int .u64 lo)) := X.out.below hb
  replace Y : Hid (Has3 w10 (m3 + 1) (.bool v) (.int .u64 lh) (.int .u64 ll)) := Y.out.below hb
  clear hb
  obtain ⟨A10, A11, A12, A13⟩ := A1.out
  obtain ⟨Y0, Y1, Y2, Y3⟩ := Y.out
  go_wp2_with fail
  refine (h6.out _).mono ?_
  clear A10 A11 A12 A13 Y0 Y1 Y2 Y3 
  rintro e w11 ⟨rfl, hb⟩
  replace B : Hid (Below w.heap.size w w11) := btr B.out hb
  replace P : Hid (Has4 w11 (w.heap.size) v hi lo b) := P.out.below hb
  replace A1 : Hid (Has3 w11 (w.heap.size + 1) (.bool u) (.int .u64 ai) (.int .u64 ao)) := A1.out.below hb
  replace X : Hid (Has3 w11 (m3) (.bool v) (.int .u64 hi) (.int .u64 lo)) := X.out.below hb
  replace Y : Hid (Has3 w11 (m3 + 1) (.bool v) (.int .u64 lh) (.int .u64 ll)) := Y.out.below hb
  clear hb
  go_wp2
  go_ret
  exact ⟨rfl, B.out⟩

set_option maxHeartbeats 32000000 in
set_option maxRecDepth 100000 in
theorem ends_l (v : Bool) (hi lo b : Int) (u : Bool) (ai ao lh ll k : Int) (mm : Bool) (w : World) (hg : Good w)
    (h1 : Hid (∀ w : World, Calls Tryz.prog 6 #[.agg #[.bool v, .int .u64 hi, .int .u64 lo, .int .i64 b]] w fun e w' => e = .returned (.tuple #[.agg #[.bool v, .int .u64 hi, .int .u64 lo], .agg #[.bool v, .int .u64 lh, .int .u64 ll], .int .i64 0]) ∧ Below w.heap.size w w'))
    (h2 : Hid (∀ w : World, Calls Tryz.prog 7 #[.agg #[.bool u, .int .u64 ai, .int .u64 ao]] w fun e w' => e = .returned (.int .i64 0) ∧ Below w.heap.size w w'))
    (h3 : Hid (∀ w : World, Calls Tryz.prog 9 #[.agg #[.bool u, .int .u64 ai, .int .u64 ao]] w fun e w' => e = .returned (.agg #[.bool u, .int .u64 ai, .int .u64 ao, .int .i64 (wid u)]) ∧ Below w.heap.size w w'))
    (h4 : Hid (∀ w : World, Calls Tryz.prog 8 #[.agg #[.bool v, .int .u64 hi, .int .u64 lo, .int .i64 b], .agg #[.bool u, .int .u64 ai, .int .u64 ao, .int .i64 (wid u)]] w fun e w' => e = .returned (.tuple #[.bool false, .int .i64 0]) ∧ Below w.heap.size w w'))
    (h5 : Hid (∀ w : World, Calls Tryz.prog 10 #[.agg #[.bool u, .int .u64 ai, .int .u64 ao], .agg #[.bool v, .int .u64 hi, .int .u64 lo]] w fun e w' => e = .returned (.tuple #[.bool true, .int .i64 0]) ∧ Below w.heap.size w w'))
    (h6 : Hid (∀ w : World, Calls Tryz.prog 10 #[.agg #[.bool v, .int .u64 lh, .int .u64 ll], .agg #[.bool u, .int .u64 ai, .int .u64 ao]] w fun e w' => e = .returned (.tuple #[.bool mm, .int .i64 0]) ∧ Below w.heap.size w w'))
    : Calls Tryz.prog 3 #[.agg #[.bool v, .int .u64 hi, .int .u64 lo, .int .i64 b], .agg #[.bool u, .int .u64 ai, .int .u64 ao]] w fun e w' => e = .returned (.bool true) ∧ Below w.heap.size w w' := by
  have hB1 : Hid (∀ w : World, Good w → Calls Tryz.prog 4 #[] w fun e w' => e = .returned (.bool true) ∧ Below w.heap.size w w') := fun w => pbegun_any w
  have hB2 : Hid (∀ w : World, Good w → Calls Tryz.prog 5 #[] w fun e w' => e = .returned (.bool true) ∧ Below w.heap.size w w') := fun w => begun_any w
  have hx1 : (true && !mm) = !mm := by cases mm <;> rfl
  have HG : Hid (∀ w1 : World, Below w.heap.size w w1 → Good w1) := fun w1 h => hg.below h
  have B : Hid (Below w.heap.size w w) := Below.refl _ _
  clear hg
  replace B : Hid (Below w.heap.size w ((w.alloc (.cells #[.bool v, .int .u64 hi, .int .u64 lo, .int .i64 b] 26)).alloc (.cells #[.bool u, .int .u64 ai, .int .u64 ao] 24))) := bal (bal (B.out) _) _
  have P : Hid (Has4 ((w.alloc (.cells #[.bool v, .int .u64 hi, .int .u64 lo, .int .i64 b] 26)).alloc (.cells #[.bool u, .int .u64 ai, .int .u64 ao] 24)) (w.heap.size) v hi lo b) := (Has4.new w v hi lo b 26).alloc (.cells #[.bool u, .int .u64 ai, .int .u64 ao] 24)
  have A1 : Hid (Has3 ((w.alloc (.cells #[.bool v, .int .u64 hi, .int .u64 lo, .int .i64 b] 26)).alloc (.cells #[.bool u, .int .u64 ai, .int .u64 ao] 24)) (w.heap.size + 1) (.bool u) (.int .u64 ai) (.int .u64 ao)) := by
    have := Has3.new (w.alloc (.cells #[.bool v, .int .u64 hi, .int .u64 lo, .int .i64 b] 26)) (.bool u) (.int .u64 ai) (.int .u64 ao) 24
    rw [show (w.alloc (.cells #[.bool v, .int .u64 hi, .int .u64 lo, .int .i64 b] 26)).heap.size = w.heap.size + 1 by simp] at this
    exact this
  go_enter Tryz.func3, Tryz.ntmps3
  go_wp2_with fail
  generalize ((w.alloc (.cells #[.bool v, .int .u64 hi, .int .u64 lo, .int .i64 b] 26)).alloc (.cells #[.bool u, .int .u64 ai, .int .u64 ao] 24)) = W0 at *
  refine (hB1.out _ (HG.out _ B.out)).mono ?_
  rintro e w1 ⟨rfl, hb⟩
  replace B : Hid (Below w.heap.size w w1) := btr B.out hb
  replace P : Hid (Has4 w1 (w.heap.size) v hi lo b) := P.out.below hb
  replace A1 : Hid (Has3 w1 (w.heap.size + 1) (.bool u) (.int .u64 ai) (.int .u64 ao)) := A1.out.below hb
  clear hb
  go_wp2_with fail
  refine (hB2.out _ (HG.out _ B.out)).mono ?_
  rintro e w2 ⟨rfl, hb⟩
  replace B : Hid (Below w.heap.size w w2) := btr B.out hb
  replace P : Hid (Has4 w2 (w.heap.size) v hi lo b) := P.out.below hb
  replace A1 : Hid (Has3 w2 (w.heap.size + 1) (.bool u) (.int .u64 ai) (.int .u64 ao)) := A1.out.below hb
  clear hb
  obtain ⟨P0, P1, P2, P3, P4⟩ := P.out
  go_wp2_with fail
  refine (h1.out _).mono ?_
  clear P0 P1 P2 P3 P4 
  rintro e w3 ⟨rfl, hb⟩
  replace B : Hid (Below w.heap.size w w3) := btr B.out hb
  replace P : Hid (Has4 w3 (w.heap.size) v hi lo b) := P.out.below hb
  replace A1 : Hid (Has3 w3 (w.heap.size + 1) (.bool u) (.int .u64 ai) (.int .u64 ao)) := A1.out.below hb
  clear hb
  replace P : Hid (Has4 ((w3.alloc (.cells #[.bool v, .int .u64 hi, .int .u64 lo] 24)).alloc (.cells #[.bool v, .int .u64 lh, .int .u64 ll] 24)) (w.heap.size) v hi lo b) := ((P.out).alloc (.cells #[.bool v, .int .u64 hi, .int .u64 lo] 24)).alloc (.cells #[.bool v, .int .u64 lh, .int .u64 ll] 24)
  replace A1 : Hid (Has3 ((w3.alloc (.cells #[.bool v, .int .u64 hi, .int .u64 lo] 24)).alloc (.cells #[.bool v, .int .u64 lh, .int .u64 ll] 24)) (w.heap.size + 1) (.bool u) (.int .u64 ai) (.int .u64 ao)) := ((A1.out).alloc (.cells #[.bool v, .int .u64 hi, .int .u64 lo] 24)).alloc (.cells #[.bool v, .int .u64 lh, .int .u64 ll] 24)
  replace B : Hid (Below w.heap.size w ((w3.alloc (.cells #[.bool v, .int .u64 hi, .int .u64 lo] 24)).alloc (.cells #[.bool v, .int .u64 lh, .int .u64 ll] 24))) := bal (bal (B.out) _) _
  have X : Hid (Has3 ((w3.alloc (.cells #[.bool v, .int .u64 hi, .int .u64 lo] 24)).alloc (.cells #[.bool v, .int .u64 lh, .int .u64 ll] 24)) (w3.heap.size) (.bool v) (.int .u64 hi) (.int .u64 lo)) := (Has3.new w3 (.bool v) (.int .u64 hi) (.int .u64 lo) 24).alloc (.cells #[.bool v, .int .u64 lh, .int .u64 ll] 24)
  have Y : Hid (Has3 ((w3.alloc (.cells #[.bool v, .int .u64 hi, .int .u64 lo] 24)).alloc (.cells #[.bool v, .int .u64 lh, .int .u64 ll] 24)) (w3.heap.size + 1) (.bool v) (.int .u64 lh) (.int .u64 ll)) := by
    have := Has3.new (w3.alloc (.cells #[.bool v, .int .u64 hi, .int .u64 lo] 24)) (.bool v) (.int .u64 lh) (.int .u64 ll) 24
    rw [show (w3.alloc (.cells #[.bool v, .int .u64 hi, .int .u64 lo] 24)).heap.size = w3.heap.size + 1 by simp] at this
    exact this
  obtain ⟨A10, A11, A12, A13⟩ := A1.out
  go_wp2_with fail
  generalize ((w3.alloc (.cells #[.bool v, .int .u64 hi, .int .u64 lo] 24)).alloc (.cells #[.bool v, .int .u64 lh, .int .u64 ll] 24)) = W3 at *
  generalize w3.heap.size = m3 at *
  refine (h2.out _).mono ?_
  clear A10 A11 A12 A13 
  rintro e w4 ⟨rfl, hb⟩
  replace B : Hid (Below w.heap.size w w4) := btr B.out hb
  replace P : Hid (Has4 w4 (w.heap.size) v hi lo b) := P.out.below hb
  replace A1 : Hid (Has3 w4 (w.heap.size + 1) (.bool u) (.int .u64 ai) (.int .u64 ao)) := A1.out.below hb
  replace X : Hid (Has3 w4 (m3) (.bool v) (.int .u64 hi) (.int .u64 lo)) := X.out.below hb
  replace Y : Hid (Has3 w4 (m3 + 1) (.bool v) (.int .u64 lh) (.int .u64 ll)) := Y.out.below hb
  clear hb
  go_wp2_with fail
  have HS : Hid ((w4.drew.cell? ⟨w.heap.size, 0, none⟩ = some (.bool v) ∧ w4.drew.cell? ⟨w.heap.size, 1, none⟩ = some (.int .u64 hi) ∧ w4.drew.cell? ⟨w.heap.size, 2, none⟩ = some (.int .u64 lo) ∧ w4.drew.cell? ⟨w.heap.size, 3, none⟩ = some (.int .i64 b) ∧ w.heap.size < w4.drew.heap.size) ∧ (w4.drew.cell? ⟨w.heap.size + 1, 0, none⟩ = some (.bool u) ∧ w4.drew.cell? ⟨w.heap.size + 1, 1, none⟩ = some (.int .u64 ai) ∧ w4.drew.cell? ⟨w.heap.size + 1, 2, none⟩ = some (.int .u64 ao) ∧ w.heap.size + 1 < w4.drew.heap.size) ∧ (w4.drew.cell? ⟨m3, 0, none⟩ = some (.bool v) ∧ w4.drew.cell? ⟨m3, 1, none⟩ = some (.int .u64 hi) ∧ w4.drew.cell? ⟨m3, 2, none⟩ = some (.int .u64 lo) ∧ m3 < w4.drew.heap.size) ∧ (w4.drew.cell? ⟨m3 + 1, 0, none⟩ = some (.bool v) ∧ w4.drew.cell? ⟨m3 + 1, 1, none⟩ = some (.int .u64 lh) ∧ w4.drew.cell? ⟨m3 + 1, 2, none⟩ = some (.int .u64 ll) ∧ m3 + 1 < w4.drew.heap.size) ∧ Below w.heap.size w w4.drew) := ⟨P.out, A1.out, X.out, Y.out, B.out.drew⟩
  clear P A1 X Y B
  go_region_held3 (fun w' => (w'.cell? ⟨w.heap.size, 0, none⟩ = some (.bool v) ∧ w'.cell? ⟨w.heap.size, 1, none⟩ = some (.int .u64 hi) ∧ w'.cell? ⟨w.heap.size, 2, none⟩ = some (.int .u64 lo) ∧ w'.cell? ⟨w.heap.size, 3, none⟩ = some (.int .i64 b) ∧ w.heap.size < w'.heap.size) ∧ (w'.cell? ⟨w.heap.size + 1, 0, none⟩ = some (.bool u) ∧ w'.cell? ⟨w.heap.size + 1, 1, none⟩ = some (.int .u64 ai) ∧ w'.cell? ⟨w.heap.size + 1, 2, none⟩ = some (.int .u64 ao) ∧ w.heap.size + 1 < w'.heap.size) ∧ (w'.cell? ⟨m3, 0, none⟩ = some (.bool v) ∧ w'.cell? ⟨m3, 1, none⟩ = some (.int .u64 hi) ∧ w'.cell? ⟨m3, 2, none⟩ = some (.int .u64 lo) ∧ m3 < w'.heap.size) ∧ (w'.cell? ⟨m3 + 1, 0, none⟩ = some (.bool v) ∧ w'.cell? ⟨m3 + 1, 1, none⟩ = some (.int .u64 lh) ∧ w'.cell? ⟨m3 + 1, 2, none⟩ = some (.int .u64 ll) ∧ m3 + 1 < w'.heap.size) ∧ Below w.heap.size w w')
    (first | exact HS.out | exact keepE (by assumption) (by assumption))
    (first
      | (go_at_call 9; refine (h3.out _).mono ?_; rintro e w9 ⟨rfl, hb⟩)
      | (go_at_call 8; refine (h4.out _).mono ?_; rintro e w9 ⟨rfl, hb⟩))
  obtain ⟨P, A1, X, Y, B⟩ : (w9.cell? ⟨w.heap.size, 0, none⟩ = some (.bool v) ∧ w9.cell? ⟨w.heap.size, 1, none⟩ = some (.int .u64 hi) ∧ w9.cell? ⟨w.heap.size, 2, none⟩ = some (.int .u64 lo) ∧ w9.cell? ⟨w.heap.size, 3, none⟩ = some (.int .i64 b) ∧ w.heap.size < w9.heap.size) ∧ (w9.cell? ⟨w.heap.size + 1, 0, none⟩ = some (.bool u) ∧ w9.cell? ⟨w.heap.size + 1, 1, none⟩ = some (.int .u64 ai) ∧ w9.cell? ⟨w.heap.size + 1, 2, none⟩ = some (.int .u64 ao) ∧ w.heap.size + 1 < w9.heap.size) ∧ (w9.cell? ⟨m3, 0, none⟩ = some (.bool v) ∧ w9.cell? ⟨m3, 1, none⟩ = some (.int .u64 hi) ∧ w9.cell? ⟨m3, 2, none⟩ = some (.int .u64 lo) ∧ m3 < w9.heap.size) ∧ (w9.cell? ⟨m3 + 1, 0, none⟩ = some (.bool v) ∧ w9.cell? ⟨m3 + 1, 1, none⟩ = some (.int .u64 lh) ∧ w9.cell? ⟨m3 + 1, 2, none⟩ = some (.int .u64 ll) ∧ m3 + 1 < w9.heap.size) ∧ Below w.heap.size w w9 := by assumption
  replace P : Hid (Has4 w9 (w.heap.size) v hi lo b) := P
  replace A1 : Hid (Has3 w9 (w.heap.size + 1) (.bool u) (.int .u64 ai) (.int .u64 ao)) := A1
  replace X : Hid (Has3 w9 (m3) (.bool v) (.int .u64 hi) (.int .u64 lo)) := X
  replace Y : Hid (Has3 w9 (m3 + 1) (.bool v) (.int .u64 lh) (.int .u64 ll)) := Y
  replace B : Hid (Below w.heap.size w w9) := B
  clear HS
  obtain ⟨A10, A11, A12, A13⟩ := A1.out
  obtain ⟨X0, X1, X2, X3⟩ := X.out
  go_wp2_with fail
  refine (h5.out _).mono ?_
  clear A10 A11 A12 A13 X0 X1 X2 X3 
  rintro e w10 ⟨rfl, hb⟩
  replace B : Hid (Below w.heap.size w w10) := btr B.out hb
  replace P : Hid (Has4 w10 (w.heap.size) v hi lo b) := P.out.below hb
  replace A1 : Hid (Has3 w10 (w.heap.size + 1) (.bool u) (.int .u64 ai) (.int .u64 ao)) := A1.out.below hb
  replace X : Hid (Has3 w10 (m3) (.bool v) (.int .u64 hi) (.int .u64 lo)) := X.out.below hb
  replace Y : Hid (Has3 w10 (m3 + 1) (.bool v) (.int .u64 lh) (.int .u64 ll)) := Y.out.below hb
  clear hb
  obtain ⟨A10, A11, A12, A13⟩ := A1.out
  obtain ⟨Y0, Y1, Y2, Y3⟩ := Y.out
  go_wp2_with fail
  refine (h6.out _).mono ?_
  clear A10 A11 A12 A13 Y0 Y1 Y2 Y3 
  rintro e w11 ⟨rfl, hb⟩
  replace B : Hid (Below w.heap.size w w11) := btr B.out hb
  replace P : Hid (Has4 w11 (w.heap.size) v hi lo b) := P.out.below hb
  replace A1 : Hid (Has3 w11 (w.heap.size + 1) (.bool u) (.int .u64 ai) (.int .u64 ao)) := A1.out.below hb
  replace X : Hid (Has3 w11 (m3) (.bool v) (.int .u64 hi) (.int .u64 lo)) := X.out.below hb
  replace Y : Hid (Has3 w11 (m3 + 1) (.bool v) (.int .u64 lh) (.int .u64 ll)) := Y.out.below hb
  clear hb
  go_wp2
  go_ret
  exact ⟨rfl, B.out⟩

set_option maxHeartbeats 32000000 in
set_option maxRecDepth 100000 in
theorem ends_m (v : Bool) (hi lo b : Int) (u : Bool) (ai ao lh ll k : Int) (mm : Bool) (w : World) (hg : Good w)
    (h1 : Hid (∀ w : World, Calls Tryz.prog 6 #[.agg #[.bool v, .int .u64 hi, .int .u64 lo, .int .i64 b]] w fun e w' => e = .returned (.tuple #[.agg #[.bool v, .int .u64 hi, .int .u64 lo], .agg #[.bool v, .int .u64 lh, .int .u64 ll], .int .i64 0]) ∧ Below w.heap.size w w'))
    (h2 : Hid (∀ w : World, Calls Tryz.prog 7 #[.agg #[.bool u, .int .u64 ai, .int .u64 ao]] w fun e w' => e = .returned (.int .i64 0) ∧ Below w.heap.size w w'))
    (h3 : Hid (∀ w : World, Calls Tryz.prog 9 #[.agg #[.bool u, .int .u64 ai, .int .u64 ao]] w fun e w' => e = .returned (.agg #[.bool u, .int .u64 ai, .int .u64 ao, .int .i64 (wid u)]) ∧ Below w.heap.size w w'))
    (h4 : Hid (∀ w : World, Calls Tryz.prog 8 #[.agg #[.bool v, .int .u64 hi, .int .u64 lo, .int .i64 b], .agg #[.bool u, .int .u64 ai, .int .u64 ao, .int .i64 (wid u)]] w fun e w' => e = .returned (.tuple #[.bool false, .int .i64 0]) ∧ Below w.heap.size w w'))
    (h5 : Hid (∀ w : World, Calls Tryz.prog 10 #[.agg #[.bool u, .int .u64 ai, .int .u64 ao], .agg #[.bool v, .int .u64 hi, .int .u64 lo]] w fun e w' => e = .returned (.tuple #[.bool false, .int .i64 0]) ∧ Below w.heap.size w w'))
    (h6 : Hid (∀ w : World, Calls Tryz.prog 10 #[.agg #[.bool v, .int .u64 lh, .int .u64 ll], .agg #[.bool u, .int .u64 ai, .int .u64 ao]] w fun e w' => e = .returned (.tuple #[.bool true, .int .i64 0]) ∧ Below w.heap.size w w'))
    : Calls Tryz.prog 3 #[.agg #[.bool v, .int .u64 hi, .int .u64 lo, .int .i64 b], .agg #[.bool u, .int .u64 ai, .int .u64 ao]] w fun e w' => e = .returned (.bool true) ∧ Below w.heap.size w w' := by
  have hB1 : Hid (∀ w : World, Good w → Calls Tryz.prog 4 #[] w fun e w' => e = .returned (.bool true) ∧ Below w.heap.size w w') := fun w => pbegun_any w
  have hB2 : Hid (∀ w : World, Good w → Calls Tryz.prog 5 #[] w fun e w' => e = .returned (.bool true) ∧ Below w.heap.size w w') := fun w => begun_any w
  have HG : Hid (∀ w1 : World, Below w.heap.size w w1 → Good w1) := fun w1 h => hg.below h
  have B : Hid (Below w.heap.size w w) := Below.refl _ _
  clear hg
  replace B : Hid (Below w.heap.size w ((w.alloc (.cells #[.bool v, .int .u64 hi, .int .u64 lo, .int .i64 b] 26)).alloc (.cells #[.bool u, .int .u64 ai, .int .u64 ao] 24))) := bal (bal (B.out) _) _
  have P : Hid (Has4 ((w.alloc (.cells #[.bool v, .int .u64 hi, .int .u64 lo, .int .i64 b] 26)).alloc (.cells #[.bool u, .int .u64 ai, .int .u64 ao] 24)) (w.heap.size) v hi lo b) := (Has4.new w v hi lo b 26).alloc (.cells #[.bool u, .int .u64 ai, .int .u64 ao] 24)
  have A1 : Hid (Has3 ((w.alloc (.cells #[.bool v, .int .u64 hi, .int .u64 lo, .int .i64 b] 26)).alloc (.cells #[.bool u, .int .u64 ai, .int .u64 ao] 24)) (w.heap.size + 1) (.bool u) (.int .u64 ai) (.int .u64 ao)) := by
    have := Has3.new (w.alloc (.cells #[.bool v, .int .u64 hi, .int .u64 lo, .int .i64 b] 26)) (.bool u) (.int .u64 ai) (.int .u64 ao) 24
    rw [show (w.alloc (.cells #[.bool v, .int .u64 hi, .int .u64 lo, .int .i64 b] 26)).heap.size = w.heap.size + 1 by simp] at this
    exact this
  go_enter Tryz.func3, Tryz.ntmps3
  go_wp2_with fail
  generalize ((w.alloc (.cells #[.bool v, .int .u64 hi, .int .u64 lo, .int .i64 b] 26)).alloc (.cells #[.bool u, .int .u64 ai, .int .u64 ao] 24)) = W0 at *
  refine (hB1.out _ (HG.out _ B.out)).mono ?_
  rintro e w1 ⟨rfl, hb⟩
  replace B : Hid (Below w.heap.size w w1) := btr B.out hb
  replace P : Hid (Has4 w1 (w.heap.size) v hi lo b) := P.out.below hb
  replace A1 : Hid (Has3 w1 (w.heap.size + 1) (.bool u) (.int .u64 ai) (.int .u64 ao)) := A1.out.below hb
  clear hb
  go_wp2_with fail
  refine (hB2.out _ (HG.out _ B.out)).mono ?_
  rintro e w2 ⟨rfl, hb⟩
  replace B : Hid (Below w.heap.size w w2) := btr B.out hb
  replace P : Hid (Has4 w2 (w.heap.size) v hi lo b) := P.out.below hb
  replace A1 : Hid (Has3 w2 (w.heap.size + 1) (.bool u) (.int .u64 ai) (.int .u64 ao)) := A1.out.below hb
  clear hb
  obtain ⟨P0, P1, P2, P3, P4⟩ := P.out
  go_wp2_with fail
  refine (h1.out _).mono ?_
  clear P0 P1 P2 P3 P4 
  rintro e w3 ⟨rfl, hb⟩
  replace B : Hid (Below w.heap.size w w3) := btr B.out hb
  replace P : Hid (Has4 w3 (w.heap.size) v hi lo b) := P.out.below hb
  replace A1 : Hid (Has3 w3 (w.heap.size + 1) (.bool u) (.int .u64 ai) (.int .u64 ao)) := A1.out.below hb
  clear hb
  replace P : Hid (Has4 ((w3.alloc (.cells #[.bool v, .int .u64 hi, .int .u64 lo] 24)).alloc (.cells #[.bool v, .int .u64 lh, .int .u64 ll] 24)) (w.heap.size) v hi lo b) := ((P.out).alloc (.cells #[.bool v, .int .u64 hi, .int .u64 lo] 24)).alloc (.cells #[.bool v, .int .u64 lh, .int .u64 ll] 24)
  replace A1 : Hid (Has3 ((w3.alloc (.cells #[.bool v, .int .u64 hi, .int .u64 lo] 24)).alloc (.cells #[.bool v, .int .u64 lh, .int .u64 ll] 24)) (w.heap.size + 1) (.bool u) (.int .u64 ai) (.int .u64 ao)) := ((A1.out).alloc (.cells #[.bool v, .int .u64 hi, .int .u64 lo] 24)).alloc (.cells #[.bool v, .int .u64 lh, .int .u64 ll] 24)
  replace B : Hid (Below w.heap.size w ((w3.alloc (.cells #[.bool v, .int .u64 hi, .int .u64 lo] 24)).alloc (.cells #[.bool v, .int .u64 lh, .int .u64 ll] 24))) := bal (bal (B.out) _) _
  have X : Hid (Has3 ((w3.alloc (.cells #[.bool v, .int .u64 hi, .int .u64 lo] 24)).alloc (.cells #[.bool v, .int .u64 lh, .int .u64 ll] 24)) (w3.heap.size) (.bool v) (.int .u64 hi) (.int .u64 lo)) := (Has3.new w3 (.bool v) (.int .u64 hi) (.int .u64 lo) 24).alloc (.cells #[.bool v, .int .u64 lh, .int .u64 ll] 24)
  have Y : Hid (Has3 ((w3.alloc (.cells #[.bool v, .int .u64 hi, .int .u64 lo] 24)).alloc (.cells #[.bool v, .int .u64 lh, .int .u64 ll] 24)) (w3.heap.size + 1) (.bool v) (.int .u64 lh) (.int .u64 ll)) := by
    have := Has3.new (w3.alloc (.cells #[.bool v, .int .u64 hi, .int .u64 lo] 24)) (.bool v) (.int .u64 lh) (.int .u64 ll) 24
    rw [show (w3.alloc (.cells #[.bool v, .int .u64 hi, .int .u64 lo] 24)).heap.size = w3.heap.size + 1 by simp] at this
    exact this
  obtain ⟨A10, A11, A12, A13⟩ := A1.out
  go_wp2_with fail
  generalize ((w3.alloc (.cells #[.bool v, .int .u64 hi, .int .u64 lo] 24)).alloc (.cells #[.bool v, .int .u64 lh, .int .u64 ll] 24)) = W3 at *
  generalize w3.heap.size = m3 at *
  refine (h2.out _).mono ?_
  clear A10 A11 A12 A13 
  rintro e w4 ⟨rfl, hb⟩
  replace B : Hid (Below w.heap.size w w4) := btr B.out hb
  replace P : Hid (Has4 w4 (w.heap.size) v hi lo b) := P.out.below hb
  replace A1 : Hid (Has3 w4 (w.heap.size + 1) (.bool u) (.int .u64 ai) (.int .u64 ao)) := A1.out.below hb
  replace X : Hid (Has3 w4 (m3) (.bool v) (.int .u64 hi) (.int .u64 lo)) := X.out.below hb
  replace Y : Hid (Has3 w4 (m3 + 1) (.bool v) (.int .u64 lh) (.int .u64 ll)) := Y.out.below hb
  clear hb
  go_wp2_with fail
  have HS : Hid ((w4.drew.cell? ⟨w.heap.size, 0, none⟩ = some (.bool v) ∧ w4.drew.cell? ⟨w.heap.size, 1, none⟩ = some (.int .u64 hi) ∧ w4.drew.cell? ⟨w.heap.size, 2, none⟩ = some (.int .u64 lo) ∧ w4.drew.cell? ⟨w.heap.size, 3, none⟩ = some (.int .i64 b) ∧ w.heap.size < w4.drew.heap.size) ∧ (w4.drew.cell? ⟨w.heap.size + 1, 0, none⟩ = some (.bool u) ∧ w4.drew.cell? ⟨w.heap.size + 1, 1, none⟩ = some (.int .u64 ai) ∧ w4.drew.cell? ⟨w.heap.size + 1, 2, none⟩ = some (.int .u64 ao) ∧ w.heap.size + 1 < w4.drew.heap.size) ∧ (w4.drew.cell? ⟨m3, 0, none⟩ = some (.bool v) ∧ w4.drew.cell? ⟨m3, 1, none⟩ = some (.int .u64 hi) ∧ w4.drew.cell? ⟨m3, 2, none⟩ = some (.int .u64 lo) ∧ m3 < w4.drew.heap.size) ∧ (w4.drew.cell? ⟨m3 + 1, 0, none⟩ = some (.bool v) ∧ w4.drew.cell? ⟨m3 + 1, 1, none⟩ = some (.int .u64 lh) ∧ w4.drew.cell? ⟨m3 + 1, 2, none⟩ = some (.int .u64 ll) ∧ m3 + 1 < w4.drew.heap.size) ∧ Below w.heap.size w w4.drew) := ⟨P.out, A1.out, X.out, Y.out, B.out.drew⟩
  clear P A1 X Y B
  go_region_held3 (fun w' => (w'.cell? ⟨w.heap.size, 0, none⟩ = some (.bool v) ∧ w'.cell? ⟨w.heap.size, 1, none⟩ = some (.int .u64 hi) ∧ w'.cell? ⟨w.heap.size, 2, none⟩ = some (.int .u64 lo) ∧ w'.cell? ⟨w.heap.size, 3, none⟩ = some (.int .i64 b) ∧ w.heap.size < w'.heap.size) ∧ (w'.cell? ⟨w.heap.size + 1, 0, none⟩ = some (.bool u) ∧ w'.cell? ⟨w.heap.size + 1, 1, none⟩ = some (.int .u64 ai) ∧ w'.cell? ⟨w.heap.size + 1, 2, none⟩ = some (.int .u64 ao) ∧ w.heap.size + 1 < w'.heap.size) ∧ (w'.cell? ⟨m3, 0, none⟩ = some (.bool v) ∧ w'.cell? ⟨m3, 1, none⟩ = some (.int .u64 hi) ∧ w'.cell? ⟨m3, 2, none⟩ = some (.int .u64 lo) ∧ m3 < w'.heap.size) ∧ (w'.cell? ⟨m3 + 1, 0, none⟩ = some (.bool v) ∧ w'.cell? ⟨m3 + 1, 1, none⟩ = some (.int .u64 lh) ∧ w'.cell? ⟨m3 + 1, 2, none⟩ = some (.int .u64 ll) ∧ m3 + 1 < w'.heap.size) ∧ Below w.heap.size w w')
    (first | exact HS.out | exact keepE (by assumption) (by assumption))
    (first
      | (go_at_call 9; refine (h3.out _).mono ?_; rintro e w9 ⟨rfl, hb⟩)
      | (go_at_call 8; refine (h4.out _).mono ?_; rintro e w9 ⟨rfl, hb⟩))
  obtain ⟨P, A1, X, Y, B⟩ : (w9.cell? ⟨w.heap.size, 0, none⟩ = some (.bool v) ∧ w9.cell? ⟨w.heap.size, 1, none⟩ = some (.int .u64 hi) ∧ w9.cell? ⟨w.heap.size, 2, none⟩ = some (.int .u64 lo) ∧ w9.cell? ⟨w.heap.size, 3, none⟩ = some (.int .i64 b) ∧ w.heap.size < w9.heap.size) ∧ (w9.cell? ⟨w.heap.size + 1, 0, none⟩ = some (.bool u) ∧ w9.cell? ⟨w.heap.size + 1, 1, none⟩ = some (.int .u64 ai) ∧ w9.cell? ⟨w.heap.size + 1, 2, none⟩ = some (.int .u64 ao) ∧ w.heap.size + 1 < w9.heap.size) ∧ (w9.cell? ⟨m3, 0, none⟩ = some (.bool v) ∧ w9.cell? ⟨m3, 1, none⟩ = some (.int .u64 hi) ∧ w9.cell? ⟨m3, 2, none⟩ = some (.int .u64 lo) ∧ m3 < w9.heap.size) ∧ (w9.cell? ⟨m3 + 1, 0, none⟩ = some (.bool v) ∧ w9.cell? ⟨m3 + 1, 1, none⟩ = some (.int .u64 lh) ∧ w9.cell? ⟨m3 + 1, 2, none⟩ = some (.int .u64 ll) ∧ m3 + 1 < w9.heap.size) ∧ Below w.heap.size w w9 := by assumption
  replace P : Hid (Has4 w9 (w.heap.size) v hi lo b) := P
  replace A1 : Hid (Has3 w9 (w.heap.size + 1) (.bool u) (.int .u64 ai) (.int .u64 ao)) := A1
  replace X : Hid (Has3 w9 (m3) (.bool v) (.int .u64 hi) (.int .u64 lo)) := X
  replace Y : Hid (Has3 w9 (m3 + 1) (.bool v) (.int .u64 lh) (.int .u64 ll)) := Y
  replace B : Hid (Below w.heap.size w w9) := B
  clear HS
  obtain ⟨A10, A11, A12, A13⟩ := A1.out
  obtain ⟨X0, X1, X2, X3⟩ := X.out
  go_wp2_with fail
  refine (h5.out _).mono ?_
  clear A10 A11 A12 A13 X0 X1 X2 X3 
  rintro e w10 ⟨rfl, hb⟩
  replace B : Hid (Below w.heap.size w w10) := btr B.out hb
  replace P : Hid (Has4 w10 (w.heap.size) v hi lo b) := P.out.below hb
  replace A1 : Hid (Has3 w10 (w.heap.size + 1) (.bool u) (.int .u64 ai) (.int .u64 ao)) := A1.out.below hb
  replace X : Hid (Has3 w10 (m3) (.bool v) (.int .u64 hi) (.int .u64 lo)) := X.out.below hb
  replace Y : Hid (Has3 w10 (m3 + 1) (.bool v) (.int .u64 lh) (.int .u64 ll)) := Y.out.below hb
  clear hb
  obtain ⟨A10, A11, A12, A13⟩ := A1.out
  obtain ⟨Y0, Y1, Y2, Y3⟩ := Y.out
  go_wp2_with fail
  refine (h6.out _).mono ?_
  clear A10 A11 A12 A13 Y0 Y1 Y2 Y3 
  rintro e w11 ⟨rfl, hb⟩
  replace B : Hid (Below w.heap.size w w11) := btr B.out hb
  replace P : Hid (Has4 w11 (w.heap.size) v hi lo b) := P.out.below hb
  replace A1 : Hid (Has3 w11 (w.heap.size + 1) (.bool u) (.int .u64 ai) (.int .u64 ao)) := A1.out.below hb
  replace X : Hid (Has3 w11 (m3) (.bool v) (.int .u64 hi) (.int .u64 lo)) := X.out.below hb
  replace Y : Hid (Has3 w11 (m3 + 1) (.bool v) (.int .u64 lh) (.int .u64 ll)) := Y.out.below hb
  clear hb
  go_wp2
  go_ret
  exact ⟨rfl, B.out⟩

end Go.Proofs.YtflbcgpcgjnhgabGreatDoor
