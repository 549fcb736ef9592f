/- yardarmlaw.prefixBegun: the closed part of the laws on prefixes: it is true. -/
import Derived.Test.YtghbonlignmdoaaGreatDoorPBa
set_option linter.unusedVariables false
set_option linter.unusedSimpArgs false
namespace Go.Proofs.YtghbonlignmdoaaGreatDoor
open Go.RowKit

def BS (w w' : World) (a b c d : Nat) : Prop := (w'.cell? ⟨a, 0, none⟩ = some (.bool false) ∧ w'.cell? ⟨a, 1, none⟩ = some (.int .u64 0) ∧ w'.cell? ⟨a, 2, none⟩ = some (.int .u64 167772160) ∧ w'.cell? ⟨a, 3, none⟩ = some (.int .i64 30) ∧ a < w'.heap.size) ∧ (w'.cell? ⟨b, 0, none⟩ = some (.bool false) ∧ w'.cell? ⟨b, 1, none⟩ = some (.int .u64 0) ∧ w'.cell? ⟨b, 2, none⟩ = some (.int .u64 167772160) ∧ b < w'.heap.size) ∧ (w'.cell? ⟨c, 0, none⟩ = some (.bool false) ∧ w'.cell? ⟨c, 1, none⟩ = some (.int .u64 0) ∧ w'.cell? ⟨c, 2, none⟩ = some (.int .u64 167772163) ∧ c < w'.heap.size) ∧ (w'.cell? ⟨d, 0, none⟩ = some (.bool false) ∧ w'.cell? ⟨d, 1, none⟩ = some (.int .u64 0) ∧ w'.cell? ⟨d, 2, none⟩ = some (.int .u64 167772160) ∧ w'.cell? ⟨d, 3, none⟩ = some (.int .i64 30) ∧ d < w'.heap.size) ∧ Below w.heap.size w w'
theorem BS.below {w W w' : World} {a b c d : Nat} (h : BS w W a b c d) (hb : Below W.heap.size W w') : BS w w' a b c d := by
  obtain ⟨h1, h2, h3, h4, h5⟩ := h
  exact ⟨Has4.below h1 hb, Has3.below h2 hb, Has3.below h3 hb, Has4.below h4 hb, btr h5 hb⟩
theorem BS.last {w W : World} {a b c d : Nat} (h : BS w W a b c d) : Below w.heap.size w W := h.2.2.2.2
theorem v4_below (n : Int) (w : World) :
    Calls Tryz.prog 14 #[.int .u64 n] w fun e w' => e = .returned (.agg #[.bool false, .int .u64 0, .int .u64 n]) ∧ Below w.heap.size w w' := (v4_any n w).mono fun e w' h => ⟨h.1, by obtain ⟨_, c, rfl⟩ := h; exact bal (Below.refl _ _) _⟩

set_option maxHeartbeats 32000000 in
set_option maxRecDepth 100000 in
theorem pbegun_any (w : World) (hg : Good w) :
    Calls Tryz.prog 6 #[] w fun e w' => e = .returned (.bool true) ∧ Below w.heap.size w w' := by
  have HG : Hid (∀ w1 : World, Below w.heap.size w w1 → Good w1) := fun w1 h => hg.below h
  have B : Hid (Below w.heap.size w w) := Below.refl _ _
  clear hg
  go_enter Tryz.func6, Tryz.ntmps6
  go_wp2_with fail
  refine (qc1 _ (HG.out _ B.out)).mono ?_
  rintro e w1 ⟨rfl, hb⟩
  replace B : Hid (Below w.heap.size w w1) := btr B.out hb
  clear hb
  replace B : Hid (Below w.heap.size w (w1.alloc (.cells #[.bool false, .int .u64 0, .int .u64 167772160, .int .i64 30] 37))) := bal (B.out) _
  have P1 : Hid (Has4 (w1.alloc (.cells #[.bool false, .int .u64 0, .int .u64 167772160, .int .i64 30] 37)) (w1.heap.size) false 0 167772160 30) := Has4.new w1 false 0 167772160 30 _
  go_wp2_with fail
  generalize (w1.alloc (.cells #[.bool false, .int .u64 0, .int .u64 167772160, .int .i64 30] 37)) = W1 at *
  generalize w1.heap.size = m1 at *
  have P1' : Hid (Has4 W1.drew m1 false 0 167772160 30) := P1.out
  have B' : Hid (Below w.heap.size w W1.drew) := B.out.drew
  clear P1 B
  go_region_held3 (fun w' => (w'.cell? ⟨m1, 0, none⟩ = some (.bool false) ∧ w'.cell? ⟨m1, 1, none⟩ = some (.int .u64 0) ∧ w'.cell? ⟨m1, 2, none⟩ = some (.int .u64 167772160) ∧ w'.cell? ⟨m1, 3, none⟩ = some (.int .i64 30) ∧ m1 < w'.heap.size) ∧ Below w.heap.size w w')
    (first | exact ⟨P1'.out, B'.out⟩ | exact keep4b (by assumption) (by assumption))
    (first
      | (go_at_call 16; refine (net_any _ _ _).mono ?_; rintro e w3 ⟨rfl, hb⟩)
      | (go_at_call 10; refine (qc2 _).mono ?_; rintro e w3 ⟨rfl, hb⟩))
  have HS : (Has4 w3 m1 false 0 167772160 30) ∧ Below w.heap.size w w3 := by assumption
  have P1 : Hid (Has4 w3 m1 false 0 167772160 30) := HS.1
  have B : Hid (Below w.heap.size w w3) := HS.2
  clear HS P1' B'
  obtain ⟨P10, P11, P12, P13, P14⟩ := P1.out
  go_wp2_with fail
  refine (qc3 _).mono ?_
  clear P10 P11 P12 P13 P14 
  rintro e w4 ⟨rfl, hb⟩
  replace B : Hid (Below w.heap.size w w4) := btr B.out hb
  replace P1 : Hid (Has4 w4 (m1) false 0 167772160 30) := P1.out.below hb
  clear hb
  replace P1 : Hid (Has4 ((w4.alloc (.cells #[.bool false, .int .u64 0, .int .u64 167772160] 25)).alloc (.cells #[.bool false, .int .u64 0, .int .u64 167772163] 25)) (m1) false 0 167772160 30) := ((P1.out).alloc _).alloc _
  replace B : Hid (Below w.heap.size w ((w4.alloc (.cells #[.bool false, .int .u64 0, .int .u64 167772160] 25)).alloc (.cells #[.bool false, .int .u64 0, .int .u64 167772163] 25))) := bal (bal (B.out) _) _
  have A1 : Hid (Has3 ((w4.alloc (.cells #[.bool false, .int .u64 0, .int .u64 167772160] 25)).alloc (.cells #[.bool false, .int .u64 0, .int .u64 167772163] 25)) (w4.heap.size) (.bool false) (.int .u64 0) (.int .u64 167772160)) := (Has3.new w4 (.bool false) (.int .u64 0) (.int .u64 167772160) 25).alloc (.cells #[.bool false, .int .u64 0, .int .u64 167772163] 25)
  have A2 : Hid (Has3 ((w4.alloc (.cells #[.bool false, .int .u64 0, .int .u64 167772160] 25)).alloc (.cells #[.bool false, .int .u64 0, .int .u64 167772163] 25)) (w4.heap.size + 1) (.bool false) (.int .u64 0) (.int .u64 167772163)) := by
    have := Has3.new (w4.alloc (.cells #[.bool false, .int .u64 0, .int .u64 167772160] 25)) (.bool false) (.int .u64 0) (.int .u64 167772163) 25
    rw [show (w4.alloc (.cells #[.bool false, .int .u64 0, .int .u64 167772160] 25)).heap.size = w4.heap.size + 1 by simp] at this
    exact this
  obtain ⟨P10, P11, P12, P13, P14⟩ := P1.out
  go_wp2_with fail
  generalize ((w4.alloc (.cells #[.bool false, .int .u64 0, .int .u64 167772160] 25)).alloc (.cells #[.bool false, .int .u64 0, .int .u64 167772163] 25)) = W4 at *
  generalize w4.heap.size = m4 at *
  refine (qc4 _).mono ?_
  clear P10 P11 P12 P13 P14 
  rintro e w5 ⟨rfl, hb⟩
  replace B : Hid (Below w.heap.size w w5) := btr B.out hb
  replace P1 : Hid (Has4 w5 (m1) false 0 167772160 30) := P1.out.below hb
  replace A1 : Hid (Has3 w5 (m4) (.bool false) (.int .u64 0) (.int .u64 167772160)) := A1.out.below hb
  replace A2 : Hid (Has3 w5 (m4 + 1) (.bool false) (.int .u64 0) (.int .u64 167772163)) := A2.out.below hb
  clear hb
  replace P1 : Hid (Has4 ((w5.alloc (.cells #[.bool false, .int .u64 0, .int .u64 167772160, .int .i64 31] 37)).alloc (.cells #[.bool false, .int .u64 0, .int .u64 167772162, .int .i64 31] 37)) (m1) false 0 167772160 30) := ((P1.out).alloc _).alloc _
  replace A1 : Hid (Has3 ((w5.alloc (.cells #[.bool false, .int .u64 0, .int .u64 167772160, .int .i64 31] 37)).alloc (.cells #[.bool false, .int .u64 0, .int .u64 167772162, .int .i64 31] 37)) (m4) (.bool false) (.int .u64 0) (.int .u64 167772160)) := ((A1.out).alloc _).alloc _
  replace A2 : Hid (Has3 ((w5.alloc (.cells #[.bool false, .int .u64 0, .int .u64 167772160, .int .i64 31] 37)).alloc (.cells #[.bool false, .int .u64 0, .int .u64 167772162, .int .i64 31] 37)) (m4 + 1) (.bool false) (.int .u64 0) (.int .u64 167772163)) := ((A2.out).alloc _).alloc _
  replace B : Hid (Below w.heap.size w ((w5.alloc (.cells #[.bool false, .int .u64 0, .int .u64 167772160, .int .i64 31] 37)).alloc (.cells #[.bool false, .int .u64 0, .int .u64 167772162, .int .i64 31] 37))) := bal (bal (B.out) _) _
  have X1 : Hid (Has4 ((w5.alloc (.cells #[.bool false, .int .u64 0, .int .u64 167772160, .int .i64 31] 37)).alloc (.cells #[.bool false, .int .u64 0, .int .u64 167772162, .int .i64 31] 37)) (w5.heap.size) false 0 167772160 31) := (Has4.new w5 false 0 167772160 31 37).alloc (.cells #[.bool false, .int .u64 0, .int .u64 167772162, .int .i64 31] 37)
  have Y1 : Hid (Has4 ((w5.alloc (.cells #[.bool false, .int .u64 0, .int .u64 167772160, .int .i64 31] 37)).alloc (.cells #[.bool false, .int .u64 0, .int .u64 167772162, .int .i64 31] 37)) (w5.heap.size + 1) false 0 167772162 31) := by
    have := Has4.new (w5.alloc (.cells #[.bool false, .int .u64 0, .int .u64 167772160, .int .i64 31] 37)) false 0 167772162 31 37
    rw [show (w5.alloc (.cells #[.bool false, .int .u64 0, .int .u64 167772160, .int .i64 31] 37)).heap.size = w5.heap.size + 1 by simp] at this
    exact this
  obtain ⟨X10, X11, X12, X13, X14⟩ := X1.out
  obtain ⟨Y10, Y11, Y12, Y13, Y14⟩ := Y1.out
  go_wp2_with fail
  generalize ((w5.alloc (.cells #[.bool false, .int .u64 0, .int .u64 167772160, .int .i64 31] 37)).alloc (.cells #[.bool false, .int .u64 0, .int .u64 167772162, .int .i64 31] 37)) = W5 at *
  generalize w5.heap.size = m5 at *
  refine (qc5 _).mono ?_
  clear X10 X11 X12 X13 X14 Y10 Y11 Y12 Y13 Y14 
  rintro e w6 ⟨rfl, hb⟩
  replace B : Hid (Below w.heap.size w w6) := btr B.out hb
  replace P1 : Hid (Has4 w6 (m1) false 0 167772160 30) := P1.out.below hb
  replace A1 : Hid (Has3 w6 (m4) (.bool false) (.int .u64 0) (.int .u64 167772160)) := A1.out.below hb
  replace A2 : Hid (Has3 w6 (m4 + 1) (.bool false) (.int .u64 0) (.int .u64 167772163)) := A2.out.below hb
  replace X1 : Hid (Has4 w6 (m5) false 0 167772160 31) := X1.out.below hb
  replace Y1 : Hid (Has4 w6 (m5 + 1) false 0 167772162 31) := Y1.out.below hb
  clear hb
  replace P1 : Hid (Has4 (w6.alloc (.cells #[.bool false, .int .u64 0, .int .u64 167772160, .int .i64 30] 37)) (m1) false 0 167772160 30) := (P1.out).alloc _
  replace A1 : Hid (Has3 (w6.alloc (.cells #[.bool false, .int .u64 0, .int .u64 167772160, .int .i64 30] 37)) (m4) (.bool false) (.int .u64 0) (.int .u64 167772160)) := (A1.out).alloc _
  replace A2 : Hid (Has3 (w6.alloc (.cells #[.bool false, .int .u64 0, .int .u64 167772160, .int .i64 30] 37)) (m4 + 1) (.bool false) (.int .u64 0) (.int .u64 167772163)) := (A2.out).alloc _
  replace X1 : Hid (Has4 (w6.alloc (.cells #[.bool false, .int .u64 0, .int .u64 167772160, .int .i64 30] 37)) (m5) false 0 167772160 31) := (X1.out).alloc _
  replace Y1 : Hid (Has4 (w6.alloc (.cells #[.bool false, .int .u64 0, .int .u64 167772160, .int .i64 30] 37)) (m5 + 1) false 0 167772162 31) := (Y1.out).alloc _
  replace B : Hid (Below w.heap.size w (w6.alloc (.cells #[.bool false, .int .u64 0, .int .u64 167772160, .int .i64 30] 37))) := bal (B.out) _
  have V1 : Hid (Has4 (w6.alloc (.cells #[.bool false, .int .u64 0, .int .u64 167772160, .int .i64 30] 37)) (w6.heap.size) false 0 167772160 30) := Has4.new w6 false 0 167772160 30 37
  obtain ⟨Y10, Y11, Y12, Y13, Y14⟩ := Y1.out
  go_wp2_with fail
  generalize (w6.alloc (.cells #[.bool false, .int .u64 0, .int .u64 167772160, .int .i64 30] 37)) = W6 at *
  generalize w6.heap.size = m6 at *
  refine (qc6 _ (HG.out _ B.out)).mono ?_
  clear Y10 Y11 Y12 Y13 Y14 
  rintro e w7 ⟨rfl, hb⟩
  replace B : Hid (Below w.heap.size w w7) := btr B.out hb
  replace P1 : Hid (Has4 w7 (m1) false 0 167772160 30) := P1.out.below hb
  replace A1 : Hid (Has3 w7 (m4) (.bool false) (.int .u64 0) (.int .u64 167772160)) := A1.out.below hb
  replace A2 : Hid (Has3 w7 (m4 + 1) (.bool false) (.int .u64 0) (.int .u64 167772163)) := A2.out.below hb
  replace X1 : Hid (Has4 w7 (m5) false 0 167772160 31) := X1.out.below hb
  replace Y1 : Hid (Has4 w7 (m5 + 1) false 0 167772162 31) := Y1.out.below hb
  replace V1 : Hid (Has4 w7 (m6) false 0 167772160 30) := V1.out.below hb
  clear hb
  go_wp2_with fail
  have E1 := eql_addr false 0 167772160 false 0 167772160
  have E2 := eql_addr false 0 167772163 false 0 167772163
  have E3 := eql_pf false 0 167772160 30 false 0 167772160 30
  rw [show eqA false 0 167772160 false 0 167772160 = true by decide +kernel] at E1
  rw [show eqA false 0 167772163 false 0 167772163 = true by decide +kernel] at E2
  rw [show eqP false 0 167772160 30 false 0 167772160 30 = true by decide +kernel] at E3
  have HS : Hid (BS w w7.drew m1 m4 (m4 + 1) m6) := ⟨P1.out, A1.out, A2.out, V1.out, B.out.drew⟩
  clear P1 A1 A2 X1 Y1 V1 B HG
  go_region_held3 (fun w' => (w'.cell? ⟨m1, 0, none⟩ = some (.bool false) ∧ w'.cell? ⟨m1, 1, none⟩ = some (.int .u64 0) ∧ w'.cell? ⟨m1, 2, none⟩ = some (.int .u64 167772160) ∧ w'.cell? ⟨m1, 3, none⟩ = some (.int .i64 30) ∧ m1 < w'.heap.size) ∧ (w'.cell? ⟨m4, 0, none⟩ = some (.bool false) ∧ w'.cell? ⟨m4, 1, none⟩ = some (.int .u64 0) ∧ w'.cell? ⟨m4, 2, none⟩ = some (.int .u64 167772160) ∧ m4 < w'.heap.size) ∧ (w'.cell? ⟨m4 + 1, 0, none⟩ = some (.bool false) ∧ w'.cell? ⟨m4 + 1, 1, none⟩ = some (.int .u64 0) ∧ w'.cell? ⟨m4 + 1, 2, none⟩ = some (.int .u64 167772163) ∧ m4 + 1 < w'.heap.size) ∧ (w'.cell? ⟨m6, 0, none⟩ = some (.bool false) ∧ w'.cell? ⟨m6, 1, none⟩ = some (.int .u64 0) ∧ w'.cell? ⟨m6, 2, none⟩ = some (.int .u64 167772160) ∧ w'.cell? ⟨m6, 3, none⟩ = some (.int .i64 30) ∧ m6 < w'.heap.size) ∧ Below w.heap.size w w')
    (first | exact HS.out | exact BS.below (by assumption) (by assumption))
    (first
      | (go_at_call 16; refine (net_any _ _ _).mono ?_; rintro e w' ⟨rfl, hb⟩)
      | (go_at_call 21; refine (qc7 _).mono ?_; rintro e w' ⟨rfl, hb⟩)
      | (go_at_call 14; refine (v4_below _ _).mono ?_; rintro e w' ⟨rfl, hb⟩))
  go_wp2
  go_ret
  exact ⟨rfl, BS.last (by assumption)⟩
end Go.Proofs.YtghbonlignmdoaaGreatDoor
