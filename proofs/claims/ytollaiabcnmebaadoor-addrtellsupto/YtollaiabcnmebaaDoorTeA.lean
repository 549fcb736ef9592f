/- yardarmlaw.AddrTells, its walks, a road each. -/
import Derived.Test.YtollaiabcnmebaaDoorRfZ
import Derived.Test.YtollaiabcnmebaaDoorRfA
set_option linter.unusedVariables false
set_option linter.unusedSimpArgs false
namespace Go.Proofs.YtollaiabcnmebaaDoor
open Go.RowKit

theorem keep7 {w W W' : World} {p1 p2 p3 p4 p5 p6 : Nat} {x1 y1 z1 x2 y2 z2 x3 y3 z3 x4 y4 z4 x5 y5 z5 x6 y6 z6 : Value}
    (h : Has3 W p1 x1 y1 z1 ∧ Has3 W p2 x2 y2 z2 ∧ Has3 W p3 x3 y3 z3 ∧ Has3 W p4 x4 y4 z4 ∧ Has3 W p5 x5 y5 z5 ∧ Has3 W p6 x6 y6 z6 ∧ Below w.heap.size w W) (hb : Below W.heap.size W W') :
    Has3 W' p1 x1 y1 z1 ∧ Has3 W' p2 x2 y2 z2 ∧ Has3 W' p3 x3 y3 z3 ∧ Has3 W' p4 x4 y4 z4 ∧ Has3 W' p5 x5 y5 z5 ∧ Has3 W' p6 x6 y6 z6 ∧ Below w.heap.size w W' :=
  ⟨h.1.below hb, h.2.1.below hb, h.2.2.1.below hb, h.2.2.2.1.below hb, h.2.2.2.2.1.below hb, h.2.2.2.2.2.1.below hb, btr h.2.2.2.2.2.2 hb⟩
theorem last7 {w W : World} {a b c d e f : Prop} (h : a ∧ b ∧ c ∧ d ∧ e ∧ f ∧ Below w.heap.size w W) : Below w.heap.size w W := h.2.2.2.2.2.2
theorem eqA_same (v : Bool) (hi lo : Int) : eqA v hi lo v hi lo = true := by simp [eqA]

set_option maxHeartbeats 32000000 in
set_option maxRecDepth 100000 in
theorem tells_33t (va : Bool) (ah al : Int) (vb : Bool) (bh bl : Int) (s T : ByteArray) (xv : Bool) (xh xl : Int) (nv : Bool) (nh nl : Int) (nb L : Bool) (w : World) (hg : Good w)
    (h1 : Hid (∀ w : World, Good w → Calls Tryd.prog 4 #[.agg #[.bool va, .int .u64 ah, .int .u64 al]] w fun e w' => e = .returned (.tuple #[.string ⟨#[]⟩, .int .i64 3]) ∧ Below w.heap.size w w'))
    (h2 : Hid (∀ w : World, Good w → Calls Tryd.prog 5 #[.string s] w fun e w' => e = .returned (.tuple #[.agg #[.bool xv, .int .u64 xh, .int .u64 xl], .int .i64 0]) ∧ Below w.heap.size w w'))
    (h3 : Hid (∀ w : World, Calls Tryd.prog 6 #[.agg #[.bool va, .int .u64 ah, .int .u64 al]] w fun e w' => e = .returned (.tuple #[.agg #[.bool false, .int .u64 0, .int .u64 0], .bool false, .int .i64 3]) ∧ Below w.heap.size w w'))
    (h4 : Hid (∀ w : World, Calls Tryd.prog 7 #[.agg #[.bool va, .int .u64 ah, .int .u64 al], .agg #[.bool vb, .int .u64 bh, .int .u64 bl]] w fun e w' => e = .returned (.tuple #[.bool false, .int .i64 3]) ∧ Below w.heap.size w w'))
    (h5 : Hid (∀ w : World, Calls Tryd.prog 8 #[.agg #[.bool va, .int .u64 ah, .int .u64 al]] w fun e w' => e = .returned (.int .i64 3) ∧ Below w.heap.size w w'))
    (h9 : Hid (∀ w : World, Calls Tryd.prog 11 #[.string s] w fun e w' => e = .returned (.tuple #[.agg #[.bool xv, .int .u64 xh, .int .u64 xl], .bool true]) ∧ Below w.heap.size w w'))
    (h10 : Hid (∀ w : World, Calls Tryd.prog 13 #[.agg #[.bool va, .int .u64 ah, .int .u64 al]] w fun e w' => e = .returned (.int .i64 3) ∧ Below w.heap.size w w'))
    : Calls Tryd.prog 3 #[.agg #[.bool va, .int .u64 ah, .int .u64 al], .agg #[.bool vb, .int .u64 bh, .int .u64 bl], .string s] w fun e w' => e = .returned (.bool true) ∧ Below w.heap.size w w' := by
  have hB : Hid (∀ w : World, Good w → Calls Tryd.prog 12 #[] w fun e w' => e = .returned (.bool true) ∧ Below w.heap.size w w') := fun w => begun_any w
  have HG : Hid (∀ w1 : World, Below w.heap.size w w1 → Good w1) := fun w1 h => hg.below h
  have B : Hid (Below w.heap.size w w) := Below.refl _ _
  clear hg
  have GPA : Hid (w.heap.size ≤ w.heap.size) := Nat.le_refl _
  have GPB : Hid (w.heap.size ≤ w.heap.size + 1) := Nat.le_succ _
  replace B : Hid (Below w.heap.size w ((w.alloc (.cells #[.bool va, .int .u64 ah, .int .u64 al] 24)).alloc (.cells #[.bool vb, .int .u64 bh, .int .u64 bl] 24))) := bal (bal (B.out) _) _
  have PA : Hid (HasF ((w.alloc (.cells #[.bool va, .int .u64 ah, .int .u64 al] 24)).alloc (.cells #[.bool vb, .int .u64 bh, .int .u64 bl] 24)) (w.heap.size) (.bool va) (.int .u64 ah) (.int .u64 al)) := (HasF.new w (.bool va) (.int .u64 ah) (.int .u64 al) 24).alloc (.cells #[.bool vb, .int .u64 bh, .int .u64 bl] 24)
  have PB : Hid (HasF ((w.alloc (.cells #[.bool va, .int .u64 ah, .int .u64 al] 24)).alloc (.cells #[.bool vb, .int .u64 bh, .int .u64 bl] 24)) (w.heap.size + 1) (.bool vb) (.int .u64 bh) (.int .u64 bl)) := by
    have := HasF.new (w.alloc (.cells #[.bool va, .int .u64 ah, .int .u64 al] 24)) (.bool vb) (.int .u64 bh) (.int .u64 bl) 24
    rw [show (w.alloc (.cells #[.bool va, .int .u64 ah, .int .u64 al] 24)).heap.size = w.heap.size + 1 by simp] at this
    exact this
  go_enter Tryd.func3, Tryd.ntmps3
  obtain ⟨⟨PA0, PA1, PA2, PA3⟩, _⟩ := PA.out
  go_wp2_with fail
  generalize ((w.alloc (.cells #[.bool va, .int .u64 ah, .int .u64 al] 24)).alloc (.cells #[.bool vb, .int .u64 bh, .int .u64 bl] 24)) = W0 at *
  refine (h1.out _ (HG.out _ B.out)).mono ?_
  clear PA0 PA1 PA2 PA3 
  rintro e w1 ⟨rfl, hb⟩
  replace PA : Hid (HasF w1 (w.heap.size) (.bool va) (.int .u64 ah) (.int .u64 al)) := PA.out.below hb
  replace PB : Hid (HasF w1 (w.heap.size + 1) (.bool vb) (.int .u64 bh) (.int .u64 bl)) := PB.out.below hb
  replace B : Hid (Below w.heap.size w w1) := btr B.out hb
  clear hb
  go_wp2_with fail
  refine (h2.out _ (HG.out _ B.out)).mono ?_
  rintro e w2 ⟨rfl, hb⟩
  replace PA : Hid (HasF w2 (w.heap.size) (.bool va) (.int .u64 ah) (.int .u64 al)) := PA.out.below hb
  replace PB : Hid (HasF w2 (w.heap.size + 1) (.bool vb) (.int .u64 bh) (.int .u64 bl)) := PB.out.below hb
  replace B : Hid (Below w.heap.size w w2) := btr B.out hb
  clear hb
  have LPAPX : Hid (w.heap.size ≠ w2.heap.size) := Nat.ne_of_lt PA.out.1.2.2.2
  have LPBPX : Hid (w.heap.size + 1 ≠ w2.heap.size) := Nat.ne_of_lt PB.out.1.2.2.2
  have GPX : Hid (w.heap.size ≤ w2.heap.size) := B.out.size
  replace PA : Hid (HasF (w2.alloc (.cells #[.bool xv, .int .u64 xh, .int .u64 xl] 24)) (w.heap.size) (.bool va) (.int .u64 ah) (.int .u64 al)) := (PA.out).alloc (.cells #[.bool xv, .int .u64 xh, .int .u64 xl] 24)
  replace PB : Hid (HasF (w2.alloc (.cells #[.bool xv, .int .u64 xh, .int .u64 xl] 24)) (w.heap.size + 1) (.bool vb) (.int .u64 bh) (.int .u64 bl)) := (PB.out).alloc (.cells #[.bool xv, .int .u64 xh, .int .u64 xl] 24)
  replace B : Hid (Below w.heap.size w (w2.alloc (.cells #[.bool xv, .int .u64 xh, .int .u64 xl] 24))) := bal (B.out) _
  have PX : Hid (HasF (w2.alloc (.cells #[.bool xv, .int .u64 xh, .int .u64 xl] 24)) (w2.heap.size) (.bool xv) (.int .u64 xh) (.int .u64 xl)) := HasF.new w2 (.bool xv) (.int .u64 xh) (.int .u64 xl) 24
  obtain ⟨⟨PA0, PA1, PA2, PA3⟩, _⟩ := PA.out
  go_wp2_with fail
  generalize (w2.alloc (.cells #[.bool xv, .int .u64 xh, .int .u64 xl] 24)) = W2 at *
  generalize w2.heap.size = m2 at *
  refine (h3.out _).mono ?_
  clear PA0 PA1 PA2 PA3 
  rintro e w3 ⟨rfl, hb⟩
  replace PA : Hid (HasF w3 (w.heap.size) (.bool va) (.int .u64 ah) (.int .u64 al)) := PA.out.below hb
  replace PB : Hid (HasF w3 (w.heap.size + 1) (.bool vb) (.int .u64 bh) (.int .u64 bl)) := PB.out.below hb
  replace PX : Hid (HasF w3 (m2) (.bool xv) (.int .u64 xh) (.int .u64 xl)) := PX.out.below hb
  replace B : Hid (Below w.heap.size w w3) := btr B.out hb
  clear hb
  have LPAPN : Hid (w.heap.size ≠ w3.heap.size) := Nat.ne_of_lt PA.out.1.2.2.2
  have LPBPN : Hid (w.heap.size + 1 ≠ w3.heap.size) := Nat.ne_of_lt PB.out.1.2.2.2
  have LPXPN : Hid (m2 ≠ w3.heap.size) := Nat.ne_of_lt PX.out.1.2.2.2
  have GPN : Hid (w.heap.size ≤ w3.heap.size) := B.out.size
  replace PA : Hid (HasF (w3.alloc (.cells #[.bool false, .int .u64 0, .int .u64 0] 24)) (w.heap.size) (.bool va) (.int .u64 ah) (.int .u64 al)) := (PA.out).alloc (.cells #[.bool false, .int .u64 0, .int .u64 0] 24)
  replace PB : Hid (HasF (w3.alloc (.cells #[.bool false, .int .u64 0, .int .u64 0] 24)) (w.heap.size + 1) (.bool vb) (.int .u64 bh) (.int .u64 bl)) := (PB.out).alloc (.cells #[.bool false, .int .u64 0, .int .u64 0] 24)
  replace PX : Hid (HasF (w3.alloc (.cells #[.bool false, .int .u64 0, .int .u64 0] 24)) (m2) (.bool xv) (.int .u64 xh) (.int .u64 xl)) := (PX.out).alloc (.cells #[.bool false, .int .u64 0, .int .u64 0] 24)
  replace B : Hid (Below w.heap.size w (w3.alloc (.cells #[.bool false, .int .u64 0, .int .u64 0] 24))) := bal (B.out) _
  have PN : Hid (HasF (w3.alloc (.cells #[.bool false, .int .u64 0, .int .u64 0] 24)) (w3.heap.size) (.bool false) (.int .u64 0) (.int .u64 0)) := HasF.new w3 (.bool false) (.int .u64 0) (.int .u64 0) 24
  obtain ⟨⟨PA0, PA1, PA2, PA3⟩, _⟩ := PA.out
  obtain ⟨⟨PB0, PB1, PB2, PB3⟩, _⟩ := PB.out
  go_wp2_with fail
  generalize (w3.alloc (.cells #[.bool false, .int .u64 0, .int .u64 0] 24)) = W3 at *
  generalize w3.heap.size = m3 at *
  refine (h4.out _).mono ?_
  clear PA0 PA1 PA2 PA3 PB0 PB1 PB2 PB3 
  rintro e w4 ⟨rfl, hb⟩
  replace PA : Hid (HasF w4 (w.heap.size) (.bool va) (.int .u64 ah) (.int .u64 al)) := PA.out.below hb
  replace PB : Hid (HasF w4 (w.heap.size + 1) (.bool vb) (.int .u64 bh) (.int .u64 bl)) := PB.out.below hb
  replace PX : Hid (HasF w4 (m2) (.bool xv) (.int .u64 xh) (.int .u64 xl)) := PX.out.below hb
  replace PN : Hid (HasF w4 (m3) (.bool false) (.int .u64 0) (.int .u64 0)) := PN.out.below hb
  replace B : Hid (Below w.heap.size w w4) := btr B.out hb
  clear hb
  obtain ⟨⟨PA0, PA1, PA2, PA3⟩, _⟩ := PA.out
  go_wp2_with fail
  refine (h5.out _).mono ?_
  clear PA0 PA1 PA2 PA3 
  rintro e w5 ⟨rfl, hb⟩
  replace PA : Hid (HasF w5 (w.heap.size) (.bool va) (.int .u64 ah) (.int .u64 al)) := PA.out.below hb
  replace PB : Hid (HasF w5 (w.heap.size + 1) (.bool vb) (.int .u64 bh) (.int .u64 bl)) := PB.out.below hb
  replace PX : Hid (HasF w5 (m2) (.bool xv) (.int .u64 xh) (.int .u64 xl)) := PX.out.below hb
  replace PN : Hid (HasF w5 (m3) (.bool false) (.int .u64 0) (.int .u64 0)) := PN.out.below hb
  replace B : Hid (Below w.heap.size w w5) := btr B.out hb
  clear hb
  have LPAPM : Hid (w.heap.size ≠ w5.heap.size) := Nat.ne_of_lt PA.out.1.2.2.2
  have LPBPM : Hid (w.heap.size + 1 ≠ w5.heap.size) := Nat.ne_of_lt PB.out.1.2.2.2
  have LPXPM : Hid (m2 ≠ w5.heap.size) := Nat.ne_of_lt PX.out.1.2.2.2
  have LPNPM : Hid (m3 ≠ w5.heap.size) := Nat.ne_of_lt PN.out.1.2.2.2
  have GPM : Hid (w.heap.size ≤ w5.heap.size) := B.out.size
  replace PA : Hid (HasF (w5.alloc (.cells #[.bool false, .int .u64 0, .int .u64 0] 24)) (w.heap.size) (.bool va) (.int .u64 ah) (.int .u64 al)) := (PA.out).alloc (.cells #[.bool false, .int .u64 0, .int .u64 0] 24)
  replace PB : Hid (HasF (w5.alloc (.cells #[.bool false, .int .u64 0, .int .u64 0] 24)) (w.heap.size + 1) (.bool vb) (.int .u64 bh) (.int .u64 bl)) := (PB.out).alloc (.cells #[.bool false, .int .u64 0, .int .u64 0] 24)
  replace PX : Hid (HasF (w5.alloc (.cells #[.bool false, .int .u64 0, .int .u64 0] 24)) (m2) (.bool xv) (.int .u64 xh) (.int .u64 xl)) := (PX.out).alloc (.cells #[.bool false, .int .u64 0, .int .u64 0] 24)
  replace PN : Hid (HasF (w5.alloc (.cells #[.bool false, .int .u64 0, .int .u64 0] 24)) (m3) (.bool false) (.int .u64 0) (.int .u64 0)) := (PN.out).alloc (.cells #[.bool false, .int .u64 0, .int .u64 0] 24)
  replace B : Hid (Below w.heap.size w (w5.alloc (.cells #[.bool false, .int .u64 0, .int .u64 0] 24))) := bal (B.out) _
  have PM : Hid (HasF (w5.alloc (.cells #[.bool false, .int .u64 0, .int .u64 0] 24)) (w5.heap.size) (.bool false) (.int .u64 0) (.int .u64 0)) := HasF.new w5 (.bool false) (.int .u64 0) (.int .u64 0) 24
  go_wp2_with fail
  generalize (w5.alloc (.cells #[.bool false, .int .u64 0, .int .u64 0] 24)) = W5 at *
  generalize w5.heap.size = m5 at *
  refine (h9.out _).mono ?_
  rintro e w6 ⟨rfl, hb⟩
  replace PA : Hid (HasF w6 (w.heap.size) (.bool va) (.int .u64 ah) (.int .u64 al)) := PA.out.below hb
  replace PB : Hid (HasF w6 (w.heap.size + 1) (.bool vb) (.int .u64 bh) (.int .u64 bl)) := PB.out.below hb
  replace PX : Hid (HasF w6 (m2) (.bool xv) (.int .u64 xh) (.int .u64 xl)) := PX.out.below hb
  replace PN : Hid (HasF w6 (m3) (.bool false) (.int .u64 0) (.int .u64 0)) := PN.out.below hb
  replace PM : Hid (HasF w6 (m5) (.bool false) (.int .u64 0) (.int .u64 0)) := PM.out.below hb
  replace B : Hid (Below w.heap.size w w6) := btr B.out hb
  clear hb
  have LPAPW : Hid (w.heap.size ≠ w6.heap.size) := Nat.ne_of_lt PA.out.1.2.2.2
  have LPBPW : Hid (w.heap.size + 1 ≠ w6.heap.size) := Nat.ne_of_lt PB.out.1.2.2.2
  have LPXPW : Hid (m2 ≠ w6.heap.size) := Nat.ne_of_lt PX.out.1.2.2.2
  have LPNPW : Hid (m3 ≠ w6.heap.size) := Nat.ne_of_lt PN.out.1.2.2.2
  have LPMPW : Hid (m5 ≠ w6.heap.size) := Nat.ne_of_lt PM.out.1.2.2.2
  have GPW : Hid (w.heap.size ≤ w6.heap.size) := B.out.size
  replace PA : Hid (HasF (w6.alloc (.cells #[.bool xv, .int .u64 xh, .int .u64 xl] 24)) (w.heap.size) (.bool va) (.int .u64 ah) (.int .u64 al)) := (PA.out).alloc (.cells #[.bool xv, .int .u64 xh, .int .u64 xl] 24)
  replace PB : Hid (HasF (w6.alloc (.cells #[.bool xv, .int .u64 xh, .int .u64 xl] 24)) (w.heap.size + 1) (.bool vb) (.int .u64 bh) (.int .u64 bl)) := (PB.out).alloc (.cells #[.bool xv, .int .u64 xh, .int .u64 xl] 24)
  replace PX : Hid (HasF (w6.alloc (.cells #[.bool xv, .int .u64 xh, .int .u64 xl] 24)) (m2) (.bool xv) (.int .u64 xh) (.int .u64 xl)) := (PX.out).alloc (.cells #[.bool xv, .int .u64 xh, .int .u64 xl] 24)
  replace PN : Hid (HasF (w6.alloc (.cells #[.bool xv, .int .u64 xh, .int .u64 xl] 24)) (m3) (.bool false) (.int .u64 0) (.int .u64 0)) := (PN.out).alloc (.cells #[.bool xv, .int .u64 xh, .int .u64 xl] 24)
  replace PM : Hid (HasF (w6.alloc (.cells #[.bool xv, .int .u64 xh, .int .u64 xl] 24)) (m5) (.bool false) (.int .u64 0) (.int .u64 0)) := (PM.out).alloc (.cells #[.bool xv, .int .u64 xh, .int .u64 xl] 24)
  replace B : Hid (Below w.heap.size w (w6.alloc (.cells #[.bool xv, .int .u64 xh, .int .u64 xl] 24))) := bal (B.out) _
  have PW : Hid (HasF (w6.alloc (.cells #[.bool xv, .int .u64 xh, .int .u64 xl] 24)) (w6.heap.size) (.bool xv) (.int .u64 xh) (.int .u64 xl)) := HasF.new w6 (.bool xv) (.int .u64 xh) (.int .u64 xl) 24
  have E1 := eql_addr xv xh xl xv xh xl
  rw [eqA_same] at E1
  have E2 := eql_addr false 0 0 false 0 0
  rw [eqA_same] at E2
  go_wp2_with fail
  generalize (w6.alloc (.cells #[.bool xv, .int .u64 xh, .int .u64 xl] 24)) = W6 at *
  generalize w6.heap.size = m6 at *
  refine (hB.out _ (HG.out _ B.out)).mono ?_
  rintro e w7 ⟨rfl, hb⟩
  replace PA : Hid (HasF w7 (w.heap.size) (.bool va) (.int .u64 ah) (.int .u64 al)) := PA.out.below hb
  replace PB : Hid (HasF w7 (w.heap.size + 1) (.bool vb) (.int .u64 bh) (.int .u64 bl)) := PB.out.below hb
  replace PX : Hid (HasF w7 (m2) (.bool xv) (.int .u64 xh) (.int .u64 xl)) := PX.out.below hb
  replace PN : Hid (HasF w7 (m3) (.bool false) (.int .u64 0) (.int .u64 0)) := PN.out.below hb
  replace PM : Hid (HasF w7 (m5) (.bool false) (.int .u64 0) (.int .u64 0)) := PM.out.below hb
  replace PW : Hid (HasF w7 (m6) (.bool xv) (.int .u64 xh) (.int .u64 xl)) := PW.out.below hb
  replace B : Hid (Below w.heap.size w w7) := btr B.out hb
  clear hb
  obtain ⟨⟨PA0, PA1, PA2, PA3⟩, _⟩ := PA.out
  go_wp2_with fail
  refine (h10.out _).mono ?_
  clear PA0 PA1 PA2 PA3 
  rintro e w8 ⟨rfl, hb⟩
  replace PA : Hid (HasF w8 (w.heap.size) (.bool va) (.int .u64 ah) (.int .u64 al)) := PA.out.below hb
  replace PB : Hid (HasF w8 (w.heap.size + 1) (.bool vb) (.int .u64 bh) (.int .u64 bl)) := PB.out.below hb
  replace PX : Hid (HasF w8 (m2) (.bool xv) (.int .u64 xh) (.int .u64 xl)) := PX.out.below hb
  replace PN : Hid (HasF w8 (m3) (.bool false) (.int .u64 0) (.int .u64 0)) := PN.out.below hb
  replace PM : Hid (HasF w8 (m5) (.bool false) (.int .u64 0) (.int .u64 0)) := PM.out.below hb
  replace PW : Hid (HasF w8 (m6) (.bool xv) (.int .u64 xh) (.int .u64 xl)) := PW.out.below hb
  replace B : Hid (Below w.heap.size w w8) := btr B.out hb
  clear hb
  obtain ⟨⟨PA0, PA1, PA2, PA3⟩, _⟩ := PA.out
  obtain ⟨⟨PB0, PB1, PB2, PB3⟩, _⟩ := PB.out
  obtain ⟨⟨PX0, PX1, PX2, PX3⟩, _⟩ := PX.out
  obtain ⟨⟨PN0, PN1, PN2, PN3⟩, _⟩ := PN.out
  obtain ⟨⟨PM0, PM1, PM2, PM3⟩, _⟩ := PM.out
  obtain ⟨⟨PW0, PW1, PW2, PW3⟩, _⟩ := PW.out
  go_wp2
  go_ret
  exact ⟨rfl, B.out⟩

set_option maxHeartbeats 32000000 in
set_option maxRecDepth 100000 in
theorem tells_33f (va : Bool) (ah al : Int) (vb : Bool) (bh bl : Int) (s T : ByteArray) (xv : Bool) (xh xl : Int) (nv : Bool) (nh nl : Int) (nb L : Bool) (w : World) (hg : Good w)
    (h1 : Hid (∀ w : World, Good w → Calls Tryd.prog 4 #[.agg #[.bool va, .int .u64 ah, .int .u64 al]] w fun e w' => e = .returned (.tuple #[.string ⟨#[]⟩, .int .i64 3]) ∧ Below w.heap.size w w'))
    (h2 : Hid (∀ w : World, Good w → Calls Tryd.prog 5 #[.string s] w fun e w' => e = .returned (.tuple #[.agg #[.bool false, .int .u64 0, .int .u64 0], .int .i64 1]) ∧ Below w.heap.size w w'))
    (h3 : Hid (∀ w : World, Calls Tryd.prog 6 #[.agg #[.bool va, .int .u64 ah, .int .u64 al]] w fun e w' => e = .returned (.tuple #[.agg #[.bool false, .int .u64 0, .int .u64 0], .bool false, .int .i64 3]) ∧ Below w.heap.size w w'))
    (h4 : Hid (∀ w : World, Calls Tryd.prog 7 #[.agg #[.bool va, .int .u64 ah, .int .u64 al], .agg #[.bool vb, .int .u64 bh, .int .u64 bl]] w fun e w' => e = .returned (.tuple #[.bool false, .int .i64 3]) ∧ Below w.heap.size w w'))
    (h5 : Hid (∀ w : World, Calls Tryd.prog 8 #[.agg #[.bool va, .int .u64 ah, .int .u64 al]] w fun e w' => e = .returned (.int .i64 3) ∧ Below w.heap.size w w'))
    (h9 : Hid (∀ w : World, Calls Tryd.prog 11 #[.string s] w fun e w' => e = .returned (.tuple #[.agg #[.bool false, .int .u64 0, .int .u64 0], .bool false]) ∧ Below w.heap.size w w'))
    (h10 : Hid (∀ w : World, Calls Tryd.prog 13 #[.agg #[.bool va, .int .u64 ah, .int .u64 al]] w fun e w' => e = .returned (.int .i64 3) ∧ Below w.heap.size w w'))
    : Calls Tryd.prog 3 #[.agg #[.bool va, .int .u64 ah, .int .u64 al], .agg #[.bool vb, .int .u64 bh, .int .u64 bl], .string s] w fun e w' => e = .returned (.bool true) ∧ Below w.heap.size w w' := by
  have hB : Hid (∀ w : World, Good w → Calls Tryd.prog 12 #[] w fun e w' => e = .returned (.bool true) ∧ Below w.heap.size w w') := fun w => begun_any w
  have HG : Hid (∀ w1 : World, Below w.heap.size w w1 → Good w1) := fun w1 h => hg.below h
  have B : Hid (Below w.heap.size w w) := Below.refl _ _
  clear hg
  have GPA : Hid (w.heap.size ≤ w.heap.size) := Nat.le_refl _
  have GPB : Hid (w.heap.size ≤ w.heap.size + 1) := Nat.le_succ _
  replace B : Hid (Below w.heap.size w ((w.alloc (.cells #[.bool va, .int .u64 ah, .int .u64 al] 24)).alloc (.cells #[.bool vb, .int .u64 bh, .int .u64 bl] 24))) := bal (bal (B.out) _) _
  have PA : Hid (HasF ((w.alloc (.cells #[.bool va, .int .u64 ah, .int .u64 al] 24)).alloc (.cells #[.bool vb, .int .u64 bh, .int .u64 bl] 24)) (w.heap.size) (.bool va) (.int .u64 ah) (.int .u64 al)) := (HasF.new w (.bool va) (.int .u64 ah) (.int .u64 al) 24).alloc (.cells #[.bool vb, .int .u64 bh, .int .u64 bl] 24)
  have PB : Hid (HasF ((w.alloc (.cells #[.bool va, .int .u64 ah, .int .u64 al] 24)).alloc (.cells #[.bool vb, .int .u64 bh, .int .u64 bl] 24)) (w.heap.size + 1) (.bool vb) (.int .u64 bh) (.int .u64 bl)) := by
    have := HasF.new (w.alloc (.cells #[.bool va, .int .u64 ah, .int .u64 al] 24)) (.bool vb) (.int .u64 bh) (.int .u64 bl) 24
    rw [show (w.alloc (.cells #[.bool va, .int .u64 ah, .int .u64 al] 24)).heap.size = w.heap.size + 1 by simp] at this
    exact this
  go_enter Tryd.func3, Tryd.ntmps3
  obtain ⟨⟨PA0, PA1, PA2, PA3⟩, _⟩ := PA.out
  go_wp2_with fail
  generalize ((w.alloc (.cells #[.bool va, .int .u64 ah, .int .u64 al] 24)).alloc (.cells #[.bool vb, .int .u64 bh, .int .u64 bl] 24)) = W0 at *
  refine (h1.out _ (HG.out _ B.out)).mono ?_
  clear PA0 PA1 PA2 PA3 
  rintro e w1 ⟨rfl, hb⟩
  replace PA : Hid (HasF w1 (w.heap.size) (.bool va) (.int .u64 ah) (.int .u64 al)) := PA.out.below hb
  replace PB : Hid (HasF w1 (w.heap.size + 1) (.bool vb) (.int .u64 bh) (.int .u64 bl)) := PB.out.below hb
  replace B : Hid (Below w.heap.size w w1) := btr B.out hb
  clear hb
  go_wp2_with fail
  refine (h2.out _ (HG.out _ B.out)).mono ?_
  rintro e w2 ⟨rfl, hb⟩
  replace PA : Hid (HasF w2 (w.heap.size) (.bool va) (.int .u64 ah) (.int .u64 al)) := PA.out.below hb
  replace PB : Hid (HasF w2 (w.heap.size + 1) (.bool vb) (.int .u64 bh) (.int .u64 bl)) := PB.out.below hb
  replace B : Hid (Below w.heap.size w w2) := btr B.out hb
  clear hb
  have LPAPX : Hid (w.heap.size ≠ w2.heap.size) := Nat.ne_of_lt PA.out.1.2.2.2
  have LPBPX : Hid (w.heap.size + 1 ≠ w2.heap.size) := Nat.ne_of_lt PB.out.1.2.2.2
  have GPX : Hid (w.heap.size ≤ w2.heap.size) := B.out.size
  replace PA : Hid (HasF (w2.alloc (.cells #[.bool false, .int .u64 0, .int .u64 0] 24)) (w.heap.size) (.bool va) (.int .u64 ah) (.int .u64 al)) := (PA.out).alloc (.cells #[.bool false, .int .u64 0, .int .u64 0] 24)
  replace PB : Hid (HasF (w2.alloc (.cells #[.bool false, .int .u64 0, .int .u64 0] 24)) (w.heap.size + 1) (.bool vb) (.int .u64 bh) (.int .u64 bl)) := (PB.out).alloc (.cells #[.bool false, .int .u64 0, .int .u64 0] 24)
  replace B : Hid (Below w.heap.size w (w2.alloc (.cells #[.bool false, .int .u64 0, .int .u64 0] 24))) := bal (B.out) _
  have PX : Hid (HasF (w2.alloc (.cells #[.bool false, .int .u64 0, .int .u64 0] 24)) (w2.heap.size) (.bool false) (.int .u64 0) (.int .u64 0)) := HasF.new w2 (.bool false) (.int .u64 0) (.int .u64 0) 24
  obtain ⟨⟨PA0, PA1, PA2, PA3⟩, _⟩ := PA.out
  go_wp2_with fail
  generalize (w2.alloc (.cells #[.bool false, .int .u64 0, .int .u64 0] 24)) = W2 at *
  generalize w2.heap.size = m2 at *
  refine (h3.out _).mono ?_
  clear PA0 PA1 PA2 PA3 
  rintro e w3 ⟨rfl, hb⟩
  replace PA : Hid (HasF w3 (w.heap.size) (.bool va) (.int .u64 ah) (.int .u64 al)) := PA.out.below hb
  replace PB : Hid (HasF w3 (w.heap.size + 1) (.bool vb) (.int .u64 bh) (.int .u64 bl)) := PB.out.below hb
  replace PX : Hid (HasF w3 (m2) (.bool false) (.int .u64 0) (.int .u64 0)) := PX.out.below hb
  replace B : Hid (Below w.heap.size w w3) := btr B.out hb
  clear hb
  have LPAPN : Hid (w.heap.size ≠ w3.heap.size) := Nat.ne_of_lt PA.out.1.2.2.2
  have LPBPN : Hid (w.heap.size + 1 ≠ w3.heap.size) := Nat.ne_of_lt PB.out.1.2.2.2
  have LPXPN : Hid (m2 ≠ w3.heap.size) := Nat.ne_of_lt PX.out.1.2.2.2
  have GPN : Hid (w.heap.size ≤ w3.heap.size) := B.out.size
  replace PA : Hid (HasF (w3.alloc (.cells #[.bool false, .int .u64 0, .int .u64 0] 24)) (w.heap.size) (.bool va) (.int .u64 ah) (.int .u64 al)) := (PA.out).alloc (.cells #[.bool false, .int .u64 0, .int .u64 0] 24)
  replace PB : Hid (HasF (w3.alloc (.cells #[.bool false, .int .u64 0, .int .u64 0] 24)) (w.heap.size + 1) (.bool vb) (.int .u64 bh) (.int .u64 bl)) := (PB.out).alloc (.cells #[.bool false, .int .u64 0, .int .u64 0] 24)
  replace PX : Hid (HasF (w3.alloc (.cells #[.bool false, .int .u64 0, .int .u64 0] 24)) (m2) (.bool false) (.int .u64 0) (.int .u64 0)) := (PX.out).alloc (.cells #[.bool false, .int .u64 0, .int .u64 0] 24)
  replace B : Hid (Below w.heap.size w (w3.alloc (.cells #[.bool false, .int .u64 0, .int .u64 0] 24))) := bal (B.out) _
  have PN : Hid (HasF (w3.alloc (.cells #[.bool false, .int .u64 0, .int .u64 0] 24)) (w3.heap.size) (.bool false) (.int .u64 0) (.int .u64 0)) := HasF.new w3 (.bool false) (.int .u64 0) (.int .u64 0) 24
  obtain ⟨⟨PA0, PA1, PA2, PA3⟩, _⟩ := PA.out
  obtain ⟨⟨PB0, PB1, PB2, PB3⟩, _⟩ := PB.out
  go_wp2_with fail
  generalize (w3.alloc (.cells #[.bool false, .int .u64 0, .int .u64 0] 24)) = W3 at *
  generalize w3.heap.size = m3 at *
  refine (h4.out _).mono ?_
  clear PA0 PA1 PA2 PA3 PB0 PB1 PB2 PB3 
  rintro e w4 ⟨rfl, hb⟩
  replace PA : Hid (HasF w4 (w.heap.size) (.bool va) (.int .u64 ah) (.int .u64 al)) := PA.out.below hb
  replace PB : Hid (HasF w4 (w.heap.size + 1) (.bool vb) (.int .u64 bh) (.int .u64 bl)) := PB.out.below hb
  replace PX : Hid (HasF w4 (m2) (.bool false) (.int .u64 0) (.int .u64 0)) := PX.out.below hb
  replace PN : Hid (HasF w4 (m3) (.bool false) (.int .u64 0) (.int .u64 0)) := PN.out.below hb
  replace B : Hid (Below w.heap.size w w4) := btr B.out hb
  clear hb
  obtain ⟨⟨PA0, PA1, PA2, PA3⟩, _⟩ := PA.out
  go_wp2_with fail
  refine (h5.out _).mono ?_
  clear PA0 PA1 PA2 PA3 
  rintro e w5 ⟨rfl, hb⟩
  replace PA : Hid (HasF w5 (w.heap.size) (.bool va) (.int .u64 ah) (.int .u64 al)) := PA.out.below hb
  replace PB : Hid (HasF w5 (w.heap.size + 1) (.bool vb) (.int .u64 bh) (.int .u64 bl)) := PB.out.below hb
  replace PX : Hid (HasF w5 (m2) (.bool false) (.int .u64 0) (.int .u64 0)) := PX.out.below hb
  replace PN : Hid (HasF w5 (m3) (.bool false) (.int .u64 0) (.int .u64 0)) := PN.out.below hb
  replace B : Hid (Below w.heap.size w w5) := btr B.out hb
  clear hb
  have LPAPM : Hid (w.heap.size ≠ w5.heap.size) := Nat.ne_of_lt PA.out.1.2.2.2
  have LPBPM : Hid (w.heap.size + 1 ≠ w5.heap.size) := Nat.ne_of_lt PB.out.1.2.2.2
  have LPXPM : Hid (m2 ≠ w5.heap.size) := Nat.ne_of_lt PX.out.1.2.2.2
  have LPNPM : Hid (m3 ≠ w5.heap.size) := Nat.ne_of_lt PN.out.1.2.2.2
  have GPM : Hid (w.heap.size ≤ w5.heap.size) := B.out.size
  replace PA : Hid (HasF (w5.alloc (.cells #[.bool false, .int .u64 0, .int .u64 0] 24)) (w.heap.size) (.bool va) (.int .u64 ah) (.int .u64 al)) := (PA.out).alloc (.cells #[.bool false, .int .u64 0, .int .u64 0] 24)
  replace PB : Hid (HasF (w5.alloc (.cells #[.bool false, .int .u64 0, .int .u64 0] 24)) (w.heap.size + 1) (.bool vb) (.int .u64 bh) (.int .u64 bl)) := (PB.out).alloc (.cells #[.bool false, .int .u64 0, .int .u64 0] 24)
  replace PX : Hid (HasF (w5.alloc (.cells #[.bool false, .int .u64 0, .int .u64 0] 24)) (m2) (.bool false) (.int .u64 0) (.int .u64 0)) := (PX.out).alloc (.cells #[.bool false, .int .u64 0, .int .u64 0] 24)
  replace PN : Hid (HasF (w5.alloc (.cells #[.bool false, .int .u64 0, .int .u64 0] 24)) (m3) (.bool false) (.int .u64 0) (.int .u64 0)) := (PN.out).alloc (.cells #[.bool false, .int .u64 0, .int .u64 0] 24)
  replace B : Hid (Below w.heap.size w (w5.alloc (.cells #[.bool false, .int .u64 0, .int .u64 0] 24))) := bal (B.out) _
  have PM : Hid (HasF (w5.alloc (.cells #[.bool false, .int .u64 0, .int .u64 0] 24)) (w5.heap.size) (.bool false) (.int .u64 0) (.int .u64 0)) := HasF.new w5 (.bool false) (.int .u64 0) (.int .u64 0) 24
  go_wp2_with fail
  generalize (w5.alloc (.cells #[.bool false, .int .u64 0, .int .u64 0] 24)) = W5 at *
  generalize w5.heap.size = m5 at *
  refine (h9.out _).mono ?_
  rintro e w6 ⟨rfl, hb⟩
  replace PA : Hid (HasF w6 (w.heap.size) (.bool va) (.int .u64 ah) (.int .u64 al)) := PA.out.below hb
  replace PB : Hid (HasF w6 (w.heap.size + 1) (.bool vb) (.int .u64 bh) (.int .u64 bl)) := PB.out.below hb
  replace PX : Hid (HasF w6 (m2) (.bool false) (.int .u64 0) (.int .u64 0)) := PX.out.below hb
  replace PN : Hid (HasF w6 (m3) (.bool false) (.int .u64 0) (.int .u64 0)) := PN.out.below hb
  replace PM : Hid (HasF w6 (m5) (.bool false) (.int .u64 0) (.int .u64 0)) := PM.out.below hb
  replace B : Hid (Below w.heap.size w w6) := btr B.out hb
  clear hb
  have LPAPW : Hid (w.heap.size ≠ w6.heap.size) := Nat.ne_of_lt PA.out.1.2.2.2
  have LPBPW : Hid (w.heap.size + 1 ≠ w6.heap.size) := Nat.ne_of_lt PB.out.1.2.2.2
  have LPXPW : Hid (m2 ≠ w6.heap.size) := Nat.ne_of_lt PX.out.1.2.2.2
  have LPNPW : Hid (m3 ≠ w6.heap.size) := Nat.ne_of_lt PN.out.1.2.2.2
  have LPMPW : Hid (m5 ≠ w6.heap.size) := Nat.ne_of_lt PM.out.1.2.2.2
  have GPW : Hid (w.heap.size ≤ w6.heap.size) := B.out.size
  replace PA : Hid (HasF (w6.alloc (.cells #[.bool false, .int .u64 0, .int .u64 0] 24)) (w.heap.size) (.bool va) (.int .u64 ah) (.int .u64 al)) := (PA.out).alloc (.cells #[.bool false, .int .u64 0, .int .u64 0] 24)
  replace PB : Hid (HasF (w6.alloc (.cells #[.bool false, .int .u64 0, .int .u64 0] 24)) (w.heap.size + 1) (.bool vb) (.int .u64 bh) (.int .u64 bl)) := (PB.out).alloc (.cells #[.bool false, .int .u64 0, .int .u64 0] 24)
  replace PX : Hid (HasF (w6.alloc (.cells #[.bool false, .int .u64 0, .int .u64 0] 24)) (m2) (.bool false) (.int .u64 0) (.int .u64 0)) := (PX.out).alloc (.cells #[.bool false, .int .u64 0, .int .u64 0] 24)
  replace PN : Hid (HasF (w6.alloc (.cells #[.bool false, .int .u64 0, .int .u64 0] 24)) (m3) (.bool false) (.int .u64 0) (.int .u64 0)) := (PN.out).alloc (.cells #[.bool false, .int .u64 0, .int .u64 0] 24)
  replace PM : Hid (HasF (w6.alloc (.cells #[.bool false, .int .u64 0, .int .u64 0] 24)) (m5) (.bool false) (.int .u64 0) (.int .u64 0)) := (PM.out).alloc (.cells #[.bool false, .int .u64 0, .int .u64 0] 24)
  replace B : Hid (Below w.heap.size w (w6.alloc (.cells #[.bool false, .int .u64 0, .int .u64 0] 24))) := bal (B.out) _
  have PW : Hid (HasF (w6.alloc (.cells #[.bool false, .int .u64 0, .int .u64 0] 24)) (w6.heap.size) (.bool false) (.int .u64 0) (.int .u64 0)) := HasF.new w6 (.bool false) (.int .u64 0) (.int .u64 0) 24
  have E1 := eql_addr false 0 0 false 0 0
  rw [eqA_same] at E1
  have E2 := eql_addr false 0 0 false 0 0
  rw [eqA_same] at E2
  go_wp2_with fail
  generalize (w6.alloc (.cells #[.bool false, .int .u64 0, .int .u64 0] 24)) = W6 at *
  generalize w6.heap.size = m6 at *
  refine (hB.out _ (HG.out _ B.out)).mono ?_
  rintro e w7 ⟨rfl, hb⟩
  replace PA : Hid (HasF w7 (w.heap.size) (.bool va) (.int .u64 ah) (.int .u64 al)) := PA.out.below hb
  replace PB : Hid (HasF w7 (w.heap.size + 1) (.bool vb) (.int .u64 bh) (.int .u64 bl)) := PB.out.below hb
  replace PX : Hid (HasF w7 (m2) (.bool false) (.int .u64 0) (.int .u64 0)) := PX.out.below hb
  replace PN : Hid (HasF w7 (m3) (.bool false) (.int .u64 0) (.int .u64 0)) := PN.out.below hb
  replace PM : Hid (HasF w7 (m5) (.bool false) (.int .u64 0) (.int .u64 0)) := PM.out.below hb
  replace PW : Hid (HasF w7 (m6) (.bool false) (.int .u64 0) (.int .u64 0)) := PW.out.below hb
  replace B : Hid (Below w.heap.size w w7) := btr B.out hb
  clear hb
  obtain ⟨⟨PA0, PA1, PA2, PA3⟩, _⟩ := PA.out
  go_wp2_with fail
  refine (h10.out _).mono ?_
  clear PA0 PA1 PA2 PA3 
  rintro e w8 ⟨rfl, hb⟩
  replace PA : Hid (HasF w8 (w.heap.size) (.bool va) (.int .u64 ah) (.int .u64 al)) := PA.out.below hb
  replace PB : Hid (HasF w8 (w.heap.size + 1) (.bool vb) (.int .u64 bh) (.int .u64 bl)) := PB.out.below hb
  replace PX : Hid (HasF w8 (m2) (.bool false) (.int .u64 0) (.int .u64 0)) := PX.out.below hb
  replace PN : Hid (HasF w8 (m3) (.bool false) (.int .u64 0) (.int .u64 0)) := PN.out.below hb
  replace PM : Hid (HasF w8 (m5) (.bool false) (.int .u64 0) (.int .u64 0)) := PM.out.below hb
  replace PW : Hid (HasF w8 (m6) (.bool false) (.int .u64 0) (.int .u64 0)) := PW.out.below hb
  replace B : Hid (Below w.heap.size w w8) := btr B.out hb
  clear hb
  obtain ⟨⟨PA0, PA1, PA2, PA3⟩, _⟩ := PA.out
  obtain ⟨⟨PB0, PB1, PB2, PB3⟩, _⟩ := PB.out
  obtain ⟨⟨PX0, PX1, PX2, PX3⟩, _⟩ := PX.out
  obtain ⟨⟨PN0, PN1, PN2, PN3⟩, _⟩ := PN.out
  obtain ⟨⟨PM0, PM1, PM2, PM3⟩, _⟩ := PM.out
  obtain ⟨⟨PW0, PW1, PW2, PW3⟩, _⟩ := PW.out
  go_wp2
  go_ret
  exact ⟨rfl, B.out⟩

set_option maxHeartbeats 32000000 in
set_option maxRecDepth 100000 in
theorem tells_03t (va : Bool) (ah al : Int) (vb : Bool) (bh bl : Int) (s T : ByteArray) (xv : Bool) (xh xl : Int) (nv : Bool) (nh nl : Int) (nb L : Bool) (w : World) (hg : Good w)
    (h1 : Hid (∀ w : World, Good w → Calls Tryd.prog 4 #[.agg #[.bool va, .int .u64 ah, .int .u64 al]] w fun e w' => e = .returned (.tuple #[.string T, .int .i64 0]) ∧ Below w.heap.size w w'))
    (h2 : Hid (∀ w : World, Good w → Calls Tryd.prog 5 #[.string s] w fun e w' => e = .returned (.tuple #[.agg #[.bool xv, .int .u64 xh, .int .u64 xl], .int .i64 0]) ∧ Below w.heap.size w w'))
    (h3 : Hid (∀ w : World, Calls Tryd.prog 6 #[.agg #[.bool va, .int .u64 ah, .int .u64 al]] w fun e w' => e = .returned (.tuple #[.agg #[.bool nv, .int .u64 nh, .int .u64 nl], .bool nb, .int .i64 0]) ∧ Below w.heap.size w w'))
    (h4 : Hid (∀ w : World, Calls Tryd.prog 7 #[.agg #[.bool va, .int .u64 ah, .int .u64 al], .agg #[.bool vb, .int .u64 bh, .int .u64 bl]] w fun e w' => e = .returned (.tuple #[.bool false, .int .i64 3]) ∧ Below w.heap.size w w'))
    (h5 : Hid (∀ w : World, Calls Tryd.prog 8 #[.agg #[.bool va, .int .u64 ah, .int .u64 al]] w fun e w' => e = .returned (.int .i64 0) ∧ Below w.heap.size w w'))
    (h6 : Hid (∀ w : World, Calls Tryd.prog 8 #[.agg #[.bool vb, .int .u64 bh, .int .u64 bl]] w fun e w' => e = .returned (.int .i64 3) ∧ Below w.heap.size w w'))
    (h7 : Hid (∀ w : World, Calls Tryd.prog 9 #[.agg #[.bool va, .int .u64 ah, .int .u64 al]] w fun e w' => e = .returned (.string T) ∧ Below w.heap.size w w'))
    (h8 : Hid (∀ w : World, Calls Tryd.prog 10 #[.agg #[.bool va, .int .u64 ah, .int .u64 al]] w fun e w' => e = .returned (.tuple #[.agg #[.bool nv, .int .u64 nh, .int .u64 nl], .bool nb]) ∧ Below w.heap.size w w'))
    (h9 : Hid (∀ w : World, Calls Tryd.prog 11 #[.string s] w fun e w' => e = .returned (.tuple #[.agg #[.bool xv, .int .u64 xh, .int .u64 xl], .bool true]) ∧ Below w.heap.size w w'))
    (h10 : Hid (∀ w : World, Calls Tryd.prog 13 #[.agg #[.bool va, .int .u64 ah, .int .u64 al]] w fun e w' => e = .returned (.int .i64 0) ∧ Below w.heap.size w w'))
    : Calls Tryd.prog 3 #[.agg #[.bool va, .int .u64 ah, .int .u64 al], .agg #[.bool vb, .int .u64 bh, .int .u64 bl], .string s] w fun e w' => e = .returned (.bool true) ∧ Below w.heap.size w w' := by
  have hB : Hid (∀ w : World, Good w → Calls Tryd.prog 12 #[] w fun e w' => e = .returned (.bool true) ∧ Below w.heap.size w w') := fun w => begun_any w
  have HG : Hid (∀ w1 : World, Below w.heap.size w w1 → Good w1) := fun w1 h => hg.below h
  have B : Hid (Below w.heap.size w w) := Below.refl _ _
  clear hg
  have GPA : Hid (w.heap.size ≤ w.heap.size) := Nat.le_refl _
  have GPB : Hid (w.heap.size ≤ w.heap.size + 1) := Nat.le_succ _
  replace B : Hid (Below w.heap.size w ((w.alloc (.cells #[.bool va, .int .u64 ah, .int .u64 al] 24)).alloc (.cells #[.bool vb, .int .u64 bh, .int .u64 bl] 24))) := bal (bal (B.out) _) _
  have PA : Hid (HasF ((w.alloc (.cells #[.bool va, .int .u64 ah, .int .u64 al] 24)).alloc (.cells #[.bool vb, .int .u64 bh, .int .u64 bl] 24)) (w.heap.size) (.bool va) (.int .u64 ah) (.int .u64 al)) := (HasF.new w (.bool va) (.int .u64 ah) (.int .u64 al) 24).alloc (.cells #[.bool vb, .int .u64 bh, .int .u64 bl] 24)
  have PB : Hid (HasF ((w.alloc (.cells #[.bool va, .int .u64 ah, .int .u64 al] 24)).alloc (.cells #[.bool vb, .int .u64 bh, .int .u64 bl] 24)) (w.heap.size + 1) (.bool vb) (.int .u64 bh) (.int .u64 bl)) := by
    have := HasF.new (w.alloc (.cells #[.bool va, .int .u64 ah, .int .u64 al] 24)) (.bool vb) (.int .u64 bh) (.int .u64 bl) 24
    rw [show (w.alloc (.cells #[.bool va, .int .u64 ah, .int .u64 al] 24)).heap.size = w.heap.size + 1 by simp] at this
    exact this
  go_enter Tryd.func3, Tryd.ntmps3
  obtain ⟨⟨PA0, PA1, PA2, PA3⟩, _⟩ := PA.out
  go_wp2_with fail
  generalize ((w.alloc (.cells #[.bool va, .int .u64 ah, .int .u64 al] 24)).alloc (.cells #[.bool vb, .int .u64 bh, .int .u64 bl] 24)) = W0 at *
  refine (h1.out _ (HG.out _ B.out)).mono ?_
  clear PA0 PA1 PA2 PA3 
  rintro e w1 ⟨rfl, hb⟩
  replace PA : Hid (HasF w1 (w.heap.size) (.bool va) (.int .u64 ah) (.int .u64 al)) := PA.out.below hb
  replace PB : Hid (HasF w1 (w.heap.size + 1) (.bool vb) (.int .u64 bh) (.int .u64 bl)) := PB.out.below hb
  replace B : Hid (Below w.heap.size w w1) := btr B.out hb
  clear hb
  go_wp2_with fail
  refine (h2.out _ (HG.out _ B.out)).mono ?_
  rintro e w2 ⟨rfl, hb⟩
  replace PA : Hid (HasF w2 (w.heap.size) (.bool va) (.int .u64 ah) (.int .u64 al)) := PA.out.below hb
  replace PB : Hid (HasF w2 (w.heap.size + 1) (.bool vb) (.int .u64 bh) (.int .u64 bl)) := PB.out.below hb
  replace B : Hid (Below w.heap.size w w2) := btr B.out hb
  clear hb
  have LPAPX : Hid (w.heap.size ≠ w2.heap.size) := Nat.ne_of_lt PA.out.1.2.2.2
  have LPBPX : Hid (w.heap.size + 1 ≠ w2.heap.size) := Nat.ne_of_lt PB.out.1.2.2.2
  have GPX : Hid (w.heap.size ≤ w2.heap.size) := B.out.size
  replace PA : Hid (HasF (w2.alloc (.cells #[.bool xv, .int .u64 xh, .int .u64 xl] 24)) (w.heap.size) (.bool va) (.int .u64 ah) (.int .u64 al)) := (PA.out).alloc (.cells #[.bool xv, .int .u64 xh, .int .u64 xl] 24)
  replace PB : Hid (HasF (w2.alloc (.cells #[.bool xv, .int .u64 xh, .int .u64 xl] 24)) (w.heap.size + 1) (.bool vb) (.int .u64 bh) (.int .u64 bl)) := (PB.out).alloc (.cells #[.bool xv, .int .u64 xh, .int .u64 xl] 24)
  replace B : Hid (Below w.heap.size w (w2.alloc (.cells #[.bool xv, .int .u64 xh, .int .u64 xl] 24))) := bal (B.out) _
  have PX : Hid (HasF (w2.alloc (.cells #[.bool xv, .int .u64 xh, .int .u64 xl] 24)) (w2.heap.size) (.bool xv) (.int .u64 xh) (.int .u64 xl)) := HasF.new w2 (.bool xv) (.int .u64 xh) (.int .u64 xl) 24
  obtain ⟨⟨PA0, PA1, PA2, PA3⟩, _⟩ := PA.out
  go_wp2_with fail
  generalize (w2.alloc (.cells #[.bool xv, .int .u64 xh, .int .u64 xl] 24)) = W2 at *
  generalize w2.heap.size = m2 at *
  refine (h3.out _).mono ?_
  clear PA0 PA1 PA2 PA3 
  rintro e w3 ⟨rfl, hb⟩
  replace PA : Hid (HasF w3 (w.heap.size) (.bool va) (.int .u64 ah) (.int .u64 al)) := PA.out.below hb
  replace PB : Hid (HasF w3 (w.heap.size + 1) (.bool vb) (.int .u64 bh) (.int .u64 bl)) := PB.out.below hb
  replace PX : Hid (HasF w3 (m2) (.bool xv) (.int .u64 xh) (.int .u64 xl)) := PX.out.below hb
  replace B : Hid (Below w.heap.size w w3) := btr B.out hb
  clear hb
  have LPAPN : Hid (w.heap.size ≠ w3.heap.size) := Nat.ne_of_lt PA.out.1.2.2.2
  have LPBPN : Hid (w.heap.size + 1 ≠ w3.heap.size) := Nat.ne_of_lt PB.out.1.2.2.2
  have LPXPN : Hid (m2 ≠ w3.heap.size) := Nat.ne_of_lt PX.out.1.2.2.2
  have GPN : Hid (w.heap.size ≤ w3.heap.size) := B.out.size
  replace PA : Hid (HasF (w3.alloc (.cells #[.bool nv, .int .u64 nh, .int .u64 nl] 24)) (w.heap.size) (.bool va) (.int .u64 ah) (.int .u64 al)) := (PA.out).alloc (.cells #[.bool nv, .int .u64 nh, .int .u64 nl] 24)
  replace PB : Hid (HasF (w3.alloc (.cells #[.bool nv, .int .u64 nh, .int .u64 nl] 24)) (w.heap.size + 1) (.bool vb) (.int .u64 bh) (.int .u64 bl)) := (PB.out).alloc (.cells #[.bool nv, .int .u64 nh, .int .u64 nl] 24)
  replace PX : Hid (HasF (w3.alloc (.cells #[.bool nv, .int .u64 nh, .int .u64 nl] 24)) (m2) (.bool xv) (.int .u64 xh) (.int .u64 xl)) := (PX.out).alloc (.cells #[.bool nv, .int .u64 nh, .int .u64 nl] 24)
  replace B : Hid (Below w.heap.size w (w3.alloc (.cells #[.bool nv, .int .u64 nh, .int .u64 nl] 24))) := bal (B.out) _
  have PN : Hid (HasF (w3.alloc (.cells #[.bool nv, .int .u64 nh, .int .u64 nl] 24)) (w3.heap.size) (.bool nv) (.int .u64 nh) (.int .u64 nl)) := HasF.new w3 (.bool nv) (.int .u64 nh) (.int .u64 nl) 24
  obtain ⟨⟨PA0, PA1, PA2, PA3⟩, _⟩ := PA.out
  obtain ⟨⟨PB0, PB1, PB2, PB3⟩, _⟩ := PB.out
  go_wp2_with fail
  generalize (w3.alloc (.cells #[.bool nv, .int .u64 nh, .int .u64 nl] 24)) = W3 at *
  generalize w3.heap.size = m3 at *
  refine (h4.out _).mono ?_
  clear PA0 PA1 PA2 PA3 PB0 PB1 PB2 PB3 
  rintro e w4 ⟨rfl, hb⟩
  replace PA : Hid (HasF w4 (w.heap.size) (.bool va) (.int .u64 ah) (.int .u64 al)) := PA.out.below hb
  replace PB : Hid (HasF w4 (w.heap.size + 1) (.bool vb) (.int .u64 bh) (.int .u64 bl)) := PB.out.below hb
  replace PX : Hid (HasF w4 (m2) (.bool xv) (.int .u64 xh) (.int .u64 xl)) := PX.out.below hb
  replace PN : Hid (HasF w4 (m3) (.bool nv) (.int .u64 nh) (.int .u64 nl)) := PN.out.below hb
  replace B : Hid (Below w.heap.size w w4) := btr B.out hb
  clear hb
  obtain ⟨⟨PA0, PA1, PA2, PA3⟩, _⟩ := PA.out
  go_wp2_with fail
  refine (h5.out _).mono ?_
  clear PA0 PA1 PA2 PA3 
  rintro e w5 ⟨rfl, hb⟩
  replace PA : Hid (HasF w5 (w.heap.size) (.bool va) (.int .u64 ah) (.int .u64 al)) := PA.out.below hb
  replace PB : Hid (HasF w5 (w.heap.size + 1) (.bool vb) (.int .u64 bh) (.int .u64 bl)) := PB.out.below hb
  replace PX : Hid (HasF w5 (m2) (.bool xv) (.int .u64 xh) (.int .u64 xl)) := PX.out.below hb
  replace PN : Hid (HasF w5 (m3) (.bool nv) (.int .u64 nh) (.int .u64 nl)) := PN.out.below hb
  replace B : Hid (Below w.heap.size w w5) := btr B.out hb
  clear hb
  obtain ⟨⟨PB0, PB1, PB2, PB3⟩, _⟩ := PB.out
  go_wp2_with fail
  refine (h6.out _).mono ?_
  clear PB0 PB1 PB2 PB3 
  rintro e w6 ⟨rfl, hb⟩
  replace PA : Hid (HasF w6 (w.heap.size) (.bool va) (.int .u64 ah) (.int .u64 al)) := PA.out.below hb
  replace PB : Hid (HasF w6 (w.heap.size + 1) (.bool vb) (.int .u64 bh) (.int .u64 bl)) := PB.out.below hb
  replace PX : Hid (HasF w6 (m2) (.bool xv) (.int .u64 xh) (.int .u64 xl)) := PX.out.below hb
  replace PN : Hid (HasF w6 (m3) (.bool nv) (.int .u64 nh) (.int .u64 nl)) := PN.out.below hb
  replace B : Hid (Below w.heap.size w w6) := btr B.out hb
  clear hb
  have LPAPM : Hid (w.heap.size ≠ w6.heap.size) := Nat.ne_of_lt PA.out.1.2.2.2
  have LPBPM : Hid (w.heap.size + 1 ≠ w6.heap.size) := Nat.ne_of_lt PB.out.1.2.2.2
  have LPXPM : Hid (m2 ≠ w6.heap.size) := Nat.ne_of_lt PX.out.1.2.2.2
  have LPNPM : Hid (m3 ≠ w6.heap.size) := Nat.ne_of_lt PN.out.1.2.2.2
  have GPM : Hid (w.heap.size ≤ w6.heap.size) := B.out.size
  replace PA : Hid (HasF (w6.alloc (.cells #[.bool false, .int .u64 0, .int .u64 0] 24)) (w.heap.size) (.bool va) (.int .u64 ah) (.int .u64 al)) := (PA.out).alloc (.cells #[.bool false, .int .u64 0, .int .u64 0] 24)
  replace PB : Hid (HasF (w6.alloc (.cells #[.bool false, .int .u64 0, .int .u64 0] 24)) (w.heap.size + 1) (.bool vb) (.int .u64 bh) (.int .u64 bl)) := (PB.out).alloc (.cells #[.bool false, .int .u64 0, .int .u64 0] 24)
  replace PX : Hid (HasF (w6.alloc (.cells #[.bool false, .int .u64 0, .int .u64 0] 24)) (m2) (.bool xv) (.int .u64 xh) (.int .u64 xl)) := (PX.out).alloc (.cells #[.bool false, .int .u64 0, .int .u64 0] 24)
  replace PN : Hid (HasF (w6.alloc (.cells #[.bool false, .int .u64 0, .int .u64 0] 24)) (m3) (.bool nv) (.int .u64 nh) (.int .u64 nl)) := (PN.out).alloc (.cells #[.bool false, .int .u64 0, .int .u64 0] 24)
  replace B : Hid (Below w.heap.size w (w6.alloc (.cells #[.bool false, .int .u64 0, .int .u64 0] 24))) := bal (B.out) _
  have PM : Hid (HasF (w6.alloc (.cells #[.bool false, .int .u64 0, .int .u64 0] 24)) (w6.heap.size) (.bool false) (.int .u64 0) (.int .u64 0)) := HasF.new w6 (.bool false) (.int .u64 0) (.int .u64 0) 24
  obtain ⟨⟨PA0, PA1, PA2, PA3⟩, _⟩ := PA.out
  go_wp2_with fail
  generalize (w6.alloc (.cells #[.bool false, .int .u64 0, .int .u64 0] 24)) = W6 at *
  generalize w6.heap.size = m6 at *
  refine (h7.out _).mono ?_
  clear PA0 PA1 PA2 PA3 
  rintro e w7 ⟨rfl, hb⟩
  replace PA : Hid (HasF w7 (w.heap.size) (.bool va) (.int .u64 ah) (.int .u64 al)) := PA.out.below hb
  replace PB : Hid (HasF w7 (w.heap.size + 1) (.bool vb) (.int .u64 bh) (.int .u64 bl)) := PB.out.below hb
  replace PX : Hid (HasF w7 (m2) (.bool xv) (.int .u64 xh) (.int .u64 xl)) := PX.out.below hb
  replace PN : Hid (HasF w7 (m3) (.bool nv) (.int .u64 nh) (.int .u64 nl)) := PN.out.below hb
  replace PM : Hid (HasF w7 (m6) (.bool false) (.int .u64 0) (.int .u64 0)) := PM.out.below hb
  replace B : Hid (Below w.heap.size w w7) := btr B.out hb
  clear hb
  obtain ⟨⟨PA0, PA1, PA2, PA3⟩, _⟩ := PA.out
  go_wp2_with fail
  refine (h8.out _).mono ?_
  clear PA0 PA1 PA2 PA3 
  rintro e w8 ⟨rfl, hb⟩
  replace PA : Hid (HasF w8 (w.heap.size) (.bool va) (.int .u64 ah) (.int .u64 al)) := PA.out.below hb
  replace PB : Hid (HasF w8 (w.heap.size + 1) (.bool vb) (.int .u64 bh) (.int .u64 bl)) := PB.out.below hb
  replace PX : Hid (HasF w8 (m2) (.bool xv) (.int .u64 xh) (.int .u64 xl)) := PX.out.below hb
  replace PN : Hid (HasF w8 (m3) (.bool nv) (.int .u64 nh) (.int .u64 nl)) := PN.out.below hb
  replace PM : Hid (HasF w8 (m6) (.bool false) (.int .u64 0) (.int .u64 0)) := PM.out.below hb
  replace B : Hid (Below w.heap.size w w8) := btr B.out hb
  clear hb
  obtain ⟨⟨PMa0, PMa1, PMa2, PMa3⟩, PMF⟩ := PM.out
  have PMf0 := PMF 0
  have PMf1 := PMF 1
  have PMf2 := PMF 2
  clear PMF
  have PA' : Hid (HasF (((w8.setCell ⟨m6, 0, none⟩ (.bool nv)).setCell ⟨m6, 1, none⟩ (.int .u64 nh)).setCell ⟨m6, 2, none⟩ (.int .u64 nl)) (w.heap.size) (.bool va) (.int .u64 ah) (.int .u64 al)) := PA.out.other LPAPM.out _ _ _
  have PB' : Hid (HasF (((w8.setCell ⟨m6, 0, none⟩ (.bool nv)).setCell ⟨m6, 1, none⟩ (.int .u64 nh)).setCell ⟨m6, 2, none⟩ (.int .u64 nl)) (w.heap.size + 1) (.bool vb) (.int .u64 bh) (.int .u64 bl)) := PB.out.other LPBPM.out _ _ _
  have PX' : Hid (HasF (((w8.setCell ⟨m6, 0, none⟩ (.bool nv)).setCell ⟨m6, 1, none⟩ (.int .u64 nh)).setCell ⟨m6, 2, none⟩ (.int .u64 nl)) (m2) (.bool xv) (.int .u64 xh) (.int .u64 xl)) := PX.out.other LPXPM.out _ _ _
  have PN' : Hid (HasF (((w8.setCell ⟨m6, 0, none⟩ (.bool nv)).setCell ⟨m6, 1, none⟩ (.int .u64 nh)).setCell ⟨m6, 2, none⟩ (.int .u64 nl)) (m3) (.bool nv) (.int .u64 nh) (.int .u64 nl)) := PN.out.other LPNPM.out _ _ _
  have PM' : Hid (HasF (((w8.setCell ⟨m6, 0, none⟩ (.bool nv)).setCell ⟨m6, 1, none⟩ (.int .u64 nh)).setCell ⟨m6, 2, none⟩ (.int .u64 nl)) (m6) (.bool nv) (.int .u64 nh) (.int .u64 nl)) := PM.out.store _ _ _
  have B' : Hid (Below w.heap.size w (((w8.setCell ⟨m6, 0, none⟩ (.bool nv)).setCell ⟨m6, 1, none⟩ (.int .u64 nh)).setCell ⟨m6, 2, none⟩ (.int .u64 nl))) := bse (bse (bse B.out GPM.out _) GPM.out _) GPM.out _
  replace PA := PA'
  replace PB := PB'
  replace PX := PX'
  replace PN := PN'
  replace PM := PM'
  replace B := B'
  clear PA' PB' PX' PN' PM' B'
  go_wp2_with fail
  clear PMa0 PMa1 PMa2 PMa3 PMf0 PMf1 PMf2
  generalize (((w8.setCell ⟨m6, 0, none⟩ (.bool nv)).setCell ⟨m6, 1, none⟩ (.int .u64 nh)).setCell ⟨m6, 2, none⟩ (.int .u64 nl)) = W8 at *
  refine (h9.out _).mono ?_
  rintro e w9 ⟨rfl, hb⟩
  replace PA : Hid (HasF w9 (w.heap.size) (.bool va) (.int .u64 ah) (.int .u64 al)) := PA.out.below hb
  replace PB : Hid (HasF w9 (w.heap.size + 1) (.bool vb) (.int .u64 bh) (.int .u64 bl)) := PB.out.below hb
  replace PX : Hid (HasF w9 (m2) (.bool xv) (.int .u64 xh) (.int .u64 xl)) := PX.out.below hb
  replace PN : Hid (HasF w9 (m3) (.bool nv) (.int .u64 nh) (.int .u64 nl)) := PN.out.below hb
  replace PM : Hid (HasF w9 (m6) (.bool nv) (.int .u64 nh) (.int .u64 nl)) := PM.out.below hb
  replace B : Hid (Below w.heap.size w w9) := btr B.out hb
  clear hb
  have LPAPW : Hid (w.heap.size ≠ w9.heap.size) := Nat.ne_of_lt PA.out.1.2.2.2
  have LPBPW : Hid (w.heap.size + 1 ≠ w9.heap.size) := Nat.ne_of_lt PB.out.1.2.2.2
  have LPXPW : Hid (m2 ≠ w9.heap.size) := Nat.ne_of_lt PX.out.1.2.2.2
  have LPNPW : Hid (m3 ≠ w9.heap.size) := Nat.ne_of_lt PN.out.1.2.2.2
  have LPMPW : Hid (m6 ≠ w9.heap.size) := Nat.ne_of_lt PM.out.1.2.2.2
  have GPW : Hid (w.heap.size ≤ w9.heap.size) := B.out.size
  replace PA : Hid (HasF (w9.alloc (.cells #[.bool xv, .int .u64 xh, .int .u64 xl] 24)) (w.heap.size) (.bool va) (.int .u64 ah) (.int .u64 al)) := (PA.out).alloc (.cells #[.bool xv, .int .u64 xh, .int .u64 xl] 24)
  replace PB : Hid (HasF (w9.alloc (.cells #[.bool xv, .int .u64 xh, .int .u64 xl] 24)) (w.heap.size + 1) (.bool vb) (.int .u64 bh) (.int .u64 bl)) := (PB.out).alloc (.cells #[.bool xv, .int .u64 xh, .int .u64 xl] 24)
  replace PX : Hid (HasF (w9.alloc (.cells #[.bool xv, .int .u64 xh, .int .u64 xl] 24)) (m2) (.bool xv) (.int .u64 xh) (.int .u64 xl)) := (PX.out).alloc (.cells #[.bool xv, .int .u64 xh, .int .u64 xl] 24)
  replace PN : Hid (HasF (w9.alloc (.cells #[.bool xv, .int .u64 xh, .int .u64 xl] 24)) (m3) (.bool nv) (.int .u64 nh) (.int .u64 nl)) := (PN.out).alloc (.cells #[.bool xv, .int .u64 xh, .int .u64 xl] 24)
  replace PM : Hid (HasF (w9.alloc (.cells #[.bool xv, .int .u64 xh, .int .u64 xl] 24)) (m6) (.bool nv) (.int .u64 nh) (.int .u64 nl)) := (PM.out).alloc (.cells #[.bool xv, .int .u64 xh, .int .u64 xl] 24)
  replace B : Hid (Below w.heap.size w (w9.alloc (.cells #[.bool xv, .int .u64 xh, .int .u64 xl] 24))) := bal (B.out) _
  have PW : Hid (HasF (w9.alloc (.cells #[.bool xv, .int .u64 xh, .int .u64 xl] 24)) (w9.heap.size) (.bool xv) (.int .u64 xh) (.int .u64 xl)) := HasF.new w9 (.bool xv) (.int .u64 xh) (.int .u64 xl) 24
  have E1 := eql_addr xv xh xl xv xh xl
  rw [eqA_same] at E1
  have E2 := eql_addr nv nh nl nv nh nl
  rw [eqA_same] at E2
  go_wp2_with fail
  generalize (w9.alloc (.cells #[.bool xv, .int .u64 xh, .int .u64 xl] 24)) = W9 at *
  generalize w9.heap.size = m9 at *
  refine (hB.out _ (HG.out _ B.out)).mono ?_
  rintro e w10 ⟨rfl, hb⟩
  replace PA : Hid (HasF w10 (w.heap.size) (.bool va) (.int .u64 ah) (.int .u64 al)) := PA.out.below hb
  replace PB : Hid (HasF w10 (w.heap.size + 1) (.bool vb) (.int .u64 bh) (.int .u64 bl)) := PB.out.below hb
  replace PX : Hid (HasF w10 (m2) (.bool xv) (.int .u64 xh) (.int .u64 xl)) := PX.out.below hb
  replace PN : Hid (HasF w10 (m3) (.bool nv) (.int .u64 nh) (.int .u64 nl)) := PN.out.below hb
  replace PM : Hid (HasF w10 (m6) (.bool nv) (.int .u64 nh) (.int .u64 nl)) := PM.out.below hb
  replace PW : Hid (HasF w10 (m9) (.bool xv) (.int .u64 xh) (.int .u64 xl)) := PW.out.below hb
  replace B : Hid (Below w.heap.size w w10) := btr B.out hb
  clear hb
  obtain ⟨⟨PA0, PA1, PA2, PA3⟩, _⟩ := PA.out
  go_wp2_with fail
  refine (h10.out _).mono ?_
  clear PA0 PA1 PA2 PA3 
  rintro e w11 ⟨rfl, hb⟩
  replace PA : Hid (HasF w11 (w.heap.size) (.bool va) (.int .u64 ah) (.int .u64 al)) := PA.out.below hb
  replace PB : Hid (HasF w11 (w.heap.size + 1) (.bool vb) (.int .u64 bh) (.int .u64 bl)) := PB.out.below hb
  replace PX : Hid (HasF w11 (m2) (.bool xv) (.int .u64 xh) (.int .u64 xl)) := PX.out.below hb
  replace PN : Hid (HasF w11 (m3) (.bool nv) (.int .u64 nh) (.int .u64 nl)) := PN.out.below hb
  replace PM : Hid (HasF w11 (m6) (.bool nv) (.int .u64 nh) (.int .u64 nl)) := PM.out.below hb
  replace PW : Hid (HasF w11 (m9) (.bool xv) (.int .u64 xh) (.int .u64 xl)) := PW.out.below hb
  replace B : Hid (Below w.heap.size w w11) := btr B.out hb
  clear hb
  obtain ⟨⟨PA0, PA1, PA2, PA3⟩, _⟩ := PA.out
  obtain ⟨⟨PB0, PB1, PB2, PB3⟩, _⟩ := PB.out
  obtain ⟨⟨PX0, PX1, PX2, PX3⟩, _⟩ := PX.out
  obtain ⟨⟨PN0, PN1, PN2, PN3⟩, _⟩ := PN.out
  obtain ⟨⟨PM0, PM1, PM2, PM3⟩, _⟩ := PM.out
  obtain ⟨⟨PW0, PW1, PW2, PW3⟩, _⟩ := PW.out
  go_wp2
  go_ret
  exact ⟨rfl, B.out⟩

set_option maxHeartbeats 32000000 in
set_option maxRecDepth 100000 in
theorem tells_03f (va : Bool) (ah al : Int) (vb : Bool) (bh bl : Int) (s T : ByteArray) (xv : Bool) (xh xl : Int) (nv : Bool) (nh nl : Int) (nb L : Bool) (w : World) (hg : Good w)
    (h1 : Hid (∀ w : World, Good w → Calls Tryd.prog 4 #[.agg #[.bool va, .int .u64 ah, .int .u64 al]] w fun e w' => e = .returned (.tuple #[.string T, .int .i64 0]) ∧ Below w.heap.size w w'))
    (h2 : Hid (∀ w : World, Good w → Calls Tryd.prog 5 #[.string s] w fun e w' => e = .returned (.tuple #[.agg #[.bool false, .int .u64 0, .int .u64 0], .int .i64 1]) ∧ Below w.heap.size w w'))
    (h3 : Hid (∀ w : World, Calls Tryd.prog 6 #[.agg #[.bool va, .int .u64 ah, .int .u64 al]] w fun e w' => e = .returned (.tuple #[.agg #[.bool nv, .int .u64 nh, .int .u64 nl], .bool nb, .int .i64 0]) ∧ Below w.heap.size w w'))
    (h4 : Hid (∀ w : World, Calls Tryd.prog 7 #[.agg #[.bool va, .int .u64 ah, .int .u64 al], .agg #[.bool vb, .int .u64 bh, .int .u64 bl]] w fun e w' => e = .returned (.tuple #[.bool false, .int .i64 3]) ∧ Below w.heap.size w w'))
    (h5 : Hid (∀ w : World, Calls Tryd.prog 8 #[.agg #[.bool va, .int .u64 ah, .int .u64 al]] w fun e w' => e = .returned (.int .i64 0) ∧ Below w.heap.size w w'))
    (h6 : Hid (∀ w : World, Calls Tryd.prog 8 #[.agg #[.bool vb, .int .u64 bh, .int .u64 bl]] w fun e w' => e = .returned (.int .i64 3) ∧ Below w.heap.size w w'))
    (h7 : Hid (∀ w : World, Calls Tryd.prog 9 #[.agg #[.bool va, .int .u64 ah, .int .u64 al]] w fun e w' => e = .returned (.string T) ∧ Below w.heap.size w w'))
    (h8 : Hid (∀ w : World, Calls Tryd.prog 10 #[.agg #[.bool va, .int .u64 ah, .int .u64 al]] w fun e w' => e = .returned (.tuple #[.agg #[.bool nv, .int .u64 nh, .int .u64 nl], .bool nb]) ∧ Below w.heap.size w w'))
    (h9 : Hid (∀ w : World, Calls Tryd.prog 11 #[.string s] w fun e w' => e = .returned (.tuple #[.agg #[.bool false, .int .u64 0, .int .u64 0], .bool false]) ∧ Below w.heap.size w w'))
    (h10 : Hid (∀ w : World, Calls Tryd.prog 13 #[.agg #[.bool va, .int .u64 ah, .int .u64 al]] w fun e w' => e = .returned (.int .i64 0) ∧ Below w.heap.size w w'))
    : Calls Tryd.prog 3 #[.agg #[.bool va, .int .u64 ah, .int .u64 al], .agg #[.bool vb, .int .u64 bh, .int .u64 bl], .string s] w fun e w' => e = .returned (.bool true) ∧ Below w.heap.size w w' := by
  have hB : Hid (∀ w : World, Good w → Calls Tryd.prog 12 #[] w fun e w' => e = .returned (.bool true) ∧ Below w.heap.size w w') := fun w => begun_any w
  have HG : Hid (∀ w1 : World, Below w.heap.size w w1 → Good w1) := fun w1 h => hg.below h
  have B : Hid (Below w.heap.size w w) := Below.refl _ _
  clear hg
  have GPA : Hid (w.heap.size ≤ w.heap.size) := Nat.le_refl _
  have GPB : Hid (w.heap.size ≤ w.heap.size + 1) := Nat.le_succ _
  replace B : Hid (Below w.heap.size w ((w.alloc (.cells #[.bool va, .int .u64 ah, .int .u64 al] 24)).alloc (.cells #[.bool vb, .int .u64 bh, .int .u64 bl] 24))) := bal (bal (B.out) _) _
  have PA : Hid (HasF ((w.alloc (.cells #[.bool va, .int .u64 ah, .int .u64 al] 24)).alloc (.cells #[.bool vb, .int .u64 bh, .int .u64 bl] 24)) (w.heap.size) (.bool va) (.int .u64 ah) (.int .u64 al)) := (HasF.new w (.bool va) (.int .u64 ah) (.int .u64 al) 24).alloc (.cells #[.bool vb, .int .u64 bh, .int .u64 bl] 24)
  have PB : Hid (HasF ((w.alloc (.cells #[.bool va, .int .u64 ah, .int .u64 al] 24)).alloc (.cells #[.bool vb, .int .u64 bh, .int .u64 bl] 24)) (w.heap.size + 1) (.bool vb) (.int .u64 bh) (.int .u64 bl)) := by
    have := HasF.new (w.alloc (.cells #[.bool va, .int .u64 ah, .int .u64 al] 24)) (.bool vb) (.int .u64 bh) (.int .u64 bl) 24
    rw [show (w.alloc (.cells #[.bool va, .int .u64 ah, .int .u64 al] 24)).heap.size = w.heap.size + 1 by simp] at this
    exact this
  go_enter Tryd.func3, Tryd.ntmps3
  obtain ⟨⟨PA0, PA1, PA2, PA3⟩, _⟩ := PA.out
  go_wp2_with fail
  generalize ((w.alloc (.cells #[.bool va, .int .u64 ah, .int .u64 al] 24)).alloc (.cells #[.bool vb, .int .u64 bh, .int .u64 bl] 24)) = W0 at *
  refine (h1.out _ (HG.out _ B.out)).mono ?_
  clear PA0 PA1 PA2 PA3 
  rintro e w1 ⟨rfl, hb⟩
  replace PA : Hid (HasF w1 (w.heap.size) (.bool va) (.int .u64 ah) (.int .u64 al)) := PA.out.below hb
  replace PB : Hid (HasF w1 (w.heap.size + 1) (.bool vb) (.int .u64 bh) (.int .u64 bl)) := PB.out.below hb
  replace B : Hid (Below w.heap.size w w1) := btr B.out hb
  clear hb
  go_wp2_with fail
  refine (h2.out _ (HG.out _ B.out)).mono ?_
  rintro e w2 ⟨rfl, hb⟩
  replace PA : Hid (HasF w2 (w.heap.size) (.bool va) (.int .u64 ah) (.int .u64 al)) := PA.out.below hb
  replace PB : Hid (HasF w2 (w.heap.size + 1) (.bool vb) (.int .u64 bh) (.int .u64 bl)) := PB.out.below hb
  replace B : Hid (Below w.heap.size w w2) := btr B.out hb
  clear hb
  have LPAPX : Hid (w.heap.size ≠ w2.heap.size) := Nat.ne_of_lt PA.out.1.2.2.2
  have LPBPX : Hid (w.heap.size + 1 ≠ w2.heap.size) := Nat.ne_of_lt PB.out.1.2.2.2
  have GPX : Hid (w.heap.size ≤ w2.heap.size) := B.out.size
  replace PA : Hid (HasF (w2.alloc (.cells #[.bool false, .int .u64 0, .int .u64 0] 24)) (w.heap.size) (.bool va) (.int .u64 ah) (.int .u64 al)) := (PA.out).alloc (.cells #[.bool false, .int .u64 0, .int .u64 0] 24)
  replace PB : Hid (HasF (w2.alloc (.cells #[.bool false, .int .u64 0, .int .u64 0] 24)) (w.heap.size + 1) (.bool vb) (.int .u64 bh) (.int .u64 bl)) := (PB.out).alloc (.cells #[.bool false, .int .u64 0, .int .u64 0] 24)
  replace B : Hid (Below w.heap.size w (w2.alloc (.cells #[.bool false, .int .u64 0, .int .u64 0] 24))) := bal (B.out) _
  have PX : Hid (HasF (w2.alloc (.cells #[.bool false, .int .u64 0, .int .u64 0] 24)) (w2.heap.size) (.bool false) (.int .u64 0) (.int .u64 0)) := HasF.new w2 (.bool false) (.int .u64 0) (.int .u64 0) 24
  obtain ⟨⟨PA0, PA1, PA2, PA3⟩, _⟩ := PA.out
  go_wp2_with fail
  generalize (w2.alloc (.cells #[.bool false, .int .u64 0, .int .u64 0] 24)) = W2 at *
  generalize w2.heap.size = m2 at *
  refine (h3.out _).mono ?_
  clear PA0 PA1 PA2 PA3 
  rintro e w3 ⟨rfl, hb⟩
  replace PA : Hid (HasF w3 (w.heap.size) (.bool va) (.int .u64 ah) (.int .u64 al)) := PA.out.below hb
  replace PB : Hid (HasF w3 (w.heap.size + 1) (.bool vb) (.int .u64 bh) (.int .u64 bl)) := PB.out.below hb
  replace PX : Hid (HasF w3 (m2) (.bool false) (.int .u64 0) (.int .u64 0)) := PX.out.below hb
  replace B : Hid (Below w.heap.size w w3) := btr B.out hb
  clear hb
  have LPAPN : Hid (w.heap.size ≠ w3.heap.size) := Nat.ne_of_lt PA.out.1.2.2.2
  have LPBPN : Hid (w.heap.size + 1 ≠ w3.heap.size) := Nat.ne_of_lt PB.out.1.2.2.2
  have LPXPN : Hid (m2 ≠ w3.heap.size) := Nat.ne_of_lt PX.out.1.2.2.2
  have GPN : Hid (w.heap.size ≤ w3.heap.size) := B.out.size
  replace PA : Hid (HasF (w3.alloc (.cells #[.bool nv, .int .u64 nh, .int .u64 nl] 24)) (w.heap.size) (.bool va) (.int .u64 ah) (.int .u64 al)) := (PA.out).alloc (.cells #[.bool nv, .int .u64 nh, .int .u64 nl] 24)
  replace PB : Hid (HasF (w3.alloc (.cells #[.bool nv, .int .u64 nh, .int .u64 nl] 24)) (w.heap.size + 1) (.bool vb) (.int .u64 bh) (.int .u64 bl)) := (PB.out).alloc (.cells #[.bool nv, .int .u64 nh, .int .u64 nl] 24)
  replace PX : Hid (HasF (w3.alloc (.cells #[.bool nv, .int .u64 nh, .int .u64 nl] 24)) (m2) (.bool false) (.int .u64 0) (.int .u64 0)) := (PX.out).alloc (.cells #[.bool nv, .int .u64 nh, .int .u64 nl] 24)
  replace B : Hid (Below w.heap.size w (w3.alloc (.cells #[.bool nv, .int .u64 nh, .int .u64 nl] 24))) := bal (B.out) _
  have PN : Hid (HasF (w3.alloc (.cells #[.bool nv, .int .u64 nh, .int .u64 nl] 24)) (w3.heap.size) (.bool nv) (.int .u64 nh) (.int .u64 nl)) := HasF.new w3 (.bool nv) (.int .u64 nh) (.int .u64 nl) 24
  obtain ⟨⟨PA0, PA1, PA2, PA3⟩, _⟩ := PA.out
  obtain ⟨⟨PB0, PB1, PB2, PB3⟩, _⟩ := PB.out
  go_wp2_with fail
  generalize (w3.alloc (.cells #[.bool nv, .int .u64 nh, .int .u64 nl] 24)) = W3 at *
  generalize w3.heap.size = m3 at *
  refine (h4.out _).mono ?_
  clear PA0 PA1 PA2 PA3 PB0 PB1 PB2 PB3 
  rintro e w4 ⟨rfl, hb⟩
  replace PA : Hid (HasF w4 (w.heap.size) (.bool va) (.int .u64 ah) (.int .u64 al)) := PA.out.below hb
  replace PB : Hid (HasF w4 (w.heap.size + 1) (.bool vb) (.int .u64 bh) (.int .u64 bl)) := PB.out.below hb
  replace PX : Hid (HasF w4 (m2) (.bool false) (.int .u64 0) (.int .u64 0)) := PX.out.below hb
  replace PN : Hid (HasF w4 (m3) (.bool nv) (.int .u64 nh) (.int .u64 nl)) := PN.out.below hb
  replace B : Hid (Below w.heap.size w w4) := btr B.out hb
  clear hb
  obtain ⟨⟨PA0, PA1, PA2, PA3⟩, _⟩ := PA.out
  go_wp2_with fail
  refine (h5.out _).mono ?_
  clear PA0 PA1 PA2 PA3 
  rintro e w5 ⟨rfl, hb⟩
  replace PA : Hid (HasF w5 (w.heap.size) (.bool va) (.int .u64 ah) (.int .u64 al)) := PA.out.below hb
  replace PB : Hid (HasF w5 (w.heap.size + 1) (.bool vb) (.int .u64 bh) (.int .u64 bl)) := PB.out.below hb
  replace PX : Hid (HasF w5 (m2) (.bool false) (.int .u64 0) (.int .u64 0)) := PX.out.below hb
  replace PN : Hid (HasF w5 (m3) (.bool nv) (.int .u64 nh) (.int .u64 nl)) := PN.out.below hb
  replace B : Hid (Below w.heap.size w w5) := btr B.out hb
  clear hb
  obtain ⟨⟨PB0, PB1, PB2, PB3⟩, _⟩ := PB.out
  go_wp2_with fail
  refine (h6.out _).mono ?_
  clear PB0 PB1 PB2 PB3 
  rintro e w6 ⟨rfl, hb⟩
  replace PA : Hid (HasF w6 (w.heap.size) (.bool va) (.int .u64 ah) (.int .u64 al)) := PA.out.below hb
  replace PB : Hid (HasF w6 (w.heap.size + 1) (.bool vb) (.int .u64 bh) (.int .u64 bl)) := PB.out.below hb
  replace PX : Hid (HasF w6 (m2) (.bool false) (.int .u64 0) (.int .u64 0)) := PX.out.below hb
  replace PN : Hid (HasF w6 (m3) (.bool nv) (.int .u64 nh) (.int .u64 nl)) := PN.out.below hb
  replace B : Hid (Below w.heap.size w w6) := btr B.out hb
  clear hb
  have LPAPM : Hid (w.heap.size ≠ w6.heap.size) := Nat.ne_of_lt PA.out.1.2.2.2
  have LPBPM : Hid (w.heap.size + 1 ≠ w6.heap.size) := Nat.ne_of_lt PB.out.1.2.2.2
  have LPXPM : Hid (m2 ≠ w6.heap.size) := Nat.ne_of_lt PX.out.1.2.2.2
  have LPNPM : Hid (m3 ≠ w6.heap.size) := Nat.ne_of_lt PN.out.1.2.2.2
  have GPM : Hid (w.heap.size ≤ w6.heap.size) := B.out.size
  replace PA : Hid (HasF (w6.alloc (.cells #[.bool false, .int .u64 0, .int .u64 0] 24)) (w.heap.size) (.bool va) (.int .u64 ah) (.int .u64 al)) := (PA.out).alloc (.cells #[.bool false, .int .u64 0, .int .u64 0] 24)
  replace PB : Hid (HasF (w6.alloc (.cells #[.bool false, .int .u64 0, .int .u64 0] 24)) (w.heap.size + 1) (.bool vb) (.int .u64 bh) (.int .u64 bl)) := (PB.out).alloc (.cells #[.bool false, .int .u64 0, .int .u64 0] 24)
  replace PX : Hid (HasF (w6.alloc (.cells #[.bool false, .int .u64 0, .int .u64 0] 24)) (m2) (.bool false) (.int .u64 0) (.int .u64 0)) := (PX.out).alloc (.cells #[.bool false, .int .u64 0, .int .u64 0] 24)
  replace PN : Hid (HasF (w6.alloc (.cells #[.bool false, .int .u64 0, .int .u64 0] 24)) (m3) (.bool nv) (.int .u64 nh) (.int .u64 nl)) := (PN.out).alloc (.cells #[.bool false, .int .u64 0, .int .u64 0] 24)
  replace B : Hid (Below w.heap.size w (w6.alloc (.cells #[.bool false, .int .u64 0, .int .u64 0] 24))) := bal (B.out) _
  have PM : Hid (HasF (w6.alloc (.cells #[.bool false, .int .u64 0, .int .u64 0] 24)) (w6.heap.size) (.bool false) (.int .u64 0) (.int .u64 0)) := HasF.new w6 (.bool false) (.int .u64 0) (.int .u64 0) 24
  obtain ⟨⟨PA0, PA1, PA2, PA3⟩, _⟩ := PA.out
  go_wp2_with fail
  generalize (w6.alloc (.cells #[.bool false, .int .u64 0, .int .u64 0] 24)) = W6 at *
  generalize w6.heap.size = m6 at *
  refine (h7.out _).mono ?_
  clear PA0 PA1 PA2 PA3 
  rintro e w7 ⟨rfl, hb⟩
  replace PA : Hid (HasF w7 (w.heap.size) (.bool va) (.int .u64 ah) (.int .u64 al)) := PA.out.below hb
  replace PB : Hid (HasF w7 (w.heap.size + 1) (.bool vb) (.int .u64 bh) (.int .u64 bl)) := PB.out.below hb
  replace PX : Hid (HasF w7 (m2) (.bool false) (.int .u64 0) (.int .u64 0)) := PX.out.below hb
  replace PN : Hid (HasF w7 (m3) (.bool nv) (.int .u64 nh) (.int .u64 nl)) := PN.out.below hb
  replace PM : Hid (HasF w7 (m6) (.bool false) (.int .u64 0) (.int .u64 0)) := PM.out.below hb
  replace B : Hid (Below w.heap.size w w7) := btr B.out hb
  clear hb
  obtain ⟨⟨PA0, PA1, PA2, PA3⟩, _⟩ := PA.out
  go_wp2_with fail
  refine (h8.out _).mono ?_
  clear PA0 PA1 PA2 PA3 
  rintro e w8 ⟨rfl, hb⟩
  replace PA : Hid (HasF w8 (w.heap.size) (.bool va) (.int .u64 ah) (.int .u64 al)) := PA.out.below hb
  replace PB : Hid (HasF w8 (w.heap.size + 1) (.bool vb) (.int .u64 bh) (.int .u64 bl)) := PB.out.below hb
  replace PX : Hid (HasF w8 (m2) (.bool false) (.int .u64 0) (.int .u64 0)) := PX.out.below hb
  replace PN : Hid (HasF w8 (m3) (.bool nv) (.int .u64 nh) (.int .u64 nl)) := PN.out.below hb
  replace PM : Hid (HasF w8 (m6) (.bool false) (.int .u64 0) (.int .u64 0)) := PM.out.below hb
  replace B : Hid (Below w.heap.size w w8) := btr B.out hb
  clear hb
  obtain ⟨⟨PMa0, PMa1, PMa2, PMa3⟩, PMF⟩ := PM.out
  have PMf0 := PMF 0
  have PMf1 := PMF 1
  have PMf2 := PMF 2
  clear PMF
  have PA' : Hid (HasF (((w8.setCell ⟨m6, 0, none⟩ (.bool nv)).setCell ⟨m6, 1, none⟩ (.int .u64 nh)).setCell ⟨m6, 2, none⟩ (.int .u64 nl)) (w.heap.size) (.bool va) (.int .u64 ah) (.int .u64 al)) := PA.out.other LPAPM.out _ _ _
  have PB' : Hid (HasF (((w8.setCell ⟨m6, 0, none⟩ (.bool nv)).setCell ⟨m6, 1, none⟩ (.int .u64 nh)).setCell ⟨m6, 2, none⟩ (.int .u64 nl)) (w.heap.size + 1) (.bool vb) (.int .u64 bh) (.int .u64 bl)) := PB.out.other LPBPM.out _ _ _
  have PX' : Hid (HasF (((w8.setCell ⟨m6, 0, none⟩ (.bool nv)).setCell ⟨m6, 1, none⟩ (.int .u64 nh)).setCell ⟨m6, 2, none⟩ (.int .u64 nl)) (m2) (.bool false) (.int .u64 0) (.int .u64 0)) := PX.out.other LPXPM.out _ _ _
  have PN' : Hid (HasF (((w8.setCell ⟨m6, 0, none⟩ (.bool nv)).setCell ⟨m6, 1, none⟩ (.int .u64 nh)).setCell ⟨m6, 2, none⟩ (.int .u64 nl)) (m3) (.bool nv) (.int .u64 nh) (.int .u64 nl)) := PN.out.other LPNPM.out _ _ _
  have PM' : Hid (HasF (((w8.setCell ⟨m6, 0, none⟩ (.bool nv)).setCell ⟨m6, 1, none⟩ (.int .u64 nh)).setCell ⟨m6, 2, none⟩ (.int .u64 nl)) (m6) (.bool nv) (.int .u64 nh) (.int .u64 nl)) := PM.out.store _ _ _
  have B' : Hid (Below w.heap.size w (((w8.setCell ⟨m6, 0, none⟩ (.bool nv)).setCell ⟨m6, 1, none⟩ (.int .u64 nh)).setCell ⟨m6, 2, none⟩ (.int .u64 nl))) := bse (bse (bse B.out GPM.out _) GPM.out _) GPM.out _
  replace PA := PA'
  replace PB := PB'
  replace PX := PX'
  replace PN := PN'
  replace PM := PM'
  replace B := B'
  clear PA' PB' PX' PN' PM' B'
  go_wp2_with fail
  clear PMa0 PMa1 PMa2 PMa3 PMf0 PMf1 PMf2
  generalize (((w8.setCell ⟨m6, 0, none⟩ (.bool nv)).setCell ⟨m6, 1, none⟩ (.int .u64 nh)).setCell ⟨m6, 2, none⟩ (.int .u64 nl)) = W8 at *
  refine (h9.out _).mono ?_
  rintro e w9 ⟨rfl, hb⟩
  replace PA : Hid (HasF w9 (w.heap.size) (.bool va) (.int .u64 ah) (.int .u64 al)) := PA.out.below hb
  replace PB : Hid (HasF w9 (w.heap.size + 1) (.bool vb) (.int .u64 bh) (.int .u64 bl)) := PB.out.below hb
  replace PX : Hid (HasF w9 (m2) (.bool false) (.int .u64 0) (.int .u64 0)) := PX.out.below hb
  replace PN : Hid (HasF w9 (m3) (.bool nv) (.int .u64 nh) (.int .u64 nl)) := PN.out.below hb
  replace PM : Hid (HasF w9 (m6) (.bool nv) (.int .u64 nh) (.int .u64 nl)) := PM.out.below hb
  replace B : Hid (Below w.heap.size w w9) := btr B.out hb
  clear hb
  have LPAPW : Hid (w.heap.size ≠ w9.heap.size) := Nat.ne_of_lt PA.out.1.2.2.2
  have LPBPW : Hid (w.heap.size + 1 ≠ w9.heap.size) := Nat.ne_of_lt PB.out.1.2.2.2
  have LPXPW : Hid (m2 ≠ w9.heap.size) := Nat.ne_of_lt PX.out.1.2.2.2
  have LPNPW : Hid (m3 ≠ w9.heap.size) := Nat.ne_of_lt PN.out.1.2.2.2
  have LPMPW : Hid (m6 ≠ w9.heap.size) := Nat.ne_of_lt PM.out.1.2.2.2
  have GPW : Hid (w.heap.size ≤ w9.heap.size) := B.out.size
  replace PA : Hid (HasF (w9.alloc (.cells #[.bool false, .int .u64 0, .int .u64 0] 24)) (w.heap.size) (.bool va) (.int .u64 ah) (.int .u64 al)) := (PA.out).alloc (.cells #[.bool false, .int .u64 0, .int .u64 0] 24)
  replace PB : Hid (HasF (w9.alloc (.cells #[.bool false, .int .u64 0, .int .u64 0] 24)) (w.heap.size + 1) (.bool vb) (.int .u64 bh) (.int .u64 bl)) := (PB.out).alloc (.cells #[.bool false, .int .u64 0, .int .u64 0] 24)
  replace PX : Hid (HasF (w9.alloc (.cells #[.bool false, .int .u64 0, .int .u64 0] 24)) (m2) (.bool false) (.int .u64 0) (.int .u64 0)) := (PX.out).alloc (.cells #[.bool false, .int .u64 0, .int .u64 0] 24)
  replace PN : Hid (HasF (w9.alloc (.cells #[.bool false, .int .u64 0, .int .u64 0] 24)) (m3) (.bool nv) (.int .u64 nh) (.int .u64 nl)) := (PN.out).alloc (.cells #[.bool false, .int .u64 0, .int .u64 0] 24)
  replace PM : Hid (HasF (w9.alloc (.cells #[.bool false, .int .u64 0, .int .u64 0] 24)) (m6) (.bool nv) (.int .u64 nh) (.int .u64 nl)) := (PM.out).alloc (.cells #[.bool false, .int .u64 0, .int .u64 0] 24)
  replace B : Hid (Below w.heap.size w (w9.alloc (.cells #[.bool false, .int .u64 0, .int .u64 0] 24))) := bal (B.out) _
  have PW : Hid (HasF (w9.alloc (.cells #[.bool false, .int .u64 0, .int .u64 0] 24)) (w9.heap.size) (.bool false) (.int .u64 0) (.int .u64 0)) := HasF.new w9 (.bool false) (.int .u64 0) (.int .u64 0) 24
  have E1 := eql_addr false 0 0 false 0 0
  rw [eqA_same] at E1
  have E2 := eql_addr nv nh nl nv nh nl
  rw [eqA_same] at E2
  go_wp2_with fail
  generalize (w9.alloc (.cells #[.bool false, .int .u64 0, .int .u64 0] 24)) = W9 at *
  generalize w9.heap.size = m9 at *
  refine (hB.out _ (HG.out _ B.out)).mono ?_
  rintro e w10 ⟨rfl, hb⟩
  replace PA : Hid (HasF w10 (w.heap.size) (.bool va) (.int .u64 ah) (.int .u64 al)) := PA.out.below hb
  replace PB : Hid (HasF w10 (w.heap.size + 1) (.bool vb) (.int .u64 bh) (.int .u64 bl)) := PB.out.below hb
  replace PX : Hid (HasF w10 (m2) (.bool false) (.int .u64 0) (.int .u64 0)) := PX.out.below hb
  replace PN : Hid (HasF w10 (m3) (.bool nv) (.int .u64 nh) (.int .u64 nl)) := PN.out.below hb
  replace PM : Hid (HasF w10 (m6) (.bool nv) (.int .u64 nh) (.int .u64 nl)) := PM.out.below hb
  replace PW : Hid (HasF w10 (m9) (.bool false) (.int .u64 0) (.int .u64 0)) := PW.out.below hb
  replace B : Hid (Below w.heap.size w w10) := btr B.out hb
  clear hb
  obtain ⟨⟨PA0, PA1, PA2, PA3⟩, _⟩ := PA.out
  go_wp2_with fail
  refine (h10.out _).mono ?_
  clear PA0 PA1 PA2 PA3 
  rintro e w11 ⟨rfl, hb⟩
  replace PA : Hid (HasF w11 (w.heap.size) (.bool va) (.int .u64 ah) (.int .u64 al)) := PA.out.below hb
  replace PB : Hid (HasF w11 (w.heap.size + 1) (.bool vb) (.int .u64 bh) (.int .u64 bl)) := PB.out.below hb
  replace PX : Hid (HasF w11 (m2) (.bool false) (.int .u64 0) (.int .u64 0)) := PX.out.below hb
  replace PN : Hid (HasF w11 (m3) (.bool nv) (.int .u64 nh) (.int .u64 nl)) := PN.out.below hb
  replace PM : Hid (HasF w11 (m6) (.bool nv) (.int .u64 nh) (.int .u64 nl)) := PM.out.below hb
  replace PW : Hid (HasF w11 (m9) (.bool false) (.int .u64 0) (.int .u64 0)) := PW.out.below hb
  replace B : Hid (Below w.heap.size w w11) := btr B.out hb
  clear hb
  obtain ⟨⟨PA0, PA1, PA2, PA3⟩, _⟩ := PA.out
  obtain ⟨⟨PB0, PB1, PB2, PB3⟩, _⟩ := PB.out
  obtain ⟨⟨PX0, PX1, PX2, PX3⟩, _⟩ := PX.out
  obtain ⟨⟨PN0, PN1, PN2, PN3⟩, _⟩ := PN.out
  obtain ⟨⟨PM0, PM1, PM2, PM3⟩, _⟩ := PM.out
  obtain ⟨⟨PW0, PW1, PW2, PW3⟩, _⟩ := PW.out
  go_wp2
  go_ret
  exact ⟨rfl, B.out⟩

set_option maxHeartbeats 32000000 in
set_option maxRecDepth 100000 in
theorem tells_00t (va : Bool) (ah al : Int) (vb : Bool) (bh bl : Int) (s T : ByteArray) (xv : Bool) (xh xl : Int) (nv : Bool) (nh nl : Int) (nb L : Bool) (w : World) (hg : Good w)
    (h1 : Hid (∀ w : World, Good w → Calls Tryd.prog 4 #[.agg #[.bool va, .int .u64 ah, .int .u64 al]] w fun e w' => e = .returned (.tuple #[.string T, .int .i64 0]) ∧ Below w.heap.size w w'))
    (h2 : Hid (∀ w : World, Good w → Calls Tryd.prog 5 #[.string s] w fun e w' => e = .returned (.tuple #[.agg #[.bool xv, .int .u64 xh, .int .u64 xl], .int .i64 0]) ∧ Below w.heap.size w w'))
    (h3 : Hid (∀ w : World, Calls Tryd.prog 6 #[.agg #[.bool va, .int .u64 ah, .int .u64 al]] w fun e w' => e = .returned (.tuple #[.agg #[.bool nv, .int .u64 nh, .int .u64 nl], .bool nb, .int .i64 0]) ∧ Below w.heap.size w w'))
    (h4 : Hid (∀ w : World, Calls Tryd.prog 7 #[.agg #[.bool va, .int .u64 ah, .int .u64 al], .agg #[.bool vb, .int .u64 bh, .int .u64 bl]] w fun e w' => e = .returned (.tuple #[.bool L, .int .i64 0]) ∧ Below w.heap.size w w'))
    (h5 : Hid (∀ w : World, Calls Tryd.prog 8 #[.agg #[.bool va, .int .u64 ah, .int .u64 al]] w fun e w' => e = .returned (.int .i64 0) ∧ Below w.heap.size w w'))
    (h6 : Hid (∀ w : World, Calls Tryd.prog 8 #[.agg #[.bool vb, .int .u64 bh, .int .u64 bl]] w fun e w' => e = .returned (.int .i64 0) ∧ Below w.heap.size w w'))
    (h7 : Hid (∀ w : World, Calls Tryd.prog 9 #[.agg #[.bool va, .int .u64 ah, .int .u64 al]] w fun e w' => e = .returned (.string T) ∧ Below w.heap.size w w'))
    (h8 : Hid (∀ w : World, Calls Tryd.prog 10 #[.agg #[.bool va, .int .u64 ah, .int .u64 al]] w fun e w' => e = .returned (.tuple #[.agg #[.bool nv, .int .u64 nh, .int .u64 nl], .bool nb]) ∧ Below w.heap.size w w'))
    (h9 : Hid (∀ w : World, Calls Tryd.prog 11 #[.string s] w fun e w' => e = .returned (.tuple #[.agg #[.bool xv, .int .u64 xh, .int .u64 xl], .bool true]) ∧ Below w.heap.size w w'))
    (h10 : Hid (∀ w : World, Calls Tryd.prog 13 #[.agg #[.bool va, .int .u64 ah, .int .u64 al]] w fun e w' => e = .returned (.int .i64 0) ∧ Below w.heap.size w w'))
    (h11 : Hid (∀ w : World, Calls Tryd.prog 14 #[.agg #[.bool va, .int .u64 ah, .int .u64 al], .agg #[.bool vb, .int .u64 bh, .int .u64 bl]] w fun e w' => e = .returned (.bool L) ∧ Below w.heap.size w w'))
    : Calls Tryd.prog 3 #[.agg #[.bool va, .int .u64 ah, .int .u64 al], .agg #[.bool vb, .int .u64 bh, .int .u64 bl], .string s] w fun e w' => e = .returned (.bool true) ∧ Below w.heap.size w w' := by
  have hB : Hid (∀ w : World, Good w → Calls Tryd.prog 12 #[] w fun e w' => e = .returned (.bool true) ∧ Below w.heap.size w w') := fun w => begun_any w
  have HG : Hid (∀ w1 : World, Below w.heap.size w w1 → Good w1) := fun w1 h => hg.below h
  have B : Hid (Below w.heap.size w w) := Below.refl _ _
  clear hg
  have GPA : Hid (w.heap.size ≤ w.heap.size) := Nat.le_refl _
  have GPB : Hid (w.heap.size ≤ w.heap.size + 1) := Nat.le_succ _
  replace B : Hid (Below w.heap.size w ((w.alloc (.cells #[.bool va, .int .u64 ah, .int .u64 al] 24)).alloc (.cells #[.bool vb, .int .u64 bh, .int .u64 bl] 24))) := bal (bal (B.out) _) _
  have PA : Hid (HasF ((w.alloc (.cells #[.bool va, .int .u64 ah, .int .u64 al] 24)).alloc (.cells #[.bool vb, .int .u64 bh, .int .u64 bl] 24)) (w.heap.size) (.bool va) (.int .u64 ah) (.int .u64 al)) := (HasF.new w (.bool va) (.int .u64 ah) (.int .u64 al) 24).alloc (.cells #[.bool vb, .int .u64 bh, .int .u64 bl] 24)
  have PB : Hid (HasF ((w.alloc (.cells #[.bool va, .int .u64 ah, .int .u64 al] 24)).alloc (.cells #[.bool vb, .int .u64 bh, .int .u64 bl] 24)) (w.heap.size + 1) (.bool vb) (.int .u64 bh) (.int .u64 bl)) := by
    have := HasF.new (w.alloc (.cells #[.bool va, .int .u64 ah, .int .u64 al] 24)) (.bool vb) (.int .u64 bh) (.int .u64 bl) 24
    rw [show (w.alloc (.cells #[.bool va, .int .u64 ah, .int .u64 al] 24)).heap.size = w.heap.size + 1 by simp] at this
    exact this
  go_enter Tryd.func3, Tryd.ntmps3
  obtain ⟨⟨PA0, PA1, PA2, PA3⟩, _⟩ := PA.out
  go_wp2_with fail
  generalize ((w.alloc (.cells #[.bool va, .int .u64 ah, .int .u64 al] 24)).alloc (.cells #[.bool vb, .int .u64 bh, .int .u64 bl] 24)) = W0 at *
  refine (h1.out _ (HG.out _ B.out)).mono ?_
  clear PA0 PA1 PA2 PA3 
  rintro e w1 ⟨rfl, hb⟩
  replace PA : Hid (HasF w1 (w.heap.size) (.bool va) (.int .u64 ah) (.int .u64 al)) := PA.out.below hb
  replace PB : Hid (HasF w1 (w.heap.size + 1) (.bool vb) (.int .u64 bh) (.int .u64 bl)) := PB.out.below hb
  replace B : Hid (Below w.heap.size w w1) := btr B.out hb
  clear hb
  go_wp2_with fail
  refine (h2.out _ (HG.out _ B.out)).mono ?_
  rintro e w2 ⟨rfl, hb⟩
  replace PA : Hid (HasF w2 (w.heap.size) (.bool va) (.int .u64 ah) (.int .u64 al)) := PA.out.below hb
  replace PB : Hid (HasF w2 (w.heap.size + 1) (.bool vb) (.int .u64 bh) (.int .u64 bl)) := PB.out.below hb
  replace B : Hid (Below w.heap.size w w2) := btr B.out hb
  clear hb
  have LPAPX : Hid (w.heap.size ≠ w2.heap.size) := Nat.ne_of_lt PA.out.1.2.2.2
  have LPBPX : Hid (w.heap.size + 1 ≠ w2.heap.size) := Nat.ne_of_lt PB.out.1.2.2.2
  have GPX : Hid (w.heap.size ≤ w2.heap.size) := B.out.size
  replace PA : Hid (HasF (w2.alloc (.cells #[.bool xv, .int .u64 xh, .int .u64 xl] 24)) (w.heap.size) (.bool va) (.int .u64 ah) (.int .u64 al)) := (PA.out).alloc (.cells #[.bool xv, .int .u64 xh, .int .u64 xl] 24)
  replace PB : Hid (HasF (w2.alloc (.cells #[.bool xv, .int .u64 xh, .int .u64 xl] 24)) (w.heap.size + 1) (.bool vb) (.int .u64 bh) (.int .u64 bl)) := (PB.out).alloc (.cells #[.bool xv, .int .u64 xh, .int .u64 xl] 24)
  replace B : Hid (Below w.heap.size w (w2.alloc (.cells #[.bool xv, .int .u64 xh, .int .u64 xl] 24))) := bal (B.out) _
  have PX : Hid (HasF (w2.alloc (.cells #[.bool xv, .int .u64 xh, .int .u64 xl] 24)) (w2.heap.size) (.bool xv) (.int .u64 xh) (.int .u64 xl)) := HasF.new w2 (.bool xv) (.int .u64 xh) (.int .u64 xl) 24
  obtain ⟨⟨PA0, PA1, PA2, PA3⟩, _⟩ := PA.out
  go_wp2_with fail
  generalize (w2.alloc (.cells #[.bool xv, .int .u64 xh, .int .u64 xl] 24)) = W2 at *
  generalize w2.heap.size = m2 at *
  refine (h3.out _).mono ?_
  clear PA0 PA1 PA2 PA3 
  rintro e w3 ⟨rfl, hb⟩
  replace PA : Hid (HasF w3 (w.heap.size) (.bool va) (.int .u64 ah) (.int .u64 al)) := PA.out.below hb
  replace PB : Hid (HasF w3 (w.heap.size + 1) (.bool vb) (.int .u64 bh) (.int .u64 bl)) := PB.out.below hb
  replace PX : Hid (HasF w3 (m2) (.bool xv) (.int .u64 xh) (.int .u64 xl)) := PX.out.below hb
  replace B : Hid (Below w.heap.size w w3) := btr B.out hb
  clear hb
  have LPAPN : Hid (w.heap.size ≠ w3.heap.size) := Nat.ne_of_lt PA.out.1.2.2.2
  have LPBPN : Hid (w.heap.size + 1 ≠ w3.heap.size) := Nat.ne_of_lt PB.out.1.2.2.2
  have LPXPN : Hid (m2 ≠ w3.heap.size) := Nat.ne_of_lt PX.out.1.2.2.2
  have GPN : Hid (w.heap.size ≤ w3.heap.size) := B.out.size
  replace PA : Hid (HasF (w3.alloc (.cells #[.bool nv, .int .u64 nh, .int .u64 nl] 24)) (w.heap.size) (.bool va) (.int .u64 ah) (.int .u64 al)) := (PA.out).alloc (.cells #[.bool nv, .int .u64 nh, .int .u64 nl] 24)
  replace PB : Hid (HasF (w3.alloc (.cells #[.bool nv, .int .u64 nh, .int .u64 nl] 24)) (w.heap.size + 1) (.bool vb) (.int .u64 bh) (.int .u64 bl)) := (PB.out).alloc (.cells #[.bool nv, .int .u64 nh, .int .u64 nl] 24)
  replace PX : Hid (HasF (w3.alloc (.cells #[.bool nv, .int .u64 nh, .int .u64 nl] 24)) (m2) (.bool xv) (.int .u64 xh) (.int .u64 xl)) := (PX.out).alloc (.cells #[.bool nv, .int .u64 nh, .int .u64 nl] 24)
  replace B : Hid (Below w.heap.size w (w3.alloc (.cells #[.bool nv, .int .u64 nh, .int .u64 nl] 24))) := bal (B.out) _
  have PN : Hid (HasF (w3.alloc (.cells #[.bool nv, .int .u64 nh, .int .u64 nl] 24)) (w3.heap.size) (.bool nv) (.int .u64 nh) (.int .u64 nl)) := HasF.new w3 (.bool nv) (.int .u64 nh) (.int .u64 nl) 24
  obtain ⟨⟨PA0, PA1, PA2, PA3⟩, _⟩ := PA.out
  obtain ⟨⟨PB0, PB1, PB2, PB3⟩, _⟩ := PB.out
  go_wp2_with fail
  generalize (w3.alloc (.cells #[.bool nv, .int .u64 nh, .int .u64 nl] 24)) = W3 at *
  generalize w3.heap.size = m3 at *
  refine (h4.out _).mono ?_
  clear PA0 PA1 PA2 PA3 PB0 PB1 PB2 PB3 
  rintro e w4 ⟨rfl, hb⟩
  replace PA : Hid (HasF w4 (w.heap.size) (.bool va) (.int .u64 ah) (.int .u64 al)) := PA.out.below hb
  replace PB : Hid (HasF w4 (w.heap.size + 1) (.bool vb) (.int .u64 bh) (.int .u64 bl)) := PB.out.below hb
  replace PX : Hid (HasF w4 (m2) (.bool xv) (.int .u64 xh) (.int .u64 xl)) := PX.out.below hb
  replace PN : Hid (HasF w4 (m3) (.bool nv) (.int .u64 nh) (.int .u64 nl)) := PN.out.below hb
  replace B : Hid (Below w.heap.size w w4) := btr B.out hb
  clear hb
  obtain ⟨⟨PA0, PA1, PA2, PA3⟩, _⟩ := PA.out
  go_wp2_with fail
  refine (h5.out _).mono ?_
  clear PA0 PA1 PA2 PA3 
  rintro e w5 ⟨rfl, hb⟩
  replace PA : Hid (HasF w5 (w.heap.size) (.bool va) (.int .u64 ah) (.int .u64 al)) := PA.out.below hb
  replace PB : Hid (HasF w5 (w.heap.size + 1) (.bool vb) (.int .u64 bh) (.int .u64 bl)) := PB.out.below hb
  replace PX : Hid (HasF w5 (m2) (.bool xv) (.int .u64 xh) (.int .u64 xl)) := PX.out.below hb
  replace PN : Hid (HasF w5 (m3) (.bool nv) (.int .u64 nh) (.int .u64 nl)) := PN.out.below hb
  replace B : Hid (Below w.heap.size w w5) := btr B.out hb
  clear hb
  obtain ⟨⟨PB0, PB1, PB2, PB3⟩, _⟩ := PB.out
  go_wp2_with fail
  refine (h6.out _).mono ?_
  clear PB0 PB1 PB2 PB3 
  rintro e w6 ⟨rfl, hb⟩
  replace PA : Hid (HasF w6 (w.heap.size) (.bool va) (.int .u64 ah) (.int .u64 al)) := PA.out.below hb
  replace PB : Hid (HasF w6 (w.heap.size + 1) (.bool vb) (.int .u64 bh) (.int .u64 bl)) := PB.out.below hb
  replace PX : Hid (HasF w6 (m2) (.bool xv) (.int .u64 xh) (.int .u64 xl)) := PX.out.below hb
  replace PN : Hid (HasF w6 (m3) (.bool nv) (.int .u64 nh) (.int .u64 nl)) := PN.out.below hb
  replace B : Hid (Below w.heap.size w w6) := btr B.out hb
  clear hb
  have LPAPM : Hid (w.heap.size ≠ w6.heap.size) := Nat.ne_of_lt PA.out.1.2.2.2
  have LPBPM : Hid (w.heap.size + 1 ≠ w6.heap.size) := Nat.ne_of_lt PB.out.1.2.2.2
  have LPXPM : Hid (m2 ≠ w6.heap.size) := Nat.ne_of_lt PX.out.1.2.2.2
  have LPNPM : Hid (m3 ≠ w6.heap.size) := Nat.ne_of_lt PN.out.1.2.2.2
  have GPM : Hid (w.heap.size ≤ w6.heap.size) := B.out.size
  replace PA : Hid (HasF (w6.alloc (.cells #[.bool false, .int .u64 0, .int .u64 0] 24)) (w.heap.size) (.bool va) (.int .u64 ah) (.int .u64 al)) := (PA.out).alloc (.cells #[.bool false, .int .u64 0, .int .u64 0] 24)
  replace PB : Hid (HasF (w6.alloc (.cells #[.bool false, .int .u64 0, .int .u64 0] 24)) (w.heap.size + 1) (.bool vb) (.int .u64 bh) (.int .u64 bl)) := (PB.out).alloc (.cells #[.bool false, .int .u64 0, .int .u64 0] 24)
  replace PX : Hid (HasF (w6.alloc (.cells #[.bool false, .int .u64 0, .int .u64 0] 24)) (m2) (.bool xv) (.int .u64 xh) (.int .u64 xl)) := (PX.out).alloc (.cells #[.bool false, .int .u64 0, .int .u64 0] 24)
  replace PN : Hid (HasF (w6.alloc (.cells #[.bool false, .int .u64 0, .int .u64 0] 24)) (m3) (.bool nv) (.int .u64 nh) (.int .u64 nl)) := (PN.out).alloc (.cells #[.bool false, .int .u64 0, .int .u64 0] 24)
  replace B : Hid (Below w.heap.size w (w6.alloc (.cells #[.bool false, .int .u64 0, .int .u64 0] 24))) := bal (B.out) _
  have PM : Hid (HasF (w6.alloc (.cells #[.bool false, .int .u64 0, .int .u64 0] 24)) (w6.heap.size) (.bool false) (.int .u64 0) (.int .u64 0)) := HasF.new w6 (.bool false) (.int .u64 0) (.int .u64 0) 24
  obtain ⟨⟨PA0, PA1, PA2, PA3⟩, _⟩ := PA.out
  go_wp2_with fail
  generalize (w6.alloc (.cells #[.bool false, .int .u64 0, .int .u64 0] 24)) = W6 at *
  generalize w6.heap.size = m6 at *
  refine (h7.out _).mono ?_
  clear PA0 PA1 PA2 PA3 
  rintro e w7 ⟨rfl, hb⟩
  replace PA : Hid (HasF w7 (w.heap.size) (.bool va) (.int .u64 ah) (.int .u64 al)) := PA.out.below hb
  replace PB : Hid (HasF w7 (w.heap.size + 1) (.bool vb) (.int .u64 bh) (.int .u64 bl)) := PB.out.below hb
  replace PX : Hid (HasF w7 (m2) (.bool xv) (.int .u64 xh) (.int .u64 xl)) := PX.out.below hb
  replace PN : Hid (HasF w7 (m3) (.bool nv) (.int .u64 nh) (.int .u64 nl)) := PN.out.below hb
  replace PM : Hid (HasF w7 (m6) (.bool false) (.int .u64 0) (.int .u64 0)) := PM.out.below hb
  replace B : Hid (Below w.heap.size w w7) := btr B.out hb
  clear hb
  obtain ⟨⟨PA0, PA1, PA2, PA3⟩, _⟩ := PA.out
  go_wp2_with fail
  refine (h8.out _).mono ?_
  clear PA0 PA1 PA2 PA3 
  rintro e w8 ⟨rfl, hb⟩
  replace PA : Hid (HasF w8 (w.heap.size) (.bool va) (.int .u64 ah) (.int .u64 al)) := PA.out.below hb
  replace PB : Hid (HasF w8 (w.heap.size + 1) (.bool vb) (.int .u64 bh) (.int .u64 bl)) := PB.out.below hb
  replace PX : Hid (HasF w8 (m2) (.bool xv) (.int .u64 xh) (.int .u64 xl)) := PX.out.below hb
  replace PN : Hid (HasF w8 (m3) (.bool nv) (.int .u64 nh) (.int .u64 nl)) := PN.out.below hb
  replace PM : Hid (HasF w8 (m6) (.bool false) (.int .u64 0) (.int .u64 0)) := PM.out.below hb
  replace B : Hid (Below w.heap.size w w8) := btr B.out hb
  clear hb
  obtain ⟨⟨PMa0, PMa1, PMa2, PMa3⟩, PMF⟩ := PM.out
  have PMf0 := PMF 0
  have PMf1 := PMF 1
  have PMf2 := PMF 2
  clear PMF
  have PA' : Hid (HasF (((w8.setCell ⟨m6, 0, none⟩ (.bool nv)).setCell ⟨m6, 1, none⟩ (.int .u64 nh)).setCell ⟨m6, 2, none⟩ (.int .u64 nl)) (w.heap.size) (.bool va) (.int .u64 ah) (.int .u64 al)) := PA.out.other LPAPM.out _ _ _
  have PB' : Hid (HasF (((w8.setCell ⟨m6, 0, none⟩ (.bool nv)).setCell ⟨m6, 1, none⟩ (.int .u64 nh)).setCell ⟨m6, 2, none⟩ (.int .u64 nl)) (w.heap.size + 1) (.bool vb) (.int .u64 bh) (.int .u64 bl)) := PB.out.other LPBPM.out _ _ _
  have PX' : Hid (HasF (((w8.setCell ⟨m6, 0, none⟩ (.bool nv)).setCell ⟨m6, 1, none⟩ (.int .u64 nh)).setCell ⟨m6, 2, none⟩ (.int .u64 nl)) (m2) (.bool xv) (.int .u64 xh) (.int .u64 xl)) := PX.out.other LPXPM.out _ _ _
  have PN' : Hid (HasF (((w8.setCell ⟨m6, 0, none⟩ (.bool nv)).setCell ⟨m6, 1, none⟩ (.int .u64 nh)).setCell ⟨m6, 2, none⟩ (.int .u64 nl)) (m3) (.bool nv) (.int .u64 nh) (.int .u64 nl)) := PN.out.other LPNPM.out _ _ _
  have PM' : Hid (HasF (((w8.setCell ⟨m6, 0, none⟩ (.bool nv)).setCell ⟨m6, 1, none⟩ (.int .u64 nh)).setCell ⟨m6, 2, none⟩ (.int .u64 nl)) (m6) (.bool nv) (.int .u64 nh) (.int .u64 nl)) := PM.out.store _ _ _
  have B' : Hid (Below w.heap.size w (((w8.setCell ⟨m6, 0, none⟩ (.bool nv)).setCell ⟨m6, 1, none⟩ (.int .u64 nh)).setCell ⟨m6, 2, none⟩ (.int .u64 nl))) := bse (bse (bse B.out GPM.out _) GPM.out _) GPM.out _
  replace PA := PA'
  replace PB := PB'
  replace PX := PX'
  replace PN := PN'
  replace PM := PM'
  replace B := B'
  clear PA' PB' PX' PN' PM' B'
  go_wp2_with fail
  clear PMa0 PMa1 PMa2 PMa3 PMf0 PMf1 PMf2
  generalize (((w8.setCell ⟨m6, 0, none⟩ (.bool nv)).setCell ⟨m6, 1, none⟩ (.int .u64 nh)).setCell ⟨m6, 2, none⟩ (.int .u64 nl)) = W8 at *
  refine (h9.out _).mono ?_
  rintro e w9 ⟨rfl, hb⟩
  replace PA : Hid (HasF w9 (w.heap.size) (.bool va) (.int .u64 ah) (.int .u64 al)) := PA.out.below hb
  replace PB : Hid (HasF w9 (w.heap.size + 1) (.bool vb) (.int .u64 bh) (.int .u64 bl)) := PB.out.below hb
  replace PX : Hid (HasF w9 (m2) (.bool xv) (.int .u64 xh) (.int .u64 xl)) := PX.out.below hb
  replace PN : Hid (HasF w9 (m3) (.bool nv) (.int .u64 nh) (.int .u64 nl)) := PN.out.below hb
  replace PM : Hid (HasF w9 (m6) (.bool nv) (.int .u64 nh) (.int .u64 nl)) := PM.out.below hb
  replace B : Hid (Below w.heap.size w w9) := btr B.out hb
  clear hb
  have LPAPW : Hid (w.heap.size ≠ w9.heap.size) := Nat.ne_of_lt PA.out.1.2.2.2
  have LPBPW : Hid (w.heap.size + 1 ≠ w9.heap.size) := Nat.ne_of_lt PB.out.1.2.2.2
  have LPXPW : Hid (m2 ≠ w9.heap.size) := Nat.ne_of_lt PX.out.1.2.2.2
  have LPNPW : Hid (m3 ≠ w9.heap.size) := Nat.ne_of_lt PN.out.1.2.2.2
  have LPMPW : Hid (m6 ≠ w9.heap.size) := Nat.ne_of_lt PM.out.1.2.2.2
  have GPW : Hid (w.heap.size ≤ w9.heap.size) := B.out.size
  replace PA : Hid (HasF (w9.alloc (.cells #[.bool xv, .int .u64 xh, .int .u64 xl] 24)) (w.heap.size) (.bool va) (.int .u64 ah) (.int .u64 al)) := (PA.out).alloc (.cells #[.bool xv, .int .u64 xh, .int .u64 xl] 24)
  replace PB : Hid (HasF (w9.alloc (.cells #[.bool xv, .int .u64 xh, .int .u64 xl] 24)) (w.heap.size + 1) (.bool vb) (.int .u64 bh) (.int .u64 bl)) := (PB.out).alloc (.cells #[.bool xv, .int .u64 xh, .int .u64 xl] 24)
  replace PX : Hid (HasF (w9.alloc (.cells #[.bool xv, .int .u64 xh, .int .u64 xl] 24)) (m2) (.bool xv) (.int .u64 xh) (.int .u64 xl)) := (PX.out).alloc (.cells #[.bool xv, .int .u64 xh, .int .u64 xl] 24)
  replace PN : Hid (HasF (w9.alloc (.cells #[.bool xv, .int .u64 xh, .int .u64 xl] 24)) (m3) (.bool nv) (.int .u64 nh) (.int .u64 nl)) := (PN.out).alloc (.cells #[.bool xv, .int .u64 xh, .int .u64 xl] 24)
  replace PM : Hid (HasF (w9.alloc (.cells #[.bool xv, .int .u64 xh, .int .u64 xl] 24)) (m6) (.bool nv) (.int .u64 nh) (.int .u64 nl)) := (PM.out).alloc (.cells #[.bool xv, .int .u64 xh, .int .u64 xl] 24)
  replace B : Hid (Below w.heap.size w (w9.alloc (.cells #[.bool xv, .int .u64 xh, .int .u64 xl] 24))) := bal (B.out) _
  have PW : Hid (HasF (w9.alloc (.cells #[.bool xv, .int .u64 xh, .int .u64 xl] 24)) (w9.heap.size) (.bool xv) (.int .u64 xh) (.int .u64 xl)) := HasF.new w9 (.bool xv) (.int .u64 xh) (.int .u64 xl) 24
  have E1 := eql_addr xv xh xl xv xh xl
  rw [eqA_same] at E1
  have E2 := eql_addr nv nh nl nv nh nl
  rw [eqA_same] at E2
  go_wp2_with fail
  generalize (w9.alloc (.cells #[.bool xv, .int .u64 xh, .int .u64 xl] 24)) = W9 at *
  generalize w9.heap.size = m9 at *
  refine (hB.out _ (HG.out _ B.out)).mono ?_
  rintro e w10 ⟨rfl, hb⟩
  replace PA : Hid (HasF w10 (w.heap.size) (.bool va) (.int .u64 ah) (.int .u64 al)) := PA.out.below hb
  replace PB : Hid (HasF w10 (w.heap.size + 1) (.bool vb) (.int .u64 bh) (.int .u64 bl)) := PB.out.below hb
  replace PX : Hid (HasF w10 (m2) (.bool xv) (.int .u64 xh) (.int .u64 xl)) := PX.out.below hb
  replace PN : Hid (HasF w10 (m3) (.bool nv) (.int .u64 nh) (.int .u64 nl)) := PN.out.below hb
  replace PM : Hid (HasF w10 (m6) (.bool nv) (.int .u64 nh) (.int .u64 nl)) := PM.out.below hb
  replace PW : Hid (HasF w10 (m9) (.bool xv) (.int .u64 xh) (.int .u64 xl)) := PW.out.below hb
  replace B : Hid (Below w.heap.size w w10) := btr B.out hb
  clear hb
  obtain ⟨⟨PA0, PA1, PA2, PA3⟩, _⟩ := PA.out
  go_wp2_with fail
  refine (h10.out _).mono ?_
  clear PA0 PA1 PA2 PA3 
  rintro e w11 ⟨rfl, hb⟩
  replace PA : Hid (HasF w11 (w.heap.size) (.bool va) (.int .u64 ah) (.int .u64 al)) := PA.out.below hb
  replace PB : Hid (HasF w11 (w.heap.size + 1) (.bool vb) (.int .u64 bh) (.int .u64 bl)) := PB.out.below hb
  replace PX : Hid (HasF w11 (m2) (.bool xv) (.int .u64 xh) (.int .u64 xl)) := PX.out.below hb
  replace PN : Hid (HasF w11 (m3) (.bool nv) (.int .u64 nh) (.int .u64 nl)) := PN.out.below hb
  replace PM : Hid (HasF w11 (m6) (.bool nv) (.int .u64 nh) (.int .u64 nl)) := PM.out.below hb
  replace PW : Hid (HasF w11 (m9) (.bool xv) (.int .u64 xh) (.int .u64 xl)) := PW.out.below hb
  replace B : Hid (Below w.heap.size w w11) := btr B.out hb
  clear hb
  obtain ⟨⟨PA0, PA1, PA2, PA3⟩, _⟩ := PA.out
  obtain ⟨⟨PB0, PB1, PB2, PB3⟩, _⟩ := PB.out
  obtain ⟨⟨PX0, PX1, PX2, PX3⟩, _⟩ := PX.out
  obtain ⟨⟨PN0, PN1, PN2, PN3⟩, _⟩ := PN.out
  obtain ⟨⟨PM0, PM1, PM2, PM3⟩, _⟩ := PM.out
  obtain ⟨⟨PW0, PW1, PW2, PW3⟩, _⟩ := PW.out
  go_wp2_with fail
  refine (h11.out _).mono ?_
  clear PA0 PA1 PA2 PA3 PB0 PB1 PB2 PB3 PX0 PX1 PX2 PX3 PN0 PN1 PN2 PN3 PM0 PM1 PM2 PM3 PW0 PW1 PW2 PW3 
  rintro e w12 ⟨rfl, hb⟩
  replace PA : Hid (HasF w12 (w.heap.size) (.bool va) (.int .u64 ah) (.int .u64 al)) := PA.out.below hb
  replace PB : Hid (HasF w12 (w.heap.size + 1) (.bool vb) (.int .u64 bh) (.int .u64 bl)) := PB.out.below hb
  replace PX : Hid (HasF w12 (m2) (.bool xv) (.int .u64 xh) (.int .u64 xl)) := PX.out.below hb
  replace PN : Hid (HasF w12 (m3) (.bool nv) (.int .u64 nh) (.int .u64 nl)) := PN.out.below hb
  replace PM : Hid (HasF w12 (m6) (.bool nv) (.int .u64 nh) (.int .u64 nl)) := PM.out.below hb
  replace PW : Hid (HasF w12 (m9) (.bool xv) (.int .u64 xh) (.int .u64 xl)) := PW.out.below hb
  replace B : Hid (Below w.heap.size w w12) := btr B.out hb
  clear hb
  obtain ⟨⟨PA0, PA1, PA2, PA3⟩, _⟩ := PA.out
  obtain ⟨⟨PB0, PB1, PB2, PB3⟩, _⟩ := PB.out
  obtain ⟨⟨PX0, PX1, PX2, PX3⟩, _⟩ := PX.out
  obtain ⟨⟨PN0, PN1, PN2, PN3⟩, _⟩ := PN.out
  obtain ⟨⟨PM0, PM1, PM2, PM3⟩, _⟩ := PM.out
  obtain ⟨⟨PW0, PW1, PW2, PW3⟩, _⟩ := PW.out
  go_wp2
  go_ret
  exact ⟨rfl, B.out⟩

set_option maxHeartbeats 32000000 in
set_option maxRecDepth 100000 in
theorem tells_00f (va : Bool) (ah al : Int) (vb : Bool) (bh bl : Int) (s T : ByteArray) (xv : Bool) (xh xl : Int) (nv : Bool) (nh nl : Int) (nb L : Bool) (w : World) (hg : Good w)
    (h1 : Hid (∀ w : World, Good w → Calls Tryd.prog 4 #[.agg #[.bool va, .int .u64 ah, .int .u64 al]] w fun e w' => e = .returned (.tuple #[.string T, .int .i64 0]) ∧ Below w.heap.size w w'))
    (h2 : Hid (∀ w : World, Good w → Calls Tryd.prog 5 #[.string s] w fun e w' => e = .returned (.tuple #[.agg #[.bool false, .int .u64 0, .int .u64 0], .int .i64 1]) ∧ Below w.heap.size w w'))
    (h3 : Hid (∀ w : World, Calls Tryd.prog 6 #[.agg #[.bool va, .int .u64 ah, .int .u64 al]] w fun e w' => e = .returned (.tuple #[.agg #[.bool nv, .int .u64 nh, .int .u64 nl], .bool nb, .int .i64 0]) ∧ Below w.heap.size w w'))
    (h4 : Hid (∀ w : World, Calls Tryd.prog 7 #[.agg #[.bool va, .int .u64 ah, .int .u64 al], .agg #[.bool vb, .int .u64 bh, .int .u64 bl]] w fun e w' => e = .returned (.tuple #[.bool L, .int .i64 0]) ∧ Below w.heap.size w w'))
    (h5 : Hid (∀ w : World, Calls Tryd.prog 8 #[.agg #[.bool va, .int .u64 ah, .int .u64 al]] w fun e w' => e = .returned (.int .i64 0) ∧ Below w.heap.size w w'))
    (h6 : Hid (∀ w : World, Calls Tryd.prog 8 #[.agg #[.bool vb, .int .u64 bh, .int .u64 bl]] w fun e w' => e = .returned (.int .i64 0) ∧ Below w.heap.size w w'))
    (h7 : Hid (∀ w : World, Calls Tryd.prog 9 #[.agg #[.bool va, .int .u64 ah, .int .u64 al]] w fun e w' => e = .returned (.string T) ∧ Below w.heap.size w w'))
    (h8 : Hid (∀ w : World, Calls Tryd.prog 10 #[.agg #[.bool va, .int .u64 ah, .int .u64 al]] w fun e w' => e = .returned (.tuple #[.agg #[.bool nv, .int .u64 nh, .int .u64 nl], .bool nb]) ∧ Below w.heap.size w w'))
    (h9 : Hid (∀ w : World, Calls Tryd.prog 11 #[.string s] w fun e w' => e = .returned (.tuple #[.agg #[.bool false, .int .u64 0, .int .u64 0], .bool false]) ∧ Below w.heap.size w w'))
    (h10 : Hid (∀ w : World, Calls Tryd.prog 13 #[.agg #[.bool va, .int .u64 ah, .int .u64 al]] w fun e w' => e = .returned (.int .i64 0) ∧ Below w.heap.size w w'))
    (h11 : Hid (∀ w : World, Calls Tryd.prog 14 #[.agg #[.bool va, .int .u64 ah, .int .u64 al], .agg #[.bool vb, .int .u64 bh, .int .u64 bl]] w fun e w' => e = .returned (.bool L) ∧ Below w.heap.size w w'))
    : Calls Tryd.prog 3 #[.agg #[.bool va, .int .u64 ah, .int .u64 al], .agg #[.bool vb, .int .u64 bh, .int .u64 bl], .string s] w fun e w' => e = .returned (.bool true) ∧ Below w.heap.size w w' := by
  have hB : Hid (∀ w : World, Good w → Calls Tryd.prog 12 #[] w fun e w' => e = .returned (.bool true) ∧ Below w.heap.size w w') := fun w => begun_any w
  have HG : Hid (∀ w1 : World, Below w.heap.size w w1 → Good w1) := fun w1 h => hg.below h
  have B : Hid (Below w.heap.size w w) := Below.refl _ _
  clear hg
  have GPA : Hid (w.heap.size ≤ w.heap.size) := Nat.le_refl _
  have GPB : Hid (w.heap.size ≤ w.heap.size + 1) := Nat.le_succ _
  replace B : Hid (Below w.heap.size w ((w.alloc (.cells #[.bool va, .int .u64 ah, .int .u64 al] 24)).alloc (.cells #[.bool vb, .int .u64 bh, .int .u64 bl] 24))) := bal (bal (B.out) _) _
  have PA : Hid (HasF ((w.alloc (.cells #[.bool va, .int .u64 ah, .int .u64 al] 24)).alloc (.cells #[.bool vb, .int .u64 bh, .int .u64 bl] 24)) (w.heap.size) (.bool va) (.int .u64 ah) (.int .u64 al)) := (HasF.new w (.bool va) (.int .u64 ah) (.int .u64 al) 24).alloc (.cells #[.bool vb, .int .u64 bh, .int .u64 bl] 24)
  have PB : Hid (HasF ((w.alloc (.cells #[.bool va, .int .u64 ah, .int .u64 al] 24)).alloc (.cells #[.bool vb, .int .u64 bh, .int .u64 bl] 24)) (w.heap.size + 1) (.bool vb) (.int .u64 bh) (.int .u64 bl)) := by
    have := HasF.new (w.alloc (.cells #[.bool va, .int .u64 ah, .int .u64 al] 24)) (.bool vb) (.int .u64 bh) (.int .u64 bl) 24
    rw [show (w.alloc (.cells #[.bool va, .int .u64 ah, .int .u64 al] 24)).heap.size = w.heap.size + 1 by simp] at this
    exact this
  go_enter Tryd.func3, Tryd.ntmps3
  obtain ⟨⟨PA0, PA1, PA2, PA3⟩, _⟩ := PA.out
  go_wp2_with fail
  generalize ((w.alloc (.cells #[.bool va, .int .u64 ah, .int .u64 al] 24)).alloc (.cells #[.bool vb, .int .u64 bh, .int .u64 bl] 24)) = W0 at *
  refine (h1.out _ (HG.out _ B.out)).mono ?_
  clear PA0 PA1 PA2 PA3 
  rintro e w1 ⟨rfl, hb⟩
  replace PA : Hid (HasF w1 (w.heap.size) (.bool va) (.int .u64 ah) (.int .u64 al)) := PA.out.below hb
  replace PB : Hid (HasF w1 (w.heap.size + 1) (.bool vb) (.int .u64 bh) (.int .u64 bl)) := PB.out.below hb
  replace B : Hid (Below w.heap.size w w1) := btr B.out hb
  clear hb
  go_wp2_with fail
  refine (h2.out _ (HG.out _ B.out)).mono ?_
  rintro e w2 ⟨rfl, hb⟩
  replace PA : Hid (HasF w2 (w.heap.size) (.bool va) (.int .u64 ah) (.int .u64 al)) := PA.out.below hb
  replace PB : Hid (HasF w2 (w.heap.size + 1) (.bool vb) (.int .u64 bh) (.int .u64 bl)) := PB.out.below hb
  replace B : Hid (Below w.heap.size w w2) := btr B.out hb
  clear hb
  have LPAPX : Hid (w.heap.size ≠ w2.heap.size) := Nat.ne_of_lt PA.out.1.2.2.2
  have LPBPX : Hid (w.heap.size + 1 ≠ w2.heap.size) := Nat.ne_of_lt PB.out.1.2.2.2
  have GPX : Hid (w.heap.size ≤ w2.heap.size) := B.out.size
  replace PA : Hid (HasF (w2.alloc (.cells #[.bool false, .int .u64 0, .int .u64 0] 24)) (w.heap.size) (.bool va) (.int .u64 ah) (.int .u64 al)) := (PA.out).alloc (.cells #[.bool false, .int .u64 0, .int .u64 0] 24)
  replace PB : Hid (HasF (w2.alloc (.cells #[.bool false, .int .u64 0, .int .u64 0] 24)) (w.heap.size + 1) (.bool vb) (.int .u64 bh) (.int .u64 bl)) := (PB.out).alloc (.cells #[.bool false, .int .u64 0, .int .u64 0] 24)
  replace B : Hid (Below w.heap.size w (w2.alloc (.cells #[.bool false, .int .u64 0, .int .u64 0] 24))) := bal (B.out) _
  have PX : Hid (HasF (w2.alloc (.cells #[.bool false, .int .u64 0, .int .u64 0] 24)) (w2.heap.size) (.bool false) (.int .u64 0) (.int .u64 0)) := HasF.new w2 (.bool false) (.int .u64 0) (.int .u64 0) 24
  obtain ⟨⟨PA0, PA1, PA2, PA3⟩, _⟩ := PA.out
  go_wp2_with fail
  generalize (w2.alloc (.cells #[.bool false, .int .u64 0, .int .u64 0] 24)) = W2 at *
  generalize w2.heap.size = m2 at *
  refine (h3.out _).mono ?_
  clear PA0 PA1 PA2 PA3 
  rintro e w3 ⟨rfl, hb⟩
  replace PA : Hid (HasF w3 (w.heap.size) (.bool va) (.int .u64 ah) (.int .u64 al)) := PA.out.below hb
  replace PB : Hid (HasF w3 (w.heap.size + 1) (.bool vb) (.int .u64 bh) (.int .u64 bl)) := PB.out.below hb
  replace PX : Hid (HasF w3 (m2) (.bool false) (.int .u64 0) (.int .u64 0)) := PX.out.below hb
  replace B : Hid (Below w.heap.size w w3) := btr B.out hb
  clear hb
  have LPAPN : Hid (w.heap.size ≠ w3.heap.size) := Nat.ne_of_lt PA.out.1.2.2.2
  have LPBPN : Hid (w.heap.size + 1 ≠ w3.heap.size) := Nat.ne_of_lt PB.out.1.2.2.2
  have LPXPN : Hid (m2 ≠ w3.heap.size) := Nat.ne_of_lt PX.out.1.2.2.2
  have GPN : Hid (w.heap.size ≤ w3.heap.size) := B.out.size
  replace PA : Hid (HasF (w3.alloc (.cells #[.bool nv, .int .u64 nh, .int .u64 nl] 24)) (w.heap.size) (.bool va) (.int .u64 ah) (.int .u64 al)) := (PA.out).alloc (.cells #[.bool nv, .int .u64 nh, .int .u64 nl] 24)
  replace PB : Hid (HasF (w3.alloc (.cells #[.bool nv, .int .u64 nh, .int .u64 nl] 24)) (w.heap.size + 1) (.bool vb) (.int .u64 bh) (.int .u64 bl)) := (PB.out).alloc (.cells #[.bool nv, .int .u64 nh, .int .u64 nl] 24)
  replace PX : Hid (HasF (w3.alloc (.cells #[.bool nv, .int .u64 nh, .int .u64 nl] 24)) (m2) (.bool false) (.int .u64 0) (.int .u64 0)) := (PX.out).alloc (.cells #[.bool nv, .int .u64 nh, .int .u64 nl] 24)
  replace B : Hid (Below w.heap.size w (w3.alloc (.cells #[.bool nv, .int .u64 nh, .int .u64 nl] 24))) := bal (B.out) _
  have PN : Hid (HasF (w3.alloc (.cells #[.bool nv, .int .u64 nh, .int .u64 nl] 24)) (w3.heap.size) (.bool nv) (.int .u64 nh) (.int .u64 nl)) := HasF.new w3 (.bool nv) (.int .u64 nh) (.int .u64 nl) 24
  obtain ⟨⟨PA0, PA1, PA2, PA3⟩, _⟩ := PA.out
  obtain ⟨⟨PB0, PB1, PB2, PB3⟩, _⟩ := PB.out
  go_wp2_with fail
  generalize (w3.alloc (.cells #[.bool nv, .int .u64 nh, .int .u64 nl] 24)) = W3 at *
  generalize w3.heap.size = m3 at *
  refine (h4.out _).mono ?_
  clear PA0 PA1 PA2 PA3 PB0 PB1 PB2 PB3 
  rintro e w4 ⟨rfl, hb⟩
  replace PA : Hid (HasF w4 (w.heap.size) (.bool va) (.int .u64 ah) (.int .u64 al)) := PA.out.below hb
  replace PB : Hid (HasF w4 (w.heap.size + 1) (.bool vb) (.int .u64 bh) (.int .u64 bl)) := PB.out.below hb
  replace PX : Hid (HasF w4 (m2) (.bool false) (.int .u64 0) (.int .u64 0)) := PX.out.below hb
  replace PN : Hid (HasF w4 (m3) (.bool nv) (.int .u64 nh) (.int .u64 nl)) := PN.out.below hb
  replace B : Hid (Below w.heap.size w w4) := btr B.out hb
  clear hb
  obtain ⟨⟨PA0, PA1, PA2, PA3⟩, _⟩ := PA.out
  go_wp2_with fail
  refine (h5.out _).mono ?_
  clear PA0 PA1 PA2 PA3 
  rintro e w5 ⟨rfl, hb⟩
  replace PA : Hid (HasF w5 (w.heap.size) (.bool va) (.int .u64 ah) (.int .u64 al)) := PA.out.below hb
  replace PB : Hid (HasF w5 (w.heap.size + 1) (.bool vb) (.int .u64 bh) (.int .u64 bl)) := PB.out.below hb
  replace PX : Hid (HasF w5 (m2) (.bool false) (.int .u64 0) (.int .u64 0)) := PX.out.below hb
  replace PN : Hid (HasF w5 (m3) (.bool nv) (.int .u64 nh) (.int .u64 nl)) := PN.out.below hb
  replace B : Hid (Below w.heap.size w w5) := btr B.out hb
  clear hb
  obtain ⟨⟨PB0, PB1, PB2, PB3⟩, _⟩ := PB.out
  go_wp2_with fail
  refine (h6.out _).mono ?_
  clear PB0 PB1 PB2 PB3 
  rintro e w6 ⟨rfl, hb⟩
  replace PA : Hid (HasF w6 (w.heap.size) (.bool va) (.int .u64 ah) (.int .u64 al)) := PA.out.below hb
  replace PB : Hid (HasF w6 (w.heap.size + 1) (.bool vb) (.int .u64 bh) (.int .u64 bl)) := PB.out.below hb
  replace PX : Hid (HasF w6 (m2) (.bool false) (.int .u64 0) (.int .u64 0)) := PX.out.below hb
  replace PN : Hid (HasF w6 (m3) (.bool nv) (.int .u64 nh) (.int .u64 nl)) := PN.out.below hb
  replace B : Hid (Below w.heap.size w w6) := btr B.out hb
  clear hb
  have LPAPM : Hid (w.heap.size ≠ w6.heap.size) := Nat.ne_of_lt PA.out.1.2.2.2
  have LPBPM : Hid (w.heap.size + 1 ≠ w6.heap.size) := Nat.ne_of_lt PB.out.1.2.2.2
  have LPXPM : Hid (m2 ≠ w6.heap.size) := Nat.ne_of_lt PX.out.1.2.2.2
  have LPNPM : Hid (m3 ≠ w6.heap.size) := Nat.ne_of_lt PN.out.1.2.2.2
  have GPM : Hid (w.heap.size ≤ w6.heap.size) := B.out.size
  replace PA : Hid (HasF (w6.alloc (.cells #[.bool false, .int .u64 0, .int .u64 0] 24)) (w.heap.size) (.bool va) (.int .u64 ah) (.int .u64 al)) := (PA.out).alloc (.cells #[.bool false, .int .u64 0, .int .u64 0] 24)
  replace PB : Hid (HasF (w6.alloc (.cells #[.bool false, .int .u64 0, .int .u64 0] 24)) (w.heap.size + 1) (.bool vb) (.int .u64 bh) (.int .u64 bl)) := (PB.out).alloc (.cells #[.bool false, .int .u64 0, .int .u64 0] 24)
  replace PX : Hid (HasF (w6.alloc (.cells #[.bool false, .int .u64 0, .int .u64 0] 24)) (m2) (.bool false) (.int .u64 0) (.int .u64 0)) := (PX.out).alloc (.cells #[.bool false, .int .u64 0, .int .u64 0] 24)
  replace PN : Hid (HasF (w6.alloc (.cells #[.bool false, .int .u64 0, .int .u64 0] 24)) (m3) (.bool nv) (.int .u64 nh) (.int .u64 nl)) := (PN.out).alloc (.cells #[.bool false, .int .u64 0, .int .u64 0] 24)
  replace B : Hid (Below w.heap.size w (w6.alloc (.cells #[.bool false, .int .u64 0, .int .u64 0] 24))) := bal (B.out) _
  have PM : Hid (HasF (w6.alloc (.cells #[.bool false, .int .u64 0, .int .u64 0] 24)) (w6.heap.size) (.bool false) (.int .u64 0) (.int .u64 0)) := HasF.new w6 (.bool false) (.int .u64 0) (.int .u64 0) 24
  obtain ⟨⟨PA0, PA1, PA2, PA3⟩, _⟩ := PA.out
  go_wp2_with fail
  generalize (w6.alloc (.cells #[.bool false, .int .u64 0, .int .u64 0] 24)) = W6 at *
  generalize w6.heap.size = m6 at *
  refine (h7.out _).mono ?_
  clear PA0 PA1 PA2 PA3 
  rintro e w7 ⟨rfl, hb⟩
  replace PA : Hid (HasF w7 (w.heap.size) (.bool va) (.int .u64 ah) (.int .u64 al)) := PA.out.below hb
  replace PB : Hid (HasF w7 (w.heap.size + 1) (.bool vb) (.int .u64 bh) (.int .u64 bl)) := PB.out.below hb
  replace PX : Hid (HasF w7 (m2) (.bool false) (.int .u64 0) (.int .u64 0)) := PX.out.below hb
  replace PN : Hid (HasF w7 (m3) (.bool nv) (.int .u64 nh) (.int .u64 nl)) := PN.out.below hb
  replace PM : Hid (HasF w7 (m6) (.bool false) (.int .u64 0) (.int .u64 0)) := PM.out.below hb
  replace B : Hid (Below w.heap.size w w7) := btr B.out hb
  clear hb
  obtain ⟨⟨PA0, PA1, PA2, PA3⟩, _⟩ := PA.out
  go_wp2_with fail
  refine (h8.out _).mono ?_
  clear PA0 PA1 PA2 PA3 
  rintro e w8 ⟨rfl, hb⟩
  replace PA : Hid (HasF w8 (w.heap.size) (.bool va) (.int .u64 ah) (.int .u64 al)) := PA.out.below hb
  replace PB : Hid (HasF w8 (w.heap.size + 1) (.bool vb) (.int .u64 bh) (.int .u64 bl)) := PB.out.below hb
  replace PX : Hid (HasF w8 (m2) (.bool false) (.int .u64 0) (.int .u64 0)) := PX.out.below hb
  replace PN : Hid (HasF w8 (m3) (.bool nv) (.int .u64 nh) (.int .u64 nl)) := PN.out.below hb
  replace PM : Hid (HasF w8 (m6) (.bool false) (.int .u64 0) (.int .u64 0)) := PM.out.below hb
  replace B : Hid (Below w.heap.size w w8) := btr B.out hb
  clear hb
  obtain ⟨⟨PMa0, PMa1, PMa2, PMa3⟩, PMF⟩ := PM.out
  have PMf0 := PMF 0
  have PMf1 := PMF 1
  have PMf2 := PMF 2
  clear PMF
  have PA' : Hid (HasF (((w8.setCell ⟨m6, 0, none⟩ (.bool nv)).setCell ⟨m6, 1, none⟩ (.int .u64 nh)).setCell ⟨m6, 2, none⟩ (.int .u64 nl)) (w.heap.size) (.bool va) (.int .u64 ah) (.int .u64 al)) := PA.out.other LPAPM.out _ _ _
  have PB' : Hid (HasF (((w8.setCell ⟨m6, 0, none⟩ (.bool nv)).setCell ⟨m6, 1, none⟩ (.int .u64 nh)).setCell ⟨m6, 2, none⟩ (.int .u64 nl)) (w.heap.size + 1) (.bool vb) (.int .u64 bh) (.int .u64 bl)) := PB.out.other LPBPM.out _ _ _
  have PX' : Hid (HasF (((w8.setCell ⟨m6, 0, none⟩ (.bool nv)).setCell ⟨m6, 1, none⟩ (.int .u64 nh)).setCell ⟨m6, 2, none⟩ (.int .u64 nl)) (m2) (.bool false) (.int .u64 0) (.int .u64 0)) := PX.out.other LPXPM.out _ _ _
  have PN' : Hid (HasF (((w8.setCell ⟨m6, 0, none⟩ (.bool nv)).setCell ⟨m6, 1, none⟩ (.int .u64 nh)).setCell ⟨m6, 2, none⟩ (.int .u64 nl)) (m3) (.bool nv) (.int .u64 nh) (.int .u64 nl)) := PN.out.other LPNPM.out _ _ _
  have PM' : Hid (HasF (((w8.setCell ⟨m6, 0, none⟩ (.bool nv)).setCell ⟨m6, 1, none⟩ (.int .u64 nh)).setCell ⟨m6, 2, none⟩ (.int .u64 nl)) (m6) (.bool nv) (.int .u64 nh) (.int .u64 nl)) := PM.out.store _ _ _
  have B' : Hid (Below w.heap.size w (((w8.setCell ⟨m6, 0, none⟩ (.bool nv)).setCell ⟨m6, 1, none⟩ (.int .u64 nh)).setCell ⟨m6, 2, none⟩ (.int .u64 nl))) := bse (bse (bse B.out GPM.out _) GPM.out _) GPM.out _
  replace PA := PA'
  replace PB := PB'
  replace PX := PX'
  replace PN := PN'
  replace PM := PM'
  replace B := B'
  clear PA' PB' PX' PN' PM' B'
  go_wp2_with fail
  clear PMa0 PMa1 PMa2 PMa3 PMf0 PMf1 PMf2
  generalize (((w8.setCell ⟨m6, 0, none⟩ (.bool nv)).setCell ⟨m6, 1, none⟩ (.int .u64 nh)).setCell ⟨m6, 2, none⟩ (.int .u64 nl)) = W8 at *
  refine (h9.out _).mono ?_
  rintro e w9 ⟨rfl, hb⟩
  replace PA : Hid (HasF w9 (w.heap.size) (.bool va) (.int .u64 ah) (.int .u64 al)) := PA.out.below hb
  replace PB : Hid (HasF w9 (w.heap.size + 1) (.bool vb) (.int .u64 bh) (.int .u64 bl)) := PB.out.below hb
  replace PX : Hid (HasF w9 (m2) (.bool false) (.int .u64 0) (.int .u64 0)) := PX.out.below hb
  replace PN : Hid (HasF w9 (m3) (.bool nv) (.int .u64 nh) (.int .u64 nl)) := PN.out.below hb
  replace PM : Hid (HasF w9 (m6) (.bool nv) (.int .u64 nh) (.int .u64 nl)) := PM.out.below hb
  replace B : Hid (Below w.heap.size w w9) := btr B.out hb
  clear hb
  have LPAPW : Hid (w.heap.size ≠ w9.heap.size) := Nat.ne_of_lt PA.out.1.2.2.2
  have LPBPW : Hid (w.heap.size + 1 ≠ w9.heap.size) := Nat.ne_of_lt PB.out.1.2.2.2
  have LPXPW : Hid (m2 ≠ w9.heap.size) := Nat.ne_of_lt PX.out.1.2.2.2
  have LPNPW : Hid (m3 ≠ w9.heap.size) := Nat.ne_of_lt PN.out.1.2.2.2
  have LPMPW : Hid (m6 ≠ w9.heap.size) := Nat.ne_of_lt PM.out.1.2.2.2
  have GPW : Hid (w.heap.size ≤ w9.heap.size) := B.out.size
  replace PA : Hid (HasF (w9.alloc (.cells #[.bool false, .int .u64 0, .int .u64 0] 24)) (w.heap.size) (.bool va) (.int .u64 ah) (.int .u64 al)) := (PA.out).alloc (.cells #[.bool false, .int .u64 0, .int .u64 0] 24)
  replace PB : Hid (HasF (w9.alloc (.cells #[.bool false, .int .u64 0, .int .u64 0] 24)) (w.heap.size + 1) (.bool vb) (.int .u64 bh) (.int .u64 bl)) := (PB.out).alloc (.cells #[.bool false, .int .u64 0, .int .u64 0] 24)
  replace PX : Hid (HasF (w9.alloc (.cells #[.bool false, .int .u64 0, .int .u64 0] 24)) (m2) (.bool false) (.int .u64 0) (.int .u64 0)) := (PX.out).alloc (.cells #[.bool false, .int .u64 0, .int .u64 0] 24)
  replace PN : Hid (HasF (w9.alloc (.cells #[.bool false, .int .u64 0, .int .u64 0] 24)) (m3) (.bool nv) (.int .u64 nh) (.int .u64 nl)) := (PN.out).alloc (.cells #[.bool false, .int .u64 0, .int .u64 0] 24)
  replace PM : Hid (HasF (w9.alloc (.cells #[.bool false, .int .u64 0, .int .u64 0] 24)) (m6) (.bool nv) (.int .u64 nh) (.int .u64 nl)) := (PM.out).alloc (.cells #[.bool false, .int .u64 0, .int .u64 0] 24)
  replace B : Hid (Below w.heap.size w (w9.alloc (.cells #[.bool false, .int .u64 0, .int .u64 0] 24))) := bal (B.out) _
  have PW : Hid (HasF (w9.alloc (.cells #[.bool false, .int .u64 0, .int .u64 0] 24)) (w9.heap.size) (.bool false) (.int .u64 0) (.int .u64 0)) := HasF.new w9 (.bool false) (.int .u64 0) (.int .u64 0) 24
  have E1 := eql_addr false 0 0 false 0 0
  rw [eqA_same] at E1
  have E2 := eql_addr nv nh nl nv nh nl
  rw [eqA_same] at E2
  go_wp2_with fail
  generalize (w9.alloc (.cells #[.bool false, .int .u64 0, .int .u64 0] 24)) = W9 at *
  generalize w9.heap.size = m9 at *
  refine (hB.out _ (HG.out _ B.out)).mono ?_
  rintro e w10 ⟨rfl, hb⟩
  replace PA : Hid (HasF w10 (w.heap.size) (.bool va) (.int .u64 ah) (.int .u64 al)) := PA.out.below hb
  replace PB : Hid (HasF w10 (w.heap.size + 1) (.bool vb) (.int .u64 bh) (.int .u64 bl)) := PB.out.below hb
  replace PX : Hid (HasF w10 (m2) (.bool false) (.int .u64 0) (.int .u64 0)) := PX.out.below hb
  replace PN : Hid (HasF w10 (m3) (.bool nv) (.int .u64 nh) (.int .u64 nl)) := PN.out.below hb
  replace PM : Hid (HasF w10 (m6) (.bool nv) (.int .u64 nh) (.int .u64 nl)) := PM.out.below hb
  replace PW : Hid (HasF w10 (m9) (.bool false) (.int .u64 0) (.int .u64 0)) := PW.out.below hb
  replace B : Hid (Below w.heap.size w w10) := btr B.out hb
  clear hb
  obtain ⟨⟨PA0, PA1, PA2, PA3⟩, _⟩ := PA.out
  go_wp2_with fail
  refine (h10.out _).mono ?_
  clear PA0 PA1 PA2 PA3 
  rintro e w11 ⟨rfl, hb⟩
  replace PA : Hid (HasF w11 (w.heap.size) (.bool va) (.int .u64 ah) (.int .u64 al)) := PA.out.below hb
  replace PB : Hid (HasF w11 (w.heap.size + 1) (.bool vb) (.int .u64 bh) (.int .u64 bl)) := PB.out.below hb
  replace PX : Hid (HasF w11 (m2) (.bool false) (.int .u64 0) (.int .u64 0)) := PX.out.below hb
  replace PN : Hid (HasF w11 (m3) (.bool nv) (.int .u64 nh) (.int .u64 nl)) := PN.out.below hb
  replace PM : Hid (HasF w11 (m6) (.bool nv) (.int .u64 nh) (.int .u64 nl)) := PM.out.below hb
  replace PW : Hid (HasF w11 (m9) (.bool false) (.int .u64 0) (.int .u64 0)) := PW.out.below hb
  replace B : Hid (Below w.heap.size w w11) := btr B.out hb
  clear hb
  obtain ⟨⟨PA0, PA1, PA2, PA3⟩, _⟩ := PA.out
  obtain ⟨⟨PB0, PB1, PB2, PB3⟩, _⟩ := PB.out
  obtain ⟨⟨PX0, PX1, PX2, PX3⟩, _⟩ := PX.out
  obtain ⟨⟨PN0, PN1, PN2, PN3⟩, _⟩ := PN.out
  obtain ⟨⟨PM0, PM1, PM2, PM3⟩, _⟩ := PM.out
  obtain ⟨⟨PW0, PW1, PW2, PW3⟩, _⟩ := PW.out
  go_wp2_with fail
  refine (h11.out _).mono ?_
  clear PA0 PA1 PA2 PA3 PB0 PB1 PB2 PB3 PX0 PX1 PX2 PX3 PN0 PN1 PN2 PN3 PM0 PM1 PM2 PM3 PW0 PW1 PW2 PW3 
  rintro e w12 ⟨rfl, hb⟩
  replace PA : Hid (HasF w12 (w.heap.size) (.bool va) (.int .u64 ah) (.int .u64 al)) := PA.out.below hb
  replace PB : Hid (HasF w12 (w.heap.size + 1) (.bool vb) (.int .u64 bh) (.int .u64 bl)) := PB.out.below hb
  replace PX : Hid (HasF w12 (m2) (.bool false) (.int .u64 0) (.int .u64 0)) := PX.out.below hb
  replace PN : Hid (HasF w12 (m3) (.bool nv) (.int .u64 nh) (.int .u64 nl)) := PN.out.below hb
  replace PM : Hid (HasF w12 (m6) (.bool nv) (.int .u64 nh) (.int .u64 nl)) := PM.out.below hb
  replace PW : Hid (HasF w12 (m9) (.bool false) (.int .u64 0) (.int .u64 0)) := PW.out.below hb
  replace B : Hid (Below w.heap.size w w12) := btr B.out hb
  clear hb
  obtain ⟨⟨PA0, PA1, PA2, PA3⟩, _⟩ := PA.out
  obtain ⟨⟨PB0, PB1, PB2, PB3⟩, _⟩ := PB.out
  obtain ⟨⟨PX0, PX1, PX2, PX3⟩, _⟩ := PX.out
  obtain ⟨⟨PN0, PN1, PN2, PN3⟩, _⟩ := PN.out
  obtain ⟨⟨PM0, PM1, PM2, PM3⟩, _⟩ := PM.out
  obtain ⟨⟨PW0, PW1, PW2, PW3⟩, _⟩ := PW.out
  go_wp2
  go_ret
  exact ⟨rfl, B.out⟩

end Go.Proofs.YtollaiabcnmebaaDoor
