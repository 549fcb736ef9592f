/- yardarmlaw.AddrOrder, its walks, a case each. -/
import Derived.Test.YtflbcgpcgjnhgaaDoorBegun
set_option linter.unusedVariables false
set_option linter.unusedSimpArgs false
namespace Go.Proofs.YtflbcgpcgjnhgaaDoor
open Go.RowKit

theorem Hid.below3 {W w' : World} {p : Nat} {x y z : Value} (h : Hid (Has3 W p x y z)) (hb : Below W.heap.size W w') : Hid (Has3 w' p x y z) := Has3.below h.out hb
theorem Hid.alloc3 {W : World} {p : Nat} {x y z : Value} (h : Hid (Has3 W p x y z)) (o : Obj) : Hid (Has3 (W.alloc o) p x y z) := Has3.alloc h.out o

set_option maxHeartbeats 16000000 in
set_option maxRecDepth 100000 in
theorem order_tfb0 (va vb vc : Bool) (ah al bh bl ch cl nh nl : Int) (z z' q : Bool) (w : World) (hg : Good w)
    (h1 : Hid (∀ w : World, Calls Tryd.prog 9 #[.agg #[.bool va, .int .u64 ah, .int .u64 al], .agg #[.bool vb, .int .u64 bh, .int .u64 bl]] w fun e w' => e = .returned (.tuple #[.bool true, .int .i64 0]) ∧ Below w.heap.size w w'))
    (h2 : Hid (∀ w : World, Calls Tryd.prog 9 #[.agg #[.bool vb, .int .u64 bh, .int .u64 bl], .agg #[.bool va, .int .u64 ah, .int .u64 al]] w fun e w' => e = .returned (.tuple #[.bool false, .int .i64 0]) ∧ Below w.heap.size w w'))
    (h3 : Hid (∀ w : World, Calls Tryd.prog 9 #[.agg #[.bool vb, .int .u64 bh, .int .u64 bl], .agg #[.bool vc, .int .u64 ch, .int .u64 cl]] w fun e w' => e = .returned (.tuple #[.bool false, .int .i64 3]) ∧ Below w.heap.size w w'))
    (h4 : Hid (∀ w : World, Calls Tryd.prog 9 #[.agg #[.bool va, .int .u64 ah, .int .u64 al], .agg #[.bool vc, .int .u64 ch, .int .u64 cl]] w fun e w' => e = .returned (.tuple #[.bool false, .int .i64 3]) ∧ Below w.heap.size w w'))
    (h5 : Hid (∀ w : World, Calls Tryd.prog 8 #[.agg #[.bool va, .int .u64 ah, .int .u64 al]] w fun e w' => e = .returned (.tuple #[.agg #[.bool false, .int .u64 0, .int .u64 0], .bool false, .int .i64 0]) ∧ Below w.heap.size w w'))
    : Calls Tryd.prog 5 #[.agg #[.bool va, .int .u64 ah, .int .u64 al], .agg #[.bool vb, .int .u64 bh, .int .u64 bl], .agg #[.bool vc, .int .u64 ch, .int .u64 cl]] w fun e w' => e = .returned (.bool true) ∧ Below w.heap.size w w' := by
  have hB : Hid (∀ w : World, Good w → Calls Tryd.prog 14 #[] w fun e w' => e = .returned (.bool true) ∧ Below w.heap.size w w') := fun w => begun_any w
  have HG : Hid (Good w) := hg
  clear hg
  have B0 : Hid (Below w.heap.size w (((w.alloc (.cells #[.bool va, .int .u64 ah, .int .u64 al] 24)).alloc (.cells #[.bool vb, .int .u64 bh, .int .u64 bl] 24)).alloc (.cells #[.bool vc, .int .u64 ch, .int .u64 cl] 24))) := bal (bal (bal (Below.refl _ _) _) _) _
  have PA : Hid (Has3 (((w.alloc (.cells #[.bool va, .int .u64 ah, .int .u64 al] 24)).alloc (.cells #[.bool vb, .int .u64 bh, .int .u64 bl] 24)).alloc (.cells #[.bool vc, .int .u64 ch, .int .u64 cl] 24)) w.heap.size (.bool va) (.int .u64 ah) (.int .u64 al)) := ((Has3.new _ _ _ _ _).alloc _).alloc _
  have PB : Hid (Has3 (((w.alloc (.cells #[.bool va, .int .u64 ah, .int .u64 al] 24)).alloc (.cells #[.bool vb, .int .u64 bh, .int .u64 bl] 24)).alloc (.cells #[.bool vc, .int .u64 ch, .int .u64 cl] 24)) (w.heap.size + 1) (.bool vb) (.int .u64 bh) (.int .u64 bl)) := by
    have := (Has3.new (w.alloc (.cells #[.bool va, .int .u64 ah, .int .u64 al] 24)) (.bool vb) (.int .u64 bh) (.int .u64 bl) 24).alloc (.cells #[.bool vc, .int .u64 ch, .int .u64 cl] 24)
    simp at this
    exact this
  have PC : Hid (Has3 (((w.alloc (.cells #[.bool va, .int .u64 ah, .int .u64 al] 24)).alloc (.cells #[.bool vb, .int .u64 bh, .int .u64 bl] 24)).alloc (.cells #[.bool vc, .int .u64 ch, .int .u64 cl] 24)) (w.heap.size + 1 + 1) (.bool vc) (.int .u64 ch) (.int .u64 cl)) := by
    have := Has3.new ((w.alloc (.cells #[.bool va, .int .u64 ah, .int .u64 al] 24)).alloc (.cells #[.bool vb, .int .u64 bh, .int .u64 bl] 24)) (.bool vc) (.int .u64 ch) (.int .u64 cl) 24
    simp at this
    exact this
  go_enter Tryd.func5, Tryd.ntmps5
  go_wp2_with fail
  refine (hB.out _ (HG.out.below B0.out)).mono ?_
  generalize ((w.alloc (.cells #[.bool va, .int .u64 ah, .int .u64 al] 24)).alloc (.cells #[.bool vb, .int .u64 bh, .int .u64 bl] 24)).alloc (.cells #[.bool vc, .int .u64 ch, .int .u64 cl] 24) = W0 at B0 PA PB PC ⊢
  clear hB HG
  rintro e w1 ⟨rfl, hb⟩
  have B1 : Hid (Below w.heap.size w w1) := btr B0.out hb
  replace PA := Hid.below3 PA hb
  replace PB := Hid.below3 PB hb
  replace PC := Hid.below3 PC hb
  clear hb B0
  obtain ⟨a0, a1, a2, a3⟩ := PA.out
  obtain ⟨b0, b1, b2, b3⟩ := PB.out
  obtain ⟨c0, c1, c2, c3⟩ := PC.out
  go_wp2_with fail
  refine (h1.out _).mono ?_
  clear a0 a1 a2 a3 b0 b1 b2 b3 c0 c1 c2 c3
  rintro e w2 ⟨rfl, hb⟩
  have B2 : Hid (Below w.heap.size w w2) := btr B1.out hb
  replace PA := Hid.below3 PA hb
  replace PB := Hid.below3 PB hb
  replace PC := Hid.below3 PC hb
  clear hb B1
  obtain ⟨a0, a1, a2, a3⟩ := PA.out
  obtain ⟨b0, b1, b2, b3⟩ := PB.out
  obtain ⟨c0, c1, c2, c3⟩ := PC.out
  go_wp2_with fail
  refine (h2.out _).mono ?_
  clear a0 a1 a2 a3 b0 b1 b2 b3 c0 c1 c2 c3
  rintro e w3 ⟨rfl, hb⟩
  have B3 : Hid (Below w.heap.size w w3) := btr B2.out hb
  replace PA := Hid.below3 PA hb
  replace PB := Hid.below3 PB hb
  replace PC := Hid.below3 PC hb
  clear hb B2
  obtain ⟨a0, a1, a2, a3⟩ := PA.out
  obtain ⟨b0, b1, b2, b3⟩ := PB.out
  obtain ⟨c0, c1, c2, c3⟩ := PC.out
  go_wp2_with fail
  refine (h3.out _).mono ?_
  clear a0 a1 a2 a3 b0 b1 b2 b3 c0 c1 c2 c3
  rintro e w4 ⟨rfl, hb⟩
  have B4 : Hid (Below w.heap.size w w4) := btr B3.out hb
  replace PA := Hid.below3 PA hb
  replace PB := Hid.below3 PB hb
  replace PC := Hid.below3 PC hb
  clear hb B3
  obtain ⟨a0, a1, a2, a3⟩ := PA.out
  obtain ⟨b0, b1, b2, b3⟩ := PB.out
  obtain ⟨c0, c1, c2, c3⟩ := PC.out
  go_wp2_with fail
  refine (h4.out _).mono ?_
  clear a0 a1 a2 a3 b0 b1 b2 b3 c0 c1 c2 c3
  rintro e w5 ⟨rfl, hb⟩
  have B5 : Hid (Below w.heap.size w w5) := btr B4.out hb
  replace PA := Hid.below3 PA hb
  replace PB := Hid.below3 PB hb
  replace PC := Hid.below3 PC hb
  clear hb B4
  obtain ⟨a0, a1, a2, a3⟩ := PA.out
  obtain ⟨b0, b1, b2, b3⟩ := PB.out
  obtain ⟨c0, c1, c2, c3⟩ := PC.out
  go_wp2_with fail
  refine (h5.out _).mono ?_
  clear a0 a1 a2 a3 b0 b1 b2 b3 c0 c1 c2 c3
  rintro e w6 ⟨rfl, hb⟩
  have B6 : Hid (Below w.heap.size w (w6.alloc (.cells #[.bool false, .int .u64 0, .int .u64 0] 24))) := bal (btr B5.out hb) _
  go_wp2
  go_ret
  exact ⟨rfl, B6.out⟩

set_option maxHeartbeats 16000000 in
set_option maxRecDepth 100000 in
theorem order_tfb1 (va vb vc : Bool) (ah al bh bl ch cl nh nl : Int) (z z' q : Bool) (w : World) (hg : Good w)
    (h1 : Hid (∀ w : World, Calls Tryd.prog 9 #[.agg #[.bool va, .int .u64 ah, .int .u64 al], .agg #[.bool vb, .int .u64 bh, .int .u64 bl]] w fun e w' => e = .returned (.tuple #[.bool true, .int .i64 0]) ∧ Below w.heap.size w w'))
    (h2 : Hid (∀ w : World, Calls Tryd.prog 9 #[.agg #[.bool vb, .int .u64 bh, .int .u64 bl], .agg #[.bool va, .int .u64 ah, .int .u64 al]] w fun e w' => e = .returned (.tuple #[.bool false, .int .i64 0]) ∧ Below w.heap.size w w'))
    (h3 : Hid (∀ w : World, Calls Tryd.prog 9 #[.agg #[.bool vb, .int .u64 bh, .int .u64 bl], .agg #[.bool vc, .int .u64 ch, .int .u64 cl]] w fun e w' => e = .returned (.tuple #[.bool false, .int .i64 3]) ∧ Below w.heap.size w w'))
    (h4 : Hid (∀ w : World, Calls Tryd.prog 9 #[.agg #[.bool va, .int .u64 ah, .int .u64 al], .agg #[.bool vc, .int .u64 ch, .int .u64 cl]] w fun e w' => e = .returned (.tuple #[.bool false, .int .i64 3]) ∧ Below w.heap.size w w'))
    (h5 : Hid (∀ w : World, Calls Tryd.prog 8 #[.agg #[.bool va, .int .u64 ah, .int .u64 al]] w fun e w' => e = .returned (.tuple #[.agg #[.bool va, .int .u64 nh, .int .u64 nl], .bool true, .int .i64 0]) ∧ Below w.heap.size w w'))
    (h6 : Hid (∀ w : World, Calls Tryd.prog 9 #[.agg #[.bool va, .int .u64 ah, .int .u64 al], .agg #[.bool va, .int .u64 nh, .int .u64 nl]] w fun e w' => e = .returned (.tuple #[.bool true, .int .i64 0]) ∧ Below w.heap.size w w'))
    (h7 : Hid (∀ w : World, Calls Tryd.prog 9 #[.agg #[.bool vb, .int .u64 bh, .int .u64 bl], .agg #[.bool va, .int .u64 nh, .int .u64 nl]] w fun e w' => e = .returned (.tuple #[.bool false, .int .i64 0]) ∧ Below w.heap.size w w'))
    : Calls Tryd.prog 5 #[.agg #[.bool va, .int .u64 ah, .int .u64 al], .agg #[.bool vb, .int .u64 bh, .int .u64 bl], .agg #[.bool vc, .int .u64 ch, .int .u64 cl]] w fun e w' => e = .returned (.bool true) ∧ Below w.heap.size w w' := by
  have hB : Hid (∀ w : World, Good w → Calls Tryd.prog 14 #[] w fun e w' => e = .returned (.bool true) ∧ Below w.heap.size w w') := fun w => begun_any w
  have HG : Hid (Good w) := hg
  clear hg
  have B0 : Hid (Below w.heap.size w (((w.alloc (.cells #[.bool va, .int .u64 ah, .int .u64 al] 24)).alloc (.cells #[.bool vb, .int .u64 bh, .int .u64 bl] 24)).alloc (.cells #[.bool vc, .int .u64 ch, .int .u64 cl] 24))) := bal (bal (bal (Below.refl _ _) _) _) _
  have PA : Hid (Has3 (((w.alloc (.cells #[.bool va, .int .u64 ah, .int .u64 al] 24)).alloc (.cells #[.bool vb, .int .u64 bh, .int .u64 bl] 24)).alloc (.cells #[.bool vc, .int .u64 ch, .int .u64 cl] 24)) w.heap.size (.bool va) (.int .u64 ah) (.int .u64 al)) := ((Has3.new _ _ _ _ _).alloc _).alloc _
  have PB : Hid (Has3 (((w.alloc (.cells #[.bool va, .int .u64 ah, .int .u64 al] 24)).alloc (.cells #[.bool vb, .int .u64 bh, .int .u64 bl] 24)).alloc (.cells #[.bool vc, .int .u64 ch, .int .u64 cl] 24)) (w.heap.size + 1) (.bool vb) (.int .u64 bh) (.int .u64 bl)) := by
    have := (Has3.new (w.alloc (.cells #[.bool va, .int .u64 ah, .int .u64 al] 24)) (.bool vb) (.int .u64 bh) (.int .u64 bl) 24).alloc (.cells #[.bool vc, .int .u64 ch, .int .u64 cl] 24)
    simp at this
    exact this
  have PC : Hid (Has3 (((w.alloc (.cells #[.bool va, .int .u64 ah, .int .u64 al] 24)).alloc (.cells #[.bool vb, .int .u64 bh, .int .u64 bl] 24)).alloc (.cells #[.bool vc, .int .u64 ch, .int .u64 cl] 24)) (w.heap.size + 1 + 1) (.bool vc) (.int .u64 ch) (.int .u64 cl)) := by
    have := Has3.new ((w.alloc (.cells #[.bool va, .int .u64 ah, .int .u64 al] 24)).alloc (.cells #[.bool vb, .int .u64 bh, .int .u64 bl] 24)) (.bool vc) (.int .u64 ch) (.int .u64 cl) 24
    simp at this
    exact this
  go_enter Tryd.func5, Tryd.ntmps5
  go_wp2_with fail
  refine (hB.out _ (HG.out.below B0.out)).mono ?_
  generalize ((w.alloc (.cells #[.bool va, .int .u64 ah, .int .u64 al] 24)).alloc (.cells #[.bool vb, .int .u64 bh, .int .u64 bl] 24)).alloc (.cells #[.bool vc, .int .u64 ch, .int .u64 cl] 24) = W0 at B0 PA PB PC ⊢
  clear hB HG
  rintro e w1 ⟨rfl, hb⟩
  have B1 : Hid (Below w.heap.size w w1) := btr B0.out hb
  replace PA := Hid.below3 PA hb
  replace PB := Hid.below3 PB hb
  replace PC := Hid.below3 PC hb
  clear hb B0
  obtain ⟨a0, a1, a2, a3⟩ := PA.out
  obtain ⟨b0, b1, b2, b3⟩ := PB.out
  obtain ⟨c0, c1, c2, c3⟩ := PC.out
  go_wp2_with fail
  refine (h1.out _).mono ?_
  clear a0 a1 a2 a3 b0 b1 b2 b3 c0 c1 c2 c3
  rintro e w2 ⟨rfl, hb⟩
  have B2 : Hid (Below w.heap.size w w2) := btr B1.out hb
  replace PA := Hid.below3 PA hb
  replace PB := Hid.below3 PB hb
  replace PC := Hid.below3 PC hb
  clear hb B1
  obtain ⟨a0, a1, a2, a3⟩ := PA.out
  obtain ⟨b0, b1, b2, b3⟩ := PB.out
  obtain ⟨c0, c1, c2, c3⟩ := PC.out
  go_wp2_with fail
  refine (h2.out _).mono ?_
  clear a0 a1 a2 a3 b0 b1 b2 b3 c0 c1 c2 c3
  rintro e w3 ⟨rfl, hb⟩
  have B3 : Hid (Below w.heap.size w w3) := btr B2.out hb
  replace PA := Hid.below3 PA hb
  replace PB := Hid.below3 PB hb
  replace PC := Hid.below3 PC hb
  clear hb B2
  obtain ⟨a0, a1, a2, a3⟩ := PA.out
  obtain ⟨b0, b1, b2, b3⟩ := PB.out
  obtain ⟨c0, c1, c2, c3⟩ := PC.out
  go_wp2_with fail
  refine (h3.out _).mono ?_
  clear a0 a1 a2 a3 b0 b1 b2 b3 c0 c1 c2 c3
  rintro e w4 ⟨rfl, hb⟩
  have B4 : Hid (Below w.heap.size w w4) := btr B3.out hb
  replace PA := Hid.below3 PA hb
  replace PB := Hid.below3 PB hb
  replace PC := Hid.below3 PC hb
  clear hb B3
  obtain ⟨a0, a1, a2, a3⟩ := PA.out
  obtain ⟨b0, b1, b2, b3⟩ := PB.out
  obtain ⟨c0, c1, c2, c3⟩ := PC.out
  go_wp2_with fail
  refine (h4.out _).mono ?_
  clear a0 a1 a2 a3 b0 b1 b2 b3 c0 c1 c2 c3
  rintro e w5 ⟨rfl, hb⟩
  have B5 : Hid (Below w.heap.size w w5) := btr B4.out hb
  replace PA := Hid.below3 PA hb
  replace PB := Hid.below3 PB hb
  replace PC := Hid.below3 PC hb
  clear hb B4
  obtain ⟨a0, a1, a2, a3⟩ := PA.out
  obtain ⟨b0, b1, b2, b3⟩ := PB.out
  obtain ⟨c0, c1, c2, c3⟩ := PC.out
  go_wp2_with fail
  refine (h5.out _).mono ?_
  clear a0 a1 a2 a3 b0 b1 b2 b3 c0 c1 c2 c3
  rintro e w6 ⟨rfl, hb⟩
  have B6 : Hid (Below w.heap.size w (w6.alloc (.cells #[.bool va, .int .u64 nh, .int .u64 nl] 24))) := bal (btr B5.out hb) _
  replace PA := Hid.alloc3 (Hid.below3 PA hb) (.cells #[.bool va, .int .u64 nh, .int .u64 nl] 24)
  replace PB := Hid.alloc3 (Hid.below3 PB hb) (.cells #[.bool va, .int .u64 nh, .int .u64 nl] 24)
  have PN : Hid (Has3 (w6.alloc (.cells #[.bool va, .int .u64 nh, .int .u64 nl] 24)) w6.heap.size (.bool va) (.int .u64 nh) (.int .u64 nl)) := Has3.new _ _ _ _ _
  clear hb B5 PC
  obtain ⟨a0, a1, a2, a3⟩ := PA.out
  obtain ⟨b0, b1, b2, b3⟩ := PB.out
  obtain ⟨n0, n1, n2, n3⟩ := PN.out
  go_wp2_with fail
  refine (h6.out _).mono ?_
  clear a0 a1 a2 a3 b0 b1 b2 b3 n0 n1 n2 n3
  generalize w6.alloc (.cells #[.bool va, .int .u64 nh, .int .u64 nl] 24) = WN at B6 PA PB PN ⊢
  generalize w6.heap.size = pn at PN ⊢
  rintro e w7 ⟨rfl, hb⟩
  have B7 : Hid (Below w.heap.size w w7) := btr B6.out hb
  replace PA := Hid.below3 PA hb
  replace PB := Hid.below3 PB hb
  replace PN := Hid.below3 PN hb
  clear hb B6
  obtain ⟨a0, a1, a2, a3⟩ := PA.out
  obtain ⟨b0, b1, b2, b3⟩ := PB.out
  obtain ⟨n0, n1, n2, n3⟩ := PN.out
  go_wp2_with fail
  refine (h7.out _).mono ?_
  clear a0 a1 a2 a3 b0 b1 b2 b3 n0 n1 n2 n3
  rintro e w8 ⟨rfl, hb⟩
  have B8 : Hid (Below w.heap.size w w8) := btr B7.out hb
  replace PA := Hid.below3 PA hb
  replace PB := Hid.below3 PB hb
  replace PN := Hid.below3 PN hb
  clear hb B7
  obtain ⟨a0, a1, a2, a3⟩ := PA.out
  obtain ⟨b0, b1, b2, b3⟩ := PB.out
  obtain ⟨n0, n1, n2, n3⟩ := PN.out
  go_wp2_with fail
  go_ret
  exact ⟨rfl, B8.out⟩

end Go.Proofs.YtflbcgpcgjnhgaaDoor
