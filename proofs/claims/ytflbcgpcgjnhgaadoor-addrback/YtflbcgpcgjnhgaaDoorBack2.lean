/- AddrBack: the walks of the law, one for each road. -/
import Derived.Test.YtflbcgpcgjnhgaaDoorBegun
import Derived.Test.YtflbcgpcgjnhgaaDoorBack1
set_option linter.unusedVariables false
set_option linter.unusedSimpArgs false
namespace Go.Proofs.YtflbcgpcgjnhgaaDoor
open Go.RowKit

theorem hkeep {W w' : World} {p : Nat} {x y z : Value} (h : Hid (Has3 W p x y z)) (hb : Below W.heap.size W w') : Hid (Has3 w' p x y z) := Has3.below h.out hb
theorem hkeepa {W : World} {p : Nat} {x y z : Value} (h : Hid (Has3 W p x y z)) (o : Obj) : Hid (Has3 (W.alloc o) p x y z) := Has3.alloc h.out o

set_option maxHeartbeats 16000000 in
set_option maxRecDepth 100000 in
theorem back_01 (va vb : Bool) (ah al bh bl : Int) (s t u : ByteArray) (w : World) (hg : Good w)
    (h1 : Hid (∀ w : World, Good w → Calls Tryd.prog 6 #[.agg #[.bool va, .int .u64 ah, .int .u64 al]] w fun e w' => e = .returned (.tuple #[.string t, .int .i64 3]) ∧ Below w.heap.size w w'))
    (h3 : Hid (∀ w : World, Good w → Calls Tryd.prog 7 #[.string s] w fun e w' => e = .returned (.tuple #[.agg #[.bool vb, .int .u64 bh, .int .u64 bl], .int .i64 0]) ∧ Below w.heap.size w w'))
    (h4 : Hid (∀ w : World, Good w → Calls Tryd.prog 6 #[.agg #[.bool vb, .int .u64 bh, .int .u64 bl]] w fun e w' => e = .returned (.tuple #[.string u, .int .i64 0]) ∧ Below w.heap.size w w'))
    (h5 : Hid (∀ w : World, Good w → Calls Tryd.prog 7 #[.string u] w fun e w' => e = .returned (.tuple #[.agg #[.bool vb, .int .u64 bh, .int .u64 bl], .int .i64 0]) ∧ Below w.heap.size w w'))
    (h6 : Hid (∀ w : World, Calls Tryd.prog 15 #[.agg #[.bool vb, .int .u64 bh, .int .u64 bl]] w fun e w' => e = .returned (.int .i64 0) ∧ ∃ c, w' = w.alloc (.cells c 24))) (hu : u.size ≤ 39)
    : Calls Tryd.prog 4 #[.agg #[.bool va, .int .u64 ah, .int .u64 al], .string s] w fun e w' => e = .returned (.bool true) ∧ Below w.heap.size w w' := by
  have hB : Hid (∀ w : World, Good w → Calls Tryd.prog 14 #[] w fun e w' => e = .returned (.bool true) ∧ Below w.heap.size w w') := fun w => begun_any w
  have HG : Hid (Good w) := hg
  clear hg
  have B0 : Hid (Below w.heap.size w (w.alloc (.cells #[.bool va, .int .u64 ah, .int .u64 al] 24))) := bal (Below.refl _ _) _
  have PA : Hid (Has3 (w.alloc (.cells #[.bool va, .int .u64 ah, .int .u64 al] 24)) w.heap.size (.bool va) (.int .u64 ah) (.int .u64 al)) := Has3.new _ _ _ _ _
  go_enter Tryd.func4, Tryd.ntmps4
  go_wp2_with fail
  refine (hB.out _ (HG.out.below B0.out)).mono ?_
  generalize w.alloc (.cells #[.bool va, .int .u64 ah, .int .u64 al] 24) = W0 at B0 PA ⊢
  clear hB
  rintro e w1 ⟨rfl, hb⟩
  have B1 : Hid (Below w.heap.size w w1) := btr B0.out hb
  replace PA := hkeep PA hb
  clear hb B0
  obtain ⟨a0, a1, a2, a3⟩ := PA.out
  go_wp2_with fail
  refine (h1.out _ (HG.out.below B1.out)).mono ?_
  clear a0 a1 a2 a3
  rintro e w2 ⟨rfl, hb⟩
  have B2 : Hid (Below w.heap.size w w2) := btr B1.out hb
  replace PA := hkeep PA hb
  clear hb B1
  go_wp2_with fail
  refine (h3.out _ (HG.out.below B2.out)).mono ?_
  rintro e w4 ⟨rfl, hb⟩
  have B4 : Hid (Below w.heap.size w (w4.alloc (.cells #[.bool vb, .int .u64 bh, .int .u64 bl] 24))) := bal (btr B2.out hb) _
  clear hb B2 PA
  have PB : Hid (Has3 (w4.alloc (.cells #[.bool vb, .int .u64 bh, .int .u64 bl] 24)) w4.heap.size (.bool vb) (.int .u64 bh) (.int .u64 bl)) := Has3.new _ _ _ _ _
  obtain ⟨b0, b1, b2, b3⟩ := PB.out
  go_wp2_with fail
  refine (h4.out _ (HG.out.below B4.out)).mono ?_
  generalize w4.alloc (.cells #[.bool vb, .int .u64 bh, .int .u64 bl] 24) = W4 at B4 PB b0 b1 b2 b3 ⊢
  generalize w4.heap.size = pb at PB b0 b1 b2 b3 ⊢
  clear b0 b1 b2 b3
  rintro e w5 ⟨rfl, hb⟩
  have B5 : Hid (Below w.heap.size w w5) := btr B4.out hb
  replace PB := hkeep PB hb
  clear hb B4
  go_wp2_with fail
  refine (h5.out _ (HG.out.below B5.out)).mono ?_
  rintro e w6 ⟨rfl, hb⟩
  have B6 : Hid (Below w.heap.size w (w6.alloc (.cells #[.bool vb, .int .u64 bh, .int .u64 bl] 24))) := bal (btr B5.out hb) _
  replace PB := hkeepa (hkeep PB hb) (.cells #[.bool vb, .int .u64 bh, .int .u64 bl] 24)
  have QB : Hid (Has3 (w6.alloc (.cells #[.bool vb, .int .u64 bh, .int .u64 bl] 24)) w6.heap.size (.bool vb) (.int .u64 bh) (.int .u64 bl)) := Has3.new _ _ _ _ _
  clear hb B5 HG
  obtain ⟨b0, b1, b2, b3⟩ := PB.out
  obtain ⟨q0, q1, q2, q3⟩ := QB.out
  have E2 := eql_addr vb bh bl vb bh bl
  rw [show eqA vb bh bl vb bh bl = true by simp [eqA]] at E2
  have hu' : (u.size : Int) ≤ 39 := by omega
  go_wp2_with fail
  refine (h6.out _).mono ?_
  rintro e w7 ⟨rfl, c, rfl⟩
  go_wp2
  go_ret
  exact ⟨rfl, bal B6.out _⟩

set_option maxHeartbeats 16000000 in
set_option maxRecDepth 100000 in
theorem back_00 (va vb : Bool) (ah al bh bl : Int) (s t u : ByteArray) (w : World) (hg : Good w)
    (h1 : Hid (∀ w : World, Good w → Calls Tryd.prog 6 #[.agg #[.bool va, .int .u64 ah, .int .u64 al]] w fun e w' => e = .returned (.tuple #[.string t, .int .i64 3]) ∧ Below w.heap.size w w'))
    (h3 : Hid (∀ w : World, Good w → Calls Tryd.prog 7 #[.string s] w fun e w' => e = .returned (.tuple #[.agg #[.bool false, .int .u64 0, .int .u64 0], .int .i64 1]) ∧ Below w.heap.size w w'))
    : Calls Tryd.prog 4 #[.agg #[.bool va, .int .u64 ah, .int .u64 al], .string s] w fun e w' => e = .returned (.bool true) ∧ Below w.heap.size w w' := by
  have hB : Hid (∀ w : World, Good w → Calls Tryd.prog 14 #[] w fun e w' => e = .returned (.bool true) ∧ Below w.heap.size w w') := fun w => begun_any w
  have HG : Hid (Good w) := hg
  clear hg
  have B0 : Hid (Below w.heap.size w (w.alloc (.cells #[.bool va, .int .u64 ah, .int .u64 al] 24))) := bal (Below.refl _ _) _
  have PA : Hid (Has3 (w.alloc (.cells #[.bool va, .int .u64 ah, .int .u64 al] 24)) w.heap.size (.bool va) (.int .u64 ah) (.int .u64 al)) := Has3.new _ _ _ _ _
  go_enter Tryd.func4, Tryd.ntmps4
  go_wp2_with fail
  refine (hB.out _ (HG.out.below B0.out)).mono ?_
  generalize w.alloc (.cells #[.bool va, .int .u64 ah, .int .u64 al] 24) = W0 at B0 PA ⊢
  clear hB
  rintro e w1 ⟨rfl, hb⟩
  have B1 : Hid (Below w.heap.size w w1) := btr B0.out hb
  replace PA := hkeep PA hb
  clear hb B0
  obtain ⟨a0, a1, a2, a3⟩ := PA.out
  go_wp2_with fail
  refine (h1.out _ (HG.out.below B1.out)).mono ?_
  clear a0 a1 a2 a3
  rintro e w2 ⟨rfl, hb⟩
  have B2 : Hid (Below w.heap.size w w2) := btr B1.out hb
  replace PA := hkeep PA hb
  clear hb B1
  go_wp2_with fail
  refine (h3.out _ (HG.out.below B2.out)).mono ?_
  rintro e w4 ⟨rfl, hb⟩
  have B4 : Hid (Below w.heap.size w (w4.alloc (.cells #[.bool false, .int .u64 0, .int .u64 0] 24))) := bal (btr B2.out hb) _
  clear hb B2 PA
  have E2 := eql_addr false 0 0 false 0 0
  rw [show eqA false 0 0 false 0 0 = true by decide +kernel] at E2
  go_wp2
  go_ret
  exact ⟨rfl, B4.out⟩

set_option maxHeartbeats 16000000 in
set_option maxRecDepth 100000 in
theorem back_10 (va vb : Bool) (ah al bh bl : Int) (s t u : ByteArray) (w : World) (hg : Good w)
    (h1 : Hid (∀ w : World, Good w → Calls Tryd.prog 6 #[.agg #[.bool va, .int .u64 ah, .int .u64 al]] w fun e w' => e = .returned (.tuple #[.string t, .int .i64 0]) ∧ Below w.heap.size w w'))
    (h2 : Hid (∀ w : World, Good w → Calls Tryd.prog 7 #[.string t] w fun e w' => e = .returned (.tuple #[.agg #[.bool va, .int .u64 ah, .int .u64 al], .int .i64 0]) ∧ Below w.heap.size w w'))
    (h3 : Hid (∀ w : World, Good w → Calls Tryd.prog 7 #[.string s] w fun e w' => e = .returned (.tuple #[.agg #[.bool false, .int .u64 0, .int .u64 0], .int .i64 1]) ∧ Below w.heap.size w w'))
    : Calls Tryd.prog 4 #[.agg #[.bool va, .int .u64 ah, .int .u64 al], .string s] w fun e w' => e = .returned (.bool true) ∧ Below w.heap.size w w' := by
  have hB : Hid (∀ w : World, Good w → Calls Tryd.prog 14 #[] w fun e w' => e = .returned (.bool true) ∧ Below w.heap.size w w') := fun w => begun_any w
  have HG : Hid (Good w) := hg
  clear hg
  have B0 : Hid (Below w.heap.size w (w.alloc (.cells #[.bool va, .int .u64 ah, .int .u64 al] 24))) := bal (Below.refl _ _) _
  have PA : Hid (Has3 (w.alloc (.cells #[.bool va, .int .u64 ah, .int .u64 al] 24)) w.heap.size (.bool va) (.int .u64 ah) (.int .u64 al)) := Has3.new _ _ _ _ _
  go_enter Tryd.func4, Tryd.ntmps4
  go_wp2_with fail
  refine (hB.out _ (HG.out.below B0.out)).mono ?_
  generalize w.alloc (.cells #[.bool va, .int .u64 ah, .int .u64 al] 24) = W0 at B0 PA ⊢
  clear hB
  rintro e w1 ⟨rfl, hb⟩
  have B1 : Hid (Below w.heap.size w w1) := btr B0.out hb
  replace PA := hkeep PA hb
  clear hb B0
  obtain ⟨a0, a1, a2, a3⟩ := PA.out
  go_wp2_with fail
  refine (h1.out _ (HG.out.below B1.out)).mono ?_
  clear a0 a1 a2 a3
  rintro e w2 ⟨rfl, hb⟩
  have B2 : Hid (Below w.heap.size w w2) := btr B1.out hb
  replace PA := hkeep PA hb
  clear hb B1
  obtain ⟨a0, a1, a2, a3⟩ := PA.out
  have E1 := neq_addr va ah al va ah al
  rw [show eqA va ah al va ah al = true by simp [eqA]] at E1
  go_wp2_with fail
  refine (h2.out _ (HG.out.below B2.out)).mono ?_
  clear a0 a1 a2 a3
  rintro e w3 ⟨rfl, hb⟩
  have B3 : Hid (Below w.heap.size w (w3.alloc (.cells #[.bool va, .int .u64 ah, .int .u64 al] 24))) := bal (btr B2.out hb) _
  replace PA := hkeepa (hkeep PA hb) (.cells #[.bool va, .int .u64 ah, .int .u64 al] 24)
  have QA : Hid (Has3 (w3.alloc (.cells #[.bool va, .int .u64 ah, .int .u64 al] 24)) w3.heap.size (.bool va) (.int .u64 ah) (.int .u64 al)) := Has3.new _ _ _ _ _
  clear hb B2
  obtain ⟨a0, a1, a2, a3⟩ := PA.out
  obtain ⟨q0, q1, q2, q3⟩ := QA.out
  go_wp2_with fail
  refine (h3.out _ (HG.out.below B3.out)).mono ?_
  generalize w3.alloc (.cells #[.bool va, .int .u64 ah, .int .u64 al] 24) = W3 at B3 PA QA a0 a1 a2 a3 q0 q1 q2 q3 ⊢
  clear a0 a1 a2 a3 q0 q1 q2 q3 QA E1
  rintro e w4 ⟨rfl, hb⟩
  have B4 : Hid (Below w.heap.size w (w4.alloc (.cells #[.bool false, .int .u64 0, .int .u64 0] 24))) := bal (btr B3.out hb) _
  clear hb B3 PA
  have E2 := eql_addr false 0 0 false 0 0
  rw [show eqA false 0 0 false 0 0 = true by decide +kernel] at E2
  go_wp2
  go_ret
  exact ⟨rfl, B4.out⟩

set_option maxHeartbeats 16000000 in
set_option maxRecDepth 100000 in
theorem back_11 (va vb : Bool) (ah al bh bl : Int) (s t u : ByteArray) (w : World) (hg : Good w)
    (h1 : Hid (∀ w : World, Good w → Calls Tryd.prog 6 #[.agg #[.bool va, .int .u64 ah, .int .u64 al]] w fun e w' => e = .returned (.tuple #[.string t, .int .i64 0]) ∧ Below w.heap.size w w'))
    (h2 : Hid (∀ w : World, Good w → Calls Tryd.prog 7 #[.string t] w fun e w' => e = .returned (.tuple #[.agg #[.bool va, .int .u64 ah, .int .u64 al], .int .i64 0]) ∧ Below w.heap.size w w'))
    (h3 : Hid (∀ w : World, Good w → Calls Tryd.prog 7 #[.string s] w fun e w' => e = .returned (.tuple #[.agg #[.bool vb, .int .u64 bh, .int .u64 bl], .int .i64 0]) ∧ Below w.heap.size w w'))
    (h4 : Hid (∀ w : World, Good w → Calls Tryd.prog 6 #[.agg #[.bool vb, .int .u64 bh, .int .u64 bl]] w fun e w' => e = .returned (.tuple #[.string u, .int .i64 0]) ∧ Below w.heap.size w w'))
    (h5 : Hid (∀ w : World, Good w → Calls Tryd.prog 7 #[.string u] w fun e w' => e = .returned (.tuple #[.agg #[.bool vb, .int .u64 bh, .int .u64 bl], .int .i64 0]) ∧ Below w.heap.size w w'))
    (h6 : Hid (∀ w : World, Calls Tryd.prog 15 #[.agg #[.bool vb, .int .u64 bh, .int .u64 bl]] w fun e w' => e = .returned (.int .i64 0) ∧ ∃ c, w' = w.alloc (.cells c 24))) (hu : u.size ≤ 39)
    : Calls Tryd.prog 4 #[.agg #[.bool va, .int .u64 ah, .int .u64 al], .string s] w fun e w' => e = .returned (.bool true) ∧ Below w.heap.size w w' := by
  have hB : Hid (∀ w : World, Good w → Calls Tryd.prog 14 #[] w fun e w' => e = .returned (.bool true) ∧ Below w.heap.size w w') := fun w => begun_any w
  have HG : Hid (Good w) := hg
  clear hg
  have B0 : Hid (Below w.heap.size w (w.alloc (.cells #[.bool va, .int .u64 ah, .int .u64 al] 24))) := bal (Below.refl _ _) _
  have PA : Hid (Has3 (w.alloc (.cells #[.bool va, .int .u64 ah, .int .u64 al] 24)) w.heap.size (.bool va) (.int .u64 ah) (.int .u64 al)) := Has3.new _ _ _ _ _
  go_enter Tryd.func4, Tryd.ntmps4
  go_wp2_with fail
  refine (hB.out _ (HG.out.below B0.out)).mono ?_
  generalize w.alloc (.cells #[.bool va, .int .u64 ah, .int .u64 al] 24) = W0 at B0 PA ⊢
  clear hB
  rintro e w1 ⟨rfl, hb⟩
  have B1 : Hid (Below w.heap.size w w1) := btr B0.out hb
  replace PA := hkeep PA hb
  clear hb B0
  obtain ⟨a0, a1, a2, a3⟩ := PA.out
  go_wp2_with fail
  refine (h1.out _ (HG.out.below B1.out)).mono ?_
  clear a0 a1 a2 a3
  rintro e w2 ⟨rfl, hb⟩
  have B2 : Hid (Below w.heap.size w w2) := btr B1.out hb
  replace PA := hkeep PA hb
  clear hb B1
  obtain ⟨a0, a1, a2, a3⟩ := PA.out
  have E1 := neq_addr va ah al va ah al
  rw [show eqA va ah al va ah al = true by simp [eqA]] at E1
  go_wp2_with fail
  refine (h2.out _ (HG.out.below B2.out)).mono ?_
  clear a0 a1 a2 a3
  rintro e w3 ⟨rfl, hb⟩
  have B3 : Hid (Below w.heap.size w (w3.alloc (.cells #[.bool va, .int .u64 ah, .int .u64 al] 24))) := bal (btr B2.out hb) _
  replace PA := hkeepa (hkeep PA hb) (.cells #[.bool va, .int .u64 ah, .int .u64 al] 24)
  have QA : Hid (Has3 (w3.alloc (.cells #[.bool va, .int .u64 ah, .int .u64 al] 24)) w3.heap.size (.bool va) (.int .u64 ah) (.int .u64 al)) := Has3.new _ _ _ _ _
  clear hb B2
  obtain ⟨a0, a1, a2, a3⟩ := PA.out
  obtain ⟨q0, q1, q2, q3⟩ := QA.out
  go_wp2_with fail
  refine (h3.out _ (HG.out.below B3.out)).mono ?_
  generalize w3.alloc (.cells #[.bool va, .int .u64 ah, .int .u64 al] 24) = W3 at B3 PA QA a0 a1 a2 a3 q0 q1 q2 q3 ⊢
  clear a0 a1 a2 a3 q0 q1 q2 q3 QA E1
  rintro e w4 ⟨rfl, hb⟩
  have B4 : Hid (Below w.heap.size w (w4.alloc (.cells #[.bool vb, .int .u64 bh, .int .u64 bl] 24))) := bal (btr B3.out hb) _
  clear hb B3 PA
  have PB : Hid (Has3 (w4.alloc (.cells #[.bool vb, .int .u64 bh, .int .u64 bl] 24)) w4.heap.size (.bool vb) (.int .u64 bh) (.int .u64 bl)) := Has3.new _ _ _ _ _
  obtain ⟨b0, b1, b2, b3⟩ := PB.out
  go_wp2_with fail
  refine (h4.out _ (HG.out.below B4.out)).mono ?_
  generalize w4.alloc (.cells #[.bool vb, .int .u64 bh, .int .u64 bl] 24) = W4 at B4 PB b0 b1 b2 b3 ⊢
  generalize w4.heap.size = pb at PB b0 b1 b2 b3 ⊢
  clear b0 b1 b2 b3
  rintro e w5 ⟨rfl, hb⟩
  have B5 : Hid (Below w.heap.size w w5) := btr B4.out hb
  replace PB := hkeep PB hb
  clear hb B4
  go_wp2_with fail
  refine (h5.out _ (HG.out.below B5.out)).mono ?_
  rintro e w6 ⟨rfl, hb⟩
  have B6 : Hid (Below w.heap.size w (w6.alloc (.cells #[.bool vb, .int .u64 bh, .int .u64 bl] 24))) := bal (btr B5.out hb) _
  replace PB := hkeepa (hkeep PB hb) (.cells #[.bool vb, .int .u64 bh, .int .u64 bl] 24)
  have QB : Hid (Has3 (w6.alloc (.cells #[.bool vb, .int .u64 bh, .int .u64 bl] 24)) w6.heap.size (.bool vb) (.int .u64 bh) (.int .u64 bl)) := Has3.new _ _ _ _ _
  clear hb B5 HG
  obtain ⟨b0, b1, b2, b3⟩ := PB.out
  obtain ⟨q0, q1, q2, q3⟩ := QB.out
  have E2 := eql_addr vb bh bl vb bh bl
  rw [show eqA vb bh bl vb bh bl = true by simp [eqA]] at E2
  have hu' : (u.size : Int) ≤ 39 := by omega
  go_wp2_with fail
  refine (h6.out _).mono ?_
  rintro e w7 ⟨rfl, c, rfl⟩
  go_wp2
  go_ret
  exact ⟨rfl, bal B6.out _⟩

end Go.Proofs.YtflbcgpcgjnhgaaDoor
