/- The document's answer: TextOf, of four bytes. -/
import Derived.Test.YtollaiabcnmebaaDoorRfQ
set_option linter.unusedVariables false
set_option linter.unusedSimpArgs false
namespace Go.Proofs.YtollaiabcnmebaaDoor
open Go.RowKit

/-- Bits that are few enough for a number. -/
def FewBits (x : ByteArray) : Prop := x.size ≤ 16 ∧ IsBin x.data.toList
/-- The number of bits. -/
def nv (x : ByteArray) : Nat := vbin 0 x.data.toList
theorem nv_lt (x : ByteArray) (h : FewBits x) : nv x < 65536 := by
  have h1 := vbin_lt0 x.data.toList
  have h2 : 2 ^ x.data.toList.length ≤ 2 ^ 16 := Nat.pow_le_pow_right (by decide) (by rw [size_list]; exact h.1)
  unfold nv; omega
theorem few_bin (k n : Nat) (h : k ≤ 16) : FewBits ⟨(bin k n).toArray⟩ := ⟨by show (bin k n).toArray.size ≤ 16; rw [List.size_toArray, bin_length]; exact h, bin_isBin k n⟩
theorem nv_bin (k n : Nat) : nv ⟨(bin k n).toArray⟩ = n % 2 ^ k := by
  show vbin 0 (bin k n) = _
  rw [vbin_bin]; simp

/-- A piece of the bits. -/
theorem bits_slice (v : Bool) (hi lo i j : Nat) (W : World) (h1 : i ≤ j) (h2 : j ≤ (bitsT v hi lo).length) :
    (Instr.sliceAt 9 (.string ⟨(bitsT v hi lo).toArray⟩) (some (.int .i64 (i : Int))) (some (.int .i64 (j : Int))) none).run Tryd.prog W = .ok (.string ⟨(((bitsT v hi lo).drop i).take (j - i)).toArray⟩) W := by
  have hz : (⟨(bitsT v hi lo).toArray⟩ : ByteArray).size = (bitsT v hi lo).length := by show (bitsT v hi lo).toArray.size = _; rw [List.size_toArray]
  have hb := bitsT_length v hi lo
  exact str_slice ⟨(bitsT v hi lo).toArray⟩ i j W h1 (by omega) (by rw [hz]; split at hb <;> omega)

set_option maxHeartbeats 16000000 in
set_option maxRecDepth 100000 in
theorem textOf4_any (hi lo : Nat) (w : World) (h1 : hi < 18446744073709551616) (l1 : lo ≤ 4294967295) :
    Calls Tryd.prog 9 #[.agg #[.bool false, .int .u64 hi, .int .u64 lo]] w fun e w' => e = .returned (.string ⟨(Lib.join (four lo) [46]).toArray⟩) ∧ Below w.heap.size w w' := by
  have HX : Hid (∀ w : World, Calls Tryd.prog 21 #[.agg #[.bool false, .int .u64 hi, .int .u64 lo]] w fun e w' => e = .returned (.string ⟨(bitsT false hi lo).toArray⟩) ∧ Below w.heap.size w w') := fun w => bits_any false hi lo w h1 (by omega)
  have HN : Hid (∀ (x : ByteArray) (w : World), FewBits x → Calls Tryd.prog 23 #[.string x] w fun e w' => e = .returned (.int .i64 (nv x : Int)) ∧ w' = w) := fun x w h => numberOf_any x w (by have := h.1; omega) h.2
  have HD : Hid (∀ (n : Nat) (w : World), n < 65536 → Calls Tryd.prog 22 #[.int .i64 (n : Int), .int .i64 10] w fun e w' => e = .returned (.string ⟨(digs 10 n).toArray⟩) ∧ Below w.heap.size w w') := fun n w h => digits_any 10 (by decide) (by decide) n (by omega) w
  have HB0 : Hid (Below w.heap.size w (w.alloc (.cells #[.bool false, .int .u64 hi, .int .u64 lo] 24))) := bal (Below.refl _ _) _
  have hbt : bitsT false hi lo = bin 32 lo := rfl
  obtain ⟨XX, hXX⟩ : ∃ X : ByteArray, X = ⟨(bitsT false hi lo).toArray⟩ := ⟨_, rfl⟩
  rw [← hXX] at HX
  have hXz : XX.size = 32 := by rw [hXX]; show (bitsT false hi lo).toArray.size = 32; rw [List.size_toArray, hbt, bin_length]
  have hXl : XX.data.toList = bin 32 lo := by rw [hXX]; rfl
  obtain ⟨X1, e1⟩ : ∃ X : ByteArray, X = ⟨(bin 8 (lo / 2 ^ 24)).toArray⟩ := ⟨_, rfl⟩
  obtain ⟨X2, e2⟩ : ∃ X : ByteArray, X = ⟨(bin 8 (lo / 2 ^ 16)).toArray⟩ := ⟨_, rfl⟩
  obtain ⟨X3, e3⟩ : ∃ X : ByteArray, X = ⟨(bin 8 (lo / 2 ^ 8)).toArray⟩ := ⟨_, rfl⟩
  obtain ⟨X4, e4⟩ : ∃ X : ByteArray, X = ⟨(bin 8 (lo / 2 ^ 0)).toArray⟩ := ⟨_, rfl⟩
  have b1 := bin_sub 0 8 24 lo
  have b2 := bin_sub 8 8 16 lo
  have b3 := bin_sub 16 8 8 lo
  have b4 := bin_sub 24 8 0 lo
  have s1 : ∀ W : World, (Instr.sliceAt 9 (.string XX) none (some (.int .i64 8)) none).run Tryd.prog W = .ok (.string X1) W := fun W => by
    have := str_to XX 8 W (by omega) (by omega); rw [hXl] at this; rw [e1, ← b1]; exact this
  have s2 : ∀ W : World, (Instr.sliceAt 9 (.string XX) (some (.int .i64 8)) (some (.int .i64 16)) none).run Tryd.prog W = .ok (.string X2) W := fun W => by
    have := str_slice XX 8 16 W (by omega) (by omega) (by omega); rw [hXl] at this; rw [e2, ← b2]; exact this
  have s3 : ∀ W : World, (Instr.sliceAt 9 (.string XX) (some (.int .i64 16)) (some (.int .i64 24)) none).run Tryd.prog W = .ok (.string X3) W := fun W => by
    have := str_slice XX 16 24 W (by omega) (by omega) (by omega); rw [hXl] at this; rw [e3, ← b3]; exact this
  have s4 : ∀ W : World, (Instr.sliceAt 9 (.string XX) (some (.int .i64 24)) none none).run Tryd.prog W = .ok (.string X4) W := fun W => by
    have := str_from XX 24 W (by omega) (by omega); rw [hXl] at this
    rw [e4, ← b4, List.take_of_length_le (by rw [List.length_drop, bin_length]; omega)]; exact this
  have f1 : FewBits X1 := by rw [e1]; exact few_bin _ _ (by decide)
  have f2 : FewBits X2 := by rw [e2]; exact few_bin _ _ (by decide)
  have f3 : FewBits X3 := by rw [e3]; exact few_bin _ _ (by decide)
  have f4 : FewBits X4 := by rw [e4]; exact few_bin _ _ (by decide)
  have n1 : nv X1 = lo / 16777216 % 256 := by rw [e1, nv_bin]
  have n2 : nv X2 = lo / 65536 % 256 := by rw [e2, nv_bin]
  have n3 : nv X3 = lo / 256 % 256 := by rw [e3, nv_bin]
  have n4 : nv X4 = lo % 256 := by rw [e4, nv_bin, Nat.pow_zero, Nat.div_one]
  have t1 := nv_lt X1 f1
  have t2 := nv_lt X2 f2
  have t3 := nv_lt X3 f3
  have t4 := nv_lt X4 f4
  have g1 : digs 10 (nv X1) = Lib.decDigits (lo / 16777216 % 256) := by rw [n1, digs10 _ (by omega), dec3_eq _ (by omega)]
  have g2 : digs 10 (nv X2) = Lib.decDigits (lo / 65536 % 256) := by rw [n2, digs10 _ (by omega), dec3_eq _ (by omega)]
  have g3 : digs 10 (nv X3) = Lib.decDigits (lo / 256 % 256) := by rw [n3, digs10 _ (by omega), dec3_eq _ (by omega)]
  have g4 : digs 10 (nv X4) = Lib.decDigits (lo % 256) := by rw [n4, digs10 _ (by omega), dec3_eq _ (by omega)]
  have HT : Hid (Lib.join (four lo) [46] = digs 10 (nv X1) ++ [46] ++ digs 10 (nv X2) ++ [46] ++ digs 10 (nv X3) ++ [46] ++ digs 10 (nv X4)) := by
    rw [Hid, g1, g2, g3, g4, four]; simp [Lib.join, List.intercalate]
  have k1 := digs_len 10 (by decide) 15 _ t1
  have k2 := digs_len 10 (by decide) 15 _ t2
  have k3 := digs_len 10 (by decide) 15 _ t3
  have k4 := digs_len 10 (by decide) 15 _ t4
  have p1 : ∀ W : World, (Op.stringOp .add ⟨(digs 10 (nv X1)).toArray⟩ ⟨#[46]⟩).run Tryd.prog W = .ok (.string ⟨(digs 10 (nv X1) ++ [46]).toArray⟩) W := fun W => add_lists _ [46] W (by simp; omega)
  have p2 : ∀ W : World, (Op.stringOp .add ⟨(digs 10 (nv X1) ++ [46]).toArray⟩ ⟨(digs 10 (nv X2)).toArray⟩).run Tryd.prog W = .ok (.string ⟨(digs 10 (nv X1) ++ [46] ++ digs 10 (nv X2)).toArray⟩) W := fun W => add_lists _ _ W (by simp; omega)
  have p3 : ∀ W : World, (Op.stringOp .add ⟨(digs 10 (nv X1) ++ [46] ++ digs 10 (nv X2)).toArray⟩ ⟨#[46]⟩).run Tryd.prog W = .ok (.string ⟨(digs 10 (nv X1) ++ [46] ++ digs 10 (nv X2) ++ [46]).toArray⟩) W := fun W => add_lists _ [46] W (by simp; omega)
  have p4 : ∀ W : World, (Op.stringOp .add ⟨(digs 10 (nv X1) ++ [46] ++ digs 10 (nv X2) ++ [46]).toArray⟩ ⟨(digs 10 (nv X3)).toArray⟩).run Tryd.prog W = .ok (.string ⟨(digs 10 (nv X1) ++ [46] ++ digs 10 (nv X2) ++ [46] ++ digs 10 (nv X3)).toArray⟩) W := fun W => add_lists _ _ W (by simp; omega)
  have p5 : ∀ W : World, (Op.stringOp .add ⟨(digs 10 (nv X1) ++ [46] ++ digs 10 (nv X2) ++ [46] ++ digs 10 (nv X3)).toArray⟩ ⟨#[46]⟩).run Tryd.prog W = .ok (.string ⟨(digs 10 (nv X1) ++ [46] ++ digs 10 (nv X2) ++ [46] ++ digs 10 (nv X3) ++ [46]).toArray⟩) W := fun W => add_lists _ [46] W (by simp; omega)
  have p6 : ∀ W : World, (Op.stringOp .add ⟨(digs 10 (nv X1) ++ [46] ++ digs 10 (nv X2) ++ [46] ++ digs 10 (nv X3) ++ [46]).toArray⟩ ⟨(digs 10 (nv X4)).toArray⟩).run Tryd.prog W = .ok (.string ⟨(digs 10 (nv X1) ++ [46] ++ digs 10 (nv X2) ++ [46] ++ digs 10 (nv X3) ++ [46] ++ digs 10 (nv X4)).toArray⟩) W := fun W => add_lists _ _ W (by simp; omega)
  generalize digs 10 (nv X1) ++ [46] ++ digs 10 (nv X2) ++ [46] ++ digs 10 (nv X3) ++ [46] ++ digs 10 (nv X4) = L6 at p6 HT
  generalize digs 10 (nv X1) ++ [46] ++ digs 10 (nv X2) ++ [46] ++ digs 10 (nv X3) ++ [46] = L5 at p5 p6
  generalize digs 10 (nv X1) ++ [46] ++ digs 10 (nv X2) ++ [46] ++ digs 10 (nv X3) = L4 at p4 p5
  generalize digs 10 (nv X1) ++ [46] ++ digs 10 (nv X2) ++ [46] = L3 at p3 p4
  generalize digs 10 (nv X1) ++ [46] ++ digs 10 (nv X2) = L2 at p2 p3
  generalize digs 10 (nv X1) ++ [46] = L1 at p1 p2
  clear k1 k2 k3 k4 g1 g2 g3 g4 n1 n2 n3 n4 e1 e2 e3 e4 b1 b2 b3 b4 hXX hXz hXl hbt
  go_enter Tryd.func9, Tryd.ntmps9
  go_wp2_with fail
  have c0 : (w.alloc (.cells #[.bool false, .int .u64 hi, .int .u64 lo] 24)).cell? ⟨w.heap.size, 0, none⟩ = some (.bool false) := by simp [go_sem]
  have hsz : w.heap.size < (w.alloc (.cells #[.bool false, .int .u64 hi, .int .u64 lo] 24)).heap.size := by simp
  generalize w.alloc (.cells #[.bool false, .int .u64 hi, .int .u64 lo] 24) = W0 at *
  refine (HX.out _).mono ?_
  rintro e w1 ⟨rfl, hb1⟩
  have hc := (bcell hb1).1 w.heap.size 0 hsz
  rw [c0] at hc
  have B : Hid (Below w.heap.size w w1) := btr HB0.out hb1
  have B' : Hid (Below w.heap.size w w1.drew) := B.out.drew
  clear hb1 c0 hsz
  go_wp2_with fail
  go_region_held3 (fun w' => Below w.heap.size w w')
    (first | exact B'.out | exact btr (by assumption) (by assumption) | assumption)
    (first
      | (go_at_call 23; refine (HN.out _ _ (by assumption)).mono ?_; rintro e w3 ⟨rfl, rfl⟩)
      | (go_at_call 22; refine (HD.out _ _ (by assumption)).mono ?_; rintro e w3 ⟨rfl, hb⟩))
  have HS : Below w.heap.size w w3 := by assumption
  go_wp2_with fail
  rw [HT.out]
  go_ret
  exact ⟨rfl, HS⟩
end Go.Proofs.YtollaiabcnmebaaDoor
