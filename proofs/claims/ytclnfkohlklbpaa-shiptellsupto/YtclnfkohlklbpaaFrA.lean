/- The document's CheckOp and CheckLog. -/
import Derived.Test.YtclnfkohlklbpaaFsC
import Derived.Test.YtclnfkohlklbpaaOpC
import Derived.Test.YtclnfkohlklbpaaLgB
set_option linter.unusedVariables false
set_option linter.unusedSimpArgs false
namespace Go.Proofs.Ytclnfkohlklbpaa
open Go.RowKit

def zPB (p : Pf) : Bool := p.v == false && (p.hi == 0 && (p.lo == 0 && p.b == 0))
def zAB (a : Ad) : Bool := a.v == false && (a.hi == 0 && a.lo == 0)
def zSB (s : ByteArray) : Bool := s.toList.isEmpty
def zIB (n : Int) : Bool := n == 0
theorem neq_zpf (w : World) (p : Pf) : (binOp .neq 40 (.agg #[.bool p.v, .int .u64 p.hi, .int .u64 p.lo, .int .i64 p.b]) (.agg #[.bool false, .int .u64 0, .int .u64 0, .int .i64 0])).run Try.prog w = .ok (.bool (!zPB p)) w := by
  unfold zPB
  generalize p.v = v
  generalize p.hi = hi
  generalize p.lo = lo
  generalize p.b = b
  cases v <;> cases h2 : hi == 0 <;> cases h3 : lo == 0 <;> cases h4 : b == 0 <;> simp [go_sem, h2, h3, h4]
theorem neq_zad (w : World) (a : Ad) : (binOp .neq 38 (.agg #[.bool a.v, .int .u64 a.hi, .int .u64 a.lo]) (.agg #[.bool false, .int .u64 0, .int .u64 0])).run Try.prog w = .ok (.bool (!zAB a)) w := by
  unfold zAB
  generalize a.v = v
  generalize a.hi = hi
  generalize a.lo = lo
  cases v <;> cases h2 : hi == 0 <;> cases h3 : lo == 0 <;> simp [go_sem, h2, h3]
theorem neq_zst (w : World) (t : TypeId) (s : ByteArray) : (binOp .neq t (.string s) (.string ⟨#[]⟩)).run Try.prog w = .ok (.bool (!zSB s)) w := by
  unfold zSB
  by_cases h : s.toList = [] <;> simp [go_sem, h]
theorem cl1 {o : Opd} (h : o.k = 1) : eqO o (nmd o) = (zAB o.a && (zSB o.who && (zIB o.pof && zIB o.n))) := by rw [nmd1 h]; simp [eqO, zAB, zSB, zIB, zAd, h, Bool.and_assoc]
theorem cl2 {o : Opd} (h : o.k = 2) : eqO o (nmd o) = (zPB o.p && (zSB o.who && (zIB o.pof && zIB o.n))) := by rw [nmd2 h]; simp [eqO, zPB, zSB, zIB, zPf, h, Bool.and_assoc]
theorem cl3 {o : Opd} (h : o.k = 3) : eqO o (nmd o) = (zPB o.p && zAB o.a) := by rw [nmd3 h]; simp [eqO, zPB, zAB, zPf, zAd, h, Bool.and_assoc]
theorem cl4 {o : Opd} (h : o.k = 4) : eqO o (nmd o) = (zPB o.p && (zAB o.a && (zIB o.pof && zIB o.n))) := by rw [nmd4 h]; simp [eqO, zPB, zAB, zIB, zPf, zAd, h, Bool.and_assoc]
theorem cl5 {o : Opd} (h : o.k = 5) : eqO o (nmd o) = (zPB o.p && (zAB o.a && (zSB o.who && zIB o.pof))) := by rw [nmd5 h]; simp [eqO, zPB, zAB, zSB, zIB, zPf, zAd, h, Bool.and_assoc]
theorem btw_iff {n a b : Int} : (decide (a ≤ n) && decide (n ≤ b)) = false ↔ n < a ∨ b < n := by
  by_cases h : a ≤ n <;> by_cases h2 : n ≤ b <;> simp [h, h2] <;> omega
end Go.Proofs.Ytclnfkohlklbpaa

namespace Go.Proofs.Ytclnfkohlklbpaa
open Go.RowKit

set_option maxHeartbeats 16000000 in
set_option maxRecDepth 100000 in
theorem rop_kind (o : Opd) (w : World) (hw : o.who.size ≤ maxLen) (hk : o.k < 1 ∨ 5 < o.k) : Calls Try.prog 16 #[.agg #[.int .i64 o.k, .bool o.p.v, .int .u64 o.p.hi, .int .u64 o.p.lo, .int .i64 o.p.b, .bool o.a.v, .int .u64 o.a.hi, .int .u64 o.a.lo, .string o.who, .int .i64 o.pof, .int .i64 o.n]] w fun e w' => e = .returned (.int .i64 (formE o)) ∧ Below w.heap.size w w' := by
  have hQp : ∀ w : World, (binOp .neq 40 (.agg #[.bool o.p.v, .int .u64 o.p.hi, .int .u64 o.p.lo, .int .i64 o.p.b]) (.agg #[.bool false, .int .u64 0, .int .u64 0, .int .i64 0])).run Try.prog w = .ok (.bool (!zPB o.p)) w := fun w => neq_zpf w o.p
  have hQa : ∀ w : World, (binOp .neq 38 (.agg #[.bool o.a.v, .int .u64 o.a.hi, .int .u64 o.a.lo]) (.agg #[.bool false, .int .u64 0, .int .u64 0])).run Try.prog w = .ok (.bool (!zAB o.a)) w := fun w => neq_zad w o.a
  have HB := Lib.hid (bal (Below.refl w.heap.size w) (.cells #[.int .i64 o.k, .bool o.p.v, .int .u64 o.p.hi, .int .u64 o.p.lo, .int .i64 o.p.b, .bool o.a.v, .int .u64 o.a.hi, .int .u64 o.a.lo, .string o.who, .int .i64 o.pof, .int .i64 o.n] 42))
  rw [show formE o = 7 by unfold formE; rw [if_pos hk]]
  have hb := btw_iff.2 hk
  clear hQp hQa
  generalize o.k = x0 at *
  generalize o.p.v = x1 at *
  generalize o.p.hi = x2 at *
  generalize o.p.lo = x3 at *
  generalize o.p.b = x4 at *
  generalize o.a.v = x5 at *
  generalize o.a.hi = x6 at *
  generalize o.a.lo = x7 at *
  generalize o.who = x8 at *
  generalize o.pof = x9 at *
  generalize o.n = x10 at *
  clear hk hw
  go_enter Try.func16, Try.ntmps16
  go_wp2_with (go_at_call 15; refine (between_any _ _ _ _).mono ?_; rintro e w3 ⟨rfl, hw3⟩; have hw3 := hw3.symm; subst hw3; rw [hb])
  go_ret
  exact ⟨rfl, HB.out⟩
set_option maxHeartbeats 16000000 in
set_option maxRecDepth 100000 in
theorem rop_1A (o : Opd) (w : World) (hw : o.who.size ≤ maxLen) (hk : o.k = 1) (hA : zAB o.a = false) : Calls Try.prog 16 #[.agg #[.int .i64 o.k, .bool o.p.v, .int .u64 o.p.hi, .int .u64 o.p.lo, .int .i64 o.p.b, .bool o.a.v, .int .u64 o.a.hi, .int .u64 o.a.lo, .string o.who, .int .i64 o.pof, .int .i64 o.n]] w fun e w' => e = .returned (.int .i64 (formE o)) ∧ Below w.heap.size w w' := by
  have hQp : ∀ w : World, (binOp .neq 40 (.agg #[.bool o.p.v, .int .u64 o.p.hi, .int .u64 o.p.lo, .int .i64 o.p.b]) (.agg #[.bool false, .int .u64 0, .int .u64 0, .int .i64 0])).run Try.prog w = .ok (.bool (!zPB o.p)) w := fun w => neq_zpf w o.p
  have hQa : ∀ w : World, (binOp .neq 38 (.agg #[.bool o.a.v, .int .u64 o.a.hi, .int .u64 o.a.lo]) (.agg #[.bool false, .int .u64 0, .int .u64 0])).run Try.prog w = .ok (.bool (!zAB o.a)) w := fun w => neq_zad w o.a
  have HB := Lib.hid (bal (Below.refl w.heap.size w) (.cells #[.int .i64 o.k, .bool o.p.v, .int .u64 o.p.hi, .int .u64 o.p.lo, .int .i64 o.p.b, .bool o.a.v, .int .u64 o.a.hi, .int .u64 o.a.lo, .string o.who, .int .i64 o.pof, .int .i64 o.n] 42))
  rw [show formE o = 1 by unfold formE; rw [if_neg (by omega), cl1 hk, hA]; simp]
  rw [hA] at hQa
  clear hA
  have hb : (decide (1 ≤ o.k) && decide (o.k ≤ 5)) = true := by rw [hk]; decide
  generalize o.k = x0 at *
  generalize o.p.v = x1 at *
  generalize o.p.hi = x2 at *
  generalize o.p.lo = x3 at *
  generalize o.p.b = x4 at *
  generalize o.a.v = x5 at *
  generalize o.a.hi = x6 at *
  generalize o.a.lo = x7 at *
  generalize o.who = x8 at *
  generalize o.pof = x9 at *
  generalize o.n = x10 at *
  subst hk
  clear hw
  go_enter Try.func16, Try.ntmps16
  go_wp2_with (go_at_call 15; refine (between_any _ _ _ _).mono ?_; rintro e w3 ⟨rfl, hw3⟩; have hw3 := hw3.symm; subst hw3; rw [hb])
  go_ret
  exact ⟨rfl, HB.out⟩
set_option maxHeartbeats 16000000 in
set_option maxRecDepth 100000 in
theorem rop_1S (o : Opd) (w : World) (hw : o.who.size ≤ maxLen) (hk : o.k = 1) (hA : zAB o.a = true) (hS : zSB o.who = false) : Calls Try.prog 16 #[.agg #[.int .i64 o.k, .bool o.p.v, .int .u64 o.p.hi, .int .u64 o.p.lo, .int .i64 o.p.b, .bool o.a.v, .int .u64 o.a.hi, .int .u64 o.a.lo, .string o.who, .int .i64 o.pof, .int .i64 o.n]] w fun e w' => e = .returned (.int .i64 (formE o)) ∧ Below w.heap.size w w' := by
  have hQp : ∀ w : World, (binOp .neq 40 (.agg #[.bool o.p.v, .int .u64 o.p.hi, .int .u64 o.p.lo, .int .i64 o.p.b]) (.agg #[.bool false, .int .u64 0, .int .u64 0, .int .i64 0])).run Try.prog w = .ok (.bool (!zPB o.p)) w := fun w => neq_zpf w o.p
  have hQa : ∀ w : World, (binOp .neq 38 (.agg #[.bool o.a.v, .int .u64 o.a.hi, .int .u64 o.a.lo]) (.agg #[.bool false, .int .u64 0, .int .u64 0])).run Try.prog w = .ok (.bool (!zAB o.a)) w := fun w => neq_zad w o.a
  have HB := Lib.hid (bal (Below.refl w.heap.size w) (.cells #[.int .i64 o.k, .bool o.p.v, .int .u64 o.p.hi, .int .u64 o.p.lo, .int .i64 o.p.b, .bool o.a.v, .int .u64 o.a.hi, .int .u64 o.a.lo, .string o.who, .int .i64 o.pof, .int .i64 o.n] 42))
  rw [show formE o = 1 by unfold formE; rw [if_neg (by omega), cl1 hk, hA, hS]; simp]
  unfold zSB at hS
  rw [hA] at hQa
  clear hA
  have hb : (decide (1 ≤ o.k) && decide (o.k ≤ 5)) = true := by rw [hk]; decide
  generalize o.k = x0 at *
  generalize o.p.v = x1 at *
  generalize o.p.hi = x2 at *
  generalize o.p.lo = x3 at *
  generalize o.p.b = x4 at *
  generalize o.a.v = x5 at *
  generalize o.a.hi = x6 at *
  generalize o.a.lo = x7 at *
  generalize o.who = x8 at *
  generalize o.pof = x9 at *
  generalize o.n = x10 at *
  subst hk
  clear hw
  go_enter Try.func16, Try.ntmps16
  go_wp2_with (go_at_call 15; refine (between_any _ _ _ _).mono ?_; rintro e w3 ⟨rfl, hw3⟩; have hw3 := hw3.symm; subst hw3; rw [hb])
  go_ret
  exact ⟨rfl, HB.out⟩
set_option maxHeartbeats 16000000 in
set_option maxRecDepth 100000 in
theorem rop_1F (o : Opd) (w : World) (hw : o.who.size ≤ maxLen) (hk : o.k = 1) (hA : zAB o.a = true) (hS : zSB o.who = true) (hF : zIB o.pof = false) : Calls Try.prog 16 #[.agg #[.int .i64 o.k, .bool o.p.v, .int .u64 o.p.hi, .int .u64 o.p.lo, .int .i64 o.p.b, .bool o.a.v, .int .u64 o.a.hi, .int .u64 o.a.lo, .string o.who, .int .i64 o.pof, .int .i64 o.n]] w fun e w' => e = .returned (.int .i64 (formE o)) ∧ Below w.heap.size w w' := by
  have hQp : ∀ w : World, (binOp .neq 40 (.agg #[.bool o.p.v, .int .u64 o.p.hi, .int .u64 o.p.lo, .int .i64 o.p.b]) (.agg #[.bool false, .int .u64 0, .int .u64 0, .int .i64 0])).run Try.prog w = .ok (.bool (!zPB o.p)) w := fun w => neq_zpf w o.p
  have hQa : ∀ w : World, (binOp .neq 38 (.agg #[.bool o.a.v, .int .u64 o.a.hi, .int .u64 o.a.lo]) (.agg #[.bool false, .int .u64 0, .int .u64 0])).run Try.prog w = .ok (.bool (!zAB o.a)) w := fun w => neq_zad w o.a
  have HB := Lib.hid (bal (Below.refl w.heap.size w) (.cells #[.int .i64 o.k, .bool o.p.v, .int .u64 o.p.hi, .int .u64 o.p.lo, .int .i64 o.p.b, .bool o.a.v, .int .u64 o.a.hi, .int .u64 o.a.lo, .string o.who, .int .i64 o.pof, .int .i64 o.n] 42))
  rw [show formE o = 1 by unfold formE; rw [if_neg (by omega), cl1 hk, hA, hS, hF]; simp]
  unfold zSB at hS
  have hF2 : (o.pof != 0) = true := by unfold zIB at hF; simp only [bne, hF]; rfl
  clear hF
  rw [hA] at hQa
  clear hA
  have hb : (decide (1 ≤ o.k) && decide (o.k ≤ 5)) = true := by rw [hk]; decide
  generalize o.k = x0 at *
  generalize o.p.v = x1 at *
  generalize o.p.hi = x2 at *
  generalize o.p.lo = x3 at *
  generalize o.p.b = x4 at *
  generalize o.a.v = x5 at *
  generalize o.a.hi = x6 at *
  generalize o.a.lo = x7 at *
  generalize o.who = x8 at *
  generalize o.pof = x9 at *
  generalize o.n = x10 at *
  subst hk
  clear hw
  go_enter Try.func16, Try.ntmps16
  go_wp2_with (go_at_call 15; refine (between_any _ _ _ _).mono ?_; rintro e w3 ⟨rfl, hw3⟩; have hw3 := hw3.symm; subst hw3; rw [hb])
  go_ret
  exact ⟨rfl, HB.out⟩
set_option maxHeartbeats 16000000 in
set_option maxRecDepth 100000 in
theorem rop_1N (o : Opd) (w : World) (hw : o.who.size ≤ maxLen) (hk : o.k = 1) (hA : zAB o.a = true) (hS : zSB o.who = true) (hF : zIB o.pof = true) (hN : zIB o.n = false) : Calls Try.prog 16 #[.agg #[.int .i64 o.k, .bool o.p.v, .int .u64 o.p.hi, .int .u64 o.p.lo, .int .i64 o.p.b, .bool o.a.v, .int .u64 o.a.hi, .int .u64 o.a.lo, .string o.who, .int .i64 o.pof, .int .i64 o.n]] w fun e w' => e = .returned (.int .i64 (formE o)) ∧ Below w.heap.size w w' := by
  have hQp : ∀ w : World, (binOp .neq 40 (.agg #[.bool o.p.v, .int .u64 o.p.hi, .int .u64 o.p.lo, .int .i64 o.p.b]) (.agg #[.bool false, .int .u64 0, .int .u64 0, .int .i64 0])).run Try.prog w = .ok (.bool (!zPB o.p)) w := fun w => neq_zpf w o.p
  have hQa : ∀ w : World, (binOp .neq 38 (.agg #[.bool o.a.v, .int .u64 o.a.hi, .int .u64 o.a.lo]) (.agg #[.bool false, .int .u64 0, .int .u64 0])).run Try.prog w = .ok (.bool (!zAB o.a)) w := fun w => neq_zad w o.a
  have HB := Lib.hid (bal (Below.refl w.heap.size w) (.cells #[.int .i64 o.k, .bool o.p.v, .int .u64 o.p.hi, .int .u64 o.p.lo, .int .i64 o.p.b, .bool o.a.v, .int .u64 o.a.hi, .int .u64 o.a.lo, .string o.who, .int .i64 o.pof, .int .i64 o.n] 42))
  rw [show formE o = 1 by unfold formE; rw [if_neg (by omega), cl1 hk, hA, hS, hF, hN]; simp]
  unfold zSB at hS
  have hF2 : (o.pof != 0) = false := by unfold zIB at hF; simp only [bne, hF]; rfl
  clear hF
  have hN2 : (o.n != 0) = true := by unfold zIB at hN; simp only [bne, hN]; rfl
  clear hN
  rw [hA] at hQa
  clear hA
  have hb : (decide (1 ≤ o.k) && decide (o.k ≤ 5)) = true := by rw [hk]; decide
  generalize o.k = x0 at *
  generalize o.p.v = x1 at *
  generalize o.p.hi = x2 at *
  generalize o.p.lo = x3 at *
  generalize o.p.b = x4 at *
  generalize o.a.v = x5 at *
  generalize o.a.hi = x6 at *
  generalize o.a.lo = x7 at *
  generalize o.who = x8 at *
  generalize o.pof = x9 at *
  generalize o.n = x10 at *
  subst hk
  clear hw
  go_enter Try.func16, Try.ntmps16
  go_wp2_with (go_at_call 15; refine (between_any _ _ _ _).mono ?_; rintro e w3 ⟨rfl, hw3⟩; have hw3 := hw3.symm; subst hw3; rw [hb])
  go_ret
  exact ⟨rfl, HB.out⟩
set_option maxHeartbeats 16000000 in
set_option maxRecDepth 100000 in
theorem rop_2P (o : Opd) (w : World) (hw : o.who.size ≤ maxLen) (hk : o.k = 2) (hP : zPB o.p = false) : Calls Try.prog 16 #[.agg #[.int .i64 o.k, .bool o.p.v, .int .u64 o.p.hi, .int .u64 o.p.lo, .int .i64 o.p.b, .bool o.a.v, .int .u64 o.a.hi, .int .u64 o.a.lo, .string o.who, .int .i64 o.pof, .int .i64 o.n]] w fun e w' => e = .returned (.int .i64 (formE o)) ∧ Below w.heap.size w w' := by
  have hQp : ∀ w : World, (binOp .neq 40 (.agg #[.bool o.p.v, .int .u64 o.p.hi, .int .u64 o.p.lo, .int .i64 o.p.b]) (.agg #[.bool false, .int .u64 0, .int .u64 0, .int .i64 0])).run Try.prog w = .ok (.bool (!zPB o.p)) w := fun w => neq_zpf w o.p
  have hQa : ∀ w : World, (binOp .neq 38 (.agg #[.bool o.a.v, .int .u64 o.a.hi, .int .u64 o.a.lo]) (.agg #[.bool false, .int .u64 0, .int .u64 0])).run Try.prog w = .ok (.bool (!zAB o.a)) w := fun w => neq_zad w o.a
  have HB := Lib.hid (bal (Below.refl w.heap.size w) (.cells #[.int .i64 o.k, .bool o.p.v, .int .u64 o.p.hi, .int .u64 o.p.lo, .int .i64 o.p.b, .bool o.a.v, .int .u64 o.a.hi, .int .u64 o.a.lo, .string o.who, .int .i64 o.pof, .int .i64 o.n] 42))
  rw [show formE o = 1 by unfold formE; rw [if_neg (by omega), cl2 hk, hP]; simp]
  rw [hP] at hQp
  clear hP
  have hb : (decide (1 ≤ o.k) && decide (o.k ≤ 5)) = true := by rw [hk]; decide
  generalize o.k = x0 at *
  generalize o.p.v = x1 at *
  generalize o.p.hi = x2 at *
  generalize o.p.lo = x3 at *
  generalize o.p.b = x4 at *
  generalize o.a.v = x5 at *
  generalize o.a.hi = x6 at *
  generalize o.a.lo = x7 at *
  generalize o.who = x8 at *
  generalize o.pof = x9 at *
  generalize o.n = x10 at *
  subst hk
  clear hw
  go_enter Try.func16, Try.ntmps16
  go_wp2_with (go_at_call 15; refine (between_any _ _ _ _).mono ?_; rintro e w3 ⟨rfl, hw3⟩; have hw3 := hw3.symm; subst hw3; rw [hb])
  go_ret
  exact ⟨rfl, HB.out⟩
set_option maxHeartbeats 16000000 in
set_option maxRecDepth 100000 in
theorem rop_2S (o : Opd) (w : World) (hw : o.who.size ≤ maxLen) (hk : o.k = 2) (hP : zPB o.p = true) (hS : zSB o.who = false) : Calls Try.prog 16 #[.agg #[.int .i64 o.k, .bool o.p.v, .int .u64 o.p.hi, .int .u64 o.p.lo, .int .i64 o.p.b, .bool o.a.v, .int .u64 o.a.hi, .int .u64 o.a.lo, .string o.who, .int .i64 o.pof, .int .i64 o.n]] w fun e w' => e = .returned (.int .i64 (formE o)) ∧ Below w.heap.size w w' := by
  have hQp : ∀ w : World, (binOp .neq 40 (.agg #[.bool o.p.v, .int .u64 o.p.hi, .int .u64 o.p.lo, .int .i64 o.p.b]) (.agg #[.bool false, .int .u64 0, .int .u64 0, .int .i64 0])).run Try.prog w = .ok (.bool (!zPB o.p)) w := fun w => neq_zpf w o.p
  have hQa : ∀ w : World, (binOp .neq 38 (.agg #[.bool o.a.v, .int .u64 o.a.hi, .int .u64 o.a.lo]) (.agg #[.bool false, .int .u64 0, .int .u64 0])).run Try.prog w = .ok (.bool (!zAB o.a)) w := fun w => neq_zad w o.a
  have HB := Lib.hid (bal (Below.refl w.heap.size w) (.cells #[.int .i64 o.k, .bool o.p.v, .int .u64 o.p.hi, .int .u64 o.p.lo, .int .i64 o.p.b, .bool o.a.v, .int .u64 o.a.hi, .int .u64 o.a.lo, .string o.who, .int .i64 o.pof, .int .i64 o.n] 42))
  rw [show formE o = 1 by unfold formE; rw [if_neg (by omega), cl2 hk, hP, hS]; simp]
  unfold zSB at hS
  rw [hP] at hQp
  clear hP
  have hb : (decide (1 ≤ o.k) && decide (o.k ≤ 5)) = true := by rw [hk]; decide
  generalize o.k = x0 at *
  generalize o.p.v = x1 at *
  generalize o.p.hi = x2 at *
  generalize o.p.lo = x3 at *
  generalize o.p.b = x4 at *
  generalize o.a.v = x5 at *
  generalize o.a.hi = x6 at *
  generalize o.a.lo = x7 at *
  generalize o.who = x8 at *
  generalize o.pof = x9 at *
  generalize o.n = x10 at *
  subst hk
  clear hw
  go_enter Try.func16, Try.ntmps16
  go_wp2_with (go_at_call 15; refine (between_any _ _ _ _).mono ?_; rintro e w3 ⟨rfl, hw3⟩; have hw3 := hw3.symm; subst hw3; rw [hb])
  go_ret
  exact ⟨rfl, HB.out⟩
set_option maxHeartbeats 16000000 in
set_option maxRecDepth 100000 in
theorem rop_2F (o : Opd) (w : World) (hw : o.who.size ≤ maxLen) (hk : o.k = 2) (hP : zPB o.p = true) (hS : zSB o.who = true) (hF : zIB o.pof = false) : Calls Try.prog 16 #[.agg #[.int .i64 o.k, .bool o.p.v, .int .u64 o.p.hi, .int .u64 o.p.lo, .int .i64 o.p.b, .bool o.a.v, .int .u64 o.a.hi, .int .u64 o.a.lo, .string o.who, .int .i64 o.pof, .int .i64 o.n]] w fun e w' => e = .returned (.int .i64 (formE o)) ∧ Below w.heap.size w w' := by
  have hQp : ∀ w : World, (binOp .neq 40 (.agg #[.bool o.p.v, .int .u64 o.p.hi, .int .u64 o.p.lo, .int .i64 o.p.b]) (.agg #[.bool false, .int .u64 0, .int .u64 0, .int .i64 0])).run Try.prog w = .ok (.bool (!zPB o.p)) w := fun w => neq_zpf w o.p
  have hQa : ∀ w : World, (binOp .neq 38 (.agg #[.bool o.a.v, .int .u64 o.a.hi, .int .u64 o.a.lo]) (.agg #[.bool false, .int .u64 0, .int .u64 0])).run Try.prog w = .ok (.bool (!zAB o.a)) w := fun w => neq_zad w o.a
  have HB := Lib.hid (bal (Below.refl w.heap.size w) (.cells #[.int .i64 o.k, .bool o.p.v, .int .u64 o.p.hi, .int .u64 o.p.lo, .int .i64 o.p.b, .bool o.a.v, .int .u64 o.a.hi, .int .u64 o.a.lo, .string o.who, .int .i64 o.pof, .int .i64 o.n] 42))
  rw [show formE o = 1 by unfold formE; rw [if_neg (by omega), cl2 hk, hP, hS, hF]; simp]
  unfold zSB at hS
  have hF2 : (o.pof != 0) = true := by unfold zIB at hF; simp only [bne, hF]; rfl
  clear hF
  rw [hP] at hQp
  clear hP
  have hb : (decide (1 ≤ o.k) && decide (o.k ≤ 5)) = true := by rw [hk]; decide
  generalize o.k = x0 at *
  generalize o.p.v = x1 at *
  generalize o.p.hi = x2 at *
  generalize o.p.lo = x3 at *
  generalize o.p.b = x4 at *
  generalize o.a.v = x5 at *
  generalize o.a.hi = x6 at *
  generalize o.a.lo = x7 at *
  generalize o.who = x8 at *
  generalize o.pof = x9 at *
  generalize o.n = x10 at *
  subst hk
  clear hw
  go_enter Try.func16, Try.ntmps16
  go_wp2_with (go_at_call 15; refine (between_any _ _ _ _).mono ?_; rintro e w3 ⟨rfl, hw3⟩; have hw3 := hw3.symm; subst hw3; rw [hb])
  go_ret
  exact ⟨rfl, HB.out⟩
set_option maxHeartbeats 16000000 in
set_option maxRecDepth 100000 in
theorem rop_2N (o : Opd) (w : World) (hw : o.who.size ≤ maxLen) (hk : o.k = 2) (hP : zPB o.p = true) (hS : zSB o.who = true) (hF : zIB o.pof = true) (hN : zIB o.n = false) : Calls Try.prog 16 #[.agg #[.int .i64 o.k, .bool o.p.v, .int .u64 o.p.hi, .int .u64 o.p.lo, .int .i64 o.p.b, .bool o.a.v, .int .u64 o.a.hi, .int .u64 o.a.lo, .string o.who, .int .i64 o.pof, .int .i64 o.n]] w fun e w' => e = .returned (.int .i64 (formE o)) ∧ Below w.heap.size w w' := by
  have hQp : ∀ w : World, (binOp .neq 40 (.agg #[.bool o.p.v, .int .u64 o.p.hi, .int .u64 o.p.lo, .int .i64 o.p.b]) (.agg #[.bool false, .int .u64 0, .int .u64 0, .int .i64 0])).run Try.prog w = .ok (.bool (!zPB o.p)) w := fun w => neq_zpf w o.p
  have hQa : ∀ w : World, (binOp .neq 38 (.agg #[.bool o.a.v, .int .u64 o.a.hi, .int .u64 o.a.lo]) (.agg #[.bool false, .int .u64 0, .int .u64 0])).run Try.prog w = .ok (.bool (!zAB o.a)) w := fun w => neq_zad w o.a
  have HB := Lib.hid (bal (Below.refl w.heap.size w) (.cells #[.int .i64 o.k, .bool o.p.v, .int .u64 o.p.hi, .int .u64 o.p.lo, .int .i64 o.p.b, .bool o.a.v, .int .u64 o.a.hi, .int .u64 o.a.lo, .string o.who, .int .i64 o.pof, .int .i64 o.n] 42))
  rw [show formE o = 1 by unfold formE; rw [if_neg (by omega), cl2 hk, hP, hS, hF, hN]; simp]
  unfold zSB at hS
  have hF2 : (o.pof != 0) = false := by unfold zIB at hF; simp only [bne, hF]; rfl
  clear hF
  have hN2 : (o.n != 0) = true := by unfold zIB at hN; simp only [bne, hN]; rfl
  clear hN
  rw [hP] at hQp
  clear hP
  have hb : (decide (1 ≤ o.k) && decide (o.k ≤ 5)) = true := by rw [hk]; decide
  generalize o.k = x0 at *
  generalize o.p.v = x1 at *
  generalize o.p.hi = x2 at *
  generalize o.p.lo = x3 at *
  generalize o.p.b = x4 at *
  generalize o.a.v = x5 at *
  generalize o.a.hi = x6 at *
  generalize o.a.lo = x7 at *
  generalize o.who = x8 at *
  generalize o.pof = x9 at *
  generalize o.n = x10 at *
  subst hk
  clear hw
  go_enter Try.func16, Try.ntmps16
  go_wp2_with (go_at_call 15; refine (between_any _ _ _ _).mono ?_; rintro e w3 ⟨rfl, hw3⟩; have hw3 := hw3.symm; subst hw3; rw [hb])
  go_ret
  exact ⟨rfl, HB.out⟩
set_option maxHeartbeats 16000000 in
set_option maxRecDepth 100000 in
theorem rop_3P (o : Opd) (w : World) (hw : o.who.size ≤ maxLen) (hk : o.k = 3) (hP : zPB o.p = false) : Calls Try.prog 16 #[.agg #[.int .i64 o.k, .bool o.p.v, .int .u64 o.p.hi, .int .u64 o.p.lo, .int .i64 o.p.b, .bool o.a.v, .int .u64 o.a.hi, .int .u64 o.a.lo, .string o.who, .int .i64 o.pof, .int .i64 o.n]] w fun e w' => e = .returned (.int .i64 (formE o)) ∧ Below w.heap.size w w' := by
  have hQp : ∀ w : World, (binOp .neq 40 (.agg #[.bool o.p.v, .int .u64 o.p.hi, .int .u64 o.p.lo, .int .i64 o.p.b]) (.agg #[.bool false, .int .u64 0, .int .u64 0, .int .i64 0])).run Try.prog w = .ok (.bool (!zPB o.p)) w := fun w => neq_zpf w o.p
  have hQa : ∀ w : World, (binOp .neq 38 (.agg #[.bool o.a.v, .int .u64 o.a.hi, .int .u64 o.a.lo]) (.agg #[.bool false, .int .u64 0, .int .u64 0])).run Try.prog w = .ok (.bool (!zAB o.a)) w := fun w => neq_zad w o.a
  have HB := Lib.hid (bal (Below.refl w.heap.size w) (.cells #[.int .i64 o.k, .bool o.p.v, .int .u64 o.p.hi, .int .u64 o.p.lo, .int .i64 o.p.b, .bool o.a.v, .int .u64 o.a.hi, .int .u64 o.a.lo, .string o.who, .int .i64 o.pof, .int .i64 o.n] 42))
  rw [show formE o = 1 by unfold formE; rw [if_neg (by omega), cl3 hk, hP]; simp]
  rw [hP] at hQp
  clear hP
  have hb : (decide (1 ≤ o.k) && decide (o.k ≤ 5)) = true := by rw [hk]; decide
  generalize o.k = x0 at *
  generalize o.p.v = x1 at *
  generalize o.p.hi = x2 at *
  generalize o.p.lo = x3 at *
  generalize o.p.b = x4 at *
  generalize o.a.v = x5 at *
  generalize o.a.hi = x6 at *
  generalize o.a.lo = x7 at *
  generalize o.who = x8 at *
  generalize o.pof = x9 at *
  generalize o.n = x10 at *
  subst hk
  clear hw
  go_enter Try.func16, Try.ntmps16
  go_wp2_with (go_at_call 15; refine (between_any _ _ _ _).mono ?_; rintro e w3 ⟨rfl, hw3⟩; have hw3 := hw3.symm; subst hw3; rw [hb])
  go_ret
  exact ⟨rfl, HB.out⟩
set_option maxHeartbeats 16000000 in
set_option maxRecDepth 100000 in
theorem rop_3A (o : Opd) (w : World) (hw : o.who.size ≤ maxLen) (hk : o.k = 3) (hP : zPB o.p = true) (hA : zAB o.a = false) : Calls Try.prog 16 #[.agg #[.int .i64 o.k, .bool o.p.v, .int .u64 o.p.hi, .int .u64 o.p.lo, .int .i64 o.p.b, .bool o.a.v, .int .u64 o.a.hi, .int .u64 o.a.lo, .string o.who, .int .i64 o.pof, .int .i64 o.n]] w fun e w' => e = .returned (.int .i64 (formE o)) ∧ Below w.heap.size w w' := by
  have hQp : ∀ w : World, (binOp .neq 40 (.agg #[.bool o.p.v, .int .u64 o.p.hi, .int .u64 o.p.lo, .int .i64 o.p.b]) (.agg #[.bool false, .int .u64 0, .int .u64 0, .int .i64 0])).run Try.prog w = .ok (.bool (!zPB o.p)) w := fun w => neq_zpf w o.p
  have hQa : ∀ w : World, (binOp .neq 38 (.agg #[.bool o.a.v, .int .u64 o.a.hi, .int .u64 o.a.lo]) (.agg #[.bool false, .int .u64 0, .int .u64 0])).run Try.prog w = .ok (.bool (!zAB o.a)) w := fun w => neq_zad w o.a
  have HB := Lib.hid (bal (Below.refl w.heap.size w) (.cells #[.int .i64 o.k, .bool o.p.v, .int .u64 o.p.hi, .int .u64 o.p.lo, .int .i64 o.p.b, .bool o.a.v, .int .u64 o.a.hi, .int .u64 o.a.lo, .string o.who, .int .i64 o.pof, .int .i64 o.n] 42))
  rw [show formE o = 1 by unfold formE; rw [if_neg (by omega), cl3 hk, hP, hA]; simp]
  rw [hP] at hQp
  clear hP
  rw [hA] at hQa
  clear hA
  have hb : (decide (1 ≤ o.k) && decide (o.k ≤ 5)) = true := by rw [hk]; decide
  generalize o.k = x0 at *
  generalize o.p.v = x1 at *
  generalize o.p.hi = x2 at *
  generalize o.p.lo = x3 at *
  generalize o.p.b = x4 at *
  generalize o.a.v = x5 at *
  generalize o.a.hi = x6 at *
  generalize o.a.lo = x7 at *
  generalize o.who = x8 at *
  generalize o.pof = x9 at *
  generalize o.n = x10 at *
  subst hk
  clear hw
  go_enter Try.func16, Try.ntmps16
  go_wp2_with (go_at_call 15; refine (between_any _ _ _ _).mono ?_; rintro e w3 ⟨rfl, hw3⟩; have hw3 := hw3.symm; subst hw3; rw [hb])
  go_ret
  exact ⟨rfl, HB.out⟩
set_option maxHeartbeats 16000000 in
set_option maxRecDepth 100000 in
theorem rop_4P (o : Opd) (w : World) (hw : o.who.size ≤ maxLen) (hk : o.k = 4) (hP : zPB o.p = false) : Calls Try.prog 16 #[.agg #[.int .i64 o.k, .bool o.p.v, .int .u64 o.p.hi, .int .u64 o.p.lo, .int .i64 o.p.b, .bool o.a.v, .int .u64 o.a.hi, .int .u64 o.a.lo, .string o.who, .int .i64 o.pof, .int .i64 o.n]] w fun e w' => e = .returned (.int .i64 (formE o)) ∧ Below w.heap.size w w' := by
  have hQp : ∀ w : World, (binOp .neq 40 (.agg #[.bool o.p.v, .int .u64 o.p.hi, .int .u64 o.p.lo, .int .i64 o.p.b]) (.agg #[.bool false, .int .u64 0, .int .u64 0, .int .i64 0])).run Try.prog w = .ok (.bool (!zPB o.p)) w := fun w => neq_zpf w o.p
  have hQa : ∀ w : World, (binOp .neq 38 (.agg #[.bool o.a.v, .int .u64 o.a.hi, .int .u64 o.a.lo]) (.agg #[.bool false, .int .u64 0, .int .u64 0])).run Try.prog w = .ok (.bool (!zAB o.a)) w := fun w => neq_zad w o.a
  have HB := Lib.hid (bal (Below.refl w.heap.size w) (.cells #[.int .i64 o.k, .bool o.p.v, .int .u64 o.p.hi, .int .u64 o.p.lo, .int .i64 o.p.b, .bool o.a.v, .int .u64 o.a.hi, .int .u64 o.a.lo, .string o.who, .int .i64 o.pof, .int .i64 o.n] 42))
  rw [show formE o = 1 by unfold formE; rw [if_neg (by omega), cl4 hk, hP]; simp]
  rw [hP] at hQp
  clear hP
  have hb : (decide (1 ≤ o.k) && decide (o.k ≤ 5)) = true := by rw [hk]; decide
  generalize o.k = x0 at *
  generalize o.p.v = x1 at *
  generalize o.p.hi = x2 at *
  generalize o.p.lo = x3 at *
  generalize o.p.b = x4 at *
  generalize o.a.v = x5 at *
  generalize o.a.hi = x6 at *
  generalize o.a.lo = x7 at *
  generalize o.who = x8 at *
  generalize o.pof = x9 at *
  generalize o.n = x10 at *
  subst hk
  clear hw
  go_enter Try.func16, Try.ntmps16
  go_wp2_with (go_at_call 15; refine (between_any _ _ _ _).mono ?_; rintro e w3 ⟨rfl, hw3⟩; have hw3 := hw3.symm; subst hw3; rw [hb])
  go_ret
  exact ⟨rfl, HB.out⟩
set_option maxHeartbeats 16000000 in
set_option maxRecDepth 100000 in
theorem rop_4A (o : Opd) (w : World) (hw : o.who.size ≤ maxLen) (hk : o.k = 4) (hP : zPB o.p = true) (hA : zAB o.a = false) : Calls Try.prog 16 #[.agg #[.int .i64 o.k, .bool o.p.v, .int .u64 o.p.hi, .int .u64 o.p.lo, .int .i64 o.p.b, .bool o.a.v, .int .u64 o.a.hi, .int .u64 o.a.lo, .string o.who, .int .i64 o.pof, .int .i64 o.n]] w fun e w' => e = .returned (.int .i64 (formE o)) ∧ Below w.heap.size w w' := by
  have hQp : ∀ w : World, (binOp .neq 40 (.agg #[.bool o.p.v, .int .u64 o.p.hi, .int .u64 o.p.lo, .int .i64 o.p.b]) (.agg #[.bool false, .int .u64 0, .int .u64 0, .int .i64 0])).run Try.prog w = .ok (.bool (!zPB o.p)) w := fun w => neq_zpf w o.p
  have hQa : ∀ w : World, (binOp .neq 38 (.agg #[.bool o.a.v, .int .u64 o.a.hi, .int .u64 o.a.lo]) (.agg #[.bool false, .int .u64 0, .int .u64 0])).run Try.prog w = .ok (.bool (!zAB o.a)) w := fun w => neq_zad w o.a
  have HB := Lib.hid (bal (Below.refl w.heap.size w) (.cells #[.int .i64 o.k, .bool o.p.v, .int .u64 o.p.hi, .int .u64 o.p.lo, .int .i64 o.p.b, .bool o.a.v, .int .u64 o.a.hi, .int .u64 o.a.lo, .string o.who, .int .i64 o.pof, .int .i64 o.n] 42))
  rw [show formE o = 1 by unfold formE; rw [if_neg (by omega), cl4 hk, hP, hA]; simp]
  rw [hP] at hQp
  clear hP
  rw [hA] at hQa
  clear hA
  have hb : (decide (1 ≤ o.k) && decide (o.k ≤ 5)) = true := by rw [hk]; decide
  generalize o.k = x0 at *
  generalize o.p.v = x1 at *
  generalize o.p.hi = x2 at *
  generalize o.p.lo = x3 at *
  generalize o.p.b = x4 at *
  generalize o.a.v = x5 at *
  generalize o.a.hi = x6 at *
  generalize o.a.lo = x7 at *
  generalize o.who = x8 at *
  generalize o.pof = x9 at *
  generalize o.n = x10 at *
  subst hk
  clear hw
  go_enter Try.func16, Try.ntmps16
  go_wp2_with (go_at_call 15; refine (between_any _ _ _ _).mono ?_; rintro e w3 ⟨rfl, hw3⟩; have hw3 := hw3.symm; subst hw3; rw [hb])
  go_ret
  exact ⟨rfl, HB.out⟩
set_option maxHeartbeats 16000000 in
set_option maxRecDepth 100000 in
theorem rop_4F (o : Opd) (w : World) (hw : o.who.size ≤ maxLen) (hk : o.k = 4) (hP : zPB o.p = true) (hA : zAB o.a = true) (hF : zIB o.pof = false) : Calls Try.prog 16 #[.agg #[.int .i64 o.k, .bool o.p.v, .int .u64 o.p.hi, .int .u64 o.p.lo, .int .i64 o.p.b, .bool o.a.v, .int .u64 o.a.hi, .int .u64 o.a.lo, .string o.who, .int .i64 o.pof, .int .i64 o.n]] w fun e w' => e = .returned (.int .i64 (formE o)) ∧ Below w.heap.size w w' := by
  have hQp : ∀ w : World, (binOp .neq 40 (.agg #[.bool o.p.v, .int .u64 o.p.hi, .int .u64 o.p.lo, .int .i64 o.p.b]) (.agg #[.bool false, .int .u64 0, .int .u64 0, .int .i64 0])).run Try.prog w = .ok (.bool (!zPB o.p)) w := fun w => neq_zpf w o.p
  have hQa : ∀ w : World, (binOp .neq 38 (.agg #[.bool o.a.v, .int .u64 o.a.hi, .int .u64 o.a.lo]) (.agg #[.bool false, .int .u64 0, .int .u64 0])).run Try.prog w = .ok (.bool (!zAB o.a)) w := fun w => neq_zad w o.a
  have HB := Lib.hid (bal (Below.refl w.heap.size w) (.cells #[.int .i64 o.k, .bool o.p.v, .int .u64 o.p.hi, .int .u64 o.p.lo, .int .i64 o.p.b, .bool o.a.v, .int .u64 o.a.hi, .int .u64 o.a.lo, .string o.who, .int .i64 o.pof, .int .i64 o.n] 42))
  rw [show formE o = 1 by unfold formE; rw [if_neg (by omega), cl4 hk, hP, hA, hF]; simp]
  have hF2 : (o.pof != 0) = true := by unfold zIB at hF; simp only [bne, hF]; rfl
  clear hF
  rw [hP] at hQp
  clear hP
  rw [hA] at hQa
  clear hA
  have hb : (decide (1 ≤ o.k) && decide (o.k ≤ 5)) = true := by rw [hk]; decide
  generalize o.k = x0 at *
  generalize o.p.v = x1 at *
  generalize o.p.hi = x2 at *
  generalize o.p.lo = x3 at *
  generalize o.p.b = x4 at *
  generalize o.a.v = x5 at *
  generalize o.a.hi = x6 at *
  generalize o.a.lo = x7 at *
  generalize o.who = x8 at *
  generalize o.pof = x9 at *
  generalize o.n = x10 at *
  subst hk
  clear hw
  go_enter Try.func16, Try.ntmps16
  go_wp2_with (go_at_call 15; refine (between_any _ _ _ _).mono ?_; rintro e w3 ⟨rfl, hw3⟩; have hw3 := hw3.symm; subst hw3; rw [hb])
  go_ret
  exact ⟨rfl, HB.out⟩
set_option maxHeartbeats 16000000 in
set_option maxRecDepth 100000 in
theorem rop_4N (o : Opd) (w : World) (hw : o.who.size ≤ maxLen) (hk : o.k = 4) (hP : zPB o.p = true) (hA : zAB o.a = true) (hF : zIB o.pof = true) (hN : zIB o.n = false) : Calls Try.prog 16 #[.agg #[.int .i64 o.k, .bool o.p.v, .int .u64 o.p.hi, .int .u64 o.p.lo, .int .i64 o.p.b, .bool o.a.v, .int .u64 o.a.hi, .int .u64 o.a.lo, .string o.who, .int .i64 o.pof, .int .i64 o.n]] w fun e w' => e = .returned (.int .i64 (formE o)) ∧ Below w.heap.size w w' := by
  have hQp : ∀ w : World, (binOp .neq 40 (.agg #[.bool o.p.v, .int .u64 o.p.hi, .int .u64 o.p.lo, .int .i64 o.p.b]) (.agg #[.bool false, .int .u64 0, .int .u64 0, .int .i64 0])).run Try.prog w = .ok (.bool (!zPB o.p)) w := fun w => neq_zpf w o.p
  have hQa : ∀ w : World, (binOp .neq 38 (.agg #[.bool o.a.v, .int .u64 o.a.hi, .int .u64 o.a.lo]) (.agg #[.bool false, .int .u64 0, .int .u64 0])).run Try.prog w = .ok (.bool (!zAB o.a)) w := fun w => neq_zad w o.a
  have HB := Lib.hid (bal (Below.refl w.heap.size w) (.cells #[.int .i64 o.k, .bool o.p.v, .int .u64 o.p.hi, .int .u64 o.p.lo, .int .i64 o.p.b, .bool o.a.v, .int .u64 o.a.hi, .int .u64 o.a.lo, .string o.who, .int .i64 o.pof, .int .i64 o.n] 42))
  rw [show formE o = 1 by unfold formE; rw [if_neg (by omega), cl4 hk, hP, hA, hF, hN]; simp]
  have hF2 : (o.pof != 0) = false := by unfold zIB at hF; simp only [bne, hF]; rfl
  clear hF
  have hN2 : (o.n != 0) = true := by unfold zIB at hN; simp only [bne, hN]; rfl
  clear hN
  rw [hP] at hQp
  clear hP
  rw [hA] at hQa
  clear hA
  have hb : (decide (1 ≤ o.k) && decide (o.k ≤ 5)) = true := by rw [hk]; decide
  generalize o.k = x0 at *
  generalize o.p.v = x1 at *
  generalize o.p.hi = x2 at *
  generalize o.p.lo = x3 at *
  generalize o.p.b = x4 at *
  generalize o.a.v = x5 at *
  generalize o.a.hi = x6 at *
  generalize o.a.lo = x7 at *
  generalize o.who = x8 at *
  generalize o.pof = x9 at *
  generalize o.n = x10 at *
  subst hk
  clear hw
  go_enter Try.func16, Try.ntmps16
  go_wp2_with (go_at_call 15; refine (between_any _ _ _ _).mono ?_; rintro e w3 ⟨rfl, hw3⟩; have hw3 := hw3.symm; subst hw3; rw [hb])
  go_ret
  exact ⟨rfl, HB.out⟩
set_option maxHeartbeats 16000000 in
set_option maxRecDepth 100000 in
theorem rop_5P (o : Opd) (w : World) (hw : o.who.size ≤ maxLen) (hk : o.k = 5) (hP : zPB o.p = false) : Calls Try.prog 16 #[.agg #[.int .i64 o.k, .bool o.p.v, .int .u64 o.p.hi, .int .u64 o.p.lo, .int .i64 o.p.b, .bool o.a.v, .int .u64 o.a.hi, .int .u64 o.a.lo, .string o.who, .int .i64 o.pof, .int .i64 o.n]] w fun e w' => e = .returned (.int .i64 (formE o)) ∧ Below w.heap.size w w' := by
  have hQp : ∀ w : World, (binOp .neq 40 (.agg #[.bool o.p.v, .int .u64 o.p.hi, .int .u64 o.p.lo, .int .i64 o.p.b]) (.agg #[.bool false, .int .u64 0, .int .u64 0, .int .i64 0])).run Try.prog w = .ok (.bool (!zPB o.p)) w := fun w => neq_zpf w o.p
  have hQa : ∀ w : World, (binOp .neq 38 (.agg #[.bool o.a.v, .int .u64 o.a.hi, .int .u64 o.a.lo]) (.agg #[.bool false, .int .u64 0, .int .u64 0])).run Try.prog w = .ok (.bool (!zAB o.a)) w := fun w => neq_zad w o.a
  have HB := Lib.hid (bal (Below.refl w.heap.size w) (.cells #[.int .i64 o.k, .bool o.p.v, .int .u64 o.p.hi, .int .u64 o.p.lo, .int .i64 o.p.b, .bool o.a.v, .int .u64 o.a.hi, .int .u64 o.a.lo, .string o.who, .int .i64 o.pof, .int .i64 o.n] 42))
  rw [show formE o = 1 by unfold formE; rw [if_neg (by omega), cl5 hk, hP]; simp]
  rw [hP] at hQp
  clear hP
  have hb : (decide (1 ≤ o.k) && decide (o.k ≤ 5)) = true := by rw [hk]; decide
  generalize o.k = x0 at *
  generalize o.p.v = x1 at *
  generalize o.p.hi = x2 at *
  generalize o.p.lo = x3 at *
  generalize o.p.b = x4 at *
  generalize o.a.v = x5 at *
  generalize o.a.hi = x6 at *
  generalize o.a.lo = x7 at *
  generalize o.who = x8 at *
  generalize o.pof = x9 at *
  generalize o.n = x10 at *
  subst hk
  clear hw
  go_enter Try.func16, Try.ntmps16
  go_wp2_with (go_at_call 15; refine (between_any _ _ _ _).mono ?_; rintro e w3 ⟨rfl, hw3⟩; have hw3 := hw3.symm; subst hw3; rw [hb])
  go_ret
  exact ⟨rfl, HB.out⟩
set_option maxHeartbeats 16000000 in
set_option maxRecDepth 100000 in
theorem rop_5A (o : Opd) (w : World) (hw : o.who.size ≤ maxLen) (hk : o.k = 5) (hP : zPB o.p = true) (hA : zAB o.a = false) : Calls Try.prog 16 #[.agg #[.int .i64 o.k, .bool o.p.v, .int .u64 o.p.hi, .int .u64 o.p.lo, .int .i64 o.p.b, .bool o.a.v, .int .u64 o.a.hi, .int .u64 o.a.lo, .string o.who, .int .i64 o.pof, .int .i64 o.n]] w fun e w' => e = .returned (.int .i64 (formE o)) ∧ Below w.heap.size w w' := by
  have hQp : ∀ w : World, (binOp .neq 40 (.agg #[.bool o.p.v, .int .u64 o.p.hi, .int .u64 o.p.lo, .int .i64 o.p.b]) (.agg #[.bool false, .int .u64 0, .int .u64 0, .int .i64 0])).run Try.prog w = .ok (.bool (!zPB o.p)) w := fun w => neq_zpf w o.p
  have hQa : ∀ w : World, (binOp .neq 38 (.agg #[.bool o.a.v, .int .u64 o.a.hi, .int .u64 o.a.lo]) (.agg #[.bool false, .int .u64 0, .int .u64 0])).run Try.prog w = .ok (.bool (!zAB o.a)) w := fun w => neq_zad w o.a
  have HB := Lib.hid (bal (Below.refl w.heap.size w) (.cells #[.int .i64 o.k, .bool o.p.v, .int .u64 o.p.hi, .int .u64 o.p.lo, .int .i64 o.p.b, .bool o.a.v, .int .u64 o.a.hi, .int .u64 o.a.lo, .string o.who, .int .i64 o.pof, .int .i64 o.n] 42))
  rw [show formE o = 1 by unfold formE; rw [if_neg (by omega), cl5 hk, hP, hA]; simp]
  rw [hP] at hQp
  clear hP
  rw [hA] at hQa
  clear hA
  have hb : (decide (1 ≤ o.k) && decide (o.k ≤ 5)) = true := by rw [hk]; decide
  generalize o.k = x0 at *
  generalize o.p.v = x1 at *
  generalize o.p.hi = x2 at *
  generalize o.p.lo = x3 at *
  generalize o.p.b = x4 at *
  generalize o.a.v = x5 at *
  generalize o.a.hi = x6 at *
  generalize o.a.lo = x7 at *
  generalize o.who = x8 at *
  generalize o.pof = x9 at *
  generalize o.n = x10 at *
  subst hk
  clear hw
  go_enter Try.func16, Try.ntmps16
  go_wp2_with (go_at_call 15; refine (between_any _ _ _ _).mono ?_; rintro e w3 ⟨rfl, hw3⟩; have hw3 := hw3.symm; subst hw3; rw [hb])
  go_ret
  exact ⟨rfl, HB.out⟩
set_option maxHeartbeats 16000000 in
set_option maxRecDepth 100000 in
theorem rop_5S (o : Opd) (w : World) (hw : o.who.size ≤ maxLen) (hk : o.k = 5) (hP : zPB o.p = true) (hA : zAB o.a = true) (hS : zSB o.who = false) : Calls Try.prog 16 #[.agg #[.int .i64 o.k, .bool o.p.v, .int .u64 o.p.hi, .int .u64 o.p.lo, .int .i64 o.p.b, .bool o.a.v, .int .u64 o.a.hi, .int .u64 o.a.lo, .string o.who, .int .i64 o.pof, .int .i64 o.n]] w fun e w' => e = .returned (.int .i64 (formE o)) ∧ Below w.heap.size w w' := by
  have hQp : ∀ w : World, (binOp .neq 40 (.agg #[.bool o.p.v, .int .u64 o.p.hi, .int .u64 o.p.lo, .int .i64 o.p.b]) (.agg #[.bool false, .int .u64 0, .int .u64 0, .int .i64 0])).run Try.prog w = .ok (.bool (!zPB o.p)) w := fun w => neq_zpf w o.p
  have hQa : ∀ w : World, (binOp .neq 38 (.agg #[.bool o.a.v, .int .u64 o.a.hi, .int .u64 o.a.lo]) (.agg #[.bool false, .int .u64 0, .int .u64 0])).run Try.prog w = .ok (.bool (!zAB o.a)) w := fun w => neq_zad w o.a
  have HB := Lib.hid (bal (Below.refl w.heap.size w) (.cells #[.int .i64 o.k, .bool o.p.v, .int .u64 o.p.hi, .int .u64 o.p.lo, .int .i64 o.p.b, .bool o.a.v, .int .u64 o.a.hi, .int .u64 o.a.lo, .string o.who, .int .i64 o.pof, .int .i64 o.n] 42))
  rw [show formE o = 1 by unfold formE; rw [if_neg (by omega), cl5 hk, hP, hA, hS]; simp]
  unfold zSB at hS
  rw [hP] at hQp
  clear hP
  rw [hA] at hQa
  clear hA
  have hb : (decide (1 ≤ o.k) && decide (o.k ≤ 5)) = true := by rw [hk]; decide
  generalize o.k = x0 at *
  generalize o.p.v = x1 at *
  generalize o.p.hi = x2 at *
  generalize o.p.lo = x3 at *
  generalize o.p.b = x4 at *
  generalize o.a.v = x5 at *
  generalize o.a.hi = x6 at *
  generalize o.a.lo = x7 at *
  generalize o.who = x8 at *
  generalize o.pof = x9 at *
  generalize o.n = x10 at *
  subst hk
  clear hw
  go_enter Try.func16, Try.ntmps16
  go_wp2_with (go_at_call 15; refine (between_any _ _ _ _).mono ?_; rintro e w3 ⟨rfl, hw3⟩; have hw3 := hw3.symm; subst hw3; rw [hb])
  go_ret
  exact ⟨rfl, HB.out⟩
set_option maxHeartbeats 16000000 in
set_option maxRecDepth 100000 in
theorem rop_5F (o : Opd) (w : World) (hw : o.who.size ≤ maxLen) (hk : o.k = 5) (hP : zPB o.p = true) (hA : zAB o.a = true) (hS : zSB o.who = true) (hF : zIB o.pof = false) : Calls Try.prog 16 #[.agg #[.int .i64 o.k, .bool o.p.v, .int .u64 o.p.hi, .int .u64 o.p.lo, .int .i64 o.p.b, .bool o.a.v, .int .u64 o.a.hi, .int .u64 o.a.lo, .string o.who, .int .i64 o.pof, .int .i64 o.n]] w fun e w' => e = .returned (.int .i64 (formE o)) ∧ Below w.heap.size w w' := by
  have hQp : ∀ w : World, (binOp .neq 40 (.agg #[.bool o.p.v, .int .u64 o.p.hi, .int .u64 o.p.lo, .int .i64 o.p.b]) (.agg #[.bool false, .int .u64 0, .int .u64 0, .int .i64 0])).run Try.prog w = .ok (.bool (!zPB o.p)) w := fun w => neq_zpf w o.p
  have hQa : ∀ w : World, (binOp .neq 38 (.agg #[.bool o.a.v, .int .u64 o.a.hi, .int .u64 o.a.lo]) (.agg #[.bool false, .int .u64 0, .int .u64 0])).run Try.prog w = .ok (.bool (!zAB o.a)) w := fun w => neq_zad w o.a
  have HB := Lib.hid (bal (Below.refl w.heap.size w) (.cells #[.int .i64 o.k, .bool o.p.v, .int .u64 o.p.hi, .int .u64 o.p.lo, .int .i64 o.p.b, .bool o.a.v, .int .u64 o.a.hi, .int .u64 o.a.lo, .string o.who, .int .i64 o.pof, .int .i64 o.n] 42))
  rw [show formE o = 1 by unfold formE; rw [if_neg (by omega), cl5 hk, hP, hA, hS, hF]; simp]
  unfold zSB at hS
  have hF2 : (o.pof != 0) = true := by unfold zIB at hF; simp only [bne, hF]; rfl
  clear hF
  rw [hP] at hQp
  clear hP
  rw [hA] at hQa
  clear hA
  have hb : (decide (1 ≤ o.k) && decide (o.k ≤ 5)) = true := by rw [hk]; decide
  generalize o.k = x0 at *
  generalize o.p.v = x1 at *
  generalize o.p.hi = x2 at *
  generalize o.p.lo = x3 at *
  generalize o.p.b = x4 at *
  generalize o.a.v = x5 at *
  generalize o.a.hi = x6 at *
  generalize o.a.lo = x7 at *
  generalize o.who = x8 at *
  generalize o.pof = x9 at *
  generalize o.n = x10 at *
  subst hk
  clear hw
  go_enter Try.func16, Try.ntmps16
  go_wp2_with (go_at_call 15; refine (between_any _ _ _ _).mono ?_; rintro e w3 ⟨rfl, hw3⟩; have hw3 := hw3.symm; subst hw3; rw [hb])
  go_ret
  exact ⟨rfl, HB.out⟩
end Go.Proofs.Ytclnfkohlklbpaa

namespace Go.Proofs.Ytclnfkohlklbpaa
open Go.RowKit

theorem btw_in' {n a b : Int} (h : ¬ (n < a ∨ b < n)) : (decide (a ≤ n) && decide (n ≤ b)) = true := by
  simp; omega
set_option maxHeartbeats 16000000 in
set_option maxRecDepth 100000 in
theorem rop_1e (o : Opd) (w : World) (hw : o.who.size ≤ maxLen) (hk : o.k = 1) (hA : zAB o.a = true) (hS : zSB o.who = true) (hF : zIB o.pof = true) (hN : zIB o.n = true) (hc : ¬ o.p.chk = 0) : Calls Try.prog 16 #[.agg #[.int .i64 o.k, .bool o.p.v, .int .u64 o.p.hi, .int .u64 o.p.lo, .int .i64 o.p.b, .bool o.a.v, .int .u64 o.a.hi, .int .u64 o.a.lo, .string o.who, .int .i64 o.pof, .int .i64 o.n]] w fun e w' => e = .returned (.int .i64 (formE o)) ∧ Below w.heap.size w w' := by
  have hQp : ∀ w : World, (binOp .neq 40 (.agg #[.bool o.p.v, .int .u64 o.p.hi, .int .u64 o.p.lo, .int .i64 o.p.b]) (.agg #[.bool false, .int .u64 0, .int .u64 0, .int .i64 0])).run Try.prog w = .ok (.bool (!zPB o.p)) w := fun w => neq_zpf w o.p
  have hQa : ∀ w : World, (binOp .neq 38 (.agg #[.bool o.a.v, .int .u64 o.a.hi, .int .u64 o.a.lo]) (.agg #[.bool false, .int .u64 0, .int .u64 0])).run Try.prog w = .ok (.bool (!zAB o.a)) w := fun w => neq_zad w o.a
  have HB := Lib.hid (bal (Below.refl w.heap.size w) (.cells #[.int .i64 o.k, .bool o.p.v, .int .u64 o.p.hi, .int .u64 o.p.lo, .int .i64 o.p.b, .bool o.a.v, .int .u64 o.a.hi, .int .u64 o.a.lo, .string o.who, .int .i64 o.pof, .int .i64 o.n] 42))
  have HH := Lib.hid (HasL.new w [.int .i64 o.k, .bool o.p.v, .int .u64 o.p.hi, .int .u64 o.p.lo, .int .i64 o.p.b, .bool o.a.v, .int .u64 o.a.hi, .int .u64 o.a.lo, .string o.who, .int .i64 o.pof, .int .i64 o.n] 42)
  have hCp : Hid (∀ W : World, Calls Try.prog 22 #[.agg #[.bool o.p.v, .int .u64 o.p.hi, .int .u64 o.p.lo, .int .i64 o.p.b]] W fun e w' => e = .returned (.int .i64 o.p.chk) ∧ Below W.heap.size W w') := fun W => by
    have := rpcheck_nat o.p.v o.p.hi.toNat o.p.lo.toNat o.p.b W (by have := o.pok; unfold Pf.Ok at this; omega) (by have := o.pok; unfold Pf.Ok at this; omega)
    rw [show ((o.p.hi.toNat : Nat) : Int) = o.p.hi from Int.toNat_of_nonneg o.pok.1, show ((o.p.lo.toNat : Nat) : Int) = o.p.lo from Int.toNat_of_nonneg o.pok.2.2.1] at this
    exact this
  rw [show formE o = o.p.chk by unfold formE; rw [if_neg (by omega), if_neg (by rw [cl1 hk, hA, hS, hF, hN]; simp)]; rw [if_pos hk]; unfold poolE; rw [if_neg hc]]
  unfold zSB at hS
  have hF2 : (o.pof != 0) = false := by unfold zIB at hF; simp only [bne, hF]; rfl
  clear hF
  have hN2 : (o.n != 0) = false := by unfold zIB at hN; simp only [bne, hN]; rfl
  clear hN
  rw [hA] at hQa
  clear hA
  have hb : (decide (1 ≤ o.k) && decide (o.k ≤ 5)) = true := by rw [hk]; decide
  generalize o.p.chk = r at *
  have hI : (r == 0) = false := beq_eq_false_iff_ne.2 hc
  clear hc
  generalize o.k = x0 at *
  generalize o.p.v = x1 at *
  generalize o.p.hi = x2 at *
  generalize o.p.lo = x3 at *
  generalize o.p.b = x4 at *
  generalize o.a.v = x5 at *
  generalize o.a.hi = x6 at *
  generalize o.a.lo = x7 at *
  generalize o.who = x8 at *
  generalize o.pof = x9 at *
  generalize o.n = x10 at *
  subst hk
  clear hw 
  go_enter Try.func16, Try.ntmps16
  go_wp2_with (first | (go_at_call 15; refine (between_any _ _ _ _).mono ?_; rintro e w3 ⟨rfl, hw3⟩; have hw3 := hw3.symm; subst hw3; first | rw [hb] | rw [hb1] | rw [hb2]) | (go_at_call 22; refine (hCp.out _).mono ?_; rintro e w4 ⟨rfl, hb4⟩; have HB4 := Lib.hid (btr HB.out hb4); obtain ⟨z0, z1, z2, z3, z4, z5, z6, z7, z8, z9, z10⟩ : w4.cell? ⟨w.heap.size, 0, none⟩ = some (.int .i64 1) ∧ w4.cell? ⟨w.heap.size, 1, none⟩ = some (.bool x1) ∧ w4.cell? ⟨w.heap.size, 2, none⟩ = some (.int .u64 x2) ∧ w4.cell? ⟨w.heap.size, 3, none⟩ = some (.int .u64 x3) ∧ w4.cell? ⟨w.heap.size, 4, none⟩ = some (.int .i64 x4) ∧ w4.cell? ⟨w.heap.size, 5, none⟩ = some (.bool x5) ∧ w4.cell? ⟨w.heap.size, 6, none⟩ = some (.int .u64 x6) ∧ w4.cell? ⟨w.heap.size, 7, none⟩ = some (.int .u64 x7) ∧ w4.cell? ⟨w.heap.size, 8, none⟩ = some (.string x8) ∧ w4.cell? ⟨w.heap.size, 9, none⟩ = some (.int .i64 x9) ∧ w4.cell? ⟨w.heap.size, 10, none⟩ = some (.int .i64 x10) := ⟨(HH.out.below hb4).1 0 _ rfl, (HH.out.below hb4).1 1 _ rfl, (HH.out.below hb4).1 2 _ rfl, (HH.out.below hb4).1 3 _ rfl, (HH.out.below hb4).1 4 _ rfl, (HH.out.below hb4).1 5 _ rfl, (HH.out.below hb4).1 6 _ rfl, (HH.out.below hb4).1 7 _ rfl, (HH.out.below hb4).1 8 _ rfl, (HH.out.below hb4).1 9 _ rfl, (HH.out.below hb4).1 10 _ rfl⟩; clear hb4))
  go_ret
  exact ⟨rfl, HB4.out⟩
theorem chk_bits {p : Pf} (h : p.chk = 0) : 0 ≤ p.b ∧ p.b ≤ wid p.v := by
  unfold Pf.chk pchk at h
  by_cases h1 : chk p.v p.hi p.lo = 0
  · rw [if_pos h1] at h
    by_cases h2 : p.b < 0 ∨ wid p.v < p.b
    · rw [if_pos h2] at h; exact absurd h (by decide)
    · omega
  · rw [if_neg h1] at h; exact absurd h (by decide)
set_option maxHeartbeats 16000000 in
set_option maxRecDepth 100000 in
theorem rop_1w (o : Opd) (w : World) (hw : o.who.size ≤ maxLen) (hk : o.k = 1) (hA : zAB o.a = true) (hS : zSB o.who = true) (hF : zIB o.pof = true) (hN : zIB o.n = true) (hc : o.p.chk = 0) (hn : wideB o.p.v o.p.b = true) : Calls Try.prog 16 #[.agg #[.int .i64 o.k, .bool o.p.v, .int .u64 o.p.hi, .int .u64 o.p.lo, .int .i64 o.p.b, .bool o.a.v, .int .u64 o.a.hi, .int .u64 o.a.lo, .string o.who, .int .i64 o.pof, .int .i64 o.n]] w fun e w' => e = .returned (.int .i64 (formE o)) ∧ Below w.heap.size w w' := by
  have hQp : ∀ w : World, (binOp .neq 40 (.agg #[.bool o.p.v, .int .u64 o.p.hi, .int .u64 o.p.lo, .int .i64 o.p.b]) (.agg #[.bool false, .int .u64 0, .int .u64 0, .int .i64 0])).run Try.prog w = .ok (.bool (!zPB o.p)) w := fun w => neq_zpf w o.p
  have hQa : ∀ w : World, (binOp .neq 38 (.agg #[.bool o.a.v, .int .u64 o.a.hi, .int .u64 o.a.lo]) (.agg #[.bool false, .int .u64 0, .int .u64 0])).run Try.prog w = .ok (.bool (!zAB o.a)) w := fun w => neq_zad w o.a
  have HB := Lib.hid (bal (Below.refl w.heap.size w) (.cells #[.int .i64 o.k, .bool o.p.v, .int .u64 o.p.hi, .int .u64 o.p.lo, .int .i64 o.p.b, .bool o.a.v, .int .u64 o.a.hi, .int .u64 o.a.lo, .string o.who, .int .i64 o.pof, .int .i64 o.n] 42))
  have HH := Lib.hid (HasL.new w [.int .i64 o.k, .bool o.p.v, .int .u64 o.p.hi, .int .u64 o.p.lo, .int .i64 o.p.b, .bool o.a.v, .int .u64 o.a.hi, .int .u64 o.a.lo, .string o.who, .int .i64 o.pof, .int .i64 o.n] 42)
  have hCp : Hid (∀ W : World, Calls Try.prog 22 #[.agg #[.bool o.p.v, .int .u64 o.p.hi, .int .u64 o.p.lo, .int .i64 o.p.b]] W fun e w' => e = .returned (.int .i64 o.p.chk) ∧ Below W.heap.size W w') := fun W => by
    have := rpcheck_nat o.p.v o.p.hi.toNat o.p.lo.toNat o.p.b W (by have := o.pok; unfold Pf.Ok at this; omega) (by have := o.pok; unfold Pf.Ok at this; omega)
    rw [show ((o.p.hi.toNat : Nat) : Int) = o.p.hi from Int.toNat_of_nonneg o.pok.1, show ((o.p.lo.toNat : Nat) : Int) = o.p.lo from Int.toNat_of_nonneg o.pok.2.2.1] at this
    exact this
  have hNw : Hid (∀ W : World, Calls Try.prog 23 #[.agg #[.bool o.p.v, .int .u64 o.p.hi, .int .u64 o.p.lo, .int .i64 o.p.b]] W fun e w' => e = .returned (.bool (!wideB o.p.v o.p.b)) ∧ Below W.heap.size W w') := fun W => narrow_any o.p.v o.p.hi o.p.lo o.p.b W (chk_bits hc).1 (chk_bits hc).2
  rw [hc] at hCp
  rw [hn] at hNw
  rw [show formE o = 2 by unfold formE; rw [if_neg (by omega), if_neg (by rw [cl1 hk, hA, hS, hF, hN]; simp)]; rw [if_pos hk]; unfold poolE; rw [if_pos hc, hn]; simp [keptE]]
  unfold zSB at hS
  have hF2 : (o.pof != 0) = false := by unfold zIB at hF; simp only [bne, hF]; rfl
  clear hF
  have hN2 : (o.n != 0) = false := by unfold zIB at hN; simp only [bne, hN]; rfl
  clear hN
  rw [hA] at hQa
  clear hA
  have hb : (decide (1 ≤ o.k) && decide (o.k ≤ 5)) = true := by rw [hk]; decide
  generalize o.k = x0 at *
  generalize o.p.v = x1 at *
  generalize o.p.hi = x2 at *
  generalize o.p.lo = x3 at *
  generalize o.p.b = x4 at *
  generalize o.a.v = x5 at *
  generalize o.a.hi = x6 at *
  generalize o.a.lo = x7 at *
  generalize o.who = x8 at *
  generalize o.pof = x9 at *
  generalize o.n = x10 at *
  subst hk
  clear hw hc hn
  go_enter Try.func16, Try.ntmps16
  go_wp2_with (first | (go_at_call 15; refine (between_any _ _ _ _).mono ?_; rintro e w3 ⟨rfl, hw3⟩; have hw3 := hw3.symm; subst hw3; first | rw [hb] | rw [hb1] | rw [hb2]) | (go_at_call 22; refine (hCp.out _).mono ?_; rintro e w4 ⟨rfl, hb4⟩; have HB4 := Lib.hid (btr HB.out hb4); obtain ⟨z0, z1, z2, z3, z4, z5, z6, z7, z8, z9, z10⟩ : w4.cell? ⟨w.heap.size, 0, none⟩ = some (.int .i64 1) ∧ w4.cell? ⟨w.heap.size, 1, none⟩ = some (.bool x1) ∧ w4.cell? ⟨w.heap.size, 2, none⟩ = some (.int .u64 x2) ∧ w4.cell? ⟨w.heap.size, 3, none⟩ = some (.int .u64 x3) ∧ w4.cell? ⟨w.heap.size, 4, none⟩ = some (.int .i64 x4) ∧ w4.cell? ⟨w.heap.size, 5, none⟩ = some (.bool x5) ∧ w4.cell? ⟨w.heap.size, 6, none⟩ = some (.int .u64 x6) ∧ w4.cell? ⟨w.heap.size, 7, none⟩ = some (.int .u64 x7) ∧ w4.cell? ⟨w.heap.size, 8, none⟩ = some (.string x8) ∧ w4.cell? ⟨w.heap.size, 9, none⟩ = some (.int .i64 x9) ∧ w4.cell? ⟨w.heap.size, 10, none⟩ = some (.int .i64 x10) := ⟨(HH.out.below hb4).1 0 _ rfl, (HH.out.below hb4).1 1 _ rfl, (HH.out.below hb4).1 2 _ rfl, (HH.out.below hb4).1 3 _ rfl, (HH.out.below hb4).1 4 _ rfl, (HH.out.below hb4).1 5 _ rfl, (HH.out.below hb4).1 6 _ rfl, (HH.out.below hb4).1 7 _ rfl, (HH.out.below hb4).1 8 _ rfl, (HH.out.below hb4).1 9 _ rfl, (HH.out.below hb4).1 10 _ rfl⟩; clear hb4) | (go_at_call 23; refine (hNw.out _).mono ?_; rintro e w5 ⟨rfl, hb5⟩; have HB5 := Lib.hid (btr HB4.out hb5); clear hb5))
  go_ret
  exact ⟨rfl, HB5.out⟩
set_option maxHeartbeats 16000000 in
set_option maxRecDepth 100000 in
theorem rop_1o (o : Opd) (w : World) (hw : o.who.size ≤ maxLen) (hk : o.k = 1) (hA : zAB o.a = true) (hS : zSB o.who = true) (hF : zIB o.pof = true) (hN : zIB o.n = true) (hc : o.p.chk = 0) (hn : wideB o.p.v o.p.b = false) : Calls Try.prog 16 #[.agg #[.int .i64 o.k, .bool o.p.v, .int .u64 o.p.hi, .int .u64 o.p.lo, .int .i64 o.p.b, .bool o.a.v, .int .u64 o.a.hi, .int .u64 o.a.lo, .string o.who, .int .i64 o.pof, .int .i64 o.n]] w fun e w' => e = .returned (.int .i64 (formE o)) ∧ Below w.heap.size w w' := by
  have hQp : ∀ w : World, (binOp .neq 40 (.agg #[.bool o.p.v, .int .u64 o.p.hi, .int .u64 o.p.lo, .int .i64 o.p.b]) (.agg #[.bool false, .int .u64 0, .int .u64 0, .int .i64 0])).run Try.prog w = .ok (.bool (!zPB o.p)) w := fun w => neq_zpf w o.p
  have hQa : ∀ w : World, (binOp .neq 38 (.agg #[.bool o.a.v, .int .u64 o.a.hi, .int .u64 o.a.lo]) (.agg #[.bool false, .int .u64 0, .int .u64 0])).run Try.prog w = .ok (.bool (!zAB o.a)) w := fun w => neq_zad w o.a
  have HB := Lib.hid (bal (Below.refl w.heap.size w) (.cells #[.int .i64 o.k, .bool o.p.v, .int .u64 o.p.hi, .int .u64 o.p.lo, .int .i64 o.p.b, .bool o.a.v, .int .u64 o.a.hi, .int .u64 o.a.lo, .string o.who, .int .i64 o.pof, .int .i64 o.n] 42))
  have HH := Lib.hid (HasL.new w [.int .i64 o.k, .bool o.p.v, .int .u64 o.p.hi, .int .u64 o.p.lo, .int .i64 o.p.b, .bool o.a.v, .int .u64 o.a.hi, .int .u64 o.a.lo, .string o.who, .int .i64 o.pof, .int .i64 o.n] 42)
  have hCp : Hid (∀ W : World, Calls Try.prog 22 #[.agg #[.bool o.p.v, .int .u64 o.p.hi, .int .u64 o.p.lo, .int .i64 o.p.b]] W fun e w' => e = .returned (.int .i64 o.p.chk) ∧ Below W.heap.size W w') := fun W => by
    have := rpcheck_nat o.p.v o.p.hi.toNat o.p.lo.toNat o.p.b W (by have := o.pok; unfold Pf.Ok at this; omega) (by have := o.pok; unfold Pf.Ok at this; omega)
    rw [show ((o.p.hi.toNat : Nat) : Int) = o.p.hi from Int.toNat_of_nonneg o.pok.1, show ((o.p.lo.toNat : Nat) : Int) = o.p.lo from Int.toNat_of_nonneg o.pok.2.2.1] at this
    exact this
  have hNw : Hid (∀ W : World, Calls Try.prog 23 #[.agg #[.bool o.p.v, .int .u64 o.p.hi, .int .u64 o.p.lo, .int .i64 o.p.b]] W fun e w' => e = .returned (.bool (!wideB o.p.v o.p.b)) ∧ Below W.heap.size W w') := fun W => narrow_any o.p.v o.p.hi o.p.lo o.p.b W (chk_bits hc).1 (chk_bits hc).2
  rw [hc] at hCp
  rw [hn] at hNw
  rw [show formE o = 0 by unfold formE; rw [if_neg (by omega), if_neg (by rw [cl1 hk, hA, hS, hF, hN]; simp)]; rw [if_pos hk]; unfold poolE; rw [if_pos hc, hn]; simp [keptE]]
  unfold zSB at hS
  have hF2 : (o.pof != 0) = false := by unfold zIB at hF; simp only [bne, hF]; rfl
  clear hF
  have hN2 : (o.n != 0) = false := by unfold zIB at hN; simp only [bne, hN]; rfl
  clear hN
  rw [hA] at hQa
  clear hA
  have hb : (decide (1 ≤ o.k) && decide (o.k ≤ 5)) = true := by rw [hk]; decide
  generalize o.k = x0 at *
  generalize o.p.v = x1 at *
  generalize o.p.hi = x2 at *
  generalize o.p.lo = x3 at *
  generalize o.p.b = x4 at *
  generalize o.a.v = x5 at *
  generalize o.a.hi = x6 at *
  generalize o.a.lo = x7 at *
  generalize o.who = x8 at *
  generalize o.pof = x9 at *
  generalize o.n = x10 at *
  subst hk
  clear hw hc hn
  go_enter Try.func16, Try.ntmps16
  go_wp2_with (first | (go_at_call 15; refine (between_any _ _ _ _).mono ?_; rintro e w3 ⟨rfl, hw3⟩; have hw3 := hw3.symm; subst hw3; first | rw [hb] | rw [hb1] | rw [hb2]) | (go_at_call 22; refine (hCp.out _).mono ?_; rintro e w4 ⟨rfl, hb4⟩; have HB4 := Lib.hid (btr HB.out hb4); obtain ⟨z0, z1, z2, z3, z4, z5, z6, z7, z8, z9, z10⟩ : w4.cell? ⟨w.heap.size, 0, none⟩ = some (.int .i64 1) ∧ w4.cell? ⟨w.heap.size, 1, none⟩ = some (.bool x1) ∧ w4.cell? ⟨w.heap.size, 2, none⟩ = some (.int .u64 x2) ∧ w4.cell? ⟨w.heap.size, 3, none⟩ = some (.int .u64 x3) ∧ w4.cell? ⟨w.heap.size, 4, none⟩ = some (.int .i64 x4) ∧ w4.cell? ⟨w.heap.size, 5, none⟩ = some (.bool x5) ∧ w4.cell? ⟨w.heap.size, 6, none⟩ = some (.int .u64 x6) ∧ w4.cell? ⟨w.heap.size, 7, none⟩ = some (.int .u64 x7) ∧ w4.cell? ⟨w.heap.size, 8, none⟩ = some (.string x8) ∧ w4.cell? ⟨w.heap.size, 9, none⟩ = some (.int .i64 x9) ∧ w4.cell? ⟨w.heap.size, 10, none⟩ = some (.int .i64 x10) := ⟨(HH.out.below hb4).1 0 _ rfl, (HH.out.below hb4).1 1 _ rfl, (HH.out.below hb4).1 2 _ rfl, (HH.out.below hb4).1 3 _ rfl, (HH.out.below hb4).1 4 _ rfl, (HH.out.below hb4).1 5 _ rfl, (HH.out.below hb4).1 6 _ rfl, (HH.out.below hb4).1 7 _ rfl, (HH.out.below hb4).1 8 _ rfl, (HH.out.below hb4).1 9 _ rfl, (HH.out.below hb4).1 10 _ rfl⟩; clear hb4) | (go_at_call 23; refine (hNw.out _).mono ?_; rintro e w5 ⟨rfl, hb5⟩; have HB5 := Lib.hid (btr HB4.out hb5); clear hb5))
  go_ret
  exact ⟨rfl, HB5.out⟩
set_option maxHeartbeats 16000000 in
set_option maxRecDepth 100000 in
theorem rop_2 (o : Opd) (w : World) (hw : o.who.size ≤ maxLen) (hk : o.k = 2) (hP : zPB o.p = true) (hS : zSB o.who = true) (hF : zIB o.pof = true) (hN : zIB o.n = true)  : Calls Try.prog 16 #[.agg #[.int .i64 o.k, .bool o.p.v, .int .u64 o.p.hi, .int .u64 o.p.lo, .int .i64 o.p.b, .bool o.a.v, .int .u64 o.a.hi, .int .u64 o.a.lo, .string o.who, .int .i64 o.pof, .int .i64 o.n]] w fun e w' => e = .returned (.int .i64 (formE o)) ∧ Below w.heap.size w w' := by
  have hQp : ∀ w : World, (binOp .neq 40 (.agg #[.bool o.p.v, .int .u64 o.p.hi, .int .u64 o.p.lo, .int .i64 o.p.b]) (.agg #[.bool false, .int .u64 0, .int .u64 0, .int .i64 0])).run Try.prog w = .ok (.bool (!zPB o.p)) w := fun w => neq_zpf w o.p
  have hQa : ∀ w : World, (binOp .neq 38 (.agg #[.bool o.a.v, .int .u64 o.a.hi, .int .u64 o.a.lo]) (.agg #[.bool false, .int .u64 0, .int .u64 0])).run Try.prog w = .ok (.bool (!zAB o.a)) w := fun w => neq_zad w o.a
  have HB := Lib.hid (bal (Below.refl w.heap.size w) (.cells #[.int .i64 o.k, .bool o.p.v, .int .u64 o.p.hi, .int .u64 o.p.lo, .int .i64 o.p.b, .bool o.a.v, .int .u64 o.a.hi, .int .u64 o.a.lo, .string o.who, .int .i64 o.pof, .int .i64 o.n] 42))
  have HH := Lib.hid (HasL.new w [.int .i64 o.k, .bool o.p.v, .int .u64 o.p.hi, .int .u64 o.p.lo, .int .i64 o.p.b, .bool o.a.v, .int .u64 o.a.hi, .int .u64 o.a.lo, .string o.who, .int .i64 o.pof, .int .i64 o.n] 42)
  have hCa : Hid (∀ W : World, Calls Try.prog 24 #[.agg #[.bool o.a.v, .int .u64 o.a.hi, .int .u64 o.a.lo]] W fun e w' => e = .returned (.int .i64 (chk o.a.v o.a.hi o.a.lo)) ∧ Below W.heap.size W w') := fun W => rcheck_any o.a.v o.a.hi o.a.lo W o.a.ok.1.1 o.a.ok.2.1
  rw [show formE o = chk o.a.v o.a.hi o.a.lo by unfold formE; rw [if_neg (by omega), if_neg (by rw [cl2 hk, hP, hS, hF, hN]; simp)]; rw [if_neg (by omega), if_pos hk]]
  unfold zSB at hS
  have hF2 : (o.pof != 0) = false := by unfold zIB at hF; simp only [bne, hF]; rfl
  clear hF
  have hN2 : (o.n != 0) = false := by unfold zIB at hN; simp only [bne, hN]; rfl
  clear hN
  rw [hP] at hQp
  clear hP
  have hb : (decide (1 ≤ o.k) && decide (o.k ≤ 5)) = true := by rw [hk]; decide
  generalize chk o.a.v o.a.hi o.a.lo = r at *
  generalize o.k = x0 at *
  generalize o.p.v = x1 at *
  generalize o.p.hi = x2 at *
  generalize o.p.lo = x3 at *
  generalize o.p.b = x4 at *
  generalize o.a.v = x5 at *
  generalize o.a.hi = x6 at *
  generalize o.a.lo = x7 at *
  generalize o.who = x8 at *
  generalize o.pof = x9 at *
  generalize o.n = x10 at *
  subst hk
  clear hw 
  go_enter Try.func16, Try.ntmps16
  go_wp2_with (first | (go_at_call 15; refine (between_any _ _ _ _).mono ?_; rintro e w3 ⟨rfl, hw3⟩; have hw3 := hw3.symm; subst hw3; first | rw [hb] | rw [hb1] | rw [hb2]) | (go_at_call 24; refine (hCa.out _).mono ?_; rintro e w4 ⟨rfl, hb4⟩; have HB4 := Lib.hid (btr HB.out hb4); clear hb4))
  go_ret
  exact ⟨rfl, HB4.out⟩
set_option maxHeartbeats 16000000 in
set_option maxRecDepth 100000 in
theorem rop_3w (o : Opd) (w : World) (hw : o.who.size ≤ maxLen) (hk : o.k = 3) (hP : zPB o.p = true) (hA : zAB o.a = true) (hwb : whoB o.who = false) : Calls Try.prog 16 #[.agg #[.int .i64 o.k, .bool o.p.v, .int .u64 o.p.hi, .int .u64 o.p.lo, .int .i64 o.p.b, .bool o.a.v, .int .u64 o.a.hi, .int .u64 o.a.lo, .string o.who, .int .i64 o.pof, .int .i64 o.n]] w fun e w' => e = .returned (.int .i64 (formE o)) ∧ Below w.heap.size w w' := by
  have hQp : ∀ w : World, (binOp .neq 40 (.agg #[.bool o.p.v, .int .u64 o.p.hi, .int .u64 o.p.lo, .int .i64 o.p.b]) (.agg #[.bool false, .int .u64 0, .int .u64 0, .int .i64 0])).run Try.prog w = .ok (.bool (!zPB o.p)) w := fun w => neq_zpf w o.p
  have hQa : ∀ w : World, (binOp .neq 38 (.agg #[.bool o.a.v, .int .u64 o.a.hi, .int .u64 o.a.lo]) (.agg #[.bool false, .int .u64 0, .int .u64 0])).run Try.prog w = .ok (.bool (!zAB o.a)) w := fun w => neq_zad w o.a
  have HB := Lib.hid (bal (Below.refl w.heap.size w) (.cells #[.int .i64 o.k, .bool o.p.v, .int .u64 o.p.hi, .int .u64 o.p.lo, .int .i64 o.p.b, .bool o.a.v, .int .u64 o.a.hi, .int .u64 o.a.lo, .string o.who, .int .i64 o.pof, .int .i64 o.n] 42))
  have HH := Lib.hid (HasL.new w [.int .i64 o.k, .bool o.p.v, .int .u64 o.p.hi, .int .u64 o.p.lo, .int .i64 o.p.b, .bool o.a.v, .int .u64 o.a.hi, .int .u64 o.a.lo, .string o.who, .int .i64 o.pof, .int .i64 o.n] 42)
  have hWh : Hid (∀ W : World, Calls Try.prog 25 #[.string o.who] W fun e w' => e = .returned (.bool (whoB o.who)) ∧ w' = W) := fun W => rwho_any o.who W hw
  rw [hwb] at hWh
  rw [show formE o = 1 by unfold formE; rw [if_neg (by omega), if_neg (by rw [cl3 hk, hP, hA]; simp)]; rw [if_neg (by omega), if_neg (by omega), if_neg (by omega), if_pos hwb]]
  rw [hP] at hQp
  clear hP
  rw [hA] at hQa
  clear hA
  have hb : (decide (1 ≤ o.k) && decide (o.k ≤ 5)) = true := by rw [hk]; decide
  generalize o.k = x0 at *
  generalize o.p.v = x1 at *
  generalize o.p.hi = x2 at *
  generalize o.p.lo = x3 at *
  generalize o.p.b = x4 at *
  generalize o.a.v = x5 at *
  generalize o.a.hi = x6 at *
  generalize o.a.lo = x7 at *
  generalize o.who = x8 at *
  generalize o.pof = x9 at *
  generalize o.n = x10 at *
  subst hk
  clear hw hwb
  go_enter Try.func16, Try.ntmps16
  go_wp2_with (first | (go_at_call 15; refine (between_any _ _ _ _).mono ?_; rintro e w3 ⟨rfl, hw3⟩; have hw3 := hw3.symm; subst hw3; first | rw [hb] | rw [hb1] | rw [hb2]) | (go_at_call 25; refine (hWh.out _).mono ?_; rintro e w4 ⟨rfl, hw4⟩; have hw4 := hw4.symm; subst hw4))
  go_ret
  exact ⟨rfl, HB.out⟩
set_option maxHeartbeats 16000000 in
set_option maxRecDepth 100000 in
theorem rop_4w (o : Opd) (w : World) (hw : o.who.size ≤ maxLen) (hk : o.k = 4) (hP : zPB o.p = true) (hA : zAB o.a = true) (hF : zIB o.pof = true) (hN : zIB o.n = true) (hwb : whoB o.who = false) : Calls Try.prog 16 #[.agg #[.int .i64 o.k, .bool o.p.v, .int .u64 o.p.hi, .int .u64 o.p.lo, .int .i64 o.p.b, .bool o.a.v, .int .u64 o.a.hi, .int .u64 o.a.lo, .string o.who, .int .i64 o.pof, .int .i64 o.n]] w fun e w' => e = .returned (.int .i64 (formE o)) ∧ Below w.heap.size w w' := by
  have hQp : ∀ w : World, (binOp .neq 40 (.agg #[.bool o.p.v, .int .u64 o.p.hi, .int .u64 o.p.lo, .int .i64 o.p.b]) (.agg #[.bool false, .int .u64 0, .int .u64 0, .int .i64 0])).run Try.prog w = .ok (.bool (!zPB o.p)) w := fun w => neq_zpf w o.p
  have hQa : ∀ w : World, (binOp .neq 38 (.agg #[.bool o.a.v, .int .u64 o.a.hi, .int .u64 o.a.lo]) (.agg #[.bool false, .int .u64 0, .int .u64 0])).run Try.prog w = .ok (.bool (!zAB o.a)) w := fun w => neq_zad w o.a
  have HB := Lib.hid (bal (Below.refl w.heap.size w) (.cells #[.int .i64 o.k, .bool o.p.v, .int .u64 o.p.hi, .int .u64 o.p.lo, .int .i64 o.p.b, .bool o.a.v, .int .u64 o.a.hi, .int .u64 o.a.lo, .string o.who, .int .i64 o.pof, .int .i64 o.n] 42))
  have HH := Lib.hid (HasL.new w [.int .i64 o.k, .bool o.p.v, .int .u64 o.p.hi, .int .u64 o.p.lo, .int .i64 o.p.b, .bool o.a.v, .int .u64 o.a.hi, .int .u64 o.a.lo, .string o.who, .int .i64 o.pof, .int .i64 o.n] 42)
  have hWh : Hid (∀ W : World, Calls Try.prog 25 #[.string o.who] W fun e w' => e = .returned (.bool (whoB o.who)) ∧ w' = W) := fun W => rwho_any o.who W hw
  rw [hwb] at hWh
  rw [show formE o = 1 by unfold formE; rw [if_neg (by omega), if_neg (by rw [cl4 hk, hP, hA, hF, hN]; simp)]; rw [if_neg (by omega), if_neg (by omega), if_neg (by omega), if_pos hwb]]
  have hF2 : (o.pof != 0) = false := by unfold zIB at hF; simp only [bne, hF]; rfl
  clear hF
  have hN2 : (o.n != 0) = false := by unfold zIB at hN; simp only [bne, hN]; rfl
  clear hN
  rw [hP] at hQp
  clear hP
  rw [hA] at hQa
  clear hA
  have hb : (decide (1 ≤ o.k) && decide (o.k ≤ 5)) = true := by rw [hk]; decide
  generalize o.k = x0 at *
  generalize o.p.v = x1 at *
  generalize o.p.hi = x2 at *
  generalize o.p.lo = x3 at *
  generalize o.p.b = x4 at *
  generalize o.a.v = x5 at *
  generalize o.a.hi = x6 at *
  generalize o.a.lo = x7 at *
  generalize o.who = x8 at *
  generalize o.pof = x9 at *
  generalize o.n = x10 at *
  subst hk
  clear hw hwb
  go_enter Try.func16, Try.ntmps16
  go_wp2_with (first | (go_at_call 15; refine (between_any _ _ _ _).mono ?_; rintro e w3 ⟨rfl, hw3⟩; have hw3 := hw3.symm; subst hw3; first | rw [hb] | rw [hb1] | rw [hb2]) | (go_at_call 25; refine (hWh.out _).mono ?_; rintro e w4 ⟨rfl, hw4⟩; have hw4 := hw4.symm; subst hw4))
  go_ret
  exact ⟨rfl, HB.out⟩
set_option maxHeartbeats 16000000 in
set_option maxRecDepth 100000 in
theorem rop_4 (o : Opd) (w : World) (hw : o.who.size ≤ maxLen) (hk : o.k = 4) (hP : zPB o.p = true) (hA : zAB o.a = true) (hF : zIB o.pof = true) (hN : zIB o.n = true) (hwb : whoB o.who = true) : Calls Try.prog 16 #[.agg #[.int .i64 o.k, .bool o.p.v, .int .u64 o.p.hi, .int .u64 o.p.lo, .int .i64 o.p.b, .bool o.a.v, .int .u64 o.a.hi, .int .u64 o.a.lo, .string o.who, .int .i64 o.pof, .int .i64 o.n]] w fun e w' => e = .returned (.int .i64 (formE o)) ∧ Below w.heap.size w w' := by
  have hQp : ∀ w : World, (binOp .neq 40 (.agg #[.bool o.p.v, .int .u64 o.p.hi, .int .u64 o.p.lo, .int .i64 o.p.b]) (.agg #[.bool false, .int .u64 0, .int .u64 0, .int .i64 0])).run Try.prog w = .ok (.bool (!zPB o.p)) w := fun w => neq_zpf w o.p
  have hQa : ∀ w : World, (binOp .neq 38 (.agg #[.bool o.a.v, .int .u64 o.a.hi, .int .u64 o.a.lo]) (.agg #[.bool false, .int .u64 0, .int .u64 0])).run Try.prog w = .ok (.bool (!zAB o.a)) w := fun w => neq_zad w o.a
  have HB := Lib.hid (bal (Below.refl w.heap.size w) (.cells #[.int .i64 o.k, .bool o.p.v, .int .u64 o.p.hi, .int .u64 o.p.lo, .int .i64 o.p.b, .bool o.a.v, .int .u64 o.a.hi, .int .u64 o.a.lo, .string o.who, .int .i64 o.pof, .int .i64 o.n] 42))
  have HH := Lib.hid (HasL.new w [.int .i64 o.k, .bool o.p.v, .int .u64 o.p.hi, .int .u64 o.p.lo, .int .i64 o.p.b, .bool o.a.v, .int .u64 o.a.hi, .int .u64 o.a.lo, .string o.who, .int .i64 o.pof, .int .i64 o.n] 42)
  have hWh : Hid (∀ W : World, Calls Try.prog 25 #[.string o.who] W fun e w' => e = .returned (.bool (whoB o.who)) ∧ w' = W) := fun W => rwho_any o.who W hw
  rw [hwb] at hWh
  rw [show formE o = 0 by unfold formE; rw [if_neg (by omega), if_neg (by rw [cl4 hk, hP, hA, hF, hN]; simp)]; rw [if_neg (by omega), if_neg (by omega), if_neg (by omega), if_neg (by rw [hwb]; decide), if_pos hk]]
  have hF2 : (o.pof != 0) = false := by unfold zIB at hF; simp only [bne, hF]; rfl
  clear hF
  have hN2 : (o.n != 0) = false := by unfold zIB at hN; simp only [bne, hN]; rfl
  clear hN
  rw [hP] at hQp
  clear hP
  rw [hA] at hQa
  clear hA
  have hb : (decide (1 ≤ o.k) && decide (o.k ≤ 5)) = true := by rw [hk]; decide
  generalize o.k = x0 at *
  generalize o.p.v = x1 at *
  generalize o.p.hi = x2 at *
  generalize o.p.lo = x3 at *
  generalize o.p.b = x4 at *
  generalize o.a.v = x5 at *
  generalize o.a.hi = x6 at *
  generalize o.a.lo = x7 at *
  generalize o.who = x8 at *
  generalize o.pof = x9 at *
  generalize o.n = x10 at *
  subst hk
  clear hw hwb
  go_enter Try.func16, Try.ntmps16
  go_wp2_with (first | (go_at_call 15; refine (between_any _ _ _ _).mono ?_; rintro e w3 ⟨rfl, hw3⟩; have hw3 := hw3.symm; subst hw3; first | rw [hb] | rw [hb1] | rw [hb2]) | (go_at_call 25; refine (hWh.out _).mono ?_; rintro e w4 ⟨rfl, hw4⟩; have hw4 := hw4.symm; subst hw4))
  go_ret
  exact ⟨rfl, HB.out⟩
set_option maxHeartbeats 16000000 in
set_option maxRecDepth 100000 in
theorem rop_3f (o : Opd) (w : World) (hw : o.who.size ≤ maxLen) (hk : o.k = 3) (hP : zPB o.p = true) (hA : zAB o.a = true) (hwb : whoB o.who = true) (hf : o.pof < 0 ∨ 2 < o.pof) : Calls Try.prog 16 #[.agg #[.int .i64 o.k, .bool o.p.v, .int .u64 o.p.hi, .int .u64 o.p.lo, .int .i64 o.p.b, .bool o.a.v, .int .u64 o.a.hi, .int .u64 o.a.lo, .string o.who, .int .i64 o.pof, .int .i64 o.n]] w fun e w' => e = .returned (.int .i64 (formE o)) ∧ Below w.heap.size w w' := by
  have hQp : ∀ w : World, (binOp .neq 40 (.agg #[.bool o.p.v, .int .u64 o.p.hi, .int .u64 o.p.lo, .int .i64 o.p.b]) (.agg #[.bool false, .int .u64 0, .int .u64 0, .int .i64 0])).run Try.prog w = .ok (.bool (!zPB o.p)) w := fun w => neq_zpf w o.p
  have hQa : ∀ w : World, (binOp .neq 38 (.agg #[.bool o.a.v, .int .u64 o.a.hi, .int .u64 o.a.lo]) (.agg #[.bool false, .int .u64 0, .int .u64 0])).run Try.prog w = .ok (.bool (!zAB o.a)) w := fun w => neq_zad w o.a
  have HB := Lib.hid (bal (Below.refl w.heap.size w) (.cells #[.int .i64 o.k, .bool o.p.v, .int .u64 o.p.hi, .int .u64 o.p.lo, .int .i64 o.p.b, .bool o.a.v, .int .u64 o.a.hi, .int .u64 o.a.lo, .string o.who, .int .i64 o.pof, .int .i64 o.n] 42))
  have HH := Lib.hid (HasL.new w [.int .i64 o.k, .bool o.p.v, .int .u64 o.p.hi, .int .u64 o.p.lo, .int .i64 o.p.b, .bool o.a.v, .int .u64 o.a.hi, .int .u64 o.a.lo, .string o.who, .int .i64 o.pof, .int .i64 o.n] 42)
  have hWh : Hid (∀ W : World, Calls Try.prog 25 #[.string o.who] W fun e w' => e = .returned (.bool (whoB o.who)) ∧ w' = W) := fun W => rwho_any o.who W hw
  rw [hwb] at hWh
  rw [show formE o = 3 by unfold formE; rw [if_neg (by omega), if_neg (by rw [cl3 hk, hP, hA]; simp)]; rw [if_neg (by omega), if_neg (by omega), if_neg (by omega), if_neg (by rw [hwb]; decide), if_neg (by omega), if_pos hf]]
  rw [hP] at hQp
  clear hP
  rw [hA] at hQa
  clear hA
  have hb : (decide (1 ≤ o.k) && decide (o.k ≤ 5)) = true := by rw [hk]; decide
  have hb1 := btw_iff.2 hf
  generalize o.k = x0 at *
  generalize o.p.v = x1 at *
  generalize o.p.hi = x2 at *
  generalize o.p.lo = x3 at *
  generalize o.p.b = x4 at *
  generalize o.a.v = x5 at *
  generalize o.a.hi = x6 at *
  generalize o.a.lo = x7 at *
  generalize o.who = x8 at *
  generalize o.pof = x9 at *
  generalize o.n = x10 at *
  subst hk
  clear hw hwb hf
  go_enter Try.func16, Try.ntmps16
  go_wp2_with (first | (go_at_call 15; refine (between_any _ _ _ _).mono ?_; rintro e w3 ⟨rfl, hw3⟩; have hw3 := hw3.symm; subst hw3; first | rw [hb] | rw [hb1] | rw [hb2]) | (go_at_call 25; refine (hWh.out _).mono ?_; rintro e w4 ⟨rfl, hw4⟩; have hw4 := hw4.symm; subst hw4))
  go_ret
  exact ⟨rfl, HB.out⟩
set_option maxHeartbeats 16000000 in
set_option maxRecDepth 100000 in
theorem rop_3n (o : Opd) (w : World) (hw : o.who.size ≤ maxLen) (hk : o.k = 3) (hP : zPB o.p = true) (hA : zAB o.a = true) (hwb : whoB o.who = true) (hf : ¬ (o.pof < 0 ∨ 2 < o.pof)) (hn : o.n < 1 ∨ 500 < o.n) : Calls Try.prog 16 #[.agg #[.int .i64 o.k, .bool o.p.v, .int .u64 o.p.hi, .int .u64 o.p.lo, .int .i64 o.p.b, .bool o.a.v, .int .u64 o.a.hi, .int .u64 o.a.lo, .string o.who, .int .i64 o.pof, .int .i64 o.n]] w fun e w' => e = .returned (.int .i64 (formE o)) ∧ Below w.heap.size w w' := by
  have hQp : ∀ w : World, (binOp .neq 40 (.agg #[.bool o.p.v, .int .u64 o.p.hi, .int .u64 o.p.lo, .int .i64 o.p.b]) (.agg #[.bool false, .int .u64 0, .int .u64 0, .int .i64 0])).run Try.prog w = .ok (.bool (!zPB o.p)) w := fun w => neq_zpf w o.p
  have hQa : ∀ w : World, (binOp .neq 38 (.agg #[.bool o.a.v, .int .u64 o.a.hi, .int .u64 o.a.lo]) (.agg #[.bool false, .int .u64 0, .int .u64 0])).run Try.prog w = .ok (.bool (!zAB o.a)) w := fun w => neq_zad w o.a
  have HB := Lib.hid (bal (Below.refl w.heap.size w) (.cells #[.int .i64 o.k, .bool o.p.v, .int .u64 o.p.hi, .int .u64 o.p.lo, .int .i64 o.p.b, .bool o.a.v, .int .u64 o.a.hi, .int .u64 o.a.lo, .string o.who, .int .i64 o.pof, .int .i64 o.n] 42))
  have HH := Lib.hid (HasL.new w [.int .i64 o.k, .bool o.p.v, .int .u64 o.p.hi, .int .u64 o.p.lo, .int .i64 o.p.b, .bool o.a.v, .int .u64 o.a.hi, .int .u64 o.a.lo, .string o.who, .int .i64 o.pof, .int .i64 o.n] 42)
  have hWh : Hid (∀ W : World, Calls Try.prog 25 #[.string o.who] W fun e w' => e = .returned (.bool (whoB o.who)) ∧ w' = W) := fun W => rwho_any o.who W hw
  rw [hwb] at hWh
  rw [show formE o = 3 by unfold formE; rw [if_neg (by omega), if_neg (by rw [cl3 hk, hP, hA]; simp)]; rw [if_neg (by omega), if_neg (by omega), if_neg (by omega), if_neg (by rw [hwb]; decide), if_neg (by omega), if_neg hf, rngE_out hn]]
  rw [hP] at hQp
  clear hP
  rw [hA] at hQa
  clear hA
  have hb : (decide (1 ≤ o.k) && decide (o.k ≤ 5)) = true := by rw [hk]; decide
  have hb1 := btw_in' hf
  have hb2 := btw_iff.2 hn
  generalize o.k = x0 at *
  generalize o.p.v = x1 at *
  generalize o.p.hi = x2 at *
  generalize o.p.lo = x3 at *
  generalize o.p.b = x4 at *
  generalize o.a.v = x5 at *
  generalize o.a.hi = x6 at *
  generalize o.a.lo = x7 at *
  generalize o.who = x8 at *
  generalize o.pof = x9 at *
  generalize o.n = x10 at *
  subst hk
  clear hw hwb hf hn
  go_enter Try.func16, Try.ntmps16
  go_wp2_with (first | (go_at_call 15; refine (between_any _ _ _ _).mono ?_; rintro e w3 ⟨rfl, hw3⟩; have hw3 := hw3.symm; subst hw3; first | rw [hb] | rw [hb1] | rw [hb2]) | (go_at_call 25; refine (hWh.out _).mono ?_; rintro e w4 ⟨rfl, hw4⟩; have hw4 := hw4.symm; subst hw4))
  go_ret
  exact ⟨rfl, HB.out⟩
set_option maxHeartbeats 16000000 in
set_option maxRecDepth 100000 in
theorem rop_3 (o : Opd) (w : World) (hw : o.who.size ≤ maxLen) (hk : o.k = 3) (hP : zPB o.p = true) (hA : zAB o.a = true) (hwb : whoB o.who = true) (hf : ¬ (o.pof < 0 ∨ 2 < o.pof)) (hn : ¬ (o.n < 1 ∨ 500 < o.n)) : Calls Try.prog 16 #[.agg #[.int .i64 o.k, .bool o.p.v, .int .u64 o.p.hi, .int .u64 o.p.lo, .int .i64 o.p.b, .bool o.a.v, .int .u64 o.a.hi, .int .u64 o.a.lo, .string o.who, .int .i64 o.pof, .int .i64 o.n]] w fun e w' => e = .returned (.int .i64 (formE o)) ∧ Below w.heap.size w w' := by
  have hQp : ∀ w : World, (binOp .neq 40 (.agg #[.bool o.p.v, .int .u64 o.p.hi, .int .u64 o.p.lo, .int .i64 o.p.b]) (.agg #[.bool false, .int .u64 0, .int .u64 0, .int .i64 0])).run Try.prog w = .ok (.bool (!zPB o.p)) w := fun w => neq_zpf w o.p
  have hQa : ∀ w : World, (binOp .neq 38 (.agg #[.bool o.a.v, .int .u64 o.a.hi, .int .u64 o.a.lo]) (.agg #[.bool false, .int .u64 0, .int .u64 0])).run Try.prog w = .ok (.bool (!zAB o.a)) w := fun w => neq_zad w o.a
  have HB := Lib.hid (bal (Below.refl w.heap.size w) (.cells #[.int .i64 o.k, .bool o.p.v, .int .u64 o.p.hi, .int .u64 o.p.lo, .int .i64 o.p.b, .bool o.a.v, .int .u64 o.a.hi, .int .u64 o.a.lo, .string o.who, .int .i64 o.pof, .int .i64 o.n] 42))
  have HH := Lib.hid (HasL.new w [.int .i64 o.k, .bool o.p.v, .int .u64 o.p.hi, .int .u64 o.p.lo, .int .i64 o.p.b, .bool o.a.v, .int .u64 o.a.hi, .int .u64 o.a.lo, .string o.who, .int .i64 o.pof, .int .i64 o.n] 42)
  have hWh : Hid (∀ W : World, Calls Try.prog 25 #[.string o.who] W fun e w' => e = .returned (.bool (whoB o.who)) ∧ w' = W) := fun W => rwho_any o.who W hw
  rw [hwb] at hWh
  rw [show formE o = 0 by unfold formE; rw [if_neg (by omega), if_neg (by rw [cl3 hk, hP, hA]; simp)]; rw [if_neg (by omega), if_neg (by omega), if_neg (by omega), if_neg (by rw [hwb]; decide), if_neg (by omega), if_neg hf, rngE_in (fun h => hn (.inl h)) (fun h => hn (.inr h))]]
  rw [hP] at hQp
  clear hP
  rw [hA] at hQa
  clear hA
  have hb : (decide (1 ≤ o.k) && decide (o.k ≤ 5)) = true := by rw [hk]; decide
  have hb1 := btw_in' hf
  have hb2 := btw_in' hn
  generalize o.k = x0 at *
  generalize o.p.v = x1 at *
  generalize o.p.hi = x2 at *
  generalize o.p.lo = x3 at *
  generalize o.p.b = x4 at *
  generalize o.a.v = x5 at *
  generalize o.a.hi = x6 at *
  generalize o.a.lo = x7 at *
  generalize o.who = x8 at *
  generalize o.pof = x9 at *
  generalize o.n = x10 at *
  subst hk
  clear hw hwb hf hn
  go_enter Try.func16, Try.ntmps16
  go_wp2_with (first | (go_at_call 15; refine (between_any _ _ _ _).mono ?_; rintro e w3 ⟨rfl, hw3⟩; have hw3 := hw3.symm; subst hw3; first | rw [hb] | rw [hb1] | rw [hb2]) | (go_at_call 25; refine (hWh.out _).mono ?_; rintro e w4 ⟨rfl, hw4⟩; have hw4 := hw4.symm; subst hw4))
  go_ret
  exact ⟨rfl, HB.out⟩
set_option maxHeartbeats 16000000 in
set_option maxRecDepth 100000 in
theorem rop_5n (o : Opd) (w : World) (hw : o.who.size ≤ maxLen) (hk : o.k = 5) (hP : zPB o.p = true) (hA : zAB o.a = true) (hS : zSB o.who = true) (hF : zIB o.pof = true) (hn : o.n < 0 ∨ 9999 < o.n) : Calls Try.prog 16 #[.agg #[.int .i64 o.k, .bool o.p.v, .int .u64 o.p.hi, .int .u64 o.p.lo, .int .i64 o.p.b, .bool o.a.v, .int .u64 o.a.hi, .int .u64 o.a.lo, .string o.who, .int .i64 o.pof, .int .i64 o.n]] w fun e w' => e = .returned (.int .i64 (formE o)) ∧ Below w.heap.size w w' := by
  have hQp : ∀ w : World, (binOp .neq 40 (.agg #[.bool o.p.v, .int .u64 o.p.hi, .int .u64 o.p.lo, .int .i64 o.p.b]) (.agg #[.bool false, .int .u64 0, .int .u64 0, .int .i64 0])).run Try.prog w = .ok (.bool (!zPB o.p)) w := fun w => neq_zpf w o.p
  have hQa : ∀ w : World, (binOp .neq 38 (.agg #[.bool o.a.v, .int .u64 o.a.hi, .int .u64 o.a.lo]) (.agg #[.bool false, .int .u64 0, .int .u64 0])).run Try.prog w = .ok (.bool (!zAB o.a)) w := fun w => neq_zad w o.a
  have HB := Lib.hid (bal (Below.refl w.heap.size w) (.cells #[.int .i64 o.k, .bool o.p.v, .int .u64 o.p.hi, .int .u64 o.p.lo, .int .i64 o.p.b, .bool o.a.v, .int .u64 o.a.hi, .int .u64 o.a.lo, .string o.who, .int .i64 o.pof, .int .i64 o.n] 42))
  have HH := Lib.hid (HasL.new w [.int .i64 o.k, .bool o.p.v, .int .u64 o.p.hi, .int .u64 o.p.lo, .int .i64 o.p.b, .bool o.a.v, .int .u64 o.a.hi, .int .u64 o.a.lo, .string o.who, .int .i64 o.pof, .int .i64 o.n] 42)
  rw [show formE o = 3 by unfold formE; rw [if_neg (by omega), if_neg (by rw [cl5 hk, hP, hA, hS, hF]; simp)]; rw [if_neg (by omega), if_neg (by omega), if_pos hk, rngE_out hn]]
  unfold zSB at hS
  have hF2 : (o.pof != 0) = false := by unfold zIB at hF; simp only [bne, hF]; rfl
  clear hF
  rw [hP] at hQp
  clear hP
  rw [hA] at hQa
  clear hA
  have hb : (decide (1 ≤ o.k) && decide (o.k ≤ 5)) = true := by rw [hk]; decide
  have hb1 := btw_iff.2 hn
  generalize o.k = x0 at *
  generalize o.p.v = x1 at *
  generalize o.p.hi = x2 at *
  generalize o.p.lo = x3 at *
  generalize o.p.b = x4 at *
  generalize o.a.v = x5 at *
  generalize o.a.hi = x6 at *
  generalize o.a.lo = x7 at *
  generalize o.who = x8 at *
  generalize o.pof = x9 at *
  generalize o.n = x10 at *
  subst hk
  clear hw hn
  go_enter Try.func16, Try.ntmps16
  go_wp2_with (first | (go_at_call 15; refine (between_any _ _ _ _).mono ?_; rintro e w3 ⟨rfl, hw3⟩; have hw3 := hw3.symm; subst hw3; first | rw [hb] | rw [hb1] | rw [hb2]))
  go_ret
  exact ⟨rfl, HB.out⟩
set_option maxHeartbeats 16000000 in
set_option maxRecDepth 100000 in
theorem rop_5 (o : Opd) (w : World) (hw : o.who.size ≤ maxLen) (hk : o.k = 5) (hP : zPB o.p = true) (hA : zAB o.a = true) (hS : zSB o.who = true) (hF : zIB o.pof = true) (hn : ¬ (o.n < 0 ∨ 9999 < o.n)) : Calls Try.prog 16 #[.agg #[.int .i64 o.k, .bool o.p.v, .int .u64 o.p.hi, .int .u64 o.p.lo, .int .i64 o.p.b, .bool o.a.v, .int .u64 o.a.hi, .int .u64 o.a.lo, .string o.who, .int .i64 o.pof, .int .i64 o.n]] w fun e w' => e = .returned (.int .i64 (formE o)) ∧ Below w.heap.size w w' := by
  have hQp : ∀ w : World, (binOp .neq 40 (.agg #[.bool o.p.v, .int .u64 o.p.hi, .int .u64 o.p.lo, .int .i64 o.p.b]) (.agg #[.bool false, .int .u64 0, .int .u64 0, .int .i64 0])).run Try.prog w = .ok (.bool (!zPB o.p)) w := fun w => neq_zpf w o.p
  have hQa : ∀ w : World, (binOp .neq 38 (.agg #[.bool o.a.v, .int .u64 o.a.hi, .int .u64 o.a.lo]) (.agg #[.bool false, .int .u64 0, .int .u64 0])).run Try.prog w = .ok (.bool (!zAB o.a)) w := fun w => neq_zad w o.a
  have HB := Lib.hid (bal (Below.refl w.heap.size w) (.cells #[.int .i64 o.k, .bool o.p.v, .int .u64 o.p.hi, .int .u64 o.p.lo, .int .i64 o.p.b, .bool o.a.v, .int .u64 o.a.hi, .int .u64 o.a.lo, .string o.who, .int .i64 o.pof, .int .i64 o.n] 42))
  have HH := Lib.hid (HasL.new w [.int .i64 o.k, .bool o.p.v, .int .u64 o.p.hi, .int .u64 o.p.lo, .int .i64 o.p.b, .bool o.a.v, .int .u64 o.a.hi, .int .u64 o.a.lo, .string o.who, .int .i64 o.pof, .int .i64 o.n] 42)
  rw [show formE o = 0 by unfold formE; rw [if_neg (by omega), if_neg (by rw [cl5 hk, hP, hA, hS, hF]; simp)]; rw [if_neg (by omega), if_neg (by omega), if_pos hk, rngE_in (fun h => hn (.inl h)) (fun h => hn (.inr h))]]
  unfold zSB at hS
  have hF2 : (o.pof != 0) = false := by unfold zIB at hF; simp only [bne, hF]; rfl
  clear hF
  rw [hP] at hQp
  clear hP
  rw [hA] at hQa
  clear hA
  have hb : (decide (1 ≤ o.k) && decide (o.k ≤ 5)) = true := by rw [hk]; decide
  have hb1 := btw_in' hn
  generalize o.k = x0 at *
  generalize o.p.v = x1 at *
  generalize o.p.hi = x2 at *
  generalize o.p.lo = x3 at *
  generalize o.p.b = x4 at *
  generalize o.a.v = x5 at *
  generalize o.a.hi = x6 at *
  generalize o.a.lo = x7 at *
  generalize o.who = x8 at *
  generalize o.pof = x9 at *
  generalize o.n = x10 at *
  subst hk
  clear hw hn
  go_enter Try.func16, Try.ntmps16
  go_wp2_with (first | (go_at_call 15; refine (between_any _ _ _ _).mono ?_; rintro e w3 ⟨rfl, hw3⟩; have hw3 := hw3.symm; subst hw3; first | rw [hb] | rw [hb1] | rw [hb2]))
  go_ret
  exact ⟨rfl, HB.out⟩
theorem rcheckop_any (o : Opd) (w : World) (hw : o.who.size ≤ maxLen) : Calls Try.prog 16 #[.agg #[.int .i64 o.k, .bool o.p.v, .int .u64 o.p.hi, .int .u64 o.p.lo, .int .i64 o.p.b, .bool o.a.v, .int .u64 o.a.hi, .int .u64 o.a.lo, .string o.who, .int .i64 o.pof, .int .i64 o.n]] w fun e w' => e = .returned (.int .i64 (formE o)) ∧ Below w.heap.size w w' := by
  by_cases hr : o.k < 1 ∨ 5 < o.k
  · exact rop_kind o w hw hr
  have hk : o.k = 1 ∨ o.k = 2 ∨ o.k = 3 ∨ o.k = 4 ∨ o.k = 5 := by omega
  clear hr
  rcases hk with hk | hk | hk | hk | hk
  · cases hA : zAB o.a
    · exact rop_1A o w hw hk hA
    · cases hS : zSB o.who
      · exact rop_1S o w hw hk hA hS
      · cases hF : zIB o.pof
        · exact rop_1F o w hw hk hA hS hF
        · cases hN : zIB o.n
          · exact rop_1N o w hw hk hA hS hF hN
          · by_cases hc : o.p.chk = 0
            · cases hn : wideB o.p.v o.p.b
              · exact rop_1o o w hw hk hA hS hF hN hc hn
              · exact rop_1w o w hw hk hA hS hF hN hc hn
            · exact rop_1e o w hw hk hA hS hF hN hc
  · cases hP : zPB o.p
    · exact rop_2P o w hw hk hP
    · cases hS : zSB o.who
      · exact rop_2S o w hw hk hP hS
      · cases hF : zIB o.pof
        · exact rop_2F o w hw hk hP hS hF
        · cases hN : zIB o.n
          · exact rop_2N o w hw hk hP hS hF hN
          · exact rop_2 o w hw hk hP hS hF hN
  · cases hP : zPB o.p
    · exact rop_3P o w hw hk hP
    · cases hA : zAB o.a
      · exact rop_3A o w hw hk hP hA
      · cases hwb : whoB o.who
        · exact rop_3w o w hw hk hP hA hwb
        · by_cases hf : o.pof < 0 ∨ 2 < o.pof
          · exact rop_3f o w hw hk hP hA hwb hf
          · by_cases hn : o.n < 1 ∨ 500 < o.n
            · exact rop_3n o w hw hk hP hA hwb hf hn
            · exact rop_3 o w hw hk hP hA hwb hf hn
  · cases hP : zPB o.p
    · exact rop_4P o w hw hk hP
    · cases hA : zAB o.a
      · exact rop_4A o w hw hk hP hA
      · cases hF : zIB o.pof
        · exact rop_4F o w hw hk hP hA hF
        · cases hN : zIB o.n
          · exact rop_4N o w hw hk hP hA hF hN
          · cases hwb : whoB o.who
            · exact rop_4w o w hw hk hP hA hF hN hwb
            · exact rop_4 o w hw hk hP hA hF hN hwb
  · cases hP : zPB o.p
    · exact rop_5P o w hw hk hP
    · cases hA : zAB o.a
      · exact rop_5A o w hw hk hP hA
      · cases hS : zSB o.who
        · exact rop_5S o w hw hk hP hA hS
        · cases hF : zIB o.pof
          · exact rop_5F o w hw hk hP hA hS hF
          · by_cases hn : o.n < 0 ∨ 9999 < o.n
            · exact rop_5n o w hw hk hP hA hS hF hn
            · exact rop_5 o w hw hk hP hA hS hF hn
end Go.Proofs.Ytclnfkohlklbpaa

namespace Go.Proofs.Ytclnfkohlklbpaa
open Go.RowKit

theorem tailE_zero (l : List En) : tailE (l.take 0) = 0 := by rw [List.take_zero]; rfl
theorem tailE_succ (l : List En) (m : Nat) (h : m < l.length) : tailE (l.take (m + 1)) = l[m].ep := by
  unfold tailE
  rw [List.take_succ_eq_append_getElem h, List.getLast?_append]
  rfl
theorem keepQ2 {w W W' : World} {g o k : Nat} {v0 v1 v2 v3 v4 v5 v6 v7 v8 v9 v10 v11 v12 y : Value} {q : Addr} (h : (W.cell? ⟨g, o + k * 13, none⟩ = some (v0) ∧ W.cell? ⟨g, o + k * 13 + 1, none⟩ = some (v1) ∧ W.cell? ⟨g, o + k * 13 + 2, none⟩ = some (v2) ∧ W.cell? ⟨g, o + k * 13 + 3, none⟩ = some (v3) ∧ W.cell? ⟨g, o + k * 13 + 4, none⟩ = some (v4) ∧ W.cell? ⟨g, o + k * 13 + 5, none⟩ = some (v5) ∧ W.cell? ⟨g, o + k * 13 + 6, none⟩ = some (v6) ∧ W.cell? ⟨g, o + k * 13 + 7, none⟩ = some (v7) ∧ W.cell? ⟨g, o + k * 13 + 8, none⟩ = some (v8) ∧ W.cell? ⟨g, o + k * 13 + 9, none⟩ = some (v9) ∧ W.cell? ⟨g, o + k * 13 + 10, none⟩ = some (v10) ∧ W.cell? ⟨g, o + k * 13 + 11, none⟩ = some (v11) ∧ W.cell? ⟨g, o + k * 13 + 12, none⟩ = some (v12) ∧ W.cell? q = some y) ∧ Below w.heap.size w W) (e : W' = W.drew) : (W'.cell? ⟨g, o + k * 13, none⟩ = some (v0) ∧ W'.cell? ⟨g, o + k * 13 + 1, none⟩ = some (v1) ∧ W'.cell? ⟨g, o + k * 13 + 2, none⟩ = some (v2) ∧ W'.cell? ⟨g, o + k * 13 + 3, none⟩ = some (v3) ∧ W'.cell? ⟨g, o + k * 13 + 4, none⟩ = some (v4) ∧ W'.cell? ⟨g, o + k * 13 + 5, none⟩ = some (v5) ∧ W'.cell? ⟨g, o + k * 13 + 6, none⟩ = some (v6) ∧ W'.cell? ⟨g, o + k * 13 + 7, none⟩ = some (v7) ∧ W'.cell? ⟨g, o + k * 13 + 8, none⟩ = some (v8) ∧ W'.cell? ⟨g, o + k * 13 + 9, none⟩ = some (v9) ∧ W'.cell? ⟨g, o + k * 13 + 10, none⟩ = some (v10) ∧ W'.cell? ⟨g, o + k * 13 + 11, none⟩ = some (v11) ∧ W'.cell? ⟨g, o + k * 13 + 12, none⟩ = some (v12) ∧ W'.cell? q = some y) ∧ Below w.heap.size w W' := by
  subst e
  exact ⟨h.1, h.2.drew⟩
set_option maxHeartbeats 16000000 in
set_option maxRecDepth 100000 in
theorem rlog_any (a : Option Addr) (c : Nat) (l : List En) (w : World) (hs : Lies enE w a l) (hws : ∀ x ∈ l, x.o.who.size ≤ maxLen) :
    Calls Try.prog 6 #[.slice a l.length c] w fun e w' => e = .returned (.int .i64 (logE l)) ∧ Below w.heap.size w w' := by
  by_cases hl : 30 < l.length
  · rw [show logE l = 2 by simp [logE, hl]]
    have hl' : (30 : Int) < (l.length : Int) := by omega
    generalize l.length = N at *
    go_enter Try.func6, Try.ntmps6
    go_wp2
    go_ret
    exact ⟨rfl, Below.refl _ _⟩
  rw [show logE l = logFrom [] l by simp [logE, hl]]
  obtain ⟨N, hN⟩ : ∃ N, N = l.length := ⟨_, rfl⟩
  rw [← hN] at hl ⊢
  have hN30 : N ≤ 30 := by omega
  have hd30 : decide ((30 : Int) < (N : Int)) = false := decide_eq_false (by omega)
  have HN : Hid (N = l.length) := hN
  have HL := Lib.hid hs
  have HWs := Lib.hid hws
  obtain ⟨R, hR⟩ : ∃ R, R = logFrom [] l := ⟨_, rfl⟩
  rw [← hR]
  have HR := Lib.hid hR
  clear hN hl hs hR hws
  go_enter Try.func6, Try.ntmps6
  go_wp2_with fail
  go_loopw [3] (fun vi wr => ∃ k : Nat, vi = .int .i64 k ∧ k ≤ N ∧ Hid (Below w.heap.size w wr) ∧ Hid (R = logFrom (l.take k) (l.drop k)))
    (fun vi _ => N - (intOf vi).toNat)
  case atStart => exact ⟨0, rfl, Nat.zero_le _, Below.refl _ _, HR.out⟩
  case round =>
    clear HR
    obtain ⟨k, rfl, hk, hb, hh⟩ := hrel
    by_cases hkN : k < N
    · have hkl : k < l.length := by have := HN.out; omega
      obtain ⟨g, o, rfl, hg, c0, c1, c2, c3, c4, c5, c6, c7, c8, c9, c10, c11, c12⟩ := HL.out.en k hkl
      have hdec := hh.out
      rw [List.drop_eq_getElem_cons hkl, logFrom, show l.take k ++ [l[k]] = l.take (k + 1) by rw [List.take_succ_eq_append_getElem hkl]] at hdec
      rw [show follE (l.take k) l[k] = if l[k].num = (k : Int) + 1 then (if l[k].ep < 1 ∨ 999 < l[k].ep then 3 else if l[k].ep < tailE (l.take k) then 4 else formE l[k].o) else 4 by unfold follE; rw [show (l.take k).length = k by rw [List.length_take]; omega]] at hdec
      rw [← (bcell hb.out).1 _ _ hg] at c0 c1 c2 c3 c4 c5 c6 c7 c8 c9 c10 c11 c12
      have hC : Hid (∀ W : World, Calls Try.prog 16 #[.agg #[.int .i64 l[k].o.k, .bool l[k].o.p.v, .int .u64 l[k].o.p.hi, .int .u64 l[k].o.p.lo, .int .i64 l[k].o.p.b, .bool l[k].o.a.v, .int .u64 l[k].o.a.hi, .int .u64 l[k].o.a.lo, .string l[k].o.who, .int .i64 l[k].o.pof, .int .i64 l[k].o.n]] W fun e w' => e = .returned (.int .i64 (formE l[k].o)) ∧ Below W.heap.size W w') := fun W => rcheckop_any l[k].o W (HWs.out _ (List.getElem_mem hkl))
      have HB1 := hb
      have hkz : (k : Int) < (N : Int) := by omega
      have hk0 : (0 : Int) ≤ (k : Int) := by omega
      have hgr : g < wr.heap.size := Nat.lt_of_lt_of_le hg hb.out.size
      have hPv : ∀ m, k = m + 1 → ∃ hm : m < l.length, wr.cell? ⟨g, o + m * 13 + 1, none⟩ = some (.int .i64 l[m].ep) ∧ tailE (l.take k) = l[m].ep := fun m e => by
        have hml : m < l.length := by omega
        obtain ⟨g', o', e', _, _, q1, _⟩ := HL.out.en m hml
        obtain ⟨rfl, rfl⟩ : g = g' ∧ o = o' := by simpa using e'
        refine ⟨hml, by rw [(bcell hb.out).1 _ _ hg]; exact q1, ?_⟩
        subst e
        exact tailE_succ l m hml
      have HPv := Lib.hid hPv
      clear hPv
      generalize formE l[k].o = r at *
      generalize hxe : l[k] = x at *
      clear hxe
      generalize x.num = x0 at *
      generalize x.ep = x1 at *
      generalize x.o.k = x2 at *
      generalize x.o.p.v = x3 at *
      generalize x.o.p.hi = x4 at *
      generalize x.o.p.lo = x5 at *
      generalize x.o.p.b = x6 at *
      generalize x.o.a.v = x7 at *
      generalize x.o.a.hi = x8 at *
      generalize x.o.a.lo = x9 at *
      generalize x.o.who = x10 at *
      generalize x.o.pof = x11 at *
      generalize x.o.n = x12 at *
      clear hh hb
      by_cases h0 : x0 = (k : Int) + 1
      · rw [if_pos h0] at hdec
        have b0 : (x0 != (k : Int) + 1) = false := by simp [h0]
        clear h0
        by_cases h1 : x1 < 1 ∨ 999 < x1
        · rw [if_pos h1, if_neg (by decide)] at hdec
          have HD : Hid (R = 3) := hdec
          have hbt := btw_iff.2 h1
          clear hdec h1 HPv
          go_wp2_with (go_at_call 15; refine (between_any _ _ _ _).mono ?_; rintro e w3 ⟨rfl, hw3⟩; have hw3 := hw3.symm; subst hw3; rw [hbt])
          go_ret
          exact ⟨congrArg (fun r => Ending.returned (Value.int .i64 r)) HD.out.symm, HB1.out⟩
        rw [if_neg h1] at hdec
        have hbt := btw_in' h1
        by_cases hz : k = 0
        · have et : tailE (l.take k) = 0 := by rw [hz]; exact tailE_zero l
          rw [et, if_neg (show ¬ x1 < 0 by omega)] at hdec
          have hk00 : ¬ (0 : Int) < (k : Int) := by omega
          have dk00 : decide ((0 : Int) < (k : Int)) = false := decide_eq_false hk00
          have hk0n : ¬ 0 < k := by omega
          have dk0n : decide (0 < k) = false := decide_eq_false hk0n
          clear et h1 HPv hz
          by_cases hx : r = 0
          · subst hx
            rw [if_pos rfl] at hdec
            have HD := Lib.hid hdec
            clear hdec
            go_wp2_with (go_at_call 15; refine (between_any _ _ _ _).mono ?_; rintro e w3 ⟨rfl, hw3⟩; have hw3 := hw3.symm; subst hw3; rw [hbt])
            go_region
            go_wp2_with fail
            refine (hC.out _).mono ?_
            rintro e w2 ⟨rfl, hb2⟩
            have hb3 : Hid (Below w.heap.size w w2) := btr HB1.out.drew hb2
            clear hb2
            go_wp2_with fail
            go_roundw
            case rel => exact ⟨k + 1, by go_num, by omega, hb3, HD⟩
            case measure => simp [intOf]; omega
          · rw [if_neg hx] at hdec
            have HD : Hid (R = r) := hdec
            have hI : (r != 0) = true := by rw [bne_iff_ne]; exact hx
            clear hdec hx
            go_wp2_with (go_at_call 15; refine (between_any _ _ _ _).mono ?_; rintro e w3 ⟨rfl, hw3⟩; have hw3 := hw3.symm; subst hw3; rw [hbt])
            go_region
            go_wp2_with fail
            refine (hC.out _).mono ?_
            rintro e w2 ⟨rfl, hb2⟩
            have hb3 : Hid (Below w.heap.size w w2) := btr HB1.out.drew hb2
            clear hb2
            go_wp2_with fail
            go_ret
            exact ⟨congrArg (fun r => Ending.returned (Value.int .i64 r)) HD.out.symm, hb3.out⟩
        · obtain ⟨m, hm⟩ : ∃ m, k = m + 1 := ⟨k - 1, by omega⟩
          obtain ⟨hml, q1, et⟩ := HPv.out m hm
          rw [et] at hdec
          have hkp : (0 : Int) < (k : Int) := by omega
          have hkpn : 0 < k := by omega
          have dkp : decide (0 < k) = true := decide_eq_true hkpn
          have hwr : IntKind.i64.wrap ((k : Int) - 1) = (m : Int) := by rw [IntKind.wrap_i64]; omega
          have hkm : (k : Int) - 1 = (m : Int) := by omega
          have hm0 : (0 : Int) ≤ (m : Int) := by omega
          have hmN : (m : Int) < (N : Int) := by omega
          generalize l[m].ep = y at *
          have HKm := Lib.hid hkm
          clear et h1 HPv hml hm hz hkm
          have S0 : Hid ((wr.cell? ⟨g, o + k * 13, none⟩ = some (.int .i64 x0) ∧ wr.cell? ⟨g, o + k * 13 + 1, none⟩ = some (.int .i64 x1) ∧ wr.cell? ⟨g, o + k * 13 + 2, none⟩ = some (.int .i64 x2) ∧ wr.cell? ⟨g, o + k * 13 + 3, none⟩ = some (.bool x3) ∧ wr.cell? ⟨g, o + k * 13 + 4, none⟩ = some (.int .u64 x4) ∧ wr.cell? ⟨g, o + k * 13 + 5, none⟩ = some (.int .u64 x5) ∧ wr.cell? ⟨g, o + k * 13 + 6, none⟩ = some (.int .i64 x6) ∧ wr.cell? ⟨g, o + k * 13 + 7, none⟩ = some (.bool x7) ∧ wr.cell? ⟨g, o + k * 13 + 8, none⟩ = some (.int .u64 x8) ∧ wr.cell? ⟨g, o + k * 13 + 9, none⟩ = some (.int .u64 x9) ∧ wr.cell? ⟨g, o + k * 13 + 10, none⟩ = some (.string x10) ∧ wr.cell? ⟨g, o + k * 13 + 11, none⟩ = some (.int .i64 x11) ∧ wr.cell? ⟨g, o + k * 13 + 12, none⟩ = some (.int .i64 x12) ∧ wr.cell? ⟨g, o + m * 13 + 1, none⟩ = some (.int .i64 y)) ∧ Below w.heap.size w wr) := ⟨⟨c0, c1, c2, c3, c4, c5, c6, c7, c8, c9, c10, c11, c12, q1⟩, HB1.out⟩
          have S1 := Lib.hid (keepQ2 S0.out rfl)
          by_cases hy : x1 < y
          · rw [if_pos hy, if_neg (by decide)] at hdec
            have HD : Hid (R = 4) := hdec
            clear hdec
            go_wp2_with (go_at_call 15; refine (between_any _ _ _ _).mono ?_; rintro e w3 ⟨rfl, hw3⟩; have hw3 := hw3.symm; subst hw3; rw [hbt])
            go_region_held3 (fun w' => (w'.cell? ⟨g, o + k * 13, none⟩ = some (.int .i64 x0) ∧ w'.cell? ⟨g, o + k * 13 + 1, none⟩ = some (.int .i64 x1) ∧ w'.cell? ⟨g, o + k * 13 + 2, none⟩ = some (.int .i64 x2) ∧ w'.cell? ⟨g, o + k * 13 + 3, none⟩ = some (.bool x3) ∧ w'.cell? ⟨g, o + k * 13 + 4, none⟩ = some (.int .u64 x4) ∧ w'.cell? ⟨g, o + k * 13 + 5, none⟩ = some (.int .u64 x5) ∧ w'.cell? ⟨g, o + k * 13 + 6, none⟩ = some (.int .i64 x6) ∧ w'.cell? ⟨g, o + k * 13 + 7, none⟩ = some (.bool x7) ∧ w'.cell? ⟨g, o + k * 13 + 8, none⟩ = some (.int .u64 x8) ∧ w'.cell? ⟨g, o + k * 13 + 9, none⟩ = some (.int .u64 x9) ∧ w'.cell? ⟨g, o + k * 13 + 10, none⟩ = some (.string x10) ∧ w'.cell? ⟨g, o + k * 13 + 11, none⟩ = some (.int .i64 x11) ∧ w'.cell? ⟨g, o + k * 13 + 12, none⟩ = some (.int .i64 x12) ∧ w'.cell? ⟨g, o + m * 13 + 1, none⟩ = some (.int .i64 y)) ∧ Below w.heap.size w w')
              (first | with_reducible exact S1.out | with_reducible exact S0.out)
              (fail)
            go_wp2
            go_ret
            exact ⟨congrArg (fun r => Ending.returned (Value.int .i64 r)) HD.out.symm, And.right (by assumption)⟩
          · rw [if_neg hy] at hdec
            have d3 : decide (x1 < y) = false := decide_eq_false hy
            clear hy
            by_cases hx : r = 0
            · subst hx
              rw [if_pos rfl] at hdec
              have HD := Lib.hid hdec
              clear hdec
              go_wp2_with (go_at_call 15; refine (between_any _ _ _ _).mono ?_; rintro e w3 ⟨rfl, hw3⟩; have hw3 := hw3.symm; subst hw3; rw [hbt])
              go_region_held3 (fun w' => (w'.cell? ⟨g, o + k * 13, none⟩ = some (.int .i64 x0) ∧ w'.cell? ⟨g, o + k * 13 + 1, none⟩ = some (.int .i64 x1) ∧ w'.cell? ⟨g, o + k * 13 + 2, none⟩ = some (.int .i64 x2) ∧ w'.cell? ⟨g, o + k * 13 + 3, none⟩ = some (.bool x3) ∧ w'.cell? ⟨g, o + k * 13 + 4, none⟩ = some (.int .u64 x4) ∧ w'.cell? ⟨g, o + k * 13 + 5, none⟩ = some (.int .u64 x5) ∧ w'.cell? ⟨g, o + k * 13 + 6, none⟩ = some (.int .i64 x6) ∧ w'.cell? ⟨g, o + k * 13 + 7, none⟩ = some (.bool x7) ∧ w'.cell? ⟨g, o + k * 13 + 8, none⟩ = some (.int .u64 x8) ∧ w'.cell? ⟨g, o + k * 13 + 9, none⟩ = some (.int .u64 x9) ∧ w'.cell? ⟨g, o + k * 13 + 10, none⟩ = some (.string x10) ∧ w'.cell? ⟨g, o + k * 13 + 11, none⟩ = some (.int .i64 x11) ∧ w'.cell? ⟨g, o + k * 13 + 12, none⟩ = some (.int .i64 x12) ∧ w'.cell? ⟨g, o + m * 13 + 1, none⟩ = some (.int .i64 y)) ∧ Below w.heap.size w w')
                (first | with_reducible exact S1.out | with_reducible exact S0.out)
                (fail)
              go_wp2_with fail
              refine (hC.out _).mono ?_
              rintro e w2 ⟨rfl, hb2⟩
              have hb3 : Hid (Below w.heap.size w w2) := btr (And.right (by assumption)) hb2
              clear hb2
              go_wp2_with fail
              go_roundw
              case rel => exact ⟨k + 1, by go_num, by omega, hb3, HD⟩
              case measure => simp [intOf]; omega
            · rw [if_neg hx] at hdec
              have HD : Hid (R = r) := hdec
              have hI : (r != 0) = true := by rw [bne_iff_ne]; exact hx
              clear hdec hx
              go_wp2_with (go_at_call 15; refine (between_any _ _ _ _).mono ?_; rintro e w3 ⟨rfl, hw3⟩; have hw3 := hw3.symm; subst hw3; rw [hbt])
              go_region_held3 (fun w' => (w'.cell? ⟨g, o + k * 13, none⟩ = some (.int .i64 x0) ∧ w'.cell? ⟨g, o + k * 13 + 1, none⟩ = some (.int .i64 x1) ∧ w'.cell? ⟨g, o + k * 13 + 2, none⟩ = some (.int .i64 x2) ∧ w'.cell? ⟨g, o + k * 13 + 3, none⟩ = some (.bool x3) ∧ w'.cell? ⟨g, o + k * 13 + 4, none⟩ = some (.int .u64 x4) ∧ w'.cell? ⟨g, o + k * 13 + 5, none⟩ = some (.int .u64 x5) ∧ w'.cell? ⟨g, o + k * 13 + 6, none⟩ = some (.int .i64 x6) ∧ w'.cell? ⟨g, o + k * 13 + 7, none⟩ = some (.bool x7) ∧ w'.cell? ⟨g, o + k * 13 + 8, none⟩ = some (.int .u64 x8) ∧ w'.cell? ⟨g, o + k * 13 + 9, none⟩ = some (.int .u64 x9) ∧ w'.cell? ⟨g, o + k * 13 + 10, none⟩ = some (.string x10) ∧ w'.cell? ⟨g, o + k * 13 + 11, none⟩ = some (.int .i64 x11) ∧ w'.cell? ⟨g, o + k * 13 + 12, none⟩ = some (.int .i64 x12) ∧ w'.cell? ⟨g, o + m * 13 + 1, none⟩ = some (.int .i64 y)) ∧ Below w.heap.size w w')
                (first | with_reducible exact S1.out | with_reducible exact S0.out)
                (fail)
              go_wp2_with fail
              refine (hC.out _).mono ?_
              rintro e w2 ⟨rfl, hb2⟩
              have hb3 : Hid (Below w.heap.size w w2) := btr (And.right (by assumption)) hb2
              clear hb2
              go_wp2_with fail
              go_ret
              exact ⟨congrArg (fun r => Ending.returned (Value.int .i64 r)) HD.out.symm, hb3.out⟩
      · rw [if_neg h0, if_neg (by decide)] at hdec
        have b0 : (x0 != (k : Int) + 1) = true := by rw [bne_iff_ne]; exact h0
        have HD : Hid (R = 4) := hdec
        clear hdec h0 HPv
        go_wp2
        go_ret
        exact ⟨congrArg (fun r => Ending.returned (Value.int .i64 r)) HD.out.symm, HB1.out⟩
    · obtain rfl : k = N := by omega
      have hd := hh.out
      rw [List.drop_eq_nil_of_le (by have := HN.out; omega), logFrom] at hd
      have HD : Hid (R = 0) := hd
      have hkk : ¬ (k : Int) < (k : Int) := by omega
      clear hd hh
      go_wp2_with fail
      go_ret
      exact ⟨congrArg (fun r => Ending.returned (Value.int .i64 r)) HD.out.symm, hb.out⟩
end Go.Proofs.Ytclnfkohlklbpaa
