/- The document's answer, its small functions: CheckAddr, between, Digits, numberOf, bitsOf. -/
import Derived.Test.YtollaiabcnmebaaDoorBack1
set_option linter.unusedVariables false
set_option linter.unusedSimpArgs false
namespace Go.Proofs.YtollaiabcnmebaaDoor
open Go.RowKit

theorem rcheck_any (v : Bool) (hi lo : Int) (w : World) (h0 : 0 ≤ hi) (l0 : 0 ≤ lo) :
    Calls Tryd.prog 8 #[.agg #[.bool v, .int .u64 hi, .int .u64 lo]] w fun e w' => e = .returned (.int .i64 (chk v hi lo)) ∧ Below w.heap.size w w' := by
  cases v
  · by_cases h : hi = 0
    · by_cases hl : 4294967295 < lo
      · have e : chk false hi lo = 3 := by simp [chk, hl]
        rw [e]
        subst h
        go_enter Tryd.func8, Tryd.ntmps8
        go_wp2
        go_ret
        exact ⟨rfl, bal (Below.refl _ _) _⟩
      · have e : chk false hi lo = 0 := by simp [chk, h]; omega
        rw [e]
        subst h
        have hl' : lo ≤ 4294967295 := by omega
        go_enter Tryd.func8, Tryd.ntmps8
        go_wp2
        go_ret
        exact ⟨rfl, bal (Below.refl _ _) _⟩
    · have e : chk false hi lo = 3 := by simp [chk, h]
      rw [e]
      have h' : 0 < hi := by omega
      go_enter Tryd.func8, Tryd.ntmps8
      go_wp2
      go_ret
      exact ⟨rfl, bal (Below.refl _ _) _⟩
  · have e : chk true hi lo = 0 := by simp [chk]
    rw [e]
    go_enter Tryd.func8, Tryd.ntmps8
    go_wp2
    go_ret
    exact ⟨rfl, bal (Below.refl _ _) _⟩

theorem between_any (n a b : Int) (w : World) :
    Calls Tryd.prog 39 #[.int .i64 n, .int .i64 a, .int .i64 b] w fun e w' => e = .returned (.bool (decide (a ≤ n) && decide (n ≤ b))) ∧ w' = w := by
  by_cases h : a ≤ n
  · have hd : decide (a ≤ n) = true := decide_eq_true h
    rw [hd, Bool.true_and]
    go_enter Tryd.func39, Tryd.ntmps39
    go_wp2
    go_ret
    exact ⟨rfl, rfl⟩
  · have hd : decide (a ≤ n) = false := decide_eq_false h
    rw [hd, Bool.false_and]
    go_enter Tryd.func39, Tryd.ntmps39
    go_wp2
    go_ret
    exact ⟨rfl, rfl⟩

def digsF (b : Nat) : Nat → Nat → List UInt8
  | 0, n => [hexd (n % b)]
  | k + 1, n => if n < b ∨ b < 2 then [hexd (n % b)] else digsF b k (n / b) ++ [hexd (n % b)]
theorem digsF_zero (b : Nat) : ∀ k, digsF b k 0 = [hexd (0 % b)]
  | 0 => rfl
  | k + 1 => by rw [digsF, if_pos (by omega)]
theorem digsF_same (b : Nat) : ∀ k m n, n ≤ k → n ≤ m → digsF b k n = digsF b m n
  | 0, m, n, h, _ => by
    obtain rfl : n = 0 := by omega
    rw [digsF_zero, digsF_zero]
  | k + 1, 0, n, _, h => by
    obtain rfl : n = 0 := by omega
    rw [digsF_zero, digsF_zero]
  | k + 1, m + 1, n, h1, h2 => by
    rw [digsF, digsF]
    by_cases h : n < b ∨ b < 2
    · rw [if_pos h, if_pos h]
    · have hd : n / b < n := Nat.div_lt_self (by omega) (by omega)
      rw [if_neg h, if_neg h, digsF_same b k m (n / b) (by omega) (by omega)]
/-- The digits of a number, of a base up to sixteen. -/
def digs (b n : Nat) : List UInt8 := digsF b n n
theorem digs_eq (b n : Nat) : digs b n = if h : n < b ∨ b < 2 then [hexd (n % b)] else digs b (n / b) ++ [hexd (n % b)] := by
  unfold digs
  cases n with
  | zero => rw [digsF_zero, dif_pos (by omega)]
  | succ k =>
    rw [digsF]
    by_cases h : k + 1 < b ∨ b < 2
    · rw [if_pos h, dif_pos h]
    · have hd : (k + 1) / b < k + 1 := Nat.div_lt_self (by omega) (by omega)
      rw [if_neg h, dif_neg h, digsF_same b k ((k + 1) / b) ((k + 1) / b) (by omega) (Nat.le_refl _)]

theorem digs_len (b : Nat) (hb : 2 ≤ b) : ∀ k n, n < 2 ^ (k + 1) → (digs b n).length ≤ k + 1
  | 0, n, h => by rw [digs_eq, dif_pos (.inl (by simp at h; omega))]; simp
  | k + 1, n, h => by
    rw [digs_eq]
    split
    · simp
    · have h1 : n / b ≤ n / 2 := Nat.div_le_div_left hb (by decide)
      have h2 : n / 2 < 2 ^ (k + 1) := by rw [Nat.pow_succ] at h; omega
      have := digs_len b hb k (n / b) (by omega)
      simp; omega

theorem dig_slice (r : Int) (h0 : 0 ≤ r) (h1 : r < 16) (W : World) : (Instr.sliceAt 9 (.string ⟨#[48, 49, 50, 51, 52, 53, 54, 55, 56, 57, 97, 98, 99, 100, 101, 102]⟩) (some (.int .i64 r)) (some (.int .i64 (r + 1))) none).run Tryd.prog W = .ok (.string ⟨#[hexd r.toNat]⟩) W := by
  have : r = 0 ∨ r = 1 ∨ r = 2 ∨ r = 3 ∨ r = 4 ∨ r = 5 ∨ r = 6 ∨ r = 7 ∨ r = 8 ∨ r = 9 ∨ r = 10 ∨ r = 11 ∨ r = 12 ∨ r = 13 ∨ r = 14 ∨ r = 15 := by omega
  rcases this with rfl | rfl | rfl | rfl | rfl | rfl | rfl | rfl | rfl | rfl | rfl | rfl | rfl | rfl | rfl | rfl <;> simp [go_sem] <;> rfl

set_option maxHeartbeats 4000000 in
set_option maxRecDepth 100000 in
theorem digits_any (b : Nat) (hb0 : 2 ≤ b) (hb1 : b ≤ 16) : ∀ (n : Nat), n < 2147483648 → ∀ (w : World),
    Calls Tryd.prog 22 #[.int .i64 n, .int .i64 b] w fun e w' => e = .returned (.string ⟨(digs b n).toArray⟩) ∧ Below w.heap.size w w' := by
  intro n
  induction n using Nat.strongRecOn with
  | _ n ih =>
    intro hn w
    rw [digs_eq]
    have hb' : (b : Int) ≠ 0 := by omega
    have hbz : ((b : Int) == 0) = false := by rw [beq_eq_false_iff_ne]; omega
    have hrn : (n : Int) % (b : Int) = ((n % b : Nat) : Int) := by omega
    have hlt : n % b < b := Nat.mod_lt _ (by omega)
    have hsl := dig_slice ((n % b : Nat) : Int) (by omega) (by omega)
    rw [Int.toNat_natCast] at hsl
    obtain ⟨r, hr⟩ : ∃ r : Int, r = ((n % b : Nat) : Int) := ⟨_, rfl⟩
    rw [← hr] at hsl hrn
    have r0 : 0 ≤ r := by omega
    have r1 : r < 16 := by omega
    by_cases h : n < b
    · rw [dif_pos (.inl h)]
      generalize hexd (n % b) = d at hsl ⊢
      clear hr hlt ih
      go_enter Tryd.func22, Tryd.ntmps22
      go_wp2
      go_region
      go_wp2
      go_ret
      exact ⟨rfl, (Below.refl _ _).drew⟩
    · rw [dif_neg (by omega)]
      have hm : n / b < n := Nat.div_lt_self (by omega) (by omega)
      have HR : Hid (∀ w : World, Calls Tryd.prog 22 #[.int .i64 ((n / b : Nat) : Int), .int .i64 b] w fun e w' => e = .returned (.string ⟨(digs b (n / b)).toArray⟩) ∧ Below w.heap.size w w') := fun w => ih (n / b) hm (by omega) w
      have hq : (n : Int) / (b : Int) = ((n / b : Nat) : Int) := by omega
      have hl := digs_len b hb0 30 (n / b) (by omega)
      have hp : ∀ W : World, (Op.stringOp .add ⟨(digs b (n / b)).toArray⟩ ⟨#[hexd (n % b)]⟩).run Tryd.prog W = .ok (.string ⟨(digs b (n / b) ++ [hexd (n % b)]).toArray⟩) W := fun W =>
        run_string_add_lists (P := Tryd.prog) W (digs b (n / b)) [hexd (n % b)] (by omega) (by simp)
      generalize digs b (n / b) ++ [hexd (n % b)] = t at hp ⊢
      generalize digs b (n / b) = t' at hp HR
      generalize hexd (n % b) = d at hsl hp
      obtain ⟨q, hq'⟩ : ∃ q : Int, q = ((n / b : Nat) : Int) := ⟨_, rfl⟩
      rw [← hq'] at HR hq
      have q0 : 0 ≤ q := by rw [hq']; exact Int.natCast_nonneg _
      have q1 : q < 2147483648 := by omega
      clear hr hlt ih hm hl hq'
      go_enter Tryd.func22, Tryd.ntmps22
      go_wp2_with fail
      go_region
      go_wp2_with fail
      refine (HR.out _).mono ?_
      rintro e w1 ⟨rfl, hb⟩
      go_wp2
      go_ret
      exact ⟨rfl, btr (Below.refl _ _).drew hb⟩
end Go.Proofs.YtollaiabcnmebaaDoor
