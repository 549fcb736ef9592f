/- The document's answer: its small functions, bits and texts, words of a text (several texts as one: a claim holds at most 60 files). -/
import Derived.Test.YtollaiabcnmebaaGreatDoorBack1
set_option linter.unusedVariables false
set_option linter.unusedSimpArgs false
namespace Go.Proofs.YtollaiabcnmebaaGreatDoor
open Go.RowKit

theorem rcheck_any (v : Bool) (hi lo : Int) (w : World) (h0 : 0 ≤ hi) (l0 : 0 ≤ lo) :
    Calls Tryz.prog 28 #[.agg #[.bool v, .int .u64 hi, .int .u64 lo]] w fun e w' => e = .returned (.int .i64 (chk v hi lo)) ∧ Below w.heap.size w w' := by
  cases v
  · by_cases h : hi = 0
    · by_cases hl : 4294967295 < lo
      · have e : chk false hi lo = 3 := by simp [chk, hl]
        rw [e]
        subst h
        go_enter Tryz.func28, Tryz.ntmps28
        go_wp2
        go_ret
        exact ⟨rfl, bal (Below.refl _ _) _⟩
      · have e : chk false hi lo = 0 := by simp [chk, h]; omega
        rw [e]
        subst h
        have hl' : lo ≤ 4294967295 := by omega
        go_enter Tryz.func28, Tryz.ntmps28
        go_wp2
        go_ret
        exact ⟨rfl, bal (Below.refl _ _) _⟩
    · have e : chk false hi lo = 3 := by simp [chk, h]
      rw [e]
      have h' : 0 < hi := by omega
      go_enter Tryz.func28, Tryz.ntmps28
      go_wp2
      go_ret
      exact ⟨rfl, bal (Below.refl _ _) _⟩
  · have e : chk true hi lo = 0 := by simp [chk]
    rw [e]
    go_enter Tryz.func28, Tryz.ntmps28
    go_wp2
    go_ret
    exact ⟨rfl, bal (Below.refl _ _) _⟩

theorem between_any (n a b : Int) (w : World) :
    Calls Tryz.prog 29 #[.int .i64 n, .int .i64 a, .int .i64 b] w fun e w' => e = .returned (.bool (decide (a ≤ n) && decide (n ≤ b))) ∧ w' = w := by
  by_cases h : a ≤ n
  · have hd : decide (a ≤ n) = true := decide_eq_true h
    rw [hd, Bool.true_and]
    go_enter Tryz.func29, Tryz.ntmps29
    go_wp2
    go_ret
    exact ⟨rfl, rfl⟩
  · have hd : decide (a ≤ n) = false := decide_eq_false h
    rw [hd, Bool.false_and]
    go_enter Tryz.func29, Tryz.ntmps29
    go_wp2
    go_ret
    exact ⟨rfl, rfl⟩

def digsF (b : Nat) : Nat → Nat → List UInt8
  | 0, n => [hexd (n % b)]
  | k + 1, n => if n < b ∨ b < 2 then [hexd (n % b)] else digsF b k (n / b) ++ [hexd (n % b)]
theorem digsF_zero (b : Nat) : ∀ k, digsF b k 0 = [hexd (0 % b)]
  | 0 => rfl
  | k + 1 => by rw [digsF, if_pos (by omega)]
theorem digsF_same (b : Nat) : ∀ k m n, n ≤ k → n ≤ m → digsF b k n = digsF b m n
  | 0, m, n, h, _ => by
    obtain rfl : n = 0 := by omega
    rw [digsF_zero, digsF_zero]
  | k + 1, 0, n, _, h => by
    obtain rfl : n = 0 := by omega
    rw [digsF_zero, digsF_zero]
  | k + 1, m + 1, n, h1, h2 => by
    rw [digsF, digsF]
    by_cases h : n < b ∨ b < 2
    · rw [if_pos h, if_pos h]
    · have hd : n / b < n := Nat.div_lt_self (by omega) (by omega)
      rw [if_neg h, if_neg h, digsF_same b k m (n / b) (by omega) (by omega)]
/-- The digits of a number, of a base up to sixteen. -/
def digs (b n : Nat) : List UInt8 := digsF b n n
theorem digs_eq (b n : Nat) : digs b n = if h : n < b ∨ b < 2 then [hexd (n % b)] else digs b (n / b) ++ [hexd (n % b)] := by
  unfold digs
  cases n with
  | zero => rw [digsF_zero, dif_pos (by omega)]
  | succ k =>
    rw [digsF]
    by_cases h : k + 1 < b ∨ b < 2
    · rw [if_pos h, dif_pos h]
    · have hd : (k + 1) / b < k + 1 := Nat.div_lt_self (by omega) (by omega)
      rw [if_neg h, dif_neg h, digsF_same b k ((k + 1) / b) ((k + 1) / b) (by omega) (Nat.le_refl _)]

theorem digs_len (b : Nat) (hb : 2 ≤ b) : ∀ k n, n < 2 ^ (k + 1) → (digs b n).length ≤ k + 1
  | 0, n, h => by rw [digs_eq, dif_pos (.inl (by simp at h; omega))]; simp
  | k + 1, n, h => by
    rw [digs_eq]
    split
    · simp
    · have h1 : n / b ≤ n / 2 := Nat.div_le_div_left hb (by decide)
      have h2 : n / 2 < 2 ^ (k + 1) := by rw [Nat.pow_succ] at h; omega
      have := digs_len b hb k (n / b) (by omega)
      simp; omega

theorem dig_slice (r : Int) (h0 : 0 ≤ r) (h1 : r < 16) (W : World) : (Instr.sliceAt 9 (.string ⟨#[48, 49, 50, 51, 52, 53, 54, 55, 56, 57, 97, 98, 99, 100, 101, 102]⟩) (some (.int .i64 r)) (some (.int .i64 (r + 1))) none).run Tryz.prog W = .ok (.string ⟨#[hexd r.toNat]⟩) W := by
  have : r = 0 ∨ r = 1 ∨ r = 2 ∨ r = 3 ∨ r = 4 ∨ r = 5 ∨ r = 6 ∨ r = 7 ∨ r = 8 ∨ r = 9 ∨ r = 10 ∨ r = 11 ∨ r = 12 ∨ r = 13 ∨ r = 14 ∨ r = 15 := by omega
  rcases this with rfl | rfl | rfl | rfl | rfl | rfl | rfl | rfl | rfl | rfl | rfl | rfl | rfl | rfl | rfl | rfl <;> simp [go_sem] <;> rfl

set_option maxHeartbeats 4000000 in
set_option maxRecDepth 100000 in
theorem digits_any (b : Nat) (hb0 : 2 ≤ b) (hb1 : b ≤ 16) : ∀ (n : Nat), n < 2147483648 → ∀ (w : World),
    Calls Tryz.prog 32 #[.int .i64 n, .int .i64 b] w fun e w' => e = .returned (.string ⟨(digs b n).toArray⟩) ∧ Below w.heap.size w w' := by
  intro n
  induction n using Nat.strongRecOn with
  | _ n ih =>
    intro hn w
    rw [digs_eq]
    have hb' : (b : Int) ≠ 0 := by omega
    have hbz : ((b : Int) == 0) = false := by rw [beq_eq_false_iff_ne]; omega
    have hrn : (n : Int) % (b : Int) = ((n % b : Nat) : Int) := by omega
    have hlt : n % b < b := Nat.mod_lt _ (by omega)
    have hsl := dig_slice ((n % b : Nat) : Int) (by omega) (by omega)
    rw [Int.toNat_natCast] at hsl
    obtain ⟨r, hr⟩ : ∃ r : Int, r = ((n % b : Nat) : Int) := ⟨_, rfl⟩
    rw [← hr] at hsl hrn
    have r0 : 0 ≤ r := by omega
    have r1 : r < 16 := by omega
    by_cases h : n < b
    · rw [dif_pos (.inl h)]
      generalize hexd (n % b) = d at hsl ⊢
      clear hr hlt ih
      go_enter Tryz.func32, Tryz.ntmps32
      go_wp2
      go_region
      go_wp2
      go_ret
      exact ⟨rfl, (Below.refl _ _).drew⟩
    · rw [dif_neg (by omega)]
      have hm : n / b < n := Nat.div_lt_self (by omega) (by omega)
      have HR : Hid (∀ w : World, Calls Tryz.prog 32 #[.int .i64 ((n / b : Nat) : Int), .int .i64 b] w fun e w' => e = .returned (.string ⟨(digs b (n / b)).toArray⟩) ∧ Below w.heap.size w w') := fun w => ih (n / b) hm (by omega) w
      have hq : (n : Int) / (b : Int) = ((n / b : Nat) : Int) := by omega
      have hl := digs_len b hb0 30 (n / b) (by omega)
      have hp : ∀ W : World, (Op.stringOp .add ⟨(digs b (n / b)).toArray⟩ ⟨#[hexd (n % b)]⟩).run Tryz.prog W = .ok (.string ⟨(digs b (n / b) ++ [hexd (n % b)]).toArray⟩) W := fun W =>
        run_string_add_lists (P := Tryz.prog) W (digs b (n / b)) [hexd (n % b)] (by omega) (by simp)
      generalize digs b (n / b) ++ [hexd (n % b)] = t at hp ⊢
      generalize digs b (n / b) = t' at hp HR
      generalize hexd (n % b) = d at hsl hp
      obtain ⟨q, hq'⟩ : ∃ q : Int, q = ((n / b : Nat) : Int) := ⟨_, rfl⟩
      rw [← hq'] at HR hq
      have q0 : 0 ≤ q := by rw [hq']; exact Int.natCast_nonneg _
      have q1 : q < 2147483648 := by omega
      clear hr hlt ih hm hl hq'
      go_enter Tryz.func32, Tryz.ntmps32
      go_wp2_with fail
      go_region
      go_wp2_with fail
      refine (HR.out _).mono ?_
      rintro e w1 ⟨rfl, hb⟩
      go_wp2
      go_ret
      exact ⟨rfl, btr (Below.refl _ _).drew hb⟩
end Go.Proofs.YtollaiabcnmebaaGreatDoor

namespace Go.Proofs.YtollaiabcnmebaaGreatDoor
open Go.RowKit

/-- The last k bits of a number, as 0 and 1. -/
def bin : Nat → Nat → List UInt8
  | 0, _ => []
  | k + 1, n => bin k (n / 2) ++ [hexd (n % 2)]
theorem bin_length : ∀ (k n : Nat), (bin k n).length = k
  | 0, _ => rfl
  | k + 1, n => by rw [bin, List.length_append, bin_length k]; rfl
def bitv (c : UInt8) : Nat := if c = 49 then 1 else 0
/-- The number that bits tell. -/
def vbin : Nat → List UInt8 → Nat
  | acc, [] => acc
  | acc, c :: r => vbin (acc * 2 + bitv c) r
/-- Bits: 0 or 1 each. -/
def IsBin (l : List UInt8) : Prop := ∀ c ∈ l, c = 48 ∨ c = 49

theorem vbin_append : ∀ (l r : List UInt8) (acc : Nat), vbin acc (l ++ r) = vbin (vbin acc l) r
  | [], r, acc => by simp only [List.nil_append, vbin]
  | c :: l, r, acc => by simp only [List.cons_append, vbin]; exact vbin_append l r _
theorem vbin_lt : ∀ (l : List UInt8) (acc k : Nat), IsBin l → acc < 2 ^ k → vbin acc l < 2 ^ (k + l.length)
  | [], acc, k, _, h => by simpa [vbin] using h
  | c :: l, acc, k, hb, h => by
    rw [vbin]
    have hc := hb c (by simp)
    have : acc * 2 + bitv c < 2 ^ (k + 1) := by
      rw [Nat.pow_succ]
      rcases hc with rfl | rfl
      · simp [bitv]; omega
      · simp [bitv]; omega
    have := vbin_lt l _ (k + 1) (fun x hx => hb x (List.mem_cons_of_mem _ hx)) this
    rw [List.length_cons, show k + (l.length + 1) = k + 1 + l.length by omega]
    exact this

theorem data_get (s : ByteArray) (k : Nat) (h : k < s.size) : s.data.toList[k]'(by rw [size_list]; exact h) = s[k] := rfl

set_option maxHeartbeats 4000000 in
set_option maxRecDepth 100000 in
theorem numberOf_any (s : ByteArray) (w : World) (hs : s.size ≤ 32) (hb : IsBin s.data.toList) :
    Calls Tryz.prog 48 #[.string s] w fun e w' => e = .returned (.int .i64 (vbin 0 s.data.toList)) ∧ w' = w := by
  obtain ⟨N, hN⟩ : ∃ N, N = s.size := ⟨_, rfl⟩
  have hl := size_list s
  have HN : Hid (N = s.size) := hN
  have hN32 : N ≤ 32 := by omega
  go_enter Tryz.func48, Tryz.ntmps48
  go_wp2_with fail
  go_loop [3, 4] (fun vn vi => ∃ (k acc : Nat) (a : Int), vi = .int .i64 k ∧ vn = .int .i64 a ∧ k ≤ N ∧ 0 ≤ a ∧ a < 4294967296 ∧ Hid (a = (acc : Int) ∧ acc < 2 ^ k ∧ vbin 0 s.data.toList = vbin acc (s.data.toList.drop k)))
    (fun _ vi => N - (intOf vi).toNat)
  case atStart => exact ⟨0, 0, 0, rfl, rfl, Nat.zero_le _, by omega, by omega, rfl, by decide, rfl⟩
  case round =>
    obtain ⟨k, acc, a, rfl, rfl, hk, a0, a1, hh⟩ := hrel
    have hN := HN.out
    by_cases hkN : k < N
    · obtain ⟨ha, hacc, hdec⟩ := hh.out
      have hks : k < s.size := by omega
      have hmem : s[k] ∈ s.data.toList := by rw [← data_get s k hks]; exact List.getElem_mem _
      have hbit := hb _ hmem
      rw [List.drop_eq_getElem_cons (show k < s.data.toList.length by omega), vbin, data_get s k hks] at hdec
      have hki : (k : Int) < (s.size : Int) := by omega
      have hk0 : (0 : Int) ≤ (k : Int) := by omega
      have hpow : 2 ^ k ≤ 2 ^ 31 := Nat.pow_le_pow_right (by decide) (by omega)
      have HD : Hid (acc * 2 + bitv s[k] < 2 ^ (k + 1) ∧ vbin 0 s.data.toList = vbin (acc * 2 + bitv s[k]) (s.data.toList.drop (k + 1)) ∧ a * 2 + (s[k].toNat : Int) - 48 = ((acc * 2 + bitv s[k] : Nat) : Int)) := by
        refine ⟨?_, hdec, ?_⟩
        · rw [Nat.pow_succ]; rcases hbit with h | h <;> simp [bitv, h] <;> omega
        · rcases hbit with h | h <;> simp [bitv, h] <;> omega
      have hc1 : 48 ≤ (s[k].toNat : Int) ∧ (s[k].toNat : Int) ≤ 49 := by rcases hbit with h | h <;> rw [h] <;> decide
      have ha1 : a < 2147483648 := by omega
      have hsk : s[k]? = some s[k] := by simp [hks]
      clear hdec hacc hbit hmem hpow ha hh
      go_wp2_with fail
      refine ⟨⟨k + 1, acc * 2 + bitv s[k], 2 * a + (s[k].toNat : Int) - 48, by go_num, rfl, by omega, by omega, by omega, ?_⟩, ?_⟩
      · obtain ⟨h1, h2, h3⟩ := HD.out
        exact ⟨by rw [← h3]; omega, h1, h2⟩
      · simp [intOf]; omega
    · obtain ⟨ha, hacc, hdec⟩ := hh.out
      rw [List.drop_eq_nil_of_le (by omega), vbin] at hdec
      have HD : Hid ((vbin 0 s.data.toList : Int) = (acc : Int)) := by rw [Hid, hdec]
      have hNk : ¬ ((k : Int) < (s.size : Int)) := by omega
      clear hdec hh
      subst ha
      go_wp2_with fail
      go_ret
      exact ⟨by rw [HD.out]; rfl, rfl⟩

set_option maxHeartbeats 4000000 in
set_option maxRecDepth 100000 in
theorem bitsOf_any : ∀ (k n : Nat) (w : World), k ≤ 32 → n < 4294967296 →
    Calls Tryz.prog 60 #[.int .i64 n, .int .i64 k] w fun e w' => e = .returned (.string ⟨(bin k n).toArray⟩) ∧ Below w.heap.size w w'
  | 0, n, w, _, _ => by
    go_enter Tryz.func60, Tryz.ntmps60
    go_wp2
    go_ret
    exact ⟨rfl, Below.refl _ _⟩
  | k + 1, n, w, hk, hn => by
    have HR : Hid (∀ w : World, Calls Tryz.prog 60 #[.int .i64 ((n / 2 : Nat) : Int), .int .i64 (k : Int)] w fun e w' => e = .returned (.string ⟨(bin k (n / 2)).toArray⟩) ∧ Below w.heap.size w w') := fun w => bitsOf_any k (n / 2) w (by omega) (by omega)
    have HD : Hid (∀ w : World, Calls Tryz.prog 32 #[.int .i64 ((n % 2 : Nat) : Int), .int .i64 2] w fun e w' => e = .returned (.string ⟨#[hexd (n % 2)]⟩) ∧ Below w.heap.size w w') := by
      intro w
      have := digits_any 2 (by omega) (by omega) (n % 2) (by omega) w
      rw [digs_eq, dif_pos (.inl (by omega)), Nat.mod_mod] at this
      exact this
    have hp : ∀ W : World, (Op.stringOp .add ⟨(bin k (n / 2)).toArray⟩ ⟨#[hexd (n % 2)]⟩).run Tryz.prog W = .ok (.string ⟨(bin (k + 1) n).toArray⟩) W := fun W =>
      run_string_add_lists (P := Tryz.prog) W (bin k (n / 2)) [hexd (n % 2)] (by rw [bin_length]; omega) (by simp)
    have hk1 : (((k : Int) + 1) == 0) = false := by rw [beq_eq_false_iff_ne]; omega
    have hkz : (((k + 1 : Nat) : Int)) = (k : Int) + 1 := by omega
    rw [hkz]
    have hq : (n : Int) / 2 = ((n / 2 : Nat) : Int) := by omega
    have hr : (n : Int) % 2 = ((n % 2 : Nat) : Int) := by omega
    generalize bin (k + 1) n = t at hp ⊢
    generalize bin k (n / 2) = t' at hp HR
    generalize hexd (n % 2) = d at hp HD
    obtain ⟨q, hq'⟩ : ∃ q : Int, q = ((n / 2 : Nat) : Int) := ⟨_, rfl⟩
    obtain ⟨r, hr'⟩ : ∃ r : Int, r = ((n % 2 : Nat) : Int) := ⟨_, rfl⟩
    rw [← hq'] at HR hq
    rw [← hr'] at HD hr
    have q0 : 0 ≤ q := by omega
    have q1 : q < 4294967296 := by omega
    clear hq' hr' hkz
    go_enter Tryz.func60, Tryz.ntmps60
    go_wp2_with fail
    refine (HR.out _).mono ?_
    rintro e w1 ⟨rfl, hb1⟩
    go_wp2_with fail
    refine (HD.out _).mono ?_
    rintro e w2 ⟨rfl, hb2⟩
    go_wp2
    go_ret
    exact ⟨rfl, btr hb1 hb2⟩
end Go.Proofs.YtollaiabcnmebaaGreatDoor

namespace Go.Proofs.YtollaiabcnmebaaGreatDoor

theorem bitd (n : Nat) : bitv (hexd (n % 2)) = n % 2 ∧ (hexd (n % 2) = 48 ∨ hexd (n % 2) = 49) := by
  have : n % 2 = 0 ∨ n % 2 = 1 := by omega
  rcases this with h | h <;> rw [h] <;> decide
theorem bin_isBin : ∀ (k n : Nat), IsBin (bin k n)
  | 0, n => by intro c hc; simp [bin] at hc
  | k + 1, n => by
    intro c hc
    rw [bin, List.mem_append] at hc
    rcases hc with hc | hc
    · exact bin_isBin k _ c hc
    · simp at hc; subst hc; exact (bitd n).2
theorem vbin_bin : ∀ (k n acc : Nat), vbin acc (bin k n) = acc * 2 ^ k + n % 2 ^ k
  | 0, n, acc => by simp [bin, vbin, Nat.mod_one]
  | k + 1, n, acc => by
    rw [bin, vbin_append, vbin_bin k, vbin, vbin, (bitd n).1, Nat.pow_succ]
    have h : n % (2 ^ k * 2) = n / 2 % 2 ^ k * 2 + n % 2 := by
      rw [Nat.mul_comm (2 ^ k) 2, Nat.mod_mul]; omega
    rw [h, Nat.add_mul, Nat.mul_assoc]; omega
theorem bin_split (i : Nat) : ∀ (j n : Nat), bin (i + j) n = bin i (n / 2 ^ j) ++ bin j n
  | 0, n => by simp [bin]
  | j + 1, n => by
    rw [← Nat.add_assoc, bin, bin_split i j, bin, List.append_assoc, Nat.div_div_eq_div_mul, Nat.pow_succ, Nat.mul_comm 2]
theorem bin_sub (i j k n : Nat) : ((bin (i + j + k) n).drop i).take j = bin j (n / 2 ^ k) := by
  rw [bin_split (i + j) k, bin_split i j, List.append_assoc, List.drop_left' (bin_length _ _), List.take_left' (bin_length _ _)]
theorem vbin_add : ∀ (l : List UInt8) (acc : Nat), vbin acc l = acc * 2 ^ l.length + vbin 0 l
  | [], acc => by simp [vbin]
  | c :: l, acc => by
    rw [vbin, vbin, vbin_add l, vbin_add l (0 * 2 + bitv c), List.length_cons, Nat.pow_succ, Nat.add_mul, Nat.mul_assoc, Nat.mul_comm 2]
    simp; omega
theorem vbin_lt0 (l : List UInt8) : vbin 0 l < 2 ^ l.length := by
  induction l with
  | nil => simp [vbin]
  | cons c l ih =>
    rw [vbin, vbin_add, List.length_cons, Nat.pow_succ]
    have : bitv c ≤ 1 := by unfold bitv; split <;> omega
    have : (0 * 2 + bitv c) * 2 ^ l.length ≤ 1 * 2 ^ l.length := Nat.mul_le_mul_right _ (by omega)
    omega

/-- The first bits that are not the same decide. -/
def lessL : List UInt8 → List UInt8 → Bool
  | a :: l, b :: r => if a = b then lessL l r else decide (a < b)
  | _, _ => false
theorem lessL_num : ∀ (l r : List UInt8), IsBin l → IsBin r → l.length = r.length → lessL l r = decide (vbin 0 l < vbin 0 r)
  | [], [], _, _, _ => by simp [lessL, vbin]
  | [], b :: r, _, _, h => by simp at h
  | a :: l, [], _, _, h => by simp at h
  | a :: l, b :: r, hl, hr, h => by
    have ih := lessL_num l r (fun c hc => hl c (List.mem_cons_of_mem _ hc)) (fun c hc => hr c (List.mem_cons_of_mem _ hc)) (by simpa using h)
    have h' : l.length = r.length := by simpa using h
    have x1 := vbin_lt0 l
    have x2 := vbin_lt0 r
    rw [lessL, vbin, vbin, vbin_add l, vbin_add r, h', ih]
    rw [h'] at x1
    rcases hl a (by simp) with rfl | rfl <;> rcases hr b (by simp) with rfl | rfl
    · simp
    · simp only [bitv]; simp; omega
    · simp only [bitv]; simp; omega
    · simp

/-- The next bits: from the end, ones come to be noughts till a nought comes to be a one. -/
def nextR : List UInt8 → Option (List UInt8)
  | [] => none
  | c :: l => if c = 48 then some (49 :: l) else (nextR l).map (48 :: ·)
def vrev : List UInt8 → Nat
  | [] => 0
  | c :: l => bitv c + 2 * vrev l
theorem vrev_vbin (l : List UInt8) : vrev l.reverse = vbin 0 l := by
  suffices ∀ l : List UInt8, vrev l = vbin 0 l.reverse by rw [this, List.reverse_reverse]
  intro l
  induction l with
  | nil => rfl
  | cons c l ih => rw [vrev, List.reverse_cons, vbin_append, vbin, vbin, ih]; omega
theorem nextR_some : ∀ (l r : List UInt8), IsBin l → nextR l = some r → vrev r = vrev l + 1 ∧ r.length = l.length ∧ IsBin r
  | [], r, _, h => by simp [nextR] at h
  | c :: l, r, hb, h => by
    have hb' : IsBin l := fun c hc => hb c (List.mem_cons_of_mem _ hc)
    rw [nextR] at h
    split at h
    · rename_i hc; subst hc; injection h with h; subst h
      refine ⟨by simp [vrev, bitv]; omega, by simp, ?_⟩
      intro c hc
      rcases List.mem_cons.1 hc with rfl | hc
      · exact .inr rfl
      · exact hb' c hc
    · rename_i hc
      have hc : c = 49 := by rcases hb c (by simp) with h | h; exact absurd h hc; exact h
      subst hc
      obtain ⟨r', hr', rfl⟩ := Option.map_eq_some_iff.1 h
      obtain ⟨a, b, d⟩ := nextR_some l r' hb' hr'
      refine ⟨by simp [vrev, bitv, a]; omega, by simp [b], ?_⟩
      intro c hc
      rcases List.mem_cons.1 hc with rfl | hc
      · exact .inl rfl
      · exact d c hc
theorem nextR_none : ∀ (l : List UInt8), IsBin l → nextR l = none → vrev l + 1 = 2 ^ l.length
  | [], _, _ => rfl
  | c :: l, hb, h => by
    rw [nextR] at h
    split at h
    · cases h
    · rename_i hc
      have hc : c = 49 := by rcases hb c (by simp) with h | h; exact absurd h hc; exact h
      subst hc
      have := nextR_none l (fun c hc => hb c (List.mem_cons_of_mem _ hc)) (by simpa using h)
      rw [List.length_cons, Nat.pow_succ, vrev]; simp [bitv]; omega
theorem hexd10 (k : Nat) (h : k < 10) : hexd k = UInt8.ofNat (48 + k) := by rw [hexd, if_pos h]
theorem digs10 (n : Nat) (h : n < 1000) : digs 10 n = dec3 n := by
  unfold dec3
  rw [digs_eq]
  split
  · rename_i h1
    have h1 : n < 10 := by omega
    rw [if_pos h1, Nat.mod_eq_of_lt h1, hexd10 n h1]
  · rename_i h1
    have h1 : ¬ n < 10 := by omega
    rw [if_neg h1, digs_eq]
    split
    · rename_i h2
      have h2 : n / 10 < 10 := by omega
      rw [if_pos (by omega), Nat.mod_eq_of_lt h2, hexd10 _ h2, hexd10 _ (by omega)]; rfl
    · rename_i h2
      have h2 : ¬ n / 10 < 10 := by omega
      have h3 : n / 10 / 10 < 10 := by omega
      rw [if_neg (by omega), digs_eq, dif_pos (by omega), Nat.mod_eq_of_lt h3, hexd10 _ h3, hexd10 _ (by omega), hexd10 _ (by omega)]; rfl
theorem digs16 (n : Nat) (h : n < 65536) : digs 16 n = hexs n := by
  unfold hexs
  rw [digs_eq]
  split
  · rename_i h1
    have h1 : n < 16 := by omega
    rw [if_pos h1, Nat.mod_eq_of_lt h1]
  · rename_i h1
    have h1 : ¬ n < 16 := by omega
    rw [if_neg h1, digs_eq]
    split
    · rename_i h2
      have h2 : n / 16 < 16 := by omega
      rw [if_pos (by omega), Nat.mod_eq_of_lt h2]; rfl
    · rename_i h2
      have h2 : ¬ n / 16 < 16 := by omega
      rw [if_neg (by omega), digs_eq]
      split
      · rename_i h3
        have h3 : n / 16 / 16 < 16 := by omega
        rw [if_pos (by omega), Nat.mod_eq_of_lt h3]; rfl
      · rename_i h3
        have h4 : n / 16 / 16 / 16 < 16 := by omega
        rw [if_neg (by omega), digs_eq, dif_pos (by omega), Nat.mod_eq_of_lt h4]; rfl

/-- The number of a word of decimal digits, as the document reads it: none where a sign is no digit, or where it is past 255 and a sign follows. -/
def rdec (acc : Nat) : List UInt8 → Option Nat
  | [] => some acc
  | c :: r => if 48 ≤ c.toNat ∧ c.toNat ≤ 57 ∧ acc ≤ 255 then rdec (10 * acc + c.toNat - 48) r else none
/-- A byte of a text, as the document reads it. -/
def docB (l : List UInt8) : Option Nat := match rdec 0 l with | some n => if l ≠ [] ∧ n ≤ 255 ∧ digs 10 n = l then some n else none | none => none
/-- A byte, by the program. -/
def myB (l : List UInt8) : Option Nat := match nread l 3 with | some n => if 255 < n then none else some n | none => none

theorem dec3_len : ∀ n : Fin 256, (dec3 n.val).length ≤ 3 := by decide +kernel
theorem dig_dec (c : UInt8) (h : dig c < 10) : 48 ≤ c.toNat ∧ c.toNat ≤ 57 ∧ dig c = c.toNat - 48 := by
  unfold dig at h ⊢
  split at h
  · rename_i h1; rw [if_pos h1]; exact ⟨h1.1, h1.2, rfl⟩
  · split at h <;> omega
theorem rdec_of (l : List UInt8) : ∀ (acc n : Nat), pu 10 2147483647 acc l = .ok n → n ≤ 255 → rdec acc l = some n ∧ acc ≤ n := by
  induction l with
  | nil => intro acc n h _; simp [pu] at h; subst h; exact ⟨rfl, Nat.le_refl _⟩
  | cons c r ih =>
    intro acc n h hn
    rw [pu] at h
    split at h
    · cases h
    · rename_i h1
      split at h
      · cases h
      · obtain ⟨a, b, e⟩ := dig_dec c (by omega)
        obtain ⟨i1, i2⟩ := ih _ n h hn
        rw [e] at i1 i2
        have : acc * 10 + (c.toNat - 48) = 10 * acc + c.toNat - 48 := by omega
        rw [this] at i1
        rw [rdec, if_pos ⟨a, b, by omega⟩]
        exact ⟨i1, by omega⟩
theorem u8_of (c : UInt8) (k : Nat) (h : 48 ≤ c.toNat) (e : k = c.toNat - 48) : UInt8.ofNat (48 + k) = c := by
  subst e
  rw [show 48 + (c.toNat - 48) = c.toNat by omega]
  exact UInt8.ofNat_toNat
theorem u8_ne {c d : UInt8} (h : c ≠ d) : c.toNat ≠ d.toNat := fun e => h (UInt8.toNat_inj.1 e)
theorem rdec_digs (l : List UInt8) (n : Nat) (h : rdec 0 l = some n) (h0 : l ≠ []) (h3 : l.length ≤ 3) (hz : ¬ (l.head? = some 48 ∧ l ≠ [48])) : dec3 n = l := by
  match l, h0, h3, hz, h with
  | [a], _, _, hz, h =>
    simp only [rdec] at h
    split at h
    · rename_i c1
      injection h with h
      have e : n = a.toNat - 48 := by omega
      rw [dec3, if_pos (by omega), u8_of a n c1.1 e]
    · cases h
  | [a, b], _, _, hz, h =>
    simp only [rdec] at h
    split at h
    · rename_i c1
      split at h
      · rename_i c2
        injection h with h
        have ha : a ≠ 48 := fun e => hz (by simp [e])
        have ha' := u8_ne ha
        have ha2 : (48 : UInt8).toNat = 48 := rfl
        have e1 : n / 10 = a.toNat - 48 := by omega
        have e2 : n % 10 = b.toNat - 48 := by omega
        rw [dec3, if_neg (by omega), if_pos (by omega), u8_of a _ c1.1 e1, u8_of b _ c2.1 e2]
      · cases h
    · cases h
  | [a, b, c], _, _, hz, h =>
    simp only [rdec] at h
    split at h
    · rename_i c1
      split at h
      · rename_i c2
        split at h
        · rename_i c3
          injection h with h
          have ha : a ≠ 48 := fun e => hz (by simp [e])
          have ha' := u8_ne ha
          have ha2 : (48 : UInt8).toNat = 48 := rfl
          have e1 : n / 10 / 10 = a.toNat - 48 := by omega
          have e2 : n / 10 % 10 = b.toNat - 48 := by omega
          have e3 : n % 10 = c.toNat - 48 := by omega
          rw [dec3, if_neg (by omega), if_neg (by omega), u8_of a _ c1.1 e1, u8_of b _ c2.1 e2, u8_of c _ c3.1 e3]
        · cases h
      · cases h
    · cases h
  | a :: b :: c :: d :: r, _, h3, _, _ => simp at h3
theorem docB_eq (l : List UInt8) : docB l = myB l := by
  cases hd : docB l with
  | some n =>
    unfold docB at hd
    split at hd
    · split at hd
      · rename_i m hm hc
        injection hd with hd; subst hd
        obtain ⟨h0, h1, h2⟩ := hc
        rw [digs10 m (by omega)] at h2
        rw [myB, ← h2, dec3_nread ⟨m, by omega⟩]
        simp; omega
      · cases hd
    · cases hd
  | none =>
    cases hm : myB l with
    | none => rfl
    | some n =>
      exfalso
      unfold myB at hm
      split at hm
      · rename_i m hr
        split at hm
        · cases hm
        · rename_i hn
          injection hm with hm; subst hm
          unfold nread at hr
          split at hr
          · cases hr
          · rename_i hc
            have h0 : l ≠ [] := fun e => hc (.inl e)
            split at hr
            · rename_i k hk
              injection hr with hr; subst hr
              rw [puS, if_neg h0] at hk
              obtain ⟨i1, _⟩ := rdec_of l 0 _ hk (by omega)
              have h4 := rdec_digs l _ i1 h0 (by have := fun e => hc (.inr (.inl e)); omega) (fun e => hc (.inr (.inr e)))
              rw [← digs10 _ (by omega)] at h4
              simp [docB, i1, h0, h4] at hd
              omega
            · cases hr
      · cases hm
/-- Sixteen bits of a text, as the document reads them. -/
def rhex (acc : Nat) : List UInt8 → Option Nat
  | [] => some acc
  | c :: r => if 48 ≤ c.toNat ∧ c.toNat ≤ 57 then rhex (16 * acc + c.toNat - 48) r else if 97 ≤ c.toNat ∧ c.toNat ≤ 102 then rhex (16 * acc + c.toNat - 97 + 10) r else if 65 ≤ c.toNat ∧ c.toNat ≤ 70 then rhex (16 * acc + c.toNat - 65 + 10) r else none
def docG (l : List UInt8) : Option Nat := if 1 ≤ l.length ∧ l.length ≤ 4 then rhex 0 l else none
theorem dig_hex : ∀ c : Fin 256, dig (UInt8.ofNat c.val) = (if 48 ≤ c.val ∧ c.val ≤ 57 then c.val - 48 else if 97 ≤ c.val ∧ c.val ≤ 102 then c.val - 87 else if 65 ≤ c.val ∧ c.val ≤ 70 then c.val - 55 else if 16 ≤ dig (UInt8.ofNat c.val) then dig (UInt8.ofNat c.val) else 1000) := by decide +kernel
theorem dig_hex' (c : UInt8) : dig c = (if 48 ≤ c.toNat ∧ c.toNat ≤ 57 then c.toNat - 48 else if 97 ≤ c.toNat ∧ c.toNat ≤ 102 then c.toNat - 87 else if 65 ≤ c.toNat ∧ c.toNat ≤ 70 then c.toNat - 55 else if 16 ≤ dig c then dig c else 1000) := by
  have := dig_hex ⟨c.toNat, c.toNat_lt⟩
  simpa only [UInt8.ofNat_toNat] using this
theorem rhex_pu : ∀ (l : List UInt8) (acc k : Nat), l.length + k ≤ 4 → acc < 16 ^ k → rhex acc l = match pu 16 65535 acc l with | .ok n => some n | .error _ => none
  | [], acc, k, _, _ => by simp [rhex, pu]
  | c :: r, acc, k, hk, ha => by
    have h16 : 16 ^ (k + 1) ≤ 16 ^ 4 := Nat.pow_le_pow_right (by decide) (by simp at hk; omega)
    have hs : 16 ^ (k + 1) = 16 ^ k * 16 := Nat.pow_succ ..
    have hd := dig_hex' c
    have ih := fun a h => rhex_pu r a (k + 1) (by simp at hk ⊢; omega) h
    rw [rhex, pu]
    split
    · rename_i h1
      rw [if_pos h1] at hd
      rw [if_neg (by omega), if_neg (by omega), ← ih _ (by omega), hd]
      congr 1; omega
    · rename_i h1
      rw [if_neg h1] at hd
      split
      · rename_i h2
        rw [if_pos h2] at hd
        rw [if_neg (by omega), if_neg (by omega), ← ih _ (by omega), hd]
        congr 1; omega
      · rename_i h2
        rw [if_neg h2] at hd
        split
        · rename_i h3
          rw [if_pos h3] at hd
          rw [if_neg (by omega), if_neg (by omega), ← ih _ (by omega), hd]
          congr 1; omega
        · rename_i h3
          rw [if_neg h3] at hd
          rw [if_pos (by split at hd <;> omega)]
theorem docG_eq (l : List UInt8) : docG l = rgrp l := by
  unfold docG rgrp puS
  by_cases h4 : 4 < l.length
  · rw [if_neg (by omega), if_pos h4]
  · rw [if_neg h4]
    cases l with
    | nil => simp
    | cons a r => rw [if_pos (by simp at h4 ⊢; omega), if_neg (by simp), rhex_pu (a :: r) 0 0 (by simp at h4 ⊢; omega) (by decide)]; cases pu 16 65535 0 (a :: r) <;> rfl
end Go.Proofs.YtollaiabcnmebaaGreatDoor

namespace Go.Proofs.YtollaiabcnmebaaGreatDoor
open Go.RowKit

theorem info8 : (Tryz.prog.info? 5).map (fun i => (i.zero, i.size, i.bytes)) = some (some (.int .u8 0), 1, 1) := by kernel_rfl

/-- Bytes, as the cells of a row. -/
def u8s (l : List UInt8) : List Value := l.map fun b : UInt8 => Value.int .u8 (b.toNat : Int)
theorem u8s_append (l r : List UInt8) : u8s (l ++ r) = u8s l ++ u8s r := by simp [u8s]
theorem u8s_length (l : List UInt8) : (u8s l).length = l.length := by simp [u8s]

theorem own_u8 {W : World} {B n : Nat} {v : Value} {l : List UInt8} (h : W.ownsRow B 5 1 v n (u8s l)) (h0 : 0 < n) :
    ∃ g c, v = .slice (some ⟨g, 0, none⟩) n c ∧ n ≤ c ∧ c ≤ maxLen ∧ n = l.length ∧ ∀ j (hj : j < l.length), W.cell? ⟨g, j, none⟩ = some (.int .u8 ((l[j]).toNat : Int)) := by
  obtain ⟨h1, h2⟩ := h
  rcases h2 with ⟨rfl, h2⟩ | ⟨g, c, cur, rfl, _, hc, h3, h4, h5, h6⟩
  · omega
  · rw [u8s_length] at h1
    refine ⟨g, c, rfl, h3, h4, by omega, fun j hj => ?_⟩
    have hj2 : (cur.toList.take (n * 1))[j]? = (u8s l)[j]? := by rw [h6]
    rw [List.getElem?_take_of_lt (by omega)] at hj2
    simp only [u8s, List.getElem?_map, List.getElem?_eq_getElem hj, Option.map_some] at hj2
    simp [World.cell?, hc]
    simpa using hj2

/-- The bits of an address. -/
def bitsT (v : Bool) (hi lo : Nat) : List UInt8 := if v then bin 64 hi ++ bin 64 lo else bin 32 lo

theorem hexd_bit (n : Nat) : ((hexd (n % 2)).toNat : Int) = 48 + (n : Int) % 2 := by
  have : n % 2 = 0 ∨ n % 2 = 1 := by omega
  rcases this with h | h
  · rw [h]; have : (n : Int) % 2 = 0 := by omega
    rw [this]; rfl
  · rw [h]; have : (n : Int) % 2 = 1 := by omega
    rw [this]; rfl

set_option maxHeartbeats 8000000 in
set_option maxRecDepth 100000 in
theorem bits_any (v : Bool) (hi lo : Nat) (w : World) (h1 : hi < 18446744073709551616) (l1 : lo < 18446744073709551616) :
    Calls Tryz.prog 13 #[.agg #[.bool v, .int .u64 hi, .int .u64 lo]] w fun e w' => e = .returned (.string ⟨(bitsT v hi lo).toArray⟩) ∧ Below w.heap.size w w' := by
  obtain ⟨i0, hi0, hz0, hz1, hz2⟩ := info_parts info8
  have hb0 : Below w.heap.size w (w.alloc (.cells #[.bool v, .int .u64 hi, .int .u64 lo] 24)) := bal (Below.refl _ _) _
  have HB0 : Hid (Below w.heap.size w (w.alloc (.cells #[.bool v, .int .u64 hi, .int .u64 lo] 24))) := hb0
  have c0 : (w.alloc (.cells #[.bool v, .int .u64 hi, .int .u64 lo] 24)).cell? ⟨w.heap.size, 0, none⟩ = some (.bool v) := by simp [go_sem]
  have c1 : (w.alloc (.cells #[.bool v, .int .u64 hi, .int .u64 lo] 24)).cell? ⟨w.heap.size, 1, none⟩ = some (.int .u64 hi) := by simp [go_sem]
  have c2 : (w.alloc (.cells #[.bool v, .int .u64 hi, .int .u64 lo] 24)).cell? ⟨w.heap.size, 2, none⟩ = some (.int .u64 lo) := by simp [go_sem]
  have hsz : w.heap.size < (w.alloc (.cells #[.bool v, .int .u64 hi, .int .u64 lo] 24)).heap.size := by simp
  have HT : Hid ((if v then bin 64 hi ++ bin 64 lo else bin 32 lo) = bitsT v hi lo) := rfl
  generalize bitsT v hi lo = T at HT ⊢
  clear hb0
  go_enter Tryz.func13, Tryz.ntmps13
  go_wp2_with fail
  generalize w.alloc (.cells #[.bool v, .int .u64 hi, .int .u64 lo] 24) = W at HB0 c0 c1 c2 hsz ⊢
  go_loopw [3, 4] (fun vs vi wr => ∃ (k : Nat) (j : Int), vi = .int .i64 j ∧ Hid (j = 63 - (k : Int)) ∧ k ≤ 64 ∧ Below W.heap.size W wr ∧ wr.ownsRow W.heap.size 5 1 vs k (u8s (bin k (hi / 2 ^ (64 - k)))))
    (fun _ vi _ => (intOf vi + 1).toNat)
  case atStart => exact ⟨0, 63, rfl, (by omega : (63 : Int) = 63 - ((0 : Nat) : Int)), by omega, Below.refl _ _, World.ownsRow_nil _ _ _ _⟩
  case round =>
    obtain ⟨k, j, rfl, Hj, hk, hb, hown⟩ := hrel
    have hzz := hb.size
    have hj := Hj.out
    by_cases hk64 : k < 64
    · have hc := (bcell hb).1 w.heap.size 1 hsz
      rw [c1] at hc
      have hj0 : 0 ≤ j := by omega
      have hj1 : j ≤ 63 := by omega
      obtain ⟨m, hm⟩ : ∃ m, m = hi / 2 ^ (63 - k) := ⟨_, rfl⟩
      have hm1 : m < 18446744073709551616 := by rw [hm]; exact Nat.lt_of_le_of_lt (Nat.div_le_self _ _) h1
      have hstep : bin (k + 1) (hi / 2 ^ (64 - (k + 1))) = bin k (hi / 2 ^ (64 - k)) ++ [hexd (m % 2)] := by
        rw [bin, Nat.div_div_eq_div_mul, ← Nat.pow_succ, show (64 - (k + 1)).succ = 64 - k by omega, show 64 - (k + 1) = 63 - k by omega, ← hm]
      have hsh : (hi : Int) / 2 ^ j.toNat = (m : Int) := by rw [hm, show j.toNat = 63 - k by omega]; simp
      have HS : Hid (bin (k + 1) (hi / 2 ^ (64 - (k + 1))) = bin k (hi / 2 ^ (64 - k)) ++ [hexd (m % 2)]) := hstep
      obtain ⟨r, hr⟩ : ∃ r : Int, (m : Int) % 2 = r := ⟨_, rfl⟩
      have HE : Hid (((hexd (m % 2)).toNat : Int) = 48 + r) := by rw [← hr]; exact hexd_bit m
      have r0 : 0 ≤ r := by omega
      have r1 : r ≤ 1 := by omega
      have Hj2 : Hid (j - 1 = 63 - ((k + 1 : Nat) : Int)) := (by omega : j - 1 = 63 - ((k + 1 : Nat) : Int))
      clear hstep hm hj
      have HO : Hid (wr.ownsRow W.heap.size 5 1 u3 k (u8s (bin k (hi / 2 ^ (64 - k))))) := hown
      clear hown
      go_wp2_with (at_builtin; refine wpList_append_own _ rfl _ _ 59 rfl W.heap.size 5 i0 (.int .u8 0) 1 1 Tryz.underlying59 hi0 hz0 hz1 hz2 rfl (by decide) _ _ _ rfl (HO.out.alloc _) ⟨wr.heap.size, 0, none⟩ 1 1 [.int .u8 (48 + r)] rfl rfl ?c1 ?c2 ?c3 ?c4 ?c5 ?_)
      case c1 =>
        intro j u hj
        match j, hj with
        | 0, hj => simp at hj; subst hj; simp [Addr.add]
      case c2 => intro u hu; simp at hu; subst hu; rfl
      case c3 => unfold maxLen; omega
      case c4 => omega
      case c5 => simp; omega
      intro v' w3 hown' hgrow _
      have hb3 : Below W.heap.size W w3 := (bal hb _).grown hgrow (by simp; omega) (fun k hk => (HO.out.lt k hk).1)
      have HR : Hid (w3.ownsRow W.heap.size 5 1 v' (k + 1) (u8s (bin (k + 1) (hi / 2 ^ (64 - (k + 1)))))) := by
        rw [HS.out, u8s_append, show u8s [hexd (m % 2)] = [.int .u8 (48 + r)] by simp [u8s, HE.out]]; exact hown'
      clear hown' hgrow HO
      go_wp2
      go_roundw
      case rel => exact ⟨k + 1, j - 1, rfl, Hj2, by omega, hb3, HR⟩
      case measure => simp [intOf]; omega
    · have hk2 : k = 64 := by omega
      subst hk2
      have hj2 : j = -1 := by omega
      subst hj2
      clear Hj
      have HO : Hid (wr.ownsRow W.heap.size 5 1 u3 64 (u8s (bin 64 hi))) := by have := hown; rw [Nat.sub_self, Nat.pow_zero, Nat.div_one] at this; exact this
      clear hown hj hk64
      go_wp2_with fail
      go_loopw [3, 5] (fun vs vi wr => ∃ (k : Nat) (j : Int), vi = .int .i64 j ∧ Hid (j = 63 - (k : Int)) ∧ k ≤ 64 ∧ Below W.heap.size W wr ∧ wr.ownsRow W.heap.size 5 1 vs (64 + k) (u8s (bin 64 hi ++ bin k (lo / 2 ^ (64 - k)))))
        (fun _ vi _ => (intOf vi + 1).toNat)
      case atStart => exact ⟨0, 63, rfl, (by omega : (63 : Int) = 63 - ((0 : Nat) : Int)), by omega, hb, by rw [bin, List.append_nil]; exact HO.out⟩
      case round =>
        clear HO hb hzz
        obtain ⟨k, j, rfl, Hj, hk, hb, hown⟩ := hrel
        have hzz := hb.size
        have hj := Hj.out
        by_cases hk64 : k < 64
        · have hc := (bcell hb).1 w.heap.size 2 hsz
          rw [c2] at hc
          have hj0 : 0 ≤ j := by omega
          have hj1 : j ≤ 63 := by omega
          obtain ⟨m, hm⟩ : ∃ m, m = lo / 2 ^ (63 - k) := ⟨_, rfl⟩
          have hm1 : m < 18446744073709551616 := by rw [hm]; exact Nat.lt_of_le_of_lt (Nat.div_le_self _ _) l1
          have hstep : bin (k + 1) (lo / 2 ^ (64 - (k + 1))) = bin k (lo / 2 ^ (64 - k)) ++ [hexd (m % 2)] := by
            rw [bin, Nat.div_div_eq_div_mul, ← Nat.pow_succ, show (64 - (k + 1)).succ = 64 - k by omega, show 64 - (k + 1) = 63 - k by omega, ← hm]
          have hsh : (lo : Int) / 2 ^ j.toNat = (m : Int) := by rw [hm, show j.toNat = 63 - k by omega]; simp
          have HS : Hid (bin (k + 1) (lo / 2 ^ (64 - (k + 1))) = bin k (lo / 2 ^ (64 - k)) ++ [hexd (m % 2)]) := hstep
          obtain ⟨r, hr⟩ : ∃ r : Int, (m : Int) % 2 = r := ⟨_, rfl⟩
          have HE : Hid (((hexd (m % 2)).toNat : Int) = 48 + r) := by rw [← hr]; exact hexd_bit m
          have r0 : 0 ≤ r := by omega
          have r1 : r ≤ 1 := by omega
          have Hj2 : Hid (j - 1 = 63 - ((k + 1 : Nat) : Int)) := (by omega : j - 1 = 63 - ((k + 1 : Nat) : Int))
          clear hstep hm hj
          have HO : Hid (wr.ownsRow W.heap.size 5 1 u3 (64 + k) (u8s (bin 64 hi ++ bin k (lo / 2 ^ (64 - k))))) := hown
          clear hown
          go_wp2_with (at_builtin; refine wpList_append_own _ rfl _ _ 59 rfl W.heap.size 5 i0 (.int .u8 0) 1 1 Tryz.underlying59 hi0 hz0 hz1 hz2 rfl (by decide) _ _ _ rfl (HO.out.alloc _) ⟨wr.heap.size, 0, none⟩ 1 1 [.int .u8 (48 + r)] rfl rfl ?c1 ?c2 ?c3 ?c4 ?c5 ?_)
          case c1 =>
            intro j u hj
            match j, hj with
            | 0, hj => simp at hj; subst hj; simp [Addr.add]
          case c2 => intro u hu; simp at hu; subst hu; rfl
          case c3 => unfold maxLen; omega
          case c4 => omega
          case c5 => simp; omega
          intro v' w3 hown' hgrow _
          have hb3 : Below W.heap.size W w3 := (bal hb _).grown hgrow (by simp; omega) (fun k hk => (HO.out.lt k hk).1)
          have HR : Hid (w3.ownsRow W.heap.size 5 1 v' (64 + (k + 1)) (u8s (bin 64 hi ++ bin (k + 1) (lo / 2 ^ (64 - (k + 1)))))) := by
            rw [HS.out, ← List.append_assoc, u8s_append, show u8s [hexd (m % 2)] = [.int .u8 (48 + r)] by simp [u8s, HE.out]]; exact hown'
          clear hown' hgrow HO
          go_wp2
          go_roundw
          case rel => exact ⟨k + 1, j - 1, rfl, Hj2, by omega, hb3, HR⟩
          case measure => simp [intOf]; omega
        · have hk2 : k = 64 := by omega
          subst hk2
          have hj2 : j = -1 := by omega
          subst hj2
          clear Hj
          have HO : wr.ownsRow W.heap.size 5 1 u3 128 (u8s (bin 64 hi ++ bin 64 lo)) := by have := hown; rw [Nat.sub_self, Nat.pow_zero, Nat.div_one] at this; exact this
          clear hown hj hk64
          obtain ⟨g, c, rfl, hc1, hc2, hc3, hcell⟩ := own_u8 HO (by decide)
          have hc := (bcell hb).1 w.heap.size 0 hsz
          rw [c0] at hc
          have HF : Hid (Below w.heap.size w wr) := btr HB0.out hb
          clear HO hk
          cases v
          · have hcv : ∀ W' : World, W' = wr → (convert 59 9 (.slice (some ⟨g, 96, none⟩) 32 (c - 96))).run Tryz.prog W' = .ok (.string ⟨(bin 32 lo).toArray⟩) W' := by
              rintro _ rfl
              refine cvt _ g 96 (c - 96) (bin 32 lo) 32 (bin_length _ _).symm (fun j hj => ?_)
              rw [bin_length] at hj
              rw [hcell (96 + j) (by rw [List.length_append, bin_length, bin_length]; omega)]
              have e : bin 64 hi ++ bin 64 lo = (bin 64 hi ++ bin 32 (lo / 2 ^ 32)) ++ bin 32 lo := by rw [List.append_assoc, ← bin_split 32 32]
              simp only [e]
              rw [List.getElem_append_right (by rw [List.length_append, bin_length, bin_length]; omega)]
              simp only [List.length_append, bin_length, Nat.add_sub_cancel_left]
            have hsl : ∀ W' : World, (Instr.sliceAt 59 (.slice (some ⟨g, 0, none⟩) 128 c) (some (.int .i64 96)) none none).run Tryz.prog W' = .ok (.slice (some ⟨g, 96, none⟩) 32 (c - 96)) W' := by
              intro W'
              have h3 : ¬ c = 96 := by omega
              simp [go_sem, h3]
            have hT : bin 32 lo = T := HT.out
            rw [hT] at hcv
            clear hcell c1 c2 hc3
            go_wp2_with fail
            go_ret
            exact ⟨rfl, HF.out⟩
          · have hcv : ∀ W' : World, W' = wr → (convert 59 9 (.slice (some ⟨g, 0, none⟩) 128 c)).run Tryz.prog W' = .ok (.string ⟨(bin 64 hi ++ bin 64 lo).toArray⟩) W' := by
              rintro _ rfl
              refine cvt _ g 0 c (bin 64 hi ++ bin 64 lo) 128 (by rw [List.length_append, bin_length, bin_length]) (fun j hj => ?_)
              rw [Nat.zero_add]
              exact hcell j hj
            have hT : bin 64 hi ++ bin 64 lo = T := HT.out
            rw [hT] at hcv
            clear hcell c1 c2 hc3
            go_wp2_with fail
            go_ret
            exact ⟨rfl, HF.out⟩
end Go.Proofs.YtollaiabcnmebaaGreatDoor

namespace Go.Proofs.YtollaiabcnmebaaGreatDoor
open Go.RowKit

theorem take_snoc (l : List UInt8) (k : Nat) (h : k < l.length) : l.take (k + 1) = l.take k ++ [l[k]] := List.take_succ_eq_append_getElem h
theorem vbin_snoc (l : List UInt8) (c : UInt8) : vbin 0 (l ++ [c]) = vbin 0 l * 2 + bitv c := by rw [vbin_append, vbin, vbin]

set_option maxHeartbeats 8000000 in
set_option maxRecDepth 100000 in
theorem addrOf_any (s : ByteArray) (w : World) (hs : s.size ≤ 128) (hb : IsBin s.data.toList) :
    Calls Tryz.prog 34 #[.string s] w fun e w' => e = .returned (.agg #[.bool (decide (s.size = 128)), .int .u64 (vbin 0 (s.data.toList.take (s.size - 64))), .int .u64 (vbin 0 (s.data.toList.drop (s.size - 64)))]) ∧ Below w.heap.size w w' := by
  have hl := size_list s
  obtain ⟨b8, hb8⟩ : ∃ b, ((s.size : Int) == 128) = b := ⟨_, rfl⟩
  have HB8 : Hid (decide (s.size = 128) = b8) := by
    rw [Hid, ← hb8]
    by_cases h : s.size = 128
    · simp [h]
    · have : ((s.size : Int) == 128) = false := by rw [beq_eq_false_iff_ne]; omega
      rw [this]; simp [h]
  obtain ⟨N, hN⟩ : ∃ N, N = s.size := ⟨_, rfl⟩
  have HN : Hid (N = s.size) := hN
  go_enter Tryz.func34, Tryz.ntmps34
  go_wp2_with fail
  go_loopw [4] (fun vi wr => ∃ (k : Nat) (h l : Int), vi = .int .i64 k ∧ k ≤ N ∧ 0 ≤ h ∧ h < 18446744073709551616 ∧ 0 ≤ l ∧ l < 18446744073709551616 ∧
      wr = (w.alloc (.cells #[.bool false, .int .u64 0, .int .u64 0] 24)).alloc (.cells #[.bool b8, .int .u64 h, .int .u64 l] 24) ∧
      Hid (h = (vbin 0 (s.data.toList.take (min k (N - 64))) : Nat) ∧ l = (vbin 0 ((s.data.toList.take k).drop (N - 64)) : Nat)))
    (fun vi _ => N - (intOf vi).toNat)
  case atStart => exact ⟨0, 0, 0, rfl, Nat.zero_le _, by omega, by omega, by omega, by omega, rfl, by simp [vbin], by simp [vbin]⟩
  case round =>
    obtain ⟨k, h, l, rfl, hk, h0, h1, l0, l1, rfl, hh⟩ := hrel
    have hN := HN.out
    by_cases hkN : k < N
    · have hks : k < s.size := by omega
      have hmem : s[k] ∈ s.data.toList := by rw [← data_get s k hks]; exact List.getElem_mem _
      have hbit := hb _ hmem
      have hc1 : 48 ≤ (s[k].toNat : Int) ∧ (s[k].toNat : Int) ≤ 49 := by rcases hbit with h | h <;> rw [h] <;> decide
      obtain ⟨hc1, hc2⟩ := hc1
      have hbv : (s[k].toNat : Int) - 48 = (bitv s[k] : Nat) := by rcases hbit with h | h <;> simp [bitv, h]
      have hki : (k : Int) < (s.size : Int) := by omega
      have hk0 : (0 : Int) ≤ (k : Int) := by omega
      have hsk : s[k]? = some s[k] := by simp [hks]
      have hsn := take_snoc s.data.toList k (by omega)
      rw [data_get s k hks] at hsn
      obtain ⟨e1, e2⟩ := hh.out
      by_cases hc : 64 < N - k
      · have hci : 64 < (s.size : Int) - (k : Int) := by omega
        have hlt : h < 9223372036854775808 := by
          rw [e1]
          have h3 := vbin_lt0 (s.data.toList.take (min k (N - 64)))
          have h4 : 2 ^ (s.data.toList.take (min k (N - 64))).length ≤ 2 ^ 63 := Nat.pow_le_pow_right (by decide) (by rw [List.length_take]; omega)
          omega
        have HR : Hid (2 * h + ((s[k].toNat : Int) - 48) = (vbin 0 (s.data.toList.take (min (k + 1) (N - 64))) : Nat) ∧ l = (vbin 0 ((s.data.toList.take (k + 1)).drop (N - 64)) : Nat)) := by
          constructor
          · rw [show min (k + 1) (N - 64) = k + 1 by omega, hsn, vbin_snoc, hbv, e1, show min k (N - 64) = k by omega]; omega
          · rw [e2, List.drop_eq_nil_of_le (by rw [List.length_take]; omega), List.drop_eq_nil_of_le (by rw [List.length_take]; omega)]
        clear hsn e1 e2 hh hbit hbv hmem hc
        go_wp2_with fail
        exact ⟨⟨k + 1, _, _, by go_num, by omega, by omega, by omega, by omega, by omega, rfl, HR⟩, by simp [intOf]; omega⟩
      · have hci : ¬ 64 < (s.size : Int) - (k : Int) := by omega
        have hlt : l < 9223372036854775808 := by
          rw [e2]
          have h3 := vbin_lt0 ((s.data.toList.take k).drop (N - 64))
          have h4 : 2 ^ ((s.data.toList.take k).drop (N - 64)).length ≤ 2 ^ 63 := Nat.pow_le_pow_right (by decide) (by rw [List.length_drop, List.length_take]; omega)
          omega
        have HR : Hid (h = (vbin 0 (s.data.toList.take (min (k + 1) (N - 64))) : Nat) ∧ 2 * l + ((s[k].toNat : Int) - 48) = (vbin 0 ((s.data.toList.take (k + 1)).drop (N - 64)) : Nat)) := by
          constructor
          · rw [show min (k + 1) (N - 64) = N - 64 by omega, e1, show min k (N - 64) = N - 64 by omega]
          · rw [hsn, List.drop_append_of_le_length (by rw [List.length_take]; omega), vbin_snoc, hbv, e2]; omega
        clear hsn e1 e2 hh hbit hbv hmem hc
        go_wp2_with fail
        exact ⟨⟨k + 1, _, _, by go_num, by omega, by omega, by omega, by omega, by omega, rfl, HR⟩, by simp [intOf]; omega⟩
    · have hk2 : k = N := by omega
      have HR : Hid (h = (vbin 0 (s.data.toList.take (s.size - 64)) : Nat) ∧ l = (vbin 0 (s.data.toList.drop (s.size - 64)) : Nat)) := by
        obtain ⟨e1, e2⟩ := hh.out
        rw [hk2, hN] at e1 e2
        rw [show min s.size (s.size - 64) = s.size - 64 by omega] at e1
        rw [List.take_of_length_le (by omega)] at e2
        exact ⟨e1, e2⟩
      have hki : ¬ (k : Int) < (s.size : Int) := by omega
      clear hh hk2
      go_wp2_with fail
      obtain ⟨e1, e2⟩ := HR.out
      rw [HB8.out, ← e1, ← e2]
      refine bodyPost_ret (v := .agg #[.bool b8, .int .u64 h, .int .u64 l]) ?_ rfl ⟨rfl, ?_⟩
      · simp [results, Tryz.results34, go_sem]
      · repeat (first | exact Below.refl _ _ | apply bal | apply Below.drew)
end Go.Proofs.YtollaiabcnmebaaGreatDoor

namespace Go.Proofs.YtollaiabcnmebaaGreatDoor
open Go.RowKit

/-- The pieces, where the first one has begun already. -/
def splA (c : UInt8) (w l : List UInt8) : List (List UInt8) := match spl c l with | [] => [w] | x :: r => (w ++ x) :: r
theorem splA_nil (c : UInt8) (l : List UInt8) : splA c [] l = spl c l := by
  unfold splA
  split
  · rename_i h; exact absurd h (spl_ne c l)
  · rename_i h; rw [h]; rfl
theorem splA_end (c : UInt8) (w : List UInt8) : splA c w [] = [w] := by simp [splA, spl]
theorem splA_hit (c : UInt8) (w l : List UInt8) : splA c w (c :: l) = w :: splA c [] l := by
  rw [splA_nil]; simp [splA, spl]
theorem splA_on (c b : UInt8) (w l : List UInt8) (h : b ≠ c) : splA c w (b :: l) = splA c (w ++ [b]) l := by
  unfold splA
  rw [spl, if_neg h]
  split
  · rename_i h1; split at h1 <;> simp at h1
  · rename_i x r h1
    split at h1
    · rename_i h2; exact absurd h2 (spl_ne c l)
    · rename_i h2; injection h1 with h3 h4; subst h3 h4; rw [h2]; simp


theorem ext_list (s : ByteArray) (i j : Nat) : s.extract i j = ⟨((s.data.toList.drop i).take (j - i)).toArray⟩ := by
  apply ByteArray.ext
  rw [ByteArray.data_extract]
  apply Array.toList_inj.1
  rw [Array.toList_extract]
theorem str_slice (s : ByteArray) (i j : Nat) (W : World) (h1 : i ≤ j) (h2 : j ≤ s.size) (h3 : s.size ≤ 281474976710656) :
    (Instr.sliceAt 9 (.string s) (some (.int .i64 (i : Int))) (some (.int .i64 (j : Int))) none).run Tryz.prog W = .ok (.string ⟨((s.data.toList.drop i).take (j - i)).toArray⟩) W := by
  have a1 : (i : Int) ≤ (j : Int) := by omega
  have a2 : (j : Int) ≤ (s.size : Int) := by omega
  rw [← ext_list]
  simp [go_sem, a1, a2]

set_option maxHeartbeats 8000000 in
set_option maxRecDepth 100000 in
theorem splitAt_any (s : ByteArray) (c : UInt8) (w : World) (hs : s.size ≤ 1048576) :
    Calls Tryz.prog 35 #[.string s, .int .u8 (c.toNat : Int)] w fun e w' => ∃ v, e = .returned v ∧ w'.ownsRow w.heap.size 9 1 v (spl c s.data.toList).length (strs (spl c s.data.toList)) ∧ Below w.heap.size w w' := by
  obtain ⟨i0, hi0, hz0, hz1, hz2⟩ := info_parts infoStr
  have hl := size_list s
  obtain ⟨N, hN⟩ : ∃ N, N = s.size := ⟨_, rfl⟩
  have HN : Hid (N = s.size) := hN
  have hN20 : N ≤ 1048576 := by omega
  go_enter Tryz.func35, Tryz.ntmps35
  go_wp2_with fail
  go_loopw [5, 6, 7] (fun vs vw vi wr => ∃ (k : Nat) (out : List (List UInt8)) (x : List UInt8), vi = .int .i64 k ∧ vw = .string ⟨x.toArray⟩ ∧ k ≤ N ∧ x.length + out.length ≤ k ∧ Below w.heap.size w wr ∧ wr.ownsRow w.heap.size 9 1 vs out.length (strs out) ∧
      Hid (spl c s.data.toList = out ++ splA c x (s.data.toList.drop k)))
    (fun _ _ vi _ => N - (intOf vi).toNat)
  case atStart => exact ⟨0, [], [], rfl, rfl, Nat.zero_le _, by simp, Below.refl _ _, World.ownsRow_nil _ _ _ _, by rw [List.nil_append, splA_nil]; rfl⟩
  case round =>
    obtain ⟨k, out, x, rfl, rfl, hk, hxo, hb, hown, hh⟩ := hrel
    have hN := HN.out
    have hzz := hb.size
    by_cases hkN : k < N
    · have hks : k < s.size := by omega
      have hki : (k : Int) < (s.size : Int) := by omega
      have hk0 : (0 : Int) ≤ (k : Int) := by omega
      have hsk : s[k]? = some s[k] := by simp [hks]
      have hd := hh.out
      rw [List.drop_eq_getElem_cons (show k < s.data.toList.length by omega), data_get s k hks] at hd
      by_cases hc : s[k] = c
      · rw [hc, splA_hit, show out ++ x :: splA c [] (s.data.toList.drop (k + 1)) = (out ++ [x]) ++ splA c [] (s.data.toList.drop (k + 1)) by simp] at hd
        have HD : Hid (spl c s.data.toList = (out ++ [x]) ++ splA c [] (s.data.toList.drop (k + 1))) := hd
        have hcc : (s[k].toNat : Int) = (c.toNat : Int) := by rw [hc]
        clear hd hh hc
        have HO : Hid (wr.ownsRow w.heap.size 9 1 u5 out.length (strs out)) := hown
        clear hown
        go_wp2_with (at_builtin; refine wpList_append_own _ rfl _ _ 61 rfl w.heap.size 9 i0 (.string ⟨#[]⟩) 1 16 Tryz.underlying61 hi0 hz0 hz1 hz2 rfl (by decide) _ _ _ rfl (HO.out.alloc _) ⟨wr.heap.size, 0, none⟩ 1 1 [.string ⟨x.toArray⟩] rfl rfl ?c1 ?c2 ?c3 ?c4 ?c5 ?_)
        case c1 =>
          intro j u hj
          match j, hj with
          | 0, hj => simp at hj; subst hj; simp [Addr.add]
        case c2 => intro u hu; simp at hu; subst hu; rfl
        case c3 => unfold maxLen; omega
        case c4 => omega
        case c5 => simp; omega
        intro v' w3 hown' hgrow _
        have hb3 : Below w.heap.size w w3 := (bal hb _).grown hgrow (by simp; omega) (fun k hk => (HO.out.lt k hk).1)
        have HR : Hid (w3.ownsRow w.heap.size 9 1 v' (out ++ [x]).length (strs (out ++ [x]))) := by
          rw [List.length_append, show strs (out ++ [x]) = strs out ++ [.string ⟨x.toArray⟩] by simp [strs]]; exact hown'
        clear hown' hgrow HO
        go_wp2
        exact ⟨⟨k + 1, out ++ [x], [], by go_num, rfl, by omega, by simp; omega, hb3, HR.out, HD⟩, by simp [intOf]; omega⟩
      · rw [splA_on c s[k] x _ hc] at hd
        have HD : Hid (spl c s.data.toList = out ++ splA c (x ++ [s[k]]) (s.data.toList.drop (k + 1))) := hd
        have hcc : ¬ ((s[k].toNat : Int) = (c.toNat : Int)) := fun e => hc (UInt8.toNat_inj.1 (by omega))
        have hsl : ∀ W : World, (Instr.sliceAt 9 (.string s) (some (.int .i64 (k : Int))) (some (.int .i64 ((k : Int) + 1))) none).run Tryz.prog W = .ok (.string ⟨#[s[k]]⟩) W := by
          intro W
          have h := str_slice s k (k + 1) W (by omega) (by omega) (by omega)
          rw [show (((k + 1 : Nat)) : Int) = (k : Int) + 1 by omega, List.drop_eq_getElem_cons (show k < s.data.toList.length by omega), data_get s k hks, Nat.add_sub_cancel_left] at h
          exact h
        have hp : ∀ W : World, (Op.stringOp .add ⟨x.toArray⟩ ⟨#[s[k]]⟩).run Tryz.prog W = .ok (.string ⟨(x ++ [s[k]]).toArray⟩) W := fun W =>
          run_string_add_lists (P := Tryz.prog) W x [s[k]] (by omega) (by simp)
        clear hd hh hc
        go_wp2_with fail
        exact ⟨⟨k + 1, out, x ++ [s[k]], by go_num, rfl, by omega, by simp; omega, hb, hown, HD⟩, by simp [intOf]; omega⟩
    · have hki : ¬ (k : Int) < (s.size : Int) := by omega
      have hd := hh.out
      rw [List.drop_eq_nil_of_le (by omega), splA_end] at hd
      have HD : Hid (spl c s.data.toList = out ++ [x]) := hd
      clear hd hh
      have HO : Hid (wr.ownsRow w.heap.size 9 1 u5 out.length (strs out)) := hown
      clear hown
      go_wp2_with (at_builtin; refine wpList_append_own _ rfl _ _ 61 rfl w.heap.size 9 i0 (.string ⟨#[]⟩) 1 16 Tryz.underlying61 hi0 hz0 hz1 hz2 rfl (by decide) _ _ _ rfl (HO.out.alloc _) ⟨wr.heap.size, 0, none⟩ 1 1 [.string ⟨x.toArray⟩] rfl rfl ?c1 ?c2 ?c3 ?c4 ?c5 ?_)
      case c2 => rfl
      case c3 => unfold maxLen; omega
      case c4 => omega
      case c5 => omega
      intro v' w3 hown' hgrow _
      have hb3 : Below w.heap.size w w3 := (bal hb _).grown hgrow (by simp; omega) (fun k hk => (HO.out.lt k hk).1)
      have HR : Hid (w3.ownsRow w.heap.size 9 1 v' (spl c s.data.toList).length (strs (spl c s.data.toList))) := by
        rw [HD.out, List.length_append, show strs (out ++ [x]) = strs out ++ [.string ⟨x.toArray⟩] by simp [strs]]; exact hown'
      clear hown' hgrow HO
      go_wp2
      go_ret
      exact ⟨_, rfl, HR.out, hb3⟩
end Go.Proofs.YtollaiabcnmebaaGreatDoor

namespace Go.Proofs.YtollaiabcnmebaaGreatDoor
open Go.RowKit

/-- Bits, and whether there are any. -/
def bitT (k : Nat) (o : Option Nat) : Value := match o with | some n => .tuple #[.string ⟨(bin k n).toArray⟩, .bool true] | none => .tuple #[.string ⟨#[]⟩, .bool false]

theorem rhex_lt : ∀ (l : List UInt8) (acc n k : Nat), l.length + k ≤ 4 → acc < 16 ^ k → rhex acc l = some n → n < 16 ^ (l.length + k)
  | [], acc, n, k, _, h, e => by simp [rhex] at e; subst e; simpa using h
  | c :: r, acc, n, k, hk, h, e => by
    have hs : 16 ^ (k + 1) = 16 ^ k * 16 := Nat.pow_succ ..
    have ih := fun a h => rhex_lt r a n (k + 1) (by simp at hk ⊢; omega) h
    rw [List.length_cons, show r.length + 1 + k = r.length + (k + 1) by omega]
    rw [rhex] at e
    split at e
    · exact ih _ (by omega) e
    · split at e
      · exact ih _ (by omega) e
      · split at e
        · exact ih _ (by omega) e
        · cases e

theorem btw_in (n a b : Int) (w : World) (h1 : a ≤ n) (h2 : n ≤ b) :
    Calls Tryz.prog 29 #[.int .i64 n, .int .i64 a, .int .i64 b] w fun e w' => e = .returned (.bool true) ∧ w' = w := by
  have := between_any n a b w
  rw [decide_eq_true h1, decide_eq_true h2] at this
  exact this
theorem btw_out (n a b : Int) (w : World) (h : n < a ∨ b < n) :
    Calls Tryz.prog 29 #[.int .i64 n, .int .i64 a, .int .i64 b] w fun e w' => e = .returned (.bool false) ∧ w' = w := by
  have := between_any n a b w
  rcases h with h | h
  · rw [decide_eq_false (show ¬ a ≤ n by omega), Bool.false_and] at this
    exact this
  · rw [decide_eq_false (show ¬ n ≤ b by omega), Bool.and_false] at this
    exact this

set_option maxHeartbeats 8000000 in
set_option maxRecDepth 100000 in
theorem groupOf_any (s : ByteArray) (w : World) (hs : s.size ≤ 1048576) :
    Calls Tryz.prog 61 #[.string s] w fun e w' => e = .returned (bitT 16 (rgrp s.data.toList)) ∧ Below w.heap.size w w' := by
  have hl := size_list s
  have HB : Hid (∀ (n a b : Int) (w : World), Calls Tryz.prog 29 #[.int .i64 n, .int .i64 a, .int .i64 b] w fun e w' => e = .returned (.bool (decide (a ≤ n) && decide (n ≤ b))) ∧ w' = w) := between_any
  rw [← docG_eq]
  by_cases h14 : 1 ≤ s.size ∧ s.size ≤ 4
  · obtain ⟨hs1, hs4⟩ := h14
    have hd : docG s.data.toList = rhex 0 s.data.toList := by rw [docG, if_pos (by omega)]
    rw [hd]
    have b1 : (decide ((1 : Int) ≤ (s.size : Int)) && decide ((s.size : Int) ≤ 4)) = true := by simp; omega
    have HT : Hid (Calls Tryz.prog 29 #[.int .i64 (s.size : Int), .int .i64 1, .int .i64 4] w fun e w' => e = .returned (.bool true) ∧ w' = w) := by
      have := between_any (s.size : Int) 1 4 w; rw [b1] at this; exact this
    obtain ⟨N, hN⟩ : ∃ N, N = s.size := ⟨_, rfl⟩
    have HN : Hid (N = s.size) := hN
    clear hd b1
    go_enter Tryz.func61, Tryz.ntmps61
    go_wp2_with fail
    refine HT.out.mono ?_
    rintro e w1 ⟨rfl, rfl⟩
    go_wp2_with fail
    go_loop [4, 5] (fun vn vi => ∃ (k acc : Nat) (a : Int), vi = .int .i64 k ∧ vn = .int .i64 a ∧ k ≤ N ∧ 0 ≤ a ∧ a < 65536 ∧ Hid (a = (acc : Int) ∧ acc < 16 ^ k ∧ rhex 0 s.data.toList = rhex acc (s.data.toList.drop k)))
      (fun _ vi => N - (intOf vi).toNat)
    case atStart => exact ⟨0, 0, 0, rfl, rfl, Nat.zero_le _, by omega, by omega, rfl, by decide, rfl⟩
    case round =>
      obtain ⟨k, acc, a, rfl, rfl, hk, a0, a1, hh⟩ := hrel
      have hN := HN.out
      by_cases hkN : k < N
      · obtain ⟨ha, hacc, hdec⟩ := hh.out
        have hks : k < s.size := by omega
        rw [List.drop_eq_getElem_cons (show k < s.data.toList.length by omega), rhex, data_get s k hks] at hdec
        have hki : (k : Int) < (s.size : Int) := by omega
        have hk0 : (0 : Int) ≤ (k : Int) := by omega
        have hpow : 16 ^ k ≤ 16 ^ 3 := Nat.pow_le_pow_right (by decide) (by omega)
        have hsuc : 16 ^ (k + 1) = 16 ^ k * 16 := Nat.pow_succ ..
        have hsk : s[k]? = some s[k] := by simp [hks]
        have hc256 : (s[k].toNat : Int) < 256 := by have := s[k].toNat_lt; omega
        have hcz : (0 : Int) ≤ (s[k].toNat : Int) := by omega
        have ha1 : a < 4096 := by omega
        by_cases c1 : 48 ≤ s[k].toNat ∧ s[k].toNat ≤ 57
        · rw [if_pos c1] at hdec
          have T1 : Hid (∀ w : World, Calls Tryz.prog 29 #[.int .i64 (s[k].toNat : Int), .int .i64 48, .int .i64 57] w fun e w' => e = .returned (.bool true) ∧ w' = w) := fun w => btw_in _ _ _ w (by omega) (by omega)
          have HD : Hid (16 * a + (s[k].toNat : Int) - 48 = ((16 * acc + s[k].toNat - 48 : Nat) : Int) ∧ 16 * acc + s[k].toNat - 48 < 16 ^ (k + 1) ∧ rhex 0 s.data.toList = rhex (16 * acc + s[k].toNat - 48) (s.data.toList.drop (k + 1))) := ⟨by omega, by omega, hdec⟩
          have d1 : 48 ≤ (s[k].toNat : Int) := by omega
          have d2 : (s[k].toNat : Int) ≤ 57 := by omega
          clear hdec hacc hpow ha hh c1 hsuc
          go_wp2_with fail
          refine (T1.out _).mono ?_
          rintro e w2 ⟨rfl, rfl⟩
          go_wp2_with fail
          exact ⟨⟨k + 1, _, _, by go_num, rfl, by omega, by omega, by omega, HD⟩, by simp [intOf]; omega⟩
        · rw [if_neg c1] at hdec
          have T1 : Hid (∀ w : World, Calls Tryz.prog 29 #[.int .i64 (s[k].toNat : Int), .int .i64 48, .int .i64 57] w fun e w' => e = .returned (.bool false) ∧ w' = w) := fun w => btw_out _ _ _ w (by omega)
          by_cases c2 : 97 ≤ s[k].toNat ∧ s[k].toNat ≤ 102
          · rw [if_pos c2] at hdec
            have T2 : Hid (∀ w : World, Calls Tryz.prog 29 #[.int .i64 (s[k].toNat : Int), .int .i64 97, .int .i64 102] w fun e w' => e = .returned (.bool true) ∧ w' = w) := fun w => btw_in _ _ _ w (by omega) (by omega)
            have HD : Hid (16 * a + (s[k].toNat : Int) - 97 + 10 = ((16 * acc + s[k].toNat - 97 + 10 : Nat) : Int) ∧ 16 * acc + s[k].toNat - 97 + 10 < 16 ^ (k + 1) ∧ rhex 0 s.data.toList = rhex (16 * acc + s[k].toNat - 97 + 10) (s.data.toList.drop (k + 1))) := ⟨by omega, by omega, hdec⟩
            have d1 : 97 ≤ (s[k].toNat : Int) := by omega
            have d2 : (s[k].toNat : Int) ≤ 102 := by omega
            clear hdec hacc hpow ha hh c1 c2 hsuc
            go_wp2_with fail
            refine (T1.out _).mono ?_
            rintro e w2 ⟨rfl, rfl⟩
            go_wp2_with fail
            refine (T2.out _).mono ?_
            rintro e w2 ⟨rfl, rfl⟩
            go_wp2_with fail
            exact ⟨⟨k + 1, _, _, by go_num, rfl, by omega, by omega, by omega, HD⟩, by simp [intOf]; omega⟩
          · rw [if_neg c2] at hdec
            have T2 : Hid (∀ w : World, Calls Tryz.prog 29 #[.int .i64 (s[k].toNat : Int), .int .i64 97, .int .i64 102] w fun e w' => e = .returned (.bool false) ∧ w' = w) := fun w => btw_out _ _ _ w (by omega)
            by_cases c3 : 65 ≤ s[k].toNat ∧ s[k].toNat ≤ 70
            · rw [if_pos c3] at hdec
              have T3 : Hid (∀ w : World, Calls Tryz.prog 29 #[.int .i64 (s[k].toNat : Int), .int .i64 65, .int .i64 70] w fun e w' => e = .returned (.bool true) ∧ w' = w) := fun w => btw_in _ _ _ w (by omega) (by omega)
              have HD : Hid (16 * a + (s[k].toNat : Int) - 65 + 10 = ((16 * acc + s[k].toNat - 65 + 10 : Nat) : Int) ∧ 16 * acc + s[k].toNat - 65 + 10 < 16 ^ (k + 1) ∧ rhex 0 s.data.toList = rhex (16 * acc + s[k].toNat - 65 + 10) (s.data.toList.drop (k + 1))) := ⟨by omega, by omega, hdec⟩
              have d1 : 65 ≤ (s[k].toNat : Int) := by omega
              have d2 : (s[k].toNat : Int) ≤ 70 := by omega
              clear hdec hacc hpow ha hh c1 c2 c3 hsuc
              go_wp2_with fail
              refine (T1.out _).mono ?_
              rintro e w2 ⟨rfl, rfl⟩
              go_wp2_with fail
              refine (T2.out _).mono ?_
              rintro e w2 ⟨rfl, rfl⟩
              go_wp2_with fail
              refine (T3.out _).mono ?_
              rintro e w2 ⟨rfl, rfl⟩
              go_wp2_with fail
              exact ⟨⟨k + 1, _, _, by go_num, rfl, by omega, by omega, by omega, HD⟩, by simp [intOf]; omega⟩
            · rw [if_neg c3] at hdec
              have T3 : Hid (∀ w : World, Calls Tryz.prog 29 #[.int .i64 (s[k].toNat : Int), .int .i64 65, .int .i64 70] w fun e w' => e = .returned (.bool false) ∧ w' = w) := fun w => btw_out _ _ _ w (by omega)
              have HD : Hid (rhex 0 s.data.toList = none) := hdec
              clear hdec hacc hpow ha hh c1 c2 c3 hsuc
              go_wp2_with fail
              refine (T1.out _).mono ?_
              rintro e w2 ⟨rfl, rfl⟩
              go_wp2_with fail
              refine (T2.out _).mono ?_
              rintro e w2 ⟨rfl, rfl⟩
              go_wp2_with fail
              refine (T3.out _).mono ?_
              rintro e w2 ⟨rfl, rfl⟩
              go_wp2_with fail
              rw [HD.out]
              go_ret2
              exact ⟨rfl, Below.refl _ _⟩
      · obtain ⟨ha, hacc, hdec⟩ := hh.out
        rw [List.drop_eq_nil_of_le (by omega), rhex] at hdec
        have hki : ¬ (k : Int) < (s.size : Int) := by omega
        have hpow : 16 ^ k ≤ 16 ^ 4 := Nat.pow_le_pow_right (by decide) (by omega)
        have HD : Hid (rhex 0 s.data.toList = some acc) := hdec
        have HC : Hid (∀ w : World, Calls Tryz.prog 60 #[.int .i64 a, .int .i64 16] w fun e w' => e = .returned (.string ⟨(bin 16 acc).toArray⟩) ∧ Below w.heap.size w w') := by
          intro w; rw [ha]; exact bitsOf_any 16 acc w (by decide) (by omega)
        clear hdec hh ha hacc hpow
        go_wp2_with fail
        refine (HC.out _).mono ?_
        rintro e w2 ⟨rfl, hb⟩
        go_wp2_with fail
        rw [HD.out]
        go_ret2
        exact ⟨rfl, hb⟩
  · have hd : docG s.data.toList = none := by rw [docG, if_neg (by omega)]
    rw [hd]
    have b1 : (decide ((1 : Int) ≤ (s.size : Int)) && decide ((s.size : Int) ≤ 4)) = false := by
      by_cases h1 : 1 ≤ s.size
      · have : ¬ ((s.size : Int) ≤ 4) := by omega
        simp [this]
      · have : ¬ ((1 : Int) ≤ (s.size : Int)) := by omega
        simp [this]
    have HT : Hid (Calls Tryz.prog 29 #[.int .i64 (s.size : Int), .int .i64 1, .int .i64 4] w fun e w' => e = .returned (.bool false) ∧ w' = w) := by
      have := between_any (s.size : Int) 1 4 w; rw [b1] at this; exact this
    clear hd b1
    go_enter Tryz.func61, Tryz.ntmps61
    go_wp2_with fail
    refine HT.out.mono ?_
    rintro e w1 ⟨rfl, rfl⟩
    go_wp2
    go_ret2
    exact ⟨rfl, Below.refl _ _⟩
end Go.Proofs.YtollaiabcnmebaaGreatDoor

namespace Go.Proofs.YtollaiabcnmebaaGreatDoor

theorem nread_len (l : List UInt8) (m n : Nat) (h : nread l m = some n) : l.length ≤ m := by
  unfold nread at h
  split at h
  · cases h
  · rename_i hc
    have := fun e => hc (.inr (.inl e))
    omega
theorem rgrp_len (l : List UInt8) (n : Nat) (h : rgrp l = some n) : l.length ≤ 4 := by
  unfold rgrp at h
  split at h
  · cases h
  · omega
theorem rhex_dot : ∀ (l : List UInt8) (acc : Nat), (46 : UInt8) ∈ l → rhex acc l = none
  | [], _, h => by simp at h
  | c :: r, acc, h => by
    rcases List.mem_cons.1 h with rfl | h
    · rw [rhex]; simp
    · rw [rhex, rhex_dot r _ h, rhex_dot r _ h, rhex_dot r _ h]; simp
theorem rgrp_dot (l : List UInt8) (h : (46 : UInt8) ∈ l) : rgrp l = none := by
  rw [← docG_eq, docG, rhex_dot l 0 h]; simp

theorem bin_mod : ∀ (k n : Nat), bin k (n % 2 ^ k) = bin k n
  | 0, n => rfl
  | k + 1, n => by
    have h1 : n % 2 ^ (k + 1) / 2 = n / 2 % 2 ^ k := by rw [Nat.pow_succ, Nat.mul_comm, Nat.mod_mul_right_div_self]
    have h2 : n % 2 ^ (k + 1) % 2 = n % 2 := Nat.mod_mod_of_dvd n (by rw [Nat.pow_succ]; exact Nat.dvd_mul_left 2 _)
    rw [bin, bin, h1, h2, bin_mod k]
theorem bin_more (i acc n : Nat) (h : n < 256) : bin (i + 8) (acc * 256 + n) = bin i acc ++ bin 8 n := by
  rw [bin_split i 8, ← bin_mod 8 (acc * 256 + n)]
  rw [show (acc * 256 + n) / 2 ^ 8 = acc by omega, show (acc * 256 + n) % 2 ^ 8 = n by omega]
theorem fourAcc_my (acc : Nat) (w : List UInt8) (r : List (List UInt8)) : fourAcc acc (w :: r) = match myB w with | some n => fourAcc (acc * 256 + n) r | none => none := by
  rw [fourAcc, myB]
  cases nread w 3 with
  | none => rfl
  | some n => simp only []; by_cases h : 255 < n <;> simp [h]
theorem myB_lt {w : List UInt8} {n : Nat} (h : myB w = some n) : n < 256 := by
  unfold myB at h
  split at h
  · split at h
    · cases h
    · injection h with h; omega
  · cases h

/-- The bits of groups. -/
def gbits (gs : List Nat) : List UInt8 := gs.flatMap (bin 16)
theorem gbits_cons (g : Nat) (r : List Nat) : gbits (g :: r) = bin 16 g ++ gbits r := rfl
theorem gbits_append (a b : List Nat) : gbits (a ++ b) = gbits a ++ gbits b := by simp [gbits]
theorem gbits_length (gs : List Nat) : (gbits gs).length = 16 * gs.length := by
  induction gs with
  | nil => rfl
  | cons g r ih => rw [gbits_cons, List.length_append, bin_length, ih, List.length_cons]; omega
theorem gbits_four (n : Nat) : gbits [n / 65536, n % 65536] = bin 32 n := by
  rw [show (32 : Nat) = 16 + 16 from rfl, bin_split 16 16, ← bin_mod 16 n]
  simp [gbits]

theorem rgs_last (e : Bool) (x : List UInt8) : rgs e [x] = match rgrp x with | some g => some [g] | none => if e = true then (rfour x).map (fun n => [n / 65536, n % 65536]) else none := by
  rw [rgs]
  by_cases hd : (46 : UInt8) ∈ x
  · rw [rgrp_dot x hd]
    cases e <;> simp [hd]
  · have hf : rfour x = none := by rw [rfour, spl_none 46 x hd]; rfl
    rw [hf, if_neg (fun h => hd h.2)]
    cases rgrp x <;> simp

theorem spl_sum (c : UInt8) : ∀ l : List UInt8, ((spl c l).map List.length).sum + (spl c l).length = l.length + 1
  | [] => by simp [spl]
  | b :: l => by
    have ih := spl_sum c l
    rw [spl]
    split
    · simp; omega
    · split
      · rename_i h; exact absurd h (spl_ne c l)
      · rename_i h; rw [h] at ih; simp at ih ⊢; omega
theorem fourAcc_len : ∀ (l : List (List UInt8)) (acc n : Nat), fourAcc acc l = some n → (l.map List.length).sum ≤ 3 * l.length
  | [], _, _, _ => by simp
  | w :: r, acc, n, h => by
    rw [fourAcc_my] at h
    split at h
    · rename_i k hk
      have := fourAcc_len r _ n h
      have h3 : w.length ≤ 3 := by
        unfold myB at hk
        split at hk
        · rename_i m hm; exact nread_len w 3 m hm
        · cases hk
      simp; omega
    · cases h
theorem rfour_len (l : List UInt8) (n : Nat) (h : rfour l = some n) : l.length ≤ 15 := by
  unfold rfour at h
  split at h
  · rename_i h4
    have h1 := fourAcc_len _ _ _ h
    have h2 := spl_sum 46 l
    omega
  · cases h
theorem rgs_len (e : Bool) : ∀ (ws : List (List UInt8)) (gs : List Nat), rgs e ws = some gs → (ws.map List.length).sum + ws.length ≤ 5 * gs.length + (if e then 6 else 0)
  | [], gs, h => by simp [rgs] at h
  | [x], gs, h => by
    rw [rgs_last] at h
    split at h
    · rename_i g hg
      injection h with h; subst h
      have := rgrp_len x g hg
      simp; omega
    · split at h
      · rename_i he
        obtain ⟨n, hn, rfl⟩ := Option.map_eq_some_iff.1 h
        have := rfour_len x n hn
        rw [if_pos he]; simp; omega
      · cases h
  | x :: y :: r, gs, h => by
    rw [rgs] at h
    obtain ⟨g, hg, h⟩ := Option.bind_eq_some_iff.1 h
    obtain ⟨gs', hg', rfl⟩ := Option.map_eq_some_iff.1 h
    have h1 := rgrp_len x g hg
    have h2 := rgs_len e (y :: r) gs' hg'
    simp at h2 ⊢; omega
theorem rgroups_len (e : Bool) (l : List UInt8) (gs : List Nat) (h : rgroups e l = some gs) : l.length ≤ 5 * gs.length + (if e then 5 else 0) := by
  unfold rgroups at h
  split at h
  · rename_i h0; subst h0; simp
  · have h1 := rgs_len e _ gs h
    have h2 := spl_sum 58 l
    split at h1 <;> rename_i he
    · rw [if_pos he]; omega
    · rw [if_neg he]; omega
end Go.Proofs.YtollaiabcnmebaaGreatDoor

namespace Go.Proofs.YtollaiabcnmebaaGreatDoor
open Go.RowKit

theorem keep1 {w W W' : World} {g i : Nat} {x : ByteArray}
    (h : (W.cell? ⟨g, i, none⟩ = some (.string x) ∧ g < W.heap.size) ∧ Below w.heap.size w W) (hb : Below W.heap.size W W') :
    (W'.cell? ⟨g, i, none⟩ = some (.string x) ∧ g < W'.heap.size) ∧ Below w.heap.size w W' :=
  ⟨⟨by rw [(bcell hb).1 g i h.1.2]; exact h.1.1, Nat.lt_of_lt_of_le h.1.2 hb.size⟩, btr h.2 hb⟩
theorem str_empty (x : ByteArray) (h : x.data.toList = []) : x.toList.isEmpty = true := by rw [ByteArray.toList_eq, h]; rfl
theorem str_some (x : ByteArray) (h : x.data.toList ≠ []) : x.toList.isEmpty = false := by
  rw [ByteArray.toList_eq]
  cases hx : x.data.toList with
  | nil => exact absurd hx h
  | cons a r => rfl
theorem str_same (l : List UInt8) (x : ByteArray) (h : l = x.data.toList) : (l == x.toList) = true := by rw [ByteArray.toList_eq, h, beq_self_eq_true]
theorem str_other (l : List UInt8) (x : ByteArray) (h : l ≠ x.data.toList) : (l == x.toList) = false := by rw [ByteArray.toList_eq, beq_eq_false_iff_ne]; exact h

set_option maxHeartbeats 8000000 in
set_option maxRecDepth 100000 in
theorem fourOf_any (s : ByteArray) (w : World) (hs : s.size ≤ 1048576) :
    Calls Tryz.prog 49 #[.string s] w fun e w' => e = .returned (bitT 32 (rfour s.data.toList)) ∧ Below w.heap.size w w' := by
  have hl := size_list s
  have HS : Hid (Calls Tryz.prog 35 #[.string s, .int .u8 46] w fun e w' => ∃ v, e = .returned v ∧ w'.ownsRow w.heap.size 9 1 v (spl 46 s.data.toList).length (strs (spl 46 s.data.toList)) ∧ Below w.heap.size w w') := splitAt_any s 46 w hs
  have hlen : ∀ x ∈ spl 46 s.data.toList, x.length ≤ 1048576 := fun x hx => Nat.le_trans (spl_len 46 _ x hx) (by omega)
  have HR : Hid (rfour s.data.toList = if (spl 46 s.data.toList).length = 4 then fourAcc 0 (spl 46 s.data.toList) else none) := rfl
  generalize spl 46 s.data.toList = ws at HS hlen HR
  generalize rfour s.data.toList = R at HR ⊢
  by_cases h4 : ws.length = 4
  · have HR' : Hid (R = fourAcc 0 ws) := by rw [Hid, HR.out, if_pos h4]
    clear HR
    go_enter Tryz.func49, Tryz.ntmps49
    go_wp2_with fail
    refine HS.out.mono ?_
    rintro e w1 ⟨v, rfl, hown, hb1⟩
    have hc := fun g hg => hown.cells (g := g) hg
    rw [h4] at hown
    rcases hown.2 with ⟨rfl, hz⟩ | ⟨g, cap, cur, rfl, hg, hcur, h3⟩
    · omega
    have hglt : g < w1.heap.size := by
      rcases Nat.lt_or_ge g w1.heap.size with h | h
      · exact h
      · rw [Array.getElem?_eq_none h] at hcur; cases hcur
    have hcell : ∀ j (hj : j < ws.length), w1.cell? ⟨g, j, none⟩ = some (.string ⟨(ws[j]).toArray⟩) := by
      intro j hj
      have := hc g rfl j (.string ⟨(ws[j]).toArray⟩) (by simp [strs, hj])
      rw [Lib.add_plain] at this
      simpa using this
    clear hcur h3 hc hown HS
    go_wp2_with fail
    have HB1 : Hid (Below w.heap.size w w1) := hb1
    clear hb1
    go_loopw [5, 6] (fun vb vi wr => ∃ (i acc : Nat), vi = .int .i64 i ∧ vb = .string ⟨(bin (8 * i) acc).toArray⟩ ∧ i ≤ 4 ∧ Below w1.heap.size w1 wr ∧ Hid (R = fourAcc acc (ws.drop i)))
      (fun _ vi _ => 4 - (intOf vi).toNat)
    case atStart => exact ⟨0, 0, rfl, rfl, by omega, Below.refl _ _, HR'.out⟩
    case round =>
      obtain ⟨i, acc, rfl, rfl, hi4, hb, hh⟩ := hrel
      have hzz := hb.size
      by_cases hi : i < 4
      · have hcx := (bcell hb).1 g i hglt
        rw [hcell i (by omega)] at hcx
        have hd := hh.out
        rw [List.drop_eq_getElem_cons (show i < ws.length by omega), fourAcc_my, ← docB_eq] at hd
        have hxl := hlen _ (List.getElem_mem (show i < ws.length by omega))
        obtain ⟨x, hx⟩ : ∃ x : ByteArray, x = ⟨(ws[i]'(by omega)).toArray⟩ := ⟨_, rfl⟩
        rw [← hx] at hcx
        have hx2 : x.data.toList = ws[i]'(by omega) := by rw [hx]
        rw [← hx2] at hd hxl
        have hxs := size_list x
        have hI : (i : Int) < 4 := by omega
        have hI0 : (0 : Int) ≤ (i : Int) := by omega
        obtain ⟨M, hM⟩ : ∃ M, M = x.size := ⟨_, rfl⟩
        have HM : Hid (M = x.size) := hM
        have HD : Hid (R = match docB x.data.toList with | some n => fourAcc (acc * 256 + n) (ws.drop (i + 1)) | none => none) := hd
        have hM20 : M ≤ 1048576 := by omega
        clear hd hh hx hx2 hM
        go_wp2_with fail
        go_loop [7, 8] (fun vn vk => ∃ (k c2 : Nat) (a : Int), vk = .int .i64 k ∧ vn = .int .i64 a ∧ k ≤ M ∧ 0 ≤ a ∧ a < 2560 ∧ Hid (a = (c2 : Int) ∧ rdec 0 x.data.toList = rdec c2 (x.data.toList.drop k)))
          (fun _ vk => M - (intOf vk).toNat)
        case atStart => exact ⟨0, 0, 0, rfl, rfl, Nat.zero_le _, by omega, by omega, rfl, rfl⟩
        case round =>
          obtain ⟨k, c2, a, rfl, rfl, hk, a0, a1, hh⟩ := hrel
          have hM := HM.out
          by_cases hkM : k < M
          · obtain ⟨ha, hdec⟩ := hh.out
            have hks : k < x.size := by omega
            rw [List.drop_eq_getElem_cons (show k < x.data.toList.length by omega), rdec, data_get x k hks] at hdec
            have hki : (k : Int) < (x.size : Int) := by omega
            have hk0 : (0 : Int) ≤ (k : Int) := by omega
            have hsk : x[k]? = some x[k] := by simp [hks]
            have hc256 : (x[k].toNat : Int) < 256 := by have := x[k].toNat_lt; omega
            have hcz : (0 : Int) ≤ (x[k].toNat : Int) := by omega
            by_cases c1 : 48 ≤ x[k].toNat ∧ x[k].toNat ≤ 57
            · have T1 : Hid (∀ w : World, Calls Tryz.prog 29 #[.int .i64 (x[k].toNat : Int), .int .i64 48, .int .i64 57] w fun e w' => e = .returned (.bool true) ∧ w' = w) := fun w => btw_in _ _ _ w (by omega) (by omega)
              have d1 : 48 ≤ (x[k].toNat : Int) := by omega
              have d2 : (x[k].toNat : Int) ≤ 57 := by omega
              by_cases hc2 : c2 ≤ 255
              · rw [if_pos ⟨c1.1, c1.2, hc2⟩] at hdec
                have HE : Hid (10 * a + (x[k].toNat : Int) - 48 = ((10 * c2 + x[k].toNat - 48 : Nat) : Int) ∧ rdec 0 x.data.toList = rdec (10 * c2 + x[k].toNat - 48) (x.data.toList.drop (k + 1))) := ⟨by omega, hdec⟩
                have ha2 : a ≤ 255 := by omega
                clear hdec ha hh c1 hc2
                go_wp2_with fail
                refine (T1.out _).mono ?_
                rintro e w2 ⟨rfl, rfl⟩
                go_wp2_with fail
                exact ⟨⟨k + 1, _, _, by go_num, rfl, by omega, by omega, by omega, HE⟩, by simp [intOf]; omega⟩
              · rw [if_neg (fun h => hc2 h.2.2)] at hdec
                have HE : Hid (R = none) := by rw [Hid, HD.out, docB, hdec]
                have ha2 : 255 < a := by omega
                clear hdec ha hh c1 hc2 HD
                go_wp2_with fail
                refine (T1.out _).mono ?_
                rintro e w2 ⟨rfl, rfl⟩
                go_wp2_with fail
                rw [HE.out]
                go_ret2
                exact ⟨rfl, btr HB1.out hb⟩
            · have T1 : Hid (∀ w : World, Calls Tryz.prog 29 #[.int .i64 (x[k].toNat : Int), .int .i64 48, .int .i64 57] w fun e w' => e = .returned (.bool false) ∧ w' = w) := fun w => btw_out _ _ _ w (by omega)
              rw [if_neg (fun h => c1 ⟨h.1, h.2.1⟩)] at hdec
              have HE : Hid (R = none) := by rw [Hid, HD.out, docB, hdec]
              clear hdec ha hh c1 HD
              go_wp2_with fail
              refine (T1.out _).mono ?_
              rintro e w2 ⟨rfl, rfl⟩
              go_wp2_with fail
              rw [HE.out]
              go_ret2
              exact ⟨rfl, btr HB1.out hb⟩
          · obtain ⟨ha, hdec⟩ := hh.out
            rw [List.drop_eq_nil_of_le (by omega), rdec] at hdec
            have hki : ¬ (k : Int) < (x.size : Int) := by omega
            have HE : Hid (docB x.data.toList = if x.data.toList ≠ [] ∧ c2 ≤ 255 ∧ digs 10 c2 = x.data.toList then some c2 else none) := by rw [Hid, docB, hdec]
            have c20 : c2 < 2560 := by omega
            have HX : Hid (∀ w : World, Calls Tryz.prog 32 #[.int .i64 a, .int .i64 10] w fun e w' => e = .returned (.string ⟨(digs 10 c2).toArray⟩) ∧ Below w.heap.size w w') := by
              intro w; rw [ha]; exact digits_any 10 (by decide) (by decide) c2 (by omega) w
            have HC : Hid (∀ w : World, c2 ≤ 255 → Calls Tryz.prog 60 #[.int .i64 a, .int .i64 8] w fun e w' => e = .returned (.string ⟨(bin 8 c2).toArray⟩) ∧ Below w.heap.size w w') := by
              intro w _; rw [ha]; exact bitsOf_any 8 c2 w (by decide) (by omega)
            have HA : Hid (a = (c2 : Int)) := ha
            clear hh hdec ha
            by_cases hx0 : x.data.toList = []
            · have HE2 : Hid (R = none) := by rw [Hid, HD.out, HE.out, if_neg (fun h => h.1 hx0)]
              have hq := str_empty x hx0
              clear HE HD HX HC
              go_wp2_with fail
              go_region
              go_wp2_with fail
              rw [HE2.out]
              go_ret2
              exact ⟨rfl, (btr HB1.out hb).drew⟩
            · have hq := str_some x hx0
              by_cases hc2 : c2 ≤ 255
              · have ha2 : a ≤ 255 := by have := HA.out; omega
                have hd2 : decide (255 < a) = false := decide_eq_false (by omega)
                by_cases hdx : digs 10 c2 = x.data.toList
                · have HE2 : Hid (R = fourAcc (acc * 256 + c2) (ws.drop (i + 1))) := by rw [Hid, HD.out, HE.out, if_pos ⟨hx0, hc2, hdx⟩]
                  have hq2 := str_same _ x hdx
                  generalize digs 10 c2 = dd at hq2 HX hdx
                  have hp : ∀ W : World, (Op.stringOp .add ⟨(bin (8 * i) acc).toArray⟩ ⟨(bin 8 c2).toArray⟩).run Tryz.prog W = .ok (.string ⟨(bin (8 * (i + 1)) (acc * 256 + c2)).toArray⟩) W := by
                    intro W
                    rw [show 8 * (i + 1) = 8 * i + 8 by omega, bin_more (8 * i) acc c2 (by omega)]
                    exact run_string_add_lists (P := Tryz.prog) W _ _ (by rw [bin_length]; omega) (by rw [bin_length]; omega)
                  have HC2 : Hid (∀ w : World, Calls Tryz.prog 60 #[.int .i64 a, .int .i64 8] w fun e w' => e = .returned (.string ⟨(bin 8 c2).toArray⟩) ∧ Below w.heap.size w w') := fun w => HC.out w hc2
                  clear HE HD HC hdx
                  go_wp2_with fail
                  go_region_held3 (fun w' => (w'.cell? ⟨g, i, none⟩ = some (.string x) ∧ g < w'.heap.size) ∧ Below w1.heap.size w1 w')
                    (first | exact ⟨⟨hcx, Nat.lt_of_lt_of_le hglt hzz⟩, hb.drew⟩ | exact ⟨⟨hcx, Nat.lt_of_lt_of_le hglt hzz⟩, hb⟩ | exact keep1 (by assumption) (by assumption))
                    ((go_at_call 32; refine (HX.out _).mono ?_; rintro e w3 ⟨rfl, hb3⟩))
                  have HS : (w3.cell? ⟨g, i, none⟩ = some (.string x) ∧ g < w3.heap.size) ∧ Below w1.heap.size w1 w3 := by assumption
                  have hb4 := HS.2
                  clear HS hb3
                  go_wp2_with fail
                  refine (HC2.out _).mono ?_
                  rintro e w4 ⟨rfl, hb5⟩
                  have hb6 := btr hb4 hb5
                  go_wp2_with fail
                  exact ⟨⟨i + 1, acc * 256 + c2, by go_num, rfl, by omega, hb6, HE2⟩, by simp [intOf]; omega⟩
                · have HE2 : Hid (R = none) := by rw [Hid, HD.out, HE.out, if_neg (fun h => hdx h.2.2)]
                  have hq2 := str_other _ x hdx
                  generalize digs 10 c2 = dd at hq2 HX hdx
                  clear HE HD HC hdx
                  go_wp2_with fail
                  go_region_held3 (fun w' => (w'.cell? ⟨g, i, none⟩ = some (.string x) ∧ g < w'.heap.size) ∧ Below w1.heap.size w1 w')
                    (first | exact ⟨⟨hcx, Nat.lt_of_lt_of_le hglt hzz⟩, hb.drew⟩ | exact ⟨⟨hcx, Nat.lt_of_lt_of_le hglt hzz⟩, hb⟩ | exact keep1 (by assumption) (by assumption))
                    ((go_at_call 32; refine (HX.out _).mono ?_; rintro e w3 ⟨rfl, hb3⟩))
                  have HS : (w3.cell? ⟨g, i, none⟩ = some (.string x) ∧ g < w3.heap.size) ∧ Below w1.heap.size w1 w3 := by assumption
                  have hb4 := HS.2
                  clear HS hb3
                  go_wp2_with fail
                  rw [HE2.out]
                  go_ret2
                  exact ⟨rfl, btr HB1.out hb4⟩
              · have ha2 : 255 < a := by have := HA.out; omega
                have HE2 : Hid (R = none) := by rw [Hid, HD.out, HE.out, if_neg (fun h => hc2 h.2.1)]
                clear HE HD HX HC hc2
                go_wp2_with fail
                go_region
                go_wp2_with fail
                rw [HE2.out]
                go_ret2
                exact ⟨rfl, (btr HB1.out hb).drew⟩
      · have hi4' : i = 4 := by omega
        subst hi4'
        have HE : Hid (R = some acc) := by have := hh.out; rw [List.drop_eq_nil_of_le (by omega), fourAcc] at this; exact this
        clear hh
        go_wp2_with fail
        rw [HE.out]
        go_ret2
        exact ⟨rfl, btr HB1.out hb⟩
  · have HR' : Hid (R = none) := by rw [Hid, HR.out, if_neg h4]
    clear HR
    go_enter Tryz.func49, Tryz.ntmps49
    go_wp2_with fail
    refine HS.out.mono ?_
    rintro e w1 ⟨v, rfl, hown, hb1⟩
    obtain ⟨a, c, rfl⟩ := own_slice hown
    have h4i : ¬ ((ws.length : Int) = 4) := by omega
    clear hown HS
    go_wp2_with fail
    rw [HR'.out]
    go_ret2
    exact ⟨rfl, hb1⟩
end Go.Proofs.YtollaiabcnmebaaGreatDoor

namespace Go.Proofs.YtollaiabcnmebaaGreatDoor
open Go.RowKit

/-- Bits of groups, and whether there are any. -/
def grT (o : Option (List Nat)) : Value := match o with | some gs => .tuple #[.string ⟨(gbits gs).toArray⟩, .bool true] | none => .tuple #[.string ⟨#[]⟩, .bool false]

theorem add_lists (x y : List UInt8) (W : World) (h : x.length + y.length ≤ 1073741824) : (Op.stringOp .add ⟨x.toArray⟩ ⟨y.toArray⟩).run Tryz.prog W = .ok (.string ⟨(x ++ y).toArray⟩) W := by
  rw [run_string_add_sum W _ _ (by simp [ByteArray.size]; omega), ByteArray.mk_append_mk]
theorem spl_count (c : UInt8) (l : List UInt8) : (spl c l).length ≤ l.length + 1 := by have := spl_sum c l; omega

set_option maxHeartbeats 8000000 in
set_option maxRecDepth 100000 in
theorem groupsOf_any (s : ByteArray) (e : Bool) (w : World) (hs : s.size ≤ 1048576) :
    Calls Tryz.prog 50 #[.string s, .bool e] w fun ed w' => ed = .returned (grT (rgroups e s.data.toList)) ∧ Below w.heap.size w w' := by
  have hl := size_list s
  by_cases h0 : s.data.toList = []
  · have hR : rgroups e s.data.toList = some [] := by rw [rgroups, if_pos h0]
    rw [hR]
    have hq := str_empty s h0
    clear hR
    go_enter Tryz.func50, Tryz.ntmps50
    go_wp2_with fail
    go_ret2
    exact ⟨rfl, Below.refl _ _⟩
  · have hR : rgroups e s.data.toList = rgs e (spl 58 s.data.toList) := by rw [rgroups, if_neg h0]
    rw [hR]
    have hq := str_some s h0
    have HS : Hid (Calls Tryz.prog 35 #[.string s, .int .u8 58] w fun e w' => ∃ v, e = .returned v ∧ w'.ownsRow w.heap.size 9 1 v (spl 58 s.data.toList).length (strs (spl 58 s.data.toList)) ∧ Below w.heap.size w w') := splitAt_any s 58 w hs
    have hlen : ∀ x ∈ spl 58 s.data.toList, x.length ≤ 1048576 := fun x hx => Nat.le_trans (spl_len 58 _ x hx) (by omega)
    have hn0 := spl_ne 58 s.data.toList
    have hcnt := spl_count 58 s.data.toList
    rw [hl] at hcnt
    generalize spl 58 s.data.toList = ws at HS hlen hn0 hcnt
    have HR : Hid (rgs e ws = rgs e ws) := rfl
    generalize hRR : rgs e ws = R at HR
    have HR' : Hid (R = rgs e ws) := hRR.symm
    clear hR hRR HR
    obtain ⟨n, hn⟩ : ∃ n, n = ws.length := ⟨_, rfl⟩
    have HN : Hid (n = ws.length) := hn
    have hn1 : 0 < n := by rw [hn]; exact List.length_pos_iff.2 hn0
    go_enter Tryz.func50, Tryz.ntmps50
    go_wp2_with fail
    refine HS.out.mono ?_
    rintro e2 w1 ⟨v, rfl, hown, hb1⟩
    have hc := fun g hg => hown.cells (g := g) hg
    rw [← hn] at hown
    rcases hown.2 with ⟨rfl, hz⟩ | ⟨g, cap, cur, rfl, hg, hcur, h3⟩
    · omega
    have hglt : g < w1.heap.size := by
      rcases Nat.lt_or_ge g w1.heap.size with h | h
      · exact h
      · rw [Array.getElem?_eq_none h] at hcur; cases hcur
    have hcell : ∀ j (hj : j < ws.length), w1.cell? ⟨g, j, none⟩ = some (.string ⟨(ws[j]).toArray⟩) := by
      intro j hj
      have := hc g rfl j (.string ⟨(ws[j]).toArray⟩) (by simp [strs, hj])
      rw [Lib.add_plain] at this
      simpa using this
    have HB1 : Hid (Below w.heap.size w w1) := hb1
    clear hcur h3 hc hown HS hb1 hn
    go_wp2_with fail
    go_loopw [7, 8] (fun vb vi wr => ∃ (i : Nat) (gs : List Nat), vi = .int .i64 i ∧ vb = .string ⟨(gbits gs).toArray⟩ ∧ i ≤ n ∧ gs.length ≤ 2 * i ∧ Below w1.heap.size w1 wr ∧
        Hid ((i < n → R = (rgs e (ws.drop i)).map (gs ++ ·)) ∧ (i = n → R = some gs)))
      (fun _ vi _ => n - (intOf vi).toNat)
    case atStart => exact ⟨0, [], rfl, rfl, Nat.zero_le _, by simp, Below.refl _ _, fun _ => by rw [HR'.out, List.drop_zero]; simp, fun h => by omega⟩
    case round =>
      obtain ⟨i, gs, rfl, rfl, hin, hgl, hb, hh⟩ := hrel
      have hzz := hb.size
      have hn := HN.out
      by_cases hi : i < n
      · have hcx := (bcell hb).1 g i hglt
        rw [hcell i (by omega)] at hcx
        have hd := hh.out.1 hi
        rw [List.drop_eq_getElem_cons (show i < ws.length by omega)] at hd
        have hxl := hlen _ (List.getElem_mem (show i < ws.length by omega))
        obtain ⟨x, hx⟩ : ∃ x : ByteArray, x = ⟨(ws[i]'(by omega)).toArray⟩ := ⟨_, rfl⟩
        rw [← hx] at hcx
        have hx2 : ws[i]'(by omega) = x.data.toList := by rw [hx]
        rw [hx2] at hd hxl
        have hxs := size_list x
        have hI : (i : Int) < (n : Int) := by omega
        have hI0 : (0 : Int) ≤ (i : Int) := by omega
        have HG : Hid (∀ w : World, Calls Tryz.prog 61 #[.string x] w fun e w' => e = .returned (bitT 16 (rgrp x.data.toList)) ∧ Below w.heap.size w w') := fun w => groupOf_any x w (by omega)
        have HF : Hid (∀ w : World, Calls Tryz.prog 49 #[.string x] w fun e w' => e = .returned (bitT 32 (rfour x.data.toList)) ∧ Below w.heap.size w w') := fun w => fourOf_any x w (by omega)
        have hgl2 := gbits_length gs
        clear hh hx hx2
        -- the last word or not
        by_cases hlast : i + 1 = n
        · have hdn : ws.drop (i + 1) = [] := List.drop_eq_nil_of_le (by omega)
          rw [hdn, rgs_last] at hd
          have hLb : ((i : Int) == (n : Int) - 1) = true := by rw [beq_iff_eq]; omega
          have HL : Hid (i + 1 = n) := hlast
          have hnx : n ≤ 1048577 := by omega
          clear hlast hn hdn
          cases hr : rgrp x.data.toList with
          | some k =>
            rw [hr] at hd HG
            have HD : Hid (R = some (gs ++ [k])) := hd
            have hp : ∀ W : World, (Op.stringOp .add ⟨(gbits gs).toArray⟩ ⟨(bin 16 k).toArray⟩).run Tryz.prog W = .ok (.string ⟨(gbits (gs ++ [k])).toArray⟩) W := by
              intro W
              rw [gbits_append, show gbits [k] = bin 16 k by simp [gbits]]
              exact add_lists _ _ W (by rw [hgl2, bin_length]; omega)
            clear hd hr HF
            go_wp2_with fail
            refine (HG.out _).mono ?_
            rintro e2 w2 ⟨rfl, hb2⟩
            have hb3 := btr hb hb2
            simp only [bitT]
            go_wp2_with fail
            exact ⟨⟨i + 1, gs ++ [k], by go_num, rfl, by omega, by simp; omega, hb3, fun h => by have := HL.out; omega, fun _ => HD.out⟩, by simp [intOf]; omega⟩
          | none =>
            rw [hr] at hd HG
            cases e with
            | false =>
              have HD : Hid (R = none) := hd
              clear hd hr HF
              go_wp2_with fail
              refine (HG.out _).mono ?_
              rintro e2 w2 ⟨rfl, hb2⟩
              have hb3 := btr hb hb2
              simp only [bitT]
              go_wp2_with fail
              rw [HD.out]
              go_ret2
              exact ⟨rfl, btr HB1.out hb3⟩
            | true =>
              cases hf : rfour x.data.toList with
              | none =>
                rw [hf] at hd HF
                have HD : Hid (R = none) := hd
                clear hd hr hf
                go_wp2_with fail
                refine (HG.out _).mono ?_
                rintro e2 w2 ⟨rfl, hb2⟩
                have hcy := (bcell hb2).1 g i (by omega)
                rw [hcx] at hcy
                simp only [bitT]
                go_wp2_with fail
                refine (HF.out _).mono ?_
                rintro e2 w3 ⟨rfl, hb4⟩
                simp only [bitT]
                have hb3 := btr (btr hb hb2) hb4
                go_wp2_with fail
                rw [HD.out]
                go_ret2
                exact ⟨rfl, btr HB1.out hb3⟩
              | some k =>
                rw [hf] at hd HF
                have HD : Hid (R = some (gs ++ [k / 65536, k % 65536])) := hd
                have hp : ∀ W : World, (Op.stringOp .add ⟨(gbits gs).toArray⟩ ⟨(bin 32 k).toArray⟩).run Tryz.prog W = .ok (.string ⟨(gbits (gs ++ [k / 65536, k % 65536])).toArray⟩) W := by
                  intro W
                  rw [gbits_append, gbits_four]
                  exact add_lists _ _ W (by rw [hgl2, bin_length]; omega)
                clear hd hr hf
                go_wp2_with fail
                refine (HG.out _).mono ?_
                rintro e2 w2 ⟨rfl, hb2⟩
                have hcy := (bcell hb2).1 g i (by omega)
                rw [hcx] at hcy
                simp only [bitT]
                go_wp2_with fail
                refine (HF.out _).mono ?_
                rintro e2 w3 ⟨rfl, hb4⟩
                simp only [bitT]
                have hb3 := btr (btr hb hb2) hb4
                go_wp2_with fail
                exact ⟨⟨i + 1, gs ++ [k / 65536, k % 65536], by go_num, rfl, by omega, by simp; omega, hb3, fun h => by have := HL.out; omega, fun _ => HD.out⟩, by simp [intOf]; omega⟩
        · have hL2 : ¬ ((i : Int) = (n : Int) - 1) := by omega
          have hLb : ((i : Int) == (n : Int) - 1) = false := by rw [beq_eq_false_iff_ne]; exact hL2
          rw [List.drop_eq_getElem_cons (show i + 1 < ws.length by omega), rgs, ← List.drop_eq_getElem_cons (show i + 1 < ws.length by omega)] at hd
          cases hr : rgrp x.data.toList with
          | some k =>
            rw [hr] at hd HG
            have HD : Hid (R = (rgs e (ws.drop (i + 1))).map ((gs ++ [k]) ++ ·)) := by
              rw [Hid, hd]
              cases rgs e (ws.drop (i + 1)) <;> simp
            have hp : ∀ W : World, (Op.stringOp .add ⟨(gbits gs).toArray⟩ ⟨(bin 16 k).toArray⟩).run Tryz.prog W = .ok (.string ⟨(gbits (gs ++ [k])).toArray⟩) W := by
              intro W
              rw [gbits_append, show gbits [k] = bin 16 k by simp [gbits]]
              exact add_lists _ _ W (by rw [hgl2, bin_length]; omega)
            clear hd hr HF
            go_wp2_with fail
            refine (HG.out _).mono ?_
            rintro e2 w2 ⟨rfl, hb2⟩
            have hb3 := btr hb hb2
            simp only [bitT]
            go_wp2_with fail
            exact ⟨⟨i + 1, gs ++ [k], by go_num, rfl, by omega, by simp; omega, hb3, fun _ => HD.out, fun h => by omega⟩, by simp [intOf]; omega⟩
          | none =>
            rw [hr] at hd HG
            have HD : Hid (R = none) := hd
            clear hd hr HF
            cases e with
            | false =>
              go_wp2_with fail
              refine (HG.out _).mono ?_
              rintro e2 w2 ⟨rfl, hb2⟩
              have hb3 := btr hb hb2
              simp only [bitT]
              go_wp2_with fail
              rw [HD.out]
              go_ret2
              exact ⟨rfl, btr HB1.out hb3⟩
            | true =>
              go_wp2_with fail
              refine (HG.out _).mono ?_
              rintro e2 w2 ⟨rfl, hb2⟩
              have hb3 := btr hb hb2
              simp only [bitT]
              go_wp2_with fail
              rw [HD.out]
              go_ret2
              exact ⟨rfl, btr HB1.out hb3⟩
      · have hki : ¬ (i : Int) < (n : Int) := by omega
        have HD : Hid (R = some gs) := hh.out.2 (by omega)
        clear hh
        go_wp2_with fail
        rw [HD.out]
        go_ret2
        exact ⟨rfl, btr HB1.out hb⟩
end Go.Proofs.YtollaiabcnmebaaGreatDoor
