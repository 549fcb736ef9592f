/- The document's answer: numberOf, bitsOf: a number and its bits as a text. -/
import Derived.Test.YtollaiabcnmebaaDoorRfA
set_option linter.unusedVariables false
set_option linter.unusedSimpArgs false
namespace Go.Proofs.YtollaiabcnmebaaDoor
open Go.RowKit

/-- The last k bits of a number, as 0 and 1. -/
def bin : Nat → Nat → List UInt8
  | 0, _ => []
  | k + 1, n => bin k (n / 2) ++ [hexd (n % 2)]
theorem bin_length : ∀ (k n : Nat), (bin k n).length = k
  | 0, _ => rfl
  | k + 1, n => by rw [bin, List.length_append, bin_length k]; rfl
def bitv (c : UInt8) : Nat := if c = 49 then 1 else 0
/-- The number that bits tell. -/
def vbin : Nat → List UInt8 → Nat
  | acc, [] => acc
  | acc, c :: r => vbin (acc * 2 + bitv c) r
/-- Bits: 0 or 1 each. -/
def IsBin (l : List UInt8) : Prop := ∀ c ∈ l, c = 48 ∨ c = 49

theorem vbin_append : ∀ (l r : List UInt8) (acc : Nat), vbin acc (l ++ r) = vbin (vbin acc l) r
  | [], r, acc => by simp only [List.nil_append, vbin]
  | c :: l, r, acc => by simp only [List.cons_append, vbin]; exact vbin_append l r _
theorem vbin_lt : ∀ (l : List UInt8) (acc k : Nat), IsBin l → acc < 2 ^ k → vbin acc l < 2 ^ (k + l.length)
  | [], acc, k, _, h => by simpa [vbin] using h
  | c :: l, acc, k, hb, h => by
    rw [vbin]
    have hc := hb c (by simp)
    have : acc * 2 + bitv c < 2 ^ (k + 1) := by
      rw [Nat.pow_succ]
      rcases hc with rfl | rfl
      · simp [bitv]; omega
      · simp [bitv]; omega
    have := vbin_lt l _ (k + 1) (fun x hx => hb x (List.mem_cons_of_mem _ hx)) this
    rw [List.length_cons, show k + (l.length + 1) = k + 1 + l.length by omega]
    exact this

theorem data_get (s : ByteArray) (k : Nat) (h : k < s.size) : s.data.toList[k]'(by rw [size_list]; exact h) = s[k] := rfl

set_option maxHeartbeats 4000000 in
set_option maxRecDepth 100000 in
theorem numberOf_any (s : ByteArray) (w : World) (hs : s.size ≤ 32) (hb : IsBin s.data.toList) :
    Calls Tryd.prog 23 #[.string s] w fun e w' => e = .returned (.int .i64 (vbin 0 s.data.toList)) ∧ w' = w := by
  obtain ⟨N, hN⟩ : ∃ N, N = s.size := ⟨_, rfl⟩
  have hl := size_list s
  have HN : Hid (N = s.size) := hN
  have hN32 : N ≤ 32 := by omega
  go_enter Tryd.func23, Tryd.ntmps23
  go_wp2_with fail
  go_loop [3, 4] (fun vn vi => ∃ (k acc : Nat) (a : Int), vi = .int .i64 k ∧ vn = .int .i64 a ∧ k ≤ N ∧ 0 ≤ a ∧ a < 4294967296 ∧ Hid (a = (acc : Int) ∧ acc < 2 ^ k ∧ vbin 0 s.data.toList = vbin acc (s.data.toList.drop k)))
    (fun _ vi => N - (intOf vi).toNat)
  case atStart => exact ⟨0, 0, 0, rfl, rfl, Nat.zero_le _, by omega, by omega, rfl, by decide, rfl⟩
  case round =>
    obtain ⟨k, acc, a, rfl, rfl, hk, a0, a1, hh⟩ := hrel
    have hN := HN.out
    by_cases hkN : k < N
    · obtain ⟨ha, hacc, hdec⟩ := hh.out
      have hks : k < s.size := by omega
      have hmem : s[k] ∈ s.data.toList := by rw [← data_get s k hks]; exact List.getElem_mem _
      have hbit := hb _ hmem
      rw [List.drop_eq_getElem_cons (show k < s.data.toList.length by omega), vbin, data_get s k hks] at hdec
      have hki : (k : Int) < (s.size : Int) := by omega
      have hk0 : (0 : Int) ≤ (k : Int) := by omega
      have hpow : 2 ^ k ≤ 2 ^ 31 := Nat.pow_le_pow_right (by decide) (by omega)
      have HD : Hid (acc * 2 + bitv s[k] < 2 ^ (k + 1) ∧ vbin 0 s.data.toList = vbin (acc * 2 + bitv s[k]) (s.data.toList.drop (k + 1)) ∧ a * 2 + (s[k].toNat : Int) - 48 = ((acc * 2 + bitv s[k] : Nat) : Int)) := by
        refine ⟨?_, hdec, ?_⟩
        · rw [Nat.pow_succ]; rcases hbit with h | h <;> simp [bitv, h] <;> omega
        · rcases hbit with h | h <;> simp [bitv, h] <;> omega
      have hc1 : 48 ≤ (s[k].toNat : Int) ∧ (s[k].toNat : Int) ≤ 49 := by rcases hbit with h | h <;> rw [h] <;> decide
      have ha1 : a < 2147483648 := by omega
      have hsk : s[k]? = some s[k] := by simp [hks]
      clear hdec hacc hbit hmem hpow ha hh
      go_wp2_with fail
      refine ⟨⟨k + 1, acc * 2 + bitv s[k], 2 * a + (s[k].toNat : Int) - 48, by go_num, rfl, by omega, by omega, by omega, ?_⟩, ?_⟩
      · obtain ⟨h1, h2, h3⟩ := HD.out
        exact ⟨by rw [← h3]; omega, h1, h2⟩
      · simp [intOf]; omega
    · obtain ⟨ha, hacc, hdec⟩ := hh.out
      rw [List.drop_eq_nil_of_le (by omega), vbin] at hdec
      have HD : Hid ((vbin 0 s.data.toList : Int) = (acc : Int)) := by rw [Hid, hdec]
      have hNk : ¬ ((k : Int) < (s.size : Int)) := by omega
      clear hdec hh
      subst ha
      go_wp2_with fail
      go_ret
      exact ⟨by rw [HD.out]; rfl, rfl⟩

set_option maxHeartbeats 4000000 in
set_option maxRecDepth 100000 in
theorem bitsOf_any : ∀ (k n : Nat) (w : World), k ≤ 32 → n < 4294967296 →
    Calls Tryd.prog 40 #[.int .i64 n, .int .i64 k] w fun e w' => e = .returned (.string ⟨(bin k n).toArray⟩) ∧ Below w.heap.size w w'
  | 0, n, w, _, _ => by
    go_enter Tryd.func40, Tryd.ntmps40
    go_wp2
    go_ret
    exact ⟨rfl, Below.refl _ _⟩
  | k + 1, n, w, hk, hn => by
    have HR : Hid (∀ w : World, Calls Tryd.prog 40 #[.int .i64 ((n / 2 : Nat) : Int), .int .i64 (k : Int)] w fun e w' => e = .returned (.string ⟨(bin k (n / 2)).toArray⟩) ∧ Below w.heap.size w w') := fun w => bitsOf_any k (n / 2) w (by omega) (by omega)
    have HD : Hid (∀ w : World, Calls Tryd.prog 22 #[.int .i64 ((n % 2 : Nat) : Int), .int .i64 2] w fun e w' => e = .returned (.string ⟨#[hexd (n % 2)]⟩) ∧ Below w.heap.size w w') := by
      intro w
      have := digits_any 2 (by omega) (by omega) (n % 2) (by omega) w
      rw [digs_eq, dif_pos (.inl (by omega)), Nat.mod_mod] at this
      exact this
    have hp : ∀ W : World, (Op.stringOp .add ⟨(bin k (n / 2)).toArray⟩ ⟨#[hexd (n % 2)]⟩).run Tryd.prog W = .ok (.string ⟨(bin (k + 1) n).toArray⟩) W := fun W =>
      run_string_add_lists (P := Tryd.prog) W (bin k (n / 2)) [hexd (n % 2)] (by rw [bin_length]; omega) (by simp)
    have hk1 : (((k : Int) + 1) == 0) = false := by rw [beq_eq_false_iff_ne]; omega
    have hkz : (((k + 1 : Nat) : Int)) = (k : Int) + 1 := by omega
    rw [hkz]
    have hq : (n : Int) / 2 = ((n / 2 : Nat) : Int) := by omega
    have hr : (n : Int) % 2 = ((n % 2 : Nat) : Int) := by omega
    generalize bin (k + 1) n = t at hp ⊢
    generalize bin k (n / 2) = t' at hp HR
    generalize hexd (n % 2) = d at hp HD
    obtain ⟨q, hq'⟩ : ∃ q : Int, q = ((n / 2 : Nat) : Int) := ⟨_, rfl⟩
    obtain ⟨r, hr'⟩ : ∃ r : Int, r = ((n % 2 : Nat) : Int) := ⟨_, rfl⟩
    rw [← hq'] at HR hq
    rw [← hr'] at HD hr
    have q0 : 0 ≤ q := by omega
    have q1 : q < 4294967296 := by omega
    clear hq' hr' hkz
    go_enter Tryd.func40, Tryd.ntmps40
    go_wp2_with fail
    refine (HR.out _).mono ?_
    rintro e w1 ⟨rfl, hb1⟩
    go_wp2_with fail
    refine (HD.out _).mono ?_
    rintro e w2 ⟨rfl, hb2⟩
    go_wp2
    go_ret
    exact ⟨rfl, btr hb1 hb2⟩
end Go.Proofs.YtollaiabcnmebaaDoor
