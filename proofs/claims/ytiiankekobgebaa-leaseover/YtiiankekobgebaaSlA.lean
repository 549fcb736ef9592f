/- Bits of numbers, and the small functions of the document: without texts of addresses. -/
import Derived.Test.YtiiankekobgebaaPfN
import Derived.Test.YtiiankekobgebaaH3
import Derived.Lib.SmallJoins
import Derived.Lib.Strings
import Derived.Lib.Walk
import Derived.Lib.Hide
import Derived.BigCall
import Derived.BigGuard
import Derived.BigRegion
import Derived.Laws.AppendOwnNone
import Derived.Lib.AppendZeros
import Derived.Laws.Strings3
import Derived.Laws.Closers25
import Derived.Laws.Closers25b
import Derived.Lib.ConvBytes
import Derived.Lib.LaidTab
import Derived.Lib.ItoaMem
set_option linter.unusedVariables false
set_option linter.unusedSimpArgs false
namespace Go.Proofs.Ytiiankekobgebaa
open Go.RowKit

theorem size_list (s : ByteArray) : s.data.toList.length = s.size := (Lib.size_eq s).symm

/-- The bytes of a row, as a string. -/
theorem cvt (W : World) (B o c : Nat) (l : List UInt8) (n : Nat) (hn : n = l.length) (h : ∀ j (hj : j < l.length), W.cell? ⟨B, o + j, none⟩ = some (.int .u8 ((l[j]).toNat : Int))) :
    (convert 77 9 (.slice (some ⟨B, o, none⟩) n c)).run Try.prog W = .ok (.string ⟨l.toArray⟩) W := by
  subst hn
  exact run_convert_bytes_back (P := Try.prog) W 77 9 5 ⟨B, o, none⟩ c l Try.underlying77 Try.underlying5 Try.underlying9 (fun j hj => by rw [Lib.add_plain]; exact h j hj)

/-- A hexadecimal digit. -/
def hexd (k : Nat) : UInt8 := UInt8.ofNat (if k < 10 then 48 + k else 87 + k)

theorem rcheck_any (v : Bool) (hi lo : Int) (w : World) (h0 : 0 ≤ hi) (l0 : 0 ≤ lo) :
    Calls Try.prog 23 #[.agg #[.bool v, .int .u64 hi, .int .u64 lo]] w fun e w' => e = .returned (.int .i64 (chk v hi lo)) ∧ Below w.heap.size w w' := by
  cases v
  · by_cases h : hi = 0
    · by_cases hl : 4294967295 < lo
      · have e : chk false hi lo = 3 := by simp [chk, hl]
        rw [e]
        subst h
        go_enter Try.func23, Try.ntmps23
        go_wp2
        go_ret
        exact ⟨rfl, bal (Below.refl _ _) _⟩
      · have e : chk false hi lo = 0 := by simp [chk, h]; omega
        rw [e]
        subst h
        have hl' : lo ≤ 4294967295 := by omega
        go_enter Try.func23, Try.ntmps23
        go_wp2
        go_ret
        exact ⟨rfl, bal (Below.refl _ _) _⟩
    · have e : chk false hi lo = 3 := by simp [chk, h]
      rw [e]
      have h' : 0 < hi := by omega
      go_enter Try.func23, Try.ntmps23
      go_wp2
      go_ret
      exact ⟨rfl, bal (Below.refl _ _) _⟩
  · have e : chk true hi lo = 0 := by simp [chk]
    rw [e]
    go_enter Try.func23, Try.ntmps23
    go_wp2
    go_ret
    exact ⟨rfl, bal (Below.refl _ _) _⟩

theorem between_any (n a b : Int) (w : World) :
    Calls Try.prog 24 #[.int .i64 n, .int .i64 a, .int .i64 b] w fun e w' => e = .returned (.bool (decide (a ≤ n) && decide (n ≤ b))) ∧ w' = w := by
  by_cases h : a ≤ n
  · have hd : decide (a ≤ n) = true := decide_eq_true h
    rw [hd, Bool.true_and]
    go_enter Try.func24, Try.ntmps24
    go_wp2
    go_ret
    exact ⟨rfl, rfl⟩
  · have hd : decide (a ≤ n) = false := decide_eq_false h
    rw [hd, Bool.false_and]
    go_enter Try.func24, Try.ntmps24
    go_wp2
    go_ret
    exact ⟨rfl, rfl⟩

/-- The last k bits of a number, as 0 and 1. -/
def bin : Nat → Nat → List UInt8
  | 0, _ => []
  | k + 1, n => bin k (n / 2) ++ [hexd (n % 2)]

theorem bin_length : ∀ (k n : Nat), (bin k n).length = k
  | 0, _ => rfl
  | k + 1, n => by rw [bin, List.length_append, bin_length k]; rfl

def bitv (c : UInt8) : Nat := if c = 49 then 1 else 0

/-- The number that bits tell. -/
def vbin : Nat → List UInt8 → Nat
  | acc, [] => acc
  | acc, c :: r => vbin (acc * 2 + bitv c) r

/-- Bits: 0 or 1 each. -/
def IsBin (l : List UInt8) : Prop := ∀ c ∈ l, c = 48 ∨ c = 49

theorem vbin_append : ∀ (l r : List UInt8) (acc : Nat), vbin acc (l ++ r) = vbin (vbin acc l) r
  | [], r, acc => by simp only [List.nil_append, vbin]
  | c :: l, r, acc => by simp only [List.cons_append, vbin]; exact vbin_append l r _

theorem vbin_lt : ∀ (l : List UInt8) (acc k : Nat), IsBin l → acc < 2 ^ k → vbin acc l < 2 ^ (k + l.length)
  | [], acc, k, _, h => by simpa [vbin] using h
  | c :: l, acc, k, hb, h => by
    rw [vbin]
    have hc := hb c (by simp)
    have : acc * 2 + bitv c < 2 ^ (k + 1) := by
      rw [Nat.pow_succ]
      rcases hc with rfl | rfl
      · simp [bitv]; omega
      · simp [bitv]; omega
    have := vbin_lt l _ (k + 1) (fun x hx => hb x (List.mem_cons_of_mem _ hx)) this
    rw [List.length_cons, show k + (l.length + 1) = k + 1 + l.length by omega]
    exact this

theorem data_get (s : ByteArray) (k : Nat) (h : k < s.size) : s.data.toList[k]'(by rw [size_list]; exact h) = s[k] := rfl

theorem bitd (n : Nat) : bitv (hexd (n % 2)) = n % 2 ∧ (hexd (n % 2) = 48 ∨ hexd (n % 2) = 49) := by
  have : n % 2 = 0 ∨ n % 2 = 1 := by omega
  rcases this with h | h <;> rw [h] <;> decide

theorem bin_isBin : ∀ (k n : Nat), IsBin (bin k n)
  | 0, n => by intro c hc; simp [bin] at hc
  | k + 1, n => by
    intro c hc
    rw [bin, List.mem_append] at hc
    rcases hc with hc | hc
    · exact bin_isBin k _ c hc
    · simp at hc; subst hc; exact (bitd n).2

theorem vbin_bin : ∀ (k n acc : Nat), vbin acc (bin k n) = acc * 2 ^ k + n % 2 ^ k
  | 0, n, acc => by simp [bin, vbin, Nat.mod_one]
  | k + 1, n, acc => by
    rw [bin, vbin_append, vbin_bin k, vbin, vbin, (bitd n).1, Nat.pow_succ]
    have h : n % (2 ^ k * 2) = n / 2 % 2 ^ k * 2 + n % 2 := by
      rw [Nat.mul_comm (2 ^ k) 2, Nat.mod_mul]; omega
    rw [h, Nat.add_mul, Nat.mul_assoc]; omega

theorem bin_split (i : Nat) : ∀ (j n : Nat), bin (i + j) n = bin i (n / 2 ^ j) ++ bin j n
  | 0, n => by simp [bin]
  | j + 1, n => by
    rw [← Nat.add_assoc, bin, bin_split i j, bin, List.append_assoc, Nat.div_div_eq_div_mul, Nat.pow_succ, Nat.mul_comm 2]

theorem bin_sub (i j k n : Nat) : ((bin (i + j + k) n).drop i).take j = bin j (n / 2 ^ k) := by
  rw [bin_split (i + j) k, bin_split i j, List.append_assoc, List.drop_left' (bin_length _ _), List.take_left' (bin_length _ _)]

theorem vbin_add : ∀ (l : List UInt8) (acc : Nat), vbin acc l = acc * 2 ^ l.length + vbin 0 l
  | [], acc => by simp [vbin]
  | c :: l, acc => by
    rw [vbin, vbin, vbin_add l, vbin_add l (0 * 2 + bitv c), List.length_cons, Nat.pow_succ, Nat.add_mul, Nat.mul_assoc, Nat.mul_comm 2]
    simp; omega

theorem vbin_lt0 (l : List UInt8) : vbin 0 l < 2 ^ l.length := by
  induction l with
  | nil => simp [vbin]
  | cons c l ih =>
    rw [vbin, vbin_add, List.length_cons, Nat.pow_succ]
    have : bitv c ≤ 1 := by unfold bitv; split <;> omega
    have : (0 * 2 + bitv c) * 2 ^ l.length ≤ 1 * 2 ^ l.length := Nat.mul_le_mul_right _ (by omega)
    omega

/-- The first bits that are not the same decide. -/
def lessL : List UInt8 → List UInt8 → Bool
  | a :: l, b :: r => if a = b then lessL l r else decide (a < b)
  | _, _ => false

theorem lessL_num : ∀ (l r : List UInt8), IsBin l → IsBin r → l.length = r.length → lessL l r = decide (vbin 0 l < vbin 0 r)
  | [], [], _, _, _ => by simp [lessL, vbin]
  | [], b :: r, _, _, h => by simp at h
  | a :: l, [], _, _, h => by simp at h
  | a :: l, b :: r, hl, hr, h => by
    have ih := lessL_num l r (fun c hc => hl c (List.mem_cons_of_mem _ hc)) (fun c hc => hr c (List.mem_cons_of_mem _ hc)) (by simpa using h)
    have h' : l.length = r.length := by simpa using h
    have x1 := vbin_lt0 l
    have x2 := vbin_lt0 r
    rw [lessL, vbin, vbin, vbin_add l, vbin_add r, h', ih]
    rw [h'] at x1
    rcases hl a (by simp) with rfl | rfl <;> rcases hr b (by simp) with rfl | rfl
    · simp
    · simp only [bitv]; simp; omega
    · simp only [bitv]; simp; omega
    · simp

theorem u8_ne {c d : UInt8} (h : c ≠ d) : c.toNat ≠ d.toNat := fun e => h (UInt8.toNat_inj.1 e)

end Go.Proofs.Ytiiankekobgebaa
