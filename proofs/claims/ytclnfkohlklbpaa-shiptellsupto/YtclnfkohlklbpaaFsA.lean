/- Lists: doc's lists of prefixes. -/
import Derived.Test.YtclnfkohlklbpaaPfN
import Derived.Test.YtclnfkohlklbpaaH3
import Derived.Lib.SmallJoins
import Derived.Lib.Strings
import Derived.Lib.Walk
import Derived.Lib.Hide
import Derived.BigCall
import Derived.BigGuard
import Derived.BigRegion
import Derived.Laws.AppendOwnNone
import Derived.Lib.AppendZeros
import Derived.Laws.Strings3
import Derived.Laws.Closers25
import Derived.Laws.Closers25b
import Derived.Lib.ConvBytes
import Derived.Lib.LaidTab
import Derived.Lib.ItoaMem
import Derived.Test.YtclnfkohlklbpaaPfQ
set_option linter.unusedVariables false
set_option linter.unusedSimpArgs false
namespace Go.Proofs.Ytclnfkohlklbpaa
open Go.RowKit

theorem size_list (s : ByteArray) : s.data.toList.length = s.size := (Lib.size_eq s).symm

/-- The bytes of a row, as a string. -/
theorem cvt (W : World) (B o c : Nat) (l : List UInt8) (n : Nat) (hn : n = l.length) (h : ∀ j (hj : j < l.length), W.cell? ⟨B, o + j, none⟩ = some (.int .u8 ((l[j]).toNat : Int))) :
    (convert 68 9 (.slice (some ⟨B, o, none⟩) n c)).run Try.prog W = .ok (.string ⟨l.toArray⟩) W := by
  subst hn
  exact run_convert_bytes_back (P := Try.prog) W 68 9 5 ⟨B, o, none⟩ c l Try.underlying68 Try.underlying5 Try.underlying9 (fun j hj => by rw [Lib.add_plain]; exact h j hj)

/-- A hexadecimal digit. -/
def hexd (k : Nat) : UInt8 := UInt8.ofNat (if k < 10 then 48 + k else 87 + k)

theorem rcheck_any (v : Bool) (hi lo : Int) (w : World) (h0 : 0 ≤ hi) (l0 : 0 ≤ lo) :
    Calls Try.prog 24 #[.agg #[.bool v, .int .u64 hi, .int .u64 lo]] w fun e w' => e = .returned (.int .i64 (chk v hi lo)) ∧ Below w.heap.size w w' := by
  cases v
  · by_cases h : hi = 0
    · by_cases hl : 4294967295 < lo
      · have e : chk false hi lo = 3 := by simp [chk, hl]
        rw [e]
        subst h
        go_enter Try.func24, Try.ntmps24
        go_wp2
        go_ret
        exact ⟨rfl, bal (Below.refl _ _) _⟩
      · have e : chk false hi lo = 0 := by simp [chk, h]; omega
        rw [e]
        subst h
        have hl' : lo ≤ 4294967295 := by omega
        go_enter Try.func24, Try.ntmps24
        go_wp2
        go_ret
        exact ⟨rfl, bal (Below.refl _ _) _⟩
    · have e : chk false hi lo = 3 := by simp [chk, h]
      rw [e]
      have h' : 0 < hi := by omega
      go_enter Try.func24, Try.ntmps24
      go_wp2
      go_ret
      exact ⟨rfl, bal (Below.refl _ _) _⟩
  · have e : chk true hi lo = 0 := by simp [chk]
    rw [e]
    go_enter Try.func24, Try.ntmps24
    go_wp2
    go_ret
    exact ⟨rfl, bal (Below.refl _ _) _⟩

theorem between_any (n a b : Int) (w : World) :
    Calls Try.prog 15 #[.int .i64 n, .int .i64 a, .int .i64 b] w fun e w' => e = .returned (.bool (decide (a ≤ n) && decide (n ≤ b))) ∧ w' = w := by
  by_cases h : a ≤ n
  · have hd : decide (a ≤ n) = true := decide_eq_true h
    rw [hd, Bool.true_and]
    go_enter Try.func15, Try.ntmps15
    go_wp2
    go_ret
    exact ⟨rfl, rfl⟩
  · have hd : decide (a ≤ n) = false := decide_eq_false h
    rw [hd, Bool.false_and]
    go_enter Try.func15, Try.ntmps15
    go_wp2
    go_ret
    exact ⟨rfl, rfl⟩

/-- The last k bits of a number, as 0 and 1. -/
def bin : Nat → Nat → List UInt8
  | 0, _ => []
  | k + 1, n => bin k (n / 2) ++ [hexd (n % 2)]

theorem bin_length : ∀ (k n : Nat), (bin k n).length = k
  | 0, _ => rfl
  | k + 1, n => by rw [bin, List.length_append, bin_length k]; rfl

def bitv (c : UInt8) : Nat := if c = 49 then 1 else 0

/-- The number that bits tell. -/
def vbin : Nat → List UInt8 → Nat
  | acc, [] => acc
  | acc, c :: r => vbin (acc * 2 + bitv c) r

/-- Bits: 0 or 1 each. -/
def IsBin (l : List UInt8) : Prop := ∀ c ∈ l, c = 48 ∨ c = 49

theorem vbin_append : ∀ (l r : List UInt8) (acc : Nat), vbin acc (l ++ r) = vbin (vbin acc l) r
  | [], r, acc => by simp only [List.nil_append, vbin]
  | c :: l, r, acc => by simp only [List.cons_append, vbin]; exact vbin_append l r _

theorem vbin_lt : ∀ (l : List UInt8) (acc k : Nat), IsBin l → acc < 2 ^ k → vbin acc l < 2 ^ (k + l.length)
  | [], acc, k, _, h => by simpa [vbin] using h
  | c :: l, acc, k, hb, h => by
    rw [vbin]
    have hc := hb c (by simp)
    have : acc * 2 + bitv c < 2 ^ (k + 1) := by
      rw [Nat.pow_succ]
      rcases hc with rfl | rfl
      · simp [bitv]; omega
      · simp [bitv]; omega
    have := vbin_lt l _ (k + 1) (fun x hx => hb x (List.mem_cons_of_mem _ hx)) this
    rw [List.length_cons, show k + (l.length + 1) = k + 1 + l.length by omega]
    exact this

theorem data_get (s : ByteArray) (k : Nat) (h : k < s.size) : s.data.toList[k]'(by rw [size_list]; exact h) = s[k] := rfl

theorem bitd (n : Nat) : bitv (hexd (n % 2)) = n % 2 ∧ (hexd (n % 2) = 48 ∨ hexd (n % 2) = 49) := by
  have : n % 2 = 0 ∨ n % 2 = 1 := by omega
  rcases this with h | h <;> rw [h] <;> decide

theorem bin_isBin : ∀ (k n : Nat), IsBin (bin k n)
  | 0, n => by intro c hc; simp [bin] at hc
  | k + 1, n => by
    intro c hc
    rw [bin, List.mem_append] at hc
    rcases hc with hc | hc
    · exact bin_isBin k _ c hc
    · simp at hc; subst hc; exact (bitd n).2

theorem vbin_bin : ∀ (k n acc : Nat), vbin acc (bin k n) = acc * 2 ^ k + n % 2 ^ k
  | 0, n, acc => by simp [bin, vbin, Nat.mod_one]
  | k + 1, n, acc => by
    rw [bin, vbin_append, vbin_bin k, vbin, vbin, (bitd n).1, Nat.pow_succ]
    have h : n % (2 ^ k * 2) = n / 2 % 2 ^ k * 2 + n % 2 := by
      rw [Nat.mul_comm (2 ^ k) 2, Nat.mod_mul]; omega
    rw [h, Nat.add_mul, Nat.mul_assoc]; omega

theorem bin_split (i : Nat) : ∀ (j n : Nat), bin (i + j) n = bin i (n / 2 ^ j) ++ bin j n
  | 0, n => by simp [bin]
  | j + 1, n => by
    rw [← Nat.add_assoc, bin, bin_split i j, bin, List.append_assoc, Nat.div_div_eq_div_mul, Nat.pow_succ, Nat.mul_comm 2]

theorem bin_sub (i j k n : Nat) : ((bin (i + j + k) n).drop i).take j = bin j (n / 2 ^ k) := by
  rw [bin_split (i + j) k, bin_split i j, List.append_assoc, List.drop_left' (bin_length _ _), List.take_left' (bin_length _ _)]

theorem vbin_add : ∀ (l : List UInt8) (acc : Nat), vbin acc l = acc * 2 ^ l.length + vbin 0 l
  | [], acc => by simp [vbin]
  | c :: l, acc => by
    rw [vbin, vbin, vbin_add l, vbin_add l (0 * 2 + bitv c), List.length_cons, Nat.pow_succ, Nat.add_mul, Nat.mul_assoc, Nat.mul_comm 2]
    simp; omega

theorem vbin_lt0 (l : List UInt8) : vbin 0 l < 2 ^ l.length := by
  induction l with
  | nil => simp [vbin]
  | cons c l ih =>
    rw [vbin, vbin_add, List.length_cons, Nat.pow_succ]
    have : bitv c ≤ 1 := by unfold bitv; split <;> omega
    have : (0 * 2 + bitv c) * 2 ^ l.length ≤ 1 * 2 ^ l.length := Nat.mul_le_mul_right _ (by omega)
    omega

/-- The first bits that are not the same decide. -/
def lessL : List UInt8 → List UInt8 → Bool
  | a :: l, b :: r => if a = b then lessL l r else decide (a < b)
  | _, _ => false

theorem lessL_num : ∀ (l r : List UInt8), IsBin l → IsBin r → l.length = r.length → lessL l r = decide (vbin 0 l < vbin 0 r)
  | [], [], _, _, _ => by simp [lessL, vbin]
  | [], b :: r, _, _, h => by simp at h
  | a :: l, [], _, _, h => by simp at h
  | a :: l, b :: r, hl, hr, h => by
    have ih := lessL_num l r (fun c hc => hl c (List.mem_cons_of_mem _ hc)) (fun c hc => hr c (List.mem_cons_of_mem _ hc)) (by simpa using h)
    have h' : l.length = r.length := by simpa using h
    have x1 := vbin_lt0 l
    have x2 := vbin_lt0 r
    rw [lessL, vbin, vbin, vbin_add l, vbin_add r, h', ih]
    rw [h'] at x1
    rcases hl a (by simp) with rfl | rfl <;> rcases hr b (by simp) with rfl | rfl
    · simp
    · simp only [bitv]; simp; omega
    · simp only [bitv]; simp; omega
    · simp

theorem u8_ne {c d : UInt8} (h : c ≠ d) : c.toNat ≠ d.toNat := fun e => h (UInt8.toNat_inj.1 e)

end Go.Proofs.Ytclnfkohlklbpaa

namespace Go.Proofs.Ytclnfkohlklbpaa
open Go.RowKit

theorem info8 : (Try.prog.info? 5).map (fun i => (i.zero, i.size, i.bytes)) = some (some (.int .u8 0), 1, 1) := by kernel_rfl

/-- Bytes, as the cells of a row. -/
def u8s (l : List UInt8) : List Value := l.map fun b : UInt8 => Value.int .u8 (b.toNat : Int)

theorem u8s_append (l r : List UInt8) : u8s (l ++ r) = u8s l ++ u8s r := by simp [u8s]

theorem u8s_length (l : List UInt8) : (u8s l).length = l.length := by simp [u8s]

theorem own_u8 {W : World} {B n : Nat} {v : Value} {l : List UInt8} (h : W.ownsRow B 5 1 v n (u8s l)) (h0 : 0 < n) :
    ∃ g c, v = .slice (some ⟨g, 0, none⟩) n c ∧ n ≤ c ∧ c ≤ maxLen ∧ n = l.length ∧ ∀ j (hj : j < l.length), W.cell? ⟨g, j, none⟩ = some (.int .u8 ((l[j]).toNat : Int)) := by
  obtain ⟨h1, h2⟩ := h
  rcases h2 with ⟨rfl, h2⟩ | ⟨g, c, cur, rfl, _, hc, h3, h4, h5, h6⟩
  · omega
  · rw [u8s_length] at h1
    refine ⟨g, c, rfl, h3, h4, by omega, fun j hj => ?_⟩
    have hj2 : (cur.toList.take (n * 1))[j]? = (u8s l)[j]? := by rw [h6]
    rw [List.getElem?_take_of_lt (by omega)] at hj2
    simp only [u8s, List.getElem?_map, List.getElem?_eq_getElem hj, Option.map_some] at hj2
    simp [World.cell?, hc]
    simpa using hj2

/-- The bits of an address. -/
def bitsT (v : Bool) (hi lo : Nat) : List UInt8 := if v then bin 64 hi ++ bin 64 lo else bin 32 lo

theorem hexd_bit (n : Nat) : ((hexd (n % 2)).toNat : Int) = 48 + (n : Int) % 2 := by
  have : n % 2 = 0 ∨ n % 2 = 1 := by omega
  rcases this with h | h
  · rw [h]; have : (n : Int) % 2 = 0 := by omega
    rw [this]; rfl
  · rw [h]; have : (n : Int) % 2 = 1 := by omega
    rw [this]; rfl

set_option maxHeartbeats 8000000 in
set_option maxRecDepth 100000 in
theorem bits_any (v : Bool) (hi lo : Nat) (w : World) (h1 : hi < 18446744073709551616) (l1 : lo < 18446744073709551616) :
    Calls Try.prog 29 #[.agg #[.bool v, .int .u64 hi, .int .u64 lo]] w fun e w' => e = .returned (.string ⟨(bitsT v hi lo).toArray⟩) ∧ Below w.heap.size w w' := by
  obtain ⟨i0, hi0, hz0, hz1, hz2⟩ := info_parts info8
  have hb0 : Below w.heap.size w (w.alloc (.cells #[.bool v, .int .u64 hi, .int .u64 lo] 38)) := bal (Below.refl _ _) _
  have HB0 : Hid (Below w.heap.size w (w.alloc (.cells #[.bool v, .int .u64 hi, .int .u64 lo] 38))) := hb0
  have c0 : (w.alloc (.cells #[.bool v, .int .u64 hi, .int .u64 lo] 38)).cell? ⟨w.heap.size, 0, none⟩ = some (.bool v) := by simp [go_sem]
  have c1 : (w.alloc (.cells #[.bool v, .int .u64 hi, .int .u64 lo] 38)).cell? ⟨w.heap.size, 1, none⟩ = some (.int .u64 hi) := by simp [go_sem]
  have c2 : (w.alloc (.cells #[.bool v, .int .u64 hi, .int .u64 lo] 38)).cell? ⟨w.heap.size, 2, none⟩ = some (.int .u64 lo) := by simp [go_sem]
  have hsz : w.heap.size < (w.alloc (.cells #[.bool v, .int .u64 hi, .int .u64 lo] 38)).heap.size := by simp
  have HT : Hid ((if v then bin 64 hi ++ bin 64 lo else bin 32 lo) = bitsT v hi lo) := rfl
  generalize bitsT v hi lo = T at HT ⊢
  clear hb0
  go_enter Try.func29, Try.ntmps29
  go_wp2_with fail
  generalize w.alloc (.cells #[.bool v, .int .u64 hi, .int .u64 lo] 38) = W at HB0 c0 c1 c2 hsz ⊢
  go_loopw [3, 4] (fun vs vi wr => ∃ (k : Nat) (j : Int), vi = .int .i64 j ∧ Hid (j = 63 - (k : Int)) ∧ k ≤ 64 ∧ Below W.heap.size W wr ∧ wr.ownsRow W.heap.size 5 1 vs k (u8s (bin k (hi / 2 ^ (64 - k)))))
    (fun _ vi _ => (intOf vi + 1).toNat)
  case atStart => exact ⟨0, 63, rfl, (by omega : (63 : Int) = 63 - ((0 : Nat) : Int)), by omega, Below.refl _ _, World.ownsRow_nil _ _ _ _⟩
  case round =>
    obtain ⟨k, j, rfl, Hj, hk, hb, hown⟩ := hrel
    have hzz := hb.size
    have hj := Hj.out
    by_cases hk64 : k < 64
    · have hc := (bcell hb).1 w.heap.size 1 hsz
      rw [c1] at hc
      have hj0 : 0 ≤ j := by omega
      have hj1 : j ≤ 63 := by omega
      obtain ⟨m, hm⟩ : ∃ m, m = hi / 2 ^ (63 - k) := ⟨_, rfl⟩
      have hm1 : m < 18446744073709551616 := by rw [hm]; exact Nat.lt_of_le_of_lt (Nat.div_le_self _ _) h1
      have hstep : bin (k + 1) (hi / 2 ^ (64 - (k + 1))) = bin k (hi / 2 ^ (64 - k)) ++ [hexd (m % 2)] := by
        rw [bin, Nat.div_div_eq_div_mul, ← Nat.pow_succ, show (64 - (k + 1)).succ = 64 - k by omega, show 64 - (k + 1) = 63 - k by omega, ← hm]
      have hsh : (hi : Int) / 2 ^ j.toNat = (m : Int) := by rw [hm, show j.toNat = 63 - k by omega]; simp
      have HS : Hid (bin (k + 1) (hi / 2 ^ (64 - (k + 1))) = bin k (hi / 2 ^ (64 - k)) ++ [hexd (m % 2)]) := hstep
      obtain ⟨r, hr⟩ : ∃ r : Int, (m : Int) % 2 = r := ⟨_, rfl⟩
      have HE : Hid (((hexd (m % 2)).toNat : Int) = 48 + r) := by rw [← hr]; exact hexd_bit m
      have r0 : 0 ≤ r := by omega
      have r1 : r ≤ 1 := by omega
      have Hj2 : Hid (j - 1 = 63 - ((k + 1 : Nat) : Int)) := (by omega : j - 1 = 63 - ((k + 1 : Nat) : Int))
      clear hstep hm hj
      have HO : Hid (wr.ownsRow W.heap.size 5 1 u3 k (u8s (bin k (hi / 2 ^ (64 - k))))) := hown
      clear hown
      go_wp2_with (at_builtin; refine wpList_append_own _ rfl _ _ 68 rfl W.heap.size 5 i0 (.int .u8 0) 1 1 Try.underlying68 hi0 hz0 hz1 hz2 rfl (by decide) _ _ _ rfl (HO.out.alloc _) ⟨wr.heap.size, 0, none⟩ 1 1 [.int .u8 (48 + r)] rfl rfl ?c1 ?c2 ?c3 ?c4 ?c5 ?_)
      case c1 =>
        intro j u hj
        match j, hj with
        | 0, hj => simp at hj; subst hj; simp [Addr.add]
      case c2 => intro u hu; simp at hu; subst hu; rfl
      case c3 => unfold maxLen; omega
      case c4 => omega
      case c5 => simp; omega
      intro v' w3 hown' hgrow _
      have hb3 : Below W.heap.size W w3 := (bal hb _).grown hgrow (by simp; omega) (fun k hk => (HO.out.lt k hk).1)
      have HR : Hid (w3.ownsRow W.heap.size 5 1 v' (k + 1) (u8s (bin (k + 1) (hi / 2 ^ (64 - (k + 1)))))) := by
        rw [HS.out, u8s_append, show u8s [hexd (m % 2)] = [.int .u8 (48 + r)] by simp [u8s, HE.out]]; exact hown'
      clear hown' hgrow HO
      go_wp2
      go_roundw
      case rel => exact ⟨k + 1, j - 1, rfl, Hj2, by omega, hb3, HR⟩
      case measure => simp [intOf]; omega
    · have hk2 : k = 64 := by omega
      subst hk2
      have hj2 : j = -1 := by omega
      subst hj2
      clear Hj
      have HO : Hid (wr.ownsRow W.heap.size 5 1 u3 64 (u8s (bin 64 hi))) := by have := hown; rw [Nat.sub_self, Nat.pow_zero, Nat.div_one] at this; exact this
      clear hown hj hk64
      go_wp2_with fail
      go_loopw [3, 5] (fun vs vi wr => ∃ (k : Nat) (j : Int), vi = .int .i64 j ∧ Hid (j = 63 - (k : Int)) ∧ k ≤ 64 ∧ Below W.heap.size W wr ∧ wr.ownsRow W.heap.size 5 1 vs (64 + k) (u8s (bin 64 hi ++ bin k (lo / 2 ^ (64 - k)))))
        (fun _ vi _ => (intOf vi + 1).toNat)
      case atStart => exact ⟨0, 63, rfl, (by omega : (63 : Int) = 63 - ((0 : Nat) : Int)), by omega, hb, by rw [bin, List.append_nil]; exact HO.out⟩
      case round =>
        clear HO hb hzz
        obtain ⟨k, j, rfl, Hj, hk, hb, hown⟩ := hrel
        have hzz := hb.size
        have hj := Hj.out
        by_cases hk64 : k < 64
        · have hc := (bcell hb).1 w.heap.size 2 hsz
          rw [c2] at hc
          have hj0 : 0 ≤ j := by omega
          have hj1 : j ≤ 63 := by omega
          obtain ⟨m, hm⟩ : ∃ m, m = lo / 2 ^ (63 - k) := ⟨_, rfl⟩
          have hm1 : m < 18446744073709551616 := by rw [hm]; exact Nat.lt_of_le_of_lt (Nat.div_le_self _ _) l1
          have hstep : bin (k + 1) (lo / 2 ^ (64 - (k + 1))) = bin k (lo / 2 ^ (64 - k)) ++ [hexd (m % 2)] := by
            rw [bin, Nat.div_div_eq_div_mul, ← Nat.pow_succ, show (64 - (k + 1)).succ = 64 - k by omega, show 64 - (k + 1) = 63 - k by omega, ← hm]
          have hsh : (lo : Int) / 2 ^ j.toNat = (m : Int) := by rw [hm, show j.toNat = 63 - k by omega]; simp
          have HS : Hid (bin (k + 1) (lo / 2 ^ (64 - (k + 1))) = bin k (lo / 2 ^ (64 - k)) ++ [hexd (m % 2)]) := hstep
          obtain ⟨r, hr⟩ : ∃ r : Int, (m : Int) % 2 = r := ⟨_, rfl⟩
          have HE : Hid (((hexd (m % 2)).toNat : Int) = 48 + r) := by rw [← hr]; exact hexd_bit m
          have r0 : 0 ≤ r := by omega
          have r1 : r ≤ 1 := by omega
          have Hj2 : Hid (j - 1 = 63 - ((k + 1 : Nat) : Int)) := (by omega : j - 1 = 63 - ((k + 1 : Nat) : Int))
          clear hstep hm hj
          have HO : Hid (wr.ownsRow W.heap.size 5 1 u3 (64 + k) (u8s (bin 64 hi ++ bin k (lo / 2 ^ (64 - k))))) := hown
          clear hown
          go_wp2_with (at_builtin; refine wpList_append_own _ rfl _ _ 68 rfl W.heap.size 5 i0 (.int .u8 0) 1 1 Try.underlying68 hi0 hz0 hz1 hz2 rfl (by decide) _ _ _ rfl (HO.out.alloc _) ⟨wr.heap.size, 0, none⟩ 1 1 [.int .u8 (48 + r)] rfl rfl ?c1 ?c2 ?c3 ?c4 ?c5 ?_)
          case c1 =>
            intro j u hj
            match j, hj with
            | 0, hj => simp at hj; subst hj; simp [Addr.add]
          case c2 => intro u hu; simp at hu; subst hu; rfl
          case c3 => unfold maxLen; omega
          case c4 => omega
          case c5 => simp; omega
          intro v' w3 hown' hgrow _
          have hb3 : Below W.heap.size W w3 := (bal hb _).grown hgrow (by simp; omega) (fun k hk => (HO.out.lt k hk).1)
          have HR : Hid (w3.ownsRow W.heap.size 5 1 v' (64 + (k + 1)) (u8s (bin 64 hi ++ bin (k + 1) (lo / 2 ^ (64 - (k + 1)))))) := by
            rw [HS.out, ← List.append_assoc, u8s_append, show u8s [hexd (m % 2)] = [.int .u8 (48 + r)] by simp [u8s, HE.out]]; exact hown'
          clear hown' hgrow HO
          go_wp2
          go_roundw
          case rel => exact ⟨k + 1, j - 1, rfl, Hj2, by omega, hb3, HR⟩
          case measure => simp [intOf]; omega
        · have hk2 : k = 64 := by omega
          subst hk2
          have hj2 : j = -1 := by omega
          subst hj2
          clear Hj
          have HO : wr.ownsRow W.heap.size 5 1 u3 128 (u8s (bin 64 hi ++ bin 64 lo)) := by have := hown; rw [Nat.sub_self, Nat.pow_zero, Nat.div_one] at this; exact this
          clear hown hj hk64
          obtain ⟨g, c, rfl, hc1, hc2, hc3, hcell⟩ := own_u8 HO (by decide)
          have hc := (bcell hb).1 w.heap.size 0 hsz
          rw [c0] at hc
          have HF : Hid (Below w.heap.size w wr) := btr HB0.out hb
          clear HO hk
          cases v
          · have hcv : ∀ W' : World, W' = wr → (convert 68 9 (.slice (some ⟨g, 96, none⟩) 32 (c - 96))).run Try.prog W' = .ok (.string ⟨(bin 32 lo).toArray⟩) W' := by
              rintro _ rfl
              refine cvt _ g 96 (c - 96) (bin 32 lo) 32 (bin_length _ _).symm (fun j hj => ?_)
              rw [bin_length] at hj
              rw [hcell (96 + j) (by rw [List.length_append, bin_length, bin_length]; omega)]
              have e : bin 64 hi ++ bin 64 lo = (bin 64 hi ++ bin 32 (lo / 2 ^ 32)) ++ bin 32 lo := by rw [List.append_assoc, ← bin_split 32 32]
              simp only [e]
              rw [List.getElem_append_right (by rw [List.length_append, bin_length, bin_length]; omega)]
              simp only [List.length_append, bin_length, Nat.add_sub_cancel_left]
            have hsl : ∀ W' : World, (Instr.sliceAt 68 (.slice (some ⟨g, 0, none⟩) 128 c) (some (.int .i64 96)) none none).run Try.prog W' = .ok (.slice (some ⟨g, 96, none⟩) 32 (c - 96)) W' := by
              intro W'
              have h3 : ¬ c = 96 := by omega
              simp [go_sem, h3]
            have hT : bin 32 lo = T := HT.out
            rw [hT] at hcv
            clear hcell c1 c2 hc3
            go_wp2_with fail
            go_ret
            exact ⟨rfl, HF.out⟩
          · have hcv : ∀ W' : World, W' = wr → (convert 68 9 (.slice (some ⟨g, 0, none⟩) 128 c)).run Try.prog W' = .ok (.string ⟨(bin 64 hi ++ bin 64 lo).toArray⟩) W' := by
              rintro _ rfl
              refine cvt _ g 0 c (bin 64 hi ++ bin 64 lo) 128 (by rw [List.length_append, bin_length, bin_length]) (fun j hj => ?_)
              rw [Nat.zero_add]
              exact hcell j hj
            have hT : bin 64 hi ++ bin 64 lo = T := HT.out
            rw [hT] at hcv
            clear hcell c1 c2 hc3
            go_wp2_with fail
            go_ret
            exact ⟨rfl, HF.out⟩

theorem take_snoc (l : List UInt8) (k : Nat) (h : k < l.length) : l.take (k + 1) = l.take k ++ [l[k]] := List.take_succ_eq_append_getElem h

theorem vbin_snoc (l : List UInt8) (c : UInt8) : vbin 0 (l ++ [c]) = vbin 0 l * 2 + bitv c := by rw [vbin_append, vbin, vbin]

theorem bitsT_bin (v : Bool) (hi lo : Nat) : IsBin (bitsT v hi lo) := by
  unfold bitsT
  split
  · intro c hc
    rcases List.mem_append.1 hc with h | h
    · exact bin_isBin _ _ c h
    · exact bin_isBin _ _ c h
  · exact bin_isBin _ _

theorem bitsT_length (v : Bool) (hi lo : Nat) : (bitsT v hi lo).length = if v then 128 else 32 := by
  unfold bitsT
  split
  · rw [List.length_append, bin_length, bin_length]
  · rw [bin_length]

theorem bitsT_num (v : Bool) (hi lo : Nat) (h1 : hi < 18446744073709551616) (l1 : lo < 18446744073709551616) (hv : v = true ∨ (hi = 0 ∧ lo ≤ 4294967295)) :
    vbin 0 (bitsT v hi lo) = hi * 18446744073709551616 + lo := by
  cases v
  · simp at hv
    rw [bitsT, if_neg (by decide), vbin_bin, hv.1]
    have : lo % 2 ^ 32 = lo := Nat.mod_eq_of_lt (by omega)
    omega
  · rw [bitsT, if_pos rfl, vbin_append, vbin_bin, vbin_bin]
    have h2 : hi % 2 ^ 64 = hi := Nat.mod_eq_of_lt (by omega)
    have h3 : lo % 2 ^ 64 = lo := Nat.mod_eq_of_lt (by omega)
    omega

theorem keep33 {w W W' : World} {p q : Nat} {x y z x2 y2 z2 : Value}
    (h : Has3 W p x y z ∧ Has3 W q x2 y2 z2 ∧ Below w.heap.size w W) (hb : Below W.heap.size W W') : Has3 W' p x y z ∧ Has3 W' q x2 y2 z2 ∧ Below w.heap.size w W' :=
  ⟨h.1.below hb, h.2.1.below hb, btr h.2.2 hb⟩

theorem vbin_cut (l : List UInt8) (b : Nat) : vbin 0 l = vbin 0 (l.take b) * 2 ^ (l.drop b).length + vbin 0 (l.drop b) := by
  have := vbin_append (l.take b) (l.drop b) 0
  rw [List.take_append_drop, vbin_add (l.drop b)] at this
  exact this

theorem vbin_div (l : List UInt8) (b : Nat) : vbin 0 l / 2 ^ (l.drop b).length = vbin 0 (l.take b) ∧ vbin 0 l % 2 ^ (l.drop b).length = vbin 0 (l.drop b) := by
  have h1 := vbin_cut l b
  have h2 := vbin_lt0 (l.drop b)
  have hp : 0 < 2 ^ (l.drop b).length := Nat.pow_pos (by decide)
  constructor
  · rw [h1, Nat.mul_comm, Nat.mul_add_div hp, Nat.div_eq_of_lt h2, Nat.add_zero]
  · rw [h1, Nat.mul_comm, Nat.mul_add_mod, Nat.mod_eq_of_lt h2]

theorem vbin_zero : ∀ r : List UInt8, IsBin r → (vbin 0 r = 0 ↔ ∀ c ∈ r, c = 48)
  | [], _ => by simp [vbin]
  | c :: r, h => by
    have ih := vbin_zero r (fun x hx => h x (List.mem_cons_of_mem _ hx))
    have hp : 0 < 2 ^ r.length := Nat.pow_pos (by decide)
    rw [vbin, vbin_add]
    rcases h c (by simp) with rfl | rfl
    · simp [bitv, ih]
    · simp [bitv]

theorem vbin_ones : ∀ (k acc : Nat), vbin acc (List.replicate k 49) + 1 = (acc + 1) * 2 ^ k
  | 0, acc => by simp [vbin]
  | k + 1, acc => by
    rw [List.replicate_succ, vbin, vbin_ones k, Nat.pow_succ]
    simp [bitv]
    rw [show acc * 2 + 1 + 1 = (acc + 1) * 2 by omega, Nat.mul_assoc, Nat.mul_comm 2]

theorem bin_inj : ∀ (l r : List UInt8), IsBin l → IsBin r → l.length = r.length → vbin 0 l = vbin 0 r → l = r
  | [], [], _, _, _, _ => rfl
  | [], b :: r, _, _, h, _ => by simp at h
  | a :: l, [], _, _, h, _ => by simp at h
  | a :: l, b :: r, hl, hr, h, e => by
    have h' : l.length = r.length := by simpa using h
    have x1 := vbin_lt0 l
    have x2 := vbin_lt0 r
    rw [vbin, vbin, vbin_add l, vbin_add r, h'] at e
    rw [h'] at x1
    have ih := bin_inj l r (fun c hc => hl c (List.mem_cons_of_mem _ hc)) (fun c hc => hr c (List.mem_cons_of_mem _ hc)) h'
    rcases hl a (by simp) with rfl | rfl <;> rcases hr b (by simp) with rfl | rfl
    · rw [ih (by simpa [bitv] using e)]
    · simp [bitv] at e; omega
    · simp [bitv] at e; omega
    · rw [ih (by simp [bitv] at e; omega)]

theorem vbin_set (l : List UInt8) (b : Nat) (hb : b < l.length) (h0 : l[b] = 48) : vbin 0 (l.set b 49) = vbin 0 l + 2 ^ (l.length - b - 1) := by
  have e1 : l = l.take b ++ 48 :: l.drop (b + 1) := by
    rw [← h0, ← List.drop_eq_getElem_cons hb, List.take_append_drop]
  have e2 : l.set b 49 = l.take b ++ 49 :: l.drop (b + 1) := by rw [List.set_eq_take_append_cons_drop, if_pos hb]
  have h3 : (l.drop (b + 1)).length = l.length - b - 1 := by rw [List.length_drop]; omega
  rw [e2, vbin_append, vbin, vbin_add]
  conv => rhs; rw [e1]
  rw [vbin_append, vbin, vbin_add (l.drop (b + 1)) (vbin 0 (l.take b) * 2 + bitv 48), h3]
  rw [← h3, List.length_append, List.length_cons, List.length_take]
  simp only [bitv, List.length_drop]
  rw [show min b l.length + (l.length - (b + 1) + 1) - b - 1 = l.length - (b + 1) by omega]
  simp [Nat.add_mul]
  omega

/-- What AddrOf makes of bits, as a number. -/
theorem parts_num (R : List UInt8) (h : R.length = 128 ∨ R.length = 32) :
    vbin 0 (R.take (R.length - 64)) * 18446744073709551616 + vbin 0 (R.drop (R.length - 64)) = vbin 0 R ∧ vbin 0 (R.take (R.length - 64)) < 18446744073709551616 ∧ vbin 0 (R.drop (R.length - 64)) < 18446744073709551616 := by
  rcases h with h | h
  · have h1 := vbin_cut R 64
    have h2 : (R.drop 64).length = 64 := by rw [List.length_drop, h]
    have h3 : (R.take 64).length = 64 := by rw [List.length_take, h]; rfl
    have h4 := vbin_lt0 (R.drop 64)
    have h5 := vbin_lt0 (R.take 64)
    rw [h2] at h1 h4
    rw [h3] at h5
    rw [h, show (128 : Nat) - 64 = 64 from rfl]
    omega
  · rw [h, show (32 : Nat) - 64 = 0 from rfl, List.take_zero, List.drop_zero]
    have := vbin_lt0 R
    rw [h] at this
    simp only [vbin]
    omega

/-- Bytes lie in a row. -/
def RowU (W : World) (B : Nat) (R : List UInt8) : Prop := ∀ (j : Nat) (c : UInt8), R[j]? = some c → W.cell? ⟨B, j, none⟩ = some (.int .u8 (c.toNat : Int)) ∧ W.frozen? ⟨B, j, none⟩ = false

theorem RowU.set {W : World} {B : Nat} {R : List UInt8} (h : RowU W B R) (m : Nat) (hm : m < R.length) (c : UInt8) : RowU (W.setCell ⟨B, m, none⟩ (.int .u8 (c.toNat : Int))) B (R.set m c) := by
  intro j d hj
  by_cases hjm : j = m
  · subst hjm
    rw [List.getElem?_set_self hm] at hj
    injection hj with hj; subst hj
    obtain ⟨h1, h2⟩ := h j R[j] (List.getElem?_eq_getElem hm)
    exact ⟨World.cell?_setCell_same (w := W) (a := ⟨B, j, none⟩) (v := .int .u8 (c.toNat : Int)) (h := h1), by rw [World.frozen?_setCell]; exact h2⟩
  · rw [List.getElem?_set_ne (Ne.symm hjm)] at hj
    obtain ⟨h1, h2⟩ := h j d hj
    refine ⟨?_, by rw [World.frozen?_setCell]; exact h2⟩
    rw [World.cell?_setCell_other (w := W) (a := ⟨B, m, none⟩) (b := ⟨B, j, none⟩) (v := .int .u8 (c.toNat : Int)) (h := by intro e; injection e with _ e; exact hjm e.symm)]
    exact h1

theorem RowU.below {W W' : World} {B : Nat} {R : List UInt8} (h : RowU W B R) (hB : B < W.heap.size) (hb : Below W.heap.size W W') : RowU W' B R := by
  intro j d hj
  obtain ⟨h1, h2⟩ := h j d hj
  exact ⟨by rw [(bcell hb).1 B j hB]; exact h1, by rw [(bcell hb).2 B j hB]; exact h2⟩

theorem Has3.store {W : World} {p : Nat} {x y z : Value} (h : Has3 W p x y z) (x' y' z' : Value) :
    Has3 (((W.setCell ⟨p, 0, none⟩ x').setCell ⟨p, 1, none⟩ y').setCell ⟨p, 2, none⟩ z') p x' y' z' := by
  obtain ⟨h0, h1, h2, h3⟩ := h
  have ne : ∀ a b : Nat, a ≠ b → (⟨p, a, none⟩ : Addr) ≠ ⟨p, b, none⟩ := by intro a b hab e; injection e with _ e; exact hab e
  refine ⟨?_, ?_, ?_, by simpa using h3⟩
  · rw [World.cell?_setCell_other (h := ne 2 0 (by decide)), World.cell?_setCell_other (h := ne 1 0 (by decide))]
    exact World.cell?_setCell_same _ _ _ h0
  · rw [World.cell?_setCell_other (h := ne 2 1 (by decide))]
    exact World.cell?_setCell_same _ _ _ (u := y) (by rw [World.cell?_setCell_other (h := ne 0 1 (by decide))]; exact h1)
  · exact World.cell?_setCell_same _ _ _ (u := z) (by rw [World.cell?_setCell_other (h := ne 1 2 (by decide)), World.cell?_setCell_other (h := ne 0 2 (by decide))]; exact h2)

theorem conv_bytes (W : World) (s : ByteArray) : ∃ (c : Nat) (W2 : World), (convert 9 68 (.string s)).run Try.prog W = .ok (.slice (some ⟨W.heap.size, 0, none⟩) s.size c) W2 ∧
    RowU W2 W.heap.size s.data.toList ∧ Below W.heap.size W W2 ∧ W2.heap.size = W.heap.size + 1 := by
  refine ⟨_, _, run_bytes_of_string (P := Try.prog) W 9 68 5 s Try.underlying9 Try.underlying68 Try.underlying5, ?_, ?_, by simp⟩
  · intro j c hj
    have hj2 : j < s.data.toList.length := (List.getElem?_eq_some_iff.1 hj).1
    have hj3 : j < s.data.size := by simpa using hj2
    constructor
    · have hc : s.data[j] = c := by have := (List.getElem?_eq_some_iff.1 hj).2; simpa using this
      simp [World.cell?, bytesRow, World.alloc, World.drew, -World.alloc_eq, -World.drew_eq, Array.getElem?_append, hj3, hc]
      rw [if_pos (show j < s.size from hj3), Array.getElem?_eq_getElem hj3, hc]; rfl
    · rw [show W.heap.size = W.drew.heap.size from rfl, World.frozen?_alloc_mark]
      have hz : (bytesRow s (grownCap W s.size 0 5)).size = s.data.size + (grownCap W s.size 0 5 - s.size) := by simp [bytesRow]
      have : ¬ (bytesRow s (grownCap W s.size 0 5)).size ≤ j := by rw [hz]; omega
      simp [this]
  · exact (((Below.refl _ W).drew).alloc (Nat.le_refl _) _)

end Go.Proofs.Ytclnfkohlklbpaa

namespace Go.Proofs.Ytclnfkohlklbpaa
open Go.RowKit

theorem btw_in (n a b : Int) (w : World) (h1 : a ≤ n) (h2 : n ≤ b) :
    Calls Try.prog 15 #[.int .i64 n, .int .i64 a, .int .i64 b] w fun e w' => e = .returned (.bool true) ∧ w' = w := by
  have := between_any n a b w
  rw [decide_eq_true h1, decide_eq_true h2] at this
  exact this

theorem btw_out (n a b : Int) (w : World) (h : n < a ∨ b < n) :
    Calls Try.prog 15 #[.int .i64 n, .int .i64 a, .int .i64 b] w fun e w' => e = .returned (.bool false) ∧ w' = w := by
  have := between_any n a b w
  rcases h with h | h
  · rw [decide_eq_false (show ¬ a ≤ n by omega), Bool.false_and] at this
    exact this
  · rw [decide_eq_false (show ¬ n ≤ b by omega), Bool.and_false] at this
    exact this

theorem ext_list (s : ByteArray) (i j : Nat) : s.extract i j = ⟨((s.data.toList.drop i).take (j - i)).toArray⟩ := by
  apply ByteArray.ext
  rw [ByteArray.data_extract]
  apply Array.toList_inj.1
  rw [Array.toList_extract]

theorem str_to (s : ByteArray) (j : Nat) (W : World) (h2 : j ≤ s.size) (h3 : s.size ≤ 281474976710656) :
    (Instr.sliceAt 9 (.string s) none (some (.int .i64 (j : Int))) none).run Try.prog W = .ok (.string ⟨(s.data.toList.take j).toArray⟩) W := by
  have a2 : (j : Int) ≤ (s.size : Int) := by omega
  have h := ext_list s 0 j
  rw [List.drop_zero, Nat.sub_zero] at h
  rw [← h]
  simp [go_sem, a2]

theorem right_nat {v : Bool} {hi lo : Nat} (c : chk v hi lo = 0) : v = true ∨ (hi = 0 ∧ lo ≤ 4294967295) := by
  rcases chk_cases v hi lo with ⟨_, h⟩ | h
  · exact h.imp id fun ⟨x, y⟩ => ⟨by omega, by omega⟩
  · omega

theorem bits_wid (v : Bool) (hi lo : Nat) : ((bitsT v hi lo).length : Int) = wid v := by rw [bitsT_length, wid]; cases v <;> rfl

theorem bits_num {v : Bool} {hi lo : Nat} (c : chk v hi lo = 0) (h1 : hi < 18446744073709551616) (l1 : lo < 18446744073709551616) : ((vbin 0 (bitsT v hi lo) : Nat) : Int) = num hi lo := by
  rw [bitsT_num v hi lo h1 l1 (right_nat c), num]; simp

theorem amt_nat (v : Bool) (hi lo b : Nat) (hb : (b : Int) ≤ wid v) : amt v b = ((2 ^ ((bitsT v hi lo).drop b).length : Nat) : Int) := by
  have h := bits_wid v hi lo
  rw [amt, List.length_drop, show (wid v - (b : Int)).toNat = (bitsT v hi lo).length - b by omega]; simp

theorem bits_mod {v : Bool} {hi lo b : Nat} (c : chk v hi lo = 0) (h1 : hi < 18446744073709551616) (l1 : lo < 18446744073709551616) (hb : (b : Int) ≤ wid v) :
    num hi lo % amt v b = ((vbin 0 ((bitsT v hi lo).drop b) : Nat) : Int) := by
  rw [← bits_num c h1 l1, amt_nat v hi lo b hb, ← Int.natCast_emod, (vbin_div _ b).2]

theorem bits_div {v : Bool} {hi lo b : Nat} (c : chk v hi lo = 0) (h1 : hi < 18446744073709551616) (l1 : lo < 18446744073709551616) (hb : (b : Int) ≤ wid v) :
    num hi lo / amt v b = ((vbin 0 ((bitsT v hi lo).take b) : Nat) : Int) := by
  rw [← bits_num c h1 l1, amt_nat v hi lo b hb, ← Int.natCast_ediv, (vbin_div _ b).1]

theorem drop_bin (v : Bool) (hi lo b : Nat) : IsBin ((bitsT v hi lo).drop b) := fun c hc => bitsT_bin v hi lo c (List.mem_of_mem_drop hc)

theorem take_bin (v : Bool) (hi lo b : Nat) : IsBin ((bitsT v hi lo).take b) := fun c hc => bitsT_bin v hi lo c (List.mem_of_mem_take hc)

theorem pchk_bits {v : Bool} {hi lo b : Nat} (c : chk v hi lo = 0) (h1 : hi < 18446744073709551616) (l1 : lo < 18446744073709551616) (hb : (b : Int) ≤ wid v) :
    ((∀ x ∈ (bitsT v hi lo).drop b, x = 48) → pchk v hi lo b = 0) ∧ ((¬ ∀ x ∈ (bitsT v hi lo).drop b, x = 48) → pchk v hi lo b = 4) := by
  have hm := bits_mod c h1 l1 hb
  have hz := vbin_zero _ (drop_bin v hi lo b)
  have hr := right_iff v hi lo b (by omega) (by omega) (by omega) (by omega)
  constructor
  · intro h
    rw [hr]
    refine ⟨c, by omega, hb, by omega, by omega, by omega, by omega, ?_⟩
    rw [hm, hz.2 h]; rfl
  · intro h
    rcases pchk_cases v hi lo b with ⟨k, _⟩ | k | k
    · exfalso
      apply h
      apply hz.1
      have := (hr.1 k).al
      rw [hm] at this
      omega
    · exfalso
      unfold pchk at k
      rw [if_pos c, if_neg (by omega)] at k
      split at k <;> omega
    · exact k

theorem right_bits {v : Bool} {hi lo b : Nat} (r : Right v hi lo b) : ∀ x ∈ (bitsT v hi lo).drop b, x = 48 := by
  have h1 := r.h1
  have l1 := r.l1
  have hm := bits_mod r.c (by omega) (by omega) r.b1
  rw [r.al] at hm
  exact (vbin_zero _ (drop_bin v hi lo b)).1 (by omega)

/-- What AddrOf makes of so many bits that tell a number is that number's address. -/
theorem parts_addr {v : Bool} {R : List UInt8} {x y : Int} (hl : (R.length : Int) = wid v) (x0 : 0 ≤ x) (y0 : 0 ≤ y) (y1 : y < 18446744073709551616) (hn : num x y = ((vbin 0 R : Nat) : Int)) :
    decide (R.length = 128) = v ∧ x = ((vbin 0 (R.take (R.length - 64)) : Nat) : Int) ∧ y = ((vbin 0 (R.drop (R.length - 64)) : Nat) : Int) := by
  have h2 : R.length = 128 ∨ R.length = 32 := by unfold wid at hl; split at hl <;> omega
  obtain ⟨p1, p2, p3⟩ := parts_num R h2
  refine ⟨by unfold wid at hl; cases v <;> simp at hl ⊢ <;> omega, ?_⟩
  refine num_inj y0 y1 (by omega) (by omega) ?_
  rw [hn, num, ← p1]; simp

theorem rwide_any (v : Bool) (hi lo : Int) (w : World) :
    Calls Try.prog 28 #[.agg #[.bool v, .int .u64 hi, .int .u64 lo]] w fun e w' => e = .returned (.int .i64 (wid v)) ∧ Below w.heap.size w w' := by
  have B0 : Hid (Below w.heap.size w (w.alloc (.cells #[.bool v, .int .u64 hi, .int .u64 lo] 38))) := bal (Below.refl _ _) _
  cases v
  all_goals
    go_enter Try.func28, Try.ntmps28
    go_wp2
    go_ret
    exact ⟨rfl, B0.out⟩

set_option maxHeartbeats 8000000 in
set_option maxRecDepth 100000 in
theorem rpcheck_nat (v : Bool) (hi lo : Nat) (b : Int) (w : World) (h1 : hi < 18446744073709551616) (l1 : lo < 18446744073709551616) :
    Calls Try.prog 22 #[.agg #[.bool v, .int .u64 hi, .int .u64 lo, .int .i64 b]] w fun e w' => e = .returned (.int .i64 (pchk v hi lo b)) ∧ Below w.heap.size w w' := by
  have hC : Hid (∀ w : World, Calls Try.prog 24 #[.agg #[.bool v, .int .u64 (hi : Int), .int .u64 (lo : Int)]] w fun e w' => e = .returned (.int .i64 (chk v hi lo)) ∧ Below w.heap.size w w') := fun w => rcheck_any v hi lo w (by omega) (by omega)
  have hW : Hid (∀ w : World, Calls Try.prog 28 #[.agg #[.bool v, .int .u64 (hi : Int), .int .u64 (lo : Int)]] w fun e w' => e = .returned (.int .i64 (wid v)) ∧ Below w.heap.size w w') := fun w => rwide_any v hi lo w
  have hX : Hid (∀ w : World, Calls Try.prog 29 #[.agg #[.bool v, .int .u64 (hi : Int), .int .u64 (lo : Int)]] w fun e w' => e = .returned (.string ⟨(bitsT v hi lo).toArray⟩) ∧ Below w.heap.size w w') := fun w => bits_any v hi lo w h1 l1
  have B0 : Hid (Below w.heap.size w (w.alloc (.cells #[.bool v, .int .u64 hi, .int .u64 lo, .int .i64 b] 40))) := bal (Below.refl _ _) _
  have P0 : Hid (Has4 (w.alloc (.cells #[.bool v, .int .u64 hi, .int .u64 lo, .int .i64 b] 40)) w.heap.size v hi lo b) := Has4.new _ _ _ _ _ _
  rcases chk_cases v hi lo with ⟨c, _⟩ | c
  · rw [c] at hC
    by_cases hb : 0 ≤ b ∧ b ≤ wid v
    · obtain ⟨hb0, hb1⟩ := hb
      have hT : Hid (∀ w : World, Calls Try.prog 15 #[.int .i64 b, .int .i64 0, .int .i64 (wid v)] w fun e w' => e = .returned (.bool true) ∧ w' = w) := fun w => btw_in _ _ _ w hb0 hb1
      obtain ⟨bN, rfl⟩ := Int.eq_ofNat_of_zero_le hb0
      obtain ⟨k0, k4⟩ := pchk_bits c h1 l1 hb1
      have hlen := bits_wid v hi lo
      have hw128 : wid v ≤ 128 := by unfold wid; split <;> omega
      obtain ⟨X, hX2⟩ : ∃ X : ByteArray, X = ⟨(bitsT v hi lo).toArray⟩ := ⟨_, rfl⟩
      have hXl : X.data.toList = bitsT v hi lo := by rw [hX2]
      have hXs := size_list X
      rw [← hX2] at hX
      rw [← hXl] at k0 k4 hlen
      have HK : Hid ((∀ x ∈ X.data.toList.drop bN, x = 48) → pchk v hi lo bN = 0) := k0
      have HK4 : Hid ((¬ ∀ x ∈ X.data.toList.drop bN, x = 48) → pchk v hi lo bN = 4) := k4
      have HXB : Hid (IsBin X.data.toList) := by rw [hXl]; exact bitsT_bin v hi lo
      obtain ⟨N, hN⟩ : ∃ N, N = X.size := ⟨_, rfl⟩
      have HN : Hid (N = X.size) := hN
      have hN128 : N ≤ 128 := by omega
      have hbN : bN ≤ N := by omega
      obtain ⟨P, hP⟩ : ∃ P, P = pchk v hi lo bN := ⟨_, rfl⟩
      rw [← hP] at HK HK4 ⊢
      clear k0 k4 hX2 hXl hN hlen hP
      obtain ⟨wv, hwv⟩ : ∃ wv, wv = wid v := ⟨_, rfl⟩
      rw [← hwv] at hT hW hb1 hw128
      clear hwv
      obtain ⟨p0, p1, p2, p3, p4⟩ := P0.out
      go_enter Try.func22, Try.ntmps22
      go_wp2_with fail
      generalize w.alloc (.cells #[.bool v, .int .u64 hi, .int .u64 lo, .int .i64 (bN : Int)] 40) = W0 at *
      refine (hC.out _).mono ?_
      clear p0 p1 p2 p3 p4
      rintro e w1 ⟨rfl, hb⟩
      replace B0 : Hid (Below w.heap.size w w1) := btr B0.out hb
      replace P0 : Hid (Has4 w1 w.heap.size v hi lo bN) := P0.out.below hb
      clear hb
      obtain ⟨p0, p1, p2, p3, p4⟩ := P0.out
      go_wp2_with fail
      have P0' : Hid (Has4 w1.drew w.heap.size v hi lo (bN : Int)) := P0.out.drew
      have B0' : Hid (Below w.heap.size w w1.drew) := B0.out.drew
      clear p0 p1 p2 p3 p4 P0 B0
      go_region_held3 (fun w' => (w'.cell? ⟨w.heap.size, 0, none⟩ = some (.bool v) ∧ w'.cell? ⟨w.heap.size, 1, none⟩ = some (.int .u64 hi) ∧ w'.cell? ⟨w.heap.size, 2, none⟩ = some (.int .u64 lo) ∧ w'.cell? ⟨w.heap.size, 3, none⟩ = some (.int .i64 (bN : Int)) ∧ w.heap.size < w'.heap.size) ∧ Below w.heap.size w w')
        (first | exact ⟨P0'.out, B0'.out⟩ | exact keep4b (by assumption) (by assumption) | assumption)
        (first
          | (go_at_call 28; refine (hW.out _).mono ?_; rintro e w3 ⟨rfl, hb⟩)
          | (go_at_call 15; refine (hT.out _).mono ?_; rintro e w4 ⟨rfl, rfl⟩))
      have HS : Has4 w4 w.heap.size v hi lo (bN : Int) ∧ Below w.heap.size w w4 := by assumption
      have P0 : Hid (Has4 w4 w.heap.size v hi lo (bN : Int)) := HS.1
      have B0 : Hid (Below w.heap.size w w4) := HS.2
      clear HS P0' B0'
      obtain ⟨p0, p1, p2, p3, p4⟩ := P0.out
      go_wp2_with fail
      refine (hX.out _).mono ?_
      clear p0 p1 p2 p3 p4
      rintro e w5 ⟨rfl, hb⟩
      replace B0 : Hid (Below w.heap.size w w5) := btr B0.out hb
      replace P0 : Hid (Has4 w5 w.heap.size v hi lo bN) := P0.out.below hb
      clear hb
      obtain ⟨p0, p1, p2, p3, p4⟩ := P0.out
      go_wp2_with fail
      go_loop [5] (fun vi => ∃ k : Nat, vi = .int .i64 k ∧ bN ≤ k ∧ k ≤ N ∧ Hid (∀ x ∈ (X.data.toList.drop bN).take (k - bN), x = 48))
        (fun vi => N - (intOf vi).toNat)
      case atStart => exact ⟨bN, rfl, Nat.le_refl _, hbN, by rw [Hid, Nat.sub_self, List.take_zero]; simp⟩
      case round =>
        obtain ⟨k, rfl, hbk, hk, hh⟩ := hrel
        have hN := HN.out
        by_cases hkN : k < N
        · have hks : k < X.size := by omega
          have hki : (k : Int) < (X.size : Int) := by omega
          have hk0 : (0 : Int) ≤ (k : Int) := by omega
          have hsk : X[k]? = some X[k] := by simp [hks]
          have hst : (X.data.toList.drop bN).take (k + 1 - bN) = (X.data.toList.drop bN).take (k - bN) ++ [X[k]] := by
            rw [show k + 1 - bN = (k - bN) + 1 by omega, List.take_succ_eq_append_getElem (by rw [List.length_drop]; omega), List.getElem_drop]
            congr 2
            rw [← data_get X k hks]
            congr 1; omega
          by_cases hx : X[k] = 48
          · have hxi : (X[k].toNat : Int) = 48 := by rw [hx]; rfl
            have HH : Hid (∀ x ∈ (X.data.toList.drop bN).take (k + 1 - bN), x = 48) := by
              intro x hm
              rw [hst] at hm
              rcases List.mem_append.1 hm with h | h
              · exact hh.out x h
              · simp at h; rw [h]; exact hx
            clear hst hh hx
            go_wp2_with fail
            exact ⟨⟨k + 1, by go_num, by omega, by omega, HH⟩, by simp [intOf]; omega⟩
          · have hxi : ¬ (X[k].toNat : Int) = 48 := fun e => hx (UInt8.toNat_inj.1 (by have : (48 : UInt8).toNat = 48 := rfl; omega))
            have hxb : ((X[k].toNat : Int) == 48) = false := by rw [beq_eq_false_iff_ne]; exact hxi
            have HP : Hid (P = 4) := HK4.out (fun h => hx (h _ (List.mem_of_mem_take (i := k + 1 - bN) (by rw [hst]; simp))))
            clear hst hh hx
            go_wp2_with fail
            rw [HP.out]
            go_ret
            exact ⟨rfl, B0.out⟩
        · have hki : ¬ (k : Int) < (X.size : Int) := by omega
          have HP : Hid (P = 0) := HK.out (by
            have := hh.out
            rw [List.take_of_length_le (by rw [List.length_drop]; omega)] at this
            exact this)
          clear hh
          go_wp2_with fail
          rw [HP.out]
          go_ret
          exact ⟨rfl, B0.out⟩
    · have hP : pchk v hi lo b = 3 := by rw [pchk, if_pos c, if_pos (by omega)]
      rw [hP]
      have hT : Hid (∀ w : World, Calls Try.prog 15 #[.int .i64 b, .int .i64 0, .int .i64 (wid v)] w fun e w' => e = .returned (.bool false) ∧ w' = w) := fun w => btw_out _ _ _ w (by omega)
      clear hP
      obtain ⟨wv, hwv⟩ : ∃ wv, wv = wid v := ⟨_, rfl⟩
      rw [← hwv] at hT hW
      clear hwv
      obtain ⟨p0, p1, p2, p3, p4⟩ := P0.out
      go_enter Try.func22, Try.ntmps22
      go_wp2_with fail
      generalize w.alloc (.cells #[.bool v, .int .u64 hi, .int .u64 lo, .int .i64 b] 40) = W0 at *
      refine (hC.out _).mono ?_
      clear p0 p1 p2 p3 p4
      rintro e w1 ⟨rfl, hb⟩
      replace B0 : Hid (Below w.heap.size w w1) := btr B0.out hb
      replace P0 : Hid (Has4 w1 w.heap.size v hi lo b) := P0.out.below hb
      clear hb
      obtain ⟨p0, p1, p2, p3, p4⟩ := P0.out
      go_wp2_with fail
      have P0' : Hid (Has4 w1.drew w.heap.size v hi lo b) := P0.out.drew
      have B0' : Hid (Below w.heap.size w w1.drew) := B0.out.drew
      clear p0 p1 p2 p3 p4 P0 B0
      go_region_held3 (fun w' => (w'.cell? ⟨w.heap.size, 0, none⟩ = some (.bool v) ∧ w'.cell? ⟨w.heap.size, 1, none⟩ = some (.int .u64 hi) ∧ w'.cell? ⟨w.heap.size, 2, none⟩ = some (.int .u64 lo) ∧ w'.cell? ⟨w.heap.size, 3, none⟩ = some (.int .i64 b) ∧ w.heap.size < w'.heap.size) ∧ Below w.heap.size w w')
        (first | exact ⟨P0'.out, B0'.out⟩ | exact keep4b (by assumption) (by assumption) | assumption)
        (first
          | (go_at_call 28; refine (hW.out _).mono ?_; rintro e w3 ⟨rfl, hb⟩)
          | (go_at_call 15; refine (hT.out _).mono ?_; rintro e w4 ⟨rfl, rfl⟩))
      have HS : Has4 w4 w.heap.size v hi lo b ∧ Below w.heap.size w w4 := by assumption
      have P0 : Hid (Has4 w4 w.heap.size v hi lo b) := HS.1
      have B0 : Hid (Below w.heap.size w w4) := HS.2
      clear HS P0' B0'
      go_wp2_with fail
      go_ret
      exact ⟨rfl, B0.out⟩
  · have hP : pchk v hi lo b = 3 := by rw [pchk, if_neg (by omega)]
    rw [hP]
    rw [c] at hC
    clear hP
    obtain ⟨p0, p1, p2, p3, p4⟩ := P0.out
    go_enter Try.func22, Try.ntmps22
    go_wp2_with fail
    generalize w.alloc (.cells #[.bool v, .int .u64 hi, .int .u64 lo, .int .i64 b] 40) = W0 at *
    refine (hC.out _).mono ?_
    clear p0 p1 p2 p3 p4
    rintro e w1 ⟨rfl, hb⟩
    replace B0 : Hid (Below w.heap.size w w1) := btr B0.out hb
    replace P0 : Hid (Has4 w1 w.heap.size v hi lo b) := P0.out.below hb
    clear hb
    go_wp2_with fail
    go_ret
    exact ⟨rfl, B0.out⟩

theorem div_same {A p q : Int} (hA : 0 < A) (hp : p % A = 0) : q / A = p / A ↔ p ≤ q ∧ q < p + A := by
  have h1 := Int.mul_ediv_add_emod p A
  have h2 := Int.mul_ediv_add_emod q A
  have h3 := Int.emod_nonneg q (Int.ne_of_gt hA)
  have h4 := Int.emod_lt_of_pos q hA
  constructor
  · intro h; rw [h] at h2; omega
  · rintro ⟨h5, h6⟩
    have e : q = (q - p) + A * (p / A) := by omega
    rw [e, Int.add_mul_ediv_left _ _ (Int.ne_of_gt hA), Int.ediv_eq_zero_of_lt (by omega) (by omega)]; omega

/-- Have the first bits of both the same? -/
theorem has_bits {v : Bool} {hi lo b : Nat} {u : Bool} {yi yo : Nat} {c : Int} (r : Right v hi lo b) (q : Right u yi yo c) :
    hasB v hi lo b u yi yo c = (decide ((b : Int) ≤ c) && ((v == u) && ((bitsT v hi lo).take b == (bitsT u yi yo).take b))) := by
  have h1 := r.h1
  have l1 := r.l1
  have h2 := q.h1
  have l2 := q.l1
  rw [Bool.eq_iff_iff, has_num r q]
  simp only [Bool.and_eq_true, decide_eq_true_eq, beq_iff_eq]
  constructor
  · rintro ⟨a1, rfl, a3, a4⟩
    refine ⟨a1, rfl, bin_inj _ _ (take_bin _ _ _ _) (take_bin _ _ _ _) (by rw [List.length_take, List.length_take, bitsT_length, bitsT_length]) ?_⟩
    have d1 := bits_div r.c (by omega) (by omega) r.b1
    have d2 := bits_div (b := b) q.c (by omega) (by omega) r.b1
    have := (div_same (amt_pos u b) r.al).2 ⟨a3, a4⟩
    rw [d1, d2] at this
    omega
  · rintro ⟨a1, rfl, a3⟩
    have d1 := bits_div r.c (by omega) (by omega) r.b1
    have d2 := bits_div (b := b) q.c (by omega) (by omega) r.b1
    have := (div_same (amt_pos v b) r.al).1 (d2.trans (by rw [← a3]; exact d1.symm))
    exact ⟨a1, rfl, this.1, this.2⟩

theorem keep43 {w W W' : World} {p q : Nat} {v : Bool} {hi lo b : Int} {x y z : Value}
    (h : Has4 W p v hi lo b ∧ Has3 W q x y z ∧ Below w.heap.size w W) (hb : Below W.heap.size W W') : Has4 W' p v hi lo b ∧ Has3 W' q x y z ∧ Below w.heap.size w W' :=
  ⟨h.1.below hb, h.2.1.below hb, btr h.2.2 hb⟩

end Go.Proofs.Ytclnfkohlklbpaa
