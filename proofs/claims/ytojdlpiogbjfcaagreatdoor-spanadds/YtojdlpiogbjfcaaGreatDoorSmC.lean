/- SpanApart and SpanSame: the walks and the laws. -/
import Derived.Test.YtojdlpiogbjfcaaGreatDoorPfQ
import Derived.Test.YtojdlpiogbjfcaaGreatDoorH3
import Derived.Test.YtojdlpiogbjfcaaGreatDoorRd1
import Derived.Test.YtojdlpiogbjfcaaGreatDoorFmt16
import Derived.Lib.SmallJoins
import Derived.Lib.Strings
import Derived.Lib.Walk
import Derived.Lib.Hide
import Derived.BigCall
import Derived.BigGuard
import Derived.BigRegion
import Derived.Laws.AppendOwnNone
import Derived.Lib.AppendZeros
import Derived.Laws.Strings3
import Derived.Laws.Closers25
import Derived.Laws.Closers25b
import Derived.Lib.ConvBytes
import Derived.Lib.LaidTab
import Derived.Lib.ItoaMem
import Derived.Test.YtojdlpiogbjfcaaGreatDoorSmA
import Derived.Test.YtojdlpiogbjfcaaGreatDoorSmB
import Derived.Test.YtojdlpiogbjfcaaGreatDoorPBb
import Derived.Test.YtojdlpiogbjfcaaGreatDoorOpenP
set_option linter.unusedVariables false
set_option linter.unusedSimpArgs false
namespace Go.Proofs.YtojdlpiogbjfcaaGreatDoor
open Go.RowKit

/-- The last k bits of a number, as 0 and 1. -/
def bin : Nat → Nat → List UInt8
  | 0, _ => []
  | k + 1, n => bin k (n / 2) ++ [hexd (n % 2)]

theorem bin_length : ∀ (k n : Nat), (bin k n).length = k
  | 0, _ => rfl
  | k + 1, n => by rw [bin, List.length_append, bin_length k]; rfl

def bitv (c : UInt8) : Nat := if c = 49 then 1 else 0

/-- The number that bits tell. -/
def vbin : Nat → List UInt8 → Nat
  | acc, [] => acc
  | acc, c :: r => vbin (acc * 2 + bitv c) r

/-- Bits: 0 or 1 each. -/
def IsBin (l : List UInt8) : Prop := ∀ c ∈ l, c = 48 ∨ c = 49

theorem vbin_append : ∀ (l r : List UInt8) (acc : Nat), vbin acc (l ++ r) = vbin (vbin acc l) r
  | [], r, acc => by simp only [List.nil_append, vbin]
  | c :: l, r, acc => by simp only [List.cons_append, vbin]; exact vbin_append l r _

theorem vbin_lt : ∀ (l : List UInt8) (acc k : Nat), IsBin l → acc < 2 ^ k → vbin acc l < 2 ^ (k + l.length)
  | [], acc, k, _, h => by simpa [vbin] using h
  | c :: l, acc, k, hb, h => by
    rw [vbin]
    have hc := hb c (by simp)
    have : acc * 2 + bitv c < 2 ^ (k + 1) := by
      rw [Nat.pow_succ]
      rcases hc with rfl | rfl
      · simp [bitv]; omega
      · simp [bitv]; omega
    have := vbin_lt l _ (k + 1) (fun x hx => hb x (List.mem_cons_of_mem _ hx)) this
    rw [List.length_cons, show k + (l.length + 1) = k + 1 + l.length by omega]
    exact this

theorem data_get (s : ByteArray) (k : Nat) (h : k < s.size) : s.data.toList[k]'(by rw [size_list]; exact h) = s[k] := rfl

theorem bitd (n : Nat) : bitv (hexd (n % 2)) = n % 2 ∧ (hexd (n % 2) = 48 ∨ hexd (n % 2) = 49) := by
  have : n % 2 = 0 ∨ n % 2 = 1 := by omega
  rcases this with h | h <;> rw [h] <;> decide

theorem bin_isBin : ∀ (k n : Nat), IsBin (bin k n)
  | 0, n => by intro c hc; simp [bin] at hc
  | k + 1, n => by
    intro c hc
    rw [bin, List.mem_append] at hc
    rcases hc with hc | hc
    · exact bin_isBin k _ c hc
    · simp at hc; subst hc; exact (bitd n).2

theorem vbin_bin : ∀ (k n acc : Nat), vbin acc (bin k n) = acc * 2 ^ k + n % 2 ^ k
  | 0, n, acc => by simp [bin, vbin, Nat.mod_one]
  | k + 1, n, acc => by
    rw [bin, vbin_append, vbin_bin k, vbin, vbin, (bitd n).1, Nat.pow_succ]
    have h : n % (2 ^ k * 2) = n / 2 % 2 ^ k * 2 + n % 2 := by
      rw [Nat.mul_comm (2 ^ k) 2, Nat.mod_mul]; omega
    rw [h, Nat.add_mul, Nat.mul_assoc]; omega

theorem bin_split (i : Nat) : ∀ (j n : Nat), bin (i + j) n = bin i (n / 2 ^ j) ++ bin j n
  | 0, n => by simp [bin]
  | j + 1, n => by
    rw [← Nat.add_assoc, bin, bin_split i j, bin, List.append_assoc, Nat.div_div_eq_div_mul, Nat.pow_succ, Nat.mul_comm 2]

theorem bin_sub (i j k n : Nat) : ((bin (i + j + k) n).drop i).take j = bin j (n / 2 ^ k) := by
  rw [bin_split (i + j) k, bin_split i j, List.append_assoc, List.drop_left' (bin_length _ _), List.take_left' (bin_length _ _)]

theorem vbin_add : ∀ (l : List UInt8) (acc : Nat), vbin acc l = acc * 2 ^ l.length + vbin 0 l
  | [], acc => by simp [vbin]
  | c :: l, acc => by
    rw [vbin, vbin, vbin_add l, vbin_add l (0 * 2 + bitv c), List.length_cons, Nat.pow_succ, Nat.add_mul, Nat.mul_assoc, Nat.mul_comm 2]
    simp; omega

theorem vbin_lt0 (l : List UInt8) : vbin 0 l < 2 ^ l.length := by
  induction l with
  | nil => simp [vbin]
  | cons c l ih =>
    rw [vbin, vbin_add, List.length_cons, Nat.pow_succ]
    have : bitv c ≤ 1 := by unfold bitv; split <;> omega
    have : (0 * 2 + bitv c) * 2 ^ l.length ≤ 1 * 2 ^ l.length := Nat.mul_le_mul_right _ (by omega)
    omega

/-- The first bits that are not the same decide. -/
def lessL : List UInt8 → List UInt8 → Bool
  | a :: l, b :: r => if a = b then lessL l r else decide (a < b)
  | _, _ => false

theorem lessL_num : ∀ (l r : List UInt8), IsBin l → IsBin r → l.length = r.length → lessL l r = decide (vbin 0 l < vbin 0 r)
  | [], [], _, _, _ => by simp [lessL, vbin]
  | [], b :: r, _, _, h => by simp at h
  | a :: l, [], _, _, h => by simp at h
  | a :: l, b :: r, hl, hr, h => by
    have ih := lessL_num l r (fun c hc => hl c (List.mem_cons_of_mem _ hc)) (fun c hc => hr c (List.mem_cons_of_mem _ hc)) (by simpa using h)
    have h' : l.length = r.length := by simpa using h
    have x1 := vbin_lt0 l
    have x2 := vbin_lt0 r
    rw [lessL, vbin, vbin, vbin_add l, vbin_add r, h', ih]
    rw [h'] at x1
    rcases hl a (by simp) with rfl | rfl <;> rcases hr b (by simp) with rfl | rfl
    · simp
    · simp only [bitv]; simp; omega
    · simp only [bitv]; simp; omega
    · simp

theorem u8_ne {c d : UInt8} (h : c ≠ d) : c.toNat ≠ d.toNat := fun e => h (UInt8.toNat_inj.1 e)

theorem info8 : (Tryz.prog.info? 5).map (fun i => (i.zero, i.size, i.bytes)) = some (some (.int .u8 0), 1, 1) := by kernel_rfl

/-- Bytes, as the cells of a row. -/
def u8s (l : List UInt8) : List Value := l.map fun b : UInt8 => Value.int .u8 (b.toNat : Int)

theorem u8s_append (l r : List UInt8) : u8s (l ++ r) = u8s l ++ u8s r := by simp [u8s]

theorem u8s_length (l : List UInt8) : (u8s l).length = l.length := by simp [u8s]

theorem own_u8 {W : World} {B n : Nat} {v : Value} {l : List UInt8} (h : W.ownsRow B 5 1 v n (u8s l)) (h0 : 0 < n) :
    ∃ g c, v = .slice (some ⟨g, 0, none⟩) n c ∧ n ≤ c ∧ c ≤ maxLen ∧ n = l.length ∧ ∀ j (hj : j < l.length), W.cell? ⟨g, j, none⟩ = some (.int .u8 ((l[j]).toNat : Int)) := by
  obtain ⟨h1, h2⟩ := h
  rcases h2 with ⟨rfl, h2⟩ | ⟨g, c, cur, rfl, _, hc, h3, h4, h5, h6⟩
  · omega
  · rw [u8s_length] at h1
    refine ⟨g, c, rfl, h3, h4, by omega, fun j hj => ?_⟩
    have hj2 : (cur.toList.take (n * 1))[j]? = (u8s l)[j]? := by rw [h6]
    rw [List.getElem?_take_of_lt (by omega)] at hj2
    simp only [u8s, List.getElem?_map, List.getElem?_eq_getElem hj, Option.map_some] at hj2
    simp [World.cell?, hc]
    simpa using hj2

/-- The bits of an address. -/
def bitsT (v : Bool) (hi lo : Nat) : List UInt8 := if v then bin 64 hi ++ bin 64 lo else bin 32 lo

theorem hexd_bit (n : Nat) : ((hexd (n % 2)).toNat : Int) = 48 + (n : Int) % 2 := by
  have : n % 2 = 0 ∨ n % 2 = 1 := by omega
  rcases this with h | h
  · rw [h]; have : (n : Int) % 2 = 0 := by omega
    rw [this]; rfl
  · rw [h]; have : (n : Int) % 2 = 1 := by omega
    rw [this]; rfl

set_option maxHeartbeats 8000000 in
set_option maxRecDepth 100000 in
theorem bits_any (v : Bool) (hi lo : Nat) (w : World) (h1 : hi < 18446744073709551616) (l1 : lo < 18446744073709551616) :
    Calls Tryz.prog 30 #[.agg #[.bool v, .int .u64 hi, .int .u64 lo]] w fun e w' => e = .returned (.string ⟨(bitsT v hi lo).toArray⟩) ∧ Below w.heap.size w w' := by
  obtain ⟨i0, hi0, hz0, hz1, hz2⟩ := info_parts info8
  have hb0 : Below w.heap.size w (w.alloc (.cells #[.bool v, .int .u64 hi, .int .u64 lo] 25)) := bal (Below.refl _ _) _
  have HB0 : Hid (Below w.heap.size w (w.alloc (.cells #[.bool v, .int .u64 hi, .int .u64 lo] 25))) := hb0
  have c0 : (w.alloc (.cells #[.bool v, .int .u64 hi, .int .u64 lo] 25)).cell? ⟨w.heap.size, 0, none⟩ = some (.bool v) := by simp [go_sem]
  have c1 : (w.alloc (.cells #[.bool v, .int .u64 hi, .int .u64 lo] 25)).cell? ⟨w.heap.size, 1, none⟩ = some (.int .u64 hi) := by simp [go_sem]
  have c2 : (w.alloc (.cells #[.bool v, .int .u64 hi, .int .u64 lo] 25)).cell? ⟨w.heap.size, 2, none⟩ = some (.int .u64 lo) := by simp [go_sem]
  have hsz : w.heap.size < (w.alloc (.cells #[.bool v, .int .u64 hi, .int .u64 lo] 25)).heap.size := by simp
  have HT : Hid ((if v then bin 64 hi ++ bin 64 lo else bin 32 lo) = bitsT v hi lo) := rfl
  generalize bitsT v hi lo = T at HT ⊢
  clear hb0
  go_enter Tryz.func30, Tryz.ntmps30
  go_wp2_with fail
  generalize w.alloc (.cells #[.bool v, .int .u64 hi, .int .u64 lo] 25) = W at HB0 c0 c1 c2 hsz ⊢
  go_loopw [3, 4] (fun vs vi wr => ∃ (k : Nat) (j : Int), vi = .int .i64 j ∧ Hid (j = 63 - (k : Int)) ∧ k ≤ 64 ∧ Below W.heap.size W wr ∧ wr.ownsRow W.heap.size 5 1 vs k (u8s (bin k (hi / 2 ^ (64 - k)))))
    (fun _ vi _ => (intOf vi + 1).toNat)
  case atStart => exact ⟨0, 63, rfl, (by omega : (63 : Int) = 63 - ((0 : Nat) : Int)), by omega, Below.refl _ _, World.ownsRow_nil _ _ _ _⟩
  case round =>
    obtain ⟨k, j, rfl, Hj, hk, hb, hown⟩ := hrel
    have hzz := hb.size
    have hj := Hj.out
    by_cases hk64 : k < 64
    · have hc := (bcell hb).1 w.heap.size 1 hsz
      rw [c1] at hc
      have hj0 : 0 ≤ j := by omega
      have hj1 : j ≤ 63 := by omega
      obtain ⟨m, hm⟩ : ∃ m, m = hi / 2 ^ (63 - k) := ⟨_, rfl⟩
      have hm1 : m < 18446744073709551616 := by rw [hm]; exact Nat.lt_of_le_of_lt (Nat.div_le_self _ _) h1
      have hstep : bin (k + 1) (hi / 2 ^ (64 - (k + 1))) = bin k (hi / 2 ^ (64 - k)) ++ [hexd (m % 2)] := by
        rw [bin, Nat.div_div_eq_div_mul, ← Nat.pow_succ, show (64 - (k + 1)).succ = 64 - k by omega, show 64 - (k + 1) = 63 - k by omega, ← hm]
      have hsh : (hi : Int) / 2 ^ j.toNat = (m : Int) := by rw [hm, show j.toNat = 63 - k by omega]; simp
      have HS : Hid (bin (k + 1) (hi / 2 ^ (64 - (k + 1))) = bin k (hi / 2 ^ (64 - k)) ++ [hexd (m % 2)]) := hstep
      obtain ⟨r, hr⟩ : ∃ r : Int, (m : Int) % 2 = r := ⟨_, rfl⟩
      have HE : Hid (((hexd (m % 2)).toNat : Int) = 48 + r) := by rw [← hr]; exact hexd_bit m
      have r0 : 0 ≤ r := by omega
      have r1 : r ≤ 1 := by omega
      have Hj2 : Hid (j - 1 = 63 - ((k + 1 : Nat) : Int)) := (by omega : j - 1 = 63 - ((k + 1 : Nat) : Int))
      clear hstep hm hj
      have HO : Hid (wr.ownsRow W.heap.size 5 1 u3 k (u8s (bin k (hi / 2 ^ (64 - k))))) := hown
      clear hown
      go_wp2_with (at_builtin; refine wpList_append_own _ rfl _ _ 77 rfl W.heap.size 5 i0 (.int .u8 0) 1 1 Tryz.underlying77 hi0 hz0 hz1 hz2 rfl (by decide) _ _ _ rfl (HO.out.alloc _) ⟨wr.heap.size, 0, none⟩ 1 1 [.int .u8 (48 + r)] rfl rfl ?c1 ?c2 ?c3 ?c4 ?c5 ?_)
      case c1 =>
        intro j u hj
        match j, hj with
        | 0, hj => simp at hj; subst hj; simp [Addr.add]
      case c2 => intro u hu; simp at hu; subst hu; rfl
      case c3 => unfold maxLen; omega
      case c4 => omega
      case c5 => simp; omega
      intro v' w3 hown' hgrow _
      have hb3 : Below W.heap.size W w3 := (bal hb _).grown hgrow (by simp; omega) (fun k hk => (HO.out.lt k hk).1)
      have HR : Hid (w3.ownsRow W.heap.size 5 1 v' (k + 1) (u8s (bin (k + 1) (hi / 2 ^ (64 - (k + 1)))))) := by
        rw [HS.out, u8s_append, show u8s [hexd (m % 2)] = [.int .u8 (48 + r)] by simp [u8s, HE.out]]; exact hown'
      clear hown' hgrow HO
      go_wp2
      go_roundw
      case rel => exact ⟨k + 1, j - 1, rfl, Hj2, by omega, hb3, HR⟩
      case measure => simp [intOf]; omega
    · have hk2 : k = 64 := by omega
      subst hk2
      have hj2 : j = -1 := by omega
      subst hj2
      clear Hj
      have HO : Hid (wr.ownsRow W.heap.size 5 1 u3 64 (u8s (bin 64 hi))) := by have := hown; rw [Nat.sub_self, Nat.pow_zero, Nat.div_one] at this; exact this
      clear hown hj hk64
      go_wp2_with fail
      go_loopw [3, 5] (fun vs vi wr => ∃ (k : Nat) (j : Int), vi = .int .i64 j ∧ Hid (j = 63 - (k : Int)) ∧ k ≤ 64 ∧ Below W.heap.size W wr ∧ wr.ownsRow W.heap.size 5 1 vs (64 + k) (u8s (bin 64 hi ++ bin k (lo / 2 ^ (64 - k)))))
        (fun _ vi _ => (intOf vi + 1).toNat)
      case atStart => exact ⟨0, 63, rfl, (by omega : (63 : Int) = 63 - ((0 : Nat) : Int)), by omega, hb, by rw [bin, List.append_nil]; exact HO.out⟩
      case round =>
        clear HO hb hzz
        obtain ⟨k, j, rfl, Hj, hk, hb, hown⟩ := hrel
        have hzz := hb.size
        have hj := Hj.out
        by_cases hk64 : k < 64
        · have hc := (bcell hb).1 w.heap.size 2 hsz
          rw [c2] at hc
          have hj0 : 0 ≤ j := by omega
          have hj1 : j ≤ 63 := by omega
          obtain ⟨m, hm⟩ : ∃ m, m = lo / 2 ^ (63 - k) := ⟨_, rfl⟩
          have hm1 : m < 18446744073709551616 := by rw [hm]; exact Nat.lt_of_le_of_lt (Nat.div_le_self _ _) l1
          have hstep : bin (k + 1) (lo / 2 ^ (64 - (k + 1))) = bin k (lo / 2 ^ (64 - k)) ++ [hexd (m % 2)] := by
            rw [bin, Nat.div_div_eq_div_mul, ← Nat.pow_succ, show (64 - (k + 1)).succ = 64 - k by omega, show 64 - (k + 1) = 63 - k by omega, ← hm]
          have hsh : (lo : Int) / 2 ^ j.toNat = (m : Int) := by rw [hm, show j.toNat = 63 - k by omega]; simp
          have HS : Hid (bin (k + 1) (lo / 2 ^ (64 - (k + 1))) = bin k (lo / 2 ^ (64 - k)) ++ [hexd (m % 2)]) := hstep
          obtain ⟨r, hr⟩ : ∃ r : Int, (m : Int) % 2 = r := ⟨_, rfl⟩
          have HE : Hid (((hexd (m % 2)).toNat : Int) = 48 + r) := by rw [← hr]; exact hexd_bit m
          have r0 : 0 ≤ r := by omega
          have r1 : r ≤ 1 := by omega
          have Hj2 : Hid (j - 1 = 63 - ((k + 1 : Nat) : Int)) := (by omega : j - 1 = 63 - ((k + 1 : Nat) : Int))
          clear hstep hm hj
          have HO : Hid (wr.ownsRow W.heap.size 5 1 u3 (64 + k) (u8s (bin 64 hi ++ bin k (lo / 2 ^ (64 - k))))) := hown
          clear hown
          go_wp2_with (at_builtin; refine wpList_append_own _ rfl _ _ 77 rfl W.heap.size 5 i0 (.int .u8 0) 1 1 Tryz.underlying77 hi0 hz0 hz1 hz2 rfl (by decide) _ _ _ rfl (HO.out.alloc _) ⟨wr.heap.size, 0, none⟩ 1 1 [.int .u8 (48 + r)] rfl rfl ?c1 ?c2 ?c3 ?c4 ?c5 ?_)
          case c1 =>
            intro j u hj
            match j, hj with
            | 0, hj => simp at hj; subst hj; simp [Addr.add]
          case c2 => intro u hu; simp at hu; subst hu; rfl
          case c3 => unfold maxLen; omega
          case c4 => omega
          case c5 => simp; omega
          intro v' w3 hown' hgrow _
          have hb3 : Below W.heap.size W w3 := (bal hb _).grown hgrow (by simp; omega) (fun k hk => (HO.out.lt k hk).1)
          have HR : Hid (w3.ownsRow W.heap.size 5 1 v' (64 + (k + 1)) (u8s (bin 64 hi ++ bin (k + 1) (lo / 2 ^ (64 - (k + 1)))))) := by
            rw [HS.out, ← List.append_assoc, u8s_append, show u8s [hexd (m % 2)] = [.int .u8 (48 + r)] by simp [u8s, HE.out]]; exact hown'
          clear hown' hgrow HO
          go_wp2
          go_roundw
          case rel => exact ⟨k + 1, j - 1, rfl, Hj2, by omega, hb3, HR⟩
          case measure => simp [intOf]; omega
        · have hk2 : k = 64 := by omega
          subst hk2
          have hj2 : j = -1 := by omega
          subst hj2
          clear Hj
          have HO : wr.ownsRow W.heap.size 5 1 u3 128 (u8s (bin 64 hi ++ bin 64 lo)) := by have := hown; rw [Nat.sub_self, Nat.pow_zero, Nat.div_one] at this; exact this
          clear hown hj hk64
          obtain ⟨g, c, rfl, hc1, hc2, hc3, hcell⟩ := own_u8 HO (by decide)
          have hc := (bcell hb).1 w.heap.size 0 hsz
          rw [c0] at hc
          have HF : Hid (Below w.heap.size w wr) := btr HB0.out hb
          clear HO hk
          cases v
          · have hcv : ∀ W' : World, W' = wr → (convert 77 9 (.slice (some ⟨g, 96, none⟩) 32 (c - 96))).run Tryz.prog W' = .ok (.string ⟨(bin 32 lo).toArray⟩) W' := by
              rintro _ rfl
              refine cvt _ g 96 (c - 96) (bin 32 lo) 32 (bin_length _ _).symm (fun j hj => ?_)
              rw [bin_length] at hj
              rw [hcell (96 + j) (by rw [List.length_append, bin_length, bin_length]; omega)]
              have e : bin 64 hi ++ bin 64 lo = (bin 64 hi ++ bin 32 (lo / 2 ^ 32)) ++ bin 32 lo := by rw [List.append_assoc, ← bin_split 32 32]
              simp only [e]
              rw [List.getElem_append_right (by rw [List.length_append, bin_length, bin_length]; omega)]
              simp only [List.length_append, bin_length, Nat.add_sub_cancel_left]
            have hsl : ∀ W' : World, (Instr.sliceAt 77 (.slice (some ⟨g, 0, none⟩) 128 c) (some (.int .i64 96)) none none).run Tryz.prog W' = .ok (.slice (some ⟨g, 96, none⟩) 32 (c - 96)) W' := by
              intro W'
              have h3 : ¬ c = 96 := by omega
              simp [go_sem, h3]
            have hT : bin 32 lo = T := HT.out
            rw [hT] at hcv
            clear hcell c1 c2 hc3
            go_wp2_with fail
            go_ret
            exact ⟨rfl, HF.out⟩
          · have hcv : ∀ W' : World, W' = wr → (convert 77 9 (.slice (some ⟨g, 0, none⟩) 128 c)).run Tryz.prog W' = .ok (.string ⟨(bin 64 hi ++ bin 64 lo).toArray⟩) W' := by
              rintro _ rfl
              refine cvt _ g 0 c (bin 64 hi ++ bin 64 lo) 128 (by rw [List.length_append, bin_length, bin_length]) (fun j hj => ?_)
              rw [Nat.zero_add]
              exact hcell j hj
            have hT : bin 64 hi ++ bin 64 lo = T := HT.out
            rw [hT] at hcv
            clear hcell c1 c2 hc3
            go_wp2_with fail
            go_ret
            exact ⟨rfl, HF.out⟩

theorem bitsT_bin (v : Bool) (hi lo : Nat) : IsBin (bitsT v hi lo) := by
  unfold bitsT
  split
  · intro c hc
    rcases List.mem_append.1 hc with h | h
    · exact bin_isBin _ _ c h
    · exact bin_isBin _ _ c h
  · exact bin_isBin _ _

theorem bitsT_length (v : Bool) (hi lo : Nat) : (bitsT v hi lo).length = if v then 128 else 32 := by
  unfold bitsT
  split
  · rw [List.length_append, bin_length, bin_length]
  · rw [bin_length]

theorem bitsT_num (v : Bool) (hi lo : Nat) (h1 : hi < 18446744073709551616) (l1 : lo < 18446744073709551616) (hv : v = true ∨ (hi = 0 ∧ lo ≤ 4294967295)) :
    vbin 0 (bitsT v hi lo) = hi * 18446744073709551616 + lo := by
  cases v
  · simp at hv
    rw [bitsT, if_neg (by decide), vbin_bin, hv.1]
    have : lo % 2 ^ 32 = lo := Nat.mod_eq_of_lt (by omega)
    omega
  · rw [bitsT, if_pos rfl, vbin_append, vbin_bin, vbin_bin]
    have h2 : hi % 2 ^ 64 = hi := Nat.mod_eq_of_lt (by omega)
    have h3 : lo % 2 ^ 64 = lo := Nat.mod_eq_of_lt (by omega)
    omega

theorem keep33 {w W W' : World} {p q : Nat} {x y z x2 y2 z2 : Value}
    (h : Has3 W p x y z ∧ Has3 W q x2 y2 z2 ∧ Below w.heap.size w W) (hb : Below W.heap.size W W') : Has3 W' p x y z ∧ Has3 W' q x2 y2 z2 ∧ Below w.heap.size w W' :=
  ⟨h.1.below hb, h.2.1.below hb, btr h.2.2 hb⟩

theorem vbin_cut (l : List UInt8) (b : Nat) : vbin 0 l = vbin 0 (l.take b) * 2 ^ (l.drop b).length + vbin 0 (l.drop b) := by
  have := vbin_append (l.take b) (l.drop b) 0
  rw [List.take_append_drop, vbin_add (l.drop b)] at this
  exact this

theorem vbin_div (l : List UInt8) (b : Nat) : vbin 0 l / 2 ^ (l.drop b).length = vbin 0 (l.take b) ∧ vbin 0 l % 2 ^ (l.drop b).length = vbin 0 (l.drop b) := by
  have h1 := vbin_cut l b
  have h2 := vbin_lt0 (l.drop b)
  have hp : 0 < 2 ^ (l.drop b).length := Nat.pow_pos (by decide)
  constructor
  · rw [h1, Nat.mul_comm, Nat.mul_add_div hp, Nat.div_eq_of_lt h2, Nat.add_zero]
  · rw [h1, Nat.mul_comm, Nat.mul_add_mod, Nat.mod_eq_of_lt h2]

theorem vbin_zero : ∀ r : List UInt8, IsBin r → (vbin 0 r = 0 ↔ ∀ c ∈ r, c = 48)
  | [], _ => by simp [vbin]
  | c :: r, h => by
    have ih := vbin_zero r (fun x hx => h x (List.mem_cons_of_mem _ hx))
    have hp : 0 < 2 ^ r.length := Nat.pow_pos (by decide)
    rw [vbin, vbin_add]
    rcases h c (by simp) with rfl | rfl
    · simp [bitv, ih]
    · simp [bitv]

theorem vbin_ones : ∀ (k acc : Nat), vbin acc (List.replicate k 49) + 1 = (acc + 1) * 2 ^ k
  | 0, acc => by simp [vbin]
  | k + 1, acc => by
    rw [List.replicate_succ, vbin, vbin_ones k, Nat.pow_succ]
    simp [bitv]
    rw [show acc * 2 + 1 + 1 = (acc + 1) * 2 by omega, Nat.mul_assoc, Nat.mul_comm 2]

theorem bin_inj : ∀ (l r : List UInt8), IsBin l → IsBin r → l.length = r.length → vbin 0 l = vbin 0 r → l = r
  | [], [], _, _, _, _ => rfl
  | [], b :: r, _, _, h, _ => by simp at h
  | a :: l, [], _, _, h, _ => by simp at h
  | a :: l, b :: r, hl, hr, h, e => by
    have h' : l.length = r.length := by simpa using h
    have x1 := vbin_lt0 l
    have x2 := vbin_lt0 r
    rw [vbin, vbin, vbin_add l, vbin_add r, h'] at e
    rw [h'] at x1
    have ih := bin_inj l r (fun c hc => hl c (List.mem_cons_of_mem _ hc)) (fun c hc => hr c (List.mem_cons_of_mem _ hc)) h'
    rcases hl a (by simp) with rfl | rfl <;> rcases hr b (by simp) with rfl | rfl
    · rw [ih (by simpa [bitv] using e)]
    · simp [bitv] at e; omega
    · simp [bitv] at e; omega
    · rw [ih (by simp [bitv] at e; omega)]

theorem vbin_set (l : List UInt8) (b : Nat) (hb : b < l.length) (h0 : l[b] = 48) : vbin 0 (l.set b 49) = vbin 0 l + 2 ^ (l.length - b - 1) := by
  have e1 : l = l.take b ++ 48 :: l.drop (b + 1) := by
    rw [← h0, ← List.drop_eq_getElem_cons hb, List.take_append_drop]
  have e2 : l.set b 49 = l.take b ++ 49 :: l.drop (b + 1) := by rw [List.set_eq_take_append_cons_drop, if_pos hb]
  have h3 : (l.drop (b + 1)).length = l.length - b - 1 := by rw [List.length_drop]; omega
  rw [e2, vbin_append, vbin, vbin_add]
  conv => rhs; rw [e1]
  rw [vbin_append, vbin, vbin_add (l.drop (b + 1)) (vbin 0 (l.take b) * 2 + bitv 48), h3]
  rw [← h3, List.length_append, List.length_cons, List.length_take]
  simp only [bitv, List.length_drop]
  rw [show min b l.length + (l.length - (b + 1) + 1) - b - 1 = l.length - (b + 1) by omega]
  simp [Nat.add_mul]
  omega

/-- What AddrOf makes of bits, as a number. -/
theorem parts_num (R : List UInt8) (h : R.length = 128 ∨ R.length = 32) :
    vbin 0 (R.take (R.length - 64)) * 18446744073709551616 + vbin 0 (R.drop (R.length - 64)) = vbin 0 R ∧ vbin 0 (R.take (R.length - 64)) < 18446744073709551616 ∧ vbin 0 (R.drop (R.length - 64)) < 18446744073709551616 := by
  rcases h with h | h
  · have h1 := vbin_cut R 64
    have h2 : (R.drop 64).length = 64 := by rw [List.length_drop, h]
    have h3 : (R.take 64).length = 64 := by rw [List.length_take, h]; rfl
    have h4 := vbin_lt0 (R.drop 64)
    have h5 := vbin_lt0 (R.take 64)
    rw [h2] at h1 h4
    rw [h3] at h5
    rw [h, show (128 : Nat) - 64 = 64 from rfl]
    omega
  · rw [h, show (32 : Nat) - 64 = 0 from rfl, List.take_zero, List.drop_zero]
    have := vbin_lt0 R
    rw [h] at this
    simp only [vbin]
    omega

theorem ext_list (s : ByteArray) (i j : Nat) : s.extract i j = ⟨((s.data.toList.drop i).take (j - i)).toArray⟩ := by
  apply ByteArray.ext
  rw [ByteArray.data_extract]
  apply Array.toList_inj.1
  rw [Array.toList_extract]

theorem str_to (s : ByteArray) (j : Nat) (W : World) (h2 : j ≤ s.size) (h3 : s.size ≤ 281474976710656) :
    (Instr.sliceAt 9 (.string s) none (some (.int .i64 (j : Int))) none).run Tryz.prog W = .ok (.string ⟨(s.data.toList.take j).toArray⟩) W := by
  have a2 : (j : Int) ≤ (s.size : Int) := by omega
  have h := ext_list s 0 j
  rw [List.drop_zero, Nat.sub_zero] at h
  rw [← h]
  simp [go_sem, a2]

theorem right_nat {v : Bool} {hi lo : Nat} (c : chk v hi lo = 0) : v = true ∨ (hi = 0 ∧ lo ≤ 4294967295) := by
  rcases chk_cases v hi lo with ⟨_, h⟩ | h
  · exact h.imp id fun ⟨x, y⟩ => ⟨by omega, by omega⟩
  · omega

theorem bits_wid (v : Bool) (hi lo : Nat) : ((bitsT v hi lo).length : Int) = wid v := by rw [bitsT_length, wid]; cases v <;> rfl

theorem bits_num {v : Bool} {hi lo : Nat} (c : chk v hi lo = 0) (h1 : hi < 18446744073709551616) (l1 : lo < 18446744073709551616) : ((vbin 0 (bitsT v hi lo) : Nat) : Int) = num hi lo := by
  rw [bitsT_num v hi lo h1 l1 (right_nat c), num]; simp

theorem amt_nat (v : Bool) (hi lo b : Nat) (hb : (b : Int) ≤ wid v) : amt v b = ((2 ^ ((bitsT v hi lo).drop b).length : Nat) : Int) := by
  have h := bits_wid v hi lo
  rw [amt, List.length_drop, show (wid v - (b : Int)).toNat = (bitsT v hi lo).length - b by omega]; simp

theorem bits_mod {v : Bool} {hi lo b : Nat} (c : chk v hi lo = 0) (h1 : hi < 18446744073709551616) (l1 : lo < 18446744073709551616) (hb : (b : Int) ≤ wid v) :
    num hi lo % amt v b = ((vbin 0 ((bitsT v hi lo).drop b) : Nat) : Int) := by
  rw [← bits_num c h1 l1, amt_nat v hi lo b hb, ← Int.natCast_emod, (vbin_div _ b).2]

theorem bits_div {v : Bool} {hi lo b : Nat} (c : chk v hi lo = 0) (h1 : hi < 18446744073709551616) (l1 : lo < 18446744073709551616) (hb : (b : Int) ≤ wid v) :
    num hi lo / amt v b = ((vbin 0 ((bitsT v hi lo).take b) : Nat) : Int) := by
  rw [← bits_num c h1 l1, amt_nat v hi lo b hb, ← Int.natCast_ediv, (vbin_div _ b).1]

theorem drop_bin (v : Bool) (hi lo b : Nat) : IsBin ((bitsT v hi lo).drop b) := fun c hc => bitsT_bin v hi lo c (List.mem_of_mem_drop hc)

theorem take_bin (v : Bool) (hi lo b : Nat) : IsBin ((bitsT v hi lo).take b) := fun c hc => bitsT_bin v hi lo c (List.mem_of_mem_take hc)

theorem pchk_bits {v : Bool} {hi lo b : Nat} (c : chk v hi lo = 0) (h1 : hi < 18446744073709551616) (l1 : lo < 18446744073709551616) (hb : (b : Int) ≤ wid v) :
    ((∀ x ∈ (bitsT v hi lo).drop b, x = 48) → pchk v hi lo b = 0) ∧ ((¬ ∀ x ∈ (bitsT v hi lo).drop b, x = 48) → pchk v hi lo b = 4) := by
  have hm := bits_mod c h1 l1 hb
  have hz := vbin_zero _ (drop_bin v hi lo b)
  have hr := right_iff v hi lo b (by omega) (by omega) (by omega) (by omega)
  constructor
  · intro h
    rw [hr]
    refine ⟨c, by omega, hb, by omega, by omega, by omega, by omega, ?_⟩
    rw [hm, hz.2 h]; rfl
  · intro h
    rcases pchk_cases v hi lo b with ⟨k, _⟩ | k | k
    · exfalso
      apply h
      apply hz.1
      have := (hr.1 k).al
      rw [hm] at this
      omega
    · exfalso
      unfold pchk at k
      rw [if_pos c, if_neg (by omega)] at k
      split at k <;> omega
    · exact k

theorem right_bits {v : Bool} {hi lo b : Nat} (r : Right v hi lo b) : ∀ x ∈ (bitsT v hi lo).drop b, x = 48 := by
  have h1 := r.h1
  have l1 := r.l1
  have hm := bits_mod r.c (by omega) (by omega) r.b1
  rw [r.al] at hm
  exact (vbin_zero _ (drop_bin v hi lo b)).1 (by omega)

/-- What AddrOf makes of so many bits that tell a number is that number's address. -/
theorem parts_addr {v : Bool} {R : List UInt8} {x y : Int} (hl : (R.length : Int) = wid v) (x0 : 0 ≤ x) (y0 : 0 ≤ y) (y1 : y < 18446744073709551616) (hn : num x y = ((vbin 0 R : Nat) : Int)) :
    decide (R.length = 128) = v ∧ x = ((vbin 0 (R.take (R.length - 64)) : Nat) : Int) ∧ y = ((vbin 0 (R.drop (R.length - 64)) : Nat) : Int) := by
  have h2 : R.length = 128 ∨ R.length = 32 := by unfold wid at hl; split at hl <;> omega
  obtain ⟨p1, p2, p3⟩ := parts_num R h2
  refine ⟨by unfold wid at hl; cases v <;> simp at hl ⊢ <;> omega, ?_⟩
  refine num_inj y0 y1 (by omega) (by omega) ?_
  rw [hn, num, ← p1]; simp

theorem div_same {A p q : Int} (hA : 0 < A) (hp : p % A = 0) : q / A = p / A ↔ p ≤ q ∧ q < p + A := by
  have h1 := Int.mul_ediv_add_emod p A
  have h2 := Int.mul_ediv_add_emod q A
  have h3 := Int.emod_nonneg q (Int.ne_of_gt hA)
  have h4 := Int.emod_lt_of_pos q hA
  constructor
  · intro h; rw [h] at h2; omega
  · rintro ⟨h5, h6⟩
    have e : q = (q - p) + A * (p / A) := by omega
    rw [e, Int.add_mul_ediv_left _ _ (Int.ne_of_gt hA), Int.ediv_eq_zero_of_lt (by omega) (by omega)]; omega

/-- Have the first bits of both the same? -/
theorem has_bits {v : Bool} {hi lo b : Nat} {u : Bool} {yi yo : Nat} {c : Int} (r : Right v hi lo b) (q : Right u yi yo c) :
    hasB v hi lo b u yi yo c = (decide ((b : Int) ≤ c) && ((v == u) && ((bitsT v hi lo).take b == (bitsT u yi yo).take b))) := by
  have h1 := r.h1
  have l1 := r.l1
  have h2 := q.h1
  have l2 := q.l1
  rw [Bool.eq_iff_iff, has_num r q]
  simp only [Bool.and_eq_true, decide_eq_true_eq, beq_iff_eq]
  constructor
  · rintro ⟨a1, rfl, a3, a4⟩
    refine ⟨a1, rfl, bin_inj _ _ (take_bin _ _ _ _) (take_bin _ _ _ _) (by rw [List.length_take, List.length_take, bitsT_length, bitsT_length]) ?_⟩
    have d1 := bits_div r.c (by omega) (by omega) r.b1
    have d2 := bits_div (b := b) q.c (by omega) (by omega) r.b1
    have := (div_same (amt_pos u b) r.al).2 ⟨a3, a4⟩
    rw [d1, d2] at this
    omega
  · rintro ⟨a1, rfl, a3⟩
    have d1 := bits_div r.c (by omega) (by omega) r.b1
    have d2 := bits_div (b := b) q.c (by omega) (by omega) r.b1
    have := (div_same (amt_pos v b) r.al).1 (d2.trans (by rw [← a3]; exact d1.symm))
    exact ⟨a1, rfl, this.1, this.2⟩

theorem keep43 {w W W' : World} {p q : Nat} {v : Bool} {hi lo b : Int} {x y z : Value}
    (h : Has4 W p v hi lo b ∧ Has3 W q x y z ∧ Below w.heap.size w W) (hb : Below W.heap.size W W') : Has4 W' p v hi lo b ∧ Has3 W' q x y z ∧ Below w.heap.size w W' :=
  ⟨h.1.below hb, h.2.1.below hb, btr h.2.2 hb⟩

set_option maxHeartbeats 8000000 in
set_option maxRecDepth 100000 in
theorem hasAddr_any (v : Bool) (hi lo b : Nat) (u : Bool) (yi yo : Nat) (w : World) (h1 : hi < 18446744073709551616) (l1 : lo < 18446744073709551616) (h2 : yi < 18446744073709551616) (l2 : yo < 18446744073709551616) (hb : (b : Int) ≤ wid v) :
    Calls Tryz.prog 11 #[.agg #[.bool v, .int .u64 hi, .int .u64 lo, .int .i64 (b : Int)], .agg #[.bool u, .int .u64 yi, .int .u64 yo]] w fun e w' => e = .returned (.bool ((v == u) && ((bitsT v hi lo).take b == (bitsT u yi yo).take b))) ∧ Below w.heap.size w w' := by
  have HB0 : Hid (Below w.heap.size w ((w.alloc (.cells #[.bool v, .int .u64 hi, .int .u64 lo, .int .i64 (b : Int)] 27)).alloc (.cells #[.bool u, .int .u64 yi, .int .u64 yo] 25))) := bal (bal (Below.refl _ _) _) _
  have q1 : (w.alloc (.cells #[.bool v, .int .u64 hi, .int .u64 lo, .int .i64 (b : Int)] 27)).heap.size = w.heap.size + 1 := by simp
  have P1 : Hid (Has4 ((w.alloc (.cells #[.bool v, .int .u64 hi, .int .u64 lo, .int .i64 (b : Int)] 27)).alloc (.cells #[.bool u, .int .u64 yi, .int .u64 yo] 25)) w.heap.size v hi lo b) := (Has4.new w _ _ _ _ _).alloc _
  have P2 : Hid (Has3 ((w.alloc (.cells #[.bool v, .int .u64 hi, .int .u64 lo, .int .i64 (b : Int)] 27)).alloc (.cells #[.bool u, .int .u64 yi, .int .u64 yo] 25)) (w.heap.size + 1) (.bool u) (.int .u64 yi) (.int .u64 yo)) := by
    have := Has3.new (w.alloc (.cells #[.bool v, .int .u64 hi, .int .u64 lo, .int .i64 (b : Int)] 27)) (.bool u) (.int .u64 yi) (.int .u64 yo) 25
    rw [q1] at this; exact this
  clear q1
  by_cases hvu : v = u
  · subst hvu
    rw [beq_self_eq_true, Bool.true_and]
    have hlen1 := bits_wid v hi lo
    have hlen2 := bits_wid v yi yo
    have hw128 : wid v ≤ 128 := by unfold wid; split <;> omega
    have HX : Hid (∀ (h l : Nat) (w : World), h < 18446744073709551616 → l < 18446744073709551616 → Calls Tryz.prog 30 #[.agg #[.bool v, .int .u64 h, .int .u64 l]] w fun e w' => e = .returned (.string ⟨(bitsT v h l).toArray⟩) ∧ Below w.heap.size w w') := fun h l w a b => bits_any v h l w a b
    have s1 : ∀ W : World, (Instr.sliceAt 9 (.string ⟨(bitsT v hi lo).toArray⟩) none (some (.int .i64 (b : Int))) none).run Tryz.prog W = .ok (.string ⟨((bitsT v hi lo).take b).toArray⟩) W := fun W =>
      str_to ⟨(bitsT v hi lo).toArray⟩ b W (by show b ≤ (bitsT v hi lo).toArray.size; rw [List.size_toArray]; omega) (by show (bitsT v hi lo).toArray.size ≤ _; rw [List.size_toArray]; omega)
    have s2 : ∀ W : World, (Instr.sliceAt 9 (.string ⟨(bitsT v yi yo).toArray⟩) none (some (.int .i64 (b : Int))) none).run Tryz.prog W = .ok (.string ⟨((bitsT v yi yo).take b).toArray⟩) W := fun W =>
      str_to ⟨(bitsT v yi yo).toArray⟩ b W (by show b ≤ (bitsT v yi yo).toArray.size; rw [List.size_toArray]; omega) (by show (bitsT v yi yo).toArray.size ≤ _; rw [List.size_toArray]; omega)
    go_enter Tryz.func11, Tryz.ntmps11
    go_wp2_with fail
    generalize (w.alloc (.cells #[.bool v, .int .u64 hi, .int .u64 lo, .int .i64 (b : Int)] 27)).alloc (.cells #[.bool v, .int .u64 yi, .int .u64 yo] 25) = W at *
    have P1' : Hid (Has4 W.drew w.heap.size v hi lo b) := P1.out
    have P2' : Hid (Has3 W.drew (w.heap.size + 1) (.bool v) (.int .u64 yi) (.int .u64 yo)) := P2.out
    have B' : Hid (Below w.heap.size w W.drew) := HB0.out.drew
    clear P1 P2 hlen1 hlen2
    go_region_held3 (fun w' => (w'.cell? ⟨w.heap.size, 0, none⟩ = some (.bool v) ∧ w'.cell? ⟨w.heap.size, 1, none⟩ = some (.int .u64 hi) ∧ w'.cell? ⟨w.heap.size, 2, none⟩ = some (.int .u64 lo) ∧ w'.cell? ⟨w.heap.size, 3, none⟩ = some (.int .i64 b) ∧ w.heap.size < w'.heap.size) ∧ (w'.cell? ⟨w.heap.size + 1, 0, none⟩ = some (.bool v) ∧ w'.cell? ⟨w.heap.size + 1, 1, none⟩ = some (.int .u64 yi) ∧ w'.cell? ⟨w.heap.size + 1, 2, none⟩ = some (.int .u64 yo) ∧ w.heap.size + 1 < w'.heap.size) ∧ Below w.heap.size w w')
      (first | exact ⟨P1'.out, P2'.out, B'.out⟩ | exact keep43 (by assumption) (by assumption))
      ((go_at_call 30; refine (HX.out _ _ _ (by assumption) (by assumption)).mono ?_; rintro e w3 ⟨rfl, hb⟩))
    have HS : Has4 w3 w.heap.size v hi lo b ∧ Has3 w3 (w.heap.size + 1) (.bool v) (.int .u64 yi) (.int .u64 yo) ∧ Below w.heap.size w w3 := by assumption
    go_wp2_with fail
    go_ret
    exact ⟨rfl, HS.2.2⟩
  · have hvd : (v == u) = false := by rw [beq_eq_false_iff_ne]; exact hvu
    rw [hvd, Bool.false_and]
    go_enter Tryz.func11, Tryz.ntmps11
    go_wp2_with fail
    go_region
    go_wp2_with fail
    go_ret
    exact ⟨rfl, HB0.out.drew⟩

end Go.Proofs.YtojdlpiogbjfcaaGreatDoor

namespace Go.Proofs.YtojdlpiogbjfcaaGreatDoor
open Go.RowKit

theorem pf_nat {p : Pf} (r : p.R) : ∃ h l b : Nat, p.hi = h ∧ p.lo = l ∧ p.b = b :=
  ⟨p.hi.toNat, p.lo.toNat, p.b.toNat, by have := r.h0; omega, by have := r.l0; omega, by have := r.b0; omega⟩
theorem rhasA_any (p : Pf) (v : Bool) (xh xl : Int) (w : World) (r : p.R) (q : Right v xh xl (wid v)) :
    Calls Tryz.prog 11 #[.agg #[.bool p.v, .int .u64 p.hi, .int .u64 p.lo, .int .i64 p.b], .agg #[.bool v, .int .u64 xh, .int .u64 xl]] w fun e w' => e = .returned (.bool (p.inA v xh xl)) ∧ Below w.heap.size w w' := by
  obtain ⟨h, l, b, e1, e2, e3⟩ := pf_nat r
  have r' : Right p.v h l b := by rw [← e1, ← e2, ← e3]; exact r
  have f1 : xh = (xh.toNat : Int) := by have := q.h0; omega
  have f2 : xl = (xl.toNat : Int) := by have := q.l0; omega
  have q' : Right v xh.toNat xl.toNat (wid v) := by rw [← f1, ← f2]; exact q
  have hb := r'.b1
  have hb' := r.b1
  have h1 := r'.h1
  have h2 := r'.l1
  have h3 := q'.h1
  have h4 := q'.l1
  have := hasAddr_any p.v h l b v xh.toNat xl.toNat w (by omega) (by omega) (by omega) (by omega) hb
  have e : p.inA v xh xl = ((p.v == v) && ((bitsT p.v h l).take b == (bitsT v xh.toNat xl.toNat).take b)) := by
    rw [in_has r q]
    unfold Pf.has
    simp only
    rw [e1, e2, e3, f1, f2]
    simp only [Int.toNat_natCast]
    rw [has_bits r' q']
    by_cases hv : p.v = v
    · rw [← hv, decide_eq_true hb, Bool.true_and]
    · rw [beq_eq_false_iff_ne.2 hv]; simp
  rw [e, e1, e2, e3]
  rw [← f1, ← f2] at this
  exact this
end Go.Proofs.YtojdlpiogbjfcaaGreatDoor

namespace Go.Proofs.YtojdlpiogbjfcaaGreatDoor
open Go.RowKit

theorem keepD {w W W' : World} {g o1 o2 : Nat} {x y : Pf} (h : (W.cell? ⟨g, o1, none⟩ = some (.bool x.v) ∧ W.cell? ⟨g, o1 + 1, none⟩ = some (.int .u64 x.hi) ∧ W.cell? ⟨g, o1 + 2, none⟩ = some (.int .u64 x.lo) ∧ W.cell? ⟨g, o1 + 3, none⟩ = some (.int .i64 x.b)) ∧ (W.cell? ⟨g, o2, none⟩ = some (.bool y.v) ∧ W.cell? ⟨g, o2 + 1, none⟩ = some (.int .u64 y.hi) ∧ W.cell? ⟨g, o2 + 2, none⟩ = some (.int .u64 y.lo) ∧ W.cell? ⟨g, o2 + 3, none⟩ = some (.int .i64 y.b)) ∧ g < W.heap.size ∧ Below w.heap.size w W) (hb : Below W.heap.size W W') : (W'.cell? ⟨g, o1, none⟩ = some (.bool x.v) ∧ W'.cell? ⟨g, o1 + 1, none⟩ = some (.int .u64 x.hi) ∧ W'.cell? ⟨g, o1 + 2, none⟩ = some (.int .u64 x.lo) ∧ W'.cell? ⟨g, o1 + 3, none⟩ = some (.int .i64 x.b)) ∧ (W'.cell? ⟨g, o2, none⟩ = some (.bool y.v) ∧ W'.cell? ⟨g, o2 + 1, none⟩ = some (.int .u64 y.hi) ∧ W'.cell? ⟨g, o2 + 2, none⟩ = some (.int .u64 y.lo) ∧ W'.cell? ⟨g, o2 + 3, none⟩ = some (.int .i64 y.b)) ∧ g < W'.heap.size ∧ Below w.heap.size w W' := by
  obtain ⟨⟨a0, a1, a2, a3⟩, ⟨b0, b1, b2, b3⟩, hg, h3⟩ := h
  obtain ⟨k, _⟩ := bcell hb
  exact ⟨⟨by rw [k _ _ hg]; exact a0, by rw [k _ _ hg]; exact a1, by rw [k _ _ hg]; exact a2, by rw [k _ _ hg]; exact a3⟩, ⟨by rw [k _ _ hg]; exact b0, by rw [k _ _ hg]; exact b1, by rw [k _ _ hg]; exact b2, by rw [k _ _ hg]; exact b3⟩, Nat.lt_of_lt_of_le hg hb.size, btr h3 hb⟩
theorem keepDu {w W W' : World} {E g o1 o2 : Nat} {x y : Pf} (h : (W.cell? ⟨g, o1, none⟩ = some (.bool x.v) ∧ W.cell? ⟨g, o1 + 1, none⟩ = some (.int .u64 x.hi) ∧ W.cell? ⟨g, o1 + 2, none⟩ = some (.int .u64 x.lo) ∧ W.cell? ⟨g, o1 + 3, none⟩ = some (.int .i64 x.b)) ∧ (W.cell? ⟨g, o2, none⟩ = some (.bool y.v) ∧ W.cell? ⟨g, o2 + 1, none⟩ = some (.int .u64 y.hi) ∧ W.cell? ⟨g, o2 + 2, none⟩ = some (.int .u64 y.lo) ∧ W.cell? ⟨g, o2 + 3, none⟩ = some (.int .i64 y.b)) ∧ g < W.heap.size ∧ Below w.heap.size w W) (hg : g < E) (hw : w.heap.size ≤ E) (hb : Below E W W') : (W'.cell? ⟨g, o1, none⟩ = some (.bool x.v) ∧ W'.cell? ⟨g, o1 + 1, none⟩ = some (.int .u64 x.hi) ∧ W'.cell? ⟨g, o1 + 2, none⟩ = some (.int .u64 x.lo) ∧ W'.cell? ⟨g, o1 + 3, none⟩ = some (.int .i64 x.b)) ∧ (W'.cell? ⟨g, o2, none⟩ = some (.bool y.v) ∧ W'.cell? ⟨g, o2 + 1, none⟩ = some (.int .u64 y.hi) ∧ W'.cell? ⟨g, o2 + 2, none⟩ = some (.int .u64 y.lo) ∧ W'.cell? ⟨g, o2 + 3, none⟩ = some (.int .i64 y.b)) ∧ g < W'.heap.size ∧ Below w.heap.size w W' := by
  obtain ⟨⟨a0, a1, a2, a3⟩, ⟨b0, b1, b2, b3⟩, hg', h3⟩ := h
  have k : ∀ o, W'.cell? ⟨g, o, none⟩ = W.cell? ⟨g, o, none⟩ := fun o => hb.cell (p := ⟨g, o, none⟩) hg
  exact ⟨⟨by rw [k]; exact a0, by rw [k]; exact a1, by rw [k]; exact a2, by rw [k]; exact a3⟩, ⟨by rw [k]; exact b0, by rw [k]; exact b1, by rw [k]; exact b2, by rw [k]; exact b3⟩, Nat.lt_of_lt_of_le hg' hb.size, h3.trans (below_le hb hw)⟩

set_option maxHeartbeats 4000000 in
theorem sap_bad (a : Option Addr) (c N : Nat) (w : World)
    (CB : Hid (∀ w' : World, Calls Tryz.prog 6 #[] w' fun e w'' => e = .returned (.bool true) ∧ Below w'.heap.size w' w''))
    (CQ : Hid (∀ w' : World, Below w.heap.size w w' → Calls Tryz.prog 7 #[] w' fun e w'' => e = .returned (.bool true) ∧ Below w'.heap.size w' w''))
    (r : Int) (hI : (r != 0) = true) (CN : Hid (∀ w' : World, Below w.heap.size w w' → Calls Tryz.prog 8 #[.slice a N c] w' fun e w'' => e = .returned (.tuple #[.slice none 0 0, .int .i64 r]) ∧ Below w'.heap.size w' w'')) :
    Calls Tryz.prog 4 #[.slice a N c] w fun e w' => e = .returned (.bool true) ∧ Below w.heap.size w w' := by
  go_enter Tryz.func4, Tryz.ntmps4
  go_wp2_with fail
  refine (CN.out _ (Below.refl _ _)).mono ?_
  rintro e w1 ⟨rfl, hb⟩
  have HB := Lib.hid hb
  clear hb
  go_wp2_with fail
  refine (CB.out _).mono ?_
  rintro e w2 ⟨rfl, hb⟩
  replace HB := Lib.hid (btr HB.out hb)
  clear hb
  go_wp2_with fail
  refine (CQ.out _ HB.out).mono ?_
  rintro e w3 ⟨rfl, hb⟩
  replace HB := Lib.hid (btr HB.out hb)
  clear hb
  go_wp2
  go_ret
  exact ⟨rfl, HB.out⟩

set_option maxHeartbeats 32000000 in
set_option maxRecDepth 100000 in
theorem sap_ok (a : Option Addr) (c N : Nat) (w : World)
    (CB : Hid (∀ w' : World, Calls Tryz.prog 6 #[] w' fun e w'' => e = .returned (.bool true) ∧ Below w'.heap.size w' w''))
    (CQ : Hid (∀ w' : World, Below w.heap.size w w' → Calls Tryz.prog 7 #[] w' fun e w'' => e = .returned (.bool true) ∧ Below w'.heap.size w' w''))
    (A : Bool → Int → Prop) (hN : N ≤ 12) (CN : Hid (∀ w' : World, Below w.heap.size w w' → Calls Tryz.prog 8 #[.slice a N c] w' (NormPost2 w' N A))) :
    Calls Tryz.prog 4 #[.slice a N c] w fun e w' => e = .returned (.bool true) ∧ Below w.heap.size w w' := by
  go_enter Tryz.func4, Tryz.ntmps4
  go_wp2_with fail
  refine (CN.out _ (Below.refl _ _)).mono ?_
  rintro e w1 ⟨v1, M, rfl, o1, i1, l1, hb⟩
  have HB := Lib.hid hb
  obtain ⟨a1, c1, rfl, _, s1⟩ := own_sl o1
  have HS := Lib.hid s1
  have HI := Lib.hid i1
  clear hb o1 s1 i1 CN
  go_wp2_with fail
  refine (CB.out _).mono ?_
  rintro e w2 ⟨rfl, hb⟩
  replace HB := Lib.hid (btr HB.out hb)
  replace HS := Lib.hid (HS.out.below hb)
  clear hb
  go_wp2_with fail
  refine (CQ.out _ HB.out).mono ?_
  rintro e w3 ⟨rfl, hb⟩
  replace HB := Lib.hid (btr HB.out hb)
  replace HS := Lib.hid (HS.out.below hb)
  clear hb
  obtain ⟨m, hm⟩ : ∃ m, m = M.length := ⟨_, rfl⟩
  rw [← hm] at l1 ⊢
  have Hm := Lib.hid hm
  clear hm
  go_wp2_with fail
  go_loopw [5] (fun vi wr => ∃ i : Nat, vi = .int .i64 i ∧ i ≤ m ∧ Hid (Sl wr a1 M) ∧ Hid (Below w.heap.size w wr))
    (fun vi _ => m - (intOf vi).toNat)
  case atStart => exact ⟨0, rfl, Nat.zero_le _, HS, HB⟩
  case round =>
    clear HS HB
    obtain ⟨i, rfl, hi, HS, HB⟩ := hrel
    have hm := Hm.out
    by_cases him : i < m
    · have hil : i < M.length := by omega
      obtain ⟨g, o, rfl, hg, d0, d1, d2, d3⟩ := HS.out i hil
      have ry := HI.out.right _ (List.getElem_mem hil)
      obtain ⟨y, hy⟩ : ∃ y, y = M[i] := ⟨_, rfl⟩
      rw [← hy] at d0 d1 d2 d3 ry
      have C1 : Hid (∀ w : World, Calls Tryz.prog 13 #[.agg #[.bool y.v, .int .u64 y.hi, .int .u64 y.lo, .int .i64 y.b]] w fun e w' => e = .returned (.int .i64 0) ∧ Below w.heap.size w w') := fun w => by
        have := pcheck_any y.v y.hi y.lo y.b w ry.h0 ry.h1 ry.l0 ry.l1
        rw [show pchk y.v y.hi y.lo y.b = 0 from R_chk ry] at this
        exact this
      have HA : Hid (∀ k, k < i → ∃ x : Pf, ((wr.cell? ⟨g, o + k * 4, none⟩ = some (.bool x.v) ∧ wr.cell? ⟨g, o + k * 4 + 1, none⟩ = some (.int .u64 x.hi) ∧ wr.cell? ⟨g, o + k * 4 + 2, none⟩ = some (.int .u64 x.lo) ∧ wr.cell? ⟨g, o + k * 4 + 3, none⟩ = some (.int .i64 x.b)) ∧ (wr.cell? ⟨g, o + i * 4, none⟩ = some (.bool y.v) ∧ wr.cell? ⟨g, o + i * 4 + 1, none⟩ = some (.int .u64 y.hi) ∧ wr.cell? ⟨g, o + i * 4 + 2, none⟩ = some (.int .u64 y.lo) ∧ wr.cell? ⟨g, o + i * 4 + 3, none⟩ = some (.int .i64 y.b))) ∧ x.R ∧ x.has y = false ∧ y.has x = false ∧ x.whole y = false ∧ lessB x.v x.hi x.lo y.v y.hi y.lo = true ∧ lessE x.v x.hi x.lo y.v y.hi y.lo = 0) := by
        intro k hk
        have hkl : k < M.length := by omega
        obtain ⟨g', o', e, hg', b⟩ := HS.out k hkl
        obtain ⟨rfl, rfl⟩ : g = g' ∧ o = o' := by simpa using e
        rw [hy] at d0 d1 d2 d3 ⊢
        exact ⟨M[k], ⟨b, d0, d1, d2, d3⟩, HI.out.right _ (List.getElem_mem hkl), HI.out.apart hil hk⟩
      have HRy := Lib.hid ry
      have hi3 : (i : Int) < (m : Int) := by omega
      have hi4 : (0 : Int) ≤ (i : Int) := by omega
      clear hm ry hy
      go_wp2_with fail
      refine (C1.out _).mono ?_
      rintro e w4 ⟨rfl, hb⟩
      have HB4 := Lib.hid (btr HB.out hb)
      have HS4 := Lib.hid (HS.out.below hb)
      have HW4 := Lib.hid hb
      clear hb d0 d1 d2 d3
      obtain ⟨wo, hwo⟩ : ∃ wo, wo = wr := ⟨_, rfl⟩
      subst hwo
      go_wp2_with fail
      go_loopw [6] (fun vk wr => ∃ k : Nat, vk = .int .i64 k ∧ k ≤ i ∧ Hid (Below wo.heap.size wo wr))
        (fun vk _ => i - (intOf vk).toNat)
      case atStart => exact ⟨0, rfl, Nat.zero_le _, HW4⟩
      case round =>
        obtain ⟨k, rfl, hk, HW⟩ := hrel
        by_cases hki : k < i
        · obtain ⟨x, hcells, rx, f1, f2, f3, f4, f5⟩ := HA.out k hki
          have HQ0 : Hid ((wr.cell? ⟨g, o + k * 4, none⟩ = some (.bool x.v) ∧ wr.cell? ⟨g, o + k * 4 + 1, none⟩ = some (.int .u64 x.hi) ∧ wr.cell? ⟨g, o + k * 4 + 2, none⟩ = some (.int .u64 x.lo) ∧ wr.cell? ⟨g, o + k * 4 + 3, none⟩ = some (.int .i64 x.b)) ∧ (wr.cell? ⟨g, o + i * 4, none⟩ = some (.bool y.v) ∧ wr.cell? ⟨g, o + i * 4 + 1, none⟩ = some (.int .u64 y.hi) ∧ wr.cell? ⟨g, o + i * 4 + 2, none⟩ = some (.int .u64 y.lo) ∧ wr.cell? ⟨g, o + i * 4 + 3, none⟩ = some (.int .i64 y.b)) ∧ g < wr.heap.size ∧ Below w.heap.size w wr) := by
            obtain ⟨⟨x0, x1, x2, x3⟩, ⟨y0, y1, y2, y3⟩⟩ := hcells
            have kk : ∀ oo, wr.cell? ⟨g, oo, none⟩ = wo.cell? ⟨g, oo, none⟩ := fun oo => HW.out.cell (p := ⟨g, oo, none⟩) hg
            exact ⟨⟨by rw [kk]; exact x0, by rw [kk]; exact x1, by rw [kk]; exact x2, by rw [kk]; exact x3⟩, ⟨by rw [kk]; exact y0, by rw [kk]; exact y1, by rw [kk]; exact y2, by rw [kk]; exact y3⟩, Nat.lt_of_lt_of_le hg HW.out.size, btr HB.out HW.out⟩
          have D1 : Hid (∀ w : World, Calls Tryz.prog 14 #[.agg #[.bool x.v, .int .u64 x.hi, .int .u64 x.lo, .int .i64 x.b], .agg #[.bool y.v, .int .u64 y.hi, .int .u64 y.lo, .int .i64 y.b]] w fun e w' => e = .returned (.tuple #[.bool false, .int .i64 0]) ∧ Below w.heap.size w w') := fun w => by
            have := has_ok x.v x.hi x.lo x.b y.v y.hi y.lo y.b w rx.h0 rx.h1 rx.l0 rx.l1 HRy.out.h0 HRy.out.h1 HRy.out.l0 HRy.out.l1 (two_R rx HRy.out)
            rw [show hasB x.v x.hi x.lo x.b y.v y.hi y.lo y.b = false from f1] at this
            exact this
          have D2 : Hid (∀ w : World, Calls Tryz.prog 14 #[.agg #[.bool y.v, .int .u64 y.hi, .int .u64 y.lo, .int .i64 y.b], .agg #[.bool x.v, .int .u64 x.hi, .int .u64 x.lo, .int .i64 x.b]] w fun e w' => e = .returned (.tuple #[.bool false, .int .i64 0]) ∧ Below w.heap.size w w') := fun w => by
            have := has_ok y.v y.hi y.lo y.b x.v x.hi x.lo x.b w HRy.out.h0 HRy.out.h1 HRy.out.l0 HRy.out.l1 rx.h0 rx.h1 rx.l0 rx.l1 (two_R HRy.out rx)
            rw [show hasB y.v y.hi y.lo y.b x.v x.hi x.lo x.b = false from f2] at this
            exact this
          have D3 : Hid (∀ w : World, Calls Tryz.prog 15 #[.agg #[.bool x.v, .int .u64 x.hi, .int .u64 x.lo, .int .i64 x.b], .agg #[.bool y.v, .int .u64 y.hi, .int .u64 y.lo, .int .i64 y.b]] w fun e w' => e = .returned (.tuple #[.agg #[.bool false, .int .u64 0, .int .u64 0, .int .i64 0], .int .i64 4]) ∧ Below w.heap.size w w') := fun w => swhole_f rx HRy.out f3 w
          have D4 : Hid (∀ w : World, Calls Tryz.prog 16 #[.agg #[.bool x.v, .int .u64 x.hi, .int .u64 x.lo], .agg #[.bool y.v, .int .u64 y.hi, .int .u64 y.lo]] w fun e w' => e = .returned (.tuple #[.bool true, .int .i64 0]) ∧ Below w.heap.size w w') := fun w => by
            have := less_any x.v y.v x.hi x.lo y.hi y.lo w rx.h0 rx.l0 HRy.out.h0 HRy.out.l0
            rw [f4, f5] at this
            exact this
          have HWk := Lib.hid HW.out
          have k3 : (k : Int) < (i : Int) := by omega
          have k4 : (0 : Int) ≤ (k : Int) := by omega
          have k5 : (k : Int) < (m : Int) := by omega
          have hgw := Lib.hid hg
          clear hcells rx f1 f2 f3 f4 f5 HW
          go_wp2_with fail
          have HQ1 := Lib.hid (keepD HQ0.out (Below.refl _ _).drew)
          go_region_held3 (fun w' => (w'.cell? ⟨g, o + k * 4, none⟩ = some (.bool x.v) ∧ w'.cell? ⟨g, o + k * 4 + 1, none⟩ = some (.int .u64 x.hi) ∧ w'.cell? ⟨g, o + k * 4 + 2, none⟩ = some (.int .u64 x.lo) ∧ w'.cell? ⟨g, o + k * 4 + 3, none⟩ = some (.int .i64 x.b)) ∧ (w'.cell? ⟨g, o + i * 4, none⟩ = some (.bool y.v) ∧ w'.cell? ⟨g, o + i * 4 + 1, none⟩ = some (.int .u64 y.hi) ∧ w'.cell? ⟨g, o + i * 4 + 2, none⟩ = some (.int .u64 y.lo) ∧ w'.cell? ⟨g, o + i * 4 + 3, none⟩ = some (.int .i64 y.b)) ∧ g < w'.heap.size ∧ Below w.heap.size w w')
            (first | with_reducible exact HQ1.out | with_reducible exact HQ2.out | fail)
            ((go_at_call 14; refine (D1.out _).mono ?_; rintro e wa ⟨rfl, hb⟩; have HQ2 := Lib.hid (keepD HQ1.out hb); have HW2 := Lib.hid (btr HWk.out.drew hb); clear hb))
          clear HQ0 HQ1 HWk
          go_wp2_with fail
          have HQ3 := Lib.hid (keepD HQ2.out (Below.refl _ _).drew)
          go_region_held3 (fun w' => (w'.cell? ⟨g, o + k * 4, none⟩ = some (.bool x.v) ∧ w'.cell? ⟨g, o + k * 4 + 1, none⟩ = some (.int .u64 x.hi) ∧ w'.cell? ⟨g, o + k * 4 + 2, none⟩ = some (.int .u64 x.lo) ∧ w'.cell? ⟨g, o + k * 4 + 3, none⟩ = some (.int .i64 x.b)) ∧ (w'.cell? ⟨g, o + i * 4, none⟩ = some (.bool y.v) ∧ w'.cell? ⟨g, o + i * 4 + 1, none⟩ = some (.int .u64 y.hi) ∧ w'.cell? ⟨g, o + i * 4 + 2, none⟩ = some (.int .u64 y.lo) ∧ w'.cell? ⟨g, o + i * 4 + 3, none⟩ = some (.int .i64 y.b)) ∧ g < w'.heap.size ∧ Below w.heap.size w w')
            (first | with_reducible exact HQ3.out | with_reducible exact HQ4.out | fail)
            ((go_at_call 14; refine (D2.out _).mono ?_; rintro e wb ⟨rfl, hb⟩; have HQ4 := Lib.hid (keepD HQ3.out hb); have HW4' := Lib.hid (btr HW2.out.drew hb); clear hb))
          clear HQ2 HQ3 HW2
          go_wp2_with fail
          have HQ5 := Lib.hid (keepD HQ4.out (Below.refl _ _).drew)
          have HZ : Hid (Own4 (wb.alloc (.cells #[.bool false, .int .u64 0, .int .u64 0, .int .i64 0] 27)).drew wb.heap.size (.bool false) (.int .u64 0) (.int .u64 0) (.int .i64 0)) := Own4.new wb (.bool false) (.int .u64 0) (.int .u64 0) (.int .i64 0) 27
          have HQ6 := Lib.hid (keepD HQ4.out (show Below wb.heap.size wb (wb.alloc (.cells #[.bool false, .int .u64 0, .int .u64 0, .int .i64 0] 27)).drew from (bal (Below.refl _ _) _).drew))
          have hgB : Hid (g < wb.heap.size) := HQ4.out.2.2.1
          have hwB : Hid (w.heap.size ≤ wb.heap.size) := HQ4.out.2.2.2.size
          have hrB : Hid (wo.heap.size ≤ wb.heap.size) := HW4'.out.size
          go_region_held3 (fun w' => (w'.cell? ⟨g, o + k * 4, none⟩ = some (.bool x.v) ∧ w'.cell? ⟨g, o + k * 4 + 1, none⟩ = some (.int .u64 x.hi) ∧ w'.cell? ⟨g, o + k * 4 + 2, none⟩ = some (.int .u64 x.lo) ∧ w'.cell? ⟨g, o + k * 4 + 3, none⟩ = some (.int .i64 x.b)) ∧ (w'.cell? ⟨g, o + i * 4, none⟩ = some (.bool y.v) ∧ w'.cell? ⟨g, o + i * 4 + 1, none⟩ = some (.int .u64 y.hi) ∧ w'.cell? ⟨g, o + i * 4 + 2, none⟩ = some (.int .u64 y.lo) ∧ w'.cell? ⟨g, o + i * 4 + 3, none⟩ = some (.int .i64 y.b)) ∧ g < w'.heap.size ∧ Below w.heap.size w w')
            (first | with_reducible exact HQ5.out | with_reducible exact HQ6.out | with_reducible exact HQ7.out | with_reducible exact HQ8.out | exact keepDu HQ7.out hgB.out hwB.out ((((((Below.refl wb.heap.size wc).setCell (Nat.le_refl _) _).setCell (Nat.le_refl _) _).setCell (Nat.le_refl _) _).setCell (Nat.le_refl _) _)) | fail)
            ((go_at_call 15; refine (D3.out _).mono ?_; rintro e wc ⟨rfl, hb⟩; first | ((with_reducible have HQ7 := Lib.hid (keepD HQ5.out hb)); have HQ8 := Lib.hid (keepD HQ7.out (zal wc)); have HWc := Lib.hid (bal (btr HW4'.out.drew hb) (.cells #[.bool false, .int .u64 0, .int .u64 0, .int .i64 0] 27)); clear hb) | ((with_reducible have HQ7 := Lib.hid (keepD HQ6.out hb)); obtain ⟨⟨q0, q1, q2, q3⟩, ⟨q4, q5, q6, q7⟩, q8⟩ := HZ.out.below hb; have HWd := Lib.hid ((((((show Below wo.heap.size wo wc from btr (bal HW4'.out _).drew hb).setCell (p := ⟨wb.heap.size, 0, none⟩) hrB.out (.bool false)).setCell (p := ⟨wb.heap.size, 1, none⟩) hrB.out (.int .u64 0)).setCell (p := ⟨wb.heap.size, 2, none⟩) hrB.out (.int .u64 0)).setCell (p := ⟨wb.heap.size, 3, none⟩) hrB.out (.int .i64 0))); clear hb)))
          · have HQ9 := Lib.hid HQ8.out
            have HWe := Lib.hid HWc.out
            clear HQ4 HQ5 HQ6 HQ7 HQ8 HZ HW4' hgB hwB hrB HWc
            go_wp2_with fail
            have HQa := Lib.hid (keepD HQ9.out (Below.refl _ _).drew)
            go_region_held3 (fun w' => (w'.cell? ⟨g, o + k * 4, none⟩ = some (.bool x.v) ∧ w'.cell? ⟨g, o + k * 4 + 1, none⟩ = some (.int .u64 x.hi) ∧ w'.cell? ⟨g, o + k * 4 + 2, none⟩ = some (.int .u64 x.lo) ∧ w'.cell? ⟨g, o + k * 4 + 3, none⟩ = some (.int .i64 x.b)) ∧ (w'.cell? ⟨g, o + i * 4, none⟩ = some (.bool y.v) ∧ w'.cell? ⟨g, o + i * 4 + 1, none⟩ = some (.int .u64 y.hi) ∧ w'.cell? ⟨g, o + i * 4 + 2, none⟩ = some (.int .u64 y.lo) ∧ w'.cell? ⟨g, o + i * 4 + 3, none⟩ = some (.int .i64 y.b)) ∧ g < w'.heap.size ∧ Below w.heap.size w w')
              (first | with_reducible exact HQa.out | with_reducible exact HQb.out | fail)
              ((go_at_call 16; refine (D4.out _).mono ?_; rintro e wf ⟨rfl, hb⟩; have HQb := Lib.hid (keepD HQa.out hb); have HWf := Lib.hid (btr HWe.out.drew hb); clear hb))
            go_wp2_with fail
            go_roundw
            case rel => exact ⟨k + 1, by go_num, by omega, HWf⟩
            case measure => simp [intOf]; omega
          · have HQ9 := Lib.hid (keepDu HQ7.out hgB.out hwB.out (((((Below.refl wb.heap.size wc).setCell (p := ⟨wb.heap.size, 0, none⟩) (Nat.le_refl _) (.bool false)).setCell (p := ⟨wb.heap.size, 1, none⟩) (Nat.le_refl _) (.int .u64 0)).setCell (p := ⟨wb.heap.size, 2, none⟩) (Nat.le_refl _) (.int .u64 0)).setCell (p := ⟨wb.heap.size, 3, none⟩) (Nat.le_refl _) (.int .i64 0)))
            have HWe := Lib.hid HWd.out
            clear HQ4 HQ5 HQ6 HQ7 HZ HW4' hgB hwB hrB HWd q0 q1 q2 q3 q4 q5 q6 q7 q8
            go_wp2_with fail
            have HQa := Lib.hid (keepD HQ9.out (Below.refl _ _).drew)
            go_region_held3 (fun w' => (w'.cell? ⟨g, o + k * 4, none⟩ = some (.bool x.v) ∧ w'.cell? ⟨g, o + k * 4 + 1, none⟩ = some (.int .u64 x.hi) ∧ w'.cell? ⟨g, o + k * 4 + 2, none⟩ = some (.int .u64 x.lo) ∧ w'.cell? ⟨g, o + k * 4 + 3, none⟩ = some (.int .i64 x.b)) ∧ (w'.cell? ⟨g, o + i * 4, none⟩ = some (.bool y.v) ∧ w'.cell? ⟨g, o + i * 4 + 1, none⟩ = some (.int .u64 y.hi) ∧ w'.cell? ⟨g, o + i * 4 + 2, none⟩ = some (.int .u64 y.lo) ∧ w'.cell? ⟨g, o + i * 4 + 3, none⟩ = some (.int .i64 y.b)) ∧ g < w'.heap.size ∧ Below w.heap.size w w')
              (first | with_reducible exact HQa.out | with_reducible exact HQb.out | fail)
              ((go_at_call 16; refine (D4.out _).mono ?_; rintro e wf ⟨rfl, hb⟩; have HQb := Lib.hid (keepD HQa.out hb); have HWf := Lib.hid (btr HWe.out.drew hb); clear hb))
            go_wp2_with fail
            go_roundw
            case rel => exact ⟨k + 1, by go_num, by omega, HWf⟩
            case measure => simp [intOf]; omega
        · obtain rfl : k = i := by omega
          have k3 : decide ((k : Int) < (k : Int)) = false := by simp
          have HS5 : Hid (Sl wr (some ⟨g, o, none⟩) M) := HS.out.below HW.out
          have HB5 := Lib.hid (btr HB.out HW.out)
          clear HW HS HB HA
          go_wp2_with fail
          go_roundw
          case rel => exact ⟨k + 1, by go_num, by omega, HS5, HB5⟩
          case measure => simp [intOf]; omega
    · obtain rfl : i = m := by omega
      have k3 : decide ((i : Int) < (i : Int)) = false := by simp
      have k4 : (i : Int) ≤ (N : Int) := by omega
      clear hm HS
      go_wp2_with fail
      go_ret
      exact ⟨rfl, HB.out⟩
end Go.Proofs.YtojdlpiogbjfcaaGreatDoor

namespace Go.Proofs.YtojdlpiogbjfcaaGreatDoor
open Go.RowKit

set_option maxHeartbeats 32000000 in
set_option maxRecDepth 100000 in
theorem ss_bad (a : Option Addr) (c N : Nat) (v : Bool) (xh xl : Int) (p : Pf) (w : World)
    (CB : Hid (∀ w' : World, Calls Tryz.prog 6 #[] w' fun e w'' => e = .returned (.bool true) ∧ Below w'.heap.size w' w''))
    (CQ : Hid (∀ w' : World, Below w.heap.size w w' → Calls Tryz.prog 7 #[] w' fun e w'' => e = .returned (.bool true) ∧ Below w'.heap.size w' w'')) (r : Int) (hI : (r != 0) = true) (hJ : (r == 0) = false)
    (CN : Hid (∀ w' : World, Below w.heap.size w w' → Calls Tryz.prog 8 #[.slice a N c] w' fun e w'' => e = .returned (.tuple #[.slice none 0 0, .int .i64 r]) ∧ Below w'.heap.size w' w''))
    (CM : Hid (∀ w' : World, Below w.heap.size w w' → Calls Tryz.prog 9 #[.slice a N c, .agg #[.bool p.v, .int .u64 p.hi, .int .u64 p.lo, .int .i64 p.b]] w' fun e w'' => e = .returned (.tuple #[.slice none 0 0, .int .i64 r]) ∧ Below w'.heap.size w' w''))
    (CH : Hid (∀ w' : World, Below w.heap.size w w' → Calls Tryz.prog 10 #[.slice a N c, .agg #[.bool v, .int .u64 xh, .int .u64 xl]] w' fun e w'' => e = .returned (.tuple #[.bool false, .int .i64 r]) ∧ Below w'.heap.size w' w'')) :
    Calls Tryz.prog 3 #[.slice a N c, .agg #[.bool p.v, .int .u64 p.hi, .int .u64 p.lo, .int .i64 p.b], .agg #[.bool v, .int .u64 xh, .int .u64 xl]] w fun e w' => e = .returned (.bool true) ∧ Below w.heap.size w w' := by
  have HP : Hid (Has4 ((w.alloc (.cells #[.bool p.v, .int .u64 p.hi, .int .u64 p.lo, .int .i64 p.b] 27)).alloc (.cells #[.bool v, .int .u64 xh, .int .u64 xl] 25)) w.heap.size p.v p.hi p.lo p.b) := (Has4.new w p.v p.hi p.lo p.b 27).alloc _
  have HA : Hid (Has3 ((w.alloc (.cells #[.bool p.v, .int .u64 p.hi, .int .u64 p.lo, .int .i64 p.b] 27)).alloc (.cells #[.bool v, .int .u64 xh, .int .u64 xl] 25)) (w.heap.size + 1) (.bool v) (.int .u64 xh) (.int .u64 xl)) := by
    have := Has3.new (w.alloc (.cells #[.bool p.v, .int .u64 p.hi, .int .u64 p.lo, .int .i64 p.b] 27)) (.bool v) (.int .u64 xh) (.int .u64 xl) 25
    rw [show (w.alloc (.cells #[.bool p.v, .int .u64 p.hi, .int .u64 p.lo, .int .i64 p.b] 27)).heap.size = w.heap.size + 1 by simp] at this
    exact this
  have HB : Hid (Below w.heap.size w ((w.alloc (.cells #[.bool p.v, .int .u64 p.hi, .int .u64 p.lo, .int .i64 p.b] 27)).alloc (.cells #[.bool v, .int .u64 xh, .int .u64 xl] 25))) := bal (bal (Below.refl _ _) _) _
  go_enter Tryz.func3, Tryz.ntmps3
  obtain ⟨a0, a1, a2, a3⟩ := HA.out
  obtain ⟨p0, p1, p2, p3, p4⟩ := HP.out
  go_wp2_with fail
  refine (CB.out _).mono ?_
  rintro e w1 ⟨rfl, hb⟩
  clear a0 a1 a2 a3 p0 p1 p2 p3 p4
  replace HA := Lib.hid (HA.out.below hb)
  replace HP := Lib.hid (HP.out.below hb)
  replace HB := Lib.hid (btr HB.out hb)
  clear hb
  obtain ⟨a0, a1, a2, a3⟩ := HA.out
  obtain ⟨p0, p1, p2, p3, p4⟩ := HP.out
  go_wp2_with fail
  refine (CQ.out _ HB.out).mono ?_
  rintro e w2 ⟨rfl, hb⟩
  clear a0 a1 a2 a3 p0 p1 p2 p3 p4
  replace HA := Lib.hid (HA.out.below hb)
  replace HP := Lib.hid (HP.out.below hb)
  replace HB := Lib.hid (btr HB.out hb)
  clear hb
  obtain ⟨a0, a1, a2, a3⟩ := HA.out
  obtain ⟨p0, p1, p2, p3, p4⟩ := HP.out
  go_wp2_with fail
  refine (CN.out _ HB.out).mono ?_
  rintro e w3 ⟨rfl, hb⟩
  clear a0 a1 a2 a3 p0 p1 p2 p3 p4
  replace HA := Lib.hid (HA.out.below hb)
  replace HP := Lib.hid (HP.out.below hb)
  replace HB := Lib.hid (btr HB.out hb)
  clear hb
  obtain ⟨a0, a1, a2, a3⟩ := HA.out
  obtain ⟨p0, p1, p2, p3, p4⟩ := HP.out
  go_wp2_with fail
  refine (CM.out _ HB.out).mono ?_
  rintro e w4 ⟨rfl, hb⟩
  clear a0 a1 a2 a3 p0 p1 p2 p3 p4
  replace HA := Lib.hid (HA.out.below hb)
  replace HP := Lib.hid (HP.out.below hb)
  replace HB := Lib.hid (btr HB.out hb)
  clear hb
  obtain ⟨a0, a1, a2, a3⟩ := HA.out
  obtain ⟨p0, p1, p2, p3, p4⟩ := HP.out
  go_wp2_with fail
  refine (CH.out _ HB.out).mono ?_
  rintro e w5 ⟨rfl, hb⟩
  clear a0 a1 a2 a3 p0 p1 p2 p3 p4
  replace HA := Lib.hid (HA.out.below hb)
  replace HP := Lib.hid (HP.out.below hb)
  replace HB := Lib.hid (btr HB.out hb)
  clear hb
  go_wp2
  go_ret
  exact ⟨rfl, HB.out⟩

set_option maxHeartbeats 32000000 in
set_option maxRecDepth 100000 in
theorem ss_badp (a : Option Addr) (c N : Nat) (v : Bool) (xh xl : Int) (p : Pf) (w : World)
    (CB : Hid (∀ w' : World, Calls Tryz.prog 6 #[] w' fun e w'' => e = .returned (.bool true) ∧ Below w'.heap.size w' w''))
    (CQ : Hid (∀ w' : World, Below w.heap.size w w' → Calls Tryz.prog 7 #[] w' fun e w'' => e = .returned (.bool true) ∧ Below w'.heap.size w' w'')) (A : Bool → Int → Prop) (r b : Int) (x : Bool) (hI : (r != 0) = true) (hJ : (r == 0) = false)
    (CN : Hid (∀ w' : World, Below w.heap.size w w' → Calls Tryz.prog 8 #[.slice a N c] w' (NormPost2 w' N A)))
    (CM : Hid (∀ w' : World, Below w.heap.size w w' → Calls Tryz.prog 9 #[.slice a N c, .agg #[.bool p.v, .int .u64 p.hi, .int .u64 p.lo, .int .i64 p.b]] w' fun e w'' => e = .returned (.tuple #[.slice none 0 0, .int .i64 r]) ∧ Below w'.heap.size w' w''))
    (CH : Hid (∀ w' : World, Below w.heap.size w w' → Calls Tryz.prog 10 #[.slice a N c, .agg #[.bool v, .int .u64 xh, .int .u64 xl]] w' fun e w'' => e = .returned (.tuple #[.bool x, .int .i64 b]) ∧ Below w'.heap.size w' w'')) :
    Calls Tryz.prog 3 #[.slice a N c, .agg #[.bool p.v, .int .u64 p.hi, .int .u64 p.lo, .int .i64 p.b], .agg #[.bool v, .int .u64 xh, .int .u64 xl]] w fun e w' => e = .returned (.bool true) ∧ Below w.heap.size w w' := by
  have HP : Hid (Has4 ((w.alloc (.cells #[.bool p.v, .int .u64 p.hi, .int .u64 p.lo, .int .i64 p.b] 27)).alloc (.cells #[.bool v, .int .u64 xh, .int .u64 xl] 25)) w.heap.size p.v p.hi p.lo p.b) := (Has4.new w p.v p.hi p.lo p.b 27).alloc _
  have HA : Hid (Has3 ((w.alloc (.cells #[.bool p.v, .int .u64 p.hi, .int .u64 p.lo, .int .i64 p.b] 27)).alloc (.cells #[.bool v, .int .u64 xh, .int .u64 xl] 25)) (w.heap.size + 1) (.bool v) (.int .u64 xh) (.int .u64 xl)) := by
    have := Has3.new (w.alloc (.cells #[.bool p.v, .int .u64 p.hi, .int .u64 p.lo, .int .i64 p.b] 27)) (.bool v) (.int .u64 xh) (.int .u64 xl) 25
    rw [show (w.alloc (.cells #[.bool p.v, .int .u64 p.hi, .int .u64 p.lo, .int .i64 p.b] 27)).heap.size = w.heap.size + 1 by simp] at this
    exact this
  have HB : Hid (Below w.heap.size w ((w.alloc (.cells #[.bool p.v, .int .u64 p.hi, .int .u64 p.lo, .int .i64 p.b] 27)).alloc (.cells #[.bool v, .int .u64 xh, .int .u64 xl] 25))) := bal (bal (Below.refl _ _) _) _
  go_enter Tryz.func3, Tryz.ntmps3
  obtain ⟨a0, a1, a2, a3⟩ := HA.out
  obtain ⟨p0, p1, p2, p3, p4⟩ := HP.out
  go_wp2_with fail
  refine (CB.out _).mono ?_
  rintro e w1 ⟨rfl, hb⟩
  clear a0 a1 a2 a3 p0 p1 p2 p3 p4
  replace HA := Lib.hid (HA.out.below hb)
  replace HP := Lib.hid (HP.out.below hb)
  replace HB := Lib.hid (btr HB.out hb)
  clear hb
  obtain ⟨a0, a1, a2, a3⟩ := HA.out
  obtain ⟨p0, p1, p2, p3, p4⟩ := HP.out
  go_wp2_with fail
  refine (CQ.out _ HB.out).mono ?_
  rintro e w2 ⟨rfl, hb⟩
  clear a0 a1 a2 a3 p0 p1 p2 p3 p4
  replace HA := Lib.hid (HA.out.below hb)
  replace HP := Lib.hid (HP.out.below hb)
  replace HB := Lib.hid (btr HB.out hb)
  clear hb
  obtain ⟨a0, a1, a2, a3⟩ := HA.out
  obtain ⟨p0, p1, p2, p3, p4⟩ := HP.out
  go_wp2_with fail
  refine (CN.out _ HB.out).mono ?_
  rintro e w3 ⟨v1, M1, rfl, o1, i1, l1, hb⟩
  clear a0 a1 a2 a3 p0 p1 p2 p3 p4
  replace HA := Lib.hid (HA.out.below hb)
  replace HP := Lib.hid (HP.out.below hb)
  replace HB := Lib.hid (btr HB.out hb)
  obtain ⟨r1, c1, rfl, _, s1⟩ := own_sl o1
  have L1 := Lib.hid s1
  have I1 := Lib.hid i1
  clear o1 i1 s1
  clear hb
  obtain ⟨a0, a1, a2, a3⟩ := HA.out
  obtain ⟨p0, p1, p2, p3, p4⟩ := HP.out
  go_wp2_with fail
  refine (CM.out _ HB.out).mono ?_
  rintro e w4 ⟨rfl, hb⟩
  clear a0 a1 a2 a3 p0 p1 p2 p3 p4
  replace HA := Lib.hid (HA.out.below hb)
  replace HP := Lib.hid (HP.out.below hb)
  replace HB := Lib.hid (btr HB.out hb)
  replace L1 := Lib.hid (L1.out.below hb)
  clear hb
  obtain ⟨a0, a1, a2, a3⟩ := HA.out
  obtain ⟨p0, p1, p2, p3, p4⟩ := HP.out
  go_wp2_with fail
  refine (CH.out _ HB.out).mono ?_
  rintro e w5 ⟨rfl, hb⟩
  clear a0 a1 a2 a3 p0 p1 p2 p3 p4
  replace HA := Lib.hid (HA.out.below hb)
  replace HP := Lib.hid (HP.out.below hb)
  replace HB := Lib.hid (btr HB.out hb)
  replace L1 := Lib.hid (L1.out.below hb)
  clear hb
  go_wp2
  go_ret
  exact ⟨rfl, HB.out⟩

set_option maxHeartbeats 32000000 in
set_option maxRecDepth 100000 in
theorem ss_bada (a : Option Addr) (c N : Nat) (v : Bool) (xh xl : Int) (p : Pf) (w : World)
    (CB : Hid (∀ w' : World, Calls Tryz.prog 6 #[] w' fun e w'' => e = .returned (.bool true) ∧ Below w'.heap.size w' w''))
    (CQ : Hid (∀ w' : World, Below w.heap.size w w' → Calls Tryz.prog 7 #[] w' fun e w'' => e = .returned (.bool true) ∧ Below w'.heap.size w' w'')) (A A2 : Bool → Int → Prop) (r : Int) (x : Bool) (hI : (r != 0) = true) (hJ : (r == 0) = false)
    (CN : Hid (∀ w' : World, Below w.heap.size w w' → Calls Tryz.prog 8 #[.slice a N c] w' (NormPost2 w' N A)))
    (CM : Hid (∀ w' : World, Below w.heap.size w w' → Calls Tryz.prog 9 #[.slice a N c, .agg #[.bool p.v, .int .u64 p.hi, .int .u64 p.lo, .int .i64 p.b]] w' (NormPost2 w' 1548 A2)))
    (CH : Hid (∀ w' : World, Below w.heap.size w w' → Calls Tryz.prog 10 #[.slice a N c, .agg #[.bool v, .int .u64 xh, .int .u64 xl]] w' fun e w'' => e = .returned (.tuple #[.bool x, .int .i64 r]) ∧ Below w'.heap.size w' w'')) :
    Calls Tryz.prog 3 #[.slice a N c, .agg #[.bool p.v, .int .u64 p.hi, .int .u64 p.lo, .int .i64 p.b], .agg #[.bool v, .int .u64 xh, .int .u64 xl]] w fun e w' => e = .returned (.bool true) ∧ Below w.heap.size w w' := by
  have HP : Hid (Has4 ((w.alloc (.cells #[.bool p.v, .int .u64 p.hi, .int .u64 p.lo, .int .i64 p.b] 27)).alloc (.cells #[.bool v, .int .u64 xh, .int .u64 xl] 25)) w.heap.size p.v p.hi p.lo p.b) := (Has4.new w p.v p.hi p.lo p.b 27).alloc _
  have HA : Hid (Has3 ((w.alloc (.cells #[.bool p.v, .int .u64 p.hi, .int .u64 p.lo, .int .i64 p.b] 27)).alloc (.cells #[.bool v, .int .u64 xh, .int .u64 xl] 25)) (w.heap.size + 1) (.bool v) (.int .u64 xh) (.int .u64 xl)) := by
    have := Has3.new (w.alloc (.cells #[.bool p.v, .int .u64 p.hi, .int .u64 p.lo, .int .i64 p.b] 27)) (.bool v) (.int .u64 xh) (.int .u64 xl) 25
    rw [show (w.alloc (.cells #[.bool p.v, .int .u64 p.hi, .int .u64 p.lo, .int .i64 p.b] 27)).heap.size = w.heap.size + 1 by simp] at this
    exact this
  have HB : Hid (Below w.heap.size w ((w.alloc (.cells #[.bool p.v, .int .u64 p.hi, .int .u64 p.lo, .int .i64 p.b] 27)).alloc (.cells #[.bool v, .int .u64 xh, .int .u64 xl] 25))) := bal (bal (Below.refl _ _) _) _
  go_enter Tryz.func3, Tryz.ntmps3
  obtain ⟨a0, a1, a2, a3⟩ := HA.out
  obtain ⟨p0, p1, p2, p3, p4⟩ := HP.out
  go_wp2_with fail
  refine (CB.out _).mono ?_
  rintro e w1 ⟨rfl, hb⟩
  clear a0 a1 a2 a3 p0 p1 p2 p3 p4
  replace HA := Lib.hid (HA.out.below hb)
  replace HP := Lib.hid (HP.out.below hb)
  replace HB := Lib.hid (btr HB.out hb)
  clear hb
  obtain ⟨a0, a1, a2, a3⟩ := HA.out
  obtain ⟨p0, p1, p2, p3, p4⟩ := HP.out
  go_wp2_with fail
  refine (CQ.out _ HB.out).mono ?_
  rintro e w2 ⟨rfl, hb⟩
  clear a0 a1 a2 a3 p0 p1 p2 p3 p4
  replace HA := Lib.hid (HA.out.below hb)
  replace HP := Lib.hid (HP.out.below hb)
  replace HB := Lib.hid (btr HB.out hb)
  clear hb
  obtain ⟨a0, a1, a2, a3⟩ := HA.out
  obtain ⟨p0, p1, p2, p3, p4⟩ := HP.out
  go_wp2_with fail
  refine (CN.out _ HB.out).mono ?_
  rintro e w3 ⟨v1, M1, rfl, o1, i1, l1, hb⟩
  clear a0 a1 a2 a3 p0 p1 p2 p3 p4
  replace HA := Lib.hid (HA.out.below hb)
  replace HP := Lib.hid (HP.out.below hb)
  replace HB := Lib.hid (btr HB.out hb)
  obtain ⟨r1, c1, rfl, _, s1⟩ := own_sl o1
  have L1 := Lib.hid s1
  have I1 := Lib.hid i1
  clear o1 i1 s1
  clear hb
  obtain ⟨a0, a1, a2, a3⟩ := HA.out
  obtain ⟨p0, p1, p2, p3, p4⟩ := HP.out
  go_wp2_with fail
  refine (CM.out _ HB.out).mono ?_
  rintro e w4 ⟨v2, M2, rfl, o2, i2, l2, hb⟩
  clear a0 a1 a2 a3 p0 p1 p2 p3 p4
  replace HA := Lib.hid (HA.out.below hb)
  replace HP := Lib.hid (HP.out.below hb)
  replace HB := Lib.hid (btr HB.out hb)
  replace L1 := Lib.hid (L1.out.below hb)
  obtain ⟨r2, c2, rfl, _, s2⟩ := own_sl o2
  have L2 := Lib.hid s2
  have I2 := Lib.hid i2
  clear o2 i2 s2
  clear hb
  obtain ⟨a0, a1, a2, a3⟩ := HA.out
  obtain ⟨p0, p1, p2, p3, p4⟩ := HP.out
  go_wp2_with fail
  refine (CH.out _ HB.out).mono ?_
  rintro e w5 ⟨rfl, hb⟩
  clear a0 a1 a2 a3 p0 p1 p2 p3 p4
  replace HA := Lib.hid (HA.out.below hb)
  replace HP := Lib.hid (HP.out.below hb)
  replace HB := Lib.hid (btr HB.out hb)
  replace L1 := Lib.hid (L1.out.below hb)
  replace L2 := Lib.hid (L2.out.below hb)
  clear hb
  go_wp2
  go_ret
  exact ⟨rfl, HB.out⟩

set_option maxHeartbeats 32000000 in
set_option maxRecDepth 100000 in
theorem ss_ok (a : Option Addr) (c N : Nat) (v : Bool) (xh xl : Int) (p : Pf) (w : World)
    (CB : Hid (∀ w' : World, Calls Tryz.prog 6 #[] w' fun e w'' => e = .returned (.bool true) ∧ Below w'.heap.size w' w''))
    (CQ : Hid (∀ w' : World, Below w.heap.size w w' → Calls Tryz.prog 7 #[] w' fun e w'' => e = .returned (.bool true) ∧ Below w'.heap.size w' w'')) (ps : List Pf) (h12 : N ≤ 12) (HN : Hid (N = ps.length)) (Hs : Hid (Sl w a ps)) (A A2 : Bool → Int → Prop) (b0 y0 : Bool) (HAd : Hid (∀ v x, Adr (ps.reverse.map Pf.nd) v x ↔ A v x))
    (HasM1 : Hid (∀ (M : List Pf) (r : Option Addr) (d : Nat) (w' : World), IsNorm M A → M.length ≤ 12 → Sl w' r M → Calls Tryz.prog 10 #[.slice r M.length d, .agg #[.bool v, .int .u64 xh, .int .u64 xl]] w' fun e w'' => e = .returned (.tuple #[.bool b0, .int .i64 0]) ∧ Below w'.heap.size w' w''))
    (HasM2 : Hid (∀ (M : List Pf) (r : Option Addr) (d : Nat) (w' : World), IsNorm M A2 → M.length ≤ 12 → Sl w' r M → Calls Tryz.prog 10 #[.slice r M.length d, .agg #[.bool v, .int .u64 xh, .int .u64 xl]] w' fun e w'' => e = .returned (.tuple #[.bool (b0 && !y0), .int .i64 0]) ∧ Below w'.heap.size w' w''))
    (CA : Hid (∀ w' : World, Calls Tryz.prog 11 #[.agg #[.bool p.v, .int .u64 p.hi, .int .u64 p.lo, .int .i64 p.b], .agg #[.bool v, .int .u64 xh, .int .u64 xl]] w' fun e w'' => e = .returned (.bool y0) ∧ Below w'.heap.size w' w''))
    (CT : Hid (∀ (r : Option Addr) (d : Nat) (w' : World), Sl w' r ps.reverse → Calls Tryz.prog 8 #[.slice r N d] w' (NormPost2 w' N (Adr (ps.reverse.map Pf.nd)))))
    (CN : Hid (∀ w' : World, Below w.heap.size w w' → Calls Tryz.prog 8 #[.slice a N c] w' (NormPost2 w' N A)))
    (CM : Hid (∀ w' : World, Below w.heap.size w w' → Calls Tryz.prog 9 #[.slice a N c, .agg #[.bool p.v, .int .u64 p.hi, .int .u64 p.lo, .int .i64 p.b]] w' (NormPost2 w' 1548 A2)))
    (CH : Hid (∀ w' : World, Below w.heap.size w w' → Calls Tryz.prog 10 #[.slice a N c, .agg #[.bool v, .int .u64 xh, .int .u64 xl]] w' fun e w'' => e = .returned (.tuple #[.bool b0, .int .i64 0]) ∧ Below w'.heap.size w' w'')) :
    Calls Tryz.prog 3 #[.slice a N c, .agg #[.bool p.v, .int .u64 p.hi, .int .u64 p.lo, .int .i64 p.b], .agg #[.bool v, .int .u64 xh, .int .u64 xl]] w fun e w' => e = .returned (.bool true) ∧ Below w.heap.size w w' := by
  obtain ⟨i0, hi0, hz0, hz1, hz2⟩ := info_parts infoP
  have hN12 := Lib.hid h12
  have HP : Hid (Has4 ((w.alloc (.cells #[.bool p.v, .int .u64 p.hi, .int .u64 p.lo, .int .i64 p.b] 27)).alloc (.cells #[.bool v, .int .u64 xh, .int .u64 xl] 25)) w.heap.size p.v p.hi p.lo p.b) := (Has4.new w p.v p.hi p.lo p.b 27).alloc _
  have HA : Hid (Has3 ((w.alloc (.cells #[.bool p.v, .int .u64 p.hi, .int .u64 p.lo, .int .i64 p.b] 27)).alloc (.cells #[.bool v, .int .u64 xh, .int .u64 xl] 25)) (w.heap.size + 1) (.bool v) (.int .u64 xh) (.int .u64 xl)) := by
    have := Has3.new (w.alloc (.cells #[.bool p.v, .int .u64 p.hi, .int .u64 p.lo, .int .i64 p.b] 27)) (.bool v) (.int .u64 xh) (.int .u64 xl) 25
    rw [show (w.alloc (.cells #[.bool p.v, .int .u64 p.hi, .int .u64 p.lo, .int .i64 p.b] 27)).heap.size = w.heap.size + 1 by simp] at this
    exact this
  have HB : Hid (Below w.heap.size w ((w.alloc (.cells #[.bool p.v, .int .u64 p.hi, .int .u64 p.lo, .int .i64 p.b] 27)).alloc (.cells #[.bool v, .int .u64 xh, .int .u64 xl] 25))) := bal (bal (Below.refl _ _) _) _
  go_enter Tryz.func3, Tryz.ntmps3
  obtain ⟨a0, a1, a2, a3⟩ := HA.out
  obtain ⟨p0, p1, p2, p3, p4⟩ := HP.out
  go_wp2_with fail
  refine (CB.out _).mono ?_
  rintro e w1 ⟨rfl, hb⟩
  clear a0 a1 a2 a3 p0 p1 p2 p3 p4
  replace HA := Lib.hid (HA.out.below hb)
  replace HP := Lib.hid (HP.out.below hb)
  replace HB := Lib.hid (btr HB.out hb)
  clear hb
  obtain ⟨a0, a1, a2, a3⟩ := HA.out
  obtain ⟨p0, p1, p2, p3, p4⟩ := HP.out
  go_wp2_with fail
  refine (CQ.out _ HB.out).mono ?_
  rintro e w2 ⟨rfl, hb⟩
  clear a0 a1 a2 a3 p0 p1 p2 p3 p4
  replace HA := Lib.hid (HA.out.below hb)
  replace HP := Lib.hid (HP.out.below hb)
  replace HB := Lib.hid (btr HB.out hb)
  clear hb
  obtain ⟨a0, a1, a2, a3⟩ := HA.out
  obtain ⟨p0, p1, p2, p3, p4⟩ := HP.out
  go_wp2_with fail
  refine (CN.out _ HB.out).mono ?_
  rintro e w3 ⟨v1, M1, rfl, o1, i1, l1, hb⟩
  clear a0 a1 a2 a3 p0 p1 p2 p3 p4
  replace HA := Lib.hid (HA.out.below hb)
  replace HP := Lib.hid (HP.out.below hb)
  replace HB := Lib.hid (btr HB.out hb)
  obtain ⟨r1, c1, rfl, _, s1⟩ := own_sl o1
  have L1 := Lib.hid s1
  have I1 := Lib.hid i1
  clear o1 i1 s1
  clear hb
  obtain ⟨a0, a1, a2, a3⟩ := HA.out
  obtain ⟨p0, p1, p2, p3, p4⟩ := HP.out
  go_wp2_with fail
  refine (CM.out _ HB.out).mono ?_
  rintro e w4 ⟨v2, M2, rfl, o2, i2, l2, hb⟩
  clear a0 a1 a2 a3 p0 p1 p2 p3 p4
  replace HA := Lib.hid (HA.out.below hb)
  replace HP := Lib.hid (HP.out.below hb)
  replace HB := Lib.hid (btr HB.out hb)
  replace L1 := Lib.hid (L1.out.below hb)
  obtain ⟨r2, c2, rfl, _, s2⟩ := own_sl o2
  have L2 := Lib.hid s2
  have I2 := Lib.hid i2
  clear o2 i2 s2
  clear hb
  obtain ⟨a0, a1, a2, a3⟩ := HA.out
  obtain ⟨p0, p1, p2, p3, p4⟩ := HP.out
  go_wp2_with fail
  refine (CH.out _ HB.out).mono ?_
  rintro e w5 ⟨rfl, hb⟩
  clear a0 a1 a2 a3 p0 p1 p2 p3 p4
  replace HA := Lib.hid (HA.out.below hb)
  replace HP := Lib.hid (HP.out.below hb)
  replace HB := Lib.hid (btr HB.out hb)
  replace L1 := Lib.hid (L1.out.below hb)
  replace L2 := Lib.hid (L2.out.below hb)
  clear hb
  have hl1 : M1.length ≤ 12 := Nat.le_trans l1 h12
  have d1 : decide ((12 : Int) < (M1.length : Int)) = false := decide_eq_false (by omega)
  by_cases hm : 12 < M2.length
  · have d2 : (12 : Int) < (M2.length : Int) := by omega
    have d3 : (M1.length : Int) ≤ (N : Int) := by omega
    go_wp2
    go_ret
    exact ⟨rfl, HB.out⟩
  · have d2 : decide ((12 : Int) < (M2.length : Int)) = false := decide_eq_false (by omega)
    have hl2 : M2.length ≤ 12 := by omega
    have C3 := Lib.hid (fun w' (h : Sl w' r1 M1) => HasM1.out M1 r1 c1 w' I1.out hl1 h)
    have C4 := Lib.hid (fun w' (h : Sl w' r2 M2) => HasM2.out M2 r2 c2 w' I2.out hl2 h)
    have C5 := Lib.hid (fun w' (h : Sl w' r1 M1) => sNorm_ok r1 c1 M1 w' (fun p hp => R_ok (I1.out.right p hp)) h (slk_of_R I1.out.right hl1))
    have C6 := Lib.hid (fun (b : Option Addr) (d : Nat) w' (h1 : Sl w' b M1) (h2 : Sl w' r1 M1) => same_any b r1 d c1 M1 w' (by omega) h1 h2)
    obtain ⟨a0, a1, a2, a3⟩ := HA.out
    obtain ⟨p0, p1, p2, p3, p4⟩ := HP.out
    go_wp2_with fail
    refine (C3.out _ L1.out).mono ?_
    rintro e w6 ⟨rfl, hb⟩
    clear a0 a1 a2 a3 p0 p1 p2 p3 p4
    replace HA := Lib.hid (HA.out.below hb)
    replace HP := Lib.hid (HP.out.below hb)
    replace HB := Lib.hid (btr HB.out hb)
    replace L1 := Lib.hid (L1.out.below hb)
    replace L2 := Lib.hid (L2.out.below hb)
    clear hb
    obtain ⟨a0, a1, a2, a3⟩ := HA.out
    obtain ⟨p0, p1, p2, p3, p4⟩ := HP.out
    go_wp2_with fail
    refine (C4.out _ L2.out).mono ?_
    rintro e w7 ⟨rfl, hb⟩
    clear a0 a1 a2 a3 p0 p1 p2 p3 p4
    replace HA := Lib.hid (HA.out.below hb)
    replace HP := Lib.hid (HP.out.below hb)
    replace HB := Lib.hid (btr HB.out hb)
    replace L1 := Lib.hid (L1.out.below hb)
    replace L2 := Lib.hid (L2.out.below hb)
    clear hb
    obtain ⟨a0, a1, a2, a3⟩ := HA.out
    obtain ⟨p0, p1, p2, p3, p4⟩ := HP.out
    go_wp2_with fail
    refine (C5.out _ L1.out).mono ?_
    rintro e w8 ⟨v3, M3, rfl, o3, i3, l3, hb⟩
    clear a0 a1 a2 a3 p0 p1 p2 p3 p4
    replace HA := Lib.hid (HA.out.below hb)
    replace HP := Lib.hid (HP.out.below hb)
    replace HB := Lib.hid (btr HB.out hb)
    replace L1 := Lib.hid (L1.out.below hb)
    replace L2 := Lib.hid (L2.out.below hb)
    obtain ⟨r3, c3, rfl, _, s3⟩ := own_sl o3
    have L3 := Lib.hid s3
    have I3 := Lib.hid i3
    clear o3 i3 s3
    have e3 := I3.out.uniq I1.out.self
    subst e3
    clear hb
    clear L2 I2 C3 C4 C5 HasM1 HasM2
    cases b0
    · -- was not there
      obtain ⟨a0, a1, a2, a3⟩ := HA.out
      obtain ⟨p0, p1, p2, p3, p4⟩ := HP.out
      go_wp2_with fail
      refine (C6.out _ _ _ L3.out L1.out).mono ?_
      rintro e w21 ⟨rfl, hb⟩
      clear a0 a1 a2 a3 p0 p1 p2 p3 p4
      replace HA := Lib.hid (HA.out.below hb)
      replace HP := Lib.hid (HP.out.below hb)
      replace HB := Lib.hid (btr HB.out hb)
      replace L1 := Lib.hid (L1.out.below hb)
      replace L3 := Lib.hid (L3.out.below hb)
      clear hb
      clear L3 HA HP
      go_wp2_with fail
      go_loopw [16, 17] (fun vt vi wr => ∃ K : Nat, vi = .int .i64 ((K : Int) - 1) ∧ K ≤ N ∧ Hid (wr.ownsRow w21.heap.size 27 4 vt (ps.drop K).reverse.length (flat (ps.drop K).reverse)) ∧ Hid (Below w21.heap.size w21 wr))
        (fun _ vi _ => (intOf vi + 1).toNat)
      case atStart =>
        refine ⟨N, rfl, Nat.le_refl _, ?_, Below.refl _ _⟩
        rw [HN.out, List.drop_length]; exact row_nil _ _ _ _
      case round =>
        obtain ⟨K, rfl, hK, HO, HW⟩ := hrel
        by_cases hK0 : K = 0
        · subst hK0
          have HO2 : Hid (wr.ownsRow w21.heap.size 27 4 u16 ps.reverse.length (flat ps.reverse)) := by
            have := HO.out
            rw [List.drop_zero] at this
            exact this
          obtain ⟨a5, c5, e5, _, s5⟩ := own_sl HO2.out
          rw [List.length_reverse, ← HN.out] at e5
          subst e5
          have HNr := Lib.hid (CT.out a5 c5 wr s5)
          have HBr := Lib.hid (btr HB.out HW.out)
          have LR := Lib.hid (L1.out.below HW.out)
          clear HO HO2 s5 HW L1 HB
          go_wp2_with fail
          refine HNr.out.mono ?_
          rintro e w30 ⟨v6, M6, rfl, o6, i6, l6, hb⟩
          have e6 := i6.uniq (I1.out.of fun v x => (HAd.out v x).symm)
          subst e6
          obtain ⟨r6, c6, rfl, _, s6⟩ := own_sl o6
          have L6 := Lib.hid s6
          replace HBr := Lib.hid (btr HBr.out hb)
          replace LR := Lib.hid (LR.out.below hb)
          clear o6 i6 s6 hb
          go_wp2_with fail
          refine (C6.out _ _ _ L6.out LR.out).mono ?_
          rintro e w31 ⟨rfl, hb⟩
          replace HBr := Lib.hid (btr HBr.out hb)
          clear hb
          go_wp2
          go_ret
          exact ⟨rfl, HBr.out⟩
        · obtain ⟨k, rfl⟩ : ∃ k, K = k + 1 := ⟨K - 1, by omega⟩
          have hkl : k < ps.length := by have := HN.out; omega
          obtain ⟨g, o, rfl, hg, d0, d1, d2, d3⟩ := Hs.out k hkl
          have hg2 : g < w21.heap.size := Nat.lt_of_lt_of_le hg HB.out.size
          rw [← (show w21.cell? _ = w.cell? _ from HB.out.cell (p := ⟨g, _, none⟩) hg), ← (show wr.cell? _ = w21.cell? _ from HW.out.cell (p := ⟨g, _, none⟩) hg2)] at d0 d1 d2 d3
          have hst : (ps.drop k).reverse = (ps.drop (k + 1)).reverse ++ [ps[k]] := by rw [List.drop_eq_getElem_cons hkl, List.reverse_cons]
          have HST := Lib.hid hst
          have hln : (ps.drop (k + 1)).reverse.length + [ps[k]].length ≤ 100000 := by have := HN.out; simp; omega
          have HLN := Lib.hid hln
          have hsub : ((k + 1 : Nat) : Int) - 1 = (k : Int) := by omega
          rw [hsub]
          have k3 : (k : Int) < (N : Int) := by omega
          have k4 : (0 : Int) ≤ (k : Int) := by omega
          generalize ps[k] = x at *
          clear hst hln hg2 hsub
          go_wp2_with (at_builtin; refine wpList_append_pfs rfl _ _ 22 rfl w21.heap.size i0 _ Tryz.underlying22 hi0 hz0 hz1 hz2 rfl _ _ rfl (own_keep HO.out (bal (Below.refl _ _) _)) _ _ [x] rfl (row_one wr x) HLN.out (Nat.le_trans HW.out.size (by simp)) ?_)
          intro v7 w7 hown7 hgrow7
          have HW7 : Hid (Below w21.heap.size w21 w7) := (HW.out.trans (below_le (bal (Below.refl _ _) _) HW.out.size)).grown hgrow7 (Nat.le_trans HW.out.size (by simp)) (fun k hk => (HO.out.lt k hk).1)
          have HO7 : Hid (w7.ownsRow w21.heap.size 27 4 v7 (ps.drop k).reverse.length (flat (ps.drop k).reverse)) := by rw [HST.out, show ((ps.drop (k + 1)).reverse ++ [x]).length = ps.length - (k + 1) + 1 by simp]; exact hown7
          clear hown7 hgrow7
          go_wp2_with fail
          go_roundw
          case rel => exact ⟨k, by go_num, by omega, HO7, HW7⟩
          case measure => simp [intOf]
    · cases y0
      · -- was there, and is
        obtain ⟨a0, a1, a2, a3⟩ := HA.out
        obtain ⟨p0, p1, p2, p3, p4⟩ := HP.out
        go_wp2_with fail
        refine (CA.out _).mono ?_
        rintro e w21 ⟨rfl, hb⟩
        clear a0 a1 a2 a3 p0 p1 p2 p3 p4
        replace HA := Lib.hid (HA.out.below hb)
        replace HP := Lib.hid (HP.out.below hb)
        replace HB := Lib.hid (btr HB.out hb)
        replace L1 := Lib.hid (L1.out.below hb)
        replace L3 := Lib.hid (L3.out.below hb)
        clear hb
        obtain ⟨a0, a1, a2, a3⟩ := HA.out
        obtain ⟨p0, p1, p2, p3, p4⟩ := HP.out
        go_wp2_with fail
        refine (C6.out _ _ _ L3.out L1.out).mono ?_
        rintro e w22 ⟨rfl, hb⟩
        clear a0 a1 a2 a3 p0 p1 p2 p3 p4
        replace HA := Lib.hid (HA.out.below hb)
        replace HP := Lib.hid (HP.out.below hb)
        replace HB := Lib.hid (btr HB.out hb)
        replace L1 := Lib.hid (L1.out.below hb)
        replace L3 := Lib.hid (L3.out.below hb)
        clear hb
        clear L3 HA HP
        go_wp2_with fail
        go_loopw [16, 17] (fun vt vi wr => ∃ K : Nat, vi = .int .i64 ((K : Int) - 1) ∧ K ≤ N ∧ Hid (wr.ownsRow w22.heap.size 27 4 vt (ps.drop K).reverse.length (flat (ps.drop K).reverse)) ∧ Hid (Below w22.heap.size w22 wr))
          (fun _ vi _ => (intOf vi + 1).toNat)
        case atStart =>
          refine ⟨N, rfl, Nat.le_refl _, ?_, Below.refl _ _⟩
          rw [HN.out, List.drop_length]; exact row_nil _ _ _ _
        case round =>
          obtain ⟨K, rfl, hK, HO, HW⟩ := hrel
          by_cases hK0 : K = 0
          · subst hK0
            have HO2 : Hid (wr.ownsRow w22.heap.size 27 4 u16 ps.reverse.length (flat ps.reverse)) := by
              have := HO.out
              rw [List.drop_zero] at this
              exact this
            obtain ⟨a5, c5, e5, _, s5⟩ := own_sl HO2.out
            rw [List.length_reverse, ← HN.out] at e5
            subst e5
            have HNr := Lib.hid (CT.out a5 c5 wr s5)
            have HBr := Lib.hid (btr HB.out HW.out)
            have LR := Lib.hid (L1.out.below HW.out)
            clear HO HO2 s5 HW L1 HB
            go_wp2_with fail
            refine HNr.out.mono ?_
            rintro e w30 ⟨v6, M6, rfl, o6, i6, l6, hb⟩
            have e6 := i6.uniq (I1.out.of fun v x => (HAd.out v x).symm)
            subst e6
            obtain ⟨r6, c6, rfl, _, s6⟩ := own_sl o6
            have L6 := Lib.hid s6
            replace HBr := Lib.hid (btr HBr.out hb)
            replace LR := Lib.hid (LR.out.below hb)
            clear o6 i6 s6 hb
            go_wp2_with fail
            refine (C6.out _ _ _ L6.out LR.out).mono ?_
            rintro e w31 ⟨rfl, hb⟩
            replace HBr := Lib.hid (btr HBr.out hb)
            clear hb
            go_wp2
            go_ret
            exact ⟨rfl, HBr.out⟩
          · obtain ⟨k, rfl⟩ : ∃ k, K = k + 1 := ⟨K - 1, by omega⟩
            have hkl : k < ps.length := by have := HN.out; omega
            obtain ⟨g, o, rfl, hg, d0, d1, d2, d3⟩ := Hs.out k hkl
            have hg2 : g < w22.heap.size := Nat.lt_of_lt_of_le hg HB.out.size
            rw [← (show w22.cell? _ = w.cell? _ from HB.out.cell (p := ⟨g, _, none⟩) hg), ← (show wr.cell? _ = w22.cell? _ from HW.out.cell (p := ⟨g, _, none⟩) hg2)] at d0 d1 d2 d3
            have hst : (ps.drop k).reverse = (ps.drop (k + 1)).reverse ++ [ps[k]] := by rw [List.drop_eq_getElem_cons hkl, List.reverse_cons]
            have HST := Lib.hid hst
            have hln : (ps.drop (k + 1)).reverse.length + [ps[k]].length ≤ 100000 := by have := HN.out; simp; omega
            have HLN := Lib.hid hln
            have hsub : ((k + 1 : Nat) : Int) - 1 = (k : Int) := by omega
            rw [hsub]
            have k3 : (k : Int) < (N : Int) := by omega
            have k4 : (0 : Int) ≤ (k : Int) := by omega
            generalize ps[k] = x at *
            clear hst hln hg2 hsub
            go_wp2_with (at_builtin; refine wpList_append_pfs rfl _ _ 22 rfl w22.heap.size i0 _ Tryz.underlying22 hi0 hz0 hz1 hz2 rfl _ _ rfl (own_keep HO.out (bal (Below.refl _ _) _)) _ _ [x] rfl (row_one wr x) HLN.out (Nat.le_trans HW.out.size (by simp)) ?_)
            intro v7 w7 hown7 hgrow7
            have HW7 : Hid (Below w22.heap.size w22 w7) := (HW.out.trans (below_le (bal (Below.refl _ _) _) HW.out.size)).grown hgrow7 (Nat.le_trans HW.out.size (by simp)) (fun k hk => (HO.out.lt k hk).1)
            have HO7 : Hid (w7.ownsRow w22.heap.size 27 4 v7 (ps.drop k).reverse.length (flat (ps.drop k).reverse)) := by rw [HST.out, show ((ps.drop (k + 1)).reverse ++ [x]).length = ps.length - (k + 1) + 1 by simp]; exact hown7
            clear hown7 hgrow7
            go_wp2_with fail
            go_roundw
            case rel => exact ⟨k, by go_num, by omega, HO7, HW7⟩
            case measure => simp [intOf]
      · -- was there, and is not
        obtain ⟨a0, a1, a2, a3⟩ := HA.out
        obtain ⟨p0, p1, p2, p3, p4⟩ := HP.out
        go_wp2_with fail
        refine (CA.out _).mono ?_
        rintro e w21 ⟨rfl, hb⟩
        clear a0 a1 a2 a3 p0 p1 p2 p3 p4
        replace HA := Lib.hid (HA.out.below hb)
        replace HP := Lib.hid (HP.out.below hb)
        replace HB := Lib.hid (btr HB.out hb)
        replace L1 := Lib.hid (L1.out.below hb)
        replace L3 := Lib.hid (L3.out.below hb)
        clear hb
        obtain ⟨a0, a1, a2, a3⟩ := HA.out
        obtain ⟨p0, p1, p2, p3, p4⟩ := HP.out
        go_wp2_with fail
        refine (C6.out _ _ _ L3.out L1.out).mono ?_
        rintro e w22 ⟨rfl, hb⟩
        clear a0 a1 a2 a3 p0 p1 p2 p3 p4
        replace HA := Lib.hid (HA.out.below hb)
        replace HP := Lib.hid (HP.out.below hb)
        replace HB := Lib.hid (btr HB.out hb)
        replace L1 := Lib.hid (L1.out.below hb)
        replace L3 := Lib.hid (L3.out.below hb)
        clear hb
        clear L3 HA HP
        go_wp2_with fail
        go_loopw [16, 17] (fun vt vi wr => ∃ K : Nat, vi = .int .i64 ((K : Int) - 1) ∧ K ≤ N ∧ Hid (wr.ownsRow w22.heap.size 27 4 vt (ps.drop K).reverse.length (flat (ps.drop K).reverse)) ∧ Hid (Below w22.heap.size w22 wr))
          (fun _ vi _ => (intOf vi + 1).toNat)
        case atStart =>
          refine ⟨N, rfl, Nat.le_refl _, ?_, Below.refl _ _⟩
          rw [HN.out, List.drop_length]; exact row_nil _ _ _ _
        case round =>
          obtain ⟨K, rfl, hK, HO, HW⟩ := hrel
          by_cases hK0 : K = 0
          · subst hK0
            have HO2 : Hid (wr.ownsRow w22.heap.size 27 4 u16 ps.reverse.length (flat ps.reverse)) := by
              have := HO.out
              rw [List.drop_zero] at this
              exact this
            obtain ⟨a5, c5, e5, _, s5⟩ := own_sl HO2.out
            rw [List.length_reverse, ← HN.out] at e5
            subst e5
            have HNr := Lib.hid (CT.out a5 c5 wr s5)
            have HBr := Lib.hid (btr HB.out HW.out)
            have LR := Lib.hid (L1.out.below HW.out)
            clear HO HO2 s5 HW L1 HB
            go_wp2_with fail
            refine HNr.out.mono ?_
            rintro e w30 ⟨v6, M6, rfl, o6, i6, l6, hb⟩
            have e6 := i6.uniq (I1.out.of fun v x => (HAd.out v x).symm)
            subst e6
            obtain ⟨r6, c6, rfl, _, s6⟩ := own_sl o6
            have L6 := Lib.hid s6
            replace HBr := Lib.hid (btr HBr.out hb)
            replace LR := Lib.hid (LR.out.below hb)
            clear o6 i6 s6 hb
            go_wp2_with fail
            refine (C6.out _ _ _ L6.out LR.out).mono ?_
            rintro e w31 ⟨rfl, hb⟩
            replace HBr := Lib.hid (btr HBr.out hb)
            clear hb
            go_wp2
            go_ret
            exact ⟨rfl, HBr.out⟩
          · obtain ⟨k, rfl⟩ : ∃ k, K = k + 1 := ⟨K - 1, by omega⟩
            have hkl : k < ps.length := by have := HN.out; omega
            obtain ⟨g, o, rfl, hg, d0, d1, d2, d3⟩ := Hs.out k hkl
            have hg2 : g < w22.heap.size := Nat.lt_of_lt_of_le hg HB.out.size
            rw [← (show w22.cell? _ = w.cell? _ from HB.out.cell (p := ⟨g, _, none⟩) hg), ← (show wr.cell? _ = w22.cell? _ from HW.out.cell (p := ⟨g, _, none⟩) hg2)] at d0 d1 d2 d3
            have hst : (ps.drop k).reverse = (ps.drop (k + 1)).reverse ++ [ps[k]] := by rw [List.drop_eq_getElem_cons hkl, List.reverse_cons]
            have HST := Lib.hid hst
            have hln : (ps.drop (k + 1)).reverse.length + [ps[k]].length ≤ 100000 := by have := HN.out; simp; omega
            have HLN := Lib.hid hln
            have hsub : ((k + 1 : Nat) : Int) - 1 = (k : Int) := by omega
            rw [hsub]
            have k3 : (k : Int) < (N : Int) := by omega
            have k4 : (0 : Int) ≤ (k : Int) := by omega
            generalize ps[k] = x at *
            clear hst hln hg2 hsub
            go_wp2_with (at_builtin; refine wpList_append_pfs rfl _ _ 22 rfl w22.heap.size i0 _ Tryz.underlying22 hi0 hz0 hz1 hz2 rfl _ _ rfl (own_keep HO.out (bal (Below.refl _ _) _)) _ _ [x] rfl (row_one wr x) HLN.out (Nat.le_trans HW.out.size (by simp)) ?_)
            intro v7 w7 hown7 hgrow7
            have HW7 : Hid (Below w22.heap.size w22 w7) := (HW.out.trans (below_le (bal (Below.refl _ _) _) HW.out.size)).grown hgrow7 (Nat.le_trans HW.out.size (by simp)) (fun k hk => (HO.out.lt k hk).1)
            have HO7 : Hid (w7.ownsRow w22.heap.size 27 4 v7 (ps.drop k).reverse.length (flat (ps.drop k).reverse)) := by rw [HST.out, show ((ps.drop (k + 1)).reverse ++ [x]).length = ps.length - (k + 1) + 1 by simp]; exact hown7
            clear hown7 hgrow7
            go_wp2_with fail
            go_roundw
            case rel => exact ⟨k, by go_num, by omega, HO7, HW7⟩
            case measure => simp [intOf]

end Go.Proofs.YtojdlpiogbjfcaaGreatDoor

namespace Go.Proofs.YtojdlpiogbjfcaaGreatDoor
open Go.RowKit

theorem sapart_law (a : Option Addr) (c : Nat) (ps : List Pf) (w : World) (hg : Good w) (hok : ∀ p ∈ ps, p.Ok) (hcap : ps.length ≤ c) (hs : Sl w a ps) :
    Calls Tryz.prog 4 #[.slice a ps.length c] w fun e w' => e = .returned (.bool true) ∧ Below w.heap.size w w' := by
  have CB := Lib.hid sbegun_any
  have CQ := Lib.hid (fun w' (h : Below w.heap.size w w') => pbegun_any w' (hg.below h))
  by_cases hr : slkL ps = 0
  · exact sap_ok a c ps.length w CB CQ _ (slk_R hok hr).1 (Lib.hid (fun w' h => sNorm_ok a c ps w' hok (hs.below h) hr))
  · exact sap_bad a c ps.length w CB CQ (slkL ps) (by rw [bne_iff_ne]; exact hr) (Lib.hid (fun w' h => sNorm_bad a c ps w' hok (hs.below h) hr))

theorem ssame_law (a : Option Addr) (c : Nat) (ps : List Pf) (p : Pf) (v : Bool) (xh xl : Int) (w : World) (hg : Good w) (hok : ∀ p ∈ ps, p.Ok) (hcap : ps.length ≤ c) (hs : Sl w a ps) (hp : p.Ok) (x0 : 0 ≤ xh) (x1 : xh < 18446744073709551616) (x2 : 0 ≤ xl) (x3 : xl < 18446744073709551616) :
    Calls Tryz.prog 3 #[.slice a ps.length c, .agg #[.bool p.v, .int .u64 p.hi, .int .u64 p.lo, .int .i64 p.b], .agg #[.bool v, .int .u64 xh, .int .u64 xl]] w fun e w' => e = .returned (.bool true) ∧ Below w.heap.size w w' := by
  have CB := Lib.hid sbegun_any
  have CQ := Lib.hid (fun w' (h : Below w.heap.size w w') => pbegun_any w' (hg.below h))
  have CH := Lib.hid (fun w' (h : Below w.heap.size w w') => sHas_any a c ps v xh xl w' hok (hs.below h) x0 x2)
  by_cases hr : slkL ps = 0
  · obtain ⟨h12, hR⟩ := slk_R hok hr
    have CN := Lib.hid (fun w' (h : Below w.heap.size w w') => sNorm_ok a c ps w' hok (hs.below h) hr)
    have e1 : sHasE ps v xh xl = chk v xh xl := by rw [sHasE, if_pos hr]
    have e3 : sMinE ps p = p.chk := by rw [sMinE, if_pos hr]
    by_cases hq : p.chk = 0
    · have rp : p.R := (right_iff _ _ _ _ hp.1 hp.2.1 hp.2.2.1 hp.2.2.2).1 hq
      have CM := Lib.hid (fun w' (h : Below w.heap.size w w') => sMinus_ok a c ps p w' hok hp (hs.below h) (by rw [e3]; exact hq))
      by_cases ha : chk v xh xl = 0
      · have q := host_right ha x0 x1 x2 x3
        have e2 : sHasB ps v xh xl = hasL ps v xh xl := by rw [sHasB, e1, if_pos ha]
        rw [e1, e2, ha] at CH
        have key : ∀ (M : List Pf) (r : Option Addr) (d : Nat) (w' : World), (∀ x ∈ M, x.R) → M.length ≤ 12 → Sl w' r M → Calls Tryz.prog 10 #[.slice r M.length d, .agg #[.bool v, .int .u64 xh, .int .u64 xl]] w' fun e w'' => e = .returned (.tuple #[.bool (hasL M v xh xl), .int .i64 0]) ∧ Below w'.heap.size w' w'' := fun M r d w' hM hl h => by
          have := sHas_any r d M v xh xl w' (fun x hx => R_ok (hM x hx)) h x0 x2
          have f1 : sHasE M v xh xl = 0 := by rw [sHasE, if_pos (slk_of_R hM hl), ha]
          rw [sHasB, f1, if_pos rfl] at this
          exact this
        refine ss_ok a c ps.length v xh xl p w CB CQ ps h12 (Lib.hid rfl) (Lib.hid hs) _ _ (hasL ps v xh xl) (p.inA v xh xl) (Lib.hid (adr_rev ps)) (Lib.hid ?_) (Lib.hid ?_) (Lib.hid (fun w' => rhasA_any p v xh xl w' rp q)) (Lib.hid ?_) CN CM CH
        · intro M r d w' hn hl h
          have := key M r d w' hn.right hl h
          rw [hasL_same hn.right hR hn.adr q] at this
          exact this
        · intro M r d w' hn hl h
          have := key M r d w' hn.right hl h
          rw [hasL_less hR hn.right rp hn.adr q] at this
          exact this
        · intro r d w' h
          have hRr : ∀ x ∈ ps.reverse, x.R := fun x hx => hR x (by simpa using hx)
          have := sNorm_ok r d ps.reverse w' (fun x hx => R_ok (hRr x hx)) h (slk_of_R hRr (by simpa using h12))
          rw [List.length_reverse] at this
          exact this
      · rw [e1] at CH
        exact ss_bada a c ps.length v xh xl p w CB CQ _ _ (chk v xh xl) _ (by rw [bne_iff_ne]; exact ha) (by rw [beq_eq_false_iff_ne]; exact ha) CN CM CH
    · have CM := Lib.hid (fun w' (h : Below w.heap.size w w') => sMinus_bad a c ps p w' hok hp (hs.below h) (by rw [e3]; exact hq))
      rw [e3] at CM
      exact ss_badp a c ps.length v xh xl p w CB CQ _ p.chk _ _ (by rw [bne_iff_ne]; exact hq) (by rw [beq_eq_false_iff_ne]; exact hq) CN CM CH
  · have e1 : sHasE ps v xh xl = slkL ps := by rw [sHasE, if_neg hr]
    have e2 : sHasB ps v xh xl = false := by rw [sHasB, e1, if_neg hr]
    have e3 : sMinE ps p = slkL ps := by rw [sMinE, if_neg hr]
    rw [e1, e2] at CH
    have CM := Lib.hid (fun w' (h : Below w.heap.size w w') => sMinus_bad a c ps p w' hok hp (hs.below h) (by rw [e3]; exact hr))
    rw [e3] at CM
    exact ss_bad a c ps.length v xh xl p w CB CQ (slkL ps) (by rw [bne_iff_ne]; exact hr) (by rw [beq_eq_false_iff_ne]; exact hr) (Lib.hid (fun w' h => sNorm_bad a c ps w' hok (hs.below h) hr)) CM CH
end Go.Proofs.YtojdlpiogbjfcaaGreatDoor

namespace Go.Proofs.YtojdlpiogbjfcaaGreatDoor
open Go.ChangeShapes Go.WideShapes Go.ChangeAt Go.WideMaps Go.WideElems Go.RowKit Go.Deep

theorem addr_add (b o k : Nat) : (⟨b, o, none⟩ : Addr).add k = ⟨b, o + k, none⟩ := by
  unfold Addr.add
  split
  · rename_i h; rw [h]; rfl
  · rfl

theorem list4 {α : Type} {l : List α} (h : l.length = 4) : ∃ a b c d, l = [a, b, c, d] := by
  match l, h with
  | [a, b, c, d], _ => exact ⟨a, b, c, d, rfl⟩

set_option maxRecDepth 100000 in
theorem open_cells {H : Type} {enc : TypeId × Value → H} {W : World} {n : Nat} {cs : List Value} {x : DataW H × List MemPlace} (hl : cs.length = 4)
    (hf : DataW.trod enc Tryz.prog W 0 (fun _ => true) true n 27 cs = some x) :
    ∃ p : Pf, cs = [.bool p.v, .int .u64 p.hi, .int .u64 p.lo, .int .i64 p.b] ∧ p.Ok := by
  obtain ⟨c0, c1, c2, c3, rfl⟩ := list4 hl
  obtain ⟨ya, yb, n, hx, _, ha, hb⟩ := trod_struct2 Tryz.underlying27 hf
  simp only [cells_addr, cells_i] at ha hb
  have ha' : DataW.trod enc Tryz.prog W 0 (fun _ => true) true n 25 [c0, c1, c2] = some ya := ha
  have hb' : DataW.trod enc Tryz.prog W 0 (fun _ => true) true n 3 [c3] = some yb := hb
  obtain ⟨y0, y1, y2, m, hya, _, h0, h1, h2⟩ := Go.Deep.trod_struct3 Tryz.underlying25 ha'
  simp only [cells_b, cells_u] at h0 h1 h2
  obtain ⟨b0, e0, rfl⟩ := DataW.trod_bool Tryz.underlying4 (show DataW.trod enc Tryz.prog W 0 (fun _ => true) true m 4 [c0] = some y0 from h0)
  obtain ⟨i1, e1, rfl, w1⟩ := DataW.trod_int Tryz.underlying23 (show DataW.trod enc Tryz.prog W 0 (fun _ => true) true m 23 [c1] = some y1 from h1)
  obtain ⟨i2, e2, rfl, w2⟩ := DataW.trod_int Tryz.underlying23 (show DataW.trod enc Tryz.prog W 0 (fun _ => true) true m 23 [c2] = some y2 from h2)
  obtain ⟨i3, e3, rfl, w3⟩ := DataW.trod_int Tryz.underlying3 hb'
  simp at e0 e1 e2 e3
  subst e0 e1 e2 e3
  obtain ⟨a1, a2⟩ := wd_of w1
  obtain ⟨a3, a4⟩ := wd_of w2
  exact ⟨⟨b0, i1, i2, i3⟩, rfl, a1, a2, a3, a4⟩

set_option maxRecDepth 100000 in
/-- A list of prefixes that came in, opened. -/
theorem open_pfsN {H : Type} {enc : TypeId × Value → H} {W : World} {base : Nat} {v : Value} {d : DataW H} {p : List MemPlace}
    (hv : Value.okWide Tryz.prog W .any base 22 v) (h : DataW.Trod enc Tryz.prog W 0 (fun _ => true) true 22 v d p) :
    ∃ (a : Option Addr) (ps : List Pf) (c : Nat), v = .slice a ps.length c ∧ ps.length ≤ c ∧ Sl W a ps ∧ (∀ p ∈ ps, p.Ok) ∧ (a = none → c = 0) := by
  obtain ⟨a0, len, cap, rfl⟩ := okWide_slice Tryz.underlying22 hv
  obtain ⟨fuel, hf⟩ := h
  rcases open_slice Tryz.underlying22 hf with ⟨hcs, _⟩ | ⟨a, len', cap', m, n, D, Pl, hcs, _, hl, _, hm, _, hel⟩
  · simp [Value.cells] at hcs
    obtain ⟨rfl, rfl, rfl⟩ := hcs
    exact ⟨none, [], 0, rfl, Nat.le_refl _, fun j hj => by simp at hj, by simp, fun _ => rfl⟩
  · simp [Value.cells] at hcs
    obtain ⟨rfl, rfl, rfl⟩ := hcs
    simp only [if_true] at hm
    subst hm
    rw [cells_pf] at hel
    have each : ∀ i, i < len → ∃ p : Pf, p.Ok ∧ ∀ k (hk : k < 4), W.cell? ((a.add (i * 4)).add k) = [Value.bool p.v, .int .u64 p.hi, .int .u64 p.lo, .int .i64 p.b][k]? := fun i hi => by
      obtain ⟨cs', h1, h2⟩ := hel i (by omega)
      obtain ⟨_, hlen, hcell⟩ := World.cells?_some h1
      obtain ⟨p, rfl, hok⟩ := open_cells hlen h2
      exact ⟨p, hok, hcell⟩
    let f : Nat → Pf := fun i => if h : i < len then (each i h).choose else ⟨false, 0, 0, 0⟩
    have hfs : ∀ i, i < len → (f i).Ok ∧ ∀ k (hk : k < 4), W.cell? ((a.add (i * 4)).add k) = [Value.bool (f i).v, .int .u64 (f i).hi, .int .u64 (f i).lo, .int .i64 (f i).b][k]? := fun i hi => by
      have := (each i hi).choose_spec
      simp only [f, hi, dif_pos]
      exact this
    refine ⟨some a, (List.range len).map f, m, by simp, by simpa using hl, ?_, ?_, fun h => by simp at h⟩
    · intro j hj
      have hj' : j < len := by simpa using hj
      obtain ⟨_, hc⟩ := hfs j hj'
      have hsp : a.spot = none := by
        have h0 := (hfs 0 (by omega)).2 0 (by decide)
        have h1 : W.cell? a = some (.bool (f 0).v) := by simpa [Addr.add] using h0
        exact World.cell?_spot h1
      obtain ⟨blk, off, spot⟩ := a
      simp only at hsp
      subst hsp
      have hlt : blk < W.heap.size := by
        have h0 := hc 0 (by decide)
        rw [addr_add, addr_add] at h0
        exact World.block_lt_of_cell? W _ h0
      refine ⟨blk, off, rfl, hlt, ?_, ?_, ?_, ?_⟩
      · have := hc 0 (by decide); rw [addr_add, addr_add] at this; simpa using this
      · have := hc 1 (by decide); rw [addr_add, addr_add] at this; simpa using this
      · have := hc 2 (by decide); rw [addr_add, addr_add] at this; simpa using this
      · have := hc 3 (by decide); rw [addr_add, addr_add] at this; simpa using this
    · intro p hp
      obtain ⟨i, hi, rfl⟩ := List.mem_map.1 hp
      exact (hfs i (List.mem_range.1 hi)).1
set_option maxRecDepth 100000 in
theorem open_pfs {H : Type} {enc : TypeId × Value → H} {W : World} {base : Nat} {v : Value} {d : DataW H} {p : List MemPlace}
    (hv : Value.okWide Tryz.prog W .any base 22 v) (h : DataW.Trod enc Tryz.prog W 0 (fun _ => true) true 22 v d p) :
    ∃ (a : Option Addr) (ps : List Pf) (c : Nat), v = .slice a ps.length c ∧ ps.length ≤ c ∧ Sl W a ps ∧ ∀ p ∈ ps, p.Ok := by
  obtain ⟨a, ps, c, h1, h2, h3, h4, _⟩ := open_pfsN hv h
  exact ⟨a, ps, c, h1, h2, h3, h4⟩
end Go.Proofs.YtojdlpiogbjfcaaGreatDoor
