/- The document's answer: Bits: all bits of an address as a text. -/
import Derived.Test.YtollaiabcnmebaaDoorRfM
set_option linter.unusedVariables false
set_option linter.unusedSimpArgs false
namespace Go.Proofs.YtollaiabcnmebaaDoor
open Go.RowKit

theorem info8 : (Tryd.prog.info? 5).map (fun i => (i.zero, i.size, i.bytes)) = some (some (.int .u8 0), 1, 1) := by kernel_rfl

/-- Bytes, as the cells of a row. -/
def u8s (l : List UInt8) : List Value := l.map fun b : UInt8 => Value.int .u8 (b.toNat : Int)
theorem u8s_append (l r : List UInt8) : u8s (l ++ r) = u8s l ++ u8s r := by simp [u8s]
theorem u8s_length (l : List UInt8) : (u8s l).length = l.length := by simp [u8s]

theorem own_u8 {W : World} {B n : Nat} {v : Value} {l : List UInt8} (h : W.ownsRow B 5 1 v n (u8s l)) (h0 : 0 < n) :
    ∃ g c, v = .slice (some ⟨g, 0, none⟩) n c ∧ n ≤ c ∧ c ≤ maxLen ∧ n = l.length ∧ ∀ j (hj : j < l.length), W.cell? ⟨g, j, none⟩ = some (.int .u8 ((l[j]).toNat : Int)) := by
  obtain ⟨h1, h2⟩ := h
  rcases h2 with ⟨rfl, h2⟩ | ⟨g, c, cur, rfl, _, hc, h3, h4, h5, h6⟩
  · omega
  · rw [u8s_length] at h1
    refine ⟨g, c, rfl, h3, h4, by omega, fun j hj => ?_⟩
    have hj2 : (cur.toList.take (n * 1))[j]? = (u8s l)[j]? := by rw [h6]
    rw [List.getElem?_take_of_lt (by omega)] at hj2
    simp only [u8s, List.getElem?_map, List.getElem?_eq_getElem hj, Option.map_some] at hj2
    simp [World.cell?, hc]
    simpa using hj2

/-- The bits of an address. -/
def bitsT (v : Bool) (hi lo : Nat) : List UInt8 := if v then bin 64 hi ++ bin 64 lo else bin 32 lo

theorem hexd_bit (n : Nat) : ((hexd (n % 2)).toNat : Int) = 48 + (n : Int) % 2 := by
  have : n % 2 = 0 ∨ n % 2 = 1 := by omega
  rcases this with h | h
  · rw [h]; have : (n : Int) % 2 = 0 := by omega
    rw [this]; rfl
  · rw [h]; have : (n : Int) % 2 = 1 := by omega
    rw [this]; rfl

set_option maxHeartbeats 8000000 in
set_option maxRecDepth 100000 in
theorem bits_any (v : Bool) (hi lo : Nat) (w : World) (h1 : hi < 18446744073709551616) (l1 : lo < 18446744073709551616) :
    Calls Tryd.prog 21 #[.agg #[.bool v, .int .u64 hi, .int .u64 lo]] w fun e w' => e = .returned (.string ⟨(bitsT v hi lo).toArray⟩) ∧ Below w.heap.size w w' := by
  obtain ⟨i0, hi0, hz0, hz1, hz2⟩ := info_parts info8
  have hb0 : Below w.heap.size w (w.alloc (.cells #[.bool v, .int .u64 hi, .int .u64 lo] 24)) := bal (Below.refl _ _) _
  have HB0 : Hid (Below w.heap.size w (w.alloc (.cells #[.bool v, .int .u64 hi, .int .u64 lo] 24))) := hb0
  have c0 : (w.alloc (.cells #[.bool v, .int .u64 hi, .int .u64 lo] 24)).cell? ⟨w.heap.size, 0, none⟩ = some (.bool v) := by simp [go_sem]
  have c1 : (w.alloc (.cells #[.bool v, .int .u64 hi, .int .u64 lo] 24)).cell? ⟨w.heap.size, 1, none⟩ = some (.int .u64 hi) := by simp [go_sem]
  have c2 : (w.alloc (.cells #[.bool v, .int .u64 hi, .int .u64 lo] 24)).cell? ⟨w.heap.size, 2, none⟩ = some (.int .u64 lo) := by simp [go_sem]
  have hsz : w.heap.size < (w.alloc (.cells #[.bool v, .int .u64 hi, .int .u64 lo] 24)).heap.size := by simp
  have HT : Hid ((if v then bin 64 hi ++ bin 64 lo else bin 32 lo) = bitsT v hi lo) := rfl
  generalize bitsT v hi lo = T at HT ⊢
  clear hb0
  go_enter Tryd.func21, Tryd.ntmps21
  go_wp2_with fail
  generalize w.alloc (.cells #[.bool v, .int .u64 hi, .int .u64 lo] 24) = W at HB0 c0 c1 c2 hsz ⊢
  go_loopw [3, 4] (fun vs vi wr => ∃ (k : Nat) (j : Int), vi = .int .i64 j ∧ Hid (j = 63 - (k : Int)) ∧ k ≤ 64 ∧ Below W.heap.size W wr ∧ wr.ownsRow W.heap.size 5 1 vs k (u8s (bin k (hi / 2 ^ (64 - k)))))
    (fun _ vi _ => (intOf vi + 1).toNat)
  case atStart => exact ⟨0, 63, rfl, (by omega : (63 : Int) = 63 - ((0 : Nat) : Int)), by omega, Below.refl _ _, World.ownsRow_nil _ _ _ _⟩
  case round =>
    obtain ⟨k, j, rfl, Hj, hk, hb, hown⟩ := hrel
    have hzz := hb.size
    have hj := Hj.out
    by_cases hk64 : k < 64
    · have hc := (bcell hb).1 w.heap.size 1 hsz
      rw [c1] at hc
      have hj0 : 0 ≤ j := by omega
      have hj1 : j ≤ 63 := by omega
      obtain ⟨m, hm⟩ : ∃ m, m = hi / 2 ^ (63 - k) := ⟨_, rfl⟩
      have hm1 : m < 18446744073709551616 := by rw [hm]; exact Nat.lt_of_le_of_lt (Nat.div_le_self _ _) h1
      have hstep : bin (k + 1) (hi / 2 ^ (64 - (k + 1))) = bin k (hi / 2 ^ (64 - k)) ++ [hexd (m % 2)] := by
        rw [bin, Nat.div_div_eq_div_mul, ← Nat.pow_succ, show (64 - (k + 1)).succ = 64 - k by omega, show 64 - (k + 1) = 63 - k by omega, ← hm]
      have hsh : (hi : Int) / 2 ^ j.toNat = (m : Int) := by rw [hm, show j.toNat = 63 - k by omega]; simp
      have HS : Hid (bin (k + 1) (hi / 2 ^ (64 - (k + 1))) = bin k (hi / 2 ^ (64 - k)) ++ [hexd (m % 2)]) := hstep
      obtain ⟨r, hr⟩ : ∃ r : Int, (m : Int) % 2 = r := ⟨_, rfl⟩
      have HE : Hid (((hexd (m % 2)).toNat : Int) = 48 + r) := by rw [← hr]; exact hexd_bit m
      have r0 : 0 ≤ r := by omega
      have r1 : r ≤ 1 := by omega
      have Hj2 : Hid (j - 1 = 63 - ((k + 1 : Nat) : Int)) := (by omega : j - 1 = 63 - ((k + 1 : Nat) : Int))
      clear hstep hm hj
      have HO : Hid (wr.ownsRow W.heap.size 5 1 u3 k (u8s (bin k (hi / 2 ^ (64 - k))))) := hown
      clear hown
      go_wp2_with (at_builtin; refine wpList_append_own _ rfl _ _ 48 rfl W.heap.size 5 i0 (.int .u8 0) 1 1 Tryd.underlying48 hi0 hz0 hz1 hz2 rfl (by decide) _ _ _ rfl (HO.out.alloc _) ⟨wr.heap.size, 0, none⟩ 1 1 [.int .u8 (48 + r)] rfl rfl ?c1 ?c2 ?c3 ?c4 ?c5 ?_)
      case c1 =>
        intro j u hj
        match j, hj with
        | 0, hj => simp at hj; subst hj; simp [Addr.add]
      case c2 => intro u hu; simp at hu; subst hu; rfl
      case c3 => unfold maxLen; omega
      case c4 => omega
      case c5 => simp; omega
      intro v' w3 hown' hgrow _
      have hb3 : Below W.heap.size W w3 := (bal hb _).grown hgrow (by simp; omega) (fun k hk => (HO.out.lt k hk).1)
      have HR : Hid (w3.ownsRow W.heap.size 5 1 v' (k + 1) (u8s (bin (k + 1) (hi / 2 ^ (64 - (k + 1)))))) := by
        rw [HS.out, u8s_append, show u8s [hexd (m % 2)] = [.int .u8 (48 + r)] by simp [u8s, HE.out]]; exact hown'
      clear hown' hgrow HO
      go_wp2
      go_roundw
      case rel => exact ⟨k + 1, j - 1, rfl, Hj2, by omega, hb3, HR⟩
      case measure => simp [intOf]; omega
    · have hk2 : k = 64 := by omega
      subst hk2
      have hj2 : j = -1 := by omega
      subst hj2
      clear Hj
      have HO : Hid (wr.ownsRow W.heap.size 5 1 u3 64 (u8s (bin 64 hi))) := by have := hown; rw [Nat.sub_self, Nat.pow_zero, Nat.div_one] at this; exact this
      clear hown hj hk64
      go_wp2_with fail
      go_loopw [3, 5] (fun vs vi wr => ∃ (k : Nat) (j : Int), vi = .int .i64 j ∧ Hid (j = 63 - (k : Int)) ∧ k ≤ 64 ∧ Below W.heap.size W wr ∧ wr.ownsRow W.heap.size 5 1 vs (64 + k) (u8s (bin 64 hi ++ bin k (lo / 2 ^ (64 - k)))))
        (fun _ vi _ => (intOf vi + 1).toNat)
      case atStart => exact ⟨0, 63, rfl, (by omega : (63 : Int) = 63 - ((0 : Nat) : Int)), by omega, hb, by rw [bin, List.append_nil]; exact HO.out⟩
      case round =>
        clear HO hb hzz
        obtain ⟨k, j, rfl, Hj, hk, hb, hown⟩ := hrel
        have hzz := hb.size
        have hj := Hj.out
        by_cases hk64 : k < 64
        · have hc := (bcell hb).1 w.heap.size 2 hsz
          rw [c2] at hc
          have hj0 : 0 ≤ j := by omega
          have hj1 : j ≤ 63 := by omega
          obtain ⟨m, hm⟩ : ∃ m, m = lo / 2 ^ (63 - k) := ⟨_, rfl⟩
          have hm1 : m < 18446744073709551616 := by rw [hm]; exact Nat.lt_of_le_of_lt (Nat.div_le_self _ _) l1
          have hstep : bin (k + 1) (lo / 2 ^ (64 - (k + 1))) = bin k (lo / 2 ^ (64 - k)) ++ [hexd (m % 2)] := by
            rw [bin, Nat.div_div_eq_div_mul, ← Nat.pow_succ, show (64 - (k + 1)).succ = 64 - k by omega, show 64 - (k + 1) = 63 - k by omega, ← hm]
          have hsh : (lo : Int) / 2 ^ j.toNat = (m : Int) := by rw [hm, show j.toNat = 63 - k by omega]; simp
          have HS : Hid (bin (k + 1) (lo / 2 ^ (64 - (k + 1))) = bin k (lo / 2 ^ (64 - k)) ++ [hexd (m % 2)]) := hstep
          obtain ⟨r, hr⟩ : ∃ r : Int, (m : Int) % 2 = r := ⟨_, rfl⟩
          have HE : Hid (((hexd (m % 2)).toNat : Int) = 48 + r) := by rw [← hr]; exact hexd_bit m
          have r0 : 0 ≤ r := by omega
          have r1 : r ≤ 1 := by omega
          have Hj2 : Hid (j - 1 = 63 - ((k + 1 : Nat) : Int)) := (by omega : j - 1 = 63 - ((k + 1 : Nat) : Int))
          clear hstep hm hj
          have HO : Hid (wr.ownsRow W.heap.size 5 1 u3 (64 + k) (u8s (bin 64 hi ++ bin k (lo / 2 ^ (64 - k))))) := hown
          clear hown
          go_wp2_with (at_builtin; refine wpList_append_own _ rfl _ _ 48 rfl W.heap.size 5 i0 (.int .u8 0) 1 1 Tryd.underlying48 hi0 hz0 hz1 hz2 rfl (by decide) _ _ _ rfl (HO.out.alloc _) ⟨wr.heap.size, 0, none⟩ 1 1 [.int .u8 (48 + r)] rfl rfl ?c1 ?c2 ?c3 ?c4 ?c5 ?_)
          case c1 =>
            intro j u hj
            match j, hj with
            | 0, hj => simp at hj; subst hj; simp [Addr.add]
          case c2 => intro u hu; simp at hu; subst hu; rfl
          case c3 => unfold maxLen; omega
          case c4 => omega
          case c5 => simp; omega
          intro v' w3 hown' hgrow _
          have hb3 : Below W.heap.size W w3 := (bal hb _).grown hgrow (by simp; omega) (fun k hk => (HO.out.lt k hk).1)
          have HR : Hid (w3.ownsRow W.heap.size 5 1 v' (64 + (k + 1)) (u8s (bin 64 hi ++ bin (k + 1) (lo / 2 ^ (64 - (k + 1)))))) := by
            rw [HS.out, ← List.append_assoc, u8s_append, show u8s [hexd (m % 2)] = [.int .u8 (48 + r)] by simp [u8s, HE.out]]; exact hown'
          clear hown' hgrow HO
          go_wp2
          go_roundw
          case rel => exact ⟨k + 1, j - 1, rfl, Hj2, by omega, hb3, HR⟩
          case measure => simp [intOf]; omega
        · have hk2 : k = 64 := by omega
          subst hk2
          have hj2 : j = -1 := by omega
          subst hj2
          clear Hj
          have HO : wr.ownsRow W.heap.size 5 1 u3 128 (u8s (bin 64 hi ++ bin 64 lo)) := by have := hown; rw [Nat.sub_self, Nat.pow_zero, Nat.div_one] at this; exact this
          clear hown hj hk64
          obtain ⟨g, c, rfl, hc1, hc2, hc3, hcell⟩ := own_u8 HO (by decide)
          have hc := (bcell hb).1 w.heap.size 0 hsz
          rw [c0] at hc
          have HF : Hid (Below w.heap.size w wr) := btr HB0.out hb
          clear HO hk
          cases v
          · have hcv : ∀ W' : World, W' = wr → (convert 48 9 (.slice (some ⟨g, 96, none⟩) 32 (c - 96))).run Tryd.prog W' = .ok (.string ⟨(bin 32 lo).toArray⟩) W' := by
              rintro _ rfl
              refine cvt _ g 96 (c - 96) (bin 32 lo) 32 (bin_length _ _).symm (fun j hj => ?_)
              rw [bin_length] at hj
              rw [hcell (96 + j) (by rw [List.length_append, bin_length, bin_length]; omega)]
              have e : bin 64 hi ++ bin 64 lo = (bin 64 hi ++ bin 32 (lo / 2 ^ 32)) ++ bin 32 lo := by rw [List.append_assoc, ← bin_split 32 32]
              simp only [e]
              rw [List.getElem_append_right (by rw [List.length_append, bin_length, bin_length]; omega)]
              simp only [List.length_append, bin_length, Nat.add_sub_cancel_left]
            have hsl : ∀ W' : World, (Instr.sliceAt 48 (.slice (some ⟨g, 0, none⟩) 128 c) (some (.int .i64 96)) none none).run Tryd.prog W' = .ok (.slice (some ⟨g, 96, none⟩) 32 (c - 96)) W' := by
              intro W'
              have h3 : ¬ c = 96 := by omega
              simp [go_sem, h3]
            have hT : bin 32 lo = T := HT.out
            rw [hT] at hcv
            clear hcell c1 c2 hc3
            go_wp2_with fail
            go_ret
            exact ⟨rfl, HF.out⟩
          · have hcv : ∀ W' : World, W' = wr → (convert 48 9 (.slice (some ⟨g, 0, none⟩) 128 c)).run Tryd.prog W' = .ok (.string ⟨(bin 64 hi ++ bin 64 lo).toArray⟩) W' := by
              rintro _ rfl
              refine cvt _ g 0 c (bin 64 hi ++ bin 64 lo) 128 (by rw [List.length_append, bin_length, bin_length]) (fun j hj => ?_)
              rw [Nat.zero_add]
              exact hcell j hj
            have hT : bin 64 hi ++ bin 64 lo = T := HT.out
            rw [hT] at hcv
            clear hcell c1 c2 hc3
            go_wp2_with fail
            go_ret
            exact ⟨rfl, HF.out⟩
end Go.Proofs.YtollaiabcnmebaaDoor
