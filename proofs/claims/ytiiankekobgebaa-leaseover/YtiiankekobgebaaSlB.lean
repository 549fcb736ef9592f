/- The document: the bits of an address, and which address bits are. -/
import Derived.Test.YtiiankekobgebaaSlA
set_option linter.unusedVariables false
set_option linter.unusedSimpArgs false
namespace Go.Proofs.Ytiiankekobgebaa
open Go.RowKit

theorem info8 : (Try.prog.info? 5).map (fun i => (i.zero, i.size, i.bytes)) = some (some (.int .u8 0), 1, 1) := by kernel_rfl

/-- Bytes, as the cells of a row. -/
def u8s (l : List UInt8) : List Value := l.map fun b : UInt8 => Value.int .u8 (b.toNat : Int)

theorem u8s_append (l r : List UInt8) : u8s (l ++ r) = u8s l ++ u8s r := by simp [u8s]

theorem u8s_length (l : List UInt8) : (u8s l).length = l.length := by simp [u8s]

theorem own_u8 {W : World} {B n : Nat} {v : Value} {l : List UInt8} (h : W.ownsRow B 5 1 v n (u8s l)) (h0 : 0 < n) :
    ∃ g c, v = .slice (some ⟨g, 0, none⟩) n c ∧ n ≤ c ∧ c ≤ maxLen ∧ n = l.length ∧ ∀ j (hj : j < l.length), W.cell? ⟨g, j, none⟩ = some (.int .u8 ((l[j]).toNat : Int)) := by
  obtain ⟨h1, h2⟩ := h
  rcases h2 with ⟨rfl, h2⟩ | ⟨g, c, cur, rfl, _, hc, h3, h4, h5, h6⟩
  · omega
  · rw [u8s_length] at h1
    refine ⟨g, c, rfl, h3, h4, by omega, fun j hj => ?_⟩
    have hj2 : (cur.toList.take (n * 1))[j]? = (u8s l)[j]? := by rw [h6]
    rw [List.getElem?_take_of_lt (by omega)] at hj2
    simp only [u8s, List.getElem?_map, List.getElem?_eq_getElem hj, Option.map_some] at hj2
    simp [World.cell?, hc]
    simpa using hj2

/-- The bits of an address. -/
def bitsT (v : Bool) (hi lo : Nat) : List UInt8 := if v then bin 64 hi ++ bin 64 lo else bin 32 lo

theorem hexd_bit (n : Nat) : ((hexd (n % 2)).toNat : Int) = 48 + (n : Int) % 2 := by
  have : n % 2 = 0 ∨ n % 2 = 1 := by omega
  rcases this with h | h
  · rw [h]; have : (n : Int) % 2 = 0 := by omega
    rw [this]; rfl
  · rw [h]; have : (n : Int) % 2 = 1 := by omega
    rw [this]; rfl

set_option maxHeartbeats 8000000 in
set_option maxRecDepth 100000 in
theorem bits_any (v : Bool) (hi lo : Nat) (w : World) (h1 : hi < 18446744073709551616) (l1 : lo < 18446744073709551616) :
    Calls Try.prog 46 #[.agg #[.bool v, .int .u64 hi, .int .u64 lo]] w fun e w' => e = .returned (.string ⟨(bitsT v hi lo).toArray⟩) ∧ Below w.heap.size w w' := by
  obtain ⟨i0, hi0, hz0, hz1, hz2⟩ := info_parts info8
  have hb0 : Below w.heap.size w (w.alloc (.cells #[.bool v, .int .u64 hi, .int .u64 lo] 24)) := bal (Below.refl _ _) _
  have HB0 : Hid (Below w.heap.size w (w.alloc (.cells #[.bool v, .int .u64 hi, .int .u64 lo] 24))) := hb0
  have c0 : (w.alloc (.cells #[.bool v, .int .u64 hi, .int .u64 lo] 24)).cell? ⟨w.heap.size, 0, none⟩ = some (.bool v) := by simp [go_sem]
  have c1 : (w.alloc (.cells #[.bool v, .int .u64 hi, .int .u64 lo] 24)).cell? ⟨w.heap.size, 1, none⟩ = some (.int .u64 hi) := by simp [go_sem]
  have c2 : (w.alloc (.cells #[.bool v, .int .u64 hi, .int .u64 lo] 24)).cell? ⟨w.heap.size, 2, none⟩ = some (.int .u64 lo) := by simp [go_sem]
  have hsz : w.heap.size < (w.alloc (.cells #[.bool v, .int .u64 hi, .int .u64 lo] 24)).heap.size := by simp
  have HT : Hid ((if v then bin 64 hi ++ bin 64 lo else bin 32 lo) = bitsT v hi lo) := rfl
  generalize bitsT v hi lo = T at HT ⊢
  clear hb0
  go_enter Try.func46, Try.ntmps46
  go_wp2_with fail
  generalize w.alloc (.cells #[.bool v, .int .u64 hi, .int .u64 lo] 24) = W at HB0 c0 c1 c2 hsz ⊢
  go_loopw [3, 4] (fun vs vi wr => ∃ (k : Nat) (j : Int), vi = .int .i64 j ∧ Hid (j = 63 - (k : Int)) ∧ k ≤ 64 ∧ Below W.heap.size W wr ∧ wr.ownsRow W.heap.size 5 1 vs k (u8s (bin k (hi / 2 ^ (64 - k)))))
    (fun _ vi _ => (intOf vi + 1).toNat)
  case atStart => exact ⟨0, 63, rfl, (by omega : (63 : Int) = 63 - ((0 : Nat) : Int)), by omega, Below.refl _ _, World.ownsRow_nil _ _ _ _⟩
  case round =>
    obtain ⟨k, j, rfl, Hj, hk, hb, hown⟩ := hrel
    have hzz := hb.size
    have hj := Hj.out
    by_cases hk64 : k < 64
    · have hc := (bcell hb).1 w.heap.size 1 hsz
      rw [c1] at hc
      have hj0 : 0 ≤ j := by omega
      have hj1 : j ≤ 63 := by omega
      obtain ⟨m, hm⟩ : ∃ m, m = hi / 2 ^ (63 - k) := ⟨_, rfl⟩
      have hm1 : m < 18446744073709551616 := by rw [hm]; exact Nat.lt_of_le_of_lt (Nat.div_le_self _ _) h1
      have hstep : bin (k + 1) (hi / 2 ^ (64 - (k + 1))) = bin k (hi / 2 ^ (64 - k)) ++ [hexd (m % 2)] := by
        rw [bin, Nat.div_div_eq_div_mul, ← Nat.pow_succ, show (64 - (k + 1)).succ = 64 - k by omega, show 64 - (k + 1) = 63 - k by omega, ← hm]
      have hsh : (hi : Int) / 2 ^ j.toNat = (m : Int) := by rw [hm, show j.toNat = 63 - k by omega]; simp
      have HS : Hid (bin (k + 1) (hi / 2 ^ (64 - (k + 1))) = bin k (hi / 2 ^ (64 - k)) ++ [hexd (m % 2)]) := hstep
      obtain ⟨r, hr⟩ : ∃ r : Int, (m : Int) % 2 = r := ⟨_, rfl⟩
      have HE : Hid (((hexd (m % 2)).toNat : Int) = 48 + r) := by rw [← hr]; exact hexd_bit m
      have r0 : 0 ≤ r := by omega
      have r1 : r ≤ 1 := by omega
      have Hj2 : Hid (j - 1 = 63 - ((k + 1 : Nat) : Int)) := (by omega : j - 1 = 63 - ((k + 1 : Nat) : Int))
      clear hstep hm hj
      have HO : Hid (wr.ownsRow W.heap.size 5 1 u3 k (u8s (bin k (hi / 2 ^ (64 - k))))) := hown
      clear hown
      go_wp2_with (at_builtin; refine wpList_append_own _ rfl _ _ 77 rfl W.heap.size 5 i0 (.int .u8 0) 1 1 Try.underlying77 hi0 hz0 hz1 hz2 rfl (by decide) _ _ _ rfl (HO.out.alloc _) ⟨wr.heap.size, 0, none⟩ 1 1 [.int .u8 (48 + r)] rfl rfl ?c1 ?c2 ?c3 ?c4 ?c5 ?_)
      case c1 =>
        intro j u hj
        match j, hj with
        | 0, hj => simp at hj; subst hj; simp [Addr.add]
      case c2 => intro u hu; simp at hu; subst hu; rfl
      case c3 => unfold maxLen; omega
      case c4 => omega
      case c5 => simp; omega
      intro v' w3 hown' hgrow _
      have hb3 : Below W.heap.size W w3 := (bal hb _).grown hgrow (by simp; omega) (fun k hk => (HO.out.lt k hk).1)
      have HR : Hid (w3.ownsRow W.heap.size 5 1 v' (k + 1) (u8s (bin (k + 1) (hi / 2 ^ (64 - (k + 1)))))) := by
        rw [HS.out, u8s_append, show u8s [hexd (m % 2)] = [.int .u8 (48 + r)] by simp [u8s, HE.out]]; exact hown'
      clear hown' hgrow HO
      go_wp2
      go_roundw
      case rel => exact ⟨k + 1, j - 1, rfl, Hj2, by omega, hb3, HR⟩
      case measure => simp [intOf]; omega
    · have hk2 : k = 64 := by omega
      subst hk2
      have hj2 : j = -1 := by omega
      subst hj2
      clear Hj
      have HO : Hid (wr.ownsRow W.heap.size 5 1 u3 64 (u8s (bin 64 hi))) := by have := hown; rw [Nat.sub_self, Nat.pow_zero, Nat.div_one] at this; exact this
      clear hown hj hk64
      go_wp2_with fail
      go_loopw [3, 5] (fun vs vi wr => ∃ (k : Nat) (j : Int), vi = .int .i64 j ∧ Hid (j = 63 - (k : Int)) ∧ k ≤ 64 ∧ Below W.heap.size W wr ∧ wr.ownsRow W.heap.size 5 1 vs (64 + k) (u8s (bin 64 hi ++ bin k (lo / 2 ^ (64 - k)))))
        (fun _ vi _ => (intOf vi + 1).toNat)
      case atStart => exact ⟨0, 63, rfl, (by omega : (63 : Int) = 63 - ((0 : Nat) : Int)), by omega, hb, by rw [bin, List.append_nil]; exact HO.out⟩
      case round =>
        clear HO hb hzz
        obtain ⟨k, j, rfl, Hj, hk, hb, hown⟩ := hrel
        have hzz := hb.size
        have hj := Hj.out
        by_cases hk64 : k < 64
        · have hc := (bcell hb).1 w.heap.size 2 hsz
          rw [c2] at hc
          have hj0 : 0 ≤ j := by omega
          have hj1 : j ≤ 63 := by omega
          obtain ⟨m, hm⟩ : ∃ m, m = lo / 2 ^ (63 - k) := ⟨_, rfl⟩
          have hm1 : m < 18446744073709551616 := by rw [hm]; exact Nat.lt_of_le_of_lt (Nat.div_le_self _ _) l1
          have hstep : bin (k + 1) (lo / 2 ^ (64 - (k + 1))) = bin k (lo / 2 ^ (64 - k)) ++ [hexd (m % 2)] := by
            rw [bin, Nat.div_div_eq_div_mul, ← Nat.pow_succ, show (64 - (k + 1)).succ = 64 - k by omega, show 64 - (k + 1) = 63 - k by omega, ← hm]
          have hsh : (lo : Int) / 2 ^ j.toNat = (m : Int) := by rw [hm, show j.toNat = 63 - k by omega]; simp
          have HS : Hid (bin (k + 1) (lo / 2 ^ (64 - (k + 1))) = bin k (lo / 2 ^ (64 - k)) ++ [hexd (m % 2)]) := hstep
          obtain ⟨r, hr⟩ : ∃ r : Int, (m : Int) % 2 = r := ⟨_, rfl⟩
          have HE : Hid (((hexd (m % 2)).toNat : Int) = 48 + r) := by rw [← hr]; exact hexd_bit m
          have r0 : 0 ≤ r := by omega
          have r1 : r ≤ 1 := by omega
          have Hj2 : Hid (j - 1 = 63 - ((k + 1 : Nat) : Int)) := (by omega : j - 1 = 63 - ((k + 1 : Nat) : Int))
          clear hstep hm hj
          have HO : Hid (wr.ownsRow W.heap.size 5 1 u3 (64 + k) (u8s (bin 64 hi ++ bin k (lo / 2 ^ (64 - k))))) := hown
          clear hown
          go_wp2_with (at_builtin; refine wpList_append_own _ rfl _ _ 77 rfl W.heap.size 5 i0 (.int .u8 0) 1 1 Try.underlying77 hi0 hz0 hz1 hz2 rfl (by decide) _ _ _ rfl (HO.out.alloc _) ⟨wr.heap.size, 0, none⟩ 1 1 [.int .u8 (48 + r)] rfl rfl ?c1 ?c2 ?c3 ?c4 ?c5 ?_)
          case c1 =>
            intro j u hj
            match j, hj with
            | 0, hj => simp at hj; subst hj; simp [Addr.add]
          case c2 => intro u hu; simp at hu; subst hu; rfl
          case c3 => unfold maxLen; omega
          case c4 => omega
          case c5 => simp; omega
          intro v' w3 hown' hgrow _
          have hb3 : Below W.heap.size W w3 := (bal hb _).grown hgrow (by simp; omega) (fun k hk => (HO.out.lt k hk).1)
          have HR : Hid (w3.ownsRow W.heap.size 5 1 v' (64 + (k + 1)) (u8s (bin 64 hi ++ bin (k + 1) (lo / 2 ^ (64 - (k + 1)))))) := by
            rw [HS.out, ← List.append_assoc, u8s_append, show u8s [hexd (m % 2)] = [.int .u8 (48 + r)] by simp [u8s, HE.out]]; exact hown'
          clear hown' hgrow HO
          go_wp2
          go_roundw
          case rel => exact ⟨k + 1, j - 1, rfl, Hj2, by omega, hb3, HR⟩
          case measure => simp [intOf]; omega
        · have hk2 : k = 64 := by omega
          subst hk2
          have hj2 : j = -1 := by omega
          subst hj2
          clear Hj
          have HO : wr.ownsRow W.heap.size 5 1 u3 128 (u8s (bin 64 hi ++ bin 64 lo)) := by have := hown; rw [Nat.sub_self, Nat.pow_zero, Nat.div_one] at this; exact this
          clear hown hj hk64
          obtain ⟨g, c, rfl, hc1, hc2, hc3, hcell⟩ := own_u8 HO (by decide)
          have hc := (bcell hb).1 w.heap.size 0 hsz
          rw [c0] at hc
          have HF : Hid (Below w.heap.size w wr) := btr HB0.out hb
          clear HO hk
          cases v
          · have hcv : ∀ W' : World, W' = wr → (convert 77 9 (.slice (some ⟨g, 96, none⟩) 32 (c - 96))).run Try.prog W' = .ok (.string ⟨(bin 32 lo).toArray⟩) W' := by
              rintro _ rfl
              refine cvt _ g 96 (c - 96) (bin 32 lo) 32 (bin_length _ _).symm (fun j hj => ?_)
              rw [bin_length] at hj
              rw [hcell (96 + j) (by rw [List.length_append, bin_length, bin_length]; omega)]
              have e : bin 64 hi ++ bin 64 lo = (bin 64 hi ++ bin 32 (lo / 2 ^ 32)) ++ bin 32 lo := by rw [List.append_assoc, ← bin_split 32 32]
              simp only [e]
              rw [List.getElem_append_right (by rw [List.length_append, bin_length, bin_length]; omega)]
              simp only [List.length_append, bin_length, Nat.add_sub_cancel_left]
            have hsl : ∀ W' : World, (Instr.sliceAt 77 (.slice (some ⟨g, 0, none⟩) 128 c) (some (.int .i64 96)) none none).run Try.prog W' = .ok (.slice (some ⟨g, 96, none⟩) 32 (c - 96)) W' := by
              intro W'
              have h3 : ¬ c = 96 := by omega
              simp [go_sem, h3]
            have hT : bin 32 lo = T := HT.out
            rw [hT] at hcv
            clear hcell c1 c2 hc3
            go_wp2_with fail
            go_ret
            exact ⟨rfl, HF.out⟩
          · have hcv : ∀ W' : World, W' = wr → (convert 77 9 (.slice (some ⟨g, 0, none⟩) 128 c)).run Try.prog W' = .ok (.string ⟨(bin 64 hi ++ bin 64 lo).toArray⟩) W' := by
              rintro _ rfl
              refine cvt _ g 0 c (bin 64 hi ++ bin 64 lo) 128 (by rw [List.length_append, bin_length, bin_length]) (fun j hj => ?_)
              rw [Nat.zero_add]
              exact hcell j hj
            have hT : bin 64 hi ++ bin 64 lo = T := HT.out
            rw [hT] at hcv
            clear hcell c1 c2 hc3
            go_wp2_with fail
            go_ret
            exact ⟨rfl, HF.out⟩

theorem take_snoc (l : List UInt8) (k : Nat) (h : k < l.length) : l.take (k + 1) = l.take k ++ [l[k]] := List.take_succ_eq_append_getElem h

theorem vbin_snoc (l : List UInt8) (c : UInt8) : vbin 0 (l ++ [c]) = vbin 0 l * 2 + bitv c := by rw [vbin_append, vbin, vbin]

set_option maxHeartbeats 8000000 in
set_option maxRecDepth 100000 in
theorem addrOf_any (s : ByteArray) (w : World) (hs : s.size ≤ 128) (hb : IsBin s.data.toList) :
    Calls Try.prog 47 #[.string s] w fun e w' => e = .returned (.agg #[.bool (decide (s.size = 128)), .int .u64 (vbin 0 (s.data.toList.take (s.size - 64))), .int .u64 (vbin 0 (s.data.toList.drop (s.size - 64)))]) ∧ Below w.heap.size w w' := by
  have hl := size_list s
  obtain ⟨b8, hb8⟩ : ∃ b, ((s.size : Int) == 128) = b := ⟨_, rfl⟩
  have HB8 : Hid (decide (s.size = 128) = b8) := by
    rw [Hid, ← hb8]
    by_cases h : s.size = 128
    · simp [h]
    · have : ((s.size : Int) == 128) = false := by rw [beq_eq_false_iff_ne]; omega
      rw [this]; simp [h]
  obtain ⟨N, hN⟩ : ∃ N, N = s.size := ⟨_, rfl⟩
  have HN : Hid (N = s.size) := hN
  go_enter Try.func47, Try.ntmps47
  go_wp2_with fail
  go_loopw [4] (fun vi wr => ∃ (k : Nat) (h l : Int), vi = .int .i64 k ∧ k ≤ N ∧ 0 ≤ h ∧ h < 18446744073709551616 ∧ 0 ≤ l ∧ l < 18446744073709551616 ∧
      wr = (w.alloc (.cells #[.bool false, .int .u64 0, .int .u64 0] 24)).alloc (.cells #[.bool b8, .int .u64 h, .int .u64 l] 24) ∧
      Hid (h = (vbin 0 (s.data.toList.take (min k (N - 64))) : Nat) ∧ l = (vbin 0 ((s.data.toList.take k).drop (N - 64)) : Nat)))
    (fun vi _ => N - (intOf vi).toNat)
  case atStart => exact ⟨0, 0, 0, rfl, Nat.zero_le _, by omega, by omega, by omega, by omega, rfl, by simp [vbin], by simp [vbin]⟩
  case round =>
    obtain ⟨k, h, l, rfl, hk, h0, h1, l0, l1, rfl, hh⟩ := hrel
    have hN := HN.out
    by_cases hkN : k < N
    · have hks : k < s.size := by omega
      have hmem : s[k] ∈ s.data.toList := by rw [← data_get s k hks]; exact List.getElem_mem _
      have hbit := hb _ hmem
      have hc1 : 48 ≤ (s[k].toNat : Int) ∧ (s[k].toNat : Int) ≤ 49 := by rcases hbit with h | h <;> rw [h] <;> decide
      obtain ⟨hc1, hc2⟩ := hc1
      have hbv : (s[k].toNat : Int) - 48 = (bitv s[k] : Nat) := by rcases hbit with h | h <;> simp [bitv, h]
      have hki : (k : Int) < (s.size : Int) := by omega
      have hk0 : (0 : Int) ≤ (k : Int) := by omega
      have hsk : s[k]? = some s[k] := by simp [hks]
      have hsn := take_snoc s.data.toList k (by omega)
      rw [data_get s k hks] at hsn
      obtain ⟨e1, e2⟩ := hh.out
      by_cases hc : 64 < N - k
      · have hci : 64 < (s.size : Int) - (k : Int) := by omega
        have hlt : h < 9223372036854775808 := by
          rw [e1]
          have h3 := vbin_lt0 (s.data.toList.take (min k (N - 64)))
          have h4 : 2 ^ (s.data.toList.take (min k (N - 64))).length ≤ 2 ^ 63 := Nat.pow_le_pow_right (by decide) (by rw [List.length_take]; omega)
          omega
        have HR : Hid (2 * h + ((s[k].toNat : Int) - 48) = (vbin 0 (s.data.toList.take (min (k + 1) (N - 64))) : Nat) ∧ l = (vbin 0 ((s.data.toList.take (k + 1)).drop (N - 64)) : Nat)) := by
          constructor
          · rw [show min (k + 1) (N - 64) = k + 1 by omega, hsn, vbin_snoc, hbv, e1, show min k (N - 64) = k by omega]; omega
          · rw [e2, List.drop_eq_nil_of_le (by rw [List.length_take]; omega), List.drop_eq_nil_of_le (by rw [List.length_take]; omega)]
        clear hsn e1 e2 hh hbit hbv hmem hc
        go_wp2_with fail
        exact ⟨⟨k + 1, _, _, by go_num, by omega, by omega, by omega, by omega, by omega, rfl, HR⟩, by simp [intOf]; omega⟩
      · have hci : ¬ 64 < (s.size : Int) - (k : Int) := by omega
        have hlt : l < 9223372036854775808 := by
          rw [e2]
          have h3 := vbin_lt0 ((s.data.toList.take k).drop (N - 64))
          have h4 : 2 ^ ((s.data.toList.take k).drop (N - 64)).length ≤ 2 ^ 63 := Nat.pow_le_pow_right (by decide) (by rw [List.length_drop, List.length_take]; omega)
          omega
        have HR : Hid (h = (vbin 0 (s.data.toList.take (min (k + 1) (N - 64))) : Nat) ∧ 2 * l + ((s[k].toNat : Int) - 48) = (vbin 0 ((s.data.toList.take (k + 1)).drop (N - 64)) : Nat)) := by
          constructor
          · rw [show min (k + 1) (N - 64) = N - 64 by omega, e1, show min k (N - 64) = N - 64 by omega]
          · rw [hsn, List.drop_append_of_le_length (by rw [List.length_take]; omega), vbin_snoc, hbv, e2]; omega
        clear hsn e1 e2 hh hbit hbv hmem hc
        go_wp2_with fail
        exact ⟨⟨k + 1, _, _, by go_num, by omega, by omega, by omega, by omega, by omega, rfl, HR⟩, by simp [intOf]; omega⟩
    · have hk2 : k = N := by omega
      have HR : Hid (h = (vbin 0 (s.data.toList.take (s.size - 64)) : Nat) ∧ l = (vbin 0 (s.data.toList.drop (s.size - 64)) : Nat)) := by
        obtain ⟨e1, e2⟩ := hh.out
        rw [hk2, hN] at e1 e2
        rw [show min s.size (s.size - 64) = s.size - 64 by omega] at e1
        rw [List.take_of_length_le (by omega)] at e2
        exact ⟨e1, e2⟩
      have hki : ¬ (k : Int) < (s.size : Int) := by omega
      clear hh hk2
      go_wp2_with fail
      obtain ⟨e1, e2⟩ := HR.out
      rw [HB8.out, ← e1, ← e2]
      refine bodyPost_ret (v := .agg #[.bool b8, .int .u64 h, .int .u64 l]) ?_ rfl ⟨rfl, ?_⟩
      · simp [results, Try.results47, go_sem]
      · repeat (first | exact Below.refl _ _ | apply bal | apply Below.drew)

theorem bitsT_bin (v : Bool) (hi lo : Nat) : IsBin (bitsT v hi lo) := by
  unfold bitsT
  split
  · intro c hc
    rcases List.mem_append.1 hc with h | h
    · exact bin_isBin _ _ c h
    · exact bin_isBin _ _ c h
  · exact bin_isBin _ _

theorem bitsT_length (v : Bool) (hi lo : Nat) : (bitsT v hi lo).length = if v then 128 else 32 := by
  unfold bitsT
  split
  · rw [List.length_append, bin_length, bin_length]
  · rw [bin_length]

theorem bitsT_num (v : Bool) (hi lo : Nat) (h1 : hi < 18446744073709551616) (l1 : lo < 18446744073709551616) (hv : v = true ∨ (hi = 0 ∧ lo ≤ 4294967295)) :
    vbin 0 (bitsT v hi lo) = hi * 18446744073709551616 + lo := by
  cases v
  · simp at hv
    rw [bitsT, if_neg (by decide), vbin_bin, hv.1]
    have : lo % 2 ^ 32 = lo := Nat.mod_eq_of_lt (by omega)
    omega
  · rw [bitsT, if_pos rfl, vbin_append, vbin_bin, vbin_bin]
    have h2 : hi % 2 ^ 64 = hi := Nat.mod_eq_of_lt (by omega)
    have h3 : lo % 2 ^ 64 = lo := Nat.mod_eq_of_lt (by omega)
    omega

theorem keep33 {w W W' : World} {p q : Nat} {x y z x2 y2 z2 : Value}
    (h : Has3 W p x y z ∧ Has3 W q x2 y2 z2 ∧ Below w.heap.size w W) (hb : Below W.heap.size W W') : Has3 W' p x y z ∧ Has3 W' q x2 y2 z2 ∧ Below w.heap.size w W' :=
  ⟨h.1.below hb, h.2.1.below hb, btr h.2.2 hb⟩

theorem vbin_cut (l : List UInt8) (b : Nat) : vbin 0 l = vbin 0 (l.take b) * 2 ^ (l.drop b).length + vbin 0 (l.drop b) := by
  have := vbin_append (l.take b) (l.drop b) 0
  rw [List.take_append_drop, vbin_add (l.drop b)] at this
  exact this

theorem vbin_div (l : List UInt8) (b : Nat) : vbin 0 l / 2 ^ (l.drop b).length = vbin 0 (l.take b) ∧ vbin 0 l % 2 ^ (l.drop b).length = vbin 0 (l.drop b) := by
  have h1 := vbin_cut l b
  have h2 := vbin_lt0 (l.drop b)
  have hp : 0 < 2 ^ (l.drop b).length := Nat.pow_pos (by decide)
  constructor
  · rw [h1, Nat.mul_comm, Nat.mul_add_div hp, Nat.div_eq_of_lt h2, Nat.add_zero]
  · rw [h1, Nat.mul_comm, Nat.mul_add_mod, Nat.mod_eq_of_lt h2]

theorem vbin_zero : ∀ r : List UInt8, IsBin r → (vbin 0 r = 0 ↔ ∀ c ∈ r, c = 48)
  | [], _ => by simp [vbin]
  | c :: r, h => by
    have ih := vbin_zero r (fun x hx => h x (List.mem_cons_of_mem _ hx))
    have hp : 0 < 2 ^ r.length := Nat.pow_pos (by decide)
    rw [vbin, vbin_add]
    rcases h c (by simp) with rfl | rfl
    · simp [bitv, ih]
    · simp [bitv]

theorem vbin_ones : ∀ (k acc : Nat), vbin acc (List.replicate k 49) + 1 = (acc + 1) * 2 ^ k
  | 0, acc => by simp [vbin]
  | k + 1, acc => by
    rw [List.replicate_succ, vbin, vbin_ones k, Nat.pow_succ]
    simp [bitv]
    rw [show acc * 2 + 1 + 1 = (acc + 1) * 2 by omega, Nat.mul_assoc, Nat.mul_comm 2]

theorem bin_inj : ∀ (l r : List UInt8), IsBin l → IsBin r → l.length = r.length → vbin 0 l = vbin 0 r → l = r
  | [], [], _, _, _, _ => rfl
  | [], b :: r, _, _, h, _ => by simp at h
  | a :: l, [], _, _, h, _ => by simp at h
  | a :: l, b :: r, hl, hr, h, e => by
    have h' : l.length = r.length := by simpa using h
    have x1 := vbin_lt0 l
    have x2 := vbin_lt0 r
    rw [vbin, vbin, vbin_add l, vbin_add r, h'] at e
    rw [h'] at x1
    have ih := bin_inj l r (fun c hc => hl c (List.mem_cons_of_mem _ hc)) (fun c hc => hr c (List.mem_cons_of_mem _ hc)) h'
    rcases hl a (by simp) with rfl | rfl <;> rcases hr b (by simp) with rfl | rfl
    · rw [ih (by simpa [bitv] using e)]
    · simp [bitv] at e; omega
    · simp [bitv] at e; omega
    · rw [ih (by simp [bitv] at e; omega)]

theorem vbin_set (l : List UInt8) (b : Nat) (hb : b < l.length) (h0 : l[b] = 48) : vbin 0 (l.set b 49) = vbin 0 l + 2 ^ (l.length - b - 1) := by
  have e1 : l = l.take b ++ 48 :: l.drop (b + 1) := by
    rw [← h0, ← List.drop_eq_getElem_cons hb, List.take_append_drop]
  have e2 : l.set b 49 = l.take b ++ 49 :: l.drop (b + 1) := by rw [List.set_eq_take_append_cons_drop, if_pos hb]
  have h3 : (l.drop (b + 1)).length = l.length - b - 1 := by rw [List.length_drop]; omega
  rw [e2, vbin_append, vbin, vbin_add]
  conv => rhs; rw [e1]
  rw [vbin_append, vbin, vbin_add (l.drop (b + 1)) (vbin 0 (l.take b) * 2 + bitv 48), h3]
  rw [← h3, List.length_append, List.length_cons, List.length_take]
  simp only [bitv, List.length_drop]
  rw [show min b l.length + (l.length - (b + 1) + 1) - b - 1 = l.length - (b + 1) by omega]
  simp [Nat.add_mul]
  omega

/-- What AddrOf makes of bits, as a number. -/
theorem parts_num (R : List UInt8) (h : R.length = 128 ∨ R.length = 32) :
    vbin 0 (R.take (R.length - 64)) * 18446744073709551616 + vbin 0 (R.drop (R.length - 64)) = vbin 0 R ∧ vbin 0 (R.take (R.length - 64)) < 18446744073709551616 ∧ vbin 0 (R.drop (R.length - 64)) < 18446744073709551616 := by
  rcases h with h | h
  · have h1 := vbin_cut R 64
    have h2 : (R.drop 64).length = 64 := by rw [List.length_drop, h]
    have h3 : (R.take 64).length = 64 := by rw [List.length_take, h]; rfl
    have h4 := vbin_lt0 (R.drop 64)
    have h5 := vbin_lt0 (R.take 64)
    rw [h2] at h1 h4
    rw [h3] at h5
    rw [h, show (128 : Nat) - 64 = 64 from rfl]
    omega
  · rw [h, show (32 : Nat) - 64 = 0 from rfl, List.take_zero, List.drop_zero]
    have := vbin_lt0 R
    rw [h] at this
    simp only [vbin]
    omega

/-- Bytes lie in a row. -/
def RowU (W : World) (B : Nat) (R : List UInt8) : Prop := ∀ (j : Nat) (c : UInt8), R[j]? = some c → W.cell? ⟨B, j, none⟩ = some (.int .u8 (c.toNat : Int)) ∧ W.frozen? ⟨B, j, none⟩ = false

theorem RowU.set {W : World} {B : Nat} {R : List UInt8} (h : RowU W B R) (m : Nat) (hm : m < R.length) (c : UInt8) : RowU (W.setCell ⟨B, m, none⟩ (.int .u8 (c.toNat : Int))) B (R.set m c) := by
  intro j d hj
  by_cases hjm : j = m
  · subst hjm
    rw [List.getElem?_set_self hm] at hj
    injection hj with hj; subst hj
    obtain ⟨h1, h2⟩ := h j R[j] (List.getElem?_eq_getElem hm)
    exact ⟨World.cell?_setCell_same (w := W) (a := ⟨B, j, none⟩) (v := .int .u8 (c.toNat : Int)) (h := h1), by rw [World.frozen?_setCell]; exact h2⟩
  · rw [List.getElem?_set_ne (Ne.symm hjm)] at hj
    obtain ⟨h1, h2⟩ := h j d hj
    refine ⟨?_, by rw [World.frozen?_setCell]; exact h2⟩
    rw [World.cell?_setCell_other (w := W) (a := ⟨B, m, none⟩) (b := ⟨B, j, none⟩) (v := .int .u8 (c.toNat : Int)) (h := by intro e; injection e with _ e; exact hjm e.symm)]
    exact h1

theorem RowU.below {W W' : World} {B : Nat} {R : List UInt8} (h : RowU W B R) (hB : B < W.heap.size) (hb : Below W.heap.size W W') : RowU W' B R := by
  intro j d hj
  obtain ⟨h1, h2⟩ := h j d hj
  exact ⟨by rw [(bcell hb).1 B j hB]; exact h1, by rw [(bcell hb).2 B j hB]; exact h2⟩

theorem Has3.store {W : World} {p : Nat} {x y z : Value} (h : Has3 W p x y z) (x' y' z' : Value) :
    Has3 (((W.setCell ⟨p, 0, none⟩ x').setCell ⟨p, 1, none⟩ y').setCell ⟨p, 2, none⟩ z') p x' y' z' := by
  obtain ⟨h0, h1, h2, h3⟩ := h
  have ne : ∀ a b : Nat, a ≠ b → (⟨p, a, none⟩ : Addr) ≠ ⟨p, b, none⟩ := by intro a b hab e; injection e with _ e; exact hab e
  refine ⟨?_, ?_, ?_, by simpa using h3⟩
  · rw [World.cell?_setCell_other (h := ne 2 0 (by decide)), World.cell?_setCell_other (h := ne 1 0 (by decide))]
    exact World.cell?_setCell_same _ _ _ h0
  · rw [World.cell?_setCell_other (h := ne 2 1 (by decide))]
    exact World.cell?_setCell_same _ _ _ (u := y) (by rw [World.cell?_setCell_other (h := ne 0 1 (by decide))]; exact h1)
  · exact World.cell?_setCell_same _ _ _ (u := z) (by rw [World.cell?_setCell_other (h := ne 1 2 (by decide)), World.cell?_setCell_other (h := ne 0 2 (by decide))]; exact h2)

theorem conv_bytes (W : World) (s : ByteArray) : ∃ (c : Nat) (W2 : World), (convert 9 77 (.string s)).run Try.prog W = .ok (.slice (some ⟨W.heap.size, 0, none⟩) s.size c) W2 ∧
    RowU W2 W.heap.size s.data.toList ∧ Below W.heap.size W W2 ∧ W2.heap.size = W.heap.size + 1 := by
  refine ⟨_, _, run_bytes_of_string (P := Try.prog) W 9 77 5 s Try.underlying9 Try.underlying77 Try.underlying5, ?_, ?_, by simp⟩
  · intro j c hj
    have hj2 : j < s.data.toList.length := (List.getElem?_eq_some_iff.1 hj).1
    have hj3 : j < s.data.size := by simpa using hj2
    constructor
    · have hc : s.data[j] = c := by have := (List.getElem?_eq_some_iff.1 hj).2; simpa using this
      simp [World.cell?, bytesRow, World.alloc, World.drew, -World.alloc_eq, -World.drew_eq, Array.getElem?_append, hj3, hc]
      rw [if_pos (show j < s.size from hj3), Array.getElem?_eq_getElem hj3, hc]; rfl
    · rw [show W.heap.size = W.drew.heap.size from rfl, World.frozen?_alloc_mark]
      have hz : (bytesRow s (grownCap W s.size 0 5)).size = s.data.size + (grownCap W s.size 0 5 - s.size) := by simp [bytesRow]
      have : ¬ (bytesRow s (grownCap W s.size 0 5)).size ≤ j := by rw [hz]; omega
      simp [this]
  · exact (((Below.refl _ W).drew).alloc (Nat.le_refl _) _)

end Go.Proofs.Ytiiankekobgebaa
