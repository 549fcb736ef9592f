/- The document's answer: AddrOf: an address of its bits. -/
import Derived.Test.YtollaiabcnmebaaDoorRfC
set_option linter.unusedVariables false
set_option linter.unusedSimpArgs false
namespace Go.Proofs.YtollaiabcnmebaaDoor
open Go.RowKit

theorem take_snoc (l : List UInt8) (k : Nat) (h : k < l.length) : l.take (k + 1) = l.take k ++ [l[k]] := List.take_succ_eq_append_getElem h
theorem vbin_snoc (l : List UInt8) (c : UInt8) : vbin 0 (l ++ [c]) = vbin 0 l * 2 + bitv c := by rw [vbin_append, vbin, vbin]

set_option maxHeartbeats 8000000 in
set_option maxRecDepth 100000 in
theorem addrOf_any (s : ByteArray) (w : World) (hs : s.size ≤ 128) (hb : IsBin s.data.toList) :
    Calls Tryd.prog 24 #[.string s] w fun e w' => e = .returned (.agg #[.bool (decide (s.size = 128)), .int .u64 (vbin 0 (s.data.toList.take (s.size - 64))), .int .u64 (vbin 0 (s.data.toList.drop (s.size - 64)))]) ∧ Below w.heap.size w w' := by
  have hl := size_list s
  obtain ⟨b8, hb8⟩ : ∃ b, ((s.size : Int) == 128) = b := ⟨_, rfl⟩
  have HB8 : Hid (decide (s.size = 128) = b8) := by
    rw [Hid, ← hb8]
    by_cases h : s.size = 128
    · simp [h]
    · have : ((s.size : Int) == 128) = false := by rw [beq_eq_false_iff_ne]; omega
      rw [this]; simp [h]
  obtain ⟨N, hN⟩ : ∃ N, N = s.size := ⟨_, rfl⟩
  have HN : Hid (N = s.size) := hN
  go_enter Tryd.func24, Tryd.ntmps24
  go_wp2_with fail
  go_loopw [4] (fun vi wr => ∃ (k : Nat) (h l : Int), vi = .int .i64 k ∧ k ≤ N ∧ 0 ≤ h ∧ h < 18446744073709551616 ∧ 0 ≤ l ∧ l < 18446744073709551616 ∧
      wr = (w.alloc (.cells #[.bool false, .int .u64 0, .int .u64 0] 24)).alloc (.cells #[.bool b8, .int .u64 h, .int .u64 l] 24) ∧
      Hid (h = (vbin 0 (s.data.toList.take (min k (N - 64))) : Nat) ∧ l = (vbin 0 ((s.data.toList.take k).drop (N - 64)) : Nat)))
    (fun vi _ => N - (intOf vi).toNat)
  case atStart => exact ⟨0, 0, 0, rfl, Nat.zero_le _, by omega, by omega, by omega, by omega, rfl, by simp [vbin], by simp [vbin]⟩
  case round =>
    obtain ⟨k, h, l, rfl, hk, h0, h1, l0, l1, rfl, hh⟩ := hrel
    have hN := HN.out
    by_cases hkN : k < N
    · have hks : k < s.size := by omega
      have hmem : s[k] ∈ s.data.toList := by rw [← data_get s k hks]; exact List.getElem_mem _
      have hbit := hb _ hmem
      have hc1 : 48 ≤ (s[k].toNat : Int) ∧ (s[k].toNat : Int) ≤ 49 := by rcases hbit with h | h <;> rw [h] <;> decide
      obtain ⟨hc1, hc2⟩ := hc1
      have hbv : (s[k].toNat : Int) - 48 = (bitv s[k] : Nat) := by rcases hbit with h | h <;> simp [bitv, h]
      have hki : (k : Int) < (s.size : Int) := by omega
      have hk0 : (0 : Int) ≤ (k : Int) := by omega
      have hsk : s[k]? = some s[k] := by simp [hks]
      have hsn := take_snoc s.data.toList k (by omega)
      rw [data_get s k hks] at hsn
      obtain ⟨e1, e2⟩ := hh.out
      by_cases hc : 64 < N - k
      · have hci : 64 < (s.size : Int) - (k : Int) := by omega
        have hlt : h < 9223372036854775808 := by
          rw [e1]
          have h3 := vbin_lt0 (s.data.toList.take (min k (N - 64)))
          have h4 : 2 ^ (s.data.toList.take (min k (N - 64))).length ≤ 2 ^ 63 := Nat.pow_le_pow_right (by decide) (by rw [List.length_take]; omega)
          omega
        have HR : Hid (2 * h + ((s[k].toNat : Int) - 48) = (vbin 0 (s.data.toList.take (min (k + 1) (N - 64))) : Nat) ∧ l = (vbin 0 ((s.data.toList.take (k + 1)).drop (N - 64)) : Nat)) := by
          constructor
          · rw [show min (k + 1) (N - 64) = k + 1 by omega, hsn, vbin_snoc, hbv, e1, show min k (N - 64) = k by omega]; omega
          · rw [e2, List.drop_eq_nil_of_le (by rw [List.length_take]; omega), List.drop_eq_nil_of_le (by rw [List.length_take]; omega)]
        clear hsn e1 e2 hh hbit hbv hmem hc
        go_wp2_with fail
        exact ⟨⟨k + 1, _, _, by go_num, by omega, by omega, by omega, by omega, by omega, rfl, HR⟩, by simp [intOf]; omega⟩
      · have hci : ¬ 64 < (s.size : Int) - (k : Int) := by omega
        have hlt : l < 9223372036854775808 := by
          rw [e2]
          have h3 := vbin_lt0 ((s.data.toList.take k).drop (N - 64))
          have h4 : 2 ^ ((s.data.toList.take k).drop (N - 64)).length ≤ 2 ^ 63 := Nat.pow_le_pow_right (by decide) (by rw [List.length_drop, List.length_take]; omega)
          omega
        have HR : Hid (h = (vbin 0 (s.data.toList.take (min (k + 1) (N - 64))) : Nat) ∧ 2 * l + ((s[k].toNat : Int) - 48) = (vbin 0 ((s.data.toList.take (k + 1)).drop (N - 64)) : Nat)) := by
          constructor
          · rw [show min (k + 1) (N - 64) = N - 64 by omega, e1, show min k (N - 64) = N - 64 by omega]
          · rw [hsn, List.drop_append_of_le_length (by rw [List.length_take]; omega), vbin_snoc, hbv, e2]; omega
        clear hsn e1 e2 hh hbit hbv hmem hc
        go_wp2_with fail
        exact ⟨⟨k + 1, _, _, by go_num, by omega, by omega, by omega, by omega, by omega, rfl, HR⟩, by simp [intOf]; omega⟩
    · have hk2 : k = N := by omega
      have HR : Hid (h = (vbin 0 (s.data.toList.take (s.size - 64)) : Nat) ∧ l = (vbin 0 (s.data.toList.drop (s.size - 64)) : Nat)) := by
        obtain ⟨e1, e2⟩ := hh.out
        rw [hk2, hN] at e1 e2
        rw [show min s.size (s.size - 64) = s.size - 64 by omega] at e1
        rw [List.take_of_length_le (by omega)] at e2
        exact ⟨e1, e2⟩
      have hki : ¬ (k : Int) < (s.size : Int) := by omega
      clear hh hk2
      go_wp2_with fail
      obtain ⟨e1, e2⟩ := HR.out
      rw [HB8.out, ← e1, ← e2]
      refine bodyPost_ret (v := .agg #[.bool b8, .int .u64 h, .int .u64 l]) ?_ rfl ⟨rfl, ?_⟩
      · simp [results, Tryd.results24, go_sem]
      · repeat (first | exact Below.refl _ _ | apply bal | apply Below.drew)
end Go.Proofs.YtollaiabcnmebaaDoor
