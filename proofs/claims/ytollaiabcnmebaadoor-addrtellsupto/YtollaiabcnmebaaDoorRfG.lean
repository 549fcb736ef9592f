/- The document's answer: groupOf: sixteen bits of a text. -/
import Derived.Test.YtollaiabcnmebaaDoorRfE
set_option linter.unusedVariables false
set_option linter.unusedSimpArgs false
namespace Go.Proofs.YtollaiabcnmebaaDoor
open Go.RowKit

/-- Bits, and whether there are any. -/
def bitT (k : Nat) (o : Option Nat) : Value := match o with | some n => .tuple #[.string ⟨(bin k n).toArray⟩, .bool true] | none => .tuple #[.string ⟨#[]⟩, .bool false]

theorem rhex_lt : ∀ (l : List UInt8) (acc n k : Nat), l.length + k ≤ 4 → acc < 16 ^ k → rhex acc l = some n → n < 16 ^ (l.length + k)
  | [], acc, n, k, _, h, e => by simp [rhex] at e; subst e; simpa using h
  | c :: r, acc, n, k, hk, h, e => by
    have hs : 16 ^ (k + 1) = 16 ^ k * 16 := Nat.pow_succ ..
    have ih := fun a h => rhex_lt r a n (k + 1) (by simp at hk ⊢; omega) h
    rw [List.length_cons, show r.length + 1 + k = r.length + (k + 1) by omega]
    rw [rhex] at e
    split at e
    · exact ih _ (by omega) e
    · split at e
      · exact ih _ (by omega) e
      · split at e
        · exact ih _ (by omega) e
        · cases e

theorem btw_in (n a b : Int) (w : World) (h1 : a ≤ n) (h2 : n ≤ b) :
    Calls Tryd.prog 39 #[.int .i64 n, .int .i64 a, .int .i64 b] w fun e w' => e = .returned (.bool true) ∧ w' = w := by
  have := between_any n a b w
  rw [decide_eq_true h1, decide_eq_true h2] at this
  exact this
theorem btw_out (n a b : Int) (w : World) (h : n < a ∨ b < n) :
    Calls Tryd.prog 39 #[.int .i64 n, .int .i64 a, .int .i64 b] w fun e w' => e = .returned (.bool false) ∧ w' = w := by
  have := between_any n a b w
  rcases h with h | h
  · rw [decide_eq_false (show ¬ a ≤ n by omega), Bool.false_and] at this
    exact this
  · rw [decide_eq_false (show ¬ n ≤ b by omega), Bool.and_false] at this
    exact this

set_option maxHeartbeats 8000000 in
set_option maxRecDepth 100000 in
theorem groupOf_any (s : ByteArray) (w : World) (hs : s.size ≤ 1048576) :
    Calls Tryd.prog 41 #[.string s] w fun e w' => e = .returned (bitT 16 (rgrp s.data.toList)) ∧ Below w.heap.size w w' := by
  have hl := size_list s
  have HB : Hid (∀ (n a b : Int) (w : World), Calls Tryd.prog 39 #[.int .i64 n, .int .i64 a, .int .i64 b] w fun e w' => e = .returned (.bool (decide (a ≤ n) && decide (n ≤ b))) ∧ w' = w) := between_any
  rw [← docG_eq]
  by_cases h14 : 1 ≤ s.size ∧ s.size ≤ 4
  · obtain ⟨hs1, hs4⟩ := h14
    have hd : docG s.data.toList = rhex 0 s.data.toList := by rw [docG, if_pos (by omega)]
    rw [hd]
    have b1 : (decide ((1 : Int) ≤ (s.size : Int)) && decide ((s.size : Int) ≤ 4)) = true := by simp; omega
    have HT : Hid (Calls Tryd.prog 39 #[.int .i64 (s.size : Int), .int .i64 1, .int .i64 4] w fun e w' => e = .returned (.bool true) ∧ w' = w) := by
      have := between_any (s.size : Int) 1 4 w; rw [b1] at this; exact this
    obtain ⟨N, hN⟩ : ∃ N, N = s.size := ⟨_, rfl⟩
    have HN : Hid (N = s.size) := hN
    clear hd b1
    go_enter Tryd.func41, Tryd.ntmps41
    go_wp2_with fail
    refine HT.out.mono ?_
    rintro e w1 ⟨rfl, rfl⟩
    go_wp2_with fail
    go_loop [4, 5] (fun vn vi => ∃ (k acc : Nat) (a : Int), vi = .int .i64 k ∧ vn = .int .i64 a ∧ k ≤ N ∧ 0 ≤ a ∧ a < 65536 ∧ Hid (a = (acc : Int) ∧ acc < 16 ^ k ∧ rhex 0 s.data.toList = rhex acc (s.data.toList.drop k)))
      (fun _ vi => N - (intOf vi).toNat)
    case atStart => exact ⟨0, 0, 0, rfl, rfl, Nat.zero_le _, by omega, by omega, rfl, by decide, rfl⟩
    case round =>
      obtain ⟨k, acc, a, rfl, rfl, hk, a0, a1, hh⟩ := hrel
      have hN := HN.out
      by_cases hkN : k < N
      · obtain ⟨ha, hacc, hdec⟩ := hh.out
        have hks : k < s.size := by omega
        rw [List.drop_eq_getElem_cons (show k < s.data.toList.length by omega), rhex, data_get s k hks] at hdec
        have hki : (k : Int) < (s.size : Int) := by omega
        have hk0 : (0 : Int) ≤ (k : Int) := by omega
        have hpow : 16 ^ k ≤ 16 ^ 3 := Nat.pow_le_pow_right (by decide) (by omega)
        have hsuc : 16 ^ (k + 1) = 16 ^ k * 16 := Nat.pow_succ ..
        have hsk : s[k]? = some s[k] := by simp [hks]
        have hc256 : (s[k].toNat : Int) < 256 := by have := s[k].toNat_lt; omega
        have hcz : (0 : Int) ≤ (s[k].toNat : Int) := by omega
        have ha1 : a < 4096 := by omega
        by_cases c1 : 48 ≤ s[k].toNat ∧ s[k].toNat ≤ 57
        · rw [if_pos c1] at hdec
          have T1 : Hid (∀ w : World, Calls Tryd.prog 39 #[.int .i64 (s[k].toNat : Int), .int .i64 48, .int .i64 57] w fun e w' => e = .returned (.bool true) ∧ w' = w) := fun w => btw_in _ _ _ w (by omega) (by omega)
          have HD : Hid (16 * a + (s[k].toNat : Int) - 48 = ((16 * acc + s[k].toNat - 48 : Nat) : Int) ∧ 16 * acc + s[k].toNat - 48 < 16 ^ (k + 1) ∧ rhex 0 s.data.toList = rhex (16 * acc + s[k].toNat - 48) (s.data.toList.drop (k + 1))) := ⟨by omega, by omega, hdec⟩
          have d1 : 48 ≤ (s[k].toNat : Int) := by omega
          have d2 : (s[k].toNat : Int) ≤ 57 := by omega
          clear hdec hacc hpow ha hh c1 hsuc
          go_wp2_with fail
          refine (T1.out _).mono ?_
          rintro e w2 ⟨rfl, rfl⟩
          go_wp2_with fail
          exact ⟨⟨k + 1, _, _, by go_num, rfl, by omega, by omega, by omega, HD⟩, by simp [intOf]; omega⟩
        · rw [if_neg c1] at hdec
          have T1 : Hid (∀ w : World, Calls Tryd.prog 39 #[.int .i64 (s[k].toNat : Int), .int .i64 48, .int .i64 57] w fun e w' => e = .returned (.bool false) ∧ w' = w) := fun w => btw_out _ _ _ w (by omega)
          by_cases c2 : 97 ≤ s[k].toNat ∧ s[k].toNat ≤ 102
          · rw [if_pos c2] at hdec
            have T2 : Hid (∀ w : World, Calls Tryd.prog 39 #[.int .i64 (s[k].toNat : Int), .int .i64 97, .int .i64 102] w fun e w' => e = .returned (.bool true) ∧ w' = w) := fun w => btw_in _ _ _ w (by omega) (by omega)
            have HD : Hid (16 * a + (s[k].toNat : Int) - 97 + 10 = ((16 * acc + s[k].toNat - 97 + 10 : Nat) : Int) ∧ 16 * acc + s[k].toNat - 97 + 10 < 16 ^ (k + 1) ∧ rhex 0 s.data.toList = rhex (16 * acc + s[k].toNat - 97 + 10) (s.data.toList.drop (k + 1))) := ⟨by omega, by omega, hdec⟩
            have d1 : 97 ≤ (s[k].toNat : Int) := by omega
            have d2 : (s[k].toNat : Int) ≤ 102 := by omega
            clear hdec hacc hpow ha hh c1 c2 hsuc
            go_wp2_with fail
            refine (T1.out _).mono ?_
            rintro e w2 ⟨rfl, rfl⟩
            go_wp2_with fail
            refine (T2.out _).mono ?_
            rintro e w2 ⟨rfl, rfl⟩
            go_wp2_with fail
            exact ⟨⟨k + 1, _, _, by go_num, rfl, by omega, by omega, by omega, HD⟩, by simp [intOf]; omega⟩
          · rw [if_neg c2] at hdec
            have T2 : Hid (∀ w : World, Calls Tryd.prog 39 #[.int .i64 (s[k].toNat : Int), .int .i64 97, .int .i64 102] w fun e w' => e = .returned (.bool false) ∧ w' = w) := fun w => btw_out _ _ _ w (by omega)
            by_cases c3 : 65 ≤ s[k].toNat ∧ s[k].toNat ≤ 70
            · rw [if_pos c3] at hdec
              have T3 : Hid (∀ w : World, Calls Tryd.prog 39 #[.int .i64 (s[k].toNat : Int), .int .i64 65, .int .i64 70] w fun e w' => e = .returned (.bool true) ∧ w' = w) := fun w => btw_in _ _ _ w (by omega) (by omega)
              have HD : Hid (16 * a + (s[k].toNat : Int) - 65 + 10 = ((16 * acc + s[k].toNat - 65 + 10 : Nat) : Int) ∧ 16 * acc + s[k].toNat - 65 + 10 < 16 ^ (k + 1) ∧ rhex 0 s.data.toList = rhex (16 * acc + s[k].toNat - 65 + 10) (s.data.toList.drop (k + 1))) := ⟨by omega, by omega, hdec⟩
              have d1 : 65 ≤ (s[k].toNat : Int) := by omega
              have d2 : (s[k].toNat : Int) ≤ 70 := by omega
              clear hdec hacc hpow ha hh c1 c2 c3 hsuc
              go_wp2_with fail
              refine (T1.out _).mono ?_
              rintro e w2 ⟨rfl, rfl⟩
              go_wp2_with fail
              refine (T2.out _).mono ?_
              rintro e w2 ⟨rfl, rfl⟩
              go_wp2_with fail
              refine (T3.out _).mono ?_
              rintro e w2 ⟨rfl, rfl⟩
              go_wp2_with fail
              exact ⟨⟨k + 1, _, _, by go_num, rfl, by omega, by omega, by omega, HD⟩, by simp [intOf]; omega⟩
            · rw [if_neg c3] at hdec
              have T3 : Hid (∀ w : World, Calls Tryd.prog 39 #[.int .i64 (s[k].toNat : Int), .int .i64 65, .int .i64 70] w fun e w' => e = .returned (.bool false) ∧ w' = w) := fun w => btw_out _ _ _ w (by omega)
              have HD : Hid (rhex 0 s.data.toList = none) := hdec
              clear hdec hacc hpow ha hh c1 c2 c3 hsuc
              go_wp2_with fail
              refine (T1.out _).mono ?_
              rintro e w2 ⟨rfl, rfl⟩
              go_wp2_with fail
              refine (T2.out _).mono ?_
              rintro e w2 ⟨rfl, rfl⟩
              go_wp2_with fail
              refine (T3.out _).mono ?_
              rintro e w2 ⟨rfl, rfl⟩
              go_wp2_with fail
              rw [HD.out]
              go_ret2
              exact ⟨rfl, Below.refl _ _⟩
      · obtain ⟨ha, hacc, hdec⟩ := hh.out
        rw [List.drop_eq_nil_of_le (by omega), rhex] at hdec
        have hki : ¬ (k : Int) < (s.size : Int) := by omega
        have hpow : 16 ^ k ≤ 16 ^ 4 := Nat.pow_le_pow_right (by decide) (by omega)
        have HD : Hid (rhex 0 s.data.toList = some acc) := hdec
        have HC : Hid (∀ w : World, Calls Tryd.prog 40 #[.int .i64 a, .int .i64 16] w fun e w' => e = .returned (.string ⟨(bin 16 acc).toArray⟩) ∧ Below w.heap.size w w') := by
          intro w; rw [ha]; exact bitsOf_any 16 acc w (by decide) (by omega)
        clear hdec hh ha hacc hpow
        go_wp2_with fail
        refine (HC.out _).mono ?_
        rintro e w2 ⟨rfl, hb⟩
        go_wp2_with fail
        rw [HD.out]
        go_ret2
        exact ⟨rfl, hb⟩
  · have hd : docG s.data.toList = none := by rw [docG, if_neg (by omega)]
    rw [hd]
    have b1 : (decide ((1 : Int) ≤ (s.size : Int)) && decide ((s.size : Int) ≤ 4)) = false := by
      by_cases h1 : 1 ≤ s.size
      · have : ¬ ((s.size : Int) ≤ 4) := by omega
        simp [this]
      · have : ¬ ((1 : Int) ≤ (s.size : Int)) := by omega
        simp [this]
    have HT : Hid (Calls Tryd.prog 39 #[.int .i64 (s.size : Int), .int .i64 1, .int .i64 4] w fun e w' => e = .returned (.bool false) ∧ w' = w) := by
      have := between_any (s.size : Int) 1 4 w; rw [b1] at this; exact this
    clear hd b1
    go_enter Tryd.func41, Tryd.ntmps41
    go_wp2_with fail
    refine HT.out.mono ?_
    rintro e w1 ⟨rfl, rfl⟩
    go_wp2
    go_ret2
    exact ⟨rfl, Below.refl _ _⟩
end Go.Proofs.YtollaiabcnmebaaDoor
