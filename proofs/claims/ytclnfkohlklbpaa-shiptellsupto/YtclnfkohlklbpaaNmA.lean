/- name.Right: names. -/
import Derived.Test.YtclnfkohlklbpaaPfN
set_option linter.unusedVariables false
set_option linter.unusedSimpArgs false
namespace Go.Proofs.Ytclnfkohlklbpaa
open Go.RowKit

def whoC (c : UInt8) : Bool := (decide (97 ≤ c.toNat) && decide (c.toNat ≤ 122)) || (decide (48 ≤ c.toNat) && decide (c.toNat ≤ 57))
/-- Is it a name? -/
def whoB (s : ByteArray) : Bool := decide (1 ≤ s.size) && (decide (s.size ≤ 8) && s.data.toList.all whoC)
theorem who_snoc (s : ByteArray) (k : Nat) (h : k < s.size) : (s.data.toList.take (k + 1)).all whoC = ((s.data.toList.take k).all whoC && whoC s[k]) := by
  rw [List.take_succ_eq_append_getElem (by simpa using h), List.all_append]
  simp
  rfl
theorem who_bad (s : ByteArray) (k : Nat) (h : k < s.size) (hc : whoC s[k] = false) : s.data.toList.all whoC = false := by
  rw [List.all_eq_false]
  exact ⟨s[k], List.mem_iff_getElem.2 ⟨k, by simpa using h, rfl⟩, by rw [hc]; simp⟩

set_option maxHeartbeats 8000000 in
theorem nright_any (s : ByteArray) (w : World) : Calls Try.prog 36 #[.string s] w fun e w' => e = .returned (.bool (whoB s)) ∧ w' = w := by
  by_cases h1 : s.size < 1
  · rw [show whoB s = false by simp [whoB]; omega]
    have h1' : (s.size : Int) < 1 := by omega
    go_enter Try.func36, Try.ntmps36
    go_wp2
    go_ret
    exact ⟨rfl, rfl⟩
  have d1 : decide ((s.size : Int) < 1) = false := decide_eq_false (by omega)
  by_cases h8 : 8 < s.size
  · rw [show whoB s = false by simp [whoB]; omega]
    have h8' : (8 : Int) < (s.size : Int) := by omega
    go_enter Try.func36, Try.ntmps36
    go_wp2
    go_ret
    exact ⟨rfl, rfl⟩
  have d8 : decide ((8 : Int) < (s.size : Int)) = false := decide_eq_false (by omega)
  have hm : s.size ≤ 8 := by omega
  have hwho : whoB s = s.data.toList.all whoC := by simp [whoB, hm]; omega
  rw [hwho]
  clear hwho
  obtain ⟨R, hR⟩ : ∃ R, R = s.data.toList.all whoC := ⟨_, rfl⟩
  rw [← hR]
  have HR := Lib.hid hR
  clear hR
  go_enter Try.func36, Try.ntmps36
  go_wp2
  go_loop [14] (fun i => ∃ k : Nat, i = .int .i64 k ∧ k ≤ s.size ∧ Hid ((s.data.toList.take k).all whoC = true)) (fun i => s.size - (intOf i).toNat)
  case atStart => exact ⟨0, rfl, Nat.zero_le _, by simp [Hid]⟩
  case round =>
    obtain ⟨k, rfl, hk, hh⟩ := hrel
    by_cases hlt : k < s.size
    · have hltz : (k : Int) < (s.size : Int) := by omega
      have hsn := who_snoc s k hlt
      rw [hh.out, Bool.true_and] at hsn
      have HS : Hid ((s.data.toList.take (k + 1)).all whoC = whoC s[k]) := hsn
      have HBad : Hid (whoC s[k] = false → s.data.toList.all whoC = false) := who_bad s k hlt
      have HW : Hid (whoC s[k] = ((decide ((97 : Int) ≤ (s[k].toNat : Int)) && decide ((s[k].toNat : Int) ≤ 122)) || (decide ((48 : Int) ≤ (s[k].toNat : Int)) && decide ((s[k].toNat : Int) ≤ 57)))) := by
        show whoC s[k] = _
        unfold whoC
        congr 1 <;> congr 1 <;> exact decide_eq_decide.2 (by omega)
      clear hsn hh
      have hcase : ((97 : Int) ≤ (s[k].toNat : Int) ∧ (s[k].toNat : Int) ≤ 122) ∨ (¬ (97 : Int) ≤ (s[k].toNat : Int) ∧ (48 : Int) ≤ (s[k].toNat : Int) ∧ (s[k].toNat : Int) ≤ 57) ∨ ((97 : Int) ≤ (s[k].toNat : Int) ∧ ¬ (s[k].toNat : Int) ≤ 122 ∧ (48 : Int) ≤ (s[k].toNat : Int) ∧ ¬ (s[k].toNat : Int) ≤ 57) ∨ (¬ (97 : Int) ≤ (s[k].toNat : Int) ∧ ¬ (48 : Int) ≤ (s[k].toNat : Int)) ∨ (¬ (97 : Int) ≤ (s[k].toNat : Int) ∧ (48 : Int) ≤ (s[k].toNat : Int) ∧ ¬ (s[k].toNat : Int) ≤ 57) := by omega
      rcases hcase with ⟨a, b⟩ | ⟨a, b, c⟩ | ⟨a, b, c, d⟩ | ⟨a, b⟩ | ⟨a, b, c⟩
      · have Hc : Hid (whoC s[k] = true) := by rw [Hid, HW.out, decide_eq_true a, decide_eq_true b]; rfl
        go_wp2
        go_round
        case rel => exact ⟨k + 1, by go_num, by omega, by rw [Hid, HS.out, Hc.out]⟩
        case measure => simp [intOf]; omega
      · have Hc : Hid (whoC s[k] = true) := by rw [Hid, HW.out, decide_eq_false a, decide_eq_true b, decide_eq_true c]; rfl
        have a' := decide_eq_false a
        clear a
        go_wp2
        go_round
        case rel => exact ⟨k + 1, by go_num, by omega, by rw [Hid, HS.out, Hc.out]⟩
        case measure => simp [intOf]; omega
      · have Hc : Hid (whoC s[k] = false) := by rw [Hid, HW.out, decide_eq_true a, decide_eq_false b, decide_eq_true c, decide_eq_false d]; rfl
        have b' := decide_eq_false b
        have d' := decide_eq_false d
        clear b d
        go_wp2
        go_ret
        exact ⟨congrArg (fun r => Ending.returned (Value.bool r)) (HR.out.trans (HBad.out Hc.out)).symm, rfl⟩
      · have Hc : Hid (whoC s[k] = false) := by rw [Hid, HW.out, decide_eq_false a, decide_eq_false b]; rfl
        have a' := decide_eq_false a
        have b' := decide_eq_false b
        clear a b
        go_wp2
        go_ret
        exact ⟨congrArg (fun r => Ending.returned (Value.bool r)) (HR.out.trans (HBad.out Hc.out)).symm, rfl⟩
      · have Hc : Hid (whoC s[k] = false) := by rw [Hid, HW.out, decide_eq_false a, decide_eq_true b, decide_eq_false c]; rfl
        have a' := decide_eq_false a
        have c' := decide_eq_false c
        clear a c
        go_wp2
        go_ret
        exact ⟨congrArg (fun r => Ending.returned (Value.bool r)) (HR.out.trans (HBad.out Hc.out)).symm, rfl⟩
    · have hltz : ¬ (k : Int) < (s.size : Int) := by omega
      have hd := hh.out
      rw [List.take_of_length_le (by simp; omega)] at hd
      have HD : Hid _ := hd
      clear hd
      go_wp2
      go_ret
      exact ⟨congrArg (fun r => Ending.returned (Value.bool r)) (HR.out.trans HD.out).symm, rfl⟩
end Go.Proofs.Ytclnfkohlklbpaa
