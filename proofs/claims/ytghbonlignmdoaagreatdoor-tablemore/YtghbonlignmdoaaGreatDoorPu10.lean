/- The walk of internal/strconv.ParseUint at base 10. -/
import Derived.Test.YtghbonlignmdoaaGreatDoorPu
namespace Go.Proofs.YtghbonlignmdoaaGreatDoor
open Go.RowKit

set_option maxHeartbeats 32000000 in
set_option maxRecDepth 100000 in
/-- internal/strconv.ParseUint(s, 10, 31), s not empty. -/
theorem ipu10 (t : ByteArray) (hne : t.size ≠ 0) (hmax : t.size ≤ 9223372036854775806) (w : World) :
    Calls Tryz.prog 77 #[.string t, .int .i64 10, .int .i64 31] w fun e w' => e = .returned (puT 2147483647 (pu 10 2147483647 0 t.data.toList)) ∧ w' = Lib.bytesWorld w 5 t := by
  have hemp : t.toList.isEmpty = false := by
    rw [← decide_eq_emptyBytes]
    exact decide_eq_false (fun h => hne (by rw [h]; rfl))
  have hcv := Lib.run_convert_string_bytes (P := Tryz.prog) w 9 103 5 t (u := .string) Tryz.underlying9 Tryz.underlying103 Tryz.underlying5
  have hB : ∀ j, j < t.size → (Lib.bytesWorld w 5 t).cell? ⟨w.heap.size, j, none⟩ = some (.int .u8 (t.data.toList.getD j 0).toNat) := fun j hj => Lib.bytesWorld_cell w 5 t j hj
  obtain ⟨W1, hW1⟩ : ∃ W1, W1 = Lib.bytesWorld w 5 t := ⟨_, rfl⟩
  rw [← hW1] at hcv hB ⊢
  clear hW1
  obtain ⟨bs, hL⟩ : ∃ bs, bs = t.data.toList := ⟨_, rfl⟩
  have hLn : bs.length = t.size := by rw [hL, Lib.size_eq]
  rw [← hL] at hB ⊢
  clear hL
  go_enter Tryz.func77, Tryz.ntmps77
  go_wp2
  go_loop [12, 13, 101] (fun vu vn vi => ∃ (k acc : Nat) (a : Int), vu = .bool false ∧ vn = .int .u64 a ∧ vi = .int .i64 k ∧ k ≤ t.size ∧ Hid (a = (acc : Int) ∧ acc ≤ 2147483647 ∧ pu 10 2147483647 0 bs = pu 10 2147483647 acc (bs.drop k)))
    (fun _ _ vi => t.size - (intOf vi).toNat)
  case atStart => exact ⟨0, 0, 0, rfl, rfl, rfl, by omega, rfl, by omega, rfl⟩
  case round =>
    obtain ⟨k, acc, a, rfl, rfl, rfl, hk, hh⟩ := hrel
    obtain ⟨ha, hacc, hdec⟩ := hh.out
    clear hh
    have a0 : 0 ≤ a := by omega
    have a1 : a ≤ 2147483647 := by omega
    by_cases hkn : k < t.size
    · have hc := hB k hkn
      have hdrop : bs.drop k = bs[k]'(by omega) :: bs.drop (k + 1) := List.drop_eq_getElem_cons (by omega)
      have hget : bs.getD k 0 = bs[k]'(by omega) := by simp [List.getD, List.getElem?_eq_getElem (show k < bs.length by omega)]
      rw [hdrop] at hdec
      rw [hget] at hc
      generalize bs[k]'(by omega) = c at hc hdec
      have hc256 : c.toNat < 256 := c.toNat_lt
      clear hB hdrop hget
      by_cases hdig : 48 ≤ c.toNat ∧ c.toNat ≤ 57
      · obtain ⟨hd0, hd1⟩ := hdig
        have hD : dig c = c.toNat - 48 := by simp [dig, hd0, hd1]
        by_cases hov : 2147483647 < acc * 10 + (c.toNat - 48)
        · have hF : pu 10 2147483647 acc (c :: bs.drop (k + 1)) = .error 1 := by
            rw [pu, if_neg (by omega), if_pos (by omega)]
          rw [hF] at hdec
          have iov : 2147483647 < a * 10 + ((c.toNat : Int) - 48) := by omega
          clear hacc hF hov ha hD
          go_wp2
          go_ret2
          first | exact ⟨rfl, rfl⟩ | exact ⟨by rw [hdec]; rfl, rfl⟩
        · have hF : pu 10 2147483647 acc (c :: bs.drop (k + 1)) = pu 10 2147483647 (acc * 10 + (c.toNat - 48)) (bs.drop (k + 1)) := by
            rw [pu, if_neg (by omega), if_neg (by omega), hD]
          have HN : Hid (a * 10 + ((c.toNat : Int) - 48) = ((acc * 10 + (c.toNat - 48) : Nat) : Int) ∧ acc * 10 + (c.toNat - 48) ≤ 2147483647 ∧ pu 10 2147483647 0 bs = pu 10 2147483647 (acc * 10 + (c.toNat - 48)) (bs.drop (k + 1))) := Lib.hid ⟨by omega, by omega, hdec.trans hF⟩
          have iov : a * 10 + ((c.toNat : Int) - 48) ≤ 2147483647 := by omega
          clear hacc hF hov hdec ha hD
          go_wp2
          refine ⟨⟨k + 1, acc * 10 + (c.toNat - 48), a * 10 + ((c.toNat : Int) - 48), rfl, (by first | rfl | (congr 1; omega)), (by first | rfl | (congr 1; omega)), by omega, HN⟩, by simp [intOf]; omega⟩
      · have hlb := or_low c.toNat hc256
        have hdn : dig c = if 97 ≤ (c.toNat ||| 32) ∧ (c.toNat ||| 32) ≤ 122 then (c.toNat ||| 32) - 87 else 99 := by simp [dig, hdig]
        have hlow := fun w => lower_l c.toNat hc256 w
        have hnd : (c.toNat : Int) < 48 ∨ 57 < (c.toNat : Int) := by omega
        obtain ⟨l, hl⟩ : ∃ l : Int, l = ((c.toNat ||| 32 : Nat) : Int) := ⟨_, rfl⟩
        have hlow' : ∀ w, Calls Tryz.prog 95 #[.int .u8 (c.toNat : Int)] w fun e w' => e = .returned (.int .u8 l) ∧ w' = w := by rw [hl]; exact hlow
        have HL : Hid (∀ w, Calls Tryz.prog 95 #[.int .u8 (c.toNat : Int)] w fun e w' => e = .returned (.int .u8 l) ∧ w' = w) := hlow'
        clear hlow hlow'
        have l0 : 0 ≤ l := by omega
        have l1 : l < 256 := by omega
        have hus : c.toNat = 95 → l = 127 := fun h => by rw [hl, h]; rfl
        by_cases hlet : 97 ≤ l ∧ l ≤ 122
        · obtain ⟨hl0, hl1⟩ := hlet
          have h95 : ((c.toNat : Int) == 95) = false := by rw [beq_eq_false_iff_ne]; intro h; have := hus (by omega); omega
          clear hus
          have hD : (dig c : Int) = l - 87 := by rw [hdn, if_pos (by omega)]; omega
          by_cases hbig : 10 ≤ l - 87
          · have hF : pu 10 2147483647 acc (c :: bs.drop (k + 1)) = .error 2 := by rw [pu, if_pos (by omega)]
            rw [hF] at hdec
            clear hacc hF ha hD hdn hl hlb
            rcases hnd with hnd | hnd
            all_goals
              go_wp2_with (go_at_call 95; refine (HL.out _).mono ?_; rintro e w' ⟨rfl, rfl⟩)
              go_ret2
              first | exact ⟨rfl, rfl⟩ | exact ⟨by rw [hdec]; rfl, rfl⟩
          · exfalso; omega
        · have hF : pu 10 2147483647 acc (c :: bs.drop (k + 1)) = .error 2 := by rw [pu, if_pos (by rw [hdn, if_neg (by omega)]; omega)]
          rw [hF] at hdec
          have hle : l < 97 ∨ 122 < l := by omega
          by_cases hu : c.toNat = 95
          · have h127 := hus hu
            have hc5 : (c.toNat : Int) = 95 := by omega
            rw [hc5, h127] at HL
            rw [hc5] at hc
            clear hacc hF ha hdn hl hlb hlet hus hu hnd hle hc5 h127 hc256 hdig l0 l1
            go_wp2_with (go_at_call 95; refine (HL.out _).mono ?_; rintro e w' ⟨rfl, rfl⟩)
            go_ret2
            first | exact ⟨rfl, rfl⟩ | exact ⟨by rw [hdec]; rfl, rfl⟩
          · have h95 : ((c.toNat : Int) == 95) = false := by rw [beq_eq_false_iff_ne]; omega
            clear hacc hF ha hdn hl hlb hlet hus hu
            rcases hnd with hnd | hnd
            all_goals
              rcases hle with hle | hle
              all_goals
                go_wp2_with (go_at_call 95; refine (HL.out _).mono ?_; rintro e w' ⟨rfl, rfl⟩)
                go_ret2
                first | exact ⟨rfl, rfl⟩ | exact ⟨by rw [hdec]; rfl, rfl⟩
    · have hkk : k = t.size := by omega
      subst hkk
      have hF : pu 10 2147483647 acc (bs.drop t.size) = .ok acc := by rw [List.drop_eq_nil_of_le (by omega)]; rfl
      rw [hF] at hdec
      subst ha
      clear hacc hF a0 a1
      go_wp2
      go_ret2
      first | exact ⟨rfl, rfl⟩ | exact ⟨by rw [hdec]; rfl, rfl⟩

end Go.Proofs.YtghbonlignmdoaaGreatDoor
