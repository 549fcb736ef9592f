/- The document's answer: fourOf: four bytes of a text. -/
import Derived.Test.YtollaiabcnmebaaDoorRfN
set_option linter.unusedVariables false
set_option linter.unusedSimpArgs false
namespace Go.Proofs.YtollaiabcnmebaaDoor
open Go.RowKit

theorem keep1 {w W W' : World} {g i : Nat} {x : ByteArray}
    (h : (W.cell? ⟨g, i, none⟩ = some (.string x) ∧ g < W.heap.size) ∧ Below w.heap.size w W) (hb : Below W.heap.size W W') :
    (W'.cell? ⟨g, i, none⟩ = some (.string x) ∧ g < W'.heap.size) ∧ Below w.heap.size w W' :=
  ⟨⟨by rw [(bcell hb).1 g i h.1.2]; exact h.1.1, Nat.lt_of_lt_of_le h.1.2 hb.size⟩, btr h.2 hb⟩
theorem str_empty (x : ByteArray) (h : x.data.toList = []) : x.toList.isEmpty = true := by rw [ByteArray.toList_eq, h]; rfl
theorem str_some (x : ByteArray) (h : x.data.toList ≠ []) : x.toList.isEmpty = false := by
  rw [ByteArray.toList_eq]
  cases hx : x.data.toList with
  | nil => exact absurd hx h
  | cons a r => rfl
theorem str_same (l : List UInt8) (x : ByteArray) (h : l = x.data.toList) : (l == x.toList) = true := by rw [ByteArray.toList_eq, h, beq_self_eq_true]
theorem str_other (l : List UInt8) (x : ByteArray) (h : l ≠ x.data.toList) : (l == x.toList) = false := by rw [ByteArray.toList_eq, beq_eq_false_iff_ne]; exact h

set_option maxHeartbeats 8000000 in
set_option maxRecDepth 100000 in
theorem fourOf_any (s : ByteArray) (w : World) (hs : s.size ≤ 1048576) :
    Calls Tryd.prog 25 #[.string s] w fun e w' => e = .returned (bitT 32 (rfour s.data.toList)) ∧ Below w.heap.size w w' := by
  have hl := size_list s
  have HS : Hid (Calls Tryd.prog 38 #[.string s, .int .u8 46] w fun e w' => ∃ v, e = .returned v ∧ w'.ownsRow w.heap.size 9 1 v (spl 46 s.data.toList).length (strs (spl 46 s.data.toList)) ∧ Below w.heap.size w w') := splitAt_any s 46 w hs
  have hlen : ∀ x ∈ spl 46 s.data.toList, x.length ≤ 1048576 := fun x hx => Nat.le_trans (spl_len 46 _ x hx) (by omega)
  have HR : Hid (rfour s.data.toList = if (spl 46 s.data.toList).length = 4 then fourAcc 0 (spl 46 s.data.toList) else none) := rfl
  generalize spl 46 s.data.toList = ws at HS hlen HR
  generalize rfour s.data.toList = R at HR ⊢
  by_cases h4 : ws.length = 4
  · have HR' : Hid (R = fourAcc 0 ws) := by rw [Hid, HR.out, if_pos h4]
    clear HR
    go_enter Tryd.func25, Tryd.ntmps25
    go_wp2_with fail
    refine HS.out.mono ?_
    rintro e w1 ⟨v, rfl, hown, hb1⟩
    have hc := fun g hg => hown.cells (g := g) hg
    rw [h4] at hown
    rcases hown.2 with ⟨rfl, hz⟩ | ⟨g, cap, cur, rfl, hg, hcur, h3⟩
    · omega
    have hglt : g < w1.heap.size := by
      rcases Nat.lt_or_ge g w1.heap.size with h | h
      · exact h
      · rw [Array.getElem?_eq_none h] at hcur; cases hcur
    have hcell : ∀ j (hj : j < ws.length), w1.cell? ⟨g, j, none⟩ = some (.string ⟨(ws[j]).toArray⟩) := by
      intro j hj
      have := hc g rfl j (.string ⟨(ws[j]).toArray⟩) (by simp [strs, hj])
      rw [Lib.add_plain] at this
      simpa using this
    clear hcur h3 hc hown HS
    go_wp2_with fail
    have HB1 : Hid (Below w.heap.size w w1) := hb1
    clear hb1
    go_loopw [5, 6] (fun vb vi wr => ∃ (i acc : Nat), vi = .int .i64 i ∧ vb = .string ⟨(bin (8 * i) acc).toArray⟩ ∧ i ≤ 4 ∧ Below w1.heap.size w1 wr ∧ Hid (R = fourAcc acc (ws.drop i)))
      (fun _ vi _ => 4 - (intOf vi).toNat)
    case atStart => exact ⟨0, 0, rfl, rfl, by omega, Below.refl _ _, HR'.out⟩
    case round =>
      obtain ⟨i, acc, rfl, rfl, hi4, hb, hh⟩ := hrel
      have hzz := hb.size
      by_cases hi : i < 4
      · have hcx := (bcell hb).1 g i hglt
        rw [hcell i (by omega)] at hcx
        have hd := hh.out
        rw [List.drop_eq_getElem_cons (show i < ws.length by omega), fourAcc_my, ← docB_eq] at hd
        have hxl := hlen _ (List.getElem_mem (show i < ws.length by omega))
        obtain ⟨x, hx⟩ : ∃ x : ByteArray, x = ⟨(ws[i]'(by omega)).toArray⟩ := ⟨_, rfl⟩
        rw [← hx] at hcx
        have hx2 : x.data.toList = ws[i]'(by omega) := by rw [hx]
        rw [← hx2] at hd hxl
        have hxs := size_list x
        have hI : (i : Int) < 4 := by omega
        have hI0 : (0 : Int) ≤ (i : Int) := by omega
        obtain ⟨M, hM⟩ : ∃ M, M = x.size := ⟨_, rfl⟩
        have HM : Hid (M = x.size) := hM
        have HD : Hid (R = match docB x.data.toList with | some n => fourAcc (acc * 256 + n) (ws.drop (i + 1)) | none => none) := hd
        have hM20 : M ≤ 1048576 := by omega
        clear hd hh hx hx2 hM
        go_wp2_with fail
        go_loop [7, 8] (fun vn vk => ∃ (k c2 : Nat) (a : Int), vk = .int .i64 k ∧ vn = .int .i64 a ∧ k ≤ M ∧ 0 ≤ a ∧ a < 2560 ∧ Hid (a = (c2 : Int) ∧ rdec 0 x.data.toList = rdec c2 (x.data.toList.drop k)))
          (fun _ vk => M - (intOf vk).toNat)
        case atStart => exact ⟨0, 0, 0, rfl, rfl, Nat.zero_le _, by omega, by omega, rfl, rfl⟩
        case round =>
          obtain ⟨k, c2, a, rfl, rfl, hk, a0, a1, hh⟩ := hrel
          have hM := HM.out
          by_cases hkM : k < M
          · obtain ⟨ha, hdec⟩ := hh.out
            have hks : k < x.size := by omega
            rw [List.drop_eq_getElem_cons (show k < x.data.toList.length by omega), rdec, data_get x k hks] at hdec
            have hki : (k : Int) < (x.size : Int) := by omega
            have hk0 : (0 : Int) ≤ (k : Int) := by omega
            have hsk : x[k]? = some x[k] := by simp [hks]
            have hc256 : (x[k].toNat : Int) < 256 := by have := x[k].toNat_lt; omega
            have hcz : (0 : Int) ≤ (x[k].toNat : Int) := by omega
            by_cases c1 : 48 ≤ x[k].toNat ∧ x[k].toNat ≤ 57
            · have T1 : Hid (∀ w : World, Calls Tryd.prog 39 #[.int .i64 (x[k].toNat : Int), .int .i64 48, .int .i64 57] w fun e w' => e = .returned (.bool true) ∧ w' = w) := fun w => btw_in _ _ _ w (by omega) (by omega)
              have d1 : 48 ≤ (x[k].toNat : Int) := by omega
              have d2 : (x[k].toNat : Int) ≤ 57 := by omega
              by_cases hc2 : c2 ≤ 255
              · rw [if_pos ⟨c1.1, c1.2, hc2⟩] at hdec
                have HE : Hid (10 * a + (x[k].toNat : Int) - 48 = ((10 * c2 + x[k].toNat - 48 : Nat) : Int) ∧ rdec 0 x.data.toList = rdec (10 * c2 + x[k].toNat - 48) (x.data.toList.drop (k + 1))) := ⟨by omega, hdec⟩
                have ha2 : a ≤ 255 := by omega
                clear hdec ha hh c1 hc2
                go_wp2_with fail
                refine (T1.out _).mono ?_
                rintro e w2 ⟨rfl, rfl⟩
                go_wp2_with fail
                exact ⟨⟨k + 1, _, _, by go_num, rfl, by omega, by omega, by omega, HE⟩, by simp [intOf]; omega⟩
              · rw [if_neg (fun h => hc2 h.2.2)] at hdec
                have HE : Hid (R = none) := by rw [Hid, HD.out, docB, hdec]
                have ha2 : 255 < a := by omega
                clear hdec ha hh c1 hc2 HD
                go_wp2_with fail
                refine (T1.out _).mono ?_
                rintro e w2 ⟨rfl, rfl⟩
                go_wp2_with fail
                rw [HE.out]
                go_ret2
                exact ⟨rfl, btr HB1.out hb⟩
            · have T1 : Hid (∀ w : World, Calls Tryd.prog 39 #[.int .i64 (x[k].toNat : Int), .int .i64 48, .int .i64 57] w fun e w' => e = .returned (.bool false) ∧ w' = w) := fun w => btw_out _ _ _ w (by omega)
              rw [if_neg (fun h => c1 ⟨h.1, h.2.1⟩)] at hdec
              have HE : Hid (R = none) := by rw [Hid, HD.out, docB, hdec]
              clear hdec ha hh c1 HD
              go_wp2_with fail
              refine (T1.out _).mono ?_
              rintro e w2 ⟨rfl, rfl⟩
              go_wp2_with fail
              rw [HE.out]
              go_ret2
              exact ⟨rfl, btr HB1.out hb⟩
          · obtain ⟨ha, hdec⟩ := hh.out
            rw [List.drop_eq_nil_of_le (by omega), rdec] at hdec
            have hki : ¬ (k : Int) < (x.size : Int) := by omega
            have HE : Hid (docB x.data.toList = if x.data.toList ≠ [] ∧ c2 ≤ 255 ∧ digs 10 c2 = x.data.toList then some c2 else none) := by rw [Hid, docB, hdec]
            have c20 : c2 < 2560 := by omega
            have HX : Hid (∀ w : World, Calls Tryd.prog 22 #[.int .i64 a, .int .i64 10] w fun e w' => e = .returned (.string ⟨(digs 10 c2).toArray⟩) ∧ Below w.heap.size w w') := by
              intro w; rw [ha]; exact digits_any 10 (by decide) (by decide) c2 (by omega) w
            have HC : Hid (∀ w : World, c2 ≤ 255 → Calls Tryd.prog 40 #[.int .i64 a, .int .i64 8] w fun e w' => e = .returned (.string ⟨(bin 8 c2).toArray⟩) ∧ Below w.heap.size w w') := by
              intro w _; rw [ha]; exact bitsOf_any 8 c2 w (by decide) (by omega)
            have HA : Hid (a = (c2 : Int)) := ha
            clear hh hdec ha
            by_cases hx0 : x.data.toList = []
            · have HE2 : Hid (R = none) := by rw [Hid, HD.out, HE.out, if_neg (fun h => h.1 hx0)]
              have hq := str_empty x hx0
              clear HE HD HX HC
              go_wp2_with fail
              go_region
              go_wp2_with fail
              rw [HE2.out]
              go_ret2
              exact ⟨rfl, (btr HB1.out hb).drew⟩
            · have hq := str_some x hx0
              by_cases hc2 : c2 ≤ 255
              · have ha2 : a ≤ 255 := by have := HA.out; omega
                have hd2 : decide (255 < a) = false := decide_eq_false (by omega)
                by_cases hdx : digs 10 c2 = x.data.toList
                · have HE2 : Hid (R = fourAcc (acc * 256 + c2) (ws.drop (i + 1))) := by rw [Hid, HD.out, HE.out, if_pos ⟨hx0, hc2, hdx⟩]
                  have hq2 := str_same _ x hdx
                  generalize digs 10 c2 = dd at hq2 HX hdx
                  have hp : ∀ W : World, (Op.stringOp .add ⟨(bin (8 * i) acc).toArray⟩ ⟨(bin 8 c2).toArray⟩).run Tryd.prog W = .ok (.string ⟨(bin (8 * (i + 1)) (acc * 256 + c2)).toArray⟩) W := by
                    intro W
                    rw [show 8 * (i + 1) = 8 * i + 8 by omega, bin_more (8 * i) acc c2 (by omega)]
                    exact run_string_add_lists (P := Tryd.prog) W _ _ (by rw [bin_length]; omega) (by rw [bin_length]; omega)
                  have HC2 : Hid (∀ w : World, Calls Tryd.prog 40 #[.int .i64 a, .int .i64 8] w fun e w' => e = .returned (.string ⟨(bin 8 c2).toArray⟩) ∧ Below w.heap.size w w') := fun w => HC.out w hc2
                  clear HE HD HC hdx
                  go_wp2_with fail
                  go_region_held3 (fun w' => (w'.cell? ⟨g, i, none⟩ = some (.string x) ∧ g < w'.heap.size) ∧ Below w1.heap.size w1 w')
                    (first | exact ⟨⟨hcx, Nat.lt_of_lt_of_le hglt hzz⟩, hb.drew⟩ | exact ⟨⟨hcx, Nat.lt_of_lt_of_le hglt hzz⟩, hb⟩ | exact keep1 (by assumption) (by assumption))
                    ((go_at_call 22; refine (HX.out _).mono ?_; rintro e w3 ⟨rfl, hb3⟩))
                  have HS : (w3.cell? ⟨g, i, none⟩ = some (.string x) ∧ g < w3.heap.size) ∧ Below w1.heap.size w1 w3 := by assumption
                  have hb4 := HS.2
                  clear HS hb3
                  go_wp2_with fail
                  refine (HC2.out _).mono ?_
                  rintro e w4 ⟨rfl, hb5⟩
                  have hb6 := btr hb4 hb5
                  go_wp2_with fail
                  exact ⟨⟨i + 1, acc * 256 + c2, by go_num, rfl, by omega, hb6, HE2⟩, by simp [intOf]; omega⟩
                · have HE2 : Hid (R = none) := by rw [Hid, HD.out, HE.out, if_neg (fun h => hdx h.2.2)]
                  have hq2 := str_other _ x hdx
                  generalize digs 10 c2 = dd at hq2 HX hdx
                  clear HE HD HC hdx
                  go_wp2_with fail
                  go_region_held3 (fun w' => (w'.cell? ⟨g, i, none⟩ = some (.string x) ∧ g < w'.heap.size) ∧ Below w1.heap.size w1 w')
                    (first | exact ⟨⟨hcx, Nat.lt_of_lt_of_le hglt hzz⟩, hb.drew⟩ | exact ⟨⟨hcx, Nat.lt_of_lt_of_le hglt hzz⟩, hb⟩ | exact keep1 (by assumption) (by assumption))
                    ((go_at_call 22; refine (HX.out _).mono ?_; rintro e w3 ⟨rfl, hb3⟩))
                  have HS : (w3.cell? ⟨g, i, none⟩ = some (.string x) ∧ g < w3.heap.size) ∧ Below w1.heap.size w1 w3 := by assumption
                  have hb4 := HS.2
                  clear HS hb3
                  go_wp2_with fail
                  rw [HE2.out]
                  go_ret2
                  exact ⟨rfl, btr HB1.out hb4⟩
              · have ha2 : 255 < a := by have := HA.out; omega
                have HE2 : Hid (R = none) := by rw [Hid, HD.out, HE.out, if_neg (fun h => hc2 h.2.1)]
                clear HE HD HX HC hc2
                go_wp2_with fail
                go_region
                go_wp2_with fail
                rw [HE2.out]
                go_ret2
                exact ⟨rfl, (btr HB1.out hb).drew⟩
      · have hi4' : i = 4 := by omega
        subst hi4'
        have HE : Hid (R = some acc) := by have := hh.out; rw [List.drop_eq_nil_of_le (by omega), fourAcc] at this; exact this
        clear hh
        go_wp2_with fail
        rw [HE.out]
        go_ret2
        exact ⟨rfl, btr HB1.out hb⟩
  · have HR' : Hid (R = none) := by rw [Hid, HR.out, if_neg h4]
    clear HR
    go_enter Tryd.func25, Tryd.ntmps25
    go_wp2_with fail
    refine HS.out.mono ?_
    rintro e w1 ⟨v, rfl, hown, hb1⟩
    obtain ⟨a, c, rfl⟩ := own_slice hown
    have h4i : ¬ ((ws.length : Int) = 4) := by omega
    clear hown HS
    go_wp2_with fail
    rw [HR'.out]
    go_ret2
    exact ⟨rfl, hb1⟩
end Go.Proofs.YtollaiabcnmebaaDoor
