/- The document's answer: groupsOf: the groups of a text without two colons side by side. -/
import Derived.Test.YtollaiabcnmebaaDoorRfF
set_option linter.unusedVariables false
set_option linter.unusedSimpArgs false
namespace Go.Proofs.YtollaiabcnmebaaDoor
open Go.RowKit

/-- Bits of groups, and whether there are any. -/
def grT (o : Option (List Nat)) : Value := match o with | some gs => .tuple #[.string ⟨(gbits gs).toArray⟩, .bool true] | none => .tuple #[.string ⟨#[]⟩, .bool false]

theorem add_lists (x y : List UInt8) (W : World) (h : x.length + y.length ≤ 1073741824) : (Op.stringOp .add ⟨x.toArray⟩ ⟨y.toArray⟩).run Tryd.prog W = .ok (.string ⟨(x ++ y).toArray⟩) W := by
  rw [run_string_add_sum W _ _ (by simp [ByteArray.size]; omega), ByteArray.mk_append_mk]
theorem spl_count (c : UInt8) (l : List UInt8) : (spl c l).length ≤ l.length + 1 := by have := spl_sum c l; omega

set_option maxHeartbeats 8000000 in
set_option maxRecDepth 100000 in
theorem groupsOf_any (s : ByteArray) (e : Bool) (w : World) (hs : s.size ≤ 1048576) :
    Calls Tryd.prog 26 #[.string s, .bool e] w fun ed w' => ed = .returned (grT (rgroups e s.data.toList)) ∧ Below w.heap.size w w' := by
  have hl := size_list s
  by_cases h0 : s.data.toList = []
  · have hR : rgroups e s.data.toList = some [] := by rw [rgroups, if_pos h0]
    rw [hR]
    have hq := str_empty s h0
    clear hR
    go_enter Tryd.func26, Tryd.ntmps26
    go_wp2_with fail
    go_ret2
    exact ⟨rfl, Below.refl _ _⟩
  · have hR : rgroups e s.data.toList = rgs e (spl 58 s.data.toList) := by rw [rgroups, if_neg h0]
    rw [hR]
    have hq := str_some s h0
    have HS : Hid (Calls Tryd.prog 38 #[.string s, .int .u8 58] w fun e w' => ∃ v, e = .returned v ∧ w'.ownsRow w.heap.size 9 1 v (spl 58 s.data.toList).length (strs (spl 58 s.data.toList)) ∧ Below w.heap.size w w') := splitAt_any s 58 w hs
    have hlen : ∀ x ∈ spl 58 s.data.toList, x.length ≤ 1048576 := fun x hx => Nat.le_trans (spl_len 58 _ x hx) (by omega)
    have hn0 := spl_ne 58 s.data.toList
    have hcnt := spl_count 58 s.data.toList
    rw [hl] at hcnt
    generalize spl 58 s.data.toList = ws at HS hlen hn0 hcnt
    have HR : Hid (rgs e ws = rgs e ws) := rfl
    generalize hRR : rgs e ws = R at HR
    have HR' : Hid (R = rgs e ws) := hRR.symm
    clear hR hRR HR
    obtain ⟨n, hn⟩ : ∃ n, n = ws.length := ⟨_, rfl⟩
    have HN : Hid (n = ws.length) := hn
    have hn1 : 0 < n := by rw [hn]; exact List.length_pos_iff.2 hn0
    go_enter Tryd.func26, Tryd.ntmps26
    go_wp2_with fail
    refine HS.out.mono ?_
    rintro e2 w1 ⟨v, rfl, hown, hb1⟩
    have hc := fun g hg => hown.cells (g := g) hg
    rw [← hn] at hown
    rcases hown.2 with ⟨rfl, hz⟩ | ⟨g, cap, cur, rfl, hg, hcur, h3⟩
    · omega
    have hglt : g < w1.heap.size := by
      rcases Nat.lt_or_ge g w1.heap.size with h | h
      · exact h
      · rw [Array.getElem?_eq_none h] at hcur; cases hcur
    have hcell : ∀ j (hj : j < ws.length), w1.cell? ⟨g, j, none⟩ = some (.string ⟨(ws[j]).toArray⟩) := by
      intro j hj
      have := hc g rfl j (.string ⟨(ws[j]).toArray⟩) (by simp [strs, hj])
      rw [Lib.add_plain] at this
      simpa using this
    have HB1 : Hid (Below w.heap.size w w1) := hb1
    clear hcur h3 hc hown HS hb1 hn
    go_wp2_with fail
    go_loopw [7, 8] (fun vb vi wr => ∃ (i : Nat) (gs : List Nat), vi = .int .i64 i ∧ vb = .string ⟨(gbits gs).toArray⟩ ∧ i ≤ n ∧ gs.length ≤ 2 * i ∧ Below w1.heap.size w1 wr ∧
        Hid ((i < n → R = (rgs e (ws.drop i)).map (gs ++ ·)) ∧ (i = n → R = some gs)))
      (fun _ vi _ => n - (intOf vi).toNat)
    case atStart => exact ⟨0, [], rfl, rfl, Nat.zero_le _, by simp, Below.refl _ _, fun _ => by rw [HR'.out, List.drop_zero]; simp, fun h => by omega⟩
    case round =>
      obtain ⟨i, gs, rfl, rfl, hin, hgl, hb, hh⟩ := hrel
      have hzz := hb.size
      have hn := HN.out
      by_cases hi : i < n
      · have hcx := (bcell hb).1 g i hglt
        rw [hcell i (by omega)] at hcx
        have hd := hh.out.1 hi
        rw [List.drop_eq_getElem_cons (show i < ws.length by omega)] at hd
        have hxl := hlen _ (List.getElem_mem (show i < ws.length by omega))
        obtain ⟨x, hx⟩ : ∃ x : ByteArray, x = ⟨(ws[i]'(by omega)).toArray⟩ := ⟨_, rfl⟩
        rw [← hx] at hcx
        have hx2 : ws[i]'(by omega) = x.data.toList := by rw [hx]
        rw [hx2] at hd hxl
        have hxs := size_list x
        have hI : (i : Int) < (n : Int) := by omega
        have hI0 : (0 : Int) ≤ (i : Int) := by omega
        have HG : Hid (∀ w : World, Calls Tryd.prog 41 #[.string x] w fun e w' => e = .returned (bitT 16 (rgrp x.data.toList)) ∧ Below w.heap.size w w') := fun w => groupOf_any x w (by omega)
        have HF : Hid (∀ w : World, Calls Tryd.prog 25 #[.string x] w fun e w' => e = .returned (bitT 32 (rfour x.data.toList)) ∧ Below w.heap.size w w') := fun w => fourOf_any x w (by omega)
        have hgl2 := gbits_length gs
        clear hh hx hx2
        -- the last word or not
        by_cases hlast : i + 1 = n
        · have hdn : ws.drop (i + 1) = [] := List.drop_eq_nil_of_le (by omega)
          rw [hdn, rgs_last] at hd
          have hLb : ((i : Int) == (n : Int) - 1) = true := by rw [beq_iff_eq]; omega
          have HL : Hid (i + 1 = n) := hlast
          have hnx : n ≤ 1048577 := by omega
          clear hlast hn hdn
          cases hr : rgrp x.data.toList with
          | some k =>
            rw [hr] at hd HG
            have HD : Hid (R = some (gs ++ [k])) := hd
            have hp : ∀ W : World, (Op.stringOp .add ⟨(gbits gs).toArray⟩ ⟨(bin 16 k).toArray⟩).run Tryd.prog W = .ok (.string ⟨(gbits (gs ++ [k])).toArray⟩) W := by
              intro W
              rw [gbits_append, show gbits [k] = bin 16 k by simp [gbits]]
              exact add_lists _ _ W (by rw [hgl2, bin_length]; omega)
            clear hd hr HF
            go_wp2_with fail
            refine (HG.out _).mono ?_
            rintro e2 w2 ⟨rfl, hb2⟩
            have hb3 := btr hb hb2
            simp only [bitT]
            go_wp2_with fail
            exact ⟨⟨i + 1, gs ++ [k], by go_num, rfl, by omega, by simp; omega, hb3, fun h => by have := HL.out; omega, fun _ => HD.out⟩, by simp [intOf]; omega⟩
          | none =>
            rw [hr] at hd HG
            cases e with
            | false =>
              have HD : Hid (R = none) := hd
              clear hd hr HF
              go_wp2_with fail
              refine (HG.out _).mono ?_
              rintro e2 w2 ⟨rfl, hb2⟩
              have hb3 := btr hb hb2
              simp only [bitT]
              go_wp2_with fail
              rw [HD.out]
              go_ret2
              exact ⟨rfl, btr HB1.out hb3⟩
            | true =>
              cases hf : rfour x.data.toList with
              | none =>
                rw [hf] at hd HF
                have HD : Hid (R = none) := hd
                clear hd hr hf
                go_wp2_with fail
                refine (HG.out _).mono ?_
                rintro e2 w2 ⟨rfl, hb2⟩
                have hcy := (bcell hb2).1 g i (by omega)
                rw [hcx] at hcy
                simp only [bitT]
                go_wp2_with fail
                refine (HF.out _).mono ?_
                rintro e2 w3 ⟨rfl, hb4⟩
                simp only [bitT]
                have hb3 := btr (btr hb hb2) hb4
                go_wp2_with fail
                rw [HD.out]
                go_ret2
                exact ⟨rfl, btr HB1.out hb3⟩
              | some k =>
                rw [hf] at hd HF
                have HD : Hid (R = some (gs ++ [k / 65536, k % 65536])) := hd
                have hp : ∀ W : World, (Op.stringOp .add ⟨(gbits gs).toArray⟩ ⟨(bin 32 k).toArray⟩).run Tryd.prog W = .ok (.string ⟨(gbits (gs ++ [k / 65536, k % 65536])).toArray⟩) W := by
                  intro W
                  rw [gbits_append, gbits_four]
                  exact add_lists _ _ W (by rw [hgl2, bin_length]; omega)
                clear hd hr hf
                go_wp2_with fail
                refine (HG.out _).mono ?_
                rintro e2 w2 ⟨rfl, hb2⟩
                have hcy := (bcell hb2).1 g i (by omega)
                rw [hcx] at hcy
                simp only [bitT]
                go_wp2_with fail
                refine (HF.out _).mono ?_
                rintro e2 w3 ⟨rfl, hb4⟩
                simp only [bitT]
                have hb3 := btr (btr hb hb2) hb4
                go_wp2_with fail
                exact ⟨⟨i + 1, gs ++ [k / 65536, k % 65536], by go_num, rfl, by omega, by simp; omega, hb3, fun h => by have := HL.out; omega, fun _ => HD.out⟩, by simp [intOf]; omega⟩
        · have hL2 : ¬ ((i : Int) = (n : Int) - 1) := by omega
          have hLb : ((i : Int) == (n : Int) - 1) = false := by rw [beq_eq_false_iff_ne]; exact hL2
          rw [List.drop_eq_getElem_cons (show i + 1 < ws.length by omega), rgs, ← List.drop_eq_getElem_cons (show i + 1 < ws.length by omega)] at hd
          cases hr : rgrp x.data.toList with
          | some k =>
            rw [hr] at hd HG
            have HD : Hid (R = (rgs e (ws.drop (i + 1))).map ((gs ++ [k]) ++ ·)) := by
              rw [Hid, hd]
              cases rgs e (ws.drop (i + 1)) <;> simp
            have hp : ∀ W : World, (Op.stringOp .add ⟨(gbits gs).toArray⟩ ⟨(bin 16 k).toArray⟩).run Tryd.prog W = .ok (.string ⟨(gbits (gs ++ [k])).toArray⟩) W := by
              intro W
              rw [gbits_append, show gbits [k] = bin 16 k by simp [gbits]]
              exact add_lists _ _ W (by rw [hgl2, bin_length]; omega)
            clear hd hr HF
            go_wp2_with fail
            refine (HG.out _).mono ?_
            rintro e2 w2 ⟨rfl, hb2⟩
            have hb3 := btr hb hb2
            simp only [bitT]
            go_wp2_with fail
            exact ⟨⟨i + 1, gs ++ [k], by go_num, rfl, by omega, by simp; omega, hb3, fun _ => HD.out, fun h => by omega⟩, by simp [intOf]; omega⟩
          | none =>
            rw [hr] at hd HG
            have HD : Hid (R = none) := hd
            clear hd hr HF
            cases e with
            | false =>
              go_wp2_with fail
              refine (HG.out _).mono ?_
              rintro e2 w2 ⟨rfl, hb2⟩
              have hb3 := btr hb hb2
              simp only [bitT]
              go_wp2_with fail
              rw [HD.out]
              go_ret2
              exact ⟨rfl, btr HB1.out hb3⟩
            | true =>
              go_wp2_with fail
              refine (HG.out _).mono ?_
              rintro e2 w2 ⟨rfl, hb2⟩
              have hb3 := btr hb hb2
              simp only [bitT]
              go_wp2_with fail
              rw [HD.out]
              go_ret2
              exact ⟨rfl, btr HB1.out hb3⟩
      · have hki : ¬ (i : Int) < (n : Int) := by omega
        have HD : Hid (R = some gs) := hh.out.2 (by omega)
        clear hh
        go_wp2_with fail
        rw [HD.out]
        go_ret2
        exact ⟨rfl, btr HB1.out hb⟩
end Go.Proofs.YtollaiabcnmebaaDoor
