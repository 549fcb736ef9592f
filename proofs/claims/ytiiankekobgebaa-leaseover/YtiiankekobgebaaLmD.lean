/- The document's leases: IsWho, WhoAt, CheckLeases, LiveOf, SameLeases, CheckPool, CheckOf, NextOf. -/
import Derived.Test.YtiiankekobgebaaLmA
import Derived.Test.YtiiankekobgebaaSlC
import Derived.Test.YtiiankekobgebaaLmB
import Derived.Test.YtiiankekobgebaaNext
set_option linter.unusedVariables false
set_option linter.unusedSimpArgs false
namespace Go.Proofs.Ytiiankekobgebaa
open Go.RowKit Go.Shelf

theorem isAhead_ad (x y : Ad) (w : World) (cx : chk x.v x.hi x.lo = 0) (cy : chk y.v y.hi y.lo = 0) :
    Calls Try.prog 25 #[.agg #[.bool x.v, .int .u64 x.hi, .int .u64 x.lo], .agg #[.bool y.v, .int .u64 y.hi, .int .u64 y.lo]] w fun e w' => e = .returned (.bool (x.less y)) ∧ Below w.heap.size w w' := by
  have e : x.less y = if x.v = y.v then lsB x.hi x.lo y.hi y.lo else y.v := by
    unfold Ad.less lessB lessE
    simp [cx, cy]
  rw [e]
  obtain ⟨v, hi, lo, ⟨⟨h0, h1⟩, l0, l1⟩⟩ := x
  obtain ⟨u, yi, yo, ⟨⟨i0, i1⟩, m0, m1⟩⟩ := y
  simp only at *
  obtain ⟨a, rfl⟩ := Int.eq_ofNat_of_zero_le h0
  obtain ⟨b, rfl⟩ := Int.eq_ofNat_of_zero_le l0
  obtain ⟨c, rfl⟩ := Int.eq_ofNat_of_zero_le i0
  obtain ⟨d, rfl⟩ := Int.eq_ofNat_of_zero_le m0
  exact isAhead_any v u a b c d w (by omega) (by omega) (by omega) (by omega) (right_nat cx) (right_nat cy)

set_option maxHeartbeats 8000000 in
theorem rwho_any (s : ByteArray) (w : World) (hs : s.size ≤ maxLen) : Calls Try.prog 9 #[.string s] w fun e w' => e = .returned (.bool (whoB s)) ∧ w' = w := by
  unfold maxLen at hs
  obtain ⟨R, hR⟩ : ∃ R, R = whoB s := ⟨_, rfl⟩
  rw [← hR]
  have HR := Lib.hid hR
  clear hR
  have HBt : Hid (∀ (n a b : Int) (w : World), Calls Try.prog 24 #[.int .i64 n, .int .i64 a, .int .i64 b] w fun e w' => e = .returned (.bool (decide (a ≤ n) && decide (n ≤ b))) ∧ w' = w) := between_any
  go_enter Try.func9, Try.ntmps9
  go_wp2
  go_loop [3] (fun i => ∃ k : Nat, i = .int .i64 k ∧ k ≤ s.size ∧ Hid ((s.data.toList.take k).all whoC = true)) (fun i => s.size - (intOf i).toNat)
  case atStart => exact ⟨0, rfl, Nat.zero_le _, by simp [Hid]⟩
  case round =>
    obtain ⟨k, rfl, hk, hh⟩ := hrel
    by_cases hlt : k < s.size
    · have hltz : (k : Int) < (s.size : Int) := by omega
      have hsn := who_snoc s k hlt
      rw [hh.out, Bool.true_and] at hsn
      have HS : Hid ((s.data.toList.take (k + 1)).all whoC = whoC s[k]) := hsn
      have HBad : Hid (whoC s[k] = false → R = false) := fun h => by rw [HR.out, whoB, who_bad s k hlt h]; simp
      have HW : Hid (whoC s[k] = ((decide ((97 : Int) ≤ (s[k].toNat : Int)) && decide ((s[k].toNat : Int) ≤ 122)) || (decide ((48 : Int) ≤ (s[k].toNat : Int)) && decide ((s[k].toNat : Int) ≤ 57)))) := by
        show whoC s[k] = _
        unfold whoC
        congr 1 <;> congr 1 <;> exact decide_eq_decide.2 (by omega)
      clear hsn hh
      obtain ⟨bw, hbw⟩ : ∃ bw : Int → Int → Bool, bw = fun a b => decide (a ≤ (s[k].toNat : Int)) && decide ((s[k].toNat : Int) ≤ b) := ⟨_, rfl⟩
      have HB2 : Hid (∀ (a b : Int) (w : World), Calls Try.prog 24 #[.int .i64 (wrap64 (s[k].toNat : Int)), .int .i64 a, .int .i64 b] w fun e w' => e = .returned (.bool (bw a b)) ∧ w' = w) := fun a b w => by
        have hx : wrap64 (s[k].toNat : Int) = (s[k].toNat : Int) := by have := s[k].toNat_lt; unfold wrap64; omega
        rw [hbw, hx]; exact between_any _ a b w
      have HW2 : Hid (whoC s[k] = (bw 97 122 || bw 48 57)) := by rw [Hid, HW.out, hbw]
      clear hbw HW
      cases h1 : bw 97 122
      · cases h2 : bw 48 57
        · have H1 := Lib.hid h1
          have H2 := Lib.hid h2
          go_wp2_with (go_at_call 24; refine (HB2.out _ _ _).mono ?_; rintro e w' ⟨rfl, rfl⟩)
          go_ret
          exact ⟨congrArg (fun r => Ending.returned (Value.bool r)) (HBad.out (by rw [HW2.out, H1.out, H2.out]; rfl)).symm, rfl⟩
        · have H1 := Lib.hid h1
          have H2 := Lib.hid h2
          go_wp2_with (go_at_call 24; refine (HB2.out _ _ _).mono ?_; rintro e w' ⟨rfl, rfl⟩)
          go_round
          case rel => exact ⟨k + 1, by go_num, by omega, by rw [Hid, HS.out, HW2.out, H1.out, H2.out]; rfl⟩
          case measure => simp [intOf]; omega
      · have H1 := Lib.hid h1
        have H2 : Hid (bw 48 57 = bw 48 57) := rfl
        go_wp2_with (go_at_call 24; refine (HB2.out _ _ _).mono ?_; rintro e w' ⟨rfl, rfl⟩)
        go_round
        case rel => exact ⟨k + 1, by go_num, by omega, by rw [Hid, HS.out, HW2.out, H1.out]; rfl⟩
        case measure => simp [intOf]; omega
    · have hltz : ¬ (k : Int) < (s.size : Int) := by omega
      have hd := hh.out
      rw [List.take_of_length_le (by simp; omega)] at hd
      have HD : Hid _ := hd
      clear hd hh
      have HB3 : Hid (∀ w : World, Calls Try.prog 24 #[.int .i64 (s.size : Int), .int .i64 1, .int .i64 8] w fun e w' => e = .returned (.bool R) ∧ w' = w) := fun w => by
        have e : R = (decide ((1 : Int) ≤ (s.size : Int)) && decide ((s.size : Int) ≤ 8)) := by
          rw [HR.out, whoB, HD.out, Bool.and_true]
          congr 1 <;> exact decide_eq_decide.2 (by omega)
        rw [e]
        exact between_any _ 1 8 w
      go_wp2_with (go_at_call 24; refine (HB3.out _).mono ?_; rintro e w' ⟨rfl, rfl⟩)
      go_ret
      exact ⟨rfl, rfl⟩

theorem text_eq (a b : ByteArray) : (a.toList == b.toList) = decide (a = b) := by
  have h : ∀ x : ByteArray, x.toList = x.data.toList := fun x => ByteArray.toList_eq x
  rw [h, h, Bool.eq_iff_iff]
  simp only [beq_iff_eq, decide_eq_true_eq]
  exact ⟨fun e => bytes_same e, fun e => by rw [e]⟩
set_option maxHeartbeats 8000000 in
theorem whoAt_any (a : Option Addr) (c : Nat) (l : List Ls) (s : ByteArray) (w : World) (hl : l.length ≤ 9223372036854775800) (hs : Lies lsE w a l) :
    Calls Try.prog 18 #[.slice a l.length c, .string s] w fun e w' => e = .returned (.int .i64 (idxI (l.findIdx? (Ls.hasWho s)))) ∧ w' = w := by
  obtain ⟨N, hN⟩ : ∃ N, N = l.length := ⟨_, rfl⟩
  rw [← hN] at hl ⊢
  have HN : Hid (N = l.length) := hN
  have HL := Lib.hid hs
  obtain ⟨R, hR⟩ : ∃ R, R = idxI (l.findIdx? (Ls.hasWho s)) := ⟨_, rfl⟩
  rw [← hR]
  have HR := Lib.hid hR
  clear hN hs hR
  go_enter Try.func18, Try.ntmps18
  go_wp2
  go_loop [5] (fun vi => ∃ k : Nat, vi = .int .i64 k ∧ k ≤ N ∧ Hid (∀ j (hj : j < k) (hl : j < l.length), Ls.hasWho s l[j] = false))
    (fun vi => N - (intOf vi).toNat)
  case atStart => exact ⟨0, rfl, Nat.zero_le _, fun j hj => absurd hj (Nat.not_lt_zero _)⟩
  case round =>
    obtain ⟨k, rfl, hk, hh⟩ := hrel
    by_cases hkN : k < N
    · have hkl : k < l.length := by have := HN.out; omega
      obtain ⟨g, o, rfl, hg, c0, c1, c2, c3, c4⟩ := HL.out.ls k hkl
      have hkz : (k : Int) < (N : Int) := by omega
      have hk0 : (0 : Int) ≤ (k : Int) := by omega
      by_cases hw : l[k].who = s
      · have HE : Hid (R = (k : Int)) := by rw [Hid, HR.out, find_hit hkl (by simp [Ls.hasWho, hw]) (fun j hj => hh.out j hj (by omega))]; rfl
        have hq : (l[k].who.toList == s.toList) = true := by rw [text_eq]; simpa using hw
        generalize l[k].who = t at *
        clear hh hw c0 c1 c2 c4
        go_wp2
        go_ret
        exact ⟨congrArg (fun r => Ending.returned (Value.int .i64 r)) HE.out.symm, rfl⟩
      · have HQ : Hid (∀ j (hj : j < k + 1) (hl : j < l.length), Ls.hasWho s l[j] = false) := fun j hj hl => by
          by_cases hjk : j = k
          · subst hjk; simp [Ls.hasWho, hw]
          · exact hh.out j (by omega) hl
        have hq : (l[k].who.toList == s.toList) = false := by rw [text_eq]; simpa using hw
        generalize l[k].who = t at *
        clear hh hw c0 c1 c2 c4
        go_wp2
        go_round
        case rel => exact ⟨k + 1, by go_num, by omega, HQ⟩
        case measure => simp [intOf]; omega
    · obtain rfl : k = N := by omega
      have hkk : ¬ (k : Int) < (k : Int) := by omega
      have HD : Hid (R = -1) := by
        rw [Hid, HR.out, find_miss (fun j hj => hh.out j (by have := HN.out; omega) hj)]; rfl
      clear hh
      go_wp2
      go_ret
      exact ⟨congrArg (fun r => Ending.returned (Value.int .i64 r)) HD.out.symm, rfl⟩
end Go.Proofs.Ytiiankekobgebaa

namespace Go.Proofs.Ytiiankekobgebaa
open Go.RowKit Go.Shelf

theorem rgt_chk {x : Ls} (h : x.rgt = 0) : chk x.a.v x.a.hi x.a.lo = 0 := by
  unfold Ls.rgt at h
  by_cases h1 : chk x.a.v x.a.hi x.a.lo = 0
  · exact h1
  · rw [if_neg h1] at h; exact absurd h h1

set_option maxHeartbeats 16000000 in
set_option maxRecDepth 100000 in
theorem rleases_any (a : Option Addr) (c : Nat) (l : List Ls) (now : Int) (w : World) (hs : Lies lsE w a l) (hws : ∀ x ∈ l, x.who.size ≤ maxLen) :
    Calls Try.prog 7 #[.slice a l.length c, .int .i64 now] w fun e w' => e = .returned (.int .i64 (lookL l now)) ∧ Below w.heap.size w w' := by
  by_cases hl : 20 < l.length
  · rw [show lookL l now = 2 by simp [lookL, hl]]
    have hl' : (20 : Int) < (l.length : Int) := by omega
    generalize l.length = N at *
    go_enter Try.func7, Try.ntmps7
    go_wp2
    go_ret
    exact ⟨rfl, Below.refl _ _⟩
  rw [show lookL l now = if rgtAll l = 0 then (if rises l = true then (if now < 0 ∨ 9999 < now then 3 else 0) else 4) else rgtAll l by simp [lookL, hl]]
  obtain ⟨N, hN⟩ : ∃ N, N = l.length := ⟨_, rfl⟩
  rw [← hN] at hl ⊢
  have hN20 : N ≤ 20 := by omega
  have hd20 : decide ((20 : Int) < (N : Int)) = false := decide_eq_false (by omega)
  have HN : Hid (N = l.length) := hN
  have HL := Lib.hid hs
  have HWs := Lib.hid hws
  obtain ⟨R, hR⟩ : ∃ R, R = if rgtAll l = 0 then (if rises l = true then (if now < 0 ∨ 9999 < now then 3 else 0) else 4) else rgtAll l := ⟨_, rfl⟩
  rw [← hR]
  have HR := Lib.hid hR
  clear hN hl hs hR hws
  go_enter Try.func7, Try.ntmps7
  go_wp2_with fail
  go_loopw [5] (fun vi wr => ∃ k : Nat, vi = .int .i64 k ∧ k ≤ N ∧ Hid (Below w.heap.size w wr) ∧ Hid (rgtAll l = rgtAll (l.drop k)))
    (fun vi _ => N - (intOf vi).toNat)
  case atStart => exact ⟨0, rfl, Nat.zero_le _, Below.refl _ _, rfl⟩
  case round =>
    obtain ⟨k, rfl, hk, hb, hh⟩ := hrel
    by_cases hkN : k < N
    · have hkl : k < l.length := by have := HN.out; omega
      obtain ⟨g, o, rfl, hg, c0, c1, c2, c3, c4⟩ := HL.out.ls k hkl
      have hdec := hh.out
      rw [List.drop_eq_getElem_cons hkl, rgtAll] at hdec
      have hgr : g < wr.heap.size := Nat.lt_of_lt_of_le hg hb.out.size
      rw [← (bcell hb.out).1 _ _ hg] at c0 c1 c2 c3 c4
      have hsz := HWs.out l[k] (List.getElem_mem hkl)
      obtain ⟨x, hx⟩ : ∃ x, x = l[k] := ⟨_, rfl⟩
      rw [← hx] at c0 c1 c2 c3 c4 hdec hsz
      have hC : Hid (∀ w : World, Calls Try.prog 23 #[.agg #[.bool x.a.v, .int .u64 x.a.hi, .int .u64 x.a.lo]] w fun e w' => e = .returned (.int .i64 (chk x.a.v x.a.hi x.a.lo)) ∧ Below w.heap.size w w') := fun w => rcheck_any x.a.v x.a.hi x.a.lo w x.a.ok.1.1 x.a.ok.2.1
      have hW : Hid (∀ w : World, Calls Try.prog 9 #[.string x.who] w fun e w' => e = .returned (.bool (whoB x.who)) ∧ w' = w) := fun w => rwho_any x.who w hsz
      obtain ⟨bt, hbt⟩ : ∃ bt, bt = (decide ((0 : Int) ≤ x.un) && decide (x.un ≤ 10499)) := ⟨_, rfl⟩
      have hB : Hid (∀ w : World, Calls Try.prog 24 #[.int .i64 x.un, .int .i64 0, .int .i64 10499] w fun e w' => e = .returned (.bool bt) ∧ w' = w) := fun w => by rw [hbt]; exact between_any x.un 0 10499 w
      have hrg : x.rgt = if chk x.a.v x.a.hi x.a.lo = 0 then (if whoB x.who = true then (if bt = true then 0 else 3) else 1) else chk x.a.v x.a.hi x.a.lo := by
        unfold Ls.rgt
        have : (if x.un < 0 ∨ 10499 < x.un then (3 : Int) else 0) = if bt = true then 0 else 3 := by
          rw [hbt]
          by_cases h : x.un < 0 ∨ 10499 < x.un
          · rw [if_pos h, if_neg (by simp; omega)]
          · rw [if_neg h, if_pos (by simp; omega)]
        rw [this]
      have hkz : (k : Int) < (N : Int) := by omega
      have hk0 : (0 : Int) ≤ (k : Int) := by omega
      have HC3 : Hid (wr.cell? ⟨g, o + k * 5 + 3, none⟩ = some (.string x.who) ∧ wr.cell? ⟨g, o + k * 5 + 4, none⟩ = some (.int .i64 x.un) ∧ g < wr.heap.size) := ⟨c3, c4, hgr⟩
      rw [hrg] at hdec
      generalize chk x.a.v x.a.hi x.a.lo = r at *
      generalize whoB x.who = wb at *
      generalize x.a.v = v at *
      generalize x.a.hi = hi at *
      generalize x.a.lo = lo at *
      generalize x.who = who at *
      generalize x.un = un at *
      clear hh hx hbt hrg hsz c3 c4 hg hgr
      by_cases hr : r = 0
      · subst hr
        rw [if_pos rfl] at hdec
        cases wb
        · have HD : Hid (R = 1) := by
            rw [if_neg (by decide : ¬ (false = true)), if_neg (by decide)] at hdec
            rw [Hid, HR.out, hdec, if_neg (by decide)]
          clear hdec
          go_wp2_with fail
          refine (hC.out _).mono ?_
          rintro e w2 ⟨rfl, hb2⟩
          obtain ⟨d3, d4, d5⟩ := HC3.out
          rw [← (bcell hb2).1 _ _ d5] at d3 d4
          have hb3 := Lib.hid (btr hb.out hb2)
          clear hb hb2 HC3
          go_wp2_with (go_at_call 9; refine (hW.out _).mono ?_; rintro e w' ⟨rfl, rfl⟩)
          go_ret
          exact ⟨congrArg (fun r => Ending.returned (Value.int .i64 r)) HD.out.symm, hb3.out⟩
        · rw [if_pos rfl] at hdec
          cases bt
          · have HD : Hid (R = 3) := by
              rw [if_neg (by decide : ¬ (false = true)), if_neg (by decide)] at hdec
              rw [Hid, HR.out, hdec, if_neg (by decide)]
            clear hdec
            go_wp2_with fail
            refine (hC.out _).mono ?_
            rintro e w2 ⟨rfl, hb2⟩
            obtain ⟨d3, d4, d5⟩ := HC3.out
            rw [← (bcell hb2).1 _ _ d5] at d3 d4
            have hb3 := Lib.hid (btr hb.out hb2)
            clear hb hb2 HC3
            go_wp2_with (first | (go_at_call 9; refine (hW.out _).mono ?_; rintro e w' ⟨rfl, rfl⟩) | (go_at_call 24; refine (hB.out _).mono ?_; rintro e w' ⟨rfl, rfl⟩))
            go_ret
            exact ⟨congrArg (fun r => Ending.returned (Value.int .i64 r)) HD.out.symm, hb3.out⟩
          · rw [if_pos rfl, if_pos rfl] at hdec
            have HD := Lib.hid hdec
            clear hdec
            go_wp2_with fail
            refine (hC.out _).mono ?_
            rintro e w2 ⟨rfl, hb2⟩
            obtain ⟨d3, d4, d5⟩ := HC3.out
            rw [← (bcell hb2).1 _ _ d5] at d3 d4
            have hb3 := Lib.hid (btr hb.out hb2)
            clear hb hb2 HC3
            go_wp2_with (first | (go_at_call 9; refine (hW.out _).mono ?_; rintro e w' ⟨rfl, rfl⟩) | (go_at_call 24; refine (hB.out _).mono ?_; rintro e w' ⟨rfl, rfl⟩))
            go_roundw
            case rel => exact ⟨k + 1, by go_num, by omega, hb3, HD⟩
            case measure => simp [intOf]; omega
      · rw [if_neg hr, if_neg hr] at hdec
        have HD : Hid (R = r) := by rw [Hid, HR.out, hdec, if_neg hr]
        have hI : (r != 0) = true := by rw [bne_iff_ne]; exact hr
        clear hdec hr
        go_wp2_with fail
        refine (hC.out _).mono ?_
        rintro e w2 ⟨rfl, hb2⟩
        have hb3 := Lib.hid (btr hb.out hb2)
        clear hb hb2
        go_wp2_with fail
        go_ret
        exact ⟨congrArg (fun r => Ending.returned (Value.int .i64 r)) HD.out.symm, hb3.out⟩
    · obtain rfl : k = N := by omega
      have hd := hh.out
      rw [List.drop_eq_nil_of_le (by have := HN.out; omega), rgtAll] at hd
      have HR2 : Hid (R = if rises l = true then (if now < 0 ∨ 9999 < now then 3 else 0) else 4) := by rw [Hid, HR.out, if_pos hd]
      have HCk : Hid (∀ x ∈ l, chk x.a.v x.a.hi x.a.lo = 0) := fun x hx => rgt_chk (rgt_all hd x hx)
      clear hd hh HR
      have hkk : ¬ (k : Int) < (k : Int) := by omega
      go_wp2_with fail
      obtain ⟨wo, hwo⟩ : ∃ wo, wo = wr := ⟨_, rfl⟩
      subst hwo
      go_loopw [7] (fun vi wr => ∃ m : Nat, vi = .int .i64 ((m : Int) + 1) ∧ m ≤ 20 ∧ Hid (Below w.heap.size w wr) ∧ Hid (rises l = rises (l.drop m)))
        (fun vi _ => k + 1 - (intOf vi).toNat)
      case atStart => exact ⟨0, rfl, Nat.zero_le _, hb, rfl⟩
      case round =>
        clear hb
        obtain ⟨m, rfl, hm, hb, hh⟩ := hrel
        by_cases hmN : m + 1 < k
        · have hml : m + 1 < l.length := by have := HN.out; omega
          have hst := hh.out
          rw [rises_at l m hml] at hst
          obtain ⟨g, o, rfl, hg, c0, c1, c2, _, _⟩ := HL.out.ls m (by omega)
          obtain ⟨g', o', e', _, d0, d1, d2, _, _⟩ := HL.out.ls (m + 1) hml
          obtain ⟨rfl, rfl⟩ : g = g' ∧ o = o' := by simpa using e'
          have hgr : g < wr.heap.size := Nat.lt_of_lt_of_le hg hb.out.size
          rw [← (bcell hb.out).1 _ _ hg] at c0 c1 c2 d0 d1 d2
          have hC : Hid (∀ w : World, Calls Try.prog 25 #[.agg #[.bool l[m].a.v, .int .u64 l[m].a.hi, .int .u64 l[m].a.lo], .agg #[.bool l[m + 1].a.v, .int .u64 l[m + 1].a.hi, .int .u64 l[m + 1].a.lo]] w fun e w' => e = .returned (.bool (l[m].a.less l[m + 1].a)) ∧ Below w.heap.size w w') :=
            fun w => isAhead_ad l[m].a l[m + 1].a w (HCk.out _ (List.getElem_mem _)) (HCk.out _ (List.getElem_mem _))
          generalize l[m].a.less l[m + 1].a = r at *
          generalize l[m].a.v = v at *
          generalize l[m].a.hi = hi at *
          generalize l[m].a.lo = lo at *
          generalize l[m + 1].a.v = u at *
          generalize l[m + 1].a.hi = yi at *
          generalize l[m + 1].a.lo = yo at *
          have hkz : (m : Int) + 1 < (k : Int) := by omega
          have hwr : IntKind.i64.wrap ((m : Int) + 1 - 1) = (m : Int) := by rw [IntKind.wrap_i64]; omega
          have hwr2 : IntKind.i64.wrap (m : Int) = (m : Int) := by rw [IntKind.wrap_i64]; omega
          have hm1 : (0 : Int) ≤ (m : Int) := by omega
          have hm3 : (0 : Int) ≤ (m : Int) + 1 := by omega
          have hm2 : (m : Int) < (k : Int) := by omega
          have HSd := Lib.hid (keepA33 (w := w) (W := wr) ⟨⟨c0, c1, c2⟩, ⟨d0, d1, d2⟩, hgr, hb.out⟩ (Below.refl _ _).drew)
          clear hh hb c0 c1 c2 d0 d1 d2 e' hg
          cases r
          · rw [Bool.false_and] at hst
            have HD : Hid (R = 4) := by rw [Hid, HR2.out, hst]; rfl
            clear hst
            go_wp2_with fail
            go_region_held3 (fun w' => (w'.cell? ⟨g, o + m * 5, none⟩ = some (.bool v) ∧ w'.cell? ⟨g, o + m * 5 + 1, none⟩ = some (.int .u64 hi) ∧ w'.cell? ⟨g, o + m * 5 + 2, none⟩ = some (.int .u64 lo)) ∧ (w'.cell? ⟨g, o + (m + 1) * 5, none⟩ = some (.bool u) ∧ w'.cell? ⟨g, o + (m + 1) * 5 + 1, none⟩ = some (.int .u64 yi) ∧ w'.cell? ⟨g, o + (m + 1) * 5 + 2, none⟩ = some (.int .u64 yo)) ∧ g < w'.heap.size ∧ Below w.heap.size w w')
              (first | with_reducible exact HSd.out | with_reducible exact HSe.out | fail)
              ((go_at_call 25; refine (hC.out _).mono ?_; rintro e wx ⟨rfl, hb⟩; have HSe := Lib.hid (keepA33 HSd.out hb); clear hb))
            have HB2 := Lib.hid HSe.out.2.2.2
            clear HSe HSd
            go_wp2_with fail
            go_ret
            exact ⟨congrArg (fun r => Ending.returned (Value.int .i64 r)) HD.out.symm, HB2.out⟩
          · rw [Bool.true_and] at hst
            have HD := Lib.hid hst
            clear hst
            go_wp2_with fail
            go_region_held3 (fun w' => (w'.cell? ⟨g, o + m * 5, none⟩ = some (.bool v) ∧ w'.cell? ⟨g, o + m * 5 + 1, none⟩ = some (.int .u64 hi) ∧ w'.cell? ⟨g, o + m * 5 + 2, none⟩ = some (.int .u64 lo)) ∧ (w'.cell? ⟨g, o + (m + 1) * 5, none⟩ = some (.bool u) ∧ w'.cell? ⟨g, o + (m + 1) * 5 + 1, none⟩ = some (.int .u64 yi) ∧ w'.cell? ⟨g, o + (m + 1) * 5 + 2, none⟩ = some (.int .u64 yo)) ∧ g < w'.heap.size ∧ Below w.heap.size w w')
              (first | with_reducible exact HSd.out | with_reducible exact HSe.out | fail)
              ((go_at_call 25; refine (hC.out _).mono ?_; rintro e wx ⟨rfl, hb⟩; have HSe := Lib.hid (keepA33 HSd.out hb); clear hb))
            have HB2 := Lib.hid HSe.out.2.2.2
            clear HSe HSd
            go_wp2_with fail
            go_roundw
            case rel => exact ⟨m + 1, by go_num, by omega, HB2, HD⟩
            case measure => simp [intOf]; omega
        · have hd := hh.out
          rw [rises_end l m (by have := HN.out; omega)] at hd
          have HD : Hid (R = if now < 0 ∨ 9999 < now then 3 else 0) := by rw [Hid, HR2.out, if_pos hd]
          have hkz : ¬ (m : Int) + 1 < (k : Int) := by omega
          obtain ⟨bt, hbt⟩ : ∃ bt, bt = (decide ((0 : Int) ≤ now) && decide (now ≤ 9999)) := ⟨_, rfl⟩
          have hB : Hid (∀ w : World, Calls Try.prog 24 #[.int .i64 now, .int .i64 0, .int .i64 9999] w fun e w' => e = .returned (.bool bt) ∧ w' = w) := fun w => by rw [hbt]; exact between_any now 0 9999 w
          have HE : Hid (R = if bt = true then 0 else 3) := by
            rw [Hid, HD.out, hbt]
            by_cases h : now < 0 ∨ 9999 < now
            · rw [if_pos h, if_neg (by simp; omega)]
            · rw [if_neg h, if_pos (by simp; omega)]
          clear hd hh HR2 hbt HD
          cases bt
          · have HF : Hid (R = 3) := HE.out.trans (if_neg (by decide))
            clear HE
            go_wp2_with (go_at_call 24; refine (hB.out _).mono ?_; rintro e w' ⟨rfl, rfl⟩)
            go_ret
            exact ⟨congrArg (fun r => Ending.returned (Value.int .i64 r)) HF.out.symm, hb.out⟩
          · have HF : Hid (R = 0) := HE.out.trans (if_pos rfl)
            clear HE
            go_wp2_with (go_at_call 24; refine (hB.out _).mono ?_; rintro e w' ⟨rfl, rfl⟩)
            go_ret
            exact ⟨congrArg (fun r => Ending.returned (Value.int .i64 r)) HF.out.symm, hb.out⟩
end Go.Proofs.Ytiiankekobgebaa

namespace Go.Proofs.Ytiiankekobgebaa
open Go.RowKit Go.Shelf

theorem live_snoc (l : List Ls) (now : Int) (k : Nat) (h : k < l.length) : live (l.take (k + 1)) now = if now ≤ l[k].un then live (l.take k) now ++ [l[k]] else live (l.take k) now := by
  rw [List.take_succ_eq_append_getElem h]
  unfold live
  rw [List.filter_append]
  by_cases hu : now ≤ l[k].un
  · rw [if_pos hu]
    simp
    omega
  · rw [if_neg hu]
    simp
    omega

set_option maxHeartbeats 8000000 in
set_option maxRecDepth 100000 in
theorem rlive_any (a : Option Addr) (c : Nat) (l : List Ls) (now : Int) (w : World) (hl : l.length ≤ 20) (hs : Lies lsE w a l) :
    Calls Try.prog 10 #[.slice a l.length c, .int .i64 now] w fun e w' => ∃ v', e = .returned v' ∧ w'.ownsRow w.heap.size 49 lsE.k v' (live l now).length (rowOf lsE (live l now)) ∧ Below w.heap.size w w' := by
  obtain ⟨i0, hi0, hz0, hz1, hz2⟩ := info_parts infoL3
  obtain ⟨N, hN⟩ : ∃ N, N = l.length := ⟨_, rfl⟩
  rw [← hN] at hl ⊢
  have HN : Hid (N = l.length) := hN
  have HL := Lib.hid hs
  obtain ⟨m, hm⟩ : ∃ m, m = live l now := ⟨_, rfl⟩
  rw [← hm]
  have Hm := Lib.hid hm
  clear hN hs hm
  go_enter Try.func10, Try.ntmps10
  go_wp2_with fail
  go_loopw [5, 6] (fun vo vi wr => ∃ (k : Nat) (q : List Ls), vi = .int .i64 k ∧ k ≤ N ∧ q.length ≤ k ∧ Hid (q = live (l.take k) now) ∧ Hid (wr.ownsRow w.heap.size 49 lsE.k vo q.length (rowOf lsE q)) ∧ Hid (Below w.heap.size w wr))
    (fun _ vi _ => N - (intOf vi).toNat)
  case atStart => exact ⟨0, [], rfl, Nat.zero_le _, Nat.le_refl _, rfl, World.ownsRow_nil _ _ _ _, Below.refl _ _⟩
  case round =>
    obtain ⟨k, q, rfl, hk, hq, Hq, HO, HB⟩ := hrel
    by_cases hkN : k < N
    · have hkl : k < l.length := by have := HN.out; omega
      obtain ⟨g, o, rfl, hg, c0, c1, c2, c3, c4⟩ := HL.out.ls k hkl
      rw [← (bcell HB.out).1 _ _ hg] at c0 c1 c2 c3 c4
      have hkz : (k : Int) < (N : Int) := by omega
      have hk0 : (0 : Int) ≤ (k : Int) := by omega
      have hsn := live_snoc l now k hkl
      rw [← Hq.out] at hsn
      obtain ⟨x, hx⟩ : ∃ x, x = l[k] := ⟨_, rfl⟩
      rw [← hx] at c0 c1 c2 c3 c4 hsn
      have HXf : Hid (lsE.f x = [.bool x.a.v, .int .u64 x.a.hi, .int .u64 x.a.lo, .string x.who, .int .i64 x.un]) := rfl
      have HX1 := Lib.hid (lsE.one x)
      have HXl : Hid ((lsE.f x).length = 1 * 5) := lsE.len x
      have HRow : Hid (rowOf lsE (q ++ [x]) = rowOf lsE q ++ lsE.f x) := by rw [Hid, rowOf_append, rowOf, rowOf, List.append_nil]
      have HNw : Hid (∀ j v, (lsE.f x)[j]? = some v → (wr.alloc (.cells #[.bool x.a.v, .int .u64 x.a.hi, .int .u64 x.a.lo, .string x.who, .int .i64 x.un] 49)).cell? ((⟨wr.heap.size, 0, none⟩ : Addr).add j) = some v) := news_of (heap_alloc_new wr _)
      clear hg hx
      by_cases hu : now ≤ x.un
      · rw [if_pos hu] at hsn
        have HSn := Lib.hid hsn
        have HL1 : Hid ((q ++ [x]).length = q.length + 1) := by simp [Hid]
        generalize lsE.f x = X at *
        generalize x.a.v = v at *
        generalize x.a.hi = hi at *
        generalize x.a.lo = lo at *
        generalize x.who = who at *
        generalize x.un = un at *
        have HO2 := Lib.hid (HO.out.alloc (.cells #[.bool v, .int .u64 hi, .int .u64 lo, .string who, .int .i64 un] 49))
        have HB2 := Lib.hid (bal HB.out (.cells #[.bool v, .int .u64 hi, .int .u64 lo, .string who, .int .i64 un] 49))
        obtain ⟨M, hM⟩ : ∃ M, M = q.length := ⟨_, rfl⟩
        have HM := Lib.hid hM
        rw [← hM] at HO2 hq
        generalize rowOf lsE q = RR at *
        clear hsn hM HO HXf
        go_wp2_with (at_builtin; refine wpList_append_own _ rfl _ _ 30 rfl w.heap.size 49 i0 _ 5 48 Try.underlying30 hi0 hz0 hz1 hz2 rfl (by decide) _ _ _ rfl HO2.out ⟨wr.heap.size, 0, none⟩ 1 1 X rfl HXl.out HNw.out HX1.out (by unfold maxLen; omega) (by omega) HB2.out.size ?_; intro v' w4 hown hgrow _; have HO4 := Lib.hid hown; have HB4 := Lib.hid (HB2.out.grown hgrow HB2.out.size (fun k hk => (HO2.out.lt k hk).1)); clear hown hgrow)
        go_roundw
        case rel => exact ⟨k + 1, q ++ [x], by go_num, by omega, by rw [HL1.out, ← HM.out]; omega, HSn.out.symm, by rw [HL1.out, ← HM.out, HRow.out]; exact HO4, HB4⟩
        case measure => simp [intOf]; omega
      · rw [if_neg hu] at hsn
        have HSn := Lib.hid hsn
        have hu' : decide (now ≤ x.un) = false := decide_eq_false hu
        generalize x.un = un at *
        clear hsn hu
        go_wp2_with fail
        go_roundw
        case rel => exact ⟨k + 1, q, by go_num, by omega, by omega, HSn.out.symm, HO, HB⟩
        case measure => simp [intOf]; omega
    · obtain rfl : k = N := by omega
      have hkk : ¬ (k : Int) < (k : Int) := by omega
      have HE : Hid (q = m) := by rw [Hid, Hq.out, Hm.out, List.take_of_length_le (by have := HN.out; omega)]
      go_wp2_with fail
      go_ret
      exact ⟨_, rfl, by rw [← HE.out]; exact HO.out, HB.out⟩

theorem Ls.same {x y : Ls} (h0 : x.a = y.a) (h1 : x.who = y.who) (h2 : x.un = y.un) : x = y := by
  cases x; cases y; simp at h0 h1 h2; subst h0; subst h1; subst h2; rfl
/-- Are two leases the same? -/
def eqL (x y : Ls) : Bool := (x.a.v == y.a.v) && ((x.a.hi == y.a.hi) && ((x.a.lo == y.a.lo) && ((x.who.toList == y.who.toList) && (x.un == y.un))))
theorem eqL_iff (x y : Ls) : eqL x y = true ↔ x = y := by
  unfold eqL
  simp only [Bool.and_eq_true, beq_iff_eq]
  constructor
  · rintro ⟨a, b, c, d, e⟩
    refine Ls.same (Ad.same a b c) ?_ e
    have := text_eq x.who y.who
    rw [d] at this
    simpa using this
  · rintro rfl
    exact ⟨rfl, rfl, rfl, rfl, rfl⟩
set_option maxHeartbeats 4000000 in
theorem neq_ls (w : World) (x y : Ls) : (binOp .neq 49 (.agg #[.bool x.a.v, .int .u64 x.a.hi, .int .u64 x.a.lo, .string x.who, .int .i64 x.un]) (.agg #[.bool y.a.v, .int .u64 y.a.hi, .int .u64 y.a.lo, .string y.who, .int .i64 y.un])).run Try.prog w = .ok (.bool (!eqL x y)) w := by
  unfold eqL
  generalize x.a.v = v
  generalize x.a.hi = hi
  generalize x.a.lo = lo
  generalize x.who = who
  generalize x.un = un
  generalize y.a.v = v'
  generalize y.a.hi = hi'
  generalize y.a.lo = lo'
  generalize y.who = who'
  generalize y.un = un'
  cases h1 : v == v' <;> cases h2 : hi == hi' <;> cases h3 : lo == lo' <;> cases h4 : who.toList == who'.toList <;> cases h5 : un == un' <;> simp [go_sem, h1, h2, h3, h4, h5]
/-- Are two lists of leases the same? -/
def sameL : List Ls → List Ls → Bool
  | [], [] => true
  | x :: l, y :: r => eqL x y && sameL l r
  | _, _ => false
theorem sameL_iff : ∀ l r : List Ls, sameL l r = true ↔ l = r
  | [], [] => by simp [sameL]
  | [], y :: r => by simp [sameL]
  | x :: l, [] => by simp [sameL]
  | x :: l, y :: r => by
    rw [sameL, Bool.and_eq_true, eqL_iff, sameL_iff l r]
    simp
theorem sameL_len {l r : List Ls} (h : ¬ l.length = r.length) : sameL l r = false := by
  rw [Bool.eq_false_iff, ne_eq, sameL_iff]
  intro e
  exact h (by rw [e])
theorem keep55 {W W' : World} {g o g' o' : Nat} {x0 x1 x2 x3 x4 y0 y1 y2 y3 y4 : Value}
    (h : (W.cell? ⟨g, o, none⟩ = some x0 ∧ W.cell? ⟨g, o + 1, none⟩ = some x1 ∧ W.cell? ⟨g, o + 2, none⟩ = some x2 ∧ W.cell? ⟨g, o + 3, none⟩ = some x3 ∧ W.cell? ⟨g, o + 4, none⟩ = some x4) ∧ (W.cell? ⟨g', o', none⟩ = some y0 ∧ W.cell? ⟨g', o' + 1, none⟩ = some y1 ∧ W.cell? ⟨g', o' + 2, none⟩ = some y2 ∧ W.cell? ⟨g', o' + 3, none⟩ = some y3 ∧ W.cell? ⟨g', o' + 4, none⟩ = some y4)) (e : W' = W.drew) :
    (W'.cell? ⟨g, o, none⟩ = some x0 ∧ W'.cell? ⟨g, o + 1, none⟩ = some x1 ∧ W'.cell? ⟨g, o + 2, none⟩ = some x2 ∧ W'.cell? ⟨g, o + 3, none⟩ = some x3 ∧ W'.cell? ⟨g, o + 4, none⟩ = some x4) ∧ (W'.cell? ⟨g', o', none⟩ = some y0 ∧ W'.cell? ⟨g', o' + 1, none⟩ = some y1 ∧ W'.cell? ⟨g', o' + 2, none⟩ = some y2 ∧ W'.cell? ⟨g', o' + 3, none⟩ = some y3 ∧ W'.cell? ⟨g', o' + 4, none⟩ = some y4) := by
  subst e
  exact h

set_option maxHeartbeats 16000000 in
set_option maxRecDepth 100000 in
theorem rsame_any (a b : Option Addr) (c d : Nat) (l r : List Ls) (w : World) (hl : l.length ≤ 1000) (hr : r.length ≤ 1000) (hs : Lies lsE w a l) (ht : Lies lsE w b r) :
    Calls Try.prog 17 #[.slice a l.length c, .slice b r.length d] w fun e w' => e = .returned (.bool (sameL l r)) ∧ Below w.heap.size w w' := by
  by_cases hlr : l.length = r.length
  · have HL := Lib.hid hs
    have HT := Lib.hid ht
    rw [← hlr]
    obtain ⟨R, hR⟩ : ∃ R, R = sameL l r := ⟨_, rfl⟩
    rw [← hR]
    have HR := Lib.hid hR
    obtain ⟨N, hN⟩ : ∃ N, N = l.length := ⟨_, rfl⟩
    rw [← hN] at hl hlr ⊢
    have HN := Lib.hid hN
    have HN2 := Lib.hid hlr
    have hnn : ((N : Int) != (N : Int)) = false := by simp
    clear hs ht hR hN hlr hr
    go_enter Try.func17, Try.ntmps17
    go_wp2_with fail
    go_loopw [5] (fun vi wr => ∃ k : Nat, vi = .int .i64 k ∧ k ≤ N ∧ Hid (Below w.heap.size w wr) ∧ Hid (R = sameL (l.drop k) (r.drop k)))
      (fun vi _ => N - (intOf vi).toNat)
    case atStart => exact ⟨0, rfl, Nat.zero_le _, Below.refl _ _, HR⟩
    case round =>
      obtain ⟨k, rfl, hk, HB, hh⟩ := hrel
      by_cases hkN : k < N
      · have hkl : k < l.length := by have := HN.out; omega
        have hkr : k < r.length := by have := HN2.out; omega
        obtain ⟨g, o, rfl, hg, c0, c1, c2, c3, c4⟩ := HL.out.ls k hkl
        obtain ⟨g', o', rfl, hg', d0, d1, d2, d3, d4⟩ := HT.out.ls k hkr
        rw [← (bcell HB.out).1 _ _ hg] at c0 c1 c2 c3 c4
        rw [← (bcell HB.out).1 _ _ hg'] at d0 d1 d2 d3 d4
        have hkz : (k : Int) < (N : Int) := by omega
        have hk0 : (0 : Int) ≤ (k : Int) := by omega
        have hdec := hh.out
        rw [List.drop_eq_getElem_cons hkl, List.drop_eq_getElem_cons hkr, sameL] at hdec
        have hEq := fun W => neq_ls W l[k] r[k]
        have HSd := Lib.hid (keep55 (W := wr) ⟨⟨c0, c1, c2, c3, c4⟩, ⟨d0, d1, d2, d3, d4⟩⟩ rfl)
        generalize eqL l[k] r[k] = q at *
        generalize l[k].a.v = v at *
        generalize l[k].a.hi = hi at *
        generalize l[k].a.lo = lo at *
        generalize l[k].who = who at *
        generalize l[k].un = un at *
        generalize r[k].a.v = v' at *
        generalize r[k].a.hi = hi' at *
        generalize r[k].a.lo = lo' at *
        generalize r[k].who = who' at *
        generalize r[k].un = un' at *
        have HDec := Lib.hid hdec
        clear hdec hh hg hg' c0 c1 c2 c3 c4 d0 d1 d2 d3 d4
        cases q
        · have HE : Hid (R = false) := by rw [Hid, HDec.out, Bool.false_and]
          clear HDec
          go_wp2_with fail
          go_region_held3 (fun w' => (w'.cell? ⟨g, o + k * 5, none⟩ = some (.bool v) ∧ w'.cell? ⟨g, o + k * 5 + 1, none⟩ = some (.int .u64 hi) ∧ w'.cell? ⟨g, o + k * 5 + 2, none⟩ = some (.int .u64 lo) ∧ w'.cell? ⟨g, o + k * 5 + 3, none⟩ = some (.string who) ∧ w'.cell? ⟨g, o + k * 5 + 4, none⟩ = some (.int .i64 un)) ∧ (w'.cell? ⟨g', o' + k * 5, none⟩ = some (.bool v') ∧ w'.cell? ⟨g', o' + k * 5 + 1, none⟩ = some (.int .u64 hi') ∧ w'.cell? ⟨g', o' + k * 5 + 2, none⟩ = some (.int .u64 lo') ∧ w'.cell? ⟨g', o' + k * 5 + 3, none⟩ = some (.string who') ∧ w'.cell? ⟨g', o' + k * 5 + 4, none⟩ = some (.int .i64 un')))
            (first | with_reducible exact HSd.out | fail) (fail)
          go_wp2_with fail
          go_ret
          exact ⟨congrArg (fun r => Ending.returned (Value.bool r)) HE.out.symm, HB.out.drew⟩
        · have HE : Hid (R = sameL (l.drop (k + 1)) (r.drop (k + 1))) := by rw [Hid, HDec.out, Bool.true_and]
          clear HDec
          go_wp2_with fail
          go_region_held3 (fun w' => (w'.cell? ⟨g, o + k * 5, none⟩ = some (.bool v) ∧ w'.cell? ⟨g, o + k * 5 + 1, none⟩ = some (.int .u64 hi) ∧ w'.cell? ⟨g, o + k * 5 + 2, none⟩ = some (.int .u64 lo) ∧ w'.cell? ⟨g, o + k * 5 + 3, none⟩ = some (.string who) ∧ w'.cell? ⟨g, o + k * 5 + 4, none⟩ = some (.int .i64 un)) ∧ (w'.cell? ⟨g', o' + k * 5, none⟩ = some (.bool v') ∧ w'.cell? ⟨g', o' + k * 5 + 1, none⟩ = some (.int .u64 hi') ∧ w'.cell? ⟨g', o' + k * 5 + 2, none⟩ = some (.int .u64 lo') ∧ w'.cell? ⟨g', o' + k * 5 + 3, none⟩ = some (.string who') ∧ w'.cell? ⟨g', o' + k * 5 + 4, none⟩ = some (.int .i64 un')))
            (first | with_reducible exact HSd.out | fail) (fail)
          go_wp2_with fail
          go_roundw
          case rel => exact ⟨k + 1, by go_num, by omega, HB.out.drew, HE⟩
          case measure => simp [intOf]; omega
      · obtain rfl : k = N := by omega
        have hkk : ¬ (k : Int) < (k : Int) := by omega
        have HE : Hid (R = true) := by rw [Hid, hh.out, List.drop_eq_nil_of_le (by have := HN.out; omega), List.drop_eq_nil_of_le (by have := HN2.out; omega)]; rfl
        clear hh
        go_wp2_with fail
        go_ret
        exact ⟨congrArg (fun r => Ending.returned (Value.bool r)) HE.out.symm, HB.out⟩
  · rw [sameL_len hlr]
    have hne : ((l.length : Int) != (r.length : Int)) = true := by rw [bne_iff_ne]; omega
    generalize l.length = N at *
    generalize r.length = M at *
    clear hs ht hlr
    go_enter Try.func17, Try.ntmps17
    go_wp2_with fail
    go_ret
    exact ⟨rfl, Below.refl _ _⟩
end Go.Proofs.Ytiiankekobgebaa

namespace Go.Proofs.Ytiiankekobgebaa
open Go.RowKit Go.Shelf

theorem rhas_ad (p : Pf) (x : Ad) (w : World) (r : p.R) (cx : chk x.v x.hi x.lo = 0) :
    Calls Try.prog 26 #[.agg #[.bool p.v, .int .u64 p.hi, .int .u64 p.lo, .int .i64 p.b], .agg #[.bool x.v, .int .u64 x.hi, .int .u64 x.lo]] w fun e w' => e = .returned (.bool (p.inA x.v x.hi x.lo)) ∧ Below w.heap.size w w' := by
  have q := host_right cx x.ok.1.1 x.ok.1.2 x.ok.2.1 x.ok.2.2
  obtain ⟨h, l, b, e1, e2, e3⟩ : ∃ h l b : Nat, p.hi = h ∧ p.lo = l ∧ p.b = b := ⟨p.hi.toNat, p.lo.toNat, p.b.toNat, by have := r.h0; omega, by have := r.l0; omega, by have := r.b0; omega⟩
  have r' : Right p.v h l b := by rw [← e1, ← e2, ← e3]; exact r
  have f1 : x.hi = (x.hi.toNat : Int) := by have := q.h0; omega
  have f2 : x.lo = (x.lo.toNat : Int) := by have := q.l0; omega
  have q' : Right x.v x.hi.toNat x.lo.toNat (wid x.v) := by rw [← f1, ← f2]; exact q
  have hb := r'.b1
  have hb' := r.b1
  have h1 := r'.h1
  have h2 := r'.l1
  have h3 := q'.h1
  have h4 := q'.l1
  have := hasAddr_any p.v h l b x.v x.hi.toNat x.lo.toNat w (by omega) (by omega) (by omega) (by omega) hb
  have e : p.inA x.v x.hi x.lo = ((p.v == x.v) && ((bitsT p.v h l).take b == (bitsT x.v x.hi.toNat x.lo.toNat).take b)) := by
    rw [in_has r q]
    unfold Pf.has
    simp only
    rw [e1, e2, e3, f1, f2]
    simp only [Int.toNat_natCast]
    rw [has_bits r' q']
    by_cases hv : p.v = x.v
    · rw [← hv, decide_eq_true hb, Bool.true_and]
    · rw [beq_eq_false_iff_ne.2 hv]; simp
  rw [e, e1, e2, e3]
  rw [← f1, ← f2] at this
  exact this

/-- Are two addresses the same? -/
def eqAd (x y : Ad) : Bool := (x.v == y.v) && ((x.hi == y.hi) && (x.lo == y.lo))
theorem eqAd_iff (x y : Ad) : eqAd x y = true ↔ x = y := by
  unfold eqAd
  simp only [Bool.and_eq_true, beq_iff_eq]
  constructor
  · rintro ⟨a, b, c⟩; exact Ad.same a b c
  · rintro rfl; exact ⟨rfl, rfl, rfl⟩
theorem eql_ad (w : World) (x y : Ad) : (binOp .eql 24 (.agg #[.bool x.v, .int .u64 x.hi, .int .u64 x.lo]) (.agg #[.bool y.v, .int .u64 y.hi, .int .u64 y.lo])).run Try.prog w = .ok (.bool (eqAd x y)) w := by
  unfold eqAd
  generalize x.v = v
  generalize x.hi = hi
  generalize x.lo = lo
  generalize y.v = v'
  generalize y.hi = hi'
  generalize y.lo = lo'
  cases h1 : v == v' <;> cases h2 : hi == hi' <;> cases h3 : lo == lo' <;> simp [go_sem, h1, h2, h3]
theorem keep3b {w W W' : World} {g o q : Nat} {x0 x1 x2 y0 y1 y2 : Value}
    (h : (W.cell? ⟨g, o, none⟩ = some x0 ∧ W.cell? ⟨g, o + 1, none⟩ = some x1 ∧ W.cell? ⟨g, o + 2, none⟩ = some x2) ∧ (W.cell? ⟨q, 0, none⟩ = some y0 ∧ W.cell? ⟨q, 1, none⟩ = some y1 ∧ W.cell? ⟨q, 2, none⟩ = some y2)) (e : W' = W.drew) :
    (W'.cell? ⟨g, o, none⟩ = some x0 ∧ W'.cell? ⟨g, o + 1, none⟩ = some x1 ∧ W'.cell? ⟨g, o + 2, none⟩ = some x2) ∧ (W'.cell? ⟨q, 0, none⟩ = some y0 ∧ W'.cell? ⟨q, 1, none⟩ = some y1 ∧ W'.cell? ⟨q, 2, none⟩ = some y2) := by
  subst e
  exact h

set_option maxHeartbeats 8000000 in
set_option maxRecDepth 100000 in
theorem rhasA_ad (a : Option Addr) (c : Nat) (l : List Ad) (x : Ad) (w : World) (hl : l.length ≤ 1000) (hs : Lies adE w a l) :
    Calls Try.prog 27 #[.slice a l.length c, .agg #[.bool x.v, .int .u64 x.hi, .int .u64 x.lo]] w fun e w' => e = .returned (.bool (l.any (fun y => eqAd y x))) ∧ Below w.heap.size w w' := by
  have HX0 := Lib.hid (Has3.new w (.bool x.v) (.int .u64 x.hi) (.int .u64 x.lo) 24)
  have HB0 := Lib.hid (bal (Below.refl w.heap.size w) (.cells #[.bool x.v, .int .u64 x.hi, .int .u64 x.lo] 24))
  have HL := Lib.hid hs
  obtain ⟨R, hR⟩ : ∃ R, R = l.any (fun y => eqAd y x) := ⟨_, rfl⟩
  rw [← hR]
  have HR := Lib.hid hR
  obtain ⟨N, hN⟩ : ∃ N, N = l.length := ⟨_, rfl⟩
  rw [← hN] at hl ⊢
  have HN := Lib.hid hN
  have hEq : Hid (∀ (W : World) (y : Ad), (binOp .eql 24 (.agg #[.bool y.v, .int .u64 y.hi, .int .u64 y.lo]) (.agg #[.bool x.v, .int .u64 x.hi, .int .u64 x.lo])).run Try.prog W = .ok (.bool (eqAd y x)) W) := fun W y => eql_ad W y x
  have HEx : Hid (∀ y : Ad, eqAd y x = eqAd y x) := fun _ => rfl
  clear hs hR hN
  generalize hxv : x.v = v at *
  generalize hxh : x.hi = hi at *
  generalize hxl : x.lo = lo at *
  clear hxv hxh hxl
  go_enter Try.func27, Try.ntmps27
  go_wp2_with fail
  go_loopw [5] (fun vi wr => ∃ k : Nat, vi = .int .i64 k ∧ k ≤ N ∧ Hid (Has3 wr w.heap.size (.bool v) (.int .u64 hi) (.int .u64 lo)) ∧ Hid (Below w.heap.size w wr) ∧ Hid (R = (l.drop k).any (fun y => eqAd y x)))
    (fun vi _ => N - (intOf vi).toNat)
  case atStart => exact ⟨0, rfl, Nat.zero_le _, HX0, HB0, HR⟩
  case round =>
    clear HX0 HB0 HR
    obtain ⟨k, rfl, hk, HX, HB, hh⟩ := hrel
    by_cases hkN : k < N
    · have hkl : k < l.length := by have := HN.out; omega
      obtain ⟨g, o, rfl, hg, c0, c1, c2⟩ := HL.out.ad k hkl
      rw [← (bcell HB.out).1 _ _ hg] at c0 c1 c2
      have hkz : (k : Int) < (N : Int) := by omega
      have hk0 : (0 : Int) ≤ (k : Int) := by omega
      have hdec := hh.out
      rw [List.drop_eq_getElem_cons hkl, List.any_cons] at hdec
      have hEk := fun W => hEq.out W l[k]
      have HSd := Lib.hid (keep3b (w := w) (W := wr) ⟨⟨c0, c1, c2⟩, ⟨HX.out.1, HX.out.2.1, HX.out.2.2.1⟩⟩ rfl)
      generalize eqAd l[k] x = q at *
      generalize l[k].v = v' at *
      generalize l[k].hi = hi' at *
      generalize l[k].lo = lo' at *
      have HDec := Lib.hid hdec
      clear hdec hh hg c0 c1 c2
      cases q
      · have HE : Hid (R = (l.drop (k + 1)).any (fun y => eqAd y x)) := by rw [Hid, HDec.out, Bool.false_or]
        clear HDec
        go_wp2_with fail
        go_region_held3 (fun w' => (w'.cell? ⟨g, o + k * 3, none⟩ = some (.bool v') ∧ w'.cell? ⟨g, o + k * 3 + 1, none⟩ = some (.int .u64 hi') ∧ w'.cell? ⟨g, o + k * 3 + 2, none⟩ = some (.int .u64 lo')) ∧ (w'.cell? ⟨w.heap.size, 0, none⟩ = some (.bool v) ∧ w'.cell? ⟨w.heap.size, 1, none⟩ = some (.int .u64 hi) ∧ w'.cell? ⟨w.heap.size, 2, none⟩ = some (.int .u64 lo)))
          (first | with_reducible exact HSd.out | fail) (fail)
        go_wp2_with fail
        go_roundw
        case rel => exact ⟨k + 1, by go_num, by omega, HX.out.drew, HB.out.drew, HE⟩
        case measure => simp [intOf]; omega
      · have HE : Hid (R = true) := by rw [Hid, HDec.out, Bool.true_or]
        clear HDec
        go_wp2_with fail
        go_region_held3 (fun w' => (w'.cell? ⟨g, o + k * 3, none⟩ = some (.bool v') ∧ w'.cell? ⟨g, o + k * 3 + 1, none⟩ = some (.int .u64 hi') ∧ w'.cell? ⟨g, o + k * 3 + 2, none⟩ = some (.int .u64 lo')) ∧ (w'.cell? ⟨w.heap.size, 0, none⟩ = some (.bool v) ∧ w'.cell? ⟨w.heap.size, 1, none⟩ = some (.int .u64 hi) ∧ w'.cell? ⟨w.heap.size, 2, none⟩ = some (.int .u64 lo)))
          (first | with_reducible exact HSd.out | fail) (fail)
        go_wp2_with fail
        go_ret
        exact ⟨congrArg (fun r => Ending.returned (Value.bool r)) HE.out.symm, HB.out.drew⟩
    · obtain rfl : k = N := by omega
      have hkk : ¬ (k : Int) < (k : Int) := by omega
      have HE : Hid (R = false) := by rw [Hid, hh.out, List.drop_eq_nil_of_le (by have := HN.out; omega)]; rfl
      clear hh
      go_wp2_with fail
      go_ret
      exact ⟨congrArg (fun r => Ending.returned (Value.bool r)) HE.out.symm, HB.out⟩
end Go.Proofs.Ytiiankekobgebaa

namespace Go.Proofs.Ytiiankekobgebaa
open Go.RowKit Go.Shelf

theorem keepN4 {w W W' : World} {q : Nat} {y0 y1 y2 y3 : Value}
    (h : (W.cell? ⟨q, 0, none⟩ = some y0 ∧ W.cell? ⟨q, 1, none⟩ = some y1 ∧ W.cell? ⟨q, 2, none⟩ = some y2 ∧ W.cell? ⟨q, 3, none⟩ = some y3 ∧ q < W.heap.size) ∧ Below w.heap.size w W) (hb : Below W.heap.size W W') :
    (W'.cell? ⟨q, 0, none⟩ = some y0 ∧ W'.cell? ⟨q, 1, none⟩ = some y1 ∧ W'.cell? ⟨q, 2, none⟩ = some y2 ∧ W'.cell? ⟨q, 3, none⟩ = some y3 ∧ q < W'.heap.size) ∧ Below w.heap.size w W' := by
  obtain ⟨⟨a, b, c, d, e⟩, hw⟩ := h
  have k := (bcell hb).1
  exact ⟨⟨by rw [k _ _ e]; exact a, by rw [k _ _ e]; exact b, by rw [k _ _ e]; exact c, by rw [k _ _ e]; exact d, Nat.lt_of_lt_of_le e hb.size⟩, btr hw hb⟩
set_option maxHeartbeats 8000000 in
theorem narrow_any (v : Bool) (hi lo b : Int) (w : World) (b0 : 0 ≤ b) (b1 : b ≤ wid v) :
    Calls Try.prog 37 #[.agg #[.bool v, .int .u64 hi, .int .u64 lo, .int .i64 b]] w fun e w' => e = .returned (.bool (!wideB v b)) ∧ Below w.heap.size w w' := by
  have hW : Hid (∀ w : World, Calls Try.prog 53 #[.agg #[.bool v, .int .u64 hi, .int .u64 lo]] w fun e w' => e = .returned (.int .i64 (wid v)) ∧ Below w.heap.size w w') := fun w => rwide_any v hi lo w
  have hw : wid v ≤ 128 := by unfold wid; split <;> omega
  have HE : Hid ((!wideB v b) = decide (wid v - b ≤ 4)) := by
    unfold wideB
    rw [Hid, ← decide_not]
    exact decide_eq_decide.2 (by omega)
  generalize (!wideB v b) = R at *
  generalize wid v = W at *
  have hwr : IntKind.i64.wrap (W - b) = W - b := by rw [IntKind.wrap_i64]; omega
  have HSd := Lib.hid (keepN4 (w := w) ⟨Has4.new w v hi lo b 26, bal (Below.refl w.heap.size w) _⟩ (Below.refl _ _).drew)
  go_enter Try.func37, Try.ntmps37
  go_wp2_with fail
  go_region_held3 (fun w' => (w'.cell? ⟨w.heap.size, 0, none⟩ = some (.bool v) ∧ w'.cell? ⟨w.heap.size, 1, none⟩ = some (.int .u64 hi) ∧ w'.cell? ⟨w.heap.size, 2, none⟩ = some (.int .u64 lo) ∧ w'.cell? ⟨w.heap.size, 3, none⟩ = some (.int .i64 b) ∧ w.heap.size < w'.heap.size) ∧ Below w.heap.size w w')
    (first | with_reducible exact HSd.out | with_reducible exact HSe.out | fail)
    ((go_at_call 53; refine (hW.out _).mono ?_; rintro e wx ⟨rfl, hb⟩; have HSe := Lib.hid (keepN4 HSd.out hb); clear hb))
  have HB2 := Lib.hid HSe.out.2
  clear HSe HSd
  go_wp2_with fail
  go_ret
  exact ⟨congrArg (fun r => Ending.returned (Value.bool r)) HE.out.symm, HB2.out⟩
theorem keepC5 {w W W' : World} {pb g o : Nat} {y0 y1 y2 y3 y4 x0 x1 x2 : Value}
    (h : (W.cell? ⟨pb, 0, none⟩ = some y0 ∧ W.cell? ⟨pb, 1, none⟩ = some y1 ∧ W.cell? ⟨pb, 2, none⟩ = some y2 ∧ W.cell? ⟨pb, 3, none⟩ = some y3 ∧ W.cell? ⟨pb, 4, none⟩ = some y4 ∧ pb < W.heap.size) ∧ (W.cell? ⟨g, o, none⟩ = some x0 ∧ W.cell? ⟨g, o + 1, none⟩ = some x1 ∧ W.cell? ⟨g, o + 2, none⟩ = some x2 ∧ g < W.heap.size) ∧ Below w.heap.size w W) (hb : Below W.heap.size W W') :
    (W'.cell? ⟨pb, 0, none⟩ = some y0 ∧ W'.cell? ⟨pb, 1, none⟩ = some y1 ∧ W'.cell? ⟨pb, 2, none⟩ = some y2 ∧ W'.cell? ⟨pb, 3, none⟩ = some y3 ∧ W'.cell? ⟨pb, 4, none⟩ = some y4 ∧ pb < W'.heap.size) ∧ (W'.cell? ⟨g, o, none⟩ = some x0 ∧ W'.cell? ⟨g, o + 1, none⟩ = some x1 ∧ W'.cell? ⟨g, o + 2, none⟩ = some x2 ∧ g < W'.heap.size) ∧ Below w.heap.size w W' := by
  obtain ⟨h1, ⟨b0, b1, b2, b3⟩, hw⟩ := h
  have k := (bcell hb).1
  exact ⟨Has5.below h1 hb, ⟨by rw [k _ _ b3]; exact b0, by rw [k _ _ b3]; exact b1, by rw [k _ _ b3]; exact b2, Nat.lt_of_lt_of_le b3 hb.size⟩, btr hw hb⟩
theorem keepC6 {w W W' : World} {pb g o g' o' : Nat} {y0 y1 y2 y3 y4 x0 x1 x2 z0 z1 z2 : Value}
    (h : (W.cell? ⟨pb, 0, none⟩ = some y0 ∧ W.cell? ⟨pb, 1, none⟩ = some y1 ∧ W.cell? ⟨pb, 2, none⟩ = some y2 ∧ W.cell? ⟨pb, 3, none⟩ = some y3 ∧ W.cell? ⟨pb, 4, none⟩ = some y4 ∧ pb < W.heap.size) ∧ ((W.cell? ⟨g, o, none⟩ = some x0 ∧ W.cell? ⟨g, o + 1, none⟩ = some x1 ∧ W.cell? ⟨g, o + 2, none⟩ = some x2 ∧ g < W.heap.size) ∧ (W.cell? ⟨g', o', none⟩ = some z0 ∧ W.cell? ⟨g', o' + 1, none⟩ = some z1 ∧ W.cell? ⟨g', o' + 2, none⟩ = some z2 ∧ g' < W.heap.size)) ∧ Below w.heap.size w W) (hb : Below W.heap.size W W') :
    (W'.cell? ⟨pb, 0, none⟩ = some y0 ∧ W'.cell? ⟨pb, 1, none⟩ = some y1 ∧ W'.cell? ⟨pb, 2, none⟩ = some y2 ∧ W'.cell? ⟨pb, 3, none⟩ = some y3 ∧ W'.cell? ⟨pb, 4, none⟩ = some y4 ∧ pb < W'.heap.size) ∧ ((W'.cell? ⟨g, o, none⟩ = some x0 ∧ W'.cell? ⟨g, o + 1, none⟩ = some x1 ∧ W'.cell? ⟨g, o + 2, none⟩ = some x2 ∧ g < W'.heap.size) ∧ (W'.cell? ⟨g', o', none⟩ = some z0 ∧ W'.cell? ⟨g', o' + 1, none⟩ = some z1 ∧ W'.cell? ⟨g', o' + 2, none⟩ = some z2 ∧ g' < W'.heap.size)) ∧ Below w.heap.size w W' := by
  obtain ⟨h1, ⟨h2, h3⟩, hw⟩ := h
  have A := keepC5 ⟨h1, h2, hw⟩ hb
  have B := keepC5 ⟨h1, h3, hw⟩ hb
  exact ⟨A.1, ⟨A.2.1, B.2.1⟩, A.2.2⟩

set_option maxHeartbeats 16000000 in
set_option maxRecDepth 100000 in
theorem rpool_any (p : Pf) (hp : p.Ok) (a : Option Addr) (c : Nat) (l : List Ad) (w : World) (hs : Lies adE w a l) :
    Calls Try.prog 14 #[.agg #[.bool p.v, .int .u64 p.hi, .int .u64 p.lo, .int .i64 p.b, .slice a l.length c]] w fun e w' => e = .returned (.int .i64 (poolE p l)) ∧ Below w.heap.size w w' := by
  obtain ⟨i0, i1, l0, l1⟩ := hp
  have HP := Lib.hid (Has5.new w (.bool p.v) (.int .u64 p.hi) (.int .u64 p.lo) (.int .i64 p.b) (.slice a l.length c) 29)
  have HB := Lib.hid (bal (Below.refl w.heap.size w) (.cells #[.bool p.v, .int .u64 p.hi, .int .u64 p.lo, .int .i64 p.b, .slice a l.length c] 29))
  have hC : Hid (∀ w : World, Calls Try.prog 36 #[.agg #[.bool p.v, .int .u64 p.hi, .int .u64 p.lo, .int .i64 p.b]] w fun e w' => e = .returned (.int .i64 p.chk) ∧ Below w.heap.size w w') := fun w => by
    have := rpcheck_nat p.v p.hi.toNat p.lo.toNat p.b w (by omega) (by omega)
    rw [Int.toNat_of_nonneg i0, Int.toNat_of_nonneg l0] at this
    exact this
  obtain ⟨R, hR⟩ : ∃ R, R = poolE p l := ⟨_, rfl⟩
  rw [← hR]
  have HR := Lib.hid hR
  have HL := Lib.hid hs
  obtain ⟨N, hN⟩ : ∃ N, N = l.length := ⟨_, rfl⟩
  rw [← hN] at HP HB ⊢
  have HN := Lib.hid hN
  clear hR hs hN
  by_cases hc : p.chk = 0
  · have hr : Right p.v p.hi p.lo p.b := (right_iff _ _ _ _ i0 i1 l0 l1).1 hc
    have hW : Hid (∀ w : World, Calls Try.prog 37 #[.agg #[.bool p.v, .int .u64 p.hi, .int .u64 p.lo, .int .i64 p.b]] w fun e w' => e = .returned (.bool (!wideB p.v p.b)) ∧ Below w.heap.size w w') := fun w => narrow_any p.v p.hi p.lo p.b w hr.b0 hr.b1
    have hI : Hid (∀ (x : Ad) (w : World), chk x.v x.hi x.lo = 0 → Calls Try.prog 26 #[.agg #[.bool p.v, .int .u64 p.hi, .int .u64 p.lo, .int .i64 p.b], .agg #[.bool x.v, .int .u64 x.hi, .int .u64 x.lo]] w fun e w' => e = .returned (.bool (p.inA x.v x.hi x.lo)) ∧ Below w.heap.size w w') := fun x w cx => rhas_ad p x w hr cx
    have HR1 : Hid (R = if wideB p.v p.b = true ∨ 6 < N then 2 else keptE p none l) := by rw [Hid, HR.out, poolE, if_pos hc, HN.out]
    rw [hc] at hC
    clear HR hr i0 i1 l0 l1 hc
    generalize wideB p.v p.b = wb at *
    cases wb
    · by_cases h6 : 6 < N
      · have HE : Hid (R = 2) := by rw [Hid, HR1.out, if_pos (.inr h6)]
        have h6' : (6 : Int) < (N : Int) := by omega
        generalize p.v = v at *
        generalize p.hi = hi at *
        generalize p.lo = lo at *
        generalize p.b = b at *
        go_enter Try.func14, Try.ntmps14
        go_wp2_with fail
        refine (hC.out _).mono ?_
        rintro e w2 ⟨rfl, hb⟩
        replace HP := Lib.hid (HP.out.below hb)
        replace HB := Lib.hid (btr HB.out hb)
        clear hb hC
        obtain ⟨p0, p1, p2, p3, p4, p5⟩ := HP.out
        go_wp2_with fail
        refine (hW.out _).mono ?_
        rintro e w3 ⟨rfl, hb⟩
        clear p0 p1 p2 p3 p4 p5
        obtain ⟨p0, p1, p2, p3, p4, p5⟩ := HP.out.below hb
        replace HB := Lib.hid (btr HB.out hb)
        clear hb hW HP
        go_wp2_with fail
        go_ret
        exact ⟨congrArg (fun r => Ending.returned (Value.int .i64 r)) HE.out.symm, HB.out⟩
      · have HR2 : Hid (R = keptE p none l) := by rw [Hid, HR1.out, if_neg (by simp; omega)]
        have hd6 : decide ((6 : Int) < (N : Int)) = false := decide_eq_false (by omega)
        have hN6 : N ≤ 6 := by omega
        clear HR1 h6
        generalize p.v = v at *
        generalize p.hi = hi at *
        generalize p.lo = lo at *
        generalize p.b = b at *
        go_enter Try.func14, Try.ntmps14
        go_wp2_with fail
        refine (hC.out _).mono ?_
        rintro e w2 ⟨rfl, hb⟩
        replace HP := Lib.hid (HP.out.below hb)
        replace HB := Lib.hid (btr HB.out hb)
        clear hb hC
        obtain ⟨p0, p1, p2, p3, p4, p5⟩ := HP.out
        go_wp2_with fail
        refine (hW.out _).mono ?_
        rintro e w3 ⟨rfl, hb⟩
        clear p0 p1 p2 p3 p4 p5
        replace HP := Lib.hid (HP.out.below hb)
        replace HB := Lib.hid (btr HB.out hb)
        clear hb hW
        obtain ⟨p0, p1, p2, p3, p4, p5⟩ := HP.out
        go_wp2_with fail
        clear p0 p1 p2 p3 p4 p5
        go_loopw [4] (fun vi wr => ∃ k : Nat, vi = .int .i64 k ∧ k ≤ N ∧ Hid (Has5 wr w.heap.size (.bool v) (.int .u64 hi) (.int .u64 lo) (.int .i64 b) (.slice a N c)) ∧ Hid (Below w.heap.size w wr) ∧ Hid (R = keptE p (prevA l k) (l.drop k)) ∧ Hid (∀ q, prevA l k = some q → chk q.v q.hi q.lo = 0))
          (fun vi _ => N - (intOf vi).toNat)
        case atStart => exact ⟨0, rfl, Nat.zero_le _, HP, HB, HR2, fun q hq => by simp [prevA] at hq⟩
        case round =>
          clear HP HB HR2
          obtain ⟨k, rfl, hk, HP, HB, hh, hpr⟩ := hrel
          by_cases hkN : k < N
          · have hkl : k < l.length := by have := HN.out; omega
            obtain ⟨g, o, rfl, hg, c0, c1, c2⟩ := HL.out.ad k hkl
            rw [← (bcell HB.out).1 _ _ hg] at c0 c1 c2
            have hgr : g < wr.heap.size := Nat.lt_of_lt_of_le hg HB.out.size
            have hdec := hh.out
            rw [List.drop_eq_getElem_cons hkl] at hdec
            obtain ⟨x, hx⟩ : ∃ x, x = l[k] := ⟨_, rfl⟩
            rw [← hx] at c0 c1 c2 hdec
            have hnx : prevA l (k + 1) = some x := by rw [hx]; exact prevA_succ l k hkl
            have hCk : Hid (∀ w : World, Calls Try.prog 23 #[.agg #[.bool x.v, .int .u64 x.hi, .int .u64 x.lo]] w fun e w' => e = .returned (.int .i64 (chk x.v x.hi x.lo)) ∧ Below w.heap.size w w') := fun w => rcheck_any x.v x.hi x.lo w x.ok.1.1 x.ok.2.1
            have hkz : (k : Int) < (N : Int) := by omega
            have hk0 : (0 : Int) ≤ (k : Int) := by omega
            have HSt : Hid (chk x.v x.hi x.lo = 0 → p.inA x.v x.hi x.lo = true → k = 0 → R = keptE p (prevA l (k + 1)) (l.drop (k + 1))) := by
              intro e1 e2 e3
              subst e3
              rw [hdec, hnx, show prevA l 0 = none from rfl, keptE, if_pos e1, if_pos e2]
            have HS0 : Hid (¬ chk x.v x.hi x.lo = 0 → R = chk x.v x.hi x.lo) := by
              intro e1
              rw [hdec]
              cases prevA l k <;> rw [keptE, if_neg e1]
            have HS1 : Hid (chk x.v x.hi x.lo = 0 → ¬ p.inA x.v x.hi x.lo = true → R = 5) := by
              intro e1 e2
              rw [hdec]
              cases prevA l k <;> rw [keptE, if_pos e1, if_neg e2]
            have HS2 : Hid (chk x.v x.hi x.lo = 0 → p.inA x.v x.hi x.lo = true → ∀ m (hm : m < l.length), k = m + 1 → R = if l[m].less x = true then keptE p (prevA l (k + 1)) (l.drop (k + 1)) else 4) := by
              intro e1 e2 m hm e3
              subst e3
              rw [hdec, hnx, prevA_succ l m hm, keptE, if_pos e1, if_pos e2]
            have HLs : Hid (∀ m (hm : m < l.length) (w : World), chk l[m].v l[m].hi l[m].lo = 0 → chk x.v x.hi x.lo = 0 → Calls Try.prog 25 #[.agg #[.bool l[m].v, .int .u64 l[m].hi, .int .u64 l[m].lo], .agg #[.bool x.v, .int .u64 x.hi, .int .u64 x.lo]] w fun e w' => e = .returned (.bool (l[m].less x)) ∧ Below w.heap.size w w') :=
              fun m hm w c1 c2 => isAhead_ad l[m] x w c1 c2
            have HLl : Hid (∀ m, k = m + 1 → ∃ (hm : m < l.length) (y : Ad), y = l[m] ∧ wr.cell? ⟨g, o + m * 3, none⟩ = some (.bool y.v) ∧ wr.cell? ⟨g, o + m * 3 + 1, none⟩ = some (.int .u64 y.hi) ∧ wr.cell? ⟨g, o + m * 3 + 2, none⟩ = some (.int .u64 y.lo)) := by
              intro m hm
              have hml : m < l.length := by omega
              obtain ⟨g', o', e', _, d0, d1, d2⟩ := HL.out.ad m hml
              obtain ⟨rfl, rfl⟩ : g = g' ∧ o = o' := by simpa using e'
              rw [← (bcell HB.out).1 _ _ hg] at d0 d1 d2
              exact ⟨hml, l[m], rfl, d0, d1, d2⟩
            have hgH : Hid (g < wr.heap.size) := hgr
            have HPx : Hid (chk x.v x.hi x.lo = 0 → ∀ q, prevA l (k + 1) = some q → chk q.v q.hi q.lo = 0) := fun e q hq => by rw [hnx] at hq; injection hq with hq; rw [← hq]; exact e
            have HCm : Hid (∀ m (hm : m < l.length), k = m + 1 → chk l[m].v l[m].hi l[m].lo = 0) := fun m hm e => hpr.out l[m] (by rw [e]; exact prevA_succ l m hm)
            have hIx : Hid (chk x.v x.hi x.lo = 0 → ∀ w : World, Calls Try.prog 26 #[.agg #[.bool v, .int .u64 hi, .int .u64 lo, .int .i64 b], .agg #[.bool x.v, .int .u64 x.hi, .int .u64 x.lo]] w fun e w' => e = .returned (.bool (p.inA x.v x.hi x.lo)) ∧ Below w.heap.size w w') := fun e w => hI.out x w e
            clear hdec hnx hh hx hg HL hI hpr
            generalize hr1 : chk x.v x.hi x.lo = r1 at *
            generalize hr2 : p.inA x.v x.hi x.lo = r2 at *
            obtain ⟨p0, p1, p2, p3, p4, p5⟩ := HP.out
            by_cases hc0 : r1 = 0
            · subst hc0
              clear HS0
              replace hIx := Lib.hid (hIx.out rfl)
              cases r2
              · have HE := Lib.hid (HS1.out rfl (by decide))
                clear HSt HS1 HS2 HLs HLl hr1 hr2
                generalize x.v = xv at *
                generalize x.hi = xh at *
                generalize x.lo = xl at *
                go_wp2_with fail
                refine (hCk.out _).mono ?_
                rintro e w4 ⟨rfl, hb⟩
                have HF4 := Lib.hid hb
                replace HP := Lib.hid (HP.out.below hb)
                replace HB := Lib.hid (btr HB.out hb)
                rw [← (bcell hb).1 _ _ hgr] at c0 c1 c2
                replace hgr : g < w4.heap.size := Nat.lt_of_lt_of_le hgr hb.size
                clear hb hCk p0 p1 p2 p3 p4 p5
                have HSd := Lib.hid (keepC5 (w := w) ⟨HP.out, ⟨c0, c1, c2, hgr⟩, HB.out⟩ (Below.refl _ _).drew)
                clear c0 c1 c2
                go_wp2_with fail
                go_region_held3 (fun w' => (w'.cell? ⟨w.heap.size, 0, none⟩ = some (.bool v) ∧ w'.cell? ⟨w.heap.size, 1, none⟩ = some (.int .u64 hi) ∧ w'.cell? ⟨w.heap.size, 2, none⟩ = some (.int .u64 lo) ∧ w'.cell? ⟨w.heap.size, 3, none⟩ = some (.int .i64 b) ∧ w'.cell? ⟨w.heap.size, 4, none⟩ = some (.slice (some ⟨g, o, none⟩) N c) ∧ w.heap.size < w'.heap.size) ∧ (w'.cell? ⟨g, o + k * 3, none⟩ = some (.bool xv) ∧ w'.cell? ⟨g, o + k * 3 + 1, none⟩ = some (.int .u64 xh) ∧ w'.cell? ⟨g, o + k * 3 + 2, none⟩ = some (.int .u64 xl) ∧ g < w'.heap.size) ∧ Below w.heap.size w w')
                  (first | with_reducible exact HSd.out | with_reducible exact HSe.out | fail)
                  ((go_at_call 26; refine (hIx.out _).mono ?_; rintro e wx ⟨rfl, hb⟩; have HSe := Lib.hid (keepC5 HSd.out hb); have HFe := Lib.hid (((Below.refl _ _).drew : Below w4.heap.size w4 w4.drew).trans hb); clear hb))
                have HB2 := Lib.hid HSe.out.2.2
                clear HSe HSd
                go_wp2_with fail
                go_ret
                exact ⟨congrArg (fun r => Ending.returned (Value.int .i64 r)) HE.out.symm, HB2.out⟩
              · have HPy := Lib.hid (HPx.out rfl)
                by_cases hk00 : k = 0
                · subst hk00
                  have HE := Lib.hid (HSt.out rfl rfl rfl)
                  simp only [Nat.zero_mul, Nat.add_zero] at c0 c1 c2
                  have hdk : decide ((0 : Int) < ((0 : Nat) : Int)) = false := by decide
                  clear HSt HS1 HS2 HLs HLl hr1 hr2 HCm HPx
                  generalize x.v = xv at *
                  generalize x.hi = xh at *
                  generalize x.lo = xl at *
                  go_wp2_with fail
                  refine (hCk.out _).mono ?_
                  rintro e w4 ⟨rfl, hb⟩
                  have HF4 := Lib.hid hb
                  replace HP := Lib.hid (HP.out.below hb)
                  replace HB := Lib.hid (btr HB.out hb)
                  rw [← (bcell hb).1 _ _ hgr] at c0 c1 c2
                  replace hgr : g < w4.heap.size := Nat.lt_of_lt_of_le hgr hb.size
                  clear hb hCk p0 p1 p2 p3 p4 p5
                  have HSd := Lib.hid (keepC5 (w := w) ⟨HP.out, ⟨c0, c1, c2, hgr⟩, HB.out⟩ (Below.refl _ _).drew)
                  clear c0 c1 c2
                  go_wp2_with fail
                  go_region_held3 (fun w' => (w'.cell? ⟨w.heap.size, 0, none⟩ = some (.bool v) ∧ w'.cell? ⟨w.heap.size, 1, none⟩ = some (.int .u64 hi) ∧ w'.cell? ⟨w.heap.size, 2, none⟩ = some (.int .u64 lo) ∧ w'.cell? ⟨w.heap.size, 3, none⟩ = some (.int .i64 b) ∧ w'.cell? ⟨w.heap.size, 4, none⟩ = some (.slice (some ⟨g, o, none⟩) N c) ∧ w.heap.size < w'.heap.size) ∧ (w'.cell? ⟨g, o, none⟩ = some (.bool xv) ∧ w'.cell? ⟨g, o + 1, none⟩ = some (.int .u64 xh) ∧ w'.cell? ⟨g, o + 2, none⟩ = some (.int .u64 xl) ∧ g < w'.heap.size) ∧ Below w.heap.size w w')
                    (first | with_reducible exact HSd.out | with_reducible exact HSe.out | fail)
                    ((go_at_call 26; refine (hIx.out _).mono ?_; rintro e wx ⟨rfl, hb⟩; have HSe := Lib.hid (keepC5 HSd.out hb); have HFe := Lib.hid (((Below.refl _ _).drew : Below w4.heap.size w4 w4.drew).trans hb); clear hb))
                  have HB2 := Lib.hid HSe.out.2.2
                  have HP2 : Hid (Has5 wx w.heap.size (.bool v) (.int .u64 hi) (.int .u64 lo) (.int .i64 b) (.slice (some ⟨g, o, none⟩) N c)) := HSe.out.1
                  clear HSe HSd HFe
                  go_wp2_with fail
                  go_region
                  all_goals go_wp2_with fail
                  go_roundw
                  case rel => exact ⟨0 + 1, by go_num, by omega, HP2, HB2.out.drew, HE, HPy⟩
                  case measure => simp [intOf]; omega
                · obtain ⟨m, rfl⟩ : ∃ m, k = m + 1 := ⟨k - 1, by omega⟩
                  obtain ⟨hml, y, hy, d0, d1, d2⟩ := HLl.out m rfl
                  have HE := Lib.hid (HS2.out rfl rfl m hml rfl)
                  have hLm := Lib.hid (fun w => HLs.out m hml w (HCm.out m hml rfl) rfl)
                  have hm5 : (0 : Int) ≤ (m : Int) + 1 := by omega
                  have hm6 : (m : Int) + 1 < (N : Int) := by omega
                  rw [← hy] at HE hLm
                  clear HSt HS1 HS2 HLs HLl hr1 hr2 hy HCm HPx
                  generalize y.less x = r3 at *
                  generalize x.v = xv at *
                  generalize x.hi = xh at *
                  generalize x.lo = xl at *
                  generalize y.v = yv at *
                  generalize y.hi = yh at *
                  generalize y.lo = yl at *
                  go_wp2_with fail
                  refine (hCk.out _).mono ?_
                  rintro e w4 ⟨rfl, hb⟩
                  have HF4 := Lib.hid hb
                  replace HP := Lib.hid (HP.out.below hb)
                  replace HB := Lib.hid (btr HB.out hb)
                  rw [← (bcell hb).1 _ _ hgr] at c0 c1 c2
                  replace hgr : g < w4.heap.size := Nat.lt_of_lt_of_le hgr hb.size
                  clear hb hCk p0 p1 p2 p3 p4 p5
                  have HSd := Lib.hid (keepC5 (w := w) ⟨HP.out, ⟨c0, c1, c2, hgr⟩, HB.out⟩ (Below.refl _ _).drew)
                  clear c0 c1 c2
                  go_wp2_with fail
                  go_region_held3 (fun w' => (w'.cell? ⟨w.heap.size, 0, none⟩ = some (.bool v) ∧ w'.cell? ⟨w.heap.size, 1, none⟩ = some (.int .u64 hi) ∧ w'.cell? ⟨w.heap.size, 2, none⟩ = some (.int .u64 lo) ∧ w'.cell? ⟨w.heap.size, 3, none⟩ = some (.int .i64 b) ∧ w'.cell? ⟨w.heap.size, 4, none⟩ = some (.slice (some ⟨g, o, none⟩) N c) ∧ w.heap.size < w'.heap.size) ∧ (w'.cell? ⟨g, o + (m + 1) * 3, none⟩ = some (.bool xv) ∧ w'.cell? ⟨g, o + (m + 1) * 3 + 1, none⟩ = some (.int .u64 xh) ∧ w'.cell? ⟨g, o + (m + 1) * 3 + 2, none⟩ = some (.int .u64 xl) ∧ g < w'.heap.size) ∧ Below w.heap.size w w')
                    (first | with_reducible exact HSd.out | with_reducible exact HSe.out | fail)
                    ((go_at_call 26; refine (hIx.out _).mono ?_; rintro e wx ⟨rfl, hb⟩; have HSe := Lib.hid (keepC5 HSd.out hb); have HFe := Lib.hid (((Below.refl _ _).drew : Below w4.heap.size w4 w4.drew).trans hb); clear hb))
                  have HFw := Lib.hid (btr HF4.out HFe.out)
                  rw [← (bcell HFw.out).1 _ _ hgH.out] at d0 d1 d2
                  have HSf := Lib.hid (keepC6 (w := w) ⟨HSe.out.1, ⟨HSe.out.2.1, ⟨d0, d1, d2, HSe.out.2.1.2.2.2⟩⟩, HSe.out.2.2⟩ (Below.refl _ _).drew)
                  have HP2 : Hid (Has5 wx w.heap.size (.bool v) (.int .u64 hi) (.int .u64 lo) (.int .i64 b) (.slice (some ⟨g, o, none⟩) N c)) := HSe.out.1
                  have hm1 : (0 : Int) ≤ (m : Int) := by omega
                  have hm2 : (m : Int) < (N : Int) := by omega
                  have hm3 : (0 : Int) < (m : Int) + 1 := by omega
                  have hwr : IntKind.i64.wrap ((m : Int) + 1 - 1) = (m : Int) := by rw [IntKind.wrap_i64]; omega
                  have hwr2 : IntKind.i64.wrap (m : Int) = (m : Int) := by rw [IntKind.wrap_i64]; omega
                  clear d0 d1 d2 HSe HSd HFe HFw HF4
                  cases r3
                  · have HE2 : Hid (R = 4) := by rw [Hid, HE.out]; rfl
                    clear HE
                    go_wp2_with fail
                    go_region_held3 (fun w' => (w'.cell? ⟨w.heap.size, 0, none⟩ = some (.bool v) ∧ w'.cell? ⟨w.heap.size, 1, none⟩ = some (.int .u64 hi) ∧ w'.cell? ⟨w.heap.size, 2, none⟩ = some (.int .u64 lo) ∧ w'.cell? ⟨w.heap.size, 3, none⟩ = some (.int .i64 b) ∧ w'.cell? ⟨w.heap.size, 4, none⟩ = some (.slice (some ⟨g, o, none⟩) N c) ∧ w.heap.size < w'.heap.size) ∧ ((w'.cell? ⟨g, o + (m + 1) * 3, none⟩ = some (.bool xv) ∧ w'.cell? ⟨g, o + (m + 1) * 3 + 1, none⟩ = some (.int .u64 xh) ∧ w'.cell? ⟨g, o + (m + 1) * 3 + 2, none⟩ = some (.int .u64 xl) ∧ g < w'.heap.size) ∧ (w'.cell? ⟨g, o + m * 3, none⟩ = some (.bool yv) ∧ w'.cell? ⟨g, o + m * 3 + 1, none⟩ = some (.int .u64 yh) ∧ w'.cell? ⟨g, o + m * 3 + 2, none⟩ = some (.int .u64 yl) ∧ g < w'.heap.size)) ∧ Below w.heap.size w w')
                      (first | with_reducible exact HSf.out | with_reducible exact HSg.out | fail)
                      ((go_at_call 25; refine (hLm.out _).mono ?_; rintro e wy ⟨rfl, hb⟩; have HSg := Lib.hid (keepC6 HSf.out hb); clear hb))
                    have HB2 := Lib.hid HSg.out.2.2
                    clear HSg HSf
                    go_wp2_with fail
                    go_ret
                    exact ⟨congrArg (fun r => Ending.returned (Value.int .i64 r)) HE2.out.symm, HB2.out⟩
                  · have HE2 := Lib.hid (HE.out.trans (if_pos rfl))
                    clear HE
                    go_wp2_with fail
                    go_region_held3 (fun w' => (w'.cell? ⟨w.heap.size, 0, none⟩ = some (.bool v) ∧ w'.cell? ⟨w.heap.size, 1, none⟩ = some (.int .u64 hi) ∧ w'.cell? ⟨w.heap.size, 2, none⟩ = some (.int .u64 lo) ∧ w'.cell? ⟨w.heap.size, 3, none⟩ = some (.int .i64 b) ∧ w'.cell? ⟨w.heap.size, 4, none⟩ = some (.slice (some ⟨g, o, none⟩) N c) ∧ w.heap.size < w'.heap.size) ∧ ((w'.cell? ⟨g, o + (m + 1) * 3, none⟩ = some (.bool xv) ∧ w'.cell? ⟨g, o + (m + 1) * 3 + 1, none⟩ = some (.int .u64 xh) ∧ w'.cell? ⟨g, o + (m + 1) * 3 + 2, none⟩ = some (.int .u64 xl) ∧ g < w'.heap.size) ∧ (w'.cell? ⟨g, o + m * 3, none⟩ = some (.bool yv) ∧ w'.cell? ⟨g, o + m * 3 + 1, none⟩ = some (.int .u64 yh) ∧ w'.cell? ⟨g, o + m * 3 + 2, none⟩ = some (.int .u64 yl) ∧ g < w'.heap.size)) ∧ Below w.heap.size w w')
                      (first | with_reducible exact HSf.out | with_reducible exact HSg.out | fail)
                      ((go_at_call 25; refine (hLm.out _).mono ?_; rintro e wy ⟨rfl, hb⟩; have HSg := Lib.hid (keepC6 HSf.out hb); clear hb))
                    have HB2 := Lib.hid HSg.out.2.2
                    have HP3 : Hid (Has5 wy w.heap.size (.bool v) (.int .u64 hi) (.int .u64 lo) (.int .i64 b) (.slice (some ⟨g, o, none⟩) N c)) := HSg.out.1
                    clear HSg HSf
                    go_wp2_with fail
                    go_roundw
                    case rel => exact ⟨m + 1 + 1, by go_num, by omega, HP3, HB2, HE2, HPy⟩
                    case measure => simp [intOf]; omega
            · have HE := Lib.hid (HS0.out hc0)
              have hI1 : (r1 != 0) = true := by rw [bne_iff_ne]; exact hc0
              clear HSt HS1 HS2 HLs HLl HS0 hr1 hr2 hc0 hIx
              generalize x.v = xv at *
              generalize x.hi = xh at *
              generalize x.lo = xl at *
              go_wp2_with fail
              refine (hCk.out _).mono ?_
              rintro e w4 ⟨rfl, hb⟩
              replace HB := Lib.hid (btr HB.out hb)
              clear hb
              go_wp2_with fail
              go_ret
              exact ⟨congrArg (fun r => Ending.returned (Value.int .i64 r)) HE.out.symm, HB.out⟩
          · obtain rfl : k = N := by omega
            have hkk : ¬ (k : Int) < (k : Int) := by omega
            have hd := hh.out
            rw [List.drop_eq_nil_of_le (by have := HN.out; omega), keptE_nil] at hd
            have HE := Lib.hid hd
            clear hd hh
            obtain ⟨p0, p1, p2, p3, p4, p5⟩ := HP.out
            go_wp2_with fail
            go_ret
            exact ⟨congrArg (fun r => Ending.returned (Value.int .i64 r)) HE.out.symm, HB.out⟩
    · have HE : Hid (R = 2) := by rw [Hid, HR1.out, if_pos (.inl rfl)]
      generalize p.v = v at *
      generalize p.hi = hi at *
      generalize p.lo = lo at *
      generalize p.b = b at *
      go_enter Try.func14, Try.ntmps14
      go_wp2_with fail
      refine (hC.out _).mono ?_
      rintro e w2 ⟨rfl, hb⟩
      obtain ⟨p0, p1, p2, p3, p4, p5⟩ := HP.out.below hb
      replace HB := Lib.hid (btr HB.out hb)
      clear hb hC
      go_wp2_with fail
      refine (hW.out _).mono ?_
      rintro e w3 ⟨rfl, hb⟩
      replace HB := Lib.hid (btr HB.out hb)
      clear hb hW p0 p1 p2 p3 p4 p5
      go_wp2_with fail
      go_ret
      exact ⟨congrArg (fun r => Ending.returned (Value.int .i64 r)) HE.out.symm, HB.out⟩
  · have HE : Hid (R = p.chk) := by rw [Hid, HR.out, poolE, if_neg hc]
    have hI : (p.chk != 0) = true := by rw [bne_iff_ne]; exact hc
    clear hc HR
    generalize p.chk = r at *
    generalize p.v = v at *
    generalize p.hi = hi at *
    generalize p.lo = lo at *
    generalize p.b = b at *
    go_enter Try.func14, Try.ntmps14
    go_wp2_with fail
    refine (hC.out _).mono ?_
    rintro e w2 ⟨rfl, hb⟩
    go_wp2_with fail
    go_ret
    exact ⟨congrArg (fun r => Ending.returned (Value.int .i64 r)) HE.out.symm, btr HB.out hb⟩
end Go.Proofs.Ytiiankekobgebaa

namespace Go.Proofs.Ytiiankekobgebaa
open Go.RowKit Go.Shelf

theorem find_any {α : Type} (f : α → Bool) (l : List α) : decide ((0 : Int) ≤ idxI (l.findIdx? f)) = l.any f := by
  cases h : l.findIdx? f with
  | none =>
    have := List.findIdx?_eq_none_iff.1 h
    rw [show l.any f = false from List.any_eq_false.2 fun x hx => by rw [this x hx]; simp]
    rfl
  | some i =>
    obtain ⟨hi, hp, _⟩ := List.findIdx?_eq_some_iff_getElem.1 h
    rw [show l.any f = true from List.any_eq_true.2 ⟨_, List.getElem_mem hi, hp⟩]
    simp [idxI]
theorem keepW {w W W' : World} {pb g o : Nat} {y0 y1 y2 y3 y4 x3 : Value}
    (h : (W.cell? ⟨pb, 0, none⟩ = some y0 ∧ W.cell? ⟨pb, 1, none⟩ = some y1 ∧ W.cell? ⟨pb, 2, none⟩ = some y2 ∧ W.cell? ⟨pb, 3, none⟩ = some y3 ∧ W.cell? ⟨pb, 4, none⟩ = some y4 ∧ pb < W.heap.size) ∧ (W.cell? ⟨g, o + 3, none⟩ = some x3 ∧ g < W.heap.size) ∧ Below w.heap.size w W) (e : W' = W.drew) :
    (W'.cell? ⟨pb, 0, none⟩ = some y0 ∧ W'.cell? ⟨pb, 1, none⟩ = some y1 ∧ W'.cell? ⟨pb, 2, none⟩ = some y2 ∧ W'.cell? ⟨pb, 3, none⟩ = some y3 ∧ W'.cell? ⟨pb, 4, none⟩ = some y4 ∧ pb < W'.heap.size) ∧ (W'.cell? ⟨g, o + 3, none⟩ = some x3 ∧ g < W'.heap.size) ∧ Below w.heap.size w W' := by
  subst e
  exact ⟨h.1, h.2.1, h.2.2.drew⟩

set_option maxHeartbeats 16000000 in
set_option maxRecDepth 100000 in
theorem rcheck_of (p : Pf) (hp : p.Ok) (ka : Option Addr) (kc : Nat) (kept : List Ad) (a : Option Addr) (c : Nat) (l : List Ls) (now : Int) (w : World) (hk : Lies adE w ka kept) (hs : Lies lsE w a l) (hws : ∀ x ∈ l, x.who.size ≤ maxLen) (hc : l.length ≤ c) :
    Calls Try.prog 8 #[.agg #[.bool p.v, .int .u64 p.hi, .int .u64 p.lo, .int .i64 p.b, .slice ka kept.length kc], .slice a l.length c, .int .i64 now] w fun e w' => e = .returned (.int .i64 (checkE p kept l now)) ∧ Below w.heap.size w w' := by
  have HP := Lib.hid (Has5.new w (.bool p.v) (.int .u64 p.hi) (.int .u64 p.lo) (.int .i64 p.b) (.slice ka kept.length kc) 29)
  have HB := Lib.hid (bal (Below.refl w.heap.size w) (.cells #[.bool p.v, .int .u64 p.hi, .int .u64 p.lo, .int .i64 p.b, .slice ka kept.length kc] 29))
  have HC : Hid (∀ w' : World, Below w.heap.size w w' → Calls Try.prog 14 #[.agg #[.bool p.v, .int .u64 p.hi, .int .u64 p.lo, .int .i64 p.b, .slice ka kept.length kc]] w' fun e w'' => e = .returned (.int .i64 (poolE p kept)) ∧ Below w'.heap.size w' w'') := fun w' hb => rpool_any p hp ka kc kept w' (hk.below hb)
  have HK : Hid (∀ w' : World, Below w.heap.size w w' → Calls Try.prog 7 #[.slice a l.length c, .int .i64 now] w' fun e w'' => e = .returned (.int .i64 (lookL l now)) ∧ Below w'.heap.size w' w'') := fun w' hb => rleases_any a c l now w' (hs.below hb) hws
  obtain ⟨R, hR⟩ : ∃ R, R = checkE p kept l now := ⟨_, rfl⟩
  rw [← hR]
  have HR := Lib.hid hR
  have HL := Lib.hid hs
  have hgood : poolE p kept = 0 → p.R := fun h0 => by
    have hpc : p.chk = 0 := by
      unfold poolE at h0
      by_cases hc : p.chk = 0
      · exact hc
      · rw [if_neg hc] at h0; exact absurd h0 hc
    obtain ⟨i0, i1, l0, l1⟩ := hp
    exact (right_iff _ _ _ _ i0 i1 l0 l1).1 hpc
  have HN20 : lookL l now = 0 → l.length ≤ 20 := lookL_len20
  have HCk : lookL l now = 0 → ∀ x ∈ l, chk x.a.v x.a.hi x.a.lo = 0 := fun h x hx => rgt_chk (look_rgt h x hx)
  obtain ⟨N, hN⟩ : ∃ N, N = l.length := ⟨_, rfl⟩
  rw [← hN] at HK hc HN20 ⊢
  have HN := Lib.hid hN
  unfold checkE at HR
  generalize hr0 : poolE p kept = r0 at *
  generalize kept.length = KN at *
  generalize hr1 : lookL l now = r1 at *
  by_cases h0 : r0 = 0
  · subst h0
    rw [if_pos rfl] at HR
    have hpR := hgood rfl
    by_cases h1 : r1 = 0
    · subst h1
      rw [if_pos rfl] at HR
      have hN20 := HN20 rfl
      have HI : Hid (∀ x ∈ l, ∀ w : World, Calls Try.prog 26 #[.agg #[.bool p.v, .int .u64 p.hi, .int .u64 p.lo, .int .i64 p.b], .agg #[.bool x.a.v, .int .u64 x.a.hi, .int .u64 x.a.lo]] w fun e w' => e = .returned (.bool (p.inA x.a.v x.a.hi x.a.lo)) ∧ Below w.heap.size w w') := fun x hx w => rhas_ad p x.a w hpR (HCk rfl x hx)
      clear hk hs hR hN hr0 hr1 hgood HN20 HCk hpR hws hp
      generalize p.v = v at *
      generalize p.hi = hi at *
      generalize p.lo = lo at *
      generalize p.b = b at *
      go_enter Try.func8, Try.ntmps8
      go_wp2_with fail
      refine (HC.out _ HB.out).mono ?_
      rintro e w2 ⟨rfl, hb⟩
      replace HP := Lib.hid (HP.out.below hb)
      replace HB := Lib.hid (btr HB.out hb)
      clear hb HC
      go_wp2_with fail
      refine (HK.out _ HB.out).mono ?_
      rintro e w3 ⟨rfl, hb⟩
      replace HP := Lib.hid (HP.out.below hb)
      replace HB := Lib.hid (btr HB.out hb)
      clear hb HK
      go_wp2_with fail
      go_loopw [7, 8] (fun ve vi wr => ∃ (r : Int) (k : Nat), ve = .int .i64 r ∧ vi = .int .i64 k ∧ k ≤ N ∧ Hid (Has5 wr w.heap.size (.bool v) (.int .u64 hi) (.int .u64 lo) (.int .i64 b) (.slice ka KN kc)) ∧ Hid (Below w.heap.size w wr) ∧ Hid ((r = 0 ∧ R = chkOf p (l.take k) (l.drop k)) ∨ (¬ r = 0 ∧ R = r)))
        (fun _ vi _ => N - (intOf vi).toNat)
      case atStart => exact ⟨0, 0, rfl, rfl, Nat.zero_le _, HP, HB, .inl ⟨rfl, HR.out⟩⟩
      case round =>
        clear HP HB HR
        obtain ⟨r, k, rfl, rfl, hk, HP, HB, hh⟩ := hrel
        rcases hh.out with ⟨rfl, hdec⟩ | ⟨hr, hRr⟩
        · by_cases hkN : k < N
          · have hkl : k < l.length := by have := HN.out; omega
            obtain ⟨g, o, rfl, hg, c0, c1, c2, c3, _⟩ := HL.out.ls k hkl
            rw [← (bcell HB.out).1 _ _ hg] at c0 c1 c2 c3
            have hgr : g < wr.heap.size := Nat.lt_of_lt_of_le hg HB.out.size
            rw [List.drop_eq_getElem_cons hkl, chkOf] at hdec
            have htk : l.take (k + 1) = l.take k ++ [l[k]] := List.take_succ_eq_append_getElem hkl
            have hIx := Lib.hid (fun w => HI.out l[k] (List.getElem_mem hkl) w)
            have HWA : Hid (∀ w' : World, Below w.heap.size w w' → Calls Try.prog 18 #[.slice (some ⟨g, o, none⟩) k c, .string l[k].who] w' fun e w'' => e = .returned (.int .i64 (idxI ((l.take k).findIdx? (Ls.hasWho l[k].who)))) ∧ w'' = w') := fun w' hb => by
              have hlen : (l.take k).length = k := by rw [List.length_take]; omega
              have := whoAt_any (some ⟨g, o, none⟩) c (l.take k) l[k].who w' (by omega) ((HL.out.take k).below hb)
              rw [hlen] at this
              exact this
            have HFA := Lib.hid (find_any (Ls.hasWho l[k].who) (l.take k))
            have hkz : (k : Int) < (N : Int) := by omega
            have hk0 : (0 : Int) ≤ (k : Int) := by omega
            have hkc : (k : Int) ≤ (c : Int) := by omega
            have hkn : (k : Int) ≤ (N : Int) := by omega
            have HSd := Lib.hid (keepC5 (w := w) ⟨HP.out, ⟨c0, c1, c2, hgr⟩, HB.out⟩ (Below.refl _ _).drew)
            have HC3 : Hid (wr.cell? ⟨g, o + k * 5 + 3, none⟩ = some (.string l[k].who) ∧ g < wr.heap.size) := ⟨c3, hgr⟩
            have HTk := Lib.hid htk
            have HDec := Lib.hid hdec
            clear hdec hh htk c0 c1 c2 c3 hg hgr HL HI
            generalize p.inA l[k].a.v l[k].a.hi l[k].a.lo = r2 at *
            generalize (l.take k).any (Ls.hasWho l[k].who) = r3 at *
            generalize idxI ((l.take k).findIdx? (Ls.hasWho l[k].who)) = ix at *
            generalize l[k].a.v = xv at *
            generalize l[k].a.hi = xh at *
            generalize l[k].a.lo = xl at *
            generalize l[k].who = xw at *
            cases r2
            · have HE : Hid (R = 5) := by rw [Hid, HDec.out, if_neg (by decide)]
              clear HDec HTk HFA HWA
              go_wp2_with fail
              go_region_held3 (fun w' => (w'.cell? ⟨w.heap.size, 0, none⟩ = some (.bool v) ∧ w'.cell? ⟨w.heap.size, 1, none⟩ = some (.int .u64 hi) ∧ w'.cell? ⟨w.heap.size, 2, none⟩ = some (.int .u64 lo) ∧ w'.cell? ⟨w.heap.size, 3, none⟩ = some (.int .i64 b) ∧ w'.cell? ⟨w.heap.size, 4, none⟩ = some (.slice ka KN kc) ∧ w.heap.size < w'.heap.size) ∧ (w'.cell? ⟨g, o + k * 5, none⟩ = some (.bool xv) ∧ w'.cell? ⟨g, o + k * 5 + 1, none⟩ = some (.int .u64 xh) ∧ w'.cell? ⟨g, o + k * 5 + 2, none⟩ = some (.int .u64 xl) ∧ g < w'.heap.size) ∧ Below w.heap.size w w')
                (first | with_reducible exact HSd.out | with_reducible exact HSe.out | fail)
                ((go_at_call 26; refine (hIx.out _).mono ?_; rintro e wx ⟨rfl, hb⟩; have HSe := Lib.hid (keepC5 HSd.out hb); have HFe := Lib.hid (((Below.refl _ _).drew : Below wr.heap.size wr wr.drew).trans hb); clear hb))
              have HB2 := Lib.hid HSe.out.2.2
              have HP2 : Hid (Has5 wx w.heap.size (.bool v) (.int .u64 hi) (.int .u64 lo) (.int .i64 b) (.slice ka KN kc)) := HSe.out.1
              have hgx : Hid (g < wx.heap.size) := HSe.out.2.1.2.2.2
              clear HSe HSd
              go_wp2_with fail
              go_roundw
              case rel => exact ⟨5, k + 1, rfl, by go_num, by omega, HP2, HB2, .inr ⟨by decide, HE.out⟩⟩
              case measure => simp [intOf]; omega
            · have HD2 := Lib.hid (HDec.out.trans (if_pos rfl))
              clear HDec
              go_wp2_with fail
              go_region_held3 (fun w' => (w'.cell? ⟨w.heap.size, 0, none⟩ = some (.bool v) ∧ w'.cell? ⟨w.heap.size, 1, none⟩ = some (.int .u64 hi) ∧ w'.cell? ⟨w.heap.size, 2, none⟩ = some (.int .u64 lo) ∧ w'.cell? ⟨w.heap.size, 3, none⟩ = some (.int .i64 b) ∧ w'.cell? ⟨w.heap.size, 4, none⟩ = some (.slice ka KN kc) ∧ w.heap.size < w'.heap.size) ∧ (w'.cell? ⟨g, o + k * 5, none⟩ = some (.bool xv) ∧ w'.cell? ⟨g, o + k * 5 + 1, none⟩ = some (.int .u64 xh) ∧ w'.cell? ⟨g, o + k * 5 + 2, none⟩ = some (.int .u64 xl) ∧ g < w'.heap.size) ∧ Below w.heap.size w w')
                (first | with_reducible exact HSd.out | with_reducible exact HSe.out | fail)
                ((go_at_call 26; refine (hIx.out _).mono ?_; rintro e wx ⟨rfl, hb⟩; have HSe := Lib.hid (keepC5 HSd.out hb); have HFe := Lib.hid (((Below.refl _ _).drew : Below wr.heap.size wr wr.drew).trans hb); clear hb))
              have HB2 := Lib.hid HSe.out.2.2
              have HP2 : Hid (Has5 wx w.heap.size (.bool v) (.int .u64 hi) (.int .u64 lo) (.int .i64 b) (.slice ka KN kc)) := HSe.out.1
              have hgx : Hid (g < wx.heap.size) := HSe.out.2.1.2.2.2
              clear HSe HSd
              obtain ⟨d3, d4⟩ := HC3.out
              rw [← (bcell HFe.out).1 _ _ d4] at d3
              have HSw := Lib.hid (keepW (w := w) ⟨HP2.out, ⟨d3, hgx.out⟩, HB2.out⟩ rfl)
              have HWA2 := Lib.hid (HWA.out wx.drew HB2.out.drew)
              clear d3 d4 HWA HC3 HFe
              cases r3
              · have hq : decide ((0 : Int) ≤ ix) = false := HFA.out
                have HE : Hid (R = chkOf p (l.take (k + 1)) (l.drop (k + 1))) := by rw [Hid, HD2.out, if_neg (by decide), HTk.out]
                clear HFA HD2 HTk
                go_wp2_with fail
                go_region_held3 (fun w' => (w'.cell? ⟨w.heap.size, 0, none⟩ = some (.bool v) ∧ w'.cell? ⟨w.heap.size, 1, none⟩ = some (.int .u64 hi) ∧ w'.cell? ⟨w.heap.size, 2, none⟩ = some (.int .u64 lo) ∧ w'.cell? ⟨w.heap.size, 3, none⟩ = some (.int .i64 b) ∧ w'.cell? ⟨w.heap.size, 4, none⟩ = some (.slice ka KN kc) ∧ w.heap.size < w'.heap.size) ∧ (w'.cell? ⟨g, o + k * 5 + 3, none⟩ = some (.string xw) ∧ g < w'.heap.size) ∧ Below w.heap.size w w')
                  (first | with_reducible exact HSw.out | fail)
                  ((go_at_call 18; refine HWA2.out.mono ?_; rintro e wy ⟨rfl, rfl⟩))
                have HB3 := Lib.hid HB2.out.drew
                have HP3 := Lib.hid (HP2.out.below (Below.refl _ _).drew)
                clear HSw
                go_wp2_with fail
                go_roundw
                case rel => exact ⟨0, k + 1, rfl, by go_num, by omega, HP3, HB3, .inl ⟨rfl, HE.out⟩⟩
                case measure => simp [intOf]; omega
              · have hq : decide ((0 : Int) ≤ ix) = true := HFA.out
                have HE : Hid (R = 6) := by rw [Hid, HD2.out, if_pos rfl]
                clear HFA HD2 HTk
                go_wp2_with fail
                go_region_held3 (fun w' => (w'.cell? ⟨w.heap.size, 0, none⟩ = some (.bool v) ∧ w'.cell? ⟨w.heap.size, 1, none⟩ = some (.int .u64 hi) ∧ w'.cell? ⟨w.heap.size, 2, none⟩ = some (.int .u64 lo) ∧ w'.cell? ⟨w.heap.size, 3, none⟩ = some (.int .i64 b) ∧ w'.cell? ⟨w.heap.size, 4, none⟩ = some (.slice ka KN kc) ∧ w.heap.size < w'.heap.size) ∧ (w'.cell? ⟨g, o + k * 5 + 3, none⟩ = some (.string xw) ∧ g < w'.heap.size) ∧ Below w.heap.size w w')
                  (first | with_reducible exact HSw.out | fail)
                  ((go_at_call 18; refine HWA2.out.mono ?_; rintro e wy ⟨rfl, rfl⟩))
                have HB3 := Lib.hid HB2.out.drew
                have HP3 := Lib.hid (HP2.out.below (Below.refl _ _).drew)
                clear HSw
                go_wp2_with fail
                go_roundw
                case rel => exact ⟨6, k + 1, rfl, by go_num, by omega, HP3, HB3, .inr ⟨by decide, HE.out⟩⟩
                case measure => simp [intOf]; omega
          · obtain rfl : k = N := by omega
            have hkk : decide ((k : Int) < (k : Int)) = false := by simp
            have HE : Hid (R = 0) := by rw [Hid, hdec, List.drop_eq_nil_of_le (by have := HN.out; omega), chkOf]
            clear hdec hh
            go_wp2_with fail
            go_ret
            exact ⟨congrArg (fun r => Ending.returned (Value.int .i64 r)) HE.out.symm, HB.out⟩
        · have HE := Lib.hid hRr
          have hq : (r == 0) = false := beq_eq_false_iff_ne.2 hr
          clear hh hRr hr
          by_cases hkN : k < N
          · have hkz : (k : Int) < (N : Int) := by omega
            go_wp2_with fail
            go_ret
            exact ⟨congrArg (fun r => Ending.returned (Value.int .i64 r)) HE.out.symm, HB.out⟩
          · have hkz : decide ((k : Int) < (N : Int)) = false := decide_eq_false (by omega)
            go_wp2_with fail
            go_ret
            exact ⟨congrArg (fun r => Ending.returned (Value.int .i64 r)) HE.out.symm, HB.out⟩
    · rw [if_neg h1] at HR
      have hq : (r1 == 0) = false := beq_eq_false_iff_ne.2 h1
      clear h1 hk hs hR hN hr0 hr1 hgood HN20 HCk hws hp HL
      generalize p.v = v at *
      generalize p.hi = hi at *
      generalize p.lo = lo at *
      generalize p.b = b at *
      go_enter Try.func8, Try.ntmps8
      go_wp2_with fail
      refine (HC.out _ HB.out).mono ?_
      rintro e w2 ⟨rfl, hb⟩
      replace HB := Lib.hid (btr HB.out hb)
      clear hb HC
      go_wp2_with fail
      refine (HK.out _ HB.out).mono ?_
      rintro e w3 ⟨rfl, hb⟩
      replace HB := Lib.hid (btr HB.out hb)
      clear hb HK
      go_wp2_with fail
      go_loopw [7, 8] (fun ve vi wr => ve = .int .i64 r1 ∧ vi = .int .i64 0 ∧ Hid (Below w.heap.size w wr)) (fun _ _ _ => 0)
      case atStart => exact ⟨rfl, rfl, HB⟩
      case round =>
        obtain ⟨rfl, rfl, HB⟩ := hrel
        by_cases hkN : 0 < N
        · have hkz : (0 : Int) < (N : Int) := by omega
          go_wp2_with fail
          go_ret
          exact ⟨congrArg (fun r => Ending.returned (Value.int .i64 r)) HR.out.symm, HB.out⟩
        · have hkz : decide ((0 : Int) < (N : Int)) = false := decide_eq_false (by omega)
          go_wp2_with fail
          go_ret
          exact ⟨congrArg (fun r => Ending.returned (Value.int .i64 r)) HR.out.symm, HB.out⟩
  · rw [if_neg h0] at HR
    have hq : (r0 == 0) = false := beq_eq_false_iff_ne.2 h0
    clear h0 hk hs hR hN hr0 hr1 hgood HN20 HCk hws hp HL
    generalize p.v = v at *
    generalize p.hi = hi at *
    generalize p.lo = lo at *
    generalize p.b = b at *
    go_enter Try.func8, Try.ntmps8
    go_wp2_with fail
    refine (HC.out _ HB.out).mono ?_
    rintro e w2 ⟨rfl, hb⟩
    replace HB := Lib.hid (btr HB.out hb)
    clear hb HC
    go_wp2_with fail
    go_loopw [7, 8] (fun ve vi wr => ve = .int .i64 r0 ∧ vi = .int .i64 0 ∧ Hid (Below w.heap.size w wr)) (fun _ _ _ => 0)
    case atStart => exact ⟨rfl, rfl, HB⟩
    case round =>
      obtain ⟨rfl, rfl, HB⟩ := hrel
      by_cases hkN : 0 < N
      · have hkz : (0 : Int) < (N : Int) := by omega
        go_wp2_with fail
        go_ret
        exact ⟨congrArg (fun r => Ending.returned (Value.int .i64 r)) HR.out.symm, HB.out⟩
      · have hkz : decide ((0 : Int) < (N : Int)) = false := decide_eq_false (by omega)
        go_wp2_with fail
        go_ret
        exact ⟨congrArg (fun r => Ending.returned (Value.int .i64 r)) HR.out.symm, HB.out⟩
end Go.Proofs.Ytiiankekobgebaa

namespace Go.Proofs.Ytiiankekobgebaa
open Go.RowKit

/-- The next bits: from the end, ones come to be noughts till a nought comes to be a one. -/
def nextR : List UInt8 → Option (List UInt8)
  | [] => none
  | c :: l => if c = 48 then some (49 :: l) else (nextR l).map (48 :: ·)
def vrev : List UInt8 → Nat
  | [] => 0
  | c :: l => bitv c + 2 * vrev l
theorem vrev_vbin (l : List UInt8) : vrev l.reverse = vbin 0 l := by
  suffices ∀ l : List UInt8, vrev l = vbin 0 l.reverse by rw [this, List.reverse_reverse]
  intro l
  induction l with
  | nil => rfl
  | cons c l ih => rw [vrev, List.reverse_cons, vbin_append, vbin, vbin, ih]; omega
theorem nextR_some : ∀ (l r : List UInt8), IsBin l → nextR l = some r → vrev r = vrev l + 1 ∧ r.length = l.length ∧ IsBin r
  | [], r, _, h => by simp [nextR] at h
  | c :: l, r, hb, h => by
    have hb' : IsBin l := fun c hc => hb c (List.mem_cons_of_mem _ hc)
    rw [nextR] at h
    split at h
    · rename_i hc; subst hc; injection h with h; subst h
      refine ⟨by simp [vrev, bitv]; omega, by simp, ?_⟩
      intro c hc
      rcases List.mem_cons.1 hc with rfl | hc
      · exact .inr rfl
      · exact hb' c hc
    · rename_i hc
      have hc : c = 49 := by rcases hb c (by simp) with h | h; exact absurd h hc; exact h
      subst hc
      obtain ⟨r', hr', rfl⟩ := Option.map_eq_some_iff.1 h
      obtain ⟨a, b, d⟩ := nextR_some l r' hb' hr'
      refine ⟨by simp [vrev, bitv, a]; omega, by simp [b], ?_⟩
      intro c hc
      rcases List.mem_cons.1 hc with rfl | hc
      · exact .inl rfl
      · exact d c hc
theorem nextR_none : ∀ (l : List UInt8), IsBin l → nextR l = none → vrev l + 1 = 2 ^ l.length
  | [], _, _ => rfl
  | c :: l, hb, h => by
    rw [nextR] at h
    split at h
    · cases h
    · rename_i hc
      have hc : c = 49 := by rcases hb c (by simp) with h | h; exact absurd h hc; exact h
      subst hc
      have := nextR_none l (fun c hc => hb c (List.mem_cons_of_mem _ hc)) (by simpa using h)
      rw [List.length_cons, Nat.pow_succ, vrev]; simp [bitv]; omega

theorem nextR_end (l : List UInt8) (m : Nat) (hm : m < l.length) : (l.take (m + 1)).reverse = l[m] :: (l.take m).reverse := by
  rw [take_snoc l m hm, List.reverse_append]; rfl

theorem eqA_iff (v : Bool) (hi lo : Int) (u : Bool) (yh yl : Int) : eqA v hi lo u yh yl = true ↔ v = u ∧ hi = yh ∧ lo = yl := by
  unfold eqA; simp [and_assoc]
theorem isLast_num (v : Bool) (hi lo : Nat) (h1 : hi < 18446744073709551616) (l1 : lo < 18446744073709551616) (hv : v = true ∨ (hi = 0 ∧ lo ≤ 4294967295)) :
    isLast v hi lo = true ↔ vbin 0 (bitsT v hi lo) + 1 = 2 ^ (bitsT v hi lo).length := by
  rw [bitsT_num v hi lo h1 l1 hv, bitsT_length, isLast, eqA_iff]
  cases v
  · simp at hv
    simp [mxH, mxL]; omega
  · simp [mxH, mxL]; omega
theorem chk_ok (v : Bool) (hi lo : Nat) (hv : v = true ∨ (hi = 0 ∧ lo ≤ 4294967295)) : chk v hi lo = 0 := by
  unfold chk
  rw [if_neg]
  rintro ⟨rfl, h⟩
  simp at hv; omega
theorem nx_none (v : Bool) (hi lo : Nat) (h1 : hi < 18446744073709551616) (l1 : lo < 18446744073709551616) (hv : v = true ∨ (hi = 0 ∧ lo ≤ 4294967295)) (hn : nextR (bitsT v hi lo).reverse = none) :
    nxV v hi lo = false ∧ nxH v hi lo = 0 ∧ nxL v hi lo = 0 ∧ nxB v hi lo = false := by
  have hr := nextR_none _ (fun c hc => bitsT_bin v hi lo c (List.mem_reverse.1 hc)) hn
  rw [vrev_vbin, List.length_reverse] at hr
  have hl := (isLast_num v hi lo h1 l1 hv).2 hr
  simp [nxV, nxH, nxL, nxB, hl]
theorem nx_some (v : Bool) (hi lo : Nat) (h1 : hi < 18446744073709551616) (l1 : lo < 18446744073709551616) (hv : v = true ∨ (hi = 0 ∧ lo ≤ 4294967295)) (R : List UInt8) (hn : nextR (bitsT v hi lo).reverse = some R.reverse) :
    IsBin R ∧ R.length = (bitsT v hi lo).length ∧ nxV v hi lo = v ∧ nxH v hi lo = (vbin 0 (R.take (R.length - 64)) : Nat) ∧ nxL v hi lo = (vbin 0 (R.drop (R.length - 64)) : Nat) ∧ nxB v hi lo = true ∧ v = decide (R.length = 128) := by
  obtain ⟨a, b, c⟩ := nextR_some _ _ (fun c hc => bitsT_bin v hi lo c (List.mem_reverse.1 hc)) hn
  rw [vrev_vbin, vrev_vbin] at a
  rw [List.length_reverse, List.length_reverse] at b
  have hlt := vbin_lt0 R
  have hbin : IsBin R := fun c' hc => c c' (List.mem_reverse.2 hc)
  have hnl : isLast v hi lo = false := by
    cases h : isLast v hi lo with
    | false => rfl
    | true =>
      have := (isLast_num v hi lo h1 l1 hv).1 h
      rw [b] at hlt; omega
  have hck := chk_ok v hi lo hv
  have hnum := bitsT_num v hi lo h1 l1 hv
  have hlen := bitsT_length v hi lo
  refine ⟨hbin, b, by simp [nxV, hck, hnl], ?_, ?_, by simp [nxB, hck, hnl], ?_⟩
  · rw [nxH, if_pos ⟨hck, hnl⟩]
    cases v
    · rw [b, hlen]
      simp at hv
      simp [vbin]; omega
    · rw [b, hlen]
      have hs := vbin_append (R.take 64) (R.drop 64) 0
      rw [List.take_append_drop, vbin_add (R.drop 64)] at hs
      have h4 := vbin_lt0 (R.drop 64)
      have h5 : (R.drop 64).length = 64 := by rw [List.length_drop, b, hlen]; rfl
      rw [h5] at hs h4
      simp only [if_true, show (128 : Nat) - 64 = 64 from rfl] at *
      omega
  · rw [nxL, if_pos ⟨hck, hnl⟩]
    cases v
    · rw [b, hlen]
      simp at hv
      simp; omega
    · rw [b, hlen]
      have hs := vbin_append (R.take 64) (R.drop 64) 0
      rw [List.take_append_drop, vbin_add (R.drop 64)] at hs
      have h4 := vbin_lt0 (R.drop 64)
      have h5 : (R.drop 64).length = 64 := by rw [List.length_drop, b, hlen]; rfl
      rw [h5] at hs h4
      simp only [if_true, show (128 : Nat) - 64 = 64 from rfl] at *
      omega
  · rw [b, hlen]; cases v <;> rfl

set_option maxHeartbeats 8000000 in
set_option maxRecDepth 100000 in
theorem nextOf_any (v : Bool) (hi lo : Nat) (w : World) (h1 : hi < 18446744073709551616) (l1 : lo < 18446744073709551616) (hv : v = true ∨ (hi = 0 ∧ lo ≤ 4294967295)) :
    Calls Try.prog 28 #[.agg #[.bool v, .int .u64 hi, .int .u64 lo]] w fun e w' =>
      e = .returned (.tuple #[.agg #[.bool (nxV v hi lo), .int .u64 (nxH v hi lo), .int .u64 (nxL v hi lo)], .bool (nxB v hi lo)]) ∧ Below w.heap.size w w' := by
  have HX : Hid (∀ w : World, Calls Try.prog 46 #[.agg #[.bool v, .int .u64 hi, .int .u64 lo]] w fun e w' => e = .returned (.string ⟨(bitsT v hi lo).toArray⟩) ∧ Below w.heap.size w w') := fun w => bits_any v hi lo w h1 l1
  have q1 : (w.alloc (.cells #[.bool v, .int .u64 hi, .int .u64 lo] 24)).heap.size = w.heap.size + 1 := by simp
  have HB0 : Hid (Below w.heap.size w ((w.alloc (.cells #[.bool v, .int .u64 hi, .int .u64 lo] 24)).alloc (.cells #[.bool false, .int .u64 0, .int .u64 0] 24))) := bal (bal (Below.refl _ _) _) _
  have P1 : Hid (Has3 ((w.alloc (.cells #[.bool v, .int .u64 hi, .int .u64 lo] 24)).alloc (.cells #[.bool false, .int .u64 0, .int .u64 0] 24)) (w.heap.size + 1) (.bool false) (.int .u64 0) (.int .u64 0)) := by
    have := Has3.new (w.alloc (.cells #[.bool v, .int .u64 hi, .int .u64 lo] 24)) (.bool false) (.int .u64 0) (.int .u64 0) 24
    rw [q1] at this; exact this
  have F1 : Hid (∀ o, ((w.alloc (.cells #[.bool v, .int .u64 hi, .int .u64 lo] 24)).alloc (.cells #[.bool false, .int .u64 0, .int .u64 0] 24)).frozen? ⟨w.heap.size + 1, o, none⟩ = false) := by
    intro o
    rw [World.frozen?_alloc_at _ _ _ _ q1.symm]
  clear q1
  have hl32 : (bitsT v hi lo).length ≤ 128 ∧ 0 < (bitsT v hi lo).length := by rw [bitsT_length]; split <;> omega
  go_enter Try.func28, Try.ntmps28
  go_wp2_with fail
  generalize (w.alloc (.cells #[.bool v, .int .u64 hi, .int .u64 lo] 24)).alloc (.cells #[.bool false, .int .u64 0, .int .u64 0] 24) = W0 at *
  refine (HX.out _).mono ?_
  rintro e w1 ⟨rfl, hb1⟩
  obtain ⟨c, W2, hcv, hrow, hb2, hsz2⟩ := conv_bytes w1 ⟨(bitsT v hi lo).toArray⟩
  have hb12 := btr hb1 hb2
  have P2 := P1.out.below hb12
  have F2 : ∀ o, W2.frozen? ⟨w.heap.size + 1, o, none⟩ = false := fun o => by rw [(bcell hb12).2 _ o P1.out.2.2.2]; exact F1.out o
  have HB2 := btr HB0.out hb12
  have hBlt : w1.heap.size < W2.heap.size := by omega
  have hBne : w.heap.size + 1 < w1.heap.size := Nat.lt_of_lt_of_le P1.out.2.2.2 hb1.size
  generalize hB : w1.heap.size = B at *
  have HNS : Hid (nextR (bitsT v hi lo).reverse = nextR (bitsT v hi lo).reverse) := rfl
  obtain ⟨N, hN⟩ : ∃ N, N = (bitsT v hi lo).length := ⟨_, rfl⟩
  have hsN : (⟨(bitsT v hi lo).toArray⟩ : ByteArray).size = N := by rw [hN]; rfl
  rw [hsN] at hcv
  have HN : Hid (N = (bitsT v hi lo).length) := hN
  have hrow' : RowU W2 B (bitsT v hi lo) := hrow
  have HROW : Hid (RowU W2 B (bitsT v hi lo)) := hrow'
  have HBB : Hid (Below w.heap.size w W2) := HB2
  have HP2 : Hid (Has3 W2 (w.heap.size + 1) (.bool false) (.int .u64 0) (.int .u64 0)) := P2
  have HF2 : Hid (∀ o, W2.frozen? ⟨w.heap.size + 1, o, none⟩ = false) := F2
  clear hrow hrow' hb1 hb2 hb12 P1 F1 P2 F2 HB0 HB2 hsz2 HX hB
  have hN1 : 0 < N := by omega
  have hN128 : N ≤ 128 := by omega
  clear hN hsN hl32
  go_wp2_with fail
  go_loopw [5] (fun vi wr => ∃ (k : Nat) (j : Int), vi = .int .i64 j ∧ Hid (j = (N : Int) - 1 - (k : Int)) ∧ k ≤ N ∧ Hid (Below w.heap.size w wr ∧ B < wr.heap.size ∧ RowU wr B ((bitsT v hi lo).take (N - k) ++ List.replicate k 48) ∧
      Has3 wr (w.heap.size + 1) (.bool false) (.int .u64 0) (.int .u64 0) ∧ (∀ o, wr.frozen? ⟨w.heap.size + 1, o, none⟩ = false) ∧
      nextR (bitsT v hi lo).reverse = (nextR ((bitsT v hi lo).take (N - k)).reverse).map (List.replicate k 48 ++ ·)))
    (fun vi _ => (intOf vi + 1).toNat)
  case atStart => exact ⟨0, _, rfl, (by omega : (N : Int) - 1 = (N : Int) - 1 - ((0 : Nat) : Int)), Nat.zero_le _, HBB.out, hBlt, by
      rw [Nat.sub_zero, List.take_of_length_le (by rw [← HN.out]; exact Nat.le_refl _), List.replicate_zero, List.append_nil]; exact HROW.out, HP2.out, HF2.out, by
      rw [Nat.sub_zero, List.take_of_length_le (by rw [← HN.out]; exact Nat.le_refl _)]; simp⟩
  case round =>
    obtain ⟨k, j, rfl, Hj, hk, HH⟩ := hrel
    obtain ⟨hbr, hBr, hrow, hP, hF, hnx⟩ := HH.out
    have hlen := HN.out
    by_cases hkN : k < N
    · obtain ⟨m, hm⟩ : ∃ m, m = N - 1 - k := ⟨_, rfl⟩
      have hjm : j = (m : Int) := by rw [Hj.out]; omega
      subst hjm
      have hmN : N - k = m + 1 := by omega
      rw [hmN] at hrow hnx
      have hml : m < (bitsT v hi lo).length := by omega
      rw [nextR_end _ m hml, nextR] at hnx
      have hin : ((bitsT v hi lo).take (m + 1) ++ List.replicate k 48)[m]? = some ((bitsT v hi lo)[m]) := by
        rw [List.getElem?_append_left (by rw [List.length_take]; omega), List.getElem?_take_of_lt (by omega), List.getElem?_eq_getElem hml]
      obtain ⟨hcm, hfm⟩ := hrow m _ hin
      have hset : ∀ d : UInt8, ((bitsT v hi lo).take (m + 1) ++ List.replicate k 48).set m d = (bitsT v hi lo).take m ++ d :: List.replicate k 48 := by
        intro d
        rw [take_snoc _ m hml, List.append_assoc, List.set_append_right _ _ (by rw [List.length_take]; omega), List.length_take, Nat.min_eq_left (by omega), Nat.sub_self]
        rfl
      have hrs := fun d => hrow.set m (by rw [List.length_append, List.length_take]; omega) d
      have hbit := bitsT_bin v hi lo _ (List.getElem_mem hml)
      have hmi : (m : Int) < (N : Int) := by omega
      have hm0 : (0 : Int) ≤ (m : Int) := by omega
      by_cases hc : (bitsT v hi lo)[m] = 48
      · rw [if_pos hc] at hnx
        rw [hc] at hcm
        have hrow49 := hrs 49
        rw [hset] at hrow49
        obtain ⟨R, hR⟩ : ∃ R, R = (bitsT v hi lo).take m ++ 49 :: List.replicate k 48 := ⟨_, rfl⟩
        rw [← hR] at hrow49
        have hRr : nextR (bitsT v hi lo).reverse = some R.reverse := by rw [hnx, hR]; simp
        obtain ⟨n1, n2, n3, n4, n5, n6, n7⟩ := nx_some v hi lo h1 l1 hv R hRr
        obtain ⟨X, hX⟩ : ∃ X : ByteArray, X = ⟨R.toArray⟩ := ⟨_, rfl⟩
        have hXR : X.data.toList = R := by rw [hX]
        have hXs : X.size = R.length := by rw [← hXR, size_list]
        have HA : Hid (∀ w : World, Calls Try.prog 47 #[.string X] w fun e w' => e = .returned (.agg #[.bool (nxV v hi lo), .int .u64 (nxH v hi lo), .int .u64 (nxL v hi lo)]) ∧ Below w.heap.size w w') := by
          intro w
          have := addrOf_any X w (by omega) (by rw [hXR]; exact n1)
          rw [hXR, hXs, ← n4, ← n5, ← n7] at this
          rw [n3]; exact this
        have hcv2 : (convert 77 9 (.slice (some ⟨B, 0, none⟩) N c)).run Try.prog (wr.setCell ⟨B, m, none⟩ (.int .u8 49)) = .ok (.string X) (wr.setCell ⟨B, m, none⟩ (.int .u8 49)) := by
          rw [hX]
          exact cvt _ B 0 c R N (by omega) (fun j hj => by rw [Nat.zero_add]; exact (hrow49 j R[j] (List.getElem?_eq_getElem hj)).1)
        have hP' : Has3 (wr.setCell ⟨B, m, none⟩ (.int .u8 49)) (w.heap.size + 1) (.bool false) (.int .u64 0) (.int .u64 0) := by
          obtain ⟨p0, p1, p2, p3⟩ := hP
          have hne : ∀ o, (⟨B, m, none⟩ : Addr) ≠ ⟨w.heap.size + 1, o, none⟩ := by intro o e; injection e with e; omega
          exact ⟨by rw [World.cell?_setCell_other (h := hne 0)]; exact p0, by rw [World.cell?_setCell_other (h := hne 1)]; exact p1, by rw [World.cell?_setCell_other (h := hne 2)]; exact p2, by simpa using p3⟩
        have HP' : Hid (Has3 (wr.setCell ⟨B, m, none⟩ (.int .u8 49)) (w.heap.size + 1) (.bool false) (.int .u64 0) (.int .u64 0)) := hP'
        have HF' : Hid (∀ o, (wr.setCell ⟨B, m, none⟩ (.int .u8 49)).frozen? ⟨w.heap.size + 1, o, none⟩ = false) := fun o => by rw [World.frozen?_setCell]; exact hF o
        have HB' : Hid (Below w.heap.size w (wr.setCell ⟨B, m, none⟩ (.int .u8 49))) := bse hbr (p := ⟨B, m, none⟩) (by show w.heap.size ≤ B; omega) _
        have HB6 : Hid (nxB v hi lo = true) := n6
        have hcm' : wr.cell? ⟨B, m, none⟩ = some (.int .u8 48) := hcm
        clear hrow49 hP' hrs hset hin hnx hrow HH hP hF hcm Hj hc hbit hml hmN hm hlen hR hRr n1 n2 n3 n4 n5 n6 n7 hX hXR hXs
        go_wp2_with fail
        refine (HA.out _).mono ?_
        rintro e w4 ⟨rfl, hb4⟩
        obtain ⟨p0, p1, p2, p3⟩ := HP'.out.below hb4
        have F4 : ∀ o, w4.frozen? ⟨w.heap.size + 1, o, none⟩ = false := fun o => by rw [(bcell hb4).2 _ o HP'.out.2.2.2]; exact HF'.out o
        have f0 := F4 0
        have f1 := F4 1
        have f2 := F4 2
        have HBr : Hid (Below w.heap.size w w4) := btr HB'.out hb4
        clear F4 hb4
        go_wp2_with fail
        refine bodyPost_ret (v := .tuple #[.agg #[.bool (nxV v hi lo), .int .u64 (nxH v hi lo), .int .u64 (nxL v hi lo)], .bool true]) ?_ rfl ⟨by rw [HB6.out], ?_⟩
        · obtain ⟨a0, a1, a2, _⟩ := Has3.store ⟨p0, p1, p2, p3⟩ (.bool (nxV v hi lo)) (.int .u64 (nxH v hi lo)) (.int .u64 (nxL v hi lo))
          generalize ((w4.setCell _ _).setCell _ _).setCell _ _ = WW at a0 a1 a2 ⊢
          simp [results, Try.results28, go_sem, a0, a1, a2]
        · exact bse (bse (bse HBr.out (Nat.le_succ _) _) (Nat.le_succ _) _) (Nat.le_succ _) _
      · have hc49 : (bitsT v hi lo)[m] = 49 := by rcases hbit with h | h; exact absurd h hc; exact h
        rw [if_neg hc] at hnx
        rw [hc49] at hcm
        have hrow48 := hrs 48
        rw [hset] at hrow48
        have hP' : Has3 (wr.setCell ⟨B, m, none⟩ (.int .u8 ((48 : UInt8).toNat : Int))) (w.heap.size + 1) (.bool false) (.int .u64 0) (.int .u64 0) := by
          obtain ⟨p0, p1, p2, p3⟩ := hP
          have hne : ∀ o, (⟨B, m, none⟩ : Addr) ≠ ⟨w.heap.size + 1, o, none⟩ := by intro o e; injection e with e; omega
          exact ⟨by rw [World.cell?_setCell_other (h := hne 0)]; exact p0, by rw [World.cell?_setCell_other (h := hne 1)]; exact p1, by rw [World.cell?_setCell_other (h := hne 2)]; exact p2, by simpa using p3⟩
        have HH2 : Hid (Below w.heap.size w (wr.setCell ⟨B, m, none⟩ (.int .u8 48)) ∧ B < (wr.setCell ⟨B, m, none⟩ (.int .u8 48)).heap.size ∧ RowU (wr.setCell ⟨B, m, none⟩ (.int .u8 48)) B ((bitsT v hi lo).take (N - (k + 1)) ++ List.replicate (k + 1) 48) ∧
            Has3 (wr.setCell ⟨B, m, none⟩ (.int .u8 48)) (w.heap.size + 1) (.bool false) (.int .u64 0) (.int .u64 0) ∧ (∀ o, (wr.setCell ⟨B, m, none⟩ (.int .u8 48)).frozen? ⟨w.heap.size + 1, o, none⟩ = false) ∧
            nextR (bitsT v hi lo).reverse = (nextR ((bitsT v hi lo).take (N - (k + 1))).reverse).map (List.replicate (k + 1) 48 ++ ·)) := by
          rw [show N - (k + 1) = m by omega]
          refine ⟨bse hbr (p := ⟨B, m, none⟩) (by show w.heap.size ≤ B; omega) _, by simpa using hBr, hrow48, hP', fun o => by rw [World.frozen?_setCell]; exact hF o, ?_⟩
          rw [hnx]
          cases nextR ((bitsT v hi lo).take m).reverse with
          | none => rfl
          | some r => simp [List.replicate_succ']
        have Hj2 : Hid ((m : Int) - 1 = (N : Int) - 1 - ((k + 1 : Nat) : Int)) := (by omega : (m : Int) - 1 = (N : Int) - 1 - ((k + 1 : Nat) : Int))
        have hcm' : wr.cell? ⟨B, m, none⟩ = some (.int .u8 49) := hcm
        clear hrow48 hP' hrs hset hin hnx hrow HH hP hF hcm Hj hc hc49 hbit hml hmN hm hlen
        go_wp2_with fail
        exact ⟨⟨k + 1, _, rfl, Hj2, by omega, HH2⟩, by simp [intOf]⟩
    · have hk2 : k = N := by omega
      have hj2 : j = -1 := by rw [Hj.out]; omega
      subst hj2
      have hnone : nextR (bitsT v hi lo).reverse = none := by rw [hnx, hk2, Nat.sub_self, List.take_zero]; rfl
      obtain ⟨e1, e2, e3, e4⟩ := nx_none v hi lo h1 l1 hv hnone
      have HE : Hid (nxV v hi lo = false ∧ nxH v hi lo = 0 ∧ nxL v hi lo = 0 ∧ nxB v hi lo = false) := ⟨e1, e2, e3, e4⟩
      have HBr : Hid (Below w.heap.size w wr) := hbr
      obtain ⟨p0, p1, p2, p3⟩ := hP
      have f0 := hF 0
      have f1 := hF 1
      have f2 := hF 2
      clear hnone hnx hrow HH hF hk2 Hj e1 e2 e3 e4 hbr hlen
      go_wp2_with fail
      obtain ⟨e1, e2, e3, e4⟩ := HE.out
      rw [e1, e2, e3, e4]
      refine bodyPost_ret (v := .tuple #[.agg #[.bool false, .int .u64 0, .int .u64 0], .bool false]) ?_ rfl ⟨rfl, ?_⟩
      · obtain ⟨a0, a1, a2, _⟩ := Has3.store ⟨p0, p1, p2, p3⟩ (.bool false) (.int .u64 0) (.int .u64 0)
        generalize ((wr.setCell _ _).setCell _ _).setCell _ _ = WW at a0 a1 a2 ⊢
        simp [results, Try.results28, go_sem, a0, a1, a2]
      · exact bse (bse (bse HBr.out (Nat.le_succ _) _) (Nat.le_succ _) _) (Nat.le_succ _) _
end Go.Proofs.Ytiiankekobgebaa
