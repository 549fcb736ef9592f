/- PickClear: where nothing is picked, and where the list is nil. -/
import Derived.Test.YtpbankmbdacdaaaGreatDoorPnE
set_option linter.unusedVariables false
set_option linter.unusedSimpArgs false
namespace Go.Proofs.YtpbankmbdacdaaaGreatDoor
open Go.RowKit

set_option maxHeartbeats 32000000 in
set_option maxRecDepth 100000 in
theorem pc_err (p : Pf) (a : Option Addr) (c N : Nat) (us : List Pf) (bits : Int) (w : World) (hg : Good w) (r : Int) (hr : ¬ r = 0) (C1 : Hid (∀ w' : World, Below w.heap.size w w' → Calls Tryz.prog 5 #[.agg #[.bool p.v, .int .u64 p.hi, .int .u64 p.lo, .int .i64 p.b], .slice a N c, .int .i64 bits] w' fun e w'' => e = .returned (.tuple #[.agg #[.bool false, .int .u64 0, .int .u64 0, .int .i64 0], .int .i64 r]) ∧ Below w'.heap.size w' w'')) :
    Calls Tryz.prog 3 #[.agg #[.bool p.v, .int .u64 p.hi, .int .u64 p.lo, .int .i64 p.b], .slice a N c, .int .i64 bits] w fun e w' => e = .returned (.bool true) ∧ Below w.heap.size w w' := by
  have HP := Lib.hid (Has4.new w p.v p.hi p.lo p.b 26)
  have HB := Lib.hid (pal w p.v p.hi p.lo p.b)
  have CB : Hid (∀ w : World, Calls Tryz.prog 6 #[] w fun e w' => e = .returned (.bool true) ∧ Below w.heap.size w w') := pkbegun_any
  have CC : Hid (∀ w' : World, Below w.heap.size w w' → Calls Tryz.prog 7 #[] w' fun e w'' => e = .returned (.bool true) ∧ Below w'.heap.size w' w'') := fun w' h => pbegun_any w' (hg.below h)
  have CD : Hid (∀ w' : World, Below w.heap.size w w' → Calls Tryz.prog 8 #[] w' fun e w'' => e = .returned (.bool true) ∧ Below w'.heap.size w' w'') := fun w' h => begun_any w' (hg.below h)
  clear hg
  have hI : (r != 0) = true := by rw [bne_iff_ne]; exact hr
  have Eq : ∀ w : World, (binOp .eql 26 (.agg #[.bool false, .int .u64 0, .int .u64 0, .int .i64 0]) (.agg #[.bool false, .int .u64 0, .int .u64 0, .int .i64 0])).run Tryz.prog w = .ok (.bool true) w := fun w => by rw [eql_pf, show eqP false 0 0 0 false 0 0 0 = true from eqP_iff.2 ⟨rfl, rfl, rfl, rfl⟩]
  clear hr
  go_enter Tryz.func3, Tryz.ntmps3
  obtain ⟨p0, p1, p2, p3, p4⟩ := HP.out
  go_wp2_with fail
  refine (C1.out _ HB.out).mono ?_
  rintro e w1 ⟨rfl, hb⟩
  clear p0 p1 p2 p3 p4
  replace HB := Lib.hid (btr HB.out hb)
  replace HP := Lib.hid (HP.out.below hb)
  clear hb
  have HX := Lib.hid (Has4.new w1 false 0 0 0 26)
  replace HB := Lib.hid (bal HB.out (.cells #[.bool false, .int .u64 0, .int .u64 0, .int .i64 0] 26))
  replace HP := Lib.hid (HP.out.alloc (.cells #[.bool false, .int .u64 0, .int .u64 0, .int .i64 0] 26))
  go_wp2_with fail
  refine (CB.out _).mono ?_
  rintro e w2 ⟨rfl, hb⟩
  replace HB := Lib.hid (btr HB.out hb)
  replace HP := Lib.hid (HP.out.below hb)
  replace HX := Lib.hid (HX.out.below hb)
  clear hb
  go_wp2_with fail
  refine (CC.out _ HB.out).mono ?_
  rintro e w3 ⟨rfl, hb⟩
  replace HB := Lib.hid (btr HB.out hb)
  replace HP := Lib.hid (HP.out.below hb)
  replace HX := Lib.hid (HX.out.below hb)
  clear hb
  go_wp2_with fail
  refine (CD.out _ HB.out).mono ?_
  rintro e w4 ⟨rfl, hb⟩
  replace HB := Lib.hid (btr HB.out hb)
  replace HP := Lib.hid (HP.out.below hb)
  replace HX := Lib.hid (HX.out.below hb)
  clear hb
  obtain ⟨p0, p1, p2, p3, p4⟩ := HP.out
  obtain ⟨x0, x1, x2, x3, x4⟩ := HX.out
  go_wp2
  go_ret
  exact ⟨rfl, HB.out⟩

set_option maxHeartbeats 32000000 in
set_option maxRecDepth 100000 in
theorem pc_someN (p : Pf) (a : Option Addr) (c N : Nat) (us : List Pf) (bits : Int) (w : World) (hg : Good w) (ha : Hid (a = none)) (x : Pf) (hN : N = us.length) (hl : N ≤ 12) (rp : p.R) (rx : x.R) (hu : ∀ u ∈ us, u.R) (hs : Sl w a us) (hnil : a = none → c = 0) (hC2 : Hid (N < 12 → ∀ (a : Option Addr) (c : Nat) (w' : World), Below w.heap.size w w' → Sl w' a (us ++ [x]) → Calls Tryz.prog 5 #[.agg #[.bool p.v, .int .u64 p.hi, .int .u64 p.lo, .int .i64 p.b], .slice a (N + 1) c, .int .i64 bits] w' fun e w'' => ∃ (r : Int) (y : Pf), e = .returned (.tuple #[.agg #[.bool y.v, .int .u64 y.hi, .int .u64 y.lo, .int .i64 y.b], .int .i64 r]) ∧ (r = 8 ∨ (r = 0 ∧ lessB x.v x.hi x.lo y.v y.hi y.lo = true ∧ lessE x.v x.hi x.lo y.v y.hi y.lo = 0 ∧ 0 ≤ y.hi ∧ 0 ≤ y.lo)) ∧ Below w'.heap.size w' w'')) (hbits : x.b = bits) (hin : p.has x = true) (haway : ∀ u ∈ us, u.has x = false ∧ x.has u = false) (C1 : Hid (∀ w' : World, Below w.heap.size w w' → Calls Tryz.prog 5 #[.agg #[.bool p.v, .int .u64 p.hi, .int .u64 p.lo, .int .i64 p.b], .slice a N c, .int .i64 bits] w' fun e w'' => e = .returned (.tuple #[.agg #[.bool x.v, .int .u64 x.hi, .int .u64 x.lo, .int .i64 x.b], .int .i64 0]) ∧ Below w'.heap.size w' w'')) :
    Calls Tryz.prog 3 #[.agg #[.bool p.v, .int .u64 p.hi, .int .u64 p.lo, .int .i64 p.b], .slice a N c, .int .i64 bits] w fun e w' => e = .returned (.bool true) ∧ Below w.heap.size w w' := by
  have HP := Lib.hid (Has4.new w p.v p.hi p.lo p.b 26)
  have HB := Lib.hid (pal w p.v p.hi p.lo p.b)
  have CB : Hid (∀ w : World, Calls Tryz.prog 6 #[] w fun e w' => e = .returned (.bool true) ∧ Below w.heap.size w w') := pkbegun_any
  have CC : Hid (∀ w' : World, Below w.heap.size w w' → Calls Tryz.prog 7 #[] w' fun e w'' => e = .returned (.bool true) ∧ Below w'.heap.size w' w'') := fun w' h => pbegun_any w' (hg.below h)
  have CD : Hid (∀ w' : World, Below w.heap.size w w' → Calls Tryz.prog 8 #[] w' fun e w'' => e = .returned (.bool true) ∧ Below w'.heap.size w' w'') := fun w' h => begun_any w' (hg.below h)
  clear hg
  have c0 : p.chk = 0 := (right_iff _ _ _ _ rp.h0 rp.h1 rp.l0 rp.l1).2 rp
  have d0 : x.chk = 0 := (right_iff _ _ _ _ rx.h0 rx.h1 rx.l0 rx.l1).2 rx
  have CH : Hid (∀ w' : World, Calls Tryz.prog 9 #[.agg #[.bool p.v, .int .u64 p.hi, .int .u64 p.lo, .int .i64 p.b], .agg #[.bool x.v, .int .u64 x.hi, .int .u64 x.lo, .int .i64 x.b]] w' fun e w'' => e = .returned (.tuple #[.bool true, .int .i64 0]) ∧ Below w'.heap.size w' w'') := fun w' => by
    have := has_ok p.v p.hi p.lo p.b x.v x.hi x.lo x.b w' rp.h0 rp.h1 rp.l0 rp.l1 rx.h0 rx.h1 rx.l0 rx.l1 (two_R rp rx)
    rw [show hasB p.v p.hi p.lo p.b x.v x.hi x.lo x.b = true from hin] at this
    exact this
  have CK : Hid (∀ w' : World, Calls Tryz.prog 10 #[.agg #[.bool x.v, .int .u64 x.hi, .int .u64 x.lo, .int .i64 x.b]] w' fun e w'' => e = .returned (.int .i64 0) ∧ Below w'.heap.size w' w'') := fun w' => by
    have := pcheck_any x.v x.hi x.lo x.b w' rx.h0 rx.h1 rx.l0 rx.l1
    rw [show pchk x.v x.hi x.lo x.b = 0 from d0] at this
    exact this
  have hxb : (x.b != bits) = false := by rw [hbits]; simp
  have Hu := Lib.hid hu
  have Hs := Lib.hid hs
  have Haw := Lib.hid haway
  have HN := Lib.hid hN
  have Hrx := Lib.hid rx
  clear rp hin c0 d0 hu hs haway hN rx hbits
  go_enter Tryz.func3, Tryz.ntmps3
  obtain ⟨p0, p1, p2, p3, p4⟩ := HP.out
  go_wp2_with fail
  refine (C1.out _ HB.out).mono ?_
  rintro e w1 ⟨rfl, hb⟩
  clear p0 p1 p2 p3 p4
  replace HB := Lib.hid (btr HB.out hb)
  replace HP := Lib.hid (HP.out.below hb)
  clear hb
  have HX := Lib.hid (Has4.new w1 x.v x.hi x.lo x.b 26)
  replace HB := Lib.hid (bal HB.out (.cells #[.bool x.v, .int .u64 x.hi, .int .u64 x.lo, .int .i64 x.b] 26))
  replace HP := Lib.hid (HP.out.alloc (.cells #[.bool x.v, .int .u64 x.hi, .int .u64 x.lo, .int .i64 x.b] 26))
  go_wp2_with fail
  refine (CB.out _).mono ?_
  rintro e w2 ⟨rfl, hb⟩
  replace HB := Lib.hid (btr HB.out hb)
  replace HP := Lib.hid (HP.out.below hb)
  replace HX := Lib.hid (HX.out.below hb)
  clear hb
  go_wp2_with fail
  refine (CC.out _ HB.out).mono ?_
  rintro e w3 ⟨rfl, hb⟩
  replace HB := Lib.hid (btr HB.out hb)
  replace HP := Lib.hid (HP.out.below hb)
  replace HX := Lib.hid (HX.out.below hb)
  clear hb
  go_wp2_with fail
  refine (CD.out _ HB.out).mono ?_
  rintro e w4 ⟨rfl, hb⟩
  replace HB := Lib.hid (btr HB.out hb)
  replace HP := Lib.hid (HP.out.below hb)
  replace HX := Lib.hid (HX.out.below hb)
  clear hb
  obtain ⟨p0, p1, p2, p3, p4⟩ := HP.out
  obtain ⟨x0, x1, x2, x3, x4⟩ := HX.out
  go_wp2_with fail
  refine (CH.out _).mono ?_
  rintro e w5 ⟨rfl, hb⟩
  clear p0 p1 p2 p3 p4 x0 x1 x2 x3 x4
  replace HB := Lib.hid (btr HB.out hb)
  replace HP := Lib.hid (HP.out.below hb)
  replace HX := Lib.hid (HX.out.below hb)
  clear hb
  obtain ⟨p0, p1, p2, p3, p4⟩ := HP.out
  obtain ⟨x0, x1, x2, x3, x4⟩ := HX.out
  go_wp2_with fail
  refine (CK.out _).mono ?_
  rintro e w6 ⟨rfl, hb⟩
  clear p0 p1 p2 p3 p4 x0 x1 x2 x3 x4
  replace HB := Lib.hid (btr HB.out hb)
  replace HP := Lib.hid (HP.out.below hb)
  replace HX := Lib.hid (HX.out.below hb)
  clear hb
  go_wp2_with fail
  clear CB CC CD CH CK C1
  generalize w1.heap.size = xb at *
  go_loopw [11] (fun vi wr => ∃ k : Nat, vi = .int .i64 k ∧ k ≤ N ∧ Hid (Has4 wr w.heap.size p.v p.hi p.lo p.b) ∧ Hid (Has4 wr xb x.v x.hi x.lo x.b) ∧ Hid (Below w.heap.size w wr))
    (fun vi _ => N - (intOf vi).toNat)
  case atStart => exact ⟨0, rfl, Nat.zero_le _, HP, HX, HB⟩
  case round =>
    clear HP HX HB
    obtain ⟨k, rfl, hk, HP, HX, HB⟩ := hrel
    have hNN := HN.out
    by_cases hkN : k < N
    · have hkl : k < us.length := by omega
      obtain ⟨g, o, rfl, hg, d0, d1, d2, d3⟩ := Hs.out k hkl
      rw [← (bcell HB.out).1 _ _ hg] at d0 d1 d2 d3
      have hgr : g < wr.heap.size := Nat.lt_of_lt_of_le hg HB.out.size
      have ry := Hu.out _ (List.getElem_mem hkl)
      obtain ⟨aw1, aw2⟩ := Haw.out _ (List.getElem_mem hkl)
      have H1 : Hid (∀ w : World, Calls Tryz.prog 9 #[.agg #[.bool (us[k]).v, .int .u64 (us[k]).hi, .int .u64 (us[k]).lo, .int .i64 (us[k]).b], .agg #[.bool x.v, .int .u64 x.hi, .int .u64 x.lo, .int .i64 x.b]] w fun e w' => e = .returned (.tuple #[.bool false, .int .i64 0]) ∧ Below w.heap.size w w') := fun w => by
        have := has_ok (us[k]).v (us[k]).hi (us[k]).lo (us[k]).b x.v x.hi x.lo x.b w ry.h0 ry.h1 ry.l0 ry.l1 Hrx.out.h0 Hrx.out.h1 Hrx.out.l0 Hrx.out.l1 (two_R ry Hrx.out)
        rw [show hasB (us[k]).v (us[k]).hi (us[k]).lo (us[k]).b x.v x.hi x.lo x.b = false from aw1] at this
        exact this
      have H2 : Hid (∀ w : World, Calls Tryz.prog 9 #[.agg #[.bool x.v, .int .u64 x.hi, .int .u64 x.lo, .int .i64 x.b], .agg #[.bool (us[k]).v, .int .u64 (us[k]).hi, .int .u64 (us[k]).lo, .int .i64 (us[k]).b]] w fun e w' => e = .returned (.tuple #[.bool false, .int .i64 0]) ∧ Below w.heap.size w w') := fun w => by
        have := has_ok x.v x.hi x.lo x.b (us[k]).v (us[k]).hi (us[k]).lo (us[k]).b w Hrx.out.h0 Hrx.out.h1 Hrx.out.l0 Hrx.out.l1 ry.h0 ry.h1 ry.l0 ry.l1 (two_R Hrx.out ry)
        rw [show hasB x.v x.hi x.lo x.b (us[k]).v (us[k]).hi (us[k]).lo (us[k]).b = false from aw2] at this
        exact this
      have k3 : (k : Int) < (N : Int) := by omega
      have k4 : (0 : Int) ≤ (k : Int) := by omega
      generalize us[k] = y at *
      have HS : Hid ((wr.cell? ⟨xb, 0, none⟩ = some (.bool x.v) ∧ wr.cell? ⟨xb, 1, none⟩ = some (.int .u64 x.hi) ∧ wr.cell? ⟨xb, 2, none⟩ = some (.int .u64 x.lo) ∧ wr.cell? ⟨xb, 3, none⟩ = some (.int .i64 x.b) ∧ xb < wr.heap.size) ∧ (wr.cell? ⟨g, o + k * 4, none⟩ = some (.bool y.v) ∧ wr.cell? ⟨g, o + k * 4 + 1, none⟩ = some (.int .u64 y.hi) ∧ wr.cell? ⟨g, o + k * 4 + 2, none⟩ = some (.int .u64 y.lo) ∧ wr.cell? ⟨g, o + k * 4 + 3, none⟩ = some (.int .i64 y.b) ∧ g < wr.heap.size) ∧ Below w.heap.size w wr) := ⟨HX.out, ⟨d0, d1, d2, d3, hgr⟩, HB.out⟩
      clear hNN ry aw1 aw2 hgr HX HB d0 d1 d2 d3
      have HSd := Lib.hid (keepR HS.out (Below.refl _ _).drew)
      have HPd := Lib.hid (HP.out.below (Below.refl _ _).drew)
      go_wp2_with fail
      go_region_held3 (fun w' => (w'.cell? ⟨xb, 0, none⟩ = some (.bool x.v) ∧ w'.cell? ⟨xb, 1, none⟩ = some (.int .u64 x.hi) ∧ w'.cell? ⟨xb, 2, none⟩ = some (.int .u64 x.lo) ∧ w'.cell? ⟨xb, 3, none⟩ = some (.int .i64 x.b) ∧ xb < w'.heap.size) ∧ (w'.cell? ⟨g, o + k * 4, none⟩ = some (.bool y.v) ∧ w'.cell? ⟨g, o + k * 4 + 1, none⟩ = some (.int .u64 y.hi) ∧ w'.cell? ⟨g, o + k * 4 + 2, none⟩ = some (.int .u64 y.lo) ∧ w'.cell? ⟨g, o + k * 4 + 3, none⟩ = some (.int .i64 y.b) ∧ g < w'.heap.size) ∧ Below w.heap.size w w')
        (first | with_reducible exact HSd.out | with_reducible exact HSe.out | fail)
        ((go_at_call 9; refine (H1.out _).mono ?_; rintro e wx ⟨rfl, hb⟩; have HSe := Lib.hid (keepR HSd.out hb); have HPe := Lib.hid (HPd.out.below hb); clear hb))
      clear HSd HS HP HPd
      have HS := HSe
      have HP := HPe
      clear HSe HPe
      generalize wx = wr at *
      clear H1
      have HSd := Lib.hid (keepR HS.out (Below.refl _ _).drew)
      have HPd := Lib.hid (HP.out.below (Below.refl _ _).drew)
      go_wp2_with fail
      go_region_held3 (fun w' => (w'.cell? ⟨xb, 0, none⟩ = some (.bool x.v) ∧ w'.cell? ⟨xb, 1, none⟩ = some (.int .u64 x.hi) ∧ w'.cell? ⟨xb, 2, none⟩ = some (.int .u64 x.lo) ∧ w'.cell? ⟨xb, 3, none⟩ = some (.int .i64 x.b) ∧ xb < w'.heap.size) ∧ (w'.cell? ⟨g, o + k * 4, none⟩ = some (.bool y.v) ∧ w'.cell? ⟨g, o + k * 4 + 1, none⟩ = some (.int .u64 y.hi) ∧ w'.cell? ⟨g, o + k * 4 + 2, none⟩ = some (.int .u64 y.lo) ∧ w'.cell? ⟨g, o + k * 4 + 3, none⟩ = some (.int .i64 y.b) ∧ g < w'.heap.size) ∧ Below w.heap.size w w')
        (first | with_reducible exact HSd.out | with_reducible exact HSe.out | fail)
        ((go_at_call 9; refine (H2.out _).mono ?_; rintro e wx ⟨rfl, hb⟩; have HSe := Lib.hid (keepR HSd.out hb); have HPe := Lib.hid (HPd.out.below hb); clear hb))
      clear HSd HS HP HPd
      have HS := HSe
      have HP := HPe
      clear HSe HPe
      generalize wx = wr at *
      clear H2
      have HX := Lib.hid HS.out.1
      have HB := Lib.hid HS.out.2.2
      clear HS
      go_wp2_with fail
      go_roundw
      case rel => exact ⟨k + 1, by go_num, by omega, HP, HX, HB⟩
      case measure => simp [intOf]; omega
    · obtain rfl : k = N := by omega
      have k3 : decide ((k : Int) < (k : Int)) = false := by simp
      clear hNN
      by_cases h12 : k = 12
      · have q12 : ((k : Int) == 12) = true := by rw [beq_iff_eq]; omega
        clear h12
        go_wp2
        go_ret
        exact ⟨rfl, HB.out⟩
      · have q12 : ((k : Int) == 12) = false := by rw [beq_eq_false_iff_ne]; omega
        have C2 := Lib.hid (hC2.out (by omega))
        obtain ⟨i0, hi0, hz0, hz1, hz2⟩ := info_parts infoP
        have TR : Hid ((wr.cell? ⟨w.heap.size, 0, none⟩ = some (.bool p.v) ∧ wr.cell? ⟨w.heap.size, 1, none⟩ = some (.int .u64 p.hi) ∧ wr.cell? ⟨w.heap.size, 2, none⟩ = some (.int .u64 p.lo) ∧ wr.cell? ⟨w.heap.size, 3, none⟩ = some (.int .i64 p.b) ∧ w.heap.size < wr.heap.size) ∧ (wr.cell? ⟨xb, 0, none⟩ = some (.bool x.v) ∧ wr.cell? ⟨xb, 1, none⟩ = some (.int .u64 x.hi) ∧ wr.cell? ⟨xb, 2, none⟩ = some (.int .u64 x.lo) ∧ wr.cell? ⟨xb, 3, none⟩ = some (.int .i64 x.b) ∧ xb < wr.heap.size) ∧ Below w.heap.size w wr) := ⟨HP.out, HX.out, HB.out⟩
        have hPf : Hid (w.heap.size < wr.heap.size) := HP.out.2.2.2.2
        have hXf : Hid (xb < wr.heap.size) := HX.out.2.2.2.2
        have K : Hid (Below wr.heap.size wr wr.drew) := (Below.refl _ _).drew
        have T_ := Lib.hid (keep44 TR.out K.out)
        have KE : Hid (Below wr.heap.size wr (wr.alloc (.cells #[] 26)).drew) := (bal (Below.refl _ _) _).drew
        have TE_ := Lib.hid (keep44 TR.out KE.out)
        have EE : Hid (World.ownsRow (wr.alloc (.cells #[] 26)).drew wr.heap.size 26 4 (.slice (some ⟨wr.heap.size, 0, none⟩) 0 0) 0 []) := Lib.hid (by
          have := row_base (row_empty wr) (show wr.heap.size ≤ wr.heap.size from (Below.refl _ _ : Below wr.heap.size wr wr).size)
          exact own_keep this (Below.refl _ _).drew)
        have KX : Hid (Below wr.heap.size wr (wr.alloc (.cells #[.bool x.v, .int .u64 x.hi, .int .u64 x.lo, .int .i64 x.b] 26)).drew) := (bal (Below.refl _ _) _).drew
        have TX_ := Lib.hid (keep44 TR.out KX.out)
        have XX : Hid (Sl (wr.alloc (.cells #[.bool x.v, .int .u64 x.hi, .int .u64 x.lo, .int .i64 x.b] 26)).drew (some ⟨wr.heap.size, 0, none⟩) [x]) := Lib.hid (by
          have := sl_one1 wr x
          exact this.below (Below.refl _ _).drew)
        have KY : Hid (Below wr.heap.size wr (wr.alloc (.cells #[.bool false, .int .u64 0, .int .u64 0, .int .i64 0] 26)).drew) := (bal (Below.refl _ _) _).drew
        have TY_ := Lib.hid (keep44 TR.out KY.out)
        have YY : Hid (Own4 (wr.alloc (.cells #[.bool false, .int .u64 0, .int .u64 0, .int .i64 0] 26)).drew (wr.heap.size) (.bool false) (.int .u64 0) (.int .u64 0) (.int .i64 0)) := Lib.hid (by
          have := Own4.new wr (.bool false) (.int .u64 0) (.int .u64 0) (.int .i64 0) 26
          exact this.below (Below.refl _ _).drew)
        have KEX : Hid (Below wr.heap.size wr ((wr.alloc (.cells #[] 26)).alloc (.cells #[.bool x.v, .int .u64 x.hi, .int .u64 x.lo, .int .i64 x.b] 26)).drew) := (bal (bal (Below.refl _ _) _) _).drew
        have TEX_ := Lib.hid (keep44 TR.out KEX.out)
        have EEX : Hid (World.ownsRow ((wr.alloc (.cells #[] 26)).alloc (.cells #[.bool x.v, .int .u64 x.hi, .int .u64 x.lo, .int .i64 x.b] 26)).drew wr.heap.size 26 4 (.slice (some ⟨wr.heap.size, 0, none⟩) 0 0) 0 []) := Lib.hid (by
          have := row_base (row_empty wr) (show wr.heap.size ≤ wr.heap.size from (Below.refl _ _ : Below wr.heap.size wr wr).size)
          exact own_keep this (bal (Below.refl _ _) _).drew)
        have XEX : Hid (Sl ((wr.alloc (.cells #[] 26)).alloc (.cells #[.bool x.v, .int .u64 x.hi, .int .u64 x.lo, .int .i64 x.b] 26)).drew (some ⟨wr.heap.size + 1, 0, none⟩) [x]) := Lib.hid (by
          have := sl_one1 (wr.alloc (.cells #[] 26)) x
          rw [World.size_alloc] at this
          exact this.below (Below.refl _ _).drew)
        have KEY : Hid (Below wr.heap.size wr ((wr.alloc (.cells #[] 26)).alloc (.cells #[.bool false, .int .u64 0, .int .u64 0, .int .i64 0] 26)).drew) := (bal (bal (Below.refl _ _) _) _).drew
        have TEY_ := Lib.hid (keep44 TR.out KEY.out)
        have EEY : Hid (World.ownsRow ((wr.alloc (.cells #[] 26)).alloc (.cells #[.bool false, .int .u64 0, .int .u64 0, .int .i64 0] 26)).drew wr.heap.size 26 4 (.slice (some ⟨wr.heap.size, 0, none⟩) 0 0) 0 []) := Lib.hid (by
          have := row_base (row_empty wr) (show wr.heap.size ≤ wr.heap.size from (Below.refl _ _ : Below wr.heap.size wr wr).size)
          exact own_keep this (bal (Below.refl _ _) _).drew)
        have YEY : Hid (Own4 ((wr.alloc (.cells #[] 26)).alloc (.cells #[.bool false, .int .u64 0, .int .u64 0, .int .i64 0] 26)).drew (wr.heap.size + 1) (.bool false) (.int .u64 0) (.int .u64 0) (.int .i64 0)) := Lib.hid (by
          have := Own4.new (wr.alloc (.cells #[] 26)) (.bool false) (.int .u64 0) (.int .u64 0) (.int .i64 0) 26
          rw [World.size_alloc] at this
          exact this.below (Below.refl _ _).drew)
        have KXE : Hid (Below wr.heap.size wr ((wr.alloc (.cells #[.bool x.v, .int .u64 x.hi, .int .u64 x.lo, .int .i64 x.b] 26)).alloc (.cells #[] 26)).drew) := (bal (bal (Below.refl _ _) _) _).drew
        have TXE_ := Lib.hid (keep44 TR.out KXE.out)
        have XXE : Hid (Sl ((wr.alloc (.cells #[.bool x.v, .int .u64 x.hi, .int .u64 x.lo, .int .i64 x.b] 26)).alloc (.cells #[] 26)).drew (some ⟨wr.heap.size, 0, none⟩) [x]) := Lib.hid (by
          have := sl_one1 wr x
          exact this.below (bal (Below.refl _ _) _).drew)
        have EXE : Hid (World.ownsRow ((wr.alloc (.cells #[.bool x.v, .int .u64 x.hi, .int .u64 x.lo, .int .i64 x.b] 26)).alloc (.cells #[] 26)).drew wr.heap.size 26 4 (.slice (some ⟨wr.heap.size + 1, 0, none⟩) 0 0) 0 []) := Lib.hid (by
          have := row_base (row_empty (wr.alloc (.cells #[.bool x.v, .int .u64 x.hi, .int .u64 x.lo, .int .i64 x.b] 26))) (show wr.heap.size ≤ (wr.alloc (.cells #[.bool x.v, .int .u64 x.hi, .int .u64 x.lo, .int .i64 x.b] 26)).heap.size from (bal (Below.refl _ _) _ : Below wr.heap.size wr (wr.alloc (.cells #[.bool x.v, .int .u64 x.hi, .int .u64 x.lo, .int .i64 x.b] 26))).size)
          rw [World.size_alloc] at this
          exact own_keep this (Below.refl _ _).drew)
        have KXY : Hid (Below wr.heap.size wr ((wr.alloc (.cells #[.bool x.v, .int .u64 x.hi, .int .u64 x.lo, .int .i64 x.b] 26)).alloc (.cells #[.bool false, .int .u64 0, .int .u64 0, .int .i64 0] 26)).drew) := (bal (bal (Below.refl _ _) _) _).drew
        have TXY_ := Lib.hid (keep44 TR.out KXY.out)
        have XXY : Hid (Sl ((wr.alloc (.cells #[.bool x.v, .int .u64 x.hi, .int .u64 x.lo, .int .i64 x.b] 26)).alloc (.cells #[.bool false, .int .u64 0, .int .u64 0, .int .i64 0] 26)).drew (some ⟨wr.heap.size, 0, none⟩) [x]) := Lib.hid (by
          have := sl_one1 wr x
          exact this.below (bal (Below.refl _ _) _).drew)
        have YXY : Hid (Own4 ((wr.alloc (.cells #[.bool x.v, .int .u64 x.hi, .int .u64 x.lo, .int .i64 x.b] 26)).alloc (.cells #[.bool false, .int .u64 0, .int .u64 0, .int .i64 0] 26)).drew (wr.heap.size + 1) (.bool false) (.int .u64 0) (.int .u64 0) (.int .i64 0)) := Lib.hid (by
          have := Own4.new (wr.alloc (.cells #[.bool x.v, .int .u64 x.hi, .int .u64 x.lo, .int .i64 x.b] 26)) (.bool false) (.int .u64 0) (.int .u64 0) (.int .i64 0) 26
          rw [World.size_alloc] at this
          exact this.below (Below.refl _ _).drew)
        have KYE : Hid (Below wr.heap.size wr ((wr.alloc (.cells #[.bool false, .int .u64 0, .int .u64 0, .int .i64 0] 26)).alloc (.cells #[] 26)).drew) := (bal (bal (Below.refl _ _) _) _).drew
        have TYE_ := Lib.hid (keep44 TR.out KYE.out)
        have YYE : Hid (Own4 ((wr.alloc (.cells #[.bool false, .int .u64 0, .int .u64 0, .int .i64 0] 26)).alloc (.cells #[] 26)).drew (wr.heap.size) (.bool false) (.int .u64 0) (.int .u64 0) (.int .i64 0)) := Lib.hid (by
          have := Own4.new wr (.bool false) (.int .u64 0) (.int .u64 0) (.int .i64 0) 26
          exact this.below (bal (Below.refl _ _) _).drew)
        have EYE : Hid (World.ownsRow ((wr.alloc (.cells #[.bool false, .int .u64 0, .int .u64 0, .int .i64 0] 26)).alloc (.cells #[] 26)).drew wr.heap.size 26 4 (.slice (some ⟨wr.heap.size + 1, 0, none⟩) 0 0) 0 []) := Lib.hid (by
          have := row_base (row_empty (wr.alloc (.cells #[.bool false, .int .u64 0, .int .u64 0, .int .i64 0] 26))) (show wr.heap.size ≤ (wr.alloc (.cells #[.bool false, .int .u64 0, .int .u64 0, .int .i64 0] 26)).heap.size from (bal (Below.refl _ _) _ : Below wr.heap.size wr (wr.alloc (.cells #[.bool false, .int .u64 0, .int .u64 0, .int .i64 0] 26))).size)
          rw [World.size_alloc] at this
          exact own_keep this (Below.refl _ _).drew)
        have KYX : Hid (Below wr.heap.size wr ((wr.alloc (.cells #[.bool false, .int .u64 0, .int .u64 0, .int .i64 0] 26)).alloc (.cells #[.bool x.v, .int .u64 x.hi, .int .u64 x.lo, .int .i64 x.b] 26)).drew) := (bal (bal (Below.refl _ _) _) _).drew
        have TYX_ := Lib.hid (keep44 TR.out KYX.out)
        have YYX : Hid (Own4 ((wr.alloc (.cells #[.bool false, .int .u64 0, .int .u64 0, .int .i64 0] 26)).alloc (.cells #[.bool x.v, .int .u64 x.hi, .int .u64 x.lo, .int .i64 x.b] 26)).drew (wr.heap.size) (.bool false) (.int .u64 0) (.int .u64 0) (.int .i64 0)) := Lib.hid (by
          have := Own4.new wr (.bool false) (.int .u64 0) (.int .u64 0) (.int .i64 0) 26
          exact this.below (bal (Below.refl _ _) _).drew)
        have XYX : Hid (Sl ((wr.alloc (.cells #[.bool false, .int .u64 0, .int .u64 0, .int .i64 0] 26)).alloc (.cells #[.bool x.v, .int .u64 x.hi, .int .u64 x.lo, .int .i64 x.b] 26)).drew (some ⟨wr.heap.size + 1, 0, none⟩) [x]) := Lib.hid (by
          have := sl_one1 (wr.alloc (.cells #[.bool false, .int .u64 0, .int .u64 0, .int .i64 0] 26)) x
          rw [World.size_alloc] at this
          exact this.below (Below.refl _ _).drew)
        have KEXY : Hid (Below wr.heap.size wr (((wr.alloc (.cells #[] 26)).alloc (.cells #[.bool x.v, .int .u64 x.hi, .int .u64 x.lo, .int .i64 x.b] 26)).alloc (.cells #[.bool false, .int .u64 0, .int .u64 0, .int .i64 0] 26)).drew) := (bal (bal (bal (Below.refl _ _) _) _) _).drew
        have TEXY_ := Lib.hid (keep44 TR.out KEXY.out)
        have EEXY : Hid (World.ownsRow (((wr.alloc (.cells #[] 26)).alloc (.cells #[.bool x.v, .int .u64 x.hi, .int .u64 x.lo, .int .i64 x.b] 26)).alloc (.cells #[.bool false, .int .u64 0, .int .u64 0, .int .i64 0] 26)).drew wr.heap.size 26 4 (.slice (some ⟨wr.heap.size, 0, none⟩) 0 0) 0 []) := Lib.hid (by
          have := row_base (row_empty wr) (show wr.heap.size ≤ wr.heap.size from (Below.refl _ _ : Below wr.heap.size wr wr).size)
          exact own_keep this (bal (bal (Below.refl _ _) _) _).drew)
        have XEXY : Hid (Sl (((wr.alloc (.cells #[] 26)).alloc (.cells #[.bool x.v, .int .u64 x.hi, .int .u64 x.lo, .int .i64 x.b] 26)).alloc (.cells #[.bool false, .int .u64 0, .int .u64 0, .int .i64 0] 26)).drew (some ⟨wr.heap.size + 1, 0, none⟩) [x]) := Lib.hid (by
          have := sl_one1 (wr.alloc (.cells #[] 26)) x
          rw [World.size_alloc] at this
          exact this.below (bal (Below.refl _ _) _).drew)
        have YEXY : Hid (Own4 (((wr.alloc (.cells #[] 26)).alloc (.cells #[.bool x.v, .int .u64 x.hi, .int .u64 x.lo, .int .i64 x.b] 26)).alloc (.cells #[.bool false, .int .u64 0, .int .u64 0, .int .i64 0] 26)).drew (wr.heap.size + 1 + 1) (.bool false) (.int .u64 0) (.int .u64 0) (.int .i64 0)) := Lib.hid (by
          have := Own4.new ((wr.alloc (.cells #[] 26)).alloc (.cells #[.bool x.v, .int .u64 x.hi, .int .u64 x.lo, .int .i64 x.b] 26)) (.bool false) (.int .u64 0) (.int .u64 0) (.int .i64 0) 26
          rw [World.size_alloc] at this
          rw [World.size_alloc] at this
          exact this.below (Below.refl _ _).drew)
        have KEYX : Hid (Below wr.heap.size wr (((wr.alloc (.cells #[] 26)).alloc (.cells #[.bool false, .int .u64 0, .int .u64 0, .int .i64 0] 26)).alloc (.cells #[.bool x.v, .int .u64 x.hi, .int .u64 x.lo, .int .i64 x.b] 26)).drew) := (bal (bal (bal (Below.refl _ _) _) _) _).drew
        have TEYX_ := Lib.hid (keep44 TR.out KEYX.out)
        have EEYX : Hid (World.ownsRow (((wr.alloc (.cells #[] 26)).alloc (.cells #[.bool false, .int .u64 0, .int .u64 0, .int .i64 0] 26)).alloc (.cells #[.bool x.v, .int .u64 x.hi, .int .u64 x.lo, .int .i64 x.b] 26)).drew wr.heap.size 26 4 (.slice (some ⟨wr.heap.size, 0, none⟩) 0 0) 0 []) := Lib.hid (by
          have := row_base (row_empty wr) (show wr.heap.size ≤ wr.heap.size from (Below.refl _ _ : Below wr.heap.size wr wr).size)
          exact own_keep this (bal (bal (Below.refl _ _) _) _).drew)
        have YEYX : Hid (Own4 (((wr.alloc (.cells #[] 26)).alloc (.cells #[.bool false, .int .u64 0, .int .u64 0, .int .i64 0] 26)).alloc (.cells #[.bool x.v, .int .u64 x.hi, .int .u64 x.lo, .int .i64 x.b] 26)).drew (wr.heap.size + 1) (.bool false) (.int .u64 0) (.int .u64 0) (.int .i64 0)) := Lib.hid (by
          have := Own4.new (wr.alloc (.cells #[] 26)) (.bool false) (.int .u64 0) (.int .u64 0) (.int .i64 0) 26
          rw [World.size_alloc] at this
          exact this.below (bal (Below.refl _ _) _).drew)
        have XEYX : Hid (Sl (((wr.alloc (.cells #[] 26)).alloc (.cells #[.bool false, .int .u64 0, .int .u64 0, .int .i64 0] 26)).alloc (.cells #[.bool x.v, .int .u64 x.hi, .int .u64 x.lo, .int .i64 x.b] 26)).drew (some ⟨wr.heap.size + 1 + 1, 0, none⟩) [x]) := Lib.hid (by
          have := sl_one1 ((wr.alloc (.cells #[] 26)).alloc (.cells #[.bool false, .int .u64 0, .int .u64 0, .int .i64 0] 26)) x
          rw [World.size_alloc] at this
          rw [World.size_alloc] at this
          exact this.below (Below.refl _ _).drew)
        have KXEY : Hid (Below wr.heap.size wr (((wr.alloc (.cells #[.bool x.v, .int .u64 x.hi, .int .u64 x.lo, .int .i64 x.b] 26)).alloc (.cells #[] 26)).alloc (.cells #[.bool false, .int .u64 0, .int .u64 0, .int .i64 0] 26)).drew) := (bal (bal (bal (Below.refl _ _) _) _) _).drew
        have TXEY_ := Lib.hid (keep44 TR.out KXEY.out)
        have XXEY : Hid (Sl (((wr.alloc (.cells #[.bool x.v, .int .u64 x.hi, .int .u64 x.lo, .int .i64 x.b] 26)).alloc (.cells #[] 26)).alloc (.cells #[.bool false, .int .u64 0, .int .u64 0, .int .i64 0] 26)).drew (some ⟨wr.heap.size, 0, none⟩) [x]) := Lib.hid (by
          have := sl_one1 wr x
          exact this.below (bal (bal (Below.refl _ _) _) _).drew)
        have EXEY : Hid (World.ownsRow (((wr.alloc (.cells #[.bool x.v, .int .u64 x.hi, .int .u64 x.lo, .int .i64 x.b] 26)).alloc (.cells #[] 26)).alloc (.cells #[.bool false, .int .u64 0, .int .u64 0, .int .i64 0] 26)).drew wr.heap.size 26 4 (.slice (some ⟨wr.heap.size + 1, 0, none⟩) 0 0) 0 []) := Lib.hid (by
          have := row_base (row_empty (wr.alloc (.cells #[.bool x.v, .int .u64 x.hi, .int .u64 x.lo, .int .i64 x.b] 26))) (show wr.heap.size ≤ (wr.alloc (.cells #[.bool x.v, .int .u64 x.hi, .int .u64 x.lo, .int .i64 x.b] 26)).heap.size from (bal (Below.refl _ _) _ : Below wr.heap.size wr (wr.alloc (.cells #[.bool x.v, .int .u64 x.hi, .int .u64 x.lo, .int .i64 x.b] 26))).size)
          rw [World.size_alloc] at this
          exact own_keep this (bal (Below.refl _ _) _).drew)
        have YXEY : Hid (Own4 (((wr.alloc (.cells #[.bool x.v, .int .u64 x.hi, .int .u64 x.lo, .int .i64 x.b] 26)).alloc (.cells #[] 26)).alloc (.cells #[.bool false, .int .u64 0, .int .u64 0, .int .i64 0] 26)).drew (wr.heap.size + 1 + 1) (.bool false) (.int .u64 0) (.int .u64 0) (.int .i64 0)) := Lib.hid (by
          have := Own4.new ((wr.alloc (.cells #[.bool x.v, .int .u64 x.hi, .int .u64 x.lo, .int .i64 x.b] 26)).alloc (.cells #[] 26)) (.bool false) (.int .u64 0) (.int .u64 0) (.int .i64 0) 26
          rw [World.size_alloc] at this
          rw [World.size_alloc] at this
          exact this.below (Below.refl _ _).drew)
        have KXYE : Hid (Below wr.heap.size wr (((wr.alloc (.cells #[.bool x.v, .int .u64 x.hi, .int .u64 x.lo, .int .i64 x.b] 26)).alloc (.cells #[.bool false, .int .u64 0, .int .u64 0, .int .i64 0] 26)).alloc (.cells #[] 26)).drew) := (bal (bal (bal (Below.refl _ _) _) _) _).drew
        have TXYE_ := Lib.hid (keep44 TR.out KXYE.out)
        have XXYE : Hid (Sl (((wr.alloc (.cells #[.bool x.v, .int .u64 x.hi, .int .u64 x.lo, .int .i64 x.b] 26)).alloc (.cells #[.bool false, .int .u64 0, .int .u64 0, .int .i64 0] 26)).alloc (.cells #[] 26)).drew (some ⟨wr.heap.size, 0, none⟩) [x]) := Lib.hid (by
          have := sl_one1 wr x
          exact this.below (bal (bal (Below.refl _ _) _) _).drew)
        have YXYE : Hid (Own4 (((wr.alloc (.cells #[.bool x.v, .int .u64 x.hi, .int .u64 x.lo, .int .i64 x.b] 26)).alloc (.cells #[.bool false, .int .u64 0, .int .u64 0, .int .i64 0] 26)).alloc (.cells #[] 26)).drew (wr.heap.size + 1) (.bool false) (.int .u64 0) (.int .u64 0) (.int .i64 0)) := Lib.hid (by
          have := Own4.new (wr.alloc (.cells #[.bool x.v, .int .u64 x.hi, .int .u64 x.lo, .int .i64 x.b] 26)) (.bool false) (.int .u64 0) (.int .u64 0) (.int .i64 0) 26
          rw [World.size_alloc] at this
          exact this.below (bal (Below.refl _ _) _).drew)
        have EXYE : Hid (World.ownsRow (((wr.alloc (.cells #[.bool x.v, .int .u64 x.hi, .int .u64 x.lo, .int .i64 x.b] 26)).alloc (.cells #[.bool false, .int .u64 0, .int .u64 0, .int .i64 0] 26)).alloc (.cells #[] 26)).drew wr.heap.size 26 4 (.slice (some ⟨wr.heap.size + 1 + 1, 0, none⟩) 0 0) 0 []) := Lib.hid (by
          have := row_base (row_empty ((wr.alloc (.cells #[.bool x.v, .int .u64 x.hi, .int .u64 x.lo, .int .i64 x.b] 26)).alloc (.cells #[.bool false, .int .u64 0, .int .u64 0, .int .i64 0] 26))) (show wr.heap.size ≤ ((wr.alloc (.cells #[.bool x.v, .int .u64 x.hi, .int .u64 x.lo, .int .i64 x.b] 26)).alloc (.cells #[.bool false, .int .u64 0, .int .u64 0, .int .i64 0] 26)).heap.size from (bal (bal (Below.refl _ _) _) _ : Below wr.heap.size wr ((wr.alloc (.cells #[.bool x.v, .int .u64 x.hi, .int .u64 x.lo, .int .i64 x.b] 26)).alloc (.cells #[.bool false, .int .u64 0, .int .u64 0, .int .i64 0] 26))).size)
          rw [World.size_alloc] at this
          rw [World.size_alloc] at this
          exact own_keep this (Below.refl _ _).drew)
        have KYEX : Hid (Below wr.heap.size wr (((wr.alloc (.cells #[.bool false, .int .u64 0, .int .u64 0, .int .i64 0] 26)).alloc (.cells #[] 26)).alloc (.cells #[.bool x.v, .int .u64 x.hi, .int .u64 x.lo, .int .i64 x.b] 26)).drew) := (bal (bal (bal (Below.refl _ _) _) _) _).drew
        have TYEX_ := Lib.hid (keep44 TR.out KYEX.out)
        have YYEX : Hid (Own4 (((wr.alloc (.cells #[.bool false, .int .u64 0, .int .u64 0, .int .i64 0] 26)).alloc (.cells #[] 26)).alloc (.cells #[.bool x.v, .int .u64 x.hi, .int .u64 x.lo, .int .i64 x.b] 26)).drew (wr.heap.size) (.bool false) (.int .u64 0) (.int .u64 0) (.int .i64 0)) := Lib.hid (by
          have := Own4.new wr (.bool false) (.int .u64 0) (.int .u64 0) (.int .i64 0) 26
          exact this.below (bal (bal (Below.refl _ _) _) _).drew)
        have EYEX : Hid (World.ownsRow (((wr.alloc (.cells #[.bool false, .int .u64 0, .int .u64 0, .int .i64 0] 26)).alloc (.cells #[] 26)).alloc (.cells #[.bool x.v, .int .u64 x.hi, .int .u64 x.lo, .int .i64 x.b] 26)).drew wr.heap.size 26 4 (.slice (some ⟨wr.heap.size + 1, 0, none⟩) 0 0) 0 []) := Lib.hid (by
          have := row_base (row_empty (wr.alloc (.cells #[.bool false, .int .u64 0, .int .u64 0, .int .i64 0] 26))) (show wr.heap.size ≤ (wr.alloc (.cells #[.bool false, .int .u64 0, .int .u64 0, .int .i64 0] 26)).heap.size from (bal (Below.refl _ _) _ : Below wr.heap.size wr (wr.alloc (.cells #[.bool false, .int .u64 0, .int .u64 0, .int .i64 0] 26))).size)
          rw [World.size_alloc] at this
          exact own_keep this (bal (Below.refl _ _) _).drew)
        have XYEX : Hid (Sl (((wr.alloc (.cells #[.bool false, .int .u64 0, .int .u64 0, .int .i64 0] 26)).alloc (.cells #[] 26)).alloc (.cells #[.bool x.v, .int .u64 x.hi, .int .u64 x.lo, .int .i64 x.b] 26)).drew (some ⟨wr.heap.size + 1 + 1, 0, none⟩) [x]) := Lib.hid (by
          have := sl_one1 ((wr.alloc (.cells #[.bool false, .int .u64 0, .int .u64 0, .int .i64 0] 26)).alloc (.cells #[] 26)) x
          rw [World.size_alloc] at this
          rw [World.size_alloc] at this
          exact this.below (Below.refl _ _).drew)
        have KYXE : Hid (Below wr.heap.size wr (((wr.alloc (.cells #[.bool false, .int .u64 0, .int .u64 0, .int .i64 0] 26)).alloc (.cells #[.bool x.v, .int .u64 x.hi, .int .u64 x.lo, .int .i64 x.b] 26)).alloc (.cells #[] 26)).drew) := (bal (bal (bal (Below.refl _ _) _) _) _).drew
        have TYXE_ := Lib.hid (keep44 TR.out KYXE.out)
        have YYXE : Hid (Own4 (((wr.alloc (.cells #[.bool false, .int .u64 0, .int .u64 0, .int .i64 0] 26)).alloc (.cells #[.bool x.v, .int .u64 x.hi, .int .u64 x.lo, .int .i64 x.b] 26)).alloc (.cells #[] 26)).drew (wr.heap.size) (.bool false) (.int .u64 0) (.int .u64 0) (.int .i64 0)) := Lib.hid (by
          have := Own4.new wr (.bool false) (.int .u64 0) (.int .u64 0) (.int .i64 0) 26
          exact this.below (bal (bal (Below.refl _ _) _) _).drew)
        have XYXE : Hid (Sl (((wr.alloc (.cells #[.bool false, .int .u64 0, .int .u64 0, .int .i64 0] 26)).alloc (.cells #[.bool x.v, .int .u64 x.hi, .int .u64 x.lo, .int .i64 x.b] 26)).alloc (.cells #[] 26)).drew (some ⟨wr.heap.size + 1, 0, none⟩) [x]) := Lib.hid (by
          have := sl_one1 (wr.alloc (.cells #[.bool false, .int .u64 0, .int .u64 0, .int .i64 0] 26)) x
          rw [World.size_alloc] at this
          exact this.below (bal (Below.refl _ _) _).drew)
        have EYXE : Hid (World.ownsRow (((wr.alloc (.cells #[.bool false, .int .u64 0, .int .u64 0, .int .i64 0] 26)).alloc (.cells #[.bool x.v, .int .u64 x.hi, .int .u64 x.lo, .int .i64 x.b] 26)).alloc (.cells #[] 26)).drew wr.heap.size 26 4 (.slice (some ⟨wr.heap.size + 1 + 1, 0, none⟩) 0 0) 0 []) := Lib.hid (by
          have := row_base (row_empty ((wr.alloc (.cells #[.bool false, .int .u64 0, .int .u64 0, .int .i64 0] 26)).alloc (.cells #[.bool x.v, .int .u64 x.hi, .int .u64 x.lo, .int .i64 x.b] 26))) (show wr.heap.size ≤ ((wr.alloc (.cells #[.bool false, .int .u64 0, .int .u64 0, .int .i64 0] 26)).alloc (.cells #[.bool x.v, .int .u64 x.hi, .int .u64 x.lo, .int .i64 x.b] 26)).heap.size from (bal (bal (Below.refl _ _) _) _ : Below wr.heap.size wr ((wr.alloc (.cells #[.bool false, .int .u64 0, .int .u64 0, .int .i64 0] 26)).alloc (.cells #[.bool x.v, .int .u64 x.hi, .int .u64 x.lo, .int .i64 x.b] 26))).size)
          rw [World.size_alloc] at this
          rw [World.size_alloc] at this
          exact own_keep this (Below.refl _ _).drew)
        cases a with
        | none =>
          have Hus : Hid (us = []) := Lib.hid (by
            apply Classical.byContradiction
            intro h
            obtain ⟨g, o, e, _⟩ := Hs.out 0 (List.length_pos_iff.2 h)
            exact absurd e (by simp))
          obtain rfl : c = 0 := hnil rfl
          obtain rfl : k = 0 := by have := HN.out; rw [Hus.out] at this; exact this
          clear HP HX HB
          go_upto_region 18 with fail
          go_cut [16, 8] from 102 (fun vy ve wc => ∃ (r7 : Int) (y7 : Pf) (gy : Nat), vy = .pointer (some ⟨gy, 0, none⟩) ∧ ve = .int .i64 r7 ∧ Hid (Has4 wc gy y7.v y7.hi y7.lo y7.b) ∧ Hid ((wc.cell? ⟨w.heap.size, 0, none⟩ = some (.bool p.v) ∧ wc.cell? ⟨w.heap.size, 1, none⟩ = some (.int .u64 p.hi) ∧ wc.cell? ⟨w.heap.size, 2, none⟩ = some (.int .u64 p.lo) ∧ wc.cell? ⟨w.heap.size, 3, none⟩ = some (.int .i64 p.b) ∧ w.heap.size < wc.heap.size) ∧ (wc.cell? ⟨xb, 0, none⟩ = some (.bool x.v) ∧ wc.cell? ⟨xb, 1, none⟩ = some (.int .u64 x.hi) ∧ wc.cell? ⟨xb, 2, none⟩ = some (.int .u64 x.lo) ∧ wc.cell? ⟨xb, 3, none⟩ = some (.int .i64 x.b) ∧ xb < wc.heap.size) ∧ Below w.heap.size w wc) ∧ Hid (r7 = 8 ∨ (r7 = 0 ∧ lessB x.v x.hi x.lo y7.v y7.hi y7.lo = true ∧ lessE x.v x.hi x.lo y7.v y7.hi y7.lo = 0 ∧ 0 ≤ y7.hi ∧ 0 ≤ y7.lo)))
          case first =>
            go_region_held3 (fun w' => (w'.cell? ⟨w.heap.size, 0, none⟩ = some (.bool p.v) ∧ w'.cell? ⟨w.heap.size, 1, none⟩ = some (.int .u64 p.hi) ∧ w'.cell? ⟨w.heap.size, 2, none⟩ = some (.int .u64 p.lo) ∧ w'.cell? ⟨w.heap.size, 3, none⟩ = some (.int .i64 p.b) ∧ w.heap.size < w'.heap.size) ∧ (w'.cell? ⟨xb, 0, none⟩ = some (.bool x.v) ∧ w'.cell? ⟨xb, 1, none⟩ = some (.int .u64 x.hi) ∧ w'.cell? ⟨xb, 2, none⟩ = some (.int .u64 x.lo) ∧ w'.cell? ⟨xb, 3, none⟩ = some (.int .i64 x.b) ∧ xb < w'.heap.size) ∧ Below w.heap.size w w')
              (first | with_reducible exact T_.out | with_reducible exact TE_.out | with_reducible exact TX_.out | with_reducible exact TY_.out | with_reducible exact TEX_.out | with_reducible exact TEY_.out | with_reducible exact TXE_.out | with_reducible exact TXY_.out | with_reducible exact TYE_.out | with_reducible exact TYX_.out | with_reducible exact TEXY_.out | with_reducible exact TEYX_.out | with_reducible exact TXEY_.out | with_reducible exact TXYE_.out | with_reducible exact TYEX_.out | with_reducible exact TYXE_.out | with_reducible exact T4.out | with_reducible exact T4X.out | with_reducible exact T4Y.out | with_reducible exact T4XY.out | with_reducible exact T4YX.out | with_reducible exact T6.out | with_reducible exact T6z.out | with_reducible exact T7.out | with_reducible exact T8.out | with_reducible exact T9.out | exact keep44u T7.out (by have := hPf.out; have := H6.out.size; first | omega | (have := H4.out.size; omega)) (by have := hXf.out; have := H6.out.size; first | omega | (have := H4.out.size; omega)) (by have := hPf.out; have := H6.out.size; first | omega | (have := H4.out.size; omega)) _ _ _ _ | fail)
              (first
                | (refine at_world (((wr.alloc (.cells #[] 26)).alloc (.cells #[.bool x.v, .int .u64 x.hi, .int .u64 x.lo, .int .i64 x.b] 26)).drew) (by with_reducible rfl) ?_; (refine step_append_own (by rfl) _ _ 27 (by rfl) wr.heap.size 26 i0 _ 4 32 Tryz.underlying27 hi0 hz0 hz1 hz2 rfl (by decide) _ _ _ (by rfl) (show World.ownsRow _ _ _ _ _ us.length (flat us) from by rw [Hus.out]; exact EEX.out) _ _ _ (flat [x]) (by rfl) (by rfl) (sl_news (XEX.out)) (flat_one _) (by have := HN.out; unfold maxLen; omega) (by have := HN.out; omega) ((KEX.out).size) ?_; intro v6 w6 hown6 hgrow6 _; have H6 : Hid (Below wr.heap.size wr w6) := (KEX.out).grown hgrow6 ((KEX.out).size) (fun k hk => ((show World.ownsRow _ _ _ _ _ us.length (flat us) from by rw [Hus.out]; exact EEX.out).lt k hk).1); have O6 : Hid (w6.ownsRow wr.heap.size 26 4 v6 (us ++ [x]).length (flat (us ++ [x]))) := Lib.hid (by rw [List.length_append, flat_append]; exact hown6); have T6 := Lib.hid (keep44 TR.out H6.out); skip; obtain ⟨a6, c6, e6, _, s6⟩ := own_sl O6.out; rw [List.length_append, ← HN.out] at e6; subst e6; have S6 := Lib.hid s6; have T6z := Lib.hid (keep44 T6.out (zal w6)); have S6z := Lib.hid (s6.below (zal w6)); have Q6z := Lib.hid (Own4.new w6 (.bool false) (.int .u64 0) (.int .u64 0) (.int .i64 0) 26); clear hown6 hgrow6 s6))
                | (refine at_world (((wr.alloc (.cells #[.bool x.v, .int .u64 x.hi, .int .u64 x.lo, .int .i64 x.b] 26)).alloc (.cells #[] 26)).drew) (by with_reducible rfl) ?_; (refine step_append_own (by rfl) _ _ 27 (by rfl) wr.heap.size 26 i0 _ 4 32 Tryz.underlying27 hi0 hz0 hz1 hz2 rfl (by decide) _ _ _ (by rfl) (show World.ownsRow _ _ _ _ _ us.length (flat us) from by rw [Hus.out]; exact EXE.out) _ _ _ (flat [x]) (by rfl) (by rfl) (sl_news (XXE.out)) (flat_one _) (by have := HN.out; unfold maxLen; omega) (by have := HN.out; omega) ((KXE.out).size) ?_; intro v6 w6 hown6 hgrow6 _; have H6 : Hid (Below wr.heap.size wr w6) := (KXE.out).grown hgrow6 ((KXE.out).size) (fun k hk => ((show World.ownsRow _ _ _ _ _ us.length (flat us) from by rw [Hus.out]; exact EXE.out).lt k hk).1); have O6 : Hid (w6.ownsRow wr.heap.size 26 4 v6 (us ++ [x]).length (flat (us ++ [x]))) := Lib.hid (by rw [List.length_append, flat_append]; exact hown6); have T6 := Lib.hid (keep44 TR.out H6.out); skip; obtain ⟨a6, c6, e6, _, s6⟩ := own_sl O6.out; rw [List.length_append, ← HN.out] at e6; subst e6; have S6 := Lib.hid s6; have T6z := Lib.hid (keep44 T6.out (zal w6)); have S6z := Lib.hid (s6.below (zal w6)); have Q6z := Lib.hid (Own4.new w6 (.bool false) (.int .u64 0) (.int .u64 0) (.int .i64 0) 26); clear hown6 hgrow6 s6))
                | (refine at_world ((((wr.alloc (.cells #[] 26)).alloc (.cells #[.bool x.v, .int .u64 x.hi, .int .u64 x.lo, .int .i64 x.b] 26)).alloc (.cells #[.bool false, .int .u64 0, .int .u64 0, .int .i64 0] 26)).drew) (by with_reducible rfl) ?_; (refine step_append_own (by rfl) _ _ 27 (by rfl) wr.heap.size 26 i0 _ 4 32 Tryz.underlying27 hi0 hz0 hz1 hz2 rfl (by decide) _ _ _ (by rfl) (show World.ownsRow _ _ _ _ _ us.length (flat us) from by rw [Hus.out]; exact EEXY.out) _ _ _ (flat [x]) (by rfl) (by rfl) (sl_news (XEXY.out)) (flat_one _) (by have := HN.out; unfold maxLen; omega) (by have := HN.out; omega) ((KEXY.out).size) ?_; intro v6 w6 hown6 hgrow6 _; have H6 : Hid (Below wr.heap.size wr w6) := (KEXY.out).grown hgrow6 ((KEXY.out).size) (fun k hk => ((show World.ownsRow _ _ _ _ _ us.length (flat us) from by rw [Hus.out]; exact EEXY.out).lt k hk).1); have O6 : Hid (w6.ownsRow wr.heap.size 26 4 v6 (us ++ [x]).length (flat (us ++ [x]))) := Lib.hid (by rw [List.length_append, flat_append]; exact hown6); have T6 := Lib.hid (keep44 TR.out H6.out); have HYb := Lib.hid (own4_far hgrow6 (show (Value.slice (some ⟨wr.heap.size, 0, none⟩) 0 0).ownBlock ≠ some (wr.heap.size + 1 + 1) from by simp [Value.ownBlock] <;> omega) YEXY.out); obtain ⟨a6, c6, e6, _, s6⟩ := own_sl O6.out; rw [List.length_append, ← HN.out] at e6; subst e6; have S6 := Lib.hid s6; have T6z := Lib.hid (keep44 T6.out (zal w6)); have S6z := Lib.hid (s6.below (zal w6)); have Q6z := Lib.hid (Own4.new w6 (.bool false) (.int .u64 0) (.int .u64 0) (.int .i64 0) 26); clear hown6 hgrow6 s6))
                | (refine at_world ((((wr.alloc (.cells #[] 26)).alloc (.cells #[.bool false, .int .u64 0, .int .u64 0, .int .i64 0] 26)).alloc (.cells #[.bool x.v, .int .u64 x.hi, .int .u64 x.lo, .int .i64 x.b] 26)).drew) (by with_reducible rfl) ?_; (refine step_append_own (by rfl) _ _ 27 (by rfl) wr.heap.size 26 i0 _ 4 32 Tryz.underlying27 hi0 hz0 hz1 hz2 rfl (by decide) _ _ _ (by rfl) (show World.ownsRow _ _ _ _ _ us.length (flat us) from by rw [Hus.out]; exact EEYX.out) _ _ _ (flat [x]) (by rfl) (by rfl) (sl_news (XEYX.out)) (flat_one _) (by have := HN.out; unfold maxLen; omega) (by have := HN.out; omega) ((KEYX.out).size) ?_; intro v6 w6 hown6 hgrow6 _; have H6 : Hid (Below wr.heap.size wr w6) := (KEYX.out).grown hgrow6 ((KEYX.out).size) (fun k hk => ((show World.ownsRow _ _ _ _ _ us.length (flat us) from by rw [Hus.out]; exact EEYX.out).lt k hk).1); have O6 : Hid (w6.ownsRow wr.heap.size 26 4 v6 (us ++ [x]).length (flat (us ++ [x]))) := Lib.hid (by rw [List.length_append, flat_append]; exact hown6); have T6 := Lib.hid (keep44 TR.out H6.out); have HYb := Lib.hid (own4_far hgrow6 (show (Value.slice (some ⟨wr.heap.size, 0, none⟩) 0 0).ownBlock ≠ some (wr.heap.size + 1) from by simp [Value.ownBlock] <;> omega) YEYX.out); obtain ⟨a6, c6, e6, _, s6⟩ := own_sl O6.out; rw [List.length_append, ← HN.out] at e6; subst e6; have S6 := Lib.hid s6; have T6z := Lib.hid (keep44 T6.out (zal w6)); have S6z := Lib.hid (s6.below (zal w6)); have Q6z := Lib.hid (Own4.new w6 (.bool false) (.int .u64 0) (.int .u64 0) (.int .i64 0) 26); clear hown6 hgrow6 s6))
                | (refine at_world ((((wr.alloc (.cells #[.bool x.v, .int .u64 x.hi, .int .u64 x.lo, .int .i64 x.b] 26)).alloc (.cells #[] 26)).alloc (.cells #[.bool false, .int .u64 0, .int .u64 0, .int .i64 0] 26)).drew) (by with_reducible rfl) ?_; (refine step_append_own (by rfl) _ _ 27 (by rfl) wr.heap.size 26 i0 _ 4 32 Tryz.underlying27 hi0 hz0 hz1 hz2 rfl (by decide) _ _ _ (by rfl) (show World.ownsRow _ _ _ _ _ us.length (flat us) from by rw [Hus.out]; exact EXEY.out) _ _ _ (flat [x]) (by rfl) (by rfl) (sl_news (XXEY.out)) (flat_one _) (by have := HN.out; unfold maxLen; omega) (by have := HN.out; omega) ((KXEY.out).size) ?_; intro v6 w6 hown6 hgrow6 _; have H6 : Hid (Below wr.heap.size wr w6) := (KXEY.out).grown hgrow6 ((KXEY.out).size) (fun k hk => ((show World.ownsRow _ _ _ _ _ us.length (flat us) from by rw [Hus.out]; exact EXEY.out).lt k hk).1); have O6 : Hid (w6.ownsRow wr.heap.size 26 4 v6 (us ++ [x]).length (flat (us ++ [x]))) := Lib.hid (by rw [List.length_append, flat_append]; exact hown6); have T6 := Lib.hid (keep44 TR.out H6.out); have HYb := Lib.hid (own4_far hgrow6 (show (Value.slice (some ⟨wr.heap.size + 1, 0, none⟩) 0 0).ownBlock ≠ some (wr.heap.size + 1 + 1) from by simp [Value.ownBlock] <;> omega) YXEY.out); obtain ⟨a6, c6, e6, _, s6⟩ := own_sl O6.out; rw [List.length_append, ← HN.out] at e6; subst e6; have S6 := Lib.hid s6; have T6z := Lib.hid (keep44 T6.out (zal w6)); have S6z := Lib.hid (s6.below (zal w6)); have Q6z := Lib.hid (Own4.new w6 (.bool false) (.int .u64 0) (.int .u64 0) (.int .i64 0) 26); clear hown6 hgrow6 s6))
                | (refine at_world ((((wr.alloc (.cells #[.bool x.v, .int .u64 x.hi, .int .u64 x.lo, .int .i64 x.b] 26)).alloc (.cells #[.bool false, .int .u64 0, .int .u64 0, .int .i64 0] 26)).alloc (.cells #[] 26)).drew) (by with_reducible rfl) ?_; (refine step_append_own (by rfl) _ _ 27 (by rfl) wr.heap.size 26 i0 _ 4 32 Tryz.underlying27 hi0 hz0 hz1 hz2 rfl (by decide) _ _ _ (by rfl) (show World.ownsRow _ _ _ _ _ us.length (flat us) from by rw [Hus.out]; exact EXYE.out) _ _ _ (flat [x]) (by rfl) (by rfl) (sl_news (XXYE.out)) (flat_one _) (by have := HN.out; unfold maxLen; omega) (by have := HN.out; omega) ((KXYE.out).size) ?_; intro v6 w6 hown6 hgrow6 _; have H6 : Hid (Below wr.heap.size wr w6) := (KXYE.out).grown hgrow6 ((KXYE.out).size) (fun k hk => ((show World.ownsRow _ _ _ _ _ us.length (flat us) from by rw [Hus.out]; exact EXYE.out).lt k hk).1); have O6 : Hid (w6.ownsRow wr.heap.size 26 4 v6 (us ++ [x]).length (flat (us ++ [x]))) := Lib.hid (by rw [List.length_append, flat_append]; exact hown6); have T6 := Lib.hid (keep44 TR.out H6.out); have HYb := Lib.hid (own4_far hgrow6 (show (Value.slice (some ⟨wr.heap.size + 1 + 1, 0, none⟩) 0 0).ownBlock ≠ some (wr.heap.size + 1) from by simp [Value.ownBlock] <;> omega) YXYE.out); obtain ⟨a6, c6, e6, _, s6⟩ := own_sl O6.out; rw [List.length_append, ← HN.out] at e6; subst e6; have S6 := Lib.hid s6; have T6z := Lib.hid (keep44 T6.out (zal w6)); have S6z := Lib.hid (s6.below (zal w6)); have Q6z := Lib.hid (Own4.new w6 (.bool false) (.int .u64 0) (.int .u64 0) (.int .i64 0) 26); clear hown6 hgrow6 s6))
                | (refine at_world ((((wr.alloc (.cells #[.bool false, .int .u64 0, .int .u64 0, .int .i64 0] 26)).alloc (.cells #[] 26)).alloc (.cells #[.bool x.v, .int .u64 x.hi, .int .u64 x.lo, .int .i64 x.b] 26)).drew) (by with_reducible rfl) ?_; (refine step_append_own (by rfl) _ _ 27 (by rfl) wr.heap.size 26 i0 _ 4 32 Tryz.underlying27 hi0 hz0 hz1 hz2 rfl (by decide) _ _ _ (by rfl) (show World.ownsRow _ _ _ _ _ us.length (flat us) from by rw [Hus.out]; exact EYEX.out) _ _ _ (flat [x]) (by rfl) (by rfl) (sl_news (XYEX.out)) (flat_one _) (by have := HN.out; unfold maxLen; omega) (by have := HN.out; omega) ((KYEX.out).size) ?_; intro v6 w6 hown6 hgrow6 _; have H6 : Hid (Below wr.heap.size wr w6) := (KYEX.out).grown hgrow6 ((KYEX.out).size) (fun k hk => ((show World.ownsRow _ _ _ _ _ us.length (flat us) from by rw [Hus.out]; exact EYEX.out).lt k hk).1); have O6 : Hid (w6.ownsRow wr.heap.size 26 4 v6 (us ++ [x]).length (flat (us ++ [x]))) := Lib.hid (by rw [List.length_append, flat_append]; exact hown6); have T6 := Lib.hid (keep44 TR.out H6.out); have HYb := Lib.hid (own4_far hgrow6 (show (Value.slice (some ⟨wr.heap.size + 1, 0, none⟩) 0 0).ownBlock ≠ some (wr.heap.size) from by simp [Value.ownBlock] <;> omega) YYEX.out); obtain ⟨a6, c6, e6, _, s6⟩ := own_sl O6.out; rw [List.length_append, ← HN.out] at e6; subst e6; have S6 := Lib.hid s6; have T6z := Lib.hid (keep44 T6.out (zal w6)); have S6z := Lib.hid (s6.below (zal w6)); have Q6z := Lib.hid (Own4.new w6 (.bool false) (.int .u64 0) (.int .u64 0) (.int .i64 0) 26); clear hown6 hgrow6 s6))
                | (refine at_world ((((wr.alloc (.cells #[.bool false, .int .u64 0, .int .u64 0, .int .i64 0] 26)).alloc (.cells #[.bool x.v, .int .u64 x.hi, .int .u64 x.lo, .int .i64 x.b] 26)).alloc (.cells #[] 26)).drew) (by with_reducible rfl) ?_; (refine step_append_own (by rfl) _ _ 27 (by rfl) wr.heap.size 26 i0 _ 4 32 Tryz.underlying27 hi0 hz0 hz1 hz2 rfl (by decide) _ _ _ (by rfl) (show World.ownsRow _ _ _ _ _ us.length (flat us) from by rw [Hus.out]; exact EYXE.out) _ _ _ (flat [x]) (by rfl) (by rfl) (sl_news (XYXE.out)) (flat_one _) (by have := HN.out; unfold maxLen; omega) (by have := HN.out; omega) ((KYXE.out).size) ?_; intro v6 w6 hown6 hgrow6 _; have H6 : Hid (Below wr.heap.size wr w6) := (KYXE.out).grown hgrow6 ((KYXE.out).size) (fun k hk => ((show World.ownsRow _ _ _ _ _ us.length (flat us) from by rw [Hus.out]; exact EYXE.out).lt k hk).1); have O6 : Hid (w6.ownsRow wr.heap.size 26 4 v6 (us ++ [x]).length (flat (us ++ [x]))) := Lib.hid (by rw [List.length_append, flat_append]; exact hown6); have T6 := Lib.hid (keep44 TR.out H6.out); have HYb := Lib.hid (own4_far hgrow6 (show (Value.slice (some ⟨wr.heap.size + 1 + 1, 0, none⟩) 0 0).ownBlock ≠ some (wr.heap.size) from by simp [Value.ownBlock] <;> omega) YYXE.out); obtain ⟨a6, c6, e6, _, s6⟩ := own_sl O6.out; rw [List.length_append, ← HN.out] at e6; subst e6; have S6 := Lib.hid s6; have T6z := Lib.hid (keep44 T6.out (zal w6)); have S6z := Lib.hid (s6.below (zal w6)); have Q6z := Lib.hid (Own4.new w6 (.bool false) (.int .u64 0) (.int .u64 0) (.int .i64 0) 26); clear hown6 hgrow6 s6))
                | (refine at_world ((wr.alloc (.cells #[] 26)).drew) (by with_reducible rfl) ?_; (refine step_append_none (by rfl) _ _ 27 (by rfl) wr.heap.size 26 i0 4 Tryz.underlying27 hi0 _ _ _ (by rfl) EE.out (by rfl) ?_))
                | (refine at_world (((wr.alloc (.cells #[] 26)).alloc (.cells #[.bool x.v, .int .u64 x.hi, .int .u64 x.lo, .int .i64 x.b] 26)).drew) (by with_reducible rfl) ?_; (refine step_append_none (by rfl) _ _ 27 (by rfl) wr.heap.size 26 i0 4 Tryz.underlying27 hi0 _ _ _ (by rfl) EEX.out (by rfl) ?_))
                | (refine at_world (((wr.alloc (.cells #[] 26)).alloc (.cells #[.bool false, .int .u64 0, .int .u64 0, .int .i64 0] 26)).drew) (by with_reducible rfl) ?_; (refine step_append_none (by rfl) _ _ 27 (by rfl) wr.heap.size 26 i0 4 Tryz.underlying27 hi0 _ _ _ (by rfl) EEY.out (by rfl) ?_))
                | (refine at_world (((wr.alloc (.cells #[.bool x.v, .int .u64 x.hi, .int .u64 x.lo, .int .i64 x.b] 26)).alloc (.cells #[] 26)).drew) (by with_reducible rfl) ?_; (refine step_append_none (by rfl) _ _ 27 (by rfl) wr.heap.size 26 i0 4 Tryz.underlying27 hi0 _ _ _ (by rfl) EXE.out (by rfl) ?_))
                | (refine at_world (((wr.alloc (.cells #[.bool false, .int .u64 0, .int .u64 0, .int .i64 0] 26)).alloc (.cells #[] 26)).drew) (by with_reducible rfl) ?_; (refine step_append_none (by rfl) _ _ 27 (by rfl) wr.heap.size 26 i0 4 Tryz.underlying27 hi0 _ _ _ (by rfl) EYE.out (by rfl) ?_))
                | (refine at_world ((((wr.alloc (.cells #[] 26)).alloc (.cells #[.bool x.v, .int .u64 x.hi, .int .u64 x.lo, .int .i64 x.b] 26)).alloc (.cells #[.bool false, .int .u64 0, .int .u64 0, .int .i64 0] 26)).drew) (by with_reducible rfl) ?_; (refine step_append_none (by rfl) _ _ 27 (by rfl) wr.heap.size 26 i0 4 Tryz.underlying27 hi0 _ _ _ (by rfl) EEXY.out (by rfl) ?_))
                | (refine at_world ((((wr.alloc (.cells #[] 26)).alloc (.cells #[.bool false, .int .u64 0, .int .u64 0, .int .i64 0] 26)).alloc (.cells #[.bool x.v, .int .u64 x.hi, .int .u64 x.lo, .int .i64 x.b] 26)).drew) (by with_reducible rfl) ?_; (refine step_append_none (by rfl) _ _ 27 (by rfl) wr.heap.size 26 i0 4 Tryz.underlying27 hi0 _ _ _ (by rfl) EEYX.out (by rfl) ?_))
                | (refine at_world ((((wr.alloc (.cells #[.bool x.v, .int .u64 x.hi, .int .u64 x.lo, .int .i64 x.b] 26)).alloc (.cells #[] 26)).alloc (.cells #[.bool false, .int .u64 0, .int .u64 0, .int .i64 0] 26)).drew) (by with_reducible rfl) ?_; (refine step_append_none (by rfl) _ _ 27 (by rfl) wr.heap.size 26 i0 4 Tryz.underlying27 hi0 _ _ _ (by rfl) EXEY.out (by rfl) ?_))
                | (refine at_world ((((wr.alloc (.cells #[.bool x.v, .int .u64 x.hi, .int .u64 x.lo, .int .i64 x.b] 26)).alloc (.cells #[.bool false, .int .u64 0, .int .u64 0, .int .i64 0] 26)).alloc (.cells #[] 26)).drew) (by with_reducible rfl) ?_; (refine step_append_none (by rfl) _ _ 27 (by rfl) wr.heap.size 26 i0 4 Tryz.underlying27 hi0 _ _ _ (by rfl) EXYE.out (by rfl) ?_))
                | (refine at_world ((((wr.alloc (.cells #[.bool false, .int .u64 0, .int .u64 0, .int .i64 0] 26)).alloc (.cells #[] 26)).alloc (.cells #[.bool x.v, .int .u64 x.hi, .int .u64 x.lo, .int .i64 x.b] 26)).drew) (by with_reducible rfl) ?_; (refine step_append_none (by rfl) _ _ 27 (by rfl) wr.heap.size 26 i0 4 Tryz.underlying27 hi0 _ _ _ (by rfl) EYEX.out (by rfl) ?_))
                | (refine at_world ((((wr.alloc (.cells #[.bool false, .int .u64 0, .int .u64 0, .int .i64 0] 26)).alloc (.cells #[.bool x.v, .int .u64 x.hi, .int .u64 x.lo, .int .i64 x.b] 26)).alloc (.cells #[] 26)).drew) (by with_reducible rfl) ?_; (refine step_append_none (by rfl) _ _ 27 (by rfl) wr.heap.size 26 i0 4 Tryz.underlying27 hi0 _ _ _ (by rfl) EYXE.out (by rfl) ?_))
                | (go_at_call 5; (with_reducible refine (C2.out a6 c6 w6 T6.out.2.2 S6.out).mono ?_); rintro e w7 ⟨r7, y7, rfl, hy, hb⟩; have T7 := Lib.hid (keep44 T6.out hb); have HY7 := Lib.hid (HYb.out.below hb); obtain ⟨⟨y0, y1, y2, y3⟩, ⟨y4, y5, y6, y8⟩, y9⟩ := HY7.out; have HY := Lib.hid hy; clear hb hy)
                | (go_at_call 5; (with_reducible refine (C2.out a6 c6 w6 T6.out.2.2 S6.out).mono ?_); rintro e w7 ⟨r7, y7, rfl, hy, hb⟩; have T7 := Lib.hid (keep44 T6.out hb); have T8 := Lib.hid (keep44 T7.out (zal w7)); have T9 := Lib.hid (keep44 T7.out (pal w7 y7.v y7.hi y7.lo y7.b)); have HY := Lib.hid hy; clear hb hy)
                | (go_at_call 5; (with_reducible refine (C2.out a6 c6 (w6.alloc (.cells #[.bool false, .int .u64 0, .int .u64 0, .int .i64 0] 26)) T6z.out.2.2 S6z.out).mono ?_); rintro e w7 ⟨r7, y7, rfl, hy, hb⟩; have T7 := Lib.hid (keep44 T6z.out hb); have HY7 := Lib.hid (Q6z.out.below hb); obtain ⟨⟨y0, y1, y2, y3⟩, ⟨y4, y5, y6, y8⟩, y9⟩ := HY7.out; have HY := Lib.hid hy; clear hb hy))
            all_goals
              first
                | (have HF := Lib.hid T9.out; have HNy := Lib.hid (Has4.new w7 y7.v y7.hi y7.lo y7.b 26); clear C2 TR hPf hXf Hu Hs Haw hi0 hz0 hz1 hz2 K KE KX KY KEX KEY KXE KXY KYE KYX KEXY KEYX KXEY KXYE KYEX KYXE T_ TE_ TX_ TY_ TEX_ TEY_ TXE_ TXY_ TYE_ TYX_ TEXY_ TEYX_ TXEY_ TXYE_ TYEX_ TYXE_ EE XX YY EEX XEX EEY YEY XXE EXE XXY YXY YYE EYE YYX XYX EEXY XEXY YEXY EEYX YEYX XEYX XXEY EXEY YXEY XXYE YXYE EXYE YYEX EYEX XYEX YYXE XYXE EYXE; go_wp2_with fail; go_meet; exact ⟨r7, y7, _, rfl, rfl, HNy, HF, HY⟩)
                | (have HF := Lib.hid (keep44y HY7.out T7.out (by have := hPf.out; have := hXf.out; have := H6.out.size; first | omega | (have := H4.out.size; omega)) (by have := hPf.out; have := hXf.out; have := H6.out.size; first | omega | (have := H4.out.size; omega)) (by have := hPf.out; have := hXf.out; have := H6.out.size; first | omega | (have := H4.out.size; omega)) (.bool y7.v) (.int .u64 y7.hi) (.int .u64 y7.lo) (.int .i64 y7.b)); have HNy := Lib.hid (own4_put HY7.out y7.v y7.hi y7.lo y7.b); clear C2 TR hPf hXf Hu Hs Haw hi0 hz0 hz1 hz2 K KE KX KY KEX KEY KXE KXY KYE KYX KEXY KEYX KXEY KXYE KYEX KYXE T_ TE_ TX_ TY_ TEX_ TEY_ TXE_ TXY_ TYE_ TYX_ TEXY_ TEYX_ TXEY_ TXYE_ TYEX_ TYXE_ EE XX YY EEX XEX EEY YEY XXE EXE XXY YXY YYE EYE YYX XYX EEXY XEXY YEXY EEYX YEYX XEYX XXEY EXEY YXEY XXYE YXYE EXYE YYEX EYEX XYEX YYXE XYXE EYXE; go_wp2_with fail; go_meet; exact ⟨r7, y7, _, rfl, rfl, HNy, HF, HY⟩)
          case rest =>
            clear C2 TR hPf hXf Hu Hs Haw hi0 hz0 hz1 hz2 K KE KX KY KEX KEY KXE KXY KYE KYX KEXY KEYX KXEY KXYE KYEX KYXE T_ TE_ TX_ TY_ TEX_ TEY_ TXE_ TXY_ TYE_ TYX_ TEXY_ TEYX_ TXEY_ TXYE_ TYEX_ TYXE_ EE XX YY EEX XEX EEY YEY XXE EXE XXY YXY YYE EYE YYX XYX EEXY XEXY YEXY EEYX YEYX XEYX XXEY EXEY YXEY XXYE YXYE EXYE YYEX EYEX XYEX YYXE XYXE EYXE
            obtain ⟨r7, y7, gy, rfl, rfl, HNy, HF, HY⟩ := hcut
            rcases HY.out with rfl | ⟨rfl, hls, hle, hy0, hy1⟩
            · clear HY
              have HBf := Lib.hid HF.out.2.2
              clear HF HNy
              go_wp2
              go_ret
              exact ⟨rfl, HBf.out⟩
            · clear HY
              have CLs : Hid (∀ w' : World, Calls Tryz.prog 11 #[.agg #[.bool x.v, .int .u64 x.hi, .int .u64 x.lo], .agg #[.bool y7.v, .int .u64 y7.hi, .int .u64 y7.lo]] w' fun e w'' => e = .returned (.tuple #[.bool true, .int .i64 0]) ∧ Below w'.heap.size w' w'') := fun w' => by
                have := less_any x.v y7.v x.hi x.lo y7.hi y7.lo w' Hrx.out.h0 Hrx.out.l0 hy0 hy1
                rw [hls, hle] at this
                exact this
              clear hls hle hy0 hy1
              obtain ⟨_, ⟨x0, x1, x2, x3, x4⟩, hBf⟩ := HF.out
              have HBf := Lib.hid hBf
              clear hBf HF
              obtain ⟨n0, n1, n2, n3, n4⟩ := HNy.out
              clear HNy
              go_wp2_with fail
              refine (CLs.out _).mono ?_
              rintro e w8 ⟨rfl, hb⟩
              have HB8 := Lib.hid (btr HBf.out hb)
              clear hb
              go_wp2
              go_ret
              exact ⟨rfl, HB8.out⟩
        | some ad =>
          clear HP HX HB
          go_upto_region 18 with fail
          exfalso
          have hax := ha.out
          simp at hax

end Go.Proofs.YtpbankmbdacdaaaGreatDoor
