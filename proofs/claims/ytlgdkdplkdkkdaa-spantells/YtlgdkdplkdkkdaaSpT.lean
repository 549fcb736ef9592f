/- yardarmlaw.SpanTells, case by case. -/
import Derived.Test.YtlgdkdplkdkkdaaSpD
import Derived.Test.YtlgdkdplkdkkdaaSbA
import Derived.Test.YtlgdkdplkdkkdaaReC
set_option linter.unusedVariables false
set_option linter.unusedSimpArgs false
namespace Go.Proofs.Ytlgdkdplkdkkdaa
open Go.RowKit

set_option maxHeartbeats 32000000 in
set_option maxRecDepth 100000 in
theorem st_bad (a : Option Addr) (c N : Nat) (ps : List Pf) (v : Bool) (xh xl : Int) (p : Pf) (w : World) (hN : N = ps.length) (hok : ∀ p ∈ ps, p.Ok) (hp : p.Ok) (hs : Sl w a ps) (x0 : 0 ≤ xh) (x1 : xh < 18446744073709551616) (x2 : 0 ≤ xl) (x3 : xl < 18446744073709551616) (hr : slkL ps ≠ 0) :
    Calls Try.prog 3 #[.slice a N c, .agg #[.bool v, .int .u64 xh, .int .u64 xl], .agg #[.bool p.v, .int .u64 p.hi, .int .u64 p.lo, .int .i64 p.b]] w fun e w' => e = .returned (.bool true) ∧ Below w.heap.size w w' := by
  have HA : Hid (Has3 ((w.alloc (.cells #[.bool v, .int .u64 xh, .int .u64 xl] 25)).alloc (.cells #[.bool p.v, .int .u64 p.hi, .int .u64 p.lo, .int .i64 p.b] 27)) w.heap.size (.bool v) (.int .u64 xh) (.int .u64 xl)) := (Has3.new w (.bool v) (.int .u64 xh) (.int .u64 xl) 25).alloc _
  have HP : Hid (Has4 ((w.alloc (.cells #[.bool v, .int .u64 xh, .int .u64 xl] 25)).alloc (.cells #[.bool p.v, .int .u64 p.hi, .int .u64 p.lo, .int .i64 p.b] 27)) (w.heap.size + 1) p.v p.hi p.lo p.b) := by
    have := Has4.new (w.alloc (.cells #[.bool v, .int .u64 xh, .int .u64 xl] 25)) p.v p.hi p.lo p.b 27
    rw [show (w.alloc (.cells #[.bool v, .int .u64 xh, .int .u64 xl] 25)).heap.size = w.heap.size + 1 by simp] at this
    exact this
  have HB : Hid (Below w.heap.size w ((w.alloc (.cells #[.bool v, .int .u64 xh, .int .u64 xl] 25)).alloc (.cells #[.bool p.v, .int .u64 p.hi, .int .u64 p.lo, .int .i64 p.b] 27))) := bal (bal (Below.refl _ _) _) _
  have CB : Hid (∀ w : World, Calls Try.prog 12 #[] w fun e w' => e = .returned (.bool true) ∧ Below w.heap.size w w') := sbegun_any
  have CL : Hid (∀ w' : World, Below w.heap.size w w' → Calls Try.prog 7 #[.slice a N c] w' fun e w'' => e = .returned (.int .i64 (slkL ps)) ∧ Below w'.heap.size w' w'') := fun w' h => by rw [hN]; exact clist_any a c ps w' hok (hs.below h)
  have CH : Hid (∀ w' : World, Below w.heap.size w w' → Calls Try.prog 5 #[.slice a N c, .agg #[.bool v, .int .u64 xh, .int .u64 xl]] w' fun e w'' => e = .returned (.tuple #[.bool (sHasB ps v xh xl), .int .i64 (sHasE ps v xh xl)]) ∧ Below w'.heap.size w' w'') := fun w' h => by rw [hN]; exact sHas_any a c ps v xh xl w' hok (hs.below h) x0 x2
  have e1 : sHasE ps v xh xl = slkL ps := by rw [sHasE, if_neg hr]
  have e2 : sHasB ps v xh xl = false := by rw [sHasB, e1, if_neg hr]
  have e3 : sMinE ps p = slkL ps := by rw [sMinE, if_neg hr]
  rw [e1, e2] at CH
  have hI : (slkL ps != 0) = true := by rw [bne_iff_ne]; exact hr
  have hJ : (slkL ps == 0) = false := by rw [beq_eq_false_iff_ne]; exact hr
  have CN : Hid (∀ w' : World, Below w.heap.size w w' → Calls Try.prog 4 #[.slice a N c] w' fun e w'' => e = .returned (.tuple #[.slice none 0 0, .int .i64 (slkL ps)]) ∧ Below w'.heap.size w' w'') := fun w' h => by rw [hN]; exact sNorm_bad a c ps w' hok (hs.below h) hr
  have CM : Hid (∀ w' : World, Below w.heap.size w w' → Calls Try.prog 6 #[.slice a N c, .agg #[.bool p.v, .int .u64 p.hi, .int .u64 p.lo, .int .i64 p.b]] w' fun e w'' => e = .returned (.tuple #[.slice none 0 0, .int .i64 (slkL ps)]) ∧ Below w'.heap.size w' w'') := fun w' h => by rw [hN, ← e3]; exact sMinus_bad a c ps p w' hok hp (hs.below h) (by rw [e3]; exact hr)
  have CP : Hid (∀ w' : World, Calls Try.prog 13 #[.slice none 0 0, .int .i64 (slkL ps), .int .i64 (slkL ps), .slice none 0 0] w' fun e w'' => e = .returned (.bool true) ∧ Below w'.heap.size w' w'') := fun w' => pare_err _ _ w' hI
  generalize slkL ps = r at *
  clear e1 e2 e3 hok hs hr hp hN x0 x1 x2 x3
  go_enter Try.func3, Try.ntmps3
  obtain ⟨a0, a1, a2, a3⟩ := HA.out
  obtain ⟨p0, p1, p2, p3, p4⟩ := HP.out
  go_wp2_with fail
  refine (CN.out _ HB.out).mono ?_
  rintro e w1 ⟨rfl, hb⟩
  clear a0 a1 a2 a3 p0 p1 p2 p3 p4
  replace HA := Lib.hid (HA.out.below hb)
  replace HP := Lib.hid (HP.out.below hb)
  replace HB := Lib.hid (btr HB.out hb)
  clear hb
  obtain ⟨a0, a1, a2, a3⟩ := HA.out
  obtain ⟨p0, p1, p2, p3, p4⟩ := HP.out
  go_wp2_with fail
  refine (CH.out _ HB.out).mono ?_
  rintro e w2 ⟨rfl, hb⟩
  clear a0 a1 a2 a3 p0 p1 p2 p3 p4
  replace HA := Lib.hid (HA.out.below hb)
  replace HP := Lib.hid (HP.out.below hb)
  replace HB := Lib.hid (btr HB.out hb)
  clear hb
  obtain ⟨a0, a1, a2, a3⟩ := HA.out
  obtain ⟨p0, p1, p2, p3, p4⟩ := HP.out
  go_wp2_with fail
  refine (CM.out _ HB.out).mono ?_
  rintro e w3 ⟨rfl, hb⟩
  clear a0 a1 a2 a3 p0 p1 p2 p3 p4
  replace HA := Lib.hid (HA.out.below hb)
  replace HP := Lib.hid (HP.out.below hb)
  replace HB := Lib.hid (btr HB.out hb)
  clear hb
  obtain ⟨a0, a1, a2, a3⟩ := HA.out
  obtain ⟨p0, p1, p2, p3, p4⟩ := HP.out
  go_wp2_with fail
  refine (CL.out _ HB.out).mono ?_
  rintro e w4 ⟨rfl, hb⟩
  clear a0 a1 a2 a3 p0 p1 p2 p3 p4
  replace HA := Lib.hid (HA.out.below hb)
  replace HP := Lib.hid (HP.out.below hb)
  replace HB := Lib.hid (btr HB.out hb)
  clear hb
  have hrr : (r == r) = true := by simp
  by_cases hN0 : N = 0
  · subst hN0
    go_wp2_with fail
    refine wp_loop_rounds 1 ?_
    rw [rounds_succ]
    go_wp2_with fail
    refine (CB.out _).mono ?_
    rintro e w5 ⟨rfl, hb⟩
    replace HB := Lib.hid (btr HB.out hb)
    clear hb
    go_wp2_with fail
    refine (CP.out _).mono ?_
    rintro e w6 ⟨rfl, hb⟩
    replace HB := Lib.hid (btr HB.out hb)
    clear hb
    go_wp2_with fail
    refine (CP.out _).mono ?_
    rintro e w7 ⟨rfl, hb⟩
    replace HB := Lib.hid (btr HB.out hb)
    clear hb
    go_wp2
    go_ret
    exact ⟨rfl, HB.out⟩
  · have hN1 : (0 : Int) < (N : Int) := by omega
    go_wp2_with fail
    refine wp_loop_rounds 1 ?_
    rw [rounds_succ]
    go_wp2_with fail
    refine (CB.out _).mono ?_
    rintro e w5 ⟨rfl, hb⟩
    replace HB := Lib.hid (btr HB.out hb)
    clear hb
    go_wp2_with fail
    refine (CP.out _).mono ?_
    rintro e w6 ⟨rfl, hb⟩
    replace HB := Lib.hid (btr HB.out hb)
    clear hb
    go_wp2_with fail
    refine (CP.out _).mono ?_
    rintro e w7 ⟨rfl, hb⟩
    replace HB := Lib.hid (btr HB.out hb)
    clear hb
    go_wp2
    go_ret
    exact ⟨rfl, HB.out⟩

theorem keepA {w W W' : World} {g o k : Nat} {v : Bool} {xh xl : Int} {x : Pf} (h : (W.cell? ⟨w.heap.size, 0, none⟩ = some (.bool v) ∧ W.cell? ⟨w.heap.size, 1, none⟩ = some (.int .u64 xh) ∧ W.cell? ⟨w.heap.size, 2, none⟩ = some (.int .u64 xl) ∧ w.heap.size < W.heap.size) ∧ (W.cell? ⟨g, o + k * 4, none⟩ = some (.bool x.v) ∧ W.cell? ⟨g, o + k * 4 + 1, none⟩ = some (.int .u64 x.hi) ∧ W.cell? ⟨g, o + k * 4 + 2, none⟩ = some (.int .u64 x.lo) ∧ W.cell? ⟨g, o + k * 4 + 3, none⟩ = some (.int .i64 x.b) ∧ g < W.heap.size) ∧ Below w.heap.size w W) (hb : Below W.heap.size W W') : (W'.cell? ⟨w.heap.size, 0, none⟩ = some (.bool v) ∧ W'.cell? ⟨w.heap.size, 1, none⟩ = some (.int .u64 xh) ∧ W'.cell? ⟨w.heap.size, 2, none⟩ = some (.int .u64 xl) ∧ w.heap.size < W'.heap.size) ∧ (W'.cell? ⟨g, o + k * 4, none⟩ = some (.bool x.v) ∧ W'.cell? ⟨g, o + k * 4 + 1, none⟩ = some (.int .u64 x.hi) ∧ W'.cell? ⟨g, o + k * 4 + 2, none⟩ = some (.int .u64 x.lo) ∧ W'.cell? ⟨g, o + k * 4 + 3, none⟩ = some (.int .i64 x.b) ∧ g < W'.heap.size) ∧ Below w.heap.size w W' := by
  obtain ⟨h1, ⟨a, b', c', d, f⟩, h3⟩ := h
  obtain ⟨k1, _⟩ := bcell hb
  exact ⟨Has3.below h1 hb, ⟨by rw [k1 _ _ f]; exact a, by rw [k1 _ _ f]; exact b', by rw [k1 _ _ f]; exact c', by rw [k1 _ _ f]; exact d, Nat.lt_of_lt_of_le f hb.size⟩, btr h3 hb⟩

set_option maxHeartbeats 32000000 in
set_option maxRecDepth 100000 in
theorem st_00 (a : Option Addr) (c N : Nat) (ps : List Pf) (v : Bool) (xh xl : Int) (p : Pf) (w : World) (hN : N = ps.length) (hok : ∀ p ∈ ps, p.Ok) (hp : p.Ok) (hs : Sl w a ps) (x0 : 0 ≤ xh) (x1 : xh < 18446744073709551616) (x2 : 0 ≤ xl) (x3 : xl < 18446744073709551616) (hr : slkL ps = 0) (ha : chk v xh xl = 0) (hq : p.chk = 0) :
    Calls Try.prog 3 #[.slice a N c, .agg #[.bool v, .int .u64 xh, .int .u64 xl], .agg #[.bool p.v, .int .u64 p.hi, .int .u64 p.lo, .int .i64 p.b]] w fun e w' => e = .returned (.bool true) ∧ Below w.heap.size w w' := by
  have HA : Hid (Has3 ((w.alloc (.cells #[.bool v, .int .u64 xh, .int .u64 xl] 25)).alloc (.cells #[.bool p.v, .int .u64 p.hi, .int .u64 p.lo, .int .i64 p.b] 27)) w.heap.size (.bool v) (.int .u64 xh) (.int .u64 xl)) := (Has3.new w (.bool v) (.int .u64 xh) (.int .u64 xl) 25).alloc _
  have HP : Hid (Has4 ((w.alloc (.cells #[.bool v, .int .u64 xh, .int .u64 xl] 25)).alloc (.cells #[.bool p.v, .int .u64 p.hi, .int .u64 p.lo, .int .i64 p.b] 27)) (w.heap.size + 1) p.v p.hi p.lo p.b) := by
    have := Has4.new (w.alloc (.cells #[.bool v, .int .u64 xh, .int .u64 xl] 25)) p.v p.hi p.lo p.b 27
    rw [show (w.alloc (.cells #[.bool v, .int .u64 xh, .int .u64 xl] 25)).heap.size = w.heap.size + 1 by simp] at this
    exact this
  have HB : Hid (Below w.heap.size w ((w.alloc (.cells #[.bool v, .int .u64 xh, .int .u64 xl] 25)).alloc (.cells #[.bool p.v, .int .u64 p.hi, .int .u64 p.lo, .int .i64 p.b] 27))) := bal (bal (Below.refl _ _) _) _
  have CB : Hid (∀ w : World, Calls Try.prog 12 #[] w fun e w' => e = .returned (.bool true) ∧ Below w.heap.size w w') := sbegun_any
  have CL : Hid (∀ w' : World, Below w.heap.size w w' → Calls Try.prog 7 #[.slice a N c] w' fun e w'' => e = .returned (.int .i64 (slkL ps)) ∧ Below w'.heap.size w' w'') := fun w' h => by rw [hN]; exact clist_any a c ps w' hok (hs.below h)
  have CH : Hid (∀ w' : World, Below w.heap.size w w' → Calls Try.prog 5 #[.slice a N c, .agg #[.bool v, .int .u64 xh, .int .u64 xl]] w' fun e w'' => e = .returned (.tuple #[.bool (sHasB ps v xh xl), .int .i64 (sHasE ps v xh xl)]) ∧ Below w'.heap.size w' w'') := fun w' h => by rw [hN]; exact sHas_any a c ps v xh xl w' hok (hs.below h) x0 x2
  obtain ⟨h12, hR⟩ := slkL_ok hok hr
  rw [hr] at CL
  have e1 : sHasE ps v xh xl = chk v xh xl := by rw [sHasE, if_pos hr]
  have e3 : sMinE ps p = p.chk := by rw [sMinE, if_pos hr]
  have CN : Hid (∀ w' : World, Below w.heap.size w w' → Calls Try.prog 4 #[.slice a N c] w' (NormPost2 w' N (Adr (ps.map Pf.nd)))) := fun w' h => by rw [hN]; exact sNorm_ok a c ps w' hok (hs.below h) hr
  have CA : Hid (∀ w' : World, Calls Try.prog 8 #[.agg #[.bool v, .int .u64 xh, .int .u64 xl]] w' fun e w'' => e = .returned (.int .i64 (chk v xh xl)) ∧ Below w'.heap.size w' w'') := fun w' => rcheck_any v xh xl w' x0 x2
  have CC : Hid (∀ w' : World, Calls Try.prog 9 #[.agg #[.bool p.v, .int .u64 p.hi, .int .u64 p.lo, .int .i64 p.b]] w' fun e w'' => e = .returned (.int .i64 p.chk) ∧ Below w'.heap.size w' w'') := fun w' => rpcheck_pf p w' hp
  have CO : Hid (∀ w' : World, Below w.heap.size w w' → Calls Try.prog 10 #[.slice a N c, .slice none 0 0] w' fun e w'' => ∃ v M, e = .returned v ∧ w''.ownsRow w'.heap.size 27 4 v M.length (flat M) ∧ IsNorm M (Adr (ps.map Pf.nd)) ∧ M.length ≤ 10000 ∧ Below w'.heap.size w' w'') := fun w' h => by
    rw [hN]
    refine (normOf_any ps [] a none c 0 w' hR (by simp) h12 (by simp) (hs.below h) (fun j hj => by simp at hj)).mono ?_
    rintro e w'' ⟨v, M, h1, h2, h3, h4, h5⟩
    exact ⟨v, M, h1, h2, h3.of fun v x => ⟨fun h => h.1, fun h => ⟨h, adr_nil⟩⟩, h4, h5⟩
  have e2 : sHasB ps v xh xl = hasL ps v xh xl := by rw [sHasB, e1, if_pos ha]
  rw [e1, e2, ha] at CH
  rw [ha] at CA
  have q : Right v xh xl (wid v) := host_right ha x0 x1 x2 x3
  have CI : Hid (∀ (x : Pf) (w' : World), x.R → Calls Try.prog 11 #[.agg #[.bool x.v, .int .u64 x.hi, .int .u64 x.lo, .int .i64 x.b], .agg #[.bool v, .int .u64 xh, .int .u64 xl]] w' fun e w'' => e = .returned (.bool (x.inA v xh xl)) ∧ Below w'.heap.size w' w'') := fun x w' r => rhasA_any x v xh xl w' r q
  clear e2 q
  have rp : p.R := (right_iff _ _ _ _ hp.1 hp.2.1 hp.2.2.1 hp.2.2.2).1 hq
  rw [hq] at CC
  have CM : Hid (∀ w' : World, Below w.heap.size w w' → Calls Try.prog 6 #[.slice a N c, .agg #[.bool p.v, .int .u64 p.hi, .int .u64 p.lo, .int .i64 p.b]] w' (NormPost2 w' 1548 (fun v x => Adr (ps.map Pf.nd) v x ∧ ¬ p.nd.In v x))) := fun w' h => by rw [hN]; exact sMinus_ok a c ps p w' hok hp (hs.below h) (by rw [e3]; exact hq)
  have CO2 : Hid (∀ (g : Nat) (w' : World), Below w.heap.size w w' → Sl w' (some ⟨g, 0, none⟩) [p] → Calls Try.prog 10 #[.slice a N c, .slice (some ⟨g, 0, none⟩) 1 1] w' fun e w'' => ∃ v M, e = .returned v ∧ w''.ownsRow w'.heap.size 27 4 v M.length (flat M) ∧ IsNorm M (fun v x => Adr (ps.map Pf.nd) v x ∧ ¬ p.nd.In v x) ∧ M.length ≤ 10000 ∧ Below w'.heap.size w' w'') := fun g w' h h' => by
    rw [hN]
    refine (normOf_any ps [p] a (some ⟨g, 0, none⟩) c 1 w' hR (fun o ho => by simp at ho; subst ho; exact rp) h12 (by simp) (hs.below h) h').mono ?_
    rintro e w'' ⟨v, M, h1, h2, h3, h4, h5⟩
    exact ⟨v, M, h1, h2, h3.of fun v x => by rw [List.map_cons, List.map_nil, adr_one], h4, h5⟩
  clear rp
  have HR := Lib.hid hR
  have Hs := Lib.hid hs
  have HN := Lib.hid hN
  have hr0 : Hid (hasL ps v xh xl = hasL ps v xh xl) := rfl
  clear e1 e3 hok hs hr hp hN x0 x1 x2 x3 hR ha hq
  go_enter Try.func3, Try.ntmps3
  obtain ⟨a0, a1, a2, a3⟩ := HA.out
  obtain ⟨p0, p1, p2, p3, p4⟩ := HP.out
  go_wp2_with fail
  refine (CN.out _ HB.out).mono ?_
  rintro e w1 ⟨v1, M1, rfl, o1, i1, _, hb⟩
  clear a0 a1 a2 a3 p0 p1 p2 p3 p4
  replace HA := Lib.hid (HA.out.below hb)
  replace HP := Lib.hid (HP.out.below hb)
  replace HB := Lib.hid (btr HB.out hb)
  obtain ⟨r1, c1, rfl, _, s1⟩ := own_sl o1
  have L1 := Lib.hid s1
  have I1 := Lib.hid i1
  clear o1 i1 s1
  clear hb
  obtain ⟨a0, a1, a2, a3⟩ := HA.out
  obtain ⟨p0, p1, p2, p3, p4⟩ := HP.out
  go_wp2_with fail
  refine (CH.out _ HB.out).mono ?_
  rintro e w2 ⟨rfl, hb⟩
  clear a0 a1 a2 a3 p0 p1 p2 p3 p4
  replace HA := Lib.hid (HA.out.below hb)
  replace HP := Lib.hid (HP.out.below hb)
  replace HB := Lib.hid (btr HB.out hb)
  replace L1 := Lib.hid (L1.out.below hb)
  clear hb
  obtain ⟨a0, a1, a2, a3⟩ := HA.out
  obtain ⟨p0, p1, p2, p3, p4⟩ := HP.out
  go_wp2_with fail
  refine (CM.out _ HB.out).mono ?_
  rintro e w3 ⟨v3, M3, rfl, o3, i3, _, hb⟩
  clear a0 a1 a2 a3 p0 p1 p2 p3 p4
  replace HA := Lib.hid (HA.out.below hb)
  replace HP := Lib.hid (HP.out.below hb)
  replace HB := Lib.hid (btr HB.out hb)
  replace L1 := Lib.hid (L1.out.below hb)
  obtain ⟨r3, c3, rfl, _, s3⟩ := own_sl o3
  have L3 := Lib.hid s3
  have I3 := Lib.hid i3
  clear o3 i3 s3
  clear hb
  obtain ⟨a0, a1, a2, a3⟩ := HA.out
  obtain ⟨p0, p1, p2, p3, p4⟩ := HP.out
  go_wp2_with fail
  refine (CL.out _ HB.out).mono ?_
  rintro e w4 ⟨rfl, hb⟩
  clear a0 a1 a2 a3 p0 p1 p2 p3 p4
  replace HA := Lib.hid (HA.out.below hb)
  replace HP := Lib.hid (HP.out.below hb)
  replace HB := Lib.hid (btr HB.out hb)
  replace L1 := Lib.hid (L1.out.below hb)
  replace L3 := Lib.hid (L3.out.below hb)
  clear hb
  obtain ⟨a0, a1, a2, a3⟩ := HA.out
  obtain ⟨p0, p1, p2, p3, p4⟩ := HP.out
  go_wp2_with fail
  refine (CA.out _).mono ?_
  rintro e w5 ⟨rfl, hb⟩
  clear a0 a1 a2 a3 p0 p1 p2 p3 p4
  replace HA := Lib.hid (HA.out.below hb)
  replace HP := Lib.hid (HP.out.below hb)
  replace HB := Lib.hid (btr HB.out hb)
  replace L1 := Lib.hid (L1.out.below hb)
  replace L3 := Lib.hid (L3.out.below hb)
  clear hb
  obtain ⟨a0, a1, a2, a3⟩ := HA.out
  obtain ⟨p0, p1, p2, p3, p4⟩ := HP.out
  go_wp2_with fail
  refine (CC.out _).mono ?_
  rintro e w6 ⟨rfl, hb⟩
  clear a0 a1 a2 a3 p0 p1 p2 p3 p4
  replace HA := Lib.hid (HA.out.below hb)
  replace HP := Lib.hid (HP.out.below hb)
  replace HB := Lib.hid (btr HB.out hb)
  replace L1 := Lib.hid (L1.out.below hb)
  replace L3 := Lib.hid (L3.out.below hb)
  clear hb
  obtain ⟨a0, a1, a2, a3⟩ := HA.out
  obtain ⟨p0, p1, p2, p3, p4⟩ := HP.out
  go_wp2_with fail
  refine (CO.out _ HB.out).mono ?_
  rintro e w7 ⟨v2, M2, rfl, o2, i2, l2, hb⟩
  clear a0 a1 a2 a3 p0 p1 p2 p3 p4
  replace HA := Lib.hid (HA.out.below hb)
  replace HP := Lib.hid (HP.out.below hb)
  replace HB := Lib.hid (btr HB.out hb)
  replace L1 := Lib.hid (L1.out.below hb)
  replace L3 := Lib.hid (L3.out.below hb)
  obtain ⟨r2, c2, rfl, _, s2⟩ := own_sl o2
  have L2 := Lib.hid s2
  have E12 := i2.uniq I1.out
  subst E12
  have K2 := Lib.hid l2
  clear o2 i2 s2 I1 l2
  clear hb
  obtain ⟨a0, a1, a2, a3⟩ := HA.out
  obtain ⟨p0, p1, p2, p3, p4⟩ := HP.out
  go_wp2_with fail
  refine (CO2.out _ _ (bal HB.out _) (sl_one w7 p)).mono ?_
  rintro e w8 ⟨v4, M4, rfl, o4, i4, l4, hb4⟩
  clear a0 a1 a2 a3 p0 p1 p2 p3 p4
  have hb : Below w7.heap.size w7 w8 := btr (bal (Below.refl _ _) _) hb4
  replace HA := Lib.hid (HA.out.below hb)
  replace HP := Lib.hid (HP.out.below hb)
  replace HB := Lib.hid (btr HB.out hb)
  replace L1 := Lib.hid (L1.out.below hb)
  replace L3 := Lib.hid (L3.out.below hb)
  replace L2 := Lib.hid (L2.out.below hb)
  obtain ⟨r4, c4, rfl, _, s4⟩ := own_sl o4
  have L4 := Lib.hid s4
  have E34 := i4.uniq I3.out
  subst E34
  have K4 := Lib.hid l4
  clear o4 i4 s4 I3 l4 hb hb4
  clear HP
  go_wp2_with fail
  go_loopw [18, 19] (fun vs vi wr => ∃ k : Nat, vi = .int .i64 k ∧ k ≤ N ∧ vs = .bool (hasL (ps.take k) v xh xl) ∧ Hid (Has3 wr w.heap.size (.bool v) (.int .u64 xh) (.int .u64 xl)) ∧ Hid (Below w.heap.size w wr) ∧ Hid (Sl wr r1 M2) ∧ Hid (Sl wr r3 M4) ∧ Hid (Sl wr r2 M2) ∧ Hid (Sl wr r4 M4))
    (fun _ vi _ => N - (intOf vi).toNat)
  case atStart => exact ⟨0, rfl, Nat.zero_le _, rfl, HA, HB, L1, L3, L2, L4⟩
  case round =>
    clear HA HB L1 L3 L2 L4
    obtain ⟨k, rfl, hk, rfl, HA, HB, L1, L3, L2, L4⟩ := hrel
    have hN := HN.out
    by_cases hkN : k < N
    · have hkl : k < ps.length := by omega
      obtain ⟨g, o, rfl, hg, d0, d1, d2, d3⟩ := Hs.out k hkl
      rw [← (bcell HB.out).1 _ _ hg] at d0 d1 d2 d3
      have hgr : g < wr.heap.size := Nat.lt_of_lt_of_le hg HB.out.size
      have E1 : Hid (hasL (ps.take (k + 1)) v xh xl = (hasL (ps.take k) v xh xl || (ps[k]).inA v xh xl)) := Lib.hid (by unfold hasL; rw [List.take_succ_eq_append_getElem hkl, List.any_append]; simp)
      have hx := HR.out _ (List.getElem_mem hkl)
      have CX := Lib.hid (fun w' => CI.out ps[k] w' hx)
      have k3 : (k : Int) < (N : Int) := by omega
      have k4 : (0 : Int) ≤ (k : Int) := by omega
      generalize (ps[k]).inA v xh xl = y1 at *
      generalize ps[k] = x at *
      have HS : Hid ((wr.cell? ⟨w.heap.size, 0, none⟩ = some (.bool v) ∧ wr.cell? ⟨w.heap.size, 1, none⟩ = some (.int .u64 xh) ∧ wr.cell? ⟨w.heap.size, 2, none⟩ = some (.int .u64 xl) ∧ w.heap.size < wr.heap.size) ∧ (wr.cell? ⟨g, o + k * 4, none⟩ = some (.bool x.v) ∧ wr.cell? ⟨g, o + k * 4 + 1, none⟩ = some (.int .u64 x.hi) ∧ wr.cell? ⟨g, o + k * 4 + 2, none⟩ = some (.int .u64 x.lo) ∧ wr.cell? ⟨g, o + k * 4 + 3, none⟩ = some (.int .i64 x.b) ∧ g < wr.heap.size) ∧ Below w.heap.size w wr) := ⟨HA.out, ⟨d0, d1, d2, d3, hgr⟩, HB.out⟩
      generalize hasL (ps.take k) v xh xl = b1 at *
      clear hN hx hgr HA HB d0 d1 d2 d3
      cases b1
      · go_wp2_with fail
        have HSd := Lib.hid (keepA HS.out (Below.refl _ _).drew)
        go_region_held3 (fun w' => (w'.cell? ⟨w.heap.size, 0, none⟩ = some (.bool v) ∧ w'.cell? ⟨w.heap.size, 1, none⟩ = some (.int .u64 xh) ∧ w'.cell? ⟨w.heap.size, 2, none⟩ = some (.int .u64 xl) ∧ w.heap.size < w'.heap.size) ∧ (w'.cell? ⟨g, o + k * 4, none⟩ = some (.bool x.v) ∧ w'.cell? ⟨g, o + k * 4 + 1, none⟩ = some (.int .u64 x.hi) ∧ w'.cell? ⟨g, o + k * 4 + 2, none⟩ = some (.int .u64 x.lo) ∧ w'.cell? ⟨g, o + k * 4 + 3, none⟩ = some (.int .i64 x.b) ∧ g < w'.heap.size) ∧ Below w.heap.size w w')
          (first | with_reducible exact HSd.out | with_reducible exact HSe.out | fail)
          ((go_at_call 11; refine (CX.out _).mono ?_; rintro e wx ⟨rfl, hb⟩; have HSe := Lib.hid (keepA HSd.out hb); replace L1 := Lib.hid ((L1.out.below (Below.refl _ _).drew).below hb); replace L3 := Lib.hid ((L3.out.below (Below.refl _ _).drew).below hb); replace L2 := Lib.hid ((L2.out.below (Below.refl _ _).drew).below hb); replace L4 := Lib.hid ((L4.out.below (Below.refl _ _).drew).below hb); clear hb))
        go_wp2_with fail
        go_roundw
        case rel => exact ⟨k + 1, by go_num, by omega, b_val (by rw [E1.out]; simp), HSe.out.1, HSe.out.2.2, L1, L3, L2, L4⟩
        case measure => simp [intOf]; omega
      · go_wp2_with fail
        go_region
        go_wp2_with fail
        go_roundw
        case rel => exact ⟨k + 1, by go_num, by omega, b_val (by rw [E1.out]; simp), HS.out.1, HS.out.2.2.drew, L1.out.below (Below.refl _ _).drew, L3.out.below (Below.refl _ _).drew, L2.out.below (Below.refl _ _).drew, L4.out.below (Below.refl _ _).drew⟩
        case measure => simp [intOf]; omega
    · obtain rfl : k = N := by omega
      have k3 : decide ((k : Int) < (k : Int)) = false := by simp
      have et : ps.take k = ps := List.take_of_length_le (by omega)
      rw [et]
      clear hN et HA
      generalize hasL ps v xh xl = b1 at *
      have hbb : (b1 == b1) = true := by simp
      go_wp2_with fail
      refine (CB.out _).mono ?_
      rintro e wt1 ⟨rfl, hb⟩
      replace HB := Lib.hid (btr HB.out hb)
      replace L1 := Lib.hid (L1.out.below hb)
      replace L3 := Lib.hid (L3.out.below hb)
      replace L2 := Lib.hid (L2.out.below hb)
      replace L4 := Lib.hid (L4.out.below hb)
      clear hb
      go_wp2_with fail
      refine (pare_ok _ _ _ _ M2 _ (Nat.le_trans K2.out (by decide)) L1.out L2.out).mono ?_
      rintro e wt2 ⟨rfl, hb⟩
      replace HB := Lib.hid (btr HB.out hb)
      replace L1 := Lib.hid (L1.out.below hb)
      replace L3 := Lib.hid (L3.out.below hb)
      replace L2 := Lib.hid (L2.out.below hb)
      replace L4 := Lib.hid (L4.out.below hb)
      clear hb
      go_wp2_with fail
      refine (pare_ok _ _ _ _ M4 _ (Nat.le_trans K4.out (by decide)) L3.out L4.out).mono ?_
      rintro e wt3 ⟨rfl, hb⟩
      replace HB := Lib.hid (btr HB.out hb)
      replace L1 := Lib.hid (L1.out.below hb)
      replace L3 := Lib.hid (L3.out.below hb)
      replace L2 := Lib.hid (L2.out.below hb)
      replace L4 := Lib.hid (L4.out.below hb)
      clear hb
      go_wp2
      go_ret
      exact ⟨rfl, HB.out⟩

set_option maxHeartbeats 32000000 in
set_option maxRecDepth 100000 in
theorem st_01 (a : Option Addr) (c N : Nat) (ps : List Pf) (v : Bool) (xh xl : Int) (p : Pf) (w : World) (hN : N = ps.length) (hok : ∀ p ∈ ps, p.Ok) (hp : p.Ok) (hs : Sl w a ps) (x0 : 0 ≤ xh) (x1 : xh < 18446744073709551616) (x2 : 0 ≤ xl) (x3 : xl < 18446744073709551616) (hr : slkL ps = 0) (ha : chk v xh xl = 0) (hq : p.chk ≠ 0) :
    Calls Try.prog 3 #[.slice a N c, .agg #[.bool v, .int .u64 xh, .int .u64 xl], .agg #[.bool p.v, .int .u64 p.hi, .int .u64 p.lo, .int .i64 p.b]] w fun e w' => e = .returned (.bool true) ∧ Below w.heap.size w w' := by
  have HA : Hid (Has3 ((w.alloc (.cells #[.bool v, .int .u64 xh, .int .u64 xl] 25)).alloc (.cells #[.bool p.v, .int .u64 p.hi, .int .u64 p.lo, .int .i64 p.b] 27)) w.heap.size (.bool v) (.int .u64 xh) (.int .u64 xl)) := (Has3.new w (.bool v) (.int .u64 xh) (.int .u64 xl) 25).alloc _
  have HP : Hid (Has4 ((w.alloc (.cells #[.bool v, .int .u64 xh, .int .u64 xl] 25)).alloc (.cells #[.bool p.v, .int .u64 p.hi, .int .u64 p.lo, .int .i64 p.b] 27)) (w.heap.size + 1) p.v p.hi p.lo p.b) := by
    have := Has4.new (w.alloc (.cells #[.bool v, .int .u64 xh, .int .u64 xl] 25)) p.v p.hi p.lo p.b 27
    rw [show (w.alloc (.cells #[.bool v, .int .u64 xh, .int .u64 xl] 25)).heap.size = w.heap.size + 1 by simp] at this
    exact this
  have HB : Hid (Below w.heap.size w ((w.alloc (.cells #[.bool v, .int .u64 xh, .int .u64 xl] 25)).alloc (.cells #[.bool p.v, .int .u64 p.hi, .int .u64 p.lo, .int .i64 p.b] 27))) := bal (bal (Below.refl _ _) _) _
  have CB : Hid (∀ w : World, Calls Try.prog 12 #[] w fun e w' => e = .returned (.bool true) ∧ Below w.heap.size w w') := sbegun_any
  have CL : Hid (∀ w' : World, Below w.heap.size w w' → Calls Try.prog 7 #[.slice a N c] w' fun e w'' => e = .returned (.int .i64 (slkL ps)) ∧ Below w'.heap.size w' w'') := fun w' h => by rw [hN]; exact clist_any a c ps w' hok (hs.below h)
  have CH : Hid (∀ w' : World, Below w.heap.size w w' → Calls Try.prog 5 #[.slice a N c, .agg #[.bool v, .int .u64 xh, .int .u64 xl]] w' fun e w'' => e = .returned (.tuple #[.bool (sHasB ps v xh xl), .int .i64 (sHasE ps v xh xl)]) ∧ Below w'.heap.size w' w'') := fun w' h => by rw [hN]; exact sHas_any a c ps v xh xl w' hok (hs.below h) x0 x2
  obtain ⟨h12, hR⟩ := slkL_ok hok hr
  rw [hr] at CL
  have e1 : sHasE ps v xh xl = chk v xh xl := by rw [sHasE, if_pos hr]
  have e3 : sMinE ps p = p.chk := by rw [sMinE, if_pos hr]
  have CN : Hid (∀ w' : World, Below w.heap.size w w' → Calls Try.prog 4 #[.slice a N c] w' (NormPost2 w' N (Adr (ps.map Pf.nd)))) := fun w' h => by rw [hN]; exact sNorm_ok a c ps w' hok (hs.below h) hr
  have CA : Hid (∀ w' : World, Calls Try.prog 8 #[.agg #[.bool v, .int .u64 xh, .int .u64 xl]] w' fun e w'' => e = .returned (.int .i64 (chk v xh xl)) ∧ Below w'.heap.size w' w'') := fun w' => rcheck_any v xh xl w' x0 x2
  have CC : Hid (∀ w' : World, Calls Try.prog 9 #[.agg #[.bool p.v, .int .u64 p.hi, .int .u64 p.lo, .int .i64 p.b]] w' fun e w'' => e = .returned (.int .i64 p.chk) ∧ Below w'.heap.size w' w'') := fun w' => rpcheck_pf p w' hp
  have CO : Hid (∀ w' : World, Below w.heap.size w w' → Calls Try.prog 10 #[.slice a N c, .slice none 0 0] w' fun e w'' => ∃ v M, e = .returned v ∧ w''.ownsRow w'.heap.size 27 4 v M.length (flat M) ∧ IsNorm M (Adr (ps.map Pf.nd)) ∧ M.length ≤ 10000 ∧ Below w'.heap.size w' w'') := fun w' h => by
    rw [hN]
    refine (normOf_any ps [] a none c 0 w' hR (by simp) h12 (by simp) (hs.below h) (fun j hj => by simp at hj)).mono ?_
    rintro e w'' ⟨v, M, h1, h2, h3, h4, h5⟩
    exact ⟨v, M, h1, h2, h3.of fun v x => ⟨fun h => h.1, fun h => ⟨h, adr_nil⟩⟩, h4, h5⟩
  have e2 : sHasB ps v xh xl = hasL ps v xh xl := by rw [sHasB, e1, if_pos ha]
  rw [e1, e2, ha] at CH
  rw [ha] at CA
  have q : Right v xh xl (wid v) := host_right ha x0 x1 x2 x3
  have CI : Hid (∀ (x : Pf) (w' : World), x.R → Calls Try.prog 11 #[.agg #[.bool x.v, .int .u64 x.hi, .int .u64 x.lo, .int .i64 x.b], .agg #[.bool v, .int .u64 xh, .int .u64 xl]] w' fun e w'' => e = .returned (.bool (x.inA v xh xl)) ∧ Below w'.heap.size w' w'') := fun x w' r => rhasA_any x v xh xl w' r q
  clear e2 q
  have hIp : (p.chk == 0) = false := by rw [beq_eq_false_iff_ne]; exact hq
  have CM : Hid (∀ w' : World, Below w.heap.size w w' → Calls Try.prog 6 #[.slice a N c, .agg #[.bool p.v, .int .u64 p.hi, .int .u64 p.lo, .int .i64 p.b]] w' fun e w'' => e = .returned (.tuple #[.slice none 0 0, .int .i64 p.chk]) ∧ Below w'.heap.size w' w'') := fun w' h => by rw [hN, ← e3]; exact sMinus_bad a c ps p w' hok hp (hs.below h) (by rw [e3]; exact hq)
  have CP2 : Hid (∀ w' : World, Calls Try.prog 13 #[.slice none 0 0, .int .i64 p.chk, .int .i64 p.chk, .slice none 0 0] w' fun e w'' => e = .returned (.bool true) ∧ Below w'.heap.size w' w'') := fun w' => pare_err _ _ w' (by rw [bne_iff_ne]; exact hq)
  have HR := Lib.hid hR
  have Hs := Lib.hid hs
  have HN := Lib.hid hN
  have hr0 : Hid (hasL ps v xh xl = hasL ps v xh xl) := rfl
  generalize p.chk = rq at *
  clear e1 e3 hok hs hr hp hN x0 x1 x2 x3 hR ha hq
  go_enter Try.func3, Try.ntmps3
  obtain ⟨a0, a1, a2, a3⟩ := HA.out
  obtain ⟨p0, p1, p2, p3, p4⟩ := HP.out
  go_wp2_with fail
  refine (CN.out _ HB.out).mono ?_
  rintro e w1 ⟨v1, M1, rfl, o1, i1, _, hb⟩
  clear a0 a1 a2 a3 p0 p1 p2 p3 p4
  replace HA := Lib.hid (HA.out.below hb)
  replace HP := Lib.hid (HP.out.below hb)
  replace HB := Lib.hid (btr HB.out hb)
  obtain ⟨r1, c1, rfl, _, s1⟩ := own_sl o1
  have L1 := Lib.hid s1
  have I1 := Lib.hid i1
  clear o1 i1 s1
  clear hb
  obtain ⟨a0, a1, a2, a3⟩ := HA.out
  obtain ⟨p0, p1, p2, p3, p4⟩ := HP.out
  go_wp2_with fail
  refine (CH.out _ HB.out).mono ?_
  rintro e w2 ⟨rfl, hb⟩
  clear a0 a1 a2 a3 p0 p1 p2 p3 p4
  replace HA := Lib.hid (HA.out.below hb)
  replace HP := Lib.hid (HP.out.below hb)
  replace HB := Lib.hid (btr HB.out hb)
  replace L1 := Lib.hid (L1.out.below hb)
  clear hb
  obtain ⟨a0, a1, a2, a3⟩ := HA.out
  obtain ⟨p0, p1, p2, p3, p4⟩ := HP.out
  go_wp2_with fail
  refine (CM.out _ HB.out).mono ?_
  rintro e w3 ⟨rfl, hb⟩
  clear a0 a1 a2 a3 p0 p1 p2 p3 p4
  replace HA := Lib.hid (HA.out.below hb)
  replace HP := Lib.hid (HP.out.below hb)
  replace HB := Lib.hid (btr HB.out hb)
  replace L1 := Lib.hid (L1.out.below hb)
  clear hb
  obtain ⟨a0, a1, a2, a3⟩ := HA.out
  obtain ⟨p0, p1, p2, p3, p4⟩ := HP.out
  go_wp2_with fail
  refine (CL.out _ HB.out).mono ?_
  rintro e w4 ⟨rfl, hb⟩
  clear a0 a1 a2 a3 p0 p1 p2 p3 p4
  replace HA := Lib.hid (HA.out.below hb)
  replace HP := Lib.hid (HP.out.below hb)
  replace HB := Lib.hid (btr HB.out hb)
  replace L1 := Lib.hid (L1.out.below hb)
  clear hb
  obtain ⟨a0, a1, a2, a3⟩ := HA.out
  obtain ⟨p0, p1, p2, p3, p4⟩ := HP.out
  go_wp2_with fail
  refine (CA.out _).mono ?_
  rintro e w5 ⟨rfl, hb⟩
  clear a0 a1 a2 a3 p0 p1 p2 p3 p4
  replace HA := Lib.hid (HA.out.below hb)
  replace HP := Lib.hid (HP.out.below hb)
  replace HB := Lib.hid (btr HB.out hb)
  replace L1 := Lib.hid (L1.out.below hb)
  clear hb
  obtain ⟨a0, a1, a2, a3⟩ := HA.out
  obtain ⟨p0, p1, p2, p3, p4⟩ := HP.out
  go_wp2_with fail
  refine (CC.out _).mono ?_
  rintro e w6 ⟨rfl, hb⟩
  clear a0 a1 a2 a3 p0 p1 p2 p3 p4
  replace HA := Lib.hid (HA.out.below hb)
  replace HP := Lib.hid (HP.out.below hb)
  replace HB := Lib.hid (btr HB.out hb)
  replace L1 := Lib.hid (L1.out.below hb)
  clear hb
  obtain ⟨a0, a1, a2, a3⟩ := HA.out
  obtain ⟨p0, p1, p2, p3, p4⟩ := HP.out
  go_wp2_with fail
  refine (CO.out _ HB.out).mono ?_
  rintro e w7 ⟨v2, M2, rfl, o2, i2, l2, hb⟩
  clear a0 a1 a2 a3 p0 p1 p2 p3 p4
  replace HA := Lib.hid (HA.out.below hb)
  replace HP := Lib.hid (HP.out.below hb)
  replace HB := Lib.hid (btr HB.out hb)
  replace L1 := Lib.hid (L1.out.below hb)
  obtain ⟨r2, c2, rfl, _, s2⟩ := own_sl o2
  have L2 := Lib.hid s2
  have E12 := i2.uniq I1.out
  subst E12
  have K2 := Lib.hid l2
  clear o2 i2 s2 I1 l2
  clear hb
  clear HP
  go_wp2_with fail
  go_loopw [18, 19] (fun vs vi wr => ∃ k : Nat, vi = .int .i64 k ∧ k ≤ N ∧ vs = .bool (hasL (ps.take k) v xh xl) ∧ Hid (Has3 wr w.heap.size (.bool v) (.int .u64 xh) (.int .u64 xl)) ∧ Hid (Below w.heap.size w wr) ∧ Hid (Sl wr r1 M2) ∧ Hid (Sl wr r2 M2))
    (fun _ vi _ => N - (intOf vi).toNat)
  case atStart => exact ⟨0, rfl, Nat.zero_le _, rfl, HA, HB, L1, L2⟩
  case round =>
    clear HA HB L1 L2
    obtain ⟨k, rfl, hk, rfl, HA, HB, L1, L2⟩ := hrel
    have hN := HN.out
    by_cases hkN : k < N
    · have hkl : k < ps.length := by omega
      obtain ⟨g, o, rfl, hg, d0, d1, d2, d3⟩ := Hs.out k hkl
      rw [← (bcell HB.out).1 _ _ hg] at d0 d1 d2 d3
      have hgr : g < wr.heap.size := Nat.lt_of_lt_of_le hg HB.out.size
      have E1 : Hid (hasL (ps.take (k + 1)) v xh xl = (hasL (ps.take k) v xh xl || (ps[k]).inA v xh xl)) := Lib.hid (by unfold hasL; rw [List.take_succ_eq_append_getElem hkl, List.any_append]; simp)
      have hx := HR.out _ (List.getElem_mem hkl)
      have CX := Lib.hid (fun w' => CI.out ps[k] w' hx)
      have k3 : (k : Int) < (N : Int) := by omega
      have k4 : (0 : Int) ≤ (k : Int) := by omega
      generalize (ps[k]).inA v xh xl = y1 at *
      generalize ps[k] = x at *
      have HS : Hid ((wr.cell? ⟨w.heap.size, 0, none⟩ = some (.bool v) ∧ wr.cell? ⟨w.heap.size, 1, none⟩ = some (.int .u64 xh) ∧ wr.cell? ⟨w.heap.size, 2, none⟩ = some (.int .u64 xl) ∧ w.heap.size < wr.heap.size) ∧ (wr.cell? ⟨g, o + k * 4, none⟩ = some (.bool x.v) ∧ wr.cell? ⟨g, o + k * 4 + 1, none⟩ = some (.int .u64 x.hi) ∧ wr.cell? ⟨g, o + k * 4 + 2, none⟩ = some (.int .u64 x.lo) ∧ wr.cell? ⟨g, o + k * 4 + 3, none⟩ = some (.int .i64 x.b) ∧ g < wr.heap.size) ∧ Below w.heap.size w wr) := ⟨HA.out, ⟨d0, d1, d2, d3, hgr⟩, HB.out⟩
      generalize hasL (ps.take k) v xh xl = b1 at *
      clear hN hx hgr HA HB d0 d1 d2 d3
      cases b1
      · go_wp2_with fail
        have HSd := Lib.hid (keepA HS.out (Below.refl _ _).drew)
        go_region_held3 (fun w' => (w'.cell? ⟨w.heap.size, 0, none⟩ = some (.bool v) ∧ w'.cell? ⟨w.heap.size, 1, none⟩ = some (.int .u64 xh) ∧ w'.cell? ⟨w.heap.size, 2, none⟩ = some (.int .u64 xl) ∧ w.heap.size < w'.heap.size) ∧ (w'.cell? ⟨g, o + k * 4, none⟩ = some (.bool x.v) ∧ w'.cell? ⟨g, o + k * 4 + 1, none⟩ = some (.int .u64 x.hi) ∧ w'.cell? ⟨g, o + k * 4 + 2, none⟩ = some (.int .u64 x.lo) ∧ w'.cell? ⟨g, o + k * 4 + 3, none⟩ = some (.int .i64 x.b) ∧ g < w'.heap.size) ∧ Below w.heap.size w w')
          (first | with_reducible exact HSd.out | with_reducible exact HSe.out | fail)
          ((go_at_call 11; refine (CX.out _).mono ?_; rintro e wx ⟨rfl, hb⟩; have HSe := Lib.hid (keepA HSd.out hb); replace L1 := Lib.hid ((L1.out.below (Below.refl _ _).drew).below hb); replace L2 := Lib.hid ((L2.out.below (Below.refl _ _).drew).below hb); clear hb))
        go_wp2_with fail
        go_roundw
        case rel => exact ⟨k + 1, by go_num, by omega, b_val (by rw [E1.out]; simp), HSe.out.1, HSe.out.2.2, L1, L2⟩
        case measure => simp [intOf]; omega
      · go_wp2_with fail
        go_region
        go_wp2_with fail
        go_roundw
        case rel => exact ⟨k + 1, by go_num, by omega, b_val (by rw [E1.out]; simp), HS.out.1, HS.out.2.2.drew, L1.out.below (Below.refl _ _).drew, L2.out.below (Below.refl _ _).drew⟩
        case measure => simp [intOf]; omega
    · obtain rfl : k = N := by omega
      have k3 : decide ((k : Int) < (k : Int)) = false := by simp
      have et : ps.take k = ps := List.take_of_length_le (by omega)
      rw [et]
      clear hN et HA
      generalize hasL ps v xh xl = b1 at *
      have hbb : (b1 == b1) = true := by simp
      go_wp2_with fail
      refine (CB.out _).mono ?_
      rintro e wt1 ⟨rfl, hb⟩
      replace HB := Lib.hid (btr HB.out hb)
      replace L1 := Lib.hid (L1.out.below hb)
      replace L2 := Lib.hid (L2.out.below hb)
      clear hb
      go_wp2_with fail
      refine (pare_ok _ _ _ _ M2 _ (Nat.le_trans K2.out (by decide)) L1.out L2.out).mono ?_
      rintro e wt2 ⟨rfl, hb⟩
      replace HB := Lib.hid (btr HB.out hb)
      replace L1 := Lib.hid (L1.out.below hb)
      replace L2 := Lib.hid (L2.out.below hb)
      clear hb
      go_wp2_with fail
      refine (CP2.out _).mono ?_
      rintro e wt3 ⟨rfl, hb⟩
      replace HB := Lib.hid (btr HB.out hb)
      replace L1 := Lib.hid (L1.out.below hb)
      replace L2 := Lib.hid (L2.out.below hb)
      clear hb
      go_wp2
      go_ret
      exact ⟨rfl, HB.out⟩

set_option maxHeartbeats 32000000 in
set_option maxRecDepth 100000 in
theorem st_10 (a : Option Addr) (c N : Nat) (ps : List Pf) (v : Bool) (xh xl : Int) (p : Pf) (w : World) (hN : N = ps.length) (hok : ∀ p ∈ ps, p.Ok) (hp : p.Ok) (hs : Sl w a ps) (x0 : 0 ≤ xh) (x1 : xh < 18446744073709551616) (x2 : 0 ≤ xl) (x3 : xl < 18446744073709551616) (hr : slkL ps = 0) (ha : chk v xh xl ≠ 0) (hq : p.chk = 0) :
    Calls Try.prog 3 #[.slice a N c, .agg #[.bool v, .int .u64 xh, .int .u64 xl], .agg #[.bool p.v, .int .u64 p.hi, .int .u64 p.lo, .int .i64 p.b]] w fun e w' => e = .returned (.bool true) ∧ Below w.heap.size w w' := by
  have HA : Hid (Has3 ((w.alloc (.cells #[.bool v, .int .u64 xh, .int .u64 xl] 25)).alloc (.cells #[.bool p.v, .int .u64 p.hi, .int .u64 p.lo, .int .i64 p.b] 27)) w.heap.size (.bool v) (.int .u64 xh) (.int .u64 xl)) := (Has3.new w (.bool v) (.int .u64 xh) (.int .u64 xl) 25).alloc _
  have HP : Hid (Has4 ((w.alloc (.cells #[.bool v, .int .u64 xh, .int .u64 xl] 25)).alloc (.cells #[.bool p.v, .int .u64 p.hi, .int .u64 p.lo, .int .i64 p.b] 27)) (w.heap.size + 1) p.v p.hi p.lo p.b) := by
    have := Has4.new (w.alloc (.cells #[.bool v, .int .u64 xh, .int .u64 xl] 25)) p.v p.hi p.lo p.b 27
    rw [show (w.alloc (.cells #[.bool v, .int .u64 xh, .int .u64 xl] 25)).heap.size = w.heap.size + 1 by simp] at this
    exact this
  have HB : Hid (Below w.heap.size w ((w.alloc (.cells #[.bool v, .int .u64 xh, .int .u64 xl] 25)).alloc (.cells #[.bool p.v, .int .u64 p.hi, .int .u64 p.lo, .int .i64 p.b] 27))) := bal (bal (Below.refl _ _) _) _
  have CB : Hid (∀ w : World, Calls Try.prog 12 #[] w fun e w' => e = .returned (.bool true) ∧ Below w.heap.size w w') := sbegun_any
  have CL : Hid (∀ w' : World, Below w.heap.size w w' → Calls Try.prog 7 #[.slice a N c] w' fun e w'' => e = .returned (.int .i64 (slkL ps)) ∧ Below w'.heap.size w' w'') := fun w' h => by rw [hN]; exact clist_any a c ps w' hok (hs.below h)
  have CH : Hid (∀ w' : World, Below w.heap.size w w' → Calls Try.prog 5 #[.slice a N c, .agg #[.bool v, .int .u64 xh, .int .u64 xl]] w' fun e w'' => e = .returned (.tuple #[.bool (sHasB ps v xh xl), .int .i64 (sHasE ps v xh xl)]) ∧ Below w'.heap.size w' w'') := fun w' h => by rw [hN]; exact sHas_any a c ps v xh xl w' hok (hs.below h) x0 x2
  obtain ⟨h12, hR⟩ := slkL_ok hok hr
  rw [hr] at CL
  have e1 : sHasE ps v xh xl = chk v xh xl := by rw [sHasE, if_pos hr]
  have e3 : sMinE ps p = p.chk := by rw [sMinE, if_pos hr]
  have CN : Hid (∀ w' : World, Below w.heap.size w w' → Calls Try.prog 4 #[.slice a N c] w' (NormPost2 w' N (Adr (ps.map Pf.nd)))) := fun w' h => by rw [hN]; exact sNorm_ok a c ps w' hok (hs.below h) hr
  have CA : Hid (∀ w' : World, Calls Try.prog 8 #[.agg #[.bool v, .int .u64 xh, .int .u64 xl]] w' fun e w'' => e = .returned (.int .i64 (chk v xh xl)) ∧ Below w'.heap.size w' w'') := fun w' => rcheck_any v xh xl w' x0 x2
  have CC : Hid (∀ w' : World, Calls Try.prog 9 #[.agg #[.bool p.v, .int .u64 p.hi, .int .u64 p.lo, .int .i64 p.b]] w' fun e w'' => e = .returned (.int .i64 p.chk) ∧ Below w'.heap.size w' w'') := fun w' => rpcheck_pf p w' hp
  have CO : Hid (∀ w' : World, Below w.heap.size w w' → Calls Try.prog 10 #[.slice a N c, .slice none 0 0] w' fun e w'' => ∃ v M, e = .returned v ∧ w''.ownsRow w'.heap.size 27 4 v M.length (flat M) ∧ IsNorm M (Adr (ps.map Pf.nd)) ∧ M.length ≤ 10000 ∧ Below w'.heap.size w' w'') := fun w' h => by
    rw [hN]
    refine (normOf_any ps [] a none c 0 w' hR (by simp) h12 (by simp) (hs.below h) (fun j hj => by simp at hj)).mono ?_
    rintro e w'' ⟨v, M, h1, h2, h3, h4, h5⟩
    exact ⟨v, M, h1, h2, h3.of fun v x => ⟨fun h => h.1, fun h => ⟨h, adr_nil⟩⟩, h4, h5⟩
  have e2 : sHasB ps v xh xl = false := by rw [sHasB, e1, if_neg ha]
  rw [e1, e2] at CH
  have hIa : (chk v xh xl == 0) = false := by rw [beq_eq_false_iff_ne]; exact ha
  have haa : (chk v xh xl == chk v xh xl) = true := by simp
  clear e2
  have rp : p.R := (right_iff _ _ _ _ hp.1 hp.2.1 hp.2.2.1 hp.2.2.2).1 hq
  rw [hq] at CC
  have CM : Hid (∀ w' : World, Below w.heap.size w w' → Calls Try.prog 6 #[.slice a N c, .agg #[.bool p.v, .int .u64 p.hi, .int .u64 p.lo, .int .i64 p.b]] w' (NormPost2 w' 1548 (fun v x => Adr (ps.map Pf.nd) v x ∧ ¬ p.nd.In v x))) := fun w' h => by rw [hN]; exact sMinus_ok a c ps p w' hok hp (hs.below h) (by rw [e3]; exact hq)
  have CO2 : Hid (∀ (g : Nat) (w' : World), Below w.heap.size w w' → Sl w' (some ⟨g, 0, none⟩) [p] → Calls Try.prog 10 #[.slice a N c, .slice (some ⟨g, 0, none⟩) 1 1] w' fun e w'' => ∃ v M, e = .returned v ∧ w''.ownsRow w'.heap.size 27 4 v M.length (flat M) ∧ IsNorm M (fun v x => Adr (ps.map Pf.nd) v x ∧ ¬ p.nd.In v x) ∧ M.length ≤ 10000 ∧ Below w'.heap.size w' w'') := fun g w' h h' => by
    rw [hN]
    refine (normOf_any ps [p] a (some ⟨g, 0, none⟩) c 1 w' hR (fun o ho => by simp at ho; subst ho; exact rp) h12 (by simp) (hs.below h) h').mono ?_
    rintro e w'' ⟨v, M, h1, h2, h3, h4, h5⟩
    exact ⟨v, M, h1, h2, h3.of fun v x => by rw [List.map_cons, List.map_nil, adr_one], h4, h5⟩
  clear rp
  have HR := Lib.hid hR
  have Hs := Lib.hid hs
  have HN := Lib.hid hN
  have hr0 : Hid (hasL ps v xh xl = hasL ps v xh xl) := rfl
  generalize chk v xh xl = ra at *
  clear e1 e3 hok hs hr hp hN x0 x1 x2 x3 hR ha hq
  go_enter Try.func3, Try.ntmps3
  obtain ⟨a0, a1, a2, a3⟩ := HA.out
  obtain ⟨p0, p1, p2, p3, p4⟩ := HP.out
  go_wp2_with fail
  refine (CN.out _ HB.out).mono ?_
  rintro e w1 ⟨v1, M1, rfl, o1, i1, _, hb⟩
  clear a0 a1 a2 a3 p0 p1 p2 p3 p4
  replace HA := Lib.hid (HA.out.below hb)
  replace HP := Lib.hid (HP.out.below hb)
  replace HB := Lib.hid (btr HB.out hb)
  obtain ⟨r1, c1, rfl, _, s1⟩ := own_sl o1
  have L1 := Lib.hid s1
  have I1 := Lib.hid i1
  clear o1 i1 s1
  clear hb
  obtain ⟨a0, a1, a2, a3⟩ := HA.out
  obtain ⟨p0, p1, p2, p3, p4⟩ := HP.out
  go_wp2_with fail
  refine (CH.out _ HB.out).mono ?_
  rintro e w2 ⟨rfl, hb⟩
  clear a0 a1 a2 a3 p0 p1 p2 p3 p4
  replace HA := Lib.hid (HA.out.below hb)
  replace HP := Lib.hid (HP.out.below hb)
  replace HB := Lib.hid (btr HB.out hb)
  replace L1 := Lib.hid (L1.out.below hb)
  clear hb
  obtain ⟨a0, a1, a2, a3⟩ := HA.out
  obtain ⟨p0, p1, p2, p3, p4⟩ := HP.out
  go_wp2_with fail
  refine (CM.out _ HB.out).mono ?_
  rintro e w3 ⟨v3, M3, rfl, o3, i3, _, hb⟩
  clear a0 a1 a2 a3 p0 p1 p2 p3 p4
  replace HA := Lib.hid (HA.out.below hb)
  replace HP := Lib.hid (HP.out.below hb)
  replace HB := Lib.hid (btr HB.out hb)
  replace L1 := Lib.hid (L1.out.below hb)
  obtain ⟨r3, c3, rfl, _, s3⟩ := own_sl o3
  have L3 := Lib.hid s3
  have I3 := Lib.hid i3
  clear o3 i3 s3
  clear hb
  obtain ⟨a0, a1, a2, a3⟩ := HA.out
  obtain ⟨p0, p1, p2, p3, p4⟩ := HP.out
  go_wp2_with fail
  refine (CL.out _ HB.out).mono ?_
  rintro e w4 ⟨rfl, hb⟩
  clear a0 a1 a2 a3 p0 p1 p2 p3 p4
  replace HA := Lib.hid (HA.out.below hb)
  replace HP := Lib.hid (HP.out.below hb)
  replace HB := Lib.hid (btr HB.out hb)
  replace L1 := Lib.hid (L1.out.below hb)
  replace L3 := Lib.hid (L3.out.below hb)
  clear hb
  obtain ⟨a0, a1, a2, a3⟩ := HA.out
  obtain ⟨p0, p1, p2, p3, p4⟩ := HP.out
  go_wp2_with fail
  refine (CA.out _).mono ?_
  rintro e w5 ⟨rfl, hb⟩
  clear a0 a1 a2 a3 p0 p1 p2 p3 p4
  replace HA := Lib.hid (HA.out.below hb)
  replace HP := Lib.hid (HP.out.below hb)
  replace HB := Lib.hid (btr HB.out hb)
  replace L1 := Lib.hid (L1.out.below hb)
  replace L3 := Lib.hid (L3.out.below hb)
  clear hb
  obtain ⟨a0, a1, a2, a3⟩ := HA.out
  obtain ⟨p0, p1, p2, p3, p4⟩ := HP.out
  go_wp2_with fail
  refine (CC.out _).mono ?_
  rintro e w6 ⟨rfl, hb⟩
  clear a0 a1 a2 a3 p0 p1 p2 p3 p4
  replace HA := Lib.hid (HA.out.below hb)
  replace HP := Lib.hid (HP.out.below hb)
  replace HB := Lib.hid (btr HB.out hb)
  replace L1 := Lib.hid (L1.out.below hb)
  replace L3 := Lib.hid (L3.out.below hb)
  clear hb
  obtain ⟨a0, a1, a2, a3⟩ := HA.out
  obtain ⟨p0, p1, p2, p3, p4⟩ := HP.out
  go_wp2_with fail
  refine (CO.out _ HB.out).mono ?_
  rintro e w7 ⟨v2, M2, rfl, o2, i2, l2, hb⟩
  clear a0 a1 a2 a3 p0 p1 p2 p3 p4
  replace HA := Lib.hid (HA.out.below hb)
  replace HP := Lib.hid (HP.out.below hb)
  replace HB := Lib.hid (btr HB.out hb)
  replace L1 := Lib.hid (L1.out.below hb)
  replace L3 := Lib.hid (L3.out.below hb)
  obtain ⟨r2, c2, rfl, _, s2⟩ := own_sl o2
  have L2 := Lib.hid s2
  have E12 := i2.uniq I1.out
  subst E12
  have K2 := Lib.hid l2
  clear o2 i2 s2 I1 l2
  clear hb
  obtain ⟨a0, a1, a2, a3⟩ := HA.out
  obtain ⟨p0, p1, p2, p3, p4⟩ := HP.out
  go_wp2_with fail
  refine (CO2.out _ _ (bal HB.out _) (sl_one w7 p)).mono ?_
  rintro e w8 ⟨v4, M4, rfl, o4, i4, l4, hb4⟩
  clear a0 a1 a2 a3 p0 p1 p2 p3 p4
  have hb : Below w7.heap.size w7 w8 := btr (bal (Below.refl _ _) _) hb4
  replace HA := Lib.hid (HA.out.below hb)
  replace HP := Lib.hid (HP.out.below hb)
  replace HB := Lib.hid (btr HB.out hb)
  replace L1 := Lib.hid (L1.out.below hb)
  replace L3 := Lib.hid (L3.out.below hb)
  replace L2 := Lib.hid (L2.out.below hb)
  obtain ⟨r4, c4, rfl, _, s4⟩ := own_sl o4
  have L4 := Lib.hid s4
  have E34 := i4.uniq I3.out
  subst E34
  have K4 := Lib.hid l4
  clear o4 i4 s4 I3 l4 hb hb4
  clear HP HA
  by_cases hN0 : N = 0
  · subst hN0
    go_wp2_with fail
    refine wp_loop_rounds 1 ?_
    rw [rounds_succ]
    go_wp2_with fail
    refine (CB.out _).mono ?_
    rintro e wt1 ⟨rfl, hb⟩
    replace HB := Lib.hid (btr HB.out hb)
    replace L1 := Lib.hid (L1.out.below hb)
    replace L3 := Lib.hid (L3.out.below hb)
    replace L2 := Lib.hid (L2.out.below hb)
    replace L4 := Lib.hid (L4.out.below hb)
    clear hb
    go_wp2_with fail
    refine (pare_ok _ _ _ _ M2 _ (Nat.le_trans K2.out (by decide)) L1.out L2.out).mono ?_
    rintro e wt2 ⟨rfl, hb⟩
    replace HB := Lib.hid (btr HB.out hb)
    replace L1 := Lib.hid (L1.out.below hb)
    replace L3 := Lib.hid (L3.out.below hb)
    replace L2 := Lib.hid (L2.out.below hb)
    replace L4 := Lib.hid (L4.out.below hb)
    clear hb
    go_wp2_with fail
    refine (pare_ok _ _ _ _ M4 _ (Nat.le_trans K4.out (by decide)) L3.out L4.out).mono ?_
    rintro e wt3 ⟨rfl, hb⟩
    replace HB := Lib.hid (btr HB.out hb)
    replace L1 := Lib.hid (L1.out.below hb)
    replace L3 := Lib.hid (L3.out.below hb)
    replace L2 := Lib.hid (L2.out.below hb)
    replace L4 := Lib.hid (L4.out.below hb)
    clear hb
    go_wp2
    go_ret
    exact ⟨rfl, HB.out⟩
  · have hN1 : (0 : Int) < (N : Int) := by omega
    go_wp2_with fail
    refine wp_loop_rounds 1 ?_
    rw [rounds_succ]
    go_wp2_with fail
    refine (CB.out _).mono ?_
    rintro e wt1 ⟨rfl, hb⟩
    replace HB := Lib.hid (btr HB.out hb)
    replace L1 := Lib.hid (L1.out.below hb)
    replace L3 := Lib.hid (L3.out.below hb)
    replace L2 := Lib.hid (L2.out.below hb)
    replace L4 := Lib.hid (L4.out.below hb)
    clear hb
    go_wp2_with fail
    refine (pare_ok _ _ _ _ M2 _ (Nat.le_trans K2.out (by decide)) L1.out L2.out).mono ?_
    rintro e wt2 ⟨rfl, hb⟩
    replace HB := Lib.hid (btr HB.out hb)
    replace L1 := Lib.hid (L1.out.below hb)
    replace L3 := Lib.hid (L3.out.below hb)
    replace L2 := Lib.hid (L2.out.below hb)
    replace L4 := Lib.hid (L4.out.below hb)
    clear hb
    go_wp2_with fail
    refine (pare_ok _ _ _ _ M4 _ (Nat.le_trans K4.out (by decide)) L3.out L4.out).mono ?_
    rintro e wt3 ⟨rfl, hb⟩
    replace HB := Lib.hid (btr HB.out hb)
    replace L1 := Lib.hid (L1.out.below hb)
    replace L3 := Lib.hid (L3.out.below hb)
    replace L2 := Lib.hid (L2.out.below hb)
    replace L4 := Lib.hid (L4.out.below hb)
    clear hb
    go_wp2
    go_ret
    exact ⟨rfl, HB.out⟩

set_option maxHeartbeats 32000000 in
set_option maxRecDepth 100000 in
theorem st_11 (a : Option Addr) (c N : Nat) (ps : List Pf) (v : Bool) (xh xl : Int) (p : Pf) (w : World) (hN : N = ps.length) (hok : ∀ p ∈ ps, p.Ok) (hp : p.Ok) (hs : Sl w a ps) (x0 : 0 ≤ xh) (x1 : xh < 18446744073709551616) (x2 : 0 ≤ xl) (x3 : xl < 18446744073709551616) (hr : slkL ps = 0) (ha : chk v xh xl ≠ 0) (hq : p.chk ≠ 0) :
    Calls Try.prog 3 #[.slice a N c, .agg #[.bool v, .int .u64 xh, .int .u64 xl], .agg #[.bool p.v, .int .u64 p.hi, .int .u64 p.lo, .int .i64 p.b]] w fun e w' => e = .returned (.bool true) ∧ Below w.heap.size w w' := by
  have HA : Hid (Has3 ((w.alloc (.cells #[.bool v, .int .u64 xh, .int .u64 xl] 25)).alloc (.cells #[.bool p.v, .int .u64 p.hi, .int .u64 p.lo, .int .i64 p.b] 27)) w.heap.size (.bool v) (.int .u64 xh) (.int .u64 xl)) := (Has3.new w (.bool v) (.int .u64 xh) (.int .u64 xl) 25).alloc _
  have HP : Hid (Has4 ((w.alloc (.cells #[.bool v, .int .u64 xh, .int .u64 xl] 25)).alloc (.cells #[.bool p.v, .int .u64 p.hi, .int .u64 p.lo, .int .i64 p.b] 27)) (w.heap.size + 1) p.v p.hi p.lo p.b) := by
    have := Has4.new (w.alloc (.cells #[.bool v, .int .u64 xh, .int .u64 xl] 25)) p.v p.hi p.lo p.b 27
    rw [show (w.alloc (.cells #[.bool v, .int .u64 xh, .int .u64 xl] 25)).heap.size = w.heap.size + 1 by simp] at this
    exact this
  have HB : Hid (Below w.heap.size w ((w.alloc (.cells #[.bool v, .int .u64 xh, .int .u64 xl] 25)).alloc (.cells #[.bool p.v, .int .u64 p.hi, .int .u64 p.lo, .int .i64 p.b] 27))) := bal (bal (Below.refl _ _) _) _
  have CB : Hid (∀ w : World, Calls Try.prog 12 #[] w fun e w' => e = .returned (.bool true) ∧ Below w.heap.size w w') := sbegun_any
  have CL : Hid (∀ w' : World, Below w.heap.size w w' → Calls Try.prog 7 #[.slice a N c] w' fun e w'' => e = .returned (.int .i64 (slkL ps)) ∧ Below w'.heap.size w' w'') := fun w' h => by rw [hN]; exact clist_any a c ps w' hok (hs.below h)
  have CH : Hid (∀ w' : World, Below w.heap.size w w' → Calls Try.prog 5 #[.slice a N c, .agg #[.bool v, .int .u64 xh, .int .u64 xl]] w' fun e w'' => e = .returned (.tuple #[.bool (sHasB ps v xh xl), .int .i64 (sHasE ps v xh xl)]) ∧ Below w'.heap.size w' w'') := fun w' h => by rw [hN]; exact sHas_any a c ps v xh xl w' hok (hs.below h) x0 x2
  obtain ⟨h12, hR⟩ := slkL_ok hok hr
  rw [hr] at CL
  have e1 : sHasE ps v xh xl = chk v xh xl := by rw [sHasE, if_pos hr]
  have e3 : sMinE ps p = p.chk := by rw [sMinE, if_pos hr]
  have CN : Hid (∀ w' : World, Below w.heap.size w w' → Calls Try.prog 4 #[.slice a N c] w' (NormPost2 w' N (Adr (ps.map Pf.nd)))) := fun w' h => by rw [hN]; exact sNorm_ok a c ps w' hok (hs.below h) hr
  have CA : Hid (∀ w' : World, Calls Try.prog 8 #[.agg #[.bool v, .int .u64 xh, .int .u64 xl]] w' fun e w'' => e = .returned (.int .i64 (chk v xh xl)) ∧ Below w'.heap.size w' w'') := fun w' => rcheck_any v xh xl w' x0 x2
  have CC : Hid (∀ w' : World, Calls Try.prog 9 #[.agg #[.bool p.v, .int .u64 p.hi, .int .u64 p.lo, .int .i64 p.b]] w' fun e w'' => e = .returned (.int .i64 p.chk) ∧ Below w'.heap.size w' w'') := fun w' => rpcheck_pf p w' hp
  have CO : Hid (∀ w' : World, Below w.heap.size w w' → Calls Try.prog 10 #[.slice a N c, .slice none 0 0] w' fun e w'' => ∃ v M, e = .returned v ∧ w''.ownsRow w'.heap.size 27 4 v M.length (flat M) ∧ IsNorm M (Adr (ps.map Pf.nd)) ∧ M.length ≤ 10000 ∧ Below w'.heap.size w' w'') := fun w' h => by
    rw [hN]
    refine (normOf_any ps [] a none c 0 w' hR (by simp) h12 (by simp) (hs.below h) (fun j hj => by simp at hj)).mono ?_
    rintro e w'' ⟨v, M, h1, h2, h3, h4, h5⟩
    exact ⟨v, M, h1, h2, h3.of fun v x => ⟨fun h => h.1, fun h => ⟨h, adr_nil⟩⟩, h4, h5⟩
  have e2 : sHasB ps v xh xl = false := by rw [sHasB, e1, if_neg ha]
  rw [e1, e2] at CH
  have hIa : (chk v xh xl == 0) = false := by rw [beq_eq_false_iff_ne]; exact ha
  have haa : (chk v xh xl == chk v xh xl) = true := by simp
  clear e2
  have hIp : (p.chk == 0) = false := by rw [beq_eq_false_iff_ne]; exact hq
  have CM : Hid (∀ w' : World, Below w.heap.size w w' → Calls Try.prog 6 #[.slice a N c, .agg #[.bool p.v, .int .u64 p.hi, .int .u64 p.lo, .int .i64 p.b]] w' fun e w'' => e = .returned (.tuple #[.slice none 0 0, .int .i64 p.chk]) ∧ Below w'.heap.size w' w'') := fun w' h => by rw [hN, ← e3]; exact sMinus_bad a c ps p w' hok hp (hs.below h) (by rw [e3]; exact hq)
  have CP2 : Hid (∀ w' : World, Calls Try.prog 13 #[.slice none 0 0, .int .i64 p.chk, .int .i64 p.chk, .slice none 0 0] w' fun e w'' => e = .returned (.bool true) ∧ Below w'.heap.size w' w'') := fun w' => pare_err _ _ w' (by rw [bne_iff_ne]; exact hq)
  have HR := Lib.hid hR
  have Hs := Lib.hid hs
  have HN := Lib.hid hN
  have hr0 : Hid (hasL ps v xh xl = hasL ps v xh xl) := rfl
  generalize chk v xh xl = ra at *
  generalize p.chk = rq at *
  clear e1 e3 hok hs hr hp hN x0 x1 x2 x3 hR ha hq
  go_enter Try.func3, Try.ntmps3
  obtain ⟨a0, a1, a2, a3⟩ := HA.out
  obtain ⟨p0, p1, p2, p3, p4⟩ := HP.out
  go_wp2_with fail
  refine (CN.out _ HB.out).mono ?_
  rintro e w1 ⟨v1, M1, rfl, o1, i1, _, hb⟩
  clear a0 a1 a2 a3 p0 p1 p2 p3 p4
  replace HA := Lib.hid (HA.out.below hb)
  replace HP := Lib.hid (HP.out.below hb)
  replace HB := Lib.hid (btr HB.out hb)
  obtain ⟨r1, c1, rfl, _, s1⟩ := own_sl o1
  have L1 := Lib.hid s1
  have I1 := Lib.hid i1
  clear o1 i1 s1
  clear hb
  obtain ⟨a0, a1, a2, a3⟩ := HA.out
  obtain ⟨p0, p1, p2, p3, p4⟩ := HP.out
  go_wp2_with fail
  refine (CH.out _ HB.out).mono ?_
  rintro e w2 ⟨rfl, hb⟩
  clear a0 a1 a2 a3 p0 p1 p2 p3 p4
  replace HA := Lib.hid (HA.out.below hb)
  replace HP := Lib.hid (HP.out.below hb)
  replace HB := Lib.hid (btr HB.out hb)
  replace L1 := Lib.hid (L1.out.below hb)
  clear hb
  obtain ⟨a0, a1, a2, a3⟩ := HA.out
  obtain ⟨p0, p1, p2, p3, p4⟩ := HP.out
  go_wp2_with fail
  refine (CM.out _ HB.out).mono ?_
  rintro e w3 ⟨rfl, hb⟩
  clear a0 a1 a2 a3 p0 p1 p2 p3 p4
  replace HA := Lib.hid (HA.out.below hb)
  replace HP := Lib.hid (HP.out.below hb)
  replace HB := Lib.hid (btr HB.out hb)
  replace L1 := Lib.hid (L1.out.below hb)
  clear hb
  obtain ⟨a0, a1, a2, a3⟩ := HA.out
  obtain ⟨p0, p1, p2, p3, p4⟩ := HP.out
  go_wp2_with fail
  refine (CL.out _ HB.out).mono ?_
  rintro e w4 ⟨rfl, hb⟩
  clear a0 a1 a2 a3 p0 p1 p2 p3 p4
  replace HA := Lib.hid (HA.out.below hb)
  replace HP := Lib.hid (HP.out.below hb)
  replace HB := Lib.hid (btr HB.out hb)
  replace L1 := Lib.hid (L1.out.below hb)
  clear hb
  obtain ⟨a0, a1, a2, a3⟩ := HA.out
  obtain ⟨p0, p1, p2, p3, p4⟩ := HP.out
  go_wp2_with fail
  refine (CA.out _).mono ?_
  rintro e w5 ⟨rfl, hb⟩
  clear a0 a1 a2 a3 p0 p1 p2 p3 p4
  replace HA := Lib.hid (HA.out.below hb)
  replace HP := Lib.hid (HP.out.below hb)
  replace HB := Lib.hid (btr HB.out hb)
  replace L1 := Lib.hid (L1.out.below hb)
  clear hb
  obtain ⟨a0, a1, a2, a3⟩ := HA.out
  obtain ⟨p0, p1, p2, p3, p4⟩ := HP.out
  go_wp2_with fail
  refine (CC.out _).mono ?_
  rintro e w6 ⟨rfl, hb⟩
  clear a0 a1 a2 a3 p0 p1 p2 p3 p4
  replace HA := Lib.hid (HA.out.below hb)
  replace HP := Lib.hid (HP.out.below hb)
  replace HB := Lib.hid (btr HB.out hb)
  replace L1 := Lib.hid (L1.out.below hb)
  clear hb
  obtain ⟨a0, a1, a2, a3⟩ := HA.out
  obtain ⟨p0, p1, p2, p3, p4⟩ := HP.out
  go_wp2_with fail
  refine (CO.out _ HB.out).mono ?_
  rintro e w7 ⟨v2, M2, rfl, o2, i2, l2, hb⟩
  clear a0 a1 a2 a3 p0 p1 p2 p3 p4
  replace HA := Lib.hid (HA.out.below hb)
  replace HP := Lib.hid (HP.out.below hb)
  replace HB := Lib.hid (btr HB.out hb)
  replace L1 := Lib.hid (L1.out.below hb)
  obtain ⟨r2, c2, rfl, _, s2⟩ := own_sl o2
  have L2 := Lib.hid s2
  have E12 := i2.uniq I1.out
  subst E12
  have K2 := Lib.hid l2
  clear o2 i2 s2 I1 l2
  clear hb
  clear HP HA
  by_cases hN0 : N = 0
  · subst hN0
    go_wp2_with fail
    refine wp_loop_rounds 1 ?_
    rw [rounds_succ]
    go_wp2_with fail
    refine (CB.out _).mono ?_
    rintro e wt1 ⟨rfl, hb⟩
    replace HB := Lib.hid (btr HB.out hb)
    replace L1 := Lib.hid (L1.out.below hb)
    replace L2 := Lib.hid (L2.out.below hb)
    clear hb
    go_wp2_with fail
    refine (pare_ok _ _ _ _ M2 _ (Nat.le_trans K2.out (by decide)) L1.out L2.out).mono ?_
    rintro e wt2 ⟨rfl, hb⟩
    replace HB := Lib.hid (btr HB.out hb)
    replace L1 := Lib.hid (L1.out.below hb)
    replace L2 := Lib.hid (L2.out.below hb)
    clear hb
    go_wp2_with fail
    refine (CP2.out _).mono ?_
    rintro e wt3 ⟨rfl, hb⟩
    replace HB := Lib.hid (btr HB.out hb)
    replace L1 := Lib.hid (L1.out.below hb)
    replace L2 := Lib.hid (L2.out.below hb)
    clear hb
    go_wp2
    go_ret
    exact ⟨rfl, HB.out⟩
  · have hN1 : (0 : Int) < (N : Int) := by omega
    go_wp2_with fail
    refine wp_loop_rounds 1 ?_
    rw [rounds_succ]
    go_wp2_with fail
    refine (CB.out _).mono ?_
    rintro e wt1 ⟨rfl, hb⟩
    replace HB := Lib.hid (btr HB.out hb)
    replace L1 := Lib.hid (L1.out.below hb)
    replace L2 := Lib.hid (L2.out.below hb)
    clear hb
    go_wp2_with fail
    refine (pare_ok _ _ _ _ M2 _ (Nat.le_trans K2.out (by decide)) L1.out L2.out).mono ?_
    rintro e wt2 ⟨rfl, hb⟩
    replace HB := Lib.hid (btr HB.out hb)
    replace L1 := Lib.hid (L1.out.below hb)
    replace L2 := Lib.hid (L2.out.below hb)
    clear hb
    go_wp2_with fail
    refine (CP2.out _).mono ?_
    rintro e wt3 ⟨rfl, hb⟩
    replace HB := Lib.hid (btr HB.out hb)
    replace L1 := Lib.hid (L1.out.below hb)
    replace L2 := Lib.hid (L2.out.below hb)
    clear hb
    go_wp2
    go_ret
    exact ⟨rfl, HB.out⟩

end Go.Proofs.Ytlgdkdplkdkkdaa
