/- FenceTime: its walk. -/
import Derived.Test.YtcfjfccaelcchaaFtA
import Derived.Test.YtcfjfccaelcchaaFbA
set_option linter.unusedVariables false
set_option linter.unusedSimpArgs false
namespace Go.Proofs.Ytcfjfccaelcchaa
open Go.RowKit

set_option maxHeartbeats 16000000 in
set_option maxRecDepth 100000 in
theorem ft_no (d : Dk) (a : Option Addr) (c : Nat) (who now more : Int) (w : World) (hc : d.l.length ≤ c) (hs : Lies enE w a d.l) (h0 : ¬ acqE d who now = 0) :
    Calls Try.prog 4 #[.agg #[.int .i64 d.ep, .int .i64 d.h, .int .i64 d.u, .slice a d.l.length c], .int .i64 who, .int .i64 now, .int .i64 more] w fun e w' => e = .returned (.bool true) ∧ Below w.heap.size w w' := by
  have hBg : Hid (∀ W : World, Calls Try.prog 10 #[] W fun e w' => e = .returned (.bool true) ∧ Below W.heap.size W w') := fbegun_any
  have HB0 := Lib.hid (bal (Below.refl w.heap.size w) (.cells #[.int .i64 d.ep, .int .i64 d.h, .int .i64 d.u, .slice a d.l.length c] 26))
  have HD0 := Lib.hid (Blk.new w [.int .i64 d.ep, .int .i64 d.h, .int .i64 d.u, .slice a d.l.length c] 26)
  have HL0 := Lib.hid (hs.below (bal (Below.refl w.heap.size w) (.cells #[.int .i64 d.ep, .int .i64 d.h, .int .i64 d.u, .slice a d.l.length c] 26)))
  have HC0 := Lib.hid hc
  clear hs hc
  have hA : Hid (∀ (a : Option Addr) (c : Nat) (W : World), d.l.length ≤ c → Lies enE W a d.l → Calls Try.prog 5 #[.agg #[.int .i64 d.ep, .int .i64 d.h, .int .i64 d.u, .slice a d.l.length c], .int .i64 who, .int .i64 now] W fun e w' => ∃ a' c', e = .returned (.tuple #[.agg #[.int .i64 (acqD d who now).ep, .int .i64 (acqD d who now).h, .int .i64 (acqD d who now).u, .slice a' (acqD d who now).l.length c'], .int .i64 (acqD d who now).ep, .int .i64 (acqE d who now)]) ∧ (acqD d who now).l.length ≤ c' ∧ Lies enE w' a' (acqD d who now).l ∧ (∀ g o, a' = some ⟨g, o, none⟩ → W.heap.size ≤ g) ∧ Below W.heap.size W w') := fun a c W hc hs => acq_any d a c who now W hc hs
  have e0 : (acqD d who now).ep = 0 := by unfold acqD; rw [if_neg h0]; rfl
  generalize acqE d who now = r at *
  generalize acqD d who now = R at *
  generalize d.ep = d0 at *
  generalize d.h = d1 at *
  generalize d.u = d2 at *
  generalize d.l.length = dN at *
  generalize d.l = dl at *
  generalize R.ep = r0 at *
  generalize R.h = r1 at *
  generalize R.u = r2 at *
  generalize R.l.length = rN at *
  generalize R.l = rl at *
  have hI : (r != 0) = true := by rw [bne_iff_ne]; exact h0
  have hI2 : (r == 0) = false := by rw [beq_eq_false_iff_ne]; exact h0
  subst e0
  clear h0
  go_enter Try.func4, Try.ntmps4
  go_wp2_with fail
  refine (hBg.out _).mono ?_
  rintro e w1 ⟨rfl, hb1⟩
  have HD1 := Lib.hid (HD0.out.below hb1)
  have HL1 := Lib.hid (HL0.out.below hb1)
  have HB1 := Lib.hid (btr HB0.out hb1)
  obtain ⟨⟨p0, p1, p2, p3⟩, _⟩ := HD1.out.four
  clear hb1 HD0 HL0 HB0 hBg
  go_wp2_with fail
  refine (hA.out _ _ _ HC0.out HL1.out).mono ?_
  rintro e w2 ⟨a2, c2, rfl, hc2, hl2, hg2, hb2⟩
  have HB2 := Lib.hid (bal (btr HB1.out hb2) (.cells #[.int .i64 0, .int .i64 r1, .int .i64 r2, .slice a2 rN c2] 26))
  clear hl2 hc2 hg2 hb2
  go_wp2
  go_ret
  exact ⟨rfl, HB2.out⟩
set_option maxHeartbeats 16000000 in
set_option maxRecDepth 100000 in
theorem ft_out (d : Dk) (a : Option Addr) (c : Nat) (who now more : Int) (w : World) (hc : d.l.length ≤ c) (hs : Lies enE w a d.l) (h0 : acqE d who now = 0) (hm : more < 0 ∨ 9999 - now < more) :
    Calls Try.prog 4 #[.agg #[.int .i64 d.ep, .int .i64 d.h, .int .i64 d.u, .slice a d.l.length c], .int .i64 who, .int .i64 now, .int .i64 more] w fun e w' => e = .returned (.bool true) ∧ Below w.heap.size w w' := by
  have hBg : Hid (∀ W : World, Calls Try.prog 10 #[] W fun e w' => e = .returned (.bool true) ∧ Below W.heap.size W w') := fbegun_any
  have HB0 := Lib.hid (bal (Below.refl w.heap.size w) (.cells #[.int .i64 d.ep, .int .i64 d.h, .int .i64 d.u, .slice a d.l.length c] 26))
  have HD0 := Lib.hid (Blk.new w [.int .i64 d.ep, .int .i64 d.h, .int .i64 d.u, .slice a d.l.length c] 26)
  have HL0 := Lib.hid (hs.below (bal (Below.refl w.heap.size w) (.cells #[.int .i64 d.ep, .int .i64 d.h, .int .i64 d.u, .slice a d.l.length c] 26)))
  have HC0 := Lib.hid hc
  clear hs hc
  have hA : Hid (∀ (a : Option Addr) (c : Nat) (W : World), d.l.length ≤ c → Lies enE W a d.l → Calls Try.prog 5 #[.agg #[.int .i64 d.ep, .int .i64 d.h, .int .i64 d.u, .slice a d.l.length c], .int .i64 who, .int .i64 now] W fun e w' => ∃ a' c', e = .returned (.tuple #[.agg #[.int .i64 (acqD d who now).ep, .int .i64 (acqD d who now).h, .int .i64 (acqD d who now).u, .slice a' (acqD d who now).l.length c'], .int .i64 (acqD d who now).ep, .int .i64 (acqE d who now)]) ∧ (acqD d who now).l.length ≤ c' ∧ Lies enE w' a' (acqD d who now).l ∧ (∀ g o, a' = some ⟨g, o, none⟩ → W.heap.size ≤ g) ∧ Below W.heap.size W w') := fun a c W hc hs => acq_any d a c who now W hc hs
  obtain ⟨n0, n1⟩ := (acq_zero h0).2.2.1
  rw [h0] at hA
  generalize acqD d who now = R at *
  generalize d.ep = d0 at *
  generalize d.h = d1 at *
  generalize d.u = d2 at *
  generalize d.l.length = dN at *
  generalize d.l = dl at *
  generalize R.ep = r0 at *
  generalize R.h = r1 at *
  generalize R.u = r2 at *
  generalize R.l.length = rN at *
  generalize R.l = rl at *
  clear h0
  by_cases hm0 : more < 0
  · clear hm
    go_enter Try.func4, Try.ntmps4
    go_wp2_with fail
    refine (hBg.out _).mono ?_
    rintro e w1 ⟨rfl, hb1⟩
    have HD1 := Lib.hid (HD0.out.below hb1)
    have HL1 := Lib.hid (HL0.out.below hb1)
    have HB1 := Lib.hid (btr HB0.out hb1)
    obtain ⟨⟨p0, p1, p2, p3⟩, _⟩ := HD1.out.four
    clear hb1 HD0 HL0 HB0 hBg
    go_wp2_with fail
    refine (hA.out _ _ _ HC0.out HL1.out).mono ?_
    rintro e w2 ⟨a2, c2, rfl, hc2, hl2, hg2, hb2⟩
    have HB2 := Lib.hid (bal (btr HB1.out hb2) (.cells #[.int .i64 r0, .int .i64 r1, .int .i64 r2, .slice a2 rN c2] 26))
    clear hl2 hc2 hg2 hb2
    go_wp2
    go_ret
    exact ⟨rfl, HB2.out⟩
  · have hm1 : 9999 - now < more := by omega
    have d0 : decide (more < 0) = false := decide_eq_false hm0
    clear hm
    go_enter Try.func4, Try.ntmps4
    go_wp2_with fail
    refine (hBg.out _).mono ?_
    rintro e w1 ⟨rfl, hb1⟩
    have HD1 := Lib.hid (HD0.out.below hb1)
    have HL1 := Lib.hid (HL0.out.below hb1)
    have HB1 := Lib.hid (btr HB0.out hb1)
    obtain ⟨⟨p0, p1, p2, p3⟩, _⟩ := HD1.out.four
    clear hb1 HD0 HL0 HB0 hBg
    go_wp2_with fail
    refine (hA.out _ _ _ HC0.out HL1.out).mono ?_
    rintro e w2 ⟨a2, c2, rfl, hc2, hl2, hg2, hb2⟩
    have HB2 := Lib.hid (bal (btr HB1.out hb2) (.cells #[.int .i64 r0, .int .i64 r1, .int .i64 r2, .slice a2 rN c2] 26))
    clear hl2 hc2 hg2 hb2
    go_wp2
    go_ret
    exact ⟨rfl, HB2.out⟩
set_option maxHeartbeats 16000000 in
set_option maxRecDepth 100000 in
theorem ft_held (d : Dk) (a : Option Addr) (c : Nat) (who now more : Int) (w : World) (hc : d.l.length ≤ c) (hs : Lies enE w a d.l) (h0 : acqE d who now = 0) (hm0' : 0 ≤ more) (hm1' : more ≤ 9999 - now) (h10 : more ≤ 10) :
    Calls Try.prog 4 #[.agg #[.int .i64 d.ep, .int .i64 d.h, .int .i64 d.u, .slice a d.l.length c], .int .i64 who, .int .i64 now, .int .i64 more] w fun e w' => e = .returned (.bool true) ∧ Below w.heap.size w w' := by
  have hBg : Hid (∀ W : World, Calls Try.prog 10 #[] W fun e w' => e = .returned (.bool true) ∧ Below W.heap.size W w') := fbegun_any
  have HB0 := Lib.hid (bal (Below.refl w.heap.size w) (.cells #[.int .i64 d.ep, .int .i64 d.h, .int .i64 d.u, .slice a d.l.length c] 26))
  have HD0 := Lib.hid (Blk.new w [.int .i64 d.ep, .int .i64 d.h, .int .i64 d.u, .slice a d.l.length c] 26)
  have HL0 := Lib.hid (hs.below (bal (Below.refl w.heap.size w) (.cells #[.int .i64 d.ep, .int .i64 d.h, .int .i64 d.u, .slice a d.l.length c] 26)))
  have HC0 := Lib.hid hc
  clear hs hc
  have hA : Hid (∀ (a : Option Addr) (c : Nat) (W : World), d.l.length ≤ c → Lies enE W a d.l → Calls Try.prog 5 #[.agg #[.int .i64 d.ep, .int .i64 d.h, .int .i64 d.u, .slice a d.l.length c], .int .i64 who, .int .i64 now] W fun e w' => ∃ a' c', e = .returned (.tuple #[.agg #[.int .i64 (acqD d who now).ep, .int .i64 (acqD d who now).h, .int .i64 (acqD d who now).u, .slice a' (acqD d who now).l.length c'], .int .i64 (acqD d who now).ep, .int .i64 (acqE d who now)]) ∧ (acqD d who now).l.length ≤ c' ∧ Lies enE w' a' (acqD d who now).l ∧ (∀ g o, a' = some ⟨g, o, none⟩ → W.heap.size ≤ g) ∧ Below W.heap.size W w') := fun a c W hc hs => acq_any d a c who now W hc hs
  obtain ⟨⟨w0, w1'⟩, ⟨n0, n1⟩⟩ := (⟨(acq_zero h0).2.1, (acq_zero h0).2.2.1⟩ : (1 ≤ who ∧ who ≤ 2) ∧ (0 ≤ now ∧ now ≤ 9999))
  have e1 := ft_other h0 hm0' hm1' h10
  obtain ⟨e2, e3, e4⟩ := ft_same h0 hm0' hm1' h10
  rw [h0] at hA
  generalize acqD d who now = R at *
  have hA2 : Hid (∀ (a : Option Addr) (c : Nat) (W : World), R.l.length ≤ c → Lies enE W a R.l → Calls Try.prog 5 #[.agg #[.int .i64 R.ep, .int .i64 R.h, .int .i64 R.u, .slice a R.l.length c], .int .i64 (3 - who), .int .i64 (now + more)] W fun e w' => ∃ a' c', e = .returned (.tuple #[.agg #[.int .i64 (acqD R (3 - who) (now + more)).ep, .int .i64 (acqD R (3 - who) (now + more)).h, .int .i64 (acqD R (3 - who) (now + more)).u, .slice a' (acqD R (3 - who) (now + more)).l.length c'], .int .i64 (acqD R (3 - who) (now + more)).ep, .int .i64 (acqE R (3 - who) (now + more))]) ∧ (acqD R (3 - who) (now + more)).l.length ≤ c' ∧ Lies enE w' a' (acqD R (3 - who) (now + more)).l ∧ (∀ g o, a' = some ⟨g, o, none⟩ → W.heap.size ≤ g) ∧ Below W.heap.size W w') := fun a c W hc hs => acq_any R a c (3 - who) (now + more) W hc hs
  have hA3 : Hid (∀ (a : Option Addr) (c : Nat) (W : World), R.l.length ≤ c → Lies enE W a R.l → Calls Try.prog 5 #[.agg #[.int .i64 R.ep, .int .i64 R.h, .int .i64 R.u, .slice a R.l.length c], .int .i64 who, .int .i64 (now + more)] W fun e w' => ∃ a' c', e = .returned (.tuple #[.agg #[.int .i64 (acqD R who (now + more)).ep, .int .i64 (acqD R who (now + more)).h, .int .i64 (acqD R who (now + more)).u, .slice a' (acqD R who (now + more)).l.length c'], .int .i64 (acqD R who (now + more)).ep, .int .i64 (acqE R who (now + more))]) ∧ (acqD R who (now + more)).l.length ≤ c' ∧ Lies enE w' a' (acqD R who (now + more)).l ∧ (∀ g o, a' = some ⟨g, o, none⟩ → W.heap.size ≤ g) ∧ Below W.heap.size W w') := fun a c W hc hs => acq_any R a c who (now + more) W hc hs
  rw [e1] at hA2
  rw [e2] at hA3
  generalize acqD R (3 - who) (now + more) = X at *
  generalize acqD R who (now + more) = Y at *
  generalize d.ep = d0 at *
  generalize d.h = d1 at *
  generalize d.u = d2 at *
  generalize d.l.length = dN at *
  generalize d.l = dl at *
  generalize Y.ep = y0 at *
  generalize Y.h = y1 at *
  generalize Y.u = y2 at *
  generalize Y.l.length = yN at *
  generalize Y.l = yl at *
  generalize X.ep = x0 at *
  generalize X.h = x1 at *
  generalize X.u = x2 at *
  generalize X.l.length = xN at *
  generalize X.l = xl at *
  generalize R.ep = r0 at *
  generalize R.h = r1 at *
  generalize R.u = r2 at *
  generalize R.l.length = rN at *
  generalize R.l = rl at *
  replace e3 := e3.symm
  subst e3 e4
  clear h0 e1 e2
  have hm0 : ¬ more < 0 := by omega
  have hm1 : ¬ 9999 - now < more := by omega
  have d0 : decide (more < 0) = false := decide_eq_false hm0
  have d1 : decide (9999 - now < more) = false := decide_eq_false hm1
  go_enter Try.func4, Try.ntmps4
  go_wp2_with fail
  refine (hBg.out _).mono ?_
  rintro e w1 ⟨rfl, hb1⟩
  have HD1 := Lib.hid (HD0.out.below hb1)
  have HL1 := Lib.hid (HL0.out.below hb1)
  have HB1 := Lib.hid (btr HB0.out hb1)
  obtain ⟨⟨p0, p1, p2, p3⟩, _⟩ := HD1.out.four
  clear hb1 HD0 HL0 HB0 hBg
  go_wp2_with fail
  refine (hA.out _ _ _ HC0.out HL1.out).mono ?_
  rintro e w2 ⟨a2, c2, rfl, hc2, hl2, hg2, hb2⟩
  have HB2 := Lib.hid (bal (btr HB1.out hb2) (.cells #[.int .i64 r0, .int .i64 r1, .int .i64 r2, .slice a2 rN c2] 26))
  have HD2 := Lib.hid (Blk.new w2 [.int .i64 r0, .int .i64 r1, .int .i64 r2, .slice a2 rN c2] 26)
  have HL2 := Lib.hid (hl2.below (bal (Below.refl w2.heap.size w2) (.cells #[.int .i64 r0, .int .i64 r1, .int .i64 r2, .slice a2 rN c2] 26)))
  have HC2 := Lib.hid hc2
  clear hl2 hc2 hb2 hA HL1 HD1
  obtain ⟨⟨q0, q1, q2, q3⟩, _⟩ := HD2.out.four
  go_wp2_with fail
  refine (hA2.out _ _ _ HC2.out HL2.out).mono ?_
  rintro e w3 ⟨a3, c3, rfl, hc3, hl3, hg3, hb3⟩
  have hb4 := bal hb3 (.cells #[.int .i64 x0, .int .i64 x1, .int .i64 x2, .slice a3 xN c3] 26)
  have HD3 := Lib.hid (HD2.out.below hb4)
  have HL3 := Lib.hid (HL2.out.below hb4)
  have HB3 := Lib.hid (btr HB2.out hb4)
  obtain ⟨⟨q0, q1, q2, q3⟩, _⟩ := HD3.out.four
  clear hb3 hb4 hl3 hc3 hg3 HD2 HL2 HB2 hA2
  go_wp2_with fail
  refine (hA3.out _ _ _ HC2.out HL3.out).mono ?_
  rintro e w4 ⟨a4, c4, rfl, hc4, hl4, hg4, hb5⟩
  have HB4 := Lib.hid (bal (btr HB3.out hb5) (.cells #[.int .i64 r0, .int .i64 y1, .int .i64 (now + more + 10), .slice a4 yN c4] 26))
  clear hc4 hl4 hg4 hb5 HB3 HL3 HD3
  go_wp2
  go_ret
  exact ⟨rfl, HB4.out⟩
set_option maxHeartbeats 16000000 in
set_option maxRecDepth 100000 in
theorem ft_full1 (d : Dk) (a : Option Addr) (c : Nat) (who now more : Int) (w : World) (hc : d.l.length ≤ c) (hs : Lies enE w a d.l) (h0 : acqE d who now = 0) (hm0' : 0 ≤ more) (hm1' : more ≤ 9999 - now) (h10 : ¬ more ≤ 10) (h9 : (acqD d who now).ep = 999) :
    Calls Try.prog 4 #[.agg #[.int .i64 d.ep, .int .i64 d.h, .int .i64 d.u, .slice a d.l.length c], .int .i64 who, .int .i64 now, .int .i64 more] w fun e w' => e = .returned (.bool true) ∧ Below w.heap.size w w' := by
  have hBg : Hid (∀ W : World, Calls Try.prog 10 #[] W fun e w' => e = .returned (.bool true) ∧ Below W.heap.size W w') := fbegun_any
  have HB0 := Lib.hid (bal (Below.refl w.heap.size w) (.cells #[.int .i64 d.ep, .int .i64 d.h, .int .i64 d.u, .slice a d.l.length c] 26))
  have HD0 := Lib.hid (Blk.new w [.int .i64 d.ep, .int .i64 d.h, .int .i64 d.u, .slice a d.l.length c] 26)
  have HL0 := Lib.hid (hs.below (bal (Below.refl w.heap.size w) (.cells #[.int .i64 d.ep, .int .i64 d.h, .int .i64 d.u, .slice a d.l.length c] 26)))
  have HC0 := Lib.hid hc
  clear hs hc
  have hA : Hid (∀ (a : Option Addr) (c : Nat) (W : World), d.l.length ≤ c → Lies enE W a d.l → Calls Try.prog 5 #[.agg #[.int .i64 d.ep, .int .i64 d.h, .int .i64 d.u, .slice a d.l.length c], .int .i64 who, .int .i64 now] W fun e w' => ∃ a' c', e = .returned (.tuple #[.agg #[.int .i64 (acqD d who now).ep, .int .i64 (acqD d who now).h, .int .i64 (acqD d who now).u, .slice a' (acqD d who now).l.length c'], .int .i64 (acqD d who now).ep, .int .i64 (acqE d who now)]) ∧ (acqD d who now).l.length ≤ c' ∧ Lies enE w' a' (acqD d who now).l ∧ (∀ g o, a' = some ⟨g, o, none⟩ → W.heap.size ≤ g) ∧ Below W.heap.size W w') := fun a c W hc hs => acq_any d a c who now W hc hs
  obtain ⟨⟨w0, w1'⟩, ⟨n0, n1⟩⟩ := (⟨(acq_zero h0).2.1, (acq_zero h0).2.2.1⟩ : (1 ≤ who ∧ who ≤ 2) ∧ (0 ≤ now ∧ now ≤ 9999))
  have e1 := ft_full h0 hm0' hm1' h10 h9
  rw [h0] at hA
  generalize acqD d who now = R at *
  have hA2 : Hid (∀ (a : Option Addr) (c : Nat) (W : World), R.l.length ≤ c → Lies enE W a R.l → Calls Try.prog 5 #[.agg #[.int .i64 R.ep, .int .i64 R.h, .int .i64 R.u, .slice a R.l.length c], .int .i64 (3 - who), .int .i64 (now + more)] W fun e w' => ∃ a' c', e = .returned (.tuple #[.agg #[.int .i64 (acqD R (3 - who) (now + more)).ep, .int .i64 (acqD R (3 - who) (now + more)).h, .int .i64 (acqD R (3 - who) (now + more)).u, .slice a' (acqD R (3 - who) (now + more)).l.length c'], .int .i64 (acqD R (3 - who) (now + more)).ep, .int .i64 (acqE R (3 - who) (now + more))]) ∧ (acqD R (3 - who) (now + more)).l.length ≤ c' ∧ Lies enE w' a' (acqD R (3 - who) (now + more)).l ∧ (∀ g o, a' = some ⟨g, o, none⟩ → W.heap.size ≤ g) ∧ Below W.heap.size W w') := fun a c W hc hs => acq_any R a c (3 - who) (now + more) W hc hs
  rw [e1] at hA2
  generalize acqD R (3 - who) (now + more) = X at *
  generalize d.ep = d0 at *
  generalize d.h = d1 at *
  generalize d.u = d2 at *
  generalize d.l.length = dN at *
  generalize d.l = dl at *
  generalize X.ep = x0 at *
  generalize X.h = x1 at *
  generalize X.u = x2 at *
  generalize X.l.length = xN at *
  generalize X.l = xl at *
  generalize R.ep = r0 at *
  generalize R.h = r1 at *
  generalize R.u = r2 at *
  generalize R.l.length = rN at *
  generalize R.l = rl at *
  subst h9
  have d10 : decide (more ≤ 10) = false := decide_eq_false h10
  clear h0 e1
  have hm0 : ¬ more < 0 := by omega
  have hm1 : ¬ 9999 - now < more := by omega
  have d0 : decide (more < 0) = false := decide_eq_false hm0
  have d1 : decide (9999 - now < more) = false := decide_eq_false hm1
  go_enter Try.func4, Try.ntmps4
  go_wp2_with fail
  refine (hBg.out _).mono ?_
  rintro e w1 ⟨rfl, hb1⟩
  have HD1 := Lib.hid (HD0.out.below hb1)
  have HL1 := Lib.hid (HL0.out.below hb1)
  have HB1 := Lib.hid (btr HB0.out hb1)
  obtain ⟨⟨p0, p1, p2, p3⟩, _⟩ := HD1.out.four
  clear hb1 HD0 HL0 HB0 hBg
  go_wp2_with fail
  refine (hA.out _ _ _ HC0.out HL1.out).mono ?_
  rintro e w2 ⟨a2, c2, rfl, hc2, hl2, hg2, hb2⟩
  have HB2 := Lib.hid (bal (btr HB1.out hb2) (.cells #[.int .i64 999, .int .i64 r1, .int .i64 r2, .slice a2 rN c2] 26))
  have HD2 := Lib.hid (Blk.new w2 [.int .i64 999, .int .i64 r1, .int .i64 r2, .slice a2 rN c2] 26)
  have HL2 := Lib.hid (hl2.below (bal (Below.refl w2.heap.size w2) (.cells #[.int .i64 999, .int .i64 r1, .int .i64 r2, .slice a2 rN c2] 26)))
  have HC2 := Lib.hid hc2
  clear hl2 hc2 hb2 hA HL1 HD1
  obtain ⟨⟨q0, q1, q2, q3⟩, _⟩ := HD2.out.four
  go_wp2_with fail
  refine (hA2.out _ _ _ HC2.out HL2.out).mono ?_
  rintro e w3 ⟨a3, c3, rfl, hc3, hl3, hg3, hb3⟩
  have hb4 := bal hb3 (.cells #[.int .i64 x0, .int .i64 x1, .int .i64 x2, .slice a3 xN c3] 26)
  have HB3 := Lib.hid (btr HB2.out hb4)
  clear hb3 hb4 hl3 hc3 hg3 HD2 HL2 HB2 hA2
  go_wp2
  go_ret
  exact ⟨rfl, HB3.out⟩
set_option maxHeartbeats 16000000 in
set_option maxRecDepth 100000 in
theorem ft_free1 (d : Dk) (a : Option Addr) (c : Nat) (who now more : Int) (w : World) (hc : d.l.length ≤ c) (hs : Lies enE w a d.l) (h0 : acqE d who now = 0) (hm0' : 0 ≤ more) (hm1' : more ≤ 9999 - now) (h10 : ¬ more ≤ 10) (h9 : ¬ (acqD d who now).ep = 999) :
    Calls Try.prog 4 #[.agg #[.int .i64 d.ep, .int .i64 d.h, .int .i64 d.u, .slice a d.l.length c], .int .i64 who, .int .i64 now, .int .i64 more] w fun e w' => e = .returned (.bool true) ∧ Below w.heap.size w w' := by
  have hBg : Hid (∀ W : World, Calls Try.prog 10 #[] W fun e w' => e = .returned (.bool true) ∧ Below W.heap.size W w') := fbegun_any
  have HB0 := Lib.hid (bal (Below.refl w.heap.size w) (.cells #[.int .i64 d.ep, .int .i64 d.h, .int .i64 d.u, .slice a d.l.length c] 26))
  have HD0 := Lib.hid (Blk.new w [.int .i64 d.ep, .int .i64 d.h, .int .i64 d.u, .slice a d.l.length c] 26)
  have HL0 := Lib.hid (hs.below (bal (Below.refl w.heap.size w) (.cells #[.int .i64 d.ep, .int .i64 d.h, .int .i64 d.u, .slice a d.l.length c] 26)))
  have HC0 := Lib.hid hc
  clear hs hc
  have hA : Hid (∀ (a : Option Addr) (c : Nat) (W : World), d.l.length ≤ c → Lies enE W a d.l → Calls Try.prog 5 #[.agg #[.int .i64 d.ep, .int .i64 d.h, .int .i64 d.u, .slice a d.l.length c], .int .i64 who, .int .i64 now] W fun e w' => ∃ a' c', e = .returned (.tuple #[.agg #[.int .i64 (acqD d who now).ep, .int .i64 (acqD d who now).h, .int .i64 (acqD d who now).u, .slice a' (acqD d who now).l.length c'], .int .i64 (acqD d who now).ep, .int .i64 (acqE d who now)]) ∧ (acqD d who now).l.length ≤ c' ∧ Lies enE w' a' (acqD d who now).l ∧ (∀ g o, a' = some ⟨g, o, none⟩ → W.heap.size ≤ g) ∧ Below W.heap.size W w') := fun a c W hc hs => acq_any d a c who now W hc hs
  obtain ⟨⟨w0, w1'⟩, ⟨n0, n1⟩⟩ := (⟨(acq_zero h0).2.1, (acq_zero h0).2.2.1⟩ : (1 ≤ who ∧ who ≤ 2) ∧ (0 ≤ now ∧ now ≤ 9999))
  obtain ⟨e1, e3, e4⟩ := ft_free h0 hm0' hm1' h10 h9
  have hge := (acq_good h0).1.ep
  rw [h0] at hA
  generalize acqD d who now = R at *
  have hA2 : Hid (∀ (a : Option Addr) (c : Nat) (W : World), R.l.length ≤ c → Lies enE W a R.l → Calls Try.prog 5 #[.agg #[.int .i64 R.ep, .int .i64 R.h, .int .i64 R.u, .slice a R.l.length c], .int .i64 (3 - who), .int .i64 (now + more)] W fun e w' => ∃ a' c', e = .returned (.tuple #[.agg #[.int .i64 (acqD R (3 - who) (now + more)).ep, .int .i64 (acqD R (3 - who) (now + more)).h, .int .i64 (acqD R (3 - who) (now + more)).u, .slice a' (acqD R (3 - who) (now + more)).l.length c'], .int .i64 (acqD R (3 - who) (now + more)).ep, .int .i64 (acqE R (3 - who) (now + more))]) ∧ (acqD R (3 - who) (now + more)).l.length ≤ c' ∧ Lies enE w' a' (acqD R (3 - who) (now + more)).l ∧ (∀ g o, a' = some ⟨g, o, none⟩ → W.heap.size ≤ g) ∧ Below W.heap.size W w') := fun a c W hc hs => acq_any R a c (3 - who) (now + more) W hc hs
  rw [e1] at hA2
  generalize acqD R (3 - who) (now + more) = X at *
  generalize d.ep = d0 at *
  generalize d.h = d1 at *
  generalize d.u = d2 at *
  generalize d.l.length = dN at *
  generalize d.l = dl at *
  generalize X.ep = x0 at *
  generalize X.h = x1 at *
  generalize X.u = x2 at *
  generalize X.l.length = xN at *
  generalize X.l = xl at *
  generalize R.ep = r0 at *
  generalize R.h = r1 at *
  generalize R.u = r2 at *
  generalize R.l.length = rN at *
  generalize R.l = rl at *
  subst e3 e4
  have h9' : (r0 == 999) = false := beq_eq_false_iff_ne.2 h9
  clear h9
  have d10 : decide (more ≤ 10) = false := decide_eq_false h10
  clear h0 e1
  have hm0 : ¬ more < 0 := by omega
  have hm1 : ¬ 9999 - now < more := by omega
  have d0 : decide (more < 0) = false := decide_eq_false hm0
  have d1 : decide (9999 - now < more) = false := decide_eq_false hm1
  go_enter Try.func4, Try.ntmps4
  go_wp2_with fail
  refine (hBg.out _).mono ?_
  rintro e w1 ⟨rfl, hb1⟩
  have HD1 := Lib.hid (HD0.out.below hb1)
  have HL1 := Lib.hid (HL0.out.below hb1)
  have HB1 := Lib.hid (btr HB0.out hb1)
  obtain ⟨⟨p0, p1, p2, p3⟩, _⟩ := HD1.out.four
  clear hb1 HD0 HL0 HB0 hBg
  go_wp2_with fail
  refine (hA.out _ _ _ HC0.out HL1.out).mono ?_
  rintro e w2 ⟨a2, c2, rfl, hc2, hl2, hg2, hb2⟩
  have HB2 := Lib.hid (bal (btr HB1.out hb2) (.cells #[.int .i64 r0, .int .i64 r1, .int .i64 r2, .slice a2 rN c2] 26))
  have HD2 := Lib.hid (Blk.new w2 [.int .i64 r0, .int .i64 r1, .int .i64 r2, .slice a2 rN c2] 26)
  have HL2 := Lib.hid (hl2.below (bal (Below.refl w2.heap.size w2) (.cells #[.int .i64 r0, .int .i64 r1, .int .i64 r2, .slice a2 rN c2] 26)))
  have HC2 := Lib.hid hc2
  clear hl2 hc2 hb2 hA HL1 HD1
  obtain ⟨⟨q0, q1, q2, q3⟩, _⟩ := HD2.out.four
  go_wp2_with fail
  refine (hA2.out _ _ _ HC2.out HL2.out).mono ?_
  rintro e w3 ⟨a3, c3, rfl, hc3, hl3, hg3, hb3⟩
  have hb4 := bal hb3 (.cells #[.int .i64 (r0 + 1), .int .i64 (3 - who), .int .i64 x2, .slice a3 xN c3] 26)
  have HB3 := Lib.hid (btr HB2.out hb4)
  clear hb3 hb4 hl3 hc3 hg3 HD2 HL2 HB2 hA2
  go_wp2
  go_ret
  exact ⟨rfl, HB3.out⟩
theorem ftime_any (d : Dk) (a : Option Addr) (c : Nat) (who now more : Int) (w : World) (hc : d.l.length ≤ c) (hs : Lies enE w a d.l) :
    Calls Try.prog 4 #[.agg #[.int .i64 d.ep, .int .i64 d.h, .int .i64 d.u, .slice a d.l.length c], .int .i64 who, .int .i64 now, .int .i64 more] w fun e w' => e = .returned (.bool true) ∧ Below w.heap.size w w' := by
  by_cases h0 : acqE d who now = 0
  · by_cases hm : more < 0 ∨ 9999 - now < more
    · exact ft_out d a c who now more w hc hs h0 hm
    · by_cases h10 : more ≤ 10
      · exact ft_held d a c who now more w hc hs h0 (by omega) (by omega) h10
      · by_cases h9 : (acqD d who now).ep = 999
        · exact ft_full1 d a c who now more w hc hs h0 (by omega) (by omega) h10 h9
        · exact ft_free1 d a c who now more w hc hs h0 (by omega) (by omega) h10 h9
  · exact ft_no d a c who now more w hc hs h0
end Go.Proofs.Ytcfjfccaelcchaa
