/- fence.Acquire. -/
import Derived.Test.YtjainfehlbfiaaaFnC
import Derived.Test.YtjainfehlbfiaaaGnB
set_option linter.unusedVariables false
set_option linter.unusedSimpArgs false
namespace Go.Proofs.Ytjainfehlbfiaaa
open Go.RowKit

/-- What is wrong with a disk. -/
def Dk.bad (d : Dk) : Int := diskE d.ep d.h d.u d.l
/-- What Acquire says, and the disk then. -/
def acqE (d : Dk) (who now : Int) : Int := if d.bad = 0 then (if who < 1 ∨ 2 < who ∨ outB now 9999 = true then 3 else lendE d.ep d.h d.u who now) else d.bad
def acqD (d : Dk) (who now : Int) : Dk := if acqE d who now = 0 then ⟨lendP d.ep d.h d.u now, who, now + 10, d.l⟩ else noDk
theorem disk_ep {ep h u : Int} {l : List En} (e : diskE ep h u l = 0) : (0 ≤ ep ∧ ep ≤ 999) ∧ (0 ≤ h ∧ h ≤ 2) ∧ (0 ≤ u ∧ u ≤ 10009) := by
  have hl : lockE ep h u = 0 := by
    unfold diskE at e
    by_cases hh : lockE ep h u = 0
    · exact hh
    · rw [if_neg hh] at e; exact e
  unfold lockE at hl
  by_cases ho : (outB ep 999 || outB h 2 || outB u 10009) = true
  · rw [if_pos ho] at hl; exact absurd hl (by decide)
  · have : (outB ep 999 || outB h 2 || outB u 10009) = false := by simpa using ho
    simp only [Bool.or_eq_false_iff] at this
    exact ⟨outB_false.1 this.1.1, outB_false.1 this.1.2, outB_false.1 this.2⟩
theorem disk_len {ep h u : Int} {l : List En} (e : diskE ep h u l = 0) : l.length ≤ 30 := by
  have hl : dlogE ep l = 0 := by
    unfold diskE at e
    by_cases hh : lockE ep h u = 0
    · rw [if_pos hh] at e; exact e
    · rw [if_neg hh] at e; exact absurd e hh
  unfold dlogE at hl
  by_cases hh : logE l = 0
  · exact logE_len hh
  · rw [if_neg hh] at hl; exact absurd hl hh

set_option maxHeartbeats 16000000 in
set_option maxRecDepth 100000 in
theorem acq_bad (d : Dk) (a : Option Addr) (c : Nat) (who now : Int) (w : World) (hc : d.l.length ≤ c) (hs : Lies enE w a d.l) (h0 : ¬ acqE d who now = 0) :
    Calls Try.prog 5 #[.agg #[.int .i64 d.ep, .int .i64 d.h, .int .i64 d.u, .slice a d.l.length c], .int .i64 who, .int .i64 now] w fun e w' => e = .returned (.tuple #[.agg #[.int .i64 0, .int .i64 0, .int .i64 0, .slice none 0 0], .int .i64 0, .int .i64 (acqE d who now)]) ∧ Below w.heap.size w w' := by
  obtain ⟨W1, hW1⟩ : ∃ W1, W1 = (w.alloc (.cells #[.int .i64 d.ep, .int .i64 d.h, .int .i64 d.u, .slice a d.l.length c] 26)).alloc (.cells #[.int .i64 0, .int .i64 0, .int .i64 0, .slice none 0 0] 26) := ⟨_, rfl⟩
  have hb1 : Below w.heap.size w W1 := by rw [hW1]; exact bal (bal (Below.refl w.heap.size w) _) _
  have hD : Blk W1 w.heap.size 26 [.int .i64 d.ep, .int .i64 d.h, .int .i64 d.u, .slice a d.l.length c] := by rw [hW1]; exact (Blk.new w _ _).below (bal (Below.refl _ _) _)
  have hR : Blk W1 (w.heap.size + 1) 26 [.int .i64 0, .int .i64 0, .int .i64 0, .slice none 0 0] := by
    rw [hW1]
    have := Blk.new (w.alloc (.cells #[.int .i64 d.ep, .int .i64 d.h, .int .i64 d.u, .slice a d.l.length c] 26)) [.int .i64 0, .int .i64 0, .int .i64 0, .slice none 0 0] 26
    simpa using this
  have HC := Lib.hid (fcheck_any d.ep d.h d.u a c d.l W1 hc (hs.below hb1))
  have HB1 := Lib.hid hb1
  have HD := Lib.hid hD
  have HR := Lib.hid hR
  have HEp : Hid (diskE d.ep d.h d.u d.l = 0 → 0 ≤ d.ep ∧ d.ep ≤ 999) := fun e => (disk_ep e).1
  rw [hW1] at HC HB1 HD HR
  unfold acqE Dk.bad at *
  clear hb1 hD hR hs hc hW1 W1
  generalize diskE d.ep d.h d.u d.l = r at *
  generalize d.l.length = N at *
  generalize d.ep = ep at *
  generalize d.h = h at *
  generalize d.u = u at *
  by_cases hr : r = 0
  · subst hr
    rw [if_pos rfl] at h0
    rw [if_pos rfl]
    obtain ⟨e0, e1⟩ := HEp.out rfl
    by_cases h1 : who < 1
    · rw [if_pos (.inl h1)]
      clear h0
      go_enter Try.func5, Try.ntmps5
      go_wp2_with fail
      refine HC.out.mono ?_
      rintro e w2 ⟨rfl, hb2⟩
      have HB2 := Lib.hid (btr HB1.out hb2)
      have HD2 := Lib.hid (HD.out.upto (by simp <;> omega) hb2)
      have HR2 := Lib.hid (HR.out.upto (by simp <;> omega) hb2)
      have hz2 : w.heap.size + 1 < w2.heap.size := by have := HR2.out.lt; omega
      obtain ⟨⟨d0, d1, d2, d3⟩, _⟩ := HD2.out.four
      obtain ⟨⟨r0, r1, r2, r3⟩, s0, s1, s2, s3⟩ := HR2.out.four
      clear hb2 HC HB1 HD HR
      go_wp2_with fail
      refine bodyPost_ret (v := .tuple #[.agg #[.int .i64 0, .int .i64 0, .int .i64 0, .slice none 0 0], .int .i64 0, .int .i64 3]) ?_ rfl ⟨rfl, ?_⟩
      · simp [results, Try.results5, go_sem, r0, r1, r2, r3]
      · exact bse (bse (bse (bse HB2.out (by simp) _) (by simp) _) (by simp) _) (by simp) _
    · have d1 : decide (who < 1) = false := decide_eq_false h1
      by_cases h2 : 2 < who
      · rw [if_pos (.inr (.inl h2))]
        clear h0
        go_enter Try.func5, Try.ntmps5
        go_wp2_with fail
        refine HC.out.mono ?_
        rintro e w2 ⟨rfl, hb2⟩
        have HB2 := Lib.hid (btr HB1.out hb2)
        have HD2 := Lib.hid (HD.out.upto (by simp <;> omega) hb2)
        have HR2 := Lib.hid (HR.out.upto (by simp <;> omega) hb2)
        have hz2 : w.heap.size + 1 < w2.heap.size := by have := HR2.out.lt; omega
        obtain ⟨⟨d0, d1, d2, d3⟩, _⟩ := HD2.out.four
        obtain ⟨⟨r0, r1, r2, r3⟩, s0, s1, s2, s3⟩ := HR2.out.four
        clear hb2 HC HB1 HD HR
        go_wp2_with fail
        refine bodyPost_ret (v := .tuple #[.agg #[.int .i64 0, .int .i64 0, .int .i64 0, .slice none 0 0], .int .i64 0, .int .i64 3]) ?_ rfl ⟨rfl, ?_⟩
        · simp [results, Try.results5, go_sem, r0, r1, r2, r3]
        · exact bse (bse (bse (bse HB2.out (by simp) _) (by simp) _) (by simp) _) (by simp) _
      · have d2 : decide (2 < who) = false := decide_eq_false h2
        cases h3 : outB now 9999
        · rw [h3] at h0
          rw [if_neg (by simp; omega)] at h0
          rw [if_neg (by simp; omega)]
          obtain ⟨n0, n1⟩ := outB_false.1 h3
          have HLd : Hid (∀ (W : World) (kb : Nat), KpAt W kb ep h u (.slice a N c) → Calls Try.prog 14 #[.pointer (some ⟨kb, 0, none⟩), .int .i64 who, .int .i64 now] W fun e w' => e = .returned (.int .i64 (lendE ep h u who now)) ∧ LendTo kb ep h u who now (.slice a N c) W w') := fun W kb hk => lend_any kb ep h u who now _ W hk e0 e1 n0 n1
          obtain ⟨R, hR⟩ : ∃ R, R = lendE ep h u who now := ⟨_, rfl⟩
          rw [← hR] at h0 HLd ⊢
          have hI : (R != 0) = true := by rw [bne_iff_ne]; exact h0
          clear h0 hR
          go_enter Try.func5, Try.ntmps5
          go_wp2_with fail
          refine HC.out.mono ?_
          rintro e w2 ⟨rfl, hb2⟩
          have HB2 := Lib.hid (btr HB1.out hb2)
          have HD2 := Lib.hid (HD.out.upto (by simp <;> omega) hb2)
          have HR2 := Lib.hid (HR.out.upto (by simp <;> omega) hb2)
          have hz2 : w.heap.size + 1 < w2.heap.size := by have := HR2.out.lt; omega
          obtain ⟨⟨d0, d1, d2, d3⟩, _⟩ := HD2.out.four
          obtain ⟨⟨r0, r1, r2, r3⟩, s0, s1, s2, s3⟩ := HR2.out.four
          clear hb2 HC HB1 HD HR
          have HK3 : Hid (KpAt (w2.alloc (.cells #[.int .i64 ep, .int .i64 h, .int .i64 u, .slice a N c] 47)) w2.heap.size ep h u (.slice a N c)) := KpAt.new w2 ep h u _
          have HR3 := Lib.hid (HR2.out.below (bal (Below.refl w2.heap.size w2) (.cells #[.int .i64 ep, .int .i64 h, .int .i64 u, .slice a N c] 47)))
          go_wp2_with (go_at_call 13; refine (outside_any _ _ _).mono ?_; rintro e w3 ⟨rfl, hw3⟩; have hw3 := hw3.symm; subst hw3)
          refine (HLd.out _ _ HK3.out).mono ?_
          rintro e w4 ⟨rfl, hto⟩
          obtain ⟨t1, t2, _⟩ := hto
          have hb4 : Below w2.heap.size w2 w4 := (bal (Below.refl w2.heap.size w2) _).trans t1
          have HR4 := Lib.hid (HR3.out.upto hz2 t1)
          obtain ⟨⟨r0, r1, r2, r3⟩, s0, s1, s2, s3⟩ := HR4.out.four
          have HB4 := Lib.hid (btr HB2.out hb4)
          clear hb4 t1 HLd HR3 HR2
          go_wp2
          refine bodyPost_ret (v := .tuple #[.agg #[.int .i64 0, .int .i64 0, .int .i64 0, .slice none 0 0], .int .i64 0, .int .i64 R]) ?_ rfl ⟨rfl, ?_⟩
          · simp [results, Try.results5, go_sem, r0, r1, r2, r3]
          · exact bse (bse (bse (bse HB4.out (by simp) _) (by simp) _) (by simp) _) (by simp) _
        · rw [h3] at h0
          rw [if_pos (by simp)]
          clear h0
          go_enter Try.func5, Try.ntmps5
          go_wp2_with fail
          refine HC.out.mono ?_
          rintro e w2 ⟨rfl, hb2⟩
          have HB2 := Lib.hid (btr HB1.out hb2)
          have HD2 := Lib.hid (HD.out.upto (by simp <;> omega) hb2)
          have HR2 := Lib.hid (HR.out.upto (by simp <;> omega) hb2)
          have hz2 : w.heap.size + 1 < w2.heap.size := by have := HR2.out.lt; omega
          obtain ⟨⟨d0, d1, d2, d3⟩, _⟩ := HD2.out.four
          obtain ⟨⟨r0, r1, r2, r3⟩, s0, s1, s2, s3⟩ := HR2.out.four
          clear hb2 HC HB1 HD HR
          go_wp2_with (go_at_call 13; refine (outside_any _ _ _).mono ?_; rintro e w3 ⟨rfl, hw3⟩; have hw3 := hw3.symm; subst hw3)
          refine bodyPost_ret (v := .tuple #[.agg #[.int .i64 0, .int .i64 0, .int .i64 0, .slice none 0 0], .int .i64 0, .int .i64 3]) ?_ rfl ⟨rfl, ?_⟩
          · simp [results, Try.results5, go_sem, r0, r1, r2, r3]
          · exact bse (bse (bse (bse HB2.out (by simp) _) (by simp) _) (by simp) _) (by simp) _
  · rw [if_neg hr]
    have hI : (r != 0) = true := by rw [bne_iff_ne]; exact hr
    clear hr h0
    go_enter Try.func5, Try.ntmps5
    go_wp2_with fail
    refine HC.out.mono ?_
    rintro e w2 ⟨rfl, hb2⟩
    have HB2 := Lib.hid (btr HB1.out hb2)
    have HD2 := Lib.hid (HD.out.upto (by simp <;> omega) hb2)
    have HR2 := Lib.hid (HR.out.upto (by simp <;> omega) hb2)
    have hz2 : w.heap.size + 1 < w2.heap.size := by have := HR2.out.lt; omega
    obtain ⟨⟨d0, d1, d2, d3⟩, _⟩ := HD2.out.four
    obtain ⟨⟨r0, r1, r2, r3⟩, s0, s1, s2, s3⟩ := HR2.out.four
    clear hb2 HC HB1 HD HR
    go_wp2_with fail
    refine bodyPost_ret (v := .tuple #[.agg #[.int .i64 0, .int .i64 0, .int .i64 0, .slice none 0 0], .int .i64 0, .int .i64 r]) ?_ rfl ⟨rfl, ?_⟩
    · simp [results, Try.results5, go_sem, r0, r1, r2, r3]
    · exact bse (bse (bse (bse HB2.out (by simp) _) (by simp) _) (by simp) _) (by simp) _

set_option maxHeartbeats 32000000 in
set_option maxRecDepth 100000 in
theorem acq_ok (d : Dk) (a : Option Addr) (c : Nat) (who now : Int) (w : World) (hc : d.l.length ≤ c) (hs : Lies enE w a d.l) (h0 : acqE d who now = 0) :
    Calls Try.prog 5 #[.agg #[.int .i64 d.ep, .int .i64 d.h, .int .i64 d.u, .slice a d.l.length c], .int .i64 who, .int .i64 now] w fun e w' => ∃ v, e = .returned (.tuple #[.agg #[.int .i64 (lendP d.ep d.h d.u now), .int .i64 who, .int .i64 (now + 10), v], .int .i64 (lendP d.ep d.h d.u now), .int .i64 0]) ∧ w'.ownsRow w.heap.size 51 enE.k v d.l.length (rowOf enE d.l) ∧ Below w.heap.size w w' := by
  have hr : diskE d.ep d.h d.u d.l = 0 := by unfold acqE Dk.bad at h0; by_cases h : diskE d.ep d.h d.u d.l = 0; exact h; rw [if_neg h] at h0; exact absurd h0 h
  have h1 : ¬ (who < 1 ∨ 2 < who ∨ outB now 9999 = true) := fun h => by unfold acqE Dk.bad at h0; rw [if_pos hr, if_pos h] at h0; exact absurd h0 (by decide)
  have hR : lendE d.ep d.h d.u who now = 0 := by unfold acqE Dk.bad at h0; rw [if_pos hr, if_neg h1] at h0; exact h0
  clear h0
  obtain ⟨W1, hW1⟩ : ∃ W1, W1 = (w.alloc (.cells #[.int .i64 d.ep, .int .i64 d.h, .int .i64 d.u, .slice a d.l.length c] 26)).alloc (.cells #[.int .i64 0, .int .i64 0, .int .i64 0, .slice none 0 0] 26) := ⟨_, rfl⟩
  have hb1 : Below w.heap.size w W1 := by rw [hW1]; exact bal (bal (Below.refl w.heap.size w) _) _
  have hD : Blk W1 w.heap.size 26 [.int .i64 d.ep, .int .i64 d.h, .int .i64 d.u, .slice a d.l.length c] := by rw [hW1]; exact (Blk.new w _ _).below (bal (Below.refl _ _) _)
  have hR1 : Blk W1 (w.heap.size + 1) 26 [.int .i64 0, .int .i64 0, .int .i64 0, .slice none 0 0] := by
    rw [hW1]
    have := Blk.new (w.alloc (.cells #[.int .i64 d.ep, .int .i64 d.h, .int .i64 d.u, .slice a d.l.length c] 26)) [.int .i64 0, .int .i64 0, .int .i64 0, .slice none 0 0] 26
    simpa using this
  have HC := Lib.hid (fcheck_any d.ep d.h d.u a c d.l W1 hc (hs.below hb1))
  rw [hr] at HC
  have HCl : Hid (∀ W, Below w.heap.size w W → Calls Try.prog 15 #[.slice a d.l.length c] W fun e w' => ∃ v', e = .returned v' ∧ w'.ownsRow W.heap.size 51 enE.k v' d.l.length (rowOf enE d.l) ∧ Below W.heap.size W w') := fun W hW => cloneE_any a c d.l W (by have := disk_len hr; omega) (hs.below hW)
  have HB1 := Lib.hid hb1
  have HD := Lib.hid hD
  have HR := Lib.hid hR1
  obtain ⟨⟨e0, e1⟩, _⟩ := disk_ep hr
  rw [hW1] at HC HB1 HD HR
  clear hb1 hD hR1 hs hc hW1 W1 hr
  have h3 : outB now 9999 = false := by cases h : outB now 9999; rfl; exact absurd (.inr (.inr h)) h1
  have d1 : decide (who < 1) = false := decide_eq_false (fun h => h1 (.inl h))
  have d2 : decide (2 < who) = false := decide_eq_false (fun h => h1 (.inr (.inl h)))
  have h1' : ¬ who < 1 := fun h => h1 (.inl h)
  have h2' : ¬ 2 < who := fun h => h1 (.inr (.inl h))
  obtain ⟨n0, n1⟩ := outB_false.1 h3
  clear h1
  have HLd : Hid (∀ (W : World) (kb : Nat), KpAt W kb d.ep d.h d.u (.slice a d.l.length c) → Calls Try.prog 14 #[.pointer (some ⟨kb, 0, none⟩), .int .i64 who, .int .i64 now] W fun e w' => e = .returned (.int .i64 0) ∧ Below kb W w' ∧ w'.heap.size = W.heap.size ∧ (lendE d.ep d.h d.u who now = 0 → KpAt w' kb (lendP d.ep d.h d.u now) who (now + 10) (.slice a d.l.length c))) := fun W kb hk => by
    have := lend_any kb d.ep d.h d.u who now _ W hk e0 e1 n0 n1
    rw [hR] at this
    exact this
  generalize rowOf enE d.l = row at *
  generalize d.l.length = N at *
  generalize lendP d.ep d.h d.u now = P at *
  generalize hRR : lendE d.ep d.h d.u who now = R at *
  clear hRR
  generalize d.ep = ep at *
  generalize d.h = h at *
  generalize d.u = u at *
  replace hR := Lib.hid hR
  go_enter Try.func5, Try.ntmps5
  go_wp2_with fail
  refine HC.out.mono ?_
  rintro e w2 ⟨rfl, hb2⟩
  have HB2 := Lib.hid (btr HB1.out hb2)
  have HD2 := Lib.hid (HD.out.upto (by simp <;> omega) hb2)
  have HR2 := Lib.hid (HR.out.upto (by simp <;> omega) hb2)
  have hz2 : w.heap.size + 1 < w2.heap.size := by have := HR2.out.lt; omega
  obtain ⟨⟨d0, d1, d2, d3⟩, _⟩ := HD2.out.four
  obtain ⟨⟨r0, r1, r2, r3⟩, s0, s1, s2, s3⟩ := HR2.out.four
  clear hb2 HC HB1 HD HR
  have HK3 : Hid (KpAt (w2.alloc (.cells #[.int .i64 ep, .int .i64 h, .int .i64 u, .slice a N c] 47)) w2.heap.size ep h u (.slice a N c)) := KpAt.new w2 ep h u _
  have HR3 := Lib.hid (HR2.out.below (bal (Below.refl w2.heap.size w2) (.cells #[.int .i64 ep, .int .i64 h, .int .i64 u, .slice a N c] 47)))
  go_wp2_with (go_at_call 13; refine (outside_any _ _ _).mono ?_; rintro e w3 ⟨rfl, hw3⟩; have hw3 := hw3.symm; subst hw3)
  refine (HLd.out _ _ HK3.out).mono ?_
  rintro e w4 ⟨rfl, t1, t2, t3⟩
  have hb4 : Below w2.heap.size w2 w4 := (bal (Below.refl w2.heap.size w2) _).trans t1
  have HR4 := Lib.hid (HR3.out.upto hz2 t1)
  have HK4 := Lib.hid (t3 hR.out)
  have HB4 := Lib.hid (btr HB2.out hb4)
  have hz4 : w2.heap.size < w4.heap.size := by rw [t2]; simp
  obtain ⟨⟨k0, k1, k2, k3⟩, g0, g1, g2, g3⟩ := HK4.out.cells
  clear hb4 t1 t2 t3 HLd HR3 HR2 HK3 HD2 d0 d1 d2 d3 r0 r1 r2 r3 s0 s1 s2 s3
  go_wp2_with fail
  refine (HCl.out _ HB4.out).mono ?_
  rintro e w5 ⟨v, rfl, ho, hb5⟩
  obtain ⟨a5, c5, rfl⟩ := own_slice ho
  have HK5 := Lib.hid (HK4.out.below hb5)
  have HR5 := Lib.hid (HR4.out.below hb5)
  have HB5 := Lib.hid (btr HB4.out hb5)
  have HO5 := Lib.hid (own_st (own_st (own_st (own_st (own_st ho (b := w2.heap.size) (j := 3) hz4 (.slice a5 N c5)) (b := w.heap.size + 1) (j := 0) (by omega) (.int .i64 P)) (b := w.heap.size + 1) (j := 1) (by omega) (.int .i64 who)) (b := w.heap.size + 1) (j := 2) (by omega) (.int .i64 (now + 10))) (b := w.heap.size + 1) (j := 3) (by omega) (.slice a5 N c5))
  have hz5 : w2.heap.size < w5.heap.size := HK5.out.lt
  have HK6 := Lib.hid (HK5.out.put3 (.slice a5 N c5))
  have HR6 := Lib.hid (HR5.out.other (c := w2.heap.size) (j := 3) (by omega) (.slice a5 N c5))
  obtain ⟨⟨k0, k1, k2, k3⟩, g0, g1, g2, g3⟩ := HK5.out.cells
  obtain ⟨⟨m0, m1, m2, m3⟩, n0', n1', n2', n3'⟩ := HK6.out.cells
  obtain ⟨⟨r0, r1, r2, r3⟩, s0, s1, s2, s3⟩ := HR6.out.four
  clear ho hb5 HCl HK4 HR4
  go_wp2_with fail
  go_region
  all_goals
    go_wp2
    refine bodyPost_ret (v := .tuple #[.agg #[.int .i64 P, .int .i64 who, .int .i64 (now + 10), .slice a5 N c5], .int .i64 P, .int .i64 0]) ?_ rfl ⟨_, rfl, ?_, ?_⟩
    · simp [results, Try.results5, go_sem, r0, r1, r2, r3]
    · exact row_base HO5.out HB4.out.size
    · (repeat' (first | exact HB5.out | with_reducible refine Below.drew ?_ | with_reducible refine bse ?_ (by first | (simp; done) | (simp; omega) | (show _ ≤ _; omega)) _))
end Go.Proofs.Ytjainfehlbfiaaa
