/- fence.Write. -/
import Derived.Test.YtjainfehlbfiaaaFnE
set_option linter.unusedVariables false
set_option linter.unusedSimpArgs false
namespace Go.Proofs.Ytjainfehlbfiaaa
open Go.RowKit

def writeE (d : Dk) (epoch : Int) (o : Opd) : Int := if d.bad = 0 then wrE d.ep d.l epoch o else d.bad
set_option maxHeartbeats 16000000 in
set_option maxRecDepth 100000 in
theorem fwrite_bad (d : Dk) (a : Option Addr) (c : Nat) (epoch : Int) (o : Opd) (w : World) (hc : d.l.length ≤ c) (hs : Lies enE w a d.l) (h0 : ¬ writeE d epoch o = 0) :
    Calls Try.prog 6 #[.agg #[.int .i64 d.ep, .int .i64 d.h, .int .i64 d.u, .slice a d.l.length c], .int .i64 epoch, .agg #[.int .i64 o.k, .bool o.p.v, .int .u64 o.p.hi, .int .u64 o.p.lo, .int .i64 o.p.b, .bool o.a.v, .int .u64 o.a.hi, .int .u64 o.a.lo, .string o.who, .int .i64 o.pof, .int .i64 o.n]] w fun e w' => e = .returned (.tuple #[.agg #[.int .i64 0, .int .i64 0, .int .i64 0, .slice none 0 0], .int .i64 (writeE d epoch o)]) ∧ Below w.heap.size w w' := by
  obtain ⟨W1, hW1⟩ : ∃ W1, W1 = ((w.alloc (.cells #[.int .i64 d.ep, .int .i64 d.h, .int .i64 d.u, .slice a d.l.length c] 26)).alloc (.cells #[.int .i64 o.k, .bool o.p.v, .int .u64 o.p.hi, .int .u64 o.p.lo, .int .i64 o.p.b, .bool o.a.v, .int .u64 o.a.hi, .int .u64 o.a.lo, .string o.who, .int .i64 o.pof, .int .i64 o.n] 33)).alloc (.cells #[.int .i64 0, .int .i64 0, .int .i64 0, .slice none 0 0] 26) := ⟨_, rfl⟩
  have hb1 : Below w.heap.size w W1 := by rw [hW1]; exact bal (bal (bal (Below.refl w.heap.size w) _) _) _
  have hD : Blk W1 w.heap.size 26 [.int .i64 d.ep, .int .i64 d.h, .int .i64 d.u, .slice a d.l.length c] := by rw [hW1]; exact ((Blk.new w _ _).below (bal (Below.refl _ _) _)).below (bal (Below.refl _ _) _)
  have hO : Blk W1 (w.heap.size + 1) 33 [.int .i64 o.k, .bool o.p.v, .int .u64 o.p.hi, .int .u64 o.p.lo, .int .i64 o.p.b, .bool o.a.v, .int .u64 o.a.hi, .int .u64 o.a.lo, .string o.who, .int .i64 o.pof, .int .i64 o.n] := by
    rw [hW1]
    have := Blk.new (w.alloc (.cells #[.int .i64 d.ep, .int .i64 d.h, .int .i64 d.u, .slice a d.l.length c] 26)) [.int .i64 o.k, .bool o.p.v, .int .u64 o.p.hi, .int .u64 o.p.lo, .int .i64 o.p.b, .bool o.a.v, .int .u64 o.a.hi, .int .u64 o.a.lo, .string o.who, .int .i64 o.pof, .int .i64 o.n] 33
    rw [show (w.alloc (.cells #[.int .i64 d.ep, .int .i64 d.h, .int .i64 d.u, .slice a d.l.length c] 26)).heap.size = w.heap.size + 1 by simp] at this
    exact this.below (bal (Below.refl _ _) _)
  have hR : Blk W1 (w.heap.size + 1 + 1) 26 [.int .i64 0, .int .i64 0, .int .i64 0, .slice none 0 0] := by
    rw [hW1]
    have := Blk.new ((w.alloc (.cells #[.int .i64 d.ep, .int .i64 d.h, .int .i64 d.u, .slice a d.l.length c] 26)).alloc (.cells #[.int .i64 o.k, .bool o.p.v, .int .u64 o.p.hi, .int .u64 o.p.lo, .int .i64 o.p.b, .bool o.a.v, .int .u64 o.a.hi, .int .u64 o.a.lo, .string o.who, .int .i64 o.pof, .int .i64 o.n] 33)) [.int .i64 0, .int .i64 0, .int .i64 0, .slice none 0 0] 26
    rw [show ((w.alloc (.cells #[.int .i64 d.ep, .int .i64 d.h, .int .i64 d.u, .slice a d.l.length c] 26)).alloc (.cells #[.int .i64 o.k, .bool o.p.v, .int .u64 o.p.hi, .int .u64 o.p.lo, .int .i64 o.p.b, .bool o.a.v, .int .u64 o.a.hi, .int .u64 o.a.lo, .string o.who, .int .i64 o.pof, .int .i64 o.n] 33)).heap.size = w.heap.size + 1 + 1 by simp] at this
    exact this
  have HC := Lib.hid (fcheck_any d.ep d.h d.u a c d.l W1 hc (hs.below hb1))
  have HB1 := Lib.hid hb1
  have HD := Lib.hid hD
  have HO := Lib.hid hO
  have HR := Lib.hid hR
  rw [hW1] at HC HB1 HD HR HO
  clear hb1 hD hR hO hW1 W1
  have HWr : Hid (¬ wrE d.ep d.l epoch o = 0 → ∀ (W : World) (kb : Nat), Below w.heap.size w W → KpAt W kb d.ep d.h d.u (.slice a d.l.length c) → Calls Try.prog 16 #[.pointer (some ⟨kb, 0, none⟩), .int .i64 epoch, .agg #[.int .i64 o.k, .bool o.p.v, .int .u64 o.p.hi, .int .u64 o.p.lo, .int .i64 o.p.b, .bool o.a.v, .int .u64 o.a.hi, .int .u64 o.a.lo, .string o.who, .int .i64 o.pof, .int .i64 o.n]] W fun e w' => e = .returned (.int .i64 (wrE d.ep d.l epoch o)) ∧ Below W.heap.size W w') := fun he W kb hW hk => write_bad kb d.ep d.h d.u a c d.l epoch o W hk hc (hs.below hW) he
  unfold writeE Dk.bad at *
  generalize diskE d.ep d.h d.u d.l = r at *
  generalize wrE d.ep d.l epoch o = rr at *
  clear hs hc
  generalize d.l.length = N at *
  generalize d.ep = ep at *
  generalize d.h = h at *
  generalize d.u = u at *
  generalize o.k = y0 at *
  generalize o.p.v = y1 at *
  generalize o.p.hi = y2 at *
  generalize o.p.lo = y3 at *
  generalize o.p.b = y4 at *
  generalize o.a.v = y5 at *
  generalize o.a.hi = y6 at *
  generalize o.a.lo = y7 at *
  generalize o.who = y8 at *
  generalize o.pof = y9 at *
  generalize o.n = y10 at *
  by_cases hr : r = 0
  · subst hr
    rw [if_pos rfl] at h0
    rw [if_pos rfl]
    have hI : (rr != 0) = true := by rw [bne_iff_ne]; exact h0
    replace HWr := Lib.hid (HWr.out h0)
    clear h0
    go_enter Try.func6, Try.ntmps6
    go_wp2_with fail
    refine HC.out.mono ?_
    rintro e w2 ⟨rfl, hb2⟩
    have HB2 := Lib.hid (btr HB1.out hb2)
    have HD2 := Lib.hid (HD.out.upto (by simp <;> omega) hb2)
    have HO2 := Lib.hid (HO.out.upto (by simp <;> omega) hb2)
    have HR2 := Lib.hid (HR.out.upto (by simp <;> omega) hb2)
    have hz2 : w.heap.size + 1 + 1 < w2.heap.size := by have := HR2.out.lt; omega
    have hz1 : w.heap.size + 1 < w2.heap.size := by omega
    obtain ⟨⟨d0, d1, d2, d3⟩, _⟩ := HD2.out.four
    obtain ⟨⟨r0, r1, r2, r3⟩, s0, s1, s2, s3⟩ := HR2.out.four
    obtain ⟨q0, q1, q2, q3, q4, q5, q6, q7, q8, q9, q10⟩ : w2.cell? ⟨w.heap.size + 1, 0, none⟩ = some (.int .i64 y0) ∧ w2.cell? ⟨w.heap.size + 1, 1, none⟩ = some (.bool y1) ∧ w2.cell? ⟨w.heap.size + 1, 2, none⟩ = some (.int .u64 y2) ∧ w2.cell? ⟨w.heap.size + 1, 3, none⟩ = some (.int .u64 y3) ∧ w2.cell? ⟨w.heap.size + 1, 4, none⟩ = some (.int .i64 y4) ∧ w2.cell? ⟨w.heap.size + 1, 5, none⟩ = some (.bool y5) ∧ w2.cell? ⟨w.heap.size + 1, 6, none⟩ = some (.int .u64 y6) ∧ w2.cell? ⟨w.heap.size + 1, 7, none⟩ = some (.int .u64 y7) ∧ w2.cell? ⟨w.heap.size + 1, 8, none⟩ = some (.string y8) ∧ w2.cell? ⟨w.heap.size + 1, 9, none⟩ = some (.int .i64 y9) ∧ w2.cell? ⟨w.heap.size + 1, 10, none⟩ = some (.int .i64 y10) := ⟨HO2.out.cell 0 _ rfl, HO2.out.cell 1 _ rfl, HO2.out.cell 2 _ rfl, HO2.out.cell 3 _ rfl, HO2.out.cell 4 _ rfl, HO2.out.cell 5 _ rfl, HO2.out.cell 6 _ rfl, HO2.out.cell 7 _ rfl, HO2.out.cell 8 _ rfl, HO2.out.cell 9 _ rfl, HO2.out.cell 10 _ rfl⟩
    clear hb2 HC HB1 HD HR HO
    have HK3 : Hid (KpAt (w2.alloc (.cells #[.int .i64 ep, .int .i64 h, .int .i64 u, .slice a N c] 47)) w2.heap.size ep h u (.slice a N c)) := KpAt.new w2 ep h u _
    have HR3 := Lib.hid (HR2.out.below (bal (Below.refl w2.heap.size w2) (.cells #[.int .i64 ep, .int .i64 h, .int .i64 u, .slice a N c] 47)))
    have HB3 := Lib.hid (bal HB2.out (.cells #[.int .i64 ep, .int .i64 h, .int .i64 u, .slice a N c] 47))
    go_wp2_with fail
    refine (HWr.out _ _ HB3.out HK3.out).mono ?_
    rintro e w4 ⟨rfl, hb4⟩
    have HR4 := Lib.hid (HR3.out.below hb4)
    have HB4 := Lib.hid (btr HB3.out hb4)
    obtain ⟨⟨r0, r1, r2, r3⟩, s0, s1, s2, s3⟩ := HR4.out.four
    clear hb4 HR3 HR2 HB3 HB2
    go_wp2
    refine bodyPost_ret (v := .tuple #[.agg #[.int .i64 0, .int .i64 0, .int .i64 0, .slice none 0 0], .int .i64 rr]) ?_ rfl ⟨rfl, ?_⟩
    · simp [results, Try.results6, go_sem, r0, r1, r2, r3]
    · (repeat' (first | exact HB4.out | with_reducible refine Below.drew ?_ | with_reducible refine bse ?_ (by first | (simp; done) | (simp; omega) | (show _ ≤ _; omega)) _))
  · rw [if_neg hr]
    have hI : (r != 0) = true := by rw [bne_iff_ne]; exact hr
    clear hr h0 HWr
    go_enter Try.func6, Try.ntmps6
    go_wp2_with fail
    refine HC.out.mono ?_
    rintro e w2 ⟨rfl, hb2⟩
    have HB2 := Lib.hid (btr HB1.out hb2)
    have HD2 := Lib.hid (HD.out.upto (by simp <;> omega) hb2)
    have HO2 := Lib.hid (HO.out.upto (by simp <;> omega) hb2)
    have HR2 := Lib.hid (HR.out.upto (by simp <;> omega) hb2)
    have hz2 : w.heap.size + 1 + 1 < w2.heap.size := by have := HR2.out.lt; omega
    have hz1 : w.heap.size + 1 < w2.heap.size := by omega
    obtain ⟨⟨d0, d1, d2, d3⟩, _⟩ := HD2.out.four
    obtain ⟨⟨r0, r1, r2, r3⟩, s0, s1, s2, s3⟩ := HR2.out.four
    obtain ⟨q0, q1, q2, q3, q4, q5, q6, q7, q8, q9, q10⟩ : w2.cell? ⟨w.heap.size + 1, 0, none⟩ = some (.int .i64 y0) ∧ w2.cell? ⟨w.heap.size + 1, 1, none⟩ = some (.bool y1) ∧ w2.cell? ⟨w.heap.size + 1, 2, none⟩ = some (.int .u64 y2) ∧ w2.cell? ⟨w.heap.size + 1, 3, none⟩ = some (.int .u64 y3) ∧ w2.cell? ⟨w.heap.size + 1, 4, none⟩ = some (.int .i64 y4) ∧ w2.cell? ⟨w.heap.size + 1, 5, none⟩ = some (.bool y5) ∧ w2.cell? ⟨w.heap.size + 1, 6, none⟩ = some (.int .u64 y6) ∧ w2.cell? ⟨w.heap.size + 1, 7, none⟩ = some (.int .u64 y7) ∧ w2.cell? ⟨w.heap.size + 1, 8, none⟩ = some (.string y8) ∧ w2.cell? ⟨w.heap.size + 1, 9, none⟩ = some (.int .i64 y9) ∧ w2.cell? ⟨w.heap.size + 1, 10, none⟩ = some (.int .i64 y10) := ⟨HO2.out.cell 0 _ rfl, HO2.out.cell 1 _ rfl, HO2.out.cell 2 _ rfl, HO2.out.cell 3 _ rfl, HO2.out.cell 4 _ rfl, HO2.out.cell 5 _ rfl, HO2.out.cell 6 _ rfl, HO2.out.cell 7 _ rfl, HO2.out.cell 8 _ rfl, HO2.out.cell 9 _ rfl, HO2.out.cell 10 _ rfl⟩
    clear hb2 HC HB1 HD HR HO
    go_wp2_with fail
    refine bodyPost_ret (v := .tuple #[.agg #[.int .i64 0, .int .i64 0, .int .i64 0, .slice none 0 0], .int .i64 r]) ?_ rfl ⟨rfl, ?_⟩
    · simp [results, Try.results6, go_sem, r0, r1, r2, r3]
    · (repeat' (first | exact HB2.out | with_reducible refine Below.drew ?_ | with_reducible refine bse ?_ (by first | (simp; done) | (simp; omega) | (show _ ≤ _; omega)) _))

set_option maxHeartbeats 16000000 in
set_option maxRecDepth 100000 in
theorem fwrite_ok (d : Dk) (a : Option Addr) (c : Nat) (epoch : Int) (o : Opd) (w : World) (hc : d.l.length ≤ c) (hs : Lies enE w a d.l) (h0 : writeE d epoch o = 0) :
    Calls Try.prog 6 #[.agg #[.int .i64 d.ep, .int .i64 d.h, .int .i64 d.u, .slice a d.l.length c], .int .i64 epoch, .agg #[.int .i64 o.k, .bool o.p.v, .int .u64 o.p.hi, .int .u64 o.p.lo, .int .i64 o.p.b, .bool o.a.v, .int .u64 o.a.hi, .int .u64 o.a.lo, .string o.who, .int .i64 o.pof, .int .i64 o.n]] w fun e w' => ∃ v, e = .returned (.tuple #[.agg #[.int .i64 d.ep, .int .i64 d.h, .int .i64 d.u, v], .int .i64 0]) ∧ w'.ownsRow w.heap.size 51 enE.k v (d.l.length + 1) (rowOf enE (d.l ++ [newE d.l epoch o])) ∧ Below w.heap.size w w' := by
  have hr : diskE d.ep d.h d.u d.l = 0 := by unfold writeE Dk.bad at h0; by_cases h : diskE d.ep d.h d.u d.l = 0; exact h; rw [if_neg h] at h0; exact absurd h0 h
  have hw0 : wrE d.ep d.l epoch o = 0 := by unfold writeE Dk.bad at h0; rw [if_pos hr] at h0; exact h0
  obtain ⟨W1, hW1⟩ : ∃ W1, W1 = ((w.alloc (.cells #[.int .i64 d.ep, .int .i64 d.h, .int .i64 d.u, .slice a d.l.length c] 26)).alloc (.cells #[.int .i64 o.k, .bool o.p.v, .int .u64 o.p.hi, .int .u64 o.p.lo, .int .i64 o.p.b, .bool o.a.v, .int .u64 o.a.hi, .int .u64 o.a.lo, .string o.who, .int .i64 o.pof, .int .i64 o.n] 33)).alloc (.cells #[.int .i64 0, .int .i64 0, .int .i64 0, .slice none 0 0] 26) := ⟨_, rfl⟩
  have hb1 : Below w.heap.size w W1 := by rw [hW1]; exact bal (bal (bal (Below.refl w.heap.size w) _) _) _
  have hD : Blk W1 w.heap.size 26 [.int .i64 d.ep, .int .i64 d.h, .int .i64 d.u, .slice a d.l.length c] := by rw [hW1]; exact ((Blk.new w _ _).below (bal (Below.refl _ _) _)).below (bal (Below.refl _ _) _)
  have hO : Blk W1 (w.heap.size + 1) 33 [.int .i64 o.k, .bool o.p.v, .int .u64 o.p.hi, .int .u64 o.p.lo, .int .i64 o.p.b, .bool o.a.v, .int .u64 o.a.hi, .int .u64 o.a.lo, .string o.who, .int .i64 o.pof, .int .i64 o.n] := by
    rw [hW1]
    have := Blk.new (w.alloc (.cells #[.int .i64 d.ep, .int .i64 d.h, .int .i64 d.u, .slice a d.l.length c] 26)) [.int .i64 o.k, .bool o.p.v, .int .u64 o.p.hi, .int .u64 o.p.lo, .int .i64 o.p.b, .bool o.a.v, .int .u64 o.a.hi, .int .u64 o.a.lo, .string o.who, .int .i64 o.pof, .int .i64 o.n] 33
    rw [show (w.alloc (.cells #[.int .i64 d.ep, .int .i64 d.h, .int .i64 d.u, .slice a d.l.length c] 26)).heap.size = w.heap.size + 1 by simp] at this
    exact this.below (bal (Below.refl _ _) _)
  have hR : Blk W1 (w.heap.size + 1 + 1) 26 [.int .i64 0, .int .i64 0, .int .i64 0, .slice none 0 0] := by
    rw [hW1]
    have := Blk.new ((w.alloc (.cells #[.int .i64 d.ep, .int .i64 d.h, .int .i64 d.u, .slice a d.l.length c] 26)).alloc (.cells #[.int .i64 o.k, .bool o.p.v, .int .u64 o.p.hi, .int .u64 o.p.lo, .int .i64 o.p.b, .bool o.a.v, .int .u64 o.a.hi, .int .u64 o.a.lo, .string o.who, .int .i64 o.pof, .int .i64 o.n] 33)) [.int .i64 0, .int .i64 0, .int .i64 0, .slice none 0 0] 26
    rw [show ((w.alloc (.cells #[.int .i64 d.ep, .int .i64 d.h, .int .i64 d.u, .slice a d.l.length c] 26)).alloc (.cells #[.int .i64 o.k, .bool o.p.v, .int .u64 o.p.hi, .int .u64 o.p.lo, .int .i64 o.p.b, .bool o.a.v, .int .u64 o.a.hi, .int .u64 o.a.lo, .string o.who, .int .i64 o.pof, .int .i64 o.n] 33)).heap.size = w.heap.size + 1 + 1 by simp] at this
    exact this
  have HC := Lib.hid (fcheck_any d.ep d.h d.u a c d.l W1 hc (hs.below hb1))
  have HB1 := Lib.hid hb1
  have HD := Lib.hid hD
  have HO := Lib.hid hO
  have HR := Lib.hid hR
  rw [hW1] at HC HB1 HD HR HO
  clear hb1 hD hR hO hW1 W1
  rw [hr] at HC
  have HWr : Hid (∀ (W : World) (kb : Nat), Below w.heap.size w W → KpAt W kb d.ep d.h d.u (.slice a d.l.length c) → Calls Try.prog 16 #[.pointer (some ⟨kb, 0, none⟩), .int .i64 epoch, .agg #[.int .i64 o.k, .bool o.p.v, .int .u64 o.p.hi, .int .u64 o.p.lo, .int .i64 o.p.b, .bool o.a.v, .int .u64 o.a.hi, .int .u64 o.a.lo, .string o.who, .int .i64 o.pof, .int .i64 o.n]] W fun e w' => e = .returned (.int .i64 0) ∧ ∃ a' c', KpAt w' kb d.ep d.h d.u (.slice a' (d.l.length + 1) c') ∧ w'.ownsRow W.heap.size 51 enE.k (.slice a' (d.l.length + 1) c') (d.l.length + 1) (rowOf enE (d.l ++ [newE d.l epoch o])) ∧ Below kb W w') := fun W kb hW hk => write_ok kb d.ep d.h d.u a c d.l epoch o W hk hc (hs.below hW) hw0
  generalize rowOf enE (d.l ++ [newE d.l epoch o]) = row at *
  clear h0 hr hw0 hs hc
  generalize d.l.length = N at *
  generalize d.ep = ep at *
  generalize d.h = h at *
  generalize d.u = u at *
  generalize o.k = y0 at *
  generalize o.p.v = y1 at *
  generalize o.p.hi = y2 at *
  generalize o.p.lo = y3 at *
  generalize o.p.b = y4 at *
  generalize o.a.v = y5 at *
  generalize o.a.hi = y6 at *
  generalize o.a.lo = y7 at *
  generalize o.who = y8 at *
  generalize o.pof = y9 at *
  generalize o.n = y10 at *
  go_enter Try.func6, Try.ntmps6
  go_wp2_with fail
  refine HC.out.mono ?_
  rintro e w2 ⟨rfl, hb2⟩
  have HB2 := Lib.hid (btr HB1.out hb2)
  have HD2 := Lib.hid (HD.out.upto (by simp <;> omega) hb2)
  have HO2 := Lib.hid (HO.out.upto (by simp <;> omega) hb2)
  have HR2 := Lib.hid (HR.out.upto (by simp <;> omega) hb2)
  have hz2 : w.heap.size + 1 + 1 < w2.heap.size := by have := HR2.out.lt; omega
  have hz1 : w.heap.size + 1 < w2.heap.size := by omega
  obtain ⟨⟨d0, d1, d2, d3⟩, _⟩ := HD2.out.four
  obtain ⟨⟨r0, r1, r2, r3⟩, s0, s1, s2, s3⟩ := HR2.out.four
  obtain ⟨q0, q1, q2, q3, q4, q5, q6, q7, q8, q9, q10⟩ : w2.cell? ⟨w.heap.size + 1, 0, none⟩ = some (.int .i64 y0) ∧ w2.cell? ⟨w.heap.size + 1, 1, none⟩ = some (.bool y1) ∧ w2.cell? ⟨w.heap.size + 1, 2, none⟩ = some (.int .u64 y2) ∧ w2.cell? ⟨w.heap.size + 1, 3, none⟩ = some (.int .u64 y3) ∧ w2.cell? ⟨w.heap.size + 1, 4, none⟩ = some (.int .i64 y4) ∧ w2.cell? ⟨w.heap.size + 1, 5, none⟩ = some (.bool y5) ∧ w2.cell? ⟨w.heap.size + 1, 6, none⟩ = some (.int .u64 y6) ∧ w2.cell? ⟨w.heap.size + 1, 7, none⟩ = some (.int .u64 y7) ∧ w2.cell? ⟨w.heap.size + 1, 8, none⟩ = some (.string y8) ∧ w2.cell? ⟨w.heap.size + 1, 9, none⟩ = some (.int .i64 y9) ∧ w2.cell? ⟨w.heap.size + 1, 10, none⟩ = some (.int .i64 y10) := ⟨HO2.out.cell 0 _ rfl, HO2.out.cell 1 _ rfl, HO2.out.cell 2 _ rfl, HO2.out.cell 3 _ rfl, HO2.out.cell 4 _ rfl, HO2.out.cell 5 _ rfl, HO2.out.cell 6 _ rfl, HO2.out.cell 7 _ rfl, HO2.out.cell 8 _ rfl, HO2.out.cell 9 _ rfl, HO2.out.cell 10 _ rfl⟩
  clear hb2 HC HB1 HD HR HO
  have HK3 : Hid (KpAt (w2.alloc (.cells #[.int .i64 ep, .int .i64 h, .int .i64 u, .slice a N c] 47)) w2.heap.size ep h u (.slice a N c)) := KpAt.new w2 ep h u _
  have HR3 := Lib.hid (HR2.out.below (bal (Below.refl w2.heap.size w2) (.cells #[.int .i64 ep, .int .i64 h, .int .i64 u, .slice a N c] 47)))
  have HB3 := Lib.hid (bal HB2.out (.cells #[.int .i64 ep, .int .i64 h, .int .i64 u, .slice a N c] 47))
  go_wp2_with fail
  refine (HWr.out _ _ HB3.out HK3.out).mono ?_
  rintro e w4 ⟨rfl, a5, c5, hk4, ho4, hb4⟩
  have HR4 := Lib.hid (HR2.out.upto hz2 ((bal (Below.refl w2.heap.size w2) _).trans hb4))
  have HB4 := Lib.hid (btr HB2.out ((bal (Below.refl w2.heap.size w2) _).trans hb4))
  have HO5 := Lib.hid (own_st (own_st (own_st (own_st ho4 (b := w.heap.size + 1 + 1) (j := 0) (by simp; omega) (.int .i64 ep)) (b := w.heap.size + 1 + 1) (j := 1) (by simp; omega) (.int .i64 h)) (b := w.heap.size + 1 + 1) (j := 2) (by simp; omega) (.int .i64 u)) (b := w.heap.size + 1 + 1) (j := 3) (by simp; omega) (.slice a5 (N + 1) c5))
  obtain ⟨⟨r0, r1, r2, r3⟩, s0, s1, s2, s3⟩ := HR4.out.four
  obtain ⟨⟨k0, k1, k2, k3⟩, g0, g1, g2, g3⟩ := hk4.cells
  clear hb4 HR3 HR2 ho4 hk4
  go_wp2
  refine bodyPost_ret (v := .tuple #[.agg #[.int .i64 ep, .int .i64 h, .int .i64 u, .slice a5 (N + 1) c5], .int .i64 0]) ?_ rfl ⟨_, rfl, ?_, ?_⟩
  · simp [results, Try.results6, go_sem, r0, r1, r2, r3]
  · exact row_base HO5.out HB3.out.size
  · (repeat' (first | exact HB4.out | with_reducible refine Below.drew ?_ | with_reducible refine bse ?_ (by first | (simp; done) | (simp; omega) | (show _ ≤ _; omega)) _))
end Go.Proofs.Ytjainfehlbfiaaa
