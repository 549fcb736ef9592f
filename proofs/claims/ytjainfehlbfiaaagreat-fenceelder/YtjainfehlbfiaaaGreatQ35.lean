/- store, fenceBegun; by one contract each: Acquire, Write. -/
import Derived.Test.YtjainfehlbfiaaaGreatQ07
import Derived.Test.YtjainfehlbfiaaaGreatQ34
import Derived.Deep.Cut
set_option linter.unusedVariables false
set_option linter.unusedSimpArgs false
namespace Go.Proofs.YtjainfehlbfiaaaGreat
open Go.RowKit

def logS : List En := [en1, en2, en3]
def dS : Dk := ⟨4, 1, 12, logS⟩
def dA : Dk := ⟨5, 2, 23, logS⟩
set_option maxRecDepth 100000 in
theorem s_check : diskE 4 1 12 logS = 0 := by kernel_rfl
set_option maxRecDepth 100000 in
theorem s_a : acqE dS 2 13 = 0 := by kernel_rfl
set_option maxRecDepth 100000 in
theorem s_f : acqE dS 2 12 = 4 := by kernel_rfl
set_option maxRecDepth 100000 in
theorem s_b : acqE dS 1 12 = 0 := by kernel_rfl
set_option maxRecDepth 100000 in
theorem s_h : writeE dA 4 op3 = 4 := by kernel_rfl
set_option maxRecDepth 100000 in
theorem s_i : writeE dA 5 op3 = 0 := by kernel_rfl
theorem lies_st {α : Type} {E : Enc α} {W : World} {g b j : Nat} {l : List α} (h : Lies E W (some ⟨g, 0, none⟩) l) (hne : b < g) (u : Value) : Lies E (W.setCell ⟨b, j, none⟩ u) (some ⟨g, 0, none⟩) l := by
  intro i hi
  obtain ⟨g', o, e, hg, c⟩ := h i hi
  obtain ⟨rfl, rfl⟩ : g = g' ∧ 0 = o := by simpa using e
  refine ⟨g, 0, rfl, by simpa using hg, fun k v hv => ?_⟩
  have := c k v hv
  simp only [World.cell?] at this ⊢
  rw [heap_setCell_other W ⟨b, j, none⟩ g u (Nat.ne_of_gt hne)]
  exact this
set_option maxHeartbeats 4000000 in
theorem store_any (w : World) : Calls Tryz.prog 12 #[] w fun e w' => ∃ g : Nat, e = .returned (.agg #[.int .i64 4, .int .i64 1, .int .i64 12, .slice (some ⟨g, 0, none⟩) 3 3]) ∧ Lies enE w' (some ⟨g, 0, none⟩) logS ∧ Below w.heap.size w w' := by
  have hE : Hid (∀ W : World, Calls Tryz.prog 15 #[] W fun e w' => ∃ g : Nat, e = .returned (.slice (some ⟨g, 0, none⟩) 3 3) ∧ Lies enE w' (some ⟨g, 0, none⟩) logS ∧ W.heap.size ≤ g ∧ Below W.heap.size W w') := entries_any
  have HR := Lib.hid (Blk.new w [.int .i64 0, .int .i64 0, .int .i64 0, .slice none 0 0] 26)
  have HB := Lib.hid (bal (Below.refl w.heap.size w) (.cells #[.int .i64 0, .int .i64 0, .int .i64 0, .slice none 0 0] 26))
  go_enter Tryz.func12, Tryz.ntmps12
  go_wp2_with fail
  refine (hE.out _).mono ?_
  rintro e w1 ⟨g, rfl, hl, hg, hb1⟩
  have HR1 := Lib.hid (HR.out.below hb1)
  have HB1 := Lib.hid (btr HB.out hb1)
  have HL := Lib.hid hl
  have hne : w.heap.size < g := Nat.lt_of_lt_of_le (by simp) hg
  obtain ⟨⟨r0, r1, r2, r3⟩, s0, s1, s2, s3⟩ := HR1.out.four
  clear hb1 hl HR HB hg
  go_wp2
  refine bodyPost_ret (v := .agg #[.int .i64 4, .int .i64 1, .int .i64 12, .slice (some ⟨g, 0, none⟩) 3 3]) ?_ rfl ⟨g, rfl, ?_, ?_⟩
  · simp [results, Tryz.results12, go_sem, r0, r1, r2, r3]
  · exact lies_st (lies_st (lies_st (lies_st HL.out hne _) hne _) hne _) hne _
  · (repeat' (first | exact HB1.out | with_reducible refine Below.drew ?_ | with_reducible refine bse ?_ (by first | (simp; done) | (simp; omega) | (show _ ≤ _; omega)) _))
theorem acqS (who now ep h u : Int) (d0 : acqE dS who now = 0) (hp : lendP 4 1 12 now = ep) (hh : who = h) (hu : now + 10 = u) (g : Nat) (W : World) (hs : Lies enE W (some ⟨g, 0, none⟩) logS) : Calls Tryz.prog 7 #[.agg #[.int .i64 4, .int .i64 1, .int .i64 12, .slice (some ⟨g, 0, none⟩) 3 3], .int .i64 who, .int .i64 now] W fun e w' => ∃ a c, e = .returned (.tuple #[.agg #[.int .i64 ep, .int .i64 h, .int .i64 u, .slice a 3 c], .int .i64 ep, .int .i64 0]) ∧ 3 ≤ c ∧ Lies enE w' a logS ∧ Below W.heap.size W w' := by
  subst hp; subst hh; subst hu
  refine (acq_ok dS (some ⟨g, 0, none⟩) 3 who now W (Nat.le_refl _) hs d0).mono ?_
  rintro e w' ⟨v, rfl, ho, hb⟩
  obtain ⟨a, c, rfl, hc, hl, _⟩ := own_open ho
  exact ⟨a, c, rfl, hc, hl, hb⟩
set_option maxHeartbeats 16000000 in
set_option maxRecDepth 100000 in
theorem fbegun_any (w : World) : Calls Tryz.prog 4 #[] w fun e w' => e = .returned (.bool true) ∧ Below w.heap.size w w' := by
  have hSt : Hid (∀ W : World, Calls Tryz.prog 12 #[] W fun e w' => ∃ g : Nat, e = .returned (.agg #[.int .i64 4, .int .i64 1, .int .i64 12, .slice (some ⟨g, 0, none⟩) 3 3]) ∧ Lies enE w' (some ⟨g, 0, none⟩) logS ∧ Below W.heap.size W w') := store_any
  have hSo : Hid (∀ W : World, Calls Tryz.prog 13 #[] W fun e w' => ∃ g : Nat, e = .returned (.slice (some ⟨g, 0, none⟩) 3 3) ∧ HasL w' g 0 [.int .i64 1, .bool false, .int .u64 0, .int .u64 8, .int .i64 30, .bool false, .int .u64 0, .int .u64 0, .string ⟨#[]⟩, .int .i64 0, .int .i64 0, .int .i64 2, .bool false, .int .u64 0, .int .u64 0, .int .i64 0, .bool false, .int .u64 0, .int .u64 8, .string ⟨#[]⟩, .int .i64 0, .int .i64 0, .int .i64 3, .bool false, .int .u64 0, .int .u64 0, .int .i64 0, .bool false, .int .u64 0, .int .u64 0, .string ⟨#[120]⟩, .int .i64 0, .int .i64 10] ∧ W.heap.size ≤ g ∧ Below W.heap.size W w') := some_any
  have hA := Lib.hid (acqS 2 13 5 2 23 s_a (by decide) rfl (by decide))
  have hB := Lib.hid (acqS 1 12 4 1 22 s_b (by decide) rfl (by decide))
  have hF : Hid (∀ (g : Nat) (W : World), Lies enE W (some ⟨g, 0, none⟩) logS → Calls Tryz.prog 7 #[.agg #[.int .i64 4, .int .i64 1, .int .i64 12, .slice (some ⟨g, 0, none⟩) 3 3], .int .i64 2, .int .i64 12] W fun e w' => e = .returned (.tuple #[.agg #[.int .i64 0, .int .i64 0, .int .i64 0, .slice none 0 0], .int .i64 0, .int .i64 4]) ∧ Below W.heap.size W w') := fun g W hs => by
    have := acq_bad dS (some ⟨g, 0, none⟩) 3 2 12 W (Nat.le_refl _) hs (by rw [s_f]; decide)
    rw [s_f] at this
    exact this
  have hH : Hid (∀ (a : Option Addr) (c : Nat) (W : World), 3 ≤ c → Lies enE W a logS → Calls Tryz.prog 8 #[.agg #[.int .i64 5, .int .i64 2, .int .i64 23, .slice a 3 c], .int .i64 4, .agg #[.int .i64 3, .bool false, .int .u64 0, .int .u64 0, .int .i64 0, .bool false, .int .u64 0, .int .u64 0, .string ⟨#[120]⟩, .int .i64 0, .int .i64 10]] W fun e w' => e = .returned (.tuple #[.agg #[.int .i64 0, .int .i64 0, .int .i64 0, .slice none 0 0], .int .i64 4]) ∧ Below W.heap.size W w') := fun a c W hc hs => by
    have := fwrite_bad dA a c 4 op3 W hc hs (by rw [s_h]; decide)
    rw [s_h] at this
    exact this
  have hI : Hid (∀ (a : Option Addr) (c : Nat) (W : World), 3 ≤ c → Lies enE W a logS → Calls Tryz.prog 8 #[.agg #[.int .i64 5, .int .i64 2, .int .i64 23, .slice a 3 c], .int .i64 5, .agg #[.int .i64 3, .bool false, .int .u64 0, .int .u64 0, .int .i64 0, .bool false, .int .u64 0, .int .u64 0, .string ⟨#[120]⟩, .int .i64 0, .int .i64 10]] W fun e w' => ∃ a' c', e = .returned (.tuple #[.agg #[.int .i64 5, .int .i64 2, .int .i64 23, .slice a' 4 c'], .int .i64 0]) ∧ Below W.heap.size W w') := fun a c W hc hs => by
    refine (fwrite_ok dA a c 5 op3 W hc hs s_i).mono ?_
    rintro e w' ⟨v, rfl, ho, hb⟩
    obtain ⟨a', c', rfl⟩ := own_slice ho
    exact ⟨a', c', rfl, hb⟩
  have hC : Hid (∀ (g : Nat) (W : World), Lies enE W (some ⟨g, 0, none⟩) logS → Calls Tryz.prog 6 #[.agg #[.int .i64 4, .int .i64 1, .int .i64 12, .slice (some ⟨g, 0, none⟩) 3 3]] W fun e w' => e = .returned (.int .i64 0) ∧ Below W.heap.size W w') := fun g W hs => by
    have := fcheck_any 4 1 12 (some ⟨g, 0, none⟩) 3 logS W (Nat.le_refl _) hs
    rw [s_check] at this
    exact this
  go_enter Tryz.func4, Tryz.ntmps4
  go_wp2_with fail
  refine (hSt.out _).mono ?_
  rintro e w1 ⟨g1, rfl, hl1, hb1⟩
  go_wp2_with fail
  refine (hA.out g1 _ hl1).mono ?_
  rintro e w2 ⟨a2, c2, rfl, hc2, hl2, hb2⟩
  have HB2 := Lib.hid (bal (btr hb1 hb2) (.cells #[.int .i64 5, .int .i64 2, .int .i64 23, .slice a2 3 c2] 26))
  have HA := Lib.hid (Blk.new w2 [.int .i64 5, .int .i64 2, .int .i64 23, .slice a2 3 c2] 26)
  have HL := Lib.hid (hl2.below (bal (Below.refl w2.heap.size w2) (.cells #[.int .i64 5, .int .i64 2, .int .i64 23, .slice a2 3 c2] 26)))
  clear hl1 hb1 hb2 hl2 hA
  go_wp2_with fail
  refine (hSt.out _).mono ?_
  rintro e w3 ⟨g3, rfl, hl3, hb3⟩
  go_wp2_with fail
  refine (hF.out g3 _ hl3).mono ?_
  rintro e w4 ⟨rfl, hb4⟩
  have hb5 := bal (btr hb3 hb4) (.cells #[.int .i64 0, .int .i64 0, .int .i64 0, .slice none 0 0] 26)
  have HB4 := Lib.hid (btr HB2.out hb5)
  replace HA := Lib.hid (HA.out.below hb5)
  replace HL := Lib.hid (HL.out.below hb5)
  clear hl3 hb3 hb4 hb5 HB2 hF
  go_wp2_with fail
  refine (hSt.out _).mono ?_
  rintro e w5 ⟨g5, rfl, hl5, hb5⟩
  go_wp2_with fail
  refine (hB.out g5 _ hl5).mono ?_
  rintro e w6 ⟨a6, c6, rfl, hc6, hl6, hb6⟩
  have hb7 := bal (btr hb5 hb6) (.cells #[.int .i64 4, .int .i64 1, .int .i64 22, .slice a6 3 c6] 26)
  have HB := Lib.hid (Blk.new w6 [.int .i64 4, .int .i64 1, .int .i64 22, .slice a6 3 c6] 26)
  have HB6 := Lib.hid (btr HB4.out hb7)
  replace HA := Lib.hid (HA.out.below hb7)
  replace HL := Lib.hid (HL.out.below hb7)
  clear hl5 hb5 hl6 hb6 hb7 HB4 hB hc6
  go_wp2_with fail
  obtain ⟨W6, hW6⟩ : ∃ W6, W6 = w6.alloc (.cells #[.int .i64 4, .int .i64 1, .int .i64 22, .slice a6 3 c6] 26) := ⟨_, rfl⟩
  obtain ⟨bb, hbb⟩ : ∃ bb, bb = w6.heap.size := ⟨_, rfl⟩
  obtain ⟨ab, hab⟩ : ∃ ab, ab = w2.heap.size := ⟨_, rfl⟩
  rw [← hab] at HA
  rw [← hab, ← hbb]
  rw [← hbb, ← hW6] at HB
  rw [← hW6] at HA HL HB6 ⊢
  clear hW6 hbb hab
  have K0 : Hid (Below W6.heap.size W6 W6.drew) := (Below.refl _ _).drew
  have K1 : Hid (Below W6.heap.size W6 (W6.alloc (.cells #[.int .i64 0, .int .i64 0, .int .i64 0, .slice none 0 0] 26)).drew) := (bal (Below.refl _ _) _).drew
  have V1 : Hid (Blk (W6.alloc (.cells #[.int .i64 0, .int .i64 0, .int .i64 0, .slice none 0 0] 26)).drew W6.heap.size 26 [.int .i64 0, .int .i64 0, .int .i64 0, .slice none 0 0]) := Blk.new W6 [.int .i64 0, .int .i64 0, .int .i64 0, .slice none 0 0] 26
  obtain ⟨⟨a0, a1, a2', a3⟩, _⟩ := HA.out.four
  have hla : ab < W6.heap.size := HA.out.lt
  go_cut [10, 11] from 14 (fun sv se wc => se = .int .i64 4 ∧ Hid (Below W6.heap.size W6 wc))
  case first =>
    clear hSt hC hI HB HB6
    go_wp2_with fail
    go_region_with
      (first
        | (go_at_call 13; (with_reducible refine (hSo.out W6.drew).mono ?_); rintro e w6a ⟨gx, rfl, hx, hgx, hb⟩; have K7 := Lib.hid (btr K0.out hb); have A7 := Lib.hid (HA.out.below K7.out); have L7 := Lib.hid (HL.out.below K7.out); have L7a := Lib.hid (L7.out.below (bal (Below.refl w6a.heap.size w6a) (.cells #[.int .i64 0, .int .i64 0, .int .i64 0, .slice none 0 0] 26))); have K7a := Lib.hid (bal K7.out (.cells #[.int .i64 0, .int .i64 0, .int .i64 0, .slice none 0 0] 26)); have V7a := Lib.hid (Blk.new w6a [.int .i64 0, .int .i64 0, .int .i64 0, .slice none 0 0] 26); have ha7 : ab < w6a.heap.size := A7.out.lt; have hx7 : gx < w6a.heap.size := hx.2; obtain ⟨⟨c0, c1, c2', c3⟩, _⟩ := A7.out.four; obtain ⟨o6_0, o6_1, o6_2, o6_3, o6_4, o6_5, o6_6, o6_7, o6_8, o6_9, o6_10⟩ : w6a.cell? ⟨gx, 22, none⟩ = some (.int .i64 3) ∧ w6a.cell? ⟨gx, 23, none⟩ = some (.bool false) ∧ w6a.cell? ⟨gx, 24, none⟩ = some (.int .u64 0) ∧ w6a.cell? ⟨gx, 25, none⟩ = some (.int .u64 0) ∧ w6a.cell? ⟨gx, 26, none⟩ = some (.int .i64 0) ∧ w6a.cell? ⟨gx, 27, none⟩ = some (.bool false) ∧ w6a.cell? ⟨gx, 28, none⟩ = some (.int .u64 0) ∧ w6a.cell? ⟨gx, 29, none⟩ = some (.int .u64 0) ∧ w6a.cell? ⟨gx, 30, none⟩ = some (.string ⟨#[120]⟩) ∧ w6a.cell? ⟨gx, 31, none⟩ = some (.int .i64 0) ∧ w6a.cell? ⟨gx, 32, none⟩ = some (.int .i64 10) := ⟨hx.1 22 _ rfl, hx.1 23 _ rfl, hx.1 24 _ rfl, hx.1 25 _ rfl, hx.1 26 _ rfl, hx.1 27 _ rfl, hx.1 28 _ rfl, hx.1 29 _ rfl, hx.1 30 _ rfl, hx.1 31 _ rfl, hx.1 32 _ rfl⟩; clear hb hx)
        | (go_at_call 13; (with_reducible refine (hSo.out (W6.alloc (.cells #[.int .i64 0, .int .i64 0, .int .i64 0, .slice none 0 0] 26)).drew).mono ?_); rintro e w6a ⟨gx, rfl, hx, hgx, hb⟩; have K7 := Lib.hid (btr K1.out hb); have A7 := Lib.hid (HA.out.below K7.out); have L7 := Lib.hid (HL.out.below K7.out); have V7 := Lib.hid (V1.out.below hb); have ha7 : ab < w6a.heap.size := A7.out.lt; have hx7 : gx < w6a.heap.size := hx.2; obtain ⟨⟨c0, c1, c2', c3⟩, _⟩ := A7.out.four; obtain ⟨o6_0, o6_1, o6_2, o6_3, o6_4, o6_5, o6_6, o6_7, o6_8, o6_9, o6_10⟩ : w6a.cell? ⟨gx, 22, none⟩ = some (.int .i64 3) ∧ w6a.cell? ⟨gx, 23, none⟩ = some (.bool false) ∧ w6a.cell? ⟨gx, 24, none⟩ = some (.int .u64 0) ∧ w6a.cell? ⟨gx, 25, none⟩ = some (.int .u64 0) ∧ w6a.cell? ⟨gx, 26, none⟩ = some (.int .i64 0) ∧ w6a.cell? ⟨gx, 27, none⟩ = some (.bool false) ∧ w6a.cell? ⟨gx, 28, none⟩ = some (.int .u64 0) ∧ w6a.cell? ⟨gx, 29, none⟩ = some (.int .u64 0) ∧ w6a.cell? ⟨gx, 30, none⟩ = some (.string ⟨#[120]⟩) ∧ w6a.cell? ⟨gx, 31, none⟩ = some (.int .i64 0) ∧ w6a.cell? ⟨gx, 32, none⟩ = some (.int .i64 10) := ⟨hx.1 22 _ rfl, hx.1 23 _ rfl, hx.1 24 _ rfl, hx.1 25 _ rfl, hx.1 26 _ rfl, hx.1 27 _ rfl, hx.1 28 _ rfl, hx.1 29 _ rfl, hx.1 30 _ rfl, hx.1 31 _ rfl, hx.1 32 _ rfl⟩; clear hb hx)
        | (go_at_call 8; have V7' := V7; (with_reducible refine (hH.out a2 c2 w6a hc2 L7.out).mono ?_); rintro e w6b ⟨rfl, hb⟩; have K8 := Lib.hid (btr K7.out hb); have V8 := Lib.hid (V7.out.below hb); obtain ⟨⟨q0, q1, q2, q3⟩, q4, q5, q6, q7⟩ := V8.out.four; clear hb V7')
        | (go_at_call 8; (with_reducible refine (hH.out a2 c2 w6a hc2 L7.out).mono ?_); rintro e w6b ⟨rfl, hb⟩; have K8 := Lib.hid (btr K7.out hb); clear hb)
        | (go_at_call 8; (with_reducible refine (hH.out a2 c2 (w6a.alloc (.cells #[.int .i64 0, .int .i64 0, .int .i64 0, .slice none 0 0] 26)) hc2 L7a.out).mono ?_); rintro e w6b ⟨rfl, hb⟩; have K8 := Lib.hid (btr K7a.out hb); have V8 := Lib.hid (V7a.out.below hb); obtain ⟨⟨q0, q1, q2, q3⟩, q4, q5, q6, q7⟩ := V8.out.four; clear hb))
    all_goals go_wp2_with fail
    all_goals go_meet
    all_goals
      refine ⟨rfl, Lib.hid ?_⟩
      (repeat' (first | exact K8.out | with_reducible refine bal ?_ _ | with_reducible refine bse ?_ (by first | exact Nat.le_refl _ | exact K7.out.size) _))
  case rest =>
    obtain ⟨rfl, KC⟩ := hcut
    obtain ⟨W5, hW5⟩ : ∃ W5, W5 = wc := ⟨_, rfl⟩
    subst hW5
    replace HA := Lib.hid (HA.out.below KC.out)
    replace HB := Lib.hid (HB.out.below KC.out)
    replace HL := Lib.hid (HL.out.below KC.out)
    replace HB6 := Lib.hid (btr HB6.out KC.out)
    clear KC K0 K1 V1 a0 a1 a2' a3 hla hH
    go_wp2_with fail
    have K0 : Hid (Below W5.heap.size W5 W5.drew) := (Below.refl _ _).drew
    have K1 : Hid (Below W5.heap.size W5 (W5.alloc (.cells #[.int .i64 0, .int .i64 0, .int .i64 0, .slice none 0 0] 26)).drew) := (bal (Below.refl _ _) _).drew
    have V1 : Hid (Blk (W5.alloc (.cells #[.int .i64 0, .int .i64 0, .int .i64 0, .slice none 0 0] 26)).drew W5.heap.size 26 [.int .i64 0, .int .i64 0, .int .i64 0, .slice none 0 0]) := Blk.new W5 [.int .i64 0, .int .i64 0, .int .i64 0, .slice none 0 0] 26
    obtain ⟨⟨a0, a1, a2', a3⟩, _⟩ := HA.out.four
    have hla : ab < W5.heap.size := HA.out.lt
    go_cut [12, 13] from 14 (fun sv se wc => ∃ (cb : Nat) (a9 : Option Addr) (c9 : Nat), sv = .pointer (some ⟨cb, 0, none⟩) ∧ se = .int .i64 0 ∧ Hid (Blk wc cb 26 [.int .i64 5, .int .i64 2, .int .i64 23, .slice a9 4 c9] ∧ Below W5.heap.size W5 wc))
    case first =>
      clear hSt hC HB HB6
      go_wp2_with fail
      go_region_with
        (first
          | (go_at_call 13; (with_reducible refine (hSo.out W5.drew).mono ?_); rintro e w5a ⟨gx, rfl, hx, hgx, hb⟩; have K7 := Lib.hid (btr K0.out hb); have A7 := Lib.hid (HA.out.below K7.out); have L7 := Lib.hid (HL.out.below K7.out); have L7a := Lib.hid (L7.out.below (bal (Below.refl w5a.heap.size w5a) (.cells #[.int .i64 0, .int .i64 0, .int .i64 0, .slice none 0 0] 26))); have K7a := Lib.hid (bal K7.out (.cells #[.int .i64 0, .int .i64 0, .int .i64 0, .slice none 0 0] 26)); have V7a := Lib.hid (Blk.new w5a [.int .i64 0, .int .i64 0, .int .i64 0, .slice none 0 0] 26); have ha7 : ab < w5a.heap.size := A7.out.lt; have hx7 : gx < w5a.heap.size := hx.2; obtain ⟨⟨c0, c1, c2', c3⟩, _⟩ := A7.out.four; obtain ⟨o5_0, o5_1, o5_2, o5_3, o5_4, o5_5, o5_6, o5_7, o5_8, o5_9, o5_10⟩ : w5a.cell? ⟨gx, 22, none⟩ = some (.int .i64 3) ∧ w5a.cell? ⟨gx, 23, none⟩ = some (.bool false) ∧ w5a.cell? ⟨gx, 24, none⟩ = some (.int .u64 0) ∧ w5a.cell? ⟨gx, 25, none⟩ = some (.int .u64 0) ∧ w5a.cell? ⟨gx, 26, none⟩ = some (.int .i64 0) ∧ w5a.cell? ⟨gx, 27, none⟩ = some (.bool false) ∧ w5a.cell? ⟨gx, 28, none⟩ = some (.int .u64 0) ∧ w5a.cell? ⟨gx, 29, none⟩ = some (.int .u64 0) ∧ w5a.cell? ⟨gx, 30, none⟩ = some (.string ⟨#[120]⟩) ∧ w5a.cell? ⟨gx, 31, none⟩ = some (.int .i64 0) ∧ w5a.cell? ⟨gx, 32, none⟩ = some (.int .i64 10) := ⟨hx.1 22 _ rfl, hx.1 23 _ rfl, hx.1 24 _ rfl, hx.1 25 _ rfl, hx.1 26 _ rfl, hx.1 27 _ rfl, hx.1 28 _ rfl, hx.1 29 _ rfl, hx.1 30 _ rfl, hx.1 31 _ rfl, hx.1 32 _ rfl⟩; clear hb hx)
          | (go_at_call 13; (with_reducible refine (hSo.out (W5.alloc (.cells #[.int .i64 0, .int .i64 0, .int .i64 0, .slice none 0 0] 26)).drew).mono ?_); rintro e w5a ⟨gx, rfl, hx, hgx, hb⟩; have K7 := Lib.hid (btr K1.out hb); have A7 := Lib.hid (HA.out.below K7.out); have L7 := Lib.hid (HL.out.below K7.out); have V7 := Lib.hid (V1.out.below hb); have ha7 : ab < w5a.heap.size := A7.out.lt; have hx7 : gx < w5a.heap.size := hx.2; obtain ⟨⟨c0, c1, c2', c3⟩, _⟩ := A7.out.four; obtain ⟨o5_0, o5_1, o5_2, o5_3, o5_4, o5_5, o5_6, o5_7, o5_8, o5_9, o5_10⟩ : w5a.cell? ⟨gx, 22, none⟩ = some (.int .i64 3) ∧ w5a.cell? ⟨gx, 23, none⟩ = some (.bool false) ∧ w5a.cell? ⟨gx, 24, none⟩ = some (.int .u64 0) ∧ w5a.cell? ⟨gx, 25, none⟩ = some (.int .u64 0) ∧ w5a.cell? ⟨gx, 26, none⟩ = some (.int .i64 0) ∧ w5a.cell? ⟨gx, 27, none⟩ = some (.bool false) ∧ w5a.cell? ⟨gx, 28, none⟩ = some (.int .u64 0) ∧ w5a.cell? ⟨gx, 29, none⟩ = some (.int .u64 0) ∧ w5a.cell? ⟨gx, 30, none⟩ = some (.string ⟨#[120]⟩) ∧ w5a.cell? ⟨gx, 31, none⟩ = some (.int .i64 0) ∧ w5a.cell? ⟨gx, 32, none⟩ = some (.int .i64 10) := ⟨hx.1 22 _ rfl, hx.1 23 _ rfl, hx.1 24 _ rfl, hx.1 25 _ rfl, hx.1 26 _ rfl, hx.1 27 _ rfl, hx.1 28 _ rfl, hx.1 29 _ rfl, hx.1 30 _ rfl, hx.1 31 _ rfl, hx.1 32 _ rfl⟩; clear hb hx)
          | (go_at_call 8; have V7' := V7; (with_reducible refine (hI.out a2 c2 w5a hc2 L7.out).mono ?_); rintro e w5b ⟨a9, c9, rfl, hb⟩; have K8 := Lib.hid (btr K7.out hb); have V8 := Lib.hid (V7.out.below hb); obtain ⟨⟨q0, q1, q2, q3⟩, q4, q5, q6, q7⟩ := V8.out.four; clear hb V7')
          | (go_at_call 8; (with_reducible refine (hI.out a2 c2 w5a hc2 L7.out).mono ?_); rintro e w5b ⟨a9, c9, rfl, hb⟩; have K8 := Lib.hid (btr K7.out hb); clear hb)
          | (go_at_call 8; (with_reducible refine (hI.out a2 c2 (w5a.alloc (.cells #[.int .i64 0, .int .i64 0, .int .i64 0, .slice none 0 0] 26)) hc2 L7a.out).mono ?_); rintro e w5b ⟨a9, c9, rfl, hb⟩; have K8 := Lib.hid (btr K7a.out hb); have V8 := Lib.hid (V7a.out.below hb); obtain ⟨⟨q0, q1, q2, q3⟩, q4, q5, q6, q7⟩ := V8.out.four; clear hb))
      all_goals go_wp2_with fail
      all_goals go_meet
      all_goals
        refine ⟨_, a9, c9, rfl, rfl, Lib.hid ⟨?_, ?_⟩⟩
        · first
            | (have h4 := V8.out.put4 (.int .i64 5) (.int .i64 2) (.int .i64 23) (.slice a9 4 c9); with_reducible exact h4)
            | (have h4 := Blk.new w5b [.int .i64 5, .int .i64 2, .int .i64 23, .slice a9 4 c9] 26; exact h4)
        · (repeat' (first | exact K8.out | with_reducible refine bal ?_ _ | with_reducible refine bse ?_ (by first | exact Nat.le_refl _ | exact K7.out.size) _))
    case rest =>
      obtain ⟨cb, a9, c9, rfl, rfl, hcc⟩ := hcut
      replace HA := Lib.hid (HA.out.below hcc.out.2)
      replace HB := Lib.hid (HB.out.below hcc.out.2)
      replace HB6 := Lib.hid (btr HB6.out hcc.out.2)
      have HCb := Lib.hid hcc.out.1
      clear hcc K0 K1 V1 a0 a1 a2' a3 hla hI HL
      go_wp2_with fail
      refine (hSt.out _).mono ?_
      rintro e w9 ⟨g9, rfl, hl9, hb9⟩
      go_wp2_with fail
      refine (hC.out g9 _ hl9).mono ?_
      rintro e w10 ⟨rfl, hb10⟩
      have hbt := btr hb9 hb10
      obtain ⟨⟨x0, x1, x2, x3⟩, _⟩ := (HA.out.below hbt).four
      obtain ⟨⟨y0, y1, y2, y3⟩, _⟩ := (HB.out.below hbt).four
      obtain ⟨⟨z0, z1, z2, z3⟩, _⟩ := (HCb.out.below hbt).four
      have HBz := Lib.hid (btr HB6.out hbt)
      clear hbt hb9 hb10 hl9 HA HB HCb HB6
      go_wp2
      go_ret
      exact ⟨rfl, HBz.out⟩
end Go.Proofs.YtjainfehlbfiaaaGreat

namespace Go.Proofs.YtjainfehlbfiaaaGreat
open Go.RowKit

theorem acq_any (d : Dk) (a : Option Addr) (c : Nat) (who now : Int) (w : World) (hc : d.l.length ≤ c) (hs : Lies enE w a d.l) :
    Calls Tryz.prog 7 #[.agg #[.int .i64 d.ep, .int .i64 d.h, .int .i64 d.u, .slice a d.l.length c], .int .i64 who, .int .i64 now] w fun e w' => ∃ a' c', e = .returned (.tuple #[.agg #[.int .i64 (acqD d who now).ep, .int .i64 (acqD d who now).h, .int .i64 (acqD d who now).u, .slice a' (acqD d who now).l.length c'], .int .i64 (acqD d who now).ep, .int .i64 (acqE d who now)]) ∧ (acqD d who now).l.length ≤ c' ∧ Lies enE w' a' (acqD d who now).l ∧ (∀ g o, a' = some ⟨g, o, none⟩ → w.heap.size ≤ g) ∧ Below w.heap.size w w' := by
  by_cases h0 : acqE d who now = 0
  · refine (acq_ok d a c who now w hc hs h0).mono ?_
    rintro e w' ⟨v, rfl, ho, hb⟩
    obtain ⟨a', c', rfl, hc', hl, hg⟩ := own_open ho
    rw [show acqD d who now = ⟨lendP d.ep d.h d.u now, who, now + 10, d.l⟩ by unfold acqD; rw [if_pos h0], h0]
    exact ⟨a', c', rfl, hc', hl, hg, hb⟩
  · refine (acq_bad d a c who now w hc hs h0).mono ?_
    rintro e w' ⟨rfl, hb⟩
    rw [show acqD d who now = noDk by unfold acqD; rw [if_neg h0]]
    exact ⟨none, 0, rfl, Nat.le_refl _, Lies.nil _ _ _, fun g o e => by simp at e, hb⟩
theorem acq_zero {d : Dk} {who now : Int} (h : acqE d who now = 0) : d.bad = 0 ∧ (1 ≤ who ∧ who ≤ 2) ∧ (0 ≤ now ∧ now ≤ 9999) ∧ lendE d.ep d.h d.u who now = 0 ∧ acqD d who now = ⟨lendP d.ep d.h d.u now, who, now + 10, d.l⟩ := by
  have hD : acqD d who now = ⟨lendP d.ep d.h d.u now, who, now + 10, d.l⟩ := by unfold acqD; rw [if_pos h]
  unfold acqE at h
  by_cases h1 : d.bad = 0
  · rw [if_pos h1] at h
    by_cases h2 : who < 1 ∨ 2 < who ∨ outB now 9999 = true
    · rw [if_pos h2] at h; exact absurd h (by decide)
    · rw [if_neg h2] at h
      have h3 : outB now 9999 = false := by cases hh : outB now 9999; rfl; exact absurd (.inr (.inr hh)) h2
      exact ⟨h1, ⟨by omega, by omega⟩, outB_false.1 h3, h, hD⟩
  · rw [if_neg h1] at h; exact absurd h h1
theorem acq_mk {d : Dk} {who now : Int} (h1 : d.bad = 0) (h2 : 1 ≤ who) (h3 : who ≤ 2) (h4 : 0 ≤ now) (h5 : now ≤ 9999) : acqE d who now = lendE d.ep d.h d.u who now := by
  unfold acqE
  rw [if_pos h1, if_neg]
  rintro (h | h | h)
  · omega
  · omega
  · rw [outB_false.2 ⟨h4, h5⟩] at h; exact absurd h (by decide)
/-- What is right of a disk. -/
structure GoodD (d : Dk) : Prop where
  ep : 0 ≤ d.ep ∧ d.ep ≤ 999
  h : 0 ≤ d.h ∧ d.h ≤ 2
  u : 0 ≤ d.u ∧ d.u ≤ 10009
  held : d.h = 0 ↔ d.ep = 0
  none : d.h = 0 → d.u = 0
  log : logE d.l = 0
  old : ∀ x ∈ d.l, x.ep ≤ d.ep
theorem bad_iff (d : Dk) : d.bad = 0 ↔ GoodD d := by
  unfold Dk.bad diskE
  constructor
  · intro h0
    have hl : lockE d.ep d.h d.u = 0 := by
      by_cases hh : lockE d.ep d.h d.u = 0
      · exact hh
      · rw [if_neg hh] at h0; exact absurd h0 hh
    rw [if_pos hl] at h0
    unfold lockE at hl
    by_cases ho : (outB d.ep 999 || outB d.h 2 || outB d.u 10009) = true
    · rw [if_pos ho] at hl; exact absurd hl (by decide)
    rw [if_neg ho] at hl
    have ho' : (outB d.ep 999 || outB d.h 2 || outB d.u 10009) = false := by simpa using ho
    simp only [Bool.or_eq_false_iff] at ho'
    by_cases hb : (((d.h == 0) != (d.ep == 0)) || ((d.h == 0) && (d.u != 0))) = true
    · rw [if_pos hb] at hl; exact absurd hl (by decide)
    have hb' : (((d.h == 0) != (d.ep == 0)) || ((d.h == 0) && (d.u != 0))) = false := by simpa using hb
    rw [Bool.or_eq_false_iff] at hb'
    obtain ⟨hb1, hb2⟩ := hb'
    unfold dlogE at h0
    have hlg : logE d.l = 0 := by
      by_cases hh : logE d.l = 0
      · exact hh
      · rw [if_neg hh] at h0; exact absurd h0 hh
    rw [if_pos hlg] at h0
    have ha : (d.l.any fun n => decide (d.ep < n.ep)) = false := by
      cases hh : (d.l.any fun n => decide (d.ep < n.ep))
      · rfl
      · rw [hh, if_pos rfl] at h0; exact absurd h0 (by decide)
    refine ⟨outB_false.1 ho'.1.1, outB_false.1 ho'.1.2, outB_false.1 ho'.2, ?_, ?_, hlg, ?_⟩
    · have hbe : (d.h == 0) = (d.ep == 0) := by simpa using hb1
      rw [← beq_iff_eq (a := d.h), ← beq_iff_eq (a := d.ep), hbe]
    · intro hz
      rw [hz] at hb2
      simpa using hb2
    · intro x hx
      have := List.any_eq_false.1 ha x hx
      simp at this
      exact this
  · rintro ⟨h1, h2, h3, h4, h5, h6, h7⟩
    have hl : lockE d.ep d.h d.u = 0 := by
      unfold lockE
      rw [outB_false.2 h1, outB_false.2 h2, outB_false.2 h3, if_neg (by decide), if_neg]
      intro hb
      by_cases hz : d.h = 0
      · simp [hz, h4.1 hz, h5 hz] at hb
      · have he : ¬ d.ep = 0 := fun e => hz (h4.2 e)
        have b1 : (d.h == 0) = false := beq_eq_false_iff_ne.2 hz
        have b2 : (d.ep == 0) = false := beq_eq_false_iff_ne.2 he
        rw [b1, b2] at hb
        simp at hb
    rw [if_pos hl]
    unfold dlogE
    rw [if_pos h6, if_neg]
    intro ha
    obtain ⟨x, hx, hp⟩ := List.any_eq_true.1 ha
    have := h7 x hx
    simp at hp
    omega
theorem lend_zero {ep h u who now : Int} (e : lendE ep h u who now = 0) : (heldB h u now = true ∧ h = who ∧ lendP ep h u now = ep) ∨ (heldB h u now = false ∧ ep < 999 ∧ lendP ep h u now = ep + 1) := by
  unfold lendE at e
  unfold lendP
  cases hb : heldB h u now
  · rw [hb] at e
    right
    refine ⟨rfl, ?_, by simp⟩
    rw [if_neg (by simp)] at e
    by_cases h9 : 999 ≤ ep
    · rw [if_pos (by simp [h9])] at e; exact absurd e (by decide)
    · omega
  · rw [hb] at e
    left
    refine ⟨rfl, ?_, by simp⟩
    by_cases hw : h = who
    · exact hw
    · rw [if_pos (by simp [hw])] at e; exact absurd e (by decide)
/-- Who gets the lock has a disk that is right. -/
theorem acq_good {d : Dk} {who now : Int} (h : acqE d who now = 0) : GoodD (acqD d who now) ∧ 1 ≤ (acqD d who now).ep ∧ (acqD d who now).h = who ∧ (acqD d who now).u = now + 10 ∧ (acqD d who now).l = d.l ∧ d.ep ≤ (acqD d who now).ep ∧ (acqD d who now).ep ≤ d.ep + 1 := by
  obtain ⟨h1, h2, h3, h4, h5⟩ := acq_zero h
  have g := (bad_iff d).1 h1
  rw [h5]
  have hp : (0 ≤ lendP d.ep d.h d.u now ∧ lendP d.ep d.h d.u now ≤ 999) ∧ 1 ≤ lendP d.ep d.h d.u now ∧ d.ep ≤ lendP d.ep d.h d.u now ∧ lendP d.ep d.h d.u now ≤ d.ep + 1 := by
    have ge := g.ep
    rcases lend_zero h4 with ⟨hb, hw, hp⟩ | ⟨hb, hw, hp⟩
    · rw [hp]
      have : ¬ d.ep = 0 := fun e => by
        have := g.held.2 e
        unfold heldB at hb
        rw [this] at hb
        simp at hb
      omega
    · rw [hp]; omega
  refine ⟨⟨hp.1, ⟨by show 0 ≤ who; omega, by show who ≤ 2; omega⟩, ⟨by show 0 ≤ now + 10; omega, by show now + 10 ≤ 10009; omega⟩, ⟨fun e => ?_, fun e => ?_⟩, fun e => ?_, g.log, fun x hx => ?_⟩, hp.2.1, rfl, rfl, rfl, hp.2.2⟩
  · have : who = 0 := e
    omega
  · have : lendP d.ep d.h d.u now = 0 := e
    omega
  · have : who = 0 := e
    omega
  · have := g.old x hx
    show x.ep ≤ lendP d.ep d.h d.u now
    omega
/-- FenceTime: for so long. -/
theorem ft_other {d : Dk} {who now more : Int} (h : acqE d who now = 0) (h0 : 0 ≤ more) (h1 : more ≤ 9999 - now) (h2 : more ≤ 10) : acqE (acqD d who now) (3 - who) (now + more) = 4 := by
  obtain ⟨g, g1, gh, gu, _⟩ := acq_good h
  obtain ⟨_, hw, hn, _⟩ := acq_zero h
  rw [acq_mk ((bad_iff _).2 g) (by omega) (by omega) (by omega) (by omega), gh, gu]
  unfold lendE
  have hb : heldB who (now + 10) (now + more) = true := by unfold heldB; simp; omega
  rw [hb, if_pos (by simp; omega)]
theorem ft_same {d : Dk} {who now more : Int} (h : acqE d who now = 0) (h0 : 0 ≤ more) (h1 : more ≤ 9999 - now) (h2 : more ≤ 10) : acqE (acqD d who now) who (now + more) = 0 ∧ (acqD (acqD d who now) who (now + more)).ep = (acqD d who now).ep ∧ (acqD (acqD d who now) who (now + more)).u = now + more + 10 := by
  obtain ⟨g, g1, gh, gu, _⟩ := acq_good h
  obtain ⟨_, hw, hn, _⟩ := acq_zero h
  have hb : heldB who (now + 10) (now + more) = true := by unfold heldB; simp; omega
  have he : acqE (acqD d who now) who (now + more) = 0 := by
    rw [acq_mk ((bad_iff _).2 g) (by omega) (by omega) (by omega) (by omega), gh, gu]
    unfold lendE
    rw [hb]
    simp
  obtain ⟨_, _, _, _, e5⟩ := acq_zero he
  refine ⟨he, ?_, ?_⟩
  · rw [e5]
    show lendP _ _ _ _ = _
    rw [gh, gu]
    unfold lendP
    rw [hb, if_pos rfl]
  · rw [e5]
theorem ft_full {d : Dk} {who now more : Int} (h : acqE d who now = 0) (h0 : 0 ≤ more) (h1 : more ≤ 9999 - now) (h2 : ¬ more ≤ 10) (h9 : (acqD d who now).ep = 999) : acqE (acqD d who now) (3 - who) (now + more) = 2 := by
  obtain ⟨g, g1, gh, gu, _⟩ := acq_good h
  obtain ⟨_, hw, hn, _⟩ := acq_zero h
  rw [acq_mk ((bad_iff _).2 g) (by omega) (by omega) (by omega) (by omega), gh, gu, h9]
  have hb : heldB who (now + 10) (now + more) = false := by unfold heldB; simp; omega
  unfold lendE
  rw [hb]
  simp
theorem ft_free {d : Dk} {who now more : Int} (h : acqE d who now = 0) (h0 : 0 ≤ more) (h1 : more ≤ 9999 - now) (h2 : ¬ more ≤ 10) (h9 : ¬ (acqD d who now).ep = 999) : acqE (acqD d who now) (3 - who) (now + more) = 0 ∧ (acqD (acqD d who now) (3 - who) (now + more)).ep = (acqD d who now).ep + 1 ∧ (acqD (acqD d who now) (3 - who) (now + more)).h = 3 - who := by
  obtain ⟨g, g1, gh, gu, _⟩ := acq_good h
  obtain ⟨_, hw, hn, _⟩ := acq_zero h
  have hb : heldB who (now + 10) (now + more) = false := by unfold heldB; simp; omega
  have ge := g.ep
  have he : acqE (acqD d who now) (3 - who) (now + more) = 0 := by
    rw [acq_mk ((bad_iff _).2 g) (by omega) (by omega) (by omega) (by omega), gh, gu]
    unfold lendE
    rw [hb]
    simp
    omega
  obtain ⟨_, _, _, _, e5⟩ := acq_zero he
  refine ⟨he, ?_, ?_⟩
  · rw [e5]
    show lendP _ _ _ _ = _
    rw [gh, gu]
    unfold lendP
    rw [hb, if_neg (by decide)]
  · rw [e5]
end Go.Proofs.YtjainfehlbfiaaaGreat
