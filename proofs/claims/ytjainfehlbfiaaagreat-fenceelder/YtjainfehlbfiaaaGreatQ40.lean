/- logBegun: what must be of logs in any case. -/
import Derived.Test.YtjainfehlbfiaaaGreatQ39
import Derived.Test.YtjainfehlbfiaaaGreatQ36
import Derived.Test.YtjainfehlbfiaaaGreatQ34
set_option linter.unusedVariables false
set_option linter.unusedSimpArgs false
namespace Go.Proofs.YtjainfehlbfiaaaGreat
open Go.RowKit

def en4 : En := ⟨4, 4, op3⟩
def logU : List En := [en1, en2, en3]
def logV : List En := [en1, en2, en3, en4]
def ad9 : Ad := ⟨false, 0, 9, by decide⟩
set_option maxRecDepth 100000 in
theorem v_add : addE logU 4 op3 = 0 := by kernel_rfl
theorem v_new : logU ++ [newE logU 4 op3] = logV := rfl
set_option maxRecDepth 100000 in
theorem v_low : addE logU 3 op3 = 4 := by kernel_rfl
set_option maxRecDepth 100000 in
theorem v_log : logE logV = 0 := by kernel_rfl
set_option maxRecDepth 100000 in
theorem v_chk : logE logU = 0 := by kernel_rfl
set_option maxRecDepth 100000 in
theorem v_beg : begE logU logV = 0 ∧ begB logU logV = true := ⟨by kernel_rfl, by kernel_rfl⟩
set_option maxRecDepth 100000 in
theorem v_told : (playAll zSta [] logV).2 = [zeroAd, zeroAd, ad9, ad9] := by kernel_rfl
set_option maxRecDepth 100000 in
theorem v_len : (playAll zSta [] logV).1.l.length = 1 ∧ (playAll zSta [] logV).1.now = 0 := ⟨by kernel_rfl, by kernel_rfl⟩
set_option maxHeartbeats 32000000 in
set_option maxRecDepth 100000 in
theorem logbegun_any (w : World) : Calls Tryz.prog 5 #[] w fun e w' => e = .returned (.bool true) ∧ Below w.heap.size w w' := by
  have hE : Hid (∀ W : World, Calls Tryz.prog 15 #[] W fun e w' => ∃ g : Nat, e = .returned (.slice (some ⟨g, 0, none⟩) 3 3) ∧ Lies enE w' (some ⟨g, 0, none⟩) logU ∧ Below W.heap.size W w') := fun W => (entries_any W).mono fun e w' ⟨g, q1, q2, q3, q4⟩ => ⟨g, q1, q2, q4⟩
  have hS : Hid (∀ W : World, Calls Tryz.prog 13 #[] W fun e w' => ∃ g : Nat, e = .returned (.slice (some ⟨g, 0, none⟩) 3 3) ∧ HasL w' g 0 [.int .i64 1, .bool false, .int .u64 0, .int .u64 8, .int .i64 30, .bool false, .int .u64 0, .int .u64 0, .string ⟨#[]⟩, .int .i64 0, .int .i64 0, .int .i64 2, .bool false, .int .u64 0, .int .u64 0, .int .i64 0, .bool false, .int .u64 0, .int .u64 8, .string ⟨#[]⟩, .int .i64 0, .int .i64 0, .int .i64 3, .bool false, .int .u64 0, .int .u64 0, .int .i64 0, .bool false, .int .u64 0, .int .u64 0, .string ⟨#[120]⟩, .int .i64 0, .int .i64 10] ∧ Below W.heap.size W w') := fun W => (some_any W).mono fun e w' ⟨g, q1, q2, q3, q4⟩ => ⟨g, q1, q2, q4⟩
  have hV : Hid (∀ (n : Int) (w : World), Calls Tryz.prog 18 #[.int .u64 n] w fun e w' => e = .returned (.agg #[.bool false, .int .u64 0, .int .u64 n]) ∧ Below w.heap.size w w') := fun n w => (v4_any n w).mono fun e w' h => by obtain ⟨h1, c, rfl⟩ := h; exact ⟨h1, bal (Below.refl _ _) _⟩
  have hA : Hid (∀ (g : Nat) (W : World), Lies enE W (some ⟨g, 0, none⟩) logU → Calls Tryz.prog 14 #[.slice (some ⟨g, 0, none⟩) 3 3, .int .i64 4, .agg #[.int .i64 3, .bool false, .int .u64 0, .int .u64 0, .int .i64 0, .bool false, .int .u64 0, .int .u64 0, .string ⟨#[120]⟩, .int .i64 0, .int .i64 10]] W fun e w' => ∃ a c, e = .returned (.tuple #[.slice a 4 c, .int .i64 0]) ∧ 4 ≤ c ∧ Lies enE w' a logV ∧ Below W.heap.size W w') := fun g W h => by
    refine (add_ok (some ⟨g, 0, none⟩) 3 logU 4 op3 W (by decide) h v_add).mono ?_
    rintro e w' ⟨v', rfl, q1, q2⟩
    rw [v_new] at q1
    obtain ⟨a', c', rfl, k1, k2, k3⟩ := own_open q1
    exact ⟨a', c', rfl, k1, k2, q2⟩
  have hL : Hid (∀ (g : Nat) (W : World), Lies enE W (some ⟨g, 0, none⟩) logU → Calls Tryz.prog 14 #[.slice (some ⟨g, 0, none⟩) 3 3, .int .i64 3, .agg #[.int .i64 3, .bool false, .int .u64 0, .int .u64 0, .int .i64 0, .bool false, .int .u64 0, .int .u64 0, .string ⟨#[120]⟩, .int .i64 0, .int .i64 10]] W fun e w' => e = .returned (.tuple #[.slice none 0 0, .int .i64 4]) ∧ Below W.heap.size W w') := fun g W h => by
    have := add_bad (some ⟨g, 0, none⟩) 3 logU 3 op3 W (by decide) h (by rw [v_low]; decide)
    rw [v_low] at this
    exact this
  have hR : Hid (∀ (a : Option Addr) (c : Nat) (W : World), 4 ≤ c → Lies enE W a logV → Calls Tryz.prog 16 #[.slice a 4 c] W fun e w' => ∃ (a2 a5 : Option Addr) (g3 PN c2 c5 c3 : Nat), e = .returned (.tuple #[.agg #[.slice a2 PN c2, .slice a5 1 c5, .int .i64 0], .slice (some ⟨g3, 0, none⟩) 4 c3, .int .i64 0]) ∧ (w'.cell? ⟨g3, 9, none⟩ = some (.bool false) ∧ w'.cell? ⟨g3, 10, none⟩ = some (.int .u64 0) ∧ w'.cell? ⟨g3, 11, none⟩ = some (.int .u64 9) ∧ g3 < w'.heap.size) ∧ Below W.heap.size W w') := fun a c W hc h => by
    refine (replay_ok a c logV W hc h v_log).mono ?_
    rintro e w' ⟨a1, a2, a3, c1, c2, c3, P, rfl, -, -, q3, -, q5⟩
    rw [v_told] at q3 ⊢
    rw [v_len.1, v_len.2]
    rcases own_form q3 with ⟨e, e2⟩ | ⟨g, c', e, -⟩
    · exact absurd e2 (by simp)
    · injection e with e1 e2 e3
      obtain ⟨a', c'', e', k1, k2, k3⟩ := own_open q3
      injection e' with f1 f2 f3
      subst e1
      rw [← f1] at k2
      obtain ⟨g', o', ee, hg, ch⟩ := k2 3 (by decide)
      obtain ⟨rfl, rfl⟩ : g = g' ∧ 0 = o' := by simpa using ee
      exact ⟨a1, a2, g, P.length, c1, c2, c3, rfl, ⟨ch 0 _ rfl, ch 1 _ rfl, ch 2 _ rfl, hg⟩, q5⟩
  have hB : Hid (∀ (g : Nat) (a : Option Addr) (c : Nat) (W : World), 4 ≤ c → Lies enE W (some ⟨g, 0, none⟩) logU → Lies enE W a logV → Calls Tryz.prog 11 #[.slice (some ⟨g, 0, none⟩) 3 3, .slice a 4 c] W fun e w' => e = .returned (.tuple #[.bool true, .int .i64 0]) ∧ Below W.heap.size W w') := fun g a c W hc h h' => by
    have := begins_any (some ⟨g, 0, none⟩) a 3 c logU logV W (by decide) hc h h'
    rw [v_beg.1, v_beg.2] at this
    exact this
  have hC : Hid (∀ (g : Nat) (W : World), Lies enE W (some ⟨g, 0, none⟩) logU → Calls Tryz.prog 17 #[.slice (some ⟨g, 0, none⟩) 3 3] W fun e w' => e = .returned (.int .i64 0) ∧ Below W.heap.size W w') := fun g W h => by
    have := lcheck_any (some ⟨g, 0, none⟩) 3 logU W (by decide) h
    rw [v_chk] at this
    exact this
  generalize logU = LU at *
  generalize logV = LV at *
  go_enter Tryz.func5, Tryz.ntmps5
  go_wp2_with fail
  refine (hE.out _).mono ?_
  rintro e w1 ⟨g1, rfl, hl1, hb1⟩
  go_wp2_with fail
  refine (hS.out _).mono ?_
  rintro e w2 ⟨g2, rfl, hs2, hb2⟩
  have HL2 := Lib.hid (hl1.below hb2)
  have HB2 := Lib.hid (btr hb1 hb2)
  have q0 : w2.cell? ⟨g2, 22, none⟩ = some (.int .i64 3) := by have := hs2.1 22 _ rfl; rw [Nat.zero_add] at this; exact this
  have q1 : w2.cell? ⟨g2, 23, none⟩ = some (.bool false) := by have := hs2.1 23 _ rfl; rw [Nat.zero_add] at this; exact this
  have q2 : w2.cell? ⟨g2, 24, none⟩ = some (.int .u64 0) := by have := hs2.1 24 _ rfl; rw [Nat.zero_add] at this; exact this
  have q3 : w2.cell? ⟨g2, 25, none⟩ = some (.int .u64 0) := by have := hs2.1 25 _ rfl; rw [Nat.zero_add] at this; exact this
  have q4 : w2.cell? ⟨g2, 26, none⟩ = some (.int .i64 0) := by have := hs2.1 26 _ rfl; rw [Nat.zero_add] at this; exact this
  have q5 : w2.cell? ⟨g2, 27, none⟩ = some (.bool false) := by have := hs2.1 27 _ rfl; rw [Nat.zero_add] at this; exact this
  have q6 : w2.cell? ⟨g2, 28, none⟩ = some (.int .u64 0) := by have := hs2.1 28 _ rfl; rw [Nat.zero_add] at this; exact this
  have q7 : w2.cell? ⟨g2, 29, none⟩ = some (.int .u64 0) := by have := hs2.1 29 _ rfl; rw [Nat.zero_add] at this; exact this
  have q8 : w2.cell? ⟨g2, 30, none⟩ = some (.string ⟨#[120]⟩) := by have := hs2.1 30 _ rfl; rw [Nat.zero_add] at this; exact this
  have q9 : w2.cell? ⟨g2, 31, none⟩ = some (.int .i64 0) := by have := hs2.1 31 _ rfl; rw [Nat.zero_add] at this; exact this
  have q10 : w2.cell? ⟨g2, 32, none⟩ = some (.int .i64 10) := by have := hs2.1 32 _ rfl; rw [Nat.zero_add] at this; exact this
  clear hl1 hb1 hs2 hb2
  go_wp2_with fail
  refine (hA.out _ _ HL2.out).mono ?_
  rintro e w3 ⟨a3, c3, rfl, hc3, hl3, hb3⟩
  have HB3 := Lib.hid (btr HB2.out hb3)
  have HL3 := Lib.hid hl3
  have HC3 := Lib.hid hc3
  clear HL2 HB2 hl3 hc3 hb3 hA q0 q1 q2 q3 q4 q5 q6 q7 q8 q9 q10
  go_wp2_with fail
  refine (hR.out _ _ _ HC3.out HL3.out).mono ?_
  rintro e w4 ⟨a2, a5, g3, PN, c2, c5, c4, rfl, hk4, hb4⟩
  have hbx : Below w4.heap.size w4 (w4.alloc (.cells #[.slice a2 PN c2, .slice a5 1 c5, .int .i64 0] 55)) := bal (Below.refl _ _) _
  have HB4 := Lib.hid (btr (btr HB3.out hb4) hbx)
  have HL4 := Lib.hid ((HL3.out.below hb4).below hbx)
  have HX4 := Lib.hid (Blk.new w4 [.slice a2 PN c2, .slice a5 1 c5, .int .i64 0] 55)
  have HT4 : Hid ((w4.alloc (.cells #[.slice a2 PN c2, .slice a5 1 c5, .int .i64 0] 55)).cell? ⟨g3, 9, none⟩ = some (.bool false) ∧ (w4.alloc (.cells #[.slice a2 PN c2, .slice a5 1 c5, .int .i64 0] 55)).cell? ⟨g3, 10, none⟩ = some (.int .u64 0) ∧ (w4.alloc (.cells #[.slice a2 PN c2, .slice a5 1 c5, .int .i64 0] 55)).cell? ⟨g3, 11, none⟩ = some (.int .u64 9) ∧ g3 < (w4.alloc (.cells #[.slice a2 PN c2, .slice a5 1 c5, .int .i64 0] 55)).heap.size) := ⟨((bcell hbx).1 _ _ hk4.2.2.2).trans hk4.1, ((bcell hbx).1 _ _ hk4.2.2.2).trans hk4.2.1, ((bcell hbx).1 _ _ hk4.2.2.2).trans hk4.2.2.1, Nat.lt_of_lt_of_le hk4.2.2.2 hbx.size⟩
  clear hk4 hb4 hbx HL3 HB3 hR
  obtain ⟨sb, hsb⟩ : ∃ sb, sb = w4.heap.size := ⟨_, rfl⟩
  go_wp2_with fail
  rw [← hsb] at HX4 ⊢
  obtain ⟨w5, hw5⟩ : ∃ W, W = w4.alloc (.cells #[.slice a2 PN c2, .slice a5 1 c5, .int .i64 0] 55) := ⟨_, rfl⟩
  rw [show (w4.alloc (.cells [.slice a2 PN c2, .slice a5 1 c5, .int .i64 0].toArray 55)) = w5 from hw5.symm] at HX4
  rw [← hw5] at HB4 HL4 HT4 ⊢
  clear hw5 hsb
  refine (hE.out _).mono ?_
  rintro e w6 ⟨g6, rfl, hl6, hb6⟩
  have HL6 := Lib.hid (HL4.out.below hb6)
  go_wp2_with fail
  refine (hB.out _ _ _ _ HC3.out hl6 HL6.out).mono ?_
  rintro e w7 ⟨rfl, hb7⟩
  have KB := Lib.hid (btr hb6 hb7)
  clear hl6 hb6 hb7 HL6 HL4 hB
  go_wp2_with fail
  refine (hE.out _).mono ?_
  rintro e w8 ⟨g8, rfl, hl8, hb8⟩
  go_wp2_with fail
  refine (hS.out _).mono ?_
  rintro e w9 ⟨g9, rfl, hs9, hb9⟩
  have HL9 := Lib.hid (hl8.below hb9)
  have KB9 := Lib.hid (btr KB.out (btr hb8 hb9))
  have q0 : w9.cell? ⟨g9, 22, none⟩ = some (.int .i64 3) := by have := hs9.1 22 _ rfl; rw [Nat.zero_add] at this; exact this
  have q1 : w9.cell? ⟨g9, 23, none⟩ = some (.bool false) := by have := hs9.1 23 _ rfl; rw [Nat.zero_add] at this; exact this
  have q2 : w9.cell? ⟨g9, 24, none⟩ = some (.int .u64 0) := by have := hs9.1 24 _ rfl; rw [Nat.zero_add] at this; exact this
  have q3 : w9.cell? ⟨g9, 25, none⟩ = some (.int .u64 0) := by have := hs9.1 25 _ rfl; rw [Nat.zero_add] at this; exact this
  have q4 : w9.cell? ⟨g9, 26, none⟩ = some (.int .i64 0) := by have := hs9.1 26 _ rfl; rw [Nat.zero_add] at this; exact this
  have q5 : w9.cell? ⟨g9, 27, none⟩ = some (.bool false) := by have := hs9.1 27 _ rfl; rw [Nat.zero_add] at this; exact this
  have q6 : w9.cell? ⟨g9, 28, none⟩ = some (.int .u64 0) := by have := hs9.1 28 _ rfl; rw [Nat.zero_add] at this; exact this
  have q7 : w9.cell? ⟨g9, 29, none⟩ = some (.int .u64 0) := by have := hs9.1 29 _ rfl; rw [Nat.zero_add] at this; exact this
  have q8 : w9.cell? ⟨g9, 30, none⟩ = some (.string ⟨#[120]⟩) := by have := hs9.1 30 _ rfl; rw [Nat.zero_add] at this; exact this
  have q9 : w9.cell? ⟨g9, 31, none⟩ = some (.int .i64 0) := by have := hs9.1 31 _ rfl; rw [Nat.zero_add] at this; exact this
  have q10 : w9.cell? ⟨g9, 32, none⟩ = some (.int .i64 10) := by have := hs9.1 32 _ rfl; rw [Nat.zero_add] at this; exact this
  clear hl8 hs9 hb9 hb8 KB
  go_wp2_with fail
  refine (hL.out _ _ HL9.out).mono ?_
  rintro e wd ⟨rfl, hbd⟩
  have KBd := Lib.hid (btr KB9.out hbd)
  have HXd := Lib.hid (HX4.out.below KBd.out)
  have HSS : Hid (∀ W : World, Below wd.heap.size wd W → ((W.cell? ⟨sb, 0, none⟩ = some (.slice a2 PN c2) ∧ W.cell? ⟨sb, 1, none⟩ = some (.slice a5 1 c5) ∧ W.cell? ⟨sb, 2, none⟩ = some (.int .i64 0) ∧ W.cell? ⟨g3, 9, none⟩ = some (.bool false) ∧ W.cell? ⟨g3, 10, none⟩ = some (.int .u64 0) ∧ W.cell? ⟨g3, 11, none⟩ = some (.int .u64 9)) ∧ Below wd.heap.size wd W)) := fun W hW => ⟨⟨(HXd.out.below hW).cell 0 _ rfl, (HXd.out.below hW).cell 1 _ rfl, (HXd.out.below hW).cell 2 _ rfl, ((bcell (btr KBd.out hW)).1 _ _ HT4.out.2.2.2).trans HT4.out.1, ((bcell (btr KBd.out hW)).1 _ _ HT4.out.2.2.2).trans HT4.out.2.1, ((bcell (btr KBd.out hW)).1 _ _ HT4.out.2.2.2).trans HT4.out.2.2.1⟩, hW⟩
  have HBd := Lib.hid (btr HB4.out KBd.out)
  clear hbd KB9 HL9 HX4 HT4 HB4 KBd hL hS HXd q0 q1 q2 q3 q4 q5 q6 q7 q8 q9 q10
  have HBz := Lib.hid (Below.refl wd.heap.size wd).drew
  have HSd := Lib.hid (HSS.out _ HBz.out)
  go_wp2_with fail
  go_region_held3 (fun w' => ((w'.cell? ⟨sb, 0, none⟩ = some (.slice a2 PN c2) ∧ w'.cell? ⟨sb, 1, none⟩ = some (.slice a5 1 c5) ∧ w'.cell? ⟨sb, 2, none⟩ = some (.int .i64 0) ∧ w'.cell? ⟨g3, 9, none⟩ = some (.bool false) ∧ w'.cell? ⟨g3, 10, none⟩ = some (.int .u64 0) ∧ w'.cell? ⟨g3, 11, none⟩ = some (.int .u64 9)) ∧ Below wd.heap.size wd w'))
    (first | with_reducible exact HSS.out _ HBz.out | fail)
    (first
      | (go_at_call 15; refine (hE.out _).mono ?_; rintro e wx ⟨gq, rfl, hk, hb⟩; replace HBz := Lib.hid (btr HBz.out hb); have HKq := Lib.hid hk; clear hk hb)
      | (go_at_call 17; refine (hC.out _ _ HKq.out).mono ?_; rintro e wx ⟨rfl, hb⟩; replace HBz := Lib.hid (btr HBz.out hb); clear hb HKq)
      | (go_at_call 18; refine (hV.out _ _).mono ?_; rintro e wx ⟨rfl, hb⟩; replace HBz := Lib.hid (btr HBz.out hb); clear hb))
  have HBy : Hid (Below w.heap.size w wx) := btr HBd.out HBz.out
  clear HSS HSd HBz
  go_wp2_with fail
  go_ret
  exact ⟨rfl, HBy.out⟩
end Go.Proofs.YtjainfehlbfiaaaGreat
