/- yardarmlaw.spanBegun: the closed part of the laws on lists: it is true. -/
import Derived.Test.YtlgdkdplkdkkdaaSpH
import Derived.Test.YtlgdkdplkdkkdaaSaA
import Derived.Test.YtlgdkdplkdkkdaaNetV
set_option linter.unusedVariables false
set_option linter.unusedSimpArgs false
namespace Go.Proofs.Ytlgdkdplkdkkdaa
open Go.RowKit

def netP (n b : Int) : Pf := ⟨false, 0, n, b⟩
def bgL : List Pf := [netP 3 32, netP 0 31, netP 2 32, netP 1 32]
def bgS : List Pf := [netP 0 31, netP 1 32, netP 2 32, netP 3 32]
def bgM : List Pf := [netP 0 32, netP 2 31]
theorem netP_R {n b : Int} (h : 0 ≤ n) (h1 : n < 18446744073709551616) (hp : pchk false 0 n b = 0) : (netP n b).R := (right_iff false 0 n b (by decide) (by decide) h h1).1 hp
theorem netP_ok {n b : Int} (h : 0 ≤ n) (h1 : n < 18446744073709551616) : (netP n b).Ok := ⟨Int.le_refl 0, (by show (0 : Int) < 18446744073709551616; decide), h, h1⟩
theorem bgL_ok : ∀ p ∈ bgL, p.Ok := by
  intro p hp
  simp [bgL] at hp
  rcases hp with rfl | rfl | rfl | rfl <;> exact netP_ok (by decide) (by decide)
theorem bgS_R : ∀ p ∈ bgS, p.R := by
  intro p hp
  simp [bgS] at hp
  rcases hp with rfl | rfl | rfl | rfl <;> exact netP_R (by decide) (by decide) (by decide +kernel)
theorem bgM_R : ∀ p ∈ bgM, p.R := by
  intro p hp
  simp [bgM] at hp
  rcases hp with rfl | rfl <;> exact netP_R (by decide) (by decide) (by decide +kernel)
theorem bg30 : (netP 0 30).R := netP_R (by decide) (by decide) (by decide +kernel)
theorem bg1 : (netP 1 32).R := netP_R (by decide) (by decide) (by decide +kernel)
theorem bgL_chk : slkL bgL = 0 := by decide +kernel
theorem bg_norm : IsNorm [netP 0 30] (Adr (bgL.map Pf.nd)) := by
  have h := foldP_norm bgS_R (by decide +kernel)
  rw [show foldP bgS = [netP 0 30] by rfl] at h
  refine h.of (adr_perm fun q => ?_)
  simp only [bgS, bgL, List.map_cons, List.map_nil, List.mem_cons, List.not_mem_nil, or_false]
  constructor
  · rintro (h | h | h | h) <;> simp [h]
  · rintro (h | h | h | h) <;> simp [h]
theorem bg_minus : IsNorm bgM (fun v x => Adr ([netP 0 30].map Pf.nd) v x ∧ ¬ (netP 1 32).nd.In v x) := by
  have h := foldP_norm bgM_R (by decide +kernel)
  rw [show foldP bgM = bgM by rfl] at h
  have k := (cutAll_ok bg1 (l := [netP 0 30]) (fun q hq => by simp at hq; subst hq; exact bg30)).2.1
  rw [show cutAll (netP 1 32) [netP 0 30] = bgM by rfl] at k
  exact h.of k
theorem bg_has : sHasB [netP 0 30] false 0 3 = true ∧ sHasE [netP 0 30] false 0 3 = 0 := by decide +kernel
theorem bg_chk : sMinE [netP 0 30] (netP 1 32) = 0 := by decide +kernel
theorem bg30_ok : ∀ p ∈ [netP 0 30], p.Ok := fun p hp => by simp at hp; subst hp; exact netP_ok (by decide) (by decide)
theorem sl_one (w : World) (p : Pf) : Sl (w.alloc (.cells #[.bool p.v, .int .u64 p.hi, .int .u64 p.lo, .int .i64 p.b] 27)) (some ⟨w.heap.size, 0, none⟩) [p] := by
  intro j hj
  obtain rfl : j = 0 := by simp at hj; exact hj
  refine ⟨_, _, rfl, by simp, ?_⟩
  simp [go_sem]

set_option maxHeartbeats 8000000 in
set_option maxRecDepth 100000 in
theorem sbegun_any (w : World) : Calls Try.prog 12 #[] w fun e w' => e = .returned (.bool true) ∧ Below w.heap.size w w' := by
  have hN : Hid (∀ (n b : Int) (w : World), Calls Try.prog 26 #[.int .u64 n, .int .i64 b] w fun e w' => e = .returned (.agg #[.bool false, .int .u64 0, .int .u64 n, .int .i64 b]) ∧ Below w.heap.size w w') := net_any
  have hV : Hid (∀ w : World, Calls Try.prog 27 #[.int .u64 3] w fun e w' => e = .returned (.agg #[.bool false, .int .u64 0, .int .u64 3]) ∧ ∃ c, w' = w.alloc (.cells c 25)) := v4_any 3
  have hNo : Hid (∀ (g : Nat) (w : World), Sl w (some ⟨g, 0, none⟩) bgL → Calls Try.prog 4 #[.slice (some ⟨g, 0, none⟩) 4 4] w fun e w' => ∃ a c, e = .returned (.tuple #[.slice a 1 c, .int .i64 0]) ∧ Sl w' a [netP 0 30] ∧ Below w.heap.size w w') := fun g w h =>
    (sNorm_ok (some ⟨g, 0, none⟩) 4 bgL w bgL_ok h bgL_chk).mono fun e w' ⟨v, M, he, ho, hn, _, hb⟩ => by
      have := hn.uniq bg_norm
      subst this
      obtain ⟨a, c, rfl, _, hs⟩ := own_sl ho
      exact ⟨a, c, he, hs, hb⟩
  have hHa : Hid (∀ (a : Option Addr) (c : Nat) (w : World), Sl w a [netP 0 30] → Calls Try.prog 5 #[.slice a 1 c, .agg #[.bool false, .int .u64 0, .int .u64 3]] w fun e w' => e = .returned (.tuple #[.bool true, .int .i64 0]) ∧ Below w.heap.size w w') := fun a c w h => by
    have := sHas_any a c [netP 0 30] false 0 3 w bg30_ok h (by decide) (by decide)
    rw [bg_has.1, bg_has.2] at this
    exact this
  have hMi : Hid (∀ (a : Option Addr) (c : Nat) (w : World), Sl w a [netP 0 30] → Calls Try.prog 6 #[.slice a 1 c, .agg #[.bool false, .int .u64 0, .int .u64 1, .int .i64 32]] w fun e w' => ∃ a c, e = .returned (.tuple #[.slice a 2 c, .int .i64 0]) ∧ Sl w' a bgM ∧ Below w.heap.size w w') := fun a c w h =>
    (sMinus_ok a c [netP 0 30] (netP 1 32) w bg30_ok (netP_ok (by decide) (by decide)) h bg_chk).mono fun e w' ⟨v, M, he, ho, hn, _, hb⟩ => by
      have := hn.uniq bg_minus
      subst this
      obtain ⟨a, c, rfl, _, hs⟩ := own_sl ho
      exact ⟨a, c, he, hs, hb⟩
  have hS1 : Hid (∀ (a b : Option Addr) (c d : Nat) (w : World), Sl w a [netP 0 30] → Sl w b [netP 0 30] → Calls Try.prog 28 #[.slice a 1 c, .slice b 1 d] w fun e w' => e = .returned (.bool true) ∧ Below w.heap.size w w') := fun a b c d w h1 h2 => same_any a b c d [netP 0 30] w (by decide) h1 h2
  have hS2 : Hid (∀ (a b : Option Addr) (c d : Nat) (w : World), Sl w a bgM → Sl w b bgM → Calls Try.prog 28 #[.slice a 2 c, .slice b 2 d] w fun e w' => e = .returned (.bool true) ∧ Below w.heap.size w w') := fun a b c d w h1 h2 => same_any a b c d bgM w (by decide) h1 h2
  go_enter Try.func12, Try.ntmps12
  go_wp2_with fail
  refine (hN.out _ _ _).mono ?_
  rintro e w1 ⟨rfl, b1⟩
  go_wp2_with fail
  refine (hN.out _ _ _).mono ?_
  rintro e w2 ⟨rfl, b2⟩
  go_wp2_with fail
  refine (hN.out _ _ _).mono ?_
  rintro e w3 ⟨rfl, b3⟩
  go_wp2_with fail
  refine (hN.out _ _ _).mono ?_
  rintro e w4 ⟨rfl, b4⟩
  have HB := Lib.hid (btr (btr (btr b1 b2) b3) b4)
  clear b1 b2 b3 b4
  go_wp2_with fail
  refine (hNo.out _ _ ?_).mono ?_
  · intro j hj
    refine ⟨_, _, rfl, by simp, ?_⟩
    have : j = 0 ∨ j = 1 ∨ j = 2 ∨ j = 3 := by simp [bgL] at hj; omega
    rcases this with rfl | rfl | rfl | rfl
    · simp [bgL, netP, go_sem]
    · simp [bgL, netP, go_sem]
    · simp [bgL, netP, go_sem]
    · simp [bgL, netP, go_sem]
  rintro e w5 ⟨a5, c5, rfl, s5, b5⟩
  replace HB := Lib.hid (btr (bal HB.out _) b5)
  have HL := Lib.hid s5
  clear s5 b5 hNo
  go_wp2_with fail
  refine (hV.out _).mono ?_
  rintro e w6 ⟨rfl, cc, rfl⟩
  replace HL := Lib.hid (HL.out.below (bal (Below.refl _ _) (.cells cc 25)))
  replace HB := Lib.hid (bal HB.out (.cells cc 25))
  generalize w5.alloc (.cells cc 25) = w6 at *
  go_wp2_with fail
  refine (hHa.out _ _ _ HL.out).mono ?_
  rintro e w7 ⟨rfl, b7⟩
  replace HL := Lib.hid (HL.out.below b7)
  replace HB := Lib.hid (btr HB.out b7)
  clear b7 hHa hV
  go_wp2_with fail
  refine (hN.out _ _ _).mono ?_
  rintro e w8 ⟨rfl, b8⟩
  replace HL := Lib.hid (HL.out.below b8)
  replace HB := Lib.hid (btr HB.out b8)
  clear b8
  go_wp2_with fail
  refine (hMi.out _ _ _ HL.out).mono ?_
  rintro e w9 ⟨a9, c9, rfl, s9, b9⟩
  replace HL := Lib.hid (HL.out.below b9)
  replace HB := Lib.hid (btr HB.out b9)
  have HM := Lib.hid s9
  clear b9 s9 hMi
  go_wp2_with fail
  refine (hN.out _ _ _).mono ?_
  rintro e w10 ⟨rfl, b10⟩
  replace HL := Lib.hid (HL.out.below b10)
  replace HM := Lib.hid (HM.out.below b10)
  replace HB := Lib.hid (btr HB.out b10)
  clear b10
  go_wp2_with fail
  refine (hS1.out _ _ _ _ _ (HL.out.below (bal (Below.refl _ _) _)) (sl_one w10 (netP 0 30))).mono ?_
  rintro e w11 ⟨rfl, b11⟩
  replace HM := Lib.hid ((HM.out.below (bal (Below.refl _ _) _)).below b11)
  replace HB := Lib.hid (btr (bal HB.out _) b11)
  clear b11 HL hS1
  go_wp2_with fail
  refine (hN.out _ _ _).mono ?_
  rintro e w12 ⟨rfl, b12⟩
  replace HM := Lib.hid (HM.out.below b12)
  replace HB := Lib.hid (btr HB.out b12)
  clear b12
  go_wp2_with fail
  refine (hN.out _ _ _).mono ?_
  rintro e w13 ⟨rfl, b13⟩
  replace HM := Lib.hid (HM.out.below b13)
  replace HB := Lib.hid (btr HB.out b13)
  clear b13
  go_wp2_with fail
  refine (hS2.out _ _ _ _ _ (HM.out.below (bal (Below.refl _ _) _)) ?_).mono ?_
  · intro j hj
    refine ⟨_, _, rfl, by simp, ?_⟩
    have : j = 0 ∨ j = 1 := by simp [bgM] at hj; omega
    rcases this with rfl | rfl
    · simp [bgM, netP, go_sem]
    · simp [bgM, netP, go_sem]
  rintro e w14 ⟨rfl, b14⟩
  replace HB := Lib.hid (btr (bal HB.out _) b14)
  clear b14 HM hS2
  go_wp2
  go_ret
  exact ⟨rfl, HB.out⟩
end Go.Proofs.Ytlgdkdplkdkkdaa
