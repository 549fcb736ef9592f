/- shipBegun: what must be in any case. -/
import Derived.Test.YtclnfkohlklbpaaShD
import Derived.Test.YtclnfkohlklbpaaLxA
import Derived.Deep.Cut
set_option linter.unusedVariables false
set_option linter.unusedSimpArgs false
namespace Go.Proofs.Ytclnfkohlklbpaa
open Go.RowKit

def logK : List En := [en1, en2, en3]
theorem k_n1 : nextE [en1] logK 1 = 0 := by kernel_rfl
theorem k_n2 : nextL [en1] logK 1 = [en2] := by
  have h := k_n1
  unfold nextL
  rw [if_pos h]
  rfl
theorem k_t1 : takeE [en1] [en2] = 0 := by kernel_rfl
theorem k_t2 : takeL [en1] [en2] = [en1, en2] := by
  unfold takeL
  rw [if_pos k_t1]
  rfl
theorem k_t3 : takeE [en1, en2] [en2] = 4 := by kernel_rfl
theorem k_t4 : takeL [en1, en2] [en2] = [] := by
  unfold takeL
  rw [if_neg (by rw [k_t3]; decide)]
set_option maxHeartbeats 16000000 in
set_option maxRecDepth 100000 in
theorem sbegun_ship (w : World) : Calls Try.prog 9 #[] w fun e w' => e = .returned (.bool true) ∧ Below w.heap.size w w' := by
  have hE : Hid (∀ W : World, Calls Try.prog 18 #[] W fun e w' => ∃ g : Nat, e = .returned (.slice (some ⟨g, 0, none⟩) 3 3) ∧ Lies enE w' (some ⟨g, 0, none⟩) logK ∧ W.heap.size ≤ g ∧ Below W.heap.size W w') := entries_any
  have hN : Hid (∀ (g g' : Nat) (W : World), Lies enE W (some ⟨g, 0, none⟩) logK → Lies enE W (some ⟨g', 0, none⟩) logK → Calls Try.prog 4 #[.slice (some ⟨g, 0, none⟩) 1 3, .slice (some ⟨g', 0, none⟩) 3 3, .int .i64 1] W fun e w' => ∃ a3 c3, e = .returned (.tuple #[.slice a3 1 c3, .int .i64 0]) ∧ 1 ≤ c3 ∧ Lies enE w' a3 [en2] ∧ Below W.heap.size W w') := fun g g' W h h' => by
    have := next_any (some ⟨g, 0, none⟩) (some ⟨g', 0, none⟩) 3 3 [en1] logK 1 W (by decide) (by decide) (h.take 1) h' (fun e => by simp at e)
    rw [k_n1, k_n2] at this
    exact this.mono fun e w' ⟨a3, c3, q1, q2, q3, q4, q5⟩ => ⟨a3, c3, q1, q2, q3, q5⟩
  have hT : Hid (∀ (g : Nat) (a : Option Addr) (c : Nat) (W : World), Lies enE W (some ⟨g, 0, none⟩) logK → 1 ≤ c → Lies enE W a [en2] → Calls Try.prog 5 #[.slice (some ⟨g, 0, none⟩) 1 3, .slice a 1 c] W fun e w' => ∃ a3 c3, e = .returned (.tuple #[.slice a3 2 c3, .int .i64 0]) ∧ 2 ≤ c3 ∧ Lies enE w' a3 [en1, en2] ∧ Below W.heap.size W w') := fun g a c W h hc h' => by
    have := take_any (some ⟨g, 0, none⟩) a 3 c [en1] [en2] W (by decide) hc (h.take 1) h' (fun e => by simp at e) (fun e => by subst e; exact absurd h'.none_nil (by simp))
    rw [k_t1, k_t2] at this
    exact this.mono fun e w' ⟨a3, c3, q1, q2, q3, q4, q5⟩ => ⟨a3, c3, q1, q2, q3, q5⟩
  have hU : Hid (∀ (b a : Option Addr) (d c : Nat) (W : World), 2 ≤ d → Lies enE W b [en1, en2] → 1 ≤ c → Lies enE W a [en2] → Calls Try.prog 5 #[.slice b 2 d, .slice a 1 c] W fun e w' => ∃ a3 c3, e = .returned (.tuple #[.slice a3 0 c3, .int .i64 4]) ∧ Below W.heap.size W w') := fun b a d c W hd h hc h' => by
    have := take_any b a d c [en1, en2] [en2] W hd hc h h' (fun e => by subst e; exact absurd h.none_nil (by simp)) (fun e => by subst e; exact absurd h'.none_nil (by simp))
    rw [k_t3, k_t4] at this
    exact this.mono fun e w' ⟨a3, c3, q1, q2, q3, q4, q5⟩ => ⟨a3, c3, q1, q5⟩
  have hS : Hid (∀ (b : Option Addr) (g d : Nat) (W : World), Lies enE W b [en1, en2] → Lies enE W (some ⟨g, 0, none⟩) logK → Calls Try.prog 17 #[.slice b 2 d, .slice (some ⟨g, 0, none⟩) 2 3] W fun e w' => e = .returned (.bool true) ∧ Below W.heap.size W w') := fun b g d W h h' => rsame_log b (some ⟨g, 0, none⟩) d 3 [en1, en2] W (by decide) h (h'.take 2)
  generalize logK = LK at *
  generalize [en1, en2] = L2 at *
  generalize [en2] = L1 at *
  go_enter Try.func9, Try.ntmps9
  go_wp2_with fail
  go_cut [1, 2] from 2 (fun sl se wc => ∃ (a1 : Option Addr) (c1 : Nat), sl = .slice a1 1 c1 ∧ se = .int .i64 0 ∧ Hid (Lies enE wc a1 L1 ∧ 1 ≤ c1 ∧ Below w.heap.size w wc))
  case first =>
    go_wp2_with fail
    go_region_with
      (first
        | (go_at_call 4; (refine (hN.out ga gb wb HLa2.out HLb.out).mono ?_); rintro e w1 ⟨a1, c1, rfl, hc1, hl1, hb1⟩; have HB1 := Lib.hid (btr HBb.out hb1); have HL1 := Lib.hid hl1; have HC1 := Lib.hid hc1; clear hb1 hl1 hc1)
        | (go_at_call 18; (refine (hE.out wa).mono ?_); rintro e wb ⟨gb, rfl, hlb, -, hbb⟩; have HBb := Lib.hid (btr HBa.out hbb); have HLa2 := Lib.hid (HLa.out.below hbb); have HLb := Lib.hid hlb; clear hlb hbb)
        | (go_at_call 18; (refine (hE.out w.drew).mono ?_); rintro e wa ⟨ga, rfl, hla, -, hba⟩; have HBa := Lib.hid (btr (Below.refl w.heap.size w).drew hba); have HLa := Lib.hid hla; clear hla hba))
    all_goals go_wp2_with fail
    all_goals go_meet
    all_goals exact ⟨a1, c1, rfl, rfl, ⟨HL1.out, HC1.out, HB1.out⟩⟩
  case rest =>
    obtain ⟨a1, c1, rfl, rfl, hK⟩ := hcut
    have HL1 := Lib.hid hK.out.1
    have HC1 := Lib.hid hK.out.2.1
    have HB1 := Lib.hid hK.out.2.2
    clear hK
    go_wp2_with fail
    refine (hE.out _).mono ?_
    rintro e w2 ⟨g2, rfl, hl2, -, hb2⟩
    have HB2 := Lib.hid (btr HB1.out hb2)
    have HL2 := Lib.hid (HL1.out.below hb2)
    have HK2 := Lib.hid hl2
    clear hb2 hl2 HL1 HB1
    go_wp2_with fail
    refine (hT.out _ _ _ _ HK2.out HC1.out HL2.out).mono ?_
    rintro e w3 ⟨a3, c3, rfl, hc3, hl3, hb3⟩
    have HB3 := Lib.hid (btr HB2.out hb3)
    have HL3 := Lib.hid (HL2.out.below hb3)
    have HM3 := Lib.hid hl3
    have HC3 := Lib.hid hc3
    clear hb3 hl3 hc3 HB2 HL2 HK2 hT
    go_wp2_with fail
    refine (hU.out _ _ _ _ _ HC3.out HM3.out HC1.out HL3.out).mono ?_
    rintro e w4 ⟨a4, c4, rfl, hb4⟩
    have HB4 := Lib.hid (btr HB3.out hb4)
    have HM4 := Lib.hid (HM3.out.below hb4)
    clear hb4 HB3 HM3 HL3 hU
    go_wp2_with fail
    refine (hE.out _).mono ?_
    rintro e w5 ⟨g5, rfl, hl5, -, hb5⟩
    have HB5 := Lib.hid (btr HB4.out hb5)
    have HM5 := Lib.hid (HM4.out.below hb5)
    have HK5 := Lib.hid hl5
    clear hb5 hl5 HB4 HM4
    go_wp2_with fail
    refine (hS.out _ _ _ _ HM5.out HK5.out).mono ?_
    rintro e w6 ⟨rfl, hb6⟩
    have HB6 := Lib.hid (btr HB5.out hb6)
    clear hb6 HB5 HM5 HK5
    go_wp2
    go_ret
    exact ⟨rfl, HB6.out⟩
end Go.Proofs.Ytclnfkohlklbpaa
