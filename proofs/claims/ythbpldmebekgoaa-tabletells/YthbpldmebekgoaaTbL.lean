/- yardarmlaw.tableBegun: the closed part of the laws on tables: it is true. -/
import Derived.Test.YthbpldmebekgoaaTbF
import Derived.Test.YthbpldmebekgoaaNetV
set_option linter.unusedVariables false
set_option linter.unusedSimpArgs false
namespace Go.Proofs.Ythbpldmebekgoaa
open Go.RowKit

def rts : List Pf := [⟨false, 0, 0, 0⟩, ⟨false, 0, 167772160, 8⟩, ⟨false, 0, 167837696, 16⟩]
theorem rts_ok : ∀ p ∈ rts, p.Ok := by
  intro p hp
  simp [rts] at hp
  rcases hp with rfl | rfl | rfl <;> exact ⟨by decide, by decide, by decide, by decide⟩
theorem rts_chk : tchkL rts = 0 := by decide +kernel
theorem rts_find : findI rts false 0 167838211 = 2 ∧ findE rts false 0 167838211 = 0 := by decide +kernel
theorem rts_above : aboveI rts 2 = 1 ∧ aboveE rts 2 = 0 := by decide +kernel
theorem rts_below : lowL rts 0 3 = [1] ∧ tlook rts 0 = 0 := by decide +kernel

theorem routes_any (w : World) : Calls Try.prog 23 #[] w fun e w' => ∃ g, e = .returned (.slice (some ⟨g, 0, none⟩) 3 3) ∧ Sl w' (some ⟨g, 0, none⟩) rts ∧ Below w.heap.size w w' := by
  have hN : Hid (∀ (n b : Int) (w : World), Calls Try.prog 35 #[.int .u64 n, .int .i64 b] w fun e w' => e = .returned (.agg #[.bool false, .int .u64 0, .int .u64 n, .int .i64 b]) ∧ Below w.heap.size w w') := net_any
  go_enter Try.func23, Try.ntmps23
  go_wp2_with fail
  refine (hN.out _ _ _).mono ?_
  rintro e w1 ⟨rfl, b1⟩
  go_wp2_with fail
  refine (hN.out _ _ _).mono ?_
  rintro e w2 ⟨rfl, b2⟩
  go_wp2_with fail
  refine (hN.out _ _ _).mono ?_
  rintro e w3 ⟨rfl, b3⟩
  have HB := Lib.hid (btr (btr b1 b2) b3)
  clear b1 b2 b3
  go_wp2
  go_ret
  refine ⟨_, rfl, ?_, bal HB.out _⟩
  intro j hj
  refine ⟨_, _, rfl, by simp, ?_⟩
  have : j = 0 ∨ j = 1 ∨ j = 2 := by simp [rts] at hj; omega
  rcases this with rfl | rfl | rfl
  · simp [rts, go_sem]
  · simp [rts, go_sem]
  · simp [rts, go_sem]

set_option maxHeartbeats 8000000 in
set_option maxRecDepth 100000 in
theorem tbegun_any (w : World) : Calls Try.prog 11 #[] w fun e w' => e = .returned (.bool true) ∧ Below w.heap.size w w' := by
  have hR : Hid (∀ w : World, Calls Try.prog 23 #[] w fun e w' => ∃ g, e = .returned (.slice (some ⟨g, 0, none⟩) 3 3) ∧ Sl w' (some ⟨g, 0, none⟩) rts ∧ Below w.heap.size w w') := routes_any
  have hV : Hid (∀ w : World, Calls Try.prog 24 #[.int .u64 167838211] w fun e w' => e = .returned (.agg #[.bool false, .int .u64 0, .int .u64 167838211]) ∧ ∃ c, w' = w.alloc (.cells c 25)) := v4_any 167838211
  have hF : Hid (∀ (g : Nat) (w : World), Sl w (some ⟨g, 0, none⟩) rts → Calls Try.prog 4 #[.slice (some ⟨g, 0, none⟩) 3 3, .agg #[.bool false, .int .u64 0, .int .u64 167838211]] w fun e w' => e = .returned (.tuple #[.int .i64 2, .int .i64 0]) ∧ Below w.heap.size w w') := fun g w h => by
    have := find_any (some ⟨g, 0, none⟩) 3 rts false 0 167838211 w rts_ok h (by decide) (by decide)
    rw [rts_find.1, rts_find.2] at this
    exact this
  have hA : Hid (∀ (g : Nat) (w : World), Sl w (some ⟨g, 0, none⟩) rts → Calls Try.prog 5 #[.slice (some ⟨g, 0, none⟩) 3 3, .int .i64 2] w fun e w' => e = .returned (.tuple #[.int .i64 1, .int .i64 0]) ∧ Below w.heap.size w w') := fun g w h => by
    have := above_any (some ⟨g, 0, none⟩) 3 rts 2 w rts_ok (by decide) h
    rw [rts_above.1, rts_above.2] at this
    exact this
  have hL : Hid (∀ (g : Nat) (w : World), Sl w (some ⟨g, 0, none⟩) rts → Calls Try.prog 6 #[.slice (some ⟨g, 0, none⟩) 3 3, .int .i64 0] w fun e w' => ∃ g' c', e = .returned (.tuple #[.slice (some ⟨g', 0, none⟩) 1 c', .int .i64 0]) ∧ (w'.cell? ⟨g', 0, none⟩ = some (.int .i64 1) ∧ g' < w'.heap.size) ∧ Below w.heap.size w w') := fun g w h => by
    have := below_ok (some ⟨g, 0, none⟩) 3 rts 0 w rts_ok (by decide) h rts_below.2
    refine this.mono ?_
    rintro e w' ⟨v, rfl, hown, hb⟩
    rw [show rts.length = 3 from rfl, rts_below.1] at hown
    obtain ⟨h1, h2⟩ := hown
    rcases h2 with ⟨_, h2⟩ | ⟨g', c', cur, rfl, _, hc, h3, h4, h5, h6⟩
    · simp at h2
    · refine ⟨g', c', rfl, ⟨?_, (Array.getElem?_eq_some_iff.1 hc).1⟩, hb⟩
      have hj2 : (cur.toList.take ([1].length * 1))[0]? = (intsT [1])[0]? := by rw [h6]
      rw [List.getElem?_take_of_lt (by simp)] at hj2
      simp [World.cell?, hc]
      simpa [intsT] using hj2
  have hC : Hid (∀ (g : Nat) (w : World), Sl w (some ⟨g, 0, none⟩) rts → Calls Try.prog 12 #[.slice (some ⟨g, 0, none⟩) 3 3] w fun e w' => e = .returned (.int .i64 0) ∧ Below w.heap.size w w') := fun g w h => by
    have := tcheck_any (some ⟨g, 0, none⟩) 3 rts w rts_ok h
    rw [rts_chk] at this
    exact this
  go_enter Try.func11, Try.ntmps11
  go_wp2_with fail
  refine (hR.out _).mono ?_
  rintro e w1 ⟨g1, rfl, s1, b1⟩
  go_wp2_with fail
  refine (hV.out _).mono ?_
  rintro e w2 ⟨rfl, cc, rfl⟩
  replace s1 := s1.below (bal (Below.refl _ _) (.cells cc 25))
  replace b1 := bal b1 (.cells cc 25)
  generalize w1.alloc (.cells cc 25) = w2 at *
  go_wp2_with fail
  refine (hF.out _ _ s1).mono ?_
  rintro e w3 ⟨rfl, b3⟩
  have HB := Lib.hid (btr b1 b3)
  clear b1 b3 s1
  go_wp2_with fail
  refine (hR.out _).mono ?_
  rintro e w4 ⟨g4, rfl, s4, b4⟩
  go_wp2_with fail
  refine (hA.out _ _ s4).mono ?_
  rintro e w5 ⟨rfl, b5⟩
  replace HB := Lib.hid (btr (btr HB.out b4) b5)
  clear b4 b5 s4
  go_wp2_with fail
  refine (hR.out _).mono ?_
  rintro e w6 ⟨g6, rfl, s6, b6⟩
  go_wp2_with fail
  refine (hL.out _ _ s6).mono ?_
  rintro e w7 ⟨g7, c7, rfl, r7, b7⟩
  replace HB := Lib.hid (btr (btr HB.out b6) b7)
  have HR := Lib.hid r7
  clear b6 b7 s6 r7
  go_wp2_with fail
  refine (hR.out _).mono ?_
  rintro e w8 ⟨g8, rfl, s8, b8⟩
  replace HB := Lib.hid (btr HB.out b8)
  obtain ⟨k1, k2⟩ := HR.out
  rw [← (bcell b8).1 _ _ k2] at k1
  have k3 := Nat.lt_of_lt_of_le k2 b8.size
  clear b8 HR k2
  go_wp2_with fail
  refine (hC.out _ _ s8).mono ?_
  rintro e w9 ⟨rfl, b9⟩
  replace HB := Lib.hid (btr HB.out b9)
  rw [← (bcell b9).1 _ _ k3] at k1
  clear b9 s8 k3
  go_wp2
  go_ret
  exact ⟨rfl, HB.out⟩
end Go.Proofs.Ythbpldmebekgoaa
