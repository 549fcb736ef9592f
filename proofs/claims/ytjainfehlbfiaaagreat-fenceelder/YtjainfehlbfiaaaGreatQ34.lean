/- Some ops, some entries. -/
import Derived.Test.YtjainfehlbfiaaaGreatQ04
import Derived.Test.YtjainfehlbfiaaaGreatQ32
import Derived.Test.YtjainfehlbfiaaaGreatQ33
set_option linter.unusedVariables false
set_option linter.unusedSimpArgs false
namespace Go.Proofs.YtjainfehlbfiaaaGreat
open Go.RowKit

def pf8 : Pf := ⟨false, 0, 8, 30⟩
def ad8 : Ad := ⟨false, 0, 8, by decide⟩
def op1 : Opd := ⟨1, pf8, zAd, ⟨#[]⟩, 0, 0, by unfold pf8 Pf.Ok; decide⟩
def op2 : Opd := ⟨2, zPf, ad8, ⟨#[]⟩, 0, 0, zPf_ok⟩
def op3 : Opd := ⟨3, zPf, zAd, ⟨#[120]⟩, 0, 10, zPf_ok⟩
def en1 : En := ⟨1, 1, op1⟩
def en2 : En := ⟨2, 1, op2⟩
def en3 : En := ⟨3, 4, op3⟩
theorem lies_new {α : Type} (E : Enc α) (W : World) (l : List α) (t : Nat) : Lies E (W.alloc (.cells (rowOf E l).toArray t)) (some ⟨W.heap.size, 0, none⟩) l := by
  intro j hj
  refine ⟨W.heap.size, 0, rfl, by simp, fun i v hv => ?_⟩
  have hi : i < E.k := by have := (List.getElem?_eq_some_iff.1 hv).1; rw [E.len] at this; exact this
  have key := rowOf_at E l j hj i hi
  rw [hv] at key
  simp only [World.cell?, heap_alloc_new, Nat.zero_add]
  simpa using key
set_option maxHeartbeats 4000000 in
theorem some_any (w : World) : Calls Tryz.prog 13 #[] w fun e w' => ∃ g : Nat, e = .returned (.slice (some ⟨g, 0, none⟩) 3 3) ∧ HasL w' g 0 [.int .i64 1, .bool false, .int .u64 0, .int .u64 8, .int .i64 30, .bool false, .int .u64 0, .int .u64 0, .string ⟨#[]⟩, .int .i64 0, .int .i64 0, .int .i64 2, .bool false, .int .u64 0, .int .u64 0, .int .i64 0, .bool false, .int .u64 0, .int .u64 8, .string ⟨#[]⟩, .int .i64 0, .int .i64 0, .int .i64 3, .bool false, .int .u64 0, .int .u64 0, .int .i64 0, .bool false, .int .u64 0, .int .u64 0, .string ⟨#[120]⟩, .int .i64 0, .int .i64 10] ∧ w.heap.size ≤ g ∧ Below w.heap.size w w' := by
  have hN : Hid (∀ (n b : Int) (w : World), Calls Tryz.prog 26 #[.int .u64 n, .int .i64 b] w fun e w' => e = .returned (.agg #[.bool false, .int .u64 0, .int .u64 n, .int .i64 b]) ∧ Below w.heap.size w w') := net_any
  have hV : Hid (∀ (n : Int) (w : World), Calls Tryz.prog 18 #[.int .u64 n] w fun e w' => e = .returned (.agg #[.bool false, .int .u64 0, .int .u64 n]) ∧ Below w.heap.size w w') := fun n w => (v4_any n w).mono fun e w' h => by obtain ⟨h1, c, rfl⟩ := h; exact ⟨h1, bal (Below.refl _ _) _⟩
  go_enter Tryz.func13, Tryz.ntmps13
  go_wp2_with fail
  refine (hN.out _ _ _).mono ?_
  rintro e w1 ⟨rfl, hb1⟩
  go_wp2_with fail
  refine (hV.out _ _).mono ?_
  rintro e w2 ⟨rfl, hb2⟩
  have HB := Lib.hid (btr hb1 hb2)
  clear hb1 hb2
  go_wp2_with fail
  go_ret
  exact ⟨_, rfl, HasL.new w2 _ _, HB.out.size, bal HB.out _⟩
theorem some_lies {w : World} {g : Nat} (h : HasL w g 0 [.int .i64 1, .bool false, .int .u64 0, .int .u64 8, .int .i64 30, .bool false, .int .u64 0, .int .u64 0, .string ⟨#[]⟩, .int .i64 0, .int .i64 0, .int .i64 2, .bool false, .int .u64 0, .int .u64 0, .int .i64 0, .bool false, .int .u64 0, .int .u64 8, .string ⟨#[]⟩, .int .i64 0, .int .i64 0, .int .i64 3, .bool false, .int .u64 0, .int .u64 0, .int .i64 0, .bool false, .int .u64 0, .int .u64 0, .string ⟨#[120]⟩, .int .i64 0, .int .i64 10]) : Lies opE w (some ⟨g, 0, none⟩) [op1, op2, op3] := by
  intro j hj
  refine ⟨g, 0, rfl, h.2, fun i v hv => ?_⟩
  have hi : i < 11 := by have := (List.getElem?_eq_some_iff.1 hv).1; rw [opE.len] at this; exact this
  have hrow := rowOf_at opE [op1, op2, op3] j hj i hi
  rw [hv] at hrow
  exact h.1 (j * 11 + i) v (by rw [← hrow]; rfl) |> fun h' => by rw [show (0 : Nat) + j * opE.k + i = 0 + (j * 11 + i) by show 0 + j * 11 + i = _; omega]; exact h'

set_option maxHeartbeats 32000000 in
set_option maxRecDepth 100000 in
theorem entries_any (w : World) : Calls Tryz.prog 15 #[] w fun e w' => ∃ g : Nat, e = .returned (.slice (some ⟨g, 0, none⟩) 3 3) ∧ Lies enE w' (some ⟨g, 0, none⟩) [en1, en2, en3] ∧ w.heap.size ≤ g ∧ Below w.heap.size w w' := by
  have hS : Hid (∀ W : World, Calls Tryz.prog 13 #[] W fun e w' => ∃ g : Nat, e = .returned (.slice (some ⟨g, 0, none⟩) 3 3) ∧ HasL w' g 0 [.int .i64 1, .bool false, .int .u64 0, .int .u64 8, .int .i64 30, .bool false, .int .u64 0, .int .u64 0, .string ⟨#[]⟩, .int .i64 0, .int .i64 0, .int .i64 2, .bool false, .int .u64 0, .int .u64 0, .int .i64 0, .bool false, .int .u64 0, .int .u64 8, .string ⟨#[]⟩, .int .i64 0, .int .i64 0, .int .i64 3, .bool false, .int .u64 0, .int .u64 0, .int .i64 0, .bool false, .int .u64 0, .int .u64 0, .string ⟨#[120]⟩, .int .i64 0, .int .i64 10] ∧ W.heap.size ≤ g ∧ Below W.heap.size W w') := some_any
  go_enter Tryz.func15, Tryz.ntmps15
  go_wp2_with fail
  have HB0 : Hid (Below w.heap.size w w.drew) := (Below.refl _ _).drew
  go_region_with
    (first
      | (go_at_call 13; have HX := H2; refine (hS.out _).mono ?_; rintro e w3 ⟨g3, rfl, h3, hg3, hb3⟩; have HB3 := Lib.hid (btr HB2.out hb3); have H1 := Lib.hid (H1.out.below hb3); have H2 := Lib.hid (H2.out.below hb3); have H3 := Lib.hid h3; clear h3 hb3 a0a a0b a0c a0d a0e a0f a0g a0h a0i a0j a0k a1a a1b a1c a1d a1e a1f a1g a1h a1i a1j a1k; obtain ⟨a0a, a0b, a0c, a0d, a0e, a0f, a0g, a0h, a0i, a0j, a0k⟩ : w3.cell? ⟨g1, 0, none⟩ = some (.int .i64 1) ∧ w3.cell? ⟨g1, 1, none⟩ = some (.bool false) ∧ w3.cell? ⟨g1, 2, none⟩ = some (.int .u64 0) ∧ w3.cell? ⟨g1, 3, none⟩ = some (.int .u64 8) ∧ w3.cell? ⟨g1, 4, none⟩ = some (.int .i64 30) ∧ w3.cell? ⟨g1, 5, none⟩ = some (.bool false) ∧ w3.cell? ⟨g1, 6, none⟩ = some (.int .u64 0) ∧ w3.cell? ⟨g1, 7, none⟩ = some (.int .u64 0) ∧ w3.cell? ⟨g1, 8, none⟩ = some (.string ⟨#[]⟩) ∧ w3.cell? ⟨g1, 9, none⟩ = some (.int .i64 0) ∧ w3.cell? ⟨g1, 10, none⟩ = some (.int .i64 0) := ⟨H1.out.1 0 _ rfl, H1.out.1 1 _ rfl, H1.out.1 2 _ rfl, H1.out.1 3 _ rfl, H1.out.1 4 _ rfl, H1.out.1 5 _ rfl, H1.out.1 6 _ rfl, H1.out.1 7 _ rfl, H1.out.1 8 _ rfl, H1.out.1 9 _ rfl, H1.out.1 10 _ rfl⟩; obtain ⟨a1a, a1b, a1c, a1d, a1e, a1f, a1g, a1h, a1i, a1j, a1k⟩ : w3.cell? ⟨g2, 11, none⟩ = some (.int .i64 2) ∧ w3.cell? ⟨g2, 12, none⟩ = some (.bool false) ∧ w3.cell? ⟨g2, 13, none⟩ = some (.int .u64 0) ∧ w3.cell? ⟨g2, 14, none⟩ = some (.int .u64 0) ∧ w3.cell? ⟨g2, 15, none⟩ = some (.int .i64 0) ∧ w3.cell? ⟨g2, 16, none⟩ = some (.bool false) ∧ w3.cell? ⟨g2, 17, none⟩ = some (.int .u64 0) ∧ w3.cell? ⟨g2, 18, none⟩ = some (.int .u64 8) ∧ w3.cell? ⟨g2, 19, none⟩ = some (.string ⟨#[]⟩) ∧ w3.cell? ⟨g2, 20, none⟩ = some (.int .i64 0) ∧ w3.cell? ⟨g2, 21, none⟩ = some (.int .i64 0) := ⟨H2.out.1 11 _ rfl, H2.out.1 12 _ rfl, H2.out.1 13 _ rfl, H2.out.1 14 _ rfl, H2.out.1 15 _ rfl, H2.out.1 16 _ rfl, H2.out.1 17 _ rfl, H2.out.1 18 _ rfl, H2.out.1 19 _ rfl, H2.out.1 20 _ rfl, H2.out.1 21 _ rfl⟩; obtain ⟨a2a, a2b, a2c, a2d, a2e, a2f, a2g, a2h, a2i, a2j, a2k⟩ : w3.cell? ⟨g3, 22, none⟩ = some (.int .i64 3) ∧ w3.cell? ⟨g3, 23, none⟩ = some (.bool false) ∧ w3.cell? ⟨g3, 24, none⟩ = some (.int .u64 0) ∧ w3.cell? ⟨g3, 25, none⟩ = some (.int .u64 0) ∧ w3.cell? ⟨g3, 26, none⟩ = some (.int .i64 0) ∧ w3.cell? ⟨g3, 27, none⟩ = some (.bool false) ∧ w3.cell? ⟨g3, 28, none⟩ = some (.int .u64 0) ∧ w3.cell? ⟨g3, 29, none⟩ = some (.int .u64 0) ∧ w3.cell? ⟨g3, 30, none⟩ = some (.string ⟨#[120]⟩) ∧ w3.cell? ⟨g3, 31, none⟩ = some (.int .i64 0) ∧ w3.cell? ⟨g3, 32, none⟩ = some (.int .i64 10) := ⟨H3.out.1 22 _ rfl, H3.out.1 23 _ rfl, H3.out.1 24 _ rfl, H3.out.1 25 _ rfl, H3.out.1 26 _ rfl, H3.out.1 27 _ rfl, H3.out.1 28 _ rfl, H3.out.1 29 _ rfl, H3.out.1 30 _ rfl, H3.out.1 31 _ rfl, H3.out.1 32 _ rfl⟩; clear HX)
      | (go_at_call 13; have HX := H1; refine (hS.out _).mono ?_; rintro e w2 ⟨g2, rfl, h2, hg2, hb2⟩; have HB2 := Lib.hid (btr HB1.out hb2); have H1 := Lib.hid (H1.out.below hb2); have H2 := Lib.hid h2; clear h2 hb2 a0a a0b a0c a0d a0e a0f a0g a0h a0i a0j a0k; obtain ⟨a0a, a0b, a0c, a0d, a0e, a0f, a0g, a0h, a0i, a0j, a0k⟩ : w2.cell? ⟨g1, 0, none⟩ = some (.int .i64 1) ∧ w2.cell? ⟨g1, 1, none⟩ = some (.bool false) ∧ w2.cell? ⟨g1, 2, none⟩ = some (.int .u64 0) ∧ w2.cell? ⟨g1, 3, none⟩ = some (.int .u64 8) ∧ w2.cell? ⟨g1, 4, none⟩ = some (.int .i64 30) ∧ w2.cell? ⟨g1, 5, none⟩ = some (.bool false) ∧ w2.cell? ⟨g1, 6, none⟩ = some (.int .u64 0) ∧ w2.cell? ⟨g1, 7, none⟩ = some (.int .u64 0) ∧ w2.cell? ⟨g1, 8, none⟩ = some (.string ⟨#[]⟩) ∧ w2.cell? ⟨g1, 9, none⟩ = some (.int .i64 0) ∧ w2.cell? ⟨g1, 10, none⟩ = some (.int .i64 0) := ⟨H1.out.1 0 _ rfl, H1.out.1 1 _ rfl, H1.out.1 2 _ rfl, H1.out.1 3 _ rfl, H1.out.1 4 _ rfl, H1.out.1 5 _ rfl, H1.out.1 6 _ rfl, H1.out.1 7 _ rfl, H1.out.1 8 _ rfl, H1.out.1 9 _ rfl, H1.out.1 10 _ rfl⟩; obtain ⟨a1a, a1b, a1c, a1d, a1e, a1f, a1g, a1h, a1i, a1j, a1k⟩ : w2.cell? ⟨g2, 11, none⟩ = some (.int .i64 2) ∧ w2.cell? ⟨g2, 12, none⟩ = some (.bool false) ∧ w2.cell? ⟨g2, 13, none⟩ = some (.int .u64 0) ∧ w2.cell? ⟨g2, 14, none⟩ = some (.int .u64 0) ∧ w2.cell? ⟨g2, 15, none⟩ = some (.int .i64 0) ∧ w2.cell? ⟨g2, 16, none⟩ = some (.bool false) ∧ w2.cell? ⟨g2, 17, none⟩ = some (.int .u64 0) ∧ w2.cell? ⟨g2, 18, none⟩ = some (.int .u64 8) ∧ w2.cell? ⟨g2, 19, none⟩ = some (.string ⟨#[]⟩) ∧ w2.cell? ⟨g2, 20, none⟩ = some (.int .i64 0) ∧ w2.cell? ⟨g2, 21, none⟩ = some (.int .i64 0) := ⟨H2.out.1 11 _ rfl, H2.out.1 12 _ rfl, H2.out.1 13 _ rfl, H2.out.1 14 _ rfl, H2.out.1 15 _ rfl, H2.out.1 16 _ rfl, H2.out.1 17 _ rfl, H2.out.1 18 _ rfl, H2.out.1 19 _ rfl, H2.out.1 20 _ rfl, H2.out.1 21 _ rfl⟩; clear HX)
      | (go_at_call 13; refine (hS.out _).mono ?_; rintro e w1 ⟨g1, rfl, h1, hg1, hb1⟩; have HB1 := Lib.hid (btr HB0.out hb1); have H1 := Lib.hid h1; clear h1 hb1; obtain ⟨a0a, a0b, a0c, a0d, a0e, a0f, a0g, a0h, a0i, a0j, a0k⟩ : w1.cell? ⟨g1, 0, none⟩ = some (.int .i64 1) ∧ w1.cell? ⟨g1, 1, none⟩ = some (.bool false) ∧ w1.cell? ⟨g1, 2, none⟩ = some (.int .u64 0) ∧ w1.cell? ⟨g1, 3, none⟩ = some (.int .u64 8) ∧ w1.cell? ⟨g1, 4, none⟩ = some (.int .i64 30) ∧ w1.cell? ⟨g1, 5, none⟩ = some (.bool false) ∧ w1.cell? ⟨g1, 6, none⟩ = some (.int .u64 0) ∧ w1.cell? ⟨g1, 7, none⟩ = some (.int .u64 0) ∧ w1.cell? ⟨g1, 8, none⟩ = some (.string ⟨#[]⟩) ∧ w1.cell? ⟨g1, 9, none⟩ = some (.int .i64 0) ∧ w1.cell? ⟨g1, 10, none⟩ = some (.int .i64 0) := ⟨H1.out.1 0 _ rfl, H1.out.1 1 _ rfl, H1.out.1 2 _ rfl, H1.out.1 3 _ rfl, H1.out.1 4 _ rfl, H1.out.1 5 _ rfl, H1.out.1 6 _ rfl, H1.out.1 7 _ rfl, H1.out.1 8 _ rfl, H1.out.1 9 _ rfl, H1.out.1 10 _ rfl⟩))
  all_goals
    go_wp2_with fail
    go_ret
    exact ⟨_, rfl, lies_new enE w3 [en1, en2, en3] 68, HB3.out.size, bal HB3.out _⟩
end Go.Proofs.YtjainfehlbfiaaaGreat
