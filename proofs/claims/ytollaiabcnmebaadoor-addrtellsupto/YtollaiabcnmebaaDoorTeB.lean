/- yardarmlaw.AddrTells: whatever it is handed, where the text is of at most 1048576 bytes, it answers true. -/
import Derived.Test.YtollaiabcnmebaaDoorTeA
import Derived.Test.YtollaiabcnmebaaDoorRfU
import Derived.Test.YtollaiabcnmebaaDoorRfR
import Derived.Test.YtollaiabcnmebaaDoorRfH
import Derived.Test.YtollaiabcnmebaaDoorRfI
set_option linter.unusedVariables false
set_option linter.unusedSimpArgs false
namespace Go.Proofs.YtollaiabcnmebaaDoor
open Go.RowKit

theorem textOf_any (v : Bool) (hi lo : Nat) (w : World) (h1 : hi < 18446744073709551616) (l1 : lo < 18446744073709551616) (hv : v = true ∨ (hi = 0 ∧ lo ≤ 4294967295)) :
    Calls Tryd.prog 9 #[.agg #[.bool v, .int .u64 hi, .int .u64 lo]] w fun e w' => e = .returned (.string ⟨(ptxt v hi lo).toArray⟩) ∧ Below w.heap.size w w' := by
  have hc := chk_ok v hi lo hv
  cases v
  · simp at hv
    have := textOf4_any hi lo w h1 hv.2
    rw [ptxt, if_pos hc, if_neg (by decide), Int.toNat_natCast]
    exact this
  · rw [ptxt, if_pos hc, if_pos rfl]
    exact textOf6_any hi lo w h1 l1

theorem tells_law (va vb : Bool) (ah al bh bl : Int) (s : ByteArray) (w : World) (hg : Good w) (a1 : 0 ≤ ah ∧ ah < 18446744073709551616) (a2 : 0 ≤ al ∧ al < 18446744073709551616) (b1 : 0 ≤ bh ∧ bh < 18446744073709551616) (b2 : 0 ≤ bl ∧ bl < 18446744073709551616) (hs : s.size ≤ 1048576) :
    Calls Tryd.prog 3 #[.agg #[.bool va, .int .u64 ah, .int .u64 al], .agg #[.bool vb, .int .u64 bh, .int .u64 bl], .string s] w fun e w' => e = .returned (.bool true) ∧ Below w.heap.size w w' := by
  obtain ⟨ahN, rfl⟩ := Int.eq_ofNat_of_zero_le a1.1
  obtain ⟨alN, rfl⟩ := Int.eq_ofNat_of_zero_le a2.1
  obtain ⟨bhN, rfl⟩ := Int.eq_ofNat_of_zero_le b1.1
  obtain ⟨blN, rfl⟩ := Int.eq_ofNat_of_zero_le b2.1
  have h1 : Hid (∀ w : World, Good w → Calls Tryd.prog 4 #[.agg #[.bool va, .int .u64 (ahN : Int), .int .u64 (alN : Int)]] w fun e w' => e = .returned (.tuple #[.string ⟨(ptxt va ahN alN).toArray⟩, .int .i64 (chk va ahN alN)]) ∧ Below w.heap.size w w') := fun w hg => print_any va ahN alN w hg a1.1 a1.2 a2.1 a2.2
  have h2 : Hid (∀ w : World, Good w → Calls Tryd.prog 5 #[.string s] w fun e w' => e = .returned (.tuple #[prV (rparse s.data.toList), .int .i64 (prE (rparse s.data.toList))]) ∧ Below w.heap.size w w') := fun w hg => parse_any s w hg
  have h3 : Hid (∀ w : World, Calls Tryd.prog 6 #[.agg #[.bool va, .int .u64 (ahN : Int), .int .u64 (alN : Int)]] w fun e w' => e = .returned (.tuple #[.agg #[.bool (nxV va ahN alN), .int .u64 (nxH va ahN alN), .int .u64 (nxL va ahN alN)], .bool (nxB va ahN alN), .int .i64 (chk va ahN alN)]) ∧ Below w.heap.size w w') := fun w => next_any va ahN alN w a1.1 a2.1 a1.2 a2.2
  have h4 : Hid (∀ w : World, Calls Tryd.prog 7 #[.agg #[.bool va, .int .u64 (ahN : Int), .int .u64 (alN : Int)], .agg #[.bool vb, .int .u64 (bhN : Int), .int .u64 (blN : Int)]] w fun e w' => e = .returned (.tuple #[.bool (lessB va ahN alN vb bhN blN), .int .i64 (lessE va ahN alN vb bhN blN)]) ∧ Below w.heap.size w w') := fun w => less_any va vb ahN alN bhN blN w a1.1 a2.1 b1.1 b2.1
  have h5 : Hid (∀ w : World, Calls Tryd.prog 8 #[.agg #[.bool va, .int .u64 (ahN : Int), .int .u64 (alN : Int)]] w fun e w' => e = .returned (.int .i64 (chk va ahN alN)) ∧ Below w.heap.size w w') := fun w => rcheck_any va ahN alN w a1.1 a2.1
  have h6 : Hid (∀ w : World, Calls Tryd.prog 8 #[.agg #[.bool vb, .int .u64 (bhN : Int), .int .u64 (blN : Int)]] w fun e w' => e = .returned (.int .i64 (chk vb bhN blN)) ∧ Below w.heap.size w w') := fun w => rcheck_any vb bhN blN w b1.1 b2.1
  have h9 : Hid (∀ w : World, Calls Tryd.prog 11 #[.string s] w fun e w' => e = .returned (.tuple #[prV (rparse s.data.toList), .bool (rparse s.data.toList).isSome]) ∧ Below w.heap.size w w') := fun w => parseOf_any s w hs
  have h10 : Hid (∀ w : World, Calls Tryd.prog 13 #[.agg #[.bool va, .int .u64 (ahN : Int), .int .u64 (alN : Int)]] w fun e w' => e = .returned (.int .i64 (chk va ahN alN)) ∧ Below w.heap.size w w') := fun w => (check_any va ahN alN w a1.1 a2.1).mono (by rintro e w' ⟨rfl, c, rfl⟩; exact ⟨rfl, bal (Below.refl _ _) _⟩)
  have n1 : ahN < 18446744073709551616 := by omega
  have n2 : alN < 18446744073709551616 := by omega
  have n3 : bhN < 18446744073709551616 := by omega
  have n4 : blN < 18446744073709551616 := by omega
  rcases chk_cases va ahN alN with ⟨c, hv⟩ | c
  · have hv' : va = true ∨ (ahN = 0 ∧ alN ≤ 4294967295) := hv.imp id fun ⟨x, y⟩ => ⟨by omega, by omega⟩
    have h7 : Hid (∀ w : World, Calls Tryd.prog 9 #[.agg #[.bool va, .int .u64 (ahN : Int), .int .u64 (alN : Int)]] w fun e w' => e = .returned (.string ⟨(ptxt va ahN alN).toArray⟩) ∧ Below w.heap.size w w') := fun w => textOf_any va ahN alN w n1 n2 hv'
    have h8 : Hid (∀ w : World, Calls Tryd.prog 10 #[.agg #[.bool va, .int .u64 (ahN : Int), .int .u64 (alN : Int)]] w fun e w' => e = .returned (.tuple #[.agg #[.bool (nxV va ahN alN), .int .u64 (nxH va ahN alN), .int .u64 (nxL va ahN alN)], .bool (nxB va ahN alN)]) ∧ Below w.heap.size w w') := fun w => nextOf_any va ahN alN w n1 n2 hv'
    rw [c] at h1 h3 h5 h10
    rcases chk_cases vb bhN blN with ⟨d, hu⟩ | d
    · have hu' : vb = true ∨ (bhN = 0 ∧ blN ≤ 4294967295) := hu.imp id fun ⟨x, y⟩ => ⟨by omega, by omega⟩
      have hE : lessE va ahN alN vb bhN blN = 0 := by simp [lessE, c, d]
      have hL : lessB va ahN alN vb bhN blN = if va = vb then lsB ahN alN bhN blN else vb := by rw [lessB, if_pos hE]
      have h11 : Hid (∀ w : World, Calls Tryd.prog 14 #[.agg #[.bool va, .int .u64 (ahN : Int), .int .u64 (alN : Int)], .agg #[.bool vb, .int .u64 (bhN : Int), .int .u64 (blN : Int)]] w fun e w' => e = .returned (.bool (lessB va ahN alN vb bhN blN)) ∧ Below w.heap.size w w') := fun w => by
        rw [hL]; exact isAhead_any va vb ahN alN bhN blN w n1 n2 n3 n4 hv' hu'
      rw [d] at h6
      rw [hE] at h4
      cases hr : rparse s.data.toList with
      | none => rw [hr] at h2 h9; exact tells_00f va _ _ vb _ _ s _ false 0 0 _ _ _ _ _ w hg h1 h2 h3 h4 h5 h6 h7 h8 h9 h10 h11
      | some p => obtain ⟨xv, xh, xl⟩ := p; rw [hr] at h2 h9; exact tells_00t va _ _ vb _ _ s _ xv xh xl _ _ _ _ _ w hg h1 h2 h3 h4 h5 h6 h7 h8 h9 h10 h11
    · have hE : lessE va ahN alN vb bhN blN = 3 := by simp [lessE, c, d]
      have hL : lessB va ahN alN vb bhN blN = false := by rw [lessB, hE]; rfl
      rw [d] at h6
      rw [hE, hL] at h4
      cases hr : rparse s.data.toList with
      | none => rw [hr] at h2 h9; exact tells_03f va _ _ vb _ _ s _ false 0 0 _ _ _ _ false w hg h1 h2 h3 h4 h5 h6 h7 h8 h9 h10
      | some p => obtain ⟨xv, xh, xl⟩ := p; rw [hr] at h2 h9; exact tells_03t va _ _ vb _ _ s _ xv xh xl _ _ _ _ false w hg h1 h2 h3 h4 h5 h6 h7 h8 h9 h10
  · have hE : lessE va ahN alN vb bhN blN = 3 := by simp [lessE, c]
    have hL : lessB va ahN alN vb bhN blN = false := by rw [lessB, hE]; rfl
    have hT : ptxt va ahN alN = [] := by simp [ptxt, c]
    have e1 : nxV va ahN alN = false := by simp [nxV, c]
    have e2 : nxH va ahN alN = 0 := by simp [nxH, c]
    have e3 : nxL va ahN alN = 0 := by simp [nxL, c]
    have e4 : nxB va ahN alN = false := by simp [nxB, c]
    rw [c, hT] at h1
    rw [c, e1, e2, e3, e4] at h3
    rw [hE, hL] at h4
    rw [c] at h5 h10
    cases hr : rparse s.data.toList with
    | none => rw [hr] at h2 h9; exact tells_33f va _ _ vb _ _ s ⟨#[]⟩ false 0 0 false 0 0 false false w hg h1 h2 h3 h4 h5 h9 h10
    | some p => obtain ⟨xv, xh, xl⟩ := p; rw [hr] at h2 h9; exact tells_33t va _ _ vb _ _ s ⟨#[]⟩ xv xh xl false 0 0 false false w hg h1 h2 h3 h4 h5 h9 h10
end Go.Proofs.YtollaiabcnmebaaDoor
