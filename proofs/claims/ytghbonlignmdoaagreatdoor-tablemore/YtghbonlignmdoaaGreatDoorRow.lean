/- addr.longestRow: the longest row of noughts, the first of several. -/
import Derived.Test.YtghbonlignmdoaaGreatDoorSplit
namespace Go.Proofs.YtghbonlignmdoaaGreatDoor
open Go.RowKit

def lrowGo : List Nat → Nat → Nat → Nat → Nat → Nat × Nat
  | [], _, f, t, _ => (f, t)
  | g :: r, i, f, t, s => if g ≠ 0 then lrowGo r (i + 1) f t (i + 1) else if t - f < i + 1 - s then lrowGo r (i + 1) s (i + 1) s else lrowGo r (i + 1) f t s
def lrow (gs : List Nat) : Nat × Nat := lrowGo gs 0 0 0 0

set_option maxHeartbeats 4000000 in
set_option maxRecDepth 100000 in
theorem longestRow_any (g c : Nat) (gs : List Nat) (w : World) (hl : gs.length ≤ 100) (hcell : ∀ j (h : j < gs.length), w.cell? ⟨g, j, none⟩ = some (.int .u64 ((gs[j] : Nat) : Int))) :
    Calls Tryz.prog 53 #[.slice (some ⟨g, 0, none⟩) gs.length c] w fun e w' => e = .returned (.tuple #[.int .i64 ((lrow gs).1 : Nat), .int .i64 ((lrow gs).2 : Nat)]) ∧ w' = w := by
  obtain ⟨N, hN⟩ : ∃ N, N = gs.length := ⟨_, rfl⟩
  rw [← hN]
  have hN8 : N ≤ 100 := by omega
  have HN : Hid (N = gs.length) := hN
  clear hN hl
  go_enter Tryz.func53, Tryz.ntmps53
  go_wp2_with fail
  go_loop [4, 5, 6, 11] (fun vf vt vs vi => ∃ k f t s : Nat, vi = .int .i64 k ∧ vf = .int .i64 f ∧ vt = .int .i64 t ∧ vs = .int .i64 s ∧ k ≤ N ∧ f ≤ t ∧ t ≤ k ∧ s ≤ k ∧ Hid (lrow gs = lrowGo (gs.drop k) k f t s))
    (fun _ _ _ vi => N - (intOf vi).toNat)
  case atStart => exact ⟨0, 0, 0, 0, rfl, rfl, rfl, rfl, Nat.zero_le _, Nat.le_refl _, Nat.le_refl _, Nat.le_refl _, rfl⟩
  case round =>
    obtain ⟨k, f, t, s, rfl, rfl, rfl, rfl, hk, hft, htk, hsk, hh⟩ := hrel
    have hN := HN.out
    by_cases hkN : k < N
    · have hc := hcell k (by omega)
      have hdec := hh.out
      rw [List.drop_eq_getElem_cons (show k < gs.length by omega), lrowGo] at hdec
      generalize gs[k]'(by omega) = x at hc hdec
      clear hh hN hcell
      by_cases hx : x = 0
      · subst hx
        simp only [ne_eq, not_true_eq_false, if_false] at hdec
        have h00 : ((0 : Int) != 0) = false := by decide
        by_cases hgt : t - f < k + 1 - s
        · rw [if_pos hgt] at hdec
          have HD : Hid (lrow gs = lrowGo (gs.drop (k + 1)) (k + 1) s (k + 1) s) := hdec
          have hI : (t : Int) - f < (k : Int) + 1 - s := by omega
          clear hdec hgt
          go_wp2_with fail
          go_round
          case rel => exact ⟨k + 1, s, k + 1, s, by go_num, rfl, by go_num, rfl, by omega, by omega, by omega, by omega, HD⟩
          case measure => simp [intOf]; omega
        · rw [if_neg hgt] at hdec
          have HD : Hid (lrow gs = lrowGo (gs.drop (k + 1)) (k + 1) f t s) := hdec
          have hI : ¬ ((t : Int) - f < (k : Int) + 1 - s) := by omega
          clear hdec hgt
          go_wp2_with fail
          go_round
          case rel => exact ⟨k + 1, f, t, s, by go_num, rfl, rfl, rfl, by omega, by omega, by omega, by omega, HD⟩
          case measure => simp [intOf]; omega
      · rw [if_pos hx] at hdec
        have HD : Hid (lrow gs = lrowGo (gs.drop (k + 1)) (k + 1) f t (k + 1)) := hdec
        have hI : ((x : Int) != 0) = true := by rw [bne_iff_ne]; omega
        clear hdec
        go_wp2_with fail
        go_round
        case rel => exact ⟨k + 1, f, t, k + 1, by go_num, rfl, rfl, by go_num, by omega, by omega, by omega, by omega, HD⟩
        case measure => simp [intOf]; omega
    · have hd := hh.out
      rw [List.drop_eq_nil_of_le (by omega), lrowGo] at hd
      have HD : Hid (lrow gs = (f, t)) := hd
      clear hd hh hN hcell
      go_wp2_with fail
      go_ret2
      exact ⟨by rw [HD.out]; rfl, rfl⟩

theorem lrowGo_le : ∀ (l : List Nat) (i f t s : Nat), f ≤ t → t ≤ i → s ≤ i → (lrowGo l i f t s).1 ≤ (lrowGo l i f t s).2 ∧ (lrowGo l i f t s).2 ≤ i + l.length
  | [], i, f, t, s, h1, h2, h3 => by simp [lrowGo]; omega
  | g :: r, i, f, t, s, h1, h2, h3 => by
    rw [lrowGo]
    split
    · have := lrowGo_le r (i + 1) f t (i + 1) h1 (by omega) (by omega); simp; omega
    · split
      · have := lrowGo_le r (i + 1) s (i + 1) s (by omega) (by omega) (by omega); simp; omega
      · have := lrowGo_le r (i + 1) f t s h1 (by omega) (by omega); simp; omega
theorem lrow_le (gs : List Nat) : (lrow gs).1 ≤ (lrow gs).2 ∧ (lrow gs).2 ≤ gs.length := by
  have := lrowGo_le gs 0 0 0 0 (Nat.le_refl _) (Nat.le_refl _) (Nat.le_refl _)
  rw [Nat.zero_add] at this
  exact this
end Go.Proofs.YtghbonlignmdoaaGreatDoor
