/- addr.join: eight groups to an address. -/
import Derived.Test.YtghbonlignmdoaaGreatDoorRdG
import Derived.BigRegion
set_option linter.unusedVariables false
set_option linter.unusedSimpArgs false
namespace Go.Proofs.YtghbonlignmdoaaGreatDoor
open Go.RowKit

theorem or16 (a n : Int) (h0 : 0 ≤ a) (h1 : a < 281474976710656) (h2 : 0 ≤ n) (h3 : n < 65536) : bits .or .u64 (a * 65536) n = a * 65536 + n := by
  obtain ⟨a, rfl⟩ := Int.eq_ofNat_of_zero_le h0
  obtain ⟨n, rfl⟩ := Int.eq_ofNat_of_zero_le h2
  have e : ((a : Int) * 65536) = ((a * 65536 : Nat) : Int) := by omega
  rw [e, u64_or_nat _ _ (by omega) (by omega)]
  have := Nat.two_pow_add_eq_or_of_lt (i := 16) (b := n) (by omega) a
  rw [show a * 65536 = 2 ^ 16 * a from by omega, ← this]
  omega

/-- Groups, the greatest first, as one number. -/
def gnum : List Nat → Nat → Nat
  | [], acc => acc
  | g :: r, acc => gnum r (acc * 65536 + g)
theorem gnum_append : ∀ (l : List Nat) (g acc : Nat), gnum (l ++ [g]) acc = gnum l acc * 65536 + g
  | [], g, acc => rfl
  | x :: l, g, acc => by simp only [List.cons_append, gnum]; exact gnum_append l g _
theorem gnum_lt : ∀ (l : List Nat) (acc : Nat), (∀ x ∈ l, x < 65536) → gnum l acc < (acc + 1) * 65536 ^ l.length
  | [], acc, _ => by simp [gnum]
  | x :: l, acc, h => by
    have h1 := gnum_lt l (acc * 65536 + x) (fun y hy => h y (by simp [hy]))
    have hx := h x (by simp)
    rw [gnum, List.length_cons, Nat.pow_succ, Nat.mul_comm (65536 ^ l.length) 65536, ← Nat.mul_assoc]
    exact Nat.lt_of_lt_of_le h1 (Nat.mul_le_mul_right _ (by omega))

theorem set_drewN (W : World) (n : Nat) (p : Addr) (u : Value) : (W.drewN n).setCell p u = (W.setCell p u).drewN n := rfl
theorem set12 (W : World) (n m t : Nat) (x y z y' z' : Value) (hm : m = W.heap.size) :
    ((((W.alloc (.cells #[x, y, z] t)).drewN n).setCell ⟨m, 1, none⟩ y').setCell ⟨m, 2, none⟩ z').drew = (W.alloc (.cells #[x, y', z'] t)).drewN (n + 1) := by
  subst hm
  rw [set_drewN, set_drewN]
  have : ((W.alloc (.cells #[x, y, z] t)).setCell ⟨W.heap.size, 1, none⟩ y').setCell ⟨W.heap.size, 2, none⟩ z' = W.alloc (.cells #[x, y', z'] t) := by
    simp [go_sem]
  rw [this]; rfl
theorem below_drewN {B : Nat} {a w : World} (h : Below B a w) (n : Nat) : Below B a (w.drewN n) := ⟨h.os, h.tape, h.output, h.size, h.block⟩

set_option maxHeartbeats 4000000 in
set_option maxRecDepth 100000 in
theorem join_any (g cap : Nat) (gs : List Nat) (w : World) (hl : gs.length = 8) (hlt : ∀ x ∈ gs, x < 65536) (hcell : ∀ j (h : j < 8), w.cell? ⟨g, j, none⟩ = some (.int .u64 ((gs[j]'(by omega) : Nat) : Int))) (hg : g < w.heap.size) :
    Calls Tryz.prog 91 #[.slice (some ⟨g, 0, none⟩) 8 cap] w fun e w' =>
      e = .returned (.agg #[.bool true, .int .u64 (gnum (gs.take 4) 0 : Nat), .int .u64 (gnum (gs.drop 4) 0 : Nat)]) ∧ Below w.heap.size w w' := by
  go_enter Tryz.func91, Tryz.ntmps91
  go_wp2
  go_loopw [10] (fun vi wr => ∃ (k n : Nat) (a b : Int), vi = .int .i64 k ∧ k ≤ 4 ∧ wr = ((w.alloc (.cells #[.bool false, .int .u64 0, .int .u64 0] 25)).alloc (.cells #[.bool true, .int .u64 a, .int .u64 b] 25)).drewN n ∧
      Hid (a = (gnum (gs.take k) 0 : Nat) ∧ b = (gnum ((gs.drop 4).take k) 0 : Nat)))
    (fun vi _ => 4 - (intOf vi).toNat)
  case atStart => exact ⟨0, 0, 0, 0, rfl, by omega, rfl, rfl, rfl⟩
  case round =>
    obtain ⟨k, n, a, b, rfl, hk, rfl, hh⟩ := hrel
    by_cases hk4 : k < 4
    · have hc1 := hcell k (by omega)
      have hc2 := hcell (k + 4) (by omega)
      obtain ⟨ha, hb⟩ := hh.out
      have x1 := hlt _ (List.getElem_mem (show k < gs.length by omega))
      have x2 := hlt _ (List.getElem_mem (show k + 4 < gs.length by omega))
      have e1 : gnum (gs.take (k + 1)) 0 = gnum (gs.take k) 0 * 65536 + gs[k]'(by omega) := by
        rw [List.take_succ_eq_append_getElem (by omega), gnum_append]
      have e2 : gnum ((gs.drop 4).take (k + 1)) 0 = gnum ((gs.drop 4).take k) 0 * 65536 + gs[k + 4]'(by omega) := by
        rw [List.take_succ_eq_append_getElem (by simp; omega), gnum_append]; simp [Nat.add_comm]
      have b1 := gnum_lt (gs.take k) 0 (fun x hx => hlt x (List.mem_of_mem_take hx))
      have b2 := gnum_lt ((gs.drop 4).take k) 0 (fun x hx => hlt x (List.mem_of_mem_drop (List.mem_of_mem_take hx)))
      have hp : (65536 : Nat) ^ 3 = 281474976710656 := by decide
      have b3 : gnum (gs.take k) 0 < 281474976710656 := by
        refine Nat.lt_of_lt_of_le b1 ?_
        rw [← hp, Nat.zero_add, Nat.one_mul]
        exact Nat.pow_le_pow_right (by decide) (by simp; omega)
      have b4 : gnum ((gs.drop 4).take k) 0 < 281474976710656 := by
        refine Nat.lt_of_lt_of_le b2 ?_
        rw [← hp, Nat.zero_add, Nat.one_mul]
        exact Nat.pow_le_pow_right (by decide) (by simp; omega)
      obtain ⟨p, hp1⟩ : ∃ p : Int, p = ((gs[k]'(by omega) : Nat) : Int) := ⟨_, rfl⟩
      obtain ⟨q, hq1⟩ : ∃ q : Int, q = ((gs[k + 4]'(by omega) : Nat) : Int) := ⟨_, rfl⟩
      rw [← hp1] at hc1
      rw [← hq1] at hc2
      have a0 : 0 ≤ a := by omega
      have a1 : a < 281474976710656 := by omega
      have c0 : 0 ≤ b := by omega
      have c1 : b < 281474976710656 := by omega
      have p0 : 0 ≤ p := by omega
      have p1 : p < 65536 := by omega
      have q0 : 0 ≤ q := by omega
      have q1 : q < 65536 := by omega
      have HN : Hid (a * 65536 + p = (gnum (gs.take (k + 1)) 0 : Nat) ∧ b * 65536 + q = (gnum ((gs.drop 4).take (k + 1)) 0 : Nat)) := ⟨by omega, by omega⟩
      have o1 := or16 a p a0 a1 p0 p1
      have o2 := or16 b q c0 c1 q0 q1
      clear hh ha hb x1 x2 e1 e2 b1 b2 hp b3 b4 hp1 hq1 hcell hlt
      go_wp2_with fail
      go_region
      go_wp2_with fail
      go_region
      go_wp2
      go_roundw
      case rel => exact ⟨k + 1, n + 2, a * 65536 + p, b * 65536 + q, by go_num, by omega, set12 _ _ _ _ _ _ _ _ _ (by simp), HN⟩
      case measure => simp [intOf]; omega
    · have hk5 : k = 4 := by omega
      subst hk5
      obtain ⟨ha, hb⟩ := hh.out
      rw [List.take_of_length_le (by simp; omega)] at hb
      have HA : Hid (a = (gnum (gs.take 4) 0 : Nat) ∧ b = (gnum (gs.drop 4) 0 : Nat)) := ⟨ha, hb⟩
      clear hh ha hb hcell hlt
      go_wp2
      refine bodyPost_ret (v := .agg #[.bool true, .int .u64 a, .int .u64 b]) ?_ rfl ⟨by rw [HA.out.1, HA.out.2], ?_⟩
      · simp [results, Tryz.results91, go_sem]
      · repeat (first | exact Below.refl _ _ | apply bal | apply Below.drew | apply below_drewN | refine bse ?_ (by simp) _)

/-- Other than eight groups: it gives up. -/
theorem join_no (v : Option Addr) (n cap : Nat) (w : World) (hn : n ≠ 8) (hm : n < 1000000) :
    Calls Tryz.prog 91 #[.slice v n cap] w fun e w' => e = .panicked gaveUp ∧ Below w.heap.size w w' := by
  have hgu : Hid (∀ w : World, Calls Tryz.prog 73 #[] w fun e w' => e = .panicked gaveUp ∧ w' = w) := fun w => giveUp_any w
  have h8 : ((n : Int) != 8) = true := by rw [bne_iff_ne]; omega
  go_enter Tryz.func91, Tryz.ntmps91
  go_wp2_with fail
  refine (hgu.out _).mono ?_
  rintro e w2 ⟨rfl, rfl⟩
  go_wp2
  exact ⟨rfl, rfl, bal (Below.refl _ _) _⟩
end Go.Proofs.YtghbonlignmdoaaGreatDoor
