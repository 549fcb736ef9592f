/- The document's normWithin, one step of it. -/
import Derived.Test.YtlgdkdplkdkkdaaReA
set_option linter.unusedVariables false
set_option linter.unusedSimpArgs false
namespace Go.Proofs.Ytlgdkdplkdkkdaa
open Go.RowKit

def anyH (L : List Pf) (p : Pf) : Bool := L.any fun s => s.has p
def noneM (L : List Pf) (p : Pf) : Bool := L.all fun s => !s.meet p
def anyM (L : List Pf) (p : Pf) : Bool := L.any fun s => s.meet p
theorem anyH_step {L : List Pf} {p : Pf} {k : Nat} (h : k < L.length) : anyH (L.take (k + 1)) p = (anyH (L.take k) p || (L[k]).has p) := by
  unfold anyH; rw [List.take_succ_eq_append_getElem h, List.any_append]; simp
theorem noneM_step {L : List Pf} {p : Pf} {k : Nat} (h : k < L.length) : noneM (L.take (k + 1)) p = (noneM (L.take k) p && !(L[k]).meet p) := by
  unfold noneM; rw [List.take_succ_eq_append_getElem h, List.all_append]; simp
theorem anyM_step {L : List Pf} {p : Pf} {k : Nat} (h : k < L.length) : anyM (L.take (k + 1)) p = (anyM (L.take k) p || (L[k]).meet p) := by
  unfold anyM; rw [List.take_succ_eq_append_getElem h, List.any_append]; simp
theorem b_val {a b : Bool} (h : a = b) : Value.bool a = Value.bool b := by rw [h]
/-- What the halves' lists come to. -/
def joinP (p : Pf) (X Y : List Pf) (M : List Pf) : Prop := (X = [p.lo'] → Y = [p.hi'] → M = [p]) ∧ (¬ (X = [p.lo'] ∧ Y = [p.hi']) → M = X ++ Y)

set_option maxHeartbeats 32000000 in
set_option maxRecDepth 100000 in
theorem nw_step (so ot : List Pf) (a1 a2 : Option Addr) (c1 c2 : Nat) (p : Pf) (w : World) (M : List Pf) (rp : p.R) (os : ∀ s ∈ so, s.R) (oo : ∀ o ∈ ot, o.R) (l1 : so.length ≤ 12) (l2 : ot.length ≤ 12) (s1 : Sl w a1 so) (s2 : Sl w a2 ot)
    (hA : anyH ot p = true → M = []) (hB : anyH ot p = false → noneM so p = true → M = []) (hC : anyH ot p = false → noneM so p = false → anyH so p = true → anyM ot p = false → M = [p])
    (hD : anyH ot p = false → noneM so p = false → (anyH so p && !anyM ot p) = false → p.b < wid p.v ∧ ∃ X Y, X.length ≤ 3073 ∧ Y.length ≤ 3073 ∧ joinP p X Y M ∧
      (∀ w' : World, Below w.heap.size w w' → Calls Try.prog 25 #[.agg #[.bool p.lo'.v, .int .u64 p.lo'.hi, .int .u64 p.lo'.lo, .int .i64 p.lo'.b], .slice a1 so.length c1, .slice a2 ot.length c2] w' (RowPost w' X)) ∧
      (∀ w' : World, Below w.heap.size w w' → Calls Try.prog 25 #[.agg #[.bool p.hi'.v, .int .u64 p.hi'.hi, .int .u64 p.hi'.lo, .int .i64 p.hi'.b], .slice a1 so.length c1, .slice a2 ot.length c2] w' (RowPost w' Y))) :
    Calls Try.prog 25 #[.agg #[.bool p.v, .int .u64 p.hi, .int .u64 p.lo, .int .i64 p.b], .slice a1 so.length c1, .slice a2 ot.length c2] w (RowPost w M) := by
  have HP := Lib.hid (Has4.new w p.v p.hi p.lo p.b 27)
  have HB := Lib.hid (pal w p.v p.hi p.lo p.b)
  obtain ⟨N1, hN1⟩ : ∃ N, N = so.length := ⟨_, rfl⟩
  obtain ⟨N2, hN2⟩ : ∃ N, N = ot.length := ⟨_, rfl⟩
  rw [← hN1] at hD l1 ⊢
  rw [← hN2] at hD l2 ⊢
  have HN1 := Lib.hid hN1
  have HN2 := Lib.hid hN2
  have HhA := Lib.hid hA
  have HhB := Lib.hid hB
  have HhC := Lib.hid hC
  have HhD := Lib.hid hD
  have Hrp := Lib.hid rp
  have Hos := Lib.hid os
  have Hoo := Lib.hid oo
  have Hs1 := Lib.hid s1
  have Hs2 := Lib.hid s2
  clear hA hB hC hD rp os oo s1 s2 hN1 hN2
  obtain ⟨i0, hi0, hz0, hz1, hz2⟩ := info_parts infoP
  go_enter Try.func25, Try.ntmps25
  go_wp2_with fail
  go_loopw [7, 8, 10] (fun va vn vi wr => ∃ k : Nat, vi = .int .i64 k ∧ k ≤ N1 ∧ va = .bool (anyH (so.take k) p) ∧ vn = .bool (noneM (so.take k) p) ∧ Hid (Has4 wr w.heap.size p.v p.hi p.lo p.b) ∧ Hid (Below w.heap.size w wr))
    (fun _ _ vi _ => N1 - (intOf vi).toNat)
  case atStart => exact ⟨0, rfl, Nat.zero_le _, rfl, rfl, HP, HB⟩
  case round =>
    clear HP HB
    obtain ⟨k, rfl, hk, rfl, rfl, HP, HB⟩ := hrel
    have hN := HN1.out
    by_cases hkN : k < N1
    · have hkl : k < so.length := by omega
      obtain ⟨g, o, rfl, hg, d0, d1, d2, d3⟩ := Hs1.out k hkl
      rw [← (bcell HB.out).1 _ _ hg] at d0 d1 d2 d3
      have hgr : g < wr.heap.size := Nat.lt_of_lt_of_le hg HB.out.size
      have E1 := Lib.hid (anyH_step (p := p) hkl)
      have E2 := Lib.hid (noneM_step (p := p) hkl)
      have hx := Hos.out _ (List.getElem_mem hkl)
      have H1 : Hid (∀ w : World, Calls Try.prog 41 #[.agg #[.bool (so[k]).v, .int .u64 (so[k]).hi, .int .u64 (so[k]).lo, .int .i64 (so[k]).b], .agg #[.bool p.v, .int .u64 p.hi, .int .u64 p.lo, .int .i64 p.b]] w fun e w' => e = .returned (.bool ((so[k]).has p)) ∧ Below w.heap.size w w') := fun w => rhas_any _ p w hx Hrp.out
      have H2 : Hid (∀ w : World, Calls Try.prog 42 #[.agg #[.bool (so[k]).v, .int .u64 (so[k]).hi, .int .u64 (so[k]).lo, .int .i64 (so[k]).b], .agg #[.bool p.v, .int .u64 p.hi, .int .u64 p.lo, .int .i64 p.b]] w fun e w' => e = .returned (.bool ((so[k]).meet p)) ∧ Below w.heap.size w w') := fun w => rmeet_any _ p w hx Hrp.out
      have k3 : (k : Int) < (N1 : Int) := by omega
      have k4 : (0 : Int) ≤ (k : Int) := by omega
      generalize (so[k]).has p = y1 at *
      generalize (so[k]).meet p = y2 at *
      generalize so[k] = x at *
      have HS : Hid ((wr.cell? ⟨w.heap.size, 0, none⟩ = some (.bool p.v) ∧ wr.cell? ⟨w.heap.size, 1, none⟩ = some (.int .u64 p.hi) ∧ wr.cell? ⟨w.heap.size, 2, none⟩ = some (.int .u64 p.lo) ∧ wr.cell? ⟨w.heap.size, 3, none⟩ = some (.int .i64 p.b) ∧ w.heap.size < wr.heap.size) ∧ (wr.cell? ⟨g, o + k * 4, none⟩ = some (.bool x.v) ∧ wr.cell? ⟨g, o + k * 4 + 1, none⟩ = some (.int .u64 x.hi) ∧ wr.cell? ⟨g, o + k * 4 + 2, none⟩ = some (.int .u64 x.lo) ∧ wr.cell? ⟨g, o + k * 4 + 3, none⟩ = some (.int .i64 x.b) ∧ g < wr.heap.size) ∧ Below w.heap.size w wr) := ⟨HP.out, ⟨d0, d1, d2, d3, hgr⟩, HB.out⟩
      generalize anyH (so.take k) p = b1 at *
      generalize noneM (so.take k) p = b2 at *
      clear hN hx hgr HP HB d0 d1 d2 d3
      cases b1
      · go_wp2_with fail
        have HSd := Lib.hid (keepR HS.out (Below.refl _ _).drew)
        go_region_held3 (fun w' => (w'.cell? ⟨w.heap.size, 0, none⟩ = some (.bool p.v) ∧ w'.cell? ⟨w.heap.size, 1, none⟩ = some (.int .u64 p.hi) ∧ w'.cell? ⟨w.heap.size, 2, none⟩ = some (.int .u64 p.lo) ∧ w'.cell? ⟨w.heap.size, 3, none⟩ = some (.int .i64 p.b) ∧ w.heap.size < w'.heap.size) ∧ (w'.cell? ⟨g, o + k * 4, none⟩ = some (.bool x.v) ∧ w'.cell? ⟨g, o + k * 4 + 1, none⟩ = some (.int .u64 x.hi) ∧ w'.cell? ⟨g, o + k * 4 + 2, none⟩ = some (.int .u64 x.lo) ∧ w'.cell? ⟨g, o + k * 4 + 3, none⟩ = some (.int .i64 x.b) ∧ g < w'.heap.size) ∧ Below w.heap.size w w')
          (first | with_reducible exact HSd.out | with_reducible exact HSe.out | fail)
          ((go_at_call 41; refine (H1.out _).mono ?_; rintro e wx ⟨rfl, hb⟩; have HSe := Lib.hid (keepR HSd.out hb); clear hb))
        clear HSd HS
        have HS := HSe
        clear HSe
        generalize wx = wr at *
        cases b2
        · go_wp2_with fail
          go_region
          replace HS := Lib.hid (keepR HS.out (Below.refl _ _).drew)
          generalize wr.drew = wr at *
          have HP := Lib.hid HS.out.1
          have HB := Lib.hid HS.out.2.2
          clear HS
          go_wp2_with fail
          go_roundw
          case rel => exact ⟨k + 1, by go_num, by omega, b_val (by rw [E1.out]; simp), b_val (by rw [E2.out]; simp), HP, HB⟩
          case measure => simp [intOf]; omega
        · go_wp2_with fail
          have HSd := Lib.hid (keepR HS.out (Below.refl _ _).drew)
          go_region_held3 (fun w' => (w'.cell? ⟨w.heap.size, 0, none⟩ = some (.bool p.v) ∧ w'.cell? ⟨w.heap.size, 1, none⟩ = some (.int .u64 p.hi) ∧ w'.cell? ⟨w.heap.size, 2, none⟩ = some (.int .u64 p.lo) ∧ w'.cell? ⟨w.heap.size, 3, none⟩ = some (.int .i64 p.b) ∧ w.heap.size < w'.heap.size) ∧ (w'.cell? ⟨g, o + k * 4, none⟩ = some (.bool x.v) ∧ w'.cell? ⟨g, o + k * 4 + 1, none⟩ = some (.int .u64 x.hi) ∧ w'.cell? ⟨g, o + k * 4 + 2, none⟩ = some (.int .u64 x.lo) ∧ w'.cell? ⟨g, o + k * 4 + 3, none⟩ = some (.int .i64 x.b) ∧ g < w'.heap.size) ∧ Below w.heap.size w w')
            (first | with_reducible exact HSd.out | with_reducible exact HSe.out | fail)
            ((go_at_call 42; refine (H2.out _).mono ?_; rintro e wx ⟨rfl, hb⟩; have HSe := Lib.hid (keepR HSd.out hb); clear hb))
          clear HSd HS
          have HS := HSe
          clear HSe
          generalize wx = wr at *
          have HP := Lib.hid HS.out.1
          have HB := Lib.hid HS.out.2.2
          clear HS
          go_wp2_with fail
          go_roundw
          case rel => exact ⟨k + 1, by go_num, by omega, b_val (by rw [E1.out]; simp), b_val (by rw [E2.out]; simp), HP, HB⟩
          case measure => simp [intOf]; omega
      · go_wp2_with fail
        go_region
        replace HS := Lib.hid (keepR HS.out (Below.refl _ _).drew)
        generalize wr.drew = wr at *
        cases b2
        · go_wp2_with fail
          go_region
          replace HS := Lib.hid (keepR HS.out (Below.refl _ _).drew)
          generalize wr.drew = wr at *
          have HP := Lib.hid HS.out.1
          have HB := Lib.hid HS.out.2.2
          clear HS
          go_wp2_with fail
          go_roundw
          case rel => exact ⟨k + 1, by go_num, by omega, b_val (by rw [E1.out]; simp), b_val (by rw [E2.out]; simp), HP, HB⟩
          case measure => simp [intOf]; omega
        · go_wp2_with fail
          have HSd := Lib.hid (keepR HS.out (Below.refl _ _).drew)
          go_region_held3 (fun w' => (w'.cell? ⟨w.heap.size, 0, none⟩ = some (.bool p.v) ∧ w'.cell? ⟨w.heap.size, 1, none⟩ = some (.int .u64 p.hi) ∧ w'.cell? ⟨w.heap.size, 2, none⟩ = some (.int .u64 p.lo) ∧ w'.cell? ⟨w.heap.size, 3, none⟩ = some (.int .i64 p.b) ∧ w.heap.size < w'.heap.size) ∧ (w'.cell? ⟨g, o + k * 4, none⟩ = some (.bool x.v) ∧ w'.cell? ⟨g, o + k * 4 + 1, none⟩ = some (.int .u64 x.hi) ∧ w'.cell? ⟨g, o + k * 4 + 2, none⟩ = some (.int .u64 x.lo) ∧ w'.cell? ⟨g, o + k * 4 + 3, none⟩ = some (.int .i64 x.b) ∧ g < w'.heap.size) ∧ Below w.heap.size w w')
            (first | with_reducible exact HSd.out | with_reducible exact HSe.out | fail)
            ((go_at_call 42; refine (H2.out _).mono ?_; rintro e wx ⟨rfl, hb⟩; have HSe := Lib.hid (keepR HSd.out hb); clear hb))
          clear HSd HS
          have HS := HSe
          clear HSe
          generalize wx = wr at *
          have HP := Lib.hid HS.out.1
          have HB := Lib.hid HS.out.2.2
          clear HS
          go_wp2_with fail
          go_roundw
          case rel => exact ⟨k + 1, by go_num, by omega, b_val (by rw [E1.out]; simp), b_val (by rw [E2.out]; simp), HP, HB⟩
          case measure => simp [intOf]; omega
    · obtain rfl : k = N1 := by omega
      have k3 : decide ((k : Int) < (k : Int)) = false := by simp
      have et : so.take k = so := List.take_of_length_le (by omega)
      rw [et]
      clear hN et
      generalize anyH so p = b1 at *
      generalize noneM so p = b2 at *
      have HPw := HP
      have HBw := HB
      go_wp2_with fail
      go_loopw [9, 11] (fun vc vi wr => ∃ k : Nat, vi = .int .i64 k ∧ k ≤ N2 ∧ vc = .bool (anyM (ot.take k) p) ∧ Hid (anyH (ot.take k) p = false) ∧ Hid (Has4 wr w.heap.size p.v p.hi p.lo p.b) ∧ Hid (Below w.heap.size w wr))
        (fun _ vi _ => N2 - (intOf vi).toNat)
      case atStart => exact ⟨0, rfl, Nat.zero_le _, rfl, rfl, HP, HB⟩
      case round =>
        clear HP HB HPw HBw
        obtain ⟨k, rfl, hk, rfl, HI, HP, HB⟩ := hrel
        have hN := HN2.out
        by_cases hkN : k < N2
        · have hkl : k < ot.length := by omega
          obtain ⟨g, o, rfl, hg, d0, d1, d2, d3⟩ := Hs2.out k hkl
          rw [← (bcell HB.out).1 _ _ hg] at d0 d1 d2 d3
          have hgr : g < wr.heap.size := Nat.lt_of_lt_of_le hg HB.out.size
          have E1 := Lib.hid (anyH_step (p := p) hkl)
          have E2 := Lib.hid (anyM_step (p := p) hkl)
          have hx := Hoo.out _ (List.getElem_mem hkl)
          have H1 : Hid (∀ w : World, Calls Try.prog 41 #[.agg #[.bool (ot[k]).v, .int .u64 (ot[k]).hi, .int .u64 (ot[k]).lo, .int .i64 (ot[k]).b], .agg #[.bool p.v, .int .u64 p.hi, .int .u64 p.lo, .int .i64 p.b]] w fun e w' => e = .returned (.bool ((ot[k]).has p)) ∧ Below w.heap.size w w') := fun w => rhas_any _ p w hx Hrp.out
          have H2 : Hid (∀ w : World, Calls Try.prog 42 #[.agg #[.bool (ot[k]).v, .int .u64 (ot[k]).hi, .int .u64 (ot[k]).lo, .int .i64 (ot[k]).b], .agg #[.bool p.v, .int .u64 p.hi, .int .u64 p.lo, .int .i64 p.b]] w fun e w' => e = .returned (.bool ((ot[k]).meet p)) ∧ Below w.heap.size w w') := fun w => rmeet_any _ p w hx Hrp.out
          have k3 : (k : Int) < (N2 : Int) := by omega
          have k4 : (0 : Int) ≤ (k : Int) := by omega
          have hyes : (ot[k]).has p = true → anyH ot p = true := fun h => List.any_eq_true.2 ⟨_, List.getElem_mem hkl, h⟩
          have Hyes := Lib.hid hyes
          clear hyes
          generalize (ot[k]).has p = y1 at *
          generalize (ot[k]).meet p = y2 at *
          generalize ot[k] = x at *
          have HS : Hid ((wr.cell? ⟨w.heap.size, 0, none⟩ = some (.bool p.v) ∧ wr.cell? ⟨w.heap.size, 1, none⟩ = some (.int .u64 p.hi) ∧ wr.cell? ⟨w.heap.size, 2, none⟩ = some (.int .u64 p.lo) ∧ wr.cell? ⟨w.heap.size, 3, none⟩ = some (.int .i64 p.b) ∧ w.heap.size < wr.heap.size) ∧ (wr.cell? ⟨g, o + k * 4, none⟩ = some (.bool x.v) ∧ wr.cell? ⟨g, o + k * 4 + 1, none⟩ = some (.int .u64 x.hi) ∧ wr.cell? ⟨g, o + k * 4 + 2, none⟩ = some (.int .u64 x.lo) ∧ wr.cell? ⟨g, o + k * 4 + 3, none⟩ = some (.int .i64 x.b) ∧ g < wr.heap.size) ∧ Below w.heap.size w wr) := ⟨HP.out, ⟨d0, d1, d2, d3, hgr⟩, HB.out⟩
          generalize anyM (ot.take k) p = b3 at *
          clear hN hx hgr HP HB d0 d1 d2 d3
          cases y1
          · go_wp2_with fail
            have HSd := Lib.hid (keepR HS.out (Below.refl _ _).drew)
            go_region_held3 (fun w' => (w'.cell? ⟨w.heap.size, 0, none⟩ = some (.bool p.v) ∧ w'.cell? ⟨w.heap.size, 1, none⟩ = some (.int .u64 p.hi) ∧ w'.cell? ⟨w.heap.size, 2, none⟩ = some (.int .u64 p.lo) ∧ w'.cell? ⟨w.heap.size, 3, none⟩ = some (.int .i64 p.b) ∧ w.heap.size < w'.heap.size) ∧ (w'.cell? ⟨g, o + k * 4, none⟩ = some (.bool x.v) ∧ w'.cell? ⟨g, o + k * 4 + 1, none⟩ = some (.int .u64 x.hi) ∧ w'.cell? ⟨g, o + k * 4 + 2, none⟩ = some (.int .u64 x.lo) ∧ w'.cell? ⟨g, o + k * 4 + 3, none⟩ = some (.int .i64 x.b) ∧ g < w'.heap.size) ∧ Below w.heap.size w w')
              (first | with_reducible exact HSd.out | with_reducible exact HSe.out | fail)
              ((go_at_call 41; refine (H1.out _).mono ?_; rintro e wx ⟨rfl, hb⟩; have HSe := Lib.hid (keepR HSd.out hb); clear hb))
            clear HSd HS
            have HS := HSe
            clear HSe
            generalize wx = wr at *
            cases b3
            · go_wp2_with fail
              have HSd := Lib.hid (keepR HS.out (Below.refl _ _).drew)
              go_region_held3 (fun w' => (w'.cell? ⟨w.heap.size, 0, none⟩ = some (.bool p.v) ∧ w'.cell? ⟨w.heap.size, 1, none⟩ = some (.int .u64 p.hi) ∧ w'.cell? ⟨w.heap.size, 2, none⟩ = some (.int .u64 p.lo) ∧ w'.cell? ⟨w.heap.size, 3, none⟩ = some (.int .i64 p.b) ∧ w.heap.size < w'.heap.size) ∧ (w'.cell? ⟨g, o + k * 4, none⟩ = some (.bool x.v) ∧ w'.cell? ⟨g, o + k * 4 + 1, none⟩ = some (.int .u64 x.hi) ∧ w'.cell? ⟨g, o + k * 4 + 2, none⟩ = some (.int .u64 x.lo) ∧ w'.cell? ⟨g, o + k * 4 + 3, none⟩ = some (.int .i64 x.b) ∧ g < w'.heap.size) ∧ Below w.heap.size w w')
                (first | with_reducible exact HSd.out | with_reducible exact HSe.out | fail)
                ((go_at_call 42; refine (H2.out _).mono ?_; rintro e wx ⟨rfl, hb⟩; have HSe := Lib.hid (keepR HSd.out hb); clear hb))
              clear HSd HS
              have HS := HSe
              clear HSe
              generalize wx = wr at *
              have HP := Lib.hid HS.out.1
              have HB := Lib.hid HS.out.2.2
              clear HS
              go_wp2_with fail
              go_roundw
              case rel => exact ⟨k + 1, by go_num, by omega, b_val (by rw [E2.out]; simp), by rw [E1.out, HI.out]; rfl, HP, HB⟩
              case measure => simp [intOf]; omega
            · go_wp2_with fail
              go_region
              replace HS := Lib.hid (keepR HS.out (Below.refl _ _).drew)
              generalize wr.drew = wr at *
              have HP := Lib.hid HS.out.1
              have HB := Lib.hid HS.out.2.2
              clear HS
              go_wp2_with fail
              go_roundw
              case rel => exact ⟨k + 1, by go_num, by omega, b_val (by rw [E2.out]; simp), by rw [E1.out, HI.out]; rfl, HP, HB⟩
              case measure => simp [intOf]; omega
          · go_wp2_with fail
            have HSd := Lib.hid (keepR HS.out (Below.refl _ _).drew)
            go_region_held3 (fun w' => (w'.cell? ⟨w.heap.size, 0, none⟩ = some (.bool p.v) ∧ w'.cell? ⟨w.heap.size, 1, none⟩ = some (.int .u64 p.hi) ∧ w'.cell? ⟨w.heap.size, 2, none⟩ = some (.int .u64 p.lo) ∧ w'.cell? ⟨w.heap.size, 3, none⟩ = some (.int .i64 p.b) ∧ w.heap.size < w'.heap.size) ∧ (w'.cell? ⟨g, o + k * 4, none⟩ = some (.bool x.v) ∧ w'.cell? ⟨g, o + k * 4 + 1, none⟩ = some (.int .u64 x.hi) ∧ w'.cell? ⟨g, o + k * 4 + 2, none⟩ = some (.int .u64 x.lo) ∧ w'.cell? ⟨g, o + k * 4 + 3, none⟩ = some (.int .i64 x.b) ∧ g < w'.heap.size) ∧ Below w.heap.size w w')
              (first | with_reducible exact HSd.out | with_reducible exact HSe.out | fail)
              ((go_at_call 41; refine (H1.out _).mono ?_; rintro e wx ⟨rfl, hb⟩; have HSe := Lib.hid (keepR HSd.out hb); clear hb))
            clear HSd HS
            have HS := HSe
            clear HSe
            generalize wx = wr at *
            have HM := Lib.hid (HhA.out (by first | exact Hyes.out | exact Hyes.out rfl | exact Hyes.out trivial))
            go_wp2_with fail
            go_ret
            rw [HM.out]
            exact ⟨_, rfl, row_nil _ _ _ _, HS.out.2.2⟩
        · obtain rfl : k = N2 := by omega
          have k3 : decide ((k : Int) < (k : Int)) = false := by simp
          have et : ot.take k = ot := List.take_of_length_le (by omega)
          rw [et] at HI ⊢
          clear hN et
          generalize anyM ot p = b3 at *
          cases b2
          rotate_left
          · have HM := Lib.hid (HhB.out HI.out rfl)
            go_wp2_with fail
            go_ret
            rw [HM.out]
            exact ⟨_, rfl, row_nil _ _ _ _, HB.out⟩
          · obtain ⟨p0, p1, p2, p3, p4⟩ := HP.out
            by_cases hc : (b1 && !b3) = true
            · obtain ⟨rfl, rfl⟩ : b1 = true ∧ b3 = false := by simpa using hc
              have HM := Lib.hid (HhC.out HI.out rfl rfl rfl)
              clear hc
              go_wp2_with fail
              go_ret
              rw [HM.out]
              exact ⟨_, rfl, row_base (row_one wr p) HB.out.size, bal HB.out _⟩
            · have hc' : (b1 && !b3) = false := by simpa using hc
              obtain ⟨hlt, X, Y, lX, lY, hj, IX, IY⟩ := HhD.out HI.out rfl hc'
              have HH : Hid (∀ w : World, Calls Try.prog 43 #[.agg #[.bool p.v, .int .u64 p.hi, .int .u64 p.lo, .int .i64 p.b]] w fun e w' => e = .returned (.tuple #[.agg #[.bool p.lo'.v, .int .u64 p.lo'.hi, .int .u64 p.lo'.lo, .int .i64 p.lo'.b], .agg #[.bool p.hi'.v, .int .u64 p.hi'.hi, .int .u64 p.hi'.lo, .int .i64 p.hi'.b]]) ∧ Below w.heap.size w w') := fun w => rhalves_any p w Hrp.out hlt
              have HIX := Lib.hid IX
              have HIY := Lib.hid IY
              have HJ := Lib.hid hj
              have HlX := Lib.hid lX
              have HlY := Lib.hid lY
              unfold joinP at HJ
              generalize p.lo' = lo at *
              generalize p.hi' = gr at *
              clear hc hlt lX lY hj IX IY
              have hcs : (b1 = false) ∨ (b1 = true ∧ b3 = true) := by revert hc'; cases b1 <;> cases b3 <;> simp
              clear hc'
              rcases hcs with rfl | ⟨rfl, rfl⟩
              · go_wp2_with fail
                refine (HH.out _).mono ?_
                rintro e w5 ⟨rfl, hb⟩
                clear p0 p1 p2 p3 p4
                replace HP := Lib.hid (HP.out.below hb)
                replace HB := Lib.hid (btr HB.out hb)
                clear hb HH
                have S0 : Hid ((((w5.alloc (.cells #[.bool lo.v, .int .u64 lo.hi, .int .u64 lo.lo, .int .i64 lo.b] 27)).alloc (.cells #[.bool gr.v, .int .u64 gr.hi, .int .u64 gr.lo, .int .i64 gr.b] 27)).cell? ⟨w5.heap.size, 0, none⟩ = some (.bool lo.v) ∧ ((w5.alloc (.cells #[.bool lo.v, .int .u64 lo.hi, .int .u64 lo.lo, .int .i64 lo.b] 27)).alloc (.cells #[.bool gr.v, .int .u64 gr.hi, .int .u64 gr.lo, .int .i64 gr.b] 27)).cell? ⟨w5.heap.size, 1, none⟩ = some (.int .u64 lo.hi) ∧ ((w5.alloc (.cells #[.bool lo.v, .int .u64 lo.hi, .int .u64 lo.lo, .int .i64 lo.b] 27)).alloc (.cells #[.bool gr.v, .int .u64 gr.hi, .int .u64 gr.lo, .int .i64 gr.b] 27)).cell? ⟨w5.heap.size, 2, none⟩ = some (.int .u64 lo.lo) ∧ ((w5.alloc (.cells #[.bool lo.v, .int .u64 lo.hi, .int .u64 lo.lo, .int .i64 lo.b] 27)).alloc (.cells #[.bool gr.v, .int .u64 gr.hi, .int .u64 gr.lo, .int .i64 gr.b] 27)).cell? ⟨w5.heap.size, 3, none⟩ = some (.int .i64 lo.b) ∧ w5.heap.size < ((w5.alloc (.cells #[.bool lo.v, .int .u64 lo.hi, .int .u64 lo.lo, .int .i64 lo.b] 27)).alloc (.cells #[.bool gr.v, .int .u64 gr.hi, .int .u64 gr.lo, .int .i64 gr.b] 27)).heap.size) ∧ (((w5.alloc (.cells #[.bool lo.v, .int .u64 lo.hi, .int .u64 lo.lo, .int .i64 lo.b] 27)).alloc (.cells #[.bool gr.v, .int .u64 gr.hi, .int .u64 gr.lo, .int .i64 gr.b] 27)).cell? ⟨w5.heap.size + 1, 0, none⟩ = some (.bool gr.v) ∧ ((w5.alloc (.cells #[.bool lo.v, .int .u64 lo.hi, .int .u64 lo.lo, .int .i64 lo.b] 27)).alloc (.cells #[.bool gr.v, .int .u64 gr.hi, .int .u64 gr.lo, .int .i64 gr.b] 27)).cell? ⟨w5.heap.size + 1, 1, none⟩ = some (.int .u64 gr.hi) ∧ ((w5.alloc (.cells #[.bool lo.v, .int .u64 lo.hi, .int .u64 lo.lo, .int .i64 lo.b] 27)).alloc (.cells #[.bool gr.v, .int .u64 gr.hi, .int .u64 gr.lo, .int .i64 gr.b] 27)).cell? ⟨w5.heap.size + 1, 2, none⟩ = some (.int .u64 gr.lo) ∧ ((w5.alloc (.cells #[.bool lo.v, .int .u64 lo.hi, .int .u64 lo.lo, .int .i64 lo.b] 27)).alloc (.cells #[.bool gr.v, .int .u64 gr.hi, .int .u64 gr.lo, .int .i64 gr.b] 27)).cell? ⟨w5.heap.size + 1, 3, none⟩ = some (.int .i64 gr.b) ∧ w5.heap.size + 1 < ((w5.alloc (.cells #[.bool lo.v, .int .u64 lo.hi, .int .u64 lo.lo, .int .i64 lo.b] 27)).alloc (.cells #[.bool gr.v, .int .u64 gr.hi, .int .u64 gr.lo, .int .i64 gr.b] 27)).heap.size) ∧ (((w5.alloc (.cells #[.bool lo.v, .int .u64 lo.hi, .int .u64 lo.lo, .int .i64 lo.b] 27)).alloc (.cells #[.bool gr.v, .int .u64 gr.hi, .int .u64 gr.lo, .int .i64 gr.b] 27)).cell? ⟨w.heap.size, 0, none⟩ = some (.bool p.v) ∧ ((w5.alloc (.cells #[.bool lo.v, .int .u64 lo.hi, .int .u64 lo.lo, .int .i64 lo.b] 27)).alloc (.cells #[.bool gr.v, .int .u64 gr.hi, .int .u64 gr.lo, .int .i64 gr.b] 27)).cell? ⟨w.heap.size, 1, none⟩ = some (.int .u64 p.hi) ∧ ((w5.alloc (.cells #[.bool lo.v, .int .u64 lo.hi, .int .u64 lo.lo, .int .i64 lo.b] 27)).alloc (.cells #[.bool gr.v, .int .u64 gr.hi, .int .u64 gr.lo, .int .i64 gr.b] 27)).cell? ⟨w.heap.size, 2, none⟩ = some (.int .u64 p.lo) ∧ ((w5.alloc (.cells #[.bool lo.v, .int .u64 lo.hi, .int .u64 lo.lo, .int .i64 lo.b] 27)).alloc (.cells #[.bool gr.v, .int .u64 gr.hi, .int .u64 gr.lo, .int .i64 gr.b] 27)).cell? ⟨w.heap.size, 3, none⟩ = some (.int .i64 p.b) ∧ w.heap.size < ((w5.alloc (.cells #[.bool lo.v, .int .u64 lo.hi, .int .u64 lo.lo, .int .i64 lo.b] 27)).alloc (.cells #[.bool gr.v, .int .u64 gr.hi, .int .u64 gr.lo, .int .i64 gr.b] 27)).heap.size) ∧ Below w.heap.size w ((w5.alloc (.cells #[.bool lo.v, .int .u64 lo.hi, .int .u64 lo.lo, .int .i64 lo.b] 27)).alloc (.cells #[.bool gr.v, .int .u64 gr.hi, .int .u64 gr.lo, .int .i64 gr.b] 27))) := by
                  refine ⟨(Has4.new w5 lo.v lo.hi lo.lo lo.b 27).alloc _, ?_, (HP.out.alloc _).alloc _, bal (bal HB.out _) _⟩
                  have := Has4.new (w5.alloc (.cells #[.bool lo.v, .int .u64 lo.hi, .int .u64 lo.lo, .int .i64 lo.b] 27)) gr.v gr.hi gr.lo gr.b 27
                  rw [show (w5.alloc (.cells #[.bool lo.v, .int .u64 lo.hi, .int .u64 lo.lo, .int .i64 lo.b] 27)).heap.size = w5.heap.size + 1 by simp] at this
                  exact this
                go_wp2_with fail
                clear HP HB
                generalize ((w5.alloc (.cells #[.bool lo.v, .int .u64 lo.hi, .int .u64 lo.lo, .int .i64 lo.b] 27)).alloc (.cells #[.bool gr.v, .int .u64 gr.hi, .int .u64 gr.lo, .int .i64 gr.b] 27)) = W at *
                generalize w5.heap.size = m at *
                have S1 := Lib.hid (keepC S0.out (Below.refl W.heap.size W).drew)
                go_region_held3 (fun w' => (w'.cell? ⟨m, 0, none⟩ = some (.bool lo.v) ∧ w'.cell? ⟨m, 1, none⟩ = some (.int .u64 lo.hi) ∧ w'.cell? ⟨m, 2, none⟩ = some (.int .u64 lo.lo) ∧ w'.cell? ⟨m, 3, none⟩ = some (.int .i64 lo.b) ∧ m < w'.heap.size) ∧ (w'.cell? ⟨m + 1, 0, none⟩ = some (.bool gr.v) ∧ w'.cell? ⟨m + 1, 1, none⟩ = some (.int .u64 gr.hi) ∧ w'.cell? ⟨m + 1, 2, none⟩ = some (.int .u64 gr.lo) ∧ w'.cell? ⟨m + 1, 3, none⟩ = some (.int .i64 gr.b) ∧ m + 1 < w'.heap.size) ∧ (w'.cell? ⟨w.heap.size, 0, none⟩ = some (.bool p.v) ∧ w'.cell? ⟨w.heap.size, 1, none⟩ = some (.int .u64 p.hi) ∧ w'.cell? ⟨w.heap.size, 2, none⟩ = some (.int .u64 p.lo) ∧ w'.cell? ⟨w.heap.size, 3, none⟩ = some (.int .i64 p.b) ∧ w.heap.size < w'.heap.size) ∧ Below w.heap.size w w')
                  (first | with_reducible exact S1.out | with_reducible exact S2.out | with_reducible exact S3.out | fail)
                  (first
                    | (go_at_call 25; refine (HIX.out _ S1.out.2.2.2).mono ?_; rintro x w6 ⟨v1, rfl, hown1, hb1⟩; (with_reducible have S2 := Lib.hid (keepC S1.out hb1)); obtain ⟨a1', c1', rfl, _, sl1⟩ := own_sl hown1; have R1 := Lib.hid hown1; have L1 := Lib.hid sl1; clear HIX hown1 hb1 sl1)
                    | (go_at_call 25; refine (HIY.out _ S2.out.2.2.2).mono ?_; rintro x w7 ⟨v2, rfl, hown2, hb2⟩; (with_reducible have S3 := Lib.hid (keepC S2.out hb2)); obtain ⟨a2', c2', rfl, _, sl2⟩ := own_sl hown2; have R2 := Lib.hid hown2; have R3 := Lib.hid (own_keep R1.out hb2); have L2 := Lib.hid sl2; have L3 := Lib.hid (L1.out.below hb2); clear HIY hown2 hb2 sl2))
                have HR1 : Hid (w7.drew.ownsRow w.heap.size 27 4 (.slice a1' X.length c1') X.length (flat X)) := own_keep (row_base R3.out S1.out.2.2.2.size) (Below.refl _ _).drew
                have HR2 : Hid (w7.drew.ownsRow w6.heap.size 27 4 (.slice a2' Y.length c2') Y.length (flat Y)) := own_keep R2.out (Below.refl _ _).drew
                have HB1 : Hid (Below w.heap.size w w7.drew) := S3.out.2.2.2.drew
                have HHw := Lib.hid (And.intro S3.out.1 (And.intro S3.out.2.1 S3.out.2.2.1))
                have HLL : Hid (X.length + Y.length ≤ 100000) := Lib.hid (by have := HlX.out; have := HlY.out; omega)
                clear S0 S1 S2 S3 R1 R3 L1 R2
                by_cases hX : X.length = 1
                · obtain ⟨x, rfl⟩ := List.length_eq_one_iff.1 hX
                  obtain ⟨g1, o1, rfl, hg1, x0, x1, x2, x3⟩ := L3.out 0 (by simp)
                  simp only [Nat.zero_mul, Nat.add_zero, List.getElem_cons_zero] at x0 x1 x2 x3
                  by_cases hY : Y.length = 1
                  · obtain ⟨y, rfl⟩ := List.length_eq_one_iff.1 hY
                    obtain ⟨g2, o2, rfl, hg2, y0, y1, y2, y3⟩ := L2.out 0 (by simp)
                    simp only [Nat.zero_mul, Nat.add_zero, List.getElem_cons_zero] at y0 y1 y2 y3
                    obtain ⟨⟨m0, m1, m2, m3, m4⟩, ⟨n0, n1, n2, n3, n4⟩, ⟨p0, p1, p2, p3, p4⟩⟩ := HHw.out
                    have E1 := eql_pf x.v x.hi x.lo x.b lo.v lo.hi lo.lo lo.b
                    have E2 := eql_pf y.v y.hi y.lo y.b gr.v gr.hi gr.lo gr.b
                    clear hX hY L2 L3 HHw
                    go_wp2_with fail
                    by_cases hx : eqP x.v x.hi x.lo x.b lo.v lo.hi lo.lo lo.b = true
                    · by_cases hy : eqP y.v y.hi y.lo y.b gr.v gr.hi gr.lo gr.b = true
                      · have HM : Hid (M = [p]) := Lib.hid (HJ.out.1 (by obtain ⟨e1, e2, e3, e4⟩ := eqP_iff.1 hx; cases x; cases lo; simp_all) (by obtain ⟨e1, e2, e3, e4⟩ := eqP_iff.1 hy; cases y; cases gr; simp_all))
                        rw [hx] at E1
                        rw [hy] at E2
                        clear hx hy HJ
                        go_region
                        go_wp2_with fail
                        go_ret
                        rw [HM.out]
                        exact ⟨_, rfl, row_base (row_one _ p) HB1.out.size, bal HB1.out _⟩
                      · have HM : Hid (M = [x] ++ [y]) := Lib.hid (HJ.out.2 fun h => hy (by have := h.2; injection this with this; rw [this]; exact eqP_iff.2 ⟨rfl, rfl, rfl, rfl⟩))
                        rw [hx] at E1
                        rw [show eqP y.v y.hi y.lo y.b gr.v gr.hi gr.lo gr.b = false by simpa using hy] at E2
                        clear hx hy HJ
                        go_region
                        go_wp2_with (at_builtin; refine wpList_append_pfs rfl _ _ 22 rfl w.heap.size i0 _ Try.underlying22 hi0 hz0 hz1 hz2 rfl _ [x] rfl HR1.out _ _ [y] rfl HR2.out HLL.out HB1.out.size ?_)
                        intro v8 w8 hown8 hgrow8
                        have HB8 : Hid (Below w.heap.size w w8) := HB1.out.grown hgrow8 HB1.out.size (fun k hk => (HR1.out.lt k hk).1)
                        have HO8 : Hid (w8.ownsRow w.heap.size 27 4 v8 M.length (flat M)) := by rw [HM.out]; first | exact hown8 | (rw [List.length_append]; exact hown8)
                        clear hown8 hgrow8
                        go_wp2_with fail
                        go_ret
                        exact ⟨_, rfl, HO8.out, HB8.out⟩
                    · have HM : Hid (M = [x] ++ [y]) := Lib.hid (HJ.out.2 fun h => hx (by have := h.1; injection this with this; rw [this]; exact eqP_iff.2 ⟨rfl, rfl, rfl, rfl⟩))
                      rw [show eqP x.v x.hi x.lo x.b lo.v lo.hi lo.lo lo.b = false by simpa using hx] at E1
                      clear hx HJ E2
                      go_region
                      go_wp2_with (at_builtin; refine wpList_append_pfs rfl _ _ 22 rfl w.heap.size i0 _ Try.underlying22 hi0 hz0 hz1 hz2 rfl _ [x] rfl HR1.out _ _ [y] rfl HR2.out HLL.out HB1.out.size ?_)
                      intro v8 w8 hown8 hgrow8
                      have HB8 : Hid (Below w.heap.size w w8) := HB1.out.grown hgrow8 HB1.out.size (fun k hk => (HR1.out.lt k hk).1)
                      have HO8 : Hid (w8.ownsRow w.heap.size 27 4 v8 M.length (flat M)) := by rw [HM.out]; first | exact hown8 | (rw [List.length_append]; exact hown8)
                      clear hown8 hgrow8
                      go_wp2_with fail
                      go_ret
                      exact ⟨_, rfl, HO8.out, HB8.out⟩
                  · have HM : Hid (M = [x] ++ Y) := Lib.hid (HJ.out.2 fun h => hY (by rw [h.2]; rfl))
                    have hY' : ((Y.length : Int) == 1) = false := by rw [beq_eq_false_iff_ne]; omega
                    clear hX hY L2 L3 HHw HJ
                    go_wp2_with fail
                    go_region
                    go_wp2_with (at_builtin; refine wpList_append_pfs rfl _ _ 22 rfl w.heap.size i0 _ Try.underlying22 hi0 hz0 hz1 hz2 rfl _ [x] rfl HR1.out _ _ Y rfl HR2.out HLL.out HB1.out.size ?_)
                    intro v8 w8 hown8 hgrow8
                    have HB8 : Hid (Below w.heap.size w w8) := HB1.out.grown hgrow8 HB1.out.size (fun k hk => (HR1.out.lt k hk).1)
                    have HO8 : Hid (w8.ownsRow w.heap.size 27 4 v8 M.length (flat M)) := by rw [HM.out]; first | exact hown8 | (rw [List.length_append]; exact hown8)
                    clear hown8 hgrow8
                    go_wp2_with fail
                    go_ret
                    exact ⟨_, rfl, HO8.out, HB8.out⟩
                · have HM : Hid (M = X ++ Y) := Lib.hid (HJ.out.2 fun h => hX (by rw [h.1]; rfl))
                  have hX' : ((X.length : Int) == 1) = false := by rw [beq_eq_false_iff_ne]; omega
                  clear hX L2 L3 HHw HJ
                  go_wp2_with fail
                  go_region
                  go_wp2_with (at_builtin; refine wpList_append_pfs rfl _ _ 22 rfl w.heap.size i0 _ Try.underlying22 hi0 hz0 hz1 hz2 rfl _ X rfl HR1.out _ _ Y rfl HR2.out HLL.out HB1.out.size ?_)
                  intro v8 w8 hown8 hgrow8
                  have HB8 : Hid (Below w.heap.size w w8) := HB1.out.grown hgrow8 HB1.out.size (fun k hk => (HR1.out.lt k hk).1)
                  have HO8 : Hid (w8.ownsRow w.heap.size 27 4 v8 M.length (flat M)) := by rw [HM.out]; first | exact hown8 | (rw [List.length_append]; exact hown8)
                  clear hown8 hgrow8
                  go_wp2_with fail
                  go_ret
                  exact ⟨_, rfl, HO8.out, HB8.out⟩
              · go_wp2_with fail
                refine (HH.out _).mono ?_
                rintro e w5 ⟨rfl, hb⟩
                clear p0 p1 p2 p3 p4
                replace HP := Lib.hid (HP.out.below hb)
                replace HB := Lib.hid (btr HB.out hb)
                clear hb HH
                have S0 : Hid ((((w5.alloc (.cells #[.bool lo.v, .int .u64 lo.hi, .int .u64 lo.lo, .int .i64 lo.b] 27)).alloc (.cells #[.bool gr.v, .int .u64 gr.hi, .int .u64 gr.lo, .int .i64 gr.b] 27)).cell? ⟨w5.heap.size, 0, none⟩ = some (.bool lo.v) ∧ ((w5.alloc (.cells #[.bool lo.v, .int .u64 lo.hi, .int .u64 lo.lo, .int .i64 lo.b] 27)).alloc (.cells #[.bool gr.v, .int .u64 gr.hi, .int .u64 gr.lo, .int .i64 gr.b] 27)).cell? ⟨w5.heap.size, 1, none⟩ = some (.int .u64 lo.hi) ∧ ((w5.alloc (.cells #[.bool lo.v, .int .u64 lo.hi, .int .u64 lo.lo, .int .i64 lo.b] 27)).alloc (.cells #[.bool gr.v, .int .u64 gr.hi, .int .u64 gr.lo, .int .i64 gr.b] 27)).cell? ⟨w5.heap.size, 2, none⟩ = some (.int .u64 lo.lo) ∧ ((w5.alloc (.cells #[.bool lo.v, .int .u64 lo.hi, .int .u64 lo.lo, .int .i64 lo.b] 27)).alloc (.cells #[.bool gr.v, .int .u64 gr.hi, .int .u64 gr.lo, .int .i64 gr.b] 27)).cell? ⟨w5.heap.size, 3, none⟩ = some (.int .i64 lo.b) ∧ w5.heap.size < ((w5.alloc (.cells #[.bool lo.v, .int .u64 lo.hi, .int .u64 lo.lo, .int .i64 lo.b] 27)).alloc (.cells #[.bool gr.v, .int .u64 gr.hi, .int .u64 gr.lo, .int .i64 gr.b] 27)).heap.size) ∧ (((w5.alloc (.cells #[.bool lo.v, .int .u64 lo.hi, .int .u64 lo.lo, .int .i64 lo.b] 27)).alloc (.cells #[.bool gr.v, .int .u64 gr.hi, .int .u64 gr.lo, .int .i64 gr.b] 27)).cell? ⟨w5.heap.size + 1, 0, none⟩ = some (.bool gr.v) ∧ ((w5.alloc (.cells #[.bool lo.v, .int .u64 lo.hi, .int .u64 lo.lo, .int .i64 lo.b] 27)).alloc (.cells #[.bool gr.v, .int .u64 gr.hi, .int .u64 gr.lo, .int .i64 gr.b] 27)).cell? ⟨w5.heap.size + 1, 1, none⟩ = some (.int .u64 gr.hi) ∧ ((w5.alloc (.cells #[.bool lo.v, .int .u64 lo.hi, .int .u64 lo.lo, .int .i64 lo.b] 27)).alloc (.cells #[.bool gr.v, .int .u64 gr.hi, .int .u64 gr.lo, .int .i64 gr.b] 27)).cell? ⟨w5.heap.size + 1, 2, none⟩ = some (.int .u64 gr.lo) ∧ ((w5.alloc (.cells #[.bool lo.v, .int .u64 lo.hi, .int .u64 lo.lo, .int .i64 lo.b] 27)).alloc (.cells #[.bool gr.v, .int .u64 gr.hi, .int .u64 gr.lo, .int .i64 gr.b] 27)).cell? ⟨w5.heap.size + 1, 3, none⟩ = some (.int .i64 gr.b) ∧ w5.heap.size + 1 < ((w5.alloc (.cells #[.bool lo.v, .int .u64 lo.hi, .int .u64 lo.lo, .int .i64 lo.b] 27)).alloc (.cells #[.bool gr.v, .int .u64 gr.hi, .int .u64 gr.lo, .int .i64 gr.b] 27)).heap.size) ∧ (((w5.alloc (.cells #[.bool lo.v, .int .u64 lo.hi, .int .u64 lo.lo, .int .i64 lo.b] 27)).alloc (.cells #[.bool gr.v, .int .u64 gr.hi, .int .u64 gr.lo, .int .i64 gr.b] 27)).cell? ⟨w.heap.size, 0, none⟩ = some (.bool p.v) ∧ ((w5.alloc (.cells #[.bool lo.v, .int .u64 lo.hi, .int .u64 lo.lo, .int .i64 lo.b] 27)).alloc (.cells #[.bool gr.v, .int .u64 gr.hi, .int .u64 gr.lo, .int .i64 gr.b] 27)).cell? ⟨w.heap.size, 1, none⟩ = some (.int .u64 p.hi) ∧ ((w5.alloc (.cells #[.bool lo.v, .int .u64 lo.hi, .int .u64 lo.lo, .int .i64 lo.b] 27)).alloc (.cells #[.bool gr.v, .int .u64 gr.hi, .int .u64 gr.lo, .int .i64 gr.b] 27)).cell? ⟨w.heap.size, 2, none⟩ = some (.int .u64 p.lo) ∧ ((w5.alloc (.cells #[.bool lo.v, .int .u64 lo.hi, .int .u64 lo.lo, .int .i64 lo.b] 27)).alloc (.cells #[.bool gr.v, .int .u64 gr.hi, .int .u64 gr.lo, .int .i64 gr.b] 27)).cell? ⟨w.heap.size, 3, none⟩ = some (.int .i64 p.b) ∧ w.heap.size < ((w5.alloc (.cells #[.bool lo.v, .int .u64 lo.hi, .int .u64 lo.lo, .int .i64 lo.b] 27)).alloc (.cells #[.bool gr.v, .int .u64 gr.hi, .int .u64 gr.lo, .int .i64 gr.b] 27)).heap.size) ∧ Below w.heap.size w ((w5.alloc (.cells #[.bool lo.v, .int .u64 lo.hi, .int .u64 lo.lo, .int .i64 lo.b] 27)).alloc (.cells #[.bool gr.v, .int .u64 gr.hi, .int .u64 gr.lo, .int .i64 gr.b] 27))) := by
                  refine ⟨(Has4.new w5 lo.v lo.hi lo.lo lo.b 27).alloc _, ?_, (HP.out.alloc _).alloc _, bal (bal HB.out _) _⟩
                  have := Has4.new (w5.alloc (.cells #[.bool lo.v, .int .u64 lo.hi, .int .u64 lo.lo, .int .i64 lo.b] 27)) gr.v gr.hi gr.lo gr.b 27
                  rw [show (w5.alloc (.cells #[.bool lo.v, .int .u64 lo.hi, .int .u64 lo.lo, .int .i64 lo.b] 27)).heap.size = w5.heap.size + 1 by simp] at this
                  exact this
                go_wp2_with fail
                clear HP HB
                generalize ((w5.alloc (.cells #[.bool lo.v, .int .u64 lo.hi, .int .u64 lo.lo, .int .i64 lo.b] 27)).alloc (.cells #[.bool gr.v, .int .u64 gr.hi, .int .u64 gr.lo, .int .i64 gr.b] 27)) = W at *
                generalize w5.heap.size = m at *
                have S1 := Lib.hid (keepC S0.out (Below.refl W.heap.size W).drew)
                go_region_held3 (fun w' => (w'.cell? ⟨m, 0, none⟩ = some (.bool lo.v) ∧ w'.cell? ⟨m, 1, none⟩ = some (.int .u64 lo.hi) ∧ w'.cell? ⟨m, 2, none⟩ = some (.int .u64 lo.lo) ∧ w'.cell? ⟨m, 3, none⟩ = some (.int .i64 lo.b) ∧ m < w'.heap.size) ∧ (w'.cell? ⟨m + 1, 0, none⟩ = some (.bool gr.v) ∧ w'.cell? ⟨m + 1, 1, none⟩ = some (.int .u64 gr.hi) ∧ w'.cell? ⟨m + 1, 2, none⟩ = some (.int .u64 gr.lo) ∧ w'.cell? ⟨m + 1, 3, none⟩ = some (.int .i64 gr.b) ∧ m + 1 < w'.heap.size) ∧ (w'.cell? ⟨w.heap.size, 0, none⟩ = some (.bool p.v) ∧ w'.cell? ⟨w.heap.size, 1, none⟩ = some (.int .u64 p.hi) ∧ w'.cell? ⟨w.heap.size, 2, none⟩ = some (.int .u64 p.lo) ∧ w'.cell? ⟨w.heap.size, 3, none⟩ = some (.int .i64 p.b) ∧ w.heap.size < w'.heap.size) ∧ Below w.heap.size w w')
                  (first | with_reducible exact S1.out | with_reducible exact S2.out | with_reducible exact S3.out | fail)
                  (first
                    | (go_at_call 25; refine (HIX.out _ S1.out.2.2.2).mono ?_; rintro x w6 ⟨v1, rfl, hown1, hb1⟩; (with_reducible have S2 := Lib.hid (keepC S1.out hb1)); obtain ⟨a1', c1', rfl, _, sl1⟩ := own_sl hown1; have R1 := Lib.hid hown1; have L1 := Lib.hid sl1; clear HIX hown1 hb1 sl1)
                    | (go_at_call 25; refine (HIY.out _ S2.out.2.2.2).mono ?_; rintro x w7 ⟨v2, rfl, hown2, hb2⟩; (with_reducible have S3 := Lib.hid (keepC S2.out hb2)); obtain ⟨a2', c2', rfl, _, sl2⟩ := own_sl hown2; have R2 := Lib.hid hown2; have R3 := Lib.hid (own_keep R1.out hb2); have L2 := Lib.hid sl2; have L3 := Lib.hid (L1.out.below hb2); clear HIY hown2 hb2 sl2))
                have HR1 : Hid (w7.drew.ownsRow w.heap.size 27 4 (.slice a1' X.length c1') X.length (flat X)) := own_keep (row_base R3.out S1.out.2.2.2.size) (Below.refl _ _).drew
                have HR2 : Hid (w7.drew.ownsRow w6.heap.size 27 4 (.slice a2' Y.length c2') Y.length (flat Y)) := own_keep R2.out (Below.refl _ _).drew
                have HB1 : Hid (Below w.heap.size w w7.drew) := S3.out.2.2.2.drew
                have HHw := Lib.hid (And.intro S3.out.1 (And.intro S3.out.2.1 S3.out.2.2.1))
                have HLL : Hid (X.length + Y.length ≤ 100000) := Lib.hid (by have := HlX.out; have := HlY.out; omega)
                clear S0 S1 S2 S3 R1 R3 L1 R2
                by_cases hX : X.length = 1
                · obtain ⟨x, rfl⟩ := List.length_eq_one_iff.1 hX
                  obtain ⟨g1, o1, rfl, hg1, x0, x1, x2, x3⟩ := L3.out 0 (by simp)
                  simp only [Nat.zero_mul, Nat.add_zero, List.getElem_cons_zero] at x0 x1 x2 x3
                  by_cases hY : Y.length = 1
                  · obtain ⟨y, rfl⟩ := List.length_eq_one_iff.1 hY
                    obtain ⟨g2, o2, rfl, hg2, y0, y1, y2, y3⟩ := L2.out 0 (by simp)
                    simp only [Nat.zero_mul, Nat.add_zero, List.getElem_cons_zero] at y0 y1 y2 y3
                    obtain ⟨⟨m0, m1, m2, m3, m4⟩, ⟨n0, n1, n2, n3, n4⟩, ⟨p0, p1, p2, p3, p4⟩⟩ := HHw.out
                    have E1 := eql_pf x.v x.hi x.lo x.b lo.v lo.hi lo.lo lo.b
                    have E2 := eql_pf y.v y.hi y.lo y.b gr.v gr.hi gr.lo gr.b
                    clear hX hY L2 L3 HHw
                    go_wp2_with fail
                    by_cases hx : eqP x.v x.hi x.lo x.b lo.v lo.hi lo.lo lo.b = true
                    · by_cases hy : eqP y.v y.hi y.lo y.b gr.v gr.hi gr.lo gr.b = true
                      · have HM : Hid (M = [p]) := Lib.hid (HJ.out.1 (by obtain ⟨e1, e2, e3, e4⟩ := eqP_iff.1 hx; cases x; cases lo; simp_all) (by obtain ⟨e1, e2, e3, e4⟩ := eqP_iff.1 hy; cases y; cases gr; simp_all))
                        rw [hx] at E1
                        rw [hy] at E2
                        clear hx hy HJ
                        go_region
                        go_wp2_with fail
                        go_ret
                        rw [HM.out]
                        exact ⟨_, rfl, row_base (row_one _ p) HB1.out.size, bal HB1.out _⟩
                      · have HM : Hid (M = [x] ++ [y]) := Lib.hid (HJ.out.2 fun h => hy (by have := h.2; injection this with this; rw [this]; exact eqP_iff.2 ⟨rfl, rfl, rfl, rfl⟩))
                        rw [hx] at E1
                        rw [show eqP y.v y.hi y.lo y.b gr.v gr.hi gr.lo gr.b = false by simpa using hy] at E2
                        clear hx hy HJ
                        go_region
                        go_wp2_with (at_builtin; refine wpList_append_pfs rfl _ _ 22 rfl w.heap.size i0 _ Try.underlying22 hi0 hz0 hz1 hz2 rfl _ [x] rfl HR1.out _ _ [y] rfl HR2.out HLL.out HB1.out.size ?_)
                        intro v8 w8 hown8 hgrow8
                        have HB8 : Hid (Below w.heap.size w w8) := HB1.out.grown hgrow8 HB1.out.size (fun k hk => (HR1.out.lt k hk).1)
                        have HO8 : Hid (w8.ownsRow w.heap.size 27 4 v8 M.length (flat M)) := by rw [HM.out]; first | exact hown8 | (rw [List.length_append]; exact hown8)
                        clear hown8 hgrow8
                        go_wp2_with fail
                        go_ret
                        exact ⟨_, rfl, HO8.out, HB8.out⟩
                    · have HM : Hid (M = [x] ++ [y]) := Lib.hid (HJ.out.2 fun h => hx (by have := h.1; injection this with this; rw [this]; exact eqP_iff.2 ⟨rfl, rfl, rfl, rfl⟩))
                      rw [show eqP x.v x.hi x.lo x.b lo.v lo.hi lo.lo lo.b = false by simpa using hx] at E1
                      clear hx HJ E2
                      go_region
                      go_wp2_with (at_builtin; refine wpList_append_pfs rfl _ _ 22 rfl w.heap.size i0 _ Try.underlying22 hi0 hz0 hz1 hz2 rfl _ [x] rfl HR1.out _ _ [y] rfl HR2.out HLL.out HB1.out.size ?_)
                      intro v8 w8 hown8 hgrow8
                      have HB8 : Hid (Below w.heap.size w w8) := HB1.out.grown hgrow8 HB1.out.size (fun k hk => (HR1.out.lt k hk).1)
                      have HO8 : Hid (w8.ownsRow w.heap.size 27 4 v8 M.length (flat M)) := by rw [HM.out]; first | exact hown8 | (rw [List.length_append]; exact hown8)
                      clear hown8 hgrow8
                      go_wp2_with fail
                      go_ret
                      exact ⟨_, rfl, HO8.out, HB8.out⟩
                  · have HM : Hid (M = [x] ++ Y) := Lib.hid (HJ.out.2 fun h => hY (by rw [h.2]; rfl))
                    have hY' : ((Y.length : Int) == 1) = false := by rw [beq_eq_false_iff_ne]; omega
                    clear hX hY L2 L3 HHw HJ
                    go_wp2_with fail
                    go_region
                    go_wp2_with (at_builtin; refine wpList_append_pfs rfl _ _ 22 rfl w.heap.size i0 _ Try.underlying22 hi0 hz0 hz1 hz2 rfl _ [x] rfl HR1.out _ _ Y rfl HR2.out HLL.out HB1.out.size ?_)
                    intro v8 w8 hown8 hgrow8
                    have HB8 : Hid (Below w.heap.size w w8) := HB1.out.grown hgrow8 HB1.out.size (fun k hk => (HR1.out.lt k hk).1)
                    have HO8 : Hid (w8.ownsRow w.heap.size 27 4 v8 M.length (flat M)) := by rw [HM.out]; first | exact hown8 | (rw [List.length_append]; exact hown8)
                    clear hown8 hgrow8
                    go_wp2_with fail
                    go_ret
                    exact ⟨_, rfl, HO8.out, HB8.out⟩
                · have HM : Hid (M = X ++ Y) := Lib.hid (HJ.out.2 fun h => hX (by rw [h.1]; rfl))
                  have hX' : ((X.length : Int) == 1) = false := by rw [beq_eq_false_iff_ne]; omega
                  clear hX L2 L3 HHw HJ
                  go_wp2_with fail
                  go_region
                  go_wp2_with (at_builtin; refine wpList_append_pfs rfl _ _ 22 rfl w.heap.size i0 _ Try.underlying22 hi0 hz0 hz1 hz2 rfl _ X rfl HR1.out _ _ Y rfl HR2.out HLL.out HB1.out.size ?_)
                  intro v8 w8 hown8 hgrow8
                  have HB8 : Hid (Below w.heap.size w w8) := HB1.out.grown hgrow8 HB1.out.size (fun k hk => (HR1.out.lt k hk).1)
                  have HO8 : Hid (w8.ownsRow w.heap.size 27 4 v8 M.length (flat M)) := by rw [HM.out]; first | exact hown8 | (rw [List.length_append]; exact hown8)
                  clear hown8 hgrow8
                  go_wp2_with fail
                  go_ret
                  exact ⟨_, rfl, HO8.out, HB8.out⟩
end Go.Proofs.Ytlgdkdplkdkkdaa
