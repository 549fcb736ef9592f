/- prefix.look: prefixes in their order. -/
import Derived.Test.YtghbonlignmdoaaGreatDoorPfB
set_option linter.unusedVariables false
set_option linter.unusedSimpArgs false
namespace Go.Proofs.YtghbonlignmdoaaGreatDoor
open Go.RowKit

/-- A prefix: its kind, the two halves of its address, how many bits. -/
structure Pf where
  v : Bool
  hi : Int
  lo : Int
  b : Int
def Pf.Ok (p : Pf) : Prop := 0 ≤ p.hi ∧ p.hi < 18446744073709551616 ∧ 0 ≤ p.lo ∧ p.lo < 18446744073709551616
def Pf.chk (p : Pf) : Int := pchk p.v p.hi p.lo p.b

/-- What look says of prefixes: the first one's error. -/
def lookR : List Pf → Int
  | [] => 0
  | p :: r => if p.chk = 0 then lookR r else p.chk

set_option maxHeartbeats 4000000 in
set_option maxRecDepth 100000 in
theorem look_any (g c : Nat) (ps : List Pf) (w : World) (hl : ps.length ≤ 100) (hok : ∀ p ∈ ps, p.Ok) (hg : g < w.heap.size)
    (hcell : ∀ j (h : j < ps.length), w.cell? ⟨g, j * 4, none⟩ = some (.bool ps[j].v) ∧ w.cell? ⟨g, j * 4 + 1, none⟩ = some (.int .u64 ps[j].hi) ∧ w.cell? ⟨g, j * 4 + 2, none⟩ = some (.int .u64 ps[j].lo) ∧ w.cell? ⟨g, j * 4 + 3, none⟩ = some (.int .i64 ps[j].b)) :
    Calls Tryz.prog 25 #[.slice (some ⟨g, 0, none⟩) ps.length c] w fun e w' => e = .returned (.int .i64 (lookR ps)) ∧ Below w.heap.size w w' := by
  obtain ⟨N, hN⟩ : ∃ N, N = ps.length := ⟨_, rfl⟩
  rw [← hN]
  have hN8 : N ≤ 100 := by omega
  have HN : Hid (N = ps.length) := hN
  clear hN hl
  go_enter Tryz.func25, Tryz.ntmps25
  go_wp2_with fail
  go_loopw [8] (fun vi wr => ∃ k : Nat, vi = .int .i64 k ∧ k ≤ N ∧ Below w.heap.size w wr ∧ Hid (lookR ps = lookR (ps.drop k)))
    (fun vi _ => N - (intOf vi).toNat)
  case atStart => exact ⟨0, rfl, Nat.zero_le _, Below.refl _ _, rfl⟩
  case round =>
    obtain ⟨k, rfl, hk, hb, hh⟩ := hrel
    have hN := HN.out
    by_cases hkN : k < N
    · obtain ⟨c0, c1, c2, c3⟩ := hcell k (by omega)
      have hdec := hh.out
      have ho := hok _ (List.getElem_mem (show k < ps.length by omega))
      rw [List.drop_eq_getElem_cons (show k < ps.length by omega), lookR] at hdec
      rw [← (bcell hb).1 _ _ hg] at c0 c1 c2 c3
      generalize ps[k]'(by omega) = x at c0 c1 c2 c3 hdec ho
      obtain ⟨v, hi, lo, b⟩ := x
      obtain ⟨i0, i1, l0, l1⟩ := ho
      simp only [Pf.chk] at hdec c0 c1 c2 c3 i0 i1 l0 l1
      have hC : Hid (∀ w : World, Calls Tryz.prog 21 #[.agg #[.bool v, .int .u64 hi, .int .u64 lo, .int .i64 b]] w fun e w' => e = .returned (.int .i64 (pchk v hi lo b)) ∧ Below w.heap.size w w') := fun w => pcheck_any v hi lo b w i0 i1 l0 l1
      have hb1 : Hid (Below w.heap.size w (wr.alloc (.cells #[.bool v, .int .u64 hi, .int .u64 lo, .int .i64 b] 37))) := bal hb _
      clear hh hN hcell hok i0 i1 l0 l1
      by_cases hx : pchk v hi lo b = 0
      · simp only [hx, if_true] at hdec
        rw [hx] at hC
        have HD : Hid (lookR ps = lookR (ps.drop (k + 1))) := hdec
        clear hdec hx
        go_wp2_with fail
        refine (hC.out _).mono ?_
        rintro e w2 ⟨rfl, hb2⟩
        have hb3 : Hid (Below w.heap.size w w2) := btr hb1.out hb2
        clear hb1 hb2
        go_wp2_with fail
        go_roundw
        case rel => exact ⟨k + 1, by go_num, by omega, hb3.out, HD⟩
        case measure => simp [intOf]; omega
      · simp only [hx, if_false] at hdec
        have HD : Hid (lookR ps = pchk v hi lo b) := hdec
        have hI : (pchk v hi lo b != 0) = true := by rw [bne_iff_ne]; exact hx
        clear hdec hx
        generalize pchk v hi lo b = r at *
        go_wp2_with fail
        refine (hC.out _).mono ?_
        rintro e w2 ⟨rfl, hb2⟩
        have hb3 : Hid (Below w.heap.size w w2) := btr hb1.out hb2
        clear hb1 hb2
        go_wp2_with fail
        go_ret
        exact ⟨congrArg (fun r => Ending.returned (Value.int .i64 r)) HD.out.symm, hb3.out⟩
    · have hd := hh.out
      rw [List.drop_eq_nil_of_le (by omega), lookR] at hd
      have HD : Hid (lookR ps = 0) := hd
      clear hd hh hN hcell hok
      go_wp2_with fail
      go_ret
      exact ⟨congrArg (fun r => Ending.returned (Value.int .i64 r)) HD.out.symm, hb⟩
end Go.Proofs.YtghbonlignmdoaaGreatDoor
