/- span.has, span.look. -/
import Derived.Test.YtlgdkdplkdkkdaaSpP
import Derived.Test.YtlgdkdplkdkkdaaTbP
set_option linter.unusedVariables false
set_option linter.unusedSimpArgs false
namespace Go.Proofs.Ytlgdkdplkdkkdaa
open Go.RowKit

theorem shas_any (p q : Pf) (w : World) (r : p.R) (s : q.R) :
    Calls Try.prog 38 #[.agg #[.bool p.v, .int .u64 p.hi, .int .u64 p.lo, .int .i64 p.b], .agg #[.bool q.v, .int .u64 q.hi, .int .u64 q.lo, .int .i64 q.b]] w fun e w' => e = .returned (.bool (p.has q)) ∧ Below w.heap.size w w' := by
  obtain ⟨u, yi, yo, c⟩ := p
  obtain ⟨v, hi, lo, b⟩ := q
  have r' : Right u yi yo c := r
  have s' : Right v hi lo b := s
  have hW : Hid (∀ w : World, Calls Try.prog 52 #[.agg #[.bool u, .int .u64 yi, .int .u64 yo, .int .i64 c], .agg #[.bool v, .int .u64 hi, .int .u64 lo, .int .i64 b]] w fun e w' =>
      e = .returned (.tuple #[.bool (hasB u yi yo c v hi lo b), .int .i64 0]) ∧ Below w.heap.size w w') := fun w => has_ok u yi yo c v hi lo b w r'.h0 r'.h1 r'.l0 r'.l1 s'.h0 s'.h1 s'.l0 s'.l1 (by rw [two, if_pos ((right_iff _ _ _ _ r'.h0 r'.h1 r'.l0 r'.l1).2 r')]; exact (right_iff _ _ _ _ s'.h0 s'.h1 s'.l0 s'.l1).2 s')
  unfold Pf.has
  simp only
  generalize hasB u yi yo c v hi lo b = d at *
  clear r s r' s'
  go_enter Try.func38, Try.ntmps38
  go_wp2_with fail
  refine (hW.out _).mono ?_
  rintro e w2 ⟨rfl, hb⟩
  go_wp2
  go_ret
  exact ⟨rfl, btr (bal (bal (Below.refl _ _) _) _) hb⟩

/-- What is wrong with a list, if something is. -/
def schk : List Pf → Int
  | [] => 0
  | p :: r => if p.chk = 0 then schk r else p.chk
def slkL (ps : List Pf) : Int := if 12 < ps.length then 2 else schk ps
theorem schk_cons (p : Pf) (r : List Pf) : schk (p :: r) = if p.chk = 0 then schk r else p.chk := rfl

set_option maxHeartbeats 8000000 in
set_option maxRecDepth 100000 in
theorem slook_any (a : Option Addr) (c : Nat) (ps : List Pf) (w : World) (hok : ∀ p ∈ ps, p.Ok) (hs : Sl w a ps) :
    Calls Try.prog 14 #[.slice a ps.length c] w fun e w' => e = .returned (.int .i64 (slkL ps)) ∧ Below w.heap.size w w' := by
  by_cases hl : 12 < ps.length
  · rw [show slkL ps = 2 by simp [slkL, hl]]
    have hl' : (12 : Int) < (ps.length : Int) := by omega
    generalize ps.length = N at *
    go_enter Try.func14, Try.ntmps14
    go_wp2
    go_ret
    exact ⟨rfl, Below.refl _ _⟩
  rw [show slkL ps = schk ps by simp [slkL, hl]]
  obtain ⟨N, hN⟩ : ∃ N, N = ps.length := ⟨_, rfl⟩
  rw [← hN] at hl ⊢
  have hN8 : N ≤ 12 := by omega
  have hd12 : decide ((12 : Int) < (N : Int)) = false := decide_eq_false (by omega)
  have HN : Hid (N = ps.length) := hN
  clear hN hl
  go_enter Try.func14, Try.ntmps14
  go_wp2_with fail
  go_loopw [11] (fun vi wr => ∃ k : Nat, vi = .int .i64 k ∧ k ≤ N ∧ Below w.heap.size w wr ∧ Hid (schk ps = schk (ps.drop k)))
    (fun vi _ => N - (intOf vi).toNat)
  case atStart => exact ⟨0, rfl, Nat.zero_le _, Below.refl _ _, rfl⟩
  case round =>
    obtain ⟨k, rfl, hk, hb, hh⟩ := hrel
    have hN := HN.out
    by_cases hkN : k < N
    · have hkl : k < ps.length := by omega
      obtain ⟨g, o, rfl, hg, c0, c1, c2, c3⟩ := hs k hkl
      have hdec := hh.out
      have ho := hok _ (List.getElem_mem hkl)
      rw [List.drop_eq_getElem_cons hkl, schk_cons] at hdec
      rw [← (bcell hb).1 _ _ hg] at c0 c1 c2 c3
      have hgr : g < wr.heap.size := Nat.lt_of_lt_of_le hg hb.size
      generalize ps[k]'(by omega) = x at *
      obtain ⟨v, hi, lo, b⟩ := x
      obtain ⟨i0, i1, l0, l1⟩ := ho
      simp only [Pf.chk] at hdec c0 c1 c2 c3 i0 i1 l0 l1
      have hC : Hid (∀ w : World, Calls Try.prog 20 #[.agg #[.bool v, .int .u64 hi, .int .u64 lo, .int .i64 b]] w fun e w' => e = .returned (.int .i64 (pchk v hi lo b)) ∧ Below w.heap.size w w') := fun w => pcheck_any v hi lo b w i0 i1 l0 l1
      have hb1 : Hid (Below w.heap.size w (wr.alloc (.cells #[.bool v, .int .u64 hi, .int .u64 lo, .int .i64 b] 27))) := bal hb _
      have k3 : (k : Int) < (N : Int) := by omega
      clear hh hN hok hs i0 i1 l0 l1
      by_cases hx : pchk v hi lo b = 0
      · simp only [hx, if_true] at hdec
        rw [hx] at hC
        have HD : Hid (schk ps = schk (ps.drop (k + 1))) := hdec
        clear hdec hx
        go_wp2_with fail
        refine (hC.out _).mono ?_
        rintro e w2 ⟨rfl, hb2⟩
        have hb3 : Hid (Below w.heap.size w w2) := btr hb1.out hb2
        clear hb1 hb2
        go_wp2_with fail
        go_roundw
        case rel => exact ⟨k + 1, by go_num, by omega, hb3.out, HD⟩
        case measure => simp [intOf]; omega
      · simp only [hx, if_false] at hdec
        have HD : Hid (schk ps = pchk v hi lo b) := hdec
        have hI : (pchk v hi lo b != 0) = true := by rw [bne_iff_ne]; exact hx
        clear hdec hx
        generalize pchk v hi lo b = r at *
        go_wp2_with fail
        refine (hC.out _).mono ?_
        rintro e w2 ⟨rfl, hb2⟩
        have hb3 : Hid (Below w.heap.size w w2) := btr hb1.out hb2
        clear hb1 hb2
        go_wp2_with fail
        go_ret
        exact ⟨congrArg (fun r => Ending.returned (Value.int .i64 r)) HD.out.symm, hb3.out⟩
    · obtain rfl : k = N := by omega
      have HD : Hid (schk ps = 0) := by rw [hh.out, List.drop_eq_nil_of_le (by omega)]; rfl
      have k3 : decide ((k : Int) < (k : Int)) = false := by simp
      clear hh hN hok hs
      go_wp2_with fail
      go_ret
      exact ⟨congrArg (fun r => Ending.returned (Value.int .i64 r)) HD.out.symm, hb⟩
end Go.Proofs.Ytlgdkdplkdkkdaa
