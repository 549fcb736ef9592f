/- The document on lists of prefixes: HasPrefix, DoMeet, CheckList, SamePrefixes. -/
import Derived.Test.YtlgdkdplkdkkdaaSlE
import Derived.Test.YtlgdkdplkdkkdaaCuA
set_option linter.unusedVariables false
set_option linter.unusedSimpArgs false
namespace Go.Proofs.Ytlgdkdplkdkkdaa
open Go.RowKit

theorem pf_nat {p : Pf} (r : p.R) : ∃ h l b : Nat, p.hi = h ∧ p.lo = l ∧ p.b = b :=
  ⟨p.hi.toNat, p.lo.toNat, p.b.toNat, by have := r.h0; omega, by have := r.l0; omega, by have := r.b0; omega⟩
theorem rhas_any (p q : Pf) (w : World) (r : p.R) (s : q.R) :
    Calls Try.prog 41 #[.agg #[.bool p.v, .int .u64 p.hi, .int .u64 p.lo, .int .i64 p.b], .agg #[.bool q.v, .int .u64 q.hi, .int .u64 q.lo, .int .i64 q.b]] w fun e w' => e = .returned (.bool (p.has q)) ∧ Below w.heap.size w w' := by
  obtain ⟨h, l, b, e1, e2, e3⟩ := pf_nat r
  obtain ⟨h', l', b', f1, f2, f3⟩ := pf_nat s
  have r' : Right p.v h l b := by rw [← e1, ← e2, ← e3]; exact r
  have s' : Right q.v h' l' b' := by rw [← f1, ← f2, ← f3]; exact s
  have := hasPrefix_any p.v h l b q.v h' l' b' w r' s'
  unfold Pf.has
  rw [e1, e2, e3, f1, f2, f3]
  exact this
theorem rhalves_any (p : Pf) (w : World) (r : p.R) (h : p.b < wid p.v) :
    Calls Try.prog 43 #[.agg #[.bool p.v, .int .u64 p.hi, .int .u64 p.lo, .int .i64 p.b]] w fun e w' => e = .returned (.tuple #[.agg #[.bool p.lo'.v, .int .u64 p.lo'.hi, .int .u64 p.lo'.lo, .int .i64 p.lo'.b], .agg #[.bool p.hi'.v, .int .u64 p.hi'.hi, .int .u64 p.hi'.lo, .int .i64 p.hi'.b]]) ∧ Below w.heap.size w w' := by
  obtain ⟨h, l, b, e1, e2, e3⟩ := pf_nat r
  have r' : Right p.v h l b := by rw [← e1, ← e2, ← e3]; exact r
  have := halvesOf_any p.v h l b w r' (by omega)
  unfold Pf.lo' Pf.hi'
  simp only
  rw [e1, e2, e3]
  exact this
def Pf.meet (p q : Pf) : Bool := p.has q || q.has p
set_option maxHeartbeats 2000000 in
theorem rmeet_any (p q : Pf) (w : World) (r : p.R) (s : q.R) :
    Calls Try.prog 42 #[.agg #[.bool p.v, .int .u64 p.hi, .int .u64 p.lo, .int .i64 p.b], .agg #[.bool q.v, .int .u64 q.hi, .int .u64 q.lo, .int .i64 q.b]] w fun e w' => e = .returned (.bool (p.meet q)) ∧ Below w.heap.size w w' := by
  have H1 : Hid (∀ w : World, Calls Try.prog 41 #[.agg #[.bool p.v, .int .u64 p.hi, .int .u64 p.lo, .int .i64 p.b], .agg #[.bool q.v, .int .u64 q.hi, .int .u64 q.lo, .int .i64 q.b]] w fun e w' => e = .returned (.bool (p.has q)) ∧ Below w.heap.size w w') := fun w => rhas_any p q w r s
  have H2 : Hid (∀ w : World, Calls Try.prog 41 #[.agg #[.bool q.v, .int .u64 q.hi, .int .u64 q.lo, .int .i64 q.b], .agg #[.bool p.v, .int .u64 p.hi, .int .u64 p.lo, .int .i64 p.b]] w fun e w' => e = .returned (.bool (q.has p)) ∧ Below w.heap.size w w') := fun w => rhas_any q p w s r
  have HP : Hid (Has4 ((w.alloc (.cells #[.bool p.v, .int .u64 p.hi, .int .u64 p.lo, .int .i64 p.b] 27)).alloc (.cells #[.bool q.v, .int .u64 q.hi, .int .u64 q.lo, .int .i64 q.b] 27)) w.heap.size p.v p.hi p.lo p.b) := (Has4.new w p.v p.hi p.lo p.b 27).alloc _
  have HQ : Hid (Has4 ((w.alloc (.cells #[.bool p.v, .int .u64 p.hi, .int .u64 p.lo, .int .i64 p.b] 27)).alloc (.cells #[.bool q.v, .int .u64 q.hi, .int .u64 q.lo, .int .i64 q.b] 27)) (w.heap.size + 1) q.v q.hi q.lo q.b) := by
    have := Has4.new (w.alloc (.cells #[.bool p.v, .int .u64 p.hi, .int .u64 p.lo, .int .i64 p.b] 27)) q.v q.hi q.lo q.b 27
    rw [show (w.alloc (.cells #[.bool p.v, .int .u64 p.hi, .int .u64 p.lo, .int .i64 p.b] 27)).heap.size = w.heap.size + 1 by simp] at this
    exact this
  have HB : Hid (Below w.heap.size w ((w.alloc (.cells #[.bool p.v, .int .u64 p.hi, .int .u64 p.lo, .int .i64 p.b] 27)).alloc (.cells #[.bool q.v, .int .u64 q.hi, .int .u64 q.lo, .int .i64 q.b] 27))) := bal (bal (Below.refl _ _) _) _
  unfold Pf.meet
  generalize p.has q = x1 at *
  generalize q.has p = x2 at *
  clear r s
  cases x1
  · go_enter Try.func42, Try.ntmps42
    go_wp2_with fail
    refine (H1.out _).mono ?_
    rintro e w2 ⟨rfl, hb⟩
    replace HP := Lib.hid (HP.out.below hb)
    replace HQ := Lib.hid (HQ.out.below hb)
    replace HB := Lib.hid (btr HB.out hb)
    clear hb
    obtain ⟨p0, p1, p2, p3, p4⟩ := HP.out
    obtain ⟨q0, q1, q2, q3, q4⟩ := HQ.out
    go_wp2_with fail
    refine (H2.out _).mono ?_
    rintro e w3 ⟨rfl, hb⟩
    replace HB := Lib.hid (btr HB.out hb)
    clear hb
    go_wp2
    go_ret
    exact ⟨rfl, HB.out⟩
  · go_enter Try.func42, Try.ntmps42
    go_wp2_with fail
    refine (H1.out _).mono ?_
    rintro e w2 ⟨rfl, hb⟩
    replace HB := Lib.hid (btr HB.out hb)
    clear hb
    go_wp2
    go_ret
    exact ⟨rfl, HB.out⟩

theorem rpcheck_pf (p : Pf) (w : World) (h : p.Ok) : Calls Try.prog 9 #[.agg #[.bool p.v, .int .u64 p.hi, .int .u64 p.lo, .int .i64 p.b]] w fun e w' => e = .returned (.int .i64 p.chk) ∧ Below w.heap.size w w' := by
  obtain ⟨a, b, c, d⟩ := h
  have e1 : p.hi = (p.hi.toNat : Int) := by omega
  have e2 : p.lo = (p.lo.toNat : Int) := by omega
  have := rpcheck_nat p.v p.hi.toNat p.lo.toNat p.b w (by omega) (by omega)
  rw [← e1, ← e2] at this
  exact this

set_option maxHeartbeats 8000000 in
set_option maxRecDepth 100000 in
theorem clist_any (a : Option Addr) (c : Nat) (ps : List Pf) (w : World) (hok : ∀ p ∈ ps, p.Ok) (hs : Sl w a ps) :
    Calls Try.prog 7 #[.slice a ps.length c] w fun e w' => e = .returned (.int .i64 (slkL ps)) ∧ Below w.heap.size w w' := by
  by_cases hl : 12 < ps.length
  · rw [show slkL ps = 2 by simp [slkL, hl]]
    have hl' : (12 : Int) < (ps.length : Int) := by omega
    generalize ps.length = N at *
    go_enter Try.func7, Try.ntmps7
    go_wp2
    go_ret
    exact ⟨rfl, Below.refl _ _⟩
  rw [show slkL ps = schk ps by simp [slkL, hl]]
  obtain ⟨N, hN⟩ : ∃ N, N = ps.length := ⟨_, rfl⟩
  rw [← hN] at hl ⊢
  have hN8 : N ≤ 12 := by omega
  have hd12 : decide ((12 : Int) < (N : Int)) = false := decide_eq_false (by omega)
  have HN : Hid (N = ps.length) := hN
  clear hN hl
  go_enter Try.func7, Try.ntmps7
  go_wp2_with fail
  go_loopw [3] (fun vi wr => ∃ k : Nat, vi = .int .i64 k ∧ k ≤ N ∧ Below w.heap.size w wr ∧ Hid (schk ps = schk (ps.drop k)))
    (fun vi _ => N - (intOf vi).toNat)
  case atStart => exact ⟨0, rfl, Nat.zero_le _, Below.refl _ _, rfl⟩
  case round =>
    obtain ⟨k, rfl, hk, hb, hh⟩ := hrel
    have hN := HN.out
    by_cases hkN : k < N
    · have hkl : k < ps.length := by omega
      obtain ⟨g, o, rfl, hg, c0, c1, c2, c3⟩ := hs k hkl
      have hdec := hh.out
      have ho := hok _ (List.getElem_mem hkl)
      rw [List.drop_eq_getElem_cons hkl, schk_cons] at hdec
      rw [← (bcell hb).1 _ _ hg] at c0 c1 c2 c3
      have hgr : g < wr.heap.size := Nat.lt_of_lt_of_le hg hb.size
      have hC : Hid (∀ w : World, Calls Try.prog 9 #[.agg #[.bool (ps[k]).v, .int .u64 (ps[k]).hi, .int .u64 (ps[k]).lo, .int .i64 (ps[k]).b]] w fun e w' => e = .returned (.int .i64 (ps[k]).chk) ∧ Below w.heap.size w w') := fun w => rpcheck_pf _ w ho
      generalize (ps[k]).chk = r at *
      generalize ps[k] = x at *
      obtain ⟨v, hi, lo, b⟩ := x
      simp only at c0 c1 c2 c3 hC
      have k3 : (k : Int) < (N : Int) := by omega
      have k4 : (0 : Int) ≤ (k : Int) := by omega
      have hb1 := Lib.hid hb
      clear hh hN hok hs ho hb
      by_cases hx : r = 0
      · subst hx
        simp only [if_true] at hdec
        have HD : Hid (schk ps = schk (ps.drop (k + 1))) := hdec
        clear hdec
        go_wp2_with fail
        refine (hC.out _).mono ?_
        rintro e w2 ⟨rfl, hb2⟩
        have hb3 : Hid (Below w.heap.size w w2) := btr hb1.out hb2
        clear hb1 hb2
        go_wp2_with fail
        go_roundw
        case rel => exact ⟨k + 1, by go_num, by omega, hb3.out, HD⟩
        case measure => simp [intOf]; omega
      · simp only [hx, if_false] at hdec
        have HD : Hid (schk ps = r) := hdec
        have hI : (r != 0) = true := by rw [bne_iff_ne]; exact hx
        clear hdec hx
        go_wp2_with fail
        refine (hC.out _).mono ?_
        rintro e w2 ⟨rfl, hb2⟩
        have hb3 : Hid (Below w.heap.size w w2) := btr hb1.out hb2
        clear hb1 hb2
        go_wp2_with fail
        go_ret
        exact ⟨congrArg (fun r => Ending.returned (Value.int .i64 r)) HD.out.symm, hb3.out⟩
    · obtain rfl : k = N := by omega
      have HD : Hid (schk ps = 0) := by rw [hh.out, List.drop_eq_nil_of_le (by omega)]; rfl
      have k3 : decide ((k : Int) < (k : Int)) = false := by simp
      clear hh hN hok hs
      go_wp2_with fail
      go_ret
      exact ⟨congrArg (fun r => Ending.returned (Value.int .i64 r)) HD.out.symm, hb⟩

end Go.Proofs.Ytlgdkdplkdkkdaa
