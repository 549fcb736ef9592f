/- log.Check: is a log right? -/
import Derived.Test.YtclnfkohlklbpaaLgA
set_option linter.unusedVariables false
set_option linter.unusedSimpArgs false
namespace Go.Proofs.Ytclnfkohlklbpaa
open Go.RowKit

/-- What is wrong with a log, behind these entries, which are right. -/
def logFrom : List En → List En → Int
  | _, [] => 0
  | done, x :: r => if follE done x = 0 then logFrom (done ++ [x]) r else follE done x
def logE (l : List En) : Int := if 30 < l.length then 2 else logFrom [] l

set_option maxHeartbeats 16000000 in
set_option maxRecDepth 100000 in
theorem lcheck_any (a : Option Addr) (c : Nat) (l : List En) (w : World) (hc : l.length ≤ c) (hs : Lies enE w a l) :
    Calls Try.prog 13 #[.slice a l.length c] w fun e w' => e = .returned (.int .i64 (logE l)) ∧ Below w.heap.size w w' := by
  by_cases hl : 30 < l.length
  · rw [show logE l = 2 by simp [logE, hl]]
    have hl' : (30 : Int) < (l.length : Int) := by omega
    generalize l.length = N at *
    go_enter Try.func13, Try.ntmps13
    go_wp2
    go_ret
    exact ⟨rfl, Below.refl _ _⟩
  rw [show logE l = logFrom [] l by simp [logE, hl]]
  obtain ⟨N, hN⟩ : ∃ N, N = l.length := ⟨_, rfl⟩
  rw [← hN] at hl hc ⊢
  have hN30 : N ≤ 30 := by omega
  have hd30 : decide ((30 : Int) < (N : Int)) = false := decide_eq_false (by omega)
  have HN : Hid (N = l.length) := hN
  have HL := Lib.hid hs
  obtain ⟨R, hR⟩ : ∃ R, R = logFrom [] l := ⟨_, rfl⟩
  rw [← hR]
  have HR := Lib.hid hR
  clear hN hl hs hR
  go_enter Try.func13, Try.ntmps13
  go_wp2_with fail
  go_loopw [11] (fun vi wr => ∃ k : Nat, vi = .int .i64 k ∧ k ≤ N ∧ Hid (Below w.heap.size w wr) ∧ Hid (R = logFrom (l.take k) (l.drop k)))
    (fun vi _ => N - (intOf vi).toNat)
  case atStart => exact ⟨0, rfl, Nat.zero_le _, Below.refl _ _, HR.out⟩
  case round =>
    clear HR
    obtain ⟨k, rfl, hk, hb, hh⟩ := hrel
    by_cases hkN : k < N
    · have hkl : k < l.length := by have := HN.out; omega
      obtain ⟨g, o, rfl, hg, c0, c1, c2, c3, c4, c5, c6, c7, c8, c9, c10, c11, c12⟩ := HL.out.en k hkl
      have hdec := hh.out
      rw [List.drop_eq_getElem_cons hkl, logFrom, show l.take k ++ [l[k]] = l.take (k + 1) by rw [List.take_succ_eq_append_getElem hkl]] at hdec
      rw [← (bcell hb.out).1 _ _ hg] at c0 c1 c2 c3 c4 c5 c6 c7 c8 c9 c10 c11 c12
      have hC : Hid (∀ W : World, Below w.heap.size w W → Calls Try.prog 20 #[.slice (some ⟨g, o, none⟩) k c, .agg #[.int .i64 l[k].num, .int .i64 l[k].ep, .int .i64 l[k].o.k, .bool l[k].o.p.v, .int .u64 l[k].o.p.hi, .int .u64 l[k].o.p.lo, .int .i64 l[k].o.p.b, .bool l[k].o.a.v, .int .u64 l[k].o.a.hi, .int .u64 l[k].o.a.lo, .string l[k].o.who, .int .i64 l[k].o.pof, .int .i64 l[k].o.n]] W fun e w' => e = .returned (.int .i64 (follE (l.take k) l[k])) ∧ Below W.heap.size W w') := fun W hW => by
        have h := follows_any (some ⟨g, o, none⟩) c (l.take k) l[k] W (by rw [List.length_take]; omega) ((HL.out.below hW).take k)
        rw [show (l.take k).length = k by rw [List.length_take]; omega] at h
        exact h
      have hb1 := Lib.hid (bal hb.out (.cells #[.int .i64 l[k].num, .int .i64 l[k].ep, .int .i64 l[k].o.k, .bool l[k].o.p.v, .int .u64 l[k].o.p.hi, .int .u64 l[k].o.p.lo, .int .i64 l[k].o.p.b, .bool l[k].o.a.v, .int .u64 l[k].o.a.hi, .int .u64 l[k].o.a.lo, .string l[k].o.who, .int .i64 l[k].o.pof, .int .i64 l[k].o.n] 44))
      have hkz : (k : Int) < (N : Int) := by omega
      have hk0 : (0 : Int) ≤ (k : Int) := by omega
      have hkc : (k : Int) ≤ (c : Int) := by omega
      generalize follE (l.take k) l[k] = r at *
      generalize hxe : l[k] = x at *
      clear hxe
      generalize x.num = x0 at *
      generalize x.ep = x1 at *
      generalize x.o.k = x2 at *
      generalize x.o.p.v = x3 at *
      generalize x.o.p.hi = x4 at *
      generalize x.o.p.lo = x5 at *
      generalize x.o.p.b = x6 at *
      generalize x.o.a.v = x7 at *
      generalize x.o.a.hi = x8 at *
      generalize x.o.a.lo = x9 at *
      generalize x.o.who = x10 at *
      generalize x.o.pof = x11 at *
      generalize x.o.n = x12 at *
      clear hh hb
      by_cases hx : r = 0
      · subst hx
        rw [if_pos rfl] at hdec
        have HD := Lib.hid hdec
        clear hdec
        go_wp2_with fail
        go_region_with (go_at_call 20; refine (hC.out _ hb1.out.drew).mono ?_; rintro e w2 ⟨rfl, hb2⟩)
        have hb3 := Lib.hid (btr hb1.out.drew hb2)
        clear hb1 hb2
        go_wp2_with fail
        go_roundw
        case rel => exact ⟨k + 1, by go_num, by omega, hb3, HD⟩
        case measure => simp [intOf]; omega
      · rw [if_neg hx] at hdec
        have HD : Hid (R = r) := hdec
        have hI : (r != 0) = true := by rw [bne_iff_ne]; exact hx
        clear hdec hx
        go_wp2_with fail
        go_region_with (go_at_call 20; refine (hC.out _ hb1.out.drew).mono ?_; rintro e w2 ⟨rfl, hb2⟩)
        have hb3 := Lib.hid (btr hb1.out.drew hb2)
        clear hb1 hb2
        go_wp2_with fail
        go_ret
        exact ⟨congrArg (fun r => Ending.returned (Value.int .i64 r)) HD.out.symm, hb3.out⟩
    · obtain rfl : k = N := by omega
      have hd := hh.out
      rw [List.drop_eq_nil_of_le (by have := HN.out; omega), logFrom] at hd
      have HD : Hid (R = 0) := hd
      have hkk : ¬ (k : Int) < (k : Int) := by omega
      clear hd hh
      go_wp2_with fail
      go_ret
      exact ⟨congrArg (fun r => Ending.returned (Value.int .i64 r)) HD.out.symm, hb.out⟩
end Go.Proofs.Ytclnfkohlklbpaa
