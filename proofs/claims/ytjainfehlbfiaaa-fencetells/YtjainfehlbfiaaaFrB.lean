/- The document's AcquireOf and CheckDisk; SameLog, SameDisk at what is the same. -/
import Derived.Test.YtjainfehlbfiaaaLgB
import Derived.Test.YtjainfehlbfiaaaFtA
import Derived.Test.YtjainfehlbfiaaaFrA
import Derived.Test.YtjainfehlbfiaaaFnC
import Derived.Test.YtjainfehlbfiaaaGnB
set_option linter.unusedVariables false
set_option linter.unusedSimpArgs false
namespace Go.Proofs.Ytjainfehlbfiaaa
open Go.RowKit

set_option maxHeartbeats 4000000 in
theorem neq_same (w : World) (x : En) : (binOp .neq 51 (.agg #[.int .i64 x.num, .int .i64 x.ep, .int .i64 x.o.k, .bool x.o.p.v, .int .u64 x.o.p.hi, .int .u64 x.o.p.lo, .int .i64 x.o.p.b, .bool x.o.a.v, .int .u64 x.o.a.hi, .int .u64 x.o.a.lo, .string x.o.who, .int .i64 x.o.pof, .int .i64 x.o.n]) (.agg #[.int .i64 x.num, .int .i64 x.ep, .int .i64 x.o.k, .bool x.o.p.v, .int .u64 x.o.p.hi, .int .u64 x.o.p.lo, .int .i64 x.o.p.b, .bool x.o.a.v, .int .u64 x.o.a.hi, .int .u64 x.o.a.lo, .string x.o.who, .int .i64 x.o.pof, .int .i64 x.o.n])).run Try.prog w = .ok (.bool false) w := by
  generalize x.num = x0
  generalize x.ep = x1
  generalize x.o.k = x2
  generalize x.o.p.v = x3
  generalize x.o.p.hi = x4
  generalize x.o.p.lo = x5
  generalize x.o.p.b = x6
  generalize x.o.a.v = x7
  generalize x.o.a.hi = x8
  generalize x.o.a.lo = x9
  generalize x.o.who = x10
  generalize x.o.pof = x11
  generalize x.o.n = x12
  simp [go_sem]
theorem keep2E {w W W' : World} {g o g' o' k : Nat} {v0 v1 v2 v3 v4 v5 v6 v7 v8 v9 v10 v11 v12 u0 u1 u2 u3 u4 u5 u6 u7 u8 u9 u10 u11 u12 : Value} (h : ((W.cell? ⟨g, o + k * 13, none⟩ = some (v0) ∧ W.cell? ⟨g, o + k * 13 + 1, none⟩ = some (v1) ∧ W.cell? ⟨g, o + k * 13 + 2, none⟩ = some (v2) ∧ W.cell? ⟨g, o + k * 13 + 3, none⟩ = some (v3) ∧ W.cell? ⟨g, o + k * 13 + 4, none⟩ = some (v4) ∧ W.cell? ⟨g, o + k * 13 + 5, none⟩ = some (v5) ∧ W.cell? ⟨g, o + k * 13 + 6, none⟩ = some (v6) ∧ W.cell? ⟨g, o + k * 13 + 7, none⟩ = some (v7) ∧ W.cell? ⟨g, o + k * 13 + 8, none⟩ = some (v8) ∧ W.cell? ⟨g, o + k * 13 + 9, none⟩ = some (v9) ∧ W.cell? ⟨g, o + k * 13 + 10, none⟩ = some (v10) ∧ W.cell? ⟨g, o + k * 13 + 11, none⟩ = some (v11) ∧ W.cell? ⟨g, o + k * 13 + 12, none⟩ = some (v12)) ∧ (W.cell? ⟨g', o' + k * 13, none⟩ = some (u0) ∧ W.cell? ⟨g', o' + k * 13 + 1, none⟩ = some (u1) ∧ W.cell? ⟨g', o' + k * 13 + 2, none⟩ = some (u2) ∧ W.cell? ⟨g', o' + k * 13 + 3, none⟩ = some (u3) ∧ W.cell? ⟨g', o' + k * 13 + 4, none⟩ = some (u4) ∧ W.cell? ⟨g', o' + k * 13 + 5, none⟩ = some (u5) ∧ W.cell? ⟨g', o' + k * 13 + 6, none⟩ = some (u6) ∧ W.cell? ⟨g', o' + k * 13 + 7, none⟩ = some (u7) ∧ W.cell? ⟨g', o' + k * 13 + 8, none⟩ = some (u8) ∧ W.cell? ⟨g', o' + k * 13 + 9, none⟩ = some (u9) ∧ W.cell? ⟨g', o' + k * 13 + 10, none⟩ = some (u10) ∧ W.cell? ⟨g', o' + k * 13 + 11, none⟩ = some (u11) ∧ W.cell? ⟨g', o' + k * 13 + 12, none⟩ = some (u12))) ∧ Below w.heap.size w W) (e : W' = W.drew) : ((W'.cell? ⟨g, o + k * 13, none⟩ = some (v0) ∧ W'.cell? ⟨g, o + k * 13 + 1, none⟩ = some (v1) ∧ W'.cell? ⟨g, o + k * 13 + 2, none⟩ = some (v2) ∧ W'.cell? ⟨g, o + k * 13 + 3, none⟩ = some (v3) ∧ W'.cell? ⟨g, o + k * 13 + 4, none⟩ = some (v4) ∧ W'.cell? ⟨g, o + k * 13 + 5, none⟩ = some (v5) ∧ W'.cell? ⟨g, o + k * 13 + 6, none⟩ = some (v6) ∧ W'.cell? ⟨g, o + k * 13 + 7, none⟩ = some (v7) ∧ W'.cell? ⟨g, o + k * 13 + 8, none⟩ = some (v8) ∧ W'.cell? ⟨g, o + k * 13 + 9, none⟩ = some (v9) ∧ W'.cell? ⟨g, o + k * 13 + 10, none⟩ = some (v10) ∧ W'.cell? ⟨g, o + k * 13 + 11, none⟩ = some (v11) ∧ W'.cell? ⟨g, o + k * 13 + 12, none⟩ = some (v12)) ∧ (W'.cell? ⟨g', o' + k * 13, none⟩ = some (u0) ∧ W'.cell? ⟨g', o' + k * 13 + 1, none⟩ = some (u1) ∧ W'.cell? ⟨g', o' + k * 13 + 2, none⟩ = some (u2) ∧ W'.cell? ⟨g', o' + k * 13 + 3, none⟩ = some (u3) ∧ W'.cell? ⟨g', o' + k * 13 + 4, none⟩ = some (u4) ∧ W'.cell? ⟨g', o' + k * 13 + 5, none⟩ = some (u5) ∧ W'.cell? ⟨g', o' + k * 13 + 6, none⟩ = some (u6) ∧ W'.cell? ⟨g', o' + k * 13 + 7, none⟩ = some (u7) ∧ W'.cell? ⟨g', o' + k * 13 + 8, none⟩ = some (u8) ∧ W'.cell? ⟨g', o' + k * 13 + 9, none⟩ = some (u9) ∧ W'.cell? ⟨g', o' + k * 13 + 10, none⟩ = some (u10) ∧ W'.cell? ⟨g', o' + k * 13 + 11, none⟩ = some (u11) ∧ W'.cell? ⟨g', o' + k * 13 + 12, none⟩ = some (u12))) ∧ Below w.heap.size w W' := by
  subst e
  exact ⟨h.1, h.2.drew⟩
set_option maxHeartbeats 16000000 in
set_option maxRecDepth 100000 in
theorem rsame_log (a a' : Option Addr) (c c' : Nat) (l : List En) (w : World) (hl : l.length ≤ 1000) (hs : Lies enE w a l) (hs' : Lies enE w a' l) :
    Calls Try.prog 33 #[.slice a l.length c, .slice a' l.length c'] w fun e w' => e = .returned (.bool true) ∧ Below w.heap.size w w' := by
  obtain ⟨N, hN⟩ : ∃ N, N = l.length := ⟨_, rfl⟩
  rw [← hN] at hl ⊢
  have HN : Hid (N = l.length) := hN
  have HL := Lib.hid hs
  have HL' := Lib.hid hs'
  clear hN hs hs'
  go_enter Try.func33, Try.ntmps33
  go_wp2_with fail
  go_loopw [5] (fun vi wr => ∃ k : Nat, vi = .int .i64 k ∧ k ≤ N ∧ Hid (Below w.heap.size w wr))
    (fun vi _ => N - (intOf vi).toNat)
  case atStart => exact ⟨0, rfl, Nat.zero_le _, Below.refl _ _⟩
  case round =>
    obtain ⟨k, rfl, hk, hb⟩ := hrel
    by_cases hkN : k < N
    · have hkl : k < l.length := by have := HN.out; omega
      obtain ⟨g, o, rfl, hg, hc⟩ := HL.out.en k hkl
      obtain ⟨g', o', rfl, hg', hc'⟩ := HL'.out.en k hkl
      have hq : ∀ w : World, (binOp .neq 51 (.agg #[.int .i64 l[k].num, .int .i64 l[k].ep, .int .i64 l[k].o.k, .bool l[k].o.p.v, .int .u64 l[k].o.p.hi, .int .u64 l[k].o.p.lo, .int .i64 l[k].o.p.b, .bool l[k].o.a.v, .int .u64 l[k].o.a.hi, .int .u64 l[k].o.a.lo, .string l[k].o.who, .int .i64 l[k].o.pof, .int .i64 l[k].o.n]) (.agg #[.int .i64 l[k].num, .int .i64 l[k].ep, .int .i64 l[k].o.k, .bool l[k].o.p.v, .int .u64 l[k].o.p.hi, .int .u64 l[k].o.p.lo, .int .i64 l[k].o.p.b, .bool l[k].o.a.v, .int .u64 l[k].o.a.hi, .int .u64 l[k].o.a.lo, .string l[k].o.who, .int .i64 l[k].o.pof, .int .i64 l[k].o.n])).run Try.prog w = .ok (.bool false) w := fun w => neq_same w l[k]
      generalize hxe : l[k] = x at *
      clear hxe
      generalize x.num = x0 at *
      generalize x.ep = x1 at *
      generalize x.o.k = x2 at *
      generalize x.o.p.v = x3 at *
      generalize x.o.p.hi = x4 at *
      generalize x.o.p.lo = x5 at *
      generalize x.o.p.b = x6 at *
      generalize x.o.a.v = x7 at *
      generalize x.o.a.hi = x8 at *
      generalize x.o.a.lo = x9 at *
      generalize x.o.who = x10 at *
      generalize x.o.pof = x11 at *
      generalize x.o.n = x12 at *
      have S0 : Hid (((wr.cell? ⟨g, o + k * 13, none⟩ = some (.int .i64 x0) ∧ wr.cell? ⟨g, o + k * 13 + 1, none⟩ = some (.int .i64 x1) ∧ wr.cell? ⟨g, o + k * 13 + 2, none⟩ = some (.int .i64 x2) ∧ wr.cell? ⟨g, o + k * 13 + 3, none⟩ = some (.bool x3) ∧ wr.cell? ⟨g, o + k * 13 + 4, none⟩ = some (.int .u64 x4) ∧ wr.cell? ⟨g, o + k * 13 + 5, none⟩ = some (.int .u64 x5) ∧ wr.cell? ⟨g, o + k * 13 + 6, none⟩ = some (.int .i64 x6) ∧ wr.cell? ⟨g, o + k * 13 + 7, none⟩ = some (.bool x7) ∧ wr.cell? ⟨g, o + k * 13 + 8, none⟩ = some (.int .u64 x8) ∧ wr.cell? ⟨g, o + k * 13 + 9, none⟩ = some (.int .u64 x9) ∧ wr.cell? ⟨g, o + k * 13 + 10, none⟩ = some (.string x10) ∧ wr.cell? ⟨g, o + k * 13 + 11, none⟩ = some (.int .i64 x11) ∧ wr.cell? ⟨g, o + k * 13 + 12, none⟩ = some (.int .i64 x12)) ∧ (wr.cell? ⟨g', o' + k * 13, none⟩ = some (.int .i64 x0) ∧ wr.cell? ⟨g', o' + k * 13 + 1, none⟩ = some (.int .i64 x1) ∧ wr.cell? ⟨g', o' + k * 13 + 2, none⟩ = some (.int .i64 x2) ∧ wr.cell? ⟨g', o' + k * 13 + 3, none⟩ = some (.bool x3) ∧ wr.cell? ⟨g', o' + k * 13 + 4, none⟩ = some (.int .u64 x4) ∧ wr.cell? ⟨g', o' + k * 13 + 5, none⟩ = some (.int .u64 x5) ∧ wr.cell? ⟨g', o' + k * 13 + 6, none⟩ = some (.int .i64 x6) ∧ wr.cell? ⟨g', o' + k * 13 + 7, none⟩ = some (.bool x7) ∧ wr.cell? ⟨g', o' + k * 13 + 8, none⟩ = some (.int .u64 x8) ∧ wr.cell? ⟨g', o' + k * 13 + 9, none⟩ = some (.int .u64 x9) ∧ wr.cell? ⟨g', o' + k * 13 + 10, none⟩ = some (.string x10) ∧ wr.cell? ⟨g', o' + k * 13 + 11, none⟩ = some (.int .i64 x11) ∧ wr.cell? ⟨g', o' + k * 13 + 12, none⟩ = some (.int .i64 x12))) ∧ Below w.heap.size w wr) := by
        have kk := (bcell hb.out).1
        refine ⟨⟨?_, ?_⟩, hb.out⟩
        · obtain ⟨c0, c1, c2, c3, c4, c5, c6, c7, c8, c9, c10, c11, c12⟩ := hc
          rw [← kk _ _ hg] at c0 c1 c2 c3 c4 c5 c6 c7 c8 c9 c10 c11 c12
          exact ⟨c0, c1, c2, c3, c4, c5, c6, c7, c8, c9, c10, c11, c12⟩
        · obtain ⟨c0, c1, c2, c3, c4, c5, c6, c7, c8, c9, c10, c11, c12⟩ := hc'
          rw [← kk _ _ hg'] at c0 c1 c2 c3 c4 c5 c6 c7 c8 c9 c10 c11 c12
          exact ⟨c0, c1, c2, c3, c4, c5, c6, c7, c8, c9, c10, c11, c12⟩
      have S1 := Lib.hid (keep2E S0.out rfl)
      have hkz : (k : Int) < (N : Int) := by omega
      have hk0 : (0 : Int) ≤ (k : Int) := by omega
      clear hb hc hc'
      go_wp2_with fail
      go_region_held3 (fun w' => ((w'.cell? ⟨g, o + k * 13, none⟩ = some (.int .i64 x0) ∧ w'.cell? ⟨g, o + k * 13 + 1, none⟩ = some (.int .i64 x1) ∧ w'.cell? ⟨g, o + k * 13 + 2, none⟩ = some (.int .i64 x2) ∧ w'.cell? ⟨g, o + k * 13 + 3, none⟩ = some (.bool x3) ∧ w'.cell? ⟨g, o + k * 13 + 4, none⟩ = some (.int .u64 x4) ∧ w'.cell? ⟨g, o + k * 13 + 5, none⟩ = some (.int .u64 x5) ∧ w'.cell? ⟨g, o + k * 13 + 6, none⟩ = some (.int .i64 x6) ∧ w'.cell? ⟨g, o + k * 13 + 7, none⟩ = some (.bool x7) ∧ w'.cell? ⟨g, o + k * 13 + 8, none⟩ = some (.int .u64 x8) ∧ w'.cell? ⟨g, o + k * 13 + 9, none⟩ = some (.int .u64 x9) ∧ w'.cell? ⟨g, o + k * 13 + 10, none⟩ = some (.string x10) ∧ w'.cell? ⟨g, o + k * 13 + 11, none⟩ = some (.int .i64 x11) ∧ w'.cell? ⟨g, o + k * 13 + 12, none⟩ = some (.int .i64 x12)) ∧ (w'.cell? ⟨g', o' + k * 13, none⟩ = some (.int .i64 x0) ∧ w'.cell? ⟨g', o' + k * 13 + 1, none⟩ = some (.int .i64 x1) ∧ w'.cell? ⟨g', o' + k * 13 + 2, none⟩ = some (.int .i64 x2) ∧ w'.cell? ⟨g', o' + k * 13 + 3, none⟩ = some (.bool x3) ∧ w'.cell? ⟨g', o' + k * 13 + 4, none⟩ = some (.int .u64 x4) ∧ w'.cell? ⟨g', o' + k * 13 + 5, none⟩ = some (.int .u64 x5) ∧ w'.cell? ⟨g', o' + k * 13 + 6, none⟩ = some (.int .i64 x6) ∧ w'.cell? ⟨g', o' + k * 13 + 7, none⟩ = some (.bool x7) ∧ w'.cell? ⟨g', o' + k * 13 + 8, none⟩ = some (.int .u64 x8) ∧ w'.cell? ⟨g', o' + k * 13 + 9, none⟩ = some (.int .u64 x9) ∧ w'.cell? ⟨g', o' + k * 13 + 10, none⟩ = some (.string x10) ∧ w'.cell? ⟨g', o' + k * 13 + 11, none⟩ = some (.int .i64 x11) ∧ w'.cell? ⟨g', o' + k * 13 + 12, none⟩ = some (.int .i64 x12))) ∧ Below w.heap.size w w')
        (first | with_reducible exact S1.out | with_reducible exact S0.out)
        (fail)
      have hb2 : Hid (Below w.heap.size w wr.drew) := S1.out.2
      clear S0 S1
      go_wp2_with fail
      go_roundw
      case rel => exact ⟨k + 1, by go_num, by omega, And.right (by assumption)⟩
      case measure => simp [intOf]; omega
    · obtain rfl : k = N := by omega
      have hkk : ¬ (k : Int) < (k : Int) := by omega
      go_wp2_with fail
      go_ret
      exact ⟨rfl, hb.out⟩
end Go.Proofs.Ytjainfehlbfiaaa

namespace Go.Proofs.Ytjainfehlbfiaaa
open Go.RowKit

set_option maxHeartbeats 8000000 in
set_option maxRecDepth 100000 in
theorem racq_bad (ep h u who now : Int) (s : Value) (a : Option Addr) (n c : Nat) (w : World) (e0 : 0 ≤ ep) (e1 : ep ≤ 999) (n0 : 0 ≤ now) (n1 : now ≤ 9999) (h0 : ¬ lendE ep h u who now = 0) :
    Calls Try.prog 8 #[.agg #[.int .i64 ep, .int .i64 h, .int .i64 u, .slice a n c], .int .i64 who, .int .i64 now] w fun e w' => e = .returned (.tuple #[.agg #[.int .i64 0, .int .i64 0, .int .i64 0, .slice none 0 0], .int .i64 (lendE ep h u who now)]) ∧ Below w.heap.size w w' := by
  cases b1 : (h != 0)
  · by_cases h9 : 999 ≤ ep
    · rw [show lendE ep h u who now = 2 by simp [lendE, heldB, b1, h9]]
      have e9 : 999 < ep + 1 := by omega
      clear h0 h9
      go_enter Try.func8, Try.ntmps8
      go_wp2
      refine bodyPost_ret (v := .tuple #[.agg #[.int .i64 0, .int .i64 0, .int .i64 0, .slice none 0 0], .int .i64 2]) ?_ rfl ⟨rfl, ?_⟩
      · simp [results, Try.results8, go_sem]
      · (repeat' (first | exact Below.refl _ _ | with_reducible refine bal ?_ _ | with_reducible refine bse ?_ (by first | (simp; done) | (simp; omega)) _))
    · exact absurd (show lendE ep h u who now = 0 by simp [lendE, heldB, b1]; omega) h0
  · by_cases hn : now ≤ u
    · have dn : decide (now ≤ u) = true := decide_eq_true hn
      cases b2 : (h != who)
      · exact absurd (show lendE ep h u who now = 0 by simp [lendE, heldB, b1, b2, hn]) h0
      · rw [show lendE ep h u who now = 4 by simp [lendE, heldB, b1, b2, hn]]
        clear h0
        go_enter Try.func8, Try.ntmps8
        go_wp2
        refine bodyPost_ret (v := .tuple #[.agg #[.int .i64 0, .int .i64 0, .int .i64 0, .slice none 0 0], .int .i64 4]) ?_ rfl ⟨rfl, ?_⟩
        · simp [results, Try.results8, go_sem]
        · (repeat' (first | exact Below.refl _ _ | with_reducible refine bal ?_ _ | with_reducible refine bse ?_ (by first | (simp; done) | (simp; omega)) _))
    · have dn : decide (now ≤ u) = false := decide_eq_false hn
      by_cases h9 : 999 ≤ ep
      · rw [show lendE ep h u who now = 2 by simp [lendE, heldB, b1, dn, h9]]
        have e9 : 999 < ep + 1 := by omega
        clear h0 h9
        go_enter Try.func8, Try.ntmps8
        go_wp2
        refine bodyPost_ret (v := .tuple #[.agg #[.int .i64 0, .int .i64 0, .int .i64 0, .slice none 0 0], .int .i64 2]) ?_ rfl ⟨rfl, ?_⟩
        · simp [results, Try.results8, go_sem]
        · (repeat' (first | exact Below.refl _ _ | with_reducible refine bal ?_ _ | with_reducible refine bse ?_ (by first | (simp; done) | (simp; omega)) _))
      · exact absurd (show lendE ep h u who now = 0 by simp [lendE, heldB, b1, dn]; omega) h0
set_option maxHeartbeats 8000000 in
set_option maxRecDepth 100000 in
theorem racq_ok (ep h u who now : Int) (a : Option Addr) (n c : Nat) (w : World) (e0 : 0 ≤ ep) (e1 : ep ≤ 999) (n0 : 0 ≤ now) (n1 : now ≤ 9999) (h0 : lendE ep h u who now = 0) :
    Calls Try.prog 8 #[.agg #[.int .i64 ep, .int .i64 h, .int .i64 u, .slice a n c], .int .i64 who, .int .i64 now] w fun e w' => e = .returned (.tuple #[.agg #[.int .i64 (lendP ep h u now), .int .i64 who, .int .i64 (now + 10), .slice a n c], .int .i64 0]) ∧ Below w.heap.size w w' := by
  rcases lend_zero h0 with ⟨hb, hw, hp⟩ | ⟨hb, hw, hp⟩
  · rw [hp]
    unfold heldB at hb
    rw [Bool.and_eq_true] at hb
    obtain ⟨b1, b2⟩ := hb
    have hn : now ≤ u := by simpa using b2
    have b3 : (h != who) = false := by rw [hw]; simp
    have e9 : ¬ 999 < ep := by omega
    have d9 : decide (999 < ep) = false := decide_eq_false e9
    clear h0 hp hw b2
    go_enter Try.func8, Try.ntmps8
    go_wp2
    refine bodyPost_ret (v := .tuple #[.agg #[.int .i64 ep, .int .i64 who, .int .i64 (now + 10), .slice a n c], .int .i64 0]) ?_ rfl ⟨rfl, ?_⟩
    · simp [results, Try.results8, go_sem]
    · (repeat' (first | exact Below.refl _ _ | with_reducible refine bal ?_ _ | with_reducible refine bse ?_ (by first | (simp; done) | (simp; omega)) _))
  · rw [hp]
    have e9 : ¬ 999 < ep + 1 := by omega
    have d9 : decide (999 < ep + 1) = false := decide_eq_false e9
    clear h0 hp
    unfold heldB at hb
    cases b1 : (h != 0)
    · clear hb
      go_enter Try.func8, Try.ntmps8
      go_wp2
      refine bodyPost_ret (v := .tuple #[.agg #[.int .i64 (ep + 1), .int .i64 who, .int .i64 (now + 10), .slice a n c], .int .i64 0]) ?_ rfl ⟨rfl, ?_⟩
      · simp [results, Try.results8, go_sem]
      · (repeat' (first | exact Below.refl _ _ | with_reducible refine bal ?_ _ | with_reducible refine bse ?_ (by first | (simp; done) | (simp; omega)) _))
    · rw [b1, Bool.true_and] at hb
      have hn : ¬ now ≤ u := by simpa using hb
      clear hb
      have dn : decide (now ≤ u) = false := decide_eq_false hn
      go_enter Try.func8, Try.ntmps8
      go_wp2
      refine bodyPost_ret (v := .tuple #[.agg #[.int .i64 (ep + 1), .int .i64 who, .int .i64 (now + 10), .slice a n c], .int .i64 0]) ?_ rfl ⟨rfl, ?_⟩
      · simp [results, Try.results8, go_sem]
      · (repeat' (first | exact Below.refl _ _ | with_reducible refine bal ?_ _ | with_reducible refine bse ?_ (by first | (simp; done) | (simp; omega)) _))
end Go.Proofs.Ytjainfehlbfiaaa

namespace Go.Proofs.Ytjainfehlbfiaaa
open Go.RowKit

theorem btw_outB (n m : Int) : (decide (0 ≤ n) && decide (n ≤ m)) = !outB n m := by
  unfold outB
  by_cases h : 0 ≤ n <;> by_cases h2 : n ≤ m <;> simp [h, h2] <;> omega
theorem any_snoc (l : List En) (k : Nat) (ep : Int) (h : k < l.length) : ((l.take (k + 1)).any fun n => decide (ep < n.ep)) = (((l.take k).any fun n => decide (ep < n.ep)) || decide (ep < l[k].ep)) := by
  rw [List.take_succ_eq_append_getElem h, List.any_append]
  simp
theorem any_take {l : List En} {k : Nat} {ep : Int} (h : ((l.take k).any fun n => decide (ep < n.ep)) = true) : (l.any fun n => decide (ep < n.ep)) = true := by
  obtain ⟨x, hx, hp⟩ := List.any_eq_true.1 h
  exact List.any_eq_true.2 ⟨x, List.mem_of_mem_take hx, hp⟩
theorem rdisk_lock (ep h u : Int) (a : Option Addr) (N c : Nat) (w : World) (h0 : ¬ lockE ep h u = 0) :
    Calls Try.prog 7 #[.agg #[.int .i64 ep, .int .i64 h, .int .i64 u, .slice a N c]] w fun e w' => e = .returned (.int .i64 (lockE ep h u)) ∧ Below w.heap.size w w' := by
  have hBt : Hid (∀ (n m : Int) (w : World), Calls Try.prog 17 #[.int .i64 n, .int .i64 0, .int .i64 m] w fun e w' => e = .returned (.bool (!outB n m)) ∧ w' = w) := fun n m w => by rw [← btw_outB]; exact between_any n 0 m w
  have HB := Lib.hid (bal (Below.refl w.heap.size w) (.cells #[.int .i64 ep, .int .i64 h, .int .i64 u, .slice a N c] 26))
  cases o1 : outB ep 999
  · cases o2 : outB h 2
    · cases o3 : outB u 10009
      · obtain ⟨p0, p1⟩ := outB_false.1 o1
        obtain ⟨p2, p3⟩ := outB_false.1 o2
        obtain ⟨p4, p5⟩ := outB_false.1 o3
        by_cases hz : h = 0
        · have z1 : (h == 0) = true := by simp [hz]
          by_cases ez : 0 < ep
          · have e1 : (ep == 0) = false := by simp; omega
            rw [show lockE ep h u = 4 by simp [lockE, o1, o2, o3, z1, e1]]
            clear h0 hz
            go_enter Try.func7, Try.ntmps7
            go_wp2_with (go_at_call 17; refine (hBt.out _ _ _).mono ?_; rintro e w3 ⟨rfl, hw3⟩; have hw3 := hw3.symm; subst hw3)
            go_ret
            exact ⟨rfl, HB.out⟩
          · have e1 : (ep == 0) = true := by simp; omega
            have e2 : decide (0 < ep) = false := decide_eq_false ez
            by_cases uz : 0 < u
            · have u1 : (u != 0) = true := by simp; omega
              rw [show lockE ep h u = 4 by simp [lockE, o1, o2, o3, z1, e1, u1]]
              clear h0 hz
              go_enter Try.func7, Try.ntmps7
              go_wp2_with (go_at_call 17; refine (hBt.out _ _ _).mono ?_; rintro e w3 ⟨rfl, hw3⟩; have hw3 := hw3.symm; subst hw3)
              go_ret
              exact ⟨rfl, HB.out⟩
            · have u1 : (u != 0) = false := by simp; omega
              exact absurd (show lockE ep h u = 0 by simp [lockE, o1, o2, o3, z1, e1, u1]) h0
        · have z1 : (h == 0) = false := by simp; exact hz
          by_cases ez : ep = 0
          · have e1 : (ep == 0) = true := by simp [ez]
            have hp : 0 < h := by omega
            rw [show lockE ep h u = 4 by simp [lockE, o1, o2, o3, z1, e1]]
            clear h0 hz ez
            go_enter Try.func7, Try.ntmps7
            go_wp2_with (go_at_call 17; refine (hBt.out _ _ _).mono ?_; rintro e w3 ⟨rfl, hw3⟩; have hw3 := hw3.symm; subst hw3)
            go_ret
            exact ⟨rfl, HB.out⟩
          · have e1 : (ep == 0) = false := by simp; exact ez
            exact absurd (show lockE ep h u = 0 by simp [lockE, o1, o2, o3, z1, e1]) h0
      · rw [show lockE ep h u = 3 by simp [lockE, o3]]
        clear h0
        go_enter Try.func7, Try.ntmps7
        go_wp2_with (go_at_call 17; refine (hBt.out _ _ _).mono ?_; rintro e w3 ⟨rfl, hw3⟩; have hw3 := hw3.symm; subst hw3)
        go_ret
        exact ⟨rfl, HB.out⟩
    · rw [show lockE ep h u = 3 by simp [lockE, o2]]
      clear h0
      go_enter Try.func7, Try.ntmps7
      go_wp2_with (go_at_call 17; refine (hBt.out _ _ _).mono ?_; rintro e w3 ⟨rfl, hw3⟩; have hw3 := hw3.symm; subst hw3)
      go_ret
      exact ⟨rfl, HB.out⟩
  · rw [show lockE ep h u = 3 by simp [lockE, o1]]
    clear h0
    go_enter Try.func7, Try.ntmps7
    go_wp2_with (go_at_call 17; refine (hBt.out _ _ _).mono ?_; rintro e w3 ⟨rfl, hw3⟩; have hw3 := hw3.symm; subst hw3)
    go_ret
    exact ⟨rfl, HB.out⟩

set_option maxHeartbeats 16000000 in
set_option maxRecDepth 100000 in
theorem rdisk_log (ep h u : Int) (a : Option Addr) (c : Nat) (l : List En) (w : World) (hs : Lies enE w a l) (hws : ∀ x ∈ l, x.o.who.size ≤ maxLen) (h0 : lockE ep h u = 0) (hep : 0 ≤ ep) (hh : 0 ≤ h) (hu : 0 ≤ u) :
    Calls Try.prog 7 #[.agg #[.int .i64 ep, .int .i64 h, .int .i64 u, .slice a l.length c]] w fun e w' => e = .returned (.int .i64 (dlogE ep l)) ∧ Below w.heap.size w w' := by
  have hBt : Hid (∀ (n m : Int) (w : World), Calls Try.prog 17 #[.int .i64 n, .int .i64 0, .int .i64 m] w fun e w' => e = .returned (.bool (!outB n m)) ∧ w' = w) := fun n m w => by rw [← btw_outB]; exact between_any n 0 m w
  have ho : (outB ep 999 || outB h 2 || outB u 10009) = false := by
    cases hh : (outB ep 999 || outB h 2 || outB u 10009)
    · rfl
    · unfold lockE at h0; rw [if_pos hh] at h0; exact absurd h0 (by decide)
  have hb : (((h == 0) != (ep == 0)) || ((h == 0) && (u != 0))) = false := by
    cases hh : (((h == 0) != (ep == 0)) || ((h == 0) && (u != 0)))
    · rfl
    · unfold lockE at h0; rw [if_neg (by rw [ho]; decide), if_pos hh] at h0; exact absurd h0 (by decide)
  simp only [Bool.or_eq_false_iff] at ho
  obtain ⟨⟨o1, o2⟩, o3⟩ := ho
  have HLg := Lib.hid (rlog_any a c l (w.alloc (.cells #[.int .i64 ep, .int .i64 h, .int .i64 u, .slice a l.length c] 26)) (hs.below (bal (Below.refl _ _) _)) hws)
  have HB := Lib.hid (bal (Below.refl w.heap.size w) (.cells #[.int .i64 ep, .int .i64 h, .int .i64 u, .slice a l.length c] 26))
  have HD := Lib.hid (Blk.new w [.int .i64 ep, .int .i64 h, .int .i64 u, .slice a l.length c] 26)
  obtain ⟨N, hN⟩ : ∃ N, N = l.length := ⟨_, rfl⟩
  rw [← hN] at HLg HB HD ⊢
  have HN : Hid (N = l.length) := hN
  have HL := Lib.hid hs
  have hkind : (h = 0 ∧ ep = 0 ∧ u = 0) ∨ (0 < h ∧ 0 < ep) := by
    by_cases hz : h = 0
    · rw [hz] at hb
      simp at hb
      omega
    · have z1 : (h == 0) = false := by simp; exact hz
      rw [z1] at hb
      simp at hb
      omega
  have hkb : ((h == 0) = true ∧ decide (0 < ep) = false ∧ decide (0 < u) = false ∧ decide (0 < h) = false) ∨ ((h == 0) = false ∧ decide (0 < h) = true ∧ (ep == 0) = false) := by
    rcases hkind with ⟨x, y, z⟩ | ⟨x, y⟩
    · left; simp [x, y, z]
    · right; simp [x]; omega
  have hkp : ((h == 0) = true ∧ ¬ 0 < ep ∧ ¬ 0 < u ∧ ¬ 0 < h) ∨ ((h == 0) = false ∧ 0 < h ∧ (ep == 0) = false) := by
    rcases hkind with ⟨x, y, z⟩ | ⟨x, y⟩
    · left; simp [x, y, z]
    · right; simp [x]; omega
  obtain ⟨R, hR⟩ : ∃ R, R = dlogE ep l := ⟨_, rfl⟩
  have HR : Hid (R = if logE l = 0 then (if (l.any fun n => decide (ep < n.ep)) = true then 4 else 0) else logE l) := hR
  rw [← hR]
  clear hR hb h0 hs hws hN hkind
  have HLen : Hid (logE l = 0 → l.length ≤ 30) := logE_len
  generalize logE l = r at *
  have main : Hid (∀ W, W = w → True) := fun _ _ => trivial
  rcases hkb with ⟨z1, z2, z3, z4⟩ | ⟨z1, z2, z3⟩
  · rcases hkp with ⟨_, y1, y2, y3⟩ | ⟨y0, _, _⟩
    · by_cases hr : r = 0
      · have hN30 : N ≤ 30 := by have := HLen.out hr; have := HN.out; omega
        have HR1 : Hid (R = if (l.any fun n => decide (ep < n.ep)) = true then 4 else 0) := by rw [Hid, HR.out, if_pos hr]
        subst hr
        clear HR
        go_enter Try.func7, Try.ntmps7
        go_wp2_with (go_at_call 17; refine (hBt.out _ _ _).mono ?_; rintro e w3 ⟨rfl, hw3⟩; have hw3 := hw3.symm; subst hw3)
        refine HLg.out.mono ?_
        rintro e w2 ⟨rfl, hb2⟩
        have HB2 := Lib.hid (btr HB.out hb2)
        have HD2 := Lib.hid (HD.out.below hb2)
        clear hb2 HLg HB HD
        go_wp2_with fail
        go_loopw [3, 4] (fun ve vi wr => ∃ (k : Nat) (b : Bool), vi = .int .i64 k ∧ k ≤ N ∧ ve = .int .i64 (if b = true then 4 else 0) ∧ Hid (b = ((l.take k).any fun n => decide (ep < n.ep))) ∧ Hid (Below w.heap.size w wr ∧ Blk wr w.heap.size 26 [.int .i64 ep, .int .i64 h, .int .i64 u, .slice a N c]))
          (fun _ vi _ => N - (intOf vi).toNat)
        case atStart => exact ⟨0, false, rfl, Nat.zero_le _, rfl, by simp [Hid], HB2.out, HD2.out⟩
        case round =>
          clear HB2 HD2
          obtain ⟨k, b, rfl, hk, rfl, hbk, hx⟩ := hrel
          obtain ⟨⟨d0, d1, d2, d3⟩, _⟩ := hx.out.2.four
          have HBr := Lib.hid hx.out.1
          have HDr := Lib.hid hx.out.2
          clear hx
          cases b
          · rw [if_neg (by decide)]
            by_cases hkN : k < N
            · have hkl : k < l.length := by have := HN.out; omega
              obtain ⟨g, o, rfl, hg, _, q1, q2⟩ := HL.out.en k hkl
              clear q2
              rw [← (bcell HBr.out).1 _ _ hg] at q1
              have hsn := any_snoc l k ep hkl
              rw [← hbk.out] at hsn
              generalize l[k].ep = y at *
              have hkz : (k : Int) < (N : Int) := by omega
              have hk0 : (0 : Int) ≤ (k : Int) := by omega
              have S0 : Hid ((wr.cell? ⟨w.heap.size, 3, none⟩ = some (.slice (some ⟨g, o, none⟩) N c) ∧ wr.cell? ⟨g, o + k * 13 + 1, none⟩ = some (.int .i64 y) ∧ wr.cell? ⟨w.heap.size, 0, none⟩ = some (.int .i64 ep)) ∧ (Below w.heap.size w wr ∧ Blk wr w.heap.size 26 [.int .i64 ep, .int .i64 h, .int .i64 u, .slice (some ⟨g, o, none⟩) N c])) := ⟨⟨d3, q1, d0⟩, HBr.out, HDr.out⟩
              have S1 : Hid ((wr.drew.cell? ⟨w.heap.size, 3, none⟩ = some (.slice (some ⟨g, o, none⟩) N c) ∧ wr.drew.cell? ⟨g, o + k * 13 + 1, none⟩ = some (.int .i64 y) ∧ wr.drew.cell? ⟨w.heap.size, 0, none⟩ = some (.int .i64 ep)) ∧ (Below w.heap.size w wr.drew ∧ Blk wr.drew w.heap.size 26 [.int .i64 ep, .int .i64 h, .int .i64 u, .slice (some ⟨g, o, none⟩) N c])) := ⟨S0.out.1, S0.out.2.1.drew, S0.out.2.2⟩
              have HDd := Lib.hid (HDr.out.below (Below.refl wr.heap.size wr).drew)
              clear hbk q1
              by_cases hy : ep < y
              · have HS : Hid (true = ((l.take (k + 1)).any fun n => decide (ep < n.ep))) := by rw [Hid, hsn]; simp [hy]
                clear hsn
                go_wp2_with fail
                go_region_held3 (fun w' => (w'.cell? ⟨w.heap.size, 3, none⟩ = some (.slice (some ⟨g, o, none⟩) N c) ∧ w'.cell? ⟨g, o + k * 13 + 1, none⟩ = some (.int .i64 y) ∧ w'.cell? ⟨w.heap.size, 0, none⟩ = some (.int .i64 ep)) ∧ (Below w.heap.size w w' ∧ Blk w' w.heap.size 26 [.int .i64 ep, .int .i64 h, .int .i64 u, .slice (some ⟨g, o, none⟩) N c]))
                  (first | with_reducible exact S1.out | with_reducible exact S0.out)
                  (fail)
                go_wp2_with fail
                go_roundw
                case rel => exact ⟨k + 1, true, by go_num, by omega, rfl, HS, Lib.hid (And.right (by assumption))⟩
                case measure => simp [intOf]; omega
              · have dy : decide (ep < y) = false := decide_eq_false hy
                have HS : Hid (false = ((l.take (k + 1)).any fun n => decide (ep < n.ep))) := by rw [Hid, hsn]; simp [hy]
                clear hsn hy
                go_wp2_with fail
                go_region_held3 (fun w' => (w'.cell? ⟨w.heap.size, 3, none⟩ = some (.slice (some ⟨g, o, none⟩) N c) ∧ w'.cell? ⟨g, o + k * 13 + 1, none⟩ = some (.int .i64 y) ∧ w'.cell? ⟨w.heap.size, 0, none⟩ = some (.int .i64 ep)) ∧ (Below w.heap.size w w' ∧ Blk w' w.heap.size 26 [.int .i64 ep, .int .i64 h, .int .i64 u, .slice (some ⟨g, o, none⟩) N c]))
                  (first | with_reducible exact S1.out | with_reducible exact S0.out)
                  (fail)
                go_wp2_with fail
                go_roundw
                case rel => exact ⟨k + 1, false, by go_num, by omega, rfl, HS, Lib.hid (And.right (by assumption))⟩
                case measure => simp [intOf]; omega
            · obtain rfl : k = N := by omega
              have hkk : ¬ (k : Int) < (k : Int) := by omega
              have HE : Hid (R = 0) := by
                have := hbk.out
                rw [List.take_of_length_le (by have := HN.out; omega)] at this
                rw [Hid, HR1.out, ← this, if_neg (by decide)]
              clear hbk
              go_wp2_with fail
              go_ret
              exact ⟨congrArg (fun r => Ending.returned (Value.int .i64 r)) HE.out.symm, HBr.out⟩
          · rw [if_pos rfl]
            have HE : Hid (R = 4) := by rw [Hid, HR1.out, any_take hbk.out.symm, if_pos rfl]
            clear hbk
            by_cases hkN : k < N
            · have hkz : (k : Int) < (N : Int) := by omega
              go_wp2_with fail
              go_ret
              exact ⟨congrArg (fun r => Ending.returned (Value.int .i64 r)) HE.out.symm, HBr.out⟩
            · have hkz : ¬ (k : Int) < (N : Int) := by omega
              go_wp2_with fail
              go_ret
              exact ⟨congrArg (fun r => Ending.returned (Value.int .i64 r)) HE.out.symm, HBr.out⟩
      · have HR1 : Hid (R = r) := by rw [Hid, HR.out, if_neg hr]
        have hI : (r == 0) = false := beq_eq_false_iff_ne.2 hr
        clear HR hr
        go_enter Try.func7, Try.ntmps7
        go_wp2_with (go_at_call 17; refine (hBt.out _ _ _).mono ?_; rintro e w3 ⟨rfl, hw3⟩; have hw3 := hw3.symm; subst hw3)
        refine HLg.out.mono ?_
        rintro e w2 ⟨rfl, hb2⟩
        have HB2 := Lib.hid (btr HB.out hb2)
        obtain ⟨⟨d0, d1, d2, d3⟩, _⟩ := (HD.out.below hb2).four
        have HD2 := Lib.hid (HD.out.below hb2)
        clear hb2 HLg HB HD d0 d1 d2 d3 HLen
        go_wp2_with fail
        go_loopw [3, 4] (fun ve vi wr => ve = .int .i64 r ∧ vi = .int .i64 0 ∧ Hid (Below w.heap.size w wr ∧ Blk wr w.heap.size 26 [.int .i64 ep, .int .i64 h, .int .i64 u, .slice a N c]))
          (fun _ _ _ => 0)
        case atStart => exact ⟨rfl, rfl, HB2.out, HD2.out⟩
        case round =>
          obtain ⟨rfl, rfl, hx⟩ := hrel
          obtain ⟨⟨d0, d1, d2, d3⟩, _⟩ := hx.out.2.four
          have HBr := Lib.hid hx.out.1
          clear hx
          by_cases hkN : 0 < N
          · have hkz : (0 : Int) < (N : Int) := by omega
            go_wp2_with fail
            go_ret
            exact ⟨congrArg (fun r => Ending.returned (Value.int .i64 r)) HR1.out.symm, HBr.out⟩
          · have hkz : ¬ (0 : Int) < (N : Int) := by omega
            go_wp2_with fail
            go_ret
            exact ⟨congrArg (fun r => Ending.returned (Value.int .i64 r)) HR1.out.symm, HBr.out⟩

    · rw [z1] at y0; exact absurd y0 (by decide)
  · rcases hkp with ⟨y0, _, _, _⟩ | ⟨_, y1, y2⟩
    · rw [z1] at y0; exact absurd y0 (by decide)
    · by_cases hr : r = 0
      · have hN30 : N ≤ 30 := by have := HLen.out hr; have := HN.out; omega
        have HR1 : Hid (R = if (l.any fun n => decide (ep < n.ep)) = true then 4 else 0) := by rw [Hid, HR.out, if_pos hr]
        subst hr
        clear HR
        go_enter Try.func7, Try.ntmps7
        go_wp2_with (go_at_call 17; refine (hBt.out _ _ _).mono ?_; rintro e w3 ⟨rfl, hw3⟩; have hw3 := hw3.symm; subst hw3)
        refine HLg.out.mono ?_
        rintro e w2 ⟨rfl, hb2⟩
        have HB2 := Lib.hid (btr HB.out hb2)
        have HD2 := Lib.hid (HD.out.below hb2)
        clear hb2 HLg HB HD
        go_wp2_with fail
        go_loopw [3, 4] (fun ve vi wr => ∃ (k : Nat) (b : Bool), vi = .int .i64 k ∧ k ≤ N ∧ ve = .int .i64 (if b = true then 4 else 0) ∧ Hid (b = ((l.take k).any fun n => decide (ep < n.ep))) ∧ Hid (Below w.heap.size w wr ∧ Blk wr w.heap.size 26 [.int .i64 ep, .int .i64 h, .int .i64 u, .slice a N c]))
          (fun _ vi _ => N - (intOf vi).toNat)
        case atStart => exact ⟨0, false, rfl, Nat.zero_le _, rfl, by simp [Hid], HB2.out, HD2.out⟩
        case round =>
          clear HB2 HD2
          obtain ⟨k, b, rfl, hk, rfl, hbk, hx⟩ := hrel
          obtain ⟨⟨d0, d1, d2, d3⟩, _⟩ := hx.out.2.four
          have HBr := Lib.hid hx.out.1
          have HDr := Lib.hid hx.out.2
          clear hx
          cases b
          · rw [if_neg (by decide)]
            by_cases hkN : k < N
            · have hkl : k < l.length := by have := HN.out; omega
              obtain ⟨g, o, rfl, hg, _, q1, q2⟩ := HL.out.en k hkl
              clear q2
              rw [← (bcell HBr.out).1 _ _ hg] at q1
              have hsn := any_snoc l k ep hkl
              rw [← hbk.out] at hsn
              generalize l[k].ep = y at *
              have hkz : (k : Int) < (N : Int) := by omega
              have hk0 : (0 : Int) ≤ (k : Int) := by omega
              have S0 : Hid ((wr.cell? ⟨w.heap.size, 3, none⟩ = some (.slice (some ⟨g, o, none⟩) N c) ∧ wr.cell? ⟨g, o + k * 13 + 1, none⟩ = some (.int .i64 y) ∧ wr.cell? ⟨w.heap.size, 0, none⟩ = some (.int .i64 ep)) ∧ (Below w.heap.size w wr ∧ Blk wr w.heap.size 26 [.int .i64 ep, .int .i64 h, .int .i64 u, .slice (some ⟨g, o, none⟩) N c])) := ⟨⟨d3, q1, d0⟩, HBr.out, HDr.out⟩
              have S1 : Hid ((wr.drew.cell? ⟨w.heap.size, 3, none⟩ = some (.slice (some ⟨g, o, none⟩) N c) ∧ wr.drew.cell? ⟨g, o + k * 13 + 1, none⟩ = some (.int .i64 y) ∧ wr.drew.cell? ⟨w.heap.size, 0, none⟩ = some (.int .i64 ep)) ∧ (Below w.heap.size w wr.drew ∧ Blk wr.drew w.heap.size 26 [.int .i64 ep, .int .i64 h, .int .i64 u, .slice (some ⟨g, o, none⟩) N c])) := ⟨S0.out.1, S0.out.2.1.drew, S0.out.2.2⟩
              have HDd := Lib.hid (HDr.out.below (Below.refl wr.heap.size wr).drew)
              clear hbk q1
              by_cases hy : ep < y
              · have HS : Hid (true = ((l.take (k + 1)).any fun n => decide (ep < n.ep))) := by rw [Hid, hsn]; simp [hy]
                clear hsn
                go_wp2_with fail
                go_region_held3 (fun w' => (w'.cell? ⟨w.heap.size, 3, none⟩ = some (.slice (some ⟨g, o, none⟩) N c) ∧ w'.cell? ⟨g, o + k * 13 + 1, none⟩ = some (.int .i64 y) ∧ w'.cell? ⟨w.heap.size, 0, none⟩ = some (.int .i64 ep)) ∧ (Below w.heap.size w w' ∧ Blk w' w.heap.size 26 [.int .i64 ep, .int .i64 h, .int .i64 u, .slice (some ⟨g, o, none⟩) N c]))
                  (first | with_reducible exact S1.out | with_reducible exact S0.out)
                  (fail)
                go_wp2_with fail
                go_roundw
                case rel => exact ⟨k + 1, true, by go_num, by omega, rfl, HS, Lib.hid (And.right (by assumption))⟩
                case measure => simp [intOf]; omega
              · have dy : decide (ep < y) = false := decide_eq_false hy
                have HS : Hid (false = ((l.take (k + 1)).any fun n => decide (ep < n.ep))) := by rw [Hid, hsn]; simp [hy]
                clear hsn hy
                go_wp2_with fail
                go_region_held3 (fun w' => (w'.cell? ⟨w.heap.size, 3, none⟩ = some (.slice (some ⟨g, o, none⟩) N c) ∧ w'.cell? ⟨g, o + k * 13 + 1, none⟩ = some (.int .i64 y) ∧ w'.cell? ⟨w.heap.size, 0, none⟩ = some (.int .i64 ep)) ∧ (Below w.heap.size w w' ∧ Blk w' w.heap.size 26 [.int .i64 ep, .int .i64 h, .int .i64 u, .slice (some ⟨g, o, none⟩) N c]))
                  (first | with_reducible exact S1.out | with_reducible exact S0.out)
                  (fail)
                go_wp2_with fail
                go_roundw
                case rel => exact ⟨k + 1, false, by go_num, by omega, rfl, HS, Lib.hid (And.right (by assumption))⟩
                case measure => simp [intOf]; omega
            · obtain rfl : k = N := by omega
              have hkk : ¬ (k : Int) < (k : Int) := by omega
              have HE : Hid (R = 0) := by
                have := hbk.out
                rw [List.take_of_length_le (by have := HN.out; omega)] at this
                rw [Hid, HR1.out, ← this, if_neg (by decide)]
              clear hbk
              go_wp2_with fail
              go_ret
              exact ⟨congrArg (fun r => Ending.returned (Value.int .i64 r)) HE.out.symm, HBr.out⟩
          · rw [if_pos rfl]
            have HE : Hid (R = 4) := by rw [Hid, HR1.out, any_take hbk.out.symm, if_pos rfl]
            clear hbk
            by_cases hkN : k < N
            · have hkz : (k : Int) < (N : Int) := by omega
              go_wp2_with fail
              go_ret
              exact ⟨congrArg (fun r => Ending.returned (Value.int .i64 r)) HE.out.symm, HBr.out⟩
            · have hkz : ¬ (k : Int) < (N : Int) := by omega
              go_wp2_with fail
              go_ret
              exact ⟨congrArg (fun r => Ending.returned (Value.int .i64 r)) HE.out.symm, HBr.out⟩
      · have HR1 : Hid (R = r) := by rw [Hid, HR.out, if_neg hr]
        have hI : (r == 0) = false := beq_eq_false_iff_ne.2 hr
        clear HR hr
        go_enter Try.func7, Try.ntmps7
        go_wp2_with (go_at_call 17; refine (hBt.out _ _ _).mono ?_; rintro e w3 ⟨rfl, hw3⟩; have hw3 := hw3.symm; subst hw3)
        refine HLg.out.mono ?_
        rintro e w2 ⟨rfl, hb2⟩
        have HB2 := Lib.hid (btr HB.out hb2)
        obtain ⟨⟨d0, d1, d2, d3⟩, _⟩ := (HD.out.below hb2).four
        have HD2 := Lib.hid (HD.out.below hb2)
        clear hb2 HLg HB HD d0 d1 d2 d3 HLen
        go_wp2_with fail
        go_loopw [3, 4] (fun ve vi wr => ve = .int .i64 r ∧ vi = .int .i64 0 ∧ Hid (Below w.heap.size w wr ∧ Blk wr w.heap.size 26 [.int .i64 ep, .int .i64 h, .int .i64 u, .slice a N c]))
          (fun _ _ _ => 0)
        case atStart => exact ⟨rfl, rfl, HB2.out, HD2.out⟩
        case round =>
          obtain ⟨rfl, rfl, hx⟩ := hrel
          obtain ⟨⟨d0, d1, d2, d3⟩, _⟩ := hx.out.2.four
          have HBr := Lib.hid hx.out.1
          clear hx
          by_cases hkN : 0 < N
          · have hkz : (0 : Int) < (N : Int) := by omega
            go_wp2_with fail
            go_ret
            exact ⟨congrArg (fun r => Ending.returned (Value.int .i64 r)) HR1.out.symm, HBr.out⟩
          · have hkz : ¬ (0 : Int) < (N : Int) := by omega
            go_wp2_with fail
            go_ret
            exact ⟨congrArg (fun r => Ending.returned (Value.int .i64 r)) HR1.out.symm, HBr.out⟩

theorem rdisk_any (d : Dk) (a : Option Addr) (c : Nat) (w : World) (hs : Lies enE w a d.l) (hws : ∀ x ∈ d.l, x.o.who.size ≤ maxLen) :
    Calls Try.prog 7 #[.agg #[.int .i64 d.ep, .int .i64 d.h, .int .i64 d.u, .slice a d.l.length c]] w fun e w' => e = .returned (.int .i64 (diskE d.ep d.h d.u d.l)) ∧ Below w.heap.size w w' := by
  unfold diskE
  by_cases h0 : lockE d.ep d.h d.u = 0
  · rw [if_pos h0]
    have ho : (outB d.ep 999 || outB d.h 2 || outB d.u 10009) = false := by
      cases hh : (outB d.ep 999 || outB d.h 2 || outB d.u 10009)
      · rfl
      · unfold lockE at h0; rw [if_pos hh] at h0; exact absurd h0 (by decide)
    simp only [Bool.or_eq_false_iff] at ho
    exact rdisk_log d.ep d.h d.u a c d.l w hs hws h0 (outB_false.1 ho.1.1).1 (outB_false.1 ho.1.2).1 (outB_false.1 ho.2).1
  · rw [if_neg h0]
    exact rdisk_lock d.ep d.h d.u a _ c w h0
end Go.Proofs.Ytjainfehlbfiaaa

namespace Go.Proofs.Ytjainfehlbfiaaa
open Go.RowKit

theorem eql_lock (h u : Int) (w : World) : (binOp .eql 23 (.agg #[.int .i64 h, .int .i64 u]) (.agg #[.int .i64 h, .int .i64 u])).run Try.prog w = .ok (.bool true) w := by
  simp [go_sem]
set_option maxHeartbeats 16000000 in
set_option maxRecDepth 100000 in
theorem rsame_disk (d : Dk) (a a' : Option Addr) (c c' : Nat) (w : World) (hn : d.l.length ≤ 1000) (hs : Lies enE w a d.l) (hs' : Lies enE w a' d.l) :
    Calls Try.prog 24 #[.agg #[.int .i64 d.ep, .int .i64 d.h, .int .i64 d.u, .slice a d.l.length c], .agg #[.int .i64 d.ep, .int .i64 d.h, .int .i64 d.u, .slice a' d.l.length c']] w fun e w' => e = .returned (.bool true) ∧ Below w.heap.size w w' := by
  obtain ⟨W1, hW1⟩ : ∃ W1, W1 = (w.alloc (.cells #[.int .i64 d.ep, .int .i64 d.h, .int .i64 d.u, .slice a d.l.length c] 26)).alloc (.cells #[.int .i64 d.ep, .int .i64 d.h, .int .i64 d.u, .slice a' d.l.length c'] 26) := ⟨_, rfl⟩
  have hb1 : Below w.heap.size w W1 := by rw [hW1]; exact bal (bal (Below.refl w.heap.size w) _) _
  have hD : Blk W1 w.heap.size 26 [.int .i64 d.ep, .int .i64 d.h, .int .i64 d.u, .slice a d.l.length c] := by rw [hW1]; exact (Blk.new w _ _).below (bal (Below.refl _ _) _)
  have hE : Blk W1 (w.heap.size + 1) 26 [.int .i64 d.ep, .int .i64 d.h, .int .i64 d.u, .slice a' d.l.length c'] := by
    rw [hW1]
    have := Blk.new (w.alloc (.cells #[.int .i64 d.ep, .int .i64 d.h, .int .i64 d.u, .slice a d.l.length c] 26)) [.int .i64 d.ep, .int .i64 d.h, .int .i64 d.u, .slice a' d.l.length c'] 26
    rw [show (w.alloc (.cells #[.int .i64 d.ep, .int .i64 d.h, .int .i64 d.u, .slice a d.l.length c] 26)).heap.size = w.heap.size + 1 by simp] at this
    exact this
  have HS := Lib.hid (rsame_log a a' c c' d.l W1 hn (hs.below hb1) (hs'.below hb1))
  have HB1 := Lib.hid hb1
  obtain ⟨⟨d0, d1, d2, d3⟩, f0, f1, f2, f3⟩ := hD.four
  obtain ⟨⟨e0, e1, e2, e3⟩, g0, g1, g2, g3⟩ := hE.four
  rw [hW1] at HS HB1 d0 d1 d2 d3 f0 f1 f2 f3 e0 e1 e2 e3 g0 g1 g2 g3
  clear hb1 hD hE hW1 hs hs' hn W1
  have hL : ∀ W : World, (binOp .eql 23 (.agg #[.int .i64 d.h, .int .i64 d.u]) (.agg #[.int .i64 d.h, .int .i64 d.u])).run Try.prog W = .ok (.bool true) W := eql_lock d.h d.u
  generalize d.ep = x0 at *
  generalize d.h = x1 at *
  generalize d.u = x2 at *
  generalize d.l.length = N at *
  go_enter Try.func24, Try.ntmps24
  go_wp2_with fail
  refine HS.out.mono ?_
  rintro e w2 ⟨rfl, hb2⟩
  have HB2 := Lib.hid (btr HB1.out hb2)
  clear hb2 HS
  go_wp2
  go_ret
  exact ⟨rfl, HB2.out⟩
set_option maxHeartbeats 16000000 in
set_option maxRecDepth 100000 in
theorem diskis_ok (d : Dk) (a a' : Option Addr) (c c' : Nat) (w : World) (hn : d.l.length ≤ 1000) (hs : Lies enE w a d.l) (hs' : Lies enE w a' d.l) :
    Calls Try.prog 12 #[.agg #[.int .i64 d.ep, .int .i64 d.h, .int .i64 d.u, .slice a d.l.length c], .int .i64 0, .int .i64 0, .agg #[.int .i64 d.ep, .int .i64 d.h, .int .i64 d.u, .slice a' d.l.length c']] w fun e w' => e = .returned (.bool true) ∧ Below w.heap.size w w' := by
  obtain ⟨W1, hW1⟩ : ∃ W1, W1 = (w.alloc (.cells #[.int .i64 d.ep, .int .i64 d.h, .int .i64 d.u, .slice a d.l.length c] 26)).alloc (.cells #[.int .i64 d.ep, .int .i64 d.h, .int .i64 d.u, .slice a' d.l.length c'] 26) := ⟨_, rfl⟩
  have hb1 : Below w.heap.size w W1 := by rw [hW1]; exact bal (bal (Below.refl w.heap.size w) _) _
  have hD : Blk W1 w.heap.size 26 [.int .i64 d.ep, .int .i64 d.h, .int .i64 d.u, .slice a d.l.length c] := by rw [hW1]; exact (Blk.new w _ _).below (bal (Below.refl _ _) _)
  have hE : Blk W1 (w.heap.size + 1) 26 [.int .i64 d.ep, .int .i64 d.h, .int .i64 d.u, .slice a' d.l.length c'] := by
    rw [hW1]
    have := Blk.new (w.alloc (.cells #[.int .i64 d.ep, .int .i64 d.h, .int .i64 d.u, .slice a d.l.length c] 26)) [.int .i64 d.ep, .int .i64 d.h, .int .i64 d.u, .slice a' d.l.length c'] 26
    rw [show (w.alloc (.cells #[.int .i64 d.ep, .int .i64 d.h, .int .i64 d.u, .slice a d.l.length c] 26)).heap.size = w.heap.size + 1 by simp] at this
    exact this
  have HS := Lib.hid (rsame_disk d a a' c c' W1 hn (hs.below hb1) (hs'.below hb1))
  have HB1 := Lib.hid hb1
  obtain ⟨⟨d0, d1, d2, d3⟩, f0, f1, f2, f3⟩ := hD.four
  obtain ⟨⟨e0, e1, e2, e3⟩, g0, g1, g2, g3⟩ := hE.four
  rw [hW1] at HS HB1 d0 d1 d2 d3 f0 f1 f2 f3 e0 e1 e2 e3 g0 g1 g2 g3
  clear hb1 hD hE hW1 hs hs' hn W1
  generalize d.ep = x0 at *
  generalize d.h = x1 at *
  generalize d.u = x2 at *
  generalize d.l.length = N at *
  go_enter Try.func12, Try.ntmps12
  go_wp2_with fail
  refine HS.out.mono ?_
  rintro e w2 ⟨rfl, hb2⟩
  have HB2 := Lib.hid (btr HB1.out hb2)
  clear hb2 HS
  go_wp2
  go_ret
  exact ⟨rfl, HB2.out⟩
set_option maxHeartbeats 16000000 in
set_option maxRecDepth 100000 in
theorem diskis_bad (k : Int) (x0 x1 x2 : Int) (a s : Option Addr) (c0 n c : Nat) (w : World) (hk : ¬ k = 0) :
    Calls Try.prog 12 #[.agg #[.int .i64 0, .int .i64 0, .int .i64 0, .slice a 0 c0], .int .i64 k, .int .i64 k, .agg #[.int .i64 x0, .int .i64 x1, .int .i64 x2, .slice s n c]] w fun e w' => e = .returned (.bool true) ∧ Below w.heap.size w w' := by
  obtain ⟨W1, hW1⟩ : ∃ W1, W1 = (w.alloc (.cells #[.int .i64 0, .int .i64 0, .int .i64 0, .slice a 0 c0] 26)).alloc (.cells #[.int .i64 x0, .int .i64 x1, .int .i64 x2, .slice s n c] 26) := ⟨_, rfl⟩
  have hb1 : Below w.heap.size w W1 := by rw [hW1]; exact bal (bal (Below.refl w.heap.size w) _) _
  have hz1 : W1.heap.size = w.heap.size + 1 + 1 := by rw [hW1]; simp
  have hD : Blk W1 w.heap.size 26 [.int .i64 0, .int .i64 0, .int .i64 0, .slice a 0 c0] := by rw [hW1]; exact (Blk.new w _ _).below (bal (Below.refl _ _) _)
  have hE : Blk W1 (w.heap.size + 1) 26 [.int .i64 x0, .int .i64 x1, .int .i64 x2, .slice s n c] := by
    rw [hW1]
    have := Blk.new (w.alloc (.cells #[.int .i64 0, .int .i64 0, .int .i64 0, .slice a 0 c0] 26)) [.int .i64 x0, .int .i64 x1, .int .i64 x2, .slice s n c] 26
    rw [show (w.alloc (.cells #[.int .i64 0, .int .i64 0, .int .i64 0, .slice a 0 c0] 26)).heap.size = w.heap.size + 1 by simp] at this
    exact this
  have hS : Hid (∀ W : World, Calls Try.prog 24 #[.agg #[.int .i64 0, .int .i64 0, .int .i64 0, .slice a 0 c0], .agg #[.int .i64 0, .int .i64 0, .int .i64 0, .slice none 0 0]] W fun e w' => e = .returned (.bool true) ∧ Below W.heap.size W w') := fun W => rsame_disk noDk a none c0 0 W (by decide) (Lies.nil _ _ _) (Lies.nil _ _ _)
  have HB1 := Lib.hid hb1
  have Hz1 := Lib.hid hz1
  obtain ⟨⟨d0, d1, d2, d3⟩, f0, f1, f2, f3⟩ := hD.four
  obtain ⟨⟨e0, e1, e2, e3⟩, g0, g1, g2, g3⟩ := hE.four
  rw [hW1] at Hz1 HB1 d0 d1 d2 d3 f0 f1 f2 f3 e0 e1 e2 e3 g0 g1 g2 g3
  clear hb1 hz1 hD hE hW1 W1
  have hI : (k != 0) = true := by rw [bne_iff_ne]; exact hk
  clear hk
  go_enter Try.func12, Try.ntmps12
  go_wp2_with fail
  refine (hS.out _).mono ?_
  rintro e w2 ⟨rfl, hb2⟩
  have HB2 : Hid (Below w.heap.size w w2) := by
    refine btr ?_ hb2
    (repeat' (first | exact HB1.out | exact Below.refl _ _ | with_reducible refine Below.drew ?_ | with_reducible refine bal ?_ _ | with_reducible refine bse ?_ (by first | (simp; done) | (simp; omega) | (show _ ≤ _; omega)) _))
  clear hb2 hS
  go_wp2
  go_ret
  exact ⟨rfl, HB2.out⟩
theorem diskis_any (R : Dk) (r : Int) (a a' : Option Addr) (c c' : Nat) (w : World) (h0 : ¬ r = 0 → R = noDk) (hn : R.l.length ≤ 1000) (hs : Lies enE w a R.l) (hs' : Lies enE w a' R.l) :
    Calls Try.prog 12 #[.agg #[.int .i64 R.ep, .int .i64 R.h, .int .i64 R.u, .slice a R.l.length c], .int .i64 r, .int .i64 r, .agg #[.int .i64 R.ep, .int .i64 R.h, .int .i64 R.u, .slice a' R.l.length c']] w fun e w' => e = .returned (.bool true) ∧ Below w.heap.size w w' := by
  by_cases h : r = 0
  · subst h; exact diskis_ok R a a' c c' w hn hs hs'
  · rw [h0 h]; exact diskis_bad r 0 0 0 a a' c 0 c' w h
end Go.Proofs.Ytjainfehlbfiaaa
