/- The document's SameLog, DoesBegin; slices.Equal at entries; log.Begins. -/
import Derived.Test.YtjainfehlbfiaaaGreatQ04
import Derived.Test.YtjainfehlbfiaaaGreatQ06
import Derived.Test.YtjainfehlbfiaaaGreatQ05
set_option linter.unusedVariables false
set_option linter.unusedSimpArgs false
namespace Go.Proofs.YtjainfehlbfiaaaGreat
open Go.RowKit

set_option maxHeartbeats 4000000 in
theorem neq_same (w : World) (x : En) : (binOp .neq 68 (.agg #[.int .i64 x.num, .int .i64 x.ep, .int .i64 x.o.k, .bool x.o.p.v, .int .u64 x.o.p.hi, .int .u64 x.o.p.lo, .int .i64 x.o.p.b, .bool x.o.a.v, .int .u64 x.o.a.hi, .int .u64 x.o.a.lo, .string x.o.who, .int .i64 x.o.pof, .int .i64 x.o.n]) (.agg #[.int .i64 x.num, .int .i64 x.ep, .int .i64 x.o.k, .bool x.o.p.v, .int .u64 x.o.p.hi, .int .u64 x.o.p.lo, .int .i64 x.o.p.b, .bool x.o.a.v, .int .u64 x.o.a.hi, .int .u64 x.o.a.lo, .string x.o.who, .int .i64 x.o.pof, .int .i64 x.o.n])).run Tryz.prog w = .ok (.bool false) w := by
  generalize x.num = x0
  generalize x.ep = x1
  generalize x.o.k = x2
  generalize x.o.p.v = x3
  generalize x.o.p.hi = x4
  generalize x.o.p.lo = x5
  generalize x.o.p.b = x6
  generalize x.o.a.v = x7
  generalize x.o.a.hi = x8
  generalize x.o.a.lo = x9
  generalize x.o.who = x10
  generalize x.o.pof = x11
  generalize x.o.n = x12
  simp [go_sem]
theorem keep2E {w W W' : World} {g o g' o' k : Nat} {v0 v1 v2 v3 v4 v5 v6 v7 v8 v9 v10 v11 v12 u0 u1 u2 u3 u4 u5 u6 u7 u8 u9 u10 u11 u12 : Value} (h : ((W.cell? ⟨g, o + k * 13, none⟩ = some (v0) ∧ W.cell? ⟨g, o + k * 13 + 1, none⟩ = some (v1) ∧ W.cell? ⟨g, o + k * 13 + 2, none⟩ = some (v2) ∧ W.cell? ⟨g, o + k * 13 + 3, none⟩ = some (v3) ∧ W.cell? ⟨g, o + k * 13 + 4, none⟩ = some (v4) ∧ W.cell? ⟨g, o + k * 13 + 5, none⟩ = some (v5) ∧ W.cell? ⟨g, o + k * 13 + 6, none⟩ = some (v6) ∧ W.cell? ⟨g, o + k * 13 + 7, none⟩ = some (v7) ∧ W.cell? ⟨g, o + k * 13 + 8, none⟩ = some (v8) ∧ W.cell? ⟨g, o + k * 13 + 9, none⟩ = some (v9) ∧ W.cell? ⟨g, o + k * 13 + 10, none⟩ = some (v10) ∧ W.cell? ⟨g, o + k * 13 + 11, none⟩ = some (v11) ∧ W.cell? ⟨g, o + k * 13 + 12, none⟩ = some (v12)) ∧ (W.cell? ⟨g', o' + k * 13, none⟩ = some (u0) ∧ W.cell? ⟨g', o' + k * 13 + 1, none⟩ = some (u1) ∧ W.cell? ⟨g', o' + k * 13 + 2, none⟩ = some (u2) ∧ W.cell? ⟨g', o' + k * 13 + 3, none⟩ = some (u3) ∧ W.cell? ⟨g', o' + k * 13 + 4, none⟩ = some (u4) ∧ W.cell? ⟨g', o' + k * 13 + 5, none⟩ = some (u5) ∧ W.cell? ⟨g', o' + k * 13 + 6, none⟩ = some (u6) ∧ W.cell? ⟨g', o' + k * 13 + 7, none⟩ = some (u7) ∧ W.cell? ⟨g', o' + k * 13 + 8, none⟩ = some (u8) ∧ W.cell? ⟨g', o' + k * 13 + 9, none⟩ = some (u9) ∧ W.cell? ⟨g', o' + k * 13 + 10, none⟩ = some (u10) ∧ W.cell? ⟨g', o' + k * 13 + 11, none⟩ = some (u11) ∧ W.cell? ⟨g', o' + k * 13 + 12, none⟩ = some (u12))) ∧ Below w.heap.size w W) (e : W' = W.drew) : ((W'.cell? ⟨g, o + k * 13, none⟩ = some (v0) ∧ W'.cell? ⟨g, o + k * 13 + 1, none⟩ = some (v1) ∧ W'.cell? ⟨g, o + k * 13 + 2, none⟩ = some (v2) ∧ W'.cell? ⟨g, o + k * 13 + 3, none⟩ = some (v3) ∧ W'.cell? ⟨g, o + k * 13 + 4, none⟩ = some (v4) ∧ W'.cell? ⟨g, o + k * 13 + 5, none⟩ = some (v5) ∧ W'.cell? ⟨g, o + k * 13 + 6, none⟩ = some (v6) ∧ W'.cell? ⟨g, o + k * 13 + 7, none⟩ = some (v7) ∧ W'.cell? ⟨g, o + k * 13 + 8, none⟩ = some (v8) ∧ W'.cell? ⟨g, o + k * 13 + 9, none⟩ = some (v9) ∧ W'.cell? ⟨g, o + k * 13 + 10, none⟩ = some (v10) ∧ W'.cell? ⟨g, o + k * 13 + 11, none⟩ = some (v11) ∧ W'.cell? ⟨g, o + k * 13 + 12, none⟩ = some (v12)) ∧ (W'.cell? ⟨g', o' + k * 13, none⟩ = some (u0) ∧ W'.cell? ⟨g', o' + k * 13 + 1, none⟩ = some (u1) ∧ W'.cell? ⟨g', o' + k * 13 + 2, none⟩ = some (u2) ∧ W'.cell? ⟨g', o' + k * 13 + 3, none⟩ = some (u3) ∧ W'.cell? ⟨g', o' + k * 13 + 4, none⟩ = some (u4) ∧ W'.cell? ⟨g', o' + k * 13 + 5, none⟩ = some (u5) ∧ W'.cell? ⟨g', o' + k * 13 + 6, none⟩ = some (u6) ∧ W'.cell? ⟨g', o' + k * 13 + 7, none⟩ = some (u7) ∧ W'.cell? ⟨g', o' + k * 13 + 8, none⟩ = some (u8) ∧ W'.cell? ⟨g', o' + k * 13 + 9, none⟩ = some (u9) ∧ W'.cell? ⟨g', o' + k * 13 + 10, none⟩ = some (u10) ∧ W'.cell? ⟨g', o' + k * 13 + 11, none⟩ = some (u11) ∧ W'.cell? ⟨g', o' + k * 13 + 12, none⟩ = some (u12))) ∧ Below w.heap.size w W' := by
  subst e
  exact ⟨h.1, h.2.drew⟩
set_option maxHeartbeats 16000000 in
set_option maxRecDepth 100000 in
theorem rsame_log (a a' : Option Addr) (c c' : Nat) (l : List En) (w : World) (hl : l.length ≤ 1000) (hs : Lies enE w a l) (hs' : Lies enE w a' l) :
    Calls Tryz.prog 9 #[.slice a l.length c, .slice a' l.length c'] w fun e w' => e = .returned (.bool true) ∧ Below w.heap.size w w' := by
  obtain ⟨N, hN⟩ : ∃ N, N = l.length := ⟨_, rfl⟩
  rw [← hN] at hl ⊢
  have HN : Hid (N = l.length) := hN
  have HL := Lib.hid hs
  have HL' := Lib.hid hs'
  clear hN hs hs'
  go_enter Tryz.func9, Tryz.ntmps9
  go_wp2_with fail
  go_loopw [5] (fun vi wr => ∃ k : Nat, vi = .int .i64 k ∧ k ≤ N ∧ Hid (Below w.heap.size w wr))
    (fun vi _ => N - (intOf vi).toNat)
  case atStart => exact ⟨0, rfl, Nat.zero_le _, Below.refl _ _⟩
  case round =>
    obtain ⟨k, rfl, hk, hb⟩ := hrel
    by_cases hkN : k < N
    · have hkl : k < l.length := by have := HN.out; omega
      obtain ⟨g, o, rfl, hg, hc⟩ := HL.out.en k hkl
      obtain ⟨g', o', rfl, hg', hc'⟩ := HL'.out.en k hkl
      have hq : ∀ w : World, (binOp .neq 68 (.agg #[.int .i64 l[k].num, .int .i64 l[k].ep, .int .i64 l[k].o.k, .bool l[k].o.p.v, .int .u64 l[k].o.p.hi, .int .u64 l[k].o.p.lo, .int .i64 l[k].o.p.b, .bool l[k].o.a.v, .int .u64 l[k].o.a.hi, .int .u64 l[k].o.a.lo, .string l[k].o.who, .int .i64 l[k].o.pof, .int .i64 l[k].o.n]) (.agg #[.int .i64 l[k].num, .int .i64 l[k].ep, .int .i64 l[k].o.k, .bool l[k].o.p.v, .int .u64 l[k].o.p.hi, .int .u64 l[k].o.p.lo, .int .i64 l[k].o.p.b, .bool l[k].o.a.v, .int .u64 l[k].o.a.hi, .int .u64 l[k].o.a.lo, .string l[k].o.who, .int .i64 l[k].o.pof, .int .i64 l[k].o.n])).run Tryz.prog w = .ok (.bool false) w := fun w => neq_same w l[k]
      generalize hxe : l[k] = x at *
      clear hxe
      generalize x.num = x0 at *
      generalize x.ep = x1 at *
      generalize x.o.k = x2 at *
      generalize x.o.p.v = x3 at *
      generalize x.o.p.hi = x4 at *
      generalize x.o.p.lo = x5 at *
      generalize x.o.p.b = x6 at *
      generalize x.o.a.v = x7 at *
      generalize x.o.a.hi = x8 at *
      generalize x.o.a.lo = x9 at *
      generalize x.o.who = x10 at *
      generalize x.o.pof = x11 at *
      generalize x.o.n = x12 at *
      have S0 : Hid (((wr.cell? ⟨g, o + k * 13, none⟩ = some (.int .i64 x0) ∧ wr.cell? ⟨g, o + k * 13 + 1, none⟩ = some (.int .i64 x1) ∧ wr.cell? ⟨g, o + k * 13 + 2, none⟩ = some (.int .i64 x2) ∧ wr.cell? ⟨g, o + k * 13 + 3, none⟩ = some (.bool x3) ∧ wr.cell? ⟨g, o + k * 13 + 4, none⟩ = some (.int .u64 x4) ∧ wr.cell? ⟨g, o + k * 13 + 5, none⟩ = some (.int .u64 x5) ∧ wr.cell? ⟨g, o + k * 13 + 6, none⟩ = some (.int .i64 x6) ∧ wr.cell? ⟨g, o + k * 13 + 7, none⟩ = some (.bool x7) ∧ wr.cell? ⟨g, o + k * 13 + 8, none⟩ = some (.int .u64 x8) ∧ wr.cell? ⟨g, o + k * 13 + 9, none⟩ = some (.int .u64 x9) ∧ wr.cell? ⟨g, o + k * 13 + 10, none⟩ = some (.string x10) ∧ wr.cell? ⟨g, o + k * 13 + 11, none⟩ = some (.int .i64 x11) ∧ wr.cell? ⟨g, o + k * 13 + 12, none⟩ = some (.int .i64 x12)) ∧ (wr.cell? ⟨g', o' + k * 13, none⟩ = some (.int .i64 x0) ∧ wr.cell? ⟨g', o' + k * 13 + 1, none⟩ = some (.int .i64 x1) ∧ wr.cell? ⟨g', o' + k * 13 + 2, none⟩ = some (.int .i64 x2) ∧ wr.cell? ⟨g', o' + k * 13 + 3, none⟩ = some (.bool x3) ∧ wr.cell? ⟨g', o' + k * 13 + 4, none⟩ = some (.int .u64 x4) ∧ wr.cell? ⟨g', o' + k * 13 + 5, none⟩ = some (.int .u64 x5) ∧ wr.cell? ⟨g', o' + k * 13 + 6, none⟩ = some (.int .i64 x6) ∧ wr.cell? ⟨g', o' + k * 13 + 7, none⟩ = some (.bool x7) ∧ wr.cell? ⟨g', o' + k * 13 + 8, none⟩ = some (.int .u64 x8) ∧ wr.cell? ⟨g', o' + k * 13 + 9, none⟩ = some (.int .u64 x9) ∧ wr.cell? ⟨g', o' + k * 13 + 10, none⟩ = some (.string x10) ∧ wr.cell? ⟨g', o' + k * 13 + 11, none⟩ = some (.int .i64 x11) ∧ wr.cell? ⟨g', o' + k * 13 + 12, none⟩ = some (.int .i64 x12))) ∧ Below w.heap.size w wr) := by
        have kk := (bcell hb.out).1
        refine ⟨⟨?_, ?_⟩, hb.out⟩
        · obtain ⟨c0, c1, c2, c3, c4, c5, c6, c7, c8, c9, c10, c11, c12⟩ := hc
          rw [← kk _ _ hg] at c0 c1 c2 c3 c4 c5 c6 c7 c8 c9 c10 c11 c12
          exact ⟨c0, c1, c2, c3, c4, c5, c6, c7, c8, c9, c10, c11, c12⟩
        · obtain ⟨c0, c1, c2, c3, c4, c5, c6, c7, c8, c9, c10, c11, c12⟩ := hc'
          rw [← kk _ _ hg'] at c0 c1 c2 c3 c4 c5 c6 c7 c8 c9 c10 c11 c12
          exact ⟨c0, c1, c2, c3, c4, c5, c6, c7, c8, c9, c10, c11, c12⟩
      have S1 := Lib.hid (keep2E S0.out rfl)
      have hkz : (k : Int) < (N : Int) := by omega
      have hk0 : (0 : Int) ≤ (k : Int) := by omega
      clear hb hc hc'
      go_wp2_with fail
      go_region_held3 (fun w' => ((w'.cell? ⟨g, o + k * 13, none⟩ = some (.int .i64 x0) ∧ w'.cell? ⟨g, o + k * 13 + 1, none⟩ = some (.int .i64 x1) ∧ w'.cell? ⟨g, o + k * 13 + 2, none⟩ = some (.int .i64 x2) ∧ w'.cell? ⟨g, o + k * 13 + 3, none⟩ = some (.bool x3) ∧ w'.cell? ⟨g, o + k * 13 + 4, none⟩ = some (.int .u64 x4) ∧ w'.cell? ⟨g, o + k * 13 + 5, none⟩ = some (.int .u64 x5) ∧ w'.cell? ⟨g, o + k * 13 + 6, none⟩ = some (.int .i64 x6) ∧ w'.cell? ⟨g, o + k * 13 + 7, none⟩ = some (.bool x7) ∧ w'.cell? ⟨g, o + k * 13 + 8, none⟩ = some (.int .u64 x8) ∧ w'.cell? ⟨g, o + k * 13 + 9, none⟩ = some (.int .u64 x9) ∧ w'.cell? ⟨g, o + k * 13 + 10, none⟩ = some (.string x10) ∧ w'.cell? ⟨g, o + k * 13 + 11, none⟩ = some (.int .i64 x11) ∧ w'.cell? ⟨g, o + k * 13 + 12, none⟩ = some (.int .i64 x12)) ∧ (w'.cell? ⟨g', o' + k * 13, none⟩ = some (.int .i64 x0) ∧ w'.cell? ⟨g', o' + k * 13 + 1, none⟩ = some (.int .i64 x1) ∧ w'.cell? ⟨g', o' + k * 13 + 2, none⟩ = some (.int .i64 x2) ∧ w'.cell? ⟨g', o' + k * 13 + 3, none⟩ = some (.bool x3) ∧ w'.cell? ⟨g', o' + k * 13 + 4, none⟩ = some (.int .u64 x4) ∧ w'.cell? ⟨g', o' + k * 13 + 5, none⟩ = some (.int .u64 x5) ∧ w'.cell? ⟨g', o' + k * 13 + 6, none⟩ = some (.int .i64 x6) ∧ w'.cell? ⟨g', o' + k * 13 + 7, none⟩ = some (.bool x7) ∧ w'.cell? ⟨g', o' + k * 13 + 8, none⟩ = some (.int .u64 x8) ∧ w'.cell? ⟨g', o' + k * 13 + 9, none⟩ = some (.int .u64 x9) ∧ w'.cell? ⟨g', o' + k * 13 + 10, none⟩ = some (.string x10) ∧ w'.cell? ⟨g', o' + k * 13 + 11, none⟩ = some (.int .i64 x11) ∧ w'.cell? ⟨g', o' + k * 13 + 12, none⟩ = some (.int .i64 x12))) ∧ Below w.heap.size w w')
        (first | with_reducible exact S1.out | with_reducible exact S0.out)
        (fail)
      have hb2 : Hid (Below w.heap.size w wr.drew) := S1.out.2
      clear S0 S1
      go_wp2_with fail
      go_roundw
      case rel => exact ⟨k + 1, by go_num, by omega, And.right (by assumption)⟩
      case measure => simp [intOf]; omega
    · obtain rfl : k = N := by omega
      have hkk : ¬ (k : Int) < (k : Int) := by omega
      go_wp2_with fail
      go_ret
      exact ⟨rfl, hb.out⟩
end Go.Proofs.YtjainfehlbfiaaaGreat

namespace Go.Proofs.YtjainfehlbfiaaaGreat
open Go.RowKit

def eqE (x y : En) : Bool := x.num == y.num && (x.ep == y.ep && (x.o.k == y.o.k && (x.o.p.v == y.o.p.v && (x.o.p.hi == y.o.p.hi && (x.o.p.lo == y.o.p.lo && (x.o.p.b == y.o.p.b && (x.o.a.v == y.o.a.v && (x.o.a.hi == y.o.a.hi && (x.o.a.lo == y.o.a.lo && (x.o.who.toList == y.o.who.toList && (x.o.pof == y.o.pof && (x.o.n == y.o.n))))))))))))
theorem eqE_iff (x y : En) : eqE x y = true ↔ x = y := by
  constructor
  · intro h
    unfold eqE at h
    rw [Bool.and_eq_true, Bool.and_eq_true] at h
    obtain ⟨h1, h2, h3⟩ := h
    exact En.same (by simpa using h1) (by simpa using h2) ((eqO_iff _ _).1 h3)
  · rintro rfl
    unfold eqE
    simp
set_option maxHeartbeats 8000000 in
theorem neq_en (w : World) (x y : En) : (binOp .neq 68 (.agg #[.int .i64 x.num, .int .i64 x.ep, .int .i64 x.o.k, .bool x.o.p.v, .int .u64 x.o.p.hi, .int .u64 x.o.p.lo, .int .i64 x.o.p.b, .bool x.o.a.v, .int .u64 x.o.a.hi, .int .u64 x.o.a.lo, .string x.o.who, .int .i64 x.o.pof, .int .i64 x.o.n]) (.agg #[.int .i64 y.num, .int .i64 y.ep, .int .i64 y.o.k, .bool y.o.p.v, .int .u64 y.o.p.hi, .int .u64 y.o.p.lo, .int .i64 y.o.p.b, .bool y.o.a.v, .int .u64 y.o.a.hi, .int .u64 y.o.a.lo, .string y.o.who, .int .i64 y.o.pof, .int .i64 y.o.n])).run Tryz.prog w = .ok (.bool (!eqE x y)) w := by
  unfold eqE
  generalize x.num = x0
  generalize x.ep = x1
  generalize x.o.k = x2
  generalize x.o.p.v = x3
  generalize x.o.p.hi = x4
  generalize x.o.p.lo = x5
  generalize x.o.p.b = x6
  generalize x.o.a.v = x7
  generalize x.o.a.hi = x8
  generalize x.o.a.lo = x9
  generalize x.o.who = x10
  generalize x.o.pof = x11
  generalize x.o.n = x12
  generalize y.num = y0
  generalize y.ep = y1
  generalize y.o.k = y2
  generalize y.o.p.v = y3
  generalize y.o.p.hi = y4
  generalize y.o.p.lo = y5
  generalize y.o.p.b = y6
  generalize y.o.a.v = y7
  generalize y.o.a.hi = y8
  generalize y.o.a.lo = y9
  generalize y.o.who = y10
  generalize y.o.pof = y11
  generalize y.o.n = y12
  cases h0 : x0 == y0
  · simp [go_sem, h0]
  cases h1 : x1 == y1
  · simp [go_sem, h0, h1]
  cases h2 : x2 == y2
  · simp [go_sem, h0, h1, h2]
  cases h3 : x3 == y3
  · simp [go_sem, h0, h1, h2, h3]
  cases h4 : x4 == y4
  · simp [go_sem, h0, h1, h2, h3, h4]
  cases h5 : x5 == y5
  · simp [go_sem, h0, h1, h2, h3, h4, h5]
  cases h6 : x6 == y6
  · simp [go_sem, h0, h1, h2, h3, h4, h5, h6]
  cases h7 : x7 == y7
  · simp [go_sem, h0, h1, h2, h3, h4, h5, h6, h7]
  cases h8 : x8 == y8
  · simp [go_sem, h0, h1, h2, h3, h4, h5, h6, h7, h8]
  cases h9 : x9 == y9
  · simp [go_sem, h0, h1, h2, h3, h4, h5, h6, h7, h8, h9]
  cases h10 : x10.toList == y10.toList
  · simp [go_sem, h0, h1, h2, h3, h4, h5, h6, h7, h8, h9, h10]
  cases h11 : x11 == y11
  · simp [go_sem, h0, h1, h2, h3, h4, h5, h6, h7, h8, h9, h10, h11]
  cases h12 : x12 == y12
  · simp [go_sem, h0, h1, h2, h3, h4, h5, h6, h7, h8, h9, h10, h11, h12]
  simp [go_sem, h0, h1, h2, h3, h4, h5, h6, h7, h8, h9, h10, h11, h12]
def sameEn : List En → List En → Bool
  | [], [] => true
  | x :: l, y :: l' => eqE x y && sameEn l l'
  | [], _ :: _ => false
  | _ :: _, [] => false
theorem sameEn_iff (l l' : List En) : sameEn l l' = true ↔ l = l' := by
  induction l generalizing l' with
  | nil => cases l' <;> simp [sameEn]
  | cons x l ih =>
    cases l' with
    | nil => simp [sameEn]
    | cons y l' => simp [sameEn, ih, eqE_iff]
theorem sameEn_ne {l l' : List En} (h : ¬ l = l') : sameEn l l' = false := by
  cases e : sameEn l l'
  · rfl
  · exact absurd ((sameEn_iff l l').1 e) h
theorem take_snocE {α : Type} {l l' : List α} {k : Nat} (h : l.take k = l'.take k) (h1 : k < l.length) (h2 : k < l'.length) (he : l[k] = l'[k]) : l.take (k + 1) = l'.take (k + 1) := by
  rw [List.take_succ_eq_append_getElem h1, List.take_succ_eq_append_getElem h2, h, he]
set_option maxHeartbeats 16000000 in
set_option maxRecDepth 100000 in
theorem rsameEn_any (a a' : Option Addr) (c c' : Nat) (l l' : List En) (w : World) (hl : l.length ≤ 100000) (hs : Lies enE w a l) (hs' : Lies enE w a' l') :
    Calls Tryz.prog 9 #[.slice a l.length c, .slice a' l'.length c'] w fun e w' => e = .returned (.bool (sameEn l l')) ∧ Below w.heap.size w w' := by
  by_cases hNM : l.length = l'.length
  · obtain ⟨N, hN⟩ : ∃ N, N = l.length := ⟨_, rfl⟩
    rw [← hNM, ← hN]
    rw [← hN] at hl
    have HN : Hid (N = l.length) := hN
    have HM : Hid (N = l'.length) := hN.trans hNM
    have HL := Lib.hid hs
    have HL' := Lib.hid hs'
    have HE : Hid (l.take N = l'.take N → sameEn l l' = true) := fun h => by
      have e1 : l.take N = l := by rw [HN.out]; exact List.take_length
      have e2 : l'.take N = l' := by rw [HM.out]; exact List.take_length
      rw [e1, e2] at h
      exact (sameEn_iff l l').2 h
    have HF : Hid (∀ k (h : k < l.length) (h' : k < l'.length), ¬ l[k] = l'[k] → sameEn l l' = false) := fun k h h' hn => by
      refine sameEn_ne (fun e => hn ?_)
      subst e
      rfl
    generalize sameEn l l' = R at *
    clear hN hs hs' hNM
    go_enter Tryz.func9, Tryz.ntmps9
    go_wp2_with fail
    go_loopw [5] (fun vi wr => ∃ k : Nat, vi = .int .i64 k ∧ k ≤ N ∧ Hid (l.take k = l'.take k) ∧ Hid (Below w.heap.size w wr))
      (fun vi _ => N - (intOf vi).toNat)
    case atStart => exact ⟨0, rfl, Nat.zero_le _, (by show _ = _; rw [List.take_zero, List.take_zero]), Below.refl _ _⟩
    case round =>
      obtain ⟨k, rfl, hk, ht, hb⟩ := hrel
      by_cases hkN : k < N
      · have hkl : k < l.length := by have := HN.out; omega
        have hkl' : k < l'.length := by have := HM.out; omega
        obtain ⟨g, o, rfl, hg, hc⟩ := HL.out.en k hkl
        obtain ⟨g', o', rfl, hg', hc'⟩ := HL'.out.en k hkl'
        have hq0 : ∀ w : World, (binOp .neq 68 (.agg #[.int .i64 l[k].num, .int .i64 l[k].ep, .int .i64 l[k].o.k, .bool l[k].o.p.v, .int .u64 l[k].o.p.hi, .int .u64 l[k].o.p.lo, .int .i64 l[k].o.p.b, .bool l[k].o.a.v, .int .u64 l[k].o.a.hi, .int .u64 l[k].o.a.lo, .string l[k].o.who, .int .i64 l[k].o.pof, .int .i64 l[k].o.n]) (.agg #[.int .i64 l'[k].num, .int .i64 l'[k].ep, .int .i64 l'[k].o.k, .bool l'[k].o.p.v, .int .u64 l'[k].o.p.hi, .int .u64 l'[k].o.p.lo, .int .i64 l'[k].o.p.b, .bool l'[k].o.a.v, .int .u64 l'[k].o.a.hi, .int .u64 l'[k].o.a.lo, .string l'[k].o.who, .int .i64 l'[k].o.pof, .int .i64 l'[k].o.n])).run Tryz.prog w = .ok (.bool (!eqE l[k] l'[k])) w := fun w => neq_en w l[k] l'[k]
        have HT : Hid (eqE l[k] l'[k] = true → l.take (k + 1) = l'.take (k + 1)) := fun h => take_snocE ht.out hkl hkl' ((eqE_iff _ _).1 h)
        have HG : Hid (eqE l[k] l'[k] = false → R = false) := fun h => HF.out k hkl hkl' (fun e => by rw [(eqE_iff _ _).2 e] at h; exact absurd h (by decide))
        generalize hxe : l[k] = x at *
        clear hxe
        generalize hye : l'[k] = y at *
        clear hye
        generalize eqE x y = q at *
        generalize x.num = x0 at *
        generalize x.ep = x1 at *
        generalize x.o.k = x2 at *
        generalize x.o.p.v = x3 at *
        generalize x.o.p.hi = x4 at *
        generalize x.o.p.lo = x5 at *
        generalize x.o.p.b = x6 at *
        generalize x.o.a.v = x7 at *
        generalize x.o.a.hi = x8 at *
        generalize x.o.a.lo = x9 at *
        generalize x.o.who = x10 at *
        generalize x.o.pof = x11 at *
        generalize x.o.n = x12 at *
        generalize y.num = y0 at *
        generalize y.ep = y1 at *
        generalize y.o.k = y2 at *
        generalize y.o.p.v = y3 at *
        generalize y.o.p.hi = y4 at *
        generalize y.o.p.lo = y5 at *
        generalize y.o.p.b = y6 at *
        generalize y.o.a.v = y7 at *
        generalize y.o.a.hi = y8 at *
        generalize y.o.a.lo = y9 at *
        generalize y.o.who = y10 at *
        generalize y.o.pof = y11 at *
        generalize y.o.n = y12 at *
        have S0 : Hid (((wr.cell? ⟨g, o + k * 13, none⟩ = some (.int .i64 x0) ∧ wr.cell? ⟨g, o + k * 13 + 1, none⟩ = some (.int .i64 x1) ∧ wr.cell? ⟨g, o + k * 13 + 2, none⟩ = some (.int .i64 x2) ∧ wr.cell? ⟨g, o + k * 13 + 3, none⟩ = some (.bool x3) ∧ wr.cell? ⟨g, o + k * 13 + 4, none⟩ = some (.int .u64 x4) ∧ wr.cell? ⟨g, o + k * 13 + 5, none⟩ = some (.int .u64 x5) ∧ wr.cell? ⟨g, o + k * 13 + 6, none⟩ = some (.int .i64 x6) ∧ wr.cell? ⟨g, o + k * 13 + 7, none⟩ = some (.bool x7) ∧ wr.cell? ⟨g, o + k * 13 + 8, none⟩ = some (.int .u64 x8) ∧ wr.cell? ⟨g, o + k * 13 + 9, none⟩ = some (.int .u64 x9) ∧ wr.cell? ⟨g, o + k * 13 + 10, none⟩ = some (.string x10) ∧ wr.cell? ⟨g, o + k * 13 + 11, none⟩ = some (.int .i64 x11) ∧ wr.cell? ⟨g, o + k * 13 + 12, none⟩ = some (.int .i64 x12)) ∧ (wr.cell? ⟨g', o' + k * 13, none⟩ = some (.int .i64 y0) ∧ wr.cell? ⟨g', o' + k * 13 + 1, none⟩ = some (.int .i64 y1) ∧ wr.cell? ⟨g', o' + k * 13 + 2, none⟩ = some (.int .i64 y2) ∧ wr.cell? ⟨g', o' + k * 13 + 3, none⟩ = some (.bool y3) ∧ wr.cell? ⟨g', o' + k * 13 + 4, none⟩ = some (.int .u64 y4) ∧ wr.cell? ⟨g', o' + k * 13 + 5, none⟩ = some (.int .u64 y5) ∧ wr.cell? ⟨g', o' + k * 13 + 6, none⟩ = some (.int .i64 y6) ∧ wr.cell? ⟨g', o' + k * 13 + 7, none⟩ = some (.bool y7) ∧ wr.cell? ⟨g', o' + k * 13 + 8, none⟩ = some (.int .u64 y8) ∧ wr.cell? ⟨g', o' + k * 13 + 9, none⟩ = some (.int .u64 y9) ∧ wr.cell? ⟨g', o' + k * 13 + 10, none⟩ = some (.string y10) ∧ wr.cell? ⟨g', o' + k * 13 + 11, none⟩ = some (.int .i64 y11) ∧ wr.cell? ⟨g', o' + k * 13 + 12, none⟩ = some (.int .i64 y12))) ∧ Below w.heap.size w wr) := by
          have kk := (bcell hb.out).1
          refine ⟨⟨?_, ?_⟩, hb.out⟩
          · obtain ⟨c0, c1, c2, c3, c4, c5, c6, c7, c8, c9, c10, c11, c12⟩ := hc
            rw [← kk _ _ hg] at c0 c1 c2 c3 c4 c5 c6 c7 c8 c9 c10 c11 c12
            exact ⟨c0, c1, c2, c3, c4, c5, c6, c7, c8, c9, c10, c11, c12⟩
          · obtain ⟨c0, c1, c2, c3, c4, c5, c6, c7, c8, c9, c10, c11, c12⟩ := hc'
            rw [← kk _ _ hg'] at c0 c1 c2 c3 c4 c5 c6 c7 c8 c9 c10 c11 c12
            exact ⟨c0, c1, c2, c3, c4, c5, c6, c7, c8, c9, c10, c11, c12⟩
        have S1 := Lib.hid (keep2E S0.out rfl)
        have hkz : (k : Int) < (N : Int) := by omega
        have hk0 : (0 : Int) ≤ (k : Int) := by omega
        clear ht
        cases q
        · have hq : ∀ w : World, (binOp .neq 68 (.agg #[.int .i64 x0, .int .i64 x1, .int .i64 x2, .bool x3, .int .u64 x4, .int .u64 x5, .int .i64 x6, .bool x7, .int .u64 x8, .int .u64 x9, .string x10, .int .i64 x11, .int .i64 x12]) (.agg #[.int .i64 y0, .int .i64 y1, .int .i64 y2, .bool y3, .int .u64 y4, .int .u64 y5, .int .i64 y6, .bool y7, .int .u64 y8, .int .u64 y9, .string y10, .int .i64 y11, .int .i64 y12])).run Tryz.prog w = .ok (.bool true) w := hq0
          have HR := Lib.hid (HG.out rfl)
          clear hq0 HT HG HE HF
          clear hb hc hc'
          go_wp2_with fail
          go_region_held3 (fun w' => ((w'.cell? ⟨g, o + k * 13, none⟩ = some (.int .i64 x0) ∧ w'.cell? ⟨g, o + k * 13 + 1, none⟩ = some (.int .i64 x1) ∧ w'.cell? ⟨g, o + k * 13 + 2, none⟩ = some (.int .i64 x2) ∧ w'.cell? ⟨g, o + k * 13 + 3, none⟩ = some (.bool x3) ∧ w'.cell? ⟨g, o + k * 13 + 4, none⟩ = some (.int .u64 x4) ∧ w'.cell? ⟨g, o + k * 13 + 5, none⟩ = some (.int .u64 x5) ∧ w'.cell? ⟨g, o + k * 13 + 6, none⟩ = some (.int .i64 x6) ∧ w'.cell? ⟨g, o + k * 13 + 7, none⟩ = some (.bool x7) ∧ w'.cell? ⟨g, o + k * 13 + 8, none⟩ = some (.int .u64 x8) ∧ w'.cell? ⟨g, o + k * 13 + 9, none⟩ = some (.int .u64 x9) ∧ w'.cell? ⟨g, o + k * 13 + 10, none⟩ = some (.string x10) ∧ w'.cell? ⟨g, o + k * 13 + 11, none⟩ = some (.int .i64 x11) ∧ w'.cell? ⟨g, o + k * 13 + 12, none⟩ = some (.int .i64 x12)) ∧ (w'.cell? ⟨g', o' + k * 13, none⟩ = some (.int .i64 y0) ∧ w'.cell? ⟨g', o' + k * 13 + 1, none⟩ = some (.int .i64 y1) ∧ w'.cell? ⟨g', o' + k * 13 + 2, none⟩ = some (.int .i64 y2) ∧ w'.cell? ⟨g', o' + k * 13 + 3, none⟩ = some (.bool y3) ∧ w'.cell? ⟨g', o' + k * 13 + 4, none⟩ = some (.int .u64 y4) ∧ w'.cell? ⟨g', o' + k * 13 + 5, none⟩ = some (.int .u64 y5) ∧ w'.cell? ⟨g', o' + k * 13 + 6, none⟩ = some (.int .i64 y6) ∧ w'.cell? ⟨g', o' + k * 13 + 7, none⟩ = some (.bool y7) ∧ w'.cell? ⟨g', o' + k * 13 + 8, none⟩ = some (.int .u64 y8) ∧ w'.cell? ⟨g', o' + k * 13 + 9, none⟩ = some (.int .u64 y9) ∧ w'.cell? ⟨g', o' + k * 13 + 10, none⟩ = some (.string y10) ∧ w'.cell? ⟨g', o' + k * 13 + 11, none⟩ = some (.int .i64 y11) ∧ w'.cell? ⟨g', o' + k * 13 + 12, none⟩ = some (.int .i64 y12))) ∧ Below w.heap.size w w')
            (first | with_reducible exact S1.out | with_reducible exact S0.out)
            (fail)
          have hb2 : Hid (Below w.heap.size w wr.drew) := S1.out.2
          clear S0 S1
          go_wp2_with fail
          go_ret
          exact ⟨by rw [HR.out]; rfl, hb2.out⟩
        · have hq : ∀ w : World, (binOp .neq 68 (.agg #[.int .i64 x0, .int .i64 x1, .int .i64 x2, .bool x3, .int .u64 x4, .int .u64 x5, .int .i64 x6, .bool x7, .int .u64 x8, .int .u64 x9, .string x10, .int .i64 x11, .int .i64 x12]) (.agg #[.int .i64 y0, .int .i64 y1, .int .i64 y2, .bool y3, .int .u64 y4, .int .u64 y5, .int .i64 y6, .bool y7, .int .u64 y8, .int .u64 y9, .string y10, .int .i64 y11, .int .i64 y12])).run Tryz.prog w = .ok (.bool false) w := hq0
          have HT2 := Lib.hid (HT.out rfl)
          clear hq0 HT HG
          clear hb hc hc'
          go_wp2_with fail
          go_region_held3 (fun w' => ((w'.cell? ⟨g, o + k * 13, none⟩ = some (.int .i64 x0) ∧ w'.cell? ⟨g, o + k * 13 + 1, none⟩ = some (.int .i64 x1) ∧ w'.cell? ⟨g, o + k * 13 + 2, none⟩ = some (.int .i64 x2) ∧ w'.cell? ⟨g, o + k * 13 + 3, none⟩ = some (.bool x3) ∧ w'.cell? ⟨g, o + k * 13 + 4, none⟩ = some (.int .u64 x4) ∧ w'.cell? ⟨g, o + k * 13 + 5, none⟩ = some (.int .u64 x5) ∧ w'.cell? ⟨g, o + k * 13 + 6, none⟩ = some (.int .i64 x6) ∧ w'.cell? ⟨g, o + k * 13 + 7, none⟩ = some (.bool x7) ∧ w'.cell? ⟨g, o + k * 13 + 8, none⟩ = some (.int .u64 x8) ∧ w'.cell? ⟨g, o + k * 13 + 9, none⟩ = some (.int .u64 x9) ∧ w'.cell? ⟨g, o + k * 13 + 10, none⟩ = some (.string x10) ∧ w'.cell? ⟨g, o + k * 13 + 11, none⟩ = some (.int .i64 x11) ∧ w'.cell? ⟨g, o + k * 13 + 12, none⟩ = some (.int .i64 x12)) ∧ (w'.cell? ⟨g', o' + k * 13, none⟩ = some (.int .i64 y0) ∧ w'.cell? ⟨g', o' + k * 13 + 1, none⟩ = some (.int .i64 y1) ∧ w'.cell? ⟨g', o' + k * 13 + 2, none⟩ = some (.int .i64 y2) ∧ w'.cell? ⟨g', o' + k * 13 + 3, none⟩ = some (.bool y3) ∧ w'.cell? ⟨g', o' + k * 13 + 4, none⟩ = some (.int .u64 y4) ∧ w'.cell? ⟨g', o' + k * 13 + 5, none⟩ = some (.int .u64 y5) ∧ w'.cell? ⟨g', o' + k * 13 + 6, none⟩ = some (.int .i64 y6) ∧ w'.cell? ⟨g', o' + k * 13 + 7, none⟩ = some (.bool y7) ∧ w'.cell? ⟨g', o' + k * 13 + 8, none⟩ = some (.int .u64 y8) ∧ w'.cell? ⟨g', o' + k * 13 + 9, none⟩ = some (.int .u64 y9) ∧ w'.cell? ⟨g', o' + k * 13 + 10, none⟩ = some (.string y10) ∧ w'.cell? ⟨g', o' + k * 13 + 11, none⟩ = some (.int .i64 y11) ∧ w'.cell? ⟨g', o' + k * 13 + 12, none⟩ = some (.int .i64 y12))) ∧ Below w.heap.size w w')
            (first | with_reducible exact S1.out | with_reducible exact S0.out)
            (fail)
          have hb2 : Hid (Below w.heap.size w wr.drew) := S1.out.2
          clear S0 S1
          go_wp2_with fail
          go_roundw
          case rel => exact ⟨k + 1, by go_num, by omega, HT2, And.right (by assumption)⟩
          case measure => simp [intOf]; omega
      · obtain rfl : k = N := by omega
        have hkk : ¬ (k : Int) < (k : Int) := by omega
        have HR := Lib.hid (HE.out ht.out)
        clear ht HE HF
        go_wp2_with fail
        go_ret
        exact ⟨by rw [HR.out]; rfl, hb.out⟩
  · rw [sameEn_ne (show ¬ l = l' from fun e => hNM (by rw [e]))]
    have hN : ((l.length : Int) != (l'.length : Int)) = true := by rw [bne_iff_ne]; omega
    generalize l.length = N at *
    generalize l'.length = M at *
    clear hNM hl hs hs'
    go_enter Tryz.func9, Tryz.ntmps9
    go_wp2_with fail
    go_ret
    exact ⟨rfl, Below.refl _ _⟩
end Go.Proofs.YtjainfehlbfiaaaGreat

namespace Go.Proofs.YtjainfehlbfiaaaGreat
open Go.RowKit

set_option maxHeartbeats 16000000 in
set_option maxRecDepth 100000 in
theorem equal_any (a a' : Option Addr) (c c' : Nat) (l l' : List En) (w : World) (hl : l.length ≤ 100000) (hs : Lies enE w a l) (hs' : Lies enE w a' l') :
    Calls Tryz.prog 25 #[.slice a l.length c, .slice a' l'.length c'] w fun e w' => e = .returned (.bool (sameEn l l')) ∧ Below w.heap.size w w' := by
  by_cases hNM : l.length = l'.length
  · obtain ⟨N, hN⟩ : ∃ N, N = l.length := ⟨_, rfl⟩
    rw [← hNM, ← hN]
    rw [← hN] at hl
    have HN : Hid (N = l.length) := hN
    have HM : Hid (N = l'.length) := hN.trans hNM
    have HL := Lib.hid hs
    have HL' := Lib.hid hs'
    have HE : Hid (l.take N = l'.take N → sameEn l l' = true) := fun h => by
      have e1 : l.take N = l := by rw [HN.out]; exact List.take_length
      have e2 : l'.take N = l' := by rw [HM.out]; exact List.take_length
      rw [e1, e2] at h
      exact (sameEn_iff l l').2 h
    have HF : Hid (∀ k (h : k < l.length) (h' : k < l'.length), ¬ l[k] = l'[k] → sameEn l l' = false) := fun k h h' hn => by
      refine sameEn_ne (fun e => hn ?_)
      subst e
      rfl
    generalize sameEn l l' = R at *
    clear hN hs hs' hNM
    go_enter Tryz.func25, Tryz.ntmps25
    go_wp2_with fail
    go_loopw [13] (fun vi wr => ∃ k : Nat, vi = .int .i64 k ∧ k ≤ N ∧ Hid (l.take k = l'.take k) ∧ Hid (Below w.heap.size w wr))
      (fun vi _ => N - (intOf vi).toNat)
    case atStart => exact ⟨0, rfl, Nat.zero_le _, (by show _ = _; rw [List.take_zero, List.take_zero]), Below.refl _ _⟩
    case round =>
      obtain ⟨k, rfl, hk, ht, hb⟩ := hrel
      by_cases hkN : k < N
      · have hkl : k < l.length := by have := HN.out; omega
        have hkl' : k < l'.length := by have := HM.out; omega
        obtain ⟨g, o, rfl, hg, hc⟩ := HL.out.en k hkl
        obtain ⟨g', o', rfl, hg', hc'⟩ := HL'.out.en k hkl'
        have hq0 : ∀ w : World, (binOp .neq 68 (.agg #[.int .i64 l[k].num, .int .i64 l[k].ep, .int .i64 l[k].o.k, .bool l[k].o.p.v, .int .u64 l[k].o.p.hi, .int .u64 l[k].o.p.lo, .int .i64 l[k].o.p.b, .bool l[k].o.a.v, .int .u64 l[k].o.a.hi, .int .u64 l[k].o.a.lo, .string l[k].o.who, .int .i64 l[k].o.pof, .int .i64 l[k].o.n]) (.agg #[.int .i64 l'[k].num, .int .i64 l'[k].ep, .int .i64 l'[k].o.k, .bool l'[k].o.p.v, .int .u64 l'[k].o.p.hi, .int .u64 l'[k].o.p.lo, .int .i64 l'[k].o.p.b, .bool l'[k].o.a.v, .int .u64 l'[k].o.a.hi, .int .u64 l'[k].o.a.lo, .string l'[k].o.who, .int .i64 l'[k].o.pof, .int .i64 l'[k].o.n])).run Tryz.prog w = .ok (.bool (!eqE l[k] l'[k])) w := fun w => neq_en w l[k] l'[k]
        have HT : Hid (eqE l[k] l'[k] = true → l.take (k + 1) = l'.take (k + 1)) := fun h => take_snocE ht.out hkl hkl' ((eqE_iff _ _).1 h)
        have HG : Hid (eqE l[k] l'[k] = false → R = false) := fun h => HF.out k hkl hkl' (fun e => by rw [(eqE_iff _ _).2 e] at h; exact absurd h (by decide))
        generalize hxe : l[k] = x at *
        clear hxe
        generalize hye : l'[k] = y at *
        clear hye
        generalize eqE x y = q at *
        generalize x.num = x0 at *
        generalize x.ep = x1 at *
        generalize x.o.k = x2 at *
        generalize x.o.p.v = x3 at *
        generalize x.o.p.hi = x4 at *
        generalize x.o.p.lo = x5 at *
        generalize x.o.p.b = x6 at *
        generalize x.o.a.v = x7 at *
        generalize x.o.a.hi = x8 at *
        generalize x.o.a.lo = x9 at *
        generalize x.o.who = x10 at *
        generalize x.o.pof = x11 at *
        generalize x.o.n = x12 at *
        generalize y.num = y0 at *
        generalize y.ep = y1 at *
        generalize y.o.k = y2 at *
        generalize y.o.p.v = y3 at *
        generalize y.o.p.hi = y4 at *
        generalize y.o.p.lo = y5 at *
        generalize y.o.p.b = y6 at *
        generalize y.o.a.v = y7 at *
        generalize y.o.a.hi = y8 at *
        generalize y.o.a.lo = y9 at *
        generalize y.o.who = y10 at *
        generalize y.o.pof = y11 at *
        generalize y.o.n = y12 at *
        have S0 : Hid (((wr.cell? ⟨g, o + k * 13, none⟩ = some (.int .i64 x0) ∧ wr.cell? ⟨g, o + k * 13 + 1, none⟩ = some (.int .i64 x1) ∧ wr.cell? ⟨g, o + k * 13 + 2, none⟩ = some (.int .i64 x2) ∧ wr.cell? ⟨g, o + k * 13 + 3, none⟩ = some (.bool x3) ∧ wr.cell? ⟨g, o + k * 13 + 4, none⟩ = some (.int .u64 x4) ∧ wr.cell? ⟨g, o + k * 13 + 5, none⟩ = some (.int .u64 x5) ∧ wr.cell? ⟨g, o + k * 13 + 6, none⟩ = some (.int .i64 x6) ∧ wr.cell? ⟨g, o + k * 13 + 7, none⟩ = some (.bool x7) ∧ wr.cell? ⟨g, o + k * 13 + 8, none⟩ = some (.int .u64 x8) ∧ wr.cell? ⟨g, o + k * 13 + 9, none⟩ = some (.int .u64 x9) ∧ wr.cell? ⟨g, o + k * 13 + 10, none⟩ = some (.string x10) ∧ wr.cell? ⟨g, o + k * 13 + 11, none⟩ = some (.int .i64 x11) ∧ wr.cell? ⟨g, o + k * 13 + 12, none⟩ = some (.int .i64 x12)) ∧ (wr.cell? ⟨g', o' + k * 13, none⟩ = some (.int .i64 y0) ∧ wr.cell? ⟨g', o' + k * 13 + 1, none⟩ = some (.int .i64 y1) ∧ wr.cell? ⟨g', o' + k * 13 + 2, none⟩ = some (.int .i64 y2) ∧ wr.cell? ⟨g', o' + k * 13 + 3, none⟩ = some (.bool y3) ∧ wr.cell? ⟨g', o' + k * 13 + 4, none⟩ = some (.int .u64 y4) ∧ wr.cell? ⟨g', o' + k * 13 + 5, none⟩ = some (.int .u64 y5) ∧ wr.cell? ⟨g', o' + k * 13 + 6, none⟩ = some (.int .i64 y6) ∧ wr.cell? ⟨g', o' + k * 13 + 7, none⟩ = some (.bool y7) ∧ wr.cell? ⟨g', o' + k * 13 + 8, none⟩ = some (.int .u64 y8) ∧ wr.cell? ⟨g', o' + k * 13 + 9, none⟩ = some (.int .u64 y9) ∧ wr.cell? ⟨g', o' + k * 13 + 10, none⟩ = some (.string y10) ∧ wr.cell? ⟨g', o' + k * 13 + 11, none⟩ = some (.int .i64 y11) ∧ wr.cell? ⟨g', o' + k * 13 + 12, none⟩ = some (.int .i64 y12))) ∧ Below w.heap.size w wr) := by
          have kk := (bcell hb.out).1
          refine ⟨⟨?_, ?_⟩, hb.out⟩
          · obtain ⟨c0, c1, c2, c3, c4, c5, c6, c7, c8, c9, c10, c11, c12⟩ := hc
            rw [← kk _ _ hg] at c0 c1 c2 c3 c4 c5 c6 c7 c8 c9 c10 c11 c12
            exact ⟨c0, c1, c2, c3, c4, c5, c6, c7, c8, c9, c10, c11, c12⟩
          · obtain ⟨c0, c1, c2, c3, c4, c5, c6, c7, c8, c9, c10, c11, c12⟩ := hc'
            rw [← kk _ _ hg'] at c0 c1 c2 c3 c4 c5 c6 c7 c8 c9 c10 c11 c12
            exact ⟨c0, c1, c2, c3, c4, c5, c6, c7, c8, c9, c10, c11, c12⟩
        have S1 := Lib.hid (keep2E S0.out rfl)
        have hkz : (k : Int) < (N : Int) := by omega
        have hk0 : (0 : Int) ≤ (k : Int) := by omega
        clear ht
        cases q
        · have hq : ∀ w : World, (binOp .neq 68 (.agg #[.int .i64 x0, .int .i64 x1, .int .i64 x2, .bool x3, .int .u64 x4, .int .u64 x5, .int .i64 x6, .bool x7, .int .u64 x8, .int .u64 x9, .string x10, .int .i64 x11, .int .i64 x12]) (.agg #[.int .i64 y0, .int .i64 y1, .int .i64 y2, .bool y3, .int .u64 y4, .int .u64 y5, .int .i64 y6, .bool y7, .int .u64 y8, .int .u64 y9, .string y10, .int .i64 y11, .int .i64 y12])).run Tryz.prog w = .ok (.bool true) w := hq0
          have HR := Lib.hid (HG.out rfl)
          clear hq0 HT HG HE HF
          clear hb hc hc'
          go_wp2_with fail
          go_region_held3 (fun w' => ((w'.cell? ⟨g, o + k * 13, none⟩ = some (.int .i64 x0) ∧ w'.cell? ⟨g, o + k * 13 + 1, none⟩ = some (.int .i64 x1) ∧ w'.cell? ⟨g, o + k * 13 + 2, none⟩ = some (.int .i64 x2) ∧ w'.cell? ⟨g, o + k * 13 + 3, none⟩ = some (.bool x3) ∧ w'.cell? ⟨g, o + k * 13 + 4, none⟩ = some (.int .u64 x4) ∧ w'.cell? ⟨g, o + k * 13 + 5, none⟩ = some (.int .u64 x5) ∧ w'.cell? ⟨g, o + k * 13 + 6, none⟩ = some (.int .i64 x6) ∧ w'.cell? ⟨g, o + k * 13 + 7, none⟩ = some (.bool x7) ∧ w'.cell? ⟨g, o + k * 13 + 8, none⟩ = some (.int .u64 x8) ∧ w'.cell? ⟨g, o + k * 13 + 9, none⟩ = some (.int .u64 x9) ∧ w'.cell? ⟨g, o + k * 13 + 10, none⟩ = some (.string x10) ∧ w'.cell? ⟨g, o + k * 13 + 11, none⟩ = some (.int .i64 x11) ∧ w'.cell? ⟨g, o + k * 13 + 12, none⟩ = some (.int .i64 x12)) ∧ (w'.cell? ⟨g', o' + k * 13, none⟩ = some (.int .i64 y0) ∧ w'.cell? ⟨g', o' + k * 13 + 1, none⟩ = some (.int .i64 y1) ∧ w'.cell? ⟨g', o' + k * 13 + 2, none⟩ = some (.int .i64 y2) ∧ w'.cell? ⟨g', o' + k * 13 + 3, none⟩ = some (.bool y3) ∧ w'.cell? ⟨g', o' + k * 13 + 4, none⟩ = some (.int .u64 y4) ∧ w'.cell? ⟨g', o' + k * 13 + 5, none⟩ = some (.int .u64 y5) ∧ w'.cell? ⟨g', o' + k * 13 + 6, none⟩ = some (.int .i64 y6) ∧ w'.cell? ⟨g', o' + k * 13 + 7, none⟩ = some (.bool y7) ∧ w'.cell? ⟨g', o' + k * 13 + 8, none⟩ = some (.int .u64 y8) ∧ w'.cell? ⟨g', o' + k * 13 + 9, none⟩ = some (.int .u64 y9) ∧ w'.cell? ⟨g', o' + k * 13 + 10, none⟩ = some (.string y10) ∧ w'.cell? ⟨g', o' + k * 13 + 11, none⟩ = some (.int .i64 y11) ∧ w'.cell? ⟨g', o' + k * 13 + 12, none⟩ = some (.int .i64 y12))) ∧ Below w.heap.size w w')
            (first | with_reducible exact S1.out | with_reducible exact S0.out)
            (fail)
          have hb2 : Hid (Below w.heap.size w wr.drew) := S1.out.2
          clear S0 S1
          go_wp2_with fail
          go_ret
          exact ⟨by rw [HR.out]; rfl, hb2.out⟩
        · have hq : ∀ w : World, (binOp .neq 68 (.agg #[.int .i64 x0, .int .i64 x1, .int .i64 x2, .bool x3, .int .u64 x4, .int .u64 x5, .int .i64 x6, .bool x7, .int .u64 x8, .int .u64 x9, .string x10, .int .i64 x11, .int .i64 x12]) (.agg #[.int .i64 y0, .int .i64 y1, .int .i64 y2, .bool y3, .int .u64 y4, .int .u64 y5, .int .i64 y6, .bool y7, .int .u64 y8, .int .u64 y9, .string y10, .int .i64 y11, .int .i64 y12])).run Tryz.prog w = .ok (.bool false) w := hq0
          have HT2 := Lib.hid (HT.out rfl)
          clear hq0 HT HG
          clear hb hc hc'
          go_wp2_with fail
          go_region_held3 (fun w' => ((w'.cell? ⟨g, o + k * 13, none⟩ = some (.int .i64 x0) ∧ w'.cell? ⟨g, o + k * 13 + 1, none⟩ = some (.int .i64 x1) ∧ w'.cell? ⟨g, o + k * 13 + 2, none⟩ = some (.int .i64 x2) ∧ w'.cell? ⟨g, o + k * 13 + 3, none⟩ = some (.bool x3) ∧ w'.cell? ⟨g, o + k * 13 + 4, none⟩ = some (.int .u64 x4) ∧ w'.cell? ⟨g, o + k * 13 + 5, none⟩ = some (.int .u64 x5) ∧ w'.cell? ⟨g, o + k * 13 + 6, none⟩ = some (.int .i64 x6) ∧ w'.cell? ⟨g, o + k * 13 + 7, none⟩ = some (.bool x7) ∧ w'.cell? ⟨g, o + k * 13 + 8, none⟩ = some (.int .u64 x8) ∧ w'.cell? ⟨g, o + k * 13 + 9, none⟩ = some (.int .u64 x9) ∧ w'.cell? ⟨g, o + k * 13 + 10, none⟩ = some (.string x10) ∧ w'.cell? ⟨g, o + k * 13 + 11, none⟩ = some (.int .i64 x11) ∧ w'.cell? ⟨g, o + k * 13 + 12, none⟩ = some (.int .i64 x12)) ∧ (w'.cell? ⟨g', o' + k * 13, none⟩ = some (.int .i64 y0) ∧ w'.cell? ⟨g', o' + k * 13 + 1, none⟩ = some (.int .i64 y1) ∧ w'.cell? ⟨g', o' + k * 13 + 2, none⟩ = some (.int .i64 y2) ∧ w'.cell? ⟨g', o' + k * 13 + 3, none⟩ = some (.bool y3) ∧ w'.cell? ⟨g', o' + k * 13 + 4, none⟩ = some (.int .u64 y4) ∧ w'.cell? ⟨g', o' + k * 13 + 5, none⟩ = some (.int .u64 y5) ∧ w'.cell? ⟨g', o' + k * 13 + 6, none⟩ = some (.int .i64 y6) ∧ w'.cell? ⟨g', o' + k * 13 + 7, none⟩ = some (.bool y7) ∧ w'.cell? ⟨g', o' + k * 13 + 8, none⟩ = some (.int .u64 y8) ∧ w'.cell? ⟨g', o' + k * 13 + 9, none⟩ = some (.int .u64 y9) ∧ w'.cell? ⟨g', o' + k * 13 + 10, none⟩ = some (.string y10) ∧ w'.cell? ⟨g', o' + k * 13 + 11, none⟩ = some (.int .i64 y11) ∧ w'.cell? ⟨g', o' + k * 13 + 12, none⟩ = some (.int .i64 y12))) ∧ Below w.heap.size w w')
            (first | with_reducible exact S1.out | with_reducible exact S0.out)
            (fail)
          have hb2 : Hid (Below w.heap.size w wr.drew) := S1.out.2
          clear S0 S1
          go_wp2_with fail
          go_roundw
          case rel => exact ⟨k + 1, by go_num, by omega, HT2, And.right (by assumption)⟩
          case measure => simp [intOf]; omega
      · obtain rfl : k = N := by omega
        have hkk : ¬ (k : Int) < (k : Int) := by omega
        have HR := Lib.hid (HE.out ht.out)
        clear ht HE HF
        go_wp2_with fail
        go_ret
        exact ⟨by rw [HR.out]; rfl, hb.out⟩
  · rw [sameEn_ne (show ¬ l = l' from fun e => hNM (by rw [e]))]
    have hN : ((l.length : Int) != (l'.length : Int)) = true := by rw [bne_iff_ne]; omega
    generalize l.length = N at *
    generalize l'.length = M at *
    clear hNM hl hs hs'
    go_enter Tryz.func25, Tryz.ntmps25
    go_wp2_with fail
    go_ret
    exact ⟨rfl, Below.refl _ _⟩
/-- What Begins says: an errno; is the one the beginning of the other one? -/
def begE (l l' : List En) : Int := if logE l = 0 then logE l' else logE l
def begB (l l' : List En) : Bool := decide (l.length ≤ l'.length) && sameEn l (l'.take l.length)
set_option maxHeartbeats 16000000 in
set_option maxRecDepth 100000 in
theorem begins_any (a a' : Option Addr) (c c' : Nat) (l l' : List En) (w : World) (hc : l.length ≤ c) (hc' : l'.length ≤ c') (hs : Lies enE w a l) (hs' : Lies enE w a' l') :
    Calls Tryz.prog 11 #[.slice a l.length c, .slice a' l'.length c'] w fun e w' => e = .returned (.tuple #[.bool (if begE l l' = 0 then begB l l' else false), .int .i64 (begE l l')]) ∧ Below w.heap.size w w' := by
  obtain ⟨N, hN⟩ : ∃ N, N = l.length := ⟨_, rfl⟩
  obtain ⟨M, hM⟩ : ∃ M, M = l'.length := ⟨_, rfl⟩
  have hcM : M ≤ c' := by rw [hM]; exact hc'
  obtain ⟨W1, hW1⟩ : ∃ W1, W1 = w.alloc (.cells #[.slice a l.length c, .slice a' l'.length c'] 24) := ⟨_, rfl⟩
  have hb1 : Below w.heap.size w W1 := by rw [hW1]; exact bal (Below.refl w.heap.size w) _
  have hB : Blk W1 w.heap.size 24 [.slice a l.length c, .slice a' l'.length c'] := by rw [hW1]; exact Blk.new w _ _
  have HC : Hid (∀ W : World, Below w.heap.size w W → Calls Tryz.prog 17 #[.slice a l.length c] W fun e w' => e = .returned (.int .i64 (logE l)) ∧ Below W.heap.size W w') := fun W hW => lcheck_any a c l W hc (hs.below hW)
  have HC' : Hid (∀ W : World, Below w.heap.size w W → Calls Tryz.prog 17 #[.slice a' l'.length c'] W fun e w' => e = .returned (.int .i64 (logE l')) ∧ Below W.heap.size W w') := fun W hW => lcheck_any a' c' l' W hc' (hs'.below hW)
  have HE : Hid (∀ W : World, Below w.heap.size w W → l.length ≤ l'.length → l.length ≤ 100000 → Calls Tryz.prog 25 #[.slice a l.length c, .slice a' l.length c'] W fun e w' => e = .returned (.bool (sameEn l (l'.take l.length))) ∧ Below W.heap.size W w') := fun W hW h1 h2 => by
    have h := equal_any a a' c c' l (l'.take l.length) W h2 (hs.below hW) ((hs'.below hW).take _)
    rw [show (l'.take l.length).length = l.length by rw [List.length_take]; omega] at h
    exact h
  have HZ := Lib.hid (fun h => logE_len (l := l) h)
  unfold begE begB
  rw [← hN, ← hM] at *
  generalize sameEn l (l'.take N) = Q at *
  generalize logE l = r at *
  generalize logE l' = r' at *
  have HB1 := Lib.hid hb1
  have HK1 := Lib.hid hB
  rw [hW1] at HB1 HK1
  clear hN hM hb1 hB hW1 W1 hs hs'
  by_cases h1 : r = 0
  · subst h1
    have hN := HZ.out rfl
    rw [if_pos rfl]
    by_cases h2 : r' = 0
    · subst h2
      rw [if_pos rfl]
      clear HZ
      by_cases hNM : N ≤ M
      · rw [decide_eq_true hNM, Bool.true_and]
        have hz : (N : Int) ≤ (M : Int) := by omega
        have hz0 : (0 : Int) ≤ (N : Int) := by omega
        have hzc : (N : Int) ≤ (c' : Int) := by omega
        have hzn : N ≤ c' := by omega
        go_enter Tryz.func11, Tryz.ntmps11
        go_wp2_with fail
        go_loopw [13] (fun vi wr => ∃ k : Nat, vi = .int .i64 k ∧ k ≤ 2 ∧ Hid (Blk wr w.heap.size 24 [.slice a N c, .slice a' M c']) ∧ Hid (Below w.heap.size w wr))
          (fun vi _ => 2 - (intOf vi).toNat)
        case atStart => exact ⟨0, rfl, Nat.zero_le _, HK1.out, HB1.out⟩
        case round =>
          obtain ⟨k, rfl, hk, hkk, hb⟩ := hrel
          obtain ⟨⟨p0, p1⟩, -⟩ := hkk.out.two
          by_cases hk0 : k = 0
          · subst hk0
            go_wp2_with fail
            refine (HC.out _ hb.out).mono ?_
            rintro e w2 ⟨rfl, hb2⟩
            have HB2 := Lib.hid (btr hb.out hb2)
            have HK2 := Lib.hid (hkk.out.below hb2)
            clear hb2 hb hkk p0 p1
            go_wp2_with fail
            go_roundw
            case rel => exact ⟨1, by go_num, by omega, HK2, HB2⟩
            case measure => simp [intOf]
          · by_cases hk1 : k = 1
            · subst hk1
              go_wp2_with fail
              refine (HC'.out _ hb.out).mono ?_
              rintro e w2 ⟨rfl, hb2⟩
              have HB2 := Lib.hid (btr hb.out hb2)
              have HK2 := Lib.hid (hkk.out.below hb2)
              clear hb2 hb hkk p0 p1
              go_wp2_with fail
              go_roundw
              case rel => exact ⟨2, by go_num, by omega, HK2, HB2⟩
              case measure => simp [intOf]
            · obtain rfl : k = 2 := by omega
              clear hkk p0 p1
              go_wp2_with fail
              refine (HE.out _ hb.out hNM (Nat.le_trans hN (by decide))).mono ?_
              rintro e w2 ⟨rfl, hb2⟩
              have HB2 := Lib.hid (btr hb.out hb2)
              clear hb2 hb
              go_wp2_with fail
              go_ret2
              exact ⟨rfl, HB2.out⟩
      · rw [decide_eq_false hNM, Bool.false_and]
        have hz : ¬ (N : Int) ≤ (M : Int) := by omega
        go_enter Tryz.func11, Tryz.ntmps11
        go_wp2_with fail
        go_loopw [13] (fun vi wr => ∃ k : Nat, vi = .int .i64 k ∧ k ≤ 2 ∧ Hid (Blk wr w.heap.size 24 [.slice a N c, .slice a' M c']) ∧ Hid (Below w.heap.size w wr))
          (fun vi _ => 2 - (intOf vi).toNat)
        case atStart => exact ⟨0, rfl, Nat.zero_le _, HK1.out, HB1.out⟩
        case round =>
          obtain ⟨k, rfl, hk, hkk, hb⟩ := hrel
          obtain ⟨⟨p0, p1⟩, -⟩ := hkk.out.two
          by_cases hk0 : k = 0
          · subst hk0
            go_wp2_with fail
            refine (HC.out _ hb.out).mono ?_
            rintro e w2 ⟨rfl, hb2⟩
            have HB2 := Lib.hid (btr hb.out hb2)
            have HK2 := Lib.hid (hkk.out.below hb2)
            clear hb2 hb hkk p0 p1
            go_wp2_with fail
            go_roundw
            case rel => exact ⟨1, by go_num, by omega, HK2, HB2⟩
            case measure => simp [intOf]
          · by_cases hk1 : k = 1
            · subst hk1
              go_wp2_with fail
              refine (HC'.out _ hb.out).mono ?_
              rintro e w2 ⟨rfl, hb2⟩
              have HB2 := Lib.hid (btr hb.out hb2)
              have HK2 := Lib.hid (hkk.out.below hb2)
              clear hb2 hb hkk p0 p1
              go_wp2_with fail
              go_roundw
              case rel => exact ⟨2, by go_num, by omega, HK2, HB2⟩
              case measure => simp [intOf]
            · obtain rfl : k = 2 := by omega
              clear hkk p0 p1
              go_wp2_with fail
              go_ret2
              exact ⟨rfl, hb.out⟩
    · rw [if_neg h2]
      have hI : (r' != 0) = true := by rw [bne_iff_ne]; exact h2
      clear HZ
      go_enter Tryz.func11, Tryz.ntmps11
      go_wp2_with fail
      go_loopw [13] (fun vi wr => ∃ k : Nat, vi = .int .i64 k ∧ k ≤ 1 ∧ Hid (Blk wr w.heap.size 24 [.slice a N c, .slice a' M c']) ∧ Hid (Below w.heap.size w wr))
        (fun vi _ => 2 - (intOf vi).toNat)
      case atStart => exact ⟨0, rfl, Nat.zero_le _, HK1.out, HB1.out⟩
      case round =>
        obtain ⟨k, rfl, hk, hkk, hb⟩ := hrel
        obtain ⟨⟨p0, p1⟩, -⟩ := hkk.out.two
        by_cases hk0 : k = 0
        · subst hk0
          go_wp2_with fail
          refine (HC.out _ hb.out).mono ?_
          rintro e w2 ⟨rfl, hb2⟩
          have HB2 := Lib.hid (btr hb.out hb2)
          have HK2 := Lib.hid (hkk.out.below hb2)
          clear hb2 hb hkk p0 p1
          go_wp2_with fail
          go_roundw
          case rel => exact ⟨1, by go_num, by omega, HK2, HB2⟩
          case measure => simp [intOf]
        · obtain rfl : k = 1 := by omega
          go_wp2_with fail
          refine (HC'.out _ hb.out).mono ?_
          rintro e w2 ⟨rfl, hb2⟩
          have HB2 := Lib.hid (btr hb.out hb2)
          have HK2 := Lib.hid (hkk.out.below hb2)
          clear hb2 hb hkk p0 p1
          go_wp2_with fail
          go_ret2
          exact ⟨rfl, HB2.out⟩
  · rw [if_neg h1, if_neg h1]
    have hI : (r != 0) = true := by rw [bne_iff_ne]; exact h1
    clear HZ
    go_enter Tryz.func11, Tryz.ntmps11
    go_wp2_with fail
    go_loopw [13] (fun vi wr => ∃ k : Nat, vi = .int .i64 k ∧ k ≤ 0 ∧ Hid (Blk wr w.heap.size 24 [.slice a N c, .slice a' M c']) ∧ Hid (Below w.heap.size w wr))
      (fun vi _ => 2 - (intOf vi).toNat)
    case atStart => exact ⟨0, rfl, Nat.zero_le _, HK1.out, HB1.out⟩
    case round =>
      obtain ⟨k, rfl, hk, hkk, hb⟩ := hrel
      obtain ⟨⟨p0, p1⟩, -⟩ := hkk.out.two
      obtain rfl : k = 0 := by omega
      go_wp2_with fail
      refine (HC.out _ hb.out).mono ?_
      rintro e w2 ⟨rfl, hb2⟩
      have HB2 := Lib.hid (btr hb.out hb2)
      have HK2 := Lib.hid (hkk.out.below hb2)
      clear hb2 hb hkk p0 p1
      go_wp2_with fail
      go_ret2
      exact ⟨rfl, HB2.out⟩
end Go.Proofs.YtjainfehlbfiaaaGreat
