/- The document's SameLog at two logs that are the same. -/
import Derived.Test.YtclnfkohlklbpaaLgB
set_option linter.unusedVariables false
set_option linter.unusedSimpArgs false
namespace Go.Proofs.Ytclnfkohlklbpaa
open Go.RowKit

set_option maxHeartbeats 4000000 in
theorem neq_same (w : World) (x : En) : (binOp .neq 44 (.agg #[.int .i64 x.num, .int .i64 x.ep, .int .i64 x.o.k, .bool x.o.p.v, .int .u64 x.o.p.hi, .int .u64 x.o.p.lo, .int .i64 x.o.p.b, .bool x.o.a.v, .int .u64 x.o.a.hi, .int .u64 x.o.a.lo, .string x.o.who, .int .i64 x.o.pof, .int .i64 x.o.n]) (.agg #[.int .i64 x.num, .int .i64 x.ep, .int .i64 x.o.k, .bool x.o.p.v, .int .u64 x.o.p.hi, .int .u64 x.o.p.lo, .int .i64 x.o.p.b, .bool x.o.a.v, .int .u64 x.o.a.hi, .int .u64 x.o.a.lo, .string x.o.who, .int .i64 x.o.pof, .int .i64 x.o.n])).run Try.prog w = .ok (.bool false) w := by
  generalize x.num = x0
  generalize x.ep = x1
  generalize x.o.k = x2
  generalize x.o.p.v = x3
  generalize x.o.p.hi = x4
  generalize x.o.p.lo = x5
  generalize x.o.p.b = x6
  generalize x.o.a.v = x7
  generalize x.o.a.hi = x8
  generalize x.o.a.lo = x9
  generalize x.o.who = x10
  generalize x.o.pof = x11
  generalize x.o.n = x12
  simp [go_sem]
theorem keep2E {w W W' : World} {g o g' o' k : Nat} {v0 v1 v2 v3 v4 v5 v6 v7 v8 v9 v10 v11 v12 u0 u1 u2 u3 u4 u5 u6 u7 u8 u9 u10 u11 u12 : Value} (h : ((W.cell? ⟨g, o + k * 13, none⟩ = some (v0) ∧ W.cell? ⟨g, o + k * 13 + 1, none⟩ = some (v1) ∧ W.cell? ⟨g, o + k * 13 + 2, none⟩ = some (v2) ∧ W.cell? ⟨g, o + k * 13 + 3, none⟩ = some (v3) ∧ W.cell? ⟨g, o + k * 13 + 4, none⟩ = some (v4) ∧ W.cell? ⟨g, o + k * 13 + 5, none⟩ = some (v5) ∧ W.cell? ⟨g, o + k * 13 + 6, none⟩ = some (v6) ∧ W.cell? ⟨g, o + k * 13 + 7, none⟩ = some (v7) ∧ W.cell? ⟨g, o + k * 13 + 8, none⟩ = some (v8) ∧ W.cell? ⟨g, o + k * 13 + 9, none⟩ = some (v9) ∧ W.cell? ⟨g, o + k * 13 + 10, none⟩ = some (v10) ∧ W.cell? ⟨g, o + k * 13 + 11, none⟩ = some (v11) ∧ W.cell? ⟨g, o + k * 13 + 12, none⟩ = some (v12)) ∧ (W.cell? ⟨g', o' + k * 13, none⟩ = some (u0) ∧ W.cell? ⟨g', o' + k * 13 + 1, none⟩ = some (u1) ∧ W.cell? ⟨g', o' + k * 13 + 2, none⟩ = some (u2) ∧ W.cell? ⟨g', o' + k * 13 + 3, none⟩ = some (u3) ∧ W.cell? ⟨g', o' + k * 13 + 4, none⟩ = some (u4) ∧ W.cell? ⟨g', o' + k * 13 + 5, none⟩ = some (u5) ∧ W.cell? ⟨g', o' + k * 13 + 6, none⟩ = some (u6) ∧ W.cell? ⟨g', o' + k * 13 + 7, none⟩ = some (u7) ∧ W.cell? ⟨g', o' + k * 13 + 8, none⟩ = some (u8) ∧ W.cell? ⟨g', o' + k * 13 + 9, none⟩ = some (u9) ∧ W.cell? ⟨g', o' + k * 13 + 10, none⟩ = some (u10) ∧ W.cell? ⟨g', o' + k * 13 + 11, none⟩ = some (u11) ∧ W.cell? ⟨g', o' + k * 13 + 12, none⟩ = some (u12))) ∧ Below w.heap.size w W) (e : W' = W.drew) : ((W'.cell? ⟨g, o + k * 13, none⟩ = some (v0) ∧ W'.cell? ⟨g, o + k * 13 + 1, none⟩ = some (v1) ∧ W'.cell? ⟨g, o + k * 13 + 2, none⟩ = some (v2) ∧ W'.cell? ⟨g, o + k * 13 + 3, none⟩ = some (v3) ∧ W'.cell? ⟨g, o + k * 13 + 4, none⟩ = some (v4) ∧ W'.cell? ⟨g, o + k * 13 + 5, none⟩ = some (v5) ∧ W'.cell? ⟨g, o + k * 13 + 6, none⟩ = some (v6) ∧ W'.cell? ⟨g, o + k * 13 + 7, none⟩ = some (v7) ∧ W'.cell? ⟨g, o + k * 13 + 8, none⟩ = some (v8) ∧ W'.cell? ⟨g, o + k * 13 + 9, none⟩ = some (v9) ∧ W'.cell? ⟨g, o + k * 13 + 10, none⟩ = some (v10) ∧ W'.cell? ⟨g, o + k * 13 + 11, none⟩ = some (v11) ∧ W'.cell? ⟨g, o + k * 13 + 12, none⟩ = some (v12)) ∧ (W'.cell? ⟨g', o' + k * 13, none⟩ = some (u0) ∧ W'.cell? ⟨g', o' + k * 13 + 1, none⟩ = some (u1) ∧ W'.cell? ⟨g', o' + k * 13 + 2, none⟩ = some (u2) ∧ W'.cell? ⟨g', o' + k * 13 + 3, none⟩ = some (u3) ∧ W'.cell? ⟨g', o' + k * 13 + 4, none⟩ = some (u4) ∧ W'.cell? ⟨g', o' + k * 13 + 5, none⟩ = some (u5) ∧ W'.cell? ⟨g', o' + k * 13 + 6, none⟩ = some (u6) ∧ W'.cell? ⟨g', o' + k * 13 + 7, none⟩ = some (u7) ∧ W'.cell? ⟨g', o' + k * 13 + 8, none⟩ = some (u8) ∧ W'.cell? ⟨g', o' + k * 13 + 9, none⟩ = some (u9) ∧ W'.cell? ⟨g', o' + k * 13 + 10, none⟩ = some (u10) ∧ W'.cell? ⟨g', o' + k * 13 + 11, none⟩ = some (u11) ∧ W'.cell? ⟨g', o' + k * 13 + 12, none⟩ = some (u12))) ∧ Below w.heap.size w W' := by
  subst e
  exact ⟨h.1, h.2.drew⟩
set_option maxHeartbeats 16000000 in
set_option maxRecDepth 100000 in
theorem rsame_log (a a' : Option Addr) (c c' : Nat) (l : List En) (w : World) (hl : l.length ≤ 1000) (hs : Lies enE w a l) (hs' : Lies enE w a' l) :
    Calls Try.prog 17 #[.slice a l.length c, .slice a' l.length c'] w fun e w' => e = .returned (.bool true) ∧ Below w.heap.size w w' := by
  obtain ⟨N, hN⟩ : ∃ N, N = l.length := ⟨_, rfl⟩
  rw [← hN] at hl ⊢
  have HN : Hid (N = l.length) := hN
  have HL := Lib.hid hs
  have HL' := Lib.hid hs'
  clear hN hs hs'
  go_enter Try.func17, Try.ntmps17
  go_wp2_with fail
  go_loopw [5] (fun vi wr => ∃ k : Nat, vi = .int .i64 k ∧ k ≤ N ∧ Hid (Below w.heap.size w wr))
    (fun vi _ => N - (intOf vi).toNat)
  case atStart => exact ⟨0, rfl, Nat.zero_le _, Below.refl _ _⟩
  case round =>
    obtain ⟨k, rfl, hk, hb⟩ := hrel
    by_cases hkN : k < N
    · have hkl : k < l.length := by have := HN.out; omega
      obtain ⟨g, o, rfl, hg, hc⟩ := HL.out.en k hkl
      obtain ⟨g', o', rfl, hg', hc'⟩ := HL'.out.en k hkl
      have hq : ∀ w : World, (binOp .neq 44 (.agg #[.int .i64 l[k].num, .int .i64 l[k].ep, .int .i64 l[k].o.k, .bool l[k].o.p.v, .int .u64 l[k].o.p.hi, .int .u64 l[k].o.p.lo, .int .i64 l[k].o.p.b, .bool l[k].o.a.v, .int .u64 l[k].o.a.hi, .int .u64 l[k].o.a.lo, .string l[k].o.who, .int .i64 l[k].o.pof, .int .i64 l[k].o.n]) (.agg #[.int .i64 l[k].num, .int .i64 l[k].ep, .int .i64 l[k].o.k, .bool l[k].o.p.v, .int .u64 l[k].o.p.hi, .int .u64 l[k].o.p.lo, .int .i64 l[k].o.p.b, .bool l[k].o.a.v, .int .u64 l[k].o.a.hi, .int .u64 l[k].o.a.lo, .string l[k].o.who, .int .i64 l[k].o.pof, .int .i64 l[k].o.n])).run Try.prog w = .ok (.bool false) w := fun w => neq_same w l[k]
      generalize hxe : l[k] = x at *
      clear hxe
      generalize x.num = x0 at *
      generalize x.ep = x1 at *
      generalize x.o.k = x2 at *
      generalize x.o.p.v = x3 at *
      generalize x.o.p.hi = x4 at *
      generalize x.o.p.lo = x5 at *
      generalize x.o.p.b = x6 at *
      generalize x.o.a.v = x7 at *
      generalize x.o.a.hi = x8 at *
      generalize x.o.a.lo = x9 at *
      generalize x.o.who = x10 at *
      generalize x.o.pof = x11 at *
      generalize x.o.n = x12 at *
      have S0 : Hid (((wr.cell? ⟨g, o + k * 13, none⟩ = some (.int .i64 x0) ∧ wr.cell? ⟨g, o + k * 13 + 1, none⟩ = some (.int .i64 x1) ∧ wr.cell? ⟨g, o + k * 13 + 2, none⟩ = some (.int .i64 x2) ∧ wr.cell? ⟨g, o + k * 13 + 3, none⟩ = some (.bool x3) ∧ wr.cell? ⟨g, o + k * 13 + 4, none⟩ = some (.int .u64 x4) ∧ wr.cell? ⟨g, o + k * 13 + 5, none⟩ = some (.int .u64 x5) ∧ wr.cell? ⟨g, o + k * 13 + 6, none⟩ = some (.int .i64 x6) ∧ wr.cell? ⟨g, o + k * 13 + 7, none⟩ = some (.bool x7) ∧ wr.cell? ⟨g, o + k * 13 + 8, none⟩ = some (.int .u64 x8) ∧ wr.cell? ⟨g, o + k * 13 + 9, none⟩ = some (.int .u64 x9) ∧ wr.cell? ⟨g, o + k * 13 + 10, none⟩ = some (.string x10) ∧ wr.cell? ⟨g, o + k * 13 + 11, none⟩ = some (.int .i64 x11) ∧ wr.cell? ⟨g, o + k * 13 + 12, none⟩ = some (.int .i64 x12)) ∧ (wr.cell? ⟨g', o' + k * 13, none⟩ = some (.int .i64 x0) ∧ wr.cell? ⟨g', o' + k * 13 + 1, none⟩ = some (.int .i64 x1) ∧ wr.cell? ⟨g', o' + k * 13 + 2, none⟩ = some (.int .i64 x2) ∧ wr.cell? ⟨g', o' + k * 13 + 3, none⟩ = some (.bool x3) ∧ wr.cell? ⟨g', o' + k * 13 + 4, none⟩ = some (.int .u64 x4) ∧ wr.cell? ⟨g', o' + k * 13 + 5, none⟩ = some (.int .u64 x5) ∧ wr.cell? ⟨g', o' + k * 13 + 6, none⟩ = some (.int .i64 x6) ∧ wr.cell? ⟨g', o' + k * 13 + 7, none⟩ = some (.bool x7) ∧ wr.cell? ⟨g', o' + k * 13 + 8, none⟩ = some (.int .u64 x8) ∧ wr.cell? ⟨g', o' + k * 13 + 9, none⟩ = some (.int .u64 x9) ∧ wr.cell? ⟨g', o' + k * 13 + 10, none⟩ = some (.string x10) ∧ wr.cell? ⟨g', o' + k * 13 + 11, none⟩ = some (.int .i64 x11) ∧ wr.cell? ⟨g', o' + k * 13 + 12, none⟩ = some (.int .i64 x12))) ∧ Below w.heap.size w wr) := by
        have kk := (bcell hb.out).1
        refine ⟨⟨?_, ?_⟩, hb.out⟩
        · obtain ⟨c0, c1, c2, c3, c4, c5, c6, c7, c8, c9, c10, c11, c12⟩ := hc
          rw [← kk _ _ hg] at c0 c1 c2 c3 c4 c5 c6 c7 c8 c9 c10 c11 c12
          exact ⟨c0, c1, c2, c3, c4, c5, c6, c7, c8, c9, c10, c11, c12⟩
        · obtain ⟨c0, c1, c2, c3, c4, c5, c6, c7, c8, c9, c10, c11, c12⟩ := hc'
          rw [← kk _ _ hg'] at c0 c1 c2 c3 c4 c5 c6 c7 c8 c9 c10 c11 c12
          exact ⟨c0, c1, c2, c3, c4, c5, c6, c7, c8, c9, c10, c11, c12⟩
      have S1 := Lib.hid (keep2E S0.out rfl)
      have hkz : (k : Int) < (N : Int) := by omega
      have hk0 : (0 : Int) ≤ (k : Int) := by omega
      clear hb hc hc'
      go_wp2_with fail
      go_region_held3 (fun w' => ((w'.cell? ⟨g, o + k * 13, none⟩ = some (.int .i64 x0) ∧ w'.cell? ⟨g, o + k * 13 + 1, none⟩ = some (.int .i64 x1) ∧ w'.cell? ⟨g, o + k * 13 + 2, none⟩ = some (.int .i64 x2) ∧ w'.cell? ⟨g, o + k * 13 + 3, none⟩ = some (.bool x3) ∧ w'.cell? ⟨g, o + k * 13 + 4, none⟩ = some (.int .u64 x4) ∧ w'.cell? ⟨g, o + k * 13 + 5, none⟩ = some (.int .u64 x5) ∧ w'.cell? ⟨g, o + k * 13 + 6, none⟩ = some (.int .i64 x6) ∧ w'.cell? ⟨g, o + k * 13 + 7, none⟩ = some (.bool x7) ∧ w'.cell? ⟨g, o + k * 13 + 8, none⟩ = some (.int .u64 x8) ∧ w'.cell? ⟨g, o + k * 13 + 9, none⟩ = some (.int .u64 x9) ∧ w'.cell? ⟨g, o + k * 13 + 10, none⟩ = some (.string x10) ∧ w'.cell? ⟨g, o + k * 13 + 11, none⟩ = some (.int .i64 x11) ∧ w'.cell? ⟨g, o + k * 13 + 12, none⟩ = some (.int .i64 x12)) ∧ (w'.cell? ⟨g', o' + k * 13, none⟩ = some (.int .i64 x0) ∧ w'.cell? ⟨g', o' + k * 13 + 1, none⟩ = some (.int .i64 x1) ∧ w'.cell? ⟨g', o' + k * 13 + 2, none⟩ = some (.int .i64 x2) ∧ w'.cell? ⟨g', o' + k * 13 + 3, none⟩ = some (.bool x3) ∧ w'.cell? ⟨g', o' + k * 13 + 4, none⟩ = some (.int .u64 x4) ∧ w'.cell? ⟨g', o' + k * 13 + 5, none⟩ = some (.int .u64 x5) ∧ w'.cell? ⟨g', o' + k * 13 + 6, none⟩ = some (.int .i64 x6) ∧ w'.cell? ⟨g', o' + k * 13 + 7, none⟩ = some (.bool x7) ∧ w'.cell? ⟨g', o' + k * 13 + 8, none⟩ = some (.int .u64 x8) ∧ w'.cell? ⟨g', o' + k * 13 + 9, none⟩ = some (.int .u64 x9) ∧ w'.cell? ⟨g', o' + k * 13 + 10, none⟩ = some (.string x10) ∧ w'.cell? ⟨g', o' + k * 13 + 11, none⟩ = some (.int .i64 x11) ∧ w'.cell? ⟨g', o' + k * 13 + 12, none⟩ = some (.int .i64 x12))) ∧ Below w.heap.size w w')
        (first | with_reducible exact S1.out | with_reducible exact S0.out)
        (fail)
      have hb2 : Hid (Below w.heap.size w wr.drew) := S1.out.2
      clear S0 S1
      go_wp2_with fail
      go_roundw
      case rel => exact ⟨k + 1, by go_num, by omega, And.right (by assumption)⟩
      case measure => simp [intOf]; omega
    · obtain rfl : k = N := by omega
      have hkk : ¬ (k : Int) < (k : Int) := by omega
      go_wp2_with fail
      go_ret
      exact ⟨rfl, hb.out⟩
end Go.Proofs.Ytclnfkohlklbpaa
