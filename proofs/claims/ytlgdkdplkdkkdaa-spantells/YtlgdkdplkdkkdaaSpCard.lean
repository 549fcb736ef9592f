/- SpanTells: whatever list of prefixes, address and prefix it is handed, it answers true, and the list reads as it did. No condition. -/
import Derived.Test.YtlgdkdplkdkkdaaSpT
import Derived.Test.YtlgdkdplkdkkdaaOpL
set_option linter.unusedVariables false
set_option linter.unusedSimpArgs false
namespace Go.Proofs.Ytlgdkdplkdkkdaa
open Go.ChangeShapes Go.WideShapes Go.ChangeAt Go.WideMaps Go.WideElems Go.RowKit

theorem stells_any (a : Option Addr) (c : Nat) (ps : List Pf) (v : Bool) (xh xl : Int) (p : Pf) (w : World) (hok : ∀ p ∈ ps, p.Ok) (hp : p.Ok) (hs : Sl w a ps) (x0 : 0 ≤ xh) (x1 : xh < 18446744073709551616) (x2 : 0 ≤ xl) (x3 : xl < 18446744073709551616) :
    Calls Try.prog 3 #[.slice a ps.length c, .agg #[.bool v, .int .u64 xh, .int .u64 xl], .agg #[.bool p.v, .int .u64 p.hi, .int .u64 p.lo, .int .i64 p.b]] w fun e w' => e = .returned (.bool true) ∧ Below w.heap.size w w' := by
  by_cases hr : slkL ps = 0
  · by_cases ha : chk v xh xl = 0
    · by_cases hq : p.chk = 0
      · exact st_00 a c ps.length ps v xh xl p w rfl hok hp hs x0 x1 x2 x3 hr ha hq
      · exact st_01 a c ps.length ps v xh xl p w rfl hok hp hs x0 x1 x2 x3 hr ha hq
    · by_cases hq : p.chk = 0
      · exact st_10 a c ps.length ps v xh xl p w rfl hok hp hs x0 x1 x2 x3 hr ha hq
      · exact st_11 a c ps.length ps v xh xl p w rfl hok hp hs x0 x1 x2 x3 hr ha hq
  · exact st_bad a c ps.length ps v xh xl p w rfl hok hp hs x0 x1 x2 x3 hr

theorem own : ownKnob Try.prog.godebug = none := by kernel_rfl
theorem laidOut : laidOutB Try.prog = true := by kernel_rfl

set_option maxHeartbeats 1600000 in
set_option maxRecDepth 100000 in
theorem span_lifted (os : Os) (started : os.Started) (H : Type) (enc : TypeId × Value → H) :
    ReturnsInHanded {} Try.checked os 3 .any (Rows.spanTellsSpec.pre6 enc Try.prog Try.f3 Rows.spanTellsRow.domain false) (Rows.spanTellsSpec.post enc Try.prog Try.f3 false true false false) := by
  refine returnsInHanded_of_change (C := Try.checked) own started (by kernel_rfl) Try.func3
    (ChangeSpec.witness6 (enc := enc) (C := Try.checked) false ⟨#[], #[.slice none 0 0, .agg #[.bool false, .int .u64 0, .int .u64 0], .agg #[.bool false, .int .u64 0, .int .u64 0, .int .i64 0]], []⟩ 8 (by kernel_rfl) (by kernel_rfl) (by kernel_rfl) (by kernel_rfl)) ?_
  intro W base args ds gs before hval0 hW hcnd _
  have hval : ∀ (j : Nat) t v, Try.f3.params[j]? = some t → args[j]? = some v → Value.okWide Try.prog W .any base t v := hval0
  have hW' := hW
  obtain ⟨p, q, hA0, hV, rfl, hfz, hnd⟩ := hW
  have hA : DataW.TrodAll enc Try.prog W 0 (fun _ => true) true Try.f3.params.toList args.toList ds p := hA0
  rw [Try.params3] at hA hval
  obtain ⟨v0, v1, v2, d0, d1, d2, p0, p1, p2, rfl, rfl, rfl, h0, h1, h2⟩ := trodAll_three hA
  obtain ⟨rfl, rfl⟩ := trodVars_none hV
  have h0k := h0
  obtain ⟨a, ps, c, rfl, hcap, hsl, hok⟩ := open_pfs (hval 0 22 v0 rfl rfl) h0
  obtain ⟨x, y, z, rfl, rfl, rfl, e1, f1, g1, k1⟩ := open_addr (hval 1 25 v1 rfl rfl) h1
  obtain ⟨px, py, pz, pb, rfl, rfl, rfl, e2, f2, g2, k2, l2⟩ := open_pf (hval 2 27 v2 rfl rfl) h2
  clear hA0 hval0
  simp only [List.append_nil] at hW'
  have hlt : ∀ y ∈ p0, y.block < W.heap.size := fun y hy => by simpa using hW'.lt y (by simp [hy])
  refine (stells_any a c ps x y z ⟨px, py, pz, pb⟩ W hok ⟨e2.1, e2.2, f2.1, f2.2⟩ hsl e1.1 e1.2 f1.1 f1.2).mono fun e W' ⟨he, hb⟩ => ?_
  subst he
  have harg : DataW.Trod enc Try.prog W' 0 (fun b => decide (b < W.heap.size)) true 22 (.slice a ps.length c) d0 p0 :=
    Below.trod laidOut (by kernel_rfl) (of_decide_eq_true (by kernel_rfl)) h0k hb hlt
  exact ⟨_, rfl, _, _, _, [], _, [], hW', trodAll_mk1 (shut_bool Try.underlying4 _), trodAll_mk3 harg (shut_addr x y z g1 k1) (shut_pf px py pz pb g2 k2 l2), rfl, hb.frame _, fun h => by cases h⟩

theorem span_holds : Rows.SpanTellsSaid :=
  OpenClaim.holds_of_wide 3 Try.f3 rfl rfl rfl rfl rfl rfl rfl ⟨rfl, rfl, rfl, rfl, rfl⟩ rfl rfl rfl rfl rfl (by kernel_rfl) Try.func3 (by kernel_rfl)
    (of_decide_eq_true (by kernel_rfl)) (by unfold Func.isWrapper; first | (rw [if_pos (by decide +kernel)]; kernel_rfl) | (rw [if_neg (by decide +kernel)]; exact ⟨rfl, rfl⟩))
    (fun os started H enc _ => span_lifted os started H enc)
#print axioms span_holds
end Go.Proofs.Ytlgdkdplkdkkdaa
