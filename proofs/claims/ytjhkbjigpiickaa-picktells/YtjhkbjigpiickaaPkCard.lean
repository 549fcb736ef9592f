/- PickTells: whatever prefix, list of prefixes and number it is handed, it answers true, and they read as they did. No condition. -/
import Derived.Test.YtjhkbjigpiickaaPkT
import Derived.Test.YtjhkbjigpiickaaOpL
set_option linter.unusedVariables false
set_option linter.unusedSimpArgs false
namespace Go.Proofs.Ytjhkbjigpiickaa
open Go.ChangeShapes Go.WideShapes Go.ChangeAt Go.WideMaps Go.WideElems Go.RowKit

theorem ptell_any (p : Pf) (a : Option Addr) (c : Nat) (us : List Pf) (bits : Int) (w : World) (hp : p.Ok) (hok : ∀ u ∈ us, u.Ok) (hs : Sl w a us) :
    Calls Try.prog 3 #[.agg #[.bool p.v, .int .u64 p.hi, .int .u64 p.lo, .int .i64 p.b], .slice a us.length c, .int .i64 bits] w fun e w' => e = .returned (.bool true) ∧ Below w.heap.size w w' := by
  by_cases h1 : p.chk = 0
  · by_cases h2 : slkL us = 0
    · have h0 : pkE p us = 0 := by rw [pkE, if_pos h1]; exact h2
      by_cases h3 : bits < p.b
      · exact pt_low p a c us.length us bits w rfl hp hok hs h0 h3
      · by_cases h4 : wid p.v < bits
        · exact pt_high p a c us.length us bits w rfl hp hok hs h0 h4
        · cases h5 : firstP us bits p.nd.h p with
          | none => exact pt_none p a c us.length us bits w rfl hp hok hs h0 (by omega) (by omega) h5
          | some t => exact pt_some p a c us.length us bits w rfl hp hok hs h0 (by omega) (by omega) t h5
    · exact pt_bad2 p a c us.length us bits w rfl hp hok hs h1 h2
  · exact pt_bad1 p a c us.length us bits w rfl hp hok hs h1

theorem own : ownKnob Try.prog.godebug = none := by kernel_rfl
theorem laidOut : laidOutB Try.prog = true := by kernel_rfl

set_option maxHeartbeats 1600000 in
set_option maxRecDepth 100000 in
theorem pick_lifted (os : Os) (started : os.Started) (H : Type) (enc : TypeId × Value → H) :
    ReturnsInHanded {} Try.checked os 3 .any (Rows.pickTellsSpec.pre6 enc Try.prog Try.f3 Rows.pickTellsRow.domain false) (Rows.pickTellsSpec.post enc Try.prog Try.f3 false true false false) := by
  refine returnsInHanded_of_change (C := Try.checked) own started (by kernel_rfl) Try.func3
    (ChangeSpec.witness6 (enc := enc) (C := Try.checked) false ⟨#[], #[.agg #[.bool false, .int .u64 0, .int .u64 0, .int .i64 0], .slice none 0 0, .int .i64 0], []⟩ 8 (by kernel_rfl) (by kernel_rfl) (by kernel_rfl) (by kernel_rfl)) ?_
  intro W base args ds gs before hval0 hW hcnd _
  have hval : ∀ (j : Nat) t v, Try.f3.params[j]? = some t → args[j]? = some v → Value.okWide Try.prog W .any base t v := hval0
  have hW' := hW
  obtain ⟨p, q, hA0, hV, rfl, hfz, hnd⟩ := hW
  have hA : DataW.TrodAll enc Try.prog W 0 (fun _ => true) true Try.f3.params.toList args.toList ds p := hA0
  rw [Try.params3] at hA hval
  obtain ⟨v0, v1, v2, d0, d1, d2, p0, p1, p2, rfl, rfl, rfl, h0, h1, h2⟩ := trodAll_three hA
  obtain ⟨rfl, rfl⟩ := trodVars_none hV
  have h1k := h1
  obtain ⟨px, py, pz, pb, rfl, rfl, rfl, e2, f2, g2, k2, l2⟩ := open_pf (hval 0 26 v0 rfl rfl) h0
  obtain ⟨a, ps, c, rfl, hcap, hsl, hok⟩ := open_pfs (hval 1 27 v1 rfl rfl) h1
  obtain ⟨n, rfl, rfl, rfl, g3⟩ := open_int Try.underlying3 (hval 2 3 v2 rfl rfl) h2
  clear hA0 hval0
  simp only [List.append_nil, List.nil_append] at hW'
  have hlt : ∀ y ∈ p1, y.block < W.heap.size := fun y hy => by simpa using hW'.lt y (by simp [hy])
  refine (ptell_any ⟨px, py, pz, pb⟩ a c ps n W ⟨e2.1, e2.2, f2.1, f2.2⟩ hok hsl).mono fun e W' ⟨he, hb⟩ => ?_
  subst he
  have harg : DataW.Trod enc Try.prog W' 0 (fun b => decide (b < W.heap.size)) true 27 (.slice a ps.length c) d1 p1 :=
    Below.trod laidOut (by kernel_rfl) (of_decide_eq_true (by kernel_rfl)) h1k hb hlt
  exact ⟨_, rfl, _, _, _, [], _, [], hW', trodAll_mk1 (shut_bool Try.underlying4 _), trodAll_mk3 (shut_pf px py pz pb g2 k2 l2) harg (shut_int Try.underlying3 g3), rfl, hb.frame _, fun h => by cases h⟩

theorem pick_holds : Rows.PickTellsSaid :=
  OpenClaim.holds_of_wide 3 Try.f3 rfl rfl rfl rfl rfl rfl rfl ⟨rfl, rfl, rfl, rfl, rfl⟩ rfl rfl rfl rfl rfl (by kernel_rfl) Try.func3 (by kernel_rfl)
    (of_decide_eq_true (by kernel_rfl)) (by unfold Func.isWrapper; first | (rw [if_pos (by decide +kernel)]; kernel_rfl) | (rw [if_neg (by decide +kernel)]; exact ⟨rfl, rfl⟩))
    (fun os started H enc _ => pick_lifted os started H enc)
#print axioms pick_holds
end Go.Proofs.Ytjhkbjigpiickaa
