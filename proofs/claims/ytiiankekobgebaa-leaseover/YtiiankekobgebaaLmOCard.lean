/- LeaseOver: whatever leases and times it is handed, it answers true, and they read as they did. No condition. -/
import Derived.Test.YtiiankekobgebaaLmJ
import Derived.Test.YtiiankekobgebaaLmP
set_option linter.unusedVariables false
set_option linter.unusedSimpArgs false
namespace Go.Proofs.Ytiiankekobgebaa
open Go.ChangeShapes Go.WideShapes Go.ChangeAt Go.WideMaps Go.WideElems Go.RowKit

theorem lover_any (a : Option Addr) (c : Nat) (l : List Ls) (now later : Int) (w : World) (hs : Lies lsE w a l) :
    Calls Try.prog 4 #[.slice a l.length c, .int .i64 now, .int .i64 later] w fun e w' => e = .returned (.bool true) ∧ Below w.heap.size w w' := by
  by_cases h0 : lookL l now = 0
  · by_cases h1 : later < now
    · exact lo_past a c l now later w hs h0 (.inl h1)
    · by_cases h2 : 9999 < later
      · exact lo_past a c l now later w hs h0 (.inr h2)
      · exact lo_then a c l now later w hs h0 h1 h2
  · exact lo_bad a c l now later w hs h0

set_option maxHeartbeats 1600000 in
set_option maxRecDepth 100000 in
theorem over_lifted (os : Os) (started : os.Started) (H : Type) (enc : TypeId × Value → H) :
    ReturnsInHanded {} Try.checked os 4 .any (Rows.leaseOverSpec.pre6 enc Try.prog Try.f4 Rows.leaseOverRow.domain false) (Rows.leaseOverSpec.post enc Try.prog Try.f4 false true false false) := by
  refine returnsInHanded_of_change (C := Try.checked) own started (by kernel_rfl) Try.func4
    (ChangeSpec.witness6 (enc := enc) (C := Try.checked) false ⟨#[], #[.slice none 0 0, .int .i64 0, .int .i64 0], []⟩ 8 (by kernel_rfl) (by kernel_rfl) (by kernel_rfl) (by kernel_rfl)) ?_
  intro W base args ds gs before hval0 hW hcnd _
  have hval : ∀ (j : Nat) t v, Try.f4.params[j]? = some t → args[j]? = some v → Value.okWide Try.prog W .any base t v := hval0
  have hW' := hW
  obtain ⟨p, q, hA0, hV, rfl, hfz, hnd⟩ := hW
  have hA : DataW.TrodAll enc Try.prog W 0 (fun _ => true) true Try.f4.params.toList args.toList ds p := hA0
  have hAk := hA
  rw [Try.params4] at hA hval
  obtain ⟨v0, v1, v2, d0, d1, d2, p0, p1, p2, rfl, rfl, rfl, h0, h1, h2⟩ := trodAll_three hA
  obtain ⟨rfl, rfl⟩ := trodVars_none hV
  obtain ⟨a, l, c, rfl, hcap, hsl, hws⟩ := open_lss (hval 0 30 v0 rfl rfl) h0
  obtain ⟨n, rfl, rfl, rfl, g3⟩ := open_int Try.underlying3 (hval 1 3 v1 rfl rfl) h1
  obtain ⟨t, rfl, rfl, rfl, g4⟩ := open_int Try.underlying3 (hval 2 3 v2 rfl rfl) h2
  clear hA0 hval0
  simp only [List.append_nil, List.nil_append] at hW'
  have hlt : ∀ y ∈ (p0 ++ [] ++ [] : List MemPlace), y.block < W.heap.size := fun y hy => by
    have hy' : y ∈ p0 := by simpa using hy
    simpa using hW'.lt y (by simp [hy'])
  refine (lover_any a c l n t W hsl).mono fun e W' ⟨he, hb⟩ => ?_
  subst he
  have harg := below_trodAll laidOut hb (by intro t ht; rw [Try.params4] at ht; simp at ht; rcases ht with rfl | rfl <;> exact ⟨by kernel_rfl, of_decide_eq_true (by kernel_rfl)⟩) hAk hlt
  exact ⟨_, rfl, _, _, _, [], _, [], hW', trodAll_mk1 (shut_bool Try.underlying4 _), harg, rfl, hb.frame _, fun h => by cases h⟩

theorem over_holds : Rows.LeaseOverSaid :=
  OpenClaim.holds_of_wide 4 Try.f4 rfl rfl rfl rfl rfl rfl rfl ⟨rfl, rfl, rfl, rfl, rfl⟩ rfl rfl rfl rfl rfl (by kernel_rfl) Try.func4 (by kernel_rfl)
    (of_decide_eq_true (by kernel_rfl)) (by unfold Func.isWrapper; first | (rw [if_pos (by decide +kernel)]; kernel_rfl) | (rw [if_neg (by decide +kernel)]; exact ⟨rfl, rfl⟩))
    (fun os started H enc _ => over_lifted os started H enc)
#print axioms over_holds
end Go.Proofs.Ytiiankekobgebaa
