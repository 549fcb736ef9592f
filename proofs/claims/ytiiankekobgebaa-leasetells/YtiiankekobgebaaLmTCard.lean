/- LeaseTells: whatever pool, leases, name, time and span it is handed, it answers true, and they read as they did. No condition. -/
import Derived.Test.YtiiankekobgebaaLmH
import Derived.Test.YtiiankekobgebaaLmP
set_option linter.unusedVariables false
set_option linter.unusedSimpArgs false
namespace Go.Proofs.Ytiiankekobgebaa
open Go.ChangeShapes Go.WideShapes Go.ChangeAt Go.WideMaps Go.WideElems Go.RowKit

theorem ltell_any (p : Pf) (hp : p.Ok) (ka : Option Addr) (kc : Nat) (kept : List Ad) (a : Option Addr) (c : Nat) (l : List Ls) (who : ByteArray) (now ttl : Int) (w : World) (hk : Lies adE w ka kept) (hs : Lies lsE w a l) (hws : ∀ x ∈ l, x.who.size ≤ maxLen) (hwho : who.size ≤ maxLen) (hc : l.length ≤ c) :
    Calls Try.prog 3 #[.agg #[.bool p.v, .int .u64 p.hi, .int .u64 p.lo, .int .i64 p.b, .slice ka kept.length kc], .slice a l.length c, .string who, .int .i64 now, .int .i64 ttl] w fun e w' => e = .returned (.bool true) ∧ Below w.heap.size w w' := by
  by_cases hu : lookL l now = 0
  · by_cases hv : checkE p kept l now = 0
    · by_cases hw : whoB who = true
      · by_cases h1 : ttl < 1
        · exact lt_t1 p hp ka kc kept a c l who now ttl w hk hs hws hwho hc hu hv hw h1
        · by_cases h2 : 500 < ttl
          · exact lt_t2 p hp ka kc kept a c l who now ttl w hk hs hws hwho hc hu hv hw h1 h2
          · cases hr : grantR p kept (live l now) who (now + ttl) with
            | some r => exact lt_some p hp ka kc kept a c l who now ttl w hk hs hws hwho hc hu hv hw h1 h2 r.1 r.2 hr
            | none => exact lt_none p hp ka kc kept a c l who now ttl w hk hs hws hwho hc hu hv hw h1 h2 hr
      · exact lt_who p hp ka kc kept a c l who now ttl w hk hs hws hwho hc hu hv (by simpa using hw)
    · exact lt_v p hp ka kc kept a c l who now ttl w hk hs hws hwho hc hu hv
  · exact lt_u p hp ka kc kept a c l who now ttl w hk hs hws hwho hc hu

set_option maxHeartbeats 1600000 in
set_option maxRecDepth 100000 in
theorem lease_lifted (os : Os) (started : os.Started) (H : Type) (enc : TypeId × Value → H) :
    ReturnsInHanded {} Try.checked os 3 .any (Rows.leaseTellsSpec.pre6 enc Try.prog Try.f3 Rows.leaseTellsRow.domain false) (Rows.leaseTellsSpec.post enc Try.prog Try.f3 false true false false) := by
  refine returnsInHanded_of_change (C := Try.checked) own started (by kernel_rfl) Try.func3
    (ChangeSpec.witness6 (enc := enc) (C := Try.checked) false ⟨#[], #[.agg #[.bool false, .int .u64 0, .int .u64 0, .int .i64 0, .slice none 0 0], .slice none 0 0, .string ⟨#[]⟩, .int .i64 0, .int .i64 0], []⟩ 8 (by kernel_rfl) (by kernel_rfl) (by kernel_rfl) (by kernel_rfl)) ?_
  intro W base args ds gs before hval0 hW hcnd _
  have hval : ∀ (j : Nat) t v, Try.f3.params[j]? = some t → args[j]? = some v → Value.okWide Try.prog W .any base t v := hval0
  have hW' := hW
  obtain ⟨p, q, hA0, hV, rfl, hfz, hnd⟩ := hW
  have hA : DataW.TrodAll enc Try.prog W 0 (fun _ => true) true Try.f3.params.toList args.toList ds p := hA0
  have hAk := hA
  rw [Try.params3] at hA hval
  obtain ⟨v0, v1, v2, v3, v4, d0, d1, d2, d3, d4, p0, p1, p2, p3, p4, rfl, rfl, h0, h1, h2, h3, h4⟩ := five hA
  obtain ⟨rfl, rfl⟩ := trodVars_none hV
  obtain ⟨pf, ka, kept, kc, rfl, hpo, hkc, hkl⟩ := open_pool (hval 0 29 v0 rfl rfl) h0
  obtain ⟨a, l, c, rfl, hcap, hsl, hws⟩ := open_lss (hval 1 30 v1 rfl rfl) h1
  obtain ⟨s, rfl, hss⟩ := open_str (hval 2 9 v2 rfl rfl) h2
  obtain ⟨n, rfl, rfl, rfl, g3⟩ := open_int Try.underlying3 (hval 3 3 v3 rfl rfl) h3
  obtain ⟨t, rfl, rfl, rfl, g4⟩ := open_int Try.underlying3 (hval 4 3 v4 rfl rfl) h4
  clear hA0 hval0
  simp only [List.append_nil, List.nil_append] at hW'
  have hlt : ∀ y ∈ p, y.block < W.heap.size := fun y hy => by simpa using hW'.lt y (by simp [hy])
  refine (ltell_any pf hpo ka kc kept a c l s n t W hkl hsl hws hss hcap).mono fun e W' ⟨he, hb⟩ => ?_
  subst he
  have harg := below_trodAll laidOut hb (by intro t ht; rw [Try.params3] at ht; simp at ht; rcases ht with rfl | rfl | rfl | rfl <;> exact ⟨by kernel_rfl, of_decide_eq_true (by kernel_rfl)⟩) hAk hlt
  exact ⟨_, rfl, _, _, _, [], _, [], hW', trodAll_mk1 (shut_bool Try.underlying4 _), harg, rfl, hb.frame _, fun h => by cases h⟩

theorem lease_holds : Rows.LeaseTellsSaid :=
  OpenClaim.holds_of_wide 3 Try.f3 rfl rfl rfl rfl rfl rfl rfl ⟨rfl, rfl, rfl, rfl, rfl⟩ rfl rfl rfl rfl rfl (by kernel_rfl) Try.func3 (by kernel_rfl)
    (of_decide_eq_true (by kernel_rfl)) (by unfold Func.isWrapper; first | (rw [if_pos (by decide +kernel)]; kernel_rfl) | (rw [if_neg (by decide +kernel)]; exact ⟨rfl, rfl⟩))
    (fun os started H enc _ => lease_lifted os started H enc)
#print axioms lease_holds
end Go.Proofs.Ytiiankekobgebaa
