/- PrefixEnds: whatever prefix and whatever address it is handed, it answers true, and they read as they did. Under the row's own conditions alone: the listed variables of Go's library start as its text lays them (the card ties them to that text). -/
import Derived.Test.YtflbcgpcgjnhgabGreatDoorEnA
import Derived.Test.YtflbcgpcgjnhgabGreatDoorPfQ
import Derived.Test.YtflbcgpcgjnhgabGreatDoorOpenP
import Derived.Test.YtflbcgpcgjnhgabGreatDoorTie
import Derived.Test.YtflbcgpcgjnhgabGreatDoorCards
import Derived.SevenTiedAt
set_option linter.unusedVariables false
set_option linter.unusedSimpArgs false
namespace Go.Proofs.YtflbcgpcgjnhgabGreatDoor
open Go.ChangeShapes Go.WideShapes Go.ChangeAt Go.WideMaps Go.WideElems Go.RowKit

theorem i64_of {x : Int} (h : (Lit.int .i64 x).wf = true) : -9223372036854775808 ≤ x ∧ x ≤ 9223372036854775807 := by
  simpa [Lit.wf, IntKind.min, IntKind.max, IntKind.signed, IntKind.bits] using h

theorem amt_one (v : Bool) : amt v (wid v) = 1 := by unfold amt; simp
theorem host_right {u : Bool} {ai ao : Int} (c : chk u ai ao = 0) (h : Wd ai) (l : Wd ao) : Right u ai ao (wid u) :=
  ⟨c, by unfold wid; split <;> omega, Int.le_refl _, h.1, h.2, l.1, l.2, by rw [amt_one]; exact Int.emod_one _⟩

theorem pends_law (v : Bool) (hi lo b : Int) (u : Bool) (ai ao : Int) (w : World) (hg : Good w) (a1 : Wd hi) (a2 : Wd lo) (a3 : -9223372036854775808 ≤ b ∧ b ≤ 9223372036854775807) (c1 : Wd ai) (c2 : Wd ao) :
    Calls Tryz.prog 3 #[.agg #[.bool v, .int .u64 hi, .int .u64 lo, .int .i64 b], .agg #[.bool u, .int .u64 ai, .int .u64 ao]] w fun e w' => e = .returned (.bool true) ∧ Below w.heap.size w w' := by
  by_cases hp : pchk v hi lo b = 0
  · have r := (right_iff v hi lo b a1.1 a1.2 a2.1 a2.2).1 hp
    have H1 : Hid (∀ w : World, Calls Tryz.prog 6 #[.agg #[.bool v, .int .u64 hi, .int .u64 lo, .int .i64 b]] w fun e w' => e = .returned (.tuple #[.agg #[.bool v, .int .u64 hi, .int .u64 lo], .agg #[.bool v, .int .u64 (laH v hi b), .int .u64 (laL v lo b)], .int .i64 0]) ∧ Below w.heap.size w w') :=
      fun w => ends_ok v hi lo b w a1.1 a1.2 a2.1 a2.2 hp
    have H2 : ∀ k, chk u ai ao = k → Hid (∀ w : World, Calls Tryz.prog 7 #[.agg #[.bool u, .int .u64 ai, .int .u64 ao]] w fun e w' => e = .returned (.int .i64 k) ∧ Below w.heap.size w w') := by
      intro k hk w
      refine (check_any u ai ao w c1.1 c2.1).mono ?_
      rintro e w' ⟨rfl, c, rfl⟩
      exact ⟨by rw [hk], bal (Below.refl _ _) _⟩
    rcases chk_cases u ai ao with ⟨ca, _⟩ | ca
    · have hr := host_right ca c1 c2
      have ph := (right_iff u ai ao (wid u) c1.1 c1.2 c2.1 c2.2).2 hr
      have H3 : Hid (∀ w : World, Calls Tryz.prog 9 #[.agg #[.bool u, .int .u64 ai, .int .u64 ao]] w fun e w' => e = .returned (.agg #[.bool u, .int .u64 ai, .int .u64 ao, .int .i64 (wid u)]) ∧ Below w.heap.size w w') := fun w => host_any u ai ao w
      have H4 : ∀ x, hasB v hi lo b u ai ao (wid u) = x → Hid (∀ w : World, Calls Tryz.prog 8 #[.agg #[.bool v, .int .u64 hi, .int .u64 lo, .int .i64 b], .agg #[.bool u, .int .u64 ai, .int .u64 ao, .int .i64 (wid u)]] w fun e w' => e = .returned (.tuple #[.bool x, .int .i64 0]) ∧ Below w.heap.size w w') := by
        intro x hx w
        subst hx
        exact has_ok v hi lo b u ai ao (wid u) w a1.1 a1.2 a2.1 a2.2 c1.1 c1.2 c2.1 c2.2 (by rw [hp, ph]; rfl)
      obtain ⟨n1, k1, i1, l1⟩ := la_num r
      have L1 := less_num (v := u) (u := v) (xh := ai) (yh := hi) ⟨c2.1, c2.2⟩ ⟨a2.1, a2.2⟩ ca r.c
      have L2 := less_num (v := v) (u := u) (xh := laH v hi b) (yh := ai) l1 ⟨c2.1, c2.2⟩ k1 ca
      have hL : ∀ (v u : Bool) (xh xl yh yl : Int) (r : Bool), 0 ≤ xh → 0 ≤ xl → 0 ≤ yh → 0 ≤ yl → lessE v xh xl u yh yl = 0 → lessB v xh xl u yh yl = r →
          Hid (∀ w : World, Calls Tryz.prog 10 #[.agg #[.bool v, .int .u64 xh, .int .u64 xl], .agg #[.bool u, .int .u64 yh, .int .u64 yl]] w fun e w' => e = .returned (.tuple #[.bool r, .int .i64 0]) ∧ Below w.heap.size w w') := by
        intro v u xh xl yh yl r p1 p2 p3 p4 hk hr w
        have := less_any v u xh xl yh yl w p1 p2 p3 p4
        rw [hr, hk] at this
        exact this
      have hh := has_num r hr
      have hbw : v = u → b ≤ wid u := by rintro rfl; exact r.b1
      cases e1 : lessB u ai ao v hi lo with
      | true =>
        have h0 : hasB v hi lo b u ai ao (wid u) = false := by
          rw [Bool.eq_false_iff]
          intro h
          rw [hh] at h
          rw [L1.2] at e1
          rcases e1 with ⟨_, e1⟩ | ⟨e1, e2⟩
          · omega
          · rw [e1, e2] at h; exact absurd h.2.1 (by decide)
        exact ends_l v hi lo b u ai ao _ _ 0 _ w hg H1 (H2 0 ca) H3 (H4 _ h0) (hL _ _ _ _ _ _ _ c1.1 c2.1 a1.1 a2.1 L1.1 e1) (hL _ _ _ _ _ _ _ i1.1 l1.1 c1.1 c2.1 L2.1 rfl)
      | false =>
        cases e2 : lessB v (laH v hi b) (laL v lo b) u ai ao with
        | true =>
          have h0 : hasB v hi lo b u ai ao (wid u) = false := by
            rw [Bool.eq_false_iff]
            intro h
            rw [hh] at h
            rw [L2.2, n1] at e2
            rcases e2 with ⟨_, e2⟩ | ⟨e2, e3⟩
            · omega
            · rw [e2, e3] at h; exact absurd h.2.1 (by decide)
          exact ends_m v hi lo b u ai ao _ _ 0 false w hg H1 (H2 0 ca) H3 (H4 _ h0) (hL _ _ _ _ _ _ _ c1.1 c2.1 a1.1 a2.1 L1.1 e1) (hL _ _ _ _ _ _ _ i1.1 l1.1 c1.1 c2.1 L2.1 e2)
        | false =>
          have f1 : ¬ (lessB u ai ao v hi lo = true) := by rw [e1]; simp
          have f2 : ¬ (lessB v (laH v hi b) (laL v lo b) u ai ao = true) := by rw [e2]; simp
          rw [L1.2] at f1
          rw [L2.2, n1] at f2
          have hvu : u = v := by
            cases u <;> cases v
            · rfl
            · exact absurd (.inr ⟨rfl, rfl⟩) f1
            · exact absurd (.inr ⟨rfl, rfl⟩) f2
            · rfl
          have h0 : hasB v hi lo b u ai ao (wid u) = true := by
            rw [hh]
            refine ⟨hbw hvu.symm, hvu, ?_, ?_⟩
            · by_cases h : num ai ao < num hi lo
              · exact absurd (.inl ⟨hvu, h⟩) f1
              · omega
            · by_cases h : num hi lo + amt v b - 1 < num ai ao
              · exact absurd (.inl ⟨hvu.symm, h⟩) f2
              · omega
          exact ends_in v hi lo b u ai ao _ _ 0 false w hg H1 (H2 0 ca) H3 (H4 _ h0) (hL _ _ _ _ _ _ _ c1.1 c2.1 a1.1 a2.1 L1.1 e1) (hL _ _ _ _ _ _ _ i1.1 l1.1 c1.1 c2.1 L2.1 e2)
    · exact ends_bada v hi lo b u ai ao _ _ 0 false w hg H1 (H2 3 ca)
  · have hn : (pchk v hi lo b != 0) = true := by rw [bne_iff_ne]; exact hp
    exact ends_bad' v hi lo b u ai ao 0 0 (pchk v hi lo b) false w hg (fun w => ends_bad v hi lo b _ w a1.1 a1.2 a2.1 a2.2 rfl hn) hn (by rw [beq_eq_false_iff_ne]; exact hp)

set_option maxRecDepth 100000 in
theorem pends_lifted (os : Os) (started : os.Started) (H : Type) (enc : TypeId × Value → H) :
    ReturnsInHanded {} Tryz.checked os 3 .any (fun w args => (Rows.prefixEndsSpec.pre enc Tryz.prog Tryz.f3 [] false w args ∧ laidMetH Tryz.prog laidAllVars w) ∧ sizedMet enc Tryz.prog Tryz.f3 (OpenSpec.ofChange Rows.prefixEndsSpec) false w args)
      (Rows.prefixEndsSpec.post enc Tryz.prog Tryz.f3 false true false false) := by
  refine returns_laid_shaped (C := Tryz.checked) (X := fun w _ => laidMetH Tryz.prog laidAllVars w) (fun _ _ _ hh h => h.of_heap hh) own started (by kernel_rfl) Tryz.func3
    (ChangeSpec.witness_shaped (enc := enc) (C := Tryz.checked) (os := os) (X := fun w _ => laidMetH Tryz.prog laidAllVars w) false (World.laidAll Tryz.prog os laidAllVars) #[.agg #[.bool false, .int .u64 0, .int .u64 0, .int .i64 0], .agg #[.bool false, .int .u64 0, .int .u64 0]] 8 (World.laidAll_os _ _ _)
      (World.shaped_of_ZipB (by kernel_rfl) (by kernel_rfl)) (by kernel_rfl) (by kernel_rfl) (by kernel_rfl)
      (by rw [MakeChecks.laidMetH_plain _ _ _ (by kernel_rfl)]; exact laidMet_laidAll _ (by kernel_rfl) (by kernel_rfl))) ?_
  intro W base args ds gs before hval0 hW hL hsh
  have hval : ∀ (j : Nat) t v, Tryz.f3.params[j]? = some t → args[j]? = some v → Value.okWide Tryz.prog W .any base t v := hval0
  have hW' := hW
  obtain ⟨p, q, hA0, hV, rfl, _, _⟩ := hW
  have hA : DataW.TrodAll enc Tryz.prog W 0 (fun _ => true) true Tryz.f3.params.toList args.toList ds p := hA0
  rw [Tryz.params3] at hA hval
  obtain ⟨v0, v1, d0, d1, p0, p1, rfl, rfl, rfl, h0, h1⟩ := trodAll_two hA
  obtain ⟨rfl, rfl⟩ := trodVars_none hV
  obtain ⟨x0, y0, z0, b0, rfl, rfl, rfl, e0, f0, g0, k0, l0⟩ := open_pf (hval 0 26 v0 rfl rfl) h0
  obtain ⟨x1, y1, z1, rfl, rfl, rfl, e1, f1, g1, k1⟩ := open_addr (hval 1 24 v1 rfl rfl) h1
  simp only [List.append_nil] at hW'
  refine (pends_law x0 y0 z0 b0 x1 y1 z1 W (good_of hL hsh) e0 f0 (i64_of l0) e1 f1).mono fun e W' ⟨he, hb⟩ => ?_
  subst he
  exact ⟨_, rfl, _, _, _, [], [], [], hW', trodAll_mk1 (shut_bool Tryz.underlying4 _), trodAll_mk2 (shut_pf x0 y0 z0 b0 g0 k0 l0) (shut_addr x1 y1 z1 g1 k1), rfl, hb.frame _, fun h => by cases h⟩

theorem pends_holds : Rows.PrefixEndsSaid :=
  OpenClaim.holds_of_wide 3 Tryz.f3 rfl rfl rfl rfl rfl rfl rfl ⟨rfl, rfl, rfl, rfl, rfl⟩ rfl rfl rfl rfl rfl (by kernel_rfl) Tryz.func3 (by kernel_rfl)
    (of_decide_eq_true (by kernel_rfl)) (by unfold Func.isWrapper; first | (rw [if_pos (by decide +kernel)]; kernel_rfl) | (rw [if_neg (by decide +kernel)]; exact ⟨rfl, rfl⟩))
    (fun os started H enc _ => pends_lifted os started H enc)

theorem pends_card : Rows.PrefixEndsCardSaid :=
  Claim7.holds_tied_plain_at .later [] [.data, .data, .data, .data, .sentinel, .sentinel, .pinned] true Rows.prefixEndsCard.stood.harness true
    pends_holds (fun _ h => by cases h) (by kernel_rfl) (fun _ h => by cases h) prefixEnds_row_tie rfl ⟨rfl, rfl⟩ (by kernel_rfl) rfl
    (fun f fn hf hfn => by
      obtain rfl : f = 3 := Option.some.inj ((show Tryz.prog.funcNamed "yardarm/yardarmlaw.PrefixEnds" = some 3 by kernel_rfl).symm.trans hf) |>.symm
      obtain rfl : fn = Tryz.f3 := (Option.some.inj (Tryz.func3.symm.trans hfn)).symm
      exact ⟨by kernel_rfl, fun j t ht => by
        rw [Tryz.params3] at ht
        rcases j with _ | _ | j
        · obtain rfl : 26 = t := by simpa using ht
          exact (show Tryz.prog.wantsStandIn 26 = false by kernel_rfl)
        · obtain rfl : 24 = t := by simpa using ht
          exact (show Tryz.prog.wantsStandIn 24 = false by kernel_rfl)
        · simp at ht⟩)
    (by kernel_rfl)
end Go.Proofs.YtflbcgpcgjnhgabGreatDoor
