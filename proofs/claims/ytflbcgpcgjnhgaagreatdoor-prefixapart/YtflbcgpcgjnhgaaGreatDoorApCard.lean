/- PrefixApart: whatever three prefixes it is handed, it answers true, and they read as they did. Under the row's own conditions alone: the listed variables of Go's library start as its text lays them (the card ties them to that text). -/
import Derived.Test.YtflbcgpcgjnhgaaGreatDoorApA
import Derived.Test.YtflbcgpcgjnhgaaGreatDoorApB
import Derived.Test.YtflbcgpcgjnhgaaGreatDoorApC
import Derived.Test.YtflbcgpcgjnhgaaGreatDoorPfQ
import Derived.Test.YtflbcgpcgjnhgaaGreatDoorOpenP
import Derived.Test.YtflbcgpcgjnhgaaGreatDoorTie
import Derived.Test.YtflbcgpcgjnhgaaGreatDoorCards
import Derived.SevenTiedAt
set_option linter.unusedVariables false
set_option linter.unusedSimpArgs false
namespace Go.Proofs.YtflbcgpcgjnhgaaGreatDoor
open Go.ChangeShapes Go.WideShapes Go.ChangeAt Go.WideMaps Go.WideElems Go.RowKit

theorem i64_of {x : Int} (h : (Lit.int .i64 x).wf = true) : -9223372036854775808 ≤ x ∧ x ≤ 9223372036854775807 := by
  simpa [Lit.wf, IntKind.min, IntKind.max, IntKind.signed, IntKind.bits] using h

theorem two_bad {x y : Int} (h : two x y ≠ 0) : two y x ≠ 0 := by
  unfold two at *
  split at h
  · rename_i e; split
    · rename_i e2; exact absurd e2 h
    · exact h
  · rename_i e; split
    · exact e
    · assumption

theorem apart_law (v : Bool) (hi lo b : Int) (u : Bool) (yi yo c : Int) (t : Bool) (zi zo d : Int) (w : World) (hg : Good w)
    (a1 : Wd hi) (a2 : Wd lo) (a3 : -9223372036854775808 ≤ b ∧ b ≤ 9223372036854775807) (b1 : Wd yi) (b2 : Wd yo) (b3 : -9223372036854775808 ≤ c ∧ c ≤ 9223372036854775807) (c1 : Wd zi) (c2 : Wd zo) (c3 : -9223372036854775808 ≤ d ∧ d ≤ 9223372036854775807) :
    Calls Tryz.prog 4 #[.agg #[.bool v, .int .u64 hi, .int .u64 lo, .int .i64 b], .agg #[.bool u, .int .u64 yi, .int .u64 yo, .int .i64 c], .agg #[.bool t, .int .u64 zi, .int .u64 zo, .int .i64 d]] w fun e w' => e = .returned (.bool true) ∧ Below w.heap.size w w' := by
  have hOk : ∀ (v : Bool) (hi lo b : Int) (u : Bool) (yi yo c : Int) (x : Bool), Wd hi → Wd lo → Wd yi → Wd yo → two (pchk v hi lo b) (pchk u yi yo c) = 0 → hasB v hi lo b u yi yo c = x →
      Hid (∀ w : World, Calls Tryz.prog 8 #[.agg #[.bool v, .int .u64 hi, .int .u64 lo, .int .i64 b], .agg #[.bool u, .int .u64 yi, .int .u64 yo, .int .i64 c]] w fun e w' => e = .returned (.tuple #[.bool x, .int .i64 0]) ∧ Below w.heap.size w w') := by
    intro v hi lo b u yi yo c x p1 p2 p3 p4 h0 hx w
    subst hx
    exact has_ok v hi lo b u yi yo c w p1.1 p1.2 p2.1 p2.2 p3.1 p3.2 p4.1 p4.2 h0
  have hBad : ∀ (v : Bool) (hi lo b : Int) (u : Bool) (yi yo c k : Int), Wd hi → Wd lo → Wd yi → Wd yo → two (pchk v hi lo b) (pchk u yi yo c) = k → k ≠ 0 →
      Hid (∀ w : World, Calls Tryz.prog 8 #[.agg #[.bool v, .int .u64 hi, .int .u64 lo, .int .i64 b], .agg #[.bool u, .int .u64 yi, .int .u64 yo, .int .i64 c]] w fun e w' => e = .returned (.tuple #[.bool false, .int .i64 k]) ∧ Below w.heap.size w w') := by
    intro v hi lo b u yi yo c k p1 p2 p3 p4 h0 hk w
    exact has_bad v hi lo b u yi yo c k w p1.1 p1.2 p2.1 p2.2 p3.1 p3.2 p4.1 p4.2 h0 (by rw [bne_iff_ne]; exact hk)
  by_cases h2 : two (pchk v hi lo b) (pchk u yi yo c) = 0
  · obtain ⟨hp, hq⟩ := two_ok h2
    have h2' : two (pchk u yi yo c) (pchk v hi lo b) = 0 := by rw [hp, hq]; rfl
    have rp := (right_iff v hi lo b a1.1 a1.2 a2.1 a2.2).1 hp
    have rq := (right_iff u yi yo c b1.1 b1.2 b2.1 b2.2).1 hq
    have hE : ∀ (v : Bool) (hi lo b : Int), Wd hi → Wd lo → pchk v hi lo b = 0 → Hid (∀ w : World, Calls Tryz.prog 9 #[.agg #[.bool v, .int .u64 hi, .int .u64 lo, .int .i64 b]] w fun e w' => e = .returned (.tuple #[.agg #[.bool v, .int .u64 hi, .int .u64 lo], .agg #[.bool v, .int .u64 (laH v hi b), .int .u64 (laL v lo b)], .int .i64 0]) ∧ Below w.heap.size w w') :=
      fun v hi lo b p1 p2 h w => ends_ok v hi lo b w p1.1 p1.2 p2.1 p2.2 h
    have hL : ∀ (v u : Bool) (xh xl yh yl : Int) (r : Bool), 0 ≤ xh → 0 ≤ xl → 0 ≤ yh → 0 ≤ yl → lessE v xh xl u yh yl = 0 → lessB v xh xl u yh yl = r →
        Hid (∀ w : World, Calls Tryz.prog 23 #[.agg #[.bool v, .int .u64 xh, .int .u64 xl], .agg #[.bool u, .int .u64 yh, .int .u64 yl]] w fun e w' => e = .returned (.tuple #[.bool r, .int .i64 0]) ∧ Below w.heap.size w w') := by
      intro v u xh xl yh yl r p1 p2 p3 p4 hk hr w
      have := less_any v u xh xl yh yl w p1 p2 p3 p4
      rw [hr, hk] at this
      exact this
    by_cases hr0 : pchk t zi zo d = 0
    · have q2 : two (pchk u yi yo c) (pchk t zi zo d) = 0 := by rw [hq, hr0]; rfl
      have p2 : two (pchk v hi lo b) (pchk t zi zo d) = 0 := by rw [hp, hr0]; rfl
      have rr := (right_iff t zi zo d c1.1 c1.2 c2.1 c2.2).1 hr0
      cases ha : hasB v hi lo b u yi yo c with
      | true =>
        cases hc : hasB u yi yo c t zi zo d with
        | true =>
          exact apart_t_cd v hi lo b u yi yo c t zi zo d 0 0 0 0 0 0 _ false false false w hg (hOk _ _ _ _ _ _ _ _ _ a1 a2 b1 b2 h2 ha) (hOk _ _ _ _ _ _ _ _ _ b1 b2 a1 a2 h2' rfl) (has_same rp rq ha)
            (hOk _ _ _ _ _ _ _ _ _ b1 b2 c1 c2 q2 hc) (hOk _ _ _ _ _ _ _ _ _ a1 a2 c1 c2 p2 (has_trans rp rq rr ha hc))
        | false =>
          exact apart_t_cf v hi lo b u yi yo c t zi zo d 0 0 0 0 0 0 _ false _ false w hg (hOk _ _ _ _ _ _ _ _ _ a1 a2 b1 b2 h2 ha) (hOk _ _ _ _ _ _ _ _ _ b1 b2 a1 a2 h2' rfl) (has_same rp rq ha)
            (hOk _ _ _ _ _ _ _ _ _ b1 b2 c1 c2 q2 hc) (hOk _ _ _ _ _ _ _ _ _ a1 a2 c1 c2 p2 rfl)
      | false =>
        cases hb : hasB u yi yo c v hi lo b with
        | true =>
          exact apart_ft_ok v hi lo b u yi yo c t zi zo d 0 0 0 0 0 0 false _ _ false w hg (hOk _ _ _ _ _ _ _ _ _ a1 a2 b1 b2 h2 ha) (hOk _ _ _ _ _ _ _ _ _ b1 b2 a1 a2 h2' hb)
            (hOk _ _ _ _ _ _ _ _ _ b1 b2 c1 c2 q2 rfl) (hOk _ _ _ _ _ _ _ _ _ a1 a2 c1 c2 p2 rfl)
        | false =>
          obtain ⟨_, k1, i1, l1⟩ := la_num rp
          obtain ⟨_, k2, i2, l2⟩ := la_num rq
          have E1 := (less_num (v := v) (u := u) (xh := laH v hi b) (yh := yi) l1 ⟨rq.l0, rq.l1⟩ k1 rq.c).1
          have E2 := (less_num (v := u) (u := v) (xh := laH u yi c) (yh := hi) l2 ⟨rp.l0, rp.l1⟩ k2 rp.c).1
          cases hl : lessB v (laH v hi b) (laL v lo b) u yi yo with
          | true =>
            exact apart_ffl_ok v hi lo b u yi yo c t zi zo d 0 0 _ _ _ _ false _ _ _ w hg (hOk _ _ _ _ _ _ _ _ _ a1 a2 b1 b2 h2 ha) (hOk _ _ _ _ _ _ _ _ _ b1 b2 a1 a2 h2' hb)
              (hE _ _ _ _ a1 a2 hp) (hE _ _ _ _ b1 b2 hq) (hL _ _ _ _ _ _ _ i1.1 l1.1 rq.h0 rq.l0 E1 hl) (hL _ _ _ _ _ _ _ i2.1 l2.1 rp.h0 rp.l0 E2 rfl)
              (hOk _ _ _ _ _ _ _ _ _ b1 b2 c1 c2 q2 rfl) (hOk _ _ _ _ _ _ _ _ _ a1 a2 c1 c2 p2 rfl)
          | false =>
            have hm : lessB u (laH u yi c) (laL u yo c) v hi lo = true := by
              rcases has_apart rp rq ha hb with h | h
              · rw [hl] at h; cases h
              · exact h
            exact apart_ffm_ok v hi lo b u yi yo c t zi zo d 0 0 _ _ _ _ false _ _ false w hg (hOk _ _ _ _ _ _ _ _ _ a1 a2 b1 b2 h2 ha) (hOk _ _ _ _ _ _ _ _ _ b1 b2 a1 a2 h2' hb)
              (hE _ _ _ _ a1 a2 hp) (hE _ _ _ _ b1 b2 hq) (hL _ _ _ _ _ _ _ i1.1 l1.1 rq.h0 rq.l0 E1 hl) (hL _ _ _ _ _ _ _ i2.1 l2.1 rp.h0 rp.l0 E2 hm)
              (hOk _ _ _ _ _ _ _ _ _ b1 b2 c1 c2 q2 rfl) (hOk _ _ _ _ _ _ _ _ _ a1 a2 c1 c2 p2 rfl)
    · have q2 : two (pchk u yi yo c) (pchk t zi zo d) = pchk t zi zo d := by rw [hq]; rfl
      have p2 : two (pchk v hi lo b) (pchk t zi zo d) = pchk t zi zo d := by rw [hp]; rfl
      have hk : (pchk t zi zo d != 0) = true := by rw [bne_iff_ne]; exact hr0
      have H7 := hBad _ _ _ _ _ _ _ _ _ b1 b2 c1 c2 q2 hr0
      have H8 := hBad _ _ _ _ _ _ _ _ _ a1 a2 c1 c2 p2 hr0
      cases ha : hasB v hi lo b u yi yo c with
      | true =>
        exact apart_t_bad v hi lo b u yi yo c t zi zo d _ _ 0 0 0 0 _ false false false w hg (hOk _ _ _ _ _ _ _ _ _ a1 a2 b1 b2 h2 ha) (hOk _ _ _ _ _ _ _ _ _ b1 b2 a1 a2 h2' rfl) (has_same rp rq ha) H7 H8 hk
      | false =>
        cases hb : hasB u yi yo c v hi lo b with
        | true =>
          exact apart_ft_bad v hi lo b u yi yo c t zi zo d _ _ 0 0 0 0 false false false false w hg (hOk _ _ _ _ _ _ _ _ _ a1 a2 b1 b2 h2 ha) (hOk _ _ _ _ _ _ _ _ _ b1 b2 a1 a2 h2' hb) H7 H8 hk
        | false =>
          obtain ⟨_, k1, i1, l1⟩ := la_num rp
          obtain ⟨_, k2, i2, l2⟩ := la_num rq
          have E1 := (less_num (v := v) (u := u) (xh := laH v hi b) (yh := yi) l1 ⟨rq.l0, rq.l1⟩ k1 rq.c).1
          have E2 := (less_num (v := u) (u := v) (xh := laH u yi c) (yh := hi) l2 ⟨rp.l0, rp.l1⟩ k2 rp.c).1
          cases hl : lessB v (laH v hi b) (laL v lo b) u yi yo with
          | true =>
            exact apart_ffl_bad v hi lo b u yi yo c t zi zo d _ _ _ _ _ _ false false false _ w hg (hOk _ _ _ _ _ _ _ _ _ a1 a2 b1 b2 h2 ha) (hOk _ _ _ _ _ _ _ _ _ b1 b2 a1 a2 h2' hb)
              (hE _ _ _ _ a1 a2 hp) (hE _ _ _ _ b1 b2 hq) (hL _ _ _ _ _ _ _ i1.1 l1.1 rq.h0 rq.l0 E1 hl) (hL _ _ _ _ _ _ _ i2.1 l2.1 rp.h0 rp.l0 E2 rfl) H7 H8 hk
          | false =>
            have hm : lessB u (laH u yi c) (laL u yo c) v hi lo = true := by
              rcases has_apart rp rq ha hb with h | h
              · rw [hl] at h; cases h
              · exact h
            exact apart_ffm_bad v hi lo b u yi yo c t zi zo d _ _ _ _ _ _ false false false false w hg (hOk _ _ _ _ _ _ _ _ _ a1 a2 b1 b2 h2 ha) (hOk _ _ _ _ _ _ _ _ _ b1 b2 a1 a2 h2' hb)
              (hE _ _ _ _ a1 a2 hp) (hE _ _ _ _ b1 b2 hq) (hL _ _ _ _ _ _ _ i1.1 l1.1 rq.h0 rq.l0 E1 hl) (hL _ _ _ _ _ _ _ i2.1 l2.1 rp.h0 rp.l0 E2 hm) H7 H8 hk
  · exact apart_err v hi lo b u yi yo c t zi zo d _ _ 0 0 0 0 false false false false w hg (hBad _ _ _ _ _ _ _ _ _ a1 a2 b1 b2 rfl h2) (hBad _ _ _ _ _ _ _ _ _ b1 b2 a1 a2 rfl (two_bad h2)) (by rw [bne_iff_ne]; exact h2)

set_option maxRecDepth 100000 in
theorem apart_lifted (os : Os) (started : os.Started) (H : Type) (enc : TypeId × Value → H) :
    ReturnsInHanded {} Tryz.checked os 4 .any (fun w args => (Rows.prefixApartSpec.pre enc Tryz.prog Tryz.f4 [] false w args ∧ laidMetH Tryz.prog laidAllVars w) ∧ sizedMet enc Tryz.prog Tryz.f4 (OpenSpec.ofChange Rows.prefixApartSpec) false w args)
      (Rows.prefixApartSpec.post enc Tryz.prog Tryz.f4 false true false false) := by
  refine returns_laid_shaped (C := Tryz.checked) (X := fun w _ => laidMetH Tryz.prog laidAllVars w) (fun _ _ _ hh h => h.of_heap hh) own started (by kernel_rfl) Tryz.func4
    (ChangeSpec.witness_shaped (enc := enc) (C := Tryz.checked) (os := os) (X := fun w _ => laidMetH Tryz.prog laidAllVars w) false (World.laidAll Tryz.prog os laidAllVars) #[.agg #[.bool false, .int .u64 0, .int .u64 0, .int .i64 0], .agg #[.bool false, .int .u64 0, .int .u64 0, .int .i64 0], .agg #[.bool false, .int .u64 0, .int .u64 0, .int .i64 0]] 8 (World.laidAll_os _ _ _)
      (World.shaped_of_ZipB (by kernel_rfl) (by kernel_rfl)) (by kernel_rfl) (by kernel_rfl) (by kernel_rfl)
      (by rw [MakeChecks.laidMetH_plain _ _ _ (by kernel_rfl)]; exact laidMet_laidAll _ (by kernel_rfl) (by kernel_rfl))) ?_
  intro W base args ds gs before hval0 hW hL hsh
  have hval : ∀ (j : Nat) t v, Tryz.f4.params[j]? = some t → args[j]? = some v → Value.okWide Tryz.prog W .any base t v := hval0
  have hW' := hW
  obtain ⟨p, q, hA0, hV, rfl, _, _⟩ := hW
  have hA : DataW.TrodAll enc Tryz.prog W 0 (fun _ => true) true Tryz.f4.params.toList args.toList ds p := hA0
  rw [Tryz.params4] at hA hval
  obtain ⟨v0, v1, v2, d0, d1, d2, p0, p1, p2, rfl, rfl, rfl, h0, h1, h2⟩ := trodAll_three hA
  obtain ⟨rfl, rfl⟩ := trodVars_none hV
  obtain ⟨x0, y0, z0, b0, rfl, rfl, rfl, e0, f0, g0, k0, l0⟩ := open_pf (hval 0 26 v0 rfl rfl) h0
  obtain ⟨x1, y1, z1, b1, rfl, rfl, rfl, e1, f1, g1, k1, l1⟩ := open_pf (hval 1 26 v1 rfl rfl) h1
  obtain ⟨x2, y2, z2, b2, rfl, rfl, rfl, e2, f2, g2, k2, l2⟩ := open_pf (hval 2 26 v2 rfl rfl) h2
  simp only [List.append_nil] at hW'
  refine (apart_law x0 y0 z0 b0 x1 y1 z1 b1 x2 y2 z2 b2 W (good_of hL hsh) e0 f0 (i64_of l0) e1 f1 (i64_of l1) e2 f2 (i64_of l2)).mono fun e W' ⟨he, hb⟩ => ?_
  subst he
  exact ⟨_, rfl, _, _, _, [], [], [], hW', trodAll_mk1 (shut_bool Tryz.underlying4 _), trodAll_mk3 (shut_pf x0 y0 z0 b0 g0 k0 l0) (shut_pf x1 y1 z1 b1 g1 k1 l1) (shut_pf x2 y2 z2 b2 g2 k2 l2), rfl, hb.frame _, fun h => by cases h⟩

theorem apart_holds : Rows.PrefixApartSaid :=
  OpenClaim.holds_of_wide 4 Tryz.f4 rfl rfl rfl rfl rfl rfl rfl ⟨rfl, rfl, rfl, rfl, rfl⟩ rfl rfl rfl rfl rfl (by kernel_rfl) Tryz.func4 (by kernel_rfl)
    (of_decide_eq_true (by kernel_rfl)) (by unfold Func.isWrapper; first | (rw [if_pos (by decide +kernel)]; kernel_rfl) | (rw [if_neg (by decide +kernel)]; exact ⟨rfl, rfl⟩))
    (fun os started H enc _ => apart_lifted os started H enc)

theorem apart_card : Rows.PrefixApartCardSaid :=
  Claim7.holds_tied_plain_at .later [] [.data, .data, .data, .data, .sentinel, .sentinel, .pinned] true Rows.prefixApartCard.stood.harness true
    apart_holds (fun _ h => by cases h) (by kernel_rfl) (fun _ h => by cases h) prefixApart_row_tie rfl ⟨rfl, rfl⟩ (by kernel_rfl) rfl
    (fun f fn hf hfn => by
      obtain rfl : f = 4 := Option.some.inj ((show Tryz.prog.funcNamed "yardarm/yardarmlaw.PrefixApart" = some 4 by kernel_rfl).symm.trans hf) |>.symm
      obtain rfl : fn = Tryz.f4 := (Option.some.inj (Tryz.func4.symm.trans hfn)).symm
      exact ⟨by kernel_rfl, fun j t ht => by
        rw [Tryz.params4] at ht
        rcases j with _ | _ | _ | j
        · obtain rfl : 26 = t := by simpa using ht
          exact (show Tryz.prog.wantsStandIn 26 = false by kernel_rfl)
        · obtain rfl : 26 = t := by simpa using ht
          exact (show Tryz.prog.wantsStandIn 26 = false by kernel_rfl)
        · obtain rfl : 26 = t := by simpa using ht
          exact (show Tryz.prog.wantsStandIn 26 = false by kernel_rfl)
        · simp at ht⟩)
    (by kernel_rfl)
end Go.Proofs.YtflbcgpcgjnhgaaGreatDoor
