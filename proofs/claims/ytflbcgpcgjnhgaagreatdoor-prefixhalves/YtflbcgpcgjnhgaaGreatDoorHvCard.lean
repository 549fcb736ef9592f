/- PrefixHalves: whatever prefix it is handed, it answers true, and that reads as it did. Under the row's own conditions alone: the listed variables of Go's library start as its text lays them (the card ties them to that text). -/
import Derived.Test.YtflbcgpcgjnhgaaGreatDoorHvA
import Derived.Test.YtflbcgpcgjnhgaaGreatDoorHvP
import Derived.Test.YtflbcgpcgjnhgaaGreatDoorOpenP
import Derived.Test.YtflbcgpcgjnhgaaGreatDoorTie
import Derived.Test.YtflbcgpcgjnhgaaGreatDoorCards
import Derived.SevenTiedAt
set_option linter.unusedVariables false
set_option linter.unusedSimpArgs false
namespace Go.Proofs.YtflbcgpcgjnhgaaGreatDoor
open Go.ChangeShapes Go.WideShapes Go.ChangeAt Go.WideMaps Go.WideElems Go.RowKit

theorem i64_of {x : Int} (h : (Lit.int .i64 x).wf = true) : -9223372036854775808 ≤ x ∧ x ≤ 9223372036854775807 := by
  simpa [Lit.wf, IntKind.min, IntKind.max, IntKind.signed, IntKind.bits] using h

theorem halv_law (v : Bool) (hi lo b : Int) (w : World) (hg : Good w) (a1 : Wd hi) (a2 : Wd lo) (a3 : -9223372036854775808 ≤ b ∧ b ≤ 9223372036854775807) :
    Calls Tryz.prog 5 #[.agg #[.bool v, .int .u64 hi, .int .u64 lo, .int .i64 b]] w fun e w' => e = .returned (.bool true) ∧ Below w.heap.size w w' := by
  by_cases hp : pchk v hi lo b = 0
  · have r := (right_iff v hi lo b a1.1 a1.2 a2.1 a2.2).1 hp
    have b0 := r.b0
    have b1 := r.b1
    have hw : wid v ≤ 128 := by unfold wid; split <;> omega
    obtain ⟨t1, t2⟩ := pfTxt_back v hi lo b a1.1 a1.2 a2.1 a2.2 r.c b0 (by omega)
    have H2 : Hid (∀ w : World, Good w → Calls Tryz.prog 6 #[.agg #[.bool v, .int .u64 hi, .int .u64 lo, .int .i64 b]] w fun e w' => e = .returned (.tuple #[.string ⟨(pfTxt v hi lo b).toArray⟩, .int .i64 0]) ∧ Below w.heap.size w w') :=
      fun w hg => pprint_ok v hi lo b w hg a1.1 a1.2 a2.1 a2.2 hp
    have H3 : Hid (∀ w : World, Good w → Calls Tryz.prog 7 #[.string ⟨(pfTxt v hi lo b).toArray⟩] w fun e w' => e = .returned (.tuple #[.agg #[.bool v, .int .u64 hi, .int .u64 lo, .int .i64 b], .int .i64 0]) ∧ Below w.heap.size w w') := by
      intro w hg
      have := pparse_any ⟨(pfTxt v hi lo b).toArray⟩ w hg (by rw [Lib.size_eq]; show (pfTxt v hi lo b).length < _; omega)
      rw [show (⟨(pfTxt v hi lo b).toArray⟩ : ByteArray).data.toList = pfTxt v hi lo b from rfl, t1] at this
      have e0 : pchk v (hi.toNat : Int) (lo.toNat : Int) (b.toNat : Int) = 0 := by rw [Int.toNat_of_nonneg a1.1, Int.toNat_of_nonneg a2.1, Int.toNat_of_nonneg b0]; exact hp
      have e1 : ppE (some (v, hi.toNat, lo.toNat, b.toNat)) = 0 := e0
      have e2 : ppV (some (v, hi.toNat, lo.toNat, b.toNat)) = .agg #[.bool v, .int .u64 hi, .int .u64 lo, .int .i64 b] := by
        unfold ppV
        refine (if_pos (c := pchk v (hi.toNat : Int) (lo.toNat : Int) (b.toNat : Int) = 0) e0).trans ?_
        rw [Int.toNat_of_nonneg a1.1, Int.toNat_of_nonneg a2.1, Int.toNat_of_nonneg b0]
      rw [e1, e2] at this
      exact this
    by_cases hb : b = wid v
    · have H1 : Hid (∀ w : World, Calls Tryz.prog 10 #[.agg #[.bool v, .int .u64 hi, .int .u64 lo, .int .i64 b]] w fun e w' => e = .returned (.tuple #[.agg #[.bool false, .int .u64 0, .int .u64 0, .int .i64 0], .agg #[.bool false, .int .u64 0, .int .u64 0, .int .i64 0], .int .i64 5]) ∧ Below w.heap.size w w') :=
        fun w => halves_none v hi lo b w a1.1 a1.2 a2.1 a2.2 hp hb
      cases hv : v with
      | true => subst hv; exact halv_none6 true hi lo b 0 0 0 0 0 0 0 0 _ w hg H1 H2 H3 rfl (by rw [hb]; rfl)
      | false => subst hv; exact halv_none4 false hi lo b 0 0 0 0 0 0 0 0 _ w hg H1 H2 H3 rfl (by rw [hb]; rfl)
    · have hlt : b < wid v := by omega
      obtain ⟨gn, gr⟩ := great_num r hlt
      have lr := right_low r hlt
      obtain ⟨yn, yc, yi, yl⟩ := la_num lr
      obtain ⟨pn, pc, pi', pl⟩ := la_num r
      obtain ⟨tn, tc, ti, tl⟩ := la_num gr
      have ah := amt_half b0 hlt
      obtain ⟨e1, e2⟩ := num_inj (hi := laH v (fsH v (laH v hi b) (b + 1)) (b + 1)) (yi := laH v hi b) tl.1 tl.2 pl.1 pl.2 (by rw [tn, pn, gn, ah]; omega)
      obtain ⟨x1, x2, x3, x4⟩ := next_num (gh := fsH v (laH v hi b) (b + 1)) yc yi yl ⟨gr.l0, gr.l1⟩ (num_top gr.c gr.h0 gr.h1 gr.l0 gr.l1).2 (by rw [gn, yn]; omega)
      have pa := (right_iff v hi lo (b + 1) a1.1 a1.2 a2.1 a2.2).2 lr
      have pb := (right_iff v _ _ (b + 1) gr.h0 gr.h1 gr.l0 gr.l1).2 gr
      have H1 : Hid (∀ w : World, Calls Tryz.prog 10 #[.agg #[.bool v, .int .u64 hi, .int .u64 lo, .int .i64 b]] w fun e w' => e = .returned (.tuple #[.agg #[.bool v, .int .u64 hi, .int .u64 lo, .int .i64 (b + 1)], .agg #[.bool v, .int .u64 (fsH v (laH v hi b) (b + 1)), .int .u64 (fsL v (laL v lo b) (b + 1)), .int .i64 (b + 1)], .int .i64 0]) ∧ Below w.heap.size w w') :=
        fun w => halves_ok v hi lo b w a1.1 a1.2 a2.1 a2.2 hp hlt
      have H4 : Hid (∀ w : World, Calls Tryz.prog 11 #[.agg #[.bool v, .int .u64 hi, .int .u64 lo, .int .i64 (b + 1)], .agg #[.bool v, .int .u64 (fsH v (laH v hi b) (b + 1)), .int .u64 (fsL v (laL v lo b) (b + 1)), .int .i64 (b + 1)]] w fun e w' => e = .returned (.tuple #[.agg #[.bool v, .int .u64 hi, .int .u64 lo, .int .i64 b], .int .i64 0]) ∧ Below w.heap.size w w') := by
        intro w
        have hb' : b + 1 - 1 = b := by omega
        have := whole_ok v hi lo (b + 1) v (fsH v (laH v hi b) (b + 1)) (fsL v (laL v lo b) (b + 1)) (b + 1) w a1.1 a1.2 a2.1 a2.2 gr.h0 gr.h1 gr.l0 gr.l1 (by rw [pa, pb]; rfl) (by rw [hb']; exact hp) (by rw [hb']; simp [eqP, eqA])
        rw [hb'] at this
        exact this
      have H5 : Hid (∀ w : World, Calls Tryz.prog 9 #[.agg #[.bool v, .int .u64 hi, .int .u64 lo, .int .i64 (b + 1)]] w fun e w' => e = .returned (.tuple #[.agg #[.bool v, .int .u64 hi, .int .u64 lo], .agg #[.bool v, .int .u64 (laH v hi (b + 1)), .int .u64 (laL v lo (b + 1))], .int .i64 0]) ∧ Below w.heap.size w w') :=
        fun w => ends_ok v hi lo (b + 1) w a1.1 a1.2 a2.1 a2.2 pa
      have H6 : Hid (∀ w : World, Calls Tryz.prog 9 #[.agg #[.bool v, .int .u64 (fsH v (laH v hi b) (b + 1)), .int .u64 (fsL v (laL v lo b) (b + 1)), .int .i64 (b + 1)]] w fun e w' => e = .returned (.tuple #[.agg #[.bool v, .int .u64 (fsH v (laH v hi b) (b + 1)), .int .u64 (fsL v (laL v lo b) (b + 1))], .agg #[.bool v, .int .u64 (laH v hi b), .int .u64 (laL v lo b)], .int .i64 0]) ∧ Below w.heap.size w w') := by
        intro w
        have := ends_ok v (fsH v (laH v hi b) (b + 1)) (fsL v (laL v lo b) (b + 1)) (b + 1) w gr.h0 gr.h1 gr.l0 gr.l1 pb
        rw [e1, e2] at this
        exact this
      have H7 : Hid (∀ w : World, Calls Tryz.prog 9 #[.agg #[.bool v, .int .u64 hi, .int .u64 lo, .int .i64 b]] w fun e w' => e = .returned (.tuple #[.agg #[.bool v, .int .u64 hi, .int .u64 lo], .agg #[.bool v, .int .u64 (laH v hi b), .int .u64 (laL v lo b)], .int .i64 0]) ∧ Below w.heap.size w w') :=
        fun w => ends_ok v hi lo b w a1.1 a1.2 a2.1 a2.2 hp
      have H8 : Hid (∀ w : World, Calls Tryz.prog 24 #[.agg #[.bool v, .int .u64 (laH v hi (b + 1)), .int .u64 (laL v lo (b + 1))]] w fun e w' => e = .returned (.tuple #[.agg #[.bool v, .int .u64 (fsH v (laH v hi b) (b + 1)), .int .u64 (fsL v (laL v lo b) (b + 1))], .bool true, .int .i64 0]) ∧ Below w.heap.size w w') := by
        intro w
        have := next_any v (laH v hi (b + 1)) (laL v lo (b + 1)) w yi.1 yl.1 yi.2 yl.2
        rw [x1, x2, x3, x4, yc] at this
        exact this
      exact halv_ok v hi lo b (b + 1) _ _ _ _ _ _ 0 _ w hg H1 H2 H3 H4 H5 H6 H7 H8
  · have hk : pchk v hi lo b = 3 ∨ pchk v hi lo b = 4 := by
      rcases pchk_cases v hi lo b with ⟨h, _⟩ | h | h
      · exact absurd h hp
      · exact .inl h
      · exact .inr h
    have hn : (pchk v hi lo b != 0) = true := by rw [bne_iff_ne]; exact hp
    exact halv_bad v hi lo b 0 0 0 0 0 0 0 (pchk v hi lo b) ⟨#[]⟩ w hg (fun w => halves_bad v hi lo b _ w a1.1 a1.2 a2.1 a2.2 rfl hn) (fun w hg => pprint_bad v hi lo b _ w a1.1 a1.2 a2.1 a2.2 rfl hn)
      (by rw [beq_eq_false_iff_ne]; exact hp) hn (by rw [bne_iff_ne]; omega)

set_option maxRecDepth 100000 in
theorem halv_lifted (os : Os) (started : os.Started) (H : Type) (enc : TypeId × Value → H) :
    ReturnsInHanded {} Tryz.checked os 5 .any (fun w args => (Rows.prefixHalvesSpec.pre enc Tryz.prog Tryz.f5 [] false w args ∧ laidMetH Tryz.prog laidAllVars w) ∧ sizedMet enc Tryz.prog Tryz.f5 (OpenSpec.ofChange Rows.prefixHalvesSpec) false w args)
      (Rows.prefixHalvesSpec.post enc Tryz.prog Tryz.f5 false true false false) := by
  refine returns_laid_shaped (C := Tryz.checked) (X := fun w _ => laidMetH Tryz.prog laidAllVars w) (fun _ _ _ hh h => h.of_heap hh) own started (by kernel_rfl) Tryz.func5
    (ChangeSpec.witness_shaped (enc := enc) (C := Tryz.checked) (os := os) (X := fun w _ => laidMetH Tryz.prog laidAllVars w) false (World.laidAll Tryz.prog os laidAllVars) #[.agg #[.bool false, .int .u64 0, .int .u64 0, .int .i64 0]] 8 (World.laidAll_os _ _ _)
      (World.shaped_of_ZipB (by kernel_rfl) (by kernel_rfl)) (by kernel_rfl) (by kernel_rfl) (by kernel_rfl)
      (by rw [MakeChecks.laidMetH_plain _ _ _ (by kernel_rfl)]; exact laidMet_laidAll _ (by kernel_rfl) (by kernel_rfl))) ?_
  intro W base args ds gs before hval0 hW hL hsh
  have hval : ∀ (j : Nat) t v, Tryz.f5.params[j]? = some t → args[j]? = some v → Value.okWide Tryz.prog W .any base t v := hval0
  have hW' := hW
  obtain ⟨p, q, hA0, hV, rfl, _, _⟩ := hW
  have hA : DataW.TrodAll enc Tryz.prog W 0 (fun _ => true) true Tryz.f5.params.toList args.toList ds p := hA0
  rw [Tryz.params5] at hA hval
  obtain ⟨v0, d0, rfl, rfl, h0⟩ := trodAll_one hA
  obtain ⟨rfl, rfl⟩ := trodVars_none hV
  obtain ⟨x0, y0, z0, b0, rfl, rfl, rfl, e0, f0, g0, k0, l0⟩ := open_pf (hval 0 26 v0 rfl rfl) h0
  simp only [List.append_nil] at hW'
  refine (halv_law x0 y0 z0 b0 W (good_of hL hsh) e0 f0 (i64_of l0)).mono fun e W' ⟨he, hb⟩ => ?_
  subst he
  exact ⟨_, rfl, _, _, _, [], [], [], hW', trodAll_mk1 (shut_bool Tryz.underlying4 _), trodAll_mk1 (shut_pf x0 y0 z0 b0 g0 k0 l0), rfl, hb.frame _, fun h => by cases h⟩

theorem halv_holds : Rows.PrefixHalvesSaid :=
  OpenClaim.holds_of_wide 5 Tryz.f5 rfl rfl rfl rfl rfl rfl rfl ⟨rfl, rfl, rfl, rfl, rfl⟩ rfl rfl rfl rfl rfl (by kernel_rfl) Tryz.func5 (by kernel_rfl)
    (of_decide_eq_true (by kernel_rfl)) (by unfold Func.isWrapper; first | (rw [if_pos (by decide +kernel)]; kernel_rfl) | (rw [if_neg (by decide +kernel)]; exact ⟨rfl, rfl⟩))
    (fun os started H enc _ => halv_lifted os started H enc)

theorem halv_card : Rows.PrefixHalvesCardSaid :=
  Claim7.holds_tied_plain_at .later [] [.data, .data, .data, .data, .sentinel, .sentinel, .pinned] true Rows.prefixHalvesCard.stood.harness true
    halv_holds (fun _ h => by cases h) (by kernel_rfl) (fun _ h => by cases h) prefixHalves_row_tie rfl ⟨rfl, rfl⟩ (by kernel_rfl) rfl
    (fun f fn hf hfn => by
      obtain rfl : f = 5 := Option.some.inj ((show Tryz.prog.funcNamed "yardarm/yardarmlaw.PrefixHalves" = some 5 by kernel_rfl).symm.trans hf) |>.symm
      obtain rfl : fn = Tryz.f5 := (Option.some.inj (Tryz.func5.symm.trans hfn)).symm
      exact ⟨by kernel_rfl, fun j t ht => by
        rw [Tryz.params5] at ht
        rcases j with _ | j
        · obtain rfl : 26 = t := by simpa using ht
          exact (show Tryz.prog.wantsStandIn 26 = false by kernel_rfl)
        · simp at ht⟩)
    (by kernel_rfl)
end Go.Proofs.YtflbcgpcgjnhgaaGreatDoor
