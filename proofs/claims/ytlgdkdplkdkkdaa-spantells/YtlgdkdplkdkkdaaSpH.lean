/- span.Has. -/
import Derived.Test.YtlgdkdplkdkkdaaSpC
set_option linter.unusedVariables false
set_option linter.unusedSimpArgs false
namespace Go.Proofs.Ytlgdkdplkdkkdaa
open Go.RowKit

theorem has1_any (ab : Nat) (v : Bool) (xh xl : Int) (p : Pf) (w : World) (h0 : 0 ≤ xh) (h1 : 0 ≤ xl) (r : p.R)
    (ha : Has3 w ab (.bool v) (.int .u64 xh) (.int .u64 xl)) :
    Calls Try.prog 18 #[.agg #[.bool p.v, .int .u64 p.hi, .int .u64 p.lo, .int .i64 p.b], .pointer (some ⟨ab, 0, none⟩)] w fun e w' => e = .returned (.bool (p.inA v xh xl)) ∧ Below w.heap.size w w' := by
  obtain ⟨u, hi, lo, b⟩ := p
  have hW : Hid (∀ w : World, Calls Try.prog 19 #[.agg #[.bool v, .int .u64 xh, .int .u64 xl], .agg #[.bool u, .int .u64 hi, .int .u64 lo, .int .i64 b]] w fun e w' =>
      e = .returned (.bool (inB v xh xl u hi lo b)) ∧ Below w.heap.size w w') := fun w => within_any v xh xl u hi lo b w h0 h1 r.h0 r.h1 r.l0 r.l1 ((right_iff _ _ _ _ r.h0 r.h1 r.l0 r.l1).2 r)
  have HB := Lib.hid (bal (Below.refl w.heap.size w) (.cells #[.bool u, .int .u64 hi, .int .u64 lo, .int .i64 b] 27))
  unfold Pf.inA
  simp only
  generalize inB v xh xl u hi lo b = r at *
  clear h0 h1
  obtain ⟨a0, a1, a2, a3⟩ := ha
  go_enter Try.func18, Try.ntmps18
  go_wp2_with fail
  refine (hW.out _).mono ?_
  rintro e w2 ⟨rfl, hb⟩
  go_wp2
  go_ret
  exact ⟨rfl, btr HB.out hb⟩
theorem enters_has1 : ∀ args w, (callFunc 18 args).run Try.prog w = .ok (.enter 18 args) w := enters_of Try.func18 (by kernel_rfl) rfl

set_option maxHeartbeats 2000000 in
theorem sindex_empty (a : Option Addr) (c : Nat) (fv : Value) (w : World) :
    Calls Try.prog 33 #[.slice a 0 c, fv] w fun e w' => e = .returned (.int .i64 (-1)) ∧ w' = w := by
  go_enter Try.func33, Try.ntmps33
  go_wp2_with fail
  refine wp_loop_rounds 1 ?_
  rw [rounds_succ]
  go_wp2
  go_ret
  exact ⟨rfl, rfl⟩
set_option maxHeartbeats 2000000 in
theorem scontains_empty (a : Option Addr) (c : Nat) (fv : Value) (w : World) :
    Calls Try.prog 17 #[.slice a 0 c, fv] w fun e w' => e = .returned (.bool false) ∧ w' = w := by
  have HI := Lib.hid (fun w => sindex_empty a c fv w)
  go_enter Try.func17, Try.ntmps17
  go_wp2_with fail
  refine (HI.out _).mono ?_
  rintro e w2 ⟨rfl, rfl⟩
  go_wp2
  go_ret
  exact ⟨rfl, rfl⟩

theorem scontains_any (ab : Nat) (a : Option Addr) (c : Nat) (ps : List Pf) (v : Bool) (xh xl : Int) (w : World) (h0 : 0 ≤ xh) (h1 : 0 ≤ xl) (hR : ∀ p ∈ ps, p.R) (hl : ps.length ≤ 4096) (hs : Sl w a ps)
    (ha : Has3 w ab (.bool v) (.int .u64 xh) (.int .u64 xl)) :
    Calls Try.prog 17 #[.slice a ps.length c, .func (.func 18) #[] #[.pointer (some ⟨ab, 0, none⟩)]] w fun e w' => e = .returned (.bool (hasL ps v xh xl)) ∧ Below w.heap.size w w' := by
  by_cases he : ps.length = 0
  · have : ps = [] := List.length_eq_zero_iff.1 he
    subst this
    refine (scontains_empty a c _ w).mono ?_
    rintro e w' ⟨rfl, rfl⟩
    exact ⟨rfl, Below.refl _ _⟩
  · obtain ⟨d, rfl⟩ := exists_rp ps hR
    obtain ⟨g, off, rfl, hg, _⟩ := hs 0 (by omega)
    have hp : PredBelow Try.prog 18 #[.pointer (some ⟨ab, 0, none⟩)] (fun x => .agg (encP x).toArray) (fun x => (valP x).inA v xh xl) w := fun W x hb =>
      (has1_any ab v xh xl (valP x) W h0 h1 (valR x) (ha.below hb)).mono fun e w' h => ⟨h.1, btr hb h.2⟩
    have hcell : ∀ j, j < d.toList.length → ∀ i u, (encP d.toList[j]!)[i]? = some u → w.cell? ⟨g, off + j * 4 + i, none⟩ = some u := fun j hj i u hu => by
      have hj' : j < (pfsOf d).length := by rw [pfsOf_len]; simpa using hj
      obtain ⟨g', o', e, _, c0, c1, c2, c3⟩ := hs j hj'
      obtain ⟨rfl, rfl⟩ : g = g' ∧ off = o' := by simpa using e
      rw [pfsOf_at d j hj'] at c0 c1 c2 c3
      have ed : d.toList[j]! = d[j]! := by rw [getElem!_pos d j (by simpa using hj), getElem!_pos d.toList j hj]; simp
      rw [ed] at hu
      match i, hu with
      | 0, hu => simp [encP] at hu; subst hu; exact c0
      | 1, hu => simp [encP] at hu; subst hu; exact c1
      | 2, hu => simp [encP] at hu; subst hu; exact c2
      | 3, hu => simp [encP] at hu; subst hu; exact c3
      | (i + 4), hu => simp [encP] at hu
    rw [pfsOf_len] at hl ⊢
    refine (Try.slices_ContainsFunc 4 aggP sizeP encP (fun _ => rfl) (fun x => (valP x).inA v xh xl) 18 _ enters_has1 g off d.size c d.toList w hp (by simp) (by omega) hg hcell).mono ?_
    rintro e w' ⟨rfl, hb⟩
    refine ⟨?_, hb⟩
    have : (d.toList.take d.size).any (fun x => (valP x).inA v xh xl) = hasL (pfsOf d) v xh xl := by
      rw [List.take_of_length_le (by simp)]
      unfold hasL pfsOf
      rw [List.any_map]; rfl
    rw [this]

def sHasE (ps : List Pf) (v : Bool) (xh xl : Int) : Int := if slkL ps = 0 then chk v xh xl else slkL ps
def sHasB (ps : List Pf) (v : Bool) (xh xl : Int) : Bool := if sHasE ps v xh xl = 0 then hasL ps v xh xl else false

set_option maxHeartbeats 4000000 in
set_option maxRecDepth 100000 in
theorem sHas_any (a : Option Addr) (c : Nat) (ps : List Pf) (v : Bool) (xh xl : Int) (w : World) (hok : ∀ p ∈ ps, p.Ok) (hs : Sl w a ps) (h0 : 0 ≤ xh) (h1 : 0 ≤ xl) :
    Calls Try.prog 5 #[.slice a ps.length c, .agg #[.bool v, .int .u64 xh, .int .u64 xl]] w fun e w' => e = .returned (.tuple #[.bool (sHasB ps v xh xl), .int .i64 (sHasE ps v xh xl)]) ∧ Below w.heap.size w w' := by
  have HB := Lib.hid (bal (Below.refl w.heap.size w) (.cells #[.bool v, .int .u64 xh, .int .u64 xl] 25))
  have HP := Lib.hid (Has3.new w (.bool v) (.int .u64 xh) (.int .u64 xl) 25)
  have HK := Lib.hid (fun w' (hb : Below w.heap.size w w') => slook_any a c ps w' hok (hs.below hb))
  by_cases hr : slkL ps = 0
  · obtain ⟨h12, hR⟩ := slkL_ok hok hr
    rw [hr] at HK
    have hA : Hid (∀ w : World, Calls Try.prog 16 #[.agg #[.bool v, .int .u64 xh, .int .u64 xl]] w fun e w' => e = .returned (.int .i64 (chk v xh xl)) ∧ ∃ c, w' = w.alloc (.cells c 25)) := fun w => check_any v xh xl w h0 h1
    have HC := Lib.hid (fun w' (hb : Below w.heap.size w w') (ha : Has3 w' w.heap.size (.bool v) (.int .u64 xh) (.int .u64 xl)) => scontains_any w.heap.size a c ps v xh xl w' h0 h1 hR (by omega) (hs.below hb) ha)
    rcases chk_cases v xh xl with ⟨hc, _⟩ | hc
    · rw [hc] at hA
      have e1 : sHasE ps v xh xl = 0 := by rw [sHasE, if_pos hr, hc]
      have e2 : sHasB ps v xh xl = hasL ps v xh xl := by rw [sHasB, if_pos e1]
      rw [e1, e2]
      generalize ps.length = N at *
      generalize hasL ps v xh xl = r at *
      clear e1 e2 hok hs hr h0 h1 hc h12 hR
      go_enter Try.func5, Try.ntmps5
      go_wp2_with fail
      refine (HK.out _ HB.out).mono ?_
      rintro e w2 ⟨rfl, hb⟩
      replace HP := Lib.hid (HP.out.below hb)
      replace HB := Lib.hid (btr HB.out hb)
      clear hb HK
      obtain ⟨a0, a1, a2, a3⟩ := HP.out
      go_wp2_with fail
      refine (hA.out _).mono ?_
      rintro e w3 ⟨rfl, cc, rfl⟩
      replace HP := Lib.hid (HP.out.alloc (.cells cc 25))
      replace HB := Lib.hid (bal HB.out (.cells cc 25))
      clear a0 a1 a2 a3 hA
      generalize w2.alloc (.cells cc 25) = w4 at *
      go_wp2_with fail
      refine (HC.out _ HB.out HP.out).mono ?_
      rintro e w5 ⟨rfl, hb⟩
      replace HB := Lib.hid (btr HB.out hb)
      clear hb HC
      go_wp2
      go_ret2
      exact ⟨rfl, HB.out⟩
    · rw [hc] at hA
      have e1 : sHasE ps v xh xl = 3 := by rw [sHasE, if_pos hr, hc]
      have e2 : sHasB ps v xh xl = false := by rw [sHasB, e1]; exact if_neg (by decide)
      rw [e1, e2]
      generalize ps.length = N at *
      clear e1 e2 hok hs hr h0 h1 hc h12 hR HC
      go_enter Try.func5, Try.ntmps5
      go_wp2_with fail
      refine (HK.out _ HB.out).mono ?_
      rintro e w2 ⟨rfl, hb⟩
      replace HP := Lib.hid (HP.out.below hb)
      replace HB := Lib.hid (btr HB.out hb)
      clear hb HK
      obtain ⟨a0, a1, a2, a3⟩ := HP.out
      go_wp2_with fail
      refine (hA.out _).mono ?_
      rintro e w3 ⟨rfl, cc, rfl⟩
      replace HB := Lib.hid (bal HB.out (.cells cc 25))
      clear a0 a1 a2 a3 hA
      generalize w2.alloc (.cells cc 25) = w4 at *
      go_wp2
      go_ret2
      exact ⟨rfl, HB.out⟩
  · have e1 : sHasE ps v xh xl = slkL ps := by rw [sHasE, if_neg hr]
    have e2 : sHasB ps v xh xl = false := by rw [sHasB, e1, if_neg hr]
    have hI : (slkL ps != 0) = true := by rw [bne_iff_ne]; exact hr
    rw [e1, e2]
    generalize ps.length = N at *
    generalize slkL ps = r at *
    clear e1 e2 hok hs hr h0 h1 HP
    go_enter Try.func5, Try.ntmps5
    go_wp2_with fail
    refine (HK.out _ HB.out).mono ?_
    rintro e w2 ⟨rfl, hb⟩
    replace HB := Lib.hid (btr HB.out hb)
    clear hb
    go_wp2
    go_ret2
    exact ⟨rfl, HB.out⟩
end Go.Proofs.Ytlgdkdplkdkkdaa
