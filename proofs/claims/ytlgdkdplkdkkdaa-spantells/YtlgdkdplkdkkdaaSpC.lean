/- span.Norm, span.Has, span.Minus. -/
import Derived.Test.YtlgdkdplkdkkdaaNoB
set_option linter.unusedVariables false
set_option linter.unusedSimpArgs false
namespace Go.Proofs.Ytlgdkdplkdkkdaa
open Go.RowKit

theorem slkL_ok {ps : List Pf} (hok : ∀ p ∈ ps, p.Ok) (h : slkL ps = 0) : ps.length ≤ 12 ∧ ∀ p ∈ ps, p.R := by
  unfold slkL at h
  split at h
  · exact absurd h (by decide)
  · refine ⟨by omega, ?_⟩
    have key : ∀ l : List Pf, schk l = 0 → ∀ p ∈ l, p.chk = 0 := by
      intro l
      induction l with
      | nil => intro _ p hp; simp at hp
      | cons q r ih =>
        intro hs p hp
        rw [schk_cons] at hs
        by_cases hq : q.chk = 0
        · rw [if_pos hq] at hs
          rcases List.mem_cons.1 hp with rfl | hp
          · exact hq
          · exact ih hs p hp
        · rw [if_neg hq] at hs; exact absurd hs hq
    intro p hp
    obtain ⟨a, b, c, d⟩ := hok p hp
    exact (right_iff _ _ _ _ a b c d).1 (key ps h p hp)

theorem sNorm_bad (a : Option Addr) (c : Nat) (ps : List Pf) (w : World) (hok : ∀ p ∈ ps, p.Ok) (hs : Sl w a ps) (h : slkL ps ≠ 0) :
    Calls Try.prog 4 #[.slice a ps.length c] w fun e w' => e = .returned (.tuple #[.slice none 0 0, .int .i64 (slkL ps)]) ∧ Below w.heap.size w w' := by
  have HK := Lib.hid (fun w' (hb : Below w.heap.size w w') => slook_any a c ps w' hok (hs.below hb))
  have hI : (slkL ps != 0) = true := by rw [bne_iff_ne]; exact h
  generalize ps.length = N at *
  generalize slkL ps = r at *
  clear hok hs h
  go_enter Try.func4, Try.ntmps4
  go_wp2_with fail
  refine (HK.out _ (Below.refl _ _)).mono ?_
  rintro e w2 ⟨rfl, hb⟩
  have HB := Lib.hid hb
  clear hb
  go_wp2
  go_ret2
  exact ⟨rfl, HB.out⟩

/-- The call hands back a norm and no error. -/
def NormPost2 (w : World) (n : Nat) (A : Bool → Int → Prop) (e : Ending) (w' : World) : Prop := ∃ v M, e = .returned (.tuple #[v, .int .i64 0]) ∧ w'.ownsRow w.heap.size 27 4 v M.length (flat M) ∧ IsNorm M A ∧ M.length ≤ n ∧ Below w.heap.size w w'

theorem sNorm_ok (a : Option Addr) (c : Nat) (ps : List Pf) (w : World) (hok : ∀ p ∈ ps, p.Ok) (hs : Sl w a ps) (h : slkL ps = 0) :
    Calls Try.prog 4 #[.slice a ps.length c] w (NormPost2 w ps.length (Adr (ps.map Pf.nd))) := by
  obtain ⟨h12, hR⟩ := slkL_ok hok h
  have HK := Lib.hid (fun w' (hb : Below w.heap.size w w') => slook_any a c ps w' hok (hs.below hb))
  have HN := Lib.hid (fun w' (hb : Below w.heap.size w w') => norm_any a c ps w' hR (by omega) (hs.below hb))
  rw [h] at HK
  generalize ps.length = N at *
  clear hok hs h hR
  go_enter Try.func4, Try.ntmps4
  go_wp2_with fail
  refine (HK.out _ (Below.refl _ _)).mono ?_
  rintro e w2 ⟨rfl, hb⟩
  have HB := Lib.hid hb
  clear hb
  go_wp2_with fail
  refine (HN.out _ HB.out).mono ?_
  rintro e w3 ⟨v, M, rfl, h1, h2, h3, h4⟩
  have H1 := Lib.hid h1
  have H2 := Lib.hid h2
  have H3 := Lib.hid h3
  have H4 := Lib.hid h4
  clear h1 h2 h3 h4
  go_wp2
  go_ret2
  exact ⟨v, M, rfl, row_base H1.out HB.out.size, H2.out, H3.out, btr HB.out H4.out⟩

def sMinE (ps : List Pf) (p : Pf) : Int := if slkL ps = 0 then p.chk else slkL ps

set_option maxHeartbeats 4000000 in
set_option maxRecDepth 100000 in
theorem sMinus_bad (a : Option Addr) (c : Nat) (ps : List Pf) (p : Pf) (w : World) (hok : ∀ p ∈ ps, p.Ok) (hp : p.Ok) (hs : Sl w a ps) (h : sMinE ps p ≠ 0) :
    Calls Try.prog 6 #[.slice a ps.length c, .agg #[.bool p.v, .int .u64 p.hi, .int .u64 p.lo, .int .i64 p.b]] w fun e w' => e = .returned (.tuple #[.slice none 0 0, .int .i64 (sMinE ps p)]) ∧ Below w.heap.size w w' := by
  have HK := Lib.hid (fun w' (hb : Below w.heap.size w w') => slook_any a c ps w' hok (hs.below hb))
  have HB := Lib.hid (bal (Below.refl w.heap.size w) (.cells #[.bool p.v, .int .u64 p.hi, .int .u64 p.lo, .int .i64 p.b] 27))
  have HP := Lib.hid (Has4.new w p.v p.hi p.lo p.b 27)
  have HC : Hid (∀ w : World, Calls Try.prog 20 #[.agg #[.bool p.v, .int .u64 p.hi, .int .u64 p.lo, .int .i64 p.b]] w fun e w' => e = .returned (.int .i64 p.chk) ∧ Below w.heap.size w w') := fun w => pcheck_any p.v p.hi p.lo p.b w hp.1 hp.2.1 hp.2.2.1 hp.2.2.2
  have hI : (sMinE ps p != 0) = true := by rw [bne_iff_ne]; exact h
  unfold sMinE at *
  by_cases hr : slkL ps = 0
  · rw [if_pos hr] at hI ⊢
    rw [hr] at HK
    generalize ps.length = N at *
    generalize p.chk = r at *
    clear hok hs h hr hp
    go_enter Try.func6, Try.ntmps6
    go_wp2_with fail
    refine (HK.out _ HB.out).mono ?_
    rintro e w2 ⟨rfl, hb⟩
    replace HP := Lib.hid (HP.out.below hb)
    replace HB := Lib.hid (btr HB.out hb)
    clear hb HK
    obtain ⟨a0, a1, a2, a3, a4⟩ := HP.out
    go_wp2_with fail
    refine (HC.out _).mono ?_
    rintro e w3 ⟨rfl, hb⟩
    replace HB := Lib.hid (btr HB.out hb)
    clear hb a0 a1 a2 a3 a4
    go_wp2
    go_ret2
    exact ⟨rfl, HB.out⟩
  · rw [if_neg hr] at hI ⊢
    generalize ps.length = N at *
    generalize slkL ps = r at *
    clear hok hs h hr hp
    go_enter Try.func6, Try.ntmps6
    go_wp2_with fail
    refine (HK.out _ HB.out).mono ?_
    rintro e w2 ⟨rfl, hb⟩
    replace HB := Lib.hid (btr HB.out hb)
    clear hb HK
    go_wp2
    go_ret2
    exact ⟨rfl, HB.out⟩

theorem cutAll_append (p : Pf) : ∀ l r : List Pf, cutAll p (l ++ r) = cutAll p l ++ cutAll p r
  | [], r => rfl
  | q :: l, r => by rw [List.cons_append, cutAll, cutAll, cutAll_append p l r, List.append_assoc]

set_option maxHeartbeats 4000000 in
set_option maxRecDepth 100000 in
theorem sMinus_ok (a : Option Addr) (c : Nat) (ps : List Pf) (p : Pf) (w : World) (hok : ∀ p ∈ ps, p.Ok) (hp : p.Ok) (hs : Sl w a ps) (h : sMinE ps p = 0) :
    Calls Try.prog 6 #[.slice a ps.length c, .agg #[.bool p.v, .int .u64 p.hi, .int .u64 p.lo, .int .i64 p.b]] w (NormPost2 w 1548 (fun v x => Adr (ps.map Pf.nd) v x ∧ ¬ p.nd.In v x)) := by
  unfold sMinE at h
  by_cases hr : slkL ps = 0
  · rw [if_pos hr] at h
    obtain ⟨h12, hR⟩ := slkL_ok hok hr
    have rp : p.R := (right_iff _ _ _ _ hp.1 hp.2.1 hp.2.2.1 hp.2.2.2).1 h
    obtain ⟨k1, k2, k3⟩ := cutAll_ok rp hR
    have HK := Lib.hid (fun w' (hb : Below w.heap.size w w') => slook_any a c ps w' hok (hs.below hb))
    rw [hr] at HK
    have HB := Lib.hid (bal (Below.refl w.heap.size w) (.cells #[.bool p.v, .int .u64 p.hi, .int .u64 p.lo, .int .i64 p.b] 27))
    have HP := Lib.hid (Has4.new w p.v p.hi p.lo p.b 27)
    have HC : Hid (∀ w : World, Calls Try.prog 20 #[.agg #[.bool p.v, .int .u64 p.hi, .int .u64 p.lo, .int .i64 p.b]] w fun e w' => e = .returned (.int .i64 0) ∧ Below w.heap.size w w') := fun w => by
      have := pcheck_any p.v p.hi p.lo p.b w hp.1 hp.2.1 hp.2.2.1 hp.2.2.2
      rw [show pchk p.v p.hi p.lo p.b = 0 from h] at this
      exact this
    have HN := Lib.hid (fun a' c' w' (h' : Sl w' a' (cutAll p ps)) => norm_any a' c' (cutAll p ps) w' k1 (by omega) h')
    have HA := Lib.hid k2
    have HL : Hid ((cutAll p ps).length ≤ 1548) := Lib.hid (by omega)
    have HR := Lib.hid hR
    have Hp := Lib.hid rp
    have Hs := Lib.hid hs
    obtain ⟨i0, hi0, hz0, hz1, hz2⟩ := info_parts infoP
    obtain ⟨N, hN⟩ : ∃ N, N = ps.length := ⟨_, rfl⟩
    rw [← hN] at h12 HK ⊢
    have HNN := Lib.hid hN
    clear hok hs h hr hp hR rp k1 k2 k3 hN
    go_enter Try.func6, Try.ntmps6
    go_wp2_with fail
    refine (HK.out _ HB.out).mono ?_
    rintro e w2 ⟨rfl, hb⟩
    replace HP := Lib.hid (HP.out.below hb)
    replace HB := Lib.hid (btr HB.out hb)
    clear hb HK
    obtain ⟨a0, a1, a2, a3, a4⟩ := HP.out
    go_wp2_with fail
    refine (HC.out _).mono ?_
    rintro e w3 ⟨rfl, hb⟩
    clear a0 a1 a2 a3 a4
    replace HP := Lib.hid (HP.out.below hb)
    replace HB := Lib.hid (btr HB.out hb)
    clear hb HC
    go_wp2_with fail
    go_loopw [8, 23] (fun vo vi wr => ∃ (k : Nat), vi = .int .i64 k ∧ k ≤ N ∧ Hid (wr.ownsRow w3.heap.size 27 4 vo (cutAll p (ps.take k)).length (flat (cutAll p (ps.take k)))) ∧ Hid (Below w3.heap.size w3 wr))
      (fun _ vi _ => N - (intOf vi).toNat)
    case atStart => exact ⟨0, rfl, Nat.zero_le _, row_nil _ _ _ _, Below.refl _ _⟩
    case round =>
      obtain ⟨k, rfl, hk, HO, HW⟩ := hrel
      have hN := HNN.out
      by_cases hkN : k < N
      · have hkl : k < ps.length := by omega
        obtain ⟨g, o, rfl, hg, c0, c1, c2, c3⟩ := Hs.out k hkl
        have hg3 : g < w3.heap.size := Nat.lt_of_lt_of_le hg HB.out.size
        rw [← (show w3.cell? _ = w.cell? _ from HB.out.cell (p := ⟨g, _, none⟩) hg), ← (show wr.cell? _ = w3.cell? _ from HW.out.cell (p := ⟨g, _, none⟩) hg3)] at c0 c1 c2 c3
        have hgr : g < wr.heap.size := Nat.lt_of_lt_of_le hg3 HW.out.size
        have HPr := Lib.hid (HP.out.below HW.out)
        have q3 : (k : Int) < (N : Int) := by omega
        have q4 : (0 : Int) ≤ (k : Int) := by omega
        have hx : (ps[k]).R := HR.out _ (List.getElem_mem hkl)
        have hst : cutAll p (ps.take (k + 1)) = cutAll p (ps.take k) ++ cutP p (ps[k]).nd.h ps[k] := by
          rw [List.take_succ_eq_append_getElem hkl, cutAll_append, cutAll, cutAll, List.append_nil]
        have l1 := (cutAll_ok Hp.out (l := ps.take k) (fun q hq => HR.out q (List.mem_of_mem_take hq))).2.2
        have l2 := (cutP_nd p Hp.out _ ps[k] hx rfl).2.2
        have l3 := nd_h_le hx
        have l4 : (ps.take k).length ≤ 12 := by rw [List.length_take]; omega
        have HLL : Hid ((cutAll p (ps.take k)).length + (cutP p (ps[k]).nd.h ps[k]).length ≤ 100000) := Lib.hid (by omega)
        have HCu : Hid (∀ w' : World, Calls Try.prog 21 #[.agg #[.bool (ps[k]).v, .int .u64 (ps[k]).hi, .int .u64 (ps[k]).lo, .int .i64 (ps[k]).b], .agg #[.bool p.v, .int .u64 p.hi, .int .u64 p.lo, .int .i64 p.b]] w' (RowPost w' (cutP p (ps[k]).nd.h ps[k]))) := fun w' => scut_any p Hp.out _ ps[k] w' hx rfl
        have HST := Lib.hid hst
        generalize cutP p (ps[k]).nd.h ps[k] = X at *
        generalize ps[k] = x at *
        obtain ⟨v, hi, lo, b⟩ := x
        simp only at c0 c1 c2 c3 HCu
        obtain ⟨a0, a1, a2, a3, a4⟩ := HPr.out
        clear hx hst l1 l2 l3 l4 hN
        go_wp2_with fail
        refine (HCu.out _).mono ?_
        rintro e w5 ⟨v5, rfl, o5, b5⟩
        have HW5 : Hid (Below w3.heap.size w3 w5) := (HW.out.trans (below_le (pal wr v hi lo b) HW.out.size)).trans (below_le b5 (Nat.le_trans HW.out.size (by simp)))
        have HO5 : Hid (w5.ownsRow w3.heap.size 27 4 u8 (cutAll p (ps.take k)).length (flat (cutAll p (ps.take k)))) := own_keep (own_keep HO.out (pal wr v hi lo b)) b5
        have HX5 := Lib.hid o5
        clear o5 b5 c0 c1 c2 c3 a0 a1 a2 a3 a4
        go_wp2_with (at_builtin; refine wpList_append_pfs rfl _ _ 22 rfl w3.heap.size i0 _ Try.underlying22 hi0 hz0 hz1 hz2 rfl _ _ rfl HO5.out v5 _ X rfl HX5.out HLL.out HW5.out.size ?_)
        intro v6 w6 hown6 hgrow6
        have HW6 : Hid (Below w3.heap.size w3 w6) := HW5.out.grown hgrow6 HW5.out.size (fun k hk => (HO5.out.lt k hk).1)
        have HO6 : Hid (w6.ownsRow w3.heap.size 27 4 v6 (cutAll p (ps.take (k + 1))).length (flat (cutAll p (ps.take (k + 1))))) := by rw [HST.out, List.length_append]; exact hown6
        clear hown6 hgrow6
        go_wp2_with fail
        go_roundw
        case rel => exact ⟨k + 1, by go_num, by omega, HO6, HW6⟩
        case measure => simp [intOf]; omega
      · have hkN' : k = N := by omega
        subst hkN'
        have q3 : decide ((k : Int) < (k : Int)) = false := by simp
        have HO2 : Hid (wr.ownsRow w3.heap.size 27 4 u8 (cutAll p ps).length (flat (cutAll p ps))) := by
          have := HO.out
          rw [List.take_of_length_le (by omega)] at this
          exact this
        obtain ⟨a7, c7, rfl, _, s7⟩ := own_sl HO2.out
        have HNr := Lib.hid (HN.out a7 c7 wr s7)
        clear s7 hN HN
        go_wp2_with fail
        refine HNr.out.mono ?_
        rintro e w7 ⟨v7, M, rfl, h1, h2, h3, h4⟩
        have H1 := Lib.hid h1
        have H2 := Lib.hid h2
        have H3 := Lib.hid h3
        have H4 := Lib.hid h4
        clear h1 h2 h3 h4
        go_wp2
        go_ret2
        exact ⟨v7, M, rfl, row_base H1.out (Nat.le_trans HB.out.size HW.out.size), H2.out.of HA.out, Nat.le_trans H3.out HL.out, HB.out.trans ((below_le HW.out HB.out.size).trans (below_le H4.out (Nat.le_trans HB.out.size HW.out.size)))⟩
  · rw [if_neg hr] at h
    exact absurd h hr
end Go.Proofs.Ytlgdkdplkdkkdaa
