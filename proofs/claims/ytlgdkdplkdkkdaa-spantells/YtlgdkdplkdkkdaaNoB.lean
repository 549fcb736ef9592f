/- span.norm: the list is copied, sorted, and laid together. -/
import Derived.Test.YtlgdkdplkdkkdaaNoA
set_option linter.unusedVariables false
set_option linter.unusedSimpArgs false
namespace Go.Proofs.Ytlgdkdplkdkkdaa
open Go.RowKit

set_option maxHeartbeats 2000000 in
set_option maxRecDepth 100000 in
theorem clone_empty (a : Option Addr) (c : Nat) (w : World) :
    Calls Try.prog 29 #[.slice a 0 c] w fun e w' => ∃ a' c', e = .returned (.slice a' 0 c') ∧ Below w.heap.size w w' := by
  cases a with
  | none =>
    refine (Try.slices_Clone_nil 0 c w).mono ?_
    rintro e w' ⟨rfl, rfl⟩
    exact ⟨none, 0, rfl, Below.refl _ _⟩
  | some ad =>
    obtain ⟨i0, hi0, hz0, hz1, hz2⟩ := info_parts infoP
    have q22 : ∀ (w : World) (a : Option Addr) (n c n' c' : Nat), (binOp .eql 22 (.slice a n c) (.slice none n' c')).run Try.prog w = .ok (.bool a.isNone) w := fun w a n c n' c' => Lib.run_eql_slice_nil w _ _ a n c n' c' Try.underlying22
    go_enter Try.func29, Try.ntmps29
    go_wp2_with (at_builtin; refine wpList_append_own _ rfl _ _ 22 rfl w.heap.size 27 i0 _ 4 32 Try.underlying22 hi0 hz0 hz1 hz2 rfl (by decide) _ _ _ rfl (row_empty w) ad 0 c [] rfl rfl (by simp) (by simp) (by unfold maxLen; omega) (by omega) (by simp) ?_)
    intro v' w4 hown hgrow _
    have HB : Hid (Below w.heap.size w w4) := (bal (Below.refl _ _) _).grown hgrow (by simp) (fun k hk => ((row_empty w).lt k hk).1)
    have HV : Hid (∃ a' c', v' = .slice a' 0 c') := by
      rcases hown.2 with ⟨h, _⟩ | ⟨g, cap, cur, h, _⟩
      · exact ⟨_, _, h⟩
      · exact ⟨_, _, h⟩
    clear hown hgrow
    obtain ⟨a', c', rfl⟩ := HV.out
    go_wp2
    go_ret
    exact ⟨_, _, rfl, HB.out⟩

theorem clone_any (a : Option Addr) (c : Nat) (ps : List Pf) (w : World) (h0 : 0 < ps.length) (hl : ps.length ≤ 4096) (hs : Sl w a ps) :
    Calls Try.prog 29 #[.slice a ps.length c] w fun e w' => ∃ v', e = .returned v' ∧ w'.ownsRow w.heap.size 27 4 v' ps.length (flat ps) ∧ Below w.heap.size w w' := by
  obtain ⟨i0, hi0, hz0, hz1, hz2⟩ := info_parts infoP
  obtain ⟨g, o, rfl, hg, _⟩ := hs 0 h0
  refine (Try.slices_Clone i0 _ 4 32 hi0 hz0 hz1 hz2 rfl (by decide) sizeP g o ps.length c (flat ps) w (flat_len ps) (by unfold maxLen; omega) (by omega) (fun j u hj => by have := sl_news hs j u hj; rwa [add_addr] at this) (flat_one ps)).mono ?_
  rintro e w' ⟨v', rfl, h1, _, h2⟩
  exact ⟨v', rfl, h1, h2⟩

/-- The call hands back a norm, in memory of its own. -/
def NormPost (w : World) (n : Nat) (A : Bool → Int → Prop) (e : Ending) (w' : World) : Prop := ∃ v M, e = .returned v ∧ w'.ownsRow w.heap.size 27 4 v M.length (flat M) ∧ IsNorm M A ∧ M.length ≤ n ∧ Below w.heap.size w w'
theorem norm_nil : IsNorm [] (Adr ([].map Pf.nd)) := ⟨by simp, ⟨by simp, .nil⟩, fun v x => Iff.rfl⟩

set_option maxHeartbeats 4000000 in
set_option maxRecDepth 100000 in
theorem norm_any (a : Option Addr) (c : Nat) (ps : List Pf) (w : World) (hR : ∀ p ∈ ps, p.R) (hl : ps.length ≤ 4096) (hs : Sl w a ps) :
    Calls Try.prog 15 #[.slice a ps.length c] w (NormPost w ps.length (Adr (ps.map Pf.nd))) := by
  by_cases h0 : ps.length = 0
  · have : ps = [] := List.length_eq_zero_iff.1 h0
    subst this
    have HC : Hid (∀ w : World, Calls Try.prog 29 #[.slice a 0 c] w fun e w' => ∃ a' c', e = .returned (.slice a' 0 c') ∧ Below w.heap.size w w') := clone_empty a c
    have HS : Hid (∀ (p : Option Addr) (cap : Nat) (fv : Value) (w : World), Calls Try.prog 30 #[.slice p 0 cap, fv] w fun e w' => e = .returned (.tuple #[]) ∧ w' = w) := Try.slices_SortFunc_none (α := RP)
    clear hR hl hs h0
    go_enter Try.func15, Try.ntmps15
    go_wp2_with fail
    refine (HC.out _).mono ?_
    rintro e w1 ⟨a1, c1, rfl, b1⟩
    have HB := Lib.hid b1
    clear b1 HC
    go_wp2_with fail
    refine (HS.out _ _ _ _).mono ?_
    rintro e w2 ⟨rfl, rfl⟩
    go_wp2_with fail
    refine wp_loop_rounds 1 ?_
    rw [rounds_succ]
    go_wp2
    go_ret
    exact ⟨_, [], rfl, row_nil _ _ _ _, norm_nil, Nat.le_refl _, HB.out⟩
  · have HC := Lib.hid (fun w' h => clone_any a c ps w' (by omega) hl (hs.below (w' := w') h))
    have HS := Lib.hid (fun B v w' h1 h2 => sort_any B v ps w' hR hl h1 h2)
    have HPut : Hid (∀ (R : List Pf) (p : Pf) (v : Value) (w' : World) (B : Nat), (∀ e ∈ R, e.R) → p.R → R.length ≤ 4096 → B ≤ w'.heap.size → w'.ownsRow B 27 4 v R.reverse.length (flat R.reverse) → Calls Try.prog 32 #[v, .agg #[.bool p.v, .int .u64 p.hi, .int .u64 p.lo, .int .i64 p.b]] w' (PutPost B w' (putP R p).reverse)) := put_any
    have HR := Lib.hid hR
    have HL := Lib.hid hl
    clear hR hl hs h0
    go_enter Try.func15, Try.ntmps15
    go_wp2_with fail
    refine (HC.out _ (Below.refl _ _)).mono ?_
    rintro e w1 ⟨v1, rfl, o1, b1⟩
    have HB := Lib.hid b1
    have HO := Lib.hid o1
    clear b1 o1 HC
    go_wp2_with fail
    refine (HS.out w.heap.size _ _ HB.out.size HO.out).mono ?_
    rintro e w2 ⟨rfl, a2, c2, S2, rfl, hc2, s2, l2, m2, pw2, b2⟩
    replace HB := Lib.hid (HB.out.trans b2)
    have hSl : Hid (Sl w2 a2 S2) := s2
    have hlen : Hid (S2.length = ps.length) := l2
    have hmem : Hid (∀ p, p ∈ S2 ↔ p ∈ ps) := m2
    have hpw : Hid (Rises S2) := pw2
    obtain ⟨N, hN⟩ : ∃ N, N = S2.length := ⟨_, rfl⟩
    rw [← hN]
    have HN := Lib.hid hN
    have hN8 : N ≤ 4096 := by rw [hN, l2]; exact HL.out
    clear s2 l2 m2 pw2 b2 HS HO hc2 hN
    go_wp2_with fail
    go_loopw [4, 13] (fun vo vi wr => ∃ (k : Nat), vi = .int .i64 k ∧ k ≤ N ∧ Hid (wr.ownsRow w2.heap.size 27 4 vo ((S2.take k).foldl putP []).reverse.length (flat ((S2.take k).foldl putP []).reverse)) ∧ Hid (Below w2.heap.size w2 wr))
      (fun _ vi _ => N - (intOf vi).toNat)
    case atStart => exact ⟨0, rfl, Nat.zero_le _, row_nil _ _ _ _, Below.refl _ _⟩
    case round =>
      obtain ⟨k, rfl, hk, HO, HW⟩ := hrel
      have hN := HN.out
      by_cases hkN : k < N
      · have hkl : k < S2.length := by omega
        obtain ⟨g, o, rfl, hg, c0, c1, c3, c4⟩ := hSl.out k hkl
        rw [← (show wr.cell? _ = w2.cell? _ from HW.out.cell (p := ⟨g, _, none⟩) hg)] at c0 c1 c3 c4
        have hgr : g < wr.heap.size := Nat.lt_of_lt_of_le hg HW.out.size
        have k3 : (k : Int) < (N : Int) := by omega
        have k4 : (0 : Int) ≤ (k : Int) := by omega
        have hall : ∀ e ∈ (S2.take k).foldl putP [], e.R := (foldP_nd (S2.take k) [] (by simp) (fun e he => HR.out e ((hmem.out e).1 (List.mem_of_mem_take he)))).1
        have hp : (S2[k]).R := HR.out _ ((hmem.out _).1 (List.getElem_mem hkl))
        have hfl : ((S2.take k).foldl putP []).length ≤ 4096 := by
          have := foldP_len (S2.take k) []
          simp at this; omega
        have hst : (S2.take (k + 1)).foldl putP [] = putP ((S2.take k).foldl putP []) S2[k] := by
          rw [List.take_succ_eq_append_getElem hkl, List.foldl_append]; rfl
        have HPk : Hid (∀ (w' : World) , w2.heap.size ≤ w'.heap.size → w'.ownsRow w2.heap.size 27 4 u4 ((S2.take k).foldl putP []).reverse.length (flat ((S2.take k).foldl putP []).reverse) → Calls Try.prog 32 #[u4, .agg #[.bool S2[k].v, .int .u64 S2[k].hi, .int .u64 S2[k].lo, .int .i64 S2[k].b]] w' (PutPost w2.heap.size w' ((S2.take (k + 1)).foldl putP []).reverse)) := fun w' h1 h2 => by
          rw [hst]; exact HPut.out _ _ _ w' _ hall hp hfl h1 h2
        generalize S2[k] = x at *
        obtain ⟨v, hi, lo, b⟩ := x
        simp only at c0 c1 c3 c4 HPk
        clear hall hp hfl hst hN
        go_wp2_with fail
        refine (HPk.out _ (Nat.le_trans HW.out.size (by simp)) (own_keep HO.out (pal wr v hi lo b))).mono ?_
        rintro e w5 ⟨v5, rfl, o5, b5⟩
        have HO5 := Lib.hid o5
        have HW5 : Hid (Below w2.heap.size w2 w5) := (HW.out.trans (below_le (pal wr v hi lo b) HW.out.size)).trans b5
        clear o5 b5 c0 c1 c3 c4
        go_wp2_with fail
        go_roundw
        case rel => exact ⟨k + 1, by go_num, by omega, HO5, HW5⟩
        case measure => simp [intOf]; omega
      · have hkN' : k = N := by omega
        subst hkN'
        have k3 : decide ((k : Int) < (k : Int)) = false := by simp
        have hfin : IsNorm ((S2.take k).foldl putP []).reverse (Adr (ps.map Pf.nd)) := by
          rw [List.take_of_length_le (by omega)]
          refine (foldP_norm (fun p hp => HR.out p ((hmem.out p).1 hp)) hpw.out).of (adr_perm (fun q => ?_))
          simp only [List.mem_map]
          exact ⟨fun ⟨p, hp, e⟩ => ⟨p, (hmem.out p).1 hp, e⟩, fun ⟨p, hp, e⟩ => ⟨p, (hmem.out p).2 hp, e⟩⟩
        have hfl : ((S2.take k).foldl putP []).reverse.length ≤ ps.length := by
          have := foldP_len (S2.take k) []
          have := hlen.out
          simp at *; omega
        have HF := Lib.hid hfin
        have HFL := Lib.hid hfl
        clear hfin hfl hN
        go_wp2_with fail
        go_ret
        exact ⟨_, _, rfl, row_base HO.out HB.out.size, HF.out, HFL.out, HB.out.trans (below_le HW.out HB.out.size)⟩
end Go.Proofs.Ytlgdkdplkdkkdaa
