/- The document's normWithin and NormOf. -/
import Derived.Test.YtlgdkdplkdkkdaaReB
set_option linter.unusedVariables false
set_option linter.unusedSimpArgs false
namespace Go.Proofs.Ytlgdkdplkdkkdaa
open Go.RowKit

theorem anyH_nd {L : List Pf} {p : Pf} (h : ∀ s ∈ L, s.R) (r : p.R) : anyH L p = true ↔ ∃ s ∈ L.map Pf.nd, s.Has p.nd := by
  unfold anyH
  rw [List.any_eq_true]
  constructor
  · rintro ⟨s, hs, e⟩; exact ⟨_, List.mem_map_of_mem hs, (has_nd (h s hs) r).1 e⟩
  · rintro ⟨x, hx, e⟩
    obtain ⟨s, hs, rfl⟩ := List.mem_map.1 hx
    exact ⟨s, hs, (has_nd (h s hs) r).2 e⟩
theorem meet_nd {s p : Pf} (h : s.R) (r : p.R) : s.meet p = true ↔ s.nd.Meet p.nd := by
  unfold Pf.meet Nd.Meet
  rw [Bool.or_eq_true, has_nd h r, has_nd r h]
theorem anyM_nd {L : List Pf} {p : Pf} (h : ∀ s ∈ L, s.R) (r : p.R) : anyM L p = true ↔ ∃ s ∈ L.map Pf.nd, s.Meet p.nd := by
  unfold anyM
  rw [List.any_eq_true]
  constructor
  · rintro ⟨s, hs, e⟩; exact ⟨_, List.mem_map_of_mem hs, (meet_nd (h s hs) r).1 e⟩
  · rintro ⟨x, hx, e⟩
    obtain ⟨s, hs, rfl⟩ := List.mem_map.1 hx
    exact ⟨s, hs, (meet_nd (h s hs) r).2 e⟩
theorem noneM_nd {L : List Pf} {p : Pf} (h : ∀ s ∈ L, s.R) (r : p.R) : noneM L p = true ↔ ∀ s ∈ L.map Pf.nd, ¬ s.Meet p.nd := by
  unfold noneM
  rw [List.all_eq_true]
  constructor
  · intro e x hx
    obtain ⟨s, hs, rfl⟩ := List.mem_map.1 hx
    have := e s hs
    rw [Bool.not_eq_true', ← Bool.not_eq_true] at this
    exact fun k => this ((meet_nd (h s hs) r).2 k)
  · intro e s hs
    rw [Bool.not_eq_true', ← Bool.not_eq_true]
    exact fun k => e _ (List.mem_map_of_mem hs) ((meet_nd (h s hs) r).1 k)
theorem leaf_meet {s p : Pf} (h : s.R) (r : p.R) (hk : p.nd.h = 0) (e : s.nd.Meet p.nd) : s.nd.Has p.nd := by
  rcases e with e | e
  · exact e
  · rw [Nd.same_h (nd_ok r) (nd_ok h) e (by omega)]; exact Nd.has_refl _
theorem one_nd {X : List Pf} {q : Pf} (h : ∀ e ∈ X, e.R) (r : q.R) : X = [q] ↔ X.map Pf.nd = [q.nd] := by
  constructor
  · rintro rfl; rfl
  · intro e
    obtain ⟨x, rfl⟩ := List.length_eq_one_iff.1 (show X.length = 1 by rw [← List.length_map Pf.nd, e]; rfl)
    have e' : x.nd = q.nd := by simpa using e
    rw [nd_inj (h x (by simp)) r e']
theorem b_false {b : Bool} (h : ¬ b = true) : b = false := by simpa using h

theorem nw_any (so ot : List Pf) (os : ∀ s ∈ so, s.R) (oo : ∀ o ∈ ot, o.R) (l1 : so.length ≤ 12) (l2 : ot.length ≤ 12) : ∀ (k : Nat) (p : Pf), p.R → p.nd.h = k →
    ∃ M, IsWithin so ot p M ∧ ∀ (a1 a2 : Option Addr) (c1 c2 : Nat) (w : World), Sl w a1 so → Sl w a2 ot → Calls Try.prog 25 #[.agg #[.bool p.v, .int .u64 p.hi, .int .u64 p.lo, .int .i64 p.b], .slice a1 so.length c1, .slice a2 ot.length c2] w (RowPost w M)
  | 0, p, rp, hk => by
    have key : anyH ot p = false → noneM so p = false → (anyH so p && !anyM ot p) = false → False := fun h1 h2 h3 => by
      have h1' : ¬ ∃ o ∈ ot.map Pf.nd, o.Has p.nd := fun h => by rw [(anyH_nd oo rp).2 h] at h1; exact absurd h1 (by decide)
      have h2' : ¬ ∀ s ∈ so.map Pf.nd, ¬ s.Meet p.nd := fun h => by rw [(noneM_nd os rp).2 h] at h2; exact absurd h2 (by decide)
      have h4 : ∃ s ∈ so.map Pf.nd, s.Meet p.nd := Classical.byContradiction fun h => h2' fun s hs hm => h ⟨s, hs, hm⟩
      obtain ⟨x, hx, hm⟩ := h4
      obtain ⟨s, hs, rfl⟩ := List.mem_map.1 hx
      have h5 : anyH so p = true := (anyH_nd os rp).2 ⟨_, hx, leaf_meet (os s hs) rp hk hm⟩
      have h6 : anyM ot p = true := by rw [h5] at h3; simpa using h3
      obtain ⟨y, hy, hm'⟩ := (anyM_nd oo rp).1 h6
      obtain ⟨o, ho, rfl⟩ := List.mem_map.1 hy
      exact h1' ⟨_, hy, leaf_meet (oo o ho) rp hk hm'⟩
    by_cases h1 : anyH ot p = true
    · refine ⟨[], ⟨by simp, ?_⟩, fun a1 a2 c1 c2 w s1 s2 => nw_step so ot a1 a2 c1 c2 p w [] rp os oo l1 l2 s1 s2 (fun _ => rfl) (fun _ _ => rfl) (fun h => by rw [h1] at h; exact absurd h (by decide)) (fun h => by rw [h1] at h; exact absurd h (by decide))⟩
      rw [hk, withinN, if_pos ((anyH_nd oo rp).1 h1)]; rfl
    by_cases h2 : noneM so p = true
    · refine ⟨[], ⟨by simp, ?_⟩, fun a1 a2 c1 c2 w s1 s2 => nw_step so ot a1 a2 c1 c2 p w [] rp os oo l1 l2 s1 s2 (fun _ => rfl) (fun _ _ => rfl) (fun _ h => by rw [h2] at h; exact absurd h (by decide)) (fun _ h => by rw [h2] at h; exact absurd h (by decide))⟩
      rw [hk, withinN, if_neg (fun h => h1 ((anyH_nd oo rp).2 h)), if_pos ((noneM_nd os rp).1 h2)]; rfl
    by_cases h3 : (anyH so p && !anyM ot p) = true
    · have h3' : anyH so p = true ∧ anyM ot p = false := by simpa using h3
      refine ⟨[p], ⟨fun e he => by simp at he; subst he; exact rp, ?_⟩, fun a1 a2 c1 c2 w s1 s2 => nw_step so ot a1 a2 c1 c2 p w [p] rp os oo l1 l2 s1 s2 (fun h => absurd h h1) (fun _ h => absurd h h2) (fun _ _ _ _ => rfl) (fun _ _ h => by rw [h3] at h; exact absurd h (by decide))⟩
      rw [hk, withinN, if_neg (fun h => h1 ((anyH_nd oo rp).2 h)), if_neg (fun h => h2 ((noneM_nd os rp).2 h)), if_pos ⟨(anyH_nd os rp).1 h3'.1, fun h => by rw [(anyM_nd oo rp).2 h] at h3'; exact absurd h3'.2 (by decide)⟩]; rfl
    exact absurd (key (b_false h1) (b_false h2) (b_false h3)) (fun h => h)
  | k + 1, p, rp, hk => by
    have b1 := rp.b1
    have hlt : p.b < wid p.v := by
      have : (wid p.v - p.b).toNat = k + 1 := hk
      omega
    have hh1 : p.lo'.nd.h = k := by rw [nd_lo rp hlt]; simp [Nd.lo, hk]
    have hh2 : p.hi'.nd.h = k := by rw [nd_hi rp hlt]; simp [Nd.hi, hk]
    have rl := lo_R rp hlt
    have rg := hi_R rp hlt
    obtain ⟨X, iX, cX⟩ := nw_any so ot os oo l1 l2 k p.lo' rl hh1
    obtain ⟨Y, iY, cY⟩ := nw_any so ot os oo l1 l2 k p.hi' rg hh2
    have lX := iX.len rl os oo l1 l2
    have lY := iY.len rg os oo l1 l2
    have nX := iX.nd
    have nY := iY.nd
    rw [hh1, nd_lo rp hlt] at nX
    rw [hh2, nd_hi rp hlt] at nY
    by_cases h1 : anyH ot p = true
    · refine ⟨[], ⟨by simp, ?_⟩, fun a1 a2 c1 c2 w s1 s2 => nw_step so ot a1 a2 c1 c2 p w [] rp os oo l1 l2 s1 s2 (fun _ => rfl) (fun _ _ => rfl) (fun h => by rw [h1] at h; exact absurd h (by decide)) (fun h => by rw [h1] at h; exact absurd h (by decide))⟩
      rw [hk, withinN, if_pos ((anyH_nd oo rp).1 h1)]; rfl
    by_cases h2 : noneM so p = true
    · refine ⟨[], ⟨by simp, ?_⟩, fun a1 a2 c1 c2 w s1 s2 => nw_step so ot a1 a2 c1 c2 p w [] rp os oo l1 l2 s1 s2 (fun _ => rfl) (fun _ _ => rfl) (fun _ h => by rw [h2] at h; exact absurd h (by decide)) (fun _ h => by rw [h2] at h; exact absurd h (by decide))⟩
      rw [hk, withinN, if_neg (fun h => h1 ((anyH_nd oo rp).2 h)), if_pos ((noneM_nd os rp).1 h2)]; rfl
    by_cases h3 : (anyH so p && !anyM ot p) = true
    · have h3' : anyH so p = true ∧ anyM ot p = false := by simpa using h3
      refine ⟨[p], ⟨fun e he => by simp at he; subst he; exact rp, ?_⟩, fun a1 a2 c1 c2 w s1 s2 => nw_step so ot a1 a2 c1 c2 p w [p] rp os oo l1 l2 s1 s2 (fun h => absurd h h1) (fun _ h => absurd h h2) (fun _ _ _ _ => rfl) (fun _ _ h => by rw [h3] at h; exact absurd h (by decide))⟩
      rw [hk, withinN, if_neg (fun h => h1 ((anyH_nd oo rp).2 h)), if_neg (fun h => h2 ((noneM_nd os rp).2 h)), if_pos ⟨(anyH_nd os rp).1 h3'.1, fun h => by rw [(anyM_nd oo rp).2 h] at h3'; exact absurd h3'.2 (by decide)⟩]; rfl
    have h3' : ¬ ((∃ s ∈ so.map Pf.nd, s.Has p.nd) ∧ ¬ ∃ o ∈ ot.map Pf.nd, o.Meet p.nd) := fun h => h3 (by
      rw [(anyH_nd os rp).2 h.1, b_false (fun e => h.2 ((anyM_nd oo rp).1 e))]; rfl)
    have ex : isOne (withinN (so.map Pf.nd) (ot.map Pf.nd) k p.nd.lo) p.nd.lo = true ↔ X = [p.lo'] := by rw [isOne_iff, one_nd iX.right rl, nX, nd_lo rp hlt]
    have ey : isOne (withinN (so.map Pf.nd) (ot.map Pf.nd) k p.nd.hi) p.nd.hi = true ↔ Y = [p.hi'] := by rw [isOne_iff, one_nd iY.right rg, nY, nd_hi rp hlt]
    by_cases h4 : X = [p.lo'] ∧ Y = [p.hi']
    · refine ⟨[p], ⟨fun e he => by simp at he; subst he; exact rp, ?_⟩, fun a1 a2 c1 c2 w s1 s2 => nw_step so ot a1 a2 c1 c2 p w [p] rp os oo l1 l2 s1 s2 (fun h => absurd h h1) (fun _ h => absurd h h2) (fun _ _ _ _ => rfl) (fun _ _ _ => ⟨hlt, X, Y, lX, lY, ⟨fun _ _ => rfl, fun h => absurd h4 h⟩, fun w' hb => cX a1 a2 c1 c2 w' (s1.below hb) (s2.below hb), fun w' hb => cY a1 a2 c1 c2 w' (s1.below hb) (s2.below hb)⟩)⟩
      rw [hk, withinN, if_neg (fun h => h1 ((anyH_nd oo rp).2 h)), if_neg (fun h => h2 ((noneM_nd os rp).2 h)), if_neg h3', if_pos ⟨ex.2 h4.1, ey.2 h4.2⟩]; rfl
    · refine ⟨X ++ Y, ⟨fun e he => (List.mem_append.1 he).elim (iX.right e) (iY.right e), ?_⟩, fun a1 a2 c1 c2 w s1 s2 => nw_step so ot a1 a2 c1 c2 p w (X ++ Y) rp os oo l1 l2 s1 s2 (fun h => absurd h h1) (fun _ h => absurd h h2) (fun _ _ ha hb => absurd (by rw [ha, hb]; rfl) h3) (fun _ _ _ => ⟨hlt, X, Y, lX, lY, ⟨fun e1 e2 => absurd ⟨e1, e2⟩ h4, fun _ => rfl⟩, fun w' hb => cX a1 a2 c1 c2 w' (s1.below hb) (s2.below hb), fun w' hb => cY a1 a2 c1 c2 w' (s1.below hb) (s2.below hb)⟩)⟩
      rw [hk, withinN, if_neg (fun h => h1 ((anyH_nd oo rp).2 h)), if_neg (fun h => h2 ((noneM_nd os rp).2 h)), if_neg h3', if_neg (fun h => h4 ⟨ex.1 h.1, ey.1 h.2⟩), List.map_append, nX, nY]

theorem root4_R : Pf.R ⟨false, 0, 0, 0⟩ := (right_iff false 0 0 0 (by decide) (by decide) (by decide) (by decide)).1 (by decide +kernel)
theorem root6_R : Pf.R ⟨true, 0, 0, 0⟩ := (right_iff true 0 0 0 (by decide) (by decide) (by decide) (by decide)).1 (by decide +kernel)

set_option maxHeartbeats 4000000 in
theorem normOf_any (so ot : List Pf) (a1 a2 : Option Addr) (c1 c2 : Nat) (w : World) (os : ∀ s ∈ so, s.R) (oo : ∀ o ∈ ot, o.R) (l1 : so.length ≤ 12) (l2 : ot.length ≤ 12) (s1 : Sl w a1 so) (s2 : Sl w a2 ot) :
    Calls Try.prog 10 #[.slice a1 so.length c1, .slice a2 ot.length c2] w fun e w' => ∃ v M, e = .returned v ∧ w'.ownsRow w.heap.size 27 4 v M.length (flat M) ∧ IsNorm M (fun v x => Adr (so.map Pf.nd) v x ∧ ¬ Adr (ot.map Pf.nd) v x) ∧ M.length ≤ 10000 ∧ Below w.heap.size w w' := by
  obtain ⟨X, iX, cX⟩ := nw_any so ot os oo l1 l2 _ ⟨false, 0, 0, 0⟩ root4_R rfl
  obtain ⟨Y, iY, cY⟩ := nw_any so ot os oo l1 l2 _ ⟨true, 0, 0, 0⟩ root6_R rfl
  have lX := Lib.hid (iX.len root4_R os oo l1 l2)
  have lY := Lib.hid (iY.len root6_R os oo l1 l2)
  have HF := Lib.hid (within_norm os oo iX iY)
  have CX : Hid (∀ w' : World, Below w.heap.size w w' → Calls Try.prog 25 #[.agg #[.bool false, .int .u64 0, .int .u64 0, .int .i64 0], .slice a1 so.length c1, .slice a2 ot.length c2] w' (RowPost w' X)) := fun w' hb => cX a1 a2 c1 c2 w' (s1.below hb) (s2.below hb)
  have CY : Hid (∀ w' : World, Below w.heap.size w w' → Calls Try.prog 25 #[.agg #[.bool true, .int .u64 0, .int .u64 0, .int .i64 0], .slice a1 so.length c1, .slice a2 ot.length c2] w' (RowPost w' Y)) := fun w' hb => cY a1 a2 c1 c2 w' (s1.below hb) (s2.below hb)
  obtain ⟨i0, hi0, hz0, hz1, hz2⟩ := info_parts infoP
  generalize so.length = N1 at *
  generalize ot.length = N2 at *
  clear cX cY s1 s2 iX iY os oo
  go_enter Try.func10, Try.ntmps10
  go_wp2_with fail
  refine (CX.out _ (Below.refl _ _)).mono ?_
  rintro e w1 ⟨v1, rfl, o1, b1⟩
  have O1 := Lib.hid o1
  have B1 := Lib.hid b1
  clear o1 b1
  go_wp2_with fail
  refine (CY.out _ B1.out).mono ?_
  rintro e w2 ⟨v2, rfl, o2, b2⟩
  replace O1 := Lib.hid (own_keep O1.out b2)
  have O2 := Lib.hid o2
  replace B1 := Lib.hid (btr B1.out b2)
  clear o2 b2
  go_wp2_with (at_builtin; refine wpList_append_pfs rfl _ _ 22 rfl w.heap.size i0 _ Try.underlying22 hi0 hz0 hz1 hz2 rfl _ X rfl O1.out _ _ Y rfl O2.out (by have := lX.out; have := lY.out; omega) B1.out.size ?_)
  intro v8 w8 hown8 hgrow8
  have HB8 : Hid (Below w.heap.size w w8) := B1.out.grown hgrow8 B1.out.size (fun k hk => (O1.out.lt k hk).1)
  have HO8 : Hid (w8.ownsRow w.heap.size 27 4 v8 (X ++ Y).length (flat (X ++ Y))) := by first | exact hown8 | (rw [List.length_append]; exact hown8)
  clear hown8 hgrow8
  go_wp2_with fail
  go_ret
  exact ⟨_, X ++ Y, rfl, HO8.out, HF.out, by rw [List.length_append]; have := lX.out; have := lY.out; omega, HB8.out⟩
end Go.Proofs.Ytlgdkdplkdkkdaa
