/- span.put: one more into a list that the call owns. -/
import Derived.Test.YtlgdkdplkdkkdaaSpA
import Derived.Test.YtlgdkdplkdkkdaaTmB
import Derived.OwnWalk
set_option linter.unusedVariables false
set_option linter.unusedSimpArgs false
namespace Go.Proofs.Ytlgdkdplkdkkdaa
open Go.RowKit

def Pf.cells (p : Pf) : List Value := [.bool p.v, .int .u64 p.hi, .int .u64 p.lo, .int .i64 p.b]
theorem flat_one' (p : Pf) : flat [p] = p.cells := rfl
theorem own_take {w : World} {B c : Nat} {a : Option Addr} {L : List Pf} {e : Pf} (h : w.ownsRow B 27 4 (.slice a (L.length + 1) c) (L.length + 1) (flat (L ++ [e]))) : w.ownsRow B 27 4 (.slice a L.length c) L.length (flat L) := by
  obtain ⟨h1, h2⟩ := h
  refine ⟨flat_len L, ?_⟩
  rcases h2 with ⟨_, h2⟩ | ⟨g, cap, cur, e1, e2, e3, e4, e5, e6, e7⟩
  · omega
  · injection e1 with e1 _ e1'
    subst e1 e1'
    refine .inr ⟨g, c, cur, rfl, e2, e3, by omega, e5, e6, ?_⟩
    have := congrArg (List.take (L.length * 4)) e7
    rw [List.take_take, Nat.min_eq_left (by omega), flat_append] at this
    rw [this, List.take_append_of_le_length (by rw [flat_len]; exact Nat.le_refl _), List.take_of_length_le (by rw [flat_len]; exact Nat.le_refl _)]
def Pf.agg (p : Pf) : Value := .agg #[.bool p.v, .int .u64 p.hi, .int .u64 p.lo, .int .i64 p.b]
theorem two_R {p q : Pf} (r : p.R) (s : q.R) : two (pchk p.v p.hi p.lo p.b) (pchk q.v q.hi q.lo q.b) = 0 := by
  rw [two, if_pos ((right_iff _ _ _ _ r.h0 r.h1 r.l0 r.l1).2 r)]; exact (right_iff _ _ _ _ s.h0 s.h1 s.l0 s.l1).2 s
theorem swhole_t {p q : Pf} (r : p.R) (s : q.R) (h : p.whole q = true) (w : World) :
    Calls Try.prog 47 #[.agg #[.bool p.v, .int .u64 p.hi, .int .u64 p.lo, .int .i64 p.b], .agg #[.bool q.v, .int .u64 q.hi, .int .u64 q.lo, .int .i64 q.b]] w fun e w' => e = .returned (.tuple #[.agg #[.bool p.up'.v, .int .u64 p.up'.hi, .int .u64 p.up'.lo, .int .i64 p.up'.b], .int .i64 0]) ∧ Below w.heap.size w w' := by
  unfold Pf.whole at h
  rw [Bool.and_eq_true, decide_eq_true_iff] at h
  exact whole_ok _ _ _ _ _ _ _ _ w r.h0 r.h1 r.l0 r.l1 s.h0 s.h1 s.l0 s.l1 (two_R r s) h.1 h.2
theorem swhole_f {p q : Pf} (r : p.R) (s : q.R) (h : p.whole q = false) (w : World) :
    Calls Try.prog 47 #[.agg #[.bool p.v, .int .u64 p.hi, .int .u64 p.lo, .int .i64 p.b], .agg #[.bool q.v, .int .u64 q.hi, .int .u64 q.lo, .int .i64 q.b]] w fun e w' => e = .returned (.tuple #[.agg #[.bool false, .int .u64 0, .int .u64 0, .int .i64 0], .int .i64 4]) ∧ Below w.heap.size w w' := by
  unfold Pf.whole at h
  by_cases hk : pchk p.v p.hi p.lo (p.b - 1) = 0
  · rw [decide_eq_true hk, Bool.true_and] at h
    exact whole_neq _ _ _ _ _ _ _ _ w r.h0 r.h1 r.l0 r.l1 s.h0 s.h1 s.l0 s.l1 (two_R r s) hk h
  · exact whole_chk _ _ _ _ _ _ _ _ w r.h0 r.h1 r.l0 r.l1 s.h0 s.h1 s.l0 s.l1 (two_R r s) hk

theorem keepRu {w W W' : World} {B g o p : Nat} {v : Bool} {hi lo b : Int} {u : Bool} {yi yo c : Int}
    (h : (W.cell? ⟨p, 0, none⟩ = some (.bool v) ∧ W.cell? ⟨p, 1, none⟩ = some (.int .u64 hi) ∧ W.cell? ⟨p, 2, none⟩ = some (.int .u64 lo) ∧ W.cell? ⟨p, 3, none⟩ = some (.int .i64 b) ∧ p < W.heap.size) ∧ (W.cell? ⟨g, o, none⟩ = some (.bool u) ∧ W.cell? ⟨g, o + 1, none⟩ = some (.int .u64 yi) ∧ W.cell? ⟨g, o + 2, none⟩ = some (.int .u64 yo) ∧ W.cell? ⟨g, o + 3, none⟩ = some (.int .i64 c) ∧ g < W.heap.size) ∧ Below w.heap.size w W)
    (hg : g < B) (hp : p < B) (hw : w.heap.size ≤ B) (hb : Below B W W') :
    (W'.cell? ⟨p, 0, none⟩ = some (.bool v) ∧ W'.cell? ⟨p, 1, none⟩ = some (.int .u64 hi) ∧ W'.cell? ⟨p, 2, none⟩ = some (.int .u64 lo) ∧ W'.cell? ⟨p, 3, none⟩ = some (.int .i64 b) ∧ p < W'.heap.size) ∧ (W'.cell? ⟨g, o, none⟩ = some (.bool u) ∧ W'.cell? ⟨g, o + 1, none⟩ = some (.int .u64 yi) ∧ W'.cell? ⟨g, o + 2, none⟩ = some (.int .u64 yo) ∧ W'.cell? ⟨g, o + 3, none⟩ = some (.int .i64 c) ∧ g < W'.heap.size) ∧ Below w.heap.size w W' := by
  obtain ⟨⟨a0, a1, a2, a3, a4⟩, ⟨c0, c1, c2, c3, c4⟩, h3⟩ := h
  have k : ∀ b o, b < B → W'.cell? ⟨b, o, none⟩ = W.cell? ⟨b, o, none⟩ := fun b o h => hb.cell (p := ⟨b, o, none⟩) h
  exact ⟨⟨by rw [k _ _ hp]; exact a0, by rw [k _ _ hp]; exact a1, by rw [k _ _ hp]; exact a2, by rw [k _ _ hp]; exact a3, Nat.lt_of_lt_of_le a4 hb.size⟩, ⟨by rw [k _ _ hg]; exact c0, by rw [k _ _ hg]; exact c1, by rw [k _ _ hg]; exact c2, by rw [k _ _ hg]; exact c3, Nat.lt_of_lt_of_le c4 hb.size⟩, h3.trans (below_le hb hw)⟩
theorem pal (w : World) (v : Bool) (hi lo b : Int) : Below w.heap.size w (w.alloc (.cells #[.bool v, .int .u64 hi, .int .u64 lo, .int .i64 b] 27)) := bal (Below.refl _ _) _
theorem zal (w : World) : Below w.heap.size w (w.alloc (.cells #[.bool false, .int .u64 0, .int .u64 0, .int .i64 0] 27)) := bal (Below.refl _ _) _
def putL (L : List Pf) (p : Pf) : List Pf := (putP L.reverse p).reverse
def PutPost (B : Nat) (w : World) (M : List Pf) (e : Ending) (w' : World) : Prop := ∃ v', e = .returned v' ∧ w'.ownsRow B 27 4 v' M.length (flat M) ∧ Below B w w'

set_option maxHeartbeats 16000000 in
set_option maxRecDepth 100000 in
theorem put_any : ∀ (R : List Pf) (p : Pf) (v : Value) (w : World) (B : Nat), (∀ e ∈ R, e.R) → p.R → R.length ≤ 4096 → B ≤ w.heap.size → w.ownsRow B 27 4 v R.reverse.length (flat R.reverse) →
    Calls Try.prog 32 #[v, .agg #[.bool p.v, .int .u64 p.hi, .int .u64 p.lo, .int .i64 p.b]] w (PutPost B w (putP R p).reverse)
  | [], p, v, w, B, hR, rp, hl, hB, ho => by
    obtain ⟨a, c, rfl, hc, _⟩ := own_sl ho
    obtain ⟨pv, ph, pl, pb⟩ := p
    obtain ⟨i0, hi0, hz0, hz1, hz2⟩ := info_parts infoP
    have HO : Hid (w.ownsRow B 27 4 (.slice a 0 c) 0 []) := ho
    simp only [List.reverse_nil, List.length_nil, putP, List.reverse_singleton]
    clear ho hR rp hl hc
    go_enter Try.func32, Try.ntmps32
    go_wp2_with (at_builtin; refine wpList_append_own _ rfl _ _ 22 rfl B 27 i0 _ 4 32 Try.underlying22 hi0 hz0 hz1 hz2 rfl (by decide) _ _ _ rfl ((HO.out.alloc _).alloc _) ⟨w.heap.size + 1, 0, none⟩ 1 1 [.bool pv, .int .u64 ph, .int .u64 pl, .int .i64 pb] rfl rfl ?c1 ?c2 ?c3 ?c4 ?c5 ?_)
    case c1 =>
      intro j u hj
      match j, hj with
      | 0, hj => simp at hj; subst hj; simp [Addr.add]
      | 1, hj => simp at hj; subst hj; simp [Addr.add]
      | 2, hj => simp at hj; subst hj; simp [Addr.add]
      | 3, hj => simp at hj; subst hj; simp [Addr.add]
      | (j + 4), hj => simp at hj
    case c2 => exact flat_one [⟨pv, ph, pl, pb⟩]
    case c3 => unfold maxLen; omega
    case c4 => omega
    case c5 => simp; omega
    intro v' w4 hown hgrow _
    go_wp2_with fail
    go_ret
    exact ⟨_, rfl, hown, (below_le (bal (bal (Below.refl _ _) _) _) hB).grown hgrow (by simp; omega) (fun k hk => (HO.out.lt k hk).1)⟩
  | e :: R, p, v, w, B, hR, rp, hl, hB, ho => by
    obtain ⟨a, c, rfl, hc, hs⟩ := own_sl ho
    have re := hR e (by simp)
    obtain ⟨n, hn⟩ : ∃ n, n = R.length := ⟨_, rfl⟩
    have hlen : (e :: R).reverse.length = n + 1 := by simp [hn]
    have hat : ((e :: R).reverse)[n]'(by omega) = e := by
      simp [hn]
    obtain ⟨g, o, rfl, hg, c0, c1, c2, c3⟩ := hs n (by omega)
    rw [hat] at c0 c1 c2 c3
    have ho0 : o = 0 := by
      rcases ho.2 with ⟨h, _⟩ | ⟨g', c', cur, h, _⟩
      · injection h with h; exact absurd h (by simp)
      · injection h with h; injection h with h; injection h
    subst ho0
    simp only [Nat.zero_add] at c0 c1 c2 c3
    rw [hlen] at ho hc ⊢
    have HS : Hid (∀ w : World, Calls Try.prog 38 #[.agg #[.bool e.v, .int .u64 e.hi, .int .u64 e.lo, .int .i64 e.b], .agg #[.bool p.v, .int .u64 p.hi, .int .u64 p.lo, .int .i64 p.b]] w fun x w' => x = .returned (.bool (e.has p)) ∧ Below w.heap.size w w') := fun w => shas_any e p w re rp
    have HO : Hid (w.ownsRow B 27 4 (.slice (some ⟨g, 0, none⟩) (n + 1) c) (n + 1) (flat (R.reverse ++ [e]))) := by rw [← List.reverse_cons]; exact ho
    have k1 : wrap64 (n : Int) = (n : Int) := by unfold wrap64; simp at hl; omega
    have k2 : (0 : Int) ≤ (n : Int) := by omega
    have k3 : (n : Int) < (n : Int) + 1 := by omega
    have k4 : ((n : Int) + 1 == 0) = false := by rw [beq_eq_false_iff_ne]; omega
    have hB1 : Hid (Below w.heap.size w (w.alloc (.cells #[.bool p.v, .int .u64 p.hi, .int .u64 p.lo, .int .i64 p.b] 27))) := bal (Below.refl _ _) _
    have k5 : (n : Int) ≤ (c : Int) := by omega
    have k6 : (n : Int) ≤ (n : Int) + 1 := by omega
    have C0 : Hid (w.cell? ⟨g, n * 4, none⟩ = some (.bool e.v) ∧ w.cell? ⟨g, n * 4 + 1, none⟩ = some (.int .u64 e.hi) ∧ w.cell? ⟨g, n * 4 + 2, none⟩ = some (.int .u64 e.lo) ∧ w.cell? ⟨g, n * 4 + 3, none⟩ = some (.int .i64 e.b)) := ⟨c0, c1, c2, c3⟩
    have HX : Hid (Has4 (w.alloc (.cells #[.bool p.v, .int .u64 p.hi, .int .u64 p.lo, .int .i64 p.b] 27)).drew w.heap.size p.v p.hi p.lo p.b) := Has4.new w p.v p.hi p.lo p.b 27
    by_cases h : e.has p = true
    · rw [h] at HS
      have HP : Hid (∀ (v' : Value) (w' : World), w'.ownsRow B 27 4 v' (n + 1) (flat (R.reverse ++ [e])) → w'.ownsRow B 27 4 v' (putP (e :: R) p).reverse.length (flat (putP (e :: R) p).reverse)) := fun v' w' h' => by
        rw [putP, if_pos h, hlen, List.reverse_cons]; exact h'
      clear ho hs hR rp re hl hat hlen hn h
      go_enter Try.func32, Try.ntmps32
      go_wp2_with fail
      go_region_with (go_at_call 38; refine (HS.out _).mono ?_; rintro x w3 ⟨rfl, hb3⟩; have HB3 := Lib.hid (btr hB1.out.drew hb3); clear hb3)
      all_goals
        go_wp2_with fail
        go_ret
        exact ⟨_, rfl, HP.out _ _ (own_keep HO.out HB3.out), below_le HB3.out hB⟩
    · have hf : e.has p = false := by simpa using h
      rw [hf] at HS
      by_cases hw : e.whole p = true
      · have HW : Hid (∀ w : World, Calls Try.prog 47 #[.agg #[.bool e.v, .int .u64 e.hi, .int .u64 e.lo, .int .i64 e.b], .agg #[.bool p.v, .int .u64 p.hi, .int .u64 p.lo, .int .i64 p.b]] w fun x w' => x = .returned (.tuple #[.agg #[.bool e.up'.v, .int .u64 e.up'.hi, .int .u64 e.up'.lo, .int .i64 e.up'.b], .int .i64 0]) ∧ Below w.heap.size w w') := fun w => swhole_t re rp hw w
        have IH : Hid (∀ (w' : World), B ≤ w'.heap.size → w'.ownsRow B 27 4 (.slice (some ⟨g, 0, none⟩) n c) n (flat R.reverse) → Calls Try.prog 32 #[.slice (some ⟨g, 0, none⟩) n c, .agg #[.bool e.up'.v, .int .u64 e.up'.hi, .int .u64 e.up'.lo, .int .i64 e.up'.b]] w' (PutPost B w' (putP (e :: R) p).reverse)) := fun w' h1 h2 => by
          have := put_any R e.up' (.slice (some ⟨g, 0, none⟩) n c) w' B (fun x hx => hR x (by simp [hx])) (up_R re hw) (by simp at hl; omega) h1 (by rw [List.length_reverse, ← hn]; exact h2)
          rw [putP, if_neg h, if_pos hw]; exact this
        have HO2 : Hid (w.ownsRow B 27 4 (.slice (some ⟨g, 0, none⟩) n c) n (flat R.reverse)) := by
          have := own_take (L := R.reverse) (e := e) (a := some ⟨g, 0, none⟩) (B := B) (w := w) (c := c) (by rw [List.length_reverse, ← hn]; exact HO.out)
          rw [List.length_reverse, ← hn] at this; exact this
        clear ho hs hR rp re hl hat hlen hn h hf hw
        go_enter Try.func32, Try.ntmps32
        go_wp2_with fail
        go_region_held3 (fun w' => (w'.cell? ⟨w.heap.size, 0, none⟩ = some (.bool p.v) ∧ w'.cell? ⟨w.heap.size, 1, none⟩ = some (.int .u64 p.hi) ∧ w'.cell? ⟨w.heap.size, 2, none⟩ = some (.int .u64 p.lo) ∧ w'.cell? ⟨w.heap.size, 3, none⟩ = some (.int .i64 p.b) ∧ w.heap.size < w'.heap.size) ∧ (w'.cell? ⟨g, n * 4, none⟩ = some (.bool e.v) ∧ w'.cell? ⟨g, n * 4 + 1, none⟩ = some (.int .u64 e.hi) ∧ w'.cell? ⟨g, n * 4 + 2, none⟩ = some (.int .u64 e.lo) ∧ w'.cell? ⟨g, n * 4 + 3, none⟩ = some (.int .i64 e.b) ∧ g < w'.heap.size) ∧ Below w.heap.size w w')
          (first | exact ⟨HX.out, ⟨((bcell hB1.out).1 _ _ hg).trans c0, ((bcell hB1.out).1 _ _ hg).trans c1, ((bcell hB1.out).1 _ _ hg).trans c2, ((bcell hB1.out).1 _ _ hg).trans c3, Nat.lt_of_lt_of_le hg hB1.out.size⟩, hB1.out.drew⟩ | exact keepR (by assumption) (by assumption))
          ((go_at_call 38; refine (HS.out _).mono ?_; rintro x w3 ⟨rfl, hb3⟩))
        clear c0 c1 c2 c3
        have HS1 := Lib.hid (show (w3.cell? ⟨w.heap.size, 0, none⟩ = some (.bool p.v) ∧ w3.cell? ⟨w.heap.size, 1, none⟩ = some (.int .u64 p.hi) ∧ w3.cell? ⟨w.heap.size, 2, none⟩ = some (.int .u64 p.lo) ∧ w3.cell? ⟨w.heap.size, 3, none⟩ = some (.int .i64 p.b) ∧ w.heap.size < w3.heap.size) ∧ (w3.cell? ⟨g, n * 4, none⟩ = some (.bool e.v) ∧ w3.cell? ⟨g, n * 4 + 1, none⟩ = some (.int .u64 e.hi) ∧ w3.cell? ⟨g, n * 4 + 2, none⟩ = some (.int .u64 e.lo) ∧ w3.cell? ⟨g, n * 4 + 3, none⟩ = some (.int .i64 e.b) ∧ g < w3.heap.size) ∧ Below w.heap.size w w3 by assumption)
        have HB1 := Lib.hid hb3
        clear HX C0 hB1 hb3
        obtain ⟨⟨x0, x1, x2, x3, x4⟩, ⟨c0, c1, c2, c3, hg1⟩, hb1⟩ := HS1.out
        go_wp2_with fail
        have hgB : Hid (g < w3.heap.size) := hg1
        have hpB : Hid (w.heap.size < w3.heap.size) := x4
        have hwB : Hid (w.heap.size ≤ w3.heap.size) := Nat.le_of_lt x4
        have HS2 := Lib.hid (keepR HS1.out (show Below w3.heap.size w3 w3.drew from (Below.refl _ _).drew))
        have HQ : Hid (Own4 (w3.alloc (.cells #[.bool false, .int .u64 0, .int .u64 0, .int .i64 0] 27)).drew w3.heap.size (.bool false) (.int .u64 0) (.int .u64 0) (.int .i64 0)) := Own4.new w3 (.bool false) (.int .u64 0) (.int .u64 0) (.int .i64 0) 27
        have HS3 := Lib.hid (keepR HS1.out (show Below w3.heap.size w3 (w3.alloc (.cells #[.bool false, .int .u64 0, .int .u64 0, .int .i64 0] 27)).drew from (bal (Below.refl _ _) _).drew))
        go_region_held3 (fun w' => (w'.cell? ⟨w.heap.size, 0, none⟩ = some (.bool p.v) ∧ w'.cell? ⟨w.heap.size, 1, none⟩ = some (.int .u64 p.hi) ∧ w'.cell? ⟨w.heap.size, 2, none⟩ = some (.int .u64 p.lo) ∧ w'.cell? ⟨w.heap.size, 3, none⟩ = some (.int .i64 p.b) ∧ w.heap.size < w'.heap.size) ∧ (w'.cell? ⟨g, n * 4, none⟩ = some (.bool e.v) ∧ w'.cell? ⟨g, n * 4 + 1, none⟩ = some (.int .u64 e.hi) ∧ w'.cell? ⟨g, n * 4 + 2, none⟩ = some (.int .u64 e.lo) ∧ w'.cell? ⟨g, n * 4 + 3, none⟩ = some (.int .i64 e.b) ∧ g < w'.heap.size) ∧ Below w.heap.size w w')
          (first | with_reducible exact HS2.out | with_reducible exact HS3.out | with_reducible exact HS4.out | with_reducible exact HS5.out | with_reducible exact HS6.out | exact keepRu HS4.out hgB.out hpB.out hwB.out ((((((Below.refl w3.heap.size w4).setCell (Nat.le_refl _) _).setCell (Nat.le_refl _) _).setCell (Nat.le_refl _) _).setCell (Nat.le_refl _) _)) | fail)
          ((go_at_call 47; refine (HW.out _).mono ?_; rintro x w4 ⟨rfl, hb4⟩; first | ((with_reducible have HS4 := Lib.hid (keepR HS2.out hb4)); have HS5 := Lib.hid (keepR HS4.out (zal w4)); have HS6 := Lib.hid (keepR HS4.out (pal w4 e.up'.v e.up'.hi e.up'.lo e.up'.b)); clear hb4) | ((with_reducible have HS4 := Lib.hid (keepR HS3.out hb4)); obtain ⟨⟨q0, q1, q2, q3⟩, ⟨q4, q5, q6, q7⟩, q8⟩ := HQ.out.below hb4; clear hb4)))
        · have HN := Lib.hid (Has4.new w4 e.up'.v e.up'.hi e.up'.lo e.up'.b 27)
          have HBz := Lib.hid HS6.out.2.2
          clear HS1 HS2 HS3 HS4 HS5 HS6 HQ HB1 x0 x1 x2 x3 x4 c0 c1 c2 c3 hb1 hg1
          go_wp2_with fail
          generalize w4.alloc (.cells #[.bool e.up'.v, .int .u64 e.up'.hi, .int .u64 e.up'.lo, .int .i64 e.up'.b] 27) = W at *
          have HBd : Hid (Below w.heap.size w W.drew) := HBz.out.drew
          have HBs : Hid (B ≤ W.drew.heap.size) := Nat.le_trans hB HBd.out.size
          have HOz : Hid (W.drew.ownsRow B 27 4 (.slice (some ⟨g, 0, none⟩) n c) n (flat R.reverse)) := own_keep HO2.out HBd.out
          clear HBz
          obtain ⟨n0, n1, n2, n3, n4⟩ := HN.out
          go_region_with (go_at_call 32; refine (IH.out _ HBs.out HOz.out).mono ?_; rintro x w5 ⟨v5, rfl, hown5, hb5⟩; have HO5 := Lib.hid hown5; have HB5 := Lib.hid hb5; clear hown5 hb5)
          all_goals
            go_wp2_with fail
            go_ret
            exact ⟨_, rfl, HO5.out, (below_le HBd.out hB).trans HB5.out⟩
        · have HN : Hid (Has4 ((((w4.setCell ⟨w3.heap.size, 0, none⟩ (.bool e.up'.v)).setCell ⟨w3.heap.size, 1, none⟩ (.int .u64 e.up'.hi)).setCell ⟨w3.heap.size, 2, none⟩ (.int .u64 e.up'.lo)).setCell ⟨w3.heap.size, 3, none⟩ (.int .i64 e.up'.b)) w3.heap.size e.up'.v e.up'.hi e.up'.lo e.up'.b) := ⟨by simp [go_sem, q0, q1, q2, q3], by simp [go_sem, q0, q1, q2, q3], by simp [go_sem, q0, q1, q2, q3], by simp [go_sem, q0, q1, q2, q3], by simpa using q8⟩
          have HBz : Hid (Below w.heap.size w ((((w4.setCell ⟨w3.heap.size, 0, none⟩ (.bool e.up'.v)).setCell ⟨w3.heap.size, 1, none⟩ (.int .u64 e.up'.hi)).setCell ⟨w3.heap.size, 2, none⟩ (.int .u64 e.up'.lo)).setCell ⟨w3.heap.size, 3, none⟩ (.int .i64 e.up'.b))) := (((HS4.out.2.2.setCell hwB.out _).setCell hwB.out _).setCell hwB.out _).setCell hwB.out _
          clear HS1 HS2 HS3 HS4 HQ HB1 x0 x1 x2 x3 x4 c0 c1 c2 c3 hb1 hg1 q0 q1 q2 q3 q4 q5 q6 q7 q8
          go_wp2_with fail
          generalize ((((w4.setCell ⟨w3.heap.size, 0, none⟩ (.bool e.up'.v)).setCell ⟨w3.heap.size, 1, none⟩ (.int .u64 e.up'.hi)).setCell ⟨w3.heap.size, 2, none⟩ (.int .u64 e.up'.lo)).setCell ⟨w3.heap.size, 3, none⟩ (.int .i64 e.up'.b)) = W at *
          have HBd : Hid (Below w.heap.size w W.drew) := HBz.out.drew
          have HBs : Hid (B ≤ W.drew.heap.size) := Nat.le_trans hB HBd.out.size
          have HOz : Hid (W.drew.ownsRow B 27 4 (.slice (some ⟨g, 0, none⟩) n c) n (flat R.reverse)) := own_keep HO2.out HBd.out
          clear HBz
          obtain ⟨n0, n1, n2, n3, n4⟩ := HN.out
          go_region_with (go_at_call 32; refine (IH.out _ HBs.out HOz.out).mono ?_; rintro x w5 ⟨v5, rfl, hown5, hb5⟩; have HO5 := Lib.hid hown5; have HB5 := Lib.hid hb5; clear hown5 hb5)
          all_goals
            go_wp2_with fail
            go_ret
            exact ⟨_, rfl, HO5.out, (below_le HBd.out hB).trans HB5.out⟩
      · have hwf : e.whole p = false := by simpa using hw
        have HW : Hid (∀ w : World, Calls Try.prog 47 #[.agg #[.bool e.v, .int .u64 e.hi, .int .u64 e.lo, .int .i64 e.b], .agg #[.bool p.v, .int .u64 p.hi, .int .u64 p.lo, .int .i64 p.b]] w fun x w' => x = .returned (.tuple #[.agg #[.bool false, .int .u64 0, .int .u64 0, .int .i64 0], .int .i64 4]) ∧ Below w.heap.size w w') := fun w => swhole_f re rp hwf w
        have HP : Hid (∀ (v' : Value) (w' : World), w'.ownsRow B 27 4 v' (n + 1 + 1) (flat (R.reverse ++ [e]) ++ [.bool p.v, .int .u64 p.hi, .int .u64 p.lo, .int .i64 p.b]) → w'.ownsRow B 27 4 v' (putP (e :: R) p).reverse.length (flat (putP (e :: R) p).reverse)) := fun v' w' h' => by
          rw [putP, if_neg h, if_neg hw, List.length_reverse, List.length_cons, List.length_cons, ← hn, List.reverse_cons, flat_append, List.reverse_cons]; exact h'
        have HL : Hid (n + 1 ≤ 4096) := Lib.hid (by simp at hl; omega)
        obtain ⟨i0, hi0, hz0, hz1, hz2⟩ := info_parts infoP
        clear ho hs hR rp re hl hat hlen hn h hf hw hwf
        go_enter Try.func32, Try.ntmps32
        go_wp2_with fail
        go_region_held3 (fun w' => (w'.cell? ⟨w.heap.size, 0, none⟩ = some (.bool p.v) ∧ w'.cell? ⟨w.heap.size, 1, none⟩ = some (.int .u64 p.hi) ∧ w'.cell? ⟨w.heap.size, 2, none⟩ = some (.int .u64 p.lo) ∧ w'.cell? ⟨w.heap.size, 3, none⟩ = some (.int .i64 p.b) ∧ w.heap.size < w'.heap.size) ∧ (w'.cell? ⟨g, n * 4, none⟩ = some (.bool e.v) ∧ w'.cell? ⟨g, n * 4 + 1, none⟩ = some (.int .u64 e.hi) ∧ w'.cell? ⟨g, n * 4 + 2, none⟩ = some (.int .u64 e.lo) ∧ w'.cell? ⟨g, n * 4 + 3, none⟩ = some (.int .i64 e.b) ∧ g < w'.heap.size) ∧ Below w.heap.size w w')
          (first | exact ⟨HX.out, ⟨((bcell hB1.out).1 _ _ hg).trans c0, ((bcell hB1.out).1 _ _ hg).trans c1, ((bcell hB1.out).1 _ _ hg).trans c2, ((bcell hB1.out).1 _ _ hg).trans c3, Nat.lt_of_lt_of_le hg hB1.out.size⟩, hB1.out.drew⟩ | exact keepR (by assumption) (by assumption))
          ((go_at_call 38; refine (HS.out _).mono ?_; rintro x w3 ⟨rfl, hb3⟩))
        clear c0 c1 c2 c3
        have HS1 := Lib.hid (show (w3.cell? ⟨w.heap.size, 0, none⟩ = some (.bool p.v) ∧ w3.cell? ⟨w.heap.size, 1, none⟩ = some (.int .u64 p.hi) ∧ w3.cell? ⟨w.heap.size, 2, none⟩ = some (.int .u64 p.lo) ∧ w3.cell? ⟨w.heap.size, 3, none⟩ = some (.int .i64 p.b) ∧ w.heap.size < w3.heap.size) ∧ (w3.cell? ⟨g, n * 4, none⟩ = some (.bool e.v) ∧ w3.cell? ⟨g, n * 4 + 1, none⟩ = some (.int .u64 e.hi) ∧ w3.cell? ⟨g, n * 4 + 2, none⟩ = some (.int .u64 e.lo) ∧ w3.cell? ⟨g, n * 4 + 3, none⟩ = some (.int .i64 e.b) ∧ g < w3.heap.size) ∧ Below w.heap.size w w3 by assumption)
        have HB1 := Lib.hid hb3
        clear HX C0 hB1 hb3
        obtain ⟨⟨x0, x1, x2, x3, x4⟩, ⟨c0, c1, c2, c3, hg1⟩, hb1⟩ := HS1.out
        go_wp2_with fail
        have hgB : Hid (g < w3.heap.size) := hg1
        have hpB : Hid (w.heap.size < w3.heap.size) := x4
        have hwB : Hid (w.heap.size ≤ w3.heap.size) := Nat.le_of_lt x4
        have HS2 := Lib.hid (keepR HS1.out (show Below w3.heap.size w3 w3.drew from (Below.refl _ _).drew))
        have HQ : Hid (Own4 (w3.alloc (.cells #[.bool false, .int .u64 0, .int .u64 0, .int .i64 0] 27)).drew w3.heap.size (.bool false) (.int .u64 0) (.int .u64 0) (.int .i64 0)) := Own4.new w3 (.bool false) (.int .u64 0) (.int .u64 0) (.int .i64 0) 27
        have HS3 := Lib.hid (keepR HS1.out (show Below w3.heap.size w3 (w3.alloc (.cells #[.bool false, .int .u64 0, .int .u64 0, .int .i64 0] 27)).drew from (bal (Below.refl _ _) _).drew))
        go_region_held3 (fun w' => (w'.cell? ⟨w.heap.size, 0, none⟩ = some (.bool p.v) ∧ w'.cell? ⟨w.heap.size, 1, none⟩ = some (.int .u64 p.hi) ∧ w'.cell? ⟨w.heap.size, 2, none⟩ = some (.int .u64 p.lo) ∧ w'.cell? ⟨w.heap.size, 3, none⟩ = some (.int .i64 p.b) ∧ w.heap.size < w'.heap.size) ∧ (w'.cell? ⟨g, n * 4, none⟩ = some (.bool e.v) ∧ w'.cell? ⟨g, n * 4 + 1, none⟩ = some (.int .u64 e.hi) ∧ w'.cell? ⟨g, n * 4 + 2, none⟩ = some (.int .u64 e.lo) ∧ w'.cell? ⟨g, n * 4 + 3, none⟩ = some (.int .i64 e.b) ∧ g < w'.heap.size) ∧ Below w.heap.size w w')
          (first | with_reducible exact HS2.out | with_reducible exact HS3.out | with_reducible exact HS4.out | with_reducible exact HS5.out | exact keepRu HS4.out hgB.out hpB.out hwB.out ((((((Below.refl w3.heap.size w4).setCell (Nat.le_refl _) _).setCell (Nat.le_refl _) _).setCell (Nat.le_refl _) _).setCell (Nat.le_refl _) _)) | fail)
          ((go_at_call 47; refine (HW.out _).mono ?_; rintro x w4 ⟨rfl, hb4⟩; first | ((with_reducible have HS4 := Lib.hid (keepR HS2.out hb4)); have HS5 := Lib.hid (keepR HS4.out (zal w4)); clear hb4) | ((with_reducible have HS4 := Lib.hid (keepR HS3.out hb4)); obtain ⟨⟨q0, q1, q2, q3⟩, ⟨q4, q5, q6, q7⟩, q8⟩ := HQ.out.below hb4; clear hb4)))
        · have HZ := Lib.hid HS5.out
          clear HS1 HS2 HS3 HS4 HS5 HQ HB1 x0 x1 x2 x3 x4 c0 c1 c2 c3 hb1 hg1
          generalize w4.alloc (.cells #[.bool false, .int .u64 0, .int .u64 0, .int .i64 0] 27) = W at *
          obtain ⟨⟨x0, x1, x2, x3, x4⟩, _, hbz⟩ := HZ.out
          have HBz : Hid (Below w.heap.size w W) := hbz
          have HOz : Hid (W.ownsRow B 27 4 (.slice (some ⟨g, 0, none⟩) (n + 1) c) (n + 1) (flat (R.reverse ++ [e]))) := own_keep HO.out HBz.out
          clear hbz HZ
          go_wp2_with (at_builtin; refine wpList_append_own _ rfl _ _ 22 rfl B 27 i0 _ 4 32 Try.underlying22 hi0 hz0 hz1 hz2 rfl (by decide) _ _ _ rfl (HOz.out.alloc _) ⟨W.heap.size, 0, none⟩ 1 1 [.bool p.v, .int .u64 p.hi, .int .u64 p.lo, .int .i64 p.b] rfl rfl ?c1 ?c2 ?c3 ?c4 ?c5 ?_)
          case c1 =>
            intro j u hj
            match j, hj with
            | 0, hj => simp at hj; subst hj; simp [Addr.add]
            | 1, hj => simp at hj; subst hj; simp [Addr.add]
            | 2, hj => simp at hj; subst hj; simp [Addr.add]
            | 3, hj => simp at hj; subst hj; simp [Addr.add]
            | (j + 4), hj => simp at hj
          case c2 => exact flat_one [p]
          case c3 => have := HL.out; unfold maxLen; omega
          case c4 => have := HL.out; omega
          case c5 => have := HBz.out.size; simp; omega
          intro v' w6 hown hgrow _
          have HO6 := Lib.hid hown
          have HG6 := Lib.hid hgrow
          clear hown hgrow
          go_wp2_with fail
          go_ret
          exact ⟨_, rfl, HP.out _ _ HO6.out, (below_le (bal HBz.out _) hB).grown HG6.out (by have := HBz.out.size; simp; omega) (fun k hk => (HOz.out.lt k hk).1)⟩
        · have HZ := Lib.hid (keepRu HS4.out hgB.out hpB.out hwB.out (((((Below.refl w3.heap.size w4).setCell (p := ⟨w3.heap.size, 0, none⟩) (Nat.le_refl _) (.bool false)).setCell (p := ⟨w3.heap.size, 1, none⟩) (Nat.le_refl _) (.int .u64 0)).setCell (p := ⟨w3.heap.size, 2, none⟩) (Nat.le_refl _) (.int .u64 0)).setCell (p := ⟨w3.heap.size, 3, none⟩) (Nat.le_refl _) (.int .i64 0)))
          clear HS1 HS2 HS3 HS4 HQ HB1 x0 x1 x2 x3 x4 c0 c1 c2 c3 hb1 hg1 q0 q1 q2 q3 q4 q5 q6 q7 q8
          generalize ((((w4.setCell ⟨w3.heap.size, 0, none⟩ (.bool false)).setCell ⟨w3.heap.size, 1, none⟩ (.int .u64 0)).setCell ⟨w3.heap.size, 2, none⟩ (.int .u64 0)).setCell ⟨w3.heap.size, 3, none⟩ (.int .i64 0)) = W at *
          obtain ⟨⟨x0, x1, x2, x3, x4⟩, _, hbz⟩ := HZ.out
          have HBz : Hid (Below w.heap.size w W) := hbz
          have HOz : Hid (W.ownsRow B 27 4 (.slice (some ⟨g, 0, none⟩) (n + 1) c) (n + 1) (flat (R.reverse ++ [e]))) := own_keep HO.out HBz.out
          clear hbz HZ
          go_wp2_with (at_builtin; refine wpList_append_own _ rfl _ _ 22 rfl B 27 i0 _ 4 32 Try.underlying22 hi0 hz0 hz1 hz2 rfl (by decide) _ _ _ rfl (HOz.out.alloc _) ⟨W.heap.size, 0, none⟩ 1 1 [.bool p.v, .int .u64 p.hi, .int .u64 p.lo, .int .i64 p.b] rfl rfl ?c1 ?c2 ?c3 ?c4 ?c5 ?_)
          case c1 =>
            intro j u hj
            match j, hj with
            | 0, hj => simp at hj; subst hj; simp [Addr.add]
            | 1, hj => simp at hj; subst hj; simp [Addr.add]
            | 2, hj => simp at hj; subst hj; simp [Addr.add]
            | 3, hj => simp at hj; subst hj; simp [Addr.add]
            | (j + 4), hj => simp at hj
          case c2 => exact flat_one [p]
          case c3 => have := HL.out; unfold maxLen; omega
          case c4 => have := HL.out; omega
          case c5 => have := HBz.out.size; simp; omega
          intro v' w6 hown hgrow _
          have HO6 := Lib.hid hown
          have HG6 := Lib.hid hgrow
          clear hown hgrow
          go_wp2_with fail
          go_ret
          exact ⟨_, rfl, HP.out _ _ HO6.out, (below_le (bal HBz.out _) hB).grown HG6.out (by have := HBz.out.size; simp; omega) (fun k hk => (HOz.out.lt k hk).1)⟩
end Go.Proofs.Ytlgdkdplkdkkdaa
