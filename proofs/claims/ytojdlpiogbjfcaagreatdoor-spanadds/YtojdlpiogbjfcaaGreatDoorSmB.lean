/- Package span: put, cut, norm, Norm, Has, Minus; spanBegun. -/
import Derived.Test.YtojdlpiogbjfcaaGreatDoorSmA
import Derived.OwnWalk
import Derived.Laws.AppendOwnNone
import Derived.Lib.AppendZeros
import Derived.Shelf.SlSortCmp.WholeK
import Derived.Test.YtojdlpiogbjfcaaGreatDoorShf
import Derived.Test.YtojdlpiogbjfcaaGreatDoorPfF
import Derived.Test.YtojdlpiogbjfcaaGreatDoorNetV
set_option linter.unusedVariables false
set_option linter.unusedSimpArgs false
namespace Go.Proofs.YtojdlpiogbjfcaaGreatDoor
open Go.RowKit

def Pf.cells (p : Pf) : List Value := [.bool p.v, .int .u64 p.hi, .int .u64 p.lo, .int .i64 p.b]
theorem flat_one' (p : Pf) : flat [p] = p.cells := rfl
theorem own_take {w : World} {B c : Nat} {a : Option Addr} {L : List Pf} {e : Pf} (h : w.ownsRow B 27 4 (.slice a (L.length + 1) c) (L.length + 1) (flat (L ++ [e]))) : w.ownsRow B 27 4 (.slice a L.length c) L.length (flat L) := by
  obtain ⟨h1, h2⟩ := h
  refine ⟨flat_len L, ?_⟩
  rcases h2 with ⟨_, h2⟩ | ⟨g, cap, cur, e1, e2, e3, e4, e5, e6, e7⟩
  · omega
  · injection e1 with e1 _ e1'
    subst e1 e1'
    refine .inr ⟨g, c, cur, rfl, e2, e3, by omega, e5, e6, ?_⟩
    have := congrArg (List.take (L.length * 4)) e7
    rw [List.take_take, Nat.min_eq_left (by omega), flat_append] at this
    rw [this, List.take_append_of_le_length (by rw [flat_len]; exact Nat.le_refl _), List.take_of_length_le (by rw [flat_len]; exact Nat.le_refl _)]
def Pf.agg (p : Pf) : Value := .agg #[.bool p.v, .int .u64 p.hi, .int .u64 p.lo, .int .i64 p.b]
theorem two_R {p q : Pf} (r : p.R) (s : q.R) : two (pchk p.v p.hi p.lo p.b) (pchk q.v q.hi q.lo q.b) = 0 := by
  rw [two, if_pos ((right_iff _ _ _ _ r.h0 r.h1 r.l0 r.l1).2 r)]; exact (right_iff _ _ _ _ s.h0 s.h1 s.l0 s.l1).2 s
theorem swhole_t {p q : Pf} (r : p.R) (s : q.R) (h : p.whole q = true) (w : World) :
    Calls Tryz.prog 15 #[.agg #[.bool p.v, .int .u64 p.hi, .int .u64 p.lo, .int .i64 p.b], .agg #[.bool q.v, .int .u64 q.hi, .int .u64 q.lo, .int .i64 q.b]] w fun e w' => e = .returned (.tuple #[.agg #[.bool p.up'.v, .int .u64 p.up'.hi, .int .u64 p.up'.lo, .int .i64 p.up'.b], .int .i64 0]) ∧ Below w.heap.size w w' := by
  unfold Pf.whole at h
  rw [Bool.and_eq_true, decide_eq_true_iff] at h
  exact whole_ok _ _ _ _ _ _ _ _ w r.h0 r.h1 r.l0 r.l1 s.h0 s.h1 s.l0 s.l1 (two_R r s) h.1 h.2
theorem swhole_f {p q : Pf} (r : p.R) (s : q.R) (h : p.whole q = false) (w : World) :
    Calls Tryz.prog 15 #[.agg #[.bool p.v, .int .u64 p.hi, .int .u64 p.lo, .int .i64 p.b], .agg #[.bool q.v, .int .u64 q.hi, .int .u64 q.lo, .int .i64 q.b]] w fun e w' => e = .returned (.tuple #[.agg #[.bool false, .int .u64 0, .int .u64 0, .int .i64 0], .int .i64 4]) ∧ Below w.heap.size w w' := by
  unfold Pf.whole at h
  by_cases hk : pchk p.v p.hi p.lo (p.b - 1) = 0
  · rw [decide_eq_true hk, Bool.true_and] at h
    exact whole_neq _ _ _ _ _ _ _ _ w r.h0 r.h1 r.l0 r.l1 s.h0 s.h1 s.l0 s.l1 (two_R r s) hk h
  · exact whole_chk _ _ _ _ _ _ _ _ w r.h0 r.h1 r.l0 r.l1 s.h0 s.h1 s.l0 s.l1 (two_R r s) hk

theorem keepRu {w W W' : World} {B g o p : Nat} {v : Bool} {hi lo b : Int} {u : Bool} {yi yo c : Int}
    (h : (W.cell? ⟨p, 0, none⟩ = some (.bool v) ∧ W.cell? ⟨p, 1, none⟩ = some (.int .u64 hi) ∧ W.cell? ⟨p, 2, none⟩ = some (.int .u64 lo) ∧ W.cell? ⟨p, 3, none⟩ = some (.int .i64 b) ∧ p < W.heap.size) ∧ (W.cell? ⟨g, o, none⟩ = some (.bool u) ∧ W.cell? ⟨g, o + 1, none⟩ = some (.int .u64 yi) ∧ W.cell? ⟨g, o + 2, none⟩ = some (.int .u64 yo) ∧ W.cell? ⟨g, o + 3, none⟩ = some (.int .i64 c) ∧ g < W.heap.size) ∧ Below w.heap.size w W)
    (hg : g < B) (hp : p < B) (hw : w.heap.size ≤ B) (hb : Below B W W') :
    (W'.cell? ⟨p, 0, none⟩ = some (.bool v) ∧ W'.cell? ⟨p, 1, none⟩ = some (.int .u64 hi) ∧ W'.cell? ⟨p, 2, none⟩ = some (.int .u64 lo) ∧ W'.cell? ⟨p, 3, none⟩ = some (.int .i64 b) ∧ p < W'.heap.size) ∧ (W'.cell? ⟨g, o, none⟩ = some (.bool u) ∧ W'.cell? ⟨g, o + 1, none⟩ = some (.int .u64 yi) ∧ W'.cell? ⟨g, o + 2, none⟩ = some (.int .u64 yo) ∧ W'.cell? ⟨g, o + 3, none⟩ = some (.int .i64 c) ∧ g < W'.heap.size) ∧ Below w.heap.size w W' := by
  obtain ⟨⟨a0, a1, a2, a3, a4⟩, ⟨c0, c1, c2, c3, c4⟩, h3⟩ := h
  have k : ∀ b o, b < B → W'.cell? ⟨b, o, none⟩ = W.cell? ⟨b, o, none⟩ := fun b o h => hb.cell (p := ⟨b, o, none⟩) h
  exact ⟨⟨by rw [k _ _ hp]; exact a0, by rw [k _ _ hp]; exact a1, by rw [k _ _ hp]; exact a2, by rw [k _ _ hp]; exact a3, Nat.lt_of_lt_of_le a4 hb.size⟩, ⟨by rw [k _ _ hg]; exact c0, by rw [k _ _ hg]; exact c1, by rw [k _ _ hg]; exact c2, by rw [k _ _ hg]; exact c3, Nat.lt_of_lt_of_le c4 hb.size⟩, h3.trans (below_le hb hw)⟩
theorem pal (w : World) (v : Bool) (hi lo b : Int) : Below w.heap.size w (w.alloc (.cells #[.bool v, .int .u64 hi, .int .u64 lo, .int .i64 b] 27)) := bal (Below.refl _ _) _
theorem zal (w : World) : Below w.heap.size w (w.alloc (.cells #[.bool false, .int .u64 0, .int .u64 0, .int .i64 0] 27)) := bal (Below.refl _ _) _
def putL (L : List Pf) (p : Pf) : List Pf := (putP L.reverse p).reverse
def PutPost (B : Nat) (w : World) (M : List Pf) (e : Ending) (w' : World) : Prop := ∃ v', e = .returned v' ∧ w'.ownsRow B 27 4 v' M.length (flat M) ∧ Below B w w'

set_option maxHeartbeats 16000000 in
set_option maxRecDepth 100000 in
theorem put_any : ∀ (R : List Pf) (p : Pf) (v : Value) (w : World) (B : Nat), (∀ e ∈ R, e.R) → p.R → R.length ≤ 4096 → B ≤ w.heap.size → w.ownsRow B 27 4 v R.reverse.length (flat R.reverse) →
    Calls Tryz.prog 43 #[v, .agg #[.bool p.v, .int .u64 p.hi, .int .u64 p.lo, .int .i64 p.b]] w (PutPost B w (putP R p).reverse)
  | [], p, v, w, B, hR, rp, hl, hB, ho => by
    obtain ⟨a, c, rfl, hc, _⟩ := own_sl ho
    obtain ⟨pv, ph, pl, pb⟩ := p
    obtain ⟨i0, hi0, hz0, hz1, hz2⟩ := info_parts infoP
    have HO : Hid (w.ownsRow B 27 4 (.slice a 0 c) 0 []) := ho
    simp only [List.reverse_nil, List.length_nil, putP, List.reverse_singleton]
    clear ho hR rp hl hc
    go_enter Tryz.func43, Tryz.ntmps43
    go_wp2_with (at_builtin; refine wpList_append_own _ rfl _ _ 22 rfl B 27 i0 _ 4 32 Tryz.underlying22 hi0 hz0 hz1 hz2 rfl (by decide) _ _ _ rfl ((HO.out.alloc _).alloc _) ⟨w.heap.size + 1, 0, none⟩ 1 1 [.bool pv, .int .u64 ph, .int .u64 pl, .int .i64 pb] rfl rfl ?c1 ?c2 ?c3 ?c4 ?c5 ?_)
    case c1 =>
      intro j u hj
      match j, hj with
      | 0, hj => simp at hj; subst hj; simp [Addr.add]
      | 1, hj => simp at hj; subst hj; simp [Addr.add]
      | 2, hj => simp at hj; subst hj; simp [Addr.add]
      | 3, hj => simp at hj; subst hj; simp [Addr.add]
      | (j + 4), hj => simp at hj
    case c2 => exact flat_one [⟨pv, ph, pl, pb⟩]
    case c3 => unfold maxLen; omega
    case c4 => omega
    case c5 => simp; omega
    intro v' w4 hown hgrow _
    go_wp2_with fail
    go_ret
    exact ⟨_, rfl, hown, (below_le (bal (bal (Below.refl _ _) _) _) hB).grown hgrow (by simp; omega) (fun k hk => (HO.out.lt k hk).1)⟩
  | e :: R, p, v, w, B, hR, rp, hl, hB, ho => by
    obtain ⟨a, c, rfl, hc, hs⟩ := own_sl ho
    have re := hR e (by simp)
    obtain ⟨n, hn⟩ : ∃ n, n = R.length := ⟨_, rfl⟩
    have hlen : (e :: R).reverse.length = n + 1 := by simp [hn]
    have hat : ((e :: R).reverse)[n]'(by omega) = e := by
      simp [hn]
    obtain ⟨g, o, rfl, hg, c0, c1, c2, c3⟩ := hs n (by omega)
    rw [hat] at c0 c1 c2 c3
    have ho0 : o = 0 := by
      rcases ho.2 with ⟨h, _⟩ | ⟨g', c', cur, h, _⟩
      · injection h with h; exact absurd h (by simp)
      · injection h with h; injection h with h; injection h
    subst ho0
    simp only [Nat.zero_add] at c0 c1 c2 c3
    rw [hlen] at ho hc ⊢
    have HS : Hid (∀ w : World, Calls Tryz.prog 44 #[.agg #[.bool e.v, .int .u64 e.hi, .int .u64 e.lo, .int .i64 e.b], .agg #[.bool p.v, .int .u64 p.hi, .int .u64 p.lo, .int .i64 p.b]] w fun x w' => x = .returned (.bool (e.has p)) ∧ Below w.heap.size w w') := fun w => shas_any e p w re rp
    have HO : Hid (w.ownsRow B 27 4 (.slice (some ⟨g, 0, none⟩) (n + 1) c) (n + 1) (flat (R.reverse ++ [e]))) := by rw [← List.reverse_cons]; exact ho
    have k1 : wrap64 (n : Int) = (n : Int) := by unfold wrap64; simp at hl; omega
    have k2 : (0 : Int) ≤ (n : Int) := by omega
    have k3 : (n : Int) < (n : Int) + 1 := by omega
    have k4 : ((n : Int) + 1 == 0) = false := by rw [beq_eq_false_iff_ne]; omega
    have hB1 : Hid (Below w.heap.size w (w.alloc (.cells #[.bool p.v, .int .u64 p.hi, .int .u64 p.lo, .int .i64 p.b] 27))) := bal (Below.refl _ _) _
    have k5 : (n : Int) ≤ (c : Int) := by omega
    have k6 : (n : Int) ≤ (n : Int) + 1 := by omega
    have C0 : Hid (w.cell? ⟨g, n * 4, none⟩ = some (.bool e.v) ∧ w.cell? ⟨g, n * 4 + 1, none⟩ = some (.int .u64 e.hi) ∧ w.cell? ⟨g, n * 4 + 2, none⟩ = some (.int .u64 e.lo) ∧ w.cell? ⟨g, n * 4 + 3, none⟩ = some (.int .i64 e.b)) := ⟨c0, c1, c2, c3⟩
    have HX : Hid (Has4 (w.alloc (.cells #[.bool p.v, .int .u64 p.hi, .int .u64 p.lo, .int .i64 p.b] 27)).drew w.heap.size p.v p.hi p.lo p.b) := Has4.new w p.v p.hi p.lo p.b 27
    by_cases h : e.has p = true
    · rw [h] at HS
      have HP : Hid (∀ (v' : Value) (w' : World), w'.ownsRow B 27 4 v' (n + 1) (flat (R.reverse ++ [e])) → w'.ownsRow B 27 4 v' (putP (e :: R) p).reverse.length (flat (putP (e :: R) p).reverse)) := fun v' w' h' => by
        rw [putP, if_pos h, hlen, List.reverse_cons]; exact h'
      clear ho hs hR rp re hl hat hlen hn h
      go_enter Tryz.func43, Tryz.ntmps43
      go_wp2_with fail
      go_region_with (go_at_call 44; refine (HS.out _).mono ?_; rintro x w3 ⟨rfl, hb3⟩; have HB3 := Lib.hid (btr hB1.out.drew hb3); clear hb3)
      all_goals
        go_wp2_with fail
        go_ret
        exact ⟨_, rfl, HP.out _ _ (own_keep HO.out HB3.out), below_le HB3.out hB⟩
    · have hf : e.has p = false := by simpa using h
      rw [hf] at HS
      by_cases hw : e.whole p = true
      · have HW : Hid (∀ w : World, Calls Tryz.prog 15 #[.agg #[.bool e.v, .int .u64 e.hi, .int .u64 e.lo, .int .i64 e.b], .agg #[.bool p.v, .int .u64 p.hi, .int .u64 p.lo, .int .i64 p.b]] w fun x w' => x = .returned (.tuple #[.agg #[.bool e.up'.v, .int .u64 e.up'.hi, .int .u64 e.up'.lo, .int .i64 e.up'.b], .int .i64 0]) ∧ Below w.heap.size w w') := fun w => swhole_t re rp hw w
        have IH : Hid (∀ (w' : World), B ≤ w'.heap.size → w'.ownsRow B 27 4 (.slice (some ⟨g, 0, none⟩) n c) n (flat R.reverse) → Calls Tryz.prog 43 #[.slice (some ⟨g, 0, none⟩) n c, .agg #[.bool e.up'.v, .int .u64 e.up'.hi, .int .u64 e.up'.lo, .int .i64 e.up'.b]] w' (PutPost B w' (putP (e :: R) p).reverse)) := fun w' h1 h2 => by
          have := put_any R e.up' (.slice (some ⟨g, 0, none⟩) n c) w' B (fun x hx => hR x (by simp [hx])) (up_R re hw) (by simp at hl; omega) h1 (by rw [List.length_reverse, ← hn]; exact h2)
          rw [putP, if_neg h, if_pos hw]; exact this
        have HO2 : Hid (w.ownsRow B 27 4 (.slice (some ⟨g, 0, none⟩) n c) n (flat R.reverse)) := by
          have := own_take (L := R.reverse) (e := e) (a := some ⟨g, 0, none⟩) (B := B) (w := w) (c := c) (by rw [List.length_reverse, ← hn]; exact HO.out)
          rw [List.length_reverse, ← hn] at this; exact this
        clear ho hs hR rp re hl hat hlen hn h hf hw
        go_enter Tryz.func43, Tryz.ntmps43
        go_wp2_with fail
        go_region_held3 (fun w' => (w'.cell? ⟨w.heap.size, 0, none⟩ = some (.bool p.v) ∧ w'.cell? ⟨w.heap.size, 1, none⟩ = some (.int .u64 p.hi) ∧ w'.cell? ⟨w.heap.size, 2, none⟩ = some (.int .u64 p.lo) ∧ w'.cell? ⟨w.heap.size, 3, none⟩ = some (.int .i64 p.b) ∧ w.heap.size < w'.heap.size) ∧ (w'.cell? ⟨g, n * 4, none⟩ = some (.bool e.v) ∧ w'.cell? ⟨g, n * 4 + 1, none⟩ = some (.int .u64 e.hi) ∧ w'.cell? ⟨g, n * 4 + 2, none⟩ = some (.int .u64 e.lo) ∧ w'.cell? ⟨g, n * 4 + 3, none⟩ = some (.int .i64 e.b) ∧ g < w'.heap.size) ∧ Below w.heap.size w w')
          (first | exact ⟨HX.out, ⟨((bcell hB1.out).1 _ _ hg).trans c0, ((bcell hB1.out).1 _ _ hg).trans c1, ((bcell hB1.out).1 _ _ hg).trans c2, ((bcell hB1.out).1 _ _ hg).trans c3, Nat.lt_of_lt_of_le hg hB1.out.size⟩, hB1.out.drew⟩ | exact keepR (by assumption) (by assumption))
          ((go_at_call 44; refine (HS.out _).mono ?_; rintro x w3 ⟨rfl, hb3⟩))
        clear c0 c1 c2 c3
        have HS1 := Lib.hid (show (w3.cell? ⟨w.heap.size, 0, none⟩ = some (.bool p.v) ∧ w3.cell? ⟨w.heap.size, 1, none⟩ = some (.int .u64 p.hi) ∧ w3.cell? ⟨w.heap.size, 2, none⟩ = some (.int .u64 p.lo) ∧ w3.cell? ⟨w.heap.size, 3, none⟩ = some (.int .i64 p.b) ∧ w.heap.size < w3.heap.size) ∧ (w3.cell? ⟨g, n * 4, none⟩ = some (.bool e.v) ∧ w3.cell? ⟨g, n * 4 + 1, none⟩ = some (.int .u64 e.hi) ∧ w3.cell? ⟨g, n * 4 + 2, none⟩ = some (.int .u64 e.lo) ∧ w3.cell? ⟨g, n * 4 + 3, none⟩ = some (.int .i64 e.b) ∧ g < w3.heap.size) ∧ Below w.heap.size w w3 by assumption)
        have HB1 := Lib.hid hb3
        clear HX C0 hB1 hb3
        obtain ⟨⟨x0, x1, x2, x3, x4⟩, ⟨c0, c1, c2, c3, hg1⟩, hb1⟩ := HS1.out
        go_wp2_with fail
        have hgB : Hid (g < w3.heap.size) := hg1
        have hpB : Hid (w.heap.size < w3.heap.size) := x4
        have hwB : Hid (w.heap.size ≤ w3.heap.size) := Nat.le_of_lt x4
        have HS2 := Lib.hid (keepR HS1.out (show Below w3.heap.size w3 w3.drew from (Below.refl _ _).drew))
        have HQ : Hid (Own4 (w3.alloc (.cells #[.bool false, .int .u64 0, .int .u64 0, .int .i64 0] 27)).drew w3.heap.size (.bool false) (.int .u64 0) (.int .u64 0) (.int .i64 0)) := Own4.new w3 (.bool false) (.int .u64 0) (.int .u64 0) (.int .i64 0) 27
        have HS3 := Lib.hid (keepR HS1.out (show Below w3.heap.size w3 (w3.alloc (.cells #[.bool false, .int .u64 0, .int .u64 0, .int .i64 0] 27)).drew from (bal (Below.refl _ _) _).drew))
        go_region_held3 (fun w' => (w'.cell? ⟨w.heap.size, 0, none⟩ = some (.bool p.v) ∧ w'.cell? ⟨w.heap.size, 1, none⟩ = some (.int .u64 p.hi) ∧ w'.cell? ⟨w.heap.size, 2, none⟩ = some (.int .u64 p.lo) ∧ w'.cell? ⟨w.heap.size, 3, none⟩ = some (.int .i64 p.b) ∧ w.heap.size < w'.heap.size) ∧ (w'.cell? ⟨g, n * 4, none⟩ = some (.bool e.v) ∧ w'.cell? ⟨g, n * 4 + 1, none⟩ = some (.int .u64 e.hi) ∧ w'.cell? ⟨g, n * 4 + 2, none⟩ = some (.int .u64 e.lo) ∧ w'.cell? ⟨g, n * 4 + 3, none⟩ = some (.int .i64 e.b) ∧ g < w'.heap.size) ∧ Below w.heap.size w w')
          (first | with_reducible exact HS2.out | with_reducible exact HS3.out | with_reducible exact HS4.out | with_reducible exact HS5.out | with_reducible exact HS6.out | exact keepRu HS4.out hgB.out hpB.out hwB.out ((((((Below.refl w3.heap.size w4).setCell (Nat.le_refl _) _).setCell (Nat.le_refl _) _).setCell (Nat.le_refl _) _).setCell (Nat.le_refl _) _)) | fail)
          ((go_at_call 15; refine (HW.out _).mono ?_; rintro x w4 ⟨rfl, hb4⟩; first | ((with_reducible have HS4 := Lib.hid (keepR HS2.out hb4)); have HS5 := Lib.hid (keepR HS4.out (zal w4)); have HS6 := Lib.hid (keepR HS4.out (pal w4 e.up'.v e.up'.hi e.up'.lo e.up'.b)); clear hb4) | ((with_reducible have HS4 := Lib.hid (keepR HS3.out hb4)); obtain ⟨⟨q0, q1, q2, q3⟩, ⟨q4, q5, q6, q7⟩, q8⟩ := HQ.out.below hb4; clear hb4)))
        · have HN := Lib.hid (Has4.new w4 e.up'.v e.up'.hi e.up'.lo e.up'.b 27)
          have HBz := Lib.hid HS6.out.2.2
          clear HS1 HS2 HS3 HS4 HS5 HS6 HQ HB1 x0 x1 x2 x3 x4 c0 c1 c2 c3 hb1 hg1
          go_wp2_with fail
          generalize w4.alloc (.cells #[.bool e.up'.v, .int .u64 e.up'.hi, .int .u64 e.up'.lo, .int .i64 e.up'.b] 27) = W at *
          have HBd : Hid (Below w.heap.size w W.drew) := HBz.out.drew
          have HBs : Hid (B ≤ W.drew.heap.size) := Nat.le_trans hB HBd.out.size
          have HOz : Hid (W.drew.ownsRow B 27 4 (.slice (some ⟨g, 0, none⟩) n c) n (flat R.reverse)) := own_keep HO2.out HBd.out
          clear HBz
          obtain ⟨n0, n1, n2, n3, n4⟩ := HN.out
          go_region_with (go_at_call 43; refine (IH.out _ HBs.out HOz.out).mono ?_; rintro x w5 ⟨v5, rfl, hown5, hb5⟩; have HO5 := Lib.hid hown5; have HB5 := Lib.hid hb5; clear hown5 hb5)
          all_goals
            go_wp2_with fail
            go_ret
            exact ⟨_, rfl, HO5.out, (below_le HBd.out hB).trans HB5.out⟩
        · have HN : Hid (Has4 ((((w4.setCell ⟨w3.heap.size, 0, none⟩ (.bool e.up'.v)).setCell ⟨w3.heap.size, 1, none⟩ (.int .u64 e.up'.hi)).setCell ⟨w3.heap.size, 2, none⟩ (.int .u64 e.up'.lo)).setCell ⟨w3.heap.size, 3, none⟩ (.int .i64 e.up'.b)) w3.heap.size e.up'.v e.up'.hi e.up'.lo e.up'.b) := ⟨by simp [go_sem, q0, q1, q2, q3], by simp [go_sem, q0, q1, q2, q3], by simp [go_sem, q0, q1, q2, q3], by simp [go_sem, q0, q1, q2, q3], by simpa using q8⟩
          have HBz : Hid (Below w.heap.size w ((((w4.setCell ⟨w3.heap.size, 0, none⟩ (.bool e.up'.v)).setCell ⟨w3.heap.size, 1, none⟩ (.int .u64 e.up'.hi)).setCell ⟨w3.heap.size, 2, none⟩ (.int .u64 e.up'.lo)).setCell ⟨w3.heap.size, 3, none⟩ (.int .i64 e.up'.b))) := (((HS4.out.2.2.setCell hwB.out _).setCell hwB.out _).setCell hwB.out _).setCell hwB.out _
          clear HS1 HS2 HS3 HS4 HQ HB1 x0 x1 x2 x3 x4 c0 c1 c2 c3 hb1 hg1 q0 q1 q2 q3 q4 q5 q6 q7 q8
          go_wp2_with fail
          generalize ((((w4.setCell ⟨w3.heap.size, 0, none⟩ (.bool e.up'.v)).setCell ⟨w3.heap.size, 1, none⟩ (.int .u64 e.up'.hi)).setCell ⟨w3.heap.size, 2, none⟩ (.int .u64 e.up'.lo)).setCell ⟨w3.heap.size, 3, none⟩ (.int .i64 e.up'.b)) = W at *
          have HBd : Hid (Below w.heap.size w W.drew) := HBz.out.drew
          have HBs : Hid (B ≤ W.drew.heap.size) := Nat.le_trans hB HBd.out.size
          have HOz : Hid (W.drew.ownsRow B 27 4 (.slice (some ⟨g, 0, none⟩) n c) n (flat R.reverse)) := own_keep HO2.out HBd.out
          clear HBz
          obtain ⟨n0, n1, n2, n3, n4⟩ := HN.out
          go_region_with (go_at_call 43; refine (IH.out _ HBs.out HOz.out).mono ?_; rintro x w5 ⟨v5, rfl, hown5, hb5⟩; have HO5 := Lib.hid hown5; have HB5 := Lib.hid hb5; clear hown5 hb5)
          all_goals
            go_wp2_with fail
            go_ret
            exact ⟨_, rfl, HO5.out, (below_le HBd.out hB).trans HB5.out⟩
      · have hwf : e.whole p = false := by simpa using hw
        have HW : Hid (∀ w : World, Calls Tryz.prog 15 #[.agg #[.bool e.v, .int .u64 e.hi, .int .u64 e.lo, .int .i64 e.b], .agg #[.bool p.v, .int .u64 p.hi, .int .u64 p.lo, .int .i64 p.b]] w fun x w' => x = .returned (.tuple #[.agg #[.bool false, .int .u64 0, .int .u64 0, .int .i64 0], .int .i64 4]) ∧ Below w.heap.size w w') := fun w => swhole_f re rp hwf w
        have HP : Hid (∀ (v' : Value) (w' : World), w'.ownsRow B 27 4 v' (n + 1 + 1) (flat (R.reverse ++ [e]) ++ [.bool p.v, .int .u64 p.hi, .int .u64 p.lo, .int .i64 p.b]) → w'.ownsRow B 27 4 v' (putP (e :: R) p).reverse.length (flat (putP (e :: R) p).reverse)) := fun v' w' h' => by
          rw [putP, if_neg h, if_neg hw, List.length_reverse, List.length_cons, List.length_cons, ← hn, List.reverse_cons, flat_append, List.reverse_cons]; exact h'
        have HL : Hid (n + 1 ≤ 4096) := Lib.hid (by simp at hl; omega)
        obtain ⟨i0, hi0, hz0, hz1, hz2⟩ := info_parts infoP
        clear ho hs hR rp re hl hat hlen hn h hf hw hwf
        go_enter Tryz.func43, Tryz.ntmps43
        go_wp2_with fail
        go_region_held3 (fun w' => (w'.cell? ⟨w.heap.size, 0, none⟩ = some (.bool p.v) ∧ w'.cell? ⟨w.heap.size, 1, none⟩ = some (.int .u64 p.hi) ∧ w'.cell? ⟨w.heap.size, 2, none⟩ = some (.int .u64 p.lo) ∧ w'.cell? ⟨w.heap.size, 3, none⟩ = some (.int .i64 p.b) ∧ w.heap.size < w'.heap.size) ∧ (w'.cell? ⟨g, n * 4, none⟩ = some (.bool e.v) ∧ w'.cell? ⟨g, n * 4 + 1, none⟩ = some (.int .u64 e.hi) ∧ w'.cell? ⟨g, n * 4 + 2, none⟩ = some (.int .u64 e.lo) ∧ w'.cell? ⟨g, n * 4 + 3, none⟩ = some (.int .i64 e.b) ∧ g < w'.heap.size) ∧ Below w.heap.size w w')
          (first | exact ⟨HX.out, ⟨((bcell hB1.out).1 _ _ hg).trans c0, ((bcell hB1.out).1 _ _ hg).trans c1, ((bcell hB1.out).1 _ _ hg).trans c2, ((bcell hB1.out).1 _ _ hg).trans c3, Nat.lt_of_lt_of_le hg hB1.out.size⟩, hB1.out.drew⟩ | exact keepR (by assumption) (by assumption))
          ((go_at_call 44; refine (HS.out _).mono ?_; rintro x w3 ⟨rfl, hb3⟩))
        clear c0 c1 c2 c3
        have HS1 := Lib.hid (show (w3.cell? ⟨w.heap.size, 0, none⟩ = some (.bool p.v) ∧ w3.cell? ⟨w.heap.size, 1, none⟩ = some (.int .u64 p.hi) ∧ w3.cell? ⟨w.heap.size, 2, none⟩ = some (.int .u64 p.lo) ∧ w3.cell? ⟨w.heap.size, 3, none⟩ = some (.int .i64 p.b) ∧ w.heap.size < w3.heap.size) ∧ (w3.cell? ⟨g, n * 4, none⟩ = some (.bool e.v) ∧ w3.cell? ⟨g, n * 4 + 1, none⟩ = some (.int .u64 e.hi) ∧ w3.cell? ⟨g, n * 4 + 2, none⟩ = some (.int .u64 e.lo) ∧ w3.cell? ⟨g, n * 4 + 3, none⟩ = some (.int .i64 e.b) ∧ g < w3.heap.size) ∧ Below w.heap.size w w3 by assumption)
        have HB1 := Lib.hid hb3
        clear HX C0 hB1 hb3
        obtain ⟨⟨x0, x1, x2, x3, x4⟩, ⟨c0, c1, c2, c3, hg1⟩, hb1⟩ := HS1.out
        go_wp2_with fail
        have hgB : Hid (g < w3.heap.size) := hg1
        have hpB : Hid (w.heap.size < w3.heap.size) := x4
        have hwB : Hid (w.heap.size ≤ w3.heap.size) := Nat.le_of_lt x4
        have HS2 := Lib.hid (keepR HS1.out (show Below w3.heap.size w3 w3.drew from (Below.refl _ _).drew))
        have HQ : Hid (Own4 (w3.alloc (.cells #[.bool false, .int .u64 0, .int .u64 0, .int .i64 0] 27)).drew w3.heap.size (.bool false) (.int .u64 0) (.int .u64 0) (.int .i64 0)) := Own4.new w3 (.bool false) (.int .u64 0) (.int .u64 0) (.int .i64 0) 27
        have HS3 := Lib.hid (keepR HS1.out (show Below w3.heap.size w3 (w3.alloc (.cells #[.bool false, .int .u64 0, .int .u64 0, .int .i64 0] 27)).drew from (bal (Below.refl _ _) _).drew))
        go_region_held3 (fun w' => (w'.cell? ⟨w.heap.size, 0, none⟩ = some (.bool p.v) ∧ w'.cell? ⟨w.heap.size, 1, none⟩ = some (.int .u64 p.hi) ∧ w'.cell? ⟨w.heap.size, 2, none⟩ = some (.int .u64 p.lo) ∧ w'.cell? ⟨w.heap.size, 3, none⟩ = some (.int .i64 p.b) ∧ w.heap.size < w'.heap.size) ∧ (w'.cell? ⟨g, n * 4, none⟩ = some (.bool e.v) ∧ w'.cell? ⟨g, n * 4 + 1, none⟩ = some (.int .u64 e.hi) ∧ w'.cell? ⟨g, n * 4 + 2, none⟩ = some (.int .u64 e.lo) ∧ w'.cell? ⟨g, n * 4 + 3, none⟩ = some (.int .i64 e.b) ∧ g < w'.heap.size) ∧ Below w.heap.size w w')
          (first | with_reducible exact HS2.out | with_reducible exact HS3.out | with_reducible exact HS4.out | with_reducible exact HS5.out | exact keepRu HS4.out hgB.out hpB.out hwB.out ((((((Below.refl w3.heap.size w4).setCell (Nat.le_refl _) _).setCell (Nat.le_refl _) _).setCell (Nat.le_refl _) _).setCell (Nat.le_refl _) _)) | fail)
          ((go_at_call 15; refine (HW.out _).mono ?_; rintro x w4 ⟨rfl, hb4⟩; first | ((with_reducible have HS4 := Lib.hid (keepR HS2.out hb4)); have HS5 := Lib.hid (keepR HS4.out (zal w4)); clear hb4) | ((with_reducible have HS4 := Lib.hid (keepR HS3.out hb4)); obtain ⟨⟨q0, q1, q2, q3⟩, ⟨q4, q5, q6, q7⟩, q8⟩ := HQ.out.below hb4; clear hb4)))
        · have HZ := Lib.hid HS5.out
          clear HS1 HS2 HS3 HS4 HS5 HQ HB1 x0 x1 x2 x3 x4 c0 c1 c2 c3 hb1 hg1
          generalize w4.alloc (.cells #[.bool false, .int .u64 0, .int .u64 0, .int .i64 0] 27) = W at *
          obtain ⟨⟨x0, x1, x2, x3, x4⟩, _, hbz⟩ := HZ.out
          have HBz : Hid (Below w.heap.size w W) := hbz
          have HOz : Hid (W.ownsRow B 27 4 (.slice (some ⟨g, 0, none⟩) (n + 1) c) (n + 1) (flat (R.reverse ++ [e]))) := own_keep HO.out HBz.out
          clear hbz HZ
          go_wp2_with (at_builtin; refine wpList_append_own _ rfl _ _ 22 rfl B 27 i0 _ 4 32 Tryz.underlying22 hi0 hz0 hz1 hz2 rfl (by decide) _ _ _ rfl (HOz.out.alloc _) ⟨W.heap.size, 0, none⟩ 1 1 [.bool p.v, .int .u64 p.hi, .int .u64 p.lo, .int .i64 p.b] rfl rfl ?c1 ?c2 ?c3 ?c4 ?c5 ?_)
          case c1 =>
            intro j u hj
            match j, hj with
            | 0, hj => simp at hj; subst hj; simp [Addr.add]
            | 1, hj => simp at hj; subst hj; simp [Addr.add]
            | 2, hj => simp at hj; subst hj; simp [Addr.add]
            | 3, hj => simp at hj; subst hj; simp [Addr.add]
            | (j + 4), hj => simp at hj
          case c2 => exact flat_one [p]
          case c3 => have := HL.out; unfold maxLen; omega
          case c4 => have := HL.out; omega
          case c5 => have := HBz.out.size; simp; omega
          intro v' w6 hown hgrow _
          have HO6 := Lib.hid hown
          have HG6 := Lib.hid hgrow
          clear hown hgrow
          go_wp2_with fail
          go_ret
          exact ⟨_, rfl, HP.out _ _ HO6.out, (below_le (bal HBz.out _) hB).grown HG6.out (by have := HBz.out.size; simp; omega) (fun k hk => (HOz.out.lt k hk).1)⟩
        · have HZ := Lib.hid (keepRu HS4.out hgB.out hpB.out hwB.out (((((Below.refl w3.heap.size w4).setCell (p := ⟨w3.heap.size, 0, none⟩) (Nat.le_refl _) (.bool false)).setCell (p := ⟨w3.heap.size, 1, none⟩) (Nat.le_refl _) (.int .u64 0)).setCell (p := ⟨w3.heap.size, 2, none⟩) (Nat.le_refl _) (.int .u64 0)).setCell (p := ⟨w3.heap.size, 3, none⟩) (Nat.le_refl _) (.int .i64 0)))
          clear HS1 HS2 HS3 HS4 HQ HB1 x0 x1 x2 x3 x4 c0 c1 c2 c3 hb1 hg1 q0 q1 q2 q3 q4 q5 q6 q7 q8
          generalize ((((w4.setCell ⟨w3.heap.size, 0, none⟩ (.bool false)).setCell ⟨w3.heap.size, 1, none⟩ (.int .u64 0)).setCell ⟨w3.heap.size, 2, none⟩ (.int .u64 0)).setCell ⟨w3.heap.size, 3, none⟩ (.int .i64 0)) = W at *
          obtain ⟨⟨x0, x1, x2, x3, x4⟩, _, hbz⟩ := HZ.out
          have HBz : Hid (Below w.heap.size w W) := hbz
          have HOz : Hid (W.ownsRow B 27 4 (.slice (some ⟨g, 0, none⟩) (n + 1) c) (n + 1) (flat (R.reverse ++ [e]))) := own_keep HO.out HBz.out
          clear hbz HZ
          go_wp2_with (at_builtin; refine wpList_append_own _ rfl _ _ 22 rfl B 27 i0 _ 4 32 Tryz.underlying22 hi0 hz0 hz1 hz2 rfl (by decide) _ _ _ rfl (HOz.out.alloc _) ⟨W.heap.size, 0, none⟩ 1 1 [.bool p.v, .int .u64 p.hi, .int .u64 p.lo, .int .i64 p.b] rfl rfl ?c1 ?c2 ?c3 ?c4 ?c5 ?_)
          case c1 =>
            intro j u hj
            match j, hj with
            | 0, hj => simp at hj; subst hj; simp [Addr.add]
            | 1, hj => simp at hj; subst hj; simp [Addr.add]
            | 2, hj => simp at hj; subst hj; simp [Addr.add]
            | 3, hj => simp at hj; subst hj; simp [Addr.add]
            | (j + 4), hj => simp at hj
          case c2 => exact flat_one [p]
          case c3 => have := HL.out; unfold maxLen; omega
          case c4 => have := HL.out; omega
          case c5 => have := HBz.out.size; simp; omega
          intro v' w6 hown hgrow _
          have HO6 := Lib.hid hown
          have HG6 := Lib.hid hgrow
          clear hown hgrow
          go_wp2_with fail
          go_ret
          exact ⟨_, rfl, HP.out _ _ HO6.out, (below_le (bal HBz.out _) hB).grown HG6.out (by have := HBz.out.size; simp; omega) (fun k hk => (HOz.out.lt k hk).1)⟩
end Go.Proofs.YtojdlpiogbjfcaaGreatDoor

namespace Go.Proofs.YtojdlpiogbjfcaaGreatDoor
open Go.RowKit

theorem wpList_append_pfs {P : Program} {w : World} {ops : Array Oper} {rest : List Oper} {o : Oper} {a : Act} {Q : Exit → Act → World → Prop} (hgd : o.guard = none) (s x : Operand) (t : TypeId)
    (ho : o.op = .call { callee := .builtin .append, args := #[s, x], argTypes := #[t, t] })
    (base : Nat) (i : TypeInfo) (z : Value) (ht : P.underlying t = some (.slice 27)) (hi : P.info? 27 = some i) (hz : i.zero = some z)
    (hsize : i.size = 4) (hby : i.bytes = 32) (hzs : z.cells.size = 4)
    (v : Value) (xs : List Pf) (hs : a.eval s = v) (hown : w.ownsRow base 27 4 v xs.length (flat xs))
    (vx : Value) (B2 : Nat) (ys : List Pf) (hx : a.eval x = vx) (hown2 : w.ownsRow B2 27 4 vx ys.length (flat ys))
    (h63 : xs.length + ys.length ≤ 100000) (hbase : base ≤ w.heap.size)
    (h : ∀ v' w', w'.ownsRow base 27 4 v' (xs ++ ys).length (flat (xs ++ ys)) → w.grownBy w' v.ownBlock → wpList P ops Q rest (a.put o.dst v') w') : wpList P ops Q (o :: rest) a w := by
  obtain ⟨ad, c, rfl, hc, hsl⟩ := own_sl hown2
  obtain ⟨hl, h2⟩ := hown2
  rcases h2 with ⟨e, h0⟩ | ⟨g, cap, cur, e, hg, h3⟩
  · have : ys = [] := List.length_eq_zero_iff.1 h0
    subst this
    rw [e] at hx
    refine wpList_append_own_none hgd s x t ho base 27 i 4 ht hi v xs.length (flat xs) hs hown hx ?_
    exact h v w (by simpa using hown) (World.grownBy.refl _ _)
  · injection e with e1 e2 e3
    subst e1 e3
    refine wpList_append_own w hgd s x t ho base 27 i z 4 32 ht hi hz hsize hby hzs (by decide) v xs.length (flat xs) hs hown ⟨g, 0, none⟩ ys.length c (flat ys) hx hl (sl_news hsl) (flat_one _) (by unfold maxLen; omega) (by omega) hbase (fun v' w' a b _ => h v' w' ?_ b)
    rw [List.length_append, flat_append]; exact a

set_option maxHeartbeats 2000000 in
set_option maxRecDepth 100000 in
theorem growP_any (n : Nat) (w : World) (h0 : 0 < n) (h1 : n ≤ 100000) :
    Calls Tryz.prog 57 #[.slice none 0 0, .int .i64 n] w fun e w' => ∃ v, e = .returned v ∧ w'.ownsRow w.heap.size 27 4 v 0 [] ∧ Below w.heap.size w w' := by
  obtain ⟨i0, hi, hz0, hz1, hz2⟩ := info_parts infoP
  have hrz := Lib.run_append_nil_zeros (P := Tryz.prog) w 22 3 22 27 i0 (.agg #[.bool false, .int .u64 0, .int .u64 0, .int .i64 0]) .i64 .i64 Tryz.underlying22 Tryz.underlying3 hi hz0 n h0 (by omega) (by omega) (by rw [hz2]; omega)
  have hGn : n ≤ grownCap w n 0 27 := grownCap_ge w _ _ _
  have hGm : grownCap w n 0 27 ≤ maxLen := grownCap_le_maxLen w n 0 _ (by unfold maxLen; omega)
  obtain ⟨G, hG⟩ : ∃ G, G = grownCap w n 0 27 := ⟨_, rfl⟩
  rw [← hG] at hrz hGn hGm
  have hsz : (Builtin.zeroCells (Value.agg #[.bool false, .int .u64 0, .int .u64 0, .int .i64 0]).cells n ++ Builtin.zeroCells (Value.agg #[.bool false, .int .u64 0, .int .u64 0, .int .i64 0]).cells (G - n)).size = G * 4 := by
    rw [Array.size_append, size_zeroCells, size_zeroCells]; simp [Value.cells]; omega
  generalize (Builtin.zeroCells (Value.agg #[.bool false, .int .u64 0, .int .u64 0, .int .i64 0]).cells n ++ Builtin.zeroCells (Value.agg #[.bool false, .int .u64 0, .int .u64 0, .int .i64 0]).cells (G - n)) = zs at hrz hsz
  have HZ : Hid (zs.size = G * 4) := hsz
  have HM : Hid (G ≤ maxLen) := hGm
  have hn0 : (0 : Int) < (n : Int) := by omega
  have hG64 : (G : Int) ≤ 9223372036854775807 := by have := HM.out; unfold maxLen at this; omega
  clear hG hsz hGm
  have HR : Hid ((Builtin.append_ #[22, 3] 22 #[.slice none 0 0, .int .i64 n]).run Tryz.prog w = .ok (.slice (some ⟨w.heap.size, 0, none⟩) n G) (w.drew.alloc (.cells zs 27))) := hrz
  clear hrz
  go_enter Tryz.func57, Tryz.ntmps57
  go_wp2_with (at_builtin; refine Lib.wpList_append_run _ rfl _ _ _ _ rfl _ _ rfl rfl _ _ HR.out ?_)
  go_ret
  refine ⟨_, rfl, ⟨rfl, .inr ⟨w.heap.size, G, zs, rfl, Nat.le_refl _, ?_, Nat.zero_le _, HM.out, ?_, ?_⟩⟩, ?_⟩
  · simp [World.alloc, World.drew, -World.alloc_eq, -World.drew_eq]
  · rw [HZ.out]
  · simp
  · exact (bal (Below.refl _ _) _).drew

set_option maxHeartbeats 4000000 in
set_option maxRecDepth 100000 in
theorem concatP_any (b B1 B2 : Nat) (a1 a2 : Option Addr) (n1 n2 c1 c2 : Nat) (g1 g2 : List Pf) (w : World)
    (e1 : g1.length = n1) (e2 : g2.length = n2)
    (h1 : w.ownsRow B1 27 4 (.slice a1 n1 c1) n1 (flat g1)) (h2 : w.ownsRow B2 27 4 (.slice a2 n2 c2) n2 (flat g2))
    (k1 : w.cell? ⟨b, 0, none⟩ = some (.slice a1 n1 c1)) (k2 : w.cell? ⟨b, 1, none⟩ = some (.slice a2 n2 c2))
    (hb : b < w.heap.size) (hp : 0 < n1 + n2) (m1 : n1 ≤ 10000) (m2 : n2 ≤ 10000) :
    Calls Tryz.prog 45 #[.slice (some ⟨b, 0, none⟩) 2 2] w fun e w' =>
      ∃ v, e = .returned v ∧ w'.ownsRow w.heap.size 27 4 v (g1 ++ g2).length (flat (g1 ++ g2)) ∧ Below w.heap.size w w' := by
  obtain ⟨i0, hi, hz0, hz1, hz2⟩ := info_parts infoP
  have hGr := growP_any (n1 + n2)
  have HG : Hid (∀ w : World, Calls Tryz.prog 57 #[.slice none 0 0, .int .i64 ((n1 : Int) + n2)] w fun e w' => ∃ v, e = .returned v ∧ w'.ownsRow w.heap.size 27 4 v 0 [] ∧ Below w.heap.size w w') := fun w => by
    rw [show ((n1 : Int) + n2) = ((n1 + n2 : Nat) : Int) by omega]; exact hGr w hp (by omega)
  clear hGr
  have H1 : Hid (w.ownsRow B1 27 4 (.slice a1 n1 c1) n1 (flat g1)) := h1
  have H2 : Hid (w.ownsRow B2 27 4 (.slice a2 n2 c2) n2 (flat g2)) := h2
  have E1 := Lib.hid e1
  have E2 := Lib.hid e2
  clear h1 h2 e1 e2
  go_enter Tryz.func45, Tryz.ntmps45
  go_wp2_with fail
  go_loop [3, 11] (fun vs vi => (vi = .int .i64 0 ∧ vs = .int .i64 0) ∨ (vi = .int .i64 1 ∧ vs = .int .i64 n1) ∨ (vi = .int .i64 2 ∧ vs = .int .i64 ((n1 : Int) + n2)))
    (fun _ vi => 2 - (intOf vi).toNat)
  case atStart => exact .inl ⟨rfl, rfl⟩
  case round =>
    rcases hrel with ⟨rfl, rfl⟩ | ⟨rfl, rfl⟩ | ⟨rfl, rfl⟩
    · go_wp2_with fail
      go_round
      case rel => exact .inr (.inl ⟨rfl, by go_num⟩)
      case measure => simp [intOf]
    · go_wp2_with fail
      go_round
      case rel => exact .inr (.inr ⟨rfl, by go_num⟩)
      case measure => simp [intOf]
    · go_wp2_with fail
      refine (HG.out _).mono ?_
      rintro e w1 ⟨v0, rfl, hown0, hb0⟩
      have HO : Hid (w1.ownsRow w.heap.size 27 4 v0 0 []) := hown0
      clear hown0 HG
      go_wp2_with fail
      go_loopw [6, 27] (fun v vi wr => ∃ (k : Nat) (l : List Pf), vi = .int .i64 k ∧ Below w.heap.size w wr ∧ wr.ownsRow w.heap.size 27 4 v l.length (flat l) ∧
          Hid ((k = 0 ∧ l = []) ∨ (k = 1 ∧ l = g1) ∨ (k = 2 ∧ l = g1 ++ g2)))
        (fun _ vi _ => 2 - (intOf vi).toNat)
      case atStart => exact ⟨0, [], rfl, hb0, HO.out, .inl ⟨rfl, rfl⟩⟩
      case round =>
        obtain ⟨k, l, rfl, hbw, hown, hh⟩ := hrel
        rcases hh.out with ⟨rfl, rfl⟩ | ⟨rfl, rfl⟩ | ⟨rfl, rfl⟩
        all_goals clear hh
        · have hown' : Hid (wr.ownsRow w.heap.size 27 4 u6 ([] : List Pf).length (flat [])) := hown
          have hs : Hid (wr.ownsRow B1 27 4 (.slice a1 n1 c1) g1.length (flat g1)) := by rw [E1.out]; exact own_keep H1.out hbw
          have hbb := hbw.size
          have hcc := bcell hbw
          have q1 : wr.cell? ⟨b, 0, none⟩ = some (.slice a1 n1 c1) := by rw [hcc.1 _ _ hb]; exact k1
          clear hcc k1 k2 hown
          go_wp2_with (at_builtin; refine wpList_append_pfs rfl _ _ 22 rfl w.heap.size i0 _ Tryz.underlying22 hi hz0 hz1 hz2 rfl _ [] rfl hown'.out (.slice a1 n1 c1) B1 g1 rfl hs.out ?c3 ?c5 ?_)
          case c3 => rw [E1.out]; simp; omega
          case c5 => exact hbb
          intro v' w3 hown2 hgrow
          have hb3 : Below w.heap.size w w3 := hbw.grown hgrow hbb (fun k hk => (hown'.out.lt k hk).1)
          have hown3 := Lib.hid hown2
          clear hgrow hown' hs hown2
          go_wp2_with fail
          go_roundw
          case rel => exact ⟨1, g1, by go_num, hb3, hown3.out, .inr (.inl ⟨rfl, rfl⟩)⟩
          case measure => simp [intOf]
        · have hown' : Hid (wr.ownsRow w.heap.size 27 4 u6 l.length (flat l)) := hown
          have hs : Hid (wr.ownsRow B2 27 4 (.slice a2 n2 c2) g2.length (flat g2)) := by rw [E2.out]; exact own_keep H2.out hbw
          have hbb := hbw.size
          have hcc := bcell hbw
          have q1 : wr.cell? ⟨b, 1, none⟩ = some (.slice a2 n2 c2) := by rw [hcc.1 _ _ hb]; exact k2
          clear hcc k1 k2 hown
          go_wp2_with (at_builtin; refine wpList_append_pfs rfl _ _ 22 rfl w.heap.size i0 _ Tryz.underlying22 hi hz0 hz1 hz2 rfl _ l rfl hown'.out (.slice a2 n2 c2) B2 g2 rfl hs.out ?c3 ?c5 ?_)
          case c3 => rw [E1.out, E2.out]; omega
          case c5 => exact hbb
          intro v' w3 hown2 hgrow
          have hb3 : Below w.heap.size w w3 := hbw.grown hgrow hbb (fun k hk => (hown'.out.lt k hk).1)
          have hown3 := Lib.hid hown2
          clear hgrow hown' hs hown2
          go_wp2_with fail
          go_roundw
          case rel => exact ⟨2, l ++ g2, by go_num, hb3, by rw [List.length_append]; exact hown3.out, .inr (.inr ⟨rfl, rfl⟩)⟩
          case measure => simp [intOf]
        · have HO2 : Hid (wr.ownsRow w.heap.size 27 4 u6 (g1 ++ g2).length (flat (g1 ++ g2))) := hown
          clear hown k1 k2
          go_wp2_with fail
          go_ret
          exact ⟨_, rfl, HO2.out, hbw⟩
end Go.Proofs.YtojdlpiogbjfcaaGreatDoor

namespace Go.Proofs.YtojdlpiogbjfcaaGreatDoor
open Go.RowKit

/-- The call hands back a list, in memory of its own. -/
def RowPost (w : World) (M : List Pf) (e : Ending) (w' : World) : Prop := ∃ v', e = .returned v' ∧ w'.ownsRow w.heap.size 27 4 v' M.length (flat M) ∧ Below w.heap.size w w'
theorem row_one (w : World) (p : Pf) : (w.alloc (.cells #[.bool p.v, .int .u64 p.hi, .int .u64 p.lo, .int .i64 p.b] 27)).ownsRow w.heap.size 27 4 (.slice (some ⟨w.heap.size, 0, none⟩) 1 1) [p].length (flat [p]) :=
  ⟨rfl, .inr ⟨w.heap.size, 1, _, rfl, Nat.le_refl _, heap_alloc_new w _, Nat.le_refl _, by unfold maxLen; omega, rfl, rfl⟩⟩

set_option maxHeartbeats 16000000 in
set_option maxRecDepth 100000 in
theorem scut_all (p q : Pf) (w : World) (rp : p.R) (rq : q.R) (h : p.has q = true) :
    Calls Tryz.prog 25 #[.agg #[.bool q.v, .int .u64 q.hi, .int .u64 q.lo, .int .i64 q.b], .agg #[.bool p.v, .int .u64 p.hi, .int .u64 p.lo, .int .i64 p.b]] w (RowPost w []) := by
  have H1 : Hid (∀ w : World, Calls Tryz.prog 44 #[.agg #[.bool p.v, .int .u64 p.hi, .int .u64 p.lo, .int .i64 p.b], .agg #[.bool q.v, .int .u64 q.hi, .int .u64 q.lo, .int .i64 q.b]] w fun x w' => x = .returned (.bool (p.has q)) ∧ Below w.heap.size w w') := fun w => shas_any p q w rp rq
  have H2 : Hid (∀ w : World, Calls Tryz.prog 44 #[.agg #[.bool q.v, .int .u64 q.hi, .int .u64 q.lo, .int .i64 q.b], .agg #[.bool p.v, .int .u64 p.hi, .int .u64 p.lo, .int .i64 p.b]] w fun x w' => x = .returned (.bool (q.has p)) ∧ Below w.heap.size w w') := fun w => shas_any q p w rq rp
  have HQ : Hid (Has4 ((w.alloc (.cells #[.bool q.v, .int .u64 q.hi, .int .u64 q.lo, .int .i64 q.b] 27)).alloc (.cells #[.bool p.v, .int .u64 p.hi, .int .u64 p.lo, .int .i64 p.b] 27)) w.heap.size q.v q.hi q.lo q.b) := (Has4.new w q.v q.hi q.lo q.b 27).alloc _
  have HP : Hid (Has4 ((w.alloc (.cells #[.bool q.v, .int .u64 q.hi, .int .u64 q.lo, .int .i64 q.b] 27)).alloc (.cells #[.bool p.v, .int .u64 p.hi, .int .u64 p.lo, .int .i64 p.b] 27)) (w.heap.size + 1) p.v p.hi p.lo p.b) := by
    have := Has4.new (w.alloc (.cells #[.bool q.v, .int .u64 q.hi, .int .u64 q.lo, .int .i64 q.b] 27)) p.v p.hi p.lo p.b 27
    rw [show (w.alloc (.cells #[.bool q.v, .int .u64 q.hi, .int .u64 q.lo, .int .i64 q.b] 27)).heap.size = w.heap.size + 1 by simp] at this
    exact this
  have HB : Hid (Below w.heap.size w ((w.alloc (.cells #[.bool q.v, .int .u64 q.hi, .int .u64 q.lo, .int .i64 q.b] 27)).alloc (.cells #[.bool p.v, .int .u64 p.hi, .int .u64 p.lo, .int .i64 p.b] 27))) := bal (bal (Below.refl _ _) _) _
  rw [h] at H1
  clear rp rq h H2
  go_enter Tryz.func25, Tryz.ntmps25
  go_wp2_with fail
  refine (H1.out _).mono ?_
  rintro x w2 ⟨rfl, hb⟩
  replace HQ := Lib.hid (HQ.out.below hb)
  replace HP := Lib.hid (HP.out.below hb)
  replace HB := Lib.hid (btr HB.out hb)
  clear hb
  go_wp2_with fail
  go_ret
  exact ⟨_, rfl, row_nil _ _ _ _, HB.out⟩

set_option maxHeartbeats 16000000 in
set_option maxRecDepth 100000 in
theorem scut_none (p q : Pf) (w : World) (rp : p.R) (rq : q.R) (h : p.has q = false) (h2 : q.has p = false) :
    Calls Tryz.prog 25 #[.agg #[.bool q.v, .int .u64 q.hi, .int .u64 q.lo, .int .i64 q.b], .agg #[.bool p.v, .int .u64 p.hi, .int .u64 p.lo, .int .i64 p.b]] w (RowPost w [q]) := by
  have H1 : Hid (∀ w : World, Calls Tryz.prog 44 #[.agg #[.bool p.v, .int .u64 p.hi, .int .u64 p.lo, .int .i64 p.b], .agg #[.bool q.v, .int .u64 q.hi, .int .u64 q.lo, .int .i64 q.b]] w fun x w' => x = .returned (.bool (p.has q)) ∧ Below w.heap.size w w') := fun w => shas_any p q w rp rq
  have H2 : Hid (∀ w : World, Calls Tryz.prog 44 #[.agg #[.bool q.v, .int .u64 q.hi, .int .u64 q.lo, .int .i64 q.b], .agg #[.bool p.v, .int .u64 p.hi, .int .u64 p.lo, .int .i64 p.b]] w fun x w' => x = .returned (.bool (q.has p)) ∧ Below w.heap.size w w') := fun w => shas_any q p w rq rp
  have HQ : Hid (Has4 ((w.alloc (.cells #[.bool q.v, .int .u64 q.hi, .int .u64 q.lo, .int .i64 q.b] 27)).alloc (.cells #[.bool p.v, .int .u64 p.hi, .int .u64 p.lo, .int .i64 p.b] 27)) w.heap.size q.v q.hi q.lo q.b) := (Has4.new w q.v q.hi q.lo q.b 27).alloc _
  have HP : Hid (Has4 ((w.alloc (.cells #[.bool q.v, .int .u64 q.hi, .int .u64 q.lo, .int .i64 q.b] 27)).alloc (.cells #[.bool p.v, .int .u64 p.hi, .int .u64 p.lo, .int .i64 p.b] 27)) (w.heap.size + 1) p.v p.hi p.lo p.b) := by
    have := Has4.new (w.alloc (.cells #[.bool q.v, .int .u64 q.hi, .int .u64 q.lo, .int .i64 q.b] 27)) p.v p.hi p.lo p.b 27
    rw [show (w.alloc (.cells #[.bool q.v, .int .u64 q.hi, .int .u64 q.lo, .int .i64 q.b] 27)).heap.size = w.heap.size + 1 by simp] at this
    exact this
  have HB : Hid (Below w.heap.size w ((w.alloc (.cells #[.bool q.v, .int .u64 q.hi, .int .u64 q.lo, .int .i64 q.b] 27)).alloc (.cells #[.bool p.v, .int .u64 p.hi, .int .u64 p.lo, .int .i64 p.b] 27))) := bal (bal (Below.refl _ _) _) _
  rw [h] at H1
  rw [h2] at H2
  clear rp rq h h2
  go_enter Tryz.func25, Tryz.ntmps25
  go_wp2_with fail
  refine (H1.out _).mono ?_
  rintro x w2 ⟨rfl, hb⟩
  replace HQ := Lib.hid (HQ.out.below hb)
  replace HP := Lib.hid (HP.out.below hb)
  replace HB := Lib.hid (btr HB.out hb)
  clear hb
  obtain ⟨p0, p1, p2, p3, p4⟩ := HP.out
  obtain ⟨q0, q1, q2, q3, q4⟩ := HQ.out
  go_wp2_with fail
  refine (H2.out _).mono ?_
  rintro x w3 ⟨rfl, hb⟩
  clear p0 p1 p2 p3 p4 q0 q1 q2 q3 q4
  replace HQ := Lib.hid (HQ.out.below hb)
  replace HP := Lib.hid (HP.out.below hb)
  replace HB := Lib.hid (btr HB.out hb)
  clear hb
  obtain ⟨q0, q1, q2, q3, q4⟩ := HQ.out
  go_wp2_with fail
  go_ret
  exact ⟨_, rfl, row_base (row_one w3 q) HB.out.size, bal HB.out _⟩

theorem keepC {w W W' : World} {m1 m2 m3 : Nat} {lv gv pv : Bool} {lh ll lb gh gl gb ph pl pb : Int}
    (h : (W.cell? ⟨m1, 0, none⟩ = some (.bool lv) ∧ W.cell? ⟨m1, 1, none⟩ = some (.int .u64 lh) ∧ W.cell? ⟨m1, 2, none⟩ = some (.int .u64 ll) ∧ W.cell? ⟨m1, 3, none⟩ = some (.int .i64 lb) ∧ m1 < W.heap.size) ∧ (W.cell? ⟨m2, 0, none⟩ = some (.bool gv) ∧ W.cell? ⟨m2, 1, none⟩ = some (.int .u64 gh) ∧ W.cell? ⟨m2, 2, none⟩ = some (.int .u64 gl) ∧ W.cell? ⟨m2, 3, none⟩ = some (.int .i64 gb) ∧ m2 < W.heap.size) ∧ (W.cell? ⟨m3, 0, none⟩ = some (.bool pv) ∧ W.cell? ⟨m3, 1, none⟩ = some (.int .u64 ph) ∧ W.cell? ⟨m3, 2, none⟩ = some (.int .u64 pl) ∧ W.cell? ⟨m3, 3, none⟩ = some (.int .i64 pb) ∧ m3 < W.heap.size) ∧ Below w.heap.size w W) (hb : Below W.heap.size W W') :
    (W'.cell? ⟨m1, 0, none⟩ = some (.bool lv) ∧ W'.cell? ⟨m1, 1, none⟩ = some (.int .u64 lh) ∧ W'.cell? ⟨m1, 2, none⟩ = some (.int .u64 ll) ∧ W'.cell? ⟨m1, 3, none⟩ = some (.int .i64 lb) ∧ m1 < W'.heap.size) ∧ (W'.cell? ⟨m2, 0, none⟩ = some (.bool gv) ∧ W'.cell? ⟨m2, 1, none⟩ = some (.int .u64 gh) ∧ W'.cell? ⟨m2, 2, none⟩ = some (.int .u64 gl) ∧ W'.cell? ⟨m2, 3, none⟩ = some (.int .i64 gb) ∧ m2 < W'.heap.size) ∧ (W'.cell? ⟨m3, 0, none⟩ = some (.bool pv) ∧ W'.cell? ⟨m3, 1, none⟩ = some (.int .u64 ph) ∧ W'.cell? ⟨m3, 2, none⟩ = some (.int .u64 pl) ∧ W'.cell? ⟨m3, 3, none⟩ = some (.int .i64 pb) ∧ m3 < W'.heap.size) ∧ Below w.heap.size w W' :=
  ⟨Has4.below h.1 hb, Has4.below h.2.1 hb, Has4.below h.2.2.1 hb, btr h.2.2.2 hb⟩

set_option maxHeartbeats 16000000 in
set_option maxRecDepth 100000 in
theorem scut_half (p q : Pf) (w : World) (rp : p.R) (rq : q.R) (h : p.has q = false) (h2 : q.has p = true) (hlt : q.b < wid q.v) (L G : List Pf) (hL : L.length ≤ 1000) (hG : G.length ≤ 1000) (hne : 0 < L.length + G.length)
    (IL : ∀ w : World, Calls Tryz.prog 25 #[.agg #[.bool q.lo'.v, .int .u64 q.lo'.hi, .int .u64 q.lo'.lo, .int .i64 q.lo'.b], .agg #[.bool p.v, .int .u64 p.hi, .int .u64 p.lo, .int .i64 p.b]] w (RowPost w L))
    (IG : ∀ w : World, Calls Tryz.prog 25 #[.agg #[.bool q.hi'.v, .int .u64 q.hi'.hi, .int .u64 q.hi'.lo, .int .i64 q.hi'.b], .agg #[.bool p.v, .int .u64 p.hi, .int .u64 p.lo, .int .i64 p.b]] w (RowPost w G)) :
    Calls Tryz.prog 25 #[.agg #[.bool q.v, .int .u64 q.hi, .int .u64 q.lo, .int .i64 q.b], .agg #[.bool p.v, .int .u64 p.hi, .int .u64 p.lo, .int .i64 p.b]] w (RowPost w (L ++ G)) := by
  have H1 : Hid (∀ w : World, Calls Tryz.prog 44 #[.agg #[.bool p.v, .int .u64 p.hi, .int .u64 p.lo, .int .i64 p.b], .agg #[.bool q.v, .int .u64 q.hi, .int .u64 q.lo, .int .i64 q.b]] w fun x w' => x = .returned (.bool (p.has q)) ∧ Below w.heap.size w w') := fun w => shas_any p q w rp rq
  have H2 : Hid (∀ w : World, Calls Tryz.prog 44 #[.agg #[.bool q.v, .int .u64 q.hi, .int .u64 q.lo, .int .i64 q.b], .agg #[.bool p.v, .int .u64 p.hi, .int .u64 p.lo, .int .i64 p.b]] w fun x w' => x = .returned (.bool (q.has p)) ∧ Below w.heap.size w w') := fun w => shas_any q p w rq rp
  have HQ : Hid (Has4 ((w.alloc (.cells #[.bool q.v, .int .u64 q.hi, .int .u64 q.lo, .int .i64 q.b] 27)).alloc (.cells #[.bool p.v, .int .u64 p.hi, .int .u64 p.lo, .int .i64 p.b] 27)) w.heap.size q.v q.hi q.lo q.b) := (Has4.new w q.v q.hi q.lo q.b 27).alloc _
  have HP : Hid (Has4 ((w.alloc (.cells #[.bool q.v, .int .u64 q.hi, .int .u64 q.lo, .int .i64 q.b] 27)).alloc (.cells #[.bool p.v, .int .u64 p.hi, .int .u64 p.lo, .int .i64 p.b] 27)) (w.heap.size + 1) p.v p.hi p.lo p.b) := by
    have := Has4.new (w.alloc (.cells #[.bool q.v, .int .u64 q.hi, .int .u64 q.lo, .int .i64 q.b] 27)) p.v p.hi p.lo p.b 27
    rw [show (w.alloc (.cells #[.bool q.v, .int .u64 q.hi, .int .u64 q.lo, .int .i64 q.b] 27)).heap.size = w.heap.size + 1 by simp] at this
    exact this
  have HB : Hid (Below w.heap.size w ((w.alloc (.cells #[.bool q.v, .int .u64 q.hi, .int .u64 q.lo, .int .i64 q.b] 27)).alloc (.cells #[.bool p.v, .int .u64 p.hi, .int .u64 p.lo, .int .i64 p.b] 27))) := bal (bal (Below.refl _ _) _) _
  rw [h] at H1
  rw [h2] at H2
  have HH : Hid (∀ w : World, Calls Tryz.prog 21 #[.agg #[.bool q.v, .int .u64 q.hi, .int .u64 q.lo, .int .i64 q.b]] w fun x w' => x = .returned (.tuple #[.agg #[.bool q.lo'.v, .int .u64 q.lo'.hi, .int .u64 q.lo'.lo, .int .i64 q.lo'.b], .agg #[.bool q.hi'.v, .int .u64 q.hi'.hi, .int .u64 q.hi'.lo, .int .i64 q.hi'.b], .int .i64 0]) ∧ Below w.heap.size w w') := fun w => halves_ok q.v q.hi q.lo q.b w rq.h0 rq.h1 rq.l0 rq.l1 ((right_iff _ _ _ _ rq.h0 rq.h1 rq.l0 rq.l1).2 rq) hlt
  have HIL := Lib.hid IL
  have HIG := Lib.hid IG
  generalize q.lo' = l at *
  generalize q.hi' = g at *
  obtain ⟨lv, lh, ll, lb⟩ := l
  obtain ⟨gv, gh, gl, gb⟩ := g
  have A1 := Lib.hid hL
  have A2 := Lib.hid hG
  have A3 := Lib.hid hne
  clear rp rq h h2 IL IG hlt hL hG hne
  go_enter Tryz.func25, Tryz.ntmps25
  go_wp2_with fail
  refine (H1.out _).mono ?_
  rintro x w2 ⟨rfl, hb⟩
  replace HQ := Lib.hid (HQ.out.below hb)
  replace HP := Lib.hid (HP.out.below hb)
  replace HB := Lib.hid (btr HB.out hb)
  clear hb
  obtain ⟨p0, p1, p2, p3, p4⟩ := HP.out
  obtain ⟨q0, q1, q2, q3, q4⟩ := HQ.out
  go_wp2_with fail
  refine (H2.out _).mono ?_
  rintro x w3 ⟨rfl, hb⟩
  clear p0 p1 p2 p3 p4 q0 q1 q2 q3 q4
  replace HQ := Lib.hid (HQ.out.below hb)
  replace HP := Lib.hid (HP.out.below hb)
  replace HB := Lib.hid (btr HB.out hb)
  clear hb
  obtain ⟨q0, q1, q2, q3, q4⟩ := HQ.out
  go_wp2_with fail
  refine (HH.out _).mono ?_
  rintro x w5 ⟨rfl, hb⟩
  clear q0 q1 q2 q3 q4
  replace HP := Lib.hid (HP.out.below hb)
  replace HB := Lib.hid (btr HB.out hb)
  clear hb HQ HH H1 H2
  have S0 : Hid ((((w5.alloc (.cells #[.bool lv, .int .u64 lh, .int .u64 ll, .int .i64 lb] 27)).alloc (.cells #[.bool gv, .int .u64 gh, .int .u64 gl, .int .i64 gb] 27)).cell? ⟨w5.heap.size, 0, none⟩ = some (.bool lv) ∧ ((w5.alloc (.cells #[.bool lv, .int .u64 lh, .int .u64 ll, .int .i64 lb] 27)).alloc (.cells #[.bool gv, .int .u64 gh, .int .u64 gl, .int .i64 gb] 27)).cell? ⟨w5.heap.size, 1, none⟩ = some (.int .u64 lh) ∧ ((w5.alloc (.cells #[.bool lv, .int .u64 lh, .int .u64 ll, .int .i64 lb] 27)).alloc (.cells #[.bool gv, .int .u64 gh, .int .u64 gl, .int .i64 gb] 27)).cell? ⟨w5.heap.size, 2, none⟩ = some (.int .u64 ll) ∧ ((w5.alloc (.cells #[.bool lv, .int .u64 lh, .int .u64 ll, .int .i64 lb] 27)).alloc (.cells #[.bool gv, .int .u64 gh, .int .u64 gl, .int .i64 gb] 27)).cell? ⟨w5.heap.size, 3, none⟩ = some (.int .i64 lb) ∧ w5.heap.size < ((w5.alloc (.cells #[.bool lv, .int .u64 lh, .int .u64 ll, .int .i64 lb] 27)).alloc (.cells #[.bool gv, .int .u64 gh, .int .u64 gl, .int .i64 gb] 27)).heap.size) ∧ (((w5.alloc (.cells #[.bool lv, .int .u64 lh, .int .u64 ll, .int .i64 lb] 27)).alloc (.cells #[.bool gv, .int .u64 gh, .int .u64 gl, .int .i64 gb] 27)).cell? ⟨(w5.heap.size + 1), 0, none⟩ = some (.bool gv) ∧ ((w5.alloc (.cells #[.bool lv, .int .u64 lh, .int .u64 ll, .int .i64 lb] 27)).alloc (.cells #[.bool gv, .int .u64 gh, .int .u64 gl, .int .i64 gb] 27)).cell? ⟨(w5.heap.size + 1), 1, none⟩ = some (.int .u64 gh) ∧ ((w5.alloc (.cells #[.bool lv, .int .u64 lh, .int .u64 ll, .int .i64 lb] 27)).alloc (.cells #[.bool gv, .int .u64 gh, .int .u64 gl, .int .i64 gb] 27)).cell? ⟨(w5.heap.size + 1), 2, none⟩ = some (.int .u64 gl) ∧ ((w5.alloc (.cells #[.bool lv, .int .u64 lh, .int .u64 ll, .int .i64 lb] 27)).alloc (.cells #[.bool gv, .int .u64 gh, .int .u64 gl, .int .i64 gb] 27)).cell? ⟨(w5.heap.size + 1), 3, none⟩ = some (.int .i64 gb) ∧ (w5.heap.size + 1) < ((w5.alloc (.cells #[.bool lv, .int .u64 lh, .int .u64 ll, .int .i64 lb] 27)).alloc (.cells #[.bool gv, .int .u64 gh, .int .u64 gl, .int .i64 gb] 27)).heap.size) ∧ (((w5.alloc (.cells #[.bool lv, .int .u64 lh, .int .u64 ll, .int .i64 lb] 27)).alloc (.cells #[.bool gv, .int .u64 gh, .int .u64 gl, .int .i64 gb] 27)).cell? ⟨(w.heap.size + 1), 0, none⟩ = some (.bool p.v) ∧ ((w5.alloc (.cells #[.bool lv, .int .u64 lh, .int .u64 ll, .int .i64 lb] 27)).alloc (.cells #[.bool gv, .int .u64 gh, .int .u64 gl, .int .i64 gb] 27)).cell? ⟨(w.heap.size + 1), 1, none⟩ = some (.int .u64 p.hi) ∧ ((w5.alloc (.cells #[.bool lv, .int .u64 lh, .int .u64 ll, .int .i64 lb] 27)).alloc (.cells #[.bool gv, .int .u64 gh, .int .u64 gl, .int .i64 gb] 27)).cell? ⟨(w.heap.size + 1), 2, none⟩ = some (.int .u64 p.lo) ∧ ((w5.alloc (.cells #[.bool lv, .int .u64 lh, .int .u64 ll, .int .i64 lb] 27)).alloc (.cells #[.bool gv, .int .u64 gh, .int .u64 gl, .int .i64 gb] 27)).cell? ⟨(w.heap.size + 1), 3, none⟩ = some (.int .i64 p.b) ∧ (w.heap.size + 1) < ((w5.alloc (.cells #[.bool lv, .int .u64 lh, .int .u64 ll, .int .i64 lb] 27)).alloc (.cells #[.bool gv, .int .u64 gh, .int .u64 gl, .int .i64 gb] 27)).heap.size) ∧ Below w.heap.size w ((w5.alloc (.cells #[.bool lv, .int .u64 lh, .int .u64 ll, .int .i64 lb] 27)).alloc (.cells #[.bool gv, .int .u64 gh, .int .u64 gl, .int .i64 gb] 27))) := by
    refine ⟨(Has4.new w5 lv lh ll lb 27).alloc _, ?_, (HP.out.alloc _).alloc _, bal (bal HB.out _) _⟩
    have := Has4.new (w5.alloc (.cells #[.bool lv, .int .u64 lh, .int .u64 ll, .int .i64 lb] 27)) gv gh gl gb 27
    rw [show (w5.alloc (.cells #[.bool lv, .int .u64 lh, .int .u64 ll, .int .i64 lb] 27)).heap.size = w5.heap.size + 1 by simp] at this
    exact this
  go_wp2_with fail
  clear HP HB
  generalize ((w5.alloc (.cells #[.bool lv, .int .u64 lh, .int .u64 ll, .int .i64 lb] 27)).alloc (.cells #[.bool gv, .int .u64 gh, .int .u64 gl, .int .i64 gb] 27)) = W at *
  generalize w5.heap.size = m at *
  have S1 := Lib.hid (keepC S0.out (Below.refl W.heap.size W).drew)
  go_region_held3 (fun w' => (w'.cell? ⟨m, 0, none⟩ = some (.bool lv) ∧ w'.cell? ⟨m, 1, none⟩ = some (.int .u64 lh) ∧ w'.cell? ⟨m, 2, none⟩ = some (.int .u64 ll) ∧ w'.cell? ⟨m, 3, none⟩ = some (.int .i64 lb) ∧ m < w'.heap.size) ∧ (w'.cell? ⟨(m + 1), 0, none⟩ = some (.bool gv) ∧ w'.cell? ⟨(m + 1), 1, none⟩ = some (.int .u64 gh) ∧ w'.cell? ⟨(m + 1), 2, none⟩ = some (.int .u64 gl) ∧ w'.cell? ⟨(m + 1), 3, none⟩ = some (.int .i64 gb) ∧ (m + 1) < w'.heap.size) ∧ (w'.cell? ⟨(w.heap.size + 1), 0, none⟩ = some (.bool p.v) ∧ w'.cell? ⟨(w.heap.size + 1), 1, none⟩ = some (.int .u64 p.hi) ∧ w'.cell? ⟨(w.heap.size + 1), 2, none⟩ = some (.int .u64 p.lo) ∧ w'.cell? ⟨(w.heap.size + 1), 3, none⟩ = some (.int .i64 p.b) ∧ (w.heap.size + 1) < w'.heap.size) ∧ Below w.heap.size w w')
    (first | with_reducible exact S1.out | with_reducible exact S2.out | with_reducible exact S3.out | with_reducible exact S4.out | with_reducible exact S5.out | fail)
    (first
      | (go_at_call 25; refine (HIL.out _).mono ?_; rintro x w6 ⟨v1, rfl, hown1, hb1⟩; (with_reducible have S2 := Lib.hid (keepC S1.out hb1)); obtain ⟨a1, c1, rfl, hc1, _⟩ := own_sl hown1; have R1 := Lib.hid hown1; have B1 := Lib.hid hb1; clear HIL hown1 hb1 hc1)
      | (go_at_call 25; refine (HIG.out _).mono ?_; rintro x w7 ⟨v2, rfl, hown2, hb2⟩; (with_reducible have S3 := Lib.hid (keepC S2.out hb2)); obtain ⟨a2, c2, rfl, hc2, _⟩ := own_sl hown2; have R2 := Lib.hid hown2; have R3 := Lib.hid (own_keep R1.out hb2); have S4 := Lib.hid (keepC S3.out (bal (Below.refl w7.heap.size w7) (.cells #[.slice a1 L.length c1, .slice a2 G.length c2] 22))); clear HIG hown2 hb2 hc2)
      | (go_at_call 45; refine (concatP_any _ _ _ a1 a2 L.length G.length c1 c2 L G _ rfl rfl (R3.out.alloc _) (R2.out.alloc _) (by simp) (by simp) (by simp) A3.out (Nat.le_trans A1.out (by decide)) (Nat.le_trans A2.out (by decide))).mono ?_; rintro x w8 ⟨v3, rfl, hown3, hb3⟩; (with_reducible have S5 := Lib.hid (keepC S4.out hb3)); have R5 := Lib.hid hown3; clear hown3 hb3))
  go_wp2_with fail
  go_ret
  exact ⟨_, rfl, row_base R5.out (Nat.le_trans (Nat.le_trans S3.out.2.2.2.size (by simp)) (Nat.le_refl _)), S5.out.2.2.2⟩

theorem scut_any (p : Pf) (rp : p.R) : ∀ (k : Nat) (q : Pf) (w : World), q.R → q.nd.h = k → Calls Tryz.prog 25 #[.agg #[.bool q.v, .int .u64 q.hi, .int .u64 q.lo, .int .i64 q.b], .agg #[.bool p.v, .int .u64 p.hi, .int .u64 p.lo, .int .i64 p.b]] w (RowPost w (cutP p k q))
  | 0, q, w, rq, hk => by
    by_cases h : p.has q = true
    · rw [cutP, if_pos h]; exact scut_all p q w rp rq h
    · have h' : ¬ q.has p = true := fun h' => h ((has_nd rp rq).2 (by
        have := (has_nd rq rp).1 h'
        rw [Nd.same_h (nd_ok rq) (nd_ok rp) this (by omega)]
        exact Nd.has_refl _))
      rw [cutP, if_neg h, if_neg h']; exact scut_none p q w rp rq (by simpa using h) (by simpa using h')
  | k + 1, q, w, rq, hk => by
    by_cases h : p.has q = true
    · rw [cutP, if_pos h]; exact scut_all p q w rp rq h
    · by_cases h' : q.has p = true
      · have b1 := rq.b1
        have hlt : q.b < wid q.v := by
          have : (wid q.v - q.b).toNat = k + 1 := hk
          omega
        have hh1 : q.lo'.nd.h = k := by rw [nd_lo rq hlt]; simp [Nd.lo, hk]
        have hh2 : q.hi'.nd.h = k := by rw [nd_hi rq hlt]; simp [Nd.hi, hk]
        have l1 := (cutP_nd p rp k q.lo' (lo_R rq hlt) hh1).2.2
        have l2 := (cutP_nd p rp k q.hi' (hi_R rq hlt) hh2).2.2
        have hk128 := nd_h_le rq
        have hne : 0 < (cutP p k q.lo').length + (cutP p k q.hi').length := by
          rcases cut_side (nd_ok rp) (nd_ok rq) (by omega) ((has_nd rq rp).1 h') (fun e => h ((has_nd rp rq).2 e)) with ⟨e1, e2⟩ | ⟨e1, e2⟩
          · rw [← nd_hi rq hlt] at e1 e2
            have := cutP_one (k := k) (fun e => e1 ((has_nd rp (hi_R rq hlt)).1 e)) (fun e => e2 ((has_nd (hi_R rq hlt) rp).1 e))
            omega
          · rw [← nd_lo rq hlt] at e1 e2
            have := cutP_one (k := k) (fun e => e1 ((has_nd rp (lo_R rq hlt)).1 e)) (fun e => e2 ((has_nd (lo_R rq hlt) rp).1 e))
            omega
        rw [cutP, if_neg h, if_pos h']
        exact scut_half p q w rp rq (by simpa using h) h' hlt _ _ (by omega) (by omega) hne (fun w => scut_any p rp k q.lo' w (lo_R rq hlt) hh1) (fun w => scut_any p rp k q.hi' w (hi_R rq hlt) hh2)
      · rw [cutP, if_neg h, if_neg h']; exact scut_none p q w rp rq (by simpa using h) (by simpa using h')
end Go.Proofs.YtojdlpiogbjfcaaGreatDoor

namespace Go.Proofs.YtojdlpiogbjfcaaGreatDoor
open Go.RowKit Go.Shelf
open Go.Sort (grow grow_empty grow_grow alloc_eq_grow)

/-- Draws and new blocks alone. -/
def Grw (w w' : World) : Prop := ∃ q os, w' = grow (w.drewN q) os
theorem Grw.refl (w : World) : Grw w w := ⟨0, #[], by rw [grow_empty]; rfl⟩
theorem grow_drewN (w : World) (os : Array Obj) (q : Nat) : (grow w os).drewN q = grow (w.drewN q) os := rfl
theorem gtr {w w' w'' : World} (h : Grw w w') (h' : Grw w' w'') : Grw w w'' := by
  obtain ⟨q, os, rfl⟩ := h
  obtain ⟨q', os', rfl⟩ := h'
  refine ⟨q + q', os ++ os', ?_⟩
  rw [grow_drewN, grow_grow]
  simp only [World.drewN, Nat.add_assoc]
theorem gal {w w' : World} (h : Grw w w') (o : Obj) : Grw w (w'.alloc o) := gtr h ⟨0, #[o], by rw [alloc_eq_grow]; rfl⟩
theorem Grw.drew {w w' : World} (h : Grw w w') : Grw w w'.drew := gtr h ⟨1, #[], by rw [grow_empty]; rfl⟩
theorem Grw.below {w w' : World} (h : Grw w w') : Below w.heap.size w w' := by
  obtain ⟨q, os, rfl⟩ := h
  exact ⟨rfl, rfl, rfl, by simp [grow, World.drewN], fun k hk => by simp [grow, World.drewN, Array.getElem?_append_left hk]⟩

theorem lit_gr (v u : Bool) (xh xl yh yl : Int) (w : World) :
    Calls Tryz.prog 35 #[.agg #[.bool v, .int .u64 xh, .int .u64 xl], .agg #[.bool u, .int .u64 yh, .int .u64 yl]] w fun e w' => e = .returned (.bool (lsB xh xl yh yl)) ∧ Grw w w' := by
  by_cases h : xh < yh
  · go_enter Tryz.func35, Tryz.ntmps35
    go_wp2
    go_ret
    exact ⟨by simp [lsB, h], gal (gal (Grw.refl _) _) _⟩
  · have hd : decide (xh < yh) = false := by simp; omega
    by_cases e : xh = yh
    · subst e
      have hq : (xh == xh) = true := by simp
      by_cases l : xl < yl
      all_goals
        go_enter Tryz.func35, Tryz.ntmps35
        go_wp2
        go_ret
        exact ⟨by simp [lsB, l], gal (gal (Grw.refl _) _) _⟩
    · have hq : (xh == yh) = false := by simp [e]
      go_enter Tryz.func35, Tryz.ntmps35
      go_wp2
      go_ret
      exact ⟨by simp [lsB, h, e], gal (gal (Grw.refl _) _) _⟩

theorem less_gr (v u : Bool) (xh xl yh yl : Int) (w : World) (h0 : 0 ≤ xh) (h1 : 0 ≤ xl) (h2 : 0 ≤ yh) (h3 : 0 ≤ yl) :
    Calls Tryz.prog 16 #[.agg #[.bool v, .int .u64 xh, .int .u64 xl], .agg #[.bool u, .int .u64 yh, .int .u64 yl]] w fun e w' =>
      e = .returned (.tuple #[.bool (lessB v xh xl u yh yl), .int .i64 (lessE v xh xl u yh yl)]) ∧ Grw w w' := by
  rcases chk_cases v xh xl with ⟨c1, _⟩ | c1
  · rcases chk_cases u yh yl with ⟨c2, _⟩ | c2
    · have hE : lessE v xh xl u yh yl = 0 := by simp [lessE, c1, c2]
      have hB : lessB v xh xl u yh yl = if v = u then lsB xh xl yh yl else u := by simp [lessB, hE]
      have HE := hE; clear hE
      rw [HE, hB]; clear HE hB
      have C1 : Hid (chk v xh xl = 0) := c1
      have C2 : Hid (chk u yh yl = 0) := c2
      clear c1 c2
      by_cases hvu : v = u
      · subst hvu
        have hb : (v != v) = false := by simp
        go_enter Tryz.func16, Tryz.ntmps16
        go_wp2_with fail
        refine (check_any v xh xl _ h0 h1).mono ?_
        rintro e w' ⟨rfl, k1, rfl⟩
        rw [C1.out]
        go_wp2_with fail
        refine (check_any v yh yl _ h2 h3).mono ?_
        rintro e w' ⟨rfl, k2, rfl⟩
        rw [C2.out]
        go_wp2_with fail
        refine (lit_gr v v xh xl yh yl _).mono ?_
        rintro e w' ⟨rfl, hB⟩
        go_wp2_with fail
        go_ret2
        refine ⟨by simp, ?_⟩
        exact gtr (gal (gal (gal (gal (Grw.refl _) _) _) _) _) hB
      · have hb : (!(v == u)) = true := by simp [hvu]
        go_enter Tryz.func16, Tryz.ntmps16
        go_wp2_with fail
        refine (check_any v xh xl _ h0 h1).mono ?_
        rintro e w' ⟨rfl, k1, rfl⟩
        rw [C1.out]
        go_wp2_with fail
        refine (check_any u yh yl _ h2 h3).mono ?_
        rintro e w' ⟨rfl, k2, rfl⟩
        rw [C2.out]
        go_wp2_with fail
        go_ret2
        refine ⟨by simp [hvu], ?_⟩
        exact gal (gal (gal (gal (Grw.refl _) _) _) _) _
    · have hE : lessE v xh xl u yh yl = 3 := by simp [lessE, c1, c2]
      have hB : lessB v xh xl u yh yl = false := by simp [lessB, hE]
      rw [hE, hB]; clear hE hB
      have C1 : Hid (chk v xh xl = 0) := c1
      have C2 : Hid (chk u yh yl = 3) := c2
      clear c1 c2
      go_enter Tryz.func16, Tryz.ntmps16
      go_wp2_with fail
      refine (check_any v xh xl _ h0 h1).mono ?_
      rintro e w' ⟨rfl, k1, rfl⟩
      rw [C1.out]
      go_wp2_with fail
      refine (check_any u yh yl _ h2 h3).mono ?_
      rintro e w' ⟨rfl, k2, rfl⟩
      rw [C2.out]
      go_wp2_with fail
      go_ret2
      refine ⟨by simp, ?_⟩
      exact gal (gal (gal (gal (Grw.refl _) _) _) _) _
  · have hE : lessE v xh xl u yh yl = 3 := by simp [lessE, c1]
    have hB : lessB v xh xl u yh yl = false := by simp [lessB, hE]
    rw [hE, hB]; clear hE hB
    have C1 : Hid (chk v xh xl = 3) := c1
    clear c1
    go_enter Tryz.func16, Tryz.ntmps16
    go_wp2_with fail
    refine (check_any v xh xl _ h0 h1).mono ?_
    rintro e w' ⟨rfl, k1, rfl⟩
    rw [C1.out]
    go_wp2_with fail
    go_ret2
    refine ⟨by simp, ?_⟩
    exact gal (gal (gal (Grw.refl _) _) _) _

theorem oless_gr (v u : Bool) (xh xl yh yl : Int) (w : World) (h0 : 0 ≤ xh) (h1 : 0 ≤ xl) (h2 : 0 ≤ yh) (h3 : 0 ≤ yl) :
    Calls Tryz.prog 47 #[.agg #[.bool v, .int .u64 xh, .int .u64 xl], .agg #[.bool u, .int .u64 yh, .int .u64 yl]] w fun e w' =>
      e = .returned (.bool (lessB v xh xl u yh yl)) ∧ Grw w w' := by
  have hL : Hid (∀ w : World, Calls Tryz.prog 16 #[.agg #[.bool v, .int .u64 xh, .int .u64 xl], .agg #[.bool u, .int .u64 yh, .int .u64 yl]] w fun e w' =>
      e = .returned (.tuple #[.bool (lessB v xh xl u yh yl), .int .i64 (lessE v xh xl u yh yl)]) ∧ Grw w w') := fun w => less_gr v u xh xl yh yl w h0 h1 h2 h3
  generalize lessB v xh xl u yh yl = r at *
  generalize lessE v xh xl u yh yl = r' at *
  clear h0 h1 h2 h3
  go_enter Tryz.func47, Tryz.ntmps47
  go_wp2_with fail
  refine (hL.out _).mono ?_
  rintro e w2 ⟨rfl, hb⟩
  go_wp2
  go_ret
  exact ⟨rfl, gtr (gal (gal (Grw.refl _) _) _) hb⟩

theorem compare_gr (v : Bool) (hi lo b : Int) (u : Bool) (yi yo c : Int) (w : World) (h0 : 0 ≤ hi) (h1 : 0 ≤ lo) (h2 : 0 ≤ yi) (h3 : 0 ≤ yo) :
    Calls Tryz.prog 42 #[.agg #[.bool v, .int .u64 hi, .int .u64 lo, .int .i64 b], .agg #[.bool u, .int .u64 yi, .int .u64 yo, .int .i64 c]] w fun e w' =>
      e = .returned (.int .i64 (cmpP v hi lo b u yi yo c)) ∧ Grw w w' := by
  have hL : Hid (∀ w : World, Calls Tryz.prog 47 #[.agg #[.bool v, .int .u64 hi, .int .u64 lo], .agg #[.bool u, .int .u64 yi, .int .u64 yo]] w fun e w' =>
      e = .returned (.bool (lessB v hi lo u yi yo)) ∧ Grw w w') := fun w => oless_gr v u hi lo yi yo w h0 h1 h2 h3
  have hM : Hid (∀ w : World, Calls Tryz.prog 47 #[.agg #[.bool u, .int .u64 yi, .int .u64 yo], .agg #[.bool v, .int .u64 hi, .int .u64 lo]] w fun e w' =>
      e = .returned (.bool (lessB u yi yo v hi lo)) ∧ Grw w w') := fun w => oless_gr u v yi yo hi lo w h2 h3 h0 h1
  have hC : Hid (∀ w : World, Calls Tryz.prog 56 #[.int .i64 b, .int .i64 c] w fun e w' => e = .returned (.int .i64 (cmpN b c)) ∧ w' = w) := cmp_any b c
  have P0 := Has4.alloc (Has4.new w v hi lo b 27) (.cells #[.bool u, .int .u64 yi, .int .u64 yo, .int .i64 c] 27)
  have P1 := Has4.new (w.alloc (.cells #[.bool v, .int .u64 hi, .int .u64 lo, .int .i64 b] 27)) u yi yo c 27
  have B1 : Grw w ((w.alloc (.cells #[.bool v, .int .u64 hi, .int .u64 lo, .int .i64 b] 27)).alloc (.cells #[.bool u, .int .u64 yi, .int .u64 yo, .int .i64 c] 27)) := gal (gal (Grw.refl _) _) _
  rw [show (w.alloc (.cells #[.bool v, .int .u64 hi, .int .u64 lo, .int .i64 b] 27)).heap.size = w.heap.size + 1 by simp] at P1
  have HP : Hid (Has4 _ _ v hi lo b) := P0
  have HQ : Hid (Has4 _ _ u yi yo c) := P1
  have HB : Hid (Grw w _) := B1
  unfold cmpP
  generalize lessB v hi lo u yi yo = r1 at *
  generalize lessB u yi yo v hi lo = r2 at *
  generalize cmpN b c = r3 at *
  clear P0 P1 B1 h0 h1 h2 h3
  cases r1
  · cases r2
    all_goals
      go_enter Tryz.func42, Tryz.ntmps42
      go_wp2_with fail
      refine (hL.out _).mono ?_
      rintro e w2 ⟨rfl, hb⟩
      replace HP := Lib.hid (HP.out.below hb.below)
      replace HQ := Lib.hid (HQ.out.below hb.below)
      replace HB := Lib.hid (gtr HB.out hb)
      clear hb
      obtain ⟨p0, p1, p2, p3, p4⟩ := HP.out
      obtain ⟨q0, q1, q2, q3, q4⟩ := HQ.out
      go_wp2_with fail
      refine (hM.out _).mono ?_
      rintro e w3 ⟨rfl, hb⟩
      clear p0 p1 p2 p3 p4 q0 q1 q2 q3 q4
      obtain ⟨p0, p1, p2, p3, p4⟩ := HP.out.below hb.below
      obtain ⟨q0, q1, q2, q3, q4⟩ := HQ.out.below hb.below
      replace HB := Lib.hid (gtr HB.out hb)
      clear hb
      go_wp2_with (go_at_call 56; refine (hC.out _).mono ?_; rintro e w' ⟨rfl, rfl⟩)
      go_ret
      exact ⟨rfl, HB.out⟩
  · go_enter Tryz.func42, Tryz.ntmps42
    go_wp2_with fail
    refine (hL.out _).mono ?_
    rintro e w2 ⟨rfl, hb⟩
    replace HB := Lib.hid (gtr HB.out hb)
    clear hb
    go_wp2
    go_ret
    exact ⟨rfl, HB.out⟩

end Go.Proofs.YtojdlpiogbjfcaaGreatDoor

namespace Go.Proofs.YtojdlpiogbjfcaaGreatDoor
open Go.RowKit
open Go.Sort (grow HoldsK SWO SortedIn PermIn flatK size_flatK get_flatK)

theorem zero_R : Pf.R ⟨false, 0, 0, 0⟩ := (right_iff false 0 0 0 (by decide) (by decide) (by decide) (by decide)).1 (by decide +kernel)
/-- Prefixes that are right (none stands for one of them, so that there is one by default). -/
abbrev RP : Type := Option {p : Pf // p.R}
def valP (x : RP) : Pf := match x with | none => ⟨false, 0, 0, 0⟩ | some p => p.1
theorem valR (x : RP) : (valP x).R := by
  cases x with
  | none => exact zero_R
  | some p => exact p.2
def encP (x : RP) : List Value := [.bool (valP x).v, .int .u64 (valP x).hi, .int .u64 (valP x).lo, .int .i64 (valP x).b]
def cfP (x y : RP) : Int := (valP x).cmp (valP y)
theorem encP_one (x : RP) : ∀ v ∈ encP x, v.oneCell' = true := fun v hv => by
  simp [encP] at hv
  rcases hv with rfl | rfl | rfl | rfl <;> rfl
theorem swoP : SWO (ltOf cfP) := by
  refine ⟨fun x => ?_, fun x y z h1 h2 => ?_, fun x y z h1 h2 => ?_⟩
  · unfold ltOf cfP
    rw [decide_eq_false_iff_not, cmp_neg (valR x) (valR x)]
    rintro (⟨a, b⟩ | ⟨_, a | ⟨_, a⟩⟩)
    · rw [a] at b; exact absurd b (by decide)
    · omega
    · omega
  · unfold ltOf cfP at *
    rw [decide_eq_true_iff] at *
    exact cmp_trans (valR x) (valR y) (valR z) h1 h2
  · unfold ltOf cfP at *
    rw [decide_eq_false_iff_not] at *
    rw [cmp_neg (valR x) (valR y)] at h1
    rw [cmp_neg (valR y) (valR z)] at h2
    rw [cmp_neg (valR x) (valR z)]
    generalize (valP x).v = a at *
    generalize (valP y).v = b at *
    generalize (valP z).v = c at *
    cases a <;> cases b <;> cases c <;> simp_all <;> omega
theorem enters_cmp : ∀ args w, (callFunc 42 args).run Tryz.prog w = .ok (.enter 42 args) w := enters_of Tryz.func42 (by kernel_rfl) rfl
theorem cmpLaysP (blk off size : Nat) (w : World) : CmpLays Tryz.prog 42 #[] encP 4 cfP blk off size w :=
  fun _ _ _ _ x y => compare_gr (valP x).v (valP x).hi (valP x).lo (valP x).b (valP y).v (valP y).hi (valP y).lo (valP y).b _ (valR x).h0 (valR x).l0 (valR y).h0 (valR y).l0

/-- The prefixes of an array of right ones. -/
def pfsOf (d : Array RP) : List Pf := d.toList.map valP
theorem pfsOf_len (d : Array RP) : (pfsOf d).length = d.size := by simp [pfsOf]
theorem pfsOf_at (d : Array RP) (j : Nat) (h : j < (pfsOf d).length) : (pfsOf d)[j] = valP d[j]! := by
  have h' : j < d.size := by rw [pfsOf_len] at h; exact h
  rw [getElem!_pos d j h']
  simp [pfsOf]
theorem pfsOf_R (d : Array RP) : ∀ p ∈ pfsOf d, p.R := fun p hp => by
  obtain ⟨x, _, rfl⟩ := List.mem_map.1 hp
  exact valR x
theorem exists_rp : ∀ (ps : List Pf), (∀ p ∈ ps, p.R) → ∃ d : Array RP, pfsOf d = ps
  | [], _ => ⟨#[], rfl⟩
  | p :: r, h => by
    obtain ⟨d, hd⟩ := exists_rp r (fun x hx => h x (by simp [hx]))
    exact ⟨⟨some ⟨p, h p (by simp)⟩ :: d.toList⟩, congrArg (List.cons p) hd⟩
theorem flatK_at (d : Array RP) (t : Nat) (h : t < d.size * 4) : (flat (pfsOf d))[t]? = some ((flatK encP 4 d)[t]!) := by
  rw [get_flatK encP 4 d t h]
  have hj : t / 4 < (pfsOf d).length := by rw [pfsOf_len]; omega
  obtain ⟨a, b, c, e⟩ := flat_at (pfsOf d) (t / 4) hj
  rw [pfsOf_at d _ hj] at a b c e
  have h4 : t % 4 = 0 ∨ t % 4 = 1 ∨ t % 4 = 2 ∨ t % 4 = 3 := by omega
  rcases h4 with h4 | h4 | h4 | h4 <;> rw [h4]
  · rw [show t = t / 4 * 4 by omega, a, show t / 4 * 4 / 4 = t / 4 by omega]; rfl
  · rw [show t = t / 4 * 4 + 1 by omega, b, show (t / 4 * 4 + 1) / 4 = t / 4 by omega]; rfl
  · rw [show t = t / 4 * 4 + 2 by omega, c, show (t / 4 * 4 + 2) / 4 = t / 4 by omega]; rfl
  · rw [show t = t / 4 * 4 + 3 by omega, e, show (t / 4 * 4 + 3) / 4 = t / 4 by omega]; rfl
theorem holds_of_row {w : World} {g c : Nat} {cur : Array Value} {d : Array RP} (hc : w.heap[g]? = some (.cells cur 27 (0, 0))) (hx : cur.toList.take (d.size * 4) = flat (pfsOf d)) : HoldsK encP 4 w g 0 d := by
  intro j hj
  rw [size_flatK] at hj
  have h1 := flatK_at d j hj
  rw [← hx, List.getElem?_take_of_lt hj] at h1
  refine ⟨?_, ?_⟩
  · simp [World.cell?, hc]
    simpa using h1
  · simp [World.frozen?, hc]
theorem sl_of_holds {w : World} {g : Nat} {d : Array RP} (hg : g < w.heap.size) (h : HoldsK encP 4 w g 0 d) : Sl w (some ⟨g, 0, none⟩) (pfsOf d) := by
  intro j hj
  have hj' : j < d.size := by rw [pfsOf_len] at hj; exact hj
  have key : ∀ t, t < d.size * 4 → w.cell? ⟨g, 0 + t, none⟩ = (flat (pfsOf d))[t]? := fun t ht => by
    rw [flatK_at d t ht]; exact (h t (by rw [size_flatK]; exact ht)).1
  obtain ⟨a, b, c, e⟩ := flat_at (pfsOf d) j hj
  refine ⟨g, 0, rfl, hg, ?_, ?_, ?_, ?_⟩
  · rw [key _ (by omega)]; exact a
  · rw [show 0 + j * 4 + 1 = 0 + (j * 4 + 1) by omega, key _ (by omega)]; exact b
  · rw [show 0 + j * 4 + 2 = 0 + (j * 4 + 2) by omega, key _ (by omega)]; exact c
  · rw [show 0 + j * 4 + 3 = 0 + (j * 4 + 3) by omega, key _ (by omega)]; exact e
theorem below_sort {w : World} {blk m B : Nat} {dk : Array RP} {os : Array Obj} (hB : B ≤ blk) (hw : blk < w.heap.size) : Below B w (sortWorldK encP 4 w blk 0 m dk os) := by
  refine ⟨rfl, rfl, rfl, ?_, fun k hk => ?_⟩
  · simp [sortWorldK, Go.Sort.putRowK, Go.Sort.putRow, Go.Sort.mapBlock, Go.Sort.ahead]
  · have h1 : k < w.heap.size := by omega
    have h2 : blk ≠ k := by omega
    simp [sortWorldK, Go.Sort.grow, Go.Sort.putRowK, Go.Sort.putRow, Go.Sort.mapBlock, Go.Sort.ahead, Array.getElem?_append, Array.getElem?_modify, Array.getElem_modify, h1, h2]

theorem aggP (w : World) : (isAgg 27).run Tryz.prog w = .ok true w := by kernel_rfl
theorem sizeP (w : World) : (Go.sizeOf 27).run Tryz.prog w = .ok 4 w := by kernel_rfl

/-- None stands ahead of one that it stands behind. -/
def Rises (S : List Pf) : Prop := S.Pairwise fun p q => ¬ q.cmp p < 0
/-- A row that is owned is sorted: another row, of the same prefixes. -/
theorem sort_any (B : Nat) (v : Value) (ps : List Pf) (w : World) (hR : ∀ p ∈ ps, p.R) (hl : ps.length ≤ 4096) (hB : B ≤ w.heap.size) (ho : w.ownsRow B 27 4 v ps.length (flat ps)) :
    Calls Tryz.prog 41 #[v, .func (.func 42) #[] #[]] w fun e w' => e = .returned (.tuple #[]) ∧ ∃ a c S, v = .slice a S.length c ∧ S.length ≤ c ∧ Sl w' a S ∧ S.length = ps.length ∧ (∀ p, p ∈ S ↔ p ∈ ps) ∧ Rises S ∧ Below B w w' := by
  obtain ⟨h1, h2⟩ := ho
  rcases h2 with ⟨rfl, h2⟩ | ⟨g, c, cur, rfl, hg, hc, h3, h4, h5, h6⟩
  · have : ps = [] := List.length_eq_zero_iff.1 h2
    subst this
    refine (Tryz.slices_SortFunc_none (α := RP) none 0 _ w).mono ?_
    rintro e w' ⟨rfl, rfl⟩
    exact ⟨rfl, none, 0, [], rfl, Nat.le_refl _, fun j hj => by simp at hj, rfl, fun p => Iff.rfl, .nil, Below.refl _ _⟩
  · obtain ⟨d, rfl⟩ := exists_rp ps hR
    rw [pfsOf_len] at h3 h6 hl ⊢
    have hH := holds_of_row (c := c) hc h6
    have hgw : g < w.heap.size := (Array.getElem?_eq_some_iff.1 hc).1
    refine (Tryz.slices_SortFunc 4 aggP sizeP encP (fun _ => rfl) encP_one cfP swoP 42 #[] g 0 c d w enters_cmp (cmpLaysP g 0 d.size w) hH hgw (by omega)).mono ?_
    rintro e w' ⟨rfl, d', n, os, hp, hs, rfl⟩
    obtain ⟨p1, p2, p3⟩ := hp
    have hH' : HoldsK encP 4 (sortWorldK encP 4 w g 0 n d' os) g 0 d' := (show SWK encP 4 w g 0 d' _ from ⟨n, os, rfl⟩).holds hgw hH p1
    have hlt : g < (sortWorldK encP 4 w g 0 n d' os).heap.size := Nat.lt_of_lt_of_le hgw (show SWK encP 4 w g 0 d' _ from ⟨n, os, rfl⟩).le
    have hmem : ∀ p, p ∈ pfsOf d' ↔ p ∈ pfsOf d := by
      have e1 : d'.extract 0 d.size = d' := by rw [← p1]; simp
      have e2 : d.extract 0 d.size = d := by simp
      rw [e1, e2] at p3
      exact fun p => (p3.map valP).mem_iff
    refine ⟨rfl, some ⟨g, 0, none⟩, c, pfsOf d', by rw [pfsOf_len, p1], by rw [pfsOf_len, p1]; exact h3, sl_of_holds hlt hH', by rw [pfsOf_len, p1], hmem, ?_, below_sort hg hgw⟩
    unfold Rises
    rw [List.pairwise_iff_getElem]
    intro i j hi hj hij
    have := hs i j (Nat.zero_le _) hij (by rw [pfsOf_len, p1] at hj; exact hj)
    unfold ltOf cfP at this
    rw [decide_eq_false_iff_not] at this
    rw [pfsOf_at, pfsOf_at]; exact this
end Go.Proofs.YtojdlpiogbjfcaaGreatDoor

namespace Go.Proofs.YtojdlpiogbjfcaaGreatDoor
open Go.RowKit

set_option maxHeartbeats 2000000 in
set_option maxRecDepth 100000 in
theorem clone_empty (a : Option Addr) (c : Nat) (w : World) :
    Calls Tryz.prog 40 #[.slice a 0 c] w fun e w' => ∃ a' c', e = .returned (.slice a' 0 c') ∧ Below w.heap.size w w' := by
  cases a with
  | none =>
    refine (Tryz.slices_Clone_nil 0 c w).mono ?_
    rintro e w' ⟨rfl, rfl⟩
    exact ⟨none, 0, rfl, Below.refl _ _⟩
  | some ad =>
    obtain ⟨i0, hi0, hz0, hz1, hz2⟩ := info_parts infoP
    have q22 : ∀ (w : World) (a : Option Addr) (n c n' c' : Nat), (binOp .eql 22 (.slice a n c) (.slice none n' c')).run Tryz.prog w = .ok (.bool a.isNone) w := fun w a n c n' c' => Lib.run_eql_slice_nil w _ _ a n c n' c' Tryz.underlying22
    go_enter Tryz.func40, Tryz.ntmps40
    go_wp2_with (at_builtin; refine wpList_append_own _ rfl _ _ 22 rfl w.heap.size 27 i0 _ 4 32 Tryz.underlying22 hi0 hz0 hz1 hz2 rfl (by decide) _ _ _ rfl (row_empty w) ad 0 c [] rfl rfl (by simp) (by simp) (by unfold maxLen; omega) (by omega) (by simp) ?_)
    intro v' w4 hown hgrow _
    have HB : Hid (Below w.heap.size w w4) := (bal (Below.refl _ _) _).grown hgrow (by simp) (fun k hk => ((row_empty w).lt k hk).1)
    have HV : Hid (∃ a' c', v' = .slice a' 0 c') := by
      rcases hown.2 with ⟨h, _⟩ | ⟨g, cap, cur, h, _⟩
      · exact ⟨_, _, h⟩
      · exact ⟨_, _, h⟩
    clear hown hgrow
    obtain ⟨a', c', rfl⟩ := HV.out
    go_wp2
    go_ret
    exact ⟨_, _, rfl, HB.out⟩

theorem clone_any (a : Option Addr) (c : Nat) (ps : List Pf) (w : World) (h0 : 0 < ps.length) (hl : ps.length ≤ 4096) (hs : Sl w a ps) :
    Calls Tryz.prog 40 #[.slice a ps.length c] w fun e w' => ∃ v', e = .returned v' ∧ w'.ownsRow w.heap.size 27 4 v' ps.length (flat ps) ∧ Below w.heap.size w w' := by
  obtain ⟨i0, hi0, hz0, hz1, hz2⟩ := info_parts infoP
  obtain ⟨g, o, rfl, hg, _⟩ := hs 0 h0
  refine (Tryz.slices_Clone i0 _ 4 32 hi0 hz0 hz1 hz2 rfl (by decide) sizeP g o ps.length c (flat ps) w (flat_len ps) (by unfold maxLen; omega) (by omega) (fun j u hj => by have := sl_news hs j u hj; rwa [add_addr] at this) (flat_one ps)).mono ?_
  rintro e w' ⟨v', rfl, h1, _, h2⟩
  exact ⟨v', rfl, h1, h2⟩

/-- The call hands back a norm, in memory of its own. -/
def NormPost (w : World) (n : Nat) (A : Bool → Int → Prop) (e : Ending) (w' : World) : Prop := ∃ v M, e = .returned v ∧ w'.ownsRow w.heap.size 27 4 v M.length (flat M) ∧ IsNorm M A ∧ M.length ≤ n ∧ Below w.heap.size w w'
theorem norm_nil : IsNorm [] (Adr ([].map Pf.nd)) := ⟨by simp, ⟨by simp, .nil⟩, fun v x => Iff.rfl⟩

set_option maxHeartbeats 4000000 in
set_option maxRecDepth 100000 in
theorem norm_any (a : Option Addr) (c : Nat) (ps : List Pf) (w : World) (hR : ∀ p ∈ ps, p.R) (hl : ps.length ≤ 4096) (hs : Sl w a ps) :
    Calls Tryz.prog 24 #[.slice a ps.length c] w (NormPost w ps.length (Adr (ps.map Pf.nd))) := by
  by_cases h0 : ps.length = 0
  · have : ps = [] := List.length_eq_zero_iff.1 h0
    subst this
    have HC : Hid (∀ w : World, Calls Tryz.prog 40 #[.slice a 0 c] w fun e w' => ∃ a' c', e = .returned (.slice a' 0 c') ∧ Below w.heap.size w w') := clone_empty a c
    have HS : Hid (∀ (p : Option Addr) (cap : Nat) (fv : Value) (w : World), Calls Tryz.prog 41 #[.slice p 0 cap, fv] w fun e w' => e = .returned (.tuple #[]) ∧ w' = w) := Tryz.slices_SortFunc_none (α := RP)
    clear hR hl hs h0
    go_enter Tryz.func24, Tryz.ntmps24
    go_wp2_with fail
    refine (HC.out _).mono ?_
    rintro e w1 ⟨a1, c1, rfl, b1⟩
    have HB := Lib.hid b1
    clear b1 HC
    go_wp2_with fail
    refine (HS.out _ _ _ _).mono ?_
    rintro e w2 ⟨rfl, rfl⟩
    go_wp2_with fail
    refine wp_loop_rounds 1 ?_
    rw [rounds_succ]
    go_wp2
    go_ret
    exact ⟨_, [], rfl, row_nil _ _ _ _, norm_nil, Nat.le_refl _, HB.out⟩
  · have HC := Lib.hid (fun w' h => clone_any a c ps w' (by omega) hl (hs.below (w' := w') h))
    have HS := Lib.hid (fun B v w' h1 h2 => sort_any B v ps w' hR hl h1 h2)
    have HPut : Hid (∀ (R : List Pf) (p : Pf) (v : Value) (w' : World) (B : Nat), (∀ e ∈ R, e.R) → p.R → R.length ≤ 4096 → B ≤ w'.heap.size → w'.ownsRow B 27 4 v R.reverse.length (flat R.reverse) → Calls Tryz.prog 43 #[v, .agg #[.bool p.v, .int .u64 p.hi, .int .u64 p.lo, .int .i64 p.b]] w' (PutPost B w' (putP R p).reverse)) := put_any
    have HR := Lib.hid hR
    have HL := Lib.hid hl
    clear hR hl hs h0
    go_enter Tryz.func24, Tryz.ntmps24
    go_wp2_with fail
    refine (HC.out _ (Below.refl _ _)).mono ?_
    rintro e w1 ⟨v1, rfl, o1, b1⟩
    have HB := Lib.hid b1
    have HO := Lib.hid o1
    clear b1 o1 HC
    go_wp2_with fail
    refine (HS.out w.heap.size _ _ HB.out.size HO.out).mono ?_
    rintro e w2 ⟨rfl, a2, c2, S2, rfl, hc2, s2, l2, m2, pw2, b2⟩
    replace HB := Lib.hid (HB.out.trans b2)
    have hSl : Hid (Sl w2 a2 S2) := s2
    have hlen : Hid (S2.length = ps.length) := l2
    have hmem : Hid (∀ p, p ∈ S2 ↔ p ∈ ps) := m2
    have hpw : Hid (Rises S2) := pw2
    obtain ⟨N, hN⟩ : ∃ N, N = S2.length := ⟨_, rfl⟩
    rw [← hN]
    have HN := Lib.hid hN
    have hN8 : N ≤ 4096 := by rw [hN, l2]; exact HL.out
    clear s2 l2 m2 pw2 b2 HS HO hc2 hN
    go_wp2_with fail
    go_loopw [4, 13] (fun vo vi wr => ∃ (k : Nat), vi = .int .i64 k ∧ k ≤ N ∧ Hid (wr.ownsRow w2.heap.size 27 4 vo ((S2.take k).foldl putP []).reverse.length (flat ((S2.take k).foldl putP []).reverse)) ∧ Hid (Below w2.heap.size w2 wr))
      (fun _ vi _ => N - (intOf vi).toNat)
    case atStart => exact ⟨0, rfl, Nat.zero_le _, row_nil _ _ _ _, Below.refl _ _⟩
    case round =>
      obtain ⟨k, rfl, hk, HO, HW⟩ := hrel
      have hN := HN.out
      by_cases hkN : k < N
      · have hkl : k < S2.length := by omega
        obtain ⟨g, o, rfl, hg, c0, c1, c3, c4⟩ := hSl.out k hkl
        rw [← (show wr.cell? _ = w2.cell? _ from HW.out.cell (p := ⟨g, _, none⟩) hg)] at c0 c1 c3 c4
        have hgr : g < wr.heap.size := Nat.lt_of_lt_of_le hg HW.out.size
        have k3 : (k : Int) < (N : Int) := by omega
        have k4 : (0 : Int) ≤ (k : Int) := by omega
        have hall : ∀ e ∈ (S2.take k).foldl putP [], e.R := (foldP_nd (S2.take k) [] (by simp) (fun e he => HR.out e ((hmem.out e).1 (List.mem_of_mem_take he)))).1
        have hp : (S2[k]).R := HR.out _ ((hmem.out _).1 (List.getElem_mem hkl))
        have hfl : ((S2.take k).foldl putP []).length ≤ 4096 := by
          have := foldP_len (S2.take k) []
          simp at this; omega
        have hst : (S2.take (k + 1)).foldl putP [] = putP ((S2.take k).foldl putP []) S2[k] := by
          rw [List.take_succ_eq_append_getElem hkl, List.foldl_append]; rfl
        have HPk : Hid (∀ (w' : World) , w2.heap.size ≤ w'.heap.size → w'.ownsRow w2.heap.size 27 4 u4 ((S2.take k).foldl putP []).reverse.length (flat ((S2.take k).foldl putP []).reverse) → Calls Tryz.prog 43 #[u4, .agg #[.bool S2[k].v, .int .u64 S2[k].hi, .int .u64 S2[k].lo, .int .i64 S2[k].b]] w' (PutPost w2.heap.size w' ((S2.take (k + 1)).foldl putP []).reverse)) := fun w' h1 h2 => by
          rw [hst]; exact HPut.out _ _ _ w' _ hall hp hfl h1 h2
        generalize S2[k] = x at *
        obtain ⟨v, hi, lo, b⟩ := x
        simp only at c0 c1 c3 c4 HPk
        clear hall hp hfl hst hN
        go_wp2_with fail
        refine (HPk.out _ (Nat.le_trans HW.out.size (by simp)) (own_keep HO.out (pal wr v hi lo b))).mono ?_
        rintro e w5 ⟨v5, rfl, o5, b5⟩
        have HO5 := Lib.hid o5
        have HW5 : Hid (Below w2.heap.size w2 w5) := (HW.out.trans (below_le (pal wr v hi lo b) HW.out.size)).trans b5
        clear o5 b5 c0 c1 c3 c4
        go_wp2_with fail
        go_roundw
        case rel => exact ⟨k + 1, by go_num, by omega, HO5, HW5⟩
        case measure => simp [intOf]; omega
      · have hkN' : k = N := by omega
        subst hkN'
        have k3 : decide ((k : Int) < (k : Int)) = false := by simp
        have hfin : IsNorm ((S2.take k).foldl putP []).reverse (Adr (ps.map Pf.nd)) := by
          rw [List.take_of_length_le (by omega)]
          refine (foldP_norm (fun p hp => HR.out p ((hmem.out p).1 hp)) hpw.out).of (adr_perm (fun q => ?_))
          simp only [List.mem_map]
          exact ⟨fun ⟨p, hp, e⟩ => ⟨p, (hmem.out p).1 hp, e⟩, fun ⟨p, hp, e⟩ => ⟨p, (hmem.out p).2 hp, e⟩⟩
        have hfl : ((S2.take k).foldl putP []).reverse.length ≤ ps.length := by
          have := foldP_len (S2.take k) []
          have := hlen.out
          simp at *; omega
        have HF := Lib.hid hfin
        have HFL := Lib.hid hfl
        clear hfin hfl hN
        go_wp2_with fail
        go_ret
        exact ⟨_, _, rfl, row_base HO.out HB.out.size, HF.out, HFL.out, HB.out.trans (below_le HW.out HB.out.size)⟩
end Go.Proofs.YtojdlpiogbjfcaaGreatDoor

namespace Go.Proofs.YtojdlpiogbjfcaaGreatDoor
open Go.RowKit

theorem slkL_ok {ps : List Pf} (hok : ∀ p ∈ ps, p.Ok) (h : slkL ps = 0) : ps.length ≤ 12 ∧ ∀ p ∈ ps, p.R := by
  unfold slkL at h
  split at h
  · exact absurd h (by decide)
  · refine ⟨by omega, ?_⟩
    have key : ∀ l : List Pf, schk l = 0 → ∀ p ∈ l, p.chk = 0 := by
      intro l
      induction l with
      | nil => intro _ p hp; simp at hp
      | cons q r ih =>
        intro hs p hp
        rw [schk_cons] at hs
        by_cases hq : q.chk = 0
        · rw [if_pos hq] at hs
          rcases List.mem_cons.1 hp with rfl | hp
          · exact hq
          · exact ih hs p hp
        · rw [if_neg hq] at hs; exact absurd hs hq
    intro p hp
    obtain ⟨a, b, c, d⟩ := hok p hp
    exact (right_iff _ _ _ _ a b c d).1 (key ps h p hp)

theorem sNorm_bad (a : Option Addr) (c : Nat) (ps : List Pf) (w : World) (hok : ∀ p ∈ ps, p.Ok) (hs : Sl w a ps) (h : slkL ps ≠ 0) :
    Calls Tryz.prog 8 #[.slice a ps.length c] w fun e w' => e = .returned (.tuple #[.slice none 0 0, .int .i64 (slkL ps)]) ∧ Below w.heap.size w w' := by
  have HK := Lib.hid (fun w' (hb : Below w.heap.size w w') => slook_any a c ps w' hok (hs.below hb))
  have hI : (slkL ps != 0) = true := by rw [bne_iff_ne]; exact h
  generalize ps.length = N at *
  generalize slkL ps = r at *
  clear hok hs h
  go_enter Tryz.func8, Tryz.ntmps8
  go_wp2_with fail
  refine (HK.out _ (Below.refl _ _)).mono ?_
  rintro e w2 ⟨rfl, hb⟩
  have HB := Lib.hid hb
  clear hb
  go_wp2
  go_ret2
  exact ⟨rfl, HB.out⟩

/-- The call hands back a norm and no error. -/
def NormPost2 (w : World) (n : Nat) (A : Bool → Int → Prop) (e : Ending) (w' : World) : Prop := ∃ v M, e = .returned (.tuple #[v, .int .i64 0]) ∧ w'.ownsRow w.heap.size 27 4 v M.length (flat M) ∧ IsNorm M A ∧ M.length ≤ n ∧ Below w.heap.size w w'

theorem sNorm_ok (a : Option Addr) (c : Nat) (ps : List Pf) (w : World) (hok : ∀ p ∈ ps, p.Ok) (hs : Sl w a ps) (h : slkL ps = 0) :
    Calls Tryz.prog 8 #[.slice a ps.length c] w (NormPost2 w ps.length (Adr (ps.map Pf.nd))) := by
  obtain ⟨h12, hR⟩ := slkL_ok hok h
  have HK := Lib.hid (fun w' (hb : Below w.heap.size w w') => slook_any a c ps w' hok (hs.below hb))
  have HN := Lib.hid (fun w' (hb : Below w.heap.size w w') => norm_any a c ps w' hR (by omega) (hs.below hb))
  rw [h] at HK
  generalize ps.length = N at *
  clear hok hs h hR
  go_enter Tryz.func8, Tryz.ntmps8
  go_wp2_with fail
  refine (HK.out _ (Below.refl _ _)).mono ?_
  rintro e w2 ⟨rfl, hb⟩
  have HB := Lib.hid hb
  clear hb
  go_wp2_with fail
  refine (HN.out _ HB.out).mono ?_
  rintro e w3 ⟨v, M, rfl, h1, h2, h3, h4⟩
  have H1 := Lib.hid h1
  have H2 := Lib.hid h2
  have H3 := Lib.hid h3
  have H4 := Lib.hid h4
  clear h1 h2 h3 h4
  go_wp2
  go_ret2
  exact ⟨v, M, rfl, row_base H1.out HB.out.size, H2.out, H3.out, btr HB.out H4.out⟩

def sMinE (ps : List Pf) (p : Pf) : Int := if slkL ps = 0 then p.chk else slkL ps

set_option maxHeartbeats 4000000 in
set_option maxRecDepth 100000 in
theorem sMinus_bad (a : Option Addr) (c : Nat) (ps : List Pf) (p : Pf) (w : World) (hok : ∀ p ∈ ps, p.Ok) (hp : p.Ok) (hs : Sl w a ps) (h : sMinE ps p ≠ 0) :
    Calls Tryz.prog 9 #[.slice a ps.length c, .agg #[.bool p.v, .int .u64 p.hi, .int .u64 p.lo, .int .i64 p.b]] w fun e w' => e = .returned (.tuple #[.slice none 0 0, .int .i64 (sMinE ps p)]) ∧ Below w.heap.size w w' := by
  have HK := Lib.hid (fun w' (hb : Below w.heap.size w w') => slook_any a c ps w' hok (hs.below hb))
  have HB := Lib.hid (bal (Below.refl w.heap.size w) (.cells #[.bool p.v, .int .u64 p.hi, .int .u64 p.lo, .int .i64 p.b] 27))
  have HP := Lib.hid (Has4.new w p.v p.hi p.lo p.b 27)
  have HC : Hid (∀ w : World, Calls Tryz.prog 13 #[.agg #[.bool p.v, .int .u64 p.hi, .int .u64 p.lo, .int .i64 p.b]] w fun e w' => e = .returned (.int .i64 p.chk) ∧ Below w.heap.size w w') := fun w => pcheck_any p.v p.hi p.lo p.b w hp.1 hp.2.1 hp.2.2.1 hp.2.2.2
  have hI : (sMinE ps p != 0) = true := by rw [bne_iff_ne]; exact h
  unfold sMinE at *
  by_cases hr : slkL ps = 0
  · rw [if_pos hr] at hI ⊢
    rw [hr] at HK
    generalize ps.length = N at *
    generalize p.chk = r at *
    clear hok hs h hr hp
    go_enter Tryz.func9, Tryz.ntmps9
    go_wp2_with fail
    refine (HK.out _ HB.out).mono ?_
    rintro e w2 ⟨rfl, hb⟩
    replace HP := Lib.hid (HP.out.below hb)
    replace HB := Lib.hid (btr HB.out hb)
    clear hb HK
    obtain ⟨a0, a1, a2, a3, a4⟩ := HP.out
    go_wp2_with fail
    refine (HC.out _).mono ?_
    rintro e w3 ⟨rfl, hb⟩
    replace HB := Lib.hid (btr HB.out hb)
    clear hb a0 a1 a2 a3 a4
    go_wp2
    go_ret2
    exact ⟨rfl, HB.out⟩
  · rw [if_neg hr] at hI ⊢
    generalize ps.length = N at *
    generalize slkL ps = r at *
    clear hok hs h hr hp
    go_enter Tryz.func9, Tryz.ntmps9
    go_wp2_with fail
    refine (HK.out _ HB.out).mono ?_
    rintro e w2 ⟨rfl, hb⟩
    replace HB := Lib.hid (btr HB.out hb)
    clear hb HK
    go_wp2
    go_ret2
    exact ⟨rfl, HB.out⟩

theorem cutAll_append (p : Pf) : ∀ l r : List Pf, cutAll p (l ++ r) = cutAll p l ++ cutAll p r
  | [], r => rfl
  | q :: l, r => by rw [List.cons_append, cutAll, cutAll, cutAll_append p l r, List.append_assoc]

set_option maxHeartbeats 4000000 in
set_option maxRecDepth 100000 in
theorem sMinus_ok (a : Option Addr) (c : Nat) (ps : List Pf) (p : Pf) (w : World) (hok : ∀ p ∈ ps, p.Ok) (hp : p.Ok) (hs : Sl w a ps) (h : sMinE ps p = 0) :
    Calls Tryz.prog 9 #[.slice a ps.length c, .agg #[.bool p.v, .int .u64 p.hi, .int .u64 p.lo, .int .i64 p.b]] w (NormPost2 w 1548 (fun v x => Adr (ps.map Pf.nd) v x ∧ ¬ p.nd.In v x)) := by
  unfold sMinE at h
  by_cases hr : slkL ps = 0
  · rw [if_pos hr] at h
    obtain ⟨h12, hR⟩ := slkL_ok hok hr
    have rp : p.R := (right_iff _ _ _ _ hp.1 hp.2.1 hp.2.2.1 hp.2.2.2).1 h
    obtain ⟨k1, k2, k3⟩ := cutAll_ok rp hR
    have HK := Lib.hid (fun w' (hb : Below w.heap.size w w') => slook_any a c ps w' hok (hs.below hb))
    rw [hr] at HK
    have HB := Lib.hid (bal (Below.refl w.heap.size w) (.cells #[.bool p.v, .int .u64 p.hi, .int .u64 p.lo, .int .i64 p.b] 27))
    have HP := Lib.hid (Has4.new w p.v p.hi p.lo p.b 27)
    have HC : Hid (∀ w : World, Calls Tryz.prog 13 #[.agg #[.bool p.v, .int .u64 p.hi, .int .u64 p.lo, .int .i64 p.b]] w fun e w' => e = .returned (.int .i64 0) ∧ Below w.heap.size w w') := fun w => by
      have := pcheck_any p.v p.hi p.lo p.b w hp.1 hp.2.1 hp.2.2.1 hp.2.2.2
      rw [show pchk p.v p.hi p.lo p.b = 0 from h] at this
      exact this
    have HN := Lib.hid (fun a' c' w' (h' : Sl w' a' (cutAll p ps)) => norm_any a' c' (cutAll p ps) w' k1 (by omega) h')
    have HA := Lib.hid k2
    have HL : Hid ((cutAll p ps).length ≤ 1548) := Lib.hid (by omega)
    have HR := Lib.hid hR
    have Hp := Lib.hid rp
    have Hs := Lib.hid hs
    obtain ⟨i0, hi0, hz0, hz1, hz2⟩ := info_parts infoP
    obtain ⟨N, hN⟩ : ∃ N, N = ps.length := ⟨_, rfl⟩
    rw [← hN] at h12 HK ⊢
    have HNN := Lib.hid hN
    clear hok hs h hr hp hR rp k1 k2 k3 hN
    go_enter Tryz.func9, Tryz.ntmps9
    go_wp2_with fail
    refine (HK.out _ HB.out).mono ?_
    rintro e w2 ⟨rfl, hb⟩
    replace HP := Lib.hid (HP.out.below hb)
    replace HB := Lib.hid (btr HB.out hb)
    clear hb HK
    obtain ⟨a0, a1, a2, a3, a4⟩ := HP.out
    go_wp2_with fail
    refine (HC.out _).mono ?_
    rintro e w3 ⟨rfl, hb⟩
    clear a0 a1 a2 a3 a4
    replace HP := Lib.hid (HP.out.below hb)
    replace HB := Lib.hid (btr HB.out hb)
    clear hb HC
    go_wp2_with fail
    go_loopw [8, 23] (fun vo vi wr => ∃ (k : Nat), vi = .int .i64 k ∧ k ≤ N ∧ Hid (wr.ownsRow w3.heap.size 27 4 vo (cutAll p (ps.take k)).length (flat (cutAll p (ps.take k)))) ∧ Hid (Below w3.heap.size w3 wr))
      (fun _ vi _ => N - (intOf vi).toNat)
    case atStart => exact ⟨0, rfl, Nat.zero_le _, row_nil _ _ _ _, Below.refl _ _⟩
    case round =>
      obtain ⟨k, rfl, hk, HO, HW⟩ := hrel
      have hN := HNN.out
      by_cases hkN : k < N
      · have hkl : k < ps.length := by omega
        obtain ⟨g, o, rfl, hg, c0, c1, c2, c3⟩ := Hs.out k hkl
        have hg3 : g < w3.heap.size := Nat.lt_of_lt_of_le hg HB.out.size
        rw [← (show w3.cell? _ = w.cell? _ from HB.out.cell (p := ⟨g, _, none⟩) hg), ← (show wr.cell? _ = w3.cell? _ from HW.out.cell (p := ⟨g, _, none⟩) hg3)] at c0 c1 c2 c3
        have hgr : g < wr.heap.size := Nat.lt_of_lt_of_le hg3 HW.out.size
        have HPr := Lib.hid (HP.out.below HW.out)
        have q3 : (k : Int) < (N : Int) := by omega
        have q4 : (0 : Int) ≤ (k : Int) := by omega
        have hx : (ps[k]).R := HR.out _ (List.getElem_mem hkl)
        have hst : cutAll p (ps.take (k + 1)) = cutAll p (ps.take k) ++ cutP p (ps[k]).nd.h ps[k] := by
          rw [List.take_succ_eq_append_getElem hkl, cutAll_append, cutAll, cutAll, List.append_nil]
        have l1 := (cutAll_ok Hp.out (l := ps.take k) (fun q hq => HR.out q (List.mem_of_mem_take hq))).2.2
        have l2 := (cutP_nd p Hp.out _ ps[k] hx rfl).2.2
        have l3 := nd_h_le hx
        have l4 : (ps.take k).length ≤ 12 := by rw [List.length_take]; omega
        have HLL : Hid ((cutAll p (ps.take k)).length + (cutP p (ps[k]).nd.h ps[k]).length ≤ 100000) := Lib.hid (by omega)
        have HCu : Hid (∀ w' : World, Calls Tryz.prog 25 #[.agg #[.bool (ps[k]).v, .int .u64 (ps[k]).hi, .int .u64 (ps[k]).lo, .int .i64 (ps[k]).b], .agg #[.bool p.v, .int .u64 p.hi, .int .u64 p.lo, .int .i64 p.b]] w' (RowPost w' (cutP p (ps[k]).nd.h ps[k]))) := fun w' => scut_any p Hp.out _ ps[k] w' hx rfl
        have HST := Lib.hid hst
        generalize cutP p (ps[k]).nd.h ps[k] = X at *
        generalize ps[k] = x at *
        obtain ⟨v, hi, lo, b⟩ := x
        simp only at c0 c1 c2 c3 HCu
        obtain ⟨a0, a1, a2, a3, a4⟩ := HPr.out
        clear hx hst l1 l2 l3 l4 hN
        go_wp2_with fail
        refine (HCu.out _).mono ?_
        rintro e w5 ⟨v5, rfl, o5, b5⟩
        have HW5 : Hid (Below w3.heap.size w3 w5) := (HW.out.trans (below_le (pal wr v hi lo b) HW.out.size)).trans (below_le b5 (Nat.le_trans HW.out.size (by simp)))
        have HO5 : Hid (w5.ownsRow w3.heap.size 27 4 u8 (cutAll p (ps.take k)).length (flat (cutAll p (ps.take k)))) := own_keep (own_keep HO.out (pal wr v hi lo b)) b5
        have HX5 := Lib.hid o5
        clear o5 b5 c0 c1 c2 c3 a0 a1 a2 a3 a4
        go_wp2_with (at_builtin; refine wpList_append_pfs rfl _ _ 22 rfl w3.heap.size i0 _ Tryz.underlying22 hi0 hz0 hz1 hz2 rfl _ _ rfl HO5.out v5 _ X rfl HX5.out HLL.out HW5.out.size ?_)
        intro v6 w6 hown6 hgrow6
        have HW6 : Hid (Below w3.heap.size w3 w6) := HW5.out.grown hgrow6 HW5.out.size (fun k hk => (HO5.out.lt k hk).1)
        have HO6 : Hid (w6.ownsRow w3.heap.size 27 4 v6 (cutAll p (ps.take (k + 1))).length (flat (cutAll p (ps.take (k + 1))))) := by rw [HST.out, List.length_append]; exact hown6
        clear hown6 hgrow6
        go_wp2_with fail
        go_roundw
        case rel => exact ⟨k + 1, by go_num, by omega, HO6, HW6⟩
        case measure => simp [intOf]; omega
      · have hkN' : k = N := by omega
        subst hkN'
        have q3 : decide ((k : Int) < (k : Int)) = false := by simp
        have HO2 : Hid (wr.ownsRow w3.heap.size 27 4 u8 (cutAll p ps).length (flat (cutAll p ps))) := by
          have := HO.out
          rw [List.take_of_length_le (by omega)] at this
          exact this
        obtain ⟨a7, c7, rfl, _, s7⟩ := own_sl HO2.out
        have HNr := Lib.hid (HN.out a7 c7 wr s7)
        clear s7 hN HN
        go_wp2_with fail
        refine HNr.out.mono ?_
        rintro e w7 ⟨v7, M, rfl, h1, h2, h3, h4⟩
        have H1 := Lib.hid h1
        have H2 := Lib.hid h2
        have H3 := Lib.hid h3
        have H4 := Lib.hid h4
        clear h1 h2 h3 h4
        go_wp2
        go_ret2
        exact ⟨v7, M, rfl, row_base H1.out (Nat.le_trans HB.out.size HW.out.size), H2.out.of HA.out, Nat.le_trans H3.out HL.out, HB.out.trans ((below_le HW.out HB.out.size).trans (below_le H4.out (Nat.le_trans HB.out.size HW.out.size)))⟩
  · rw [if_neg hr] at h
    exact absurd h hr
end Go.Proofs.YtojdlpiogbjfcaaGreatDoor

namespace Go.Proofs.YtojdlpiogbjfcaaGreatDoor
open Go.RowKit

theorem has1_any (ab : Nat) (v : Bool) (xh xl : Int) (p : Pf) (w : World) (h0 : 0 ≤ xh) (h1 : 0 ≤ xl) (r : p.R)
    (ha : Has3 w ab (.bool v) (.int .u64 xh) (.int .u64 xl)) :
    Calls Tryz.prog 28 #[.agg #[.bool p.v, .int .u64 p.hi, .int .u64 p.lo, .int .i64 p.b], .pointer (some ⟨ab, 0, none⟩)] w fun e w' => e = .returned (.bool (p.inA v xh xl)) ∧ Below w.heap.size w w' := by
  obtain ⟨u, hi, lo, b⟩ := p
  have hW : Hid (∀ w : World, Calls Tryz.prog 29 #[.agg #[.bool v, .int .u64 xh, .int .u64 xl], .agg #[.bool u, .int .u64 hi, .int .u64 lo, .int .i64 b]] w fun e w' =>
      e = .returned (.bool (inB v xh xl u hi lo b)) ∧ Below w.heap.size w w') := fun w => within_any v xh xl u hi lo b w h0 h1 r.h0 r.h1 r.l0 r.l1 ((right_iff _ _ _ _ r.h0 r.h1 r.l0 r.l1).2 r)
  have HB := Lib.hid (bal (Below.refl w.heap.size w) (.cells #[.bool u, .int .u64 hi, .int .u64 lo, .int .i64 b] 27))
  unfold Pf.inA
  simp only
  generalize inB v xh xl u hi lo b = r at *
  clear h0 h1
  obtain ⟨a0, a1, a2, a3⟩ := ha
  go_enter Tryz.func28, Tryz.ntmps28
  go_wp2_with fail
  refine (hW.out _).mono ?_
  rintro e w2 ⟨rfl, hb⟩
  go_wp2
  go_ret
  exact ⟨rfl, btr HB.out hb⟩
theorem enters_has1 : ∀ args w, (callFunc 28 args).run Tryz.prog w = .ok (.enter 28 args) w := enters_of Tryz.func28 (by kernel_rfl) rfl

set_option maxHeartbeats 2000000 in
theorem sindex_empty (a : Option Addr) (c : Nat) (fv : Value) (w : World) :
    Calls Tryz.prog 46 #[.slice a 0 c, fv] w fun e w' => e = .returned (.int .i64 (-1)) ∧ w' = w := by
  go_enter Tryz.func46, Tryz.ntmps46
  go_wp2_with fail
  refine wp_loop_rounds 1 ?_
  rw [rounds_succ]
  go_wp2
  go_ret
  exact ⟨rfl, rfl⟩
set_option maxHeartbeats 2000000 in
theorem scontains_empty (a : Option Addr) (c : Nat) (fv : Value) (w : World) :
    Calls Tryz.prog 27 #[.slice a 0 c, fv] w fun e w' => e = .returned (.bool false) ∧ w' = w := by
  have HI := Lib.hid (fun w => sindex_empty a c fv w)
  go_enter Tryz.func27, Tryz.ntmps27
  go_wp2_with fail
  refine (HI.out _).mono ?_
  rintro e w2 ⟨rfl, rfl⟩
  go_wp2
  go_ret
  exact ⟨rfl, rfl⟩

theorem scontains_any (ab : Nat) (a : Option Addr) (c : Nat) (ps : List Pf) (v : Bool) (xh xl : Int) (w : World) (h0 : 0 ≤ xh) (h1 : 0 ≤ xl) (hR : ∀ p ∈ ps, p.R) (hl : ps.length ≤ 4096) (hs : Sl w a ps)
    (ha : Has3 w ab (.bool v) (.int .u64 xh) (.int .u64 xl)) :
    Calls Tryz.prog 27 #[.slice a ps.length c, .func (.func 28) #[] #[.pointer (some ⟨ab, 0, none⟩)]] w fun e w' => e = .returned (.bool (hasL ps v xh xl)) ∧ Below w.heap.size w w' := by
  by_cases he : ps.length = 0
  · have : ps = [] := List.length_eq_zero_iff.1 he
    subst this
    refine (scontains_empty a c _ w).mono ?_
    rintro e w' ⟨rfl, rfl⟩
    exact ⟨rfl, Below.refl _ _⟩
  · obtain ⟨d, rfl⟩ := exists_rp ps hR
    obtain ⟨g, off, rfl, hg, _⟩ := hs 0 (by omega)
    have hp : PredBelow Tryz.prog 28 #[.pointer (some ⟨ab, 0, none⟩)] (fun x => .agg (encP x).toArray) (fun x => (valP x).inA v xh xl) w := fun W x hb =>
      (has1_any ab v xh xl (valP x) W h0 h1 (valR x) (ha.below hb)).mono fun e w' h => ⟨h.1, btr hb h.2⟩
    have hcell : ∀ j, j < d.toList.length → ∀ i u, (encP d.toList[j]!)[i]? = some u → w.cell? ⟨g, off + j * 4 + i, none⟩ = some u := fun j hj i u hu => by
      have hj' : j < (pfsOf d).length := by rw [pfsOf_len]; simpa using hj
      obtain ⟨g', o', e, _, c0, c1, c2, c3⟩ := hs j hj'
      obtain ⟨rfl, rfl⟩ : g = g' ∧ off = o' := by simpa using e
      rw [pfsOf_at d j hj'] at c0 c1 c2 c3
      have ed : d.toList[j]! = d[j]! := by rw [getElem!_pos d j (by simpa using hj), getElem!_pos d.toList j hj]; simp
      rw [ed] at hu
      match i, hu with
      | 0, hu => simp [encP] at hu; subst hu; exact c0
      | 1, hu => simp [encP] at hu; subst hu; exact c1
      | 2, hu => simp [encP] at hu; subst hu; exact c2
      | 3, hu => simp [encP] at hu; subst hu; exact c3
      | (i + 4), hu => simp [encP] at hu
    rw [pfsOf_len] at hl ⊢
    refine (Tryz.slices_ContainsFunc 4 aggP sizeP encP (fun _ => rfl) (fun x => (valP x).inA v xh xl) 28 _ enters_has1 g off d.size c d.toList w hp (by simp) (by omega) hg hcell).mono ?_
    rintro e w' ⟨rfl, hb⟩
    refine ⟨?_, hb⟩
    have : (d.toList.take d.size).any (fun x => (valP x).inA v xh xl) = hasL (pfsOf d) v xh xl := by
      rw [List.take_of_length_le (by simp)]
      unfold hasL pfsOf
      rw [List.any_map]; rfl
    rw [this]

def sHasE (ps : List Pf) (v : Bool) (xh xl : Int) : Int := if slkL ps = 0 then chk v xh xl else slkL ps
def sHasB (ps : List Pf) (v : Bool) (xh xl : Int) : Bool := if sHasE ps v xh xl = 0 then hasL ps v xh xl else false

set_option maxHeartbeats 4000000 in
set_option maxRecDepth 100000 in
theorem sHas_any (a : Option Addr) (c : Nat) (ps : List Pf) (v : Bool) (xh xl : Int) (w : World) (hok : ∀ p ∈ ps, p.Ok) (hs : Sl w a ps) (h0 : 0 ≤ xh) (h1 : 0 ≤ xl) :
    Calls Tryz.prog 10 #[.slice a ps.length c, .agg #[.bool v, .int .u64 xh, .int .u64 xl]] w fun e w' => e = .returned (.tuple #[.bool (sHasB ps v xh xl), .int .i64 (sHasE ps v xh xl)]) ∧ Below w.heap.size w w' := by
  have HB := Lib.hid (bal (Below.refl w.heap.size w) (.cells #[.bool v, .int .u64 xh, .int .u64 xl] 25))
  have HP := Lib.hid (Has3.new w (.bool v) (.int .u64 xh) (.int .u64 xl) 25)
  have HK := Lib.hid (fun w' (hb : Below w.heap.size w w') => slook_any a c ps w' hok (hs.below hb))
  by_cases hr : slkL ps = 0
  · obtain ⟨h12, hR⟩ := slkL_ok hok hr
    rw [hr] at HK
    have hA : Hid (∀ w : World, Calls Tryz.prog 26 #[.agg #[.bool v, .int .u64 xh, .int .u64 xl]] w fun e w' => e = .returned (.int .i64 (chk v xh xl)) ∧ ∃ c, w' = w.alloc (.cells c 25)) := fun w => check_any v xh xl w h0 h1
    have HC := Lib.hid (fun w' (hb : Below w.heap.size w w') (ha : Has3 w' w.heap.size (.bool v) (.int .u64 xh) (.int .u64 xl)) => scontains_any w.heap.size a c ps v xh xl w' h0 h1 hR (by omega) (hs.below hb) ha)
    rcases chk_cases v xh xl with ⟨hc, _⟩ | hc
    · rw [hc] at hA
      have e1 : sHasE ps v xh xl = 0 := by rw [sHasE, if_pos hr, hc]
      have e2 : sHasB ps v xh xl = hasL ps v xh xl := by rw [sHasB, if_pos e1]
      rw [e1, e2]
      generalize ps.length = N at *
      generalize hasL ps v xh xl = r at *
      clear e1 e2 hok hs hr h0 h1 hc h12 hR
      go_enter Tryz.func10, Tryz.ntmps10
      go_wp2_with fail
      refine (HK.out _ HB.out).mono ?_
      rintro e w2 ⟨rfl, hb⟩
      replace HP := Lib.hid (HP.out.below hb)
      replace HB := Lib.hid (btr HB.out hb)
      clear hb HK
      obtain ⟨a0, a1, a2, a3⟩ := HP.out
      go_wp2_with fail
      refine (hA.out _).mono ?_
      rintro e w3 ⟨rfl, cc, rfl⟩
      replace HP := Lib.hid (HP.out.alloc (.cells cc 25))
      replace HB := Lib.hid (bal HB.out (.cells cc 25))
      clear a0 a1 a2 a3 hA
      generalize w2.alloc (.cells cc 25) = w4 at *
      go_wp2_with fail
      refine (HC.out _ HB.out HP.out).mono ?_
      rintro e w5 ⟨rfl, hb⟩
      replace HB := Lib.hid (btr HB.out hb)
      clear hb HC
      go_wp2
      go_ret2
      exact ⟨rfl, HB.out⟩
    · rw [hc] at hA
      have e1 : sHasE ps v xh xl = 3 := by rw [sHasE, if_pos hr, hc]
      have e2 : sHasB ps v xh xl = false := by rw [sHasB, e1]; exact if_neg (by decide)
      rw [e1, e2]
      generalize ps.length = N at *
      clear e1 e2 hok hs hr h0 h1 hc h12 hR HC
      go_enter Tryz.func10, Tryz.ntmps10
      go_wp2_with fail
      refine (HK.out _ HB.out).mono ?_
      rintro e w2 ⟨rfl, hb⟩
      replace HP := Lib.hid (HP.out.below hb)
      replace HB := Lib.hid (btr HB.out hb)
      clear hb HK
      obtain ⟨a0, a1, a2, a3⟩ := HP.out
      go_wp2_with fail
      refine (hA.out _).mono ?_
      rintro e w3 ⟨rfl, cc, rfl⟩
      replace HB := Lib.hid (bal HB.out (.cells cc 25))
      clear a0 a1 a2 a3 hA
      generalize w2.alloc (.cells cc 25) = w4 at *
      go_wp2
      go_ret2
      exact ⟨rfl, HB.out⟩
  · have e1 : sHasE ps v xh xl = slkL ps := by rw [sHasE, if_neg hr]
    have e2 : sHasB ps v xh xl = false := by rw [sHasB, e1, if_neg hr]
    have hI : (slkL ps != 0) = true := by rw [bne_iff_ne]; exact hr
    rw [e1, e2]
    generalize ps.length = N at *
    generalize slkL ps = r at *
    clear e1 e2 hok hs hr h0 h1 HP
    go_enter Tryz.func10, Tryz.ntmps10
    go_wp2_with fail
    refine (HK.out _ HB.out).mono ?_
    rintro e w2 ⟨rfl, hb⟩
    replace HB := Lib.hid (btr HB.out hb)
    clear hb
    go_wp2
    go_ret2
    exact ⟨rfl, HB.out⟩
end Go.Proofs.YtojdlpiogbjfcaaGreatDoor

namespace Go.Proofs.YtojdlpiogbjfcaaGreatDoor
open Go.RowKit

set_option maxHeartbeats 8000000 in
set_option maxRecDepth 100000 in
/-- Two lists of the same prefixes are the same. -/
theorem same_any (a b : Option Addr) (c d : Nat) (L : List Pf) (w : World) (hl : L.length ≤ 100000) (ha : Sl w a L) (hb : Sl w b L) :
    Calls Tryz.prog 12 #[.slice a L.length c, .slice b L.length d] w fun e w' => e = .returned (.bool true) ∧ Below w.heap.size w w' := by
  obtain ⟨N, hN⟩ : ∃ N, N = L.length := ⟨_, rfl⟩
  rw [← hN] at hl ⊢
  have HN : Hid (N = L.length) := hN
  have hnn : ((N : Int) != (N : Int)) = false := by simp
  clear hN
  go_enter Tryz.func12, Tryz.ntmps12
  go_wp2_with fail
  go_loopw [5] (fun vi wr => ∃ k : Nat, vi = .int .i64 k ∧ k ≤ N ∧ Hid (Below w.heap.size w wr))
    (fun vi _ => N - (intOf vi).toNat)
  case atStart => exact ⟨0, rfl, Nat.zero_le _, Below.refl _ _⟩
  case round =>
    obtain ⟨k, rfl, hk, HB⟩ := hrel
    have hN := HN.out
    by_cases hkN : k < N
    · have hkl : k < L.length := by omega
      obtain ⟨g, o, rfl, hg, c0, c1, c2, c3⟩ := ha k hkl
      obtain ⟨g', o', rfl, hg', d0, d1, d2, d3⟩ := hb k hkl
      rw [← (bcell HB.out).1 _ _ hg] at c0 c1 c2 c3
      rw [← (bcell HB.out).1 _ _ hg'] at d0 d1 d2 d3
      generalize L[k] = x at *
      obtain ⟨v, hi, lo, b⟩ := x
      simp only at c0 c1 c2 c3 d0 d1 d2 d3
      have hq : ∀ w : World, (binOp .neq 27 (.agg #[.bool v, .int .u64 hi, .int .u64 lo, .int .i64 b]) (.agg #[.bool v, .int .u64 hi, .int .u64 lo, .int .i64 b])).run Tryz.prog w = .ok (.bool false) w := fun w => by
        rw [neq_pf, show eqP v hi lo b v hi lo b = true from eqP_iff.2 ⟨rfl, rfl, rfl, rfl⟩]; rfl
      have k3 : (k : Int) < (N : Int) := by omega
      have k4 : (0 : Int) ≤ (k : Int) := by omega
      clear hN ha hb hg hg'
      go_wp2_with fail
      go_region_held3 (fun w' => (w'.cell? ⟨g, o + k * 4, none⟩ = some (.bool v) ∧ w'.cell? ⟨g, o + k * 4 + 1, none⟩ = some (.int .u64 hi) ∧ w'.cell? ⟨g, o + k * 4 + 2, none⟩ = some (.int .u64 lo) ∧ w'.cell? ⟨g, o + k * 4 + 3, none⟩ = some (.int .i64 b)) ∧ (w'.cell? ⟨g', o' + k * 4, none⟩ = some (.bool v) ∧ w'.cell? ⟨g', o' + k * 4 + 1, none⟩ = some (.int .u64 hi) ∧ w'.cell? ⟨g', o' + k * 4 + 2, none⟩ = some (.int .u64 lo) ∧ w'.cell? ⟨g', o' + k * 4 + 3, none⟩ = some (.int .i64 b)))
        (first | exact ⟨⟨c0, c1, c2, c3⟩, ⟨d0, d1, d2, d3⟩⟩ | assumption)
        (fail)
      go_wp2_with fail
      go_roundw
      case rel => exact ⟨k + 1, by go_num, by omega, HB.out.drew⟩
      case measure => simp [intOf]; omega
    · obtain rfl : k = N := by omega
      have k3 : decide ((k : Int) < (k : Int)) = false := by simp
      clear hN ha hb
      go_wp2_with fail
      go_ret
      exact ⟨rfl, HB.out⟩
end Go.Proofs.YtojdlpiogbjfcaaGreatDoor

namespace Go.Proofs.YtojdlpiogbjfcaaGreatDoor
open Go.RowKit

def netP (n b : Int) : Pf := ⟨false, 0, n, b⟩
def bgL : List Pf := [netP 3 32, netP 0 31, netP 2 32, netP 1 32]
def bgS : List Pf := [netP 0 31, netP 1 32, netP 2 32, netP 3 32]
def bgM : List Pf := [netP 0 32, netP 2 31]
theorem netP_R {n b : Int} (h : 0 ≤ n) (h1 : n < 18446744073709551616) (hp : pchk false 0 n b = 0) : (netP n b).R := (right_iff false 0 n b (by decide) (by decide) h h1).1 hp
theorem netP_ok {n b : Int} (h : 0 ≤ n) (h1 : n < 18446744073709551616) : (netP n b).Ok := ⟨Int.le_refl 0, (by show (0 : Int) < 18446744073709551616; decide), h, h1⟩
theorem bgL_ok : ∀ p ∈ bgL, p.Ok := by
  intro p hp
  simp [bgL] at hp
  rcases hp with rfl | rfl | rfl | rfl <;> exact netP_ok (by decide) (by decide)
theorem bgS_R : ∀ p ∈ bgS, p.R := by
  intro p hp
  simp [bgS] at hp
  rcases hp with rfl | rfl | rfl | rfl <;> exact netP_R (by decide) (by decide) (by decide +kernel)
theorem bgM_R : ∀ p ∈ bgM, p.R := by
  intro p hp
  simp [bgM] at hp
  rcases hp with rfl | rfl <;> exact netP_R (by decide) (by decide) (by decide +kernel)
theorem bg30 : (netP 0 30).R := netP_R (by decide) (by decide) (by decide +kernel)
theorem bg1 : (netP 1 32).R := netP_R (by decide) (by decide) (by decide +kernel)
theorem bgL_chk : slkL bgL = 0 := by decide +kernel
theorem bg_norm : IsNorm [netP 0 30] (Adr (bgL.map Pf.nd)) := by
  have h := foldP_norm bgS_R (by decide +kernel)
  rw [show foldP bgS = [netP 0 30] by rfl] at h
  refine h.of (adr_perm fun q => ?_)
  simp only [bgS, bgL, List.map_cons, List.map_nil, List.mem_cons, List.not_mem_nil, or_false]
  constructor
  · rintro (h | h | h | h) <;> simp [h]
  · rintro (h | h | h | h) <;> simp [h]
theorem bg_minus : IsNorm bgM (fun v x => Adr ([netP 0 30].map Pf.nd) v x ∧ ¬ (netP 1 32).nd.In v x) := by
  have h := foldP_norm bgM_R (by decide +kernel)
  rw [show foldP bgM = bgM by rfl] at h
  have k := (cutAll_ok bg1 (l := [netP 0 30]) (fun q hq => by simp at hq; subst hq; exact bg30)).2.1
  rw [show cutAll (netP 1 32) [netP 0 30] = bgM by rfl] at k
  exact h.of k
theorem bg_has : sHasB [netP 0 30] false 0 3 = true ∧ sHasE [netP 0 30] false 0 3 = 0 := by decide +kernel
theorem bg_chk : sMinE [netP 0 30] (netP 1 32) = 0 := by decide +kernel
theorem bg30_ok : ∀ p ∈ [netP 0 30], p.Ok := fun p hp => by simp at hp; subst hp; exact netP_ok (by decide) (by decide)
theorem sl_one (w : World) (p : Pf) : Sl (w.alloc (.cells #[.bool p.v, .int .u64 p.hi, .int .u64 p.lo, .int .i64 p.b] 27)) (some ⟨w.heap.size, 0, none⟩) [p] := by
  intro j hj
  obtain rfl : j = 0 := by simp at hj; exact hj
  refine ⟨_, _, rfl, by simp, ?_⟩
  simp [go_sem]

set_option maxHeartbeats 8000000 in
set_option maxRecDepth 100000 in
theorem sbegun_any (w : World) : Calls Tryz.prog 6 #[] w fun e w' => e = .returned (.bool true) ∧ Below w.heap.size w w' := by
  have hN : Hid (∀ (n b : Int) (w : World), Calls Tryz.prog 17 #[.int .u64 n, .int .i64 b] w fun e w' => e = .returned (.agg #[.bool false, .int .u64 0, .int .u64 n, .int .i64 b]) ∧ Below w.heap.size w w') := net_any
  have hV : Hid (∀ w : World, Calls Tryz.prog 18 #[.int .u64 3] w fun e w' => e = .returned (.agg #[.bool false, .int .u64 0, .int .u64 3]) ∧ ∃ c, w' = w.alloc (.cells c 25)) := v4_any 3
  have hNo : Hid (∀ (g : Nat) (w : World), Sl w (some ⟨g, 0, none⟩) bgL → Calls Tryz.prog 8 #[.slice (some ⟨g, 0, none⟩) 4 4] w fun e w' => ∃ a c, e = .returned (.tuple #[.slice a 1 c, .int .i64 0]) ∧ Sl w' a [netP 0 30] ∧ Below w.heap.size w w') := fun g w h =>
    (sNorm_ok (some ⟨g, 0, none⟩) 4 bgL w bgL_ok h bgL_chk).mono fun e w' ⟨v, M, he, ho, hn, _, hb⟩ => by
      have := hn.uniq bg_norm
      subst this
      obtain ⟨a, c, rfl, _, hs⟩ := own_sl ho
      exact ⟨a, c, he, hs, hb⟩
  have hHa : Hid (∀ (a : Option Addr) (c : Nat) (w : World), Sl w a [netP 0 30] → Calls Tryz.prog 10 #[.slice a 1 c, .agg #[.bool false, .int .u64 0, .int .u64 3]] w fun e w' => e = .returned (.tuple #[.bool true, .int .i64 0]) ∧ Below w.heap.size w w') := fun a c w h => by
    have := sHas_any a c [netP 0 30] false 0 3 w bg30_ok h (by decide) (by decide)
    rw [bg_has.1, bg_has.2] at this
    exact this
  have hMi : Hid (∀ (a : Option Addr) (c : Nat) (w : World), Sl w a [netP 0 30] → Calls Tryz.prog 9 #[.slice a 1 c, .agg #[.bool false, .int .u64 0, .int .u64 1, .int .i64 32]] w fun e w' => ∃ a c, e = .returned (.tuple #[.slice a 2 c, .int .i64 0]) ∧ Sl w' a bgM ∧ Below w.heap.size w w') := fun a c w h =>
    (sMinus_ok a c [netP 0 30] (netP 1 32) w bg30_ok (netP_ok (by decide) (by decide)) h bg_chk).mono fun e w' ⟨v, M, he, ho, hn, _, hb⟩ => by
      have := hn.uniq bg_minus
      subst this
      obtain ⟨a, c, rfl, _, hs⟩ := own_sl ho
      exact ⟨a, c, he, hs, hb⟩
  have hS1 : Hid (∀ (a b : Option Addr) (c d : Nat) (w : World), Sl w a [netP 0 30] → Sl w b [netP 0 30] → Calls Tryz.prog 12 #[.slice a 1 c, .slice b 1 d] w fun e w' => e = .returned (.bool true) ∧ Below w.heap.size w w') := fun a b c d w h1 h2 => same_any a b c d [netP 0 30] w (by decide) h1 h2
  have hS2 : Hid (∀ (a b : Option Addr) (c d : Nat) (w : World), Sl w a bgM → Sl w b bgM → Calls Tryz.prog 12 #[.slice a 2 c, .slice b 2 d] w fun e w' => e = .returned (.bool true) ∧ Below w.heap.size w w') := fun a b c d w h1 h2 => same_any a b c d bgM w (by decide) h1 h2
  go_enter Tryz.func6, Tryz.ntmps6
  go_wp2_with fail
  refine (hN.out _ _ _).mono ?_
  rintro e w1 ⟨rfl, b1⟩
  go_wp2_with fail
  refine (hN.out _ _ _).mono ?_
  rintro e w2 ⟨rfl, b2⟩
  go_wp2_with fail
  refine (hN.out _ _ _).mono ?_
  rintro e w3 ⟨rfl, b3⟩
  go_wp2_with fail
  refine (hN.out _ _ _).mono ?_
  rintro e w4 ⟨rfl, b4⟩
  have HB := Lib.hid (btr (btr (btr b1 b2) b3) b4)
  clear b1 b2 b3 b4
  go_wp2_with fail
  refine (hNo.out _ _ ?_).mono ?_
  · intro j hj
    refine ⟨_, _, rfl, by simp, ?_⟩
    have : j = 0 ∨ j = 1 ∨ j = 2 ∨ j = 3 := by simp [bgL] at hj; omega
    rcases this with rfl | rfl | rfl | rfl
    · simp [bgL, netP, go_sem]
    · simp [bgL, netP, go_sem]
    · simp [bgL, netP, go_sem]
    · simp [bgL, netP, go_sem]
  rintro e w5 ⟨a5, c5, rfl, s5, b5⟩
  replace HB := Lib.hid (btr (bal HB.out _) b5)
  have HL := Lib.hid s5
  clear s5 b5 hNo
  go_wp2_with fail
  refine (hV.out _).mono ?_
  rintro e w6 ⟨rfl, cc, rfl⟩
  replace HL := Lib.hid (HL.out.below (bal (Below.refl _ _) (.cells cc 25)))
  replace HB := Lib.hid (bal HB.out (.cells cc 25))
  generalize w5.alloc (.cells cc 25) = w6 at *
  go_wp2_with fail
  refine (hHa.out _ _ _ HL.out).mono ?_
  rintro e w7 ⟨rfl, b7⟩
  replace HL := Lib.hid (HL.out.below b7)
  replace HB := Lib.hid (btr HB.out b7)
  clear b7 hHa hV
  go_wp2_with fail
  refine (hN.out _ _ _).mono ?_
  rintro e w8 ⟨rfl, b8⟩
  replace HL := Lib.hid (HL.out.below b8)
  replace HB := Lib.hid (btr HB.out b8)
  clear b8
  go_wp2_with fail
  refine (hMi.out _ _ _ HL.out).mono ?_
  rintro e w9 ⟨a9, c9, rfl, s9, b9⟩
  replace HL := Lib.hid (HL.out.below b9)
  replace HB := Lib.hid (btr HB.out b9)
  have HM := Lib.hid s9
  clear b9 s9 hMi
  go_wp2_with fail
  refine (hN.out _ _ _).mono ?_
  rintro e w10 ⟨rfl, b10⟩
  replace HL := Lib.hid (HL.out.below b10)
  replace HM := Lib.hid (HM.out.below b10)
  replace HB := Lib.hid (btr HB.out b10)
  clear b10
  go_wp2_with fail
  refine (hS1.out _ _ _ _ _ (HL.out.below (bal (Below.refl _ _) _)) (sl_one w10 (netP 0 30))).mono ?_
  rintro e w11 ⟨rfl, b11⟩
  replace HM := Lib.hid ((HM.out.below (bal (Below.refl _ _) _)).below b11)
  replace HB := Lib.hid (btr (bal HB.out _) b11)
  clear b11 HL hS1
  go_wp2_with fail
  refine (hN.out _ _ _).mono ?_
  rintro e w12 ⟨rfl, b12⟩
  replace HM := Lib.hid (HM.out.below b12)
  replace HB := Lib.hid (btr HB.out b12)
  clear b12
  go_wp2_with fail
  refine (hN.out _ _ _).mono ?_
  rintro e w13 ⟨rfl, b13⟩
  replace HM := Lib.hid (HM.out.below b13)
  replace HB := Lib.hid (btr HB.out b13)
  clear b13
  go_wp2_with fail
  refine (hS2.out _ _ _ _ _ (HM.out.below (bal (Below.refl _ _) _)) ?_).mono ?_
  · intro j hj
    refine ⟨_, _, rfl, by simp, ?_⟩
    have : j = 0 ∨ j = 1 := by simp [bgM] at hj; omega
    rcases this with rfl | rfl
    · simp [bgM, netP, go_sem]
    · simp [bgM, netP, go_sem]
  rintro e w14 ⟨rfl, b14⟩
  replace HB := Lib.hid (btr (bal HB.out _) b14)
  clear b14 HM hS2
  go_wp2
  go_ret
  exact ⟨rfl, HB.out⟩
end Go.Proofs.YtojdlpiogbjfcaaGreatDoor
