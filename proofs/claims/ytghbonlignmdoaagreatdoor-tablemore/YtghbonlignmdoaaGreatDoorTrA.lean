/- Tables: order, Check, Find, Above, Below, tableBegun; what holds of them. -/
import Derived.Test.YtghbonlignmdoaaGreatDoorPfQ
import Derived.Test.YtghbonlignmdoaaGreatDoorH3
import Derived.OwnWalk
import Derived.Deep.AppendLies
import Derived.Shelf.Abstract
import Derived.Maps.OwnSet
import Derived.Maps.Views
import Derived.Test.YtghbonlignmdoaaGreatDoorNetV
set_option linter.unusedVariables false
set_option linter.unusedSimpArgs false
namespace Go.Proofs.YtghbonlignmdoaaGreatDoor
open Go.RowKit

theorem oless_any (v u : Bool) (xh xl yh yl : Int) (w : World) (h0 : 0 ≤ xh) (h1 : 0 ≤ xl) (h2 : 0 ≤ yh) (h3 : 0 ≤ yl) :
    Calls Tryz.prog 41 #[.agg #[.bool v, .int .u64 xh, .int .u64 xl], .agg #[.bool u, .int .u64 yh, .int .u64 yl]] w fun e w' =>
      e = .returned (.bool (lessB v xh xl u yh yl)) ∧ Below w.heap.size w w' := by
  have hL : Hid (∀ w : World, Calls Tryz.prog 48 #[.agg #[.bool v, .int .u64 xh, .int .u64 xl], .agg #[.bool u, .int .u64 yh, .int .u64 yl]] w fun e w' =>
      e = .returned (.tuple #[.bool (lessB v xh xl u yh yl), .int .i64 (lessE v xh xl u yh yl)]) ∧ Below w.heap.size w w') := fun w => less_any v u xh xl yh yl w h0 h1 h2 h3
  generalize lessB v xh xl u yh yl = r at *
  generalize lessE v xh xl u yh yl = r' at *
  clear h0 h1 h2 h3
  go_enter Tryz.func41, Tryz.ntmps41
  go_wp2_with fail
  refine (hL.out _).mono ?_
  rintro e w2 ⟨rfl, hb⟩
  go_wp2
  go_ret
  exact ⟨rfl, btr (bal (bal (Below.refl _ _) _) _) hb⟩

def cmpN (x y : Int) : Int := if x < y then -1 else if y < x then 1 else 0

theorem nan_any (x : Int) (w : World) : Calls Tryz.prog 58 #[.int .i64 x] w fun e w' => e = .returned (.bool false) ∧ w' = w := by
  have h : (x != x) = false := by simp
  go_enter Tryz.func58, Tryz.ntmps58
  go_wp2
  go_ret
  exact ⟨rfl, rfl⟩

theorem cmp_any (x y : Int) (w : World) : Calls Tryz.prog 47 #[.int .i64 x, .int .i64 y] w fun e w' => e = .returned (.int .i64 (cmpN x y)) ∧ w' = w := by
  have hN : Hid (∀ (x : Int) (w : World), Calls Tryz.prog 58 #[.int .i64 x] w fun e w' => e = .returned (.bool false) ∧ w' = w) := nan_any
  by_cases h : x < y
  · rw [show cmpN x y = -1 by simp [cmpN, h]]
    go_enter Tryz.func47, Tryz.ntmps47
    go_wp2_with (go_at_call 58; refine (hN.out _ _).mono ?_; rintro e w' ⟨rfl, rfl⟩)
    go_ret
    exact ⟨rfl, rfl⟩
  · have hd : decide (x < y) = false := decide_eq_false h
    by_cases h' : y < x
    · rw [show cmpN x y = 1 by simp [cmpN, h, h']]
      go_enter Tryz.func47, Tryz.ntmps47
      go_wp2_with (go_at_call 58; refine (hN.out _ _).mono ?_; rintro e w' ⟨rfl, rfl⟩)
      go_ret
      exact ⟨rfl, rfl⟩
    · have hd' : decide (y < x) = false := decide_eq_false h'
      rw [show cmpN x y = 0 by simp [cmpN, h, h']]
      go_enter Tryz.func47, Tryz.ntmps47
      go_wp2_with (go_at_call 58; refine (hN.out _ _).mono ?_; rintro e w' ⟨rfl, rfl⟩)
      go_ret
      exact ⟨rfl, rfl⟩

/-- Which of two prefixes rises ahead of the other one? -/
def cmpP (v : Bool) (hi lo b : Int) (u : Bool) (yi yo c : Int) : Int := if lessB v hi lo u yi yo = true then -1 else if lessB u yi yo v hi lo = true then 1 else cmpN b c

theorem compare_any (v : Bool) (hi lo b : Int) (u : Bool) (yi yo c : Int) (w : World) (h0 : 0 ≤ hi) (h1 : 0 ≤ lo) (h2 : 0 ≤ yi) (h3 : 0 ≤ yo) :
    Calls Tryz.prog 38 #[.agg #[.bool v, .int .u64 hi, .int .u64 lo, .int .i64 b], .agg #[.bool u, .int .u64 yi, .int .u64 yo, .int .i64 c]] w fun e w' =>
      e = .returned (.int .i64 (cmpP v hi lo b u yi yo c)) ∧ Below w.heap.size w w' := by
  have hL : Hid (∀ w : World, Calls Tryz.prog 41 #[.agg #[.bool v, .int .u64 hi, .int .u64 lo], .agg #[.bool u, .int .u64 yi, .int .u64 yo]] w fun e w' =>
      e = .returned (.bool (lessB v hi lo u yi yo)) ∧ Below w.heap.size w w') := fun w => oless_any v u hi lo yi yo w h0 h1 h2 h3
  have hM : Hid (∀ w : World, Calls Tryz.prog 41 #[.agg #[.bool u, .int .u64 yi, .int .u64 yo], .agg #[.bool v, .int .u64 hi, .int .u64 lo]] w fun e w' =>
      e = .returned (.bool (lessB u yi yo v hi lo)) ∧ Below w.heap.size w w') := fun w => oless_any u v yi yo hi lo w h2 h3 h0 h1
  have hC : Hid (∀ w : World, Calls Tryz.prog 47 #[.int .i64 b, .int .i64 c] w fun e w' => e = .returned (.int .i64 (cmpN b c)) ∧ w' = w) := cmp_any b c
  have P0 := Has4.alloc (Has4.new w v hi lo b 37) (.cells #[.bool u, .int .u64 yi, .int .u64 yo, .int .i64 c] 37)
  have P1 := Has4.new (w.alloc (.cells #[.bool v, .int .u64 hi, .int .u64 lo, .int .i64 b] 37)) u yi yo c 37
  have B1 : Below w.heap.size w ((w.alloc (.cells #[.bool v, .int .u64 hi, .int .u64 lo, .int .i64 b] 37)).alloc (.cells #[.bool u, .int .u64 yi, .int .u64 yo, .int .i64 c] 37)) := bal (bal (Below.refl _ _) _) _
  rw [show (w.alloc (.cells #[.bool v, .int .u64 hi, .int .u64 lo, .int .i64 b] 37)).heap.size = w.heap.size + 1 by simp] at P1
  have HP : Hid (Has4 _ _ v hi lo b) := P0
  have HQ : Hid (Has4 _ _ u yi yo c) := P1
  have HB : Hid (Below w.heap.size w _) := B1
  unfold cmpP
  generalize lessB v hi lo u yi yo = r1 at *
  generalize lessB u yi yo v hi lo = r2 at *
  generalize cmpN b c = r3 at *
  clear P0 P1 B1 h0 h1 h2 h3
  cases r1
  · cases r2
    all_goals
      go_enter Tryz.func38, Tryz.ntmps38
      go_wp2_with fail
      refine (hL.out _).mono ?_
      rintro e w2 ⟨rfl, hb⟩
      replace HP := Lib.hid (HP.out.below hb)
      replace HQ := Lib.hid (HQ.out.below hb)
      replace HB := Lib.hid (btr HB.out hb)
      clear hb
      obtain ⟨p0, p1, p2, p3, p4⟩ := HP.out
      obtain ⟨q0, q1, q2, q3, q4⟩ := HQ.out
      go_wp2_with fail
      refine (hM.out _).mono ?_
      rintro e w3 ⟨rfl, hb⟩
      clear p0 p1 p2 p3 p4 q0 q1 q2 q3 q4
      obtain ⟨p0, p1, p2, p3, p4⟩ := HP.out.below hb
      obtain ⟨q0, q1, q2, q3, q4⟩ := HQ.out.below hb
      replace HB := Lib.hid (btr HB.out hb)
      clear hb
      go_wp2_with (go_at_call 47; refine (hC.out _).mono ?_; rintro e w' ⟨rfl, rfl⟩)
      go_ret
      exact ⟨rfl, HB.out⟩
  · go_enter Tryz.func38, Tryz.ntmps38
    go_wp2_with fail
    refine (hL.out _).mono ?_
    rintro e w2 ⟨rfl, hb⟩
    replace HB := Lib.hid (btr HB.out hb)
    clear hb
    go_wp2
    go_ret
    exact ⟨rfl, HB.out⟩

/-- Has a prefix an address (both right)? -/
def inB (v : Bool) (xh xl : Int) (u : Bool) (hi lo b : Int) : Bool := !(lessB v xh xl u hi lo) && !(lessB u (laH u hi b) (laL u lo b) v xh xl)

set_option maxHeartbeats 8000000 in
set_option maxRecDepth 100000 in
theorem within_any (v : Bool) (xh xl : Int) (u : Bool) (hi lo b : Int) (w : World) (h0 : 0 ≤ xh) (h1 : 0 ≤ xl) (i0 : 0 ≤ hi) (i1 : hi < 18446744073709551616) (i2 : 0 ≤ lo) (i3 : lo < 18446744073709551616) (c0 : pchk u hi lo b = 0) :
    Calls Tryz.prog 30 #[.agg #[.bool v, .int .u64 xh, .int .u64 xl], .agg #[.bool u, .int .u64 hi, .int .u64 lo, .int .i64 b]] w fun e w' =>
      e = .returned (.bool (inB v xh xl u hi lo b)) ∧ Below w.heap.size w w' := by
  have hE : Hid (∀ w : World, Calls Tryz.prog 17 #[.agg #[.bool u, .int .u64 hi, .int .u64 lo, .int .i64 b]] w fun e w' => e = .returned (.tuple #[.agg #[.bool u, .int .u64 hi, .int .u64 lo], .agg #[.bool u, .int .u64 (laH u hi b), .int .u64 (laL u lo b)], .int .i64 0]) ∧ Below w.heap.size w w') := fun w => ends_ok u hi lo b w i0 i1 i2 i3 c0
  have hL : Hid (∀ (v u : Bool) (xh xl yh yl : Int) (w : World), (0 ≤ xh ∧ 0 ≤ xl) ∧ 0 ≤ yh ∧ 0 ≤ yl → Calls Tryz.prog 41 #[.agg #[.bool v, .int .u64 xh, .int .u64 xl], .agg #[.bool u, .int .u64 yh, .int .u64 yl]] w fun e w' =>
      e = .returned (.bool (lessB v xh xl u yh yl)) ∧ Below w.heap.size w w') := fun v u xh xl yh yl w h => oless_any v u xh xl yh yl w h.1.1 h.1.2 h.2.1 h.2.2
  have A1 : Hid (0 ≤ laH u hi b) := (laH_lt i0 i1).1
  have A2 : Hid (0 ≤ laL u lo b) := (laL_lt i2 i3).1
  have A3 : Hid (0 ≤ xh ∧ 0 ≤ xl) := ⟨h0, h1⟩
  have A4 : Hid (0 ≤ hi ∧ 0 ≤ lo) := ⟨i0, i2⟩
  unfold inB
  generalize laH u hi b = r1 at *
  generalize laL u lo b = r2 at *
  have A5 : Hid (0 ≤ r1 ∧ 0 ≤ r2) := ⟨A1.out, A2.out⟩
  clear h0 h1 i0 i1 i2 i3 A1 A2 c0
  have P0 := (Has3.new w (.bool v) (.int .u64 xh) (.int .u64 xl) 25).alloc (.cells #[.bool u, .int .u64 hi, .int .u64 lo, .int .i64 b] 37)
  have B1 : Below w.heap.size w ((w.alloc (.cells #[.bool v, .int .u64 xh, .int .u64 xl] 25)).alloc (.cells #[.bool u, .int .u64 hi, .int .u64 lo, .int .i64 b] 37)) := bal (bal (Below.refl _ _) _) _
  have HP := Lib.hid P0
  have HB := Lib.hid B1
  clear P0 B1
  cases hx : lessB v xh xl u hi lo
  all_goals
    go_enter Tryz.func30, Tryz.ntmps30
    go_wp2_with fail
    refine (hE.out _).mono ?_
    rintro e w2 ⟨rfl, hb⟩
    replace HP := Lib.hid (HP.out.below hb)
    replace HB := Lib.hid (btr HB.out hb)
    clear hb
    have P2 := Has3.new (w2.alloc (.cells #[.bool u, .int .u64 hi, .int .u64 lo] 25)) (.bool u) (.int .u64 r1) (.int .u64 r2) 25
    rw [show (w2.alloc (.cells #[.bool u, .int .u64 hi, .int .u64 lo] 25)).heap.size = w2.heap.size + 1 by simp] at P2
    have HQ := Lib.hid P2
    clear P2
    obtain ⟨a0, a1, a2, a3⟩ := HP.out
    go_wp2_with fail
    refine (hL.out _ _ _ _ _ _ _ ⟨A3.out, A4.out⟩).mono ?_
    rintro e w3 ⟨rfl, hb⟩
    clear a0 a1 a2 a3
    obtain ⟨a0, a1, a2, a3⟩ := ((HP.out.alloc _).alloc _).below hb
    obtain ⟨q0, q1, q2, q3⟩ := HQ.out.below hb
    replace HB := Lib.hid (btr (bal (bal HB.out _) _) hb)
    clear hb HP HQ
    rw [hx]
    go_wp2_with (go_at_call 41; refine (hL.out _ _ _ _ _ _ _ ⟨A5.out, A3.out⟩).mono ?_; rintro e w4 ⟨rfl, hb4⟩)
    go_ret
    first
      | exact ⟨rfl, btr HB.out hb4⟩
      | exact ⟨rfl, HB.out⟩
end Go.Proofs.YtghbonlignmdoaaGreatDoor

namespace Go.Proofs.YtghbonlignmdoaaGreatDoor
open Go.RowKit

/-- Prefixes that lie in a row behind a slice. -/
def Sl (w : World) (a : Option Addr) (ps : List Pf) : Prop :=
  ∀ j (h : j < ps.length), ∃ g o : Nat, a = some ⟨g, o, none⟩ ∧ g < w.heap.size ∧ w.cell? ⟨g, o + j * 4, none⟩ = some (.bool ps[j].v) ∧ w.cell? ⟨g, o + j * 4 + 1, none⟩ = some (.int .u64 ps[j].hi) ∧ w.cell? ⟨g, o + j * 4 + 2, none⟩ = some (.int .u64 ps[j].lo) ∧ w.cell? ⟨g, o + j * 4 + 3, none⟩ = some (.int .i64 ps[j].b)

theorem Sl.below {w w' : World} {a : Option Addr} {ps : List Pf} (h : Sl w a ps) (hb : Below w.heap.size w w') : Sl w' a ps := by
  intro j hj
  obtain ⟨g, o, e, hg, c0, c1, c2, c3⟩ := h j hj
  refine ⟨g, o, e, Nat.lt_of_lt_of_le hg hb.size, ?_, ?_, ?_, ?_⟩ <;> rw [(bcell hb).1 _ _ hg] <;> assumption

def Pf.cmp (p q : Pf) : Int := cmpP p.v p.hi p.lo p.b q.v q.hi q.lo q.b

theorem keepR {w W W' : World} {g o p : Nat} {v : Bool} {hi lo b : Int} {u : Bool} {yi yo c : Int}
    (h : (W.cell? ⟨p, 0, none⟩ = some (.bool v) ∧ W.cell? ⟨p, 1, none⟩ = some (.int .u64 hi) ∧ W.cell? ⟨p, 2, none⟩ = some (.int .u64 lo) ∧ W.cell? ⟨p, 3, none⟩ = some (.int .i64 b) ∧ p < W.heap.size) ∧ (W.cell? ⟨g, o, none⟩ = some (.bool u) ∧ W.cell? ⟨g, o + 1, none⟩ = some (.int .u64 yi) ∧ W.cell? ⟨g, o + 2, none⟩ = some (.int .u64 yo) ∧ W.cell? ⟨g, o + 3, none⟩ = some (.int .i64 c) ∧ g < W.heap.size) ∧ Below w.heap.size w W)
    (hb : Below W.heap.size W W') :
    (W'.cell? ⟨p, 0, none⟩ = some (.bool v) ∧ W'.cell? ⟨p, 1, none⟩ = some (.int .u64 hi) ∧ W'.cell? ⟨p, 2, none⟩ = some (.int .u64 lo) ∧ W'.cell? ⟨p, 3, none⟩ = some (.int .i64 b) ∧ p < W'.heap.size) ∧ (W'.cell? ⟨g, o, none⟩ = some (.bool u) ∧ W'.cell? ⟨g, o + 1, none⟩ = some (.int .u64 yi) ∧ W'.cell? ⟨g, o + 2, none⟩ = some (.int .u64 yo) ∧ W'.cell? ⟨g, o + 3, none⟩ = some (.int .i64 c) ∧ g < W'.heap.size) ∧ Below w.heap.size w W' := by
  obtain ⟨h1, ⟨a, b', c', d, f⟩, h3⟩ := h
  obtain ⟨k1, _⟩ := bcell hb
  exact ⟨Has4.below h1 hb, ⟨by rw [k1 _ _ f]; exact a, by rw [k1 _ _ f]; exact b', by rw [k1 _ _ f]; exact c', by rw [k1 _ _ f]; exact d, Nat.lt_of_lt_of_le f hb.size⟩, btr h3 hb⟩

def Pf.has (p q : Pf) : Bool := hasB p.v p.hi p.lo p.b q.v q.hi q.lo q.b

def Pf.R (p : Pf) : Prop := Right p.v p.hi p.lo p.b

theorem Sl.take {w : World} {a : Option Addr} {ps : List Pf} (h : Sl w a ps) (k : Nat) : Sl w a (ps.take k) := by
  intro j hj
  have hj' : j < ps.length := by rw [List.length_take] at hj; omega
  obtain ⟨g, o, e, hg, c⟩ := h j hj'
  refine ⟨g, o, e, hg, ?_⟩
  rw [List.getElem_take]
  exact c

def Pf.inA (p : Pf) (v : Bool) (xh xl : Int) : Bool := inB v xh xl p.v p.hi p.lo p.b

theorem row_base {w : World} {B B' e s n : Nat} {v : Value} {xs : List Value} (h : w.ownsRow B e s v n xs) (hB : B' ≤ B) : w.ownsRow B' e s v n xs := by
  obtain ⟨h1, h2⟩ := h
  refine ⟨h1, ?_⟩
  rcases h2 with h2 | ⟨g, c, cur, e1, e2, r⟩
  · exact .inl h2
  · exact .inr ⟨g, c, cur, e1, Nat.le_trans hB e2, r⟩

theorem row_nil (w : World) (B e s : Nat) : w.ownsRow B e s (.slice none 0 0) 0 [] := ⟨by simp, .inl ⟨rfl, rfl⟩⟩

theorem cmp_zero {v : Bool} {hi lo b : Int} {u : Bool} {yi yo c : Int} (r : Right v hi lo b) (q : Right u yi yo c) : cmpP v hi lo b u yi yo c = 0 ↔ v = u ∧ hi = yi ∧ lo = yo ∧ b = c := by
  have e1 := (less_num ⟨r.l0, r.l1⟩ ⟨q.l0, q.l1⟩ r.c q.c).2
  have e2 := (less_num ⟨q.l0, q.l1⟩ ⟨r.l0, r.l1⟩ q.c r.c).2
  unfold cmpP
  constructor
  · intro h
    split at h
    · exact absurd h (by decide)
    · rename_i h1
      split at h
      · exact absurd h (by decide)
      · rename_i h2
        rw [e1] at h1
        rw [e2] at h2
        have hbc : b = c := by unfold cmpN at h; split at h <;> (try split at h) <;> omega
        have huv : v = u := by
          cases v <;> cases u <;> simp at h1 h2 ⊢
        subst huv
        have hn : num hi lo = num yi yo := by simp at h1 h2; omega
        obtain ⟨x, y⟩ := num_inj r.l0 r.l1 q.l0 q.l1 hn
        exact ⟨rfl, x, y, hbc⟩
  · rintro ⟨rfl, rfl, rfl, rfl⟩
    have h1 : ¬ (lessB v hi lo v hi lo = true) := by rw [e1]; cases v <;> simp
    rw [if_neg h1, if_neg h1]
    simp [cmpN]

/-- What stands ahead, and which way around. -/
theorem cmp_turn {v : Bool} {hi lo b : Int} {u : Bool} {yi yo c : Int} (r : Right v hi lo b) (q : Right u yi yo c) : 0 < cmpP v hi lo b u yi yo c ↔ cmpP u yi yo c v hi lo b < 0 := by
  have e1 := (less_num ⟨r.l0, r.l1⟩ ⟨q.l0, q.l1⟩ r.c q.c).2
  have e2 := (less_num ⟨q.l0, q.l1⟩ ⟨r.l0, r.l1⟩ q.c r.c).2
  unfold cmpP
  cases h1 : lessB v hi lo u yi yo <;> cases h2 : lessB u yi yo v hi lo
  · simp only [Bool.false_eq_true, if_false]
    unfold cmpN
    split <;> split <;> (try split) <;> omega
  · simp
  · simp
  · rw [e1] at h1; rw [e2] at h2
    rcases h1 with ⟨rfl, h1⟩ | ⟨rfl, rfl⟩
    · rcases h2 with ⟨_, h2⟩ | ⟨h2, h3⟩
      · omega
      · rw [h2] at h3; exact absurd h3 (by decide)
    · rcases h2 with ⟨h2, _⟩ | ⟨h2, _⟩ <;> exact absurd h2 (by decide)

def Pf.n (p : Pf) : Int := num p.hi p.lo

theorem cmp_neg {p q : Pf} (r : p.R) (s : q.R) : p.cmp q < 0 ↔ (p.v = false ∧ q.v = true) ∨ (p.v = q.v ∧ (p.n < q.n ∨ (p.n = q.n ∧ p.b < q.b))) := by
  have e1 := (less_num ⟨r.l0, r.l1⟩ ⟨s.l0, s.l1⟩ r.c s.c).2
  have e2 := (less_num ⟨s.l0, s.l1⟩ ⟨r.l0, r.l1⟩ s.c r.c).2
  unfold Pf.cmp cmpP Pf.n
  by_cases h1 : lessB p.v p.hi p.lo q.v q.hi q.lo = true
  · rw [if_pos h1]
    rw [e1] at h1
    constructor
    · intro _
      rcases h1 with ⟨a, b⟩ | h1
      · exact .inr ⟨a, .inl b⟩
      · exact .inl h1
    · intro _; decide
  · rw [if_neg h1]
    by_cases h2 : lessB q.v q.hi q.lo p.v p.hi p.lo = true
    · rw [if_pos h2]
      rw [e2] at h2
      constructor
      · intro h; exact absurd h (by decide)
      · rintro (⟨a, b⟩ | ⟨a, b⟩)
        · rw [a, b] at h2; simp at h2
        · rcases h2 with ⟨_, h2⟩ | ⟨h2, h3⟩
          · omega
          · rw [h2, h3] at a; exact absurd a (by decide)
    · rw [if_neg h2]
      rw [e1] at h1
      rw [e2] at h2
      have hv : p.v = q.v := by
        revert h1 h2
        cases p.v <;> cases q.v <;> simp
      have hn : num p.hi p.lo = num q.hi q.lo := by
        have g1 : ¬ (num p.hi p.lo < num q.hi q.lo) := fun h => h1 (.inl ⟨hv, h⟩)
        have g2 : ¬ (num q.hi q.lo < num p.hi p.lo) := fun h => h2 (.inl ⟨hv.symm, h⟩)
        omega
      unfold cmpN
      constructor
      · intro h
        refine .inr ⟨hv, .inr ⟨hn, ?_⟩⟩
        split at h
        · assumption
        · split at h <;> exact absurd h (by decide)
      · rintro (⟨a, b⟩ | ⟨_, b | ⟨_, b⟩⟩)
        · rw [a, b] at hv; exact absurd hv (by decide)
        · omega
        · rw [if_pos b]; decide

theorem cmp_trans {p q s : Pf} (r1 : p.R) (r2 : q.R) (r3 : s.R) (h1 : p.cmp q < 0) (h2 : q.cmp s < 0) : p.cmp s < 0 := by
  rw [cmp_neg r1 r2] at h1
  rw [cmp_neg r2 r3] at h2
  rw [cmp_neg r1 r3]
  rcases h1 with ⟨a, b⟩ | ⟨a, b⟩
  · rcases h2 with ⟨c, d⟩ | ⟨c, d⟩
    · rw [b] at c; exact absurd c (by decide)
    · exact .inl ⟨a, by rw [← c]; exact b⟩
  · rcases h2 with ⟨c, d⟩ | ⟨c, d⟩
    · exact .inl ⟨by rw [a]; exact c, d⟩
    · refine .inr ⟨a.trans c, ?_⟩
      omega

theorem has_iff {p q : Pf} (r : p.R) (s : q.R) : p.has q = true ↔ p.b ≤ q.b ∧ q.v = p.v ∧ p.n ≤ q.n ∧ q.n < p.n + amt p.v p.b := has_num r s

theorem wid_pos (v : Bool) : 0 ≤ wid v := by unfold wid; split <;> omega

theorem amt_wid (v : Bool) : amt v (wid v) = 1 := by unfold amt; simp

/-- An address as a prefix. -/
theorem host_right {v : Bool} {xh xl : Int} (c : chk v xh xl = 0) (h0 : 0 ≤ xh) (h1 : xh < 18446744073709551616) (l0 : 0 ≤ xl) (l1 : xl < 18446744073709551616) : Right v xh xl (wid v) :=
  ⟨c, wid_pos v, Int.le_refl _, h0, h1, l0, l1, by rw [amt_wid]; exact Int.emod_one _⟩

theorem in_has {p : Pf} (r : p.R) {v : Bool} {xh xl : Int} (q : Right v xh xl (wid v)) : p.inA v xh xl = p.has ⟨v, xh, xl, wid v⟩ := by
  have hb1 := r.b1
  obtain ⟨n1, c1, _, l1⟩ := la_num r
  have e1 := (less_num ⟨q.l0, q.l1⟩ ⟨r.l0, r.l1⟩ q.c r.c).2
  have e2 := (less_num l1 ⟨q.l0, q.l1⟩ c1 q.c).2
  rw [Bool.eq_iff_iff, has_iff r (show Pf.R ⟨v, xh, xl, wid v⟩ from q)]
  unfold Pf.inA inB Pf.n
  simp only [Bool.and_eq_true, Bool.not_eq_true', Bool.eq_false_iff, ne_eq, e1, e2, n1]
  constructor
  · rintro ⟨g1, g2⟩
    have hv : v = p.v := by
      revert g1 g2
      cases v <;> cases p.v <;> simp
    refine ⟨by rw [hv]; exact hb1, hv, ?_, ?_⟩
    · rcases Int.lt_or_le (num xh xl) (num p.hi p.lo) with h | h
      · exact absurd (.inl ⟨hv, h⟩) g1
      · exact h
    · rcases Int.lt_or_le (num p.hi p.lo + amt p.v p.b - 1) (num xh xl) with h | h
      · exact absurd (.inl ⟨hv.symm, h⟩) g2
      · omega
  · rintro ⟨_, rfl, g3, g4⟩
    refine ⟨?_, ?_⟩
    · rintro (⟨_, h⟩ | ⟨h, h'⟩)
      · omega
      · exact h h'
    · rintro (⟨_, h⟩ | ⟨h, h'⟩)
      · omega
      · exact h h'

end Go.Proofs.YtghbonlignmdoaaGreatDoor

namespace Go.Proofs.YtghbonlignmdoaaGreatDoor
open Go.RowKit

theorem infoP : (Tryz.prog.info? 37).map (fun i => (i.zero, i.size, i.bytes)) = some (some (.agg #[.bool false, .int .u64 0, .int .u64 0, .int .i64 0]), 4, 32) := by kernel_rfl
/-- The cells of prefixes, one behind the other. -/
def flat : List Pf → List Value
  | [] => []
  | p :: r => .bool p.v :: .int .u64 p.hi :: .int .u64 p.lo :: .int .i64 p.b :: flat r
theorem flat_len : ∀ l : List Pf, (flat l).length = l.length * 4
  | [] => rfl
  | p :: r => by simp only [flat, List.length_cons, flat_len r]; omega
theorem flat_append : ∀ l r : List Pf, flat (l ++ r) = flat l ++ flat r
  | [], r => rfl
  | p :: l, r => by simp only [List.cons_append, flat, flat_append l r]
theorem flat_at : ∀ (l : List Pf) (j : Nat) (h : j < l.length), (flat l)[j * 4]? = some (.bool l[j].v) ∧ (flat l)[j * 4 + 1]? = some (.int .u64 l[j].hi) ∧ (flat l)[j * 4 + 2]? = some (.int .u64 l[j].lo) ∧ (flat l)[j * 4 + 3]? = some (.int .i64 l[j].b)
  | p :: r, 0, _ => by simp [flat]
  | p :: r, j + 1, h => by
    obtain ⟨a, b, c, d⟩ := flat_at r j (by simpa using h)
    simp only [flat, List.getElem_cons_succ]
    refine ⟨?_, ?_, ?_, ?_⟩
    · rw [show (j + 1) * 4 = j * 4 + 1 + 1 + 1 + 1 by omega]; simpa using a
    · rw [show (j + 1) * 4 + 1 = j * 4 + 1 + 1 + 1 + 1 + 1 by omega]; simpa using b
    · rw [show (j + 1) * 4 + 2 = j * 4 + 2 + 1 + 1 + 1 + 1 by omega]; simpa using c
    · rw [show (j + 1) * 4 + 3 = j * 4 + 3 + 1 + 1 + 1 + 1 by omega]; simpa using d
theorem flat_one (l : List Pf) : ∀ u ∈ flat l, u.oneCell' = true := by
  induction l with
  | nil => simp [flat]
  | cons p r ih =>
    intro u hu
    simp only [flat, List.mem_cons] at hu
    rcases hu with rfl | rfl | rfl | rfl | hu
    · rfl
    · rfl
    · rfl
    · rfl
    · exact ih u hu
theorem flat_take (l : List Pf) (k : Nat) : flat (l.take k) = (flat l).take (k * 4) := by
  induction l generalizing k with
  | nil => simp [flat]
  | cons p r ih =>
    cases k with
    | zero => simp [flat]
    | succ k => simp only [List.take_succ_cons, flat, ih, show (k + 1) * 4 = k * 4 + 1 + 1 + 1 + 1 by omega, List.take_succ_cons]

/-- What a row of one's own is: a slice of prefixes. -/
theorem own_sl {w : World} {B : Nat} {v : Value} {L : List Pf} (h : w.ownsRow B 37 4 v L.length (flat L)) : ∃ a c, v = .slice a L.length c ∧ L.length ≤ c ∧ Sl w a L := by
  obtain ⟨h1, h2⟩ := h
  rcases h2 with ⟨rfl, h2⟩ | ⟨g, c, cur, rfl, _, hc, h3, h4, h5, h6⟩
  · have : L = [] := List.length_eq_zero_iff.1 h2
    subst this
    exact ⟨none, 0, rfl, Nat.le_refl _, fun j hj => by simp at hj⟩
  · refine ⟨_, c, rfl, h3, fun j hj => ⟨g, 0, rfl, (Array.getElem?_eq_some_iff.1 hc).1, ?_⟩⟩
    have key : ∀ k, k < L.length * 4 → w.cell? ⟨g, k, none⟩ = (flat L)[k]? := fun k hk => by
      have hj2 : (cur.toList.take (L.length * 4))[k]? = (flat L)[k]? := by rw [h6]
      rw [List.getElem?_take_of_lt hk] at hj2
      simp [World.cell?, hc]
      simpa using hj2
    obtain ⟨a, b, c', d⟩ := flat_at L j hj
    simp only [Nat.zero_add]
    refine ⟨?_, ?_, ?_, ?_⟩
    · rw [key _ (by omega)]; exact a
    · rw [key _ (by omega)]; exact b
    · rw [key _ (by omega)]; exact c'
    · rw [key _ (by omega)]; exact d
theorem add_addr (b o k : Nat) : (⟨b, o, none⟩ : Addr).add k = ⟨b, o + k, none⟩ := by
  unfold Addr.add
  split
  · rename_i h; rw [h]; rfl
  · rfl
/-- The cells of a slice of prefixes, as append wants them. -/
theorem sl_news {w : World} {g o : Nat} {ps : List Pf} (h : Sl w (some ⟨g, o, none⟩) ps) : ∀ j u, (flat ps)[j]? = some u → w.cell? ((⟨g, o, none⟩ : Addr).add j) = some u := by
  intro j u hj
  have hlt : j < (flat ps).length := (List.getElem?_eq_some_iff.1 hj).1
  rw [flat_len] at hlt
  have hm : j / 4 < ps.length := by omega
  obtain ⟨g', o', e, _, c0, c1, c2, c3⟩ := h (j / 4) hm
  obtain ⟨rfl, rfl⟩ : g = g' ∧ o = o' := by simpa using e
  obtain ⟨a, b, c, d⟩ := flat_at ps (j / 4) hm
  rw [add_addr]
  rw [← hj]
  have h4 : j % 4 = 0 ∨ j % 4 = 1 ∨ j % 4 = 2 ∨ j % 4 = 3 := by omega
  rcases h4 with h4 | h4 | h4 | h4
  · rw [show o + j = o + j / 4 * 4 by omega, c0, show (flat ps)[j]? = (flat ps)[j / 4 * 4]? by congr 1; omega]; rw [a]
  · rw [show o + j = o + j / 4 * 4 + 1 by omega, c1, show (flat ps)[j]? = (flat ps)[j / 4 * 4 + 1]? by congr 1; omega]; rw [b]
  · rw [show o + j = o + j / 4 * 4 + 2 by omega, c2, show (flat ps)[j]? = (flat ps)[j / 4 * 4 + 2]? by congr 1; omega]; rw [c]
  · rw [show o + j = o + j / 4 * 4 + 3 by omega, c3, show (flat ps)[j]? = (flat ps)[j / 4 * 4 + 3]? by congr 1; omega]; rw [d]
theorem row_empty (w : World) : (w.alloc (.cells #[] 37)).ownsRow w.heap.size 37 4 (.slice (some ⟨w.heap.size, 0, none⟩) 0 0) 0 [] :=
  ⟨by simp, .inr ⟨w.heap.size, 0, #[], rfl, Nat.le_refl _, heap_alloc_new w _, Nat.le_refl _, Nat.zero_le _, by simp, by simp⟩⟩

/-- append in a region that draws. -/
theorem step_append_own {P : Program} {w : World} {ops : Array Oper} {o : Oper} {a : Act} {K : Act → World → Prop} {Q : Exit → Act → World → Prop} {E : Prop} (hgd : o.guard = none) (s x : Operand) (t : TypeId)
    (ho : o.op = .call { callee := .builtin .append, args := #[s, x], argTypes := #[t, t] })
    (base : Nat) (e : TypeId) (i : TypeInfo) (z : Value) (size bytes : Nat) (ht : P.underlying t = some (.slice e)) (hi : P.info? e = some i) (hz : i.zero = some z)
    (hsize : i.size = size) (hby : i.bytes = bytes) (hzs : z.cells.size = size) (hsz : 0 < size)
    (v : Value) (n : Nat) (xs : List Value) (hs : a.eval s = v) (hown : w.ownsRow base e size v n xs)
    (ad : Addr) (m c : Nat) (news : List Value) (hx : a.eval x = .slice (some ad) m c) (hl : news.length = m * size) (hnews : ∀ j u, news[j]? = some u → w.cell? (ad.add j) = some u) (h1 : ∀ u ∈ news, u.oneCell' = true)
    (h63 : n + m ≤ maxLen) (hbytes : (n + m) * bytes ≤ 140737488355328) (hbase : base ≤ w.heap.size)
    (h : ∀ v' w', w'.ownsRow base e size v' (n + m) (xs ++ news) → w.grownBy w' v.ownBlock → (v' = .slice none 0 0 ↔ v = .slice none 0 0 ∧ m = 0) → K (a.put o.dst v') w') :
    if Region.wanted o (yielded ops a.tmps) = true then Oper.wp P o a w K Q else E := by
  have hw : Region.wanted o (yielded ops a.tmps) = true := by simp [Region.wanted, hgd]
  rw [if_pos hw]
  exact wp_append_own w s x t ho base e i z size bytes ht hi hz hsize hby hzs hsz v n xs hs hown ad m c news hx hl hnews h1 h63 hbytes hbase h
theorem Sl.drop {w : World} {g o : Nat} {ps : List Pf} (h : Sl w (some ⟨g, o, none⟩) ps) (k : Nat) : Sl w (some ⟨g, o + k * 4, none⟩) (ps.drop k) := by
  intro j hj
  have hj' : k + j < ps.length := by rw [List.length_drop] at hj; omega
  obtain ⟨g', o', e, hg, c⟩ := h (k + j) hj'
  obtain ⟨rfl, rfl⟩ : g = g' ∧ o = o' := by simpa using e
  refine ⟨g, o + k * 4, rfl, hg, ?_⟩
  rw [List.getElem_drop]
  rw [show o + k * 4 + j * 4 = o + (k + j) * 4 by omega]
  exact c
theorem has3_upto {w w' : World} {B p : Nat} {x y z : Value} (h : Has3 w p x y z) (hp : p < B) (hb : Below B w w') : Has3 w' p x y z :=
  ⟨by rw [hb.cell (p := ⟨p, 0, none⟩) hp]; exact h.1, by rw [hb.cell (p := ⟨p, 1, none⟩) hp]; exact h.2.1, by rw [hb.cell (p := ⟨p, 2, none⟩) hp]; exact h.2.2.1, Nat.lt_of_lt_of_le h.2.2.2 hb.size⟩
theorem own_keep {w w' : World} {B e s n : Nat} {v : Value} {xs : List Value} (h : w.ownsRow B e s v n xs) (hb : Below w.heap.size w w') : w'.ownsRow B e s v n xs := by
  obtain ⟨h1, h2⟩ := h
  refine ⟨h1, ?_⟩
  rcases h2 with h2 | ⟨g, c, cur, e1, e2, hc, r⟩
  · exact .inl h2
  · exact .inr ⟨g, c, cur, e1, e2, (hb.block g (Array.getElem?_eq_some_iff.1 hc).1).trans hc, r⟩
theorem below_le {B B' : Nat} {w w' : World} (h : Below B' w w') (hB : B ≤ B') : Below B w w' := ⟨h.os, h.tape, h.output, h.size, fun k hk => h.block k (by omega)⟩
end Go.Proofs.YtghbonlignmdoaaGreatDoor

namespace Go.Proofs.YtghbonlignmdoaaGreatDoor
open Go.RowKit


def folE (c : Int) : Int := if c = 0 then 6 else if 0 < c then 4 else 0

theorem follows_any (v : Bool) (hi lo b : Int) (u : Bool) (yi yo c : Int) (w : World) (h0 : 0 ≤ hi) (h1 : 0 ≤ lo) (h2 : 0 ≤ yi) (h3 : 0 ≤ yo) :
    Calls Tryz.prog 22 #[.agg #[.bool v, .int .u64 hi, .int .u64 lo, .int .i64 b], .agg #[.bool u, .int .u64 yi, .int .u64 yo, .int .i64 c]] w fun e w' =>
      e = .returned (.int .i64 (folE (cmpP v hi lo b u yi yo c))) ∧ Below w.heap.size w w' := by
  have hC : Hid (∀ w : World, Calls Tryz.prog 38 #[.agg #[.bool v, .int .u64 hi, .int .u64 lo, .int .i64 b], .agg #[.bool u, .int .u64 yi, .int .u64 yo, .int .i64 c]] w fun e w' =>
      e = .returned (.int .i64 (cmpP v hi lo b u yi yo c)) ∧ Below w.heap.size w w') := fun w => compare_any v hi lo b u yi yo c w h0 h1 h2 h3
  generalize cmpP v hi lo b u yi yo c = r at *
  clear h0 h1 h2 h3
  by_cases h : r = 0
  · subst h
    rw [show folE 0 = 6 from rfl]
    go_enter Tryz.func22, Tryz.ntmps22
    go_wp2_with fail
    refine (hC.out _).mono ?_
    rintro e w2 ⟨rfl, hb⟩
    go_wp2
    go_ret
    exact ⟨rfl, btr (bal (bal (Below.refl _ _) _) _) hb⟩
  · have hq : (r == 0) = false := by simp [h]
    by_cases h' : 0 < r
    · rw [show folE r = 4 by simp [folE, h, h']]
      clear h
      go_enter Tryz.func22, Tryz.ntmps22
      go_wp2_with fail
      refine (hC.out _).mono ?_
      rintro e w2 ⟨rfl, hb⟩
      go_wp2
      go_ret
      exact ⟨rfl, btr (bal (bal (Below.refl _ _) _) _) hb⟩
    · rw [show folE r = 0 by simp [folE, h, h']]
      have hd : decide (0 < r) = false := decide_eq_false h'
      clear h
      go_enter Tryz.func22, Tryz.ntmps22
      go_wp2_with fail
      refine (hC.out _).mono ?_
      rintro e w2 ⟨rfl, hb⟩
      go_wp2
      go_ret
      exact ⟨rfl, btr (bal (bal (Below.refl _ _) _) _) hb⟩


/-- What Check says, prefix by prefix, behind the one ahead (if there is one). -/
def tchk : Option Pf → List Pf → Int
  | _, [] => 0
  | none, p :: r => if p.chk = 0 then tchk (some p) r else p.chk
  | some q, p :: r => if p.chk = 0 then (if folE (q.cmp p) = 0 then tchk (some p) r else folE (q.cmp p)) else p.chk
def tchkL (ps : List Pf) : Int := if 12 < ps.length then 2 else tchk none ps

theorem tchk_none (p : Pf) (r : List Pf) : tchk none (p :: r) = if p.chk = 0 then tchk (some p) r else p.chk := rfl
theorem tchk_some (q p : Pf) (r : List Pf) : tchk (some q) (p :: r) = if p.chk = 0 then (if folE (q.cmp p) = 0 then tchk (some p) r else folE (q.cmp p)) else p.chk := rfl

/-- The one ahead of place k. -/
def prevP (ps : List Pf) (k : Nat) : Option Pf := if k = 0 then none else ps[k - 1]?
theorem prevP_succ (ps : List Pf) (k : Nat) (h : k < ps.length) : prevP ps (k + 1) = some ps[k] := by simp [prevP, h]

set_option maxHeartbeats 8000000 in
set_option maxRecDepth 100000 in
theorem tcheck_any (a : Option Addr) (c : Nat) (ps : List Pf) (w : World) (hok : ∀ p ∈ ps, p.Ok) (hs : Sl w a ps) :
    Calls Tryz.prog 7 #[.slice a ps.length c] w fun e w' => e = .returned (.int .i64 (tchkL ps)) ∧ Below w.heap.size w w' := by
  by_cases hl : 12 < ps.length
  · rw [show tchkL ps = 2 by simp [tchkL, hl]]
    have hl' : (12 : Int) < (ps.length : Int) := by omega
    generalize ps.length = N at *
    go_enter Tryz.func7, Tryz.ntmps7
    go_wp2
    go_ret
    exact ⟨rfl, Below.refl _ _⟩
  rw [show tchkL ps = tchk none ps by simp [tchkL, hl]]
  obtain ⟨N, hN⟩ : ∃ N, N = ps.length := ⟨_, rfl⟩
  rw [← hN] at hl ⊢
  have hN8 : N ≤ 12 := by omega
  have hd12 : decide ((12 : Int) < (N : Int)) = false := decide_eq_false (by omega)
  have HN : Hid (N = ps.length) := hN
  clear hN hl
  go_enter Tryz.func7, Tryz.ntmps7
  go_wp2_with fail
  go_loopw [12] (fun vi wr => ∃ k : Nat, vi = .int .i64 k ∧ k ≤ N ∧ Below w.heap.size w wr ∧ Hid (tchk none ps = tchk (prevP ps k) (ps.drop k)))
    (fun vi _ => N - (intOf vi).toNat)
  case atStart => exact ⟨0, rfl, Nat.zero_le _, Below.refl _ _, rfl⟩
  case round =>
    obtain ⟨k, rfl, hk, hb, hh⟩ := hrel
    have hN := HN.out
    by_cases hkN : k < N
    · have hkl : k < ps.length := by omega
      obtain ⟨g, o, rfl, hg, c0, c1, c2, c3⟩ := hs k hkl
      have hdec := hh.out
      have ho := hok _ (List.getElem_mem hkl)
      rw [List.drop_eq_getElem_cons hkl] at hdec
      have hnx : prevP ps (k + 1) = some ps[k] := prevP_succ ps k hkl
      rw [← (bcell hb).1 _ _ hg] at c0 c1 c2 c3
      have hgr : g < wr.heap.size := Nat.lt_of_lt_of_le hg hb.size
      have C0 : Hid (_ ∧ _ ∧ _ ∧ _) := ⟨c0, c1, c2, c3⟩
      by_cases hk0 : k = 0
      · subst hk0
        rw [show prevP ps 0 = none from rfl, tchk_none] at hdec
        generalize ps[0]'(by omega) = x at *
        obtain ⟨v, hi, lo, b⟩ := x
        obtain ⟨i0, i1, l0, l1⟩ := ho
        simp only [Pf.chk, Nat.zero_mul, Nat.add_zero] at hdec c0 c1 c2 c3 i0 i1 l0 l1
        have hC : Hid (∀ w : World, Calls Tryz.prog 21 #[.agg #[.bool v, .int .u64 hi, .int .u64 lo, .int .i64 b]] w fun e w' => e = .returned (.int .i64 (pchk v hi lo b)) ∧ Below w.heap.size w w') := fun w => pcheck_any v hi lo b w i0 i1 l0 l1
        have hb1 : Hid (Below w.heap.size w (wr.alloc (.cells #[.bool v, .int .u64 hi, .int .u64 lo, .int .i64 b] 37))) := bal hb _
        have HX : Hid (prevP ps (0 + 1) = _) := hnx
        clear hh hN hok hs i0 i1 l0 l1 C0 hnx
        by_cases hx : pchk v hi lo b = 0
        · simp only [hx, if_true] at hdec
          rw [hx] at hC
          have HD : Hid (tchk none ps = tchk (prevP ps (0 + 1)) (ps.drop (0 + 1))) := by rw [HX.out]; exact hdec
          clear hdec hx
          go_wp2_with fail
          refine (hC.out _).mono ?_
          rintro e w2 ⟨rfl, hb2⟩
          have hb3 : Hid (Below w.heap.size w w2) := btr hb1.out hb2
          clear hb1 hb2
          go_wp2_with fail
          go_roundw
          case rel => exact ⟨0 + 1, by go_num, by omega, hb3.out, HD⟩
          case measure => simp [intOf]; omega
        · simp only [hx, if_false] at hdec
          have HD : Hid (tchk none ps = pchk v hi lo b) := hdec
          have hI : (pchk v hi lo b != 0) = true := by rw [bne_iff_ne]; exact hx
          clear hdec hx
          generalize pchk v hi lo b = r at *
          go_wp2_with fail
          refine (hC.out _).mono ?_
          rintro e w2 ⟨rfl, hb2⟩
          have hb3 : Hid (Below w.heap.size w w2) := btr hb1.out hb2
          clear hb1 hb2
          go_wp2_with fail
          go_ret
          exact ⟨congrArg (fun r => Ending.returned (Value.int .i64 r)) HD.out.symm, hb3.out⟩
      · obtain ⟨m, rfl⟩ : ∃ m, k = m + 1 := ⟨k - 1, by omega⟩
        have hml : m < ps.length := by omega
        rw [prevP_succ ps m hml, tchk_some] at hdec
        obtain ⟨g', o', e', hg', d0, d1, d2, d3⟩ := hs m hml
        obtain ⟨rfl, rfl⟩ : g = g' ∧ o = o' := by simpa using e'
        rw [← (bcell hb).1 _ _ hg] at d0 d1 d2 d3
        have hoq := hok _ (List.getElem_mem hml)
        generalize ps[m + 1]'(by omega) = x at *
        generalize ps[m]'(by omega) = y at *
        obtain ⟨v, hi, lo, b⟩ := x
        obtain ⟨u, yi, yo, cb⟩ := y
        obtain ⟨i0, i1, l0, l1⟩ := ho
        obtain ⟨j0, j1, m0, m1⟩ := hoq
        simp only [Pf.chk, Pf.cmp] at hdec c0 c1 c2 c3 i0 i1 l0 l1 d0 d1 d2 d3 j0 j1 m0 m1
        have hC : Hid (∀ w : World, Calls Tryz.prog 21 #[.agg #[.bool v, .int .u64 hi, .int .u64 lo, .int .i64 b]] w fun e w' => e = .returned (.int .i64 (pchk v hi lo b)) ∧ Below w.heap.size w w') := fun w => pcheck_any v hi lo b w i0 i1 l0 l1
        have hF : Hid (∀ w : World, Calls Tryz.prog 22 #[.agg #[.bool u, .int .u64 yi, .int .u64 yo, .int .i64 cb], .agg #[.bool v, .int .u64 hi, .int .u64 lo, .int .i64 b]] w fun e w' => e = .returned (.int .i64 (folE (cmpP u yi yo cb v hi lo b))) ∧ Below w.heap.size w w') := fun w => follows_any u yi yo cb v hi lo b w j0 m0 i0 l0
        have hb1 : Hid (Below w.heap.size w (wr.alloc (.cells #[.bool v, .int .u64 hi, .int .u64 lo, .int .i64 b] 37))) := bal hb _
        have HX : Hid (prevP ps (m + 1 + 1) = _) := hnx
        have D0 : Hid (wr.cell? ⟨g, o + m * 4, none⟩ = some (.bool u) ∧ wr.cell? ⟨g, o + m * 4 + 1, none⟩ = some (.int .u64 yi) ∧ wr.cell? ⟨g, o + m * 4 + 2, none⟩ = some (.int .u64 yo) ∧ wr.cell? ⟨g, o + m * 4 + 3, none⟩ = some (.int .i64 cb)) := ⟨d0, d1, d2, d3⟩
        have hP := Lib.hid (Has4.new wr v hi lo b 37)
        have hm0 : ((m : Int) + 1 == 0) = false := by rw [beq_eq_false_iff_ne]; omega
        clear hh hN hok hs i0 i1 l0 l1 C0 hnx d0 d1 d2 d3 j0 j1 m0 m1 e' hg'
        by_cases hx : pchk v hi lo b = 0
        · simp only [hx, if_true] at hdec
          rw [hx] at hC
          go_wp2_with fail
          refine (hC.out _).mono ?_
          rintro e w2 ⟨rfl, hb2⟩
          have hb3 : Hid (Below w.heap.size w w2) := btr hb1.out hb2
          have hb2' : Below wr.heap.size wr w2 := btr (bal (Below.refl _ _) _) hb2
          have HP2 := Lib.hid (hP.out.below hb2)
          obtain ⟨d0, d1, d2, d3⟩ := D0.out
          rw [← (bcell hb2').1 _ _ hgr] at d0 d1 d2 d3
          have HD2 : Hid (w2.cell? ⟨g, o + m * 4, none⟩ = some (.bool u) ∧ w2.cell? ⟨g, o + m * 4 + 1, none⟩ = some (.int .u64 yi) ∧ w2.cell? ⟨g, o + m * 4 + 2, none⟩ = some (.int .u64 yo) ∧ w2.cell? ⟨g, o + m * 4 + 3, none⟩ = some (.int .i64 cb) ∧ g < w2.heap.size) := ⟨d0, d1, d2, d3, Nat.lt_of_lt_of_le hgr hb2'.size⟩
          have hsub : (m : Int) + 1 - 1 = (m : Int) := by omega
          have hwr : IntKind.i64.wrap ((m : Int) + 1 - 1) = (m : Int) := by rw [IntKind.wrap_i64]; omega
          have hwr2 : IntKind.i64.wrap (m : Int) = (m : Int) := by rw [IntKind.wrap_i64]; omega
          have hm1 : (0 : Int) ≤ (m : Int) := by omega
          have hm2 : (m : Int) < (N : Int) := by omega
          clear hb1 hb2 hb2' c0 c1 c2 c3 D0 hP hx d0 d1 d2 d3
          by_cases hy : folE (cmpP u yi yo cb v hi lo b) = 0
          · simp only [hy, if_true] at hdec
            rw [hy] at hF
            have HD : Hid (tchk none ps = tchk (prevP ps (m + 1 + 1)) (ps.drop (m + 1 + 1))) := by rw [HX.out]; exact hdec
            clear hdec hy
            go_wp2_with fail
            go_region_held3 (fun w' => (w'.cell? ⟨wr.heap.size, 0, none⟩ = some (.bool v) ∧ w'.cell? ⟨wr.heap.size, 1, none⟩ = some (.int .u64 hi) ∧ w'.cell? ⟨wr.heap.size, 2, none⟩ = some (.int .u64 lo) ∧ w'.cell? ⟨wr.heap.size, 3, none⟩ = some (.int .i64 b) ∧ wr.heap.size < w'.heap.size) ∧ (w'.cell? ⟨g, o + m * 4, none⟩ = some (.bool u) ∧ w'.cell? ⟨g, o + m * 4 + 1, none⟩ = some (.int .u64 yi) ∧ w'.cell? ⟨g, o + m * 4 + 2, none⟩ = some (.int .u64 yo) ∧ w'.cell? ⟨g, o + m * 4 + 3, none⟩ = some (.int .i64 cb) ∧ g < w'.heap.size) ∧ Below w.heap.size w w')
              (first | exact ⟨HP2.out, HD2.out, hb3.out.drew⟩ | exact keepR (by assumption) (by assumption))
              ((go_at_call 22; refine (hF.out _).mono ?_; rintro e w' ⟨rfl, hb⟩))
            have hb5 : Hid (Below w.heap.size w _) := And.right (And.right (by assumption))
            go_wp2_with fail
            go_roundw
            case rel => exact ⟨m + 1 + 1, by go_num, by omega, hb5.out, HD⟩
            case measure => simp [intOf]; omega
          · simp only [hy, if_false] at hdec
            have HD : Hid (tchk none ps = folE (cmpP u yi yo cb v hi lo b)) := hdec
            have hI : (folE (cmpP u yi yo cb v hi lo b) != 0) = true := by rw [bne_iff_ne]; exact hy
            clear hdec hy
            generalize folE (cmpP u yi yo cb v hi lo b) = r at *
            go_wp2_with fail
            go_region_held3 (fun w' => (w'.cell? ⟨wr.heap.size, 0, none⟩ = some (.bool v) ∧ w'.cell? ⟨wr.heap.size, 1, none⟩ = some (.int .u64 hi) ∧ w'.cell? ⟨wr.heap.size, 2, none⟩ = some (.int .u64 lo) ∧ w'.cell? ⟨wr.heap.size, 3, none⟩ = some (.int .i64 b) ∧ wr.heap.size < w'.heap.size) ∧ (w'.cell? ⟨g, o + m * 4, none⟩ = some (.bool u) ∧ w'.cell? ⟨g, o + m * 4 + 1, none⟩ = some (.int .u64 yi) ∧ w'.cell? ⟨g, o + m * 4 + 2, none⟩ = some (.int .u64 yo) ∧ w'.cell? ⟨g, o + m * 4 + 3, none⟩ = some (.int .i64 cb) ∧ g < w'.heap.size) ∧ Below w.heap.size w w')
              (first | exact ⟨HP2.out, HD2.out, hb3.out.drew⟩ | exact keepR (by assumption) (by assumption))
              ((go_at_call 22; refine (hF.out _).mono ?_; rintro e w' ⟨rfl, hb⟩))
            have hb5 : Hid (Below w.heap.size w _) := And.right (And.right (by assumption))
            go_wp2_with fail
            go_ret
            exact ⟨congrArg (fun r => Ending.returned (Value.int .i64 r)) HD.out.symm, hb5.out⟩
        · simp only [hx, if_false] at hdec
          have HD : Hid (tchk none ps = pchk v hi lo b) := hdec
          have hI : (pchk v hi lo b != 0) = true := by rw [bne_iff_ne]; exact hx
          clear hdec hx
          generalize pchk v hi lo b = r at *
          go_wp2_with fail
          refine (hC.out _).mono ?_
          rintro e w2 ⟨rfl, hb2⟩
          have hb3 : Hid (Below w.heap.size w w2) := btr hb1.out hb2
          clear hb1 hb2
          go_wp2_with fail
          go_ret
          exact ⟨congrArg (fun r => Ending.returned (Value.int .i64 r)) HD.out.symm, hb3.out⟩
    · have hd := hh.out
      rw [List.drop_eq_nil_of_le (by omega)] at hd
      have HD : Hid (tchk none ps = 0) := by rw [hd]; cases prevP ps k <;> rfl
      clear hd hh hN hs hok
      go_wp2_with fail
      go_ret
      exact ⟨congrArg (fun r => Ending.returned (Value.int .i64 r)) HD.out.symm, hb⟩

/-- What is said of a table and a place. -/
def tlook (ps : List Pf) (n : Int) : Int := if tchkL ps = 0 then (if n < 0 ∨ (ps.length : Int) ≤ n then 3 else 0) else tchkL ps

theorem tlook_any (a : Option Addr) (c : Nat) (ps : List Pf) (n : Int) (w : World) (hok : ∀ p ∈ ps, p.Ok) (hs : Sl w a ps) :
    Calls Tryz.prog 23 #[.slice a ps.length c, .int .i64 n] w fun e w' => e = .returned (.int .i64 (tlook ps n)) ∧ Below w.heap.size w w' := by
  have hC : Hid (∀ w' : World, w' = w → Calls Tryz.prog 7 #[.slice a ps.length c] w' fun e w' => e = .returned (.int .i64 (tchkL ps)) ∧ Below w.heap.size w w') := fun w' e => by subst e; exact tcheck_any a c ps w' hok hs
  unfold tlook
  generalize ps.length = N at *
  generalize tchkL ps = r at *
  clear hok hs
  by_cases hr : r = 0
  · subst hr
    simp only [if_true]
    by_cases h0 : n < 0
    · simp only [h0, true_or, if_true]
      go_enter Tryz.func23, Tryz.ntmps23
      go_wp2_with fail
      refine (hC.out _ rfl).mono ?_
      rintro e w2 ⟨rfl, hb⟩
      go_wp2
      go_ret
      exact ⟨rfl, hb⟩
    · have hd : decide (n < 0) = false := decide_eq_false h0
      by_cases h1 : (N : Int) ≤ n
      · simp only [h0, h1, or_true, if_true]
        go_enter Tryz.func23, Tryz.ntmps23
        go_wp2_with fail
        refine (hC.out _ rfl).mono ?_
        rintro e w2 ⟨rfl, hb⟩
        go_wp2
        go_ret
        exact ⟨rfl, hb⟩
      · have hd1 : decide ((N : Int) ≤ n) = false := decide_eq_false h1
        simp only [h0, h1, or_self, if_false]
        go_enter Tryz.func23, Tryz.ntmps23
        go_wp2_with fail
        refine (hC.out _ rfl).mono ?_
        rintro e w2 ⟨rfl, hb⟩
        go_wp2
        go_ret
        exact ⟨rfl, hb⟩
  · have hI : (r != 0) = true := by rw [bne_iff_ne]; exact hr
    simp only [hr, if_false]
    clear hr
    go_enter Tryz.func23, Tryz.ntmps23
    go_wp2_with fail
    refine (hC.out _ rfl).mono ?_
    rintro e w2 ⟨rfl, hb⟩
    go_wp2
    go_ret
    exact ⟨rfl, hb⟩
end Go.Proofs.YtghbonlignmdoaaGreatDoor

namespace Go.Proofs.YtghbonlignmdoaaGreatDoor
open Go.RowKit

/-- The last place at which p holds. -/
def lastI {α : Type} (p : α → Bool) : List α → Option Nat
  | [] => none
  | x :: r => match lastI p r with
    | some i => some (i + 1)
    | none => if p x then some 0 else none
theorem lastI_snoc {α : Type} (p : α → Bool) (x : α) : ∀ l : List α, lastI p (l ++ [x]) = if p x = true then some l.length else lastI p l
  | [] => by simp [lastI]
  | y :: r => by
    rw [List.cons_append, lastI, lastI_snoc p x r]
    by_cases h : p x = true
    · simp [h]
    · simp [h, lastI]
def nrI (r : Option Nat) : Int := match r with | none => 0 | some i => (i : Int)

def Pf.val (p : Pf) : Value := .agg #[.bool p.v, .int .u64 p.hi, .int .u64 p.lo, .int .i64 p.b]

set_option maxHeartbeats 8000000 in
set_option maxRecDepth 100000 in
theorem nearest_any (a : Option Addr) (c : Nat) (ps : List Pf) (w : World) (g : Nat) (lb : Array Value) (p : Pf → Bool) (hl : ps.length ≤ 12) (hs : Sl w a ps) (eg : ∀ args w, (callFunc g args).run Tryz.prog w = .ok (.enter g args) w)
    (hp : ∀ (W : World) (x : Pf), x ∈ ps → Below w.heap.size w W → Calls Tryz.prog g (#[.agg #[.bool x.v, .int .u64 x.hi, .int .u64 x.lo, .int .i64 x.b]] ++ lb) W fun e w' => e = .returned (.bool (p x)) ∧ Below w.heap.size w w') :
    Calls Tryz.prog 28 #[.slice a ps.length c, .func (.func g) #[] lb] w fun e w' => e = .returned (.tuple #[.int .i64 (nrI (lastI p ps)), .bool (lastI p ps).isSome]) ∧ Below w.heap.size w w' := by
  obtain ⟨N, hN⟩ : ∃ N, N = ps.length := ⟨_, rfl⟩
  rw [← hN] at hl ⊢
  have HN : Hid (N = ps.length) := hN
  have hwr : IntKind.i64.wrap ((N : Int) - 1) = (N : Int) - 1 := by rw [IntKind.wrap_i64]; omega
  clear hN
  go_enter Tryz.func28, Tryz.ntmps28
  go_wp2_with fail
  go_loopw [6] (fun vi wr => ∃ k : Nat, vi = .int .i64 ((k : Int) - 1) ∧ k ≤ N ∧ Below w.heap.size w wr ∧ Hid (lastI p ps = lastI p (ps.take k)))
    (fun vi _ => (intOf vi + 1).toNat)
  case atStart => exact ⟨N, rfl, Nat.le_refl _, Below.refl _ _, by rw [HN.out, List.take_length]; exact (rfl : lastI p ps = lastI p ps)⟩
  case round =>
    obtain ⟨k, rfl, hk, hb, hh⟩ := hrel
    have hN := HN.out
    by_cases hk0 : k = 0
    · subst hk0
      have hd := hh.out
      rw [List.take_zero, lastI] at hd
      have HD : Hid (lastI p ps = none) := hd
      clear hd hh hN hs hp
      go_wp2_with fail
      go_ret2
      exact ⟨by rw [HD.out]; rfl, hb⟩
    · obtain ⟨m, rfl⟩ : ∃ m, k = m + 1 := ⟨k - 1, by omega⟩
      have hml : m < ps.length := by omega
      obtain ⟨gg, o, rfl, hg, c0, c1, c2, c3⟩ := hs m hml
      have hdec := hh.out
      rw [List.take_succ_eq_append_getElem hml, lastI_snoc] at hdec
      rw [List.length_take_of_le (by omega)] at hdec
      rw [← (bcell hb).1 _ _ hg] at c0 c1 c2 c3
      have hcall := hp wr ps[m] (List.getElem_mem hml) hb
      have hsub : ((m + 1 : Nat) : Int) - 1 = (m : Int) := by omega
      rw [hsub]
      generalize ps[m] = x at *
      obtain ⟨v, hi, lo, b⟩ := x
      simp only at c0 c1 c2 c3 hcall
      have hm1 : (0 : Int) ≤ (m : Int) := by omega
      have hm2 : (m : Int) < (N : Int) := by omega
      have hwm : IntKind.i64.wrap ((m : Int) - 1) = (m : Int) - 1 := by rw [IntKind.wrap_i64]; omega
      clear hs hp hh hN hsub hwr
      have HC := Lib.hid hcall
      clear hcall hk0
      cases hq : p ⟨v, hi, lo, b⟩ with
      | true =>
        rw [hq] at HC hdec
        simp only [if_true] at hdec
        have HD : Hid (lastI p ps = some m) := hdec
        clear hq hdec
        go_wp2_with fail
        refine HC.out.mono ?_
        rintro e w2 ⟨rfl, hb2⟩
        go_wp2_with fail
        go_ret2
        exact ⟨by rw [HD.out]; rfl, hb2⟩
      | false =>
        rw [hq] at HC hdec
        have hdec' : lastI p ps = lastI p (ps.take m) := by simpa using hdec
        have HD := Lib.hid hdec'
        clear hdec'
        clear hq hdec
        go_wp2_with fail
        refine HC.out.mono ?_
        rintro e w2 ⟨rfl, hb2⟩
        go_wp2_with fail
        go_roundw
        case rel => exact ⟨m, by go_num, by omega, hb2, HD⟩
        case measure => simp [intOf]
end Go.Proofs.YtghbonlignmdoaaGreatDoor

namespace Go.Proofs.YtghbonlignmdoaaGreatDoor
open Go.RowKit Go.Shelf

theorem find1_any (ab : Nat) (v : Bool) (xh xl : Int) (u : Bool) (hi lo b : Int) (w : World) (h0 : 0 ≤ xh) (h1 : 0 ≤ xl) (i0 : 0 ≤ hi) (i1 : hi < 18446744073709551616) (i2 : 0 ≤ lo) (i3 : lo < 18446744073709551616) (c0 : pchk u hi lo b = 0)
    (ha : Has3 w ab (.bool v) (.int .u64 xh) (.int .u64 xl)) :
    Calls Tryz.prog 29 #[.agg #[.bool u, .int .u64 hi, .int .u64 lo, .int .i64 b], .pointer (some ⟨ab, 0, none⟩)] w fun e w' => e = .returned (.bool (inB v xh xl u hi lo b)) ∧ Below w.heap.size w w' := by
  have hW : Hid (∀ w : World, Calls Tryz.prog 30 #[.agg #[.bool v, .int .u64 xh, .int .u64 xl], .agg #[.bool u, .int .u64 hi, .int .u64 lo, .int .i64 b]] w fun e w' =>
      e = .returned (.bool (inB v xh xl u hi lo b)) ∧ Below w.heap.size w w') := fun w => within_any v xh xl u hi lo b w h0 h1 i0 i1 i2 i3 c0
  have HB := Lib.hid (bal (Below.refl w.heap.size w) (.cells #[.bool u, .int .u64 hi, .int .u64 lo, .int .i64 b] 37))
  generalize inB v xh xl u hi lo b = r at *
  clear h0 h1 i0 i1 i2 i3 c0
  obtain ⟨a0, a1, a2, a3⟩ := ha
  go_enter Tryz.func29, Tryz.ntmps29
  go_wp2_with fail
  refine (hW.out _).mono ?_
  rintro e w2 ⟨rfl, hb⟩
  go_wp2
  go_ret
  exact ⟨rfl, btr HB.out hb⟩

theorem stand1_any (pb : Nat) (v : Bool) (hi lo b : Int) (u : Bool) (yi yo c : Int) (w : World) (r : Right v hi lo b) (q : Right u yi yo c)
    (ha : Has4 w pb v hi lo b) :
    Calls Tryz.prog 39 #[.agg #[.bool u, .int .u64 yi, .int .u64 yo, .int .i64 c], .pointer (some ⟨pb, 0, none⟩)] w fun e w' => e = .returned (.bool (hasB u yi yo c v hi lo b)) ∧ Below w.heap.size w w' := by
  have hW : Hid (∀ w : World, Calls Tryz.prog 10 #[.agg #[.bool u, .int .u64 yi, .int .u64 yo, .int .i64 c], .agg #[.bool v, .int .u64 hi, .int .u64 lo, .int .i64 b]] w fun e w' =>
      e = .returned (.tuple #[.bool (hasB u yi yo c v hi lo b), .int .i64 0]) ∧ Below w.heap.size w w') := fun w => has_ok u yi yo c v hi lo b w q.h0 q.h1 q.l0 q.l1 r.h0 r.h1 r.l0 r.l1 (by rw [two, if_pos ((right_iff _ _ _ _ q.h0 q.h1 q.l0 q.l1).2 q)]; exact (right_iff _ _ _ _ r.h0 r.h1 r.l0 r.l1).2 r)
  have HB := Lib.hid (bal (Below.refl w.heap.size w) (.cells #[.bool u, .int .u64 yi, .int .u64 yo, .int .i64 c] 37))
  generalize hasB u yi yo c v hi lo b = r at *
  obtain ⟨a0, a1, a2, a3, a4⟩ := ha
  clear q
  go_enter Tryz.func39, Tryz.ntmps39
  go_wp2_with fail
  refine (hW.out _).mono ?_
  rintro e w2 ⟨rfl, hb⟩
  go_wp2
  go_ret
  exact ⟨rfl, btr HB.out hb⟩

theorem tchk_right : ∀ (ps : List Pf) (o : Option Pf), tchk o ps = 0 → ∀ p ∈ ps, p.chk = 0
  | [], _, _, p, hp => by simp at hp
  | q :: r, none, h, p, hp => by
    rw [tchk_none] at h
    by_cases hq : q.chk = 0
    · rw [if_pos hq] at h
      rcases List.mem_cons.1 hp with rfl | hp
      · exact hq
      · exact tchk_right r _ h p hp
    · rw [if_neg hq] at h; exact absurd h hq
  | q :: r, some s, h, p, hp => by
    rw [tchk_some] at h
    by_cases hq : q.chk = 0
    · rw [if_pos hq] at h
      by_cases hf : folE (s.cmp q) = 0
      · rw [if_pos hf] at h
        rcases List.mem_cons.1 hp with rfl | hp
        · exact hq
        · exact tchk_right r _ h p hp
      · rw [if_neg hf] at h; exact absurd h hf
    · rw [if_neg hq] at h; exact absurd h hq
theorem tchkL_right {ps : List Pf} (h : tchkL ps = 0) : ps.length ≤ 12 ∧ ∀ p ∈ ps, p.chk = 0 := by
  unfold tchkL at h
  by_cases hl : 12 < ps.length
  · rw [if_pos hl] at h; exact absurd h (by decide)
  · rw [if_neg hl] at h; exact ⟨by omega, tchk_right ps none h⟩

def findE (ps : List Pf) (v : Bool) (xh xl : Int) : Int := if tchkL ps = 0 then (if chk v xh xl = 0 then (if (lastI (fun p => p.inA v xh xl) ps).isSome then 0 else 5) else chk v xh xl) else tchkL ps
def findI (ps : List Pf) (v : Bool) (xh xl : Int) : Int := if findE ps v xh xl = 0 then nrI (lastI (fun p => p.inA v xh xl) ps) else 0

theorem enters_find1 : ∀ args w, (callFunc 29 args).run Tryz.prog w = .ok (.enter 29 args) w := enters_of Tryz.func29 (by kernel_rfl) rfl

set_option maxHeartbeats 8000000 in
set_option maxRecDepth 100000 in
theorem find_any (a : Option Addr) (c : Nat) (ps : List Pf) (v : Bool) (xh xl : Int) (w : World) (hok : ∀ p ∈ ps, p.Ok) (hs : Sl w a ps) (h0 : 0 ≤ xh) (h1 : 0 ≤ xl) :
    Calls Tryz.prog 11 #[.slice a ps.length c, .agg #[.bool v, .int .u64 xh, .int .u64 xl]] w fun e w' => e = .returned (.tuple #[.int .i64 (findI ps v xh xl), .int .i64 (findE ps v xh xl)]) ∧ Below w.heap.size w w' := by
  have B1 := bal (Below.refl w.heap.size w) (.cells #[.bool v, .int .u64 xh, .int .u64 xl] 25)
  have hC := tcheck_any a c ps _ hok (hs.below B1)
  have HB := Lib.hid B1
  have HP := Lib.hid (Has3.new w (.bool v) (.int .u64 xh) (.int .u64 xl) 25)
  by_cases hr : tchkL ps = 0
  · obtain ⟨h12, hall⟩ := tchkL_right hr
    rw [hr] at hC
    have HC := Lib.hid hC
    have hA : Hid (∀ w : World, Calls Tryz.prog 27 #[.agg #[.bool v, .int .u64 xh, .int .u64 xl]] w fun e w' => e = .returned (.int .i64 (chk v xh xl)) ∧ ∃ c, w' = w.alloc (.cells c 25)) := fun w => check_any v xh xl w h0 h1
    rcases chk_cases v xh xl with ⟨hc, _⟩ | hc
    · rw [hc] at hA
      have hF : Hid (∀ (w' : World), Has3 w' w.heap.size (.bool v) (.int .u64 xh) (.int .u64 xl) → Below w.heap.size w w' → Calls Tryz.prog 28 #[.slice a ps.length c, .func (.func 29) #[] #[.pointer (some ⟨w.heap.size, 0, none⟩)]] w' fun e w'' =>
          e = .returned (.tuple #[.int .i64 (nrI (lastI (fun p => p.inA v xh xl) ps)), .bool (lastI (fun p => p.inA v xh xl) ps).isSome]) ∧ Below w'.heap.size w' w'') := by
        intro w' ha hb
        refine nearest_any a c ps w' 29 _ (fun p => p.inA v xh xl) h12 (hs.below hb) enters_find1 ?_
        intro W x hx hbW
        obtain ⟨k0, k1, k2, k3⟩ := hok x hx
        have := find1_any w.heap.size v xh xl x.v x.hi x.lo x.b W h0 h1 k0 k1 k2 k3 (hall x hx) (ha.below hbW)
        exact this.mono fun e w3 h => ⟨h.1, btr hbW h.2⟩
      have e1 : findE ps v xh xl = if (lastI (fun p => p.inA v xh xl) ps).isSome then 0 else 5 := by rw [findE, if_pos hr, if_pos hc]
      have e2 : findI ps v xh xl = if (lastI (fun p => p.inA v xh xl) ps).isSome then nrI (lastI (fun p => p.inA v xh xl) ps) else 0 := by
        rw [findI, e1]; cases (lastI (fun p => p.inA v xh xl) ps).isSome <;> simp
      rw [e1, e2]
      generalize ps.length = N at *
      generalize nrI (lastI (fun p => p.inA v xh xl) ps) = r1 at *
      generalize (lastI (fun p => p.inA v xh xl) ps).isSome = r2 at *
      clear e1 e2 hall hok hs hr h0 h1 hc h12 B1 hC
      cases r2
      all_goals
        go_enter Tryz.func11, Tryz.ntmps11
        go_wp2_with fail
        refine HC.out.mono ?_
        rintro e w2 ⟨rfl, hb⟩
        replace HP := Lib.hid (HP.out.below hb)
        replace HB := Lib.hid (btr HB.out hb)
        clear hb HC
        obtain ⟨a0, a1, a2, a3⟩ := HP.out
        go_wp2_with fail
        refine (hA.out _).mono ?_
        rintro e w3 ⟨rfl, cc, rfl⟩
        replace HP := Lib.hid (HP.out.alloc (.cells cc 25))
        replace HB := Lib.hid (bal HB.out (.cells cc 25))
        clear a0 a1 a2 a3 hA
        generalize w2.alloc (.cells cc 25) = w4 at *
        go_wp2_with fail
        refine (hF.out _ HP.out HB.out).mono ?_
        rintro e w5 ⟨rfl, hb⟩
        replace HB := Lib.hid (btr HB.out hb)
        clear hb hF
        go_wp2
        go_ret2
        exact ⟨rfl, HB.out⟩
    · rw [hc] at hA
      have e1 : findE ps v xh xl = 3 := by rw [findE, if_pos hr, hc]; exact if_neg (by decide)
      have e2 : findI ps v xh xl = 0 := by rw [findI, e1]; exact if_neg (by decide)
      rw [e1, e2]
      generalize ps.length = N at *
      clear e1 e2 hall hok hs hr h0 h1 hc h12 B1 hC
      go_enter Tryz.func11, Tryz.ntmps11
      go_wp2_with fail
      refine HC.out.mono ?_
      rintro e w2 ⟨rfl, hb⟩
      replace HP := Lib.hid (HP.out.below hb)
      replace HB := Lib.hid (btr HB.out hb)
      clear hb HC
      obtain ⟨a0, a1, a2, a3⟩ := HP.out
      go_wp2_with fail
      refine (hA.out _).mono ?_
      rintro e w3 ⟨rfl, cc, rfl⟩
      replace HB := Lib.hid (bal HB.out (.cells cc 25))
      clear a0 a1 a2 a3 hA
      generalize w2.alloc (.cells cc 25) = w4 at *
      go_wp2
      go_ret2
      exact ⟨rfl, HB.out⟩
  · have e1 : findE ps v xh xl = tchkL ps := by rw [findE, if_neg hr]
    have e2 : findI ps v xh xl = 0 := by rw [findI, e1, if_neg hr]
    have hI : (tchkL ps != 0) = true := by rw [bne_iff_ne]; exact hr
    rw [e1, e2]
    have HC := Lib.hid hC
    generalize ps.length = N at *
    generalize tchkL ps = r at *
    clear e1 e2 hok hs hr h0 h1 B1 hC
    go_enter Tryz.func11, Tryz.ntmps11
    go_wp2_with fail
    refine HC.out.mono ?_
    rintro e w2 ⟨rfl, hb⟩
    replace HB := Lib.hid (btr HB.out hb)
    go_wp2
    go_ret2
    exact ⟨rfl, HB.out⟩
end Go.Proofs.YtghbonlignmdoaaGreatDoor

namespace Go.Proofs.YtghbonlignmdoaaGreatDoor
open Go.RowKit Go.Maps Go.Shelf

theorem keyI : Keyed Tryz.prog 3 := int_keyed Tryz.underlying3
theorem zeroI (w : World) : (zeroValue 3).run Tryz.prog w = .ok (.int .i64 0) w := by kernel_rfl

/-- The one that place k stands below, looked for ahead of it. -/
def par (ps : List Pf) (k : Nat) : Option Nat := match ps[k]? with | some x => lastI (fun q => q.has x) (ps.take k) | none => none
/-- The map behind k rounds. -/
def Dm (ps : List Pf) : Nat → DataW Unit
  | 0 => .map []
  | k + 1 => match par ps k with
    | some j => (Dm ps k).put (.int .i64 (k : Int)) (.lit (.int .i64 (j : Int)))
    | none => Dm ps k
theorem Dm_isMap (ps : List Pf) : ∀ k, IsMap (Dm ps k)
  | 0 => ⟨[], rfl⟩
  | k + 1 => by
    have h := Dm_isMap ps k
    rw [Dm]
    split
    · obtain ⟨es, he⟩ := h; rw [he]; exact ⟨_, rfl⟩
    · exact h
theorem lastI_lt {α : Type} {p : α → Bool} : ∀ {l : List α} {i : Nat}, lastI p l = some i → i < l.length
  | [], i, h => by simp [lastI] at h
  | x :: r, i, h => by
    rw [lastI] at h
    split at h
    · rename_i j hj
      have := lastI_lt hj
      simp at h
      simp; omega
    · split at h
      · simp at h; simp; omega
      · simp at h
theorem par_lt {ps : List Pf} {k j : Nat} (h : par ps k = some j) : j < k ∧ j < ps.length := by
  unfold par at h
  split at h
  · have := lastI_lt h
    rw [List.length_take] at this
    omega
  · simp at h
theorem Dm_none {ps : List Pf} {k : Nat} (h : par ps k = none) : Dm ps (k + 1) = Dm ps k := by rw [Dm, h]
theorem Dm_some {ps : List Pf} {k j : Nat} (h : par ps k = some j) : Dm ps (k + 1) = (Dm ps k).put (.int .i64 (k : Int)) (.lit (.int .i64 (j : Int))) := by rw [Dm, h]
theorem lit_ne {a b : Int} (h : a ≠ b) : (Lit.int .i64 a) ≠ (Lit.int .i64 b) := fun e => h (by injection e)
theorem Dm_has (ps : List Pf) (n : Int) : ∀ k, Maps.has (Dm ps k) (.int .i64 n) = true ↔ ∃ m : Nat, n = m ∧ m < k ∧ (par ps m).isSome = true
  | 0 => by simp [Dm, Maps.has]
  | k + 1 => by
    have ih := Dm_has ps n k
    rw [Dm]
    split
    · rename_i j hj
      by_cases hn : n = (k : Int)
      · subst hn
        rw [has_put_same (Dm_isMap ps k) (by trivial)]
        simp only [true_iff]
        exact ⟨k, rfl, by omega, by rw [hj]; rfl⟩
      · rw [has_put_other (lit_ne hn), ih]
        constructor
        · rintro ⟨m, h1, h2, h3⟩; exact ⟨m, h1, by omega, h3⟩
        · rintro ⟨m, h1, h2, h3⟩; exact ⟨m, h1, by omega, h3⟩
    · rename_i hj
      rw [ih]
      constructor
      · rintro ⟨m, h1, h2, h3⟩; exact ⟨m, h1, by omega, h3⟩
      · rintro ⟨m, h1, h2, h3⟩
        by_cases hm : m = k
        · subst hm; rw [hj] at h3; simp at h3
        · exact ⟨m, h1, by omega, h3⟩
theorem Dm_at (ps : List Pf) (n : Nat) (j : Nat) (hj : par ps n = some j) : ∀ k, n < k → (Dm ps k).atKey (.int .i64 (n : Int)) (.lit (.int .i64 0)) = .lit (.int .i64 (j : Int))
  | 0, h => by omega
  | k + 1, h => by
    rw [Dm]
    by_cases hn : n = k
    · subst hn
      rw [hj]
      exact atKey_put_same (Dm_isMap ps n) (by trivial) _ _
    · have ih := Dm_at ps n j hj k (by omega)
      split
      · rw [atKey_put_other (lit_ne (by omega))]; exact ih
      · exact ih

theorem enters_stand1 : ∀ args w, (callFunc 39 args).run Tryz.prog w = .ok (.enter 39 args) w := enters_of Tryz.func39 (by kernel_rfl) rfl
theorem ownsMap_below {w w' : World} {b n : Nat} {D : DataW Unit} (h : w.ownsMap Tryz.prog 3 (plainElem Tryz.prog 3) b n D) (hb : Below w.heap.size w w') : w'.ownsMap Tryz.prog 3 (plainElem Tryz.prog 3) b n D := by
  have hlt := h.lt
  obtain ⟨es, clock, hh, r⟩ := h
  exact ⟨es, clock, (hb.block b hlt).trans hh, r⟩

set_option maxHeartbeats 8000000 in
set_option maxRecDepth 100000 in
theorem standing_any (a : Option Addr) (c : Nat) (ps : List Pf) (w : World) (hok : ∀ p ∈ ps, p.R) (hl : ps.length ≤ 12) (hc : ps.length ≤ c) (hs : Sl w a ps) :
    Calls Tryz.prog 24 #[.slice a ps.length c] w fun e w' => e = .returned (.map (some w.heap.size)) ∧ w'.ownsMap Tryz.prog 3 (plainElem Tryz.prog 3) w.heap.size 12 (Dm ps ps.length) ∧ Below w.heap.size w w' := by
  have hmm := @run_makeMap Tryz.prog
  obtain ⟨N, hN⟩ : ∃ N, N = ps.length := ⟨_, rfl⟩
  rw [← hN] at hl hc ⊢
  have HN : Hid (N = ps.length) := hN
  clear hN
  go_enter Tryz.func24, Tryz.ntmps24
  go_wp2_with fail
  go_loopw [11] (fun vi wr => ∃ k : Nat, vi = .int .i64 k ∧ k ≤ N ∧ Hid (wr.ownsMap Tryz.prog 3 (plainElem Tryz.prog 3) w.heap.size k (Dm ps k)) ∧ Below w.heap.size w wr)
    (fun vi _ => N - (intOf vi).toNat)
  case atStart => exact ⟨0, rfl, Nat.zero_le _, World.ownsMap_made _ _ _ _, bal (Below.refl _ _) _⟩
  case round =>
    obtain ⟨k, rfl, hk, hown, hb⟩ := hrel
    have hN := HN.out
    by_cases hkN : k < N
    · have hkl : k < ps.length := by omega
      obtain ⟨g, o, rfl, hg, c0, c1, c2, c3⟩ := hs k hkl
      rw [← (bcell hb).1 _ _ hg] at c0 c1 c2 c3
      have hR := hok _ (List.getElem_mem hkl)
      have hpar : par ps k = lastI (fun q => q.has ps[k]) (ps.take k) := by rw [par, List.getElem?_eq_getElem hkl]
      have hlen : (ps.take k).length = k := List.length_take_of_le (by omega)
      have hmem : ∀ x ∈ ps.take k, x.R := fun x hx => hok x (List.mem_of_mem_take hx)
      have hst := hs.take k
      generalize ps[k] = x at *
      obtain ⟨v, hi, lo, b⟩ := x
      simp only [Pf.R] at c0 c1 c2 c3 hR
      have hb1 := bal hb (.cells #[.bool v, .int .u64 hi, .int .u64 lo, .int .i64 b] 37)
      have hP := Has4.new wr v hi lo b 37
      have hF : Hid (∀ w' : World, Has4 w' wr.heap.size v hi lo b → Below w.heap.size w w' → Calls Tryz.prog 28 #[.slice (some ⟨g, o, none⟩) k c, .func (.func 39) #[] #[.pointer (some ⟨wr.heap.size, 0, none⟩)]] w' fun e w'' =>
          e = .returned (.tuple #[.int .i64 (nrI (par ps k)), .bool (par ps k).isSome]) ∧ Below w'.heap.size w' w'') := by
        intro w' h4 hbw
        have h12 : (ps.take k).length ≤ 12 := by omega
        have := nearest_any (some ⟨g, o, none⟩) c (ps.take k) w' 39 #[.pointer (some ⟨wr.heap.size, 0, none⟩)] (fun q => q.has ⟨v, hi, lo, b⟩) h12 (hst.below hbw) enters_stand1 (by
          intro W y hy hbW
          have := stand1_any wr.heap.size v hi lo b y.v y.hi y.lo y.b W hR (hmem y hy) (h4.below hbW)
          exact this.mono fun e w3 h => ⟨h.1, btr hbW h.2⟩)
        rw [hlen] at this
        rw [hpar]
        exact this
      have HB := Lib.hid hb1
      have HP := Lib.hid hP
      replace hown := Lib.hid (hown.out.alloc (.cells #[.bool v, .int .u64 hi, .int .u64 lo, .int .i64 b] 37))
      have hk1 : (0 : Int) ≤ (k : Int) := by omega
      have hk2 : (k : Int) ≤ (c : Int) := by omega
      have hk3 : (k : Int) < (N : Int) := by omega
      have hkey : keyOf Tryz.prog 3 (.int .i64 (k : Int)) = some (.int .i64 (k : Int)) := keyOf_int_mk Tryz.underlying3 (WalkArith.wf_i64 (by omega))
      have HK := Lib.hid hkey
      clear hkey hpar hlen hmem hst hR hN hok hs hb1 hP hb
      cases hq : par ps k with
      | none =>
        rw [hq] at hF
        have HD := Lib.hid (Dm_none hq)
        clear hq
        go_wp2_with fail
        refine (hF.out _ HP.out HB.out).mono ?_
        rintro e w2 ⟨rfl, hb2⟩
        replace hown := Lib.hid (ownsMap_below hown.out hb2)
        replace HB := Lib.hid (btr HB.out hb2)
        clear hF hb2 HP c0 c1 c2 c3
        go_wp2_with fail
        go_roundw
        case rel => exact ⟨k + 1, by go_num, by omega, by rw [HD.out]; exact Lib.hid (hown.out.mono (Nat.le_succ _)), HB.out⟩
        case measure => simp [intOf]; omega
      | some j =>
        rw [hq] at hF
        have HD := Lib.hid (Dm_some hq)
        have hj : j < 12 := by have := (par_lt hq).1; omega
        rw [show nrI (some j) = (j : Int) from rfl] at hF
        clear hq
        go_wp2_with fail
        refine (hF.out _ HP.out HB.out).mono ?_
        rintro e w2 ⟨rfl, hb2⟩
        replace hown := Lib.hid (ownsMap_below hown.out hb2)
        replace HB := Lib.hid (btr HB.out hb2)
        clear hF hb2 HP c0 c1 c2 c3
        go_wp2_with (at_mapUpdate; refine wpList_mapUpdate_own _ rfl _ _ _ 57 rfl 3 3 keyI Tryz.underlying57 _ w.heap.size k _ rfl hown.out (by unfold maxLen; omega) _ _ _ rfl rfl HK.out _ [] (plainElem_int Tryz.underlying3 (WalkArith.wf_i64 (by omega))) ?_; intro w1 hown1 hgrow1)
        go_roundw
        case rel => exact ⟨k + 1, by go_num, by omega, by rw [HD.out]; exact Lib.hid hown1, HB.out.grown hgrow1 HB.out.size (fun j hj => by cases hj; exact Nat.le_refl _)⟩
        case measure => simp [intOf]; omega
    · have : k = N := by omega
      subst this
      clear hN hok hs
      go_wp2_with fail
      go_ret
      exact ⟨rfl, hown.out.mono (by omega), hb⟩
end Go.Proofs.YtghbonlignmdoaaGreatDoor

namespace Go.Proofs.YtghbonlignmdoaaGreatDoor
open Go.RowKit Go.Maps Go.Shelf

def aboveE (ps : List Pf) (n : Int) : Int := if tlook ps n = 0 then (if (par ps n.toNat).isSome then 0 else 5) else tlook ps n
def aboveI (ps : List Pf) (n : Int) : Int := if aboveE ps n = 0 then nrI (par ps n.toNat) else 0
theorem tlook_ok {ps : List Pf} {n : Int} (h : tlook ps n = 0) : tchkL ps = 0 ∧ ∃ m : Nat, n = m ∧ m < ps.length := by
  unfold tlook at h
  by_cases hc : tchkL ps = 0
  · rw [if_pos hc] at h
    refine ⟨hc, ?_⟩
    by_cases hn : n < 0 ∨ (ps.length : Int) ≤ n
    · rw [if_pos hn] at h; exact absurd h (by decide)
    · exact ⟨n.toNat, by omega, by omega⟩
  · rw [if_neg hc] at h; exact absurd h hc
theorem right_all {ps : List Pf} (hok : ∀ p ∈ ps, p.Ok) (h : tchkL ps = 0) : ∀ p ∈ ps, p.R := fun p hp => by
  obtain ⟨a, b, c, d⟩ := hok p hp
  exact (right_iff _ _ _ _ a b c d).1 ((tchkL_right h).2 p hp)

set_option maxHeartbeats 8000000 in
set_option maxRecDepth 100000 in
theorem above_any (a : Option Addr) (c : Nat) (ps : List Pf) (n : Int) (w : World) (hok : ∀ p ∈ ps, p.Ok) (hc : ps.length ≤ c) (hs : Sl w a ps) :
    Calls Tryz.prog 9 #[.slice a ps.length c, .int .i64 n] w fun e w' => e = .returned (.tuple #[.int .i64 (aboveI ps n), .int .i64 (aboveE ps n)]) ∧ Below w.heap.size w w' := by
  have hC := tlook_any a c ps n w hok hs
  by_cases hr : tlook ps n = 0
  · obtain ⟨hch, m, rfl, hm⟩ := tlook_ok hr
    obtain ⟨h12, hall⟩ := tchkL_right hch
    have hR := right_all hok hch
    have hS : Hid (∀ w' : World, Below w.heap.size w w' → Calls Tryz.prog 24 #[.slice a ps.length c] w' fun e w'' => e = .returned (.map (some w'.heap.size)) ∧ w''.ownsMap Tryz.prog 3 (plainElem Tryz.prog 3) w'.heap.size 12 (Dm ps ps.length) ∧ Below w'.heap.size w' w'') :=
      fun w' hb => standing_any a c ps w' hR h12 hc (hs.below hb)
    rw [hr] at hC
    have HC := Lib.hid hC
    have hkey : keyOf Tryz.prog 3 (.int .i64 (m : Int)) = some (.int .i64 (m : Int)) := keyOf_int_mk Tryz.underlying3 (WalkArith.wf_i64 (by omega))
    have HK := Lib.hid hkey
    have e1 : aboveE ps m = if (par ps m).isSome then 0 else 5 := by rw [aboveE, if_pos hr]; rfl
    cases hq : par ps m with
    | none =>
      have e1' : aboveE ps m = 5 := by rw [e1, hq]; rfl
      have e2 : aboveI ps m = 0 := by rw [aboveI, e1']; exact if_neg (by decide)
      rw [e1', e2]
      have hh : Maps.has (Dm ps ps.length) (.int .i64 (m : Int)) = false := by
        rw [Bool.eq_false_iff]
        intro h
        obtain ⟨m', h1, _, h3⟩ := (Dm_has ps m ps.length).1 h
        obtain rfl : m = m' := by omega
        rw [hq] at h3; simp at h3
      generalize Dm ps ps.length = D at *
      generalize ps.length = N at *
      clear hkey e1 e1' e2 hq hall hok hR hs hC hr hch h12 hm hc
      go_enter Tryz.func9, Tryz.ntmps9
      go_wp2_with fail
      refine HC.out.mono ?_
      rintro e w2 ⟨rfl, hb⟩
      go_wp2_with fail
      refine (hS.out _ hb).mono ?_
      rintro e w3 ⟨rfl, hown, hb3⟩
      replace hb := Lib.hid (btr hb hb3)
      clear hb3 hS HC
      go_wp2_with (at_lookup; refine wpList_lookup_own_ok_int _ rfl _ _ 57 rfl 3 3 .i64 keyI Tryz.underlying57 Tryz.underlying3 (zeroI _) w2.heap.size 12 _ rfl hown _ _ rfl HK.out ?_; intro cc hat hwc; rw [hh])
      go_ret2
      exact ⟨rfl, hb.out⟩
    | some j =>
      have e1' : aboveE ps m = 0 := by rw [e1, hq]; rfl
      have e2 : aboveI ps m = (j : Int) := by rw [aboveI, e1', if_pos rfl, Int.toNat_natCast, hq]; rfl
      rw [e1', e2]
      have hh : Maps.has (Dm ps ps.length) (.int .i64 (m : Int)) = true := (Dm_has ps m ps.length).2 ⟨m, rfl, hm, by rw [hq]; rfl⟩
      have hat0 := Lib.hid (Dm_at ps m j hq ps.length hm)
      generalize Dm ps ps.length = D at *
      generalize ps.length = N at *
      clear hkey e1 e1' e2 hq hall hok hR hs hC hr hch h12 hm hc
      go_enter Tryz.func9, Tryz.ntmps9
      go_wp2_with fail
      refine HC.out.mono ?_
      rintro e w2 ⟨rfl, hb⟩
      go_wp2_with fail
      refine (hS.out _ hb).mono ?_
      rintro e w3 ⟨rfl, hown, hb3⟩
      replace hb := Lib.hid (btr hb hb3)
      clear hb3 hS HC
      go_wp2_with (at_lookup; refine wpList_lookup_own_ok_int _ rfl _ _ 57 rfl 3 3 .i64 keyI Tryz.underlying57 Tryz.underlying3 (zeroI _) w2.heap.size 12 _ rfl hown _ _ rfl HK.out ?_; intro cc hat hwc; rw [hh]; obtain rfl : (j : Int) = cc := (by have := hat0.out.symm.trans hat; injection this with this; injection this))
      go_ret2
      exact ⟨rfl, hb.out⟩
  · have e1 : aboveE ps n = tlook ps n := by rw [aboveE, if_neg hr]
    have e2 : aboveI ps n = 0 := by rw [aboveI, e1, if_neg hr]
    have hI : (tlook ps n != 0) = true := by rw [bne_iff_ne]; exact hr
    rw [e1, e2]
    have HC := Lib.hid hC
    generalize ps.length = N at *
    generalize tlook ps n = r at *
    clear e1 e2 hok hs hr hC hc
    go_enter Tryz.func9, Tryz.ntmps9
    go_wp2_with fail
    refine HC.out.mono ?_
    rintro e w2 ⟨rfl, hb⟩
    go_wp2
    go_ret2
    exact ⟨rfl, hb⟩

theorem infoI : (Tryz.prog.info? 3).map (fun i => (i.zero, i.size, i.bytes)) = some (some (.int .i64 0), 1, 8) := by kernel_rfl
def intsT (l : List Nat) : List Value := l.map fun k : Nat => Value.int .i64 (k : Int)
theorem intsT_len (l : List Nat) : (intsT l).length = l.length := by simp [intsT]
/-- The places below n, among the first k. -/
def lowL (ps : List Pf) (n : Nat) (k : Nat) : List Nat := (List.range k).filter fun i => par ps i == some n
theorem lowL_hit {ps : List Pf} {n k : Nat} (h : par ps k = some n) : lowL ps n (k + 1) = lowL ps n k ++ [k] := by simp [lowL, List.range_succ, h]
theorem lowL_miss {ps : List Pf} {n k : Nat} (h : par ps k ≠ some n) : lowL ps n (k + 1) = lowL ps n k := by simp [lowL, List.range_succ, h]
theorem lowL_len (ps : List Pf) (n k : Nat) : (lowL ps n k).length ≤ k := by
  have := List.length_filter_le (fun i => par ps i == some n) (List.range k)
  rw [List.length_range] at this
  exact this


set_option maxHeartbeats 8000000 in
set_option maxRecDepth 100000 in
theorem below_ok (a : Option Addr) (c : Nat) (ps : List Pf) (m : Nat) (w : World) (hok : ∀ p ∈ ps, p.Ok) (hc : ps.length ≤ c) (hs : Sl w a ps) (hr : tlook ps m = 0) :
    Calls Tryz.prog 8 #[.slice a ps.length c, .int .i64 m] w fun e w' => ∃ v, e = .returned (.tuple #[v, .int .i64 0]) ∧ w'.ownsRow w.heap.size 3 1 v (lowL ps m ps.length).length (intsT (lowL ps m ps.length)) ∧ Below w.heap.size w w' := by
  have hC := tlook_any a c ps m w hok hs
  obtain ⟨hch, m', e, hm⟩ := tlook_ok hr
  obtain rfl : m = m' := by omega
  obtain ⟨h12, hall⟩ := tchkL_right hch
  have hR := right_all hok hch
  have hS : Hid (∀ w' : World, Below w.heap.size w w' → Calls Tryz.prog 24 #[.slice a ps.length c] w' fun e w'' => e = .returned (.map (some w'.heap.size)) ∧ w''.ownsMap Tryz.prog 3 (plainElem Tryz.prog 3) w'.heap.size 12 (Dm ps ps.length) ∧ Below w'.heap.size w' w'') :=
    fun w' hb => standing_any a c ps w' hR h12 hc (hs.below hb)
  rw [hr] at hC
  have HC := Lib.hid hC
  obtain ⟨i0, hi0, hz0, hz1, hz2⟩ := info_parts infoI
  obtain ⟨N, hN⟩ : ∃ N, N = ps.length := ⟨_, rfl⟩
  have hD : Hid (∀ k : Nat, k < N → ∀ j, par ps k = some j → Maps.has (Dm ps ps.length) (.int .i64 (k : Int)) = true ∧ (Dm ps ps.length).atKey (.int .i64 (k : Int)) (.lit (.int .i64 0)) = .lit (.int .i64 (j : Int))) :=
    fun k hk j hj => ⟨(Dm_has ps k ps.length).2 ⟨k, rfl, by omega, by rw [hj]; rfl⟩, Dm_at ps k j hj ps.length (by omega)⟩
  have hE : Hid (∀ k : Nat, par ps k = none → Maps.has (Dm ps ps.length) (.int .i64 (k : Int)) = false) := fun k hk => by
    rw [Bool.eq_false_iff]
    intro h
    obtain ⟨m', h1, _, h3⟩ := (Dm_has ps k ps.length).1 h
    obtain rfl : k = m' := by omega
    rw [hk] at h3; simp at h3
  rw [← hN] at hS HC hm hc ⊢ hD hE
  generalize Dm ps N = D at *
  have hN12 : N ≤ 12 := by omega
  clear hall hok hR hs hC hr hch h12 hN e
  go_enter Tryz.func8, Tryz.ntmps8
  go_wp2_with fail
  refine HC.out.mono ?_
  rintro e w2 ⟨rfl, hb⟩
  go_wp2_with fail
  refine (hS.out _ hb).mono ?_
  rintro e w3 ⟨rfl, hown, hb3⟩
  have hmb : Hid (w2.heap.size < w3.heap.size) := hown.lt
  have Hown := Lib.hid hown
  have hb2 := Lib.hid hb.size
  replace hb := Lib.hid (btr hb hb3)
  clear hb3 hS HC hown
  go_wp2_with fail
  go_loopw [8, 22] (fun vs vi wr => ∃ k : Nat, vi = .int .i64 k ∧ k ≤ N ∧ Hid (wr.ownsRow w3.heap.size 3 1 vs (lowL ps m k).length (intsT (lowL ps m k))) ∧ Hid (wr.ownsMap Tryz.prog 3 (plainElem Tryz.prog 3) w2.heap.size 12 D) ∧ Hid (Below w.heap.size w wr) ∧ Hid (w3.heap.size ≤ wr.heap.size))
    (fun _ vi _ => N - (intOf vi).toNat)
  case atStart => exact ⟨0, rfl, Nat.zero_le _, row_nil _ _ _ _, Hown, hb, Nat.le_refl _⟩
  case round =>
    obtain ⟨k, rfl, hk, HO, HM, HB, HZ⟩ := hrel
    by_cases hkN : k < N
    · have HK := Lib.hid (keyOf_int_mk Tryz.underlying3 (WalkArith.wf_i64 (n := (k : Int)) (by omega)))
      have hk3 : (k : Int) < (N : Int) := by omega
      cases hq : par ps k with
      | none =>
        have hh := hE.out k hq
        have HS := Lib.hid (lowL_miss (ps := ps) (n := m) (k := k) (by rw [hq]; simp))
        clear hq hE hD
        go_wp2_with (at_lookup; refine wpList_lookup_own_ok_int _ rfl _ _ 57 rfl 3 3 .i64 keyI Tryz.underlying57 Tryz.underlying3 (zeroI _) w2.heap.size 12 _ rfl HM.out _ _ rfl HK.out ?_; intro cc hat hwc; rw [hh])
        go_roundw
        case rel => exact ⟨k + 1, by go_num, by omega, by rw [HS.out]; exact HO, HM, HB, HZ⟩
        case measure => simp [intOf]; omega
      | some j =>
        obtain ⟨hh, hat0⟩ := hD.out k hkN j hq
        replace hat0 := Lib.hid hat0
        by_cases hj : j = m
        · subst hj
          have HS := Lib.hid (lowL_hit hq)
          have HL := Lib.hid (lowL_len ps j k)
          have hjj : ((j : Int) == (j : Int)) = true := by simp
          clear hq hE hD
          go_wp2_with (first
            | (at_lookup; refine wpList_lookup_own_ok_int _ rfl _ _ 57 rfl 3 3 .i64 keyI Tryz.underlying57 Tryz.underlying3 (zeroI _) w2.heap.size 12 _ rfl HM.out _ _ rfl HK.out ?_; intro cc hat hwc; rw [hh]; obtain rfl : (j : Int) = cc := (by have := hat0.out.symm.trans hat; injection this with this; injection this))
            | (at_builtin; refine wpList_append_own _ rfl _ _ 29 rfl w3.heap.size 3 i0 (.int .i64 0) 1 8 Tryz.underlying29 hi0 hz0 hz1 hz2 rfl (by decide) _ _ _ rfl (HO.out.alloc _) ⟨wr.heap.size, 0, none⟩ 1 1 [.int .i64 (k : Int)] rfl rfl ?c1 ?c2 ?c3 ?c4 ?c5 ?_))
          case c1 =>
            intro j u hj
            match j, hj with
            | 0, hj => simp at hj; subst hj; simp [Addr.add]
          case c2 => intro u hu; simp at hu; subst hu; rfl
          case c3 => have := HL.out; unfold maxLen; omega
          case c4 => have := HL.out; omega
          case c5 => have := HZ.out; simp; omega
          intro v' w4 hown' hgrow _
          have hZ := HZ.out
          have hS2 := hb2.out
          have hS3 := hmb.out
          have HB4 : Hid (Below w.heap.size w w4) := (bal HB.out _).grown hgrow (by simp; omega) (fun k hk => Nat.le_trans (by omega) (HO.out.lt k hk).1)
          have HM4 : Hid (w4.ownsMap Tryz.prog 3 (plainElem Tryz.prog 3) w2.heap.size 12 D) := (HM.out.alloc _).kept hgrow (fun h => by have := (HO.out.lt _ h.symm).1; omega)
          have HZ4 : Hid (w3.heap.size ≤ w4.heap.size) := Nat.le_trans (by simp; omega) hgrow.size
          have HO4 : Hid (w4.ownsRow w3.heap.size 3 1 v' (lowL ps j (k + 1)).length (intsT (lowL ps j (k + 1)))) := by
            rw [HS.out, List.length_append, intsT, List.map_append]; exact hown'
          clear hown' hgrow HO HM HB hZ hS2 hS3
          go_wp2
          go_roundw
          case rel => exact ⟨k + 1, by go_num, by omega, HO4, HM4, HB4, HZ4⟩
          case measure => simp [intOf]; omega
        · have HS := Lib.hid (lowL_miss (ps := ps) (n := m) (k := k) (by rw [hq]; simpa using hj))
          have hjj : ((j : Int) == (m : Int)) = false := by rw [beq_eq_false_iff_ne]; omega
          clear hq hE hD
          go_wp2_with (at_lookup; refine wpList_lookup_own_ok_int _ rfl _ _ 57 rfl 3 3 .i64 keyI Tryz.underlying57 Tryz.underlying3 (zeroI _) w2.heap.size 12 _ rfl HM.out _ _ rfl HK.out ?_; intro cc hat hwc; rw [hh]; obtain rfl : (j : Int) = cc := (by have := hat0.out.symm.trans hat; injection this with this; injection this))
          go_roundw
          case rel => exact ⟨k + 1, by go_num, by omega, by rw [HS.out]; exact HO, HM, HB, HZ⟩
          case measure => simp [intOf]; omega
    · have : k = N := by omega
      subst this
      have hsz := hb2.out
      have hmb' := hmb.out
      go_wp2_with fail
      go_ret2
      exact ⟨_, rfl, row_base HO.out (by omega), HB.out⟩

theorem below_bad (a : Option Addr) (c : Nat) (ps : List Pf) (n : Int) (w : World) (hok : ∀ p ∈ ps, p.Ok) (hs : Sl w a ps) (hr : tlook ps n ≠ 0) :
    Calls Tryz.prog 8 #[.slice a ps.length c, .int .i64 n] w fun e w' => e = .returned (.tuple #[.slice none 0 0, .int .i64 (tlook ps n)]) ∧ Below w.heap.size w w' := by
  have hC := tlook_any a c ps n w hok hs
  have hI : (tlook ps n != 0) = true := by rw [bne_iff_ne]; exact hr
  have HC := Lib.hid hC
  generalize ps.length = N at *
  generalize tlook ps n = r at *
  clear hok hs hr hC
  go_enter Tryz.func8, Tryz.ntmps8
  go_wp2_with fail
  refine HC.out.mono ?_
  rintro e w2 ⟨rfl, hb⟩
  go_wp2
  go_ret2
  exact ⟨rfl, hb⟩
end Go.Proofs.YtghbonlignmdoaaGreatDoor

namespace Go.Proofs.YtghbonlignmdoaaGreatDoor
open Go.RowKit

def rts : List Pf := [⟨false, 0, 0, 0⟩, ⟨false, 0, 167772160, 8⟩, ⟨false, 0, 167837696, 16⟩]
theorem rts_ok : ∀ p ∈ rts, p.Ok := by
  intro p hp
  simp [rts] at hp
  rcases hp with rfl | rfl | rfl <;> exact ⟨by decide, by decide, by decide, by decide⟩
theorem rts_chk : tchkL rts = 0 := by decide +kernel
theorem rts_find : findI rts false 0 167838211 = 2 ∧ findE rts false 0 167838211 = 0 := by decide +kernel
theorem rts_above : aboveI rts 2 = 1 ∧ aboveE rts 2 = 0 := by decide +kernel
theorem rts_below : lowL rts 0 3 = [1] ∧ tlook rts 0 = 0 := by decide +kernel

theorem routes_any (w : World) : Calls Tryz.prog 13 #[] w fun e w' => ∃ g, e = .returned (.slice (some ⟨g, 0, none⟩) 3 3) ∧ Sl w' (some ⟨g, 0, none⟩) rts ∧ Below w.heap.size w w' := by
  have hN : Hid (∀ (n b : Int) (w : World), Calls Tryz.prog 16 #[.int .u64 n, .int .i64 b] w fun e w' => e = .returned (.agg #[.bool false, .int .u64 0, .int .u64 n, .int .i64 b]) ∧ Below w.heap.size w w') := net_any
  go_enter Tryz.func13, Tryz.ntmps13
  go_wp2_with fail
  refine (hN.out _ _ _).mono ?_
  rintro e w1 ⟨rfl, b1⟩
  go_wp2_with fail
  refine (hN.out _ _ _).mono ?_
  rintro e w2 ⟨rfl, b2⟩
  go_wp2_with fail
  refine (hN.out _ _ _).mono ?_
  rintro e w3 ⟨rfl, b3⟩
  have HB := Lib.hid (btr (btr b1 b2) b3)
  clear b1 b2 b3
  go_wp2
  go_ret
  refine ⟨_, rfl, ?_, bal HB.out _⟩
  intro j hj
  refine ⟨_, _, rfl, by simp, ?_⟩
  have : j = 0 ∨ j = 1 ∨ j = 2 := by simp [rts] at hj; omega
  rcases this with rfl | rfl | rfl
  · simp [rts, go_sem]
  · simp [rts, go_sem]
  · simp [rts, go_sem]

set_option maxHeartbeats 8000000 in
set_option maxRecDepth 100000 in
theorem tbegun_any (w : World) : Calls Tryz.prog 5 #[] w fun e w' => e = .returned (.bool true) ∧ Below w.heap.size w w' := by
  have hR : Hid (∀ w : World, Calls Tryz.prog 13 #[] w fun e w' => ∃ g, e = .returned (.slice (some ⟨g, 0, none⟩) 3 3) ∧ Sl w' (some ⟨g, 0, none⟩) rts ∧ Below w.heap.size w w') := routes_any
  have hV : Hid (∀ w : World, Calls Tryz.prog 14 #[.int .u64 167838211] w fun e w' => e = .returned (.agg #[.bool false, .int .u64 0, .int .u64 167838211]) ∧ ∃ c, w' = w.alloc (.cells c 25)) := v4_any 167838211
  have hF : Hid (∀ (g : Nat) (w : World), Sl w (some ⟨g, 0, none⟩) rts → Calls Tryz.prog 11 #[.slice (some ⟨g, 0, none⟩) 3 3, .agg #[.bool false, .int .u64 0, .int .u64 167838211]] w fun e w' => e = .returned (.tuple #[.int .i64 2, .int .i64 0]) ∧ Below w.heap.size w w') := fun g w h => by
    have := find_any (some ⟨g, 0, none⟩) 3 rts false 0 167838211 w rts_ok h (by decide) (by decide)
    rw [rts_find.1, rts_find.2] at this
    exact this
  have hA : Hid (∀ (g : Nat) (w : World), Sl w (some ⟨g, 0, none⟩) rts → Calls Tryz.prog 9 #[.slice (some ⟨g, 0, none⟩) 3 3, .int .i64 2] w fun e w' => e = .returned (.tuple #[.int .i64 1, .int .i64 0]) ∧ Below w.heap.size w w') := fun g w h => by
    have := above_any (some ⟨g, 0, none⟩) 3 rts 2 w rts_ok (by decide) h
    rw [rts_above.1, rts_above.2] at this
    exact this
  have hL : Hid (∀ (g : Nat) (w : World), Sl w (some ⟨g, 0, none⟩) rts → Calls Tryz.prog 8 #[.slice (some ⟨g, 0, none⟩) 3 3, .int .i64 0] w fun e w' => ∃ g' c', e = .returned (.tuple #[.slice (some ⟨g', 0, none⟩) 1 c', .int .i64 0]) ∧ (w'.cell? ⟨g', 0, none⟩ = some (.int .i64 1) ∧ g' < w'.heap.size) ∧ Below w.heap.size w w') := fun g w h => by
    have := below_ok (some ⟨g, 0, none⟩) 3 rts 0 w rts_ok (by decide) h rts_below.2
    refine this.mono ?_
    rintro e w' ⟨v, rfl, hown, hb⟩
    rw [show rts.length = 3 from rfl, rts_below.1] at hown
    obtain ⟨h1, h2⟩ := hown
    rcases h2 with ⟨_, h2⟩ | ⟨g', c', cur, rfl, _, hc, h3, h4, h5, h6⟩
    · simp at h2
    · refine ⟨g', c', rfl, ⟨?_, (Array.getElem?_eq_some_iff.1 hc).1⟩, hb⟩
      have hj2 : (cur.toList.take ([1].length * 1))[0]? = (intsT [1])[0]? := by rw [h6]
      rw [List.getElem?_take_of_lt (by simp)] at hj2
      simp [World.cell?, hc]
      simpa [intsT] using hj2
  have hC : Hid (∀ (g : Nat) (w : World), Sl w (some ⟨g, 0, none⟩) rts → Calls Tryz.prog 7 #[.slice (some ⟨g, 0, none⟩) 3 3] w fun e w' => e = .returned (.int .i64 0) ∧ Below w.heap.size w w') := fun g w h => by
    have := tcheck_any (some ⟨g, 0, none⟩) 3 rts w rts_ok h
    rw [rts_chk] at this
    exact this
  go_enter Tryz.func5, Tryz.ntmps5
  go_wp2_with fail
  refine (hR.out _).mono ?_
  rintro e w1 ⟨g1, rfl, s1, b1⟩
  go_wp2_with fail
  refine (hV.out _).mono ?_
  rintro e w2 ⟨rfl, cc, rfl⟩
  replace s1 := s1.below (bal (Below.refl _ _) (.cells cc 25))
  replace b1 := bal b1 (.cells cc 25)
  generalize w1.alloc (.cells cc 25) = w2 at *
  go_wp2_with fail
  refine (hF.out _ _ s1).mono ?_
  rintro e w3 ⟨rfl, b3⟩
  have HB := Lib.hid (btr b1 b3)
  clear b1 b3 s1
  go_wp2_with fail
  refine (hR.out _).mono ?_
  rintro e w4 ⟨g4, rfl, s4, b4⟩
  go_wp2_with fail
  refine (hA.out _ _ s4).mono ?_
  rintro e w5 ⟨rfl, b5⟩
  replace HB := Lib.hid (btr (btr HB.out b4) b5)
  clear b4 b5 s4
  go_wp2_with fail
  refine (hR.out _).mono ?_
  rintro e w6 ⟨g6, rfl, s6, b6⟩
  go_wp2_with fail
  refine (hL.out _ _ s6).mono ?_
  rintro e w7 ⟨g7, c7, rfl, r7, b7⟩
  replace HB := Lib.hid (btr (btr HB.out b6) b7)
  have HR := Lib.hid r7
  clear b6 b7 s6 r7
  go_wp2_with fail
  refine (hR.out _).mono ?_
  rintro e w8 ⟨g8, rfl, s8, b8⟩
  replace HB := Lib.hid (btr HB.out b8)
  obtain ⟨k1, k2⟩ := HR.out
  rw [← (bcell b8).1 _ _ k2] at k1
  have k3 := Nat.lt_of_lt_of_le k2 b8.size
  clear b8 HR k2
  go_wp2_with fail
  refine (hC.out _ _ s8).mono ?_
  rintro e w9 ⟨rfl, b9⟩
  replace HB := Lib.hid (btr HB.out b9)
  rw [← (bcell b9).1 _ _ k3] at k1
  clear b9 s8 k3
  go_wp2
  go_ret
  exact ⟨rfl, HB.out⟩
end Go.Proofs.YtghbonlignmdoaaGreatDoor

namespace Go.Proofs.YtghbonlignmdoaaGreatDoor
open Go.RowKit


theorem folE_zero {c : Int} (h : folE c = 0) : c < 0 := by
  unfold folE at h
  split at h
  · exact absurd h (by decide)
  · split at h
    · exact absurd h (by decide)
    · omega
theorem rise_from : ∀ (ps : List Pf) (q : Pf), (∀ p ∈ ps, p.R) → q.R → tchk (some q) ps = 0 → ps.Pairwise (fun p q => p.cmp q < 0) ∧ ∀ p ∈ ps, q.cmp p < 0
  | [], q, _, _, _ => ⟨.nil, by simp⟩
  | p :: r, q, hR, hq, h => by
    rw [tchk_some] at h
    by_cases hp : p.chk = 0
    · rw [if_pos hp] at h
      by_cases hf : folE (q.cmp p) = 0
      · rw [if_pos hf] at h
        have hpr := hR p (by simp)
        obtain ⟨h1, h2⟩ := rise_from r p (fun x hx => hR x (by simp [hx])) hpr h
        have hqp := folE_zero hf
        refine ⟨List.pairwise_cons.2 ⟨h2, h1⟩, fun x hx => ?_⟩
        rcases List.mem_cons.1 hx with rfl | hx
        · exact hqp
        · exact cmp_trans hq hpr (hR x (by simp [hx])) hqp (h2 x hx)
      · rw [if_neg hf] at h; exact absurd h hf
    · rw [if_neg hp] at h; exact absurd h hp
theorem rise_all {ps : List Pf} (hR : ∀ p ∈ ps, p.R) (h : tchkL ps = 0) : ps.Pairwise (fun p q => p.cmp q < 0) := by
  unfold tchkL at h
  split at h
  · exact absurd h (by decide)
  · cases ps with
    | nil => exact .nil
    | cons p r =>
      rw [tchk_none] at h
      split at h
      · obtain ⟨h1, h2⟩ := rise_from r p (fun x hx => hR x (by simp [hx])) (hR p (by simp)) h
        exact List.pairwise_cons.2 ⟨h2, h1⟩
      · rename_i hp; exact absurd h hp
theorem rise_lt {ps : List Pf} (h : ps.Pairwise (fun p q => p.cmp q < 0)) {i j : Nat} (hj : j < ps.length) (hij : i < j) : (ps[i]'(by omega)).cmp ps[j] < 0 :=
  List.pairwise_iff_getElem.1 h i j (by omega) hj hij

/-- Of two that have a third one the one ahead has fewer bits. -/
theorem has_order {p q s : Pf} (r1 : p.R) (r2 : q.R) (r3 : s.R) (h1 : p.has s = true) (h2 : q.has s = true) (h : p.cmp q < 0) : p.b < q.b := by
  rw [has_iff r1 r3] at h1
  rw [has_iff r2 r3] at h2
  rw [cmp_neg r1 r2] at h
  obtain ⟨a1, a2, a3, a4⟩ := h1
  obtain ⟨b1, b2, b3, b4⟩ := h2
  have hv : p.v = q.v := a2.symm.trans b2
  rcases h with ⟨c, d⟩ | ⟨_, c⟩
  · rw [c, d] at hv; exact absurd hv (by decide)
  · rcases Int.lt_or_le p.b q.b with h | h
    · exact h
    · exfalso
      have r1' : Right q.v p.hi p.lo p.b := by have := r1; rw [Pf.R, hv] at this; exact this
      obtain ⟨g1, _⟩ := side r2 r1' h
      rw [hv] at a4
      unfold Pf.n at *
      omega
/-- What rises ahead is not had. -/
theorem has_back {p q : Pf} (r1 : p.R) (r2 : q.R) (h : p.cmp q < 0) : q.has p = false := by
  rw [Bool.eq_false_iff]
  intro hh
  rw [has_iff r2 r1] at hh
  rw [cmp_neg r1 r2] at h
  obtain ⟨a1, a2, a3, a4⟩ := hh
  rcases h with ⟨c, d⟩ | ⟨_, c⟩
  · rw [c, d] at a2; exact absurd a2 (by decide)
  · omega

theorem lastI_none {α : Type} {p : α → Bool} : ∀ {l : List α}, lastI p l = none ↔ ∀ x ∈ l, p x = false
  | [] => by simp [lastI]
  | x :: r => by
    have ih := lastI_none (p := p) (l := r)
    rw [lastI]
    cases hr : lastI p r with
    | some i =>
      simp only [reduceCtorEq, false_iff]
      intro h
      have : lastI p r = none := ih.2 fun y hy => h y (by simp [hy])
      rw [hr] at this; simp at this
    | none =>
      have h2 := ih.1 hr
      cases hx : p x
      · simp only [Bool.false_eq_true, if_false, true_iff]
        intro y hy
        rcases List.mem_cons.1 hy with rfl | hy
        · exact hx
        · exact h2 y hy
      · simp only [if_true, reduceCtorEq, false_iff]
        intro h
        have := h x (by simp)
        rw [hx] at this; exact absurd this (by decide)
theorem lastI_some {α : Type} {p : α → Bool} : ∀ {l : List α} {i : Nat}, lastI p l = some i → ∃ h : i < l.length, p l[i] = true ∧ ∀ j (hj : j < l.length), i < j → p l[j] = false
  | [], i, h => by simp [lastI] at h
  | x :: r, i, h => by
    rw [lastI] at h
    cases hr : lastI p r with
    | some k =>
      rw [hr] at h
      obtain ⟨h1, h2, h3⟩ := lastI_some hr
      simp only [Option.some.injEq] at h
      subst h
      refine ⟨by simp; omega, by simpa using h2, fun j hj hij => ?_⟩
      cases j with
      | zero => omega
      | succ j => simpa using h3 j (by simpa using hj) (by omega)
    | none =>
      rw [hr] at h
      have h2 := lastI_none.1 hr
      cases hx : p x
      · rw [hx] at h; simp at h
      · rw [hx] at h
        simp only [if_true, Option.some.injEq] at h
        subst h
        refine ⟨by simp, by simpa using hx, fun j hj hij => ?_⟩
        cases j with
        | zero => omega
        | succ j => simpa using h2 _ (List.getElem_mem (by simpa using hj))
def nrM (o : Option Nat) : Int := match o with | none => -1 | some i => (i : Int)
end Go.Proofs.YtghbonlignmdoaaGreatDoor

namespace Go.Proofs.YtghbonlignmdoaaGreatDoor
open Go.RowKit

theorem folE_neg {c : Int} (h : c < 0) : folE c = 0 := by
  unfold folE
  rw [if_neg (by omega), if_neg (by omega)]
theorem tchk_of : ∀ (ps : List Pf) (q : Pf), (∀ p ∈ ps, p.chk = 0) → ps.Pairwise (fun p q => p.cmp q < 0) → (∀ p ∈ ps, q.cmp p < 0) → tchk (some q) ps = 0
  | [], q, _, _, _ => rfl
  | p :: r, q, hc, hp, hq => by
    rw [tchk_some, if_pos (hc p (by simp)), if_pos (folE_neg (hq p (by simp)))]
    obtain ⟨h1, h2⟩ := List.pairwise_cons.1 hp
    exact tchk_of r p (fun x hx => hc x (by simp [hx])) h2 h1
theorem tchkL_of {ps : List Pf} (hl : ps.length ≤ 12) (hc : ∀ p ∈ ps, p.chk = 0) (hp : ps.Pairwise (fun p q => p.cmp q < 0)) : tchkL ps = 0 := by
  rw [tchkL, if_neg (by omega)]
  cases ps with
  | nil => rfl
  | cons p r =>
    obtain ⟨h1, h2⟩ := List.pairwise_cons.1 hp
    rw [tchk_none, if_pos (hc p (by simp))]
    exact tchk_of r p (fun x hx => hc x (by simp [hx])) h2 h1

/-- A list without its place n. -/
def lessL' (ps : List Pf) (n : Nat) : List Pf := ps.take n ++ ps.drop (n + 1)
theorem lessL'_len {ps : List Pf} {n : Nat} (h : n < ps.length) : (lessL' ps n).length = ps.length - 1 := by
  rw [lessL', List.length_append, List.length_take, List.length_drop]; omega
theorem lessL'_sub (ps : List Pf) (n : Nat) : (lessL' ps n).Sublist ps := by
  have h := List.Sublist.append (List.Sublist.refl (ps.take n)) (List.drop_sublist 1 (ps.drop n))
  rw [List.drop_drop, List.take_append_drop] at h
  exact h
theorem lessL'_tab {ps : List Pf} {n : Nat} (hn : n < ps.length) (hR : ∀ p ∈ ps, p.R) (h : tchkL ps = 0) : tchkL (lessL' ps n) = 0 := by
  obtain ⟨h1, h2⟩ := tchkL_right h
  exact tchkL_of (by rw [lessL'_len hn]; omega) (fun p hp => h2 p ((lessL'_sub ps n).subset hp)) ((rise_all hR h).sublist (lessL'_sub ps n))

theorem lastI_congr' {α : Type} {p q : α → Bool} : ∀ {l : List α}, (∀ x ∈ l, p x = q x) → lastI p l = lastI q l
  | [], _ => rfl
  | x :: r, h => by rw [lastI, lastI, lastI_congr' (fun y hy => h y (by simp [hy])), h x (by simp)]
theorem lastI_append {α : Type} (p : α → Bool) (r : List α) : ∀ l : List α, lastI p (l ++ r) = match lastI p r with | some i => some (l.length + i) | none => lastI p l
  | [] => by cases h : lastI p r <;> simp [h, lastI]
  | x :: l => by
    rw [List.cons_append, lastI, lastI_append p r l]
    cases h : lastI p r with
    | some i => simp; omega
    | none => rw [lastI]
theorem less_find (p : Pf → Bool) {ps : List Pf} {n : Nat} (hn : n < ps.length) :
    (lastI p ps = none → lastI p (lessL' ps n) = none) ∧
    (∀ i, lastI p ps = some i → i ≠ n → ∃ k, lastI p (lessL' ps n) = some k ∧ (lessL' ps n)[k]? = ps[i]?) ∧
    (lastI p ps = some n → lastI p (lessL' ps n) = lastI p (ps.take n)) := by
  have e : ps = ps.take n ++ ps[n] :: ps.drop (n + 1) := by rw [← List.drop_eq_getElem_cons hn, List.take_append_drop]
  have hlen : (ps.take n).length = n := List.length_take_of_le (by omega)
  have h1 : lastI p ps = match lastI p (ps[n] :: ps.drop (n + 1)) with | some i => some (n + i) | none => lastI p (ps.take n) := by
    conv => lhs; rw [e]
    rw [lastI_append, hlen]
  have h2 : lastI p (lessL' ps n) = match lastI p (ps.drop (n + 1)) with | some i => some (n + i) | none => lastI p (ps.take n) := by
    rw [lessL', lastI_append, hlen]
  rw [lastI] at h1
  refine ⟨fun h => lastI_none.2 fun x hx => lastI_none.1 h x ((lessL'_sub ps n).subset hx), ?_, ?_⟩
  · intro i hi hne
    cases hB : lastI p (ps.drop (n + 1)) with
    | some j =>
      rw [hB] at h1 h2
      simp only at h1 h2
      rw [hi] at h1
      injection h1 with h1
      refine ⟨n + j, h2, ?_⟩
      rw [lessL', List.getElem?_append_right (by omega), hlen, List.getElem?_drop, h1]
      congr 1
      omega
    | none =>
      rw [hB] at h1 h2
      simp only at h1 h2
      cases hx : p ps[n] with
      | true =>
        rw [hx] at h1
        simp only [if_true] at h1
        rw [hi] at h1
        injection h1 with h1
        exact absurd h1 (by omega)
      | false =>
        rw [hx] at h1
        simp only [Bool.false_eq_true, if_false] at h1
        rw [hi] at h1
        obtain ⟨hlt, _⟩ := lastI_some h1.symm
        refine ⟨i, by rw [h2]; exact h1.symm, ?_⟩
        rw [lessL', List.getElem?_append_left hlt, List.getElem?_take_of_lt (by omega)]
  · intro hi
    cases hB : lastI p (ps.drop (n + 1)) with
    | some j =>
      rw [hB] at h1
      simp only at h1
      rw [hi] at h1
      injection h1 with h1
      exact absurd h1 (by omega)
    | none => rw [h2, hB]

theorem has_has {p q s : Pf} (r1 : p.R) (r2 : q.R) (r3 : s.R) (h1 : p.has s = true) (h2 : q.has s = true) (h : p.cmp q < 0) : p.has q = true := by
  have hb := has_order r1 r2 r3 h1 h2 h
  rw [has_iff r1 r3] at h1
  rw [has_iff r2 r3] at h2
  obtain ⟨a1, a2, a3, a4⟩ := h1
  obtain ⟨b1, b2, b3, b4⟩ := h2
  have hv : q.v = p.v := b2.symm.trans a2
  rw [cmp_neg r1 r2] at h
  rw [has_iff r1 r2]
  refine ⟨by omega, hv, ?_, by omega⟩
  rcases h with ⟨c, d⟩ | ⟨_, c⟩
  · rw [c, d] at hv; exact absurd hv (by decide)
  · omega
theorem has_tr {p q s : Pf} (r1 : p.R) (r2 : q.R) (r3 : s.R) (h1 : p.has q = true) (h2 : q.has s = true) : p.has s = true := has_trans r1 r2 r3 h1 h2
/-- Ahead of the nearest one those that have the address are those that have it. -/
theorem below_same {ps : List Pf} (hR : ∀ p ∈ ps, p.R) (pw : ps.Pairwise (fun p q => p.cmp q < 0)) {s : Pf} (hs : s.R) {n : Nat} (hn : n < ps.length) (hh : (ps[n]).has s = true) :
    lastI (fun p => p.has s) (ps.take n) = par ps n := by
  rw [par, List.getElem?_eq_getElem hn]
  apply lastI_congr'
  intro q hq
  obtain ⟨j, hj, rfl⟩ := List.mem_take_iff_getElem.1 hq
  have hjn : j < n := by omega
  have rj := hR ps[j] (List.getElem_mem (by omega))
  have rn := hR ps[n] (List.getElem_mem hn)
  rw [Bool.eq_iff_iff]
  exact ⟨fun h => has_has rj rn hs h hh (rise_lt pw hn hjn), fun h => has_tr rj rn hs h hh⟩
end Go.Proofs.YtghbonlignmdoaaGreatDoor
