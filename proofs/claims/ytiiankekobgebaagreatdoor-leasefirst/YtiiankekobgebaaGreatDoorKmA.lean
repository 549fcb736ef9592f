/- Lists and rows; names; the document's bits. -/
import Derived.Test.YtiiankekobgebaaGreatDoorPfQ
import Derived.Test.YtiiankekobgebaaGreatDoorH3
import Derived.OwnWalk
import Derived.Deep.AppendLies
import Derived.Laws.CopyOwn
import Derived.Test.YtiiankekobgebaaGreatDoorPfN
import Derived.Test.YtiiankekobgebaaGreatDoorRd1
import Derived.Test.YtiiankekobgebaaGreatDoorFmt16
import Derived.Lib.SmallJoins
import Derived.Lib.Strings
import Derived.Lib.Walk
import Derived.Lib.Hide
import Derived.BigCall
import Derived.BigGuard
import Derived.BigRegion
import Derived.Laws.AppendOwnNone
import Derived.Lib.AppendZeros
import Derived.Laws.Strings3
import Derived.Laws.Closers25
import Derived.Laws.Closers25b
import Derived.Lib.ConvBytes
import Derived.Lib.LaidTab
import Derived.Lib.ItoaMem
set_option linter.unusedVariables false
set_option linter.unusedSimpArgs false
namespace Go.Proofs.YtiiankekobgebaaGreatDoor

theorem amt_half {v : Bool} {b : Int} (b0 : 0 ≤ b) (h : b < wid v) : amt v b = amt v (b + 1) * 2 := by
  unfold amt
  rw [show (wid v - b).toNat = (wid v - (b + 1)).toNat + 1 by omega, Int.pow_succ]
theorem right_low {v : Bool} {hi lo b : Int} (r : Right v hi lo b) (h : b < wid v) : Right v hi lo (b + 1) :=
  ⟨r.c, by have := r.b0; omega, by omega, r.h0, r.h1, r.l0, r.l1, mod_of (m := 2) (by rw [← amt_half r.b0 h]; exact r.al)⟩
/-- The greater half: its first address, and that it is right. -/
theorem great_num {v : Bool} {hi lo b : Int} (r : Right v hi lo b) (h : b < wid v) :
    num (fsH v (laH v hi b) (b + 1)) (fsL v (laL v lo b) (b + 1)) = num hi lo + amt v (b + 1) ∧ Right v (fsH v (laH v hi b) (b + 1)) (fsL v (laL v lo b) (b + 1)) (b + 1) := by
  obtain ⟨n1, c1, i1, l1⟩ := la_num r
  have b0 := r.b0
  have e := fs_num v (laH v hi b) (laL v lo b) (b + 1) c1 (by omega) (by omega) i1.1 i1.2 l1.1 l1.2
  have ap := amt_pos v (b + 1)
  have ah := amt_half b0 h
  have al := (right_low r h).al
  have hm : num (laH v hi b) (laL v lo b) % amt v (b + 1) = amt v (b + 1) - 1 := by
    rw [n1, ah]
    obtain ⟨k, hk⟩ := Int.dvd_of_emod_eq_zero al
    rw [hk, show amt v (b + 1) * k + amt v (b + 1) * 2 - 1 = (amt v (b + 1) - 1) + amt v (b + 1) * (k + 1) by rw [Int.mul_add]; omega, Int.add_mul_emod_self_left]
    exact Int.emod_eq_of_lt (by omega) (by omega)
  have e2 : num (fsH v (laH v hi b) (b + 1)) (fsL v (laL v lo b) (b + 1)) = num hi lo + amt v (b + 1) := by rw [e, hm, n1, ah]; omega
  have r1 : 0 ≤ fsH v (laH v hi b) (b + 1) ∧ fsH v (laH v hi b) (b + 1) < 18446744073709551616 := cut_rng _ i1.1 i1.2
  have r2 : 0 ≤ fsL v (laL v lo b) (b + 1) ∧ fsL v (laL v lo b) (b + 1) < 18446744073709551616 := cut_rng _ l1.1 l1.2
  have nt := num_top c1 i1.1 i1.2 l1.1 l1.2
  refine ⟨e2, chk_top r1.1 r2.1 (by rw [e2]; rw [n1, ah] at nt; omega), by omega, by omega, r1.1, r1.2, r2.1, r2.2, ?_⟩
  rw [e2]
  exact mod_add al (by have := Int.mul_emod_right (amt v (b + 1)) 1; rwa [Int.mul_one] at this)
end Go.Proofs.YtiiankekobgebaaGreatDoor

namespace Go.Proofs.YtiiankekobgebaaGreatDoor
open Go.RowKit

theorem oless_any (v u : Bool) (xh xl yh yl : Int) (w : World) (h0 : 0 ≤ xh) (h1 : 0 ≤ xl) (h2 : 0 ≤ yh) (h3 : 0 ≤ yl) :
    Calls Tryz.prog 42 #[.agg #[.bool v, .int .u64 xh, .int .u64 xl], .agg #[.bool u, .int .u64 yh, .int .u64 yl]] w fun e w' =>
      e = .returned (.bool (lessB v xh xl u yh yl)) ∧ Below w.heap.size w w' := by
  have hL : Hid (∀ w : World, Calls Tryz.prog 36 #[.agg #[.bool v, .int .u64 xh, .int .u64 xl], .agg #[.bool u, .int .u64 yh, .int .u64 yl]] w fun e w' =>
      e = .returned (.tuple #[.bool (lessB v xh xl u yh yl), .int .i64 (lessE v xh xl u yh yl)]) ∧ Below w.heap.size w w') := fun w => less_any v u xh xl yh yl w h0 h1 h2 h3
  generalize lessB v xh xl u yh yl = r at *
  generalize lessE v xh xl u yh yl = r' at *
  clear h0 h1 h2 h3
  go_enter Tryz.func42, Tryz.ntmps42
  go_wp2_with fail
  refine (hL.out _).mono ?_
  rintro e w2 ⟨rfl, hb⟩
  go_wp2
  go_ret
  exact ⟨rfl, btr (bal (bal (Below.refl _ _) _) _) hb⟩

def cmpN (x y : Int) : Int := if x < y then -1 else if y < x then 1 else 0

/-- Which of two prefixes rises ahead of the other one? -/
def cmpP (v : Bool) (hi lo b : Int) (u : Bool) (yi yo c : Int) : Int := if lessB v hi lo u yi yo = true then -1 else if lessB u yi yo v hi lo = true then 1 else cmpN b c

/-- Has a prefix an address (both right)? -/
def inB (v : Bool) (xh xl : Int) (u : Bool) (hi lo b : Int) : Bool := !(lessB v xh xl u hi lo) && !(lessB u (laH u hi b) (laL u lo b) v xh xl)

set_option maxHeartbeats 8000000 in
set_option maxRecDepth 100000 in
theorem within_any (v : Bool) (xh xl : Int) (u : Bool) (hi lo b : Int) (w : World) (h0 : 0 ≤ xh) (h1 : 0 ≤ xl) (i0 : 0 ≤ hi) (i1 : hi < 18446744073709551616) (i2 : 0 ≤ lo) (i3 : lo < 18446744073709551616) (c0 : pchk u hi lo b = 0) :
    Calls Tryz.prog 31 #[.agg #[.bool v, .int .u64 xh, .int .u64 xl], .agg #[.bool u, .int .u64 hi, .int .u64 lo, .int .i64 b]] w fun e w' =>
      e = .returned (.bool (inB v xh xl u hi lo b)) ∧ Below w.heap.size w w' := by
  have hE : Hid (∀ w : World, Calls Tryz.prog 22 #[.agg #[.bool u, .int .u64 hi, .int .u64 lo, .int .i64 b]] w fun e w' => e = .returned (.tuple #[.agg #[.bool u, .int .u64 hi, .int .u64 lo], .agg #[.bool u, .int .u64 (laH u hi b), .int .u64 (laL u lo b)], .int .i64 0]) ∧ Below w.heap.size w w') := fun w => ends_ok u hi lo b w i0 i1 i2 i3 c0
  have hL : Hid (∀ (v u : Bool) (xh xl yh yl : Int) (w : World), (0 ≤ xh ∧ 0 ≤ xl) ∧ 0 ≤ yh ∧ 0 ≤ yl → Calls Tryz.prog 42 #[.agg #[.bool v, .int .u64 xh, .int .u64 xl], .agg #[.bool u, .int .u64 yh, .int .u64 yl]] w fun e w' =>
      e = .returned (.bool (lessB v xh xl u yh yl)) ∧ Below w.heap.size w w') := fun v u xh xl yh yl w h => oless_any v u xh xl yh yl w h.1.1 h.1.2 h.2.1 h.2.2
  have A1 : Hid (0 ≤ laH u hi b) := (laH_lt i0 i1).1
  have A2 : Hid (0 ≤ laL u lo b) := (laL_lt i2 i3).1
  have A3 : Hid (0 ≤ xh ∧ 0 ≤ xl) := ⟨h0, h1⟩
  have A4 : Hid (0 ≤ hi ∧ 0 ≤ lo) := ⟨i0, i2⟩
  unfold inB
  generalize laH u hi b = r1 at *
  generalize laL u lo b = r2 at *
  have A5 : Hid (0 ≤ r1 ∧ 0 ≤ r2) := ⟨A1.out, A2.out⟩
  clear h0 h1 i0 i1 i2 i3 A1 A2 c0
  have P0 := (Has3.new w (.bool v) (.int .u64 xh) (.int .u64 xl) 24).alloc (.cells #[.bool u, .int .u64 hi, .int .u64 lo, .int .i64 b] 26)
  have B1 : Below w.heap.size w ((w.alloc (.cells #[.bool v, .int .u64 xh, .int .u64 xl] 24)).alloc (.cells #[.bool u, .int .u64 hi, .int .u64 lo, .int .i64 b] 26)) := bal (bal (Below.refl _ _) _) _
  have HP := Lib.hid P0
  have HB := Lib.hid B1
  clear P0 B1
  cases hx : lessB v xh xl u hi lo
  all_goals
    go_enter Tryz.func31, Tryz.ntmps31
    go_wp2_with fail
    refine (hE.out _).mono ?_
    rintro e w2 ⟨rfl, hb⟩
    replace HP := Lib.hid (HP.out.below hb)
    replace HB := Lib.hid (btr HB.out hb)
    clear hb
    have P2 := Has3.new (w2.alloc (.cells #[.bool u, .int .u64 hi, .int .u64 lo] 24)) (.bool u) (.int .u64 r1) (.int .u64 r2) 24
    rw [show (w2.alloc (.cells #[.bool u, .int .u64 hi, .int .u64 lo] 24)).heap.size = w2.heap.size + 1 by simp] at P2
    have HQ := Lib.hid P2
    clear P2
    obtain ⟨a0, a1, a2, a3⟩ := HP.out
    go_wp2_with fail
    refine (hL.out _ _ _ _ _ _ _ ⟨A3.out, A4.out⟩).mono ?_
    rintro e w3 ⟨rfl, hb⟩
    clear a0 a1 a2 a3
    obtain ⟨a0, a1, a2, a3⟩ := ((HP.out.alloc _).alloc _).below hb
    obtain ⟨q0, q1, q2, q3⟩ := HQ.out.below hb
    replace HB := Lib.hid (btr (bal (bal HB.out _) _) hb)
    clear hb HP HQ
    rw [hx]
    go_wp2_with (go_at_call 42; refine (hL.out _ _ _ _ _ _ _ ⟨A5.out, A3.out⟩).mono ?_; rintro e w4 ⟨rfl, hb4⟩)
    go_ret
    first
      | exact ⟨rfl, btr HB.out hb4⟩
      | exact ⟨rfl, HB.out⟩
end Go.Proofs.YtiiankekobgebaaGreatDoor

namespace Go.Proofs.YtiiankekobgebaaGreatDoor
open Go.RowKit

/-- Prefixes that lie in a row behind a slice. -/
def Sl (w : World) (a : Option Addr) (ps : List Pf) : Prop :=
  ∀ j (h : j < ps.length), ∃ g o : Nat, a = some ⟨g, o, none⟩ ∧ g < w.heap.size ∧ w.cell? ⟨g, o + j * 4, none⟩ = some (.bool ps[j].v) ∧ w.cell? ⟨g, o + j * 4 + 1, none⟩ = some (.int .u64 ps[j].hi) ∧ w.cell? ⟨g, o + j * 4 + 2, none⟩ = some (.int .u64 ps[j].lo) ∧ w.cell? ⟨g, o + j * 4 + 3, none⟩ = some (.int .i64 ps[j].b)

theorem Sl.below {w w' : World} {a : Option Addr} {ps : List Pf} (h : Sl w a ps) (hb : Below w.heap.size w w') : Sl w' a ps := by
  intro j hj
  obtain ⟨g, o, e, hg, c0, c1, c2, c3⟩ := h j hj
  refine ⟨g, o, e, Nat.lt_of_lt_of_le hg hb.size, ?_, ?_, ?_, ?_⟩ <;> rw [(bcell hb).1 _ _ hg] <;> assumption

def Pf.cmp (p q : Pf) : Int := cmpP p.v p.hi p.lo p.b q.v q.hi q.lo q.b

theorem keepR {w W W' : World} {g o p : Nat} {v : Bool} {hi lo b : Int} {u : Bool} {yi yo c : Int}
    (h : (W.cell? ⟨p, 0, none⟩ = some (.bool v) ∧ W.cell? ⟨p, 1, none⟩ = some (.int .u64 hi) ∧ W.cell? ⟨p, 2, none⟩ = some (.int .u64 lo) ∧ W.cell? ⟨p, 3, none⟩ = some (.int .i64 b) ∧ p < W.heap.size) ∧ (W.cell? ⟨g, o, none⟩ = some (.bool u) ∧ W.cell? ⟨g, o + 1, none⟩ = some (.int .u64 yi) ∧ W.cell? ⟨g, o + 2, none⟩ = some (.int .u64 yo) ∧ W.cell? ⟨g, o + 3, none⟩ = some (.int .i64 c) ∧ g < W.heap.size) ∧ Below w.heap.size w W)
    (hb : Below W.heap.size W W') :
    (W'.cell? ⟨p, 0, none⟩ = some (.bool v) ∧ W'.cell? ⟨p, 1, none⟩ = some (.int .u64 hi) ∧ W'.cell? ⟨p, 2, none⟩ = some (.int .u64 lo) ∧ W'.cell? ⟨p, 3, none⟩ = some (.int .i64 b) ∧ p < W'.heap.size) ∧ (W'.cell? ⟨g, o, none⟩ = some (.bool u) ∧ W'.cell? ⟨g, o + 1, none⟩ = some (.int .u64 yi) ∧ W'.cell? ⟨g, o + 2, none⟩ = some (.int .u64 yo) ∧ W'.cell? ⟨g, o + 3, none⟩ = some (.int .i64 c) ∧ g < W'.heap.size) ∧ Below w.heap.size w W' := by
  obtain ⟨h1, ⟨a, b', c', d, f⟩, h3⟩ := h
  obtain ⟨k1, _⟩ := bcell hb
  exact ⟨Has4.below h1 hb, ⟨by rw [k1 _ _ f]; exact a, by rw [k1 _ _ f]; exact b', by rw [k1 _ _ f]; exact c', by rw [k1 _ _ f]; exact d, Nat.lt_of_lt_of_le f hb.size⟩, btr h3 hb⟩

def Pf.has (p q : Pf) : Bool := hasB p.v p.hi p.lo p.b q.v q.hi q.lo q.b

def Pf.R (p : Pf) : Prop := Right p.v p.hi p.lo p.b

theorem Sl.take {w : World} {a : Option Addr} {ps : List Pf} (h : Sl w a ps) (k : Nat) : Sl w a (ps.take k) := by
  intro j hj
  have hj' : j < ps.length := by rw [List.length_take] at hj; omega
  obtain ⟨g, o, e, hg, c⟩ := h j hj'
  refine ⟨g, o, e, hg, ?_⟩
  rw [List.getElem_take]
  exact c

def Pf.inA (p : Pf) (v : Bool) (xh xl : Int) : Bool := inB v xh xl p.v p.hi p.lo p.b

theorem row_base {w : World} {B B' e s n : Nat} {v : Value} {xs : List Value} (h : w.ownsRow B e s v n xs) (hB : B' ≤ B) : w.ownsRow B' e s v n xs := by
  obtain ⟨h1, h2⟩ := h
  refine ⟨h1, ?_⟩
  rcases h2 with h2 | ⟨g, c, cur, e1, e2, r⟩
  · exact .inl h2
  · exact .inr ⟨g, c, cur, e1, Nat.le_trans hB e2, r⟩

theorem row_nil (w : World) (B e s : Nat) : w.ownsRow B e s (.slice none 0 0) 0 [] := ⟨by simp, .inl ⟨rfl, rfl⟩⟩

theorem cmp_zero {v : Bool} {hi lo b : Int} {u : Bool} {yi yo c : Int} (r : Right v hi lo b) (q : Right u yi yo c) : cmpP v hi lo b u yi yo c = 0 ↔ v = u ∧ hi = yi ∧ lo = yo ∧ b = c := by
  have e1 := (less_num ⟨r.l0, r.l1⟩ ⟨q.l0, q.l1⟩ r.c q.c).2
  have e2 := (less_num ⟨q.l0, q.l1⟩ ⟨r.l0, r.l1⟩ q.c r.c).2
  unfold cmpP
  constructor
  · intro h
    split at h
    · exact absurd h (by decide)
    · rename_i h1
      split at h
      · exact absurd h (by decide)
      · rename_i h2
        rw [e1] at h1
        rw [e2] at h2
        have hbc : b = c := by unfold cmpN at h; split at h <;> (try split at h) <;> omega
        have huv : v = u := by
          cases v <;> cases u <;> simp at h1 h2 ⊢
        subst huv
        have hn : num hi lo = num yi yo := by simp at h1 h2; omega
        obtain ⟨x, y⟩ := num_inj r.l0 r.l1 q.l0 q.l1 hn
        exact ⟨rfl, x, y, hbc⟩
  · rintro ⟨rfl, rfl, rfl, rfl⟩
    have h1 : ¬ (lessB v hi lo v hi lo = true) := by rw [e1]; cases v <;> simp
    rw [if_neg h1, if_neg h1]
    simp [cmpN]

/-- What stands ahead, and which way around. -/
theorem cmp_turn {v : Bool} {hi lo b : Int} {u : Bool} {yi yo c : Int} (r : Right v hi lo b) (q : Right u yi yo c) : 0 < cmpP v hi lo b u yi yo c ↔ cmpP u yi yo c v hi lo b < 0 := by
  have e1 := (less_num ⟨r.l0, r.l1⟩ ⟨q.l0, q.l1⟩ r.c q.c).2
  have e2 := (less_num ⟨q.l0, q.l1⟩ ⟨r.l0, r.l1⟩ q.c r.c).2
  unfold cmpP
  cases h1 : lessB v hi lo u yi yo <;> cases h2 : lessB u yi yo v hi lo
  · simp only [Bool.false_eq_true, if_false]
    unfold cmpN
    split <;> split <;> (try split) <;> omega
  · simp
  · simp
  · rw [e1] at h1; rw [e2] at h2
    rcases h1 with ⟨rfl, h1⟩ | ⟨rfl, rfl⟩
    · rcases h2 with ⟨_, h2⟩ | ⟨h2, h3⟩
      · omega
      · rw [h2] at h3; exact absurd h3 (by decide)
    · rcases h2 with ⟨h2, _⟩ | ⟨h2, _⟩ <;> exact absurd h2 (by decide)

def Pf.n (p : Pf) : Int := num p.hi p.lo

theorem cmp_neg {p q : Pf} (r : p.R) (s : q.R) : p.cmp q < 0 ↔ (p.v = false ∧ q.v = true) ∨ (p.v = q.v ∧ (p.n < q.n ∨ (p.n = q.n ∧ p.b < q.b))) := by
  have e1 := (less_num ⟨r.l0, r.l1⟩ ⟨s.l0, s.l1⟩ r.c s.c).2
  have e2 := (less_num ⟨s.l0, s.l1⟩ ⟨r.l0, r.l1⟩ s.c r.c).2
  unfold Pf.cmp cmpP Pf.n
  by_cases h1 : lessB p.v p.hi p.lo q.v q.hi q.lo = true
  · rw [if_pos h1]
    rw [e1] at h1
    constructor
    · intro _
      rcases h1 with ⟨a, b⟩ | h1
      · exact .inr ⟨a, .inl b⟩
      · exact .inl h1
    · intro _; decide
  · rw [if_neg h1]
    by_cases h2 : lessB q.v q.hi q.lo p.v p.hi p.lo = true
    · rw [if_pos h2]
      rw [e2] at h2
      constructor
      · intro h; exact absurd h (by decide)
      · rintro (⟨a, b⟩ | ⟨a, b⟩)
        · rw [a, b] at h2; simp at h2
        · rcases h2 with ⟨_, h2⟩ | ⟨h2, h3⟩
          · omega
          · rw [h2, h3] at a; exact absurd a (by decide)
    · rw [if_neg h2]
      rw [e1] at h1
      rw [e2] at h2
      have hv : p.v = q.v := by
        revert h1 h2
        cases p.v <;> cases q.v <;> simp
      have hn : num p.hi p.lo = num q.hi q.lo := by
        have g1 : ¬ (num p.hi p.lo < num q.hi q.lo) := fun h => h1 (.inl ⟨hv, h⟩)
        have g2 : ¬ (num q.hi q.lo < num p.hi p.lo) := fun h => h2 (.inl ⟨hv.symm, h⟩)
        omega
      unfold cmpN
      constructor
      · intro h
        refine .inr ⟨hv, .inr ⟨hn, ?_⟩⟩
        split at h
        · assumption
        · split at h <;> exact absurd h (by decide)
      · rintro (⟨a, b⟩ | ⟨_, b | ⟨_, b⟩⟩)
        · rw [a, b] at hv; exact absurd hv (by decide)
        · omega
        · rw [if_pos b]; decide

theorem cmp_trans {p q s : Pf} (r1 : p.R) (r2 : q.R) (r3 : s.R) (h1 : p.cmp q < 0) (h2 : q.cmp s < 0) : p.cmp s < 0 := by
  rw [cmp_neg r1 r2] at h1
  rw [cmp_neg r2 r3] at h2
  rw [cmp_neg r1 r3]
  rcases h1 with ⟨a, b⟩ | ⟨a, b⟩
  · rcases h2 with ⟨c, d⟩ | ⟨c, d⟩
    · rw [b] at c; exact absurd c (by decide)
    · exact .inl ⟨a, by rw [← c]; exact b⟩
  · rcases h2 with ⟨c, d⟩ | ⟨c, d⟩
    · exact .inl ⟨by rw [a]; exact c, d⟩
    · refine .inr ⟨a.trans c, ?_⟩
      omega

theorem has_iff {p q : Pf} (r : p.R) (s : q.R) : p.has q = true ↔ p.b ≤ q.b ∧ q.v = p.v ∧ p.n ≤ q.n ∧ q.n < p.n + amt p.v p.b := has_num r s

theorem wid_pos (v : Bool) : 0 ≤ wid v := by unfold wid; split <;> omega

theorem amt_wid (v : Bool) : amt v (wid v) = 1 := by unfold amt; simp

/-- An address as a prefix. -/
theorem host_right {v : Bool} {xh xl : Int} (c : chk v xh xl = 0) (h0 : 0 ≤ xh) (h1 : xh < 18446744073709551616) (l0 : 0 ≤ xl) (l1 : xl < 18446744073709551616) : Right v xh xl (wid v) :=
  ⟨c, wid_pos v, Int.le_refl _, h0, h1, l0, l1, by rw [amt_wid]; exact Int.emod_one _⟩

theorem in_has {p : Pf} (r : p.R) {v : Bool} {xh xl : Int} (q : Right v xh xl (wid v)) : p.inA v xh xl = p.has ⟨v, xh, xl, wid v⟩ := by
  have hb1 := r.b1
  obtain ⟨n1, c1, _, l1⟩ := la_num r
  have e1 := (less_num ⟨q.l0, q.l1⟩ ⟨r.l0, r.l1⟩ q.c r.c).2
  have e2 := (less_num l1 ⟨q.l0, q.l1⟩ c1 q.c).2
  rw [Bool.eq_iff_iff, has_iff r (show Pf.R ⟨v, xh, xl, wid v⟩ from q)]
  unfold Pf.inA inB Pf.n
  simp only [Bool.and_eq_true, Bool.not_eq_true', Bool.eq_false_iff, ne_eq, e1, e2, n1]
  constructor
  · rintro ⟨g1, g2⟩
    have hv : v = p.v := by
      revert g1 g2
      cases v <;> cases p.v <;> simp
    refine ⟨by rw [hv]; exact hb1, hv, ?_, ?_⟩
    · rcases Int.lt_or_le (num xh xl) (num p.hi p.lo) with h | h
      · exact absurd (.inl ⟨hv, h⟩) g1
      · exact h
    · rcases Int.lt_or_le (num p.hi p.lo + amt p.v p.b - 1) (num xh xl) with h | h
      · exact absurd (.inl ⟨hv.symm, h⟩) g2
      · omega
  · rintro ⟨_, rfl, g3, g4⟩
    refine ⟨?_, ?_⟩
    · rintro (⟨_, h⟩ | ⟨h, h'⟩)
      · omega
      · exact h h'
    · rintro (⟨_, h⟩ | ⟨h, h'⟩)
      · omega
      · exact h h'

end Go.Proofs.YtiiankekobgebaaGreatDoor

namespace Go.Proofs.YtiiankekobgebaaGreatDoor
open Go.RowKit

theorem infoP : (Tryz.prog.info? 26).map (fun i => (i.zero, i.size, i.bytes)) = some (some (.agg #[.bool false, .int .u64 0, .int .u64 0, .int .i64 0]), 4, 32) := by kernel_rfl
/-- The cells of prefixes, one behind the other. -/
def flat : List Pf → List Value
  | [] => []
  | p :: r => .bool p.v :: .int .u64 p.hi :: .int .u64 p.lo :: .int .i64 p.b :: flat r
theorem flat_len : ∀ l : List Pf, (flat l).length = l.length * 4
  | [] => rfl
  | p :: r => by simp only [flat, List.length_cons, flat_len r]; omega
theorem flat_append : ∀ l r : List Pf, flat (l ++ r) = flat l ++ flat r
  | [], r => rfl
  | p :: l, r => by simp only [List.cons_append, flat, flat_append l r]
theorem flat_at : ∀ (l : List Pf) (j : Nat) (h : j < l.length), (flat l)[j * 4]? = some (.bool l[j].v) ∧ (flat l)[j * 4 + 1]? = some (.int .u64 l[j].hi) ∧ (flat l)[j * 4 + 2]? = some (.int .u64 l[j].lo) ∧ (flat l)[j * 4 + 3]? = some (.int .i64 l[j].b)
  | p :: r, 0, _ => by simp [flat]
  | p :: r, j + 1, h => by
    obtain ⟨a, b, c, d⟩ := flat_at r j (by simpa using h)
    simp only [flat, List.getElem_cons_succ]
    refine ⟨?_, ?_, ?_, ?_⟩
    · rw [show (j + 1) * 4 = j * 4 + 1 + 1 + 1 + 1 by omega]; simpa using a
    · rw [show (j + 1) * 4 + 1 = j * 4 + 1 + 1 + 1 + 1 + 1 by omega]; simpa using b
    · rw [show (j + 1) * 4 + 2 = j * 4 + 2 + 1 + 1 + 1 + 1 by omega]; simpa using c
    · rw [show (j + 1) * 4 + 3 = j * 4 + 3 + 1 + 1 + 1 + 1 by omega]; simpa using d
theorem flat_one (l : List Pf) : ∀ u ∈ flat l, u.oneCell' = true := by
  induction l with
  | nil => simp [flat]
  | cons p r ih =>
    intro u hu
    simp only [flat, List.mem_cons] at hu
    rcases hu with rfl | rfl | rfl | rfl | hu
    · rfl
    · rfl
    · rfl
    · rfl
    · exact ih u hu
theorem flat_take (l : List Pf) (k : Nat) : flat (l.take k) = (flat l).take (k * 4) := by
  induction l generalizing k with
  | nil => simp [flat]
  | cons p r ih =>
    cases k with
    | zero => simp [flat]
    | succ k => simp only [List.take_succ_cons, flat, ih, show (k + 1) * 4 = k * 4 + 1 + 1 + 1 + 1 by omega, List.take_succ_cons]

/-- What a row of one's own is: a slice of prefixes. -/
theorem own_sl {w : World} {B : Nat} {v : Value} {L : List Pf} (h : w.ownsRow B 26 4 v L.length (flat L)) : ∃ a c, v = .slice a L.length c ∧ L.length ≤ c ∧ Sl w a L := by
  obtain ⟨h1, h2⟩ := h
  rcases h2 with ⟨rfl, h2⟩ | ⟨g, c, cur, rfl, _, hc, h3, h4, h5, h6⟩
  · have : L = [] := List.length_eq_zero_iff.1 h2
    subst this
    exact ⟨none, 0, rfl, Nat.le_refl _, fun j hj => by simp at hj⟩
  · refine ⟨_, c, rfl, h3, fun j hj => ⟨g, 0, rfl, (Array.getElem?_eq_some_iff.1 hc).1, ?_⟩⟩
    have key : ∀ k, k < L.length * 4 → w.cell? ⟨g, k, none⟩ = (flat L)[k]? := fun k hk => by
      have hj2 : (cur.toList.take (L.length * 4))[k]? = (flat L)[k]? := by rw [h6]
      rw [List.getElem?_take_of_lt hk] at hj2
      simp [World.cell?, hc]
      simpa using hj2
    obtain ⟨a, b, c', d⟩ := flat_at L j hj
    simp only [Nat.zero_add]
    refine ⟨?_, ?_, ?_, ?_⟩
    · rw [key _ (by omega)]; exact a
    · rw [key _ (by omega)]; exact b
    · rw [key _ (by omega)]; exact c'
    · rw [key _ (by omega)]; exact d
theorem add_addr (b o k : Nat) : (⟨b, o, none⟩ : Addr).add k = ⟨b, o + k, none⟩ := by
  unfold Addr.add
  split
  · rename_i h; rw [h]; rfl
  · rfl
/-- The cells of a slice of prefixes, as append wants them. -/
theorem sl_news {w : World} {g o : Nat} {ps : List Pf} (h : Sl w (some ⟨g, o, none⟩) ps) : ∀ j u, (flat ps)[j]? = some u → w.cell? ((⟨g, o, none⟩ : Addr).add j) = some u := by
  intro j u hj
  have hlt : j < (flat ps).length := (List.getElem?_eq_some_iff.1 hj).1
  rw [flat_len] at hlt
  have hm : j / 4 < ps.length := by omega
  obtain ⟨g', o', e, _, c0, c1, c2, c3⟩ := h (j / 4) hm
  obtain ⟨rfl, rfl⟩ : g = g' ∧ o = o' := by simpa using e
  obtain ⟨a, b, c, d⟩ := flat_at ps (j / 4) hm
  rw [add_addr]
  rw [← hj]
  have h4 : j % 4 = 0 ∨ j % 4 = 1 ∨ j % 4 = 2 ∨ j % 4 = 3 := by omega
  rcases h4 with h4 | h4 | h4 | h4
  · rw [show o + j = o + j / 4 * 4 by omega, c0, show (flat ps)[j]? = (flat ps)[j / 4 * 4]? by congr 1; omega]; rw [a]
  · rw [show o + j = o + j / 4 * 4 + 1 by omega, c1, show (flat ps)[j]? = (flat ps)[j / 4 * 4 + 1]? by congr 1; omega]; rw [b]
  · rw [show o + j = o + j / 4 * 4 + 2 by omega, c2, show (flat ps)[j]? = (flat ps)[j / 4 * 4 + 2]? by congr 1; omega]; rw [c]
  · rw [show o + j = o + j / 4 * 4 + 3 by omega, c3, show (flat ps)[j]? = (flat ps)[j / 4 * 4 + 3]? by congr 1; omega]; rw [d]
theorem row_empty (w : World) : (w.alloc (.cells #[] 26)).ownsRow w.heap.size 26 4 (.slice (some ⟨w.heap.size, 0, none⟩) 0 0) 0 [] :=
  ⟨by simp, .inr ⟨w.heap.size, 0, #[], rfl, Nat.le_refl _, heap_alloc_new w _, Nat.le_refl _, Nat.zero_le _, by simp, by simp⟩⟩

/-- append in a region that draws. -/
theorem step_append_own {P : Program} {w : World} {ops : Array Oper} {o : Oper} {a : Act} {K : Act → World → Prop} {Q : Exit → Act → World → Prop} {E : Prop} (hgd : o.guard = none) (s x : Operand) (t : TypeId)
    (ho : o.op = .call { callee := .builtin .append, args := #[s, x], argTypes := #[t, t] })
    (base : Nat) (e : TypeId) (i : TypeInfo) (z : Value) (size bytes : Nat) (ht : P.underlying t = some (.slice e)) (hi : P.info? e = some i) (hz : i.zero = some z)
    (hsize : i.size = size) (hby : i.bytes = bytes) (hzs : z.cells.size = size) (hsz : 0 < size)
    (v : Value) (n : Nat) (xs : List Value) (hs : a.eval s = v) (hown : w.ownsRow base e size v n xs)
    (ad : Addr) (m c : Nat) (news : List Value) (hx : a.eval x = .slice (some ad) m c) (hl : news.length = m * size) (hnews : ∀ j u, news[j]? = some u → w.cell? (ad.add j) = some u) (h1 : ∀ u ∈ news, u.oneCell' = true)
    (h63 : n + m ≤ maxLen) (hbytes : (n + m) * bytes ≤ 140737488355328) (hbase : base ≤ w.heap.size)
    (h : ∀ v' w', w'.ownsRow base e size v' (n + m) (xs ++ news) → w.grownBy w' v.ownBlock → (v' = .slice none 0 0 ↔ v = .slice none 0 0 ∧ m = 0) → K (a.put o.dst v') w') :
    if Region.wanted o (yielded ops a.tmps) = true then Oper.wp P o a w K Q else E := by
  have hw : Region.wanted o (yielded ops a.tmps) = true := by simp [Region.wanted, hgd]
  rw [if_pos hw]
  exact wp_append_own w s x t ho base e i z size bytes ht hi hz hsize hby hzs hsz v n xs hs hown ad m c news hx hl hnews h1 h63 hbytes hbase h
theorem Sl.drop {w : World} {g o : Nat} {ps : List Pf} (h : Sl w (some ⟨g, o, none⟩) ps) (k : Nat) : Sl w (some ⟨g, o + k * 4, none⟩) (ps.drop k) := by
  intro j hj
  have hj' : k + j < ps.length := by rw [List.length_drop] at hj; omega
  obtain ⟨g', o', e, hg, c⟩ := h (k + j) hj'
  obtain ⟨rfl, rfl⟩ : g = g' ∧ o = o' := by simpa using e
  refine ⟨g, o + k * 4, rfl, hg, ?_⟩
  rw [List.getElem_drop]
  rw [show o + k * 4 + j * 4 = o + (k + j) * 4 by omega]
  exact c
theorem has3_upto {w w' : World} {B p : Nat} {x y z : Value} (h : Has3 w p x y z) (hp : p < B) (hb : Below B w w') : Has3 w' p x y z :=
  ⟨by rw [hb.cell (p := ⟨p, 0, none⟩) hp]; exact h.1, by rw [hb.cell (p := ⟨p, 1, none⟩) hp]; exact h.2.1, by rw [hb.cell (p := ⟨p, 2, none⟩) hp]; exact h.2.2.1, Nat.lt_of_lt_of_le h.2.2.2 hb.size⟩
theorem own_keep {w w' : World} {B e s n : Nat} {v : Value} {xs : List Value} (h : w.ownsRow B e s v n xs) (hb : Below w.heap.size w w') : w'.ownsRow B e s v n xs := by
  obtain ⟨h1, h2⟩ := h
  refine ⟨h1, ?_⟩
  rcases h2 with h2 | ⟨g, c, cur, e1, e2, hc, r⟩
  · exact .inl h2
  · exact .inr ⟨g, c, cur, e1, e2, (hb.block g (Array.getElem?_eq_some_iff.1 hc).1).trans hc, r⟩
theorem below_le {B B' : Nat} {w w' : World} (h : Below B' w w') (hB : B ≤ B') : Below B w w' := ⟨h.os, h.tape, h.output, h.size, fun k hk => h.block k (by omega)⟩
end Go.Proofs.YtiiankekobgebaaGreatDoor

namespace Go.Proofs.YtiiankekobgebaaGreatDoor
open Go.RowKit

/-- How an element lies in memory: k cells. -/
structure Enc (α : Type) where
  k : Nat
  f : α → List Value
  pos : 0 < k
  len : ∀ x, (f x).length = k
  one : ∀ x, ∀ u ∈ f x, u.oneCell' = true

/-- The cells of elements, one behind the other. -/
def rowOf {α : Type} (E : Enc α) : List α → List Value
  | [] => []
  | x :: r => E.f x ++ rowOf E r
theorem rowOf_len {α : Type} (E : Enc α) : ∀ l : List α, (rowOf E l).length = l.length * E.k
  | [] => by simp [rowOf]
  | x :: r => by rw [rowOf, List.length_append, E.len, rowOf_len E r, List.length_cons, Nat.add_mul]; omega
theorem rowOf_append {α : Type} (E : Enc α) : ∀ l r : List α, rowOf E (l ++ r) = rowOf E l ++ rowOf E r
  | [], r => rfl
  | x :: l, r => by rw [List.cons_append, rowOf, rowOf, rowOf_append E l r, List.append_assoc]
theorem rowOf_one {α : Type} (E : Enc α) (l : List α) : ∀ u ∈ rowOf E l, u.oneCell' = true := by
  induction l with
  | nil => simp [rowOf]
  | cons x r ih =>
    intro u hu
    rw [rowOf, List.mem_append] at hu
    rcases hu with hu | hu
    · exact E.one x u hu
    · exact ih u hu
theorem rowOf_take {α : Type} (E : Enc α) (l : List α) (n : Nat) : rowOf E (l.take n) = (rowOf E l).take (n * E.k) := by
  induction l generalizing n with
  | nil => simp [rowOf]
  | cons x r ih =>
    cases n with
    | zero => simp [rowOf]
    | succ n =>
      have e1 : (n + 1) * E.k = n * E.k + E.k := by rw [Nat.add_mul, Nat.one_mul]
      have e2 : (E.f x).take ((n + 1) * E.k) = E.f x := List.take_of_length_le (by rw [E.len, e1]; omega)
      rw [List.take_succ_cons, rowOf, rowOf, ih, List.take_append, e2, E.len, e1, Nat.add_sub_cancel]
theorem rowOf_drop {α : Type} (E : Enc α) (l : List α) (n : Nat) : rowOf E (l.drop n) = (rowOf E l).drop (n * E.k) := by
  induction l generalizing n with
  | nil => simp [rowOf]
  | cons x r ih =>
    cases n with
    | zero => simp [rowOf]
    | succ n =>
      have e1 : (n + 1) * E.k = n * E.k + E.k := by rw [Nat.add_mul, Nat.one_mul]
      have e2 : (E.f x).drop ((n + 1) * E.k) = [] := List.drop_eq_nil_of_le (by rw [E.len, e1]; omega)
      rw [List.drop_succ_cons, rowOf, ih, List.drop_append, e2, E.len, e1, Nat.add_sub_cancel, List.nil_append]
theorem rowOf_at {α : Type} (E : Enc α) : ∀ (l : List α) (j : Nat) (h : j < l.length) (i : Nat) (hi : i < E.k), (rowOf E l)[j * E.k + i]? = (E.f l[j])[i]?
  | x :: r, 0, _, i, hi => by rw [rowOf, Nat.zero_mul, Nat.zero_add, List.getElem?_append_left (by rw [E.len]; exact hi)]; rfl
  | x :: r, j + 1, h, i, hi => by
    rw [rowOf, List.getElem?_append_right (by rw [E.len, Nat.add_mul]; omega), E.len, show (j + 1) * E.k + i - E.k = j * E.k + i by rw [Nat.add_mul]; omega, rowOf_at E r j (by simpa using h) i hi]
    rfl
theorem rowOf_set {α : Type} (E : Enc α) : ∀ (l : List α) (j : Nat) (x : α), j < l.length → splice (rowOf E l) (j * E.k) (E.f x) = rowOf E (l.set j x)
  | y :: r, 0, x, _ => by
    rw [splice, rowOf, Nat.zero_mul, Nat.zero_add, List.take_zero, List.nil_append, E.len, List.set_cons_zero, rowOf, List.drop_append, List.drop_eq_nil_of_le (by rw [E.len]; exact Nat.le_refl _), E.len]
    simp
  | y :: r, j + 1, x, h => by
    have ih := rowOf_set E r j x (by simpa using h)
    rw [List.set_cons_succ, rowOf, rowOf, ← ih, splice, splice]
    rw [List.take_append, List.drop_append, List.take_of_length_le (by rw [E.len, Nat.add_mul]; omega), List.drop_eq_nil_of_le (by rw [E.len, E.len, Nat.add_mul]; omega), E.len, E.len]
    rw [show (j + 1) * E.k - E.k = j * E.k by rw [Nat.add_mul]; omega, show (j + 1) * E.k + E.k - E.k = j * E.k + E.k by rw [Nat.add_mul]; omega]
    simp [List.append_assoc]

/-- Elements that lie in a row behind a slice. -/
def Lies {α : Type} (E : Enc α) (w : World) (a : Option Addr) (l : List α) : Prop :=
  ∀ j (h : j < l.length), ∃ g o : Nat, a = some ⟨g, o, none⟩ ∧ g < w.heap.size ∧ ∀ i v, (E.f l[j])[i]? = some v → w.cell? ⟨g, o + j * E.k + i, none⟩ = some v
theorem Lies.below {α : Type} {E : Enc α} {w w' : World} {a : Option Addr} {l : List α} (h : Lies E w a l) (hb : Below w.heap.size w w') : Lies E w' a l := by
  intro j hj
  obtain ⟨g, o, e, hg, c⟩ := h j hj
  exact ⟨g, o, e, Nat.lt_of_lt_of_le hg hb.size, fun i v hv => by rw [(bcell hb).1 _ _ hg]; exact c i v hv⟩
theorem Lies.upto {α : Type} {E : Enc α} {w w' : World} {B : Nat} {a : Option Addr} {l : List α} (h : Lies E w a l) (ha : ∀ g o, a = some ⟨g, o, none⟩ → g < B) (hb : Below B w w') : Lies E w' a l := by
  intro j hj
  obtain ⟨g, o, e, hg, c⟩ := h j hj
  exact ⟨g, o, e, Nat.lt_of_lt_of_le hg hb.size, fun i v hv => by rw [hb.cell (p := ⟨g, _, none⟩) (ha g o e)]; exact c i v hv⟩
theorem Lies.take {α : Type} {E : Enc α} {w : World} {a : Option Addr} {l : List α} (h : Lies E w a l) (k : Nat) : Lies E w a (l.take k) := by
  intro j hj
  have hj' : j < l.length := by rw [List.length_take] at hj; omega
  obtain ⟨g, o, e, hg, c⟩ := h j hj'
  refine ⟨g, o, e, hg, ?_⟩
  rw [List.getElem_take]
  exact c
theorem Lies.drop {α : Type} {E : Enc α} {w : World} {g o : Nat} {l : List α} (h : Lies E w (some ⟨g, o, none⟩) l) (k : Nat) : Lies E w (some ⟨g, o + k * E.k, none⟩) (l.drop k) := by
  intro j hj
  have hj' : k + j < l.length := by rw [List.length_drop] at hj; omega
  obtain ⟨g', o', e, hg, c⟩ := h (k + j) hj'
  obtain ⟨rfl, rfl⟩ : g = g' ∧ o = o' := by simpa using e
  refine ⟨g, o + k * E.k, rfl, hg, ?_⟩
  rw [List.getElem_drop]
  intro i v hv
  rw [show o + k * E.k + j * E.k + i = o + (k + j) * E.k + i by rw [Nat.add_mul]; omega]
  exact c i v hv
theorem Lies.nil {α : Type} (E : Enc α) (w : World) (a : Option Addr) : Lies E w a [] := fun j hj => by simp at hj
/-- The cells of a slice, as append wants them. -/
theorem Lies.news {α : Type} {E : Enc α} {w : World} {a : Addr} {l : List α} (h : Lies E w (some a) l) : ∀ j u, (rowOf E l)[j]? = some u → w.cell? (a.add j) = some u := by
  intro j u hj
  have hlt : j < (rowOf E l).length := (List.getElem?_eq_some_iff.1 hj).1
  rw [rowOf_len] at hlt
  have hp := E.pos
  have hm : j / E.k < l.length := by rw [Nat.div_lt_iff_lt_mul hp]; exact hlt
  obtain ⟨g, o, e, _, c⟩ := h (j / E.k) hm
  obtain rfl : a = ⟨g, o, none⟩ := by simpa using e
  have hr : j % E.k < E.k := Nat.mod_lt _ hp
  have hd : j = j / E.k * E.k + j % E.k := by rw [Nat.mul_comm]; exact (Nat.div_add_mod _ _).symm
  rw [add_addr]
  have hj' : (E.f l[j / E.k])[j % E.k]? = some u := by rw [← rowOf_at E l _ hm _ hr, ← hd]; exact hj
  have := c _ _ hj'
  rw [show o + j = o + j / E.k * E.k + j % E.k by omega]
  exact this
theorem Lies.none_nil {α : Type} {E : Enc α} {w : World} {l : List α} (h : Lies E w none l) : l = [] := by
  apply Classical.byContradiction
  intro hn
  obtain ⟨g, o, e, _⟩ := h 0 (List.length_pos_iff.2 hn)
  exact absurd e (by simp)

/-- A row of the call's own, written out: block g, capacity c. -/
structure OwnAt {α : Type} (E : Enc α) (w : World) (B t g c : Nat) (l : List α) : Prop where
  base : B ≤ g
  le : l.length ≤ c
  max : c ≤ maxLen
  row : ∃ rest : List Value, w.heap[g]? = some (.cells (rowOf E l ++ rest).toArray t (0, 0)) ∧ (rowOf E l ++ rest).length = c * E.k
theorem OwnAt.lt {α : Type} {E : Enc α} {w : World} {B t g c : Nat} {l : List α} (h : OwnAt E w B t g c l) : g < w.heap.size := by
  obtain ⟨r, hr, _⟩ := h.row
  exact (Array.getElem?_eq_some_iff.1 hr).1
theorem OwnAt.own {α : Type} {E : Enc α} {w : World} {B t g c : Nat} {l : List α} (h : OwnAt E w B t g c l) : w.ownsRow B t E.k (.slice (some ⟨g, 0, none⟩) l.length c) l.length (rowOf E l) := by
  obtain ⟨r, hr, hl⟩ := h.row
  refine ⟨rowOf_len E l, .inr ⟨g, c, _, rfl, h.base, hr, h.le, h.max, by simpa using hl, ?_⟩⟩
  rw [← rowOf_len E l]
  simp
theorem own_at {α : Type} {E : Enc α} {w : World} {B t g c n : Nat} {l : List α} (h : w.ownsRow B t E.k (.slice (some ⟨g, 0, none⟩) n c) l.length (rowOf E l)) : n = l.length ∧ OwnAt E w B t g c l := by
  obtain ⟨h1, h2⟩ := h
  rcases h2 with ⟨e, _⟩ | ⟨g', c', cur, e, hb, hc, h3, h4, h5, h6⟩
  · simp at e
  · simp at e
    obtain ⟨rfl, rfl, rfl⟩ := e
    refine ⟨rfl, hb, h3, h4, cur.toList.drop (l.length * E.k), ?_, ?_⟩
    · rw [← h6, List.take_append_drop]
      simpa using hc
    · rw [← h6, List.take_append_drop]
      simpa using h5
theorem own_form {α : Type} {E : Enc α} {w : World} {B t : Nat} {v : Value} {l : List α} (h : w.ownsRow B t E.k v l.length (rowOf E l)) : (v = .slice none 0 0 ∧ l = []) ∨ ∃ g c, v = .slice (some ⟨g, 0, none⟩) l.length c ∧ OwnAt E w B t g c l := by
  rcases h.2 with ⟨rfl, h2⟩ | ⟨g, c, cur, rfl, _⟩
  · exact .inl ⟨rfl, List.length_eq_zero_iff.1 h2⟩
  · exact .inr ⟨g, c, rfl, (own_at h).2⟩
theorem OwnAt.lies {α : Type} {E : Enc α} {w : World} {B t g c : Nat} {l : List α} (h : OwnAt E w B t g c l) : Lies E w (some ⟨g, 0, none⟩) l := by
  obtain ⟨r, hr, hl⟩ := h.row
  intro j hj
  refine ⟨g, 0, rfl, h.lt, fun i v hv => ?_⟩
  have hi : i < E.k := by have := (List.getElem?_eq_some_iff.1 hv).1; rw [E.len] at this; exact this
  have hlt : j * E.k + i < (rowOf E l).length := by
    rw [rowOf_len]
    have : (j + 1) * E.k ≤ l.length * E.k := Nat.mul_le_mul_right _ hj
    rw [Nat.add_mul] at this; omega
  have key := rowOf_at E l j hj i hi
  rw [hv] at key
  simp only [World.cell?, hr, Nat.zero_add]
  have : ((rowOf E l ++ r).toArray)[j * E.k + i]? = some v := by
    rw [List.getElem?_toArray, List.getElem?_append_left hlt]; exact key
  simpa using this
theorem OwnAt.keep {α : Type} {E : Enc α} {w w' : World} {B t g c : Nat} {l : List α} (h : OwnAt E w B t g c l) (hb : Below w.heap.size w w') : OwnAt E w' B t g c l := by
  obtain ⟨r, hr, hl⟩ := h.row
  exact ⟨h.base, h.le, h.max, r, (hb.block g h.lt).trans hr, hl⟩
theorem OwnAt.lower {α : Type} {E : Enc α} {w : World} {B B' t g c : Nat} {l : List α} (h : OwnAt E w B t g c l) (hB : B' ≤ B) : OwnAt E w B' t g c l := ⟨Nat.le_trans hB h.base, h.le, h.max, h.row⟩
theorem OwnAt.cut {α : Type} {E : Enc α} {w : World} {B t g c : Nat} {l : List α} (h : OwnAt E w B t g c l) (n : Nat) : OwnAt E w B t g c (l.take n) := by
  obtain ⟨r, hr, hl⟩ := h.row
  refine ⟨h.base, by have := h.le; rw [List.length_take]; omega, h.max, (rowOf E (l.drop n)) ++ r, ?_, ?_⟩
  · rw [← List.append_assoc, ← rowOf_append, List.take_append_drop]; exact hr
  · rw [← List.append_assoc, ← rowOf_append, List.take_append_drop]; exact hl
/-- Worlds that part in one block alone, and in what is new. -/
theorem grown_row (w : World) (g : Nat) (cs : Array Value) : w.grownBy (w.setRow g cs) (some g) :=
  ⟨rfl, rfl, rfl, by simp, fun k hk hn => setRow_other w g k cs (fun e => hn (by rw [e]))⟩
theorem grown_below {w w' : World} {row : Option Nat} (h : Below w.heap.size w w') : w.grownBy w' row := ⟨h.os, h.tape, h.output, h.size, fun k hk _ => h.block k hk⟩
theorem grown_upto {w w' : World} {g B : Nat} (h : w.grownBy w' (some g)) (hB : B ≤ g) (hw : B ≤ w.heap.size) : Below B w w' := ⟨h.os, h.tape, h.output, h.size, fun k hk => h.block k (by omega) (fun e => by injection e with e; omega)⟩
theorem OwnAt.set {α : Type} {E : Enc α} {w : World} {B t g c : Nat} {l : List α} (h : OwnAt E w B t g c l) (j : Nat) (x : α) (hj : j < l.length) (cs : Array Value) (hcs : ∃ rest : List Value, w.heap[g]? = some (.cells (rowOf E l ++ rest).toArray t (0, 0)) ∧ (rowOf E l ++ rest).length = c * E.k ∧ cs = (splice (rowOf E l ++ rest) (j * E.k) (E.f x)).toArray) : OwnAt E (w.setRow g cs) B t g c (l.set j x) := by
  obtain ⟨r, hr, hl, rfl⟩ := hcs
  have hle : j * E.k + (E.f x).length ≤ (rowOf E l).length := by
    rw [E.len, rowOf_len]
    have : (j + 1) * E.k ≤ l.length * E.k := Nat.mul_le_mul_right _ hj
    rw [Nat.add_mul] at this; omega
  have e : splice (rowOf E l ++ r) (j * E.k) (E.f x) = rowOf E (l.set j x) ++ r := by
    rw [← rowOf_set E l j x hj, splice, splice, List.take_append_of_le_length (by omega), List.drop_append_of_le_length (by omega)]
    simp [List.append_assoc]
  refine ⟨h.base, by rw [List.length_set]; exact h.le, h.max, r, ?_, ?_⟩
  · rw [← e]
    exact setRow_heap w g _ _ t _ hr
  · rw [List.length_append, rowOf_len, List.length_set, ← rowOf_len E l, ← List.length_append]; exact hl
end Go.Proofs.YtiiankekobgebaaGreatDoor

namespace Go.Proofs.YtiiankekobgebaaGreatDoor
open Go.RowKit

def whoC (c : UInt8) : Bool := (decide (97 ≤ c.toNat) && decide (c.toNat ≤ 122)) || (decide (48 ≤ c.toNat) && decide (c.toNat ≤ 57))
/-- Is it a name? -/
def whoB (s : ByteArray) : Bool := decide (1 ≤ s.size) && (decide (s.size ≤ 8) && s.data.toList.all whoC)
theorem who_snoc (s : ByteArray) (k : Nat) (h : k < s.size) : (s.data.toList.take (k + 1)).all whoC = ((s.data.toList.take k).all whoC && whoC s[k]) := by
  rw [List.take_succ_eq_append_getElem (by simpa using h), List.all_append]
  simp
  rfl
theorem who_bad (s : ByteArray) (k : Nat) (h : k < s.size) (hc : whoC s[k] = false) : s.data.toList.all whoC = false := by
  rw [List.all_eq_false]
  exact ⟨s[k], List.mem_iff_getElem.2 ⟨k, by simpa using h, rfl⟩, by rw [hc]; simp⟩

set_option maxHeartbeats 8000000 in
theorem nright_any (s : ByteArray) (w : World) : Calls Tryz.prog 27 #[.string s] w fun e w' => e = .returned (.bool (whoB s)) ∧ w' = w := by
  by_cases h1 : s.size < 1
  · rw [show whoB s = false by simp [whoB]; omega]
    have h1' : (s.size : Int) < 1 := by omega
    go_enter Tryz.func27, Tryz.ntmps27
    go_wp2
    go_ret
    exact ⟨rfl, rfl⟩
  have d1 : decide ((s.size : Int) < 1) = false := decide_eq_false (by omega)
  by_cases h8 : 8 < s.size
  · rw [show whoB s = false by simp [whoB]; omega]
    have h8' : (8 : Int) < (s.size : Int) := by omega
    go_enter Tryz.func27, Tryz.ntmps27
    go_wp2
    go_ret
    exact ⟨rfl, rfl⟩
  have d8 : decide ((8 : Int) < (s.size : Int)) = false := decide_eq_false (by omega)
  have hm : s.size ≤ 8 := by omega
  have hwho : whoB s = s.data.toList.all whoC := by simp [whoB, hm]; omega
  rw [hwho]
  clear hwho
  obtain ⟨R, hR⟩ : ∃ R, R = s.data.toList.all whoC := ⟨_, rfl⟩
  rw [← hR]
  have HR := Lib.hid hR
  clear hR
  go_enter Tryz.func27, Tryz.ntmps27
  go_wp2
  go_loop [14] (fun i => ∃ k : Nat, i = .int .i64 k ∧ k ≤ s.size ∧ Hid ((s.data.toList.take k).all whoC = true)) (fun i => s.size - (intOf i).toNat)
  case atStart => exact ⟨0, rfl, Nat.zero_le _, by simp [Hid]⟩
  case round =>
    obtain ⟨k, rfl, hk, hh⟩ := hrel
    by_cases hlt : k < s.size
    · have hltz : (k : Int) < (s.size : Int) := by omega
      have hsn := who_snoc s k hlt
      rw [hh.out, Bool.true_and] at hsn
      have HS : Hid ((s.data.toList.take (k + 1)).all whoC = whoC s[k]) := hsn
      have HBad : Hid (whoC s[k] = false → s.data.toList.all whoC = false) := who_bad s k hlt
      have HW : Hid (whoC s[k] = ((decide ((97 : Int) ≤ (s[k].toNat : Int)) && decide ((s[k].toNat : Int) ≤ 122)) || (decide ((48 : Int) ≤ (s[k].toNat : Int)) && decide ((s[k].toNat : Int) ≤ 57)))) := by
        show whoC s[k] = _
        unfold whoC
        congr 1 <;> congr 1 <;> exact decide_eq_decide.2 (by omega)
      clear hsn hh
      have hcase : ((97 : Int) ≤ (s[k].toNat : Int) ∧ (s[k].toNat : Int) ≤ 122) ∨ (¬ (97 : Int) ≤ (s[k].toNat : Int) ∧ (48 : Int) ≤ (s[k].toNat : Int) ∧ (s[k].toNat : Int) ≤ 57) ∨ ((97 : Int) ≤ (s[k].toNat : Int) ∧ ¬ (s[k].toNat : Int) ≤ 122 ∧ (48 : Int) ≤ (s[k].toNat : Int) ∧ ¬ (s[k].toNat : Int) ≤ 57) ∨ (¬ (97 : Int) ≤ (s[k].toNat : Int) ∧ ¬ (48 : Int) ≤ (s[k].toNat : Int)) ∨ (¬ (97 : Int) ≤ (s[k].toNat : Int) ∧ (48 : Int) ≤ (s[k].toNat : Int) ∧ ¬ (s[k].toNat : Int) ≤ 57) := by omega
      rcases hcase with ⟨a, b⟩ | ⟨a, b, c⟩ | ⟨a, b, c, d⟩ | ⟨a, b⟩ | ⟨a, b, c⟩
      · have Hc : Hid (whoC s[k] = true) := by rw [Hid, HW.out, decide_eq_true a, decide_eq_true b]; rfl
        go_wp2
        go_round
        case rel => exact ⟨k + 1, by go_num, by omega, by rw [Hid, HS.out, Hc.out]⟩
        case measure => simp [intOf]; omega
      · have Hc : Hid (whoC s[k] = true) := by rw [Hid, HW.out, decide_eq_false a, decide_eq_true b, decide_eq_true c]; rfl
        have a' := decide_eq_false a
        clear a
        go_wp2
        go_round
        case rel => exact ⟨k + 1, by go_num, by omega, by rw [Hid, HS.out, Hc.out]⟩
        case measure => simp [intOf]; omega
      · have Hc : Hid (whoC s[k] = false) := by rw [Hid, HW.out, decide_eq_true a, decide_eq_false b, decide_eq_true c, decide_eq_false d]; rfl
        have b' := decide_eq_false b
        have d' := decide_eq_false d
        clear b d
        go_wp2
        go_ret
        exact ⟨congrArg (fun r => Ending.returned (Value.bool r)) (HR.out.trans (HBad.out Hc.out)).symm, rfl⟩
      · have Hc : Hid (whoC s[k] = false) := by rw [Hid, HW.out, decide_eq_false a, decide_eq_false b]; rfl
        have a' := decide_eq_false a
        have b' := decide_eq_false b
        clear a b
        go_wp2
        go_ret
        exact ⟨congrArg (fun r => Ending.returned (Value.bool r)) (HR.out.trans (HBad.out Hc.out)).symm, rfl⟩
      · have Hc : Hid (whoC s[k] = false) := by rw [Hid, HW.out, decide_eq_false a, decide_eq_true b, decide_eq_false c]; rfl
        have a' := decide_eq_false a
        have c' := decide_eq_false c
        clear a c
        go_wp2
        go_ret
        exact ⟨congrArg (fun r => Ending.returned (Value.bool r)) (HR.out.trans (HBad.out Hc.out)).symm, rfl⟩
    · have hltz : ¬ (k : Int) < (s.size : Int) := by omega
      have hd := hh.out
      rw [List.take_of_length_le (by simp; omega)] at hd
      have HD : Hid _ := hd
      clear hd
      go_wp2
      go_ret
      exact ⟨congrArg (fun r => Ending.returned (Value.bool r)) (HR.out.trans HD.out).symm, rfl⟩
end Go.Proofs.YtiiankekobgebaaGreatDoor

namespace Go.Proofs.YtiiankekobgebaaGreatDoor
open Go.RowKit

/-- The last k bits of a number, as 0 and 1. -/
def bin : Nat → Nat → List UInt8
  | 0, _ => []
  | k + 1, n => bin k (n / 2) ++ [hexd (n % 2)]

theorem bin_length : ∀ (k n : Nat), (bin k n).length = k
  | 0, _ => rfl
  | k + 1, n => by rw [bin, List.length_append, bin_length k]; rfl

def bitv (c : UInt8) : Nat := if c = 49 then 1 else 0

/-- The number that bits tell. -/
def vbin : Nat → List UInt8 → Nat
  | acc, [] => acc
  | acc, c :: r => vbin (acc * 2 + bitv c) r

/-- Bits: 0 or 1 each. -/
def IsBin (l : List UInt8) : Prop := ∀ c ∈ l, c = 48 ∨ c = 49

theorem vbin_append : ∀ (l r : List UInt8) (acc : Nat), vbin acc (l ++ r) = vbin (vbin acc l) r
  | [], r, acc => by simp only [List.nil_append, vbin]
  | c :: l, r, acc => by simp only [List.cons_append, vbin]; exact vbin_append l r _

theorem vbin_lt : ∀ (l : List UInt8) (acc k : Nat), IsBin l → acc < 2 ^ k → vbin acc l < 2 ^ (k + l.length)
  | [], acc, k, _, h => by simpa [vbin] using h
  | c :: l, acc, k, hb, h => by
    rw [vbin]
    have hc := hb c (by simp)
    have : acc * 2 + bitv c < 2 ^ (k + 1) := by
      rw [Nat.pow_succ]
      rcases hc with rfl | rfl
      · simp [bitv]; omega
      · simp [bitv]; omega
    have := vbin_lt l _ (k + 1) (fun x hx => hb x (List.mem_cons_of_mem _ hx)) this
    rw [List.length_cons, show k + (l.length + 1) = k + 1 + l.length by omega]
    exact this

theorem data_get (s : ByteArray) (k : Nat) (h : k < s.size) : s.data.toList[k]'(by rw [size_list]; exact h) = s[k] := rfl

theorem bitd (n : Nat) : bitv (hexd (n % 2)) = n % 2 ∧ (hexd (n % 2) = 48 ∨ hexd (n % 2) = 49) := by
  have : n % 2 = 0 ∨ n % 2 = 1 := by omega
  rcases this with h | h <;> rw [h] <;> decide

theorem bin_isBin : ∀ (k n : Nat), IsBin (bin k n)
  | 0, n => by intro c hc; simp [bin] at hc
  | k + 1, n => by
    intro c hc
    rw [bin, List.mem_append] at hc
    rcases hc with hc | hc
    · exact bin_isBin k _ c hc
    · simp at hc; subst hc; exact (bitd n).2

theorem vbin_bin : ∀ (k n acc : Nat), vbin acc (bin k n) = acc * 2 ^ k + n % 2 ^ k
  | 0, n, acc => by simp [bin, vbin, Nat.mod_one]
  | k + 1, n, acc => by
    rw [bin, vbin_append, vbin_bin k, vbin, vbin, (bitd n).1, Nat.pow_succ]
    have h : n % (2 ^ k * 2) = n / 2 % 2 ^ k * 2 + n % 2 := by
      rw [Nat.mul_comm (2 ^ k) 2, Nat.mod_mul]; omega
    rw [h, Nat.add_mul, Nat.mul_assoc]; omega

theorem bin_split (i : Nat) : ∀ (j n : Nat), bin (i + j) n = bin i (n / 2 ^ j) ++ bin j n
  | 0, n => by simp [bin]
  | j + 1, n => by
    rw [← Nat.add_assoc, bin, bin_split i j, bin, List.append_assoc, Nat.div_div_eq_div_mul, Nat.pow_succ, Nat.mul_comm 2]

theorem bin_sub (i j k n : Nat) : ((bin (i + j + k) n).drop i).take j = bin j (n / 2 ^ k) := by
  rw [bin_split (i + j) k, bin_split i j, List.append_assoc, List.drop_left' (bin_length _ _), List.take_left' (bin_length _ _)]

theorem vbin_add : ∀ (l : List UInt8) (acc : Nat), vbin acc l = acc * 2 ^ l.length + vbin 0 l
  | [], acc => by simp [vbin]
  | c :: l, acc => by
    rw [vbin, vbin, vbin_add l, vbin_add l (0 * 2 + bitv c), List.length_cons, Nat.pow_succ, Nat.add_mul, Nat.mul_assoc, Nat.mul_comm 2]
    simp; omega

theorem vbin_lt0 (l : List UInt8) : vbin 0 l < 2 ^ l.length := by
  induction l with
  | nil => simp [vbin]
  | cons c l ih =>
    rw [vbin, vbin_add, List.length_cons, Nat.pow_succ]
    have : bitv c ≤ 1 := by unfold bitv; split <;> omega
    have : (0 * 2 + bitv c) * 2 ^ l.length ≤ 1 * 2 ^ l.length := Nat.mul_le_mul_right _ (by omega)
    omega

/-- The first bits that are not the same decide. -/
def lessL : List UInt8 → List UInt8 → Bool
  | a :: l, b :: r => if a = b then lessL l r else decide (a < b)
  | _, _ => false

theorem lessL_num : ∀ (l r : List UInt8), IsBin l → IsBin r → l.length = r.length → lessL l r = decide (vbin 0 l < vbin 0 r)
  | [], [], _, _, _ => by simp [lessL, vbin]
  | [], b :: r, _, _, h => by simp at h
  | a :: l, [], _, _, h => by simp at h
  | a :: l, b :: r, hl, hr, h => by
    have ih := lessL_num l r (fun c hc => hl c (List.mem_cons_of_mem _ hc)) (fun c hc => hr c (List.mem_cons_of_mem _ hc)) (by simpa using h)
    have h' : l.length = r.length := by simpa using h
    have x1 := vbin_lt0 l
    have x2 := vbin_lt0 r
    rw [lessL, vbin, vbin, vbin_add l, vbin_add r, h', ih]
    rw [h'] at x1
    rcases hl a (by simp) with rfl | rfl <;> rcases hr b (by simp) with rfl | rfl
    · simp
    · simp only [bitv]; simp; omega
    · simp only [bitv]; simp; omega
    · simp

theorem u8_ne {c d : UInt8} (h : c ≠ d) : c.toNat ≠ d.toNat := fun e => h (UInt8.toNat_inj.1 e)

theorem info8 : (Tryz.prog.info? 5).map (fun i => (i.zero, i.size, i.bytes)) = some (some (.int .u8 0), 1, 1) := by kernel_rfl

/-- Bytes, as the cells of a row. -/
def u8s (l : List UInt8) : List Value := l.map fun b : UInt8 => Value.int .u8 (b.toNat : Int)

theorem u8s_append (l r : List UInt8) : u8s (l ++ r) = u8s l ++ u8s r := by simp [u8s]

theorem u8s_length (l : List UInt8) : (u8s l).length = l.length := by simp [u8s]

theorem own_u8 {W : World} {B n : Nat} {v : Value} {l : List UInt8} (h : W.ownsRow B 5 1 v n (u8s l)) (h0 : 0 < n) :
    ∃ g c, v = .slice (some ⟨g, 0, none⟩) n c ∧ n ≤ c ∧ c ≤ maxLen ∧ n = l.length ∧ ∀ j (hj : j < l.length), W.cell? ⟨g, j, none⟩ = some (.int .u8 ((l[j]).toNat : Int)) := by
  obtain ⟨h1, h2⟩ := h
  rcases h2 with ⟨rfl, h2⟩ | ⟨g, c, cur, rfl, _, hc, h3, h4, h5, h6⟩
  · omega
  · rw [u8s_length] at h1
    refine ⟨g, c, rfl, h3, h4, by omega, fun j hj => ?_⟩
    have hj2 : (cur.toList.take (n * 1))[j]? = (u8s l)[j]? := by rw [h6]
    rw [List.getElem?_take_of_lt (by omega)] at hj2
    simp only [u8s, List.getElem?_map, List.getElem?_eq_getElem hj, Option.map_some] at hj2
    simp [World.cell?, hc]
    simpa using hj2

/-- The bits of an address. -/
def bitsT (v : Bool) (hi lo : Nat) : List UInt8 := if v then bin 64 hi ++ bin 64 lo else bin 32 lo

theorem hexd_bit (n : Nat) : ((hexd (n % 2)).toNat : Int) = 48 + (n : Int) % 2 := by
  have : n % 2 = 0 ∨ n % 2 = 1 := by omega
  rcases this with h | h
  · rw [h]; have : (n : Int) % 2 = 0 := by omega
    rw [this]; rfl
  · rw [h]; have : (n : Int) % 2 = 1 := by omega
    rw [this]; rfl

set_option maxHeartbeats 8000000 in
set_option maxRecDepth 100000 in
theorem bits_any (v : Bool) (hi lo : Nat) (w : World) (h1 : hi < 18446744073709551616) (l1 : lo < 18446744073709551616) :
    Calls Tryz.prog 32 #[.agg #[.bool v, .int .u64 hi, .int .u64 lo]] w fun e w' => e = .returned (.string ⟨(bitsT v hi lo).toArray⟩) ∧ Below w.heap.size w w' := by
  obtain ⟨i0, hi0, hz0, hz1, hz2⟩ := info_parts info8
  have hb0 : Below w.heap.size w (w.alloc (.cells #[.bool v, .int .u64 hi, .int .u64 lo] 24)) := bal (Below.refl _ _) _
  have HB0 : Hid (Below w.heap.size w (w.alloc (.cells #[.bool v, .int .u64 hi, .int .u64 lo] 24))) := hb0
  have c0 : (w.alloc (.cells #[.bool v, .int .u64 hi, .int .u64 lo] 24)).cell? ⟨w.heap.size, 0, none⟩ = some (.bool v) := by simp [go_sem]
  have c1 : (w.alloc (.cells #[.bool v, .int .u64 hi, .int .u64 lo] 24)).cell? ⟨w.heap.size, 1, none⟩ = some (.int .u64 hi) := by simp [go_sem]
  have c2 : (w.alloc (.cells #[.bool v, .int .u64 hi, .int .u64 lo] 24)).cell? ⟨w.heap.size, 2, none⟩ = some (.int .u64 lo) := by simp [go_sem]
  have hsz : w.heap.size < (w.alloc (.cells #[.bool v, .int .u64 hi, .int .u64 lo] 24)).heap.size := by simp
  have HT : Hid ((if v then bin 64 hi ++ bin 64 lo else bin 32 lo) = bitsT v hi lo) := rfl
  generalize bitsT v hi lo = T at HT ⊢
  clear hb0
  go_enter Tryz.func32, Tryz.ntmps32
  go_wp2_with fail
  generalize w.alloc (.cells #[.bool v, .int .u64 hi, .int .u64 lo] 24) = W at HB0 c0 c1 c2 hsz ⊢
  go_loopw [3, 4] (fun vs vi wr => ∃ (k : Nat) (j : Int), vi = .int .i64 j ∧ Hid (j = 63 - (k : Int)) ∧ k ≤ 64 ∧ Below W.heap.size W wr ∧ wr.ownsRow W.heap.size 5 1 vs k (u8s (bin k (hi / 2 ^ (64 - k)))))
    (fun _ vi _ => (intOf vi + 1).toNat)
  case atStart => exact ⟨0, 63, rfl, (by omega : (63 : Int) = 63 - ((0 : Nat) : Int)), by omega, Below.refl _ _, World.ownsRow_nil _ _ _ _⟩
  case round =>
    obtain ⟨k, j, rfl, Hj, hk, hb, hown⟩ := hrel
    have hzz := hb.size
    have hj := Hj.out
    by_cases hk64 : k < 64
    · have hc := (bcell hb).1 w.heap.size 1 hsz
      rw [c1] at hc
      have hj0 : 0 ≤ j := by omega
      have hj1 : j ≤ 63 := by omega
      obtain ⟨m, hm⟩ : ∃ m, m = hi / 2 ^ (63 - k) := ⟨_, rfl⟩
      have hm1 : m < 18446744073709551616 := by rw [hm]; exact Nat.lt_of_le_of_lt (Nat.div_le_self _ _) h1
      have hstep : bin (k + 1) (hi / 2 ^ (64 - (k + 1))) = bin k (hi / 2 ^ (64 - k)) ++ [hexd (m % 2)] := by
        rw [bin, Nat.div_div_eq_div_mul, ← Nat.pow_succ, show (64 - (k + 1)).succ = 64 - k by omega, show 64 - (k + 1) = 63 - k by omega, ← hm]
      have hsh : (hi : Int) / 2 ^ j.toNat = (m : Int) := by rw [hm, show j.toNat = 63 - k by omega]; simp
      have HS : Hid (bin (k + 1) (hi / 2 ^ (64 - (k + 1))) = bin k (hi / 2 ^ (64 - k)) ++ [hexd (m % 2)]) := hstep
      obtain ⟨r, hr⟩ : ∃ r : Int, (m : Int) % 2 = r := ⟨_, rfl⟩
      have HE : Hid (((hexd (m % 2)).toNat : Int) = 48 + r) := by rw [← hr]; exact hexd_bit m
      have r0 : 0 ≤ r := by omega
      have r1 : r ≤ 1 := by omega
      have Hj2 : Hid (j - 1 = 63 - ((k + 1 : Nat) : Int)) := (by omega : j - 1 = 63 - ((k + 1 : Nat) : Int))
      clear hstep hm hj
      have HO : Hid (wr.ownsRow W.heap.size 5 1 u3 k (u8s (bin k (hi / 2 ^ (64 - k))))) := hown
      clear hown
      go_wp2_with (at_builtin; refine wpList_append_own _ rfl _ _ 81 rfl W.heap.size 5 i0 (.int .u8 0) 1 1 Tryz.underlying81 hi0 hz0 hz1 hz2 rfl (by decide) _ _ _ rfl (HO.out.alloc _) ⟨wr.heap.size, 0, none⟩ 1 1 [.int .u8 (48 + r)] rfl rfl ?c1 ?c2 ?c3 ?c4 ?c5 ?_)
      case c1 =>
        intro j u hj
        match j, hj with
        | 0, hj => simp at hj; subst hj; simp [Addr.add]
      case c2 => intro u hu; simp at hu; subst hu; rfl
      case c3 => unfold maxLen; omega
      case c4 => omega
      case c5 => simp; omega
      intro v' w3 hown' hgrow _
      have hb3 : Below W.heap.size W w3 := (bal hb _).grown hgrow (by simp; omega) (fun k hk => (HO.out.lt k hk).1)
      have HR : Hid (w3.ownsRow W.heap.size 5 1 v' (k + 1) (u8s (bin (k + 1) (hi / 2 ^ (64 - (k + 1)))))) := by
        rw [HS.out, u8s_append, show u8s [hexd (m % 2)] = [.int .u8 (48 + r)] by simp [u8s, HE.out]]; exact hown'
      clear hown' hgrow HO
      go_wp2
      go_roundw
      case rel => exact ⟨k + 1, j - 1, rfl, Hj2, by omega, hb3, HR⟩
      case measure => simp [intOf]; omega
    · have hk2 : k = 64 := by omega
      subst hk2
      have hj2 : j = -1 := by omega
      subst hj2
      clear Hj
      have HO : Hid (wr.ownsRow W.heap.size 5 1 u3 64 (u8s (bin 64 hi))) := by have := hown; rw [Nat.sub_self, Nat.pow_zero, Nat.div_one] at this; exact this
      clear hown hj hk64
      go_wp2_with fail
      go_loopw [3, 5] (fun vs vi wr => ∃ (k : Nat) (j : Int), vi = .int .i64 j ∧ Hid (j = 63 - (k : Int)) ∧ k ≤ 64 ∧ Below W.heap.size W wr ∧ wr.ownsRow W.heap.size 5 1 vs (64 + k) (u8s (bin 64 hi ++ bin k (lo / 2 ^ (64 - k)))))
        (fun _ vi _ => (intOf vi + 1).toNat)
      case atStart => exact ⟨0, 63, rfl, (by omega : (63 : Int) = 63 - ((0 : Nat) : Int)), by omega, hb, by rw [bin, List.append_nil]; exact HO.out⟩
      case round =>
        clear HO hb hzz
        obtain ⟨k, j, rfl, Hj, hk, hb, hown⟩ := hrel
        have hzz := hb.size
        have hj := Hj.out
        by_cases hk64 : k < 64
        · have hc := (bcell hb).1 w.heap.size 2 hsz
          rw [c2] at hc
          have hj0 : 0 ≤ j := by omega
          have hj1 : j ≤ 63 := by omega
          obtain ⟨m, hm⟩ : ∃ m, m = lo / 2 ^ (63 - k) := ⟨_, rfl⟩
          have hm1 : m < 18446744073709551616 := by rw [hm]; exact Nat.lt_of_le_of_lt (Nat.div_le_self _ _) l1
          have hstep : bin (k + 1) (lo / 2 ^ (64 - (k + 1))) = bin k (lo / 2 ^ (64 - k)) ++ [hexd (m % 2)] := by
            rw [bin, Nat.div_div_eq_div_mul, ← Nat.pow_succ, show (64 - (k + 1)).succ = 64 - k by omega, show 64 - (k + 1) = 63 - k by omega, ← hm]
          have hsh : (lo : Int) / 2 ^ j.toNat = (m : Int) := by rw [hm, show j.toNat = 63 - k by omega]; simp
          have HS : Hid (bin (k + 1) (lo / 2 ^ (64 - (k + 1))) = bin k (lo / 2 ^ (64 - k)) ++ [hexd (m % 2)]) := hstep
          obtain ⟨r, hr⟩ : ∃ r : Int, (m : Int) % 2 = r := ⟨_, rfl⟩
          have HE : Hid (((hexd (m % 2)).toNat : Int) = 48 + r) := by rw [← hr]; exact hexd_bit m
          have r0 : 0 ≤ r := by omega
          have r1 : r ≤ 1 := by omega
          have Hj2 : Hid (j - 1 = 63 - ((k + 1 : Nat) : Int)) := (by omega : j - 1 = 63 - ((k + 1 : Nat) : Int))
          clear hstep hm hj
          have HO : Hid (wr.ownsRow W.heap.size 5 1 u3 (64 + k) (u8s (bin 64 hi ++ bin k (lo / 2 ^ (64 - k))))) := hown
          clear hown
          go_wp2_with (at_builtin; refine wpList_append_own _ rfl _ _ 81 rfl W.heap.size 5 i0 (.int .u8 0) 1 1 Tryz.underlying81 hi0 hz0 hz1 hz2 rfl (by decide) _ _ _ rfl (HO.out.alloc _) ⟨wr.heap.size, 0, none⟩ 1 1 [.int .u8 (48 + r)] rfl rfl ?c1 ?c2 ?c3 ?c4 ?c5 ?_)
          case c1 =>
            intro j u hj
            match j, hj with
            | 0, hj => simp at hj; subst hj; simp [Addr.add]
          case c2 => intro u hu; simp at hu; subst hu; rfl
          case c3 => unfold maxLen; omega
          case c4 => omega
          case c5 => simp; omega
          intro v' w3 hown' hgrow _
          have hb3 : Below W.heap.size W w3 := (bal hb _).grown hgrow (by simp; omega) (fun k hk => (HO.out.lt k hk).1)
          have HR : Hid (w3.ownsRow W.heap.size 5 1 v' (64 + (k + 1)) (u8s (bin 64 hi ++ bin (k + 1) (lo / 2 ^ (64 - (k + 1)))))) := by
            rw [HS.out, ← List.append_assoc, u8s_append, show u8s [hexd (m % 2)] = [.int .u8 (48 + r)] by simp [u8s, HE.out]]; exact hown'
          clear hown' hgrow HO
          go_wp2
          go_roundw
          case rel => exact ⟨k + 1, j - 1, rfl, Hj2, by omega, hb3, HR⟩
          case measure => simp [intOf]; omega
        · have hk2 : k = 64 := by omega
          subst hk2
          have hj2 : j = -1 := by omega
          subst hj2
          clear Hj
          have HO : wr.ownsRow W.heap.size 5 1 u3 128 (u8s (bin 64 hi ++ bin 64 lo)) := by have := hown; rw [Nat.sub_self, Nat.pow_zero, Nat.div_one] at this; exact this
          clear hown hj hk64
          obtain ⟨g, c, rfl, hc1, hc2, hc3, hcell⟩ := own_u8 HO (by decide)
          have hc := (bcell hb).1 w.heap.size 0 hsz
          rw [c0] at hc
          have HF : Hid (Below w.heap.size w wr) := btr HB0.out hb
          clear HO hk
          cases v
          · have hcv : ∀ W' : World, W' = wr → (convert 81 9 (.slice (some ⟨g, 96, none⟩) 32 (c - 96))).run Tryz.prog W' = .ok (.string ⟨(bin 32 lo).toArray⟩) W' := by
              rintro _ rfl
              refine cvt _ g 96 (c - 96) (bin 32 lo) 32 (bin_length _ _).symm (fun j hj => ?_)
              rw [bin_length] at hj
              rw [hcell (96 + j) (by rw [List.length_append, bin_length, bin_length]; omega)]
              have e : bin 64 hi ++ bin 64 lo = (bin 64 hi ++ bin 32 (lo / 2 ^ 32)) ++ bin 32 lo := by rw [List.append_assoc, ← bin_split 32 32]
              simp only [e]
              rw [List.getElem_append_right (by rw [List.length_append, bin_length, bin_length]; omega)]
              simp only [List.length_append, bin_length, Nat.add_sub_cancel_left]
            have hsl : ∀ W' : World, (Instr.sliceAt 81 (.slice (some ⟨g, 0, none⟩) 128 c) (some (.int .i64 96)) none none).run Tryz.prog W' = .ok (.slice (some ⟨g, 96, none⟩) 32 (c - 96)) W' := by
              intro W'
              have h3 : ¬ c = 96 := by omega
              simp [go_sem, h3]
            have hT : bin 32 lo = T := HT.out
            rw [hT] at hcv
            clear hcell c1 c2 hc3
            go_wp2_with fail
            go_ret
            exact ⟨rfl, HF.out⟩
          · have hcv : ∀ W' : World, W' = wr → (convert 81 9 (.slice (some ⟨g, 0, none⟩) 128 c)).run Tryz.prog W' = .ok (.string ⟨(bin 64 hi ++ bin 64 lo).toArray⟩) W' := by
              rintro _ rfl
              refine cvt _ g 0 c (bin 64 hi ++ bin 64 lo) 128 (by rw [List.length_append, bin_length, bin_length]) (fun j hj => ?_)
              rw [Nat.zero_add]
              exact hcell j hj
            have hT : bin 64 hi ++ bin 64 lo = T := HT.out
            rw [hT] at hcv
            clear hcell c1 c2 hc3
            go_wp2_with fail
            go_ret
            exact ⟨rfl, HF.out⟩

theorem bitsT_bin (v : Bool) (hi lo : Nat) : IsBin (bitsT v hi lo) := by
  unfold bitsT
  split
  · intro c hc
    rcases List.mem_append.1 hc with h | h
    · exact bin_isBin _ _ c h
    · exact bin_isBin _ _ c h
  · exact bin_isBin _ _

theorem bitsT_length (v : Bool) (hi lo : Nat) : (bitsT v hi lo).length = if v then 128 else 32 := by
  unfold bitsT
  split
  · rw [List.length_append, bin_length, bin_length]
  · rw [bin_length]

theorem bitsT_num (v : Bool) (hi lo : Nat) (h1 : hi < 18446744073709551616) (l1 : lo < 18446744073709551616) (hv : v = true ∨ (hi = 0 ∧ lo ≤ 4294967295)) :
    vbin 0 (bitsT v hi lo) = hi * 18446744073709551616 + lo := by
  cases v
  · simp at hv
    rw [bitsT, if_neg (by decide), vbin_bin, hv.1]
    have : lo % 2 ^ 32 = lo := Nat.mod_eq_of_lt (by omega)
    omega
  · rw [bitsT, if_pos rfl, vbin_append, vbin_bin, vbin_bin]
    have h2 : hi % 2 ^ 64 = hi := Nat.mod_eq_of_lt (by omega)
    have h3 : lo % 2 ^ 64 = lo := Nat.mod_eq_of_lt (by omega)
    omega

theorem keep33 {w W W' : World} {p q : Nat} {x y z x2 y2 z2 : Value}
    (h : Has3 W p x y z ∧ Has3 W q x2 y2 z2 ∧ Below w.heap.size w W) (hb : Below W.heap.size W W') : Has3 W' p x y z ∧ Has3 W' q x2 y2 z2 ∧ Below w.heap.size w W' :=
  ⟨h.1.below hb, h.2.1.below hb, btr h.2.2 hb⟩

theorem vbin_cut (l : List UInt8) (b : Nat) : vbin 0 l = vbin 0 (l.take b) * 2 ^ (l.drop b).length + vbin 0 (l.drop b) := by
  have := vbin_append (l.take b) (l.drop b) 0
  rw [List.take_append_drop, vbin_add (l.drop b)] at this
  exact this

theorem vbin_div (l : List UInt8) (b : Nat) : vbin 0 l / 2 ^ (l.drop b).length = vbin 0 (l.take b) ∧ vbin 0 l % 2 ^ (l.drop b).length = vbin 0 (l.drop b) := by
  have h1 := vbin_cut l b
  have h2 := vbin_lt0 (l.drop b)
  have hp : 0 < 2 ^ (l.drop b).length := Nat.pow_pos (by decide)
  constructor
  · rw [h1, Nat.mul_comm, Nat.mul_add_div hp, Nat.div_eq_of_lt h2, Nat.add_zero]
  · rw [h1, Nat.mul_comm, Nat.mul_add_mod, Nat.mod_eq_of_lt h2]

theorem vbin_zero : ∀ r : List UInt8, IsBin r → (vbin 0 r = 0 ↔ ∀ c ∈ r, c = 48)
  | [], _ => by simp [vbin]
  | c :: r, h => by
    have ih := vbin_zero r (fun x hx => h x (List.mem_cons_of_mem _ hx))
    have hp : 0 < 2 ^ r.length := Nat.pow_pos (by decide)
    rw [vbin, vbin_add]
    rcases h c (by simp) with rfl | rfl
    · simp [bitv, ih]
    · simp [bitv]

theorem vbin_ones : ∀ (k acc : Nat), vbin acc (List.replicate k 49) + 1 = (acc + 1) * 2 ^ k
  | 0, acc => by simp [vbin]
  | k + 1, acc => by
    rw [List.replicate_succ, vbin, vbin_ones k, Nat.pow_succ]
    simp [bitv]
    rw [show acc * 2 + 1 + 1 = (acc + 1) * 2 by omega, Nat.mul_assoc, Nat.mul_comm 2]

theorem bin_inj : ∀ (l r : List UInt8), IsBin l → IsBin r → l.length = r.length → vbin 0 l = vbin 0 r → l = r
  | [], [], _, _, _, _ => rfl
  | [], b :: r, _, _, h, _ => by simp at h
  | a :: l, [], _, _, h, _ => by simp at h
  | a :: l, b :: r, hl, hr, h, e => by
    have h' : l.length = r.length := by simpa using h
    have x1 := vbin_lt0 l
    have x2 := vbin_lt0 r
    rw [vbin, vbin, vbin_add l, vbin_add r, h'] at e
    rw [h'] at x1
    have ih := bin_inj l r (fun c hc => hl c (List.mem_cons_of_mem _ hc)) (fun c hc => hr c (List.mem_cons_of_mem _ hc)) h'
    rcases hl a (by simp) with rfl | rfl <;> rcases hr b (by simp) with rfl | rfl
    · rw [ih (by simpa [bitv] using e)]
    · simp [bitv] at e; omega
    · simp [bitv] at e; omega
    · rw [ih (by simp [bitv] at e; omega)]

theorem vbin_set (l : List UInt8) (b : Nat) (hb : b < l.length) (h0 : l[b] = 48) : vbin 0 (l.set b 49) = vbin 0 l + 2 ^ (l.length - b - 1) := by
  have e1 : l = l.take b ++ 48 :: l.drop (b + 1) := by
    rw [← h0, ← List.drop_eq_getElem_cons hb, List.take_append_drop]
  have e2 : l.set b 49 = l.take b ++ 49 :: l.drop (b + 1) := by rw [List.set_eq_take_append_cons_drop, if_pos hb]
  have h3 : (l.drop (b + 1)).length = l.length - b - 1 := by rw [List.length_drop]; omega
  rw [e2, vbin_append, vbin, vbin_add]
  conv => rhs; rw [e1]
  rw [vbin_append, vbin, vbin_add (l.drop (b + 1)) (vbin 0 (l.take b) * 2 + bitv 48), h3]
  rw [← h3, List.length_append, List.length_cons, List.length_take]
  simp only [bitv, List.length_drop]
  rw [show min b l.length + (l.length - (b + 1) + 1) - b - 1 = l.length - (b + 1) by omega]
  simp [Nat.add_mul]
  omega

/-- What AddrOf makes of bits, as a number. -/
theorem parts_num (R : List UInt8) (h : R.length = 128 ∨ R.length = 32) :
    vbin 0 (R.take (R.length - 64)) * 18446744073709551616 + vbin 0 (R.drop (R.length - 64)) = vbin 0 R ∧ vbin 0 (R.take (R.length - 64)) < 18446744073709551616 ∧ vbin 0 (R.drop (R.length - 64)) < 18446744073709551616 := by
  rcases h with h | h
  · have h1 := vbin_cut R 64
    have h2 : (R.drop 64).length = 64 := by rw [List.length_drop, h]
    have h3 : (R.take 64).length = 64 := by rw [List.length_take, h]; rfl
    have h4 := vbin_lt0 (R.drop 64)
    have h5 := vbin_lt0 (R.take 64)
    rw [h2] at h1 h4
    rw [h3] at h5
    rw [h, show (128 : Nat) - 64 = 64 from rfl]
    omega
  · rw [h, show (32 : Nat) - 64 = 0 from rfl, List.take_zero, List.drop_zero]
    have := vbin_lt0 R
    rw [h] at this
    simp only [vbin]
    omega

theorem ext_list (s : ByteArray) (i j : Nat) : s.extract i j = ⟨((s.data.toList.drop i).take (j - i)).toArray⟩ := by
  apply ByteArray.ext
  rw [ByteArray.data_extract]
  apply Array.toList_inj.1
  rw [Array.toList_extract]

theorem str_to (s : ByteArray) (j : Nat) (W : World) (h2 : j ≤ s.size) (h3 : s.size ≤ 281474976710656) :
    (Instr.sliceAt 9 (.string s) none (some (.int .i64 (j : Int))) none).run Tryz.prog W = .ok (.string ⟨(s.data.toList.take j).toArray⟩) W := by
  have a2 : (j : Int) ≤ (s.size : Int) := by omega
  have h := ext_list s 0 j
  rw [List.drop_zero, Nat.sub_zero] at h
  rw [← h]
  simp [go_sem, a2]

theorem right_nat {v : Bool} {hi lo : Nat} (c : chk v hi lo = 0) : v = true ∨ (hi = 0 ∧ lo ≤ 4294967295) := by
  rcases chk_cases v hi lo with ⟨_, h⟩ | h
  · exact h.imp id fun ⟨x, y⟩ => ⟨by omega, by omega⟩
  · omega

theorem bits_wid (v : Bool) (hi lo : Nat) : ((bitsT v hi lo).length : Int) = wid v := by rw [bitsT_length, wid]; cases v <;> rfl

theorem bits_num {v : Bool} {hi lo : Nat} (c : chk v hi lo = 0) (h1 : hi < 18446744073709551616) (l1 : lo < 18446744073709551616) : ((vbin 0 (bitsT v hi lo) : Nat) : Int) = num hi lo := by
  rw [bitsT_num v hi lo h1 l1 (right_nat c), num]; simp

theorem amt_nat (v : Bool) (hi lo b : Nat) (hb : (b : Int) ≤ wid v) : amt v b = ((2 ^ ((bitsT v hi lo).drop b).length : Nat) : Int) := by
  have h := bits_wid v hi lo
  rw [amt, List.length_drop, show (wid v - (b : Int)).toNat = (bitsT v hi lo).length - b by omega]; simp

theorem bits_mod {v : Bool} {hi lo b : Nat} (c : chk v hi lo = 0) (h1 : hi < 18446744073709551616) (l1 : lo < 18446744073709551616) (hb : (b : Int) ≤ wid v) :
    num hi lo % amt v b = ((vbin 0 ((bitsT v hi lo).drop b) : Nat) : Int) := by
  rw [← bits_num c h1 l1, amt_nat v hi lo b hb, ← Int.natCast_emod, (vbin_div _ b).2]

theorem bits_div {v : Bool} {hi lo b : Nat} (c : chk v hi lo = 0) (h1 : hi < 18446744073709551616) (l1 : lo < 18446744073709551616) (hb : (b : Int) ≤ wid v) :
    num hi lo / amt v b = ((vbin 0 ((bitsT v hi lo).take b) : Nat) : Int) := by
  rw [← bits_num c h1 l1, amt_nat v hi lo b hb, ← Int.natCast_ediv, (vbin_div _ b).1]

theorem drop_bin (v : Bool) (hi lo b : Nat) : IsBin ((bitsT v hi lo).drop b) := fun c hc => bitsT_bin v hi lo c (List.mem_of_mem_drop hc)

theorem take_bin (v : Bool) (hi lo b : Nat) : IsBin ((bitsT v hi lo).take b) := fun c hc => bitsT_bin v hi lo c (List.mem_of_mem_take hc)

theorem pchk_bits {v : Bool} {hi lo b : Nat} (c : chk v hi lo = 0) (h1 : hi < 18446744073709551616) (l1 : lo < 18446744073709551616) (hb : (b : Int) ≤ wid v) :
    ((∀ x ∈ (bitsT v hi lo).drop b, x = 48) → pchk v hi lo b = 0) ∧ ((¬ ∀ x ∈ (bitsT v hi lo).drop b, x = 48) → pchk v hi lo b = 4) := by
  have hm := bits_mod c h1 l1 hb
  have hz := vbin_zero _ (drop_bin v hi lo b)
  have hr := right_iff v hi lo b (by omega) (by omega) (by omega) (by omega)
  constructor
  · intro h
    rw [hr]
    refine ⟨c, by omega, hb, by omega, by omega, by omega, by omega, ?_⟩
    rw [hm, hz.2 h]; rfl
  · intro h
    rcases pchk_cases v hi lo b with ⟨k, _⟩ | k | k
    · exfalso
      apply h
      apply hz.1
      have := (hr.1 k).al
      rw [hm] at this
      omega
    · exfalso
      unfold pchk at k
      rw [if_pos c, if_neg (by omega)] at k
      split at k <;> omega
    · exact k

theorem right_bits {v : Bool} {hi lo b : Nat} (r : Right v hi lo b) : ∀ x ∈ (bitsT v hi lo).drop b, x = 48 := by
  have h1 := r.h1
  have l1 := r.l1
  have hm := bits_mod r.c (by omega) (by omega) r.b1
  rw [r.al] at hm
  exact (vbin_zero _ (drop_bin v hi lo b)).1 (by omega)

/-- What AddrOf makes of so many bits that tell a number is that number's address. -/
theorem parts_addr {v : Bool} {R : List UInt8} {x y : Int} (hl : (R.length : Int) = wid v) (x0 : 0 ≤ x) (y0 : 0 ≤ y) (y1 : y < 18446744073709551616) (hn : num x y = ((vbin 0 R : Nat) : Int)) :
    decide (R.length = 128) = v ∧ x = ((vbin 0 (R.take (R.length - 64)) : Nat) : Int) ∧ y = ((vbin 0 (R.drop (R.length - 64)) : Nat) : Int) := by
  have h2 : R.length = 128 ∨ R.length = 32 := by unfold wid at hl; split at hl <;> omega
  obtain ⟨p1, p2, p3⟩ := parts_num R h2
  refine ⟨by unfold wid at hl; cases v <;> simp at hl ⊢ <;> omega, ?_⟩
  refine num_inj y0 y1 (by omega) (by omega) ?_
  rw [hn, num, ← p1]; simp

theorem div_same {A p q : Int} (hA : 0 < A) (hp : p % A = 0) : q / A = p / A ↔ p ≤ q ∧ q < p + A := by
  have h1 := Int.mul_ediv_add_emod p A
  have h2 := Int.mul_ediv_add_emod q A
  have h3 := Int.emod_nonneg q (Int.ne_of_gt hA)
  have h4 := Int.emod_lt_of_pos q hA
  constructor
  · intro h; rw [h] at h2; omega
  · rintro ⟨h5, h6⟩
    have e : q = (q - p) + A * (p / A) := by omega
    rw [e, Int.add_mul_ediv_left _ _ (Int.ne_of_gt hA), Int.ediv_eq_zero_of_lt (by omega) (by omega)]; omega

/-- Have the first bits of both the same? -/
theorem has_bits {v : Bool} {hi lo b : Nat} {u : Bool} {yi yo : Nat} {c : Int} (r : Right v hi lo b) (q : Right u yi yo c) :
    hasB v hi lo b u yi yo c = (decide ((b : Int) ≤ c) && ((v == u) && ((bitsT v hi lo).take b == (bitsT u yi yo).take b))) := by
  have h1 := r.h1
  have l1 := r.l1
  have h2 := q.h1
  have l2 := q.l1
  rw [Bool.eq_iff_iff, has_num r q]
  simp only [Bool.and_eq_true, decide_eq_true_eq, beq_iff_eq]
  constructor
  · rintro ⟨a1, rfl, a3, a4⟩
    refine ⟨a1, rfl, bin_inj _ _ (take_bin _ _ _ _) (take_bin _ _ _ _) (by rw [List.length_take, List.length_take, bitsT_length, bitsT_length]) ?_⟩
    have d1 := bits_div r.c (by omega) (by omega) r.b1
    have d2 := bits_div (b := b) q.c (by omega) (by omega) r.b1
    have := (div_same (amt_pos u b) r.al).2 ⟨a3, a4⟩
    rw [d1, d2] at this
    omega
  · rintro ⟨a1, rfl, a3⟩
    have d1 := bits_div r.c (by omega) (by omega) r.b1
    have d2 := bits_div (b := b) q.c (by omega) (by omega) r.b1
    have := (div_same (amt_pos v b) r.al).1 (d2.trans (by rw [← a3]; exact d1.symm))
    exact ⟨a1, rfl, this.1, this.2⟩

theorem keep43 {w W W' : World} {p q : Nat} {v : Bool} {hi lo b : Int} {x y z : Value}
    (h : Has4 W p v hi lo b ∧ Has3 W q x y z ∧ Below w.heap.size w W) (hb : Below W.heap.size W W') : Has4 W' p v hi lo b ∧ Has3 W' q x y z ∧ Below w.heap.size w W' :=
  ⟨h.1.below hb, h.2.1.below hb, btr h.2.2 hb⟩

set_option maxHeartbeats 8000000 in
set_option maxRecDepth 100000 in
theorem hasAddr_any (v : Bool) (hi lo b : Nat) (u : Bool) (yi yo : Nat) (w : World) (h1 : hi < 18446744073709551616) (l1 : lo < 18446744073709551616) (h2 : yi < 18446744073709551616) (l2 : yo < 18446744073709551616) (hb : (b : Int) ≤ wid v) :
    Calls Tryz.prog 9 #[.agg #[.bool v, .int .u64 hi, .int .u64 lo, .int .i64 (b : Int)], .agg #[.bool u, .int .u64 yi, .int .u64 yo]] w fun e w' => e = .returned (.bool ((v == u) && ((bitsT v hi lo).take b == (bitsT u yi yo).take b))) ∧ Below w.heap.size w w' := by
  have HB0 : Hid (Below w.heap.size w ((w.alloc (.cells #[.bool v, .int .u64 hi, .int .u64 lo, .int .i64 (b : Int)] 26)).alloc (.cells #[.bool u, .int .u64 yi, .int .u64 yo] 24))) := bal (bal (Below.refl _ _) _) _
  have q1 : (w.alloc (.cells #[.bool v, .int .u64 hi, .int .u64 lo, .int .i64 (b : Int)] 26)).heap.size = w.heap.size + 1 := by simp
  have P1 : Hid (Has4 ((w.alloc (.cells #[.bool v, .int .u64 hi, .int .u64 lo, .int .i64 (b : Int)] 26)).alloc (.cells #[.bool u, .int .u64 yi, .int .u64 yo] 24)) w.heap.size v hi lo b) := (Has4.new w _ _ _ _ _).alloc _
  have P2 : Hid (Has3 ((w.alloc (.cells #[.bool v, .int .u64 hi, .int .u64 lo, .int .i64 (b : Int)] 26)).alloc (.cells #[.bool u, .int .u64 yi, .int .u64 yo] 24)) (w.heap.size + 1) (.bool u) (.int .u64 yi) (.int .u64 yo)) := by
    have := Has3.new (w.alloc (.cells #[.bool v, .int .u64 hi, .int .u64 lo, .int .i64 (b : Int)] 26)) (.bool u) (.int .u64 yi) (.int .u64 yo) 24
    rw [q1] at this; exact this
  clear q1
  by_cases hvu : v = u
  · subst hvu
    rw [beq_self_eq_true, Bool.true_and]
    have hlen1 := bits_wid v hi lo
    have hlen2 := bits_wid v yi yo
    have hw128 : wid v ≤ 128 := by unfold wid; split <;> omega
    have HX : Hid (∀ (h l : Nat) (w : World), h < 18446744073709551616 → l < 18446744073709551616 → Calls Tryz.prog 32 #[.agg #[.bool v, .int .u64 h, .int .u64 l]] w fun e w' => e = .returned (.string ⟨(bitsT v h l).toArray⟩) ∧ Below w.heap.size w w') := fun h l w a b => bits_any v h l w a b
    have s1 : ∀ W : World, (Instr.sliceAt 9 (.string ⟨(bitsT v hi lo).toArray⟩) none (some (.int .i64 (b : Int))) none).run Tryz.prog W = .ok (.string ⟨((bitsT v hi lo).take b).toArray⟩) W := fun W =>
      str_to ⟨(bitsT v hi lo).toArray⟩ b W (by show b ≤ (bitsT v hi lo).toArray.size; rw [List.size_toArray]; omega) (by show (bitsT v hi lo).toArray.size ≤ _; rw [List.size_toArray]; omega)
    have s2 : ∀ W : World, (Instr.sliceAt 9 (.string ⟨(bitsT v yi yo).toArray⟩) none (some (.int .i64 (b : Int))) none).run Tryz.prog W = .ok (.string ⟨((bitsT v yi yo).take b).toArray⟩) W := fun W =>
      str_to ⟨(bitsT v yi yo).toArray⟩ b W (by show b ≤ (bitsT v yi yo).toArray.size; rw [List.size_toArray]; omega) (by show (bitsT v yi yo).toArray.size ≤ _; rw [List.size_toArray]; omega)
    go_enter Tryz.func9, Tryz.ntmps9
    go_wp2_with fail
    generalize (w.alloc (.cells #[.bool v, .int .u64 hi, .int .u64 lo, .int .i64 (b : Int)] 26)).alloc (.cells #[.bool v, .int .u64 yi, .int .u64 yo] 24) = W at *
    have P1' : Hid (Has4 W.drew w.heap.size v hi lo b) := P1.out
    have P2' : Hid (Has3 W.drew (w.heap.size + 1) (.bool v) (.int .u64 yi) (.int .u64 yo)) := P2.out
    have B' : Hid (Below w.heap.size w W.drew) := HB0.out.drew
    clear P1 P2 hlen1 hlen2
    go_region_held3 (fun w' => (w'.cell? ⟨w.heap.size, 0, none⟩ = some (.bool v) ∧ w'.cell? ⟨w.heap.size, 1, none⟩ = some (.int .u64 hi) ∧ w'.cell? ⟨w.heap.size, 2, none⟩ = some (.int .u64 lo) ∧ w'.cell? ⟨w.heap.size, 3, none⟩ = some (.int .i64 b) ∧ w.heap.size < w'.heap.size) ∧ (w'.cell? ⟨w.heap.size + 1, 0, none⟩ = some (.bool v) ∧ w'.cell? ⟨w.heap.size + 1, 1, none⟩ = some (.int .u64 yi) ∧ w'.cell? ⟨w.heap.size + 1, 2, none⟩ = some (.int .u64 yo) ∧ w.heap.size + 1 < w'.heap.size) ∧ Below w.heap.size w w')
      (first | exact ⟨P1'.out, P2'.out, B'.out⟩ | exact keep43 (by assumption) (by assumption))
      ((go_at_call 32; refine (HX.out _ _ _ (by assumption) (by assumption)).mono ?_; rintro e w3 ⟨rfl, hb⟩))
    have HS : Has4 w3 w.heap.size v hi lo b ∧ Has3 w3 (w.heap.size + 1) (.bool v) (.int .u64 yi) (.int .u64 yo) ∧ Below w.heap.size w w3 := by assumption
    go_wp2_with fail
    go_ret
    exact ⟨rfl, HS.2.2⟩
  · have hvd : (v == u) = false := by rw [beq_eq_false_iff_ne]; exact hvu
    rw [hvd, Bool.false_and]
    go_enter Tryz.func9, Tryz.ntmps9
    go_wp2_with fail
    go_region
    go_wp2_with fail
    go_ret
    exact ⟨rfl, HB0.out.drew⟩

end Go.Proofs.YtiiankekobgebaaGreatDoor
