/- Lists of prefixes: the plain words, what holds of them, span.look. -/
import Derived.Test.YtojdlpiogbjfcaaGreatDoorPfQ
import Derived.Test.YtojdlpiogbjfcaaGreatDoorH3
import Derived.OwnWalk
import Derived.Deep.AppendLies
set_option linter.unusedVariables false
set_option linter.unusedSimpArgs false
namespace Go.Proofs.YtojdlpiogbjfcaaGreatDoor

theorem amt_half {v : Bool} {b : Int} (b0 : 0 ≤ b) (h : b < wid v) : amt v b = amt v (b + 1) * 2 := by
  unfold amt
  rw [show (wid v - b).toNat = (wid v - (b + 1)).toNat + 1 by omega, Int.pow_succ]
theorem right_low {v : Bool} {hi lo b : Int} (r : Right v hi lo b) (h : b < wid v) : Right v hi lo (b + 1) :=
  ⟨r.c, by have := r.b0; omega, by omega, r.h0, r.h1, r.l0, r.l1, mod_of (m := 2) (by rw [← amt_half r.b0 h]; exact r.al)⟩
/-- The greater half: its first address, and that it is right. -/
theorem great_num {v : Bool} {hi lo b : Int} (r : Right v hi lo b) (h : b < wid v) :
    num (fsH v (laH v hi b) (b + 1)) (fsL v (laL v lo b) (b + 1)) = num hi lo + amt v (b + 1) ∧ Right v (fsH v (laH v hi b) (b + 1)) (fsL v (laL v lo b) (b + 1)) (b + 1) := by
  obtain ⟨n1, c1, i1, l1⟩ := la_num r
  have b0 := r.b0
  have e := fs_num v (laH v hi b) (laL v lo b) (b + 1) c1 (by omega) (by omega) i1.1 i1.2 l1.1 l1.2
  have ap := amt_pos v (b + 1)
  have ah := amt_half b0 h
  have al := (right_low r h).al
  have hm : num (laH v hi b) (laL v lo b) % amt v (b + 1) = amt v (b + 1) - 1 := by
    rw [n1, ah]
    obtain ⟨k, hk⟩ := Int.dvd_of_emod_eq_zero al
    rw [hk, show amt v (b + 1) * k + amt v (b + 1) * 2 - 1 = (amt v (b + 1) - 1) + amt v (b + 1) * (k + 1) by rw [Int.mul_add]; omega, Int.add_mul_emod_self_left]
    exact Int.emod_eq_of_lt (by omega) (by omega)
  have e2 : num (fsH v (laH v hi b) (b + 1)) (fsL v (laL v lo b) (b + 1)) = num hi lo + amt v (b + 1) := by rw [e, hm, n1, ah]; omega
  have r1 : 0 ≤ fsH v (laH v hi b) (b + 1) ∧ fsH v (laH v hi b) (b + 1) < 18446744073709551616 := cut_rng _ i1.1 i1.2
  have r2 : 0 ≤ fsL v (laL v lo b) (b + 1) ∧ fsL v (laL v lo b) (b + 1) < 18446744073709551616 := cut_rng _ l1.1 l1.2
  have nt := num_top c1 i1.1 i1.2 l1.1 l1.2
  refine ⟨e2, chk_top r1.1 r2.1 (by rw [e2]; rw [n1, ah] at nt; omega), by omega, by omega, r1.1, r1.2, r2.1, r2.2, ?_⟩
  rw [e2]
  exact mod_add al (by have := Int.mul_emod_right (amt v (b + 1)) 1; rwa [Int.mul_one] at this)
end Go.Proofs.YtojdlpiogbjfcaaGreatDoor

namespace Go.Proofs.YtojdlpiogbjfcaaGreatDoor
open Go.RowKit

theorem oless_any (v u : Bool) (xh xl yh yl : Int) (w : World) (h0 : 0 ≤ xh) (h1 : 0 ≤ xl) (h2 : 0 ≤ yh) (h3 : 0 ≤ yl) :
    Calls Tryz.prog 47 #[.agg #[.bool v, .int .u64 xh, .int .u64 xl], .agg #[.bool u, .int .u64 yh, .int .u64 yl]] w fun e w' =>
      e = .returned (.bool (lessB v xh xl u yh yl)) ∧ Below w.heap.size w w' := by
  have hL : Hid (∀ w : World, Calls Tryz.prog 16 #[.agg #[.bool v, .int .u64 xh, .int .u64 xl], .agg #[.bool u, .int .u64 yh, .int .u64 yl]] w fun e w' =>
      e = .returned (.tuple #[.bool (lessB v xh xl u yh yl), .int .i64 (lessE v xh xl u yh yl)]) ∧ Below w.heap.size w w') := fun w => less_any v u xh xl yh yl w h0 h1 h2 h3
  generalize lessB v xh xl u yh yl = r at *
  generalize lessE v xh xl u yh yl = r' at *
  clear h0 h1 h2 h3
  go_enter Tryz.func47, Tryz.ntmps47
  go_wp2_with fail
  refine (hL.out _).mono ?_
  rintro e w2 ⟨rfl, hb⟩
  go_wp2
  go_ret
  exact ⟨rfl, btr (bal (bal (Below.refl _ _) _) _) hb⟩

def cmpN (x y : Int) : Int := if x < y then -1 else if y < x then 1 else 0

theorem nan_any (x : Int) (w : World) : Calls Tryz.prog 77 #[.int .i64 x] w fun e w' => e = .returned (.bool false) ∧ w' = w := by
  have h : (x != x) = false := by simp
  go_enter Tryz.func77, Tryz.ntmps77
  go_wp2
  go_ret
  exact ⟨rfl, rfl⟩

theorem cmp_any (x y : Int) (w : World) : Calls Tryz.prog 56 #[.int .i64 x, .int .i64 y] w fun e w' => e = .returned (.int .i64 (cmpN x y)) ∧ w' = w := by
  have hN : Hid (∀ (x : Int) (w : World), Calls Tryz.prog 77 #[.int .i64 x] w fun e w' => e = .returned (.bool false) ∧ w' = w) := nan_any
  by_cases h : x < y
  · rw [show cmpN x y = -1 by simp [cmpN, h]]
    go_enter Tryz.func56, Tryz.ntmps56
    go_wp2_with (go_at_call 77; refine (hN.out _ _).mono ?_; rintro e w' ⟨rfl, rfl⟩)
    go_ret
    exact ⟨rfl, rfl⟩
  · have hd : decide (x < y) = false := decide_eq_false h
    by_cases h' : y < x
    · rw [show cmpN x y = 1 by simp [cmpN, h, h']]
      go_enter Tryz.func56, Tryz.ntmps56
      go_wp2_with (go_at_call 77; refine (hN.out _ _).mono ?_; rintro e w' ⟨rfl, rfl⟩)
      go_ret
      exact ⟨rfl, rfl⟩
    · have hd' : decide (y < x) = false := decide_eq_false h'
      rw [show cmpN x y = 0 by simp [cmpN, h, h']]
      go_enter Tryz.func56, Tryz.ntmps56
      go_wp2_with (go_at_call 77; refine (hN.out _ _).mono ?_; rintro e w' ⟨rfl, rfl⟩)
      go_ret
      exact ⟨rfl, rfl⟩

/-- Which of two prefixes rises ahead of the other one? -/
def cmpP (v : Bool) (hi lo b : Int) (u : Bool) (yi yo c : Int) : Int := if lessB v hi lo u yi yo = true then -1 else if lessB u yi yo v hi lo = true then 1 else cmpN b c

theorem compare_any (v : Bool) (hi lo b : Int) (u : Bool) (yi yo c : Int) (w : World) (h0 : 0 ≤ hi) (h1 : 0 ≤ lo) (h2 : 0 ≤ yi) (h3 : 0 ≤ yo) :
    Calls Tryz.prog 42 #[.agg #[.bool v, .int .u64 hi, .int .u64 lo, .int .i64 b], .agg #[.bool u, .int .u64 yi, .int .u64 yo, .int .i64 c]] w fun e w' =>
      e = .returned (.int .i64 (cmpP v hi lo b u yi yo c)) ∧ Below w.heap.size w w' := by
  have hL : Hid (∀ w : World, Calls Tryz.prog 47 #[.agg #[.bool v, .int .u64 hi, .int .u64 lo], .agg #[.bool u, .int .u64 yi, .int .u64 yo]] w fun e w' =>
      e = .returned (.bool (lessB v hi lo u yi yo)) ∧ Below w.heap.size w w') := fun w => oless_any v u hi lo yi yo w h0 h1 h2 h3
  have hM : Hid (∀ w : World, Calls Tryz.prog 47 #[.agg #[.bool u, .int .u64 yi, .int .u64 yo], .agg #[.bool v, .int .u64 hi, .int .u64 lo]] w fun e w' =>
      e = .returned (.bool (lessB u yi yo v hi lo)) ∧ Below w.heap.size w w') := fun w => oless_any u v yi yo hi lo w h2 h3 h0 h1
  have hC : Hid (∀ w : World, Calls Tryz.prog 56 #[.int .i64 b, .int .i64 c] w fun e w' => e = .returned (.int .i64 (cmpN b c)) ∧ w' = w) := cmp_any b c
  have P0 := Has4.alloc (Has4.new w v hi lo b 27) (.cells #[.bool u, .int .u64 yi, .int .u64 yo, .int .i64 c] 27)
  have P1 := Has4.new (w.alloc (.cells #[.bool v, .int .u64 hi, .int .u64 lo, .int .i64 b] 27)) u yi yo c 27
  have B1 : Below w.heap.size w ((w.alloc (.cells #[.bool v, .int .u64 hi, .int .u64 lo, .int .i64 b] 27)).alloc (.cells #[.bool u, .int .u64 yi, .int .u64 yo, .int .i64 c] 27)) := bal (bal (Below.refl _ _) _) _
  rw [show (w.alloc (.cells #[.bool v, .int .u64 hi, .int .u64 lo, .int .i64 b] 27)).heap.size = w.heap.size + 1 by simp] at P1
  have HP : Hid (Has4 _ _ v hi lo b) := P0
  have HQ : Hid (Has4 _ _ u yi yo c) := P1
  have HB : Hid (Below w.heap.size w _) := B1
  unfold cmpP
  generalize lessB v hi lo u yi yo = r1 at *
  generalize lessB u yi yo v hi lo = r2 at *
  generalize cmpN b c = r3 at *
  clear P0 P1 B1 h0 h1 h2 h3
  cases r1
  · cases r2
    all_goals
      go_enter Tryz.func42, Tryz.ntmps42
      go_wp2_with fail
      refine (hL.out _).mono ?_
      rintro e w2 ⟨rfl, hb⟩
      replace HP := Lib.hid (HP.out.below hb)
      replace HQ := Lib.hid (HQ.out.below hb)
      replace HB := Lib.hid (btr HB.out hb)
      clear hb
      obtain ⟨p0, p1, p2, p3, p4⟩ := HP.out
      obtain ⟨q0, q1, q2, q3, q4⟩ := HQ.out
      go_wp2_with fail
      refine (hM.out _).mono ?_
      rintro e w3 ⟨rfl, hb⟩
      clear p0 p1 p2 p3 p4 q0 q1 q2 q3 q4
      obtain ⟨p0, p1, p2, p3, p4⟩ := HP.out.below hb
      obtain ⟨q0, q1, q2, q3, q4⟩ := HQ.out.below hb
      replace HB := Lib.hid (btr HB.out hb)
      clear hb
      go_wp2_with (go_at_call 56; refine (hC.out _).mono ?_; rintro e w' ⟨rfl, rfl⟩)
      go_ret
      exact ⟨rfl, HB.out⟩
  · go_enter Tryz.func42, Tryz.ntmps42
    go_wp2_with fail
    refine (hL.out _).mono ?_
    rintro e w2 ⟨rfl, hb⟩
    replace HB := Lib.hid (btr HB.out hb)
    clear hb
    go_wp2
    go_ret
    exact ⟨rfl, HB.out⟩

/-- Has a prefix an address (both right)? -/
def inB (v : Bool) (xh xl : Int) (u : Bool) (hi lo b : Int) : Bool := !(lessB v xh xl u hi lo) && !(lessB u (laH u hi b) (laL u lo b) v xh xl)

set_option maxHeartbeats 8000000 in
set_option maxRecDepth 100000 in
theorem within_any (v : Bool) (xh xl : Int) (u : Bool) (hi lo b : Int) (w : World) (h0 : 0 ≤ xh) (h1 : 0 ≤ xl) (i0 : 0 ≤ hi) (i1 : hi < 18446744073709551616) (i2 : 0 ≤ lo) (i3 : lo < 18446744073709551616) (c0 : pchk u hi lo b = 0) :
    Calls Tryz.prog 29 #[.agg #[.bool v, .int .u64 xh, .int .u64 xl], .agg #[.bool u, .int .u64 hi, .int .u64 lo, .int .i64 b]] w fun e w' =>
      e = .returned (.bool (inB v xh xl u hi lo b)) ∧ Below w.heap.size w w' := by
  have hE : Hid (∀ w : World, Calls Tryz.prog 20 #[.agg #[.bool u, .int .u64 hi, .int .u64 lo, .int .i64 b]] w fun e w' => e = .returned (.tuple #[.agg #[.bool u, .int .u64 hi, .int .u64 lo], .agg #[.bool u, .int .u64 (laH u hi b), .int .u64 (laL u lo b)], .int .i64 0]) ∧ Below w.heap.size w w') := fun w => ends_ok u hi lo b w i0 i1 i2 i3 c0
  have hL : Hid (∀ (v u : Bool) (xh xl yh yl : Int) (w : World), (0 ≤ xh ∧ 0 ≤ xl) ∧ 0 ≤ yh ∧ 0 ≤ yl → Calls Tryz.prog 47 #[.agg #[.bool v, .int .u64 xh, .int .u64 xl], .agg #[.bool u, .int .u64 yh, .int .u64 yl]] w fun e w' =>
      e = .returned (.bool (lessB v xh xl u yh yl)) ∧ Below w.heap.size w w') := fun v u xh xl yh yl w h => oless_any v u xh xl yh yl w h.1.1 h.1.2 h.2.1 h.2.2
  have A1 : Hid (0 ≤ laH u hi b) := (laH_lt i0 i1).1
  have A2 : Hid (0 ≤ laL u lo b) := (laL_lt i2 i3).1
  have A3 : Hid (0 ≤ xh ∧ 0 ≤ xl) := ⟨h0, h1⟩
  have A4 : Hid (0 ≤ hi ∧ 0 ≤ lo) := ⟨i0, i2⟩
  unfold inB
  generalize laH u hi b = r1 at *
  generalize laL u lo b = r2 at *
  have A5 : Hid (0 ≤ r1 ∧ 0 ≤ r2) := ⟨A1.out, A2.out⟩
  clear h0 h1 i0 i1 i2 i3 A1 A2 c0
  have P0 := (Has3.new w (.bool v) (.int .u64 xh) (.int .u64 xl) 25).alloc (.cells #[.bool u, .int .u64 hi, .int .u64 lo, .int .i64 b] 27)
  have B1 : Below w.heap.size w ((w.alloc (.cells #[.bool v, .int .u64 xh, .int .u64 xl] 25)).alloc (.cells #[.bool u, .int .u64 hi, .int .u64 lo, .int .i64 b] 27)) := bal (bal (Below.refl _ _) _) _
  have HP := Lib.hid P0
  have HB := Lib.hid B1
  clear P0 B1
  cases hx : lessB v xh xl u hi lo
  all_goals
    go_enter Tryz.func29, Tryz.ntmps29
    go_wp2_with fail
    refine (hE.out _).mono ?_
    rintro e w2 ⟨rfl, hb⟩
    replace HP := Lib.hid (HP.out.below hb)
    replace HB := Lib.hid (btr HB.out hb)
    clear hb
    have P2 := Has3.new (w2.alloc (.cells #[.bool u, .int .u64 hi, .int .u64 lo] 25)) (.bool u) (.int .u64 r1) (.int .u64 r2) 25
    rw [show (w2.alloc (.cells #[.bool u, .int .u64 hi, .int .u64 lo] 25)).heap.size = w2.heap.size + 1 by simp] at P2
    have HQ := Lib.hid P2
    clear P2
    obtain ⟨a0, a1, a2, a3⟩ := HP.out
    go_wp2_with fail
    refine (hL.out _ _ _ _ _ _ _ ⟨A3.out, A4.out⟩).mono ?_
    rintro e w3 ⟨rfl, hb⟩
    clear a0 a1 a2 a3
    obtain ⟨a0, a1, a2, a3⟩ := ((HP.out.alloc _).alloc _).below hb
    obtain ⟨q0, q1, q2, q3⟩ := HQ.out.below hb
    replace HB := Lib.hid (btr (bal (bal HB.out _) _) hb)
    clear hb HP HQ
    rw [hx]
    go_wp2_with (go_at_call 47; refine (hL.out _ _ _ _ _ _ _ ⟨A5.out, A3.out⟩).mono ?_; rintro e w4 ⟨rfl, hb4⟩)
    go_ret
    first
      | exact ⟨rfl, btr HB.out hb4⟩
      | exact ⟨rfl, HB.out⟩
end Go.Proofs.YtojdlpiogbjfcaaGreatDoor

namespace Go.Proofs.YtojdlpiogbjfcaaGreatDoor
open Go.RowKit

/-- Prefixes that lie in a row behind a slice. -/
def Sl (w : World) (a : Option Addr) (ps : List Pf) : Prop :=
  ∀ j (h : j < ps.length), ∃ g o : Nat, a = some ⟨g, o, none⟩ ∧ g < w.heap.size ∧ w.cell? ⟨g, o + j * 4, none⟩ = some (.bool ps[j].v) ∧ w.cell? ⟨g, o + j * 4 + 1, none⟩ = some (.int .u64 ps[j].hi) ∧ w.cell? ⟨g, o + j * 4 + 2, none⟩ = some (.int .u64 ps[j].lo) ∧ w.cell? ⟨g, o + j * 4 + 3, none⟩ = some (.int .i64 ps[j].b)

theorem Sl.below {w w' : World} {a : Option Addr} {ps : List Pf} (h : Sl w a ps) (hb : Below w.heap.size w w') : Sl w' a ps := by
  intro j hj
  obtain ⟨g, o, e, hg, c0, c1, c2, c3⟩ := h j hj
  refine ⟨g, o, e, Nat.lt_of_lt_of_le hg hb.size, ?_, ?_, ?_, ?_⟩ <;> rw [(bcell hb).1 _ _ hg] <;> assumption

def Pf.cmp (p q : Pf) : Int := cmpP p.v p.hi p.lo p.b q.v q.hi q.lo q.b

theorem keepR {w W W' : World} {g o p : Nat} {v : Bool} {hi lo b : Int} {u : Bool} {yi yo c : Int}
    (h : (W.cell? ⟨p, 0, none⟩ = some (.bool v) ∧ W.cell? ⟨p, 1, none⟩ = some (.int .u64 hi) ∧ W.cell? ⟨p, 2, none⟩ = some (.int .u64 lo) ∧ W.cell? ⟨p, 3, none⟩ = some (.int .i64 b) ∧ p < W.heap.size) ∧ (W.cell? ⟨g, o, none⟩ = some (.bool u) ∧ W.cell? ⟨g, o + 1, none⟩ = some (.int .u64 yi) ∧ W.cell? ⟨g, o + 2, none⟩ = some (.int .u64 yo) ∧ W.cell? ⟨g, o + 3, none⟩ = some (.int .i64 c) ∧ g < W.heap.size) ∧ Below w.heap.size w W)
    (hb : Below W.heap.size W W') :
    (W'.cell? ⟨p, 0, none⟩ = some (.bool v) ∧ W'.cell? ⟨p, 1, none⟩ = some (.int .u64 hi) ∧ W'.cell? ⟨p, 2, none⟩ = some (.int .u64 lo) ∧ W'.cell? ⟨p, 3, none⟩ = some (.int .i64 b) ∧ p < W'.heap.size) ∧ (W'.cell? ⟨g, o, none⟩ = some (.bool u) ∧ W'.cell? ⟨g, o + 1, none⟩ = some (.int .u64 yi) ∧ W'.cell? ⟨g, o + 2, none⟩ = some (.int .u64 yo) ∧ W'.cell? ⟨g, o + 3, none⟩ = some (.int .i64 c) ∧ g < W'.heap.size) ∧ Below w.heap.size w W' := by
  obtain ⟨h1, ⟨a, b', c', d, f⟩, h3⟩ := h
  obtain ⟨k1, _⟩ := bcell hb
  exact ⟨Has4.below h1 hb, ⟨by rw [k1 _ _ f]; exact a, by rw [k1 _ _ f]; exact b', by rw [k1 _ _ f]; exact c', by rw [k1 _ _ f]; exact d, Nat.lt_of_lt_of_le f hb.size⟩, btr h3 hb⟩

def Pf.has (p q : Pf) : Bool := hasB p.v p.hi p.lo p.b q.v q.hi q.lo q.b

def Pf.R (p : Pf) : Prop := Right p.v p.hi p.lo p.b

theorem Sl.take {w : World} {a : Option Addr} {ps : List Pf} (h : Sl w a ps) (k : Nat) : Sl w a (ps.take k) := by
  intro j hj
  have hj' : j < ps.length := by rw [List.length_take] at hj; omega
  obtain ⟨g, o, e, hg, c⟩ := h j hj'
  refine ⟨g, o, e, hg, ?_⟩
  rw [List.getElem_take]
  exact c

def Pf.inA (p : Pf) (v : Bool) (xh xl : Int) : Bool := inB v xh xl p.v p.hi p.lo p.b

theorem row_base {w : World} {B B' e s n : Nat} {v : Value} {xs : List Value} (h : w.ownsRow B e s v n xs) (hB : B' ≤ B) : w.ownsRow B' e s v n xs := by
  obtain ⟨h1, h2⟩ := h
  refine ⟨h1, ?_⟩
  rcases h2 with h2 | ⟨g, c, cur, e1, e2, r⟩
  · exact .inl h2
  · exact .inr ⟨g, c, cur, e1, Nat.le_trans hB e2, r⟩

theorem row_nil (w : World) (B e s : Nat) : w.ownsRow B e s (.slice none 0 0) 0 [] := ⟨by simp, .inl ⟨rfl, rfl⟩⟩

theorem cmp_zero {v : Bool} {hi lo b : Int} {u : Bool} {yi yo c : Int} (r : Right v hi lo b) (q : Right u yi yo c) : cmpP v hi lo b u yi yo c = 0 ↔ v = u ∧ hi = yi ∧ lo = yo ∧ b = c := by
  have e1 := (less_num ⟨r.l0, r.l1⟩ ⟨q.l0, q.l1⟩ r.c q.c).2
  have e2 := (less_num ⟨q.l0, q.l1⟩ ⟨r.l0, r.l1⟩ q.c r.c).2
  unfold cmpP
  constructor
  · intro h
    split at h
    · exact absurd h (by decide)
    · rename_i h1
      split at h
      · exact absurd h (by decide)
      · rename_i h2
        rw [e1] at h1
        rw [e2] at h2
        have hbc : b = c := by unfold cmpN at h; split at h <;> (try split at h) <;> omega
        have huv : v = u := by
          cases v <;> cases u <;> simp at h1 h2 ⊢
        subst huv
        have hn : num hi lo = num yi yo := by simp at h1 h2; omega
        obtain ⟨x, y⟩ := num_inj r.l0 r.l1 q.l0 q.l1 hn
        exact ⟨rfl, x, y, hbc⟩
  · rintro ⟨rfl, rfl, rfl, rfl⟩
    have h1 : ¬ (lessB v hi lo v hi lo = true) := by rw [e1]; cases v <;> simp
    rw [if_neg h1, if_neg h1]
    simp [cmpN]

/-- What stands ahead, and which way around. -/
theorem cmp_turn {v : Bool} {hi lo b : Int} {u : Bool} {yi yo c : Int} (r : Right v hi lo b) (q : Right u yi yo c) : 0 < cmpP v hi lo b u yi yo c ↔ cmpP u yi yo c v hi lo b < 0 := by
  have e1 := (less_num ⟨r.l0, r.l1⟩ ⟨q.l0, q.l1⟩ r.c q.c).2
  have e2 := (less_num ⟨q.l0, q.l1⟩ ⟨r.l0, r.l1⟩ q.c r.c).2
  unfold cmpP
  cases h1 : lessB v hi lo u yi yo <;> cases h2 : lessB u yi yo v hi lo
  · simp only [Bool.false_eq_true, if_false]
    unfold cmpN
    split <;> split <;> (try split) <;> omega
  · simp
  · simp
  · rw [e1] at h1; rw [e2] at h2
    rcases h1 with ⟨rfl, h1⟩ | ⟨rfl, rfl⟩
    · rcases h2 with ⟨_, h2⟩ | ⟨h2, h3⟩
      · omega
      · rw [h2] at h3; exact absurd h3 (by decide)
    · rcases h2 with ⟨h2, _⟩ | ⟨h2, _⟩ <;> exact absurd h2 (by decide)

def Pf.n (p : Pf) : Int := num p.hi p.lo

theorem cmp_neg {p q : Pf} (r : p.R) (s : q.R) : p.cmp q < 0 ↔ (p.v = false ∧ q.v = true) ∨ (p.v = q.v ∧ (p.n < q.n ∨ (p.n = q.n ∧ p.b < q.b))) := by
  have e1 := (less_num ⟨r.l0, r.l1⟩ ⟨s.l0, s.l1⟩ r.c s.c).2
  have e2 := (less_num ⟨s.l0, s.l1⟩ ⟨r.l0, r.l1⟩ s.c r.c).2
  unfold Pf.cmp cmpP Pf.n
  by_cases h1 : lessB p.v p.hi p.lo q.v q.hi q.lo = true
  · rw [if_pos h1]
    rw [e1] at h1
    constructor
    · intro _
      rcases h1 with ⟨a, b⟩ | h1
      · exact .inr ⟨a, .inl b⟩
      · exact .inl h1
    · intro _; decide
  · rw [if_neg h1]
    by_cases h2 : lessB q.v q.hi q.lo p.v p.hi p.lo = true
    · rw [if_pos h2]
      rw [e2] at h2
      constructor
      · intro h; exact absurd h (by decide)
      · rintro (⟨a, b⟩ | ⟨a, b⟩)
        · rw [a, b] at h2; simp at h2
        · rcases h2 with ⟨_, h2⟩ | ⟨h2, h3⟩
          · omega
          · rw [h2, h3] at a; exact absurd a (by decide)
    · rw [if_neg h2]
      rw [e1] at h1
      rw [e2] at h2
      have hv : p.v = q.v := by
        revert h1 h2
        cases p.v <;> cases q.v <;> simp
      have hn : num p.hi p.lo = num q.hi q.lo := by
        have g1 : ¬ (num p.hi p.lo < num q.hi q.lo) := fun h => h1 (.inl ⟨hv, h⟩)
        have g2 : ¬ (num q.hi q.lo < num p.hi p.lo) := fun h => h2 (.inl ⟨hv.symm, h⟩)
        omega
      unfold cmpN
      constructor
      · intro h
        refine .inr ⟨hv, .inr ⟨hn, ?_⟩⟩
        split at h
        · assumption
        · split at h <;> exact absurd h (by decide)
      · rintro (⟨a, b⟩ | ⟨_, b | ⟨_, b⟩⟩)
        · rw [a, b] at hv; exact absurd hv (by decide)
        · omega
        · rw [if_pos b]; decide

theorem cmp_trans {p q s : Pf} (r1 : p.R) (r2 : q.R) (r3 : s.R) (h1 : p.cmp q < 0) (h2 : q.cmp s < 0) : p.cmp s < 0 := by
  rw [cmp_neg r1 r2] at h1
  rw [cmp_neg r2 r3] at h2
  rw [cmp_neg r1 r3]
  rcases h1 with ⟨a, b⟩ | ⟨a, b⟩
  · rcases h2 with ⟨c, d⟩ | ⟨c, d⟩
    · rw [b] at c; exact absurd c (by decide)
    · exact .inl ⟨a, by rw [← c]; exact b⟩
  · rcases h2 with ⟨c, d⟩ | ⟨c, d⟩
    · exact .inl ⟨by rw [a]; exact c, d⟩
    · refine .inr ⟨a.trans c, ?_⟩
      omega

theorem has_iff {p q : Pf} (r : p.R) (s : q.R) : p.has q = true ↔ p.b ≤ q.b ∧ q.v = p.v ∧ p.n ≤ q.n ∧ q.n < p.n + amt p.v p.b := has_num r s

theorem wid_pos (v : Bool) : 0 ≤ wid v := by unfold wid; split <;> omega

theorem amt_wid (v : Bool) : amt v (wid v) = 1 := by unfold amt; simp

/-- An address as a prefix. -/
theorem host_right {v : Bool} {xh xl : Int} (c : chk v xh xl = 0) (h0 : 0 ≤ xh) (h1 : xh < 18446744073709551616) (l0 : 0 ≤ xl) (l1 : xl < 18446744073709551616) : Right v xh xl (wid v) :=
  ⟨c, wid_pos v, Int.le_refl _, h0, h1, l0, l1, by rw [amt_wid]; exact Int.emod_one _⟩

theorem in_has {p : Pf} (r : p.R) {v : Bool} {xh xl : Int} (q : Right v xh xl (wid v)) : p.inA v xh xl = p.has ⟨v, xh, xl, wid v⟩ := by
  have hb1 := r.b1
  obtain ⟨n1, c1, _, l1⟩ := la_num r
  have e1 := (less_num ⟨q.l0, q.l1⟩ ⟨r.l0, r.l1⟩ q.c r.c).2
  have e2 := (less_num l1 ⟨q.l0, q.l1⟩ c1 q.c).2
  rw [Bool.eq_iff_iff, has_iff r (show Pf.R ⟨v, xh, xl, wid v⟩ from q)]
  unfold Pf.inA inB Pf.n
  simp only [Bool.and_eq_true, Bool.not_eq_true', Bool.eq_false_iff, ne_eq, e1, e2, n1]
  constructor
  · rintro ⟨g1, g2⟩
    have hv : v = p.v := by
      revert g1 g2
      cases v <;> cases p.v <;> simp
    refine ⟨by rw [hv]; exact hb1, hv, ?_, ?_⟩
    · rcases Int.lt_or_le (num xh xl) (num p.hi p.lo) with h | h
      · exact absurd (.inl ⟨hv, h⟩) g1
      · exact h
    · rcases Int.lt_or_le (num p.hi p.lo + amt p.v p.b - 1) (num xh xl) with h | h
      · exact absurd (.inl ⟨hv.symm, h⟩) g2
      · omega
  · rintro ⟨_, rfl, g3, g4⟩
    refine ⟨?_, ?_⟩
    · rintro (⟨_, h⟩ | ⟨h, h'⟩)
      · omega
      · exact h h'
    · rintro (⟨_, h⟩ | ⟨h, h'⟩)
      · omega
      · exact h h'

end Go.Proofs.YtojdlpiogbjfcaaGreatDoor

namespace Go.Proofs.YtojdlpiogbjfcaaGreatDoor
open Go.RowKit

theorem infoP : (Tryz.prog.info? 27).map (fun i => (i.zero, i.size, i.bytes)) = some (some (.agg #[.bool false, .int .u64 0, .int .u64 0, .int .i64 0]), 4, 32) := by kernel_rfl
/-- The cells of prefixes, one behind the other. -/
def flat : List Pf → List Value
  | [] => []
  | p :: r => .bool p.v :: .int .u64 p.hi :: .int .u64 p.lo :: .int .i64 p.b :: flat r
theorem flat_len : ∀ l : List Pf, (flat l).length = l.length * 4
  | [] => rfl
  | p :: r => by simp only [flat, List.length_cons, flat_len r]; omega
theorem flat_append : ∀ l r : List Pf, flat (l ++ r) = flat l ++ flat r
  | [], r => rfl
  | p :: l, r => by simp only [List.cons_append, flat, flat_append l r]
theorem flat_at : ∀ (l : List Pf) (j : Nat) (h : j < l.length), (flat l)[j * 4]? = some (.bool l[j].v) ∧ (flat l)[j * 4 + 1]? = some (.int .u64 l[j].hi) ∧ (flat l)[j * 4 + 2]? = some (.int .u64 l[j].lo) ∧ (flat l)[j * 4 + 3]? = some (.int .i64 l[j].b)
  | p :: r, 0, _ => by simp [flat]
  | p :: r, j + 1, h => by
    obtain ⟨a, b, c, d⟩ := flat_at r j (by simpa using h)
    simp only [flat, List.getElem_cons_succ]
    refine ⟨?_, ?_, ?_, ?_⟩
    · rw [show (j + 1) * 4 = j * 4 + 1 + 1 + 1 + 1 by omega]; simpa using a
    · rw [show (j + 1) * 4 + 1 = j * 4 + 1 + 1 + 1 + 1 + 1 by omega]; simpa using b
    · rw [show (j + 1) * 4 + 2 = j * 4 + 2 + 1 + 1 + 1 + 1 by omega]; simpa using c
    · rw [show (j + 1) * 4 + 3 = j * 4 + 3 + 1 + 1 + 1 + 1 by omega]; simpa using d
theorem flat_one (l : List Pf) : ∀ u ∈ flat l, u.oneCell' = true := by
  induction l with
  | nil => simp [flat]
  | cons p r ih =>
    intro u hu
    simp only [flat, List.mem_cons] at hu
    rcases hu with rfl | rfl | rfl | rfl | hu
    · rfl
    · rfl
    · rfl
    · rfl
    · exact ih u hu
theorem flat_take (l : List Pf) (k : Nat) : flat (l.take k) = (flat l).take (k * 4) := by
  induction l generalizing k with
  | nil => simp [flat]
  | cons p r ih =>
    cases k with
    | zero => simp [flat]
    | succ k => simp only [List.take_succ_cons, flat, ih, show (k + 1) * 4 = k * 4 + 1 + 1 + 1 + 1 by omega, List.take_succ_cons]

/-- What a row of one's own is: a slice of prefixes. -/
theorem own_sl {w : World} {B : Nat} {v : Value} {L : List Pf} (h : w.ownsRow B 27 4 v L.length (flat L)) : ∃ a c, v = .slice a L.length c ∧ L.length ≤ c ∧ Sl w a L := by
  obtain ⟨h1, h2⟩ := h
  rcases h2 with ⟨rfl, h2⟩ | ⟨g, c, cur, rfl, _, hc, h3, h4, h5, h6⟩
  · have : L = [] := List.length_eq_zero_iff.1 h2
    subst this
    exact ⟨none, 0, rfl, Nat.le_refl _, fun j hj => by simp at hj⟩
  · refine ⟨_, c, rfl, h3, fun j hj => ⟨g, 0, rfl, (Array.getElem?_eq_some_iff.1 hc).1, ?_⟩⟩
    have key : ∀ k, k < L.length * 4 → w.cell? ⟨g, k, none⟩ = (flat L)[k]? := fun k hk => by
      have hj2 : (cur.toList.take (L.length * 4))[k]? = (flat L)[k]? := by rw [h6]
      rw [List.getElem?_take_of_lt hk] at hj2
      simp [World.cell?, hc]
      simpa using hj2
    obtain ⟨a, b, c', d⟩ := flat_at L j hj
    simp only [Nat.zero_add]
    refine ⟨?_, ?_, ?_, ?_⟩
    · rw [key _ (by omega)]; exact a
    · rw [key _ (by omega)]; exact b
    · rw [key _ (by omega)]; exact c'
    · rw [key _ (by omega)]; exact d
theorem add_addr (b o k : Nat) : (⟨b, o, none⟩ : Addr).add k = ⟨b, o + k, none⟩ := by
  unfold Addr.add
  split
  · rename_i h; rw [h]; rfl
  · rfl
/-- The cells of a slice of prefixes, as append wants them. -/
theorem sl_news {w : World} {g o : Nat} {ps : List Pf} (h : Sl w (some ⟨g, o, none⟩) ps) : ∀ j u, (flat ps)[j]? = some u → w.cell? ((⟨g, o, none⟩ : Addr).add j) = some u := by
  intro j u hj
  have hlt : j < (flat ps).length := (List.getElem?_eq_some_iff.1 hj).1
  rw [flat_len] at hlt
  have hm : j / 4 < ps.length := by omega
  obtain ⟨g', o', e, _, c0, c1, c2, c3⟩ := h (j / 4) hm
  obtain ⟨rfl, rfl⟩ : g = g' ∧ o = o' := by simpa using e
  obtain ⟨a, b, c, d⟩ := flat_at ps (j / 4) hm
  rw [add_addr]
  rw [← hj]
  have h4 : j % 4 = 0 ∨ j % 4 = 1 ∨ j % 4 = 2 ∨ j % 4 = 3 := by omega
  rcases h4 with h4 | h4 | h4 | h4
  · rw [show o + j = o + j / 4 * 4 by omega, c0, show (flat ps)[j]? = (flat ps)[j / 4 * 4]? by congr 1; omega]; rw [a]
  · rw [show o + j = o + j / 4 * 4 + 1 by omega, c1, show (flat ps)[j]? = (flat ps)[j / 4 * 4 + 1]? by congr 1; omega]; rw [b]
  · rw [show o + j = o + j / 4 * 4 + 2 by omega, c2, show (flat ps)[j]? = (flat ps)[j / 4 * 4 + 2]? by congr 1; omega]; rw [c]
  · rw [show o + j = o + j / 4 * 4 + 3 by omega, c3, show (flat ps)[j]? = (flat ps)[j / 4 * 4 + 3]? by congr 1; omega]; rw [d]
theorem row_empty (w : World) : (w.alloc (.cells #[] 27)).ownsRow w.heap.size 27 4 (.slice (some ⟨w.heap.size, 0, none⟩) 0 0) 0 [] :=
  ⟨by simp, .inr ⟨w.heap.size, 0, #[], rfl, Nat.le_refl _, heap_alloc_new w _, Nat.le_refl _, Nat.zero_le _, by simp, by simp⟩⟩

/-- append in a region that draws. -/
theorem step_append_own {P : Program} {w : World} {ops : Array Oper} {o : Oper} {a : Act} {K : Act → World → Prop} {Q : Exit → Act → World → Prop} {E : Prop} (hgd : o.guard = none) (s x : Operand) (t : TypeId)
    (ho : o.op = .call { callee := .builtin .append, args := #[s, x], argTypes := #[t, t] })
    (base : Nat) (e : TypeId) (i : TypeInfo) (z : Value) (size bytes : Nat) (ht : P.underlying t = some (.slice e)) (hi : P.info? e = some i) (hz : i.zero = some z)
    (hsize : i.size = size) (hby : i.bytes = bytes) (hzs : z.cells.size = size) (hsz : 0 < size)
    (v : Value) (n : Nat) (xs : List Value) (hs : a.eval s = v) (hown : w.ownsRow base e size v n xs)
    (ad : Addr) (m c : Nat) (news : List Value) (hx : a.eval x = .slice (some ad) m c) (hl : news.length = m * size) (hnews : ∀ j u, news[j]? = some u → w.cell? (ad.add j) = some u) (h1 : ∀ u ∈ news, u.oneCell' = true)
    (h63 : n + m ≤ maxLen) (hbytes : (n + m) * bytes ≤ 140737488355328) (hbase : base ≤ w.heap.size)
    (h : ∀ v' w', w'.ownsRow base e size v' (n + m) (xs ++ news) → w.grownBy w' v.ownBlock → (v' = .slice none 0 0 ↔ v = .slice none 0 0 ∧ m = 0) → K (a.put o.dst v') w') :
    if Region.wanted o (yielded ops a.tmps) = true then Oper.wp P o a w K Q else E := by
  have hw : Region.wanted o (yielded ops a.tmps) = true := by simp [Region.wanted, hgd]
  rw [if_pos hw]
  exact wp_append_own w s x t ho base e i z size bytes ht hi hz hsize hby hzs hsz v n xs hs hown ad m c news hx hl hnews h1 h63 hbytes hbase h
theorem Sl.drop {w : World} {g o : Nat} {ps : List Pf} (h : Sl w (some ⟨g, o, none⟩) ps) (k : Nat) : Sl w (some ⟨g, o + k * 4, none⟩) (ps.drop k) := by
  intro j hj
  have hj' : k + j < ps.length := by rw [List.length_drop] at hj; omega
  obtain ⟨g', o', e, hg, c⟩ := h (k + j) hj'
  obtain ⟨rfl, rfl⟩ : g = g' ∧ o = o' := by simpa using e
  refine ⟨g, o + k * 4, rfl, hg, ?_⟩
  rw [List.getElem_drop]
  rw [show o + k * 4 + j * 4 = o + (k + j) * 4 by omega]
  exact c
theorem has3_upto {w w' : World} {B p : Nat} {x y z : Value} (h : Has3 w p x y z) (hp : p < B) (hb : Below B w w') : Has3 w' p x y z :=
  ⟨by rw [hb.cell (p := ⟨p, 0, none⟩) hp]; exact h.1, by rw [hb.cell (p := ⟨p, 1, none⟩) hp]; exact h.2.1, by rw [hb.cell (p := ⟨p, 2, none⟩) hp]; exact h.2.2.1, Nat.lt_of_lt_of_le h.2.2.2 hb.size⟩
theorem own_keep {w w' : World} {B e s n : Nat} {v : Value} {xs : List Value} (h : w.ownsRow B e s v n xs) (hb : Below w.heap.size w w') : w'.ownsRow B e s v n xs := by
  obtain ⟨h1, h2⟩ := h
  refine ⟨h1, ?_⟩
  rcases h2 with h2 | ⟨g, c, cur, e1, e2, hc, r⟩
  · exact .inl h2
  · exact .inr ⟨g, c, cur, e1, e2, (hb.block g (Array.getElem?_eq_some_iff.1 hc).1).trans hc, r⟩
theorem below_le {B B' : Nat} {w w' : World} (h : Below B' w w') (hB : B ≤ B') : Below B w w' := ⟨h.os, h.tape, h.output, h.size, fun k hk => h.block k (by omega)⟩
end Go.Proofs.YtojdlpiogbjfcaaGreatDoor

namespace Go.Proofs.YtojdlpiogbjfcaaGreatDoor

structure Nd where
  v : Bool
  n : Int
  h : Nat

namespace Nd
def w (p : Nd) : Int := 2 ^ p.h
def Ok (p : Nd) : Prop := p.n % p.w = 0
def In (p : Nd) (v : Bool) (x : Int) : Prop := p.v = v ∧ p.n ≤ x ∧ x < p.n + p.w
abbrev Has (p q : Nd) : Prop := q.v = p.v ∧ q.h ≤ p.h ∧ p.n ≤ q.n ∧ q.n < p.n + p.w
/-- The lesser and the greater half of one. -/
abbrev Sib (p q : Nd) : Prop := q.v = p.v ∧ q.h = p.h ∧ q.n = p.n + p.w ∧ p.n % (2 * p.w) = 0
def up (p : Nd) : Nd := ⟨p.v, p.n, p.h + 1⟩
def lo (p : Nd) : Nd := ⟨p.v, p.n, p.h - 1⟩
def hi (p : Nd) : Nd := ⟨p.v, p.n + 2 ^ (p.h - 1), p.h - 1⟩
def Ahead (p q : Nd) : Prop := (p.v = false ∧ q.v = true) ∨ (p.v = q.v ∧ p.n + p.w ≤ q.n)
/-- The order of a list that rises: by the address, then the wider one first. -/
def Le (p q : Nd) : Prop := (p.v = false ∧ q.v = true) ∨ (p.v = q.v ∧ (p.n < q.n ∨ (p.n = q.n ∧ q.h ≤ p.h)))

theorem w_pos (p : Nd) : 0 < p.w := Int.pow_pos (by decide)
theorem w_le {p q : Nd} (h : p.h ≤ q.h) : p.w ≤ q.w := by
  obtain ⟨k, hk⟩ : ∃ k, q.h = p.h + k := ⟨q.h - p.h, by omega⟩
  unfold w
  rw [hk, Int.pow_add]
  have h1 : (0 : Int) < 2 ^ p.h := Int.pow_pos (by decide)
  have h2 : (0 : Int) < 2 ^ k := Int.pow_pos (by decide)
  have := Int.mul_le_mul_of_nonneg_left (show (1 : Int) ≤ 2 ^ k by omega) (Int.le_of_lt h1)
  omega
theorem w_mod {p q : Nd} (h : p.h ≤ q.h) {x : Int} (hx : x % q.w = 0) : x % p.w = 0 := by
  obtain ⟨k, hk⟩ : ∃ k, q.h = p.h + k := ⟨q.h - p.h, by omega⟩
  unfold w at *
  rw [hk, Int.pow_add] at hx
  exact Int.emod_eq_zero_of_dvd (Int.dvd_trans (Int.dvd_mul_right _ _) (Int.dvd_of_emod_eq_zero hx))
theorem w_self (p q : Nd) (h : p.h ≤ q.h) : q.w % p.w = 0 := w_mod h (Int.emod_self)
theorem step {a x m : Int} (ha : 0 < a) (hx : x % a = 0) (hm : m % a = 0) (h : x < m) : x + a ≤ m := by
  obtain ⟨k, rfl⟩ := Int.dvd_of_emod_eq_zero hx
  obtain ⟨l, rfl⟩ := Int.dvd_of_emod_eq_zero hm
  have : k < l := Int.lt_of_mul_lt_mul_left h (Int.le_of_lt ha)
  have := Int.mul_le_mul_of_nonneg_left (show k + 1 ≤ l by omega) (Int.le_of_lt ha)
  rw [Int.mul_add, Int.mul_one] at this
  exact this
theorem mod_add {x y a : Int} (h : x % a = 0) (h' : y % a = 0) : (x + y) % a = 0 := Int.emod_eq_zero_of_dvd (Int.dvd_add (Int.dvd_of_emod_eq_zero h) (Int.dvd_of_emod_eq_zero h'))

theorem has_end {p q : Nd} (op : p.Ok) (oq : q.Ok) (h : p.Has q) : q.n + q.w ≤ p.n + p.w := by
  obtain ⟨_, h1, _, h3⟩ := h
  exact step q.w_pos oq (mod_add (w_mod h1 op) (w_self q p h1)) h3
theorem in_self (p : Nd) : p.In p.v p.n := ⟨rfl, Int.le_refl _, by have := p.w_pos; omega⟩
theorem has_in {p q : Nd} (op : p.Ok) (oq : q.Ok) (h : p.Has q) {v x} (hx : q.In v x) : p.In v x := by
  have := has_end op oq h
  obtain ⟨h0, _, h2, _⟩ := h
  obtain ⟨a, b, c⟩ := hx
  exact ⟨h0 ▸ a, by omega, by omega⟩
theorem has_refl (p : Nd) : p.Has p := ⟨rfl, Nat.le_refl _, Int.le_refl _, by have := p.w_pos; omega⟩
theorem has_trans {p q r : Nd} (op : p.Ok) (oq : q.Ok) (h : p.Has q) (h' : q.Has r) : p.Has r := by
  have := has_end op oq h
  obtain ⟨a, b, c, d⟩ := h
  obtain ⟨a', b', c', d'⟩ := h'
  exact ⟨a'.trans a, by omega, by omega, by omega⟩
theorem same_h {p q : Nd} (op : p.Ok) (oq : q.Ok) (h : p.Has q) (hh : p.h ≤ q.h) : p = q := by
  have he := has_end op oq h
  obtain ⟨a, b, c, d⟩ := h
  have e : p.h = q.h := by omega
  have ew : p.w = q.w := by unfold w; rw [e]
  have : p.n = q.n := by omega
  cases p; cases q; simp_all
theorem has_anti {p q : Nd} (op : p.Ok) (oq : q.Ok) (h : p.Has q) (h' : q.Has p) : p = q := same_h op oq h h'.2.1
theorem meet' {p q : Nd} (op : p.Ok) (oq : q.Ok) {v x} (hp : p.In v x) (hq : q.In v x) (hh : q.h ≤ p.h) : p.Has q := by
  obtain ⟨a, b, c⟩ := hp
  obtain ⟨a', b', c'⟩ := hq
  refine ⟨a'.trans a.symm, hh, ?_, by omega⟩
  rcases Int.lt_or_le q.n p.n with h | h
  · have := step q.w_pos oq (w_mod hh op) h
    omega
  · exact h
theorem meet {p q : Nd} (op : p.Ok) (oq : q.Ok) {v x} (hp : p.In v x) (hq : q.In v x) : p.Has q ∨ q.Has p := by
  rcases Nat.le_total q.h p.h with h | h
  · exact .inl (meet' op oq hp hq h)
  · exact .inr (meet' oq op hq hp h)

theorem w_lo {p : Nd} (h : 0 < p.h) : p.w = 2 * p.lo.w := by
  obtain ⟨k, hk⟩ : ∃ k, p.h = k + 1 := ⟨p.h - 1, by omega⟩
  unfold w lo
  simp only
  rw [hk, Nat.add_sub_cancel, Int.pow_succ]; omega
theorem w_hi (p : Nd) : p.hi.w = p.lo.w := rfl
theorem n_hi (p : Nd) : p.hi.n = p.n + p.lo.w := rfl
theorem lo_ok {p : Nd} (op : p.Ok) : p.lo.Ok := w_mod (p := p.lo) (q := p) (by unfold lo; simp) op
theorem hi_ok {p : Nd} (op : p.Ok) : p.hi.Ok := mod_add (w_mod (p := p.hi) (q := p) (by unfold hi; simp) op) (by show p.hi.w % p.hi.w = 0; exact Int.emod_self)
theorem in_halves {p : Nd} (h : 0 < p.h) {v x} : p.In v x ↔ p.lo.In v x ∨ p.hi.In v x := by
  have e := w_lo h
  have e1 := n_hi p
  have e2 := w_hi p
  have e3 : p.lo.n = p.n := rfl
  have := p.lo.w_pos
  unfold In
  have v1 : p.lo.v = p.v := rfl
  have v2 : p.hi.v = p.v := rfl
  rw [v1, v2, e1, e2, e3, e]
  constructor
  · rintro ⟨a, b, c⟩
    rcases Int.lt_or_le x (p.n + p.lo.w) with h | h
    · exact .inl ⟨a, b, h⟩
    · exact .inr ⟨a, h, by omega⟩
  · rintro (⟨a, b, c⟩ | ⟨a, b, c⟩)
    · exact ⟨a, b, by omega⟩
    · exact ⟨a, by omega, by omega⟩
theorem has_lo {p : Nd} (h : 0 < p.h) : p.Has p.lo := ⟨rfl, by unfold lo; simp, Int.le_refl _, by have := p.w_pos; show p.n < p.n + p.w; omega⟩
theorem has_hi {p : Nd} (h : 0 < p.h) : p.Has p.hi := ⟨rfl, by unfold hi; simp, by rw [n_hi]; have := p.lo.w_pos; omega, by rw [n_hi, w_lo h]; have := p.lo.w_pos; omega⟩
/-- What has a half is that half, or has the whole. -/
theorem over_half {p q r : Nd} (op : p.Ok) (oq : q.Ok) (or : r.Ok) (hq : p.Has q) (hh : q.h + 1 = p.h) (h : r.Has q) : r = q ∨ r.Has p := by
  have h1 := has_in op oq hq (in_self q)
  have h2 := has_in or oq h (in_self q)
  rcases Nat.lt_or_ge q.h r.h with hl | hl
  · exact .inr (meet' or op h2 h1 (by omega))
  · exact .inl (same_h or oq h hl)
theorem sib_ok {p q : Nd} (h : p.Sib q) : p.up.Ok := by
  obtain ⟨_, _, _, h⟩ := h
  unfold Ok
  show p.n % p.up.w = 0
  rw [show p.up.w = 2 * p.w by unfold w up; simp only; rw [Int.pow_succ]; omega]
  exact h
theorem w_up (p : Nd) : p.up.w = 2 * p.w := by unfold w up; simp only; rw [Int.pow_succ]; omega
theorem sib_in {p q : Nd} (h : p.Sib q) {v x} : p.up.In v x ↔ p.In v x ∨ q.In v x := by
  obtain ⟨a, b, c, _⟩ := h
  have e := w_up p
  have e2 : q.w = p.w := by unfold w; rw [b]
  have e3 : p.up.n = p.n := rfl
  have e4 : p.up.v = p.v := rfl
  have := p.w_pos
  unfold In
  rw [e, e3, e4, a, c, e2]
  constructor
  · rintro ⟨a, b, c⟩
    rcases Int.lt_or_le x (p.n + p.w) with h | h
    · exact .inl ⟨a, b, h⟩
    · exact .inr ⟨a, h, by omega⟩
  · rintro (⟨a, b, c⟩ | ⟨a, b, c⟩)
    · exact ⟨a, b, by omega⟩
    · exact ⟨a, by omega, by omega⟩
theorem halves_sib {p : Nd} (op : p.Ok) (h : 0 < p.h) : p.lo.Sib p.hi := ⟨rfl, rfl, n_hi p, by rw [← w_lo h]; exact op⟩
end Nd

/-- The addresses of a list. -/
def Adr (L : List Nd) (v : Bool) (x : Int) : Prop := ∃ p ∈ L, p.In v x
def Nrm (L : List Nd) : Prop := (∀ p ∈ L, p.Ok) ∧ L.Pairwise fun p q => p.Ahead q ∧ ¬ p.Sib q

theorem pair_mem {α : Type} {R : α → α → Prop} : ∀ {L : List α}, L.Pairwise R → ∀ {a b}, a ∈ L → b ∈ L → a = b ∨ R a b ∨ R b a
  | [], _, a, b, h, _ => by simp at h
  | c :: L, h, a, b, ha, hb => by
    obtain ⟨h1, h2⟩ := List.pairwise_cons.1 h
    rcases List.mem_cons.1 ha with ea | ha'
    · rcases List.mem_cons.1 hb with eb | hb'
      · exact .inl (ea.trans eb.symm)
      · exact .inr (.inl (ea ▸ h1 _ hb'))
    · rcases List.mem_cons.1 hb with eb | hb'
      · exact .inr (.inr (eb ▸ h1 _ ha'))
      · exact pair_mem h2 ha' hb'
theorem ahead_irr {p : Nd} (h : p.Ahead p) : False := by
  have := p.w_pos
  rcases h with ⟨a, b⟩ | ⟨_, b⟩
  · rw [a] at b; exact absurd b (by decide)
  · omega
theorem ahead_asym {p q : Nd} (h : p.Ahead q) (h' : q.Ahead p) : False := by
  have h1 := p.w_pos
  have h2 := q.w_pos
  rcases h with ⟨a, b⟩ | ⟨a, b⟩ <;> rcases h' with ⟨a', b'⟩ | ⟨a', b'⟩
  · rw [a] at b'; exact absurd b' (by decide)
  · rw [a, b] at a'; exact absurd a' (by decide)
  · rw [a', b'] at a; exact absurd a (by decide)
  · omega
theorem ahead_apart {p q : Nd} (h : p.Ahead q) {v x} (hp : p.In v x) (hq : q.In v x) : False := by
  obtain ⟨a, b, c⟩ := hp
  obtain ⟨a', b', c'⟩ := hq
  rcases h with ⟨d, e⟩ | ⟨d, e⟩
  · rw [← a'] at a; rw [a, e] at d; exact absurd d (by decide)
  · omega

theorem Nrm.cover {L : List Nd} (hL : Nrm L) : ∀ (k : Nat) (q : Nd), q.h = k → q.Ok → (∀ v x, q.In v x → Adr L v x) → ∃ p ∈ L, p.Has q
  | 0, q, hk, oq, h => by
    obtain ⟨p, hp, hx⟩ := h _ _ q.in_self
    exact ⟨p, hp, Nd.meet' (hL.1 p hp) oq hx q.in_self (by omega)⟩
  | k + 1, q, hk, oq, h => by
    have h0 : 0 < q.h := by omega
    obtain ⟨p1, m1, a1⟩ := Nrm.cover hL k q.lo (by simp [Nd.lo, hk]) (Nd.lo_ok oq) (fun v x hx => h v x ((Nd.in_halves h0).2 (.inl hx)))
    obtain ⟨p2, m2, a2⟩ := Nrm.cover hL k q.hi (by simp [Nd.hi, hk]) (Nd.hi_ok oq) (fun v x hx => h v x ((Nd.in_halves h0).2 (.inr hx)))
    rcases Nd.over_half oq (Nd.lo_ok oq) (hL.1 _ m1) (Nd.has_lo h0) (by simp [Nd.lo]; omega) a1 with e1 | e1
    · rcases Nd.over_half oq (Nd.hi_ok oq) (hL.1 _ m2) (Nd.has_hi h0) (by simp [Nd.hi]; omega) a2 with e2 | e2
      · exfalso
        subst e1 e2
        have hs := Nd.halves_sib oq h0
        rcases pair_mem hL.2 m1 m2 with e | e | e
        · have := congrArg Nd.n e
          rw [Nd.n_hi] at this
          have h1 := q.lo.w_pos
          have : q.lo.n = q.n := rfl
          omega
        · exact e.2 hs
        · have hb : q.lo.Ahead q.hi := .inr ⟨rfl, by rw [Nd.n_hi]; exact Int.le_refl _⟩
          exact ahead_asym hb e.1
      · exact ⟨p2, m2, e2⟩
    · exact ⟨p1, m1, e1⟩

theorem list_uniq {α : Type} {R : α → α → Prop} (irr : ∀ a, ¬ R a a) (asy : ∀ a b, R a b → ¬ R b a) : ∀ {L M : List α}, L.Pairwise R → M.Pairwise R → (∀ a, a ∈ L ↔ a ∈ M) → L = M
  | [], [], _, _, _ => rfl
  | [], b :: M, _, _, h => by have := (h b).2 (by simp); simp at this
  | a :: L, [], _, _, h => by have := (h a).1 (by simp); simp at this
  | a :: L, b :: M, hl, hm, h => by
    obtain ⟨l1, l2⟩ := List.pairwise_cons.1 hl
    obtain ⟨m1, m2⟩ := List.pairwise_cons.1 hm
    have e : a = b := by
      rcases List.mem_cons.1 ((h a).1 (by simp)) with e | e
      · exact e
      · rcases List.mem_cons.1 ((h b).2 (by simp)) with e' | e'
        · exact e'.symm
        · exact absurd (m1 _ e) (asy _ _ (l1 _ e'))
    subst e
    rw [list_uniq irr asy l2 m2 fun c => ?_]
    constructor
    · intro hc
      rcases List.mem_cons.1 ((h c).1 (by simp [hc])) with e | e
      · subst e; exact absurd (l1 _ hc) (irr _)
      · exact e
    · intro hc
      rcases List.mem_cons.1 ((h c).2 (by simp [hc])) with e | e
      · subst e; exact absurd (m1 _ hc) (irr _)
      · exact e

theorem Nrm.has_mem {L : List Nd} (hL : Nrm L) {p q : Nd} (hp : p ∈ L) (hq : q ∈ L) (h : p.Has q) : p = q := by
  have hx := Nd.has_in (hL.1 p hp) (hL.1 q hq) h q.in_self
  rcases pair_mem hL.2 hp hq with e | e | e
  · exact e
  · exact absurd hx (fun h => ahead_apart e.1 h q.in_self)
  · exact absurd hx (fun h => ahead_apart e.1 q.in_self h)
theorem Nrm.sub {L M : List Nd} (hL : Nrm L) (hM : Nrm M) (h : ∀ v x, Adr L v x ↔ Adr M v x) {p : Nd} (hp : p ∈ L) : p ∈ M := by
  obtain ⟨r, hr, h1⟩ := hM.cover p.h p rfl (hL.1 p hp) (fun v x hx => (h v x).1 ⟨p, hp, hx⟩)
  obtain ⟨s, hs, h2⟩ := hL.cover r.h r rfl (hM.1 r hr) (fun v x hx => (h v x).2 ⟨r, hr, hx⟩)
  have e := hL.has_mem hs hp (Nd.has_trans (hL.1 s hs) (hM.1 r hr) h2 h1)
  subst e
  rw [Nd.has_anti (hL.1 s hs) (hM.1 r hr) h2 h1]
  exact hr
/-- A list that is as short as may be hangs on nothing but its addresses. -/
theorem Nrm.uniq {L M : List Nd} (hL : Nrm L) (hM : Nrm M) (h : ∀ v x, Adr L v x ↔ Adr M v x) : L = M :=
  list_uniq (R := fun p q => Nd.Ahead p q ∧ ¬ Nd.Sib p q) (fun a h => ahead_irr h.1) (fun a b h h' => ahead_asym h.1 h'.1) hL.2 hM.2 fun a => ⟨hL.sub hM h, hM.sub hL fun v x => (h v x).symm⟩

/-- A list and one more, ahead of none; the list's last one stands first here. -/
def putN : List Nd → Nd → List Nd
  | [], p => [p]
  | e :: r, p => if e.Has p then e :: r else if e.Sib p then putN r e.up else p :: e :: r
def NrmR (L : List Nd) : Prop := (∀ p ∈ L, p.Ok) ∧ L.Pairwise fun q p => p.Ahead q ∧ ¬ p.Sib q

theorem le_refl' (p : Nd) : p.Le p := .inr ⟨rfl, .inr ⟨rfl, Nat.le_refl _⟩⟩
theorem le_cases {e p : Nd} (oe : e.Ok) (op : p.Ok) (h : e.Le p) : e.Has p ∨ e.Ahead p := by
  rcases h with h | ⟨hv, h⟩
  · exact .inr (.inl h)
  · rcases Nat.le_total p.h e.h with hh | hh
    · rcases Int.lt_or_le p.n (e.n + e.w) with h1 | h1
      · exact .inl ⟨hv.symm, hh, by omega, h1⟩
      · exact .inr (.inr ⟨hv, h1⟩)
    · rcases h with h | ⟨h, h'⟩
      · exact .inr (.inr ⟨hv, Nd.step e.w_pos oe (Nd.w_mod hh op) h⟩)
      · exact .inl ⟨hv.symm, h', by omega, by have := e.w_pos; omega⟩
theorem ahead_le {p q : Nd} (h : p.Ahead q) : p.Le q := by
  have := p.w_pos
  rcases h with h | ⟨hv, h⟩
  · exact .inl h
  · exact .inr ⟨hv, .inl (by omega)⟩
theorem ahead_trans {p q r : Nd} (h : p.Ahead q) (h' : q.Ahead r) : p.Ahead r := by
  have := q.w_pos
  rcases h with ⟨a, b⟩ | ⟨a, b⟩ <;> rcases h' with ⟨a', b'⟩ | ⟨a', b'⟩
  · exact .inl ⟨a, b'⟩
  · exact .inl ⟨a, a' ▸ b⟩
  · exact .inl ⟨a.trans a', b'⟩
  · exact .inr ⟨a.trans a', by omega⟩
theorem up_le {e q : Nd} (h : e.Le q) : e.up.Le q := by
  rcases h with h | ⟨hv, h | ⟨h, h'⟩⟩
  · exact .inl h
  · exact .inr ⟨hv, .inl h⟩
  · exact .inr ⟨hv, .inr ⟨h, by show q.h ≤ e.h + 1; omega⟩⟩
theorem ahead_up {e p : Nd} (h : p.Ahead e) : p.Ahead e.up := h
/-- Halves of one that have something between them are none. -/
theorem far_sib {f e p : Nd} (h1 : f.Ahead e) (h2 : e.Ahead p) : ¬ f.Sib p := by
  rintro ⟨a, b, c, _⟩
  have := e.w_pos
  rcases h1 with ⟨d, d'⟩ | ⟨d, d'⟩ <;> rcases h2 with ⟨g, g'⟩ | ⟨g, g'⟩
  · rw [d'] at g; exact absurd g (by decide)
  · rw [← g, d', d] at a; exact absurd a (by decide)
  · rw [← d, ← a, g'] at g; exact absurd g (by decide)
  · omega

theorem putN_le : ∀ (r : List Nd) (p q : Nd), p.Le q → (∀ e ∈ r, e.Le q) → ∀ e ∈ putN r p, e.Le q
  | [], p, q, hp, _, e, he => by simp [putN] at he; subst he; exact hp
  | f :: r, p, q, hp, hr, e, he => by
    rw [putN] at he
    split at he
    · exact hr e he
    · split at he
      · exact putN_le r f.up q (up_le (hr f (by simp))) (fun e he => hr e (by simp [he])) e he
      · rcases List.mem_cons.1 he with rfl | he
        · exact hp
        · exact hr e he
theorem putN_nrm : ∀ (r : List Nd) (p : Nd), NrmR r → p.Ok → (∀ e ∈ r, e.Le p) → NrmR (putN r p) ∧ ∀ v x, Adr (putN r p) v x ↔ Adr r v x ∨ p.In v x
  | [], p, _, op, _ => by
    refine ⟨⟨fun q hq => ?_, ?_⟩, fun v x => ?_⟩
    · simp [putN] at hq; subst hq; exact op
    · simp [putN]
    · simp [putN, Adr]
  | e :: r, p, hr, op, hl => by
    have oe : e.Ok := hr.1 e (by simp)
    obtain ⟨p1, p2⟩ := List.pairwise_cons.1 hr.2
    rw [putN]
    by_cases h : e.Has p
    · rw [if_pos h]
      refine ⟨hr, fun v x => ⟨.inl, ?_⟩⟩
      rintro (h' | h')
      · exact h'
      · exact ⟨e, by simp, Nd.has_in oe op h h'⟩
    rw [if_neg h]
    have ha : e.Ahead p := (le_cases oe op (hl e (by simp))).resolve_left h
    by_cases hs : e.Sib p
    · rw [if_pos hs]
      obtain ⟨g1, g2⟩ := putN_nrm r e.up ⟨fun q hq => hr.1 q (by simp [hq]), p2⟩ (Nd.sib_ok hs) (fun f hf => ahead_le (ahead_up (p1 f hf).1))
      refine ⟨g1, fun v x => ?_⟩
      rw [g2, Nd.sib_in hs]
      constructor
      · rintro (⟨q, hq, hx⟩ | hx | hx)
        · exact .inl ⟨q, by simp [hq], hx⟩
        · exact .inl ⟨e, by simp, hx⟩
        · exact .inr hx
      · rintro (⟨q, hq, hx⟩ | hx)
        · rcases List.mem_cons.1 hq with rfl | hq
          · exact .inr (.inl hx)
          · exact .inl ⟨q, hq, hx⟩
        · exact .inr (.inr hx)
    · rw [if_neg hs]
      refine ⟨⟨fun q hq => ?_, ?_⟩, fun v x => ?_⟩
      · rcases List.mem_cons.1 hq with rfl | hq
        · exact op
        · exact hr.1 q hq
      · refine List.pairwise_cons.2 ⟨fun q hq => ?_, hr.2⟩
        rcases List.mem_cons.1 hq with rfl | hq
        · exact ⟨ha, hs⟩
        · exact ⟨ahead_trans (p1 q hq).1 ha, far_sib (p1 q hq).1 ha⟩
      · constructor
        · rintro ⟨q, hq, hx⟩
          rcases List.mem_cons.1 hq with rfl | hq
          · exact .inr hx
          · exact .inl ⟨q, hq, hx⟩
        · rintro (⟨q, hq, hx⟩ | hx)
          · exact ⟨q, by simp only [List.mem_cons] at hq ⊢; exact .inr hq, hx⟩
          · exact ⟨p, by simp, hx⟩
theorem foldN_nrm : ∀ (S r : List Nd), NrmR r → (∀ p ∈ S, p.Ok) → S.Pairwise Nd.Le → (∀ e ∈ r, ∀ p ∈ S, e.Le p) → NrmR (S.foldl putN r) ∧ ∀ v x, Adr (S.foldl putN r) v x ↔ Adr r v x ∨ Adr S v x
  | [], r, hr, _, _, _ => ⟨hr, fun v x => by simp [Adr]⟩
  | p :: S, r, hr, ho, hs, hl => by
    obtain ⟨s1, s2⟩ := List.pairwise_cons.1 hs
    obtain ⟨g1, g2⟩ := putN_nrm r p hr (ho p (by simp)) (fun e he => hl e he p (by simp))
    obtain ⟨k1, k2⟩ := foldN_nrm S (putN r p) g1 (fun q hq => ho q (by simp [hq])) s2 (fun e he q hq => putN_le r p q (s1 q hq) (fun f hf => hl f hf q (by simp [hq])) e he)
    refine ⟨k1, fun v x => ?_⟩
    rw [List.foldl_cons, k2, g2]
    constructor
    · rintro ((h | h) | ⟨q, hq, hx⟩)
      · exact .inl h
      · exact .inr ⟨p, by simp, h⟩
      · exact .inr ⟨q, by simp [hq], hx⟩
    · rintro (h | ⟨q, hq, hx⟩)
      · exact .inl (.inl h)
      · rcases List.mem_cons.1 hq with rfl | hq
        · exact .inl (.inr hx)
        · exact .inr ⟨q, hq, hx⟩
theorem nrmR_rev {r : List Nd} (h : NrmR r) : Nrm r.reverse := ⟨fun p hp => h.1 p (by simpa using hp), List.pairwise_reverse.2 h.2⟩
/-- The list that comes of a sorted one. -/
def normN (S : List Nd) : List Nd := (S.foldl putN []).reverse
theorem normN_nrm {S : List Nd} (ho : ∀ p ∈ S, p.Ok) (hs : S.Pairwise Nd.Le) : Nrm (normN S) ∧ ∀ v x, Adr (normN S) v x ↔ Adr S v x := by
  obtain ⟨h1, h2⟩ := foldN_nrm S [] ⟨by simp, .nil⟩ ho hs (by simp)
  refine ⟨nrmR_rev h1, fun v x => ?_⟩
  have := h2 v x
  simp only [Adr, List.not_mem_nil, false_and, exists_false, false_or] at this
  simpa [normN, Adr] using this

/-- What is left of q without p: k is how often q may be halved. -/
def cutN (p : Nd) : Nat → Nd → List Nd
  | 0, q => if p.Has q then [] else if q.Has p then [] else [q]
  | k + 1, q => if p.Has q then [] else if q.Has p then cutN p k q.lo ++ cutN p k q.hi else [q]
theorem cutN_adr (p : Nd) (op : p.Ok) : ∀ (k : Nat) (q : Nd), q.Ok → q.h = k → (∀ r ∈ cutN p k q, r.Ok) ∧ ∀ v x, Adr (cutN p k q) v x ↔ q.In v x ∧ ¬ p.In v x
  | 0, q, oq, hk => by
    rw [cutN]
    by_cases h : p.Has q
    · rw [if_pos h]
      exact ⟨by simp, fun v x => ⟨fun ⟨_, h, _⟩ => by simp at h, fun ⟨h1, h2⟩ => absurd (Nd.has_in op oq h h1) h2⟩⟩
    rw [if_neg h]
    by_cases h' : q.Has p
    · have e := Nd.same_h oq op h' (by omega)
      subst e
      exact absurd (Nd.has_refl q) h
    rw [if_neg h']
    refine ⟨fun r hr => by simp at hr; subst hr; exact oq, fun v x => ?_⟩
    simp only [Adr, List.mem_singleton, exists_eq_left]
    refine ⟨fun hx => ⟨hx, fun hp => ?_⟩, And.left⟩
    rcases Nd.meet oq op hx hp with e | e
    · exact h' e
    · exact h e
  | k + 1, q, oq, hk => by
    rw [cutN]
    by_cases h : p.Has q
    · rw [if_pos h]
      exact ⟨by simp, fun v x => ⟨fun ⟨_, h, _⟩ => by simp at h, fun ⟨h1, h2⟩ => absurd (Nd.has_in op oq h h1) h2⟩⟩
    rw [if_neg h]
    by_cases h' : q.Has p
    · rw [if_pos h']
      obtain ⟨a1, a2⟩ := cutN_adr p op k q.lo (Nd.lo_ok oq) (by simp [Nd.lo, hk])
      obtain ⟨b1, b2⟩ := cutN_adr p op k q.hi (Nd.hi_ok oq) (by simp [Nd.hi, hk])
      refine ⟨fun r hr => (List.mem_append.1 hr).elim (a1 r) (b1 r), fun v x => ?_⟩
      rw [Nd.in_halves (p := q) (by omega)]
      constructor
      · rintro ⟨r, hr, hx⟩
        rcases List.mem_append.1 hr with hr | hr
        · have := (a2 v x).1 ⟨r, hr, hx⟩; exact ⟨.inl this.1, this.2⟩
        · have := (b2 v x).1 ⟨r, hr, hx⟩; exact ⟨.inr this.1, this.2⟩
      · rintro ⟨hx | hx, hn⟩
        · obtain ⟨r, hr, hx⟩ := (a2 v x).2 ⟨hx, hn⟩; exact ⟨r, List.mem_append.2 (.inl hr), hx⟩
        · obtain ⟨r, hr, hx⟩ := (b2 v x).2 ⟨hx, hn⟩; exact ⟨r, List.mem_append.2 (.inr hr), hx⟩
    rw [if_neg h']
    refine ⟨fun r hr => by simp at hr; subst hr; exact oq, fun v x => ?_⟩
    simp only [Adr, List.mem_singleton, exists_eq_left]
    refine ⟨fun hx => ⟨hx, fun hp => ?_⟩, And.left⟩
    rcases Nd.meet oq op hx hp with e | e
    · exact h' e
    · exact h e

abbrev Nd.Meet (p q : Nd) : Prop := p.Has q ∨ q.Has p
/-- Is a list just this one? -/
def isOne : List Nd → Nd → Bool
  | [x], q => decide (x.v = q.v) && decide (x.n = q.n) && decide (x.h = q.h)
  | _, _ => false
theorem isOne_iff {L : List Nd} {q : Nd} : isOne L q = true ↔ L = [q] := by
  match L with
  | [] => simp [isOne]
  | [x] =>
    obtain ⟨a, b, c⟩ := x
    obtain ⟨a', b', c'⟩ := q
    simp [isOne, and_assoc]
  | x :: y :: r => simp [isOne]
/-- The document's way: the norm of the addresses of p that some have and others have not; k is how often p may be halved. -/
def withinN (so ot : List Nd) : Nat → Nd → List Nd
  | 0, p => if ∃ o ∈ ot, o.Has p then [] else if ∀ s ∈ so, ¬ s.Meet p then [] else if (∃ s ∈ so, s.Has p) ∧ ¬ ∃ o ∈ ot, o.Meet p then [p] else []
  | k + 1, p => if ∃ o ∈ ot, o.Has p then [] else if ∀ s ∈ so, ¬ s.Meet p then [] else if (∃ s ∈ so, s.Has p) ∧ ¬ ∃ o ∈ ot, o.Meet p then [p] else
    if isOne (withinN so ot k p.lo) p.lo = true ∧ isOne (withinN so ot k p.hi) p.hi = true then [p] else withinN so ot k p.lo ++ withinN so ot k p.hi

theorem nrm_one {p : Nd} (op : p.Ok) : Nrm [p] := ⟨fun q hq => by simp at hq; subst hq; exact op, by simp⟩
theorem nrm_nil : Nrm [] := ⟨by simp, .nil⟩
theorem adr_one {p : Nd} {v x} : Adr [p] v x ↔ p.In v x := by simp [Adr]
theorem adr_nil {v x} : ¬ Adr [] v x := by simp [Adr]
theorem adr_append {L M : List Nd} {v x} : Adr (L ++ M) v x ↔ Adr L v x ∨ Adr M v x := by
  constructor
  · rintro ⟨p, hp, hx⟩
    rcases List.mem_append.1 hp with h | h
    · exact .inl ⟨p, h, hx⟩
    · exact .inr ⟨p, h, hx⟩
  · rintro (⟨p, hp, hx⟩ | ⟨p, hp, hx⟩)
    · exact ⟨p, List.mem_append.2 (.inl hp), hx⟩
    · exact ⟨p, List.mem_append.2 (.inr hp), hx⟩
theorem meet_in {p q : Nd} (op : p.Ok) (oq : q.Ok) {v x} (hp : p.In v x) (hq : q.In v x) : p.Meet q := Nd.meet op oq hp hq

/-- What lies in both halves, as short as may be, unless it is both of them whole. -/
theorem halves_nrm {p : Nd} (op : p.Ok) (h0 : 0 < p.h) {x y : List Nd} (hx : Nrm x) (hy : Nrm y) (ix : ∀ r ∈ x, p.lo.Has r) (iy : ∀ r ∈ y, p.hi.Has r) (hne : ¬ (x = [p.lo] ∧ y = [p.hi])) : Nrm (x ++ y) := by
  have ol := Nd.lo_ok op
  have oh := Nd.hi_ok op
  have hb : p.lo.Ahead p.hi := .inr ⟨rfl, by rw [Nd.n_hi]; exact Int.le_refl _⟩
  refine ⟨fun r hr => (List.mem_append.1 hr).elim (hx.1 r) (hy.1 r), List.pairwise_append.2 ⟨hx.2, hy.2, fun e he f hf => ?_⟩⟩
  have he1 := ix e he
  have hf1 := iy f hf
  have oe := hx.1 e he
  have of := hy.1 f hf
  have e1 := Nd.has_end ol oe he1
  refine ⟨.inr ⟨?_, ?_⟩, fun hs => hne ?_⟩
  · exact he1.1.trans hf1.1.symm
  · have h1 : p.hi.n ≤ f.n := hf1.2.2.1
    have h2 : p.lo.n + p.lo.w = p.hi.n := rfl
    omega
  · have ou := Nd.sib_ok hs
    have k1 : e.up.In p.v e.n := (Nd.sib_in hs).2 (.inl ⟨he1.1, Int.le_refl _, by have := e.w_pos; omega⟩)
    have k2 : e.up.In p.v f.n := (Nd.sib_in hs).2 (.inr ⟨hf1.1, Int.le_refl _, by have := f.w_pos; omega⟩)
    have g1 : p.In p.v e.n := (Nd.in_halves h0).2 (.inl (Nd.has_in ol oe he1 ⟨he1.1, Int.le_refl _, by have := e.w_pos; omega⟩))
    have hle : e.h ≤ p.h - 1 := he1.2.1
    have hq : p.Has e.up := Nd.meet' op ou g1 k1 (by show e.h + 1 ≤ p.h; omega)
    have hu : ¬ p.lo.Has e.up := fun h => ahead_apart hb (Nd.has_in ol ou h k2) (Nd.has_in oh of hf1 ⟨hf1.1, Int.le_refl _, by have := f.w_pos; omega⟩)
    have hul : e.up.Has p.lo := by
      rcases Nd.meet ou ol k1 (Nd.has_in ol oe he1 ⟨he1.1, Int.le_refl _, by have := e.w_pos; omega⟩) with h | h
      · exact h
      · exact absurd h hu
    have hh : p.h - 1 < e.h + 1 := by
      rcases Nat.lt_or_ge (p.h - 1) (e.h + 1) with h | h
      · exact h
      · exact absurd (Nd.meet' ol ou (Nd.has_in ol oe he1 ⟨he1.1, Int.le_refl _, by have := e.w_pos; omega⟩) k1 h) hu
    have eh : e.h = p.h - 1 := by omega
    have ee : p.lo = e := Nd.same_h ol oe he1 (by show p.h - 1 ≤ e.h; omega)
    have ef : p.hi = f := Nd.same_h oh of hf1 (by show p.h - 1 ≤ f.h; rw [hs.2.1]; omega)
    have one : ∀ {L : List Nd} {q : Nd}, Nrm L → q.Ok → (∀ r ∈ L, q.Has r) → q ∈ L → L = [q] := fun {L q} hL oq hi hm =>
      hL.uniq (nrm_one oq) fun v x => by
        rw [adr_one]
        exact ⟨fun ⟨r, hr, hx⟩ => Nd.has_in oq (hL.1 r hr) (hi r hr) hx, fun h => ⟨q, hm, h⟩⟩
    exact ⟨one hx ol ix (ee ▸ he), one hy oh iy (ef ▸ hf)⟩

theorem withinN_ok (so ot : List Nd) (os : ∀ s ∈ so, s.Ok) (oo : ∀ o ∈ ot, o.Ok) : ∀ (k : Nat) (p : Nd), p.Ok → p.h = k →
    Nrm (withinN so ot k p) ∧ (∀ r ∈ withinN so ot k p, p.Has r) ∧ ∀ v x, Adr (withinN so ot k p) v x ↔ p.In v x ∧ Adr so v x ∧ ¬ Adr ot v x := by
  have nilcase : ∀ p : Nd, p.Ok → (∃ o ∈ ot, o.Has p) ∨ (∀ s ∈ so, ¬ s.Meet p) → Nrm [] ∧ (∀ r ∈ ([] : List Nd), p.Has r) ∧ ∀ v x, Adr [] v x ↔ p.In v x ∧ Adr so v x ∧ ¬ Adr ot v x := fun p op h => by
    refine ⟨nrm_nil, by simp, fun v x => ⟨fun h => absurd h adr_nil, fun ⟨h1, ⟨s, hs, h2⟩, h3⟩ => ?_⟩⟩
    rcases h with ⟨o, ho, h⟩ | h
    · exact absurd ⟨o, ho, Nd.has_in (oo o ho) op h h1⟩ h3
    · exact absurd (meet_in (os s hs) op h2 h1) (h s hs)
  have onecase : ∀ p : Nd, p.Ok → (∃ s ∈ so, s.Has p) ∧ (¬ ∃ o ∈ ot, o.Meet p) → Nrm [p] ∧ (∀ r ∈ [p], p.Has r) ∧ ∀ v x, Adr [p] v x ↔ p.In v x ∧ Adr so v x ∧ ¬ Adr ot v x := fun p op ⟨⟨s, hs, h⟩, h'⟩ => by
    refine ⟨nrm_one op, fun r hr => by simp at hr; subst hr; exact r.has_refl, fun v x => ?_⟩
    rw [adr_one]
    exact ⟨fun hx => ⟨hx, ⟨s, hs, Nd.has_in (os s hs) op h hx⟩, fun ⟨o, ho, hx'⟩ => h' ⟨o, ho, meet_in (oo o ho) op hx' hx⟩⟩, And.left⟩
  intro k
  induction k with
  | zero =>
    intro p op hk
    rw [withinN]
    by_cases h1 : ∃ o ∈ ot, o.Has p
    · rw [if_pos h1]; exact nilcase p op (.inl h1)
    rw [if_neg h1]
    by_cases h2 : ∀ s ∈ so, ¬ s.Meet p
    · rw [if_pos h2]; exact nilcase p op (.inr h2)
    rw [if_neg h2]
    have up : ∀ q : Nd, q.Ok → q.Meet p → q.Has p := fun q oq h => by
      rcases h with h | h
      · exact h
      · rw [Nd.same_h op oq h (by omega)]; exact q.has_refl
    have h3 : (∃ s ∈ so, s.Has p) ∧ ¬ ∃ o ∈ ot, o.Meet p := by
      refine ⟨?_, fun ⟨o, ho, h⟩ => h1 ⟨o, ho, up o (oo o ho) h⟩⟩
      simp only [Classical.not_forall, Classical.not_not] at h2
      obtain ⟨s, hs, h⟩ := h2
      exact ⟨s, hs, up s (os s hs) h⟩
    rw [if_pos h3]; exact onecase p op h3
  | succ k ih =>
    intro p op hk
    have h0 : 0 < p.h := by omega
    rw [withinN]
    by_cases h1 : ∃ o ∈ ot, o.Has p
    · rw [if_pos h1]; exact nilcase p op (.inl h1)
    rw [if_neg h1]
    by_cases h2 : ∀ s ∈ so, ¬ s.Meet p
    · rw [if_pos h2]; exact nilcase p op (.inr h2)
    rw [if_neg h2]
    by_cases h3 : (∃ s ∈ so, s.Has p) ∧ ¬ ∃ o ∈ ot, o.Meet p
    · rw [if_pos h3]; exact onecase p op h3
    rw [if_neg h3]
    obtain ⟨a1, a2, a3⟩ := ih p.lo (Nd.lo_ok op) (by simp [Nd.lo, hk])
    obtain ⟨b1, b2, b3⟩ := ih p.hi (Nd.hi_ok op) (by simp [Nd.hi, hk])
    have key : ∀ v x, Adr (withinN so ot k p.lo ++ withinN so ot k p.hi) v x ↔ p.In v x ∧ Adr so v x ∧ ¬ Adr ot v x := fun v x => by
      rw [adr_append, a3, b3, Nd.in_halves h0]
      constructor
      · rintro (⟨h, h'⟩ | ⟨h, h'⟩)
        · exact ⟨.inl h, h'⟩
        · exact ⟨.inr h, h'⟩
      · rintro ⟨h | h, h'⟩
        · exact .inl ⟨h, h'⟩
        · exact .inr ⟨h, h'⟩
    by_cases h4 : withinN so ot k p.lo = [p.lo] ∧ withinN so ot k p.hi = [p.hi]
    · rw [if_pos ⟨isOne_iff.2 h4.1, isOne_iff.2 h4.2⟩]
      refine ⟨nrm_one op, fun r hr => by simp at hr; subst hr; exact r.has_refl, fun v x => ?_⟩
      rw [← key, h4.1, h4.2, adr_append, adr_one, adr_one, adr_one, Nd.in_halves h0]
    · rw [if_neg (fun h => h4 ⟨isOne_iff.1 h.1, isOne_iff.1 h.2⟩)]
      refine ⟨halves_nrm op h0 a1 b1 a2 b2 h4, fun r hr => ?_, key⟩
      rcases List.mem_append.1 hr with h | h
      · exact Nd.has_trans op (Nd.lo_ok op) (Nd.has_lo h0) (a2 r h)
      · exact Nd.has_trans op (Nd.hi_ok op) (Nd.has_hi h0) (b2 r h)
def root (v : Bool) : Nd := ⟨v, 0, if v then 128 else 32⟩
theorem root_ok (v : Bool) : (root v).Ok := by unfold root Nd.Ok; simp
def normOfN (so ot : List Nd) : List Nd := withinN so ot 32 (root false) ++ withinN so ot 128 (root true)
/-- All that lies among the addresses of its kind. -/
def Nd.Fit (p : Nd) : Prop := (root p.v).Has p
theorem normOfN_ok {so ot : List Nd} (os : ∀ s ∈ so, s.Ok) (oo : ∀ o ∈ ot, o.Ok) (fit : ∀ s ∈ so, s.Fit) : Nrm (normOfN so ot) ∧ ∀ v x, Adr (normOfN so ot) v x ↔ Adr so v x ∧ ¬ Adr ot v x := by
  obtain ⟨a1, a2, a3⟩ := withinN_ok so ot os oo 32 (root false) (root_ok _) rfl
  obtain ⟨b1, b2, b3⟩ := withinN_ok so ot os oo 128 (root true) (root_ok _) rfl
  refine ⟨⟨fun r hr => (List.mem_append.1 hr).elim (a1.1 r) (b1.1 r), List.pairwise_append.2 ⟨a1.2, b1.2, fun e he f hf => ?_⟩⟩, fun v x => ?_⟩
  · have h1 := (a2 e he).1
    have h2 := (b2 f hf).1
    refine ⟨.inl ⟨h1, h2⟩, fun h => ?_⟩
    rw [h.1] at h2
    rw [h2] at h1; exact absurd h1 (by decide)
  · unfold normOfN
    rw [adr_append, a3, b3]
    constructor
    · rintro (⟨_, h⟩ | ⟨_, h⟩) <;> exact h
    · rintro ⟨⟨s, hs, hx⟩, h⟩
      have hf := Nd.has_in (root_ok _) (os s hs) (fit s hs) hx
      rw [hx.1] at hf
      cases v
      · exact .inl ⟨hf, ⟨s, hs, hx⟩, h⟩
      · exact .inr ⟨hf, ⟨s, hs, hx⟩, h⟩
end Go.Proofs.YtojdlpiogbjfcaaGreatDoor

namespace Go.Proofs.YtojdlpiogbjfcaaGreatDoor
open Go.RowKit

def Pf.nd (p : Pf) : Nd := ⟨p.v, p.n, (wid p.v - p.b).toNat⟩
theorem nd_w (p : Pf) : p.nd.w = amt p.v p.b := rfl
theorem nd_ok {p : Pf} (r : p.R) : p.nd.Ok := r.al
theorem nd_inj {p q : Pf} (r : p.R) (s : q.R) (h : p.nd = q.nd) : p = q := by
  have hv : p.v = q.v := congrArg Nd.v h
  have hn : p.n = q.n := congrArg Nd.n h
  have hh : (wid p.v - p.b).toNat = (wid q.v - q.b).toNat := congrArg Nd.h h
  obtain ⟨e1, e2⟩ := num_inj r.l0 r.l1 s.l0 s.l1 hn
  have b1 := r.b1
  have b2 := s.b1
  rw [hv] at hh b1
  have eb : p.b = q.b := by omega
  cases p; cases q; simp_all
theorem has_nd {p q : Pf} (r : p.R) (s : q.R) : p.has q = true ↔ p.nd.Has q.nd := by
  rw [has_iff r s]
  have b1 := r.b1
  have b2 := s.b1
  unfold Nd.Has
  rw [nd_w]
  show _ ↔ q.v = p.v ∧ (wid q.v - q.b).toNat ≤ (wid p.v - p.b).toNat ∧ p.n ≤ q.n ∧ q.n < p.n + amt p.v p.b
  constructor
  · rintro ⟨a, b, c, d⟩
    rw [b] at b2 ⊢
    exact ⟨rfl, by omega, c, d⟩
  · rintro ⟨a, b, c, d⟩
    rw [a] at b b2
    exact ⟨by omega, a, c, d⟩
theorem cmp_nd {p q : Pf} (r : p.R) (s : q.R) (h : ¬ q.cmp p < 0) : p.nd.Le q.nd := by
  rw [cmp_neg s r] at h
  have b1 := r.b1
  have b2 := s.b1
  have key : ∀ a b : Bool, ¬ (b = false ∧ a = true) → a ≠ b → a = false ∧ b = true := by decide
  by_cases hv : p.v = q.v
  · refine .inr ⟨hv, ?_⟩
    show p.n < q.n ∨ (p.n = q.n ∧ (wid q.v - q.b).toNat ≤ (wid p.v - p.b).toNat)
    rw [hv] at b1 ⊢
    have : ¬ (q.n < p.n ∨ (q.n = p.n ∧ q.b < p.b)) := fun h' => h (.inr ⟨hv.symm, h'⟩)
    omega
  · exact .inl (key _ _ (fun h' => h (.inl h')) hv)
/-- One that lies among the addresses of its kind. -/
theorem nd_fit {p : Pf} (r : p.R) : p.nd.Fit := by
  have nt := num_top r.c r.h0 r.h1 r.l0 r.l1
  have b0 := r.b0
  have b1 := r.b1
  refine ⟨rfl, ?_, nt.1, ?_⟩
  · show (wid p.v - p.b).toNat ≤ if p.v then 128 else 32
    cases hv : p.v <;> simp [wid] <;> omega
  · have e : (root p.v).w = top p.v := by unfold root Nd.w top wid; cases p.v <;> rfl
    show p.n < (root p.nd.v).n + (root p.nd.v).w
    rw [show p.nd.v = p.v from rfl, e]
    show p.n < 0 + top p.v
    have := nt.2
    unfold Pf.n
    omega

/-- The halves, and the one whose halves two are. -/
def Pf.lo' (p : Pf) : Pf := ⟨p.v, p.hi, p.lo, p.b + 1⟩
def Pf.hi' (p : Pf) : Pf := ⟨p.v, fsH p.v (laH p.v p.hi p.b) (p.b + 1), fsL p.v (laL p.v p.lo p.b) (p.b + 1), p.b + 1⟩
def Pf.up' (p : Pf) : Pf := ⟨p.v, p.hi, p.lo, p.b - 1⟩
theorem lo_R {p : Pf} (r : p.R) (h : p.b < wid p.v) : p.lo'.R := right_low r h
theorem hi_R {p : Pf} (r : p.R) (h : p.b < wid p.v) : p.hi'.R := (great_num r h).2
theorem nd_lo {p : Pf} (r : p.R) (h : p.b < wid p.v) : p.lo'.nd = p.nd.lo := by
  unfold Pf.nd Pf.lo' Nd.lo
  have : (wid p.v - (p.b + 1)).toNat = (wid p.v - p.b).toNat - 1 := by omega
  simp only [this]; rfl
theorem nd_hi {p : Pf} (r : p.R) (h : p.b < wid p.v) : p.hi'.nd = p.nd.hi := by
  have e := (great_num r h).1
  have : (wid p.v - (p.b + 1)).toNat = (wid p.v - p.b).toNat - 1 := by omega
  have e2 : p.hi'.n = p.n + 2 ^ ((wid p.v - p.b).toNat - 1) := by
    rw [← this]; exact e
  show (⟨p.v, p.hi'.n, (wid p.v - (p.b + 1)).toNat⟩ : Nd) = ⟨p.v, p.n + 2 ^ ((wid p.v - p.b).toNat - 1), (wid p.v - p.b).toNat - 1⟩
  rw [e2, this]
/-- Are they the halves of one, as Whole tells it? -/
def Pf.whole (p q : Pf) : Bool := decide (pchk p.v p.hi p.lo (p.b - 1) = 0) && eqP p.v p.up'.hi'.hi p.up'.hi'.lo (p.b - 1 + 1) q.v q.hi q.lo q.b
theorem up_R {p q : Pf} (r : p.R) (h : p.whole q = true) : p.up'.R := by
  unfold Pf.whole at h
  rw [Bool.and_eq_true, decide_eq_true_iff] at h
  exact (right_iff _ _ _ _ r.h0 r.h1 r.l0 r.l1).1 h.1
theorem nd_up {p q : Pf} (r : p.R) (h : p.whole q = true) : p.up'.nd = p.nd.up := by
  have b1 := r.b1
  unfold Pf.nd Pf.up' Nd.up
  have : (wid p.v - (p.b - 1)).toNat = (wid p.v - p.b).toNat + 1 := by omega
  simp only [this]; rfl
theorem whole_nd {p q : Pf} (r : p.R) (s : q.R) : p.whole q = true ↔ p.nd.Sib q.nd := by
  have b0 := r.b0
  have b1 := r.b1
  constructor
  · intro h
    have hu := up_R r h
    have ub0 : 0 ≤ p.b - 1 := hu.b0
    have hlt : p.up'.b < wid p.up'.v := by show p.b - 1 < wid p.v; omega
    unfold Pf.whole at h
    rw [Bool.and_eq_true, eqP_iff] at h
    obtain ⟨_, e1, e2, e3, e4⟩ := h
    have e : p.up'.hi' = q := by
      have : p.b - 1 + 1 = q.b := e4
      cases q
      unfold Pf.hi' Pf.up' at *
      simp_all
    have hl : p.up'.lo' = p := by
      unfold Pf.lo' Pf.up'
      cases p
      simp
    have := Nd.halves_sib (nd_ok hu) (p := p.up'.nd) (by show 0 < (wid p.v - (p.b - 1)).toNat; omega)
    rw [← nd_lo hu hlt, ← nd_hi hu hlt, hl, e] at this
    exact this
  · intro h
    have hb : 1 ≤ p.b := by
      rcases Int.lt_or_le 0 p.b with h' | h'
      · omega
      · exfalso
        have e0 : p.b = 0 := by omega
        have nt := num_top s.c s.h0 s.h1 s.l0 s.l1
        have np := num_top r.c r.h0 r.h1 r.l0 r.l1
        obtain ⟨hv, _, hn, _⟩ := h
        have hv' : q.v = p.v := hv
        have hn' : q.n = p.n + amt p.v p.b := hn
        rw [e0] at hn'
        have : amt p.v 0 = top p.v := by unfold amt top; simp
        rw [this] at hn'
        rw [hv'] at nt
        unfold Pf.n at hn'
        omega
    have hw := h.2.2.2
    rw [nd_w] at hw
    have hu : Right p.v p.hi p.lo (p.b - 1) := ⟨r.c, by omega, by omega, r.h0, r.h1, r.l0, r.l1, by
      rw [amt_half (v := p.v) (b := p.b - 1) (by omega) (by omega), show p.b - 1 + 1 = p.b by omega, Int.mul_comm]; exact hw⟩
    have hlt : p.up'.b < wid p.up'.v := by show p.b - 1 < wid p.v; omega
    have hu' : p.up'.R := hu
    have e : p.up'.hi' = q := by
      apply nd_inj (hi_R hu' hlt) s
      rw [nd_hi hu' hlt]
      obtain ⟨hv, hh, hn, _⟩ := h
      have hhh : (wid p.v - (p.b - 1)).toNat - 1 = (wid p.v - p.b).toNat := by omega
      show (⟨p.v, p.n + 2 ^ ((wid p.v - (p.b - 1)).toNat - 1), (wid p.v - (p.b - 1)).toNat - 1⟩ : Nd) = q.nd
      rw [hhh]
      have e1 : q.nd.v = p.v := hv
      have e2 : q.nd.h = (wid p.v - p.b).toNat := hh
      have e3 : q.nd.n = p.n + 2 ^ (wid p.v - p.b).toNat := hn
      cases hq : q.nd
      rw [hq] at e1 e2 e3
      simp_all
    unfold Pf.whole
    rw [Bool.and_eq_true, decide_eq_true_iff, eqP_iff]
    refine ⟨(right_iff _ _ _ _ r.h0 r.h1 r.l0 r.l1).2 hu, ?_⟩
    rw [← e]
    exact ⟨rfl, rfl, rfl, rfl⟩

/-- put, the list's last one first. -/
def putP : List Pf → Pf → List Pf
  | [], p => [p]
  | e :: r, p => if e.has p = true then e :: r else if e.whole p = true then putP r e.up' else p :: e :: r
theorem putP_nd : ∀ (r : List Pf) (p : Pf), (∀ e ∈ r, e.R) → p.R → (∀ e ∈ putP r p, e.R) ∧ (putP r p).map Pf.nd = putN (r.map Pf.nd) p.nd
  | [], p, _, rp => ⟨fun e he => by simp [putP] at he; subst he; exact rp, rfl⟩
  | e :: r, p, hr, rp => by
    have re := hr e (by simp)
    rw [putP, List.map_cons, putN]
    by_cases h : e.has p = true
    · rw [if_pos h, if_pos ((has_nd re rp).1 h)]
      exact ⟨hr, rfl⟩
    rw [if_neg h, if_neg (fun h' => h ((has_nd re rp).2 h'))]
    by_cases hw : e.whole p = true
    · rw [if_pos hw, if_pos ((whole_nd re rp).1 hw)]
      have := putP_nd r e.up' (fun x hx => hr x (by simp [hx])) (up_R re hw)
      rw [nd_up re hw] at this
      exact this
    · rw [if_neg hw, if_neg (fun h' => hw ((whole_nd re rp).2 h'))]
      refine ⟨fun x hx => ?_, by simp⟩
      rcases List.mem_cons.1 hx with rfl | hx
      · exact rp
      · exact hr x hx
def foldP (S : List Pf) : List Pf := (S.foldl putP []).reverse
theorem foldP_nd : ∀ (S r : List Pf), (∀ e ∈ r, e.R) → (∀ e ∈ S, e.R) → (∀ e ∈ S.foldl putP r, e.R) ∧ (S.foldl putP r).map Pf.nd = (S.map Pf.nd).foldl putN (r.map Pf.nd)
  | [], r, hr, _ => ⟨hr, rfl⟩
  | p :: S, r, hr, hs => by
    obtain ⟨h1, h2⟩ := putP_nd r p hr (hs p (by simp))
    obtain ⟨h3, h4⟩ := foldP_nd S (putP r p) h1 (fun e he => hs e (by simp [he]))
    rw [List.foldl_cons, List.map_cons, List.foldl_cons, ← h2]
    exact ⟨h3, h4⟩
/-- A list as short as may be, with these addresses. -/
structure IsNorm (L : List Pf) (A : Bool → Int → Prop) : Prop where
  right : ∀ p ∈ L, p.R
  nrm : Nrm (L.map Pf.nd)
  adr : ∀ v x, Adr (L.map Pf.nd) v x ↔ A v x
theorem IsNorm.uniq {L M : List Pf} {A : Bool → Int → Prop} (h : IsNorm L A) (k : IsNorm M A) : L = M := by
  have e := h.nrm.uniq k.nrm fun v x => (h.adr v x).trans (k.adr v x).symm
  have inj : ∀ (L M : List Pf), (∀ p ∈ L, p.R) → (∀ p ∈ M, p.R) → L.map Pf.nd = M.map Pf.nd → L = M := by
    intro L
    induction L with
    | nil => intro M _ _ h; cases M with
      | nil => rfl
      | cons _ _ => simp at h
    | cons p L ih => intro M hl hm h; cases M with
      | nil => simp at h
      | cons q M =>
        rw [List.map_cons, List.map_cons, List.cons.injEq] at h
        rw [nd_inj (hl p (by simp)) (hm q (by simp)) h.1, ih M (fun x hx => hl x (by simp [hx])) (fun x hx => hm x (by simp [hx])) h.2]
  exact inj L M h.right k.right e
theorem foldP_norm {S : List Pf} (hR : ∀ p ∈ S, p.R) (hs : S.Pairwise fun p q => ¬ q.cmp p < 0) : IsNorm (foldP S) (Adr (S.map Pf.nd)) := by
  obtain ⟨h1, h2⟩ := foldP_nd S [] (by simp) hR
  have h3 := normN_nrm (S := S.map Pf.nd) (fun p hp => by obtain ⟨q, hq, rfl⟩ := List.mem_map.1 hp; exact nd_ok (hR q hq)) (by
    rw [List.pairwise_map]
    refine List.Pairwise.imp_of_mem ?_ hs
    intro a b ha hb h
    exact cmp_nd (hR a ha) (hR b hb) h)
  have e : (foldP S).map Pf.nd = normN (S.map Pf.nd) := by unfold foldP normN; rw [List.map_reverse, h2]; rfl
  exact ⟨fun p hp => h1 p (by simpa [foldP] using hp), by rw [e]; exact h3.1, by rw [e]; exact h3.2⟩

/-- cut: what is left of q without p. -/
def cutP (p : Pf) : Nat → Pf → List Pf
  | 0, q => if p.has q = true then [] else if q.has p = true then [] else [q]
  | k + 1, q => if p.has q = true then [] else if q.has p = true then cutP p k q.lo' ++ cutP p k q.hi' else [q]
/-- Of the halves of what has p one has nothing to do with p. -/
theorem cut_side {p q : Nd} (op : p.Ok) (oq : q.Ok) (h0 : 0 < q.h) (h : q.Has p) (hn : ¬ p.Has q) : (¬ p.Has q.hi ∧ ¬ q.hi.Has p) ∨ (¬ p.Has q.lo ∧ ¬ q.lo.Has p) := by
  have ol := Nd.lo_ok oq
  have oh := Nd.hi_ok oq
  have hb : q.lo.Ahead q.hi := .inr ⟨rfl, by rw [Nd.n_hi]; exact Int.le_refl _⟩
  have key : ∀ s : Nd, s.Ok → q.Has s → s.h + 1 = q.h → s.In p.v p.n → s.Has p := fun s os hs hh hx => by
    rcases Nd.meet os op hx p.in_self with k | k
    · exact k
    · rcases Nd.over_half oq os op hs hh k with e | e
      · rw [e]; exact s.has_refl
      · exact absurd e hn
  rcases (Nd.in_halves h0).1 (Nd.has_in oq op h p.in_self) with hx | hx
  · have hl := key _ ol (Nd.has_lo h0) (by simp [Nd.lo]; omega) hx
    exact .inl ⟨fun k => ahead_apart hb (Nd.has_in ol op hl (Nd.has_in op oh k q.hi.in_self)) q.hi.in_self, fun k => ahead_apart hb hx (Nd.has_in oh op k p.in_self)⟩
  · have hl := key _ oh (Nd.has_hi h0) (by simp [Nd.hi]; omega) hx
    exact .inr ⟨fun k => ahead_apart hb q.lo.in_self (Nd.has_in oh op hl (Nd.has_in op ol k q.lo.in_self)), fun k => ahead_apart hb (Nd.has_in ol op k p.in_self) hx⟩
theorem cutP_one {p : Pf} {k : Nat} {q : Pf} (h : ¬ p.has q = true) (h' : ¬ q.has p = true) : (cutP p k q).length = 1 := by
  cases k <;> rw [cutP, if_neg h, if_neg h'] <;> rfl
theorem cutP_nd (p : Pf) (rp : p.R) : ∀ (k : Nat) (q : Pf), q.R → q.nd.h = k → (∀ e ∈ cutP p k q, e.R) ∧ (cutP p k q).map Pf.nd = cutN p.nd k q.nd ∧ (cutP p k q).length ≤ k + 1
  | 0, q, rq, hk => by
    rw [cutP, cutN]
    by_cases h : p.has q = true
    · rw [if_pos h, if_pos ((has_nd rp rq).1 h)]; exact ⟨by simp, rfl, by simp⟩
    rw [if_neg h, if_neg (fun h' => h ((has_nd rp rq).2 h'))]
    by_cases h' : q.has p = true
    · rw [if_pos h', if_pos ((has_nd rq rp).1 h')]; exact ⟨by simp, rfl, by simp⟩
    rw [if_neg h', if_neg (fun h'' => h' ((has_nd rq rp).2 h''))]
    exact ⟨fun e he => by simp at he; subst he; exact rq, rfl, by simp⟩
  | k + 1, q, rq, hk => by
    have b1 := rq.b1
    have hlt : q.b < wid q.v := by
      have : (wid q.v - q.b).toNat = k + 1 := hk
      omega
    rw [cutP, cutN]
    by_cases h : p.has q = true
    · rw [if_pos h, if_pos ((has_nd rp rq).1 h)]; exact ⟨by simp, rfl, by simp⟩
    rw [if_neg h, if_neg (fun h' => h ((has_nd rp rq).2 h'))]
    by_cases h' : q.has p = true
    · rw [if_pos h', if_pos ((has_nd rq rp).1 h')]
      have hh1 : q.lo'.nd.h = k := by rw [nd_lo rq hlt]; simp [Nd.lo, hk]
      have hh2 : q.hi'.nd.h = k := by rw [nd_hi rq hlt]; simp [Nd.hi, hk]
      obtain ⟨a1, a2, a3⟩ := cutP_nd p rp k q.lo' (lo_R rq hlt) hh1
      obtain ⟨c1, c2, c3⟩ := cutP_nd p rp k q.hi' (hi_R rq hlt) hh2
      rw [nd_lo rq hlt] at a2
      rw [nd_hi rq hlt] at c2
      refine ⟨fun e he => (List.mem_append.1 he).elim (a1 e) (c1 e), by rw [List.map_append, a2, c2], ?_⟩
      rw [List.length_append]
      rcases cut_side (nd_ok rp) (nd_ok rq) (by omega) ((has_nd rq rp).1 h') (fun e => h ((has_nd rp rq).2 e)) with ⟨e1, e2⟩ | ⟨e1, e2⟩
      · rw [← nd_hi rq hlt] at e1 e2
        have := cutP_one (k := k) (fun e => e1 ((has_nd rp (hi_R rq hlt)).1 e)) (fun e => e2 ((has_nd (hi_R rq hlt) rp).1 e))
        omega
      · rw [← nd_lo rq hlt] at e1 e2
        have := cutP_one (k := k) (fun e => e1 ((has_nd rp (lo_R rq hlt)).1 e)) (fun e => e2 ((has_nd (lo_R rq hlt) rp).1 e))
        omega
    rw [if_neg h', if_neg (fun h'' => h' ((has_nd rq rp).2 h''))]
    exact ⟨fun e he => by simp at he; subst he; exact rq, rfl, by simp⟩
end Go.Proofs.YtojdlpiogbjfcaaGreatDoor

namespace Go.Proofs.YtojdlpiogbjfcaaGreatDoor
open Go.RowKit

theorem shas_any (p q : Pf) (w : World) (r : p.R) (s : q.R) :
    Calls Tryz.prog 44 #[.agg #[.bool p.v, .int .u64 p.hi, .int .u64 p.lo, .int .i64 p.b], .agg #[.bool q.v, .int .u64 q.hi, .int .u64 q.lo, .int .i64 q.b]] w fun e w' => e = .returned (.bool (p.has q)) ∧ Below w.heap.size w w' := by
  obtain ⟨u, yi, yo, c⟩ := p
  obtain ⟨v, hi, lo, b⟩ := q
  have r' : Right u yi yo c := r
  have s' : Right v hi lo b := s
  have hW : Hid (∀ w : World, Calls Tryz.prog 14 #[.agg #[.bool u, .int .u64 yi, .int .u64 yo, .int .i64 c], .agg #[.bool v, .int .u64 hi, .int .u64 lo, .int .i64 b]] w fun e w' =>
      e = .returned (.tuple #[.bool (hasB u yi yo c v hi lo b), .int .i64 0]) ∧ Below w.heap.size w w') := fun w => has_ok u yi yo c v hi lo b w r'.h0 r'.h1 r'.l0 r'.l1 s'.h0 s'.h1 s'.l0 s'.l1 (by rw [two, if_pos ((right_iff _ _ _ _ r'.h0 r'.h1 r'.l0 r'.l1).2 r')]; exact (right_iff _ _ _ _ s'.h0 s'.h1 s'.l0 s'.l1).2 s')
  unfold Pf.has
  simp only
  generalize hasB u yi yo c v hi lo b = d at *
  clear r s r' s'
  go_enter Tryz.func44, Tryz.ntmps44
  go_wp2_with fail
  refine (hW.out _).mono ?_
  rintro e w2 ⟨rfl, hb⟩
  go_wp2
  go_ret
  exact ⟨rfl, btr (bal (bal (Below.refl _ _) _) _) hb⟩

/-- What is wrong with a list, if something is. -/
def schk : List Pf → Int
  | [] => 0
  | p :: r => if p.chk = 0 then schk r else p.chk
def slkL (ps : List Pf) : Int := if 12 < ps.length then 2 else schk ps
theorem schk_cons (p : Pf) (r : List Pf) : schk (p :: r) = if p.chk = 0 then schk r else p.chk := rfl

set_option maxHeartbeats 8000000 in
set_option maxRecDepth 100000 in
theorem slook_any (a : Option Addr) (c : Nat) (ps : List Pf) (w : World) (hok : ∀ p ∈ ps, p.Ok) (hs : Sl w a ps) :
    Calls Tryz.prog 23 #[.slice a ps.length c] w fun e w' => e = .returned (.int .i64 (slkL ps)) ∧ Below w.heap.size w w' := by
  by_cases hl : 12 < ps.length
  · rw [show slkL ps = 2 by simp [slkL, hl]]
    have hl' : (12 : Int) < (ps.length : Int) := by omega
    generalize ps.length = N at *
    go_enter Tryz.func23, Tryz.ntmps23
    go_wp2
    go_ret
    exact ⟨rfl, Below.refl _ _⟩
  rw [show slkL ps = schk ps by simp [slkL, hl]]
  obtain ⟨N, hN⟩ : ∃ N, N = ps.length := ⟨_, rfl⟩
  rw [← hN] at hl ⊢
  have hN8 : N ≤ 12 := by omega
  have hd12 : decide ((12 : Int) < (N : Int)) = false := decide_eq_false (by omega)
  have HN : Hid (N = ps.length) := hN
  clear hN hl
  go_enter Tryz.func23, Tryz.ntmps23
  go_wp2_with fail
  go_loopw [11] (fun vi wr => ∃ k : Nat, vi = .int .i64 k ∧ k ≤ N ∧ Below w.heap.size w wr ∧ Hid (schk ps = schk (ps.drop k)))
    (fun vi _ => N - (intOf vi).toNat)
  case atStart => exact ⟨0, rfl, Nat.zero_le _, Below.refl _ _, rfl⟩
  case round =>
    obtain ⟨k, rfl, hk, hb, hh⟩ := hrel
    have hN := HN.out
    by_cases hkN : k < N
    · have hkl : k < ps.length := by omega
      obtain ⟨g, o, rfl, hg, c0, c1, c2, c3⟩ := hs k hkl
      have hdec := hh.out
      have ho := hok _ (List.getElem_mem hkl)
      rw [List.drop_eq_getElem_cons hkl, schk_cons] at hdec
      rw [← (bcell hb).1 _ _ hg] at c0 c1 c2 c3
      have hgr : g < wr.heap.size := Nat.lt_of_lt_of_le hg hb.size
      generalize ps[k]'(by omega) = x at *
      obtain ⟨v, hi, lo, b⟩ := x
      obtain ⟨i0, i1, l0, l1⟩ := ho
      simp only [Pf.chk] at hdec c0 c1 c2 c3 i0 i1 l0 l1
      have hC : Hid (∀ w : World, Calls Tryz.prog 13 #[.agg #[.bool v, .int .u64 hi, .int .u64 lo, .int .i64 b]] w fun e w' => e = .returned (.int .i64 (pchk v hi lo b)) ∧ Below w.heap.size w w') := fun w => pcheck_any v hi lo b w i0 i1 l0 l1
      have hb1 : Hid (Below w.heap.size w (wr.alloc (.cells #[.bool v, .int .u64 hi, .int .u64 lo, .int .i64 b] 27))) := bal hb _
      have k3 : (k : Int) < (N : Int) := by omega
      clear hh hN hok hs i0 i1 l0 l1
      by_cases hx : pchk v hi lo b = 0
      · simp only [hx, if_true] at hdec
        rw [hx] at hC
        have HD : Hid (schk ps = schk (ps.drop (k + 1))) := hdec
        clear hdec hx
        go_wp2_with fail
        refine (hC.out _).mono ?_
        rintro e w2 ⟨rfl, hb2⟩
        have hb3 : Hid (Below w.heap.size w w2) := btr hb1.out hb2
        clear hb1 hb2
        go_wp2_with fail
        go_roundw
        case rel => exact ⟨k + 1, by go_num, by omega, hb3.out, HD⟩
        case measure => simp [intOf]; omega
      · simp only [hx, if_false] at hdec
        have HD : Hid (schk ps = pchk v hi lo b) := hdec
        have hI : (pchk v hi lo b != 0) = true := by rw [bne_iff_ne]; exact hx
        clear hdec hx
        generalize pchk v hi lo b = r at *
        go_wp2_with fail
        refine (hC.out _).mono ?_
        rintro e w2 ⟨rfl, hb2⟩
        have hb3 : Hid (Below w.heap.size w w2) := btr hb1.out hb2
        clear hb1 hb2
        go_wp2_with fail
        go_ret
        exact ⟨congrArg (fun r => Ending.returned (Value.int .i64 r)) HD.out.symm, hb3.out⟩
    · obtain rfl : k = N := by omega
      have HD : Hid (schk ps = 0) := by rw [hh.out, List.drop_eq_nil_of_le (by omega)]; rfl
      have k3 : decide ((k : Int) < (k : Int)) = false := by simp
      clear hh hN hok hs
      go_wp2_with fail
      go_ret
      exact ⟨congrArg (fun r => Ending.returned (Value.int .i64 r)) HD.out.symm, hb⟩
end Go.Proofs.YtojdlpiogbjfcaaGreatDoor

namespace Go.Proofs.YtojdlpiogbjfcaaGreatDoor
open Go.RowKit

theorem in_nd {p : Pf} (r : p.R) {v : Bool} {xh xl : Int} (q : Right v xh xl (wid v)) : p.inA v xh xl = true ↔ p.nd.In v (num xh xl) := by
  have e := has_nd r (show Pf.R ⟨v, xh, xl, wid v⟩ from q)
  rw [in_has r q, e]
  unfold Nd.Has Nd.In Pf.nd Pf.n
  simp only
  rw [show (wid v - wid v).toNat = 0 by omega]
  constructor
  · rintro ⟨a, _, b, c⟩; exact ⟨a.symm, b, c⟩
  · rintro ⟨a, b, c⟩; exact ⟨a.symm, Nat.zero_le _, b, c⟩
/-- Has a list an address? -/
def hasL (ps : List Pf) (v : Bool) (xh xl : Int) : Bool := ps.any fun p => p.inA v xh xl
theorem hasL_adr {ps : List Pf} (hR : ∀ p ∈ ps, p.R) {v : Bool} {xh xl : Int} (q : Right v xh xl (wid v)) : hasL ps v xh xl = true ↔ Adr (ps.map Pf.nd) v (num xh xl) := by
  unfold hasL Adr
  rw [List.any_eq_true]
  constructor
  · rintro ⟨p, hp, h⟩; exact ⟨_, List.mem_map_of_mem hp, (in_nd (hR p hp) q).1 h⟩
  · rintro ⟨x, hx, h⟩
    obtain ⟨p, hp, rfl⟩ := List.mem_map.1 hx
    exact ⟨p, hp, (in_nd (hR p hp) q).2 h⟩

/-- All that is left of a list without p. -/
def cutAll (p : Pf) : List Pf → List Pf
  | [] => []
  | q :: l => cutP p q.nd.h q ++ cutAll p l
theorem nd_h_le {p : Pf} (r : p.R) : p.nd.h ≤ 128 := by
  have b0 := r.b0
  have : wid p.v ≤ 128 := by unfold wid; split <;> omega
  unfold Pf.nd
  simp only
  omega
theorem cutAll_ok {p : Pf} (rp : p.R) : ∀ {l : List Pf}, (∀ q ∈ l, q.R) → (∀ e ∈ cutAll p l, e.R) ∧ (∀ v x, Adr ((cutAll p l).map Pf.nd) v x ↔ Adr (l.map Pf.nd) v x ∧ ¬ p.nd.In v x) ∧ (cutAll p l).length ≤ 129 * l.length
  | [], _ => ⟨by simp [cutAll], fun v x => by simp [cutAll, Adr], by simp [cutAll]⟩
  | q :: l, h => by
    obtain ⟨a1, a2, a3⟩ := cutAll_ok rp (l := l) (fun e he => h e (by simp [he]))
    have rq := h q (by simp)
    obtain ⟨c1, c2, c3⟩ := cutP_nd p rp q.nd.h q rq rfl
    obtain ⟨_, d2⟩ := cutN_adr p.nd (nd_ok rp) q.nd.h q.nd (nd_ok rq) rfl
    have hh := nd_h_le rq
    refine ⟨fun e he => (List.mem_append.1 he).elim (c1 e) (a1 e), fun v x => ?_, ?_⟩
    · rw [cutAll, List.map_append, adr_append, a2, c2, d2, List.map_cons]
      have : ∀ {L : List Nd}, Adr (q.nd :: L) v x ↔ q.nd.In v x ∨ Adr L v x := by intro L; simp [Adr]
      rw [this]
      constructor
      · rintro (⟨h1, h2⟩ | ⟨h1, h2⟩)
        · exact ⟨.inl h1, h2⟩
        · exact ⟨.inr h1, h2⟩
      · rintro ⟨h1 | h1, h2⟩
        · exact .inl ⟨h1, h2⟩
        · exact .inr ⟨h1, h2⟩
    · rw [cutAll, List.length_append, List.length_cons]; omega

theorem putP_len : ∀ (r : List Pf) (p : Pf), (putP r p).length ≤ r.length + 1
  | [], p => by simp [putP]
  | e :: r, p => by
    rw [putP]
    split
    · simp
    · split
      · have := putP_len r e.up'; simp; omega
      · simp
theorem foldP_len : ∀ (S r : List Pf), (S.foldl putP r).length ≤ r.length + S.length
  | [], r => by simp
  | p :: S, r => by
    have h1 := foldP_len S (putP r p)
    have h2 := putP_len r p
    simp only [List.foldl_cons, List.length_cons]; omega
theorem adr_perm {L M : List Nd} (h : ∀ p, p ∈ L ↔ p ∈ M) (v : Bool) (x : Int) : Adr L v x ↔ Adr M v x :=
  ⟨fun ⟨p, hp, hx⟩ => ⟨p, (h p).1 hp, hx⟩, fun ⟨p, hp, hx⟩ => ⟨p, (h p).2 hp, hx⟩⟩
theorem IsNorm.of {L : List Pf} {A B : Bool → Int → Prop} (h : IsNorm L A) (e : ∀ v x, A v x ↔ B v x) : IsNorm L B := ⟨h.right, h.nrm, fun v x => (h.adr v x).trans (e v x)⟩

/-- How many of a list lie within p. -/
def cnt (p : Nd) (L : List Nd) : Nat := (L.filter fun s => decide (p.Has s)).length
theorem cnt_le (p : Nd) (L : List Nd) : cnt p L ≤ L.length := List.length_filter_le _ _
theorem cnt_pos {p s : Nd} {L : List Nd} (h : s ∈ L) (hs : p.Has s) : 1 ≤ cnt p L :=
  List.length_pos_iff.2 (List.ne_nil_of_mem (List.mem_filter.2 ⟨h, by simpa using hs⟩))
theorem cnt_halves {p : Nd} (op : p.Ok) (h0 : 0 < p.h) : ∀ {L : List Nd}, (∀ s ∈ L, s.Ok) → cnt p.lo L + cnt p.hi L ≤ cnt p L
  | [], _ => by simp [cnt]
  | s :: L, h => by
    have ih := cnt_halves op h0 (L := L) (fun e he => h e (by simp [he]))
    have os := h s (by simp)
    unfold cnt at *
    simp only [List.filter_cons]
    by_cases h1 : p.lo.Has s
    · have h2 : ¬ p.hi.Has s := fun h2 => ahead_apart (p := p.lo) (q := p.hi) (.inr ⟨rfl, by rw [Nd.n_hi]; exact Int.le_refl _⟩) (Nd.has_in (Nd.lo_ok op) os h1 s.in_self) (Nd.has_in (Nd.hi_ok op) os h2 s.in_self)
      have h3 : p.Has s := Nd.has_trans op (Nd.lo_ok op) (Nd.has_lo h0) h1
      rw [decide_eq_true h1, decide_eq_false h2, decide_eq_true h3]
      simp only [if_true, Bool.false_eq_true, if_false, List.length_cons]
      omega
    · by_cases h2 : p.hi.Has s
      · have h3 : p.Has s := Nd.has_trans op (Nd.hi_ok op) (Nd.has_hi h0) h2
        rw [decide_eq_false h1, decide_eq_true h2, decide_eq_true h3]
        simp only [if_true, Bool.false_eq_true, if_false, List.length_cons]
        omega
      · by_cases h3 : p.Has s
        · rw [decide_eq_false h1, decide_eq_false h2, decide_eq_true h3]
          simp only [if_true, Bool.false_eq_true, if_false, List.length_cons]
          omega
        · rw [decide_eq_false h1, decide_eq_false h2, decide_eq_false h3]
          simp only [Bool.false_eq_true, if_false]
          exact ih
theorem withinN_len (so ot : List Nd) (os : ∀ s ∈ so, s.Ok) (oo : ∀ o ∈ ot, o.Ok) : ∀ (k : Nat) (p : Nd), p.Ok → p.h = k → (withinN so ot k p).length ≤ 1 + k * (cnt p so + cnt p ot)
  | 0, p, op, hk => by
    rw [withinN]
    split
    · simp
    · split
      · simp
      · split <;> simp
  | k + 1, p, op, hk => by
    have h0 : 0 < p.h := by omega
    have a := withinN_len so ot os oo k p.lo (Nd.lo_ok op) (by simp [Nd.lo]; omega)
    have b := withinN_len so ot os oo k p.hi (Nd.hi_ok op) (by simp [Nd.hi]; omega)
    have c1 := cnt_halves op h0 os
    have c2 := cnt_halves op h0 oo
    rw [withinN]
    by_cases h1 : ∃ o ∈ ot, o.Has p
    · rw [if_pos h1]; simp
    rw [if_neg h1]
    by_cases h2 : ∀ s ∈ so, ¬ s.Meet p
    · rw [if_pos h2]; simp
    rw [if_neg h2]
    by_cases h3 : (∃ s ∈ so, s.Has p) ∧ ¬ ∃ o ∈ ot, o.Meet p
    · rw [if_pos h3]; simp
    rw [if_neg h3]
    have hc : 1 ≤ cnt p so + cnt p ot := by
      by_cases h4 : ∃ s ∈ so, s.Has p
      · have h5 : ∃ o ∈ ot, o.Meet p := Classical.byContradiction fun h5 => h3 ⟨h4, h5⟩
        obtain ⟨o, ho, h5 | h5⟩ := h5
        · exact absurd ⟨o, ho, h5⟩ h1
        · have := cnt_pos ho h5; omega
      · have h5 : ∃ s ∈ so, s.Meet p := Classical.byContradiction fun h5 => h2 fun s hs hm => h5 ⟨s, hs, hm⟩
        obtain ⟨s, hs, h5 | h5⟩ := h5
        · exact absurd ⟨s, hs, h5⟩ h4
        · have := cnt_pos hs h5; omega
    split
    · simp
    · rw [List.length_append]
      have e1 : k * (cnt p.lo so + cnt p.lo ot) + k * (cnt p.hi so + cnt p.hi ot) ≤ k * (cnt p so + cnt p ot) := by
        rw [← Nat.mul_add]; exact Nat.mul_le_mul_left k (by omega)
      rw [Nat.succ_mul]
      omega
theorem withinN_few {so ot : List Nd} (os : ∀ s ∈ so, s.Ok) (oo : ∀ o ∈ ot, o.Ok) {k : Nat} {p : Nd} (op : p.Ok) (hk : p.h = k) (h1 : so.length ≤ 12) (h2 : ot.length ≤ 12) (h3 : k ≤ 128) : (withinN so ot k p).length ≤ 3073 := by
  have a := withinN_len so ot os oo k p op hk
  have b := cnt_le p so
  have c := cnt_le p ot
  have d : k * (cnt p so + cnt p ot) ≤ 128 * 24 := Nat.mul_le_mul h3 (by omega)
  omega
/-- What the document's normWithin answers. -/
structure IsWithin (so ot : List Pf) (p : Pf) (M : List Pf) : Prop where
  right : ∀ e ∈ M, e.R
  nd : M.map Pf.nd = withinN (so.map Pf.nd) (ot.map Pf.nd) p.nd.h p.nd
theorem map_ok {L : List Pf} (h : ∀ p ∈ L, p.R) : ∀ s ∈ L.map Pf.nd, s.Ok := fun s hs => by
  obtain ⟨p, hp, rfl⟩ := List.mem_map.1 hs
  exact nd_ok (h p hp)
theorem IsWithin.len {so ot : List Pf} {p : Pf} {M : List Pf} (h : IsWithin so ot p M) (rp : p.R) (os : ∀ s ∈ so, s.R) (oo : ∀ o ∈ ot, o.R) (h1 : so.length ≤ 12) (h2 : ot.length ≤ 12) : M.length ≤ 3073 := by
  have := withinN_few (map_ok os) (map_ok oo) (nd_ok rp) rfl (by simpa using h1) (by simpa using h2) (nd_h_le rp)
  rw [← h.nd, List.length_map] at this
  exact this
theorem within_norm {so ot X Y : List Pf} (os : ∀ s ∈ so, s.R) (oo : ∀ o ∈ ot, o.R) (hX : IsWithin so ot ⟨false, 0, 0, 0⟩ X) (hY : IsWithin so ot ⟨true, 0, 0, 0⟩ Y) :
    IsNorm (X ++ Y) (fun v x => Adr (so.map Pf.nd) v x ∧ ¬ Adr (ot.map Pf.nd) v x) := by
  have h := normOfN_ok (map_ok os) (map_ok oo) (fun s hs => by obtain ⟨p, hp, rfl⟩ := List.mem_map.1 hs; exact nd_fit (os p hp))
  have e : (X ++ Y).map Pf.nd = normOfN (so.map Pf.nd) (ot.map Pf.nd) := by
    rw [List.map_append, hX.nd, hY.nd]; rfl
  exact ⟨fun p hp => (List.mem_append.1 hp).elim (hX.right p) (hY.right p), by rw [e]; exact h.1, by rw [e]; exact h.2⟩
end Go.Proofs.YtojdlpiogbjfcaaGreatDoor

namespace Go.Proofs.YtojdlpiogbjfcaaGreatDoor
open Go.RowKit

theorem R_ok {p : Pf} (r : p.R) : p.Ok := ⟨r.h0, r.h1, r.l0, r.l1⟩
theorem R_chk {p : Pf} (r : p.R) : p.chk = 0 := (right_iff _ _ _ _ r.h0 r.h1 r.l0 r.l1).2 r
theorem slk_of_R {L : List Pf} (h : ∀ p ∈ L, p.R) (hl : L.length ≤ 12) : slkL L = 0 := by
  rw [slkL, if_neg (by omega)]
  clear hl
  induction L with
  | nil => rfl
  | cons p r ih => rw [schk_cons, if_pos (R_chk (h p (by simp)))]; exact ih fun q hq => h q (by simp [hq])
theorem slk_R {ps : List Pf} (hok : ∀ p ∈ ps, p.Ok) (h : slkL ps = 0) : ps.length ≤ 12 ∧ ∀ p ∈ ps, p.R := by
  unfold slkL at h
  split at h
  · exact absurd h (by decide)
  · refine ⟨by omega, ?_⟩
    have key : ∀ l : List Pf, schk l = 0 → ∀ p ∈ l, p.chk = 0 := by
      intro l
      induction l with
      | nil => intro _ p hp; simp at hp
      | cons q r ih =>
        intro hs p hp
        rw [schk_cons] at hs
        by_cases hq : q.chk = 0
        · rw [if_pos hq] at hs
          rcases List.mem_cons.1 hp with rfl | hp
          · exact hq
          · exact ih hs p hp
        · rw [if_neg hq] at hs; exact absurd hs hq
    intro p hp
    obtain ⟨a, b, c, d⟩ := hok p hp
    exact (right_iff _ _ _ _ a b c d).1 (key ps h p hp)
theorem IsNorm.self {L : List Pf} {A : Bool → Int → Prop} (h : IsNorm L A) : IsNorm L (Adr (L.map Pf.nd)) := ⟨h.right, h.nrm, fun _ _ => Iff.rfl⟩
theorem IsNorm.pair {L : List Pf} {A : Bool → Int → Prop} (h : IsNorm L A) {i k : Nat} (hi : i < L.length) (hk : k < i) : (L[k]).nd.Ahead (L[i]).nd ∧ ¬ (L[k]).nd.Sib (L[i]).nd := by
  have := h.nrm.2
  rw [List.pairwise_map] at this
  exact List.pairwise_iff_getElem.1 this k i (by omega) hi hk
theorem ahead_has {p q : Pf} (r : p.R) (s : q.R) (h : p.nd.Ahead q.nd) : p.has q = false ∧ q.has p = false := by
  refine ⟨?_, ?_⟩
  · rw [Bool.eq_false_iff]
    intro e
    exact ahead_apart h (Nd.has_in (nd_ok r) (nd_ok s) ((has_nd r s).1 e) q.nd.in_self) q.nd.in_self
  · rw [Bool.eq_false_iff]
    intro e
    exact ahead_apart h p.nd.in_self (Nd.has_in (nd_ok s) (nd_ok r) ((has_nd s r).1 e) p.nd.in_self)
theorem ahead_less {p q : Pf} (r : p.R) (s : q.R) (h : p.nd.Ahead q.nd) : lessB p.v p.hi p.lo q.v q.hi q.lo = true ∧ lessE p.v p.hi p.lo q.v q.hi q.lo = 0 := by
  have e := less_num (v := p.v) (u := q.v) (xh := p.hi) (yh := q.hi) ⟨r.l0, r.l1⟩ ⟨s.l0, s.l1⟩ r.c s.c
  refine ⟨e.2.2 ?_, e.1⟩
  have hw := p.nd.w_pos
  rcases h with ⟨a, b⟩ | ⟨a, b⟩
  · exact .inr ⟨a, b⟩
  · refine .inl ⟨a, ?_⟩
    have b' : num p.hi p.lo + p.nd.w ≤ num q.hi q.lo := b
    omega
theorem IsNorm.apart {L : List Pf} {A : Bool → Int → Prop} (h : IsNorm L A) {i k : Nat} (hi : i < L.length) (hk : k < i) :
    (L[k]).has L[i] = false ∧ (L[i]).has L[k] = false ∧ (L[k]).whole L[i] = false ∧ lessB (L[k]).v (L[k]).hi (L[k]).lo (L[i]).v (L[i]).hi (L[i]).lo = true ∧ lessE (L[k]).v (L[k]).hi (L[k]).lo (L[i]).v (L[i]).hi (L[i]).lo = 0 := by
  obtain ⟨a, b⟩ := h.pair hi hk
  have r := h.right _ (List.getElem_mem (show k < L.length by omega))
  have s := h.right _ (List.getElem_mem hi)
  obtain ⟨c, d⟩ := ahead_has r s a
  obtain ⟨e, f⟩ := ahead_less r s a
  refine ⟨c, d, ?_, e, f⟩
  rw [Bool.eq_false_iff]
  exact fun x => b ((whole_nd r s).1 x)
/-- Lists of the same addresses have the same ones. -/
theorem hasL_same {L M : List Pf} (hL : ∀ p ∈ L, p.R) (hM : ∀ p ∈ M, p.R) (h : ∀ v x, Adr (L.map Pf.nd) v x ↔ Adr (M.map Pf.nd) v x) {v : Bool} {xh xl : Int} (q : Right v xh xl (wid v)) : hasL L v xh xl = hasL M v xh xl := by
  rw [Bool.eq_iff_iff, hasL_adr hL q, hasL_adr hM q]; exact h _ _
theorem hasL_less {L M : List Pf} {p : Pf} (hL : ∀ p ∈ L, p.R) (hM : ∀ p ∈ M, p.R) (r : p.R) (h : ∀ v x, Adr (M.map Pf.nd) v x ↔ Adr (L.map Pf.nd) v x ∧ ¬ p.nd.In v x) {v : Bool} {xh xl : Int} (q : Right v xh xl (wid v)) : hasL M v xh xl = (hasL L v xh xl && !p.inA v xh xl) := by
  rw [Bool.eq_iff_iff, hasL_adr hM q, h, Bool.and_eq_true, hasL_adr hL q, Bool.not_eq_true', Bool.eq_false_iff, Ne, in_nd r q]
theorem adr_rev (L : List Pf) (v : Bool) (x : Int) : Adr (L.reverse.map Pf.nd) v x ↔ Adr (L.map Pf.nd) v x := adr_perm (fun p => by simp) v x
/-- What was taken away and is put back. -/
theorem adr_back {L M : List Pf} {p : Pf} (rp : p.R) (hL : ∀ p ∈ L, p.R) (h : ∀ v x, Adr (M.map Pf.nd) v x ↔ Adr (L.map Pf.nd) v x ∧ ¬ p.nd.In v x) {q : Pf} (hq : q.R) (hqL : ∀ v x, q.nd.In v x → Adr (L.map Pf.nd) v x) (hh : q.has p = true) (v : Bool) (x : Int) : Adr ((M ++ [p]).map Pf.nd) v x ↔ Adr (L.map Pf.nd) v x := by
  rw [List.map_append, adr_append, h, List.map_cons, List.map_nil, adr_one]
  constructor
  · rintro (⟨a, _⟩ | a)
    · exact a
    · exact hqL v x (Nd.has_in (nd_ok hq) (nd_ok rp) ((has_nd hq rp).1 hh) a)
  · intro a
    by_cases b : p.nd.In v x
    · exact .inr b
    · exact .inl ⟨a, b⟩
/-- A norm without one of its own. -/
theorem IsNorm.less {L M : List Pf} {A : Bool → Int → Prop} (h : IsNorm L A) {i : Nat} (hi : i < L.length) (k : IsNorm M (fun v x => Adr (L.map Pf.nd) v x ∧ ¬ (L[i]).nd.In v x)) : M.length = L.length - 1 := by
  have e : L = L.take i ++ L[i] :: L.drop (i + 1) := by rw [← List.drop_eq_getElem_cons hi, List.take_append_drop]
  have hn := h.nrm
  have hr := h.right
  have hlen : (L.take i ++ L.drop (i + 1)).length = L.length - 1 := by rw [List.length_append, List.length_take, List.length_drop]; omega
  have hsub : (L.take i ++ L.drop (i + 1)).Sublist L := by
    have h := List.Sublist.append (List.Sublist.refl (L.take i)) (List.drop_sublist 1 (L.drop i))
    rw [List.drop_drop, List.take_append_drop] at h
    exact h
  have hp : L.Pairwise fun p q => p.nd.Ahead q.nd ∧ ¬ p.nd.Sib q.nd := by
    have := hn.2; rw [List.pairwise_map] at this; exact this
  have hN : IsNorm (L.take i ++ L.drop (i + 1)) (fun v x => Adr (L.map Pf.nd) v x ∧ ¬ (L[i]).nd.In v x) := by
    refine ⟨fun p hp => hr p (hsub.subset hp), ⟨fun s hs => ?_, ?_⟩, fun v x => ?_⟩
    · obtain ⟨p, hp, rfl⟩ := List.mem_map.1 hs
      exact nd_ok (hr p (hsub.subset hp))
    · rw [List.pairwise_map]; exact hp.sublist hsub
    · have hp2 := hp
      rw [e] at hp2
      obtain ⟨_, p2, p3⟩ := List.pairwise_append.1 hp2
      obtain ⟨p4, _⟩ := List.pairwise_cons.1 p2
      have eA : Adr (L.map Pf.nd) v x ↔ Adr ((L.take i).map Pf.nd) v x ∨ (L[i]).nd.In v x ∨ Adr ((L.drop (i + 1)).map Pf.nd) v x := by
        conv => lhs; rw [e]
        rw [List.map_append, adr_append, List.map_cons, show (L[i]).nd :: (L.drop (i + 1)).map Pf.nd = [(L[i]).nd] ++ (L.drop (i + 1)).map Pf.nd from rfl, adr_append, adr_one]
      rw [List.map_append, adr_append, eA]
      constructor
      · rintro (a | a)
        · refine ⟨.inl a, fun b => ?_⟩
          obtain ⟨y, hy, c⟩ := a
          obtain ⟨q, hq, rfl⟩ := List.mem_map.1 hy
          exact ahead_apart (p3 q hq L[i] List.mem_cons_self).1 c b
        · refine ⟨.inr (.inr a), fun b => ?_⟩
          obtain ⟨y, hy, c⟩ := a
          obtain ⟨q, hq, rfl⟩ := List.mem_map.1 hy
          exact ahead_apart (p4 q hq).1 b c
      · rintro ⟨a | a | a, b⟩
        · exact .inl a
        · exact absurd a b
        · exact .inr a
  rw [k.uniq hN, hlen]
end Go.Proofs.YtojdlpiogbjfcaaGreatDoor
