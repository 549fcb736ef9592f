/- Package lease: leases as plain words, Pool, Check, Drop, put, what is looked for. -/
import Derived.Test.YtiiankekobgebaaGreatDoorKmA
import Derived.Lib.SliceRun
import Derived.Shelf.Abstract
import Derived.Maps.OwnSet
import Derived.Maps.Views
import Derived.StringKeys
import Derived.Lib.Overlaps
import Derived.Lib.AppendZerosOnto
import Derived.Deep.RegionHeld3
import Derived.Deep.RegionWith
import Derived.Deep.RegionLaw
import Derived.Test.YtiiankekobgebaaGreatDoorNext
set_option linter.unusedVariables false
set_option linter.unusedSimpArgs false
namespace Go.Proofs.YtiiankekobgebaaGreatDoor
open Go.RowKit

/-- An address whose halves are words. -/
structure Ad where
  v : Bool
  hi : Int
  lo : Int
  ok : (0 ≤ hi ∧ hi < 18446744073709551616) ∧ (0 ≤ lo ∧ lo < 18446744073709551616)
/-- A lease. -/
structure Ls where
  a : Ad
  who : ByteArray
  un : Int
theorem Ad.same {x y : Ad} (h0 : x.v = y.v) (h1 : x.hi = y.hi) (h2 : x.lo = y.lo) : x = y := by
  cases x; cases y; simp at h0 h1 h2; subst h0; subst h1; subst h2; rfl
def adE : Enc Ad := ⟨3, fun x => [.bool x.v, .int .u64 x.hi, .int .u64 x.lo], by decide, fun _ => rfl, fun x u hu => by simp at hu; rcases hu with rfl | rfl | rfl <;> rfl⟩
def lsE : Enc Ls := ⟨5, fun x => [.bool x.a.v, .int .u64 x.a.hi, .int .u64 x.a.lo, .string x.who, .int .i64 x.un], by decide, fun _ => rfl, fun x u hu => by simp at hu; rcases hu with rfl | rfl | rfl | rfl | rfl <;> rfl⟩
theorem Lies.ad {w : World} {a : Option Addr} {l : List Ad} (h : Lies adE w a l) (j : Nat) (hj : j < l.length) : ∃ g o : Nat, a = some ⟨g, o, none⟩ ∧ g < w.heap.size ∧ w.cell? ⟨g, o + j * 3, none⟩ = some (.bool l[j].v) ∧ w.cell? ⟨g, o + j * 3 + 1, none⟩ = some (.int .u64 l[j].hi) ∧ w.cell? ⟨g, o + j * 3 + 2, none⟩ = some (.int .u64 l[j].lo) := by
  obtain ⟨g, o, e, hg, c⟩ := h j hj
  exact ⟨g, o, e, hg, c 0 _ rfl, c 1 _ rfl, c 2 _ rfl⟩
theorem Lies.ls {w : World} {a : Option Addr} {l : List Ls} (h : Lies lsE w a l) (j : Nat) (hj : j < l.length) : ∃ g o : Nat, a = some ⟨g, o, none⟩ ∧ g < w.heap.size ∧ w.cell? ⟨g, o + j * 5, none⟩ = some (.bool l[j].a.v) ∧ w.cell? ⟨g, o + j * 5 + 1, none⟩ = some (.int .u64 l[j].a.hi) ∧ w.cell? ⟨g, o + j * 5 + 2, none⟩ = some (.int .u64 l[j].a.lo) ∧ w.cell? ⟨g, o + j * 5 + 3, none⟩ = some (.string l[j].who) ∧ w.cell? ⟨g, o + j * 5 + 4, none⟩ = some (.int .i64 l[j].un) := by
  obtain ⟨g, o, e, hg, c⟩ := h j hj
  exact ⟨g, o, e, hg, c 0 _ rfl, c 1 _ rfl, c 2 _ rfl, c 3 _ rfl, c 4 _ rfl⟩

/-- Five cells of a variable. -/
def Has5 (w : World) (p : Nat) (x0 x1 x2 x3 x4 : Value) : Prop := w.cell? ⟨p, 0, none⟩ = some x0 ∧ w.cell? ⟨p, 1, none⟩ = some x1 ∧ w.cell? ⟨p, 2, none⟩ = some x2 ∧ w.cell? ⟨p, 3, none⟩ = some x3 ∧ w.cell? ⟨p, 4, none⟩ = some x4 ∧ p < w.heap.size
theorem Has5.below {W w' : World} {p : Nat} {x0 x1 x2 x3 x4 : Value} (h : Has5 W p x0 x1 x2 x3 x4) (hb : Below W.heap.size W w') : Has5 w' p x0 x1 x2 x3 x4 := by
  obtain ⟨a, b, c, d, e, f⟩ := h
  obtain ⟨h1, _⟩ := bcell hb
  exact ⟨by rw [h1 _ _ f]; exact a, by rw [h1 _ _ f]; exact b, by rw [h1 _ _ f]; exact c, by rw [h1 _ _ f]; exact d, by rw [h1 _ _ f]; exact e, Nat.lt_of_lt_of_le f hb.size⟩
theorem Has5.new (W : World) (x0 x1 x2 x3 x4 : Value) (t : Nat) : Has5 (W.alloc (.cells #[x0, x1, x2, x3, x4] t)) W.heap.size x0 x1 x2 x3 x4 := by
  refine ⟨?_, ?_, ?_, ?_, ?_, ?_⟩
  · simp [go_sem]
  · simp [go_sem]
  · simp [go_sem]
  · simp [go_sem]
  · simp [go_sem]
  · simp
theorem Has5.alloc {W : World} {p : Nat} {x0 x1 x2 x3 x4 : Value} (h : Has5 W p x0 x1 x2 x3 x4) (o : Obj) : Has5 (W.alloc o) p x0 x1 x2 x3 x4 := h.below (bal (Below.refl _ _) _)

/-- What is wrong with a lease. -/
def Ls.rgt (x : Ls) : Int := if chk x.a.v x.a.hi x.a.lo = 0 then (if whoB x.who = true then (if x.un < 0 ∨ 10499 < x.un then 3 else 0) else 1) else chk x.a.v x.a.hi x.a.lo

set_option maxHeartbeats 8000000 in
theorem lright_any (x : Ls) (w : World) : Calls Tryz.prog 57 #[.agg #[.bool x.a.v, .int .u64 x.a.hi, .int .u64 x.a.lo, .string x.who, .int .i64 x.un]] w fun e w' => e = .returned (.int .i64 x.rgt) ∧ Below w.heap.size w w' := by
  have hA : Hid (∀ w : World, Calls Tryz.prog 41 #[.agg #[.bool x.a.v, .int .u64 x.a.hi, .int .u64 x.a.lo]] w fun e w' => e = .returned (.int .i64 (chk x.a.v x.a.hi x.a.lo)) ∧ ∃ c, w' = w.alloc (.cells c 24)) := fun w => check_any x.a.v x.a.hi x.a.lo w x.a.ok.1.1 x.a.ok.2.1
  have hN : Hid (∀ w : World, Calls Tryz.prog 27 #[.string x.who] w fun e w' => e = .returned (.bool (whoB x.who)) ∧ w' = w) := fun w => nright_any x.who w
  have HP := Lib.hid (Has5.new w (.bool x.a.v) (.int .u64 x.a.hi) (.int .u64 x.a.lo) (.string x.who) (.int .i64 x.un) 39)
  have HB := Lib.hid (bal (Below.refl w.heap.size w) (.cells #[.bool x.a.v, .int .u64 x.a.hi, .int .u64 x.a.lo, .string x.who, .int .i64 x.un] 39))
  unfold Ls.rgt
  generalize x.a.v = v at *
  generalize x.a.hi = hi at *
  generalize x.a.lo = lo at *
  generalize x.who = who at *
  generalize x.un = un at *
  generalize chk v hi lo = r at *
  generalize whoB who = b at *
  by_cases hr : r = 0
  · subst hr
    rw [if_pos rfl]
    cases b
    · rw [if_neg (by decide)]
      go_enter Tryz.func57, Tryz.ntmps57
      go_wp2_with fail
      refine (hA.out _).mono ?_
      rintro e w2 ⟨rfl, c, rfl⟩
      obtain ⟨p0, p1, p2, p3, p4, p5⟩ := HP.out.alloc (.cells c 24)
      go_wp2_with (go_at_call 27; refine (hN.out _).mono ?_; rintro e w3 ⟨rfl, rfl⟩)
      go_ret
      exact ⟨rfl, bal HB.out _⟩
    · rw [if_pos rfl]
      by_cases h0 : un < 0
      · rw [if_pos (.inl h0)]
        go_enter Tryz.func57, Tryz.ntmps57
        go_wp2_with fail
        refine (hA.out _).mono ?_
        rintro e w2 ⟨rfl, c, rfl⟩
        obtain ⟨p0, p1, p2, p3, p4, p5⟩ := HP.out.alloc (.cells c 24)
        go_wp2_with (go_at_call 27; refine (hN.out _).mono ?_; rintro e w3 ⟨rfl, rfl⟩)
        go_ret
        exact ⟨rfl, bal HB.out _⟩
      · have d0 : decide (un < 0) = false := decide_eq_false h0
        by_cases h1 : 10499 < un
        · rw [if_pos (.inr h1)]
          go_enter Tryz.func57, Tryz.ntmps57
          go_wp2_with fail
          refine (hA.out _).mono ?_
          rintro e w2 ⟨rfl, c, rfl⟩
          obtain ⟨p0, p1, p2, p3, p4, p5⟩ := HP.out.alloc (.cells c 24)
          go_wp2_with (go_at_call 27; refine (hN.out _).mono ?_; rintro e w3 ⟨rfl, rfl⟩)
          go_ret
          exact ⟨rfl, bal HB.out _⟩
        · have d1 : decide (10499 < un) = false := decide_eq_false h1
          rw [if_neg (by omega)]
          go_enter Tryz.func57, Tryz.ntmps57
          go_wp2_with fail
          refine (hA.out _).mono ?_
          rintro e w2 ⟨rfl, c, rfl⟩
          obtain ⟨p0, p1, p2, p3, p4, p5⟩ := HP.out.alloc (.cells c 24)
          go_wp2_with (go_at_call 27; refine (hN.out _).mono ?_; rintro e w3 ⟨rfl, rfl⟩)
          go_ret
          exact ⟨rfl, bal HB.out _⟩
  · rw [if_neg hr]
    have hI : (r != 0) = true := by rw [bne_iff_ne]; exact hr
    clear hr
    go_enter Tryz.func57, Tryz.ntmps57
    go_wp2_with fail
    refine (hA.out _).mono ?_
    rintro e w2 ⟨rfl, c, rfl⟩
    go_wp2
    go_ret
    exact ⟨rfl, bal HB.out _⟩
end Go.Proofs.YtiiankekobgebaaGreatDoor

namespace Go.Proofs.YtiiankekobgebaaGreatDoor
open Go.RowKit

def Ad.less (x y : Ad) : Bool := lessB x.v x.hi x.lo y.v y.hi y.lo
/-- The first lease of which something is wrong tells. -/
def rgtAll : List Ls → Int
  | [] => 0
  | x :: r => if x.rgt = 0 then rgtAll r else x.rgt
def rises : List Ls → Bool
  | [] => true
  | [_] => true
  | x :: y :: r => x.a.less y.a && rises (y :: r)
def lookL (l : List Ls) (now : Int) : Int := if 20 < l.length then 2 else if rgtAll l = 0 then (if rises l = true then (if now < 0 ∨ 9999 < now then 3 else 0) else 4) else rgtAll l
theorem rises_at (l : List Ls) (m : Nat) (h : m + 1 < l.length) : rises (l.drop m) = (l[m].a.less l[m + 1].a && rises (l.drop (m + 1))) := by
  rw [List.drop_eq_getElem_cons (show m < l.length by omega), List.drop_eq_getElem_cons (show m + 1 < l.length from h), rises]
theorem rises_end (l : List Ls) (m : Nat) (h : l.length ≤ m + 1) : rises (l.drop m) = true := by
  match e : l.drop m with
  | [] => rfl
  | [_] => rfl
  | x :: y :: r =>
    have := congrArg List.length e
    simp at this
    omega
theorem keepA33 {w W W' : World} {g a b : Nat} {x0 x1 x2 y0 y1 y2 : Value}
    (h : (W.cell? ⟨g, a, none⟩ = some x0 ∧ W.cell? ⟨g, a + 1, none⟩ = some x1 ∧ W.cell? ⟨g, a + 2, none⟩ = some x2) ∧ (W.cell? ⟨g, b, none⟩ = some y0 ∧ W.cell? ⟨g, b + 1, none⟩ = some y1 ∧ W.cell? ⟨g, b + 2, none⟩ = some y2) ∧ g < W.heap.size ∧ Below w.heap.size w W) (hb : Below W.heap.size W W') :
    (W'.cell? ⟨g, a, none⟩ = some x0 ∧ W'.cell? ⟨g, a + 1, none⟩ = some x1 ∧ W'.cell? ⟨g, a + 2, none⟩ = some x2) ∧ (W'.cell? ⟨g, b, none⟩ = some y0 ∧ W'.cell? ⟨g, b + 1, none⟩ = some y1 ∧ W'.cell? ⟨g, b + 2, none⟩ = some y2) ∧ g < W'.heap.size ∧ Below w.heap.size w W' := by
  obtain ⟨⟨a0, a1, a2⟩, ⟨b0, b1, b2⟩, hg, hw⟩ := h
  have k := (bcell hb).1
  exact ⟨⟨by rw [k _ _ hg]; exact a0, by rw [k _ _ hg]; exact a1, by rw [k _ _ hg]; exact a2⟩, ⟨by rw [k _ _ hg]; exact b0, by rw [k _ _ hg]; exact b1, by rw [k _ _ hg]; exact b2⟩, Nat.lt_of_lt_of_le hg hb.size, btr hw hb⟩

set_option maxHeartbeats 16000000 in
set_option maxRecDepth 100000 in
theorem llook_any (a : Option Addr) (c : Nat) (l : List Ls) (now : Int) (w : World) (hs : Lies lsE w a l) :
    Calls Tryz.prog 30 #[.slice a l.length c, .int .i64 now] w fun e w' => e = .returned (.int .i64 (lookL l now)) ∧ Below w.heap.size w w' := by
  by_cases hl : 20 < l.length
  · rw [show lookL l now = 2 by simp [lookL, hl]]
    have hl' : (20 : Int) < (l.length : Int) := by omega
    generalize l.length = N at *
    go_enter Tryz.func30, Tryz.ntmps30
    go_wp2
    go_ret
    exact ⟨rfl, Below.refl _ _⟩
  rw [show lookL l now = if rgtAll l = 0 then (if rises l = true then (if now < 0 ∨ 9999 < now then 3 else 0) else 4) else rgtAll l by simp [lookL, hl]]
  obtain ⟨N, hN⟩ : ∃ N, N = l.length := ⟨_, rfl⟩
  rw [← hN] at hl ⊢
  have hN20 : N ≤ 20 := by omega
  have hd20 : decide ((20 : Int) < (N : Int)) = false := decide_eq_false (by omega)
  have HN : Hid (N = l.length) := hN
  have HL := Lib.hid hs
  obtain ⟨R, hR⟩ : ∃ R, R = if rgtAll l = 0 then (if rises l = true then (if now < 0 ∨ 9999 < now then 3 else 0) else 4) else rgtAll l := ⟨_, rfl⟩
  rw [← hR]
  have HR := Lib.hid hR
  clear hN hl hs hR
  go_enter Tryz.func30, Tryz.ntmps30
  go_wp2_with fail
  go_loopw [14] (fun vi wr => ∃ k : Nat, vi = .int .i64 k ∧ k ≤ N ∧ Hid (Below w.heap.size w wr) ∧ Hid (rgtAll l = rgtAll (l.drop k)))
    (fun vi _ => N - (intOf vi).toNat)
  case atStart => exact ⟨0, rfl, Nat.zero_le _, Below.refl _ _, rfl⟩
  case round =>
    obtain ⟨k, rfl, hk, hb, hh⟩ := hrel
    by_cases hkN : k < N
    · have hkl : k < l.length := by have := HN.out; omega
      obtain ⟨g, o, rfl, hg, c0, c1, c2, c3, c4⟩ := HL.out.ls k hkl
      have hdec := hh.out
      rw [List.drop_eq_getElem_cons hkl, rgtAll] at hdec
      rw [← (bcell hb.out).1 _ _ hg] at c0 c1 c2 c3 c4
      have hC : Hid (∀ w : World, Calls Tryz.prog 57 #[.agg #[.bool l[k].a.v, .int .u64 l[k].a.hi, .int .u64 l[k].a.lo, .string l[k].who, .int .i64 l[k].un]] w fun e w' => e = .returned (.int .i64 l[k].rgt) ∧ Below w.heap.size w w') := fun w => lright_any l[k] w
      have hb1 := Lib.hid (bal hb.out (.cells #[.bool l[k].a.v, .int .u64 l[k].a.hi, .int .u64 l[k].a.lo, .string l[k].who, .int .i64 l[k].un] 39))
      have hkz : (k : Int) < (N : Int) := by omega
      have hk0 : (0 : Int) ≤ (k : Int) := by omega
      generalize l[k].rgt = r at *
      generalize l[k].a.v = v at *
      generalize l[k].a.hi = hi at *
      generalize l[k].a.lo = lo at *
      generalize l[k].who = who at *
      generalize l[k].un = un at *
      clear hh hb
      by_cases hx : r = 0
      · subst hx
        rw [if_pos rfl] at hdec
        have HD := Lib.hid hdec
        clear hdec
        go_wp2_with fail
        refine (hC.out _).mono ?_
        rintro e w2 ⟨rfl, hb2⟩
        have hb3 := Lib.hid (btr hb1.out hb2)
        clear hb1 hb2
        go_wp2_with fail
        go_roundw
        case rel => exact ⟨k + 1, by go_num, by omega, hb3, HD⟩
        case measure => simp [intOf]; omega
      · rw [if_neg hx] at hdec
        have HD : Hid (R = r) := by rw [Hid, HR.out, hdec, if_neg hx]
        have hI : (r != 0) = true := by rw [bne_iff_ne]; exact hx
        clear hdec hx
        go_wp2_with fail
        refine (hC.out _).mono ?_
        rintro e w2 ⟨rfl, hb2⟩
        have hb3 := Lib.hid (btr hb1.out hb2)
        clear hb1 hb2
        go_wp2_with fail
        go_ret
        exact ⟨congrArg (fun r => Ending.returned (Value.int .i64 r)) HD.out.symm, hb3.out⟩
    · obtain rfl : k = N := by omega
      have hd := hh.out
      rw [List.drop_eq_nil_of_le (by have := HN.out; omega), rgtAll] at hd
      have HR2 : Hid (R = if rises l = true then (if now < 0 ∨ 9999 < now then 3 else 0) else 4) := by rw [Hid, HR.out, if_pos hd]
      clear hd hh HR
      have hkk : ¬ (k : Int) < (k : Int) := by omega
      go_wp2_with fail
      obtain ⟨wo, hwo⟩ : ∃ wo, wo = wr := ⟨_, rfl⟩
      subst hwo
      go_loopw [8] (fun vi wr => ∃ m : Nat, vi = .int .i64 ((m : Int) + 1) ∧ m ≤ 20 ∧ Hid (Below w.heap.size w wr) ∧ Hid (rises l = rises (l.drop m)))
        (fun vi _ => k + 1 - (intOf vi).toNat)
      case atStart => exact ⟨0, rfl, Nat.zero_le _, hb, rfl⟩
      case round =>
        clear hb
        obtain ⟨m, rfl, hm, hb, hh⟩ := hrel
        by_cases hmN : m + 1 < k
        · have hml : m + 1 < l.length := by have := HN.out; omega
          have hst := hh.out
          rw [rises_at l m hml] at hst
          obtain ⟨g, o, rfl, hg, c0, c1, c2, _, _⟩ := HL.out.ls m (by omega)
          obtain ⟨g', o', e', _, d0, d1, d2, _, _⟩ := HL.out.ls (m + 1) hml
          obtain ⟨rfl, rfl⟩ : g = g' ∧ o = o' := by simpa using e'
          have hgr : g < wr.heap.size := Nat.lt_of_lt_of_le hg hb.out.size
          rw [← (bcell hb.out).1 _ _ hg] at c0 c1 c2 d0 d1 d2
          have hC : Hid (∀ w : World, Calls Tryz.prog 42 #[.agg #[.bool l[m].a.v, .int .u64 l[m].a.hi, .int .u64 l[m].a.lo], .agg #[.bool l[m + 1].a.v, .int .u64 l[m + 1].a.hi, .int .u64 l[m + 1].a.lo]] w fun e w' => e = .returned (.bool (l[m].a.less l[m + 1].a)) ∧ Below w.heap.size w w') :=
            fun w => oless_any l[m].a.v l[m + 1].a.v l[m].a.hi l[m].a.lo l[m + 1].a.hi l[m + 1].a.lo w l[m].a.ok.1.1 l[m].a.ok.2.1 l[m + 1].a.ok.1.1 l[m + 1].a.ok.2.1
          generalize l[m].a.less l[m + 1].a = r at *
          generalize l[m].a.v = v at *
          generalize l[m].a.hi = hi at *
          generalize l[m].a.lo = lo at *
          generalize l[m + 1].a.v = u at *
          generalize l[m + 1].a.hi = yi at *
          generalize l[m + 1].a.lo = yo at *
          have hkz : (m : Int) + 1 < (k : Int) := by omega
          have hwr : IntKind.i64.wrap ((m : Int) + 1 - 1) = (m : Int) := by rw [IntKind.wrap_i64]; omega
          have hwr2 : IntKind.i64.wrap (m : Int) = (m : Int) := by rw [IntKind.wrap_i64]; omega
          have hm1 : (0 : Int) ≤ (m : Int) := by omega
          have hm3 : (0 : Int) ≤ (m : Int) + 1 := by omega
          have hm2 : (m : Int) < (k : Int) := by omega
          have HSd := Lib.hid (keepA33 (w := w) (W := wr) ⟨⟨c0, c1, c2⟩, ⟨d0, d1, d2⟩, hgr, hb.out⟩ (Below.refl _ _).drew)
          have HB := hb
          clear hh hb c0 c1 c2 d0 d1 d2 e' hg
          cases r
          · rw [Bool.false_and] at hst
            have HD : Hid (R = 4) := by rw [Hid, HR2.out, hst]; rfl
            clear hst
            go_wp2_with fail
            go_region_held3 (fun w' => (w'.cell? ⟨g, o + m * 5, none⟩ = some (.bool v) ∧ w'.cell? ⟨g, o + m * 5 + 1, none⟩ = some (.int .u64 hi) ∧ w'.cell? ⟨g, o + m * 5 + 2, none⟩ = some (.int .u64 lo)) ∧ (w'.cell? ⟨g, o + (m + 1) * 5, none⟩ = some (.bool u) ∧ w'.cell? ⟨g, o + (m + 1) * 5 + 1, none⟩ = some (.int .u64 yi) ∧ w'.cell? ⟨g, o + (m + 1) * 5 + 2, none⟩ = some (.int .u64 yo)) ∧ g < w'.heap.size ∧ Below w.heap.size w w')
              (first | with_reducible exact HSd.out | with_reducible exact HSe.out | fail)
              ((go_at_call 42; refine (hC.out _).mono ?_; rintro e wx ⟨rfl, hb⟩; have HSe := Lib.hid (keepA33 HSd.out hb); clear hb))
            have HB2 := Lib.hid HSe.out.2.2.2
            clear HSe HSd
            go_wp2_with fail
            go_ret
            exact ⟨congrArg (fun r => Ending.returned (Value.int .i64 r)) HD.out.symm, HB2.out⟩
          · rw [Bool.true_and] at hst
            have HD := Lib.hid hst
            clear hst
            go_wp2_with fail
            go_region_held3 (fun w' => (w'.cell? ⟨g, o + m * 5, none⟩ = some (.bool v) ∧ w'.cell? ⟨g, o + m * 5 + 1, none⟩ = some (.int .u64 hi) ∧ w'.cell? ⟨g, o + m * 5 + 2, none⟩ = some (.int .u64 lo)) ∧ (w'.cell? ⟨g, o + (m + 1) * 5, none⟩ = some (.bool u) ∧ w'.cell? ⟨g, o + (m + 1) * 5 + 1, none⟩ = some (.int .u64 yi) ∧ w'.cell? ⟨g, o + (m + 1) * 5 + 2, none⟩ = some (.int .u64 yo)) ∧ g < w'.heap.size ∧ Below w.heap.size w w')
              (first | with_reducible exact HSd.out | with_reducible exact HSe.out | fail)
              ((go_at_call 42; refine (hC.out _).mono ?_; rintro e wx ⟨rfl, hb⟩; have HSe := Lib.hid (keepA33 HSd.out hb); clear hb))
            have HB2 := Lib.hid HSe.out.2.2.2
            clear HSe HSd
            go_wp2_with fail
            go_roundw
            case rel => exact ⟨m + 1, by go_num, by omega, HB2, HD⟩
            case measure => simp [intOf]; omega
        · have hd := hh.out
          rw [rises_end l m (by have := HN.out; omega)] at hd
          have HD : Hid (R = if now < 0 ∨ 9999 < now then 3 else 0) := by rw [Hid, HR2.out, if_pos hd]
          have hkz : ¬ (m : Int) + 1 < (k : Int) := by omega
          clear hd hh HR2
          by_cases h0 : now < 0
          · have HE : Hid (R = 3) := by rw [Hid, HD.out, if_pos (.inl h0)]
            go_wp2_with fail
            go_ret
            exact ⟨congrArg (fun r => Ending.returned (Value.int .i64 r)) HE.out.symm, hb.out⟩
          · have d0 : decide (now < 0) = false := decide_eq_false h0
            by_cases h1 : 9999 < now
            · have HE : Hid (R = 3) := by rw [Hid, HD.out, if_pos (.inr h1)]
              clear h0
              go_wp2_with fail
              go_ret
              exact ⟨congrArg (fun r => Ending.returned (Value.int .i64 r)) HE.out.symm, hb.out⟩
            · have HE : Hid (R = 0) := by rw [Hid, HD.out, if_neg (by omega)]
              have d1 : decide (9999 < now) = false := decide_eq_false h1
              clear h0 h1
              go_wp2_with fail
              go_ret
              exact ⟨congrArg (fun r => Ending.returned (Value.int .i64 r)) HE.out.symm, hb.out⟩
end Go.Proofs.YtiiankekobgebaaGreatDoor

namespace Go.Proofs.YtiiankekobgebaaGreatDoor
open Go.RowKit

def idxI : Option Nat → Int
  | some i => i
  | none => -1
theorem find_hit {α : Type} {p : α → Bool} {l : List α} {k : Nat} (hk : k < l.length) (h : p l[k] = true) (ha : ∀ j (hj : j < k), p (l[j]'(by omega)) = false) : l.findIdx? p = some k :=
  List.findIdx?_eq_some_iff_getElem.2 ⟨hk, h, fun j hj => by rw [ha j hj]; simp⟩
theorem find_miss {α : Type} {p : α → Bool} {l : List α} (ha : ∀ j (hj : j < l.length), p l[j] = false) : l.findIdx? p = none :=
  List.findIdx?_eq_none_iff.2 fun x hx => by
    obtain ⟨j, hj, rfl⟩ := List.mem_iff_getElem.1 hx
    exact ha j hj

set_option maxHeartbeats 8000000 in
set_option maxRecDepth 100000 in
theorem ifnL_any (a : Option Addr) (c : Nat) (l : List Ls) (w : World) (f : Nat) (lb : Array Value) (p : Ls → Bool) (hl : l.length ≤ 1000) (hs : Lies lsE w a l) (ef : ∀ args w, (callFunc f args).run Tryz.prog w = .ok (.enter f args) w)
    (hp : ∀ (W : World) (x : Ls), x ∈ l → Below w.heap.size w W → Calls Tryz.prog f (#[.agg #[.bool x.a.v, .int .u64 x.a.hi, .int .u64 x.a.lo, .string x.who, .int .i64 x.un]] ++ lb) W fun e w' => e = .returned (.bool (p x)) ∧ Below w.heap.size w w') :
    Calls Tryz.prog 53 #[.slice a l.length c, .func (.func f) #[] lb] w fun e w' => e = .returned (.int .i64 (idxI (l.findIdx? p))) ∧ Below w.heap.size w w' := by
  obtain ⟨N, hN⟩ : ∃ N, N = l.length := ⟨_, rfl⟩
  rw [← hN] at hl ⊢
  have HN : Hid (N = l.length) := hN
  have HL := Lib.hid hs
  have HPr := Lib.hid hp
  obtain ⟨R, hR⟩ : ∃ R, R = idxI (l.findIdx? p) := ⟨_, rfl⟩
  rw [← hR]
  have HR := Lib.hid hR
  clear hN hs hp hR
  go_enter Tryz.func53, Tryz.ntmps53
  go_wp2_with fail
  go_loopw [8] (fun vi wr => ∃ k : Nat, vi = .int .i64 k ∧ k ≤ N ∧ Hid (Below w.heap.size w wr) ∧ Hid (∀ j (hj : j < k) (hl : j < l.length), p l[j] = false))
    (fun vi _ => N - (intOf vi).toNat)
  case atStart => exact ⟨0, rfl, Nat.zero_le _, Below.refl _ _, fun j hj => absurd hj (Nat.not_lt_zero _)⟩
  case round =>
    obtain ⟨k, rfl, hk, hb, hh⟩ := hrel
    by_cases hkN : k < N
    · have hkl : k < l.length := by have := HN.out; omega
      obtain ⟨g, o, rfl, hg, c0, c1, c2, c3, c4⟩ := HL.out.ls k hkl
      rw [← (bcell hb.out).1 _ _ hg] at c0 c1 c2 c3 c4
      have HC := Lib.hid (HPr.out wr l[k] (List.getElem_mem hkl) hb.out)
      have hkz : (k : Int) < (N : Int) := by omega
      have hk0 : (0 : Int) ≤ (k : Int) := by omega
      have HQ : Hid (∀ b, p l[k] = b → (b = true → R = k) ∧ (b = false → ∀ j (hj : j < k + 1) (hl : j < l.length), p l[j] = false)) := by
        intro b hb
        refine ⟨fun e => ?_, fun e j hj hl => ?_⟩
        · rw [HR.out, find_hit hkl (hb.trans e) (fun j hj => hh.out j hj (by omega))]; rfl
        · by_cases hjk : j = k
          · subst hjk; exact hb.trans e
          · exact hh.out j (by omega) hl
      generalize hq : p l[k] = b at *
      have HQ2 := Lib.hid (HQ.out b rfl)
      generalize l[k].a.v = v at *
      generalize l[k].a.hi = hi at *
      generalize l[k].a.lo = lo at *
      generalize l[k].who = who at *
      generalize l[k].un = un at *
      clear hh hb HPr HQ hq HL
      cases b
      · have HQ3 := Lib.hid (HQ2.out.2 rfl)
        clear HQ2
        go_wp2_with fail
        refine HC.out.mono ?_
        rintro e w2 ⟨rfl, hb2⟩
        have HB := Lib.hid hb2
        clear hb2
        go_wp2_with fail
        go_roundw
        case rel => exact ⟨k + 1, by go_num, by omega, HB, HQ3⟩
        case measure => simp [intOf]; omega
      · have HQ3 := Lib.hid (HQ2.out.1 rfl)
        clear HQ2
        go_wp2_with fail
        refine HC.out.mono ?_
        rintro e w2 ⟨rfl, hb2⟩
        go_wp2_with fail
        go_ret
        exact ⟨congrArg (fun r => Ending.returned (Value.int .i64 r)) HQ3.out.symm, hb2⟩
    · obtain rfl : k = N := by omega
      have hkk : ¬ (k : Int) < (k : Int) := by omega
      have HD : Hid (R = -1) := by
        rw [Hid, HR.out, find_miss (fun j hj => hh.out j (by have := HN.out; omega) hj)]; rfl
      go_wp2_with fail
      go_ret
      exact ⟨congrArg (fun r => Ending.returned (Value.int .i64 r)) HD.out.symm, hb.out⟩

theorem zeroL (w : World) : (zeroValue 39).run Tryz.prog w = .ok (.agg #[.bool false, .int .u64 0, .int .u64 0, .string ⟨#[]⟩, .int .i64 0]) w := by kernel_rfl
theorem infoL : (Tryz.prog.info? 39).map (fun i => (i.zero, i.size)) = some (some (.agg #[.bool false, .int .u64 0, .int .u64 0, .string ⟨#[]⟩, .int .i64 0]), 5) := by kernel_rfl
theorem splice5 (L : List Value) (o : Nat) (x0 x1 x2 x3 x4 : Value) (h : o + 5 ≤ L.length) : ((((L.set o x0).set (o + 1) x1).set (o + 2) x2).set (o + 3) x3).set (o + 4) x4 = splice L o [x0, x1, x2, x3, x4] := by
  apply List.ext_getElem?
  intro i
  rw [splice]
  simp only [List.getElem?_set, List.length_set]
  by_cases h1 : i < o
  · rw [List.getElem?_append_left (by simp; omega), List.getElem?_take_of_lt h1]
    rw [if_neg (by omega), if_neg (by omega), if_neg (by omega), if_neg (by omega), if_neg (by omega)]
  · rw [List.getElem?_append_right (by simp; omega)]
    rw [show (L.take o).length = o by simp; omega]
    by_cases h2 : i < o + 5
    · have : i = o ∨ i = o + 1 ∨ i = o + 2 ∨ i = o + 3 ∨ i = o + 4 := by omega
      rcases this with rfl | rfl | rfl | rfl | rfl
      · simp; omega
      · simp; omega
      · simp; omega
      · simp; omega
      · simp; omega
    · rw [if_neg (by omega), if_neg (by omega), if_neg (by omega), if_neg (by omega), if_neg (by omega)]
      rw [List.getElem?_append_right (by simp; omega), List.getElem?_drop]
      congr 1
      simp; omega
theorem set5_row {w : World} {g o t : Nat} {cs : List Value} (hg : w.heap[g]? = some (.cells cs.toArray t (0, 0))) (x0 x1 x2 x3 x4 : Value) (h : o + 5 ≤ cs.length) :
    (((((w.setCell ⟨g, o, none⟩ x0).setCell ⟨g, o + 1, none⟩ x1).setCell ⟨g, o + 2, none⟩ x2).setCell ⟨g, o + 3, none⟩ x3).setCell ⟨g, o + 4, none⟩ x4) = w.setRow g (splice cs o [x0, x1, x2, x3, x4]).toArray := by
  rw [setCell_eq_setRow w g o _ t (0, 0) x0 hg]
  have h1 := setRow_heap w g _ (cs.toArray.setIfInBounds o x0) t _ hg
  rw [setCell_eq_setRow _ g (o + 1) _ t (0, 0) x1 h1, setRow_setRow]
  have h2 := setRow_heap w g _ ((cs.toArray.setIfInBounds o x0).setIfInBounds (o + 1) x1) t _ hg
  rw [setCell_eq_setRow _ g (o + 2) _ t (0, 0) x2 h2, setRow_setRow]
  have h3 := setRow_heap w g _ (((cs.toArray.setIfInBounds o x0).setIfInBounds (o + 1) x1).setIfInBounds (o + 2) x2) t _ hg
  rw [setCell_eq_setRow _ g (o + 3) _ t (0, 0) x3 h3, setRow_setRow]
  have h4 := setRow_heap w g _ ((((cs.toArray.setIfInBounds o x0).setIfInBounds (o + 1) x1).setIfInBounds (o + 2) x2).setIfInBounds (o + 3) x3) t _ hg
  rw [setCell_eq_setRow _ g (o + 4) _ t (0, 0) x4 h4, setRow_setRow]
  have e : ((((cs.toArray.setIfInBounds o x0).setIfInBounds (o + 1) x1).setIfInBounds (o + 2) x2).setIfInBounds (o + 3) x3).setIfInBounds (o + 4) x4 = (splice cs o [x0, x1, x2, x3, x4]).toArray := by
    rw [← splice5 cs o x0 x1 x2 x3 x4 h]
    simp only [List.setIfInBounds_toArray]
  exact congrArg (w.setRow g) e
theorem OwnAt.set5 {w : World} {B t g c : Nat} {l : List Ls} (h : OwnAt lsE w B t g c l) (j : Nat) (x : Ls) (hj : j < l.length) :
    OwnAt lsE (((((w.setCell ⟨g, j * 5, none⟩ (.bool x.a.v)).setCell ⟨g, j * 5 + 1, none⟩ (.int .u64 x.a.hi)).setCell ⟨g, j * 5 + 2, none⟩ (.int .u64 x.a.lo)).setCell ⟨g, j * 5 + 3, none⟩ (.string x.who)).setCell ⟨g, j * 5 + 4, none⟩ (.int .i64 x.un)) B t g c (l.set j x) ∧
    w.grownBy (((((w.setCell ⟨g, j * 5, none⟩ (.bool x.a.v)).setCell ⟨g, j * 5 + 1, none⟩ (.int .u64 x.a.hi)).setCell ⟨g, j * 5 + 2, none⟩ (.int .u64 x.a.lo)).setCell ⟨g, j * 5 + 3, none⟩ (.string x.who)).setCell ⟨g, j * 5 + 4, none⟩ (.int .i64 x.un)) (some g) := by
  obtain ⟨r, hr, hl⟩ := h.row
  have hle : j * 5 + 5 ≤ (rowOf lsE l ++ r).length := by
    rw [hl]
    have := h.le
    show j * 5 + 5 ≤ c * 5
    omega
  rw [set5_row hr _ _ _ _ _ hle]
  exact ⟨h.set j x hj _ ⟨r, hr, hl, rfl⟩, grown_row _ _ _⟩
/-- The row but for what is cut off. -/
theorem OwnAt.tail {α : Type} {E : Enc α} {w : World} {B t g c : Nat} {l : List α} (h : OwnAt E w B t g c l) (n : Nat) (hn : n ≤ l.length) (cs : List Value) (h1 : cs.length = c * E.k) (h2 : cs.take (n * E.k) = rowOf E (l.take n)) : OwnAt E (w.setRow g cs.toArray) B t g c (l.take n) := by
  obtain ⟨r, hr, hl⟩ := h.row
  refine ⟨h.base, by have := h.le; rw [List.length_take]; omega, h.max, cs.drop (n * E.k), ?_, ?_⟩
  · rw [← h2, List.take_append_drop]
    exact setRow_heap w g _ _ t _ hr
  · rw [← h2, List.take_append_drop]; exact h1
end Go.Proofs.YtiiankekobgebaaGreatDoor

namespace Go.Proofs.YtiiankekobgebaaGreatDoor
open Go.RowKit

/-- clear of a row's cells. -/
theorem run_clear_row {P : Program} (w : World) (t e ty : TypeId) (z : Value) (ht : P.underlying t = some (.slice e)) (hv : ∀ w, (zeroValue e).run P w = .ok z w) (b o n c : Nat) (hn : 0 < n) (cur : Array Value) (T : TypeId) (hg : w.heap[b]? = some (.cells cur T (0, 0)))
    (vs : List Value) (hvs : vs = (Builtin.zeroCells z.cells n).toList) (h1 : ∀ u ∈ vs, u.oneCell' = true) (hfit : o + vs.length ≤ cur.size) :
    (Builtin.clear_ #[t] ty #[.slice (some ⟨b, o, none⟩) n c]).run P w = .ok (.tuple #[]) (w.setRow b (splice cur.toList o vs).toArray) := by
  have hst := run_storeCells_at P b o T vs 0 cur w hg (by simpa using hfit) h1
  simp only [Nat.add_zero] at hst
  obtain ⟨m, rfl⟩ : ∃ m, n = m + 1 := ⟨n - 1, by omega⟩
  simp [Builtin.clear_, run_underlying ht, hv, ← hvs, hst, splice]
theorem zero_len (n : Nat) (z : Array Value) : (Builtin.zeroCells z n).toList.length = n * z.size := by
  simp [Builtin.zeroCells]
theorem zero_one (n : Nat) (z : Array Value) (h : ∀ u ∈ z.toList, u.oneCell' = true) : ∀ u ∈ (Builtin.zeroCells z n).toList, u.oneCell' = true := by
  intro u hu
  simp [Builtin.zeroCells] at hu
  obtain ⟨i, hi, rfl⟩ := hu
  have hz : 0 < z.size := by
    rcases Nat.eq_zero_or_pos z.size with e | e
    · rw [e] at hi; omega
    · exact e
  rw [getElem!_pos z _ (Nat.mod_lt _ hz)]
  exact h _ (by simp)

/-- What has been kept when j have been asked. -/
structure Kept (p : Ls → Bool) (l : List Ls) (j i : Nat) (dk : List Ls) : Prop where
  lt : i < j
  len : dk.length = l.length
  low : dk.take i = (l.take j).filter (fun x => !p x)
  high : dk.drop j = l.drop j
theorem Kept.at {p : Ls → Bool} {l : List Ls} {j i : Nat} {dk : List Ls} (h : Kept p l j i dk) (hj : j < l.length) : dk[j]'(by rw [h.len]; exact hj) = l[j] := by
  have e := h.high
  rw [List.drop_eq_getElem_cons (by rw [h.len]; exact hj), List.drop_eq_getElem_cons hj] at e
  exact (List.cons.inj e).1
theorem Kept.skip {p : Ls → Bool} {l : List Ls} {j i : Nat} {dk : List Ls} (h : Kept p l j i dk) (hj : j < l.length) (hp : p l[j] = true) : Kept p l (j + 1) i dk := by
  refine ⟨by have := h.lt; omega, h.len, ?_, ?_⟩
  · rw [h.low, List.take_succ_eq_append_getElem hj, List.filter_append]; simp [hp]
  · rw [← List.tail_drop, ← List.tail_drop, h.high]
theorem Kept.keep {p : Ls → Bool} {l : List Ls} {j i : Nat} {dk : List Ls} (h : Kept p l j i dk) (hj : j < l.length) (hp : p l[j] = false) : Kept p l (j + 1) (i + 1) (dk.set i l[j]) := by
  have hlt := h.lt
  have hl := h.len
  refine ⟨by omega, by rw [List.length_set]; exact h.len, ?_, ?_⟩
  · rw [List.take_succ_eq_append_getElem hj, List.filter_append, ← h.low, List.take_succ_eq_append_getElem (by rw [List.length_set]; omega), List.take_set_of_le (Nat.le_refl _)]
    simp [hp]
  · rw [List.drop_set_of_lt (by omega), ← List.tail_drop, ← List.tail_drop, h.high]
theorem Kept.start {p : Ls → Bool} {l : List Ls} {k : Nat} (hk : k < l.length) (h : p l[k] = true) (ha : ∀ j (hj : j < k), p (l[j]'(by omega)) = false) : Kept p l (k + 1) k l := by
  refine ⟨by omega, rfl, ?_, rfl⟩
  rw [List.take_succ_eq_append_getElem hk, List.filter_append]
  have e : (l.take k).filter (fun x => !p x) = l.take k := List.filter_eq_self.2 fun x hx => by
    obtain ⟨j, hj, rfl⟩ := List.mem_iff_getElem.1 hx
    rw [List.length_take] at hj
    rw [List.getElem_take, ha j (by omega)]; rfl
  rw [e]
  simp [h]

set_option maxHeartbeats 16000000 in
set_option maxRecDepth 100000 in
theorem delfL_any (B g c : Nat) (l : List Ls) (w : World) (f : Nat) (lb : Array Value) (p : Ls → Bool) (hl : l.length ≤ 20) (hown : OwnAt lsE w B 39 g c l) (ef : ∀ args w, (callFunc f args).run Tryz.prog w = .ok (.enter f args) w)
    (hp : ∀ (W : World) (x : Ls), x ∈ l → w.grownBy W (some g) → Calls Tryz.prog f (#[.agg #[.bool x.a.v, .int .u64 x.a.hi, .int .u64 x.a.lo, .string x.who, .int .i64 x.un]] ++ lb) W fun e w' => e = .returned (.bool (p x)) ∧ Below W.heap.size W w') :
    Calls Tryz.prog 50 #[.slice (some ⟨g, 0, none⟩) l.length c, .func (.func f) #[] lb] w fun e w' => e = .returned (.slice (some ⟨g, 0, none⟩) (l.filter (fun x => !p x)).length c) ∧ OwnAt lsE w' B 39 g c (l.filter (fun x => !p x)) ∧ w.grownBy w' (some g) := by
  have HI := Lib.hid (ifnL_any (some ⟨g, 0, none⟩) c l w f lb p (by omega) hown.lies ef (fun W x hx hb => (hp W x hx (grown_below hb)).mono fun e w' h => ⟨h.1, btr hb h.2⟩))
  have HPr := Lib.hid hp
  have HO := Lib.hid hown
  have hcN : l.length ≤ c := hown.le
  have hcM : c ≤ maxLen := hown.max
  unfold maxLen at hcM
  cases hf : l.findIdx? p with
  | none =>
    rw [hf] at HI
    have e : l.filter (fun x => !p x) = l := List.filter_eq_self.2 fun x hx => by rw [List.findIdx?_eq_none_iff.1 hf x hx]; rfl
    rw [e]
    have hi : idxI none = -1 := rfl
    rw [hi] at HI
    clear hp hown hf e hi
    obtain ⟨N, hN⟩ : ∃ N, N = l.length := ⟨_, rfl⟩
    rw [← hN] at hl HI hcN ⊢
    clear hN
    go_enter Tryz.func50, Tryz.ntmps50
    go_wp2_with fail
    refine HI.out.mono ?_
    rintro e w2 ⟨rfl, hb⟩
    go_wp2_with fail
    go_ret
    exact ⟨rfl, HO.out.keep hb, grown_below hb⟩
  | some k0 =>
    rw [hf] at HI
    obtain ⟨hk0, ht, ha⟩ := List.findIdx?_eq_some_iff_getElem.1 hf
    have HK0 := Lib.hid (Kept.start (p := p) hk0 ht (fun j hj => by simpa using ha j hj))
    have hi : idxI (some k0) = (k0 : Int) := rfl
    rw [hi] at HI
    obtain ⟨F, hF⟩ : ∃ F, F = l.filter (fun x => !p x) := ⟨_, rfl⟩
    rw [← hF]
    have HF := Lib.hid hF
    obtain ⟨N, hN⟩ : ∃ N, N = l.length := ⟨_, rfl⟩
    rw [← hN] at hl HI hcN hk0 ⊢
    have HN := Lib.hid hN
    obtain ⟨M, hM⟩ : ∃ M, M = F.length := ⟨_, rfl⟩
    rw [← hM]
    have HM := Lib.hid hM
    have hne1 : ((k0 : Int) == -1) = false := beq_eq_false_iff_ne.2 (by omega)
    clear hp hown hf hi ht ha hF hN hM
    go_enter Tryz.func50, Tryz.ntmps50
    go_wp2_with fail
    refine HI.out.mono ?_
    rintro e w2 ⟨rfl, hb⟩
    have HO2 := Lib.hid (HO.out.keep hb)
    have HG2 := Lib.hid (grown_below (row := some g) hb)
    clear hb HI
    go_wp2_with fail
    go_loopw [5, 6] (fun vi vj wr => ∃ (i j : Nat) (dk : List Ls), vi = .int .i64 i ∧ vj = .int .i64 j ∧ i < N ∧ j ≤ N ∧ Hid (w.grownBy wr (some g)) ∧ Hid (OwnAt lsE wr B 39 g c dk) ∧ Hid (Kept p l j i dk))
      (fun _ vj _ => N - (intOf vj).toNat)
    case atStart => exact ⟨k0, k0 + 1, l, rfl, by go_num, hk0, by omega, HG2, HO2, HK0⟩
    case round =>
      clear HG2 HO2 HK0 HO
      obtain ⟨i, j, dk, rfl, rfl, hi, hj, HG, HO, HK⟩ := hrel
      by_cases hjN : j < N
      · have hjl : j < l.length := by have := HN.out; omega
        have hjd : j < dk.length := by rw [HK.out.len]; exact hjl
        have hid : i < dk.length := by rw [HK.out.len]; have := HN.out; omega
        obtain ⟨g', o', e', hgr, c0, c1, c2, c3, c4⟩ := HO.out.lies.ls j hjd
        obtain ⟨rfl, rfl⟩ : g = g' ∧ 0 = o' := by simpa using e'
        rw [HK.out.at hjl] at c0 c1 c2 c3 c4
        simp only [Nat.zero_add] at c0 c1 c2 c3 c4
        have hjz : (j : Int) < (N : Int) := by omega
        have hj0 : (0 : Int) ≤ (j : Int) := by omega
        have hiz : (i : Int) < (N : Int) := by omega
        have hi0 : (0 : Int) ≤ (i : Int) := by omega
        have hmem := List.getElem_mem hjl
        have HC : Hid (∀ W : World, w.grownBy W (some g) → Calls Tryz.prog f (#[.agg #[.bool l[j].a.v, .int .u64 l[j].a.hi, .int .u64 l[j].a.lo, .string l[j].who, .int .i64 l[j].un]] ++ lb) W fun e w' => e = .returned (.bool (p l[j])) ∧ Below W.heap.size W w') := fun W hW => HPr.out W l[j] hmem hW
        obtain ⟨y, hy⟩ : ∃ y, y = l[j] := ⟨_, rfl⟩
        have HKs : Hid (∀ b, p y = b → (b = true → Kept p l (j + 1) i dk) ∧ (b = false → Kept p l (j + 1) (i + 1) (dk.set i y))) := fun b hb => ⟨fun e => HK.out.skip hjl (by rw [← hy]; exact hb.trans e), fun e => by rw [hy]; exact HK.out.keep hjl (by rw [← hy]; exact hb.trans e)⟩
        rw [← hy] at c0 c1 c2 c3 c4 HC
        have HB1 := Lib.hid (bal (Below.refl wr.heap.size wr) (.cells #[.bool y.a.v, .int .u64 y.a.hi, .int .u64 y.a.lo, .string y.who, .int .i64 y.un] 39))
        have HP1 := Lib.hid (Has5.new wr (.bool y.a.v) (.int .u64 y.a.hi) (.int .u64 y.a.lo) (.string y.who) (.int .i64 y.un) 39)
        have HKs2 := Lib.hid (HKs.out _ rfl)
        have HO5 : Hid (∀ W : World, OwnAt lsE W B 39 g c dk → _) := fun W hW => hW.set5 i y hid
        have hgH : Hid (g < wr.heap.size) := hgr
        clear hy hmem HKs HK HPr e' hgr
        generalize p y = b at *
        generalize y.a.v = v at *
        generalize y.a.hi = yh at *
        generalize y.a.lo = lo at *
        generalize y.who = who at *
        generalize y.un = un at *
        have HC2 := Lib.hid (HC.out _ (HG.out.trans (grown_below HB1.out)))
        cases b
        · have HK3 := Lib.hid (HKs2.out.2 rfl)
          clear HKs2
          go_wp2_with fail
          refine HC2.out.mono ?_
          rintro e w3 ⟨rfl, hb3⟩
          have HB3 := Lib.hid (btr HB1.out hb3)
          have HG3 := Lib.hid (HG.out.trans (grown_below (row := some g) HB3.out))
          have HO3 := Lib.hid (HO.out.keep HB3.out)
          obtain ⟨p0, p1, p2, p3, p4, p5⟩ := HP1.out.below hb3
          clear hb3 HB1 HC HC2 HP1 c0 c1 c2 c3 c4
          obtain ⟨g', o', e', _, d0, d1, d2, d3, d4⟩ := HO3.out.lies.ls i hid
          obtain ⟨rfl, rfl⟩ : g = g' ∧ 0 = o' := by simpa using e'
          simp only [Nat.zero_add] at d0 d1 d2 d3 d4
          obtain ⟨q0, q1, q2, q3, q4⟩ : w3.frozen? ⟨g, i * 5, none⟩ = false ∧ w3.frozen? ⟨g, i * 5 + 1, none⟩ = false ∧ w3.frozen? ⟨g, i * 5 + 2, none⟩ = false ∧ w3.frozen? ⟨g, i * 5 + 3, none⟩ = false ∧ w3.frozen? ⟨g, i * 5 + 4, none⟩ = false := by
            obtain ⟨r, hr, _⟩ := HO3.out.row
            exact ⟨frozen_of_row _ _ _ _ _ hr, frozen_of_row _ _ _ _ _ hr, frozen_of_row _ _ _ _ _ hr, frozen_of_row _ _ _ _ _ hr, frozen_of_row _ _ _ _ _ hr⟩
          have HS5 := Lib.hid (HO5.out w3 HO3.out)
          clear e' HO5
          go_wp2_with fail
          go_roundw
          case rel => exact ⟨i + 1, j + 1, dk.set i y, by go_num, by go_num, by have := HK3.out.lt; omega, by omega, HG3.out.trans HS5.out.2, HS5.out.1, HK3⟩
          case measure => simp [intOf]; omega
        · have HK3 := Lib.hid (HKs2.out.1 rfl)
          clear HKs2
          go_wp2_with fail
          refine HC2.out.mono ?_
          rintro e w3 ⟨rfl, hb3⟩
          have HB3 := Lib.hid (btr HB1.out hb3)
          have HG3 := Lib.hid (HG.out.trans (grown_below (row := some g) HB3.out))
          have HO3 := Lib.hid (HO.out.keep HB3.out)
          clear hb3 HB1 HC HC2 HP1 c0 c1 c2 c3 c4
          go_wp2_with fail
          go_roundw
          case rel => exact ⟨i, j + 1, dk, rfl, by go_num, hi, by omega, HG3, HO3, HK3⟩
          case measure => simp [intOf]; omega
      · obtain rfl : j = N := by omega
        obtain ⟨r, hr, hlr⟩ := HO.out.row
        have hdl : dk.length = j := by rw [HK.out.len]; exact HN.out.symm
        have hF : dk.take i = F := by rw [HK.out.low, HF.out, List.take_of_length_le (by have := HN.out; omega)]
        have hFl : F.length = i := by rw [← hF, List.length_take]; omega
        obtain ⟨vs, hvs⟩ : ∃ vs, vs = (Builtin.zeroCells (Value.agg #[.bool false, .int .u64 0, .int .u64 0, .string ⟨#[]⟩, .int .i64 0]).cells (j - i)).toList := ⟨_, rfl⟩
        have hvl : vs.length = (j - i) * 5 := by rw [hvs, zero_len]; rfl
        have hlr' : (rowOf lsE dk ++ r).length = c * 5 := hlr
        have hcl : ∀ ty, (Builtin.clear_ #[30] ty #[.slice (some ⟨g, i * 5, none⟩) (j - i) (c - i)]).run Tryz.prog wr = .ok (.tuple #[]) (wr.setRow g (splice (rowOf lsE dk ++ r) (i * 5) vs).toArray) := fun ty => by
          have := run_clear_row (P := Tryz.prog) wr 30 39 ty _ Tryz.underlying30 zeroL g (i * 5) (j - i) (c - i) (by omega) (rowOf lsE dk ++ r).toArray 39 hr vs hvs (by rw [hvs]; exact zero_one _ _ (by intro u hu; simp [Value.cells] at hu; rcases hu with rfl | rfl | rfl | rfl | rfl <;> rfl)) (by rw [hvl]; simp only [List.size_toArray]; rw [hlr']; omega)
          simpa using this
        have htk : (splice (rowOf lsE dk ++ r) (i * 5) vs).take (i * lsE.k) = rowOf lsE (dk.take i) := by
          show (splice (rowOf lsE dk ++ r) (i * 5) vs).take (i * 5) = _
          rw [splice, List.take_append_of_le_length (by rw [List.length_take, hlr']; omega), List.take_take, Nat.min_self, List.take_append_of_le_length (by rw [rowOf_len, hdl]; show i * 5 ≤ j * 5; omega)]
          exact (rowOf_take lsE dk i).symm
        have HT := Lib.hid (HO.out.tail i (by omega) (splice (rowOf lsE dk ++ r) (i * 5) vs) (by rw [length_splice _ _ _ (by rw [hvl, hlr']; omega)]; exact hlr) htk)
        have HT2 := Lib.hid (HG.out.trans (grown_row wr g (splice (rowOf lsE dk ++ r) (i * 5) vs).toArray))
        rw [hF] at HT
        have HMi : Hid (M = i) := by rw [Hid, HM.out, hFl]
        have hjj : ¬ (j : Int) < (j : Int) := by omega
        have hi0 : (0 : Int) ≤ (i : Int) := by omega
        have hi1 : (i : Int) ≤ (j : Int) := by omega
        have hi2 : (i : Int) ≤ (c : Int) := by omega
        have hi3 : (j : Int) ≤ (c : Int) := by omega
        generalize (splice (rowOf lsE dk ++ r) (i * 5) vs).toArray = cs at *
        clear hF hFl hvs hvl hlr hlr' htk hdl hr HK HG HO HPr HF HM HN
        go_wp2_with fail
        go_ret
        exact ⟨congrArg (fun m => Ending.returned (Value.slice (some ⟨g, 0, none⟩) m c)) HMi.out.symm, HT.out, HT2.out⟩
end Go.Proofs.YtiiankekobgebaaGreatDoor

namespace Go.Proofs.YtiiankekobgebaaGreatDoor
open Go.RowKit Go.Shelf

theorem infoLb : (Tryz.prog.info? 39).map (fun i => (i.zero, i.size, i.bytes)) = some (some (.agg #[.bool false, .int .u64 0, .int .u64 0, .string ⟨#[]⟩, .int .i64 0]), 5, 48) := by kernel_rfl
theorem rowL_empty (w : World) : (w.alloc (.cells #[] 39)).ownsRow w.heap.size 39 5 (.slice (some ⟨w.heap.size, 0, none⟩) 0 0) 0 [] :=
  ⟨by simp, .inr ⟨w.heap.size, 0, #[], rfl, Nat.le_refl _, heap_alloc_new w _, Nat.le_refl _, Nat.zero_le _, by simp, by simp⟩⟩
/-- Leases that are not over. -/
def live (l : List Ls) (now : Int) : List Ls := l.filter (fun x => !decide (x.un < now))

set_option maxHeartbeats 4000000 in
set_option maxRecDepth 100000 in
theorem cloneL_any (a : Option Addr) (c : Nat) (l : List Ls) (w : World) (hl : l.length ≤ 20) (hs : Lies lsE w a l) :
    Calls Tryz.prog 51 #[.slice a l.length c] w fun e w' => ∃ v', e = .returned v' ∧ w'.ownsRow w.heap.size 39 lsE.k v' l.length (rowOf lsE l) ∧ Below w.heap.size w w' := by
  have q22 : ∀ (w : World) (a : Option Addr) (n c n' c' : Nat), (binOp .eql 30 (.slice a n c) (.slice none n' c')).run Tryz.prog w = .ok (.bool a.isNone) w := fun w a n c n' c' => Lib.run_eql_slice_nil w _ _ a n c n' c' Tryz.underlying30
  cases a with
  | none =>
    obtain rfl := hs.none_nil
    show Calls _ _ #[.slice none 0 c] _ _
    clear hs
    go_enter Tryz.func51, Tryz.ntmps51
    go_wp2
    go_ret
    exact ⟨_, rfl, World.ownsRow_nil _ _ _ _, Below.refl _ _⟩
  | some ad =>
    obtain ⟨i0, hi0, hz0, hz1, hz2⟩ := info_parts infoLb
    have hnews : ∀ j u, (rowOf lsE l)[j]? = some u → (w.alloc (.cells #[] 39)).cell? (ad.add j) = some u := (hs.below (bal (Below.refl _ _) _)).news
    have HNews := Lib.hid hnews
    have HRl := Lib.hid (rowOf_len lsE l)
    have HR1 := Lib.hid (rowOf_one lsE l)
    obtain ⟨row, hrow⟩ : ∃ row, row = rowOf lsE l := ⟨_, rfl⟩
    obtain ⟨N, hN⟩ : ∃ N, N = l.length := ⟨_, rfl⟩
    rw [← hrow] at HNews HRl HR1 ⊢
    rw [← hN] at HRl hl ⊢
    clear hnews hs hrow hN
    go_enter Tryz.func51, Tryz.ntmps51
    go_wp2_with (at_builtin; refine wpList_append_own _ rfl _ _ 30 rfl w.heap.size 39 i0 _ 5 48 Tryz.underlying30 hi0 hz0 hz1 hz2 rfl (by decide) _ _ _ rfl (rowL_empty w) ad N c row rfl HRl.out HNews.out HR1.out (by unfold maxLen; omega) (by omega) (by simp) ?_)
    intro v' w4 hown hgrow _
    have HB : Hid (Below w.heap.size w w4) := (bal (Below.refl _ _) _).grown hgrow (by simp) (fun k hk => ((rowL_empty w).lt k hk).1)
    have HO : Hid (w4.ownsRow w.heap.size 39 5 v' N row) := hown
    clear hown hgrow
    go_wp2
    go_ret
    exact ⟨_, rfl, HO.out, HB.out⟩

theorem run1_any (q : Nat) (now : Int) (x : Ls) (w : World) (hq : w.cell? ⟨q, 0, none⟩ = some (.int .i64 now)) (hlt : q < w.heap.size) :
    Calls Tryz.prog 52 #[.agg #[.bool x.a.v, .int .u64 x.a.hi, .int .u64 x.a.lo, .string x.who, .int .i64 x.un], .pointer (some ⟨q, 0, none⟩)] w fun e w' => e = .returned (.bool (decide (x.un < now))) ∧ Below w.heap.size w w' := by
  have HB := Lib.hid (bal (Below.refl w.heap.size w) (.cells #[.bool x.a.v, .int .u64 x.a.hi, .int .u64 x.a.lo, .string x.who, .int .i64 x.un] 39))
  have hq' : (w.alloc (.cells #[.bool x.a.v, .int .u64 x.a.hi, .int .u64 x.a.lo, .string x.who, .int .i64 x.un] 39)).cell? ⟨q, 0, none⟩ = some (.int .i64 now) := by rw [(bcell HB.out).1 _ _ hlt]; exact hq
  generalize x.a.v = v at *
  generalize x.a.hi = hi at *
  generalize x.a.lo = lo at *
  generalize x.who = who at *
  generalize x.un = un at *
  clear hq
  go_enter Tryz.func52, Tryz.ntmps52
  go_wp2
  go_ret
  exact ⟨rfl, HB.out⟩
theorem enters_run1 : ∀ args w, (callFunc 52 args).run Tryz.prog w = .ok (.enter 52 args) w := enters_of Tryz.func52 (by kernel_rfl) rfl

set_option maxHeartbeats 4000000 in
theorem delfL_nil (w : World) (f : Nat) (lb : Array Value) (ef : ∀ args w, (callFunc f args).run Tryz.prog w = .ok (.enter f args) w) :
    Calls Tryz.prog 50 #[.slice none 0 0, .func (.func f) #[] lb] w fun e w' => e = .returned (.slice none 0 0) ∧ Below w.heap.size w w' := by
  have HI := Lib.hid (ifnL_any none 0 [] w f lb (fun _ => true) (by simp) (Lies.nil _ _ _) ef (fun W x hx => by simp at hx))
  have hi : idxI (List.findIdx? (fun _ : Ls => true) []) = -1 := rfl
  rw [hi] at HI
  clear hi
  go_enter Tryz.func50, Tryz.ntmps50
  go_wp2_with fail
  refine HI.out.mono ?_
  rintro e w2 ⟨rfl, hb⟩
  go_wp2_with fail
  go_ret
  exact ⟨rfl, hb⟩

set_option maxHeartbeats 8000000 in
set_option maxRecDepth 100000 in
theorem running_any (a : Option Addr) (c : Nat) (l : List Ls) (now : Int) (w : World) (hl : l.length ≤ 20) (hs : Lies lsE w a l) :
    Calls Tryz.prog 28 #[.slice a l.length c, .int .i64 now] w fun e w' => ∃ v', e = .returned v' ∧ w'.ownsRow w.heap.size 39 lsE.k v' (live l now).length (rowOf lsE (live l now)) ∧ Below w.heap.size w w' := by
  have HB := Lib.hid (bal (Below.refl w.heap.size w) (.cells #[.int .i64 now] 3))
  have HQ : Hid ((w.alloc (.cells #[.int .i64 now] 3)).cell? ⟨w.heap.size, 0, none⟩ = some (.int .i64 now)) := by simp [Hid, go_sem]
  have HC := Lib.hid (cloneL_any a c l (w.alloc (.cells #[.int .i64 now] 3)) hl (hs.below HB.out))
  have hsz : (w.alloc (.cells #[.int .i64 now] 3)).heap.size = w.heap.size + 1 := by simp
  obtain ⟨N, hN⟩ : ∃ N, N = l.length := ⟨_, rfl⟩
  rw [← hN] at HC ⊢
  have HN := Lib.hid hN
  obtain ⟨m, hm⟩ : ∃ m, m = live l now := ⟨_, rfl⟩
  rw [← hm]
  have Hm := Lib.hid hm
  obtain ⟨M, hM⟩ : ∃ M, M = m.length := ⟨_, rfl⟩
  rw [← hM]
  have HM := Lib.hid hM
  clear hN hs hm hM
  go_enter Tryz.func28, Tryz.ntmps28
  go_wp2_with fail
  refine HC.out.mono ?_
  rintro e w2 ⟨v', rfl, hown, hb⟩
  rw [HN.out] at hown
  rcases own_form hown with ⟨rfl, hnil⟩ | ⟨g, c', rfl, ho⟩
  · have HB2 := Lib.hid (btr HB.out hb)
    have HD := Lib.hid (delfL_nil w2 52 #[.pointer (some ⟨w.heap.size, 0, none⟩)] enters_run1)
    have HL : Hid (m = []) := by rw [Hid, Hm.out, hnil]; rfl
    have HM0 : Hid (M = 0) := by rw [Hid, HM.out, HL.out]; rfl
    clear hown hb HC hnil
    go_wp2_with fail
    refine HD.out.mono ?_
    rintro e w3 ⟨rfl, hb⟩
    have HB3 := Lib.hid (btr HB2.out hb)
    clear hb
    go_wp2_with fail
    go_ret
    exact ⟨_, rfl, by rw [HL.out, HM0.out]; exact World.ownsRow_nil _ _ _ _, HB3.out⟩
  · have HB2 := Lib.hid (btr HB.out hb)
    have hgw : w.heap.size + 1 ≤ g := by have := ho.base; omega
    have hQ2 : w2.cell? ⟨w.heap.size, 0, none⟩ = some (.int .i64 now) := by rw [(bcell hb).1 _ _ (by omega)]; exact HQ.out
    have hw2 : w.heap.size + 1 ≤ w2.heap.size := by have := hb.size; omega
    have HD := Lib.hid (delfL_any (w.heap.size + 1) g c' l w2 52 #[.pointer (some ⟨w.heap.size, 0, none⟩)] (fun x => decide (x.un < now)) hl (ho.lower (by omega)) enters_run1 (fun W x hx hW => by
      refine run1_any w.heap.size now x W ?_ (by have := hW.size; omega)
      rw [hW.cell_far ⟨w.heap.size, 0, none⟩ (by show w.heap.size < _; omega) (by simp; omega)]
      exact hQ2))
    rw [show (l.filter (fun x => !decide (x.un < now))) = live l now from rfl, ← Hm.out, ← HM.out, ← HN.out] at HD
    clear hown ho hb HC hQ2
    rw [← HN.out]
    go_wp2_with fail
    refine HD.out.mono ?_
    rintro e w3 ⟨rfl, ho3, hg3⟩
    have HB3 := Lib.hid (HB2.out.trans (grown_upto hg3 (show w.heap.size ≤ g by omega) (by omega)))
    have HO3 := Lib.hid (ho3.lower (show w.heap.size ≤ w.heap.size + 1 by omega)).own
    rw [← HM.out] at HO3
    clear hg3 ho3 HD
    go_wp2_with fail
    go_ret
    exact ⟨_, rfl, HO3.out, HB3.out⟩
end Go.Proofs.YtiiankekobgebaaGreatDoor

namespace Go.Proofs.YtiiankekobgebaaGreatDoor
open Go.RowKit Go.Shelf

theorem look_len {l : List Ls} {now : Int} (h : lookL l now = 0) : l.length ≤ 20 := by
  unfold lookL at h
  by_cases h1 : 20 < l.length
  · rw [if_pos h1] at h; exact absurd h (by decide)
  · omega
theorem live_len (l : List Ls) (now : Int) : (live l now).length ≤ l.length := List.length_filter_le _ _

set_option maxHeartbeats 8000000 in
set_option maxRecDepth 100000 in
theorem drop_ok (a : Option Addr) (c : Nat) (l : List Ls) (now : Int) (w : World) (hs : Lies lsE w a l) (h0 : lookL l now = 0) :
    Calls Tryz.prog 16 #[.slice a l.length c, .int .i64 now] w fun e w' => ∃ v', e = .returned (.tuple #[v', .int .i64 ((l.length : Int) - ((live l now).length : Int)), .int .i64 0]) ∧ w'.ownsRow w.heap.size 39 lsE.k v' (live l now).length (rowOf lsE (live l now)) ∧ Below w.heap.size w w' := by
  have hl := look_len h0
  have hM := live_len l now
  have HK := Lib.hid (llook_any a c l now w hs)
  have HR : Hid (∀ w' : World, Below w.heap.size w w' → Calls Tryz.prog 28 #[.slice a l.length c, .int .i64 now] w' fun e w'' => ∃ v', e = .returned v' ∧ w''.ownsRow w.heap.size 39 lsE.k v' (live l now).length (rowOf lsE (live l now)) ∧ Below w'.heap.size w' w'') := fun w' hb => (running_any a c l now w' hl (hs.below hb)).mono fun e w'' h => by
    obtain ⟨v', e1, h1, h2⟩ := h
    exact ⟨v', e1, row_base h1 hb.size, h2⟩
  rw [h0] at HK
  obtain ⟨m, hm⟩ : ∃ m, m = live l now := ⟨_, rfl⟩
  rw [← hm] at HR hM ⊢
  obtain ⟨N, hN⟩ : ∃ N, N = l.length := ⟨_, rfl⟩
  rw [← hN] at HK HR hl hM ⊢
  obtain ⟨M, hMM⟩ : ∃ M, M = m.length := ⟨_, rfl⟩
  have HMM := Lib.hid hMM
  rw [← hMM] at HR hM ⊢
  clear hs h0 hm hN hMM
  go_enter Tryz.func16, Tryz.ntmps16
  go_wp2_with fail
  refine HK.out.mono ?_
  rintro e w2 ⟨rfl, hb⟩
  have HB := Lib.hid hb
  clear hb HK
  go_wp2_with fail
  refine (HR.out _ HB.out).mono ?_
  rintro e w3 ⟨v', rfl, hown, hb⟩
  have HB3 := Lib.hid (btr HB.out hb)
  clear hb HR HB
  rw [HMM.out] at hown
  rcases own_form hown with ⟨rfl, hnil⟩ | ⟨g, c', rfl, ho⟩
  · obtain rfl : M = 0 := by rw [HMM.out, hnil]; rfl
    have HO := Lib.hid hown
    rw [← HMM.out] at HO
    clear hown hnil
    go_wp2_with fail
    refine bodyPost_ret (v := .tuple #[.slice none 0 0, .int .i64 ((N : Int) - ((0 : Nat) : Int)), .int .i64 0]) ?_ rfl ⟨_, rfl, HO.out, HB3.out⟩
    simp [results, Tryz.results16, go_sem]
  · have HO := Lib.hid hown
    rw [← HMM.out] at HO ⊢
    clear hown ho
    go_wp2_with fail
    refine bodyPost_ret (v := .tuple #[.slice (some ⟨g, 0, none⟩) M c', .int .i64 ((N : Int) - (M : Int)), .int .i64 0]) ?_ rfl ⟨_, rfl, HO.out, HB3.out⟩
    simp [results, Tryz.results16, go_sem]
set_option maxHeartbeats 8000000 in
set_option maxRecDepth 100000 in
theorem drop_bad (a : Option Addr) (c : Nat) (l : List Ls) (now : Int) (w : World) (hs : Lies lsE w a l) (h0 : ¬ lookL l now = 0) :
    Calls Tryz.prog 16 #[.slice a l.length c, .int .i64 now] w fun e w' => e = .returned (.tuple #[.slice none 0 0, .int .i64 0, .int .i64 (lookL l now)]) ∧ Below w.heap.size w w' := by
  have HK := Lib.hid (llook_any a c l now w hs)
  have hI : (lookL l now != 0) = true := by rw [bne_iff_ne]; exact h0
  generalize lookL l now = r at *
  generalize l.length = N at *
  clear hs h0
  go_enter Tryz.func16, Tryz.ntmps16
  go_wp2_with fail
  refine HK.out.mono ?_
  rintro e w2 ⟨rfl, hb⟩
  go_wp2_with fail
  refine bodyPost_ret (v := .tuple #[.slice none 0 0, .int .i64 0, .int .i64 r]) ?_ rfl ⟨rfl, hb⟩
  simp [results, Tryz.results16, go_sem]
end Go.Proofs.YtiiankekobgebaaGreatDoor

namespace Go.Proofs.YtiiankekobgebaaGreatDoor
open Go.RowKit

/-- More than sixteen addresses? -/
def wideB (v : Bool) (b : Int) : Bool := decide (4 < wid v - b)
theorem mask_wide : ∀ n : Fin 129, decide ((16 : Int) ≤ 2 ^ (min n.val 64) - 1) = decide (4 < n.val) := by decide +kernel
theorem wide_iff {v : Bool} {hi lo b : Int} (r : Right v hi lo b) : decide ((16 : Int) ≤ IntKind.u64.wrap (laL v lo b - lo)) = wideB v b := by
  have c0 := (right_iff v hi lo b r.h0 r.h1 r.l0 r.l1).2 r
  have hw : wid v ≤ 128 := by unfold wid; split <;> omega
  have b0 := r.b0
  have b1 := r.b1
  have e : fsL v lo b = lo := by
    rcases pchk_cases v hi lo b with ⟨_, _, _, _, _, e2⟩ | k | k
    · exact e2
    · omega
    · omega
  have hm : laL v lo b - lo = 2 ^ (min (wid v - b).toNat 64) - 1 := by
    unfold laL mask
    rw [e]; omega
  have hp : ∀ n : Nat, n ≤ 64 → IntKind.u64.wrap ((2 : Int) ^ n - 1) = 2 ^ n - 1 := fun n hn => by
    have h1 : (0 : Int) < 2 ^ n := Int.pow_pos (by decide)
    have h2 : (2 : Int) ^ n ≤ 2 ^ 64 := by
      have : (2 : Nat) ^ n ≤ 2 ^ 64 := Nat.pow_le_pow_right (by decide) hn
      have h4 := Int.ofNat_le.2 this
      rw [pow_cast, pow_cast] at h4
      exact h4
    have h3 : (2 : Int) ^ 64 = 18446744073709551616 := by decide
    generalize (2 : Int) ^ n = x at *
    have : (x - 1) % 18446744073709551616 = x - 1 := by omega
    simp [IntKind.wrap, IntKind.bits, IntKind.signed, this]
  rw [hm, hp _ (by omega)]
  have := mask_wide ⟨(wid v - b).toNat, by omega⟩
  simp only at this
  rw [this]
  unfold wideB
  exact decide_eq_decide.2 (by omega)

set_option maxHeartbeats 8000000 in
theorem wide_any (v : Bool) (hi lo b : Int) (w : World) (r : Right v hi lo b) : Calls Tryz.prog 40 #[.agg #[.bool v, .int .u64 hi, .int .u64 lo, .int .i64 b]] w fun e w' => e = .returned (.bool (wideB v b)) ∧ Below w.heap.size w w' := by
  have c0 := (right_iff v hi lo b r.h0 r.h1 r.l0 r.l1).2 r
  have hE : Hid (∀ w : World, Calls Tryz.prog 22 #[.agg #[.bool v, .int .u64 hi, .int .u64 lo, .int .i64 b]] w fun e w' => e = .returned (.tuple #[.agg #[.bool v, .int .u64 hi, .int .u64 lo], .agg #[.bool v, .int .u64 (laH v hi b), .int .u64 (laL v lo b)], .int .i64 0]) ∧ Below w.heap.size w w') := fun w => ends_ok v hi lo b w r.h0 r.h1 r.l0 r.l1 c0
  have HW := Lib.hid (wide_iff r)
  have HB := Lib.hid (bal (Below.refl w.heap.size w) (.cells #[.bool v, .int .u64 hi, .int .u64 lo, .int .i64 b] 26))
  generalize wideB v b = R at *
  generalize laH v hi b = r1 at *
  generalize laL v lo b = r2 at *
  clear r c0
  go_enter Tryz.func40, Tryz.ntmps40
  go_wp2_with fail
  refine (hE.out _).mono ?_
  rintro e w2 ⟨rfl, hb⟩
  have HB2 := Lib.hid (bal (bal (btr HB.out hb) (.cells #[.bool v, .int .u64 hi, .int .u64 lo] 24)) (.cells #[.bool v, .int .u64 r1, .int .u64 r2] 24))
  clear hb HB hE
  go_wp2
  go_ret
  exact ⟨congrArg (fun r => Ending.returned (Value.bool r)) HW.out, HB2.out⟩

/-- What is wrong with those that are kept back, behind the one ahead (if there is one). -/
def keptE (p : Pf) : Option Ad → List Ad → Int
  | _, [] => 0
  | none, x :: r => if chk x.v x.hi x.lo = 0 then (if p.inA x.v x.hi x.lo = true then keptE p (some x) r else 5) else chk x.v x.hi x.lo
  | some q, x :: r => if chk x.v x.hi x.lo = 0 then (if p.inA x.v x.hi x.lo = true then (if q.less x = true then keptE p (some x) r else 4) else 5) else chk x.v x.hi x.lo
def poolE (p : Pf) (kept : List Ad) : Int := if p.chk = 0 then (if wideB p.v p.b = true ∨ 6 < kept.length then 2 else keptE p none kept) else p.chk
theorem keptE_nil (p : Pf) (q : Option Ad) : keptE p q [] = 0 := by cases q <;> rfl
def prevA (l : List Ad) (k : Nat) : Option Ad := if k = 0 then none else l[k - 1]?
theorem prevA_succ (l : List Ad) (k : Nat) (h : k < l.length) : prevA l (k + 1) = some l[k] := by simp [prevA, h]
theorem keepP {w W W' : World} {pb g xb o : Nat} {s x0 x1 x2 y0 y1 y2 : Value}
    (h : (W.cell? ⟨pb, 4, none⟩ = some s ∧ pb < W.heap.size) ∧ (W.cell? ⟨g, o, none⟩ = some x0 ∧ W.cell? ⟨g, o + 1, none⟩ = some x1 ∧ W.cell? ⟨g, o + 2, none⟩ = some x2 ∧ g < W.heap.size) ∧ (W.cell? ⟨xb, 0, none⟩ = some y0 ∧ W.cell? ⟨xb, 1, none⟩ = some y1 ∧ W.cell? ⟨xb, 2, none⟩ = some y2 ∧ xb < W.heap.size) ∧ Below w.heap.size w W) (hb : Below W.heap.size W W') :
    (W'.cell? ⟨pb, 4, none⟩ = some s ∧ pb < W'.heap.size) ∧ (W'.cell? ⟨g, o, none⟩ = some x0 ∧ W'.cell? ⟨g, o + 1, none⟩ = some x1 ∧ W'.cell? ⟨g, o + 2, none⟩ = some x2 ∧ g < W'.heap.size) ∧ (W'.cell? ⟨xb, 0, none⟩ = some y0 ∧ W'.cell? ⟨xb, 1, none⟩ = some y1 ∧ W'.cell? ⟨xb, 2, none⟩ = some y2 ∧ xb < W'.heap.size) ∧ Below w.heap.size w W' := by
  obtain ⟨⟨a0, a1⟩, ⟨b0, b1, b2, b3⟩, ⟨c0, c1, c2, c3⟩, hw⟩ := h
  have k := (bcell hb).1
  have z := hb.size
  exact ⟨⟨by rw [k _ _ a1]; exact a0, by omega⟩, ⟨by rw [k _ _ b3]; exact b0, by rw [k _ _ b3]; exact b1, by rw [k _ _ b3]; exact b2, by omega⟩, ⟨by rw [k _ _ c3]; exact c0, by rw [k _ _ c3]; exact c1, by rw [k _ _ c3]; exact c2, by omega⟩, btr hw hb⟩

set_option maxHeartbeats 16000000 in
set_option maxRecDepth 100000 in
theorem pool_any (p : Pf) (hp : p.Ok) (a : Option Addr) (c : Nat) (l : List Ad) (w : World) (hs : Lies adE w a l) :
    Calls Tryz.prog 17 #[.agg #[.bool p.v, .int .u64 p.hi, .int .u64 p.lo, .int .i64 p.b, .slice a l.length c]] w fun e w' => e = .returned (.int .i64 (poolE p l)) ∧ Below w.heap.size w w' := by
  obtain ⟨i0, i1, l0, l1⟩ := hp
  have HP := Lib.hid (Has5.new w (.bool p.v) (.int .u64 p.hi) (.int .u64 p.lo) (.int .i64 p.b) (.slice a l.length c) 29)
  have HB := Lib.hid (bal (Below.refl w.heap.size w) (.cells #[.bool p.v, .int .u64 p.hi, .int .u64 p.lo, .int .i64 p.b, .slice a l.length c] 29))
  have hC : Hid (∀ w : World, Calls Tryz.prog 26 #[.agg #[.bool p.v, .int .u64 p.hi, .int .u64 p.lo, .int .i64 p.b]] w fun e w' => e = .returned (.int .i64 p.chk) ∧ Below w.heap.size w w') := fun w => pcheck_any p.v p.hi p.lo p.b w i0 i1 l0 l1
  obtain ⟨R, hR⟩ : ∃ R, R = poolE p l := ⟨_, rfl⟩
  rw [← hR]
  have HR := Lib.hid hR
  have HL := Lib.hid hs
  obtain ⟨N, hN⟩ : ∃ N, N = l.length := ⟨_, rfl⟩
  rw [← hN] at HP HB ⊢
  have HN := Lib.hid hN
  clear hR hs hN
  by_cases hc : p.chk = 0
  · have hr : Right p.v p.hi p.lo p.b := (right_iff _ _ _ _ i0 i1 l0 l1).1 hc
    have hW : Hid (∀ w : World, Calls Tryz.prog 40 #[.agg #[.bool p.v, .int .u64 p.hi, .int .u64 p.lo, .int .i64 p.b]] w fun e w' => e = .returned (.bool (wideB p.v p.b)) ∧ Below w.heap.size w w') := fun w => wide_any p.v p.hi p.lo p.b w hr
    have hI : Hid (∀ (x : Ad) (w : World), Calls Tryz.prog 31 #[.agg #[.bool x.v, .int .u64 x.hi, .int .u64 x.lo], .agg #[.bool p.v, .int .u64 p.hi, .int .u64 p.lo, .int .i64 p.b]] w fun e w' => e = .returned (.bool (p.inA x.v x.hi x.lo)) ∧ Below w.heap.size w w') := fun x w => within_any x.v x.hi x.lo p.v p.hi p.lo p.b w x.ok.1.1 x.ok.2.1 i0 i1 l0 l1 hc
    have HR1 : Hid (R = if wideB p.v p.b = true ∨ 6 < N then 2 else keptE p none l) := by rw [Hid, HR.out, poolE, if_pos hc, HN.out]
    rw [hc] at hC
    clear HR hr i0 i1 l0 l1 hc
    generalize wideB p.v p.b = wb at *
    cases wb
    · by_cases h6 : 6 < N
      · have HE : Hid (R = 2) := by rw [Hid, HR1.out, if_pos (.inr h6)]
        have h6' : (6 : Int) < (N : Int) := by omega
        generalize p.v = v at *
        generalize p.hi = hi at *
        generalize p.lo = lo at *
        generalize p.b = b at *
        go_enter Tryz.func17, Tryz.ntmps17
        go_wp2_with fail
        refine (hC.out _).mono ?_
        rintro e w2 ⟨rfl, hb⟩
        obtain ⟨p0, p1, p2, p3, p4, p5⟩ := HP.out.below hb
        have HP2 := Lib.hid (HP.out.below hb)
        replace HB := Lib.hid (btr HB.out hb)
        clear hb hC
        go_wp2_with fail
        refine (hW.out _).mono ?_
        rintro e w3 ⟨rfl, hb⟩
        clear p0 p1 p2 p3 p4 p5
        obtain ⟨p0, p1, p2, p3, p4, p5⟩ := HP2.out.below hb
        replace HB := Lib.hid (btr HB.out hb)
        clear hb hW HP2 HP
        go_wp2_with fail
        go_ret
        exact ⟨congrArg (fun r => Ending.returned (Value.int .i64 r)) HE.out.symm, HB.out⟩
      · have HR2 : Hid (R = keptE p none l) := by rw [Hid, HR1.out, if_neg (by simp; omega)]
        have hd6 : decide ((6 : Int) < (N : Int)) = false := decide_eq_false (by omega)
        have hN6 : N ≤ 6 := by omega
        have hIn : Hid (∀ (x : Ad) (w : World), Calls Tryz.prog 31 #[.agg #[.bool x.v, .int .u64 x.hi, .int .u64 x.lo], .agg #[.bool p.v, .int .u64 p.hi, .int .u64 p.lo, .int .i64 p.b]] w fun e w' => e = .returned (.bool (p.inA x.v x.hi x.lo)) ∧ Below w.heap.size w w') := hI
        clear hI HR1 h6
        generalize p.v = v at *
        generalize p.hi = hi at *
        generalize p.lo = lo at *
        generalize p.b = b at *
        go_enter Tryz.func17, Tryz.ntmps17
        go_wp2_with fail
        refine (hC.out _).mono ?_
        rintro e w2 ⟨rfl, hb⟩
        replace HP := Lib.hid (HP.out.below hb)
        replace HB := Lib.hid (btr HB.out hb)
        clear hb hC
        obtain ⟨p0, p1, p2, p3, p4, p5⟩ := HP.out
        go_wp2_with fail
        refine (hW.out _).mono ?_
        rintro e w3 ⟨rfl, hb⟩
        clear p0 p1 p2 p3 p4 p5
        replace HP := Lib.hid (HP.out.below hb)
        replace HB := Lib.hid (btr HB.out hb)
        clear hb hW
        obtain ⟨p0, p1, p2, p3, p4, p5⟩ := HP.out
        go_wp2_with fail
        clear p0 p1 p2 p3 p4 p5
        go_loopw [25] (fun vi wr => ∃ k : Nat, vi = .int .i64 k ∧ k ≤ N ∧ Hid (Has5 wr w.heap.size (.bool v) (.int .u64 hi) (.int .u64 lo) (.int .i64 b) (.slice a N c)) ∧ Hid (Below w.heap.size w wr) ∧ Hid (R = keptE p (prevA l k) (l.drop k)))
          (fun vi _ => N - (intOf vi).toNat)
        case atStart => exact ⟨0, rfl, Nat.zero_le _, HP, HB, HR2⟩
        case round =>
          clear HP HB HR2
          obtain ⟨k, rfl, hk, HP, HB, hh⟩ := hrel
          by_cases hkN : k < N
          · have hkl : k < l.length := by have := HN.out; omega
            obtain ⟨g, o, rfl, hg, c0, c1, c2⟩ := HL.out.ad k hkl
            rw [← (bcell HB.out).1 _ _ hg] at c0 c1 c2
            have hgr : g < wr.heap.size := Nat.lt_of_lt_of_le hg HB.out.size
            have hdec := hh.out
            rw [List.drop_eq_getElem_cons hkl] at hdec
            obtain ⟨x, hx⟩ : ∃ x, x = l[k] := ⟨_, rfl⟩
            rw [← hx] at c0 c1 c2 hdec
            have hnx : prevA l (k + 1) = some x := by rw [hx]; exact prevA_succ l k hkl
            have hCk : Hid (∀ w : World, Calls Tryz.prog 41 #[.agg #[.bool x.v, .int .u64 x.hi, .int .u64 x.lo]] w fun e w' => e = .returned (.int .i64 (chk x.v x.hi x.lo)) ∧ ∃ c, w' = w.alloc (.cells c 24)) := fun w => check_any x.v x.hi x.lo w x.ok.1.1 x.ok.2.1
            have hIx := Lib.hid (fun w => hIn.out x w)
            have hkz : (k : Int) < (N : Int) := by omega
            have hk0 : (0 : Int) ≤ (k : Int) := by omega
            have HX1 := Lib.hid (Has3.new wr (.bool x.v) (.int .u64 x.hi) (.int .u64 x.lo) 24)
            have HB1 := Lib.hid (bal HB.out (.cells #[.bool x.v, .int .u64 x.hi, .int .u64 x.lo] 24))
            have HP1 := Lib.hid (HP.out.alloc (.cells #[.bool x.v, .int .u64 x.hi, .int .u64 x.lo] 24))
            -- the one ahead
            have HSt : Hid (chk x.v x.hi x.lo = 0 → p.inA x.v x.hi x.lo = true → k = 0 → R = keptE p (prevA l (k + 1)) (l.drop (k + 1))) := by
              intro e1 e2 e3
              subst e3
              rw [hdec, hnx, show prevA l 0 = none from rfl, keptE, if_pos e1, if_pos e2]
            have HS0 : Hid (¬ chk x.v x.hi x.lo = 0 → R = chk x.v x.hi x.lo) := by
              intro e1
              rw [hdec]
              cases prevA l k <;> rw [keptE, if_neg e1]
            have HS1 : Hid (chk x.v x.hi x.lo = 0 → ¬ p.inA x.v x.hi x.lo = true → R = 5) := by
              intro e1 e2
              rw [hdec]
              cases prevA l k <;> rw [keptE, if_pos e1, if_neg e2]
            have HS2 : Hid (chk x.v x.hi x.lo = 0 → p.inA x.v x.hi x.lo = true → ∀ m (hm : m < l.length), k = m + 1 → R = if l[m].less x = true then keptE p (prevA l (k + 1)) (l.drop (k + 1)) else 4) := by
              intro e1 e2 m hm e3
              subst e3
              rw [hdec, hnx, prevA_succ l m hm, keptE, if_pos e1, if_pos e2]
            have HLs : Hid (∀ m (hm : m < l.length) (w : World), Calls Tryz.prog 42 #[.agg #[.bool l[m].v, .int .u64 l[m].hi, .int .u64 l[m].lo], .agg #[.bool x.v, .int .u64 x.hi, .int .u64 x.lo]] w fun e w' => e = .returned (.bool (l[m].less x)) ∧ Below w.heap.size w w') :=
              fun m hm w => oless_any l[m].v x.v l[m].hi l[m].lo x.hi x.lo w l[m].ok.1.1 l[m].ok.2.1 x.ok.1.1 x.ok.2.1
            have HLl : Hid (∀ m, k = m + 1 → ∃ (hm : m < l.length) (y : Ad), y = l[m] ∧ wr.cell? ⟨g, o + m * 3, none⟩ = some (.bool y.v) ∧ wr.cell? ⟨g, o + m * 3 + 1, none⟩ = some (.int .u64 y.hi) ∧ wr.cell? ⟨g, o + m * 3 + 2, none⟩ = some (.int .u64 y.lo)) := by
              intro m hm
              have hml : m < l.length := by omega
              obtain ⟨g', o', e', _, d0, d1, d2⟩ := HL.out.ad m hml
              obtain ⟨rfl, rfl⟩ : g = g' ∧ o = o' := by simpa using e'
              rw [← (bcell HB.out).1 _ _ hg] at d0 d1 d2
              exact ⟨hml, l[m], rfl, d0, d1, d2⟩
            have hgH := Lib.hid hgr
            clear hdec hnx hh hx hgr hg HL hIn HB HP
            generalize hr1 : chk x.v x.hi x.lo = r1 at *
            generalize hr2 : p.inA x.v x.hi x.lo = r2 at *
            by_cases hc0 : r1 = 0
            · subst hc0
              clear HS0
              cases r2
              · have HE := Lib.hid (HS1.out rfl (by decide))
                clear HSt HS1 HS2 HLs HLl hr1 hr2
                generalize x.v = xv at *
                generalize x.hi = xh at *
                generalize x.lo = xl at *
                go_wp2_with fail
                refine (hCk.out _).mono ?_
                rintro e w4 ⟨rfl, cc, rfl⟩
                obtain ⟨q0, q1, q2, q3⟩ := HX1.out.alloc (.cells cc 24)
                obtain ⟨p0, p1, p2, p3, p4, p5⟩ := HP1.out.alloc (.cells cc 24)
                replace HB1 := Lib.hid (bal HB1.out (.cells cc 24))
                generalize (wr.alloc (.cells #[.bool xv, .int .u64 xh, .int .u64 xl] 24)).alloc (.cells cc 24) = w4 at *
                go_wp2_with fail
                refine (hIx.out _).mono ?_
                rintro e w5 ⟨rfl, hb⟩
                replace HB1 := Lib.hid (btr HB1.out hb)
                clear hb p0 p1 p2 p3 p4 p5 q0 q1 q2 q3
                go_wp2_with fail
                go_ret
                exact ⟨congrArg (fun r => Ending.returned (Value.int .i64 r)) HE.out.symm, HB1.out⟩
              · by_cases hk00 : k = 0
                · subst hk00
                  simp only [Nat.zero_mul, Nat.add_zero] at c0 c1 c2
                  have HE := Lib.hid (HSt.out rfl rfl rfl)
                  clear HSt HS1 HS2 HLs HLl hr1 hr2
                  have hdk : decide ((0 : Int) < ((0 : Nat) : Int)) = false := by decide
                  generalize x.v = xv at *
                  generalize x.hi = xh at *
                  generalize x.lo = xl at *
                  go_wp2_with fail
                  refine (hCk.out _).mono ?_
                  rintro e w4 ⟨rfl, cc, rfl⟩
                  replace HX1 := Lib.hid (HX1.out.alloc (.cells cc 24))
                  replace HP1 := Lib.hid (HP1.out.alloc (.cells cc 24))
                  replace HB1 := Lib.hid (bal HB1.out (.cells cc 24))
                  have HB0 := Lib.hid (bal (bal (Below.refl wr.heap.size wr) (.cells #[.bool xv, .int .u64 xh, .int .u64 xl] 24)) (.cells cc 24))
                  generalize (wr.alloc (.cells #[.bool xv, .int .u64 xh, .int .u64 xl] 24)).alloc (.cells cc 24) = w4 at *
                  obtain ⟨q0, q1, q2, q3⟩ := HX1.out
                  obtain ⟨p0, p1, p2, p3, p4, p5⟩ := HP1.out
                  go_wp2_with fail
                  refine (hIx.out _).mono ?_
                  rintro e w5 ⟨rfl, hb⟩
                  clear p0 p1 p2 p3 p4 p5 q0 q1 q2 q3
                  replace HX1 := Lib.hid (HX1.out.below hb)
                  replace HP1 := Lib.hid (HP1.out.below hb)
                  replace HB1 := Lib.hid (btr HB1.out hb)
                  replace HB0 := Lib.hid (btr HB0.out hb)
                  clear hb hIx hCk
                  obtain ⟨q0, q1, q2, q3⟩ := HX1.out
                  obtain ⟨p0, p1, p2, p3, p4, p5⟩ := HP1.out
                  go_wp2_with fail
                  go_region
                  all_goals go_wp2_with fail
                  go_roundw
                  case rel => exact ⟨0 + 1, by go_num, by omega, HP1, HB1.out.drew, HE⟩
                  case measure => simp [intOf]; omega
                · obtain ⟨m, rfl⟩ : ∃ m, k = m + 1 := ⟨k - 1, by omega⟩
                  obtain ⟨hml, y, hy, d0, d1, d2⟩ := HLl.out m rfl
                  have HE := Lib.hid (HS2.out rfl rfl m hml rfl)
                  have hLm := Lib.hid (fun w => HLs.out m hml w)
                  rw [← hy] at HE hLm
                  clear HSt HS1 HS2 HLs HLl hr1 hr2 hy
                  generalize y.less x = r3 at *
                  generalize x.v = xv at *
                  generalize x.hi = xh at *
                  generalize x.lo = xl at *
                  generalize y.v = yv at *
                  generalize y.hi = yh at *
                  generalize y.lo = yl at *
                  go_wp2_with fail
                  refine (hCk.out _).mono ?_
                  rintro e w4 ⟨rfl, cc, rfl⟩
                  replace HX1 := Lib.hid (HX1.out.alloc (.cells cc 24))
                  replace HP1 := Lib.hid (HP1.out.alloc (.cells cc 24))
                  replace HB1 := Lib.hid (bal HB1.out (.cells cc 24))
                  have HB0 := Lib.hid (bal (bal (Below.refl wr.heap.size wr) (.cells #[.bool xv, .int .u64 xh, .int .u64 xl] 24)) (.cells cc 24))
                  generalize (wr.alloc (.cells #[.bool xv, .int .u64 xh, .int .u64 xl] 24)).alloc (.cells cc 24) = w4 at *
                  obtain ⟨q0, q1, q2, q3⟩ := HX1.out
                  obtain ⟨p0, p1, p2, p3, p4, p5⟩ := HP1.out
                  go_wp2_with fail
                  refine (hIx.out _).mono ?_
                  rintro e w5 ⟨rfl, hb⟩
                  clear p0 p1 p2 p3 p4 p5 q0 q1 q2 q3
                  replace HX1 := Lib.hid (HX1.out.below hb)
                  replace HP1 := Lib.hid (HP1.out.below hb)
                  replace HB1 := Lib.hid (btr HB1.out hb)
                  replace HB0 := Lib.hid (btr HB0.out hb)
                  clear hb hIx hCk
                  obtain ⟨q0, q1, q2, q3⟩ := HX1.out
                  obtain ⟨p0, p1, p2, p3, p4, p5⟩ := HP1.out
                  have hm1 : (0 : Int) ≤ (m : Int) := by omega
                  have hm2 : (m : Int) < (N : Int) := by omega
                  have hm3 : (0 : Int) < (m : Int) + 1 := by omega
                  have hwr : IntKind.i64.wrap ((m : Int) + 1 - 1) = (m : Int) := by rw [IntKind.wrap_i64]; omega
                  have hwr2 : IntKind.i64.wrap (m : Int) = (m : Int) := by rw [IntKind.wrap_i64]; omega
                  rw [← (bcell HB0.out).1 _ _ hgH.out] at d0 d1 d2
                  have hg5 : g < w5.heap.size := Nat.lt_of_lt_of_le hgH.out HB0.out.size
                  have HSd := Lib.hid (keepP (w := w) ⟨⟨p4, p5⟩, ⟨d0, d1, d2, hg5⟩, ⟨q0, q1, q2, q3⟩, HB1.out⟩ (Below.refl _ _).drew)
                  clear d0 d1 d2 p0 p1 p2 p3 p4 p5 q0 q1 q2 q3 hg5
                  cases r3
                  · have HE2 : Hid (R = 4) := by rw [Hid, HE.out]; rfl
                    clear HE
                    go_wp2_with fail
                    go_region_held3 (fun w' => (w'.cell? ⟨w.heap.size, 4, none⟩ = some (.slice (some ⟨g, o, none⟩) N c) ∧ w.heap.size < w'.heap.size) ∧ (w'.cell? ⟨g, o + m * 3, none⟩ = some (.bool yv) ∧ w'.cell? ⟨g, o + m * 3 + 1, none⟩ = some (.int .u64 yh) ∧ w'.cell? ⟨g, o + m * 3 + 2, none⟩ = some (.int .u64 yl) ∧ g < w'.heap.size) ∧ (w'.cell? ⟨wr.heap.size, 0, none⟩ = some (.bool xv) ∧ w'.cell? ⟨wr.heap.size, 1, none⟩ = some (.int .u64 xh) ∧ w'.cell? ⟨wr.heap.size, 2, none⟩ = some (.int .u64 xl) ∧ wr.heap.size < w'.heap.size) ∧ Below w.heap.size w w')
                      (first | with_reducible exact HSd.out | with_reducible exact HSe.out | fail)
                      ((go_at_call 42; refine (hLm.out _).mono ?_; rintro e wx ⟨rfl, hb⟩; have HSe := Lib.hid (keepP HSd.out hb); have HPe := Lib.hid (HP1.out.below ((Below.refl _ _).drew.trans hb)); clear hb))
                    have HB2 := Lib.hid HSe.out.2.2.2
                    clear HSe HSd
                    go_wp2_with fail
                    go_ret
                    exact ⟨congrArg (fun r => Ending.returned (Value.int .i64 r)) HE2.out.symm, HB2.out⟩
                  · have HE2 := Lib.hid (HE.out.trans (if_pos rfl))
                    clear HE
                    go_wp2_with fail
                    go_region_held3 (fun w' => (w'.cell? ⟨w.heap.size, 4, none⟩ = some (.slice (some ⟨g, o, none⟩) N c) ∧ w.heap.size < w'.heap.size) ∧ (w'.cell? ⟨g, o + m * 3, none⟩ = some (.bool yv) ∧ w'.cell? ⟨g, o + m * 3 + 1, none⟩ = some (.int .u64 yh) ∧ w'.cell? ⟨g, o + m * 3 + 2, none⟩ = some (.int .u64 yl) ∧ g < w'.heap.size) ∧ (w'.cell? ⟨wr.heap.size, 0, none⟩ = some (.bool xv) ∧ w'.cell? ⟨wr.heap.size, 1, none⟩ = some (.int .u64 xh) ∧ w'.cell? ⟨wr.heap.size, 2, none⟩ = some (.int .u64 xl) ∧ wr.heap.size < w'.heap.size) ∧ Below w.heap.size w w')
                      (first | with_reducible exact HSd.out | with_reducible exact HSe.out | fail)
                      ((go_at_call 42; refine (hLm.out _).mono ?_; rintro e wx ⟨rfl, hb⟩; have HSe := Lib.hid (keepP HSd.out hb); have HPe := Lib.hid (HP1.out.below ((Below.refl _ _).drew.trans hb)); clear hb))
                    have HB2 := Lib.hid HSe.out.2.2.2
                    clear HSe HSd
                    go_wp2_with fail
                    go_roundw
                    case rel => exact ⟨m + 1 + 1, by go_num, by omega, HPe, HB2, HE2⟩
                    case measure => simp [intOf]; omega
            · have HE := Lib.hid (HS0.out hc0)
              have hI1 : (r1 != 0) = true := by rw [bne_iff_ne]; exact hc0
              clear HSt HS1 HS2 HLs HLl HS0 hr1 hr2 hc0
              generalize x.v = xv at *
              generalize x.hi = xh at *
              generalize x.lo = xl at *
              go_wp2_with fail
              refine (hCk.out _).mono ?_
              rintro e w4 ⟨rfl, cc, rfl⟩
              replace HB1 := Lib.hid (bal HB1.out (.cells cc 24))
              go_wp2_with fail
              go_ret
              exact ⟨congrArg (fun r => Ending.returned (Value.int .i64 r)) HE.out.symm, HB1.out⟩
          · obtain rfl : k = N := by omega
            have hkk : ¬ (k : Int) < (k : Int) := by omega
            have hd := hh.out
            rw [List.drop_eq_nil_of_le (by have := HN.out; omega), keptE_nil] at hd
            have HE := Lib.hid hd
            clear hd hh
            go_wp2_with fail
            go_ret
            exact ⟨congrArg (fun r => Ending.returned (Value.int .i64 r)) HE.out.symm, HB.out⟩
    · have HE : Hid (R = 2) := by rw [Hid, HR1.out, if_pos (.inl rfl)]
      generalize p.v = v at *
      generalize p.hi = hi at *
      generalize p.lo = lo at *
      generalize p.b = b at *
      go_enter Tryz.func17, Tryz.ntmps17
      go_wp2_with fail
      refine (hC.out _).mono ?_
      rintro e w2 ⟨rfl, hb⟩
      obtain ⟨p0, p1, p2, p3, p4, p5⟩ := HP.out.below hb
      replace HB := Lib.hid (btr HB.out hb)
      clear hb hC
      go_wp2_with fail
      refine (hW.out _).mono ?_
      rintro e w3 ⟨rfl, hb⟩
      replace HB := Lib.hid (btr HB.out hb)
      clear hb hW p0 p1 p2 p3 p4 p5
      go_wp2_with fail
      go_ret
      exact ⟨congrArg (fun r => Ending.returned (Value.int .i64 r)) HE.out.symm, HB.out⟩
  · have HE : Hid (R = p.chk) := by rw [Hid, HR.out, poolE, if_neg hc]
    have hI : (p.chk != 0) = true := by rw [bne_iff_ne]; exact hc
    clear hc HR
    generalize p.chk = r at *
    generalize p.v = v at *
    generalize p.hi = hi at *
    generalize p.lo = lo at *
    generalize p.b = b at *
    go_enter Tryz.func17, Tryz.ntmps17
    go_wp2_with fail
    refine (hC.out _).mono ?_
    rintro e w2 ⟨rfl, hb⟩
    go_wp2_with fail
    go_ret
    exact ⟨congrArg (fun r => Ending.returned (Value.int .i64 r)) HE.out.symm, btr HB.out hb⟩
end Go.Proofs.YtiiankekobgebaaGreatDoor

namespace Go.Proofs.YtiiankekobgebaaGreatDoor
open Go.RowKit Go.Maps Go.Shelf

def Ls.hasWho (s : ByteArray) (x : Ls) : Bool := decide (x.who = s)
/-- What is wrong, lease by lease, behind those ahead. -/
def chkOf (p : Pf) : List Ls → List Ls → Int
  | _, [] => 0
  | h, x :: r => if p.inA x.a.v x.a.hi x.a.lo = true then (if h.any (Ls.hasWho x.who) = true then 6 else chkOf p (h ++ [x]) r) else 5
def checkE (p : Pf) (kept : List Ad) (l : List Ls) (now : Int) : Int := if poolE p kept = 0 then (if lookL l now = 0 then chkOf p [] l else lookL l now) else poolE p kept
/-- The map of names that were met, behind k rounds. -/
def Dw (l : List Ls) : Nat → DataW Unit
  | 0 => .map []
  | k + 1 => match l[k]? with
    | some x => (Dw l k).put (.string x.who.data.toList) (.lit (.int .i64 (k : Int)))
    | none => Dw l k
theorem Dw_isMap (l : List Ls) : ∀ k, IsMap (Dw l k)
  | 0 => ⟨[], rfl⟩
  | k + 1 => by
    have h := Dw_isMap l k
    rw [Dw]
    split
    · obtain ⟨es, he⟩ := h; rw [he]; exact ⟨_, rfl⟩
    · exact h
theorem Dw_succ (l : List Ls) (k : Nat) (h : k < l.length) : Dw l (k + 1) = (Dw l k).put (.string l[k].who.data.toList) (.lit (.int .i64 (k : Int))) := by rw [Dw, List.getElem?_eq_getElem h]
theorem bytes_same {a b : ByteArray} (h : a.data.toList = b.data.toList) : a = b := by
  cases a; cases b; simp at h; subst h; rfl
theorem Dw_has (l : List Ls) (s : ByteArray) : ∀ k, k ≤ l.length → Maps.has (Dw l k) (.string s.data.toList) = (l.take k).any (Ls.hasWho s)
  | 0, _ => by simp [Dw, Maps.has]
  | k + 1, hk => by
    have ih := Dw_has l s k (by omega)
    rw [Dw_succ l k (by omega), List.take_succ_eq_append_getElem (by omega), List.any_append, ← ih]
    by_cases h : l[k].who = s
    · subst h
      rw [has_put_same (Dw_isMap l k) (by trivial)]
      simp [Ls.hasWho]
    · rw [has_put_other (by intro e; injection e with e; exact h (bytes_same e).symm)]
      simp [Ls.hasWho, h]
theorem ownsMapS_below {w w' : World} {b n : Nat} {D : DataW Unit} (h : w.ownsMap Tryz.prog 9 (plainElem Tryz.prog 3) b n D) (hb : Below w.heap.size w w') : w'.ownsMap Tryz.prog 9 (plainElem Tryz.prog 3) b n D := by
  have hlt := h.lt
  obtain ⟨es, clock, hh, r⟩ := h
  exact ⟨es, clock, (hb.block b hlt).trans hh, r⟩
theorem Has5.far {w w' : World} {row : Option Nat} {p : Nat} {x0 x1 x2 x3 x4 : Value} (h : Has5 w p x0 x1 x2 x3 x4) (hg : w.grownBy w' row) (hr : row ≠ some p) : Has5 w' p x0 x1 x2 x3 x4 := by
  obtain ⟨a, b, c, d, e, f⟩ := h
  have k : ∀ o, w'.cell? ⟨p, o, none⟩ = w.cell? ⟨p, o, none⟩ := fun o => hg.cell_far _ f (fun h => hr h.symm)
  exact ⟨by rw [k]; exact a, by rw [k]; exact b, by rw [k]; exact c, by rw [k]; exact d, by rw [k]; exact e, Nat.lt_of_lt_of_le f hg.size⟩
theorem keySt : Keyed Tryz.prog 9 := string_keyed Tryz.underlying9
theorem zeroIn (w : World) : (zeroValue 3).run Tryz.prog w = .ok (.int .i64 0) w := by kernel_rfl
theorem rgt_all {l : List Ls} (h : rgtAll l = 0) : ∀ x ∈ l, x.rgt = 0 := by
  induction l with
  | nil => simp
  | cons y r ih =>
    rw [rgtAll] at h
    by_cases hy : y.rgt = 0
    · rw [if_pos hy] at h
      intro x hx
      rcases List.mem_cons.1 hx with rfl | hx
      · exact hy
      · exact ih h x hx
    · rw [if_neg hy] at h; exact absurd h hy
theorem look_rgt {l : List Ls} {now : Int} (h : lookL l now = 0) : ∀ x ∈ l, x.rgt = 0 := by
  unfold lookL at h
  by_cases h1 : 20 < l.length
  · rw [if_pos h1] at h; exact absurd h (by decide)
  · rw [if_neg h1] at h
    by_cases h2 : rgtAll l = 0
    · exact rgt_all h2
    · rw [if_neg h2] at h; exact absurd h h2
theorem rgt_who {x : Ls} (h : x.rgt = 0) : whoB x.who = true := by
  unfold Ls.rgt at h
  by_cases h1 : chk x.a.v x.a.hi x.a.lo = 0
  · rw [if_pos h1] at h
    by_cases h2 : whoB x.who = true
    · exact h2
    · rw [if_neg h2] at h; exact absurd h (by decide)
  · rw [if_neg h1] at h; exact absurd h h1
theorem who_size {s : ByteArray} (h : whoB s = true) : s.size ≤ 8 := by
  simp [whoB] at h; omega

theorem lookL_len20 {l : List Ls} {now : Int} (h : lookL l now = 0) : l.length ≤ 20 := by
  unfold lookL at h
  by_cases h1 : 20 < l.length
  · rw [if_pos h1] at h; exact absurd h (by decide)
  · omega

set_option maxHeartbeats 16000000 in
set_option maxRecDepth 100000 in
theorem check_ls (p : Pf) (hp : p.Ok) (ka : Option Addr) (kc : Nat) (kept : List Ad) (a : Option Addr) (c : Nat) (l : List Ls) (now : Int) (w : World) (hk : Lies adE w ka kept) (hs : Lies lsE w a l) :
    Calls Tryz.prog 8 #[.agg #[.bool p.v, .int .u64 p.hi, .int .u64 p.lo, .int .i64 p.b, .slice ka kept.length kc], .slice a l.length c, .int .i64 now] w fun e w' => e = .returned (.int .i64 (checkE p kept l now)) ∧ Below w.heap.size w w' := by
  have hmm := @run_makeMap Tryz.prog
  have HP := Lib.hid (Has5.new w (.bool p.v) (.int .u64 p.hi) (.int .u64 p.lo) (.int .i64 p.b) (.slice ka kept.length kc) 29)
  have HB := Lib.hid (bal (Below.refl w.heap.size w) (.cells #[.bool p.v, .int .u64 p.hi, .int .u64 p.lo, .int .i64 p.b, .slice ka kept.length kc] 29))
  have HC : Hid (∀ w' : World, Below w.heap.size w w' → Calls Tryz.prog 17 #[.agg #[.bool p.v, .int .u64 p.hi, .int .u64 p.lo, .int .i64 p.b, .slice ka kept.length kc]] w' fun e w'' => e = .returned (.int .i64 (poolE p kept)) ∧ Below w'.heap.size w' w'') := fun w' hb => pool_any p hp ka kc kept w' (hk.below hb)
  have HK : Hid (∀ w' : World, Below w.heap.size w w' → Calls Tryz.prog 30 #[.slice a l.length c, .int .i64 now] w' fun e w'' => e = .returned (.int .i64 (lookL l now)) ∧ Below w'.heap.size w' w'') := fun w' hb => llook_any a c l now w' (hs.below hb)
  obtain ⟨R, hR⟩ : ∃ R, R = checkE p kept l now := ⟨_, rfl⟩
  rw [← hR]
  have HR := Lib.hid hR
  have HL := Lib.hid hs
  obtain ⟨N, hN⟩ : ∃ N, N = l.length := ⟨_, rfl⟩
  rw [← hN] at HK ⊢
  have HN := Lib.hid hN
  obtain ⟨i0, i1, l0, l1⟩ := hp
  unfold checkE at HR
  generalize hr0 : poolE p kept = r0 at *
  generalize kept.length = KN at *
  generalize hr1 : lookL l now = r1 at *
  by_cases h0 : r0 = 0
  · subst h0
    rw [if_pos rfl] at HR
    have hpc : p.chk = 0 := by
      unfold poolE at hr0
      by_cases hc : p.chk = 0
      · exact hc
      · rw [if_neg hc] at hr0; exact absurd hr0 hc
    have hI : Hid (∀ (x : Ad) (w : World), Calls Tryz.prog 31 #[.agg #[.bool x.v, .int .u64 x.hi, .int .u64 x.lo], .agg #[.bool p.v, .int .u64 p.hi, .int .u64 p.lo, .int .i64 p.b]] w fun e w' => e = .returned (.bool (p.inA x.v x.hi x.lo)) ∧ Below w.heap.size w w') := fun x w => within_any x.v x.hi x.lo p.v p.hi p.lo p.b w x.ok.1.1 x.ok.2.1 i0 i1 l0 l1 hpc
    clear hk hs hR hN i0 i1 l0 l1 hr0 hpc
    by_cases h1 : r1 = 0
    · subst h1
      rw [if_pos rfl] at HR
      have hN20 : N ≤ 20 := by have := lookL_len20 hr1; have := HN.out; omega
      have HW : Hid (∀ x ∈ l, x.who.size ≤ 8) := fun x hx => who_size (rgt_who (look_rgt hr1 x hx))
      clear hr1
      generalize p.v = v at *
      generalize p.hi = hi at *
      generalize p.lo = lo at *
      generalize p.b = b at *
      go_enter Tryz.func8, Tryz.ntmps8
      go_wp2_with fail
      refine (HC.out _ HB.out).mono ?_
      rintro e w2 ⟨rfl, hb⟩
      replace HP := Lib.hid (HP.out.below hb)
      replace HB := Lib.hid (btr HB.out hb)
      clear hb HC
      go_wp2_with fail
      refine (HK.out _ HB.out).mono ?_
      rintro e w3 ⟨rfl, hb⟩
      replace HP := Lib.hid (HP.out.below hb)
      replace HB := Lib.hid (btr HB.out hb)
      have hw3 : w.heap.size < w3.heap.size := HP.out.2.2.2.2.2
      clear hb HK
      go_wp2_with fail
      go_loopw [28] (fun vi wr => ∃ k : Nat, vi = .int .i64 k ∧ k ≤ N ∧ Hid (Has5 wr w.heap.size (.bool v) (.int .u64 hi) (.int .u64 lo) (.int .i64 b) (.slice ka KN kc)) ∧ Hid (wr.ownsMap Tryz.prog 9 (plainElem Tryz.prog 3) w3.heap.size k (Dw l k)) ∧ Hid (Below w.heap.size w wr) ∧ Hid (R = chkOf p (l.take k) (l.drop k)))
        (fun vi _ => N - (intOf vi).toNat)
      case atStart => exact ⟨0, rfl, Nat.zero_le _, HP.out.alloc _, World.ownsMap_made _ _ _ _, bal HB.out _, HR⟩
      case round =>
        clear HP HB HR
        obtain ⟨k, rfl, hk, HP, HM, HB, hh⟩ := hrel
        by_cases hkN : k < N
        · have hkl : k < l.length := by have := HN.out; omega
          obtain ⟨g, o, rfl, hg, c0, c1, c2, c3, c4⟩ := HL.out.ls k hkl
          rw [← (bcell HB.out).1 _ _ hg] at c0 c1 c2 c3 c4
          have hdec := hh.out
          rw [List.drop_eq_getElem_cons hkl, chkOf] at hdec
          have hDs := Dw_succ l k hkl
          have hDh := Dw_has l l[k].who k (by omega)
          have hsz := HW.out l[k] (List.getElem_mem hkl)
          have htk : l.take (k + 1) = l.take k ++ [l[k]] := List.take_succ_eq_append_getElem hkl
          obtain ⟨x, hx⟩ : ∃ x, x = l[k] := ⟨_, rfl⟩
          rw [← hx] at c0 c1 c2 c3 c4 hdec hDs hDh hsz htk
          have hIx := Lib.hid (fun w => hI.out x.a w)
          have hkey : keyOf Tryz.prog 9 (.string x.who) = some (.string x.who.data.toList) := Go.WideMaps.keyOf_string_mk Tryz.underlying9 (by unfold maxLen; omega)
          have HKey := Lib.hid hkey
          have hkz : (k : Int) < (N : Int) := by omega
          have hk0 : (0 : Int) ≤ (k : Int) := by omega
          have HX := Lib.hid (Has5.new wr (.bool x.a.v) (.int .u64 x.a.hi) (.int .u64 x.a.lo) (.string x.who) (.int .i64 x.un) 39)
          replace HP := Lib.hid (HP.out.alloc (.cells #[.bool x.a.v, .int .u64 x.a.hi, .int .u64 x.a.lo, .string x.who, .int .i64 x.un] 39))
          replace HB := Lib.hid (bal HB.out (.cells #[.bool x.a.v, .int .u64 x.a.hi, .int .u64 x.a.lo, .string x.who, .int .i64 x.un] 39))
          replace HM := Lib.hid (HM.out.alloc (.cells #[.bool x.a.v, .int .u64 x.a.hi, .int .u64 x.a.lo, .string x.who, .int .i64 x.un] 39))
          have HDs := Lib.hid hDs
          have HDh := Lib.hid hDh
          have HTk := Lib.hid htk
          clear hDs hDh htk hh hx hkey hsz hg HL HW hI
          generalize p.inA x.a.v x.a.hi x.a.lo = r2 at *
          generalize (l.take k).any (Ls.hasWho x.who) = r3 at *
          have HDec := Lib.hid hdec
          clear hdec
          cases r2
          · have HE : Hid (R = 5) := by rw [Hid, HDec.out, if_neg (by decide)]
            clear HDec HDs HDh HTk HKey
            generalize x.a.v = xv at *
            generalize x.a.hi = xh at *
            generalize x.a.lo = xl at *
            generalize x.who = xw at *
            generalize x.un = xu at *
            obtain ⟨p0, p1, p2, p3, p4, p5⟩ := HP.out
            go_wp2_with fail
            refine (hIx.out _).mono ?_
            rintro e w5 ⟨rfl, hb⟩
            replace HB := Lib.hid (btr HB.out hb)
            clear hb p0 p1 p2 p3 p4 p5
            go_wp2_with fail
            go_ret
            exact ⟨congrArg (fun r => Ending.returned (Value.int .i64 r)) HE.out.symm, HB.out⟩
          · rw [if_pos rfl] at HDec
            cases r3
            · have HE : Hid (R = chkOf p (l.take (k + 1)) (l.drop (k + 1))) := by rw [Hid, HDec.out, if_neg (by decide), HTk.out]
              have hh := HDh.out
              clear HDec HTk HDh
              generalize Dw l k = D at *
              obtain ⟨D', hD'⟩ : ∃ D', D' = Dw l (k + 1) := ⟨_, rfl⟩
              rw [← hD'] at HDs
              have HD' := Lib.hid hD'
              clear hD'
              generalize x.a.v = xv at *
              generalize x.a.hi = xh at *
              generalize x.a.lo = xl at *
              generalize x.who = xw at *
              generalize x.un = xu at *
              obtain ⟨p0, p1, p2, p3, p4, p5⟩ := HP.out
              go_wp2_with fail
              refine (hIx.out _).mono ?_
              rintro e w5 ⟨rfl, hb⟩
              clear p0 p1 p2 p3 p4 p5
              replace HP := Lib.hid (HP.out.below hb)
              replace HB := Lib.hid (btr HB.out hb)
              replace HM := Lib.hid (ownsMapS_below HM.out hb)
              obtain ⟨x0, x1, x2, x3, x4, x5⟩ := HX.out.below hb
              clear hb HX hIx
              go_wp2_with (first
                | (at_lookup; refine wpList_lookup_own_ok_int _ rfl _ _ 69 rfl 9 3 .i64 keySt Tryz.underlying69 Tryz.underlying3 (zeroIn _) w3.heap.size k _ rfl HM.out _ _ rfl HKey.out ?_; intro cc hat hwc; rw [hh]; clear hat hwc hh)
                | (at_mapUpdate; refine wpList_mapUpdate_own _ rfl _ _ _ 69 rfl 9 3 keySt Tryz.underlying69 _ w3.heap.size k _ rfl HM.out (by unfold maxLen; omega) _ _ _ rfl rfl HKey.out _ [] (plainElem_int Tryz.underlying3 (WalkArith.wf_i64 (by omega))) ?_; intro w1 hown1 hgrow1))
              go_roundw
              case rel => exact ⟨k + 1, by go_num, by omega, HP.out.far hgrow1 (by simp; omega), by rw [← HD'.out, HDs.out]; exact Lib.hid hown1, HB.out.grown hgrow1 HB.out.size (fun j hj => by cases hj; omega), HE⟩
              case measure => simp [intOf]; omega
            · have HE : Hid (R = 6) := by rw [Hid, HDec.out, if_pos rfl]
              have hh := HDh.out
              clear HDec HTk HDh HDs
              generalize Dw l k = D at *
              generalize x.a.v = xv at *
              generalize x.a.hi = xh at *
              generalize x.a.lo = xl at *
              generalize x.who = xw at *
              generalize x.un = xu at *
              obtain ⟨p0, p1, p2, p3, p4, p5⟩ := HP.out
              go_wp2_with fail
              refine (hIx.out _).mono ?_
              rintro e w5 ⟨rfl, hb⟩
              clear p0 p1 p2 p3 p4 p5
              replace HB := Lib.hid (btr HB.out hb)
              replace HM := Lib.hid (ownsMapS_below HM.out hb)
              obtain ⟨x0, x1, x2, x3, x4, x5⟩ := HX.out.below hb
              clear hb HX hIx
              go_wp2_with (at_lookup; refine wpList_lookup_own_ok_int _ rfl _ _ 69 rfl 9 3 .i64 keySt Tryz.underlying69 Tryz.underlying3 (zeroIn _) w3.heap.size k _ rfl HM.out _ _ rfl HKey.out ?_; intro cc hat hwc; rw [hh]; clear hat hwc hh)
              go_ret
              exact ⟨congrArg (fun r => Ending.returned (Value.int .i64 r)) HE.out.symm, HB.out⟩
        · obtain rfl : k = N := by omega
          have hkk : ¬ (k : Int) < (k : Int) := by omega
          have hd := hh.out
          rw [List.drop_eq_nil_of_le (by have := HN.out; omega), chkOf] at hd
          have HE := Lib.hid hd
          clear hd hh
          go_wp2_with fail
          go_ret
          exact ⟨congrArg (fun r => Ending.returned (Value.int .i64 r)) HE.out.symm, HB.out⟩
    · rw [if_neg h1] at HR
      have hI1 : (r1 != 0) = true := by rw [bne_iff_ne]; exact h1
      clear h1 hr1
      generalize p.v = v at *
      generalize p.hi = hi at *
      generalize p.lo = lo at *
      generalize p.b = b at *
      go_enter Tryz.func8, Tryz.ntmps8
      go_wp2_with fail
      refine (HC.out _ HB.out).mono ?_
      rintro e w2 ⟨rfl, hb⟩
      replace HB := Lib.hid (btr HB.out hb)
      clear hb HC
      go_wp2_with fail
      refine (HK.out _ HB.out).mono ?_
      rintro e w3 ⟨rfl, hb⟩
      replace HB := Lib.hid (btr HB.out hb)
      clear hb HK
      go_wp2_with fail
      go_ret
      exact ⟨congrArg (fun r => Ending.returned (Value.int .i64 r)) HR.out.symm, HB.out⟩
  · rw [if_neg h0] at HR
    have hI0 : (r0 != 0) = true := by rw [bne_iff_ne]; exact h0
    clear h0 hr0 hr1 hk hs hR hN i0 i1 l0 l1
    generalize p.v = v at *
    generalize p.hi = hi at *
    generalize p.lo = lo at *
    generalize p.b = b at *
    go_enter Tryz.func8, Tryz.ntmps8
    go_wp2_with fail
    refine (HC.out _ HB.out).mono ?_
    rintro e w2 ⟨rfl, hb⟩
    go_wp2_with fail
    go_ret
    exact ⟨congrArg (fun r => Ending.returned (Value.int .i64 r)) HR.out.symm, btr HB.out hb⟩
end Go.Proofs.YtiiankekobgebaaGreatDoor

namespace Go.Proofs.YtiiankekobgebaaGreatDoor
open Go.RowKit

theorem run_copyK {P : Program} (w : World) (dT sT ty elem : TypeId) (k : Nat) (g o dLen dCap : Nat) (a : Addr) (sLen sCap : Nat) (cur : List Value) (t : TypeId) (cs : List Value)
    (hu : P.underlying dT = some (.slice elem)) (hs : (P.info? elem).map (·.size) = some k)
    (hg : w.heap[g]? = some (.cells cur.toArray t (0, 0))) (hn : cs.length = Nat.min sLen dLen * k)
    (hsrc : ∀ j v, cs[j]? = some v → w.cell? (a.add j) = some v) (hfit : o + cs.length ≤ cur.length) (h1 : ∀ v ∈ cs, v.oneCell' = true) :
    (Builtin.copy_ #[dT, sT] ty #[.slice (some ⟨g, o, none⟩) dLen dCap, .slice (some a) sLen sCap]).run P w =
      .ok (goInt (Nat.min sLen dLen)) (w.setRow g (splice cur o cs).toArray) := by
  have hl := run_loadCells_list (P := P) w a cs hsrc
  have hst := run_storeCells_at P g o t cs 0 cur.toArray w hg (by simpa using hfit) h1
  cases hq : P.info? elem with
  | none => simp [hq] at hs
  | some i =>
    have hi : i.size = k := by simpa [hq] using hs
    simp only [Nat.add_zero] at hst
    simp [Builtin.copy_, run_underlying hu, Builtin.lenOf, Builtin.firstCells, sizeOf, typeInfo, hq, hi, ← hn, hl, hst, splice]
theorem step_copyK {P : Program} {ops : Array Oper} {o : Oper} {a : Act} {w : World} {K : Act → World → Prop} {Q : Exit → Act → World → Prop} {E : Prop} (hgd : o.guard = none) (d s : Operand) (dT sT : TypeId)
    (ho : o.op = .call { callee := .builtin .copy, args := #[d, s], argTypes := #[dT, sT] }) (elem : TypeId) (k : Nat) (hu : P.underlying dT = some (.slice elem)) (hsz : (P.info? elem).map (·.size) = some k)
    (g off dLen dCap : Nat) (ad : Addr) (sLen sCap : Nat) (hd : a.eval d = .slice (some ⟨g, off, none⟩) dLen dCap) (hs : a.eval s = .slice (some ad) sLen sCap)
    (cur : List Value) (t : TypeId) (hg : w.heap[g]? = some (.cells cur.toArray t (0, 0))) (cs : List Value) (hn : cs.length = Nat.min sLen dLen * k)
    (hsrc : ∀ j v, cs[j]? = some v → w.cell? (ad.add j) = some v) (hfit : off + cs.length ≤ cur.length) (h1 : ∀ v ∈ cs, v.oneCell' = true)
    (h : ∀ w', Hid (w'.heap[g]? = some (.cells (splice cur off cs).toArray t (0, 0))) → w.grownBy w' (some g) → K (a.put o.dst (goInt (Nat.min sLen dLen))) w') :
    if Region.wanted o (yielded ops a.tmps) = true then Oper.wp P o a w K Q else E := by
  have hw : Region.wanted o (yielded ops a.tmps) = true := by simp [Region.wanted, hgd]
  rw [if_pos hw]
  have hrun := run_copyK (P := P) w dT sT o.type elem k g off dLen dCap ad sLen sCap cur t cs hu hsz hg hn hsrc hfit h1
  unfold Oper.wp
  simp [execOp, ho, resolve, invoke, builtin, hd, hs, hrun, Result.andThen]
  exact h _ (show _ = _ from setRow_heap w g _ _ t _ hg) (grown_row _ _ _)
theorem wpList_copyK {P : Program} {w : World} {ops : Array Oper} {rest : List Oper} {o : Oper} {a : Act} {Q : Exit → Act → World → Prop} (hgd : o.guard = none) (d s : Operand) (dT sT : TypeId)
    (ho : o.op = .call { callee := .builtin .copy, args := #[d, s], argTypes := #[dT, sT] }) (elem : TypeId) (k : Nat) (hu : P.underlying dT = some (.slice elem)) (hsz : (P.info? elem).map (·.size) = some k)
    (g off dLen dCap : Nat) (ad : Addr) (sLen sCap : Nat) (hd : a.eval d = .slice (some ⟨g, off, none⟩) dLen dCap) (hs : a.eval s = .slice (some ad) sLen sCap)
    (cur : List Value) (t : TypeId) (hg : w.heap[g]? = some (.cells cur.toArray t (0, 0))) (cs : List Value) (hn : cs.length = Nat.min sLen dLen * k)
    (hsrc : ∀ j v, cs[j]? = some v → w.cell? (ad.add j) = some v) (hfit : off + cs.length ≤ cur.length) (h1 : ∀ v ∈ cs, v.oneCell' = true)
    (h : ∀ w', Hid (w'.heap[g]? = some (.cells (splice cur off cs).toArray t (0, 0))) → w.grownBy w' (some g) → wpList P ops Q rest (a.put o.dst (goInt (Nat.min sLen dLen))) w') : wpList P ops Q (o :: rest) a w := by
  refine wpList_plain hgd fun K hK => ?_
  have hrun := run_copyK (P := P) w dT sT o.type elem k g off dLen dCap ad sLen sCap cur t cs hu hsz hg hn hsrc hfit h1
  unfold Oper.wp
  simp [execOp, ho, resolve, invoke, builtin, hd, hs, hrun, Result.andThen]
  exact hK _ _ (h _ (show _ = _ from setRow_heap w g _ _ t _ hg) (grown_row _ _ _))
theorem sizeL : (Tryz.prog.info? 39).map (·.size) = some 5 := by kernel_rfl
theorem infoL3 : (Tryz.prog.info? 39).map (fun i => (i.zero, i.size, i.bytes)) = some (some (.agg #[.bool false, .int .u64 0, .int .u64 0, .string ⟨#[]⟩, .int .i64 0]), 5, 48) := by kernel_rfl
theorem sizeOfL (w : World) : (Go.sizeOf 39).run Tryz.prog w = .ok 5 w := by kernel_rfl
/-- A row with one more in its midst. -/
theorem splice_ins {α : Type} (A B r X : List α) (m : Nat) (hX : X.length = m) (hm : m ≤ r.length) : splice (splice (A ++ B ++ r) (A.length + m) B) A.length X = A ++ X ++ B ++ r.drop m := by
  subst hX
  have e1 : splice (A ++ B ++ r) (A.length + X.length) B = (A ++ B ++ r).take (A.length + X.length) ++ (B ++ r.drop X.length) := by
    rw [splice]
    congr 2
    rw [List.append_assoc, show A.length + X.length + B.length = A.length + (B.length + X.length) by omega, List.drop_append, List.drop_eq_nil_of_le (by omega), List.nil_append, Nat.add_sub_cancel_left, List.drop_append, List.drop_eq_nil_of_le (by omega), List.nil_append, Nat.add_sub_cancel_left]
  have hlen : ((A ++ B ++ r).take (A.length + X.length)).length = A.length + X.length := by rw [List.length_take]; simp; omega
  rw [e1, splice, List.take_append_of_le_length (by omega), List.drop_append, List.drop_eq_nil_of_le (by omega), List.nil_append, hlen, Nat.sub_self, List.drop_zero, List.take_take, Nat.min_eq_left (by omega), List.append_assoc, List.take_append_of_le_length (by omega), List.take_of_length_le (by omega)]
  simp [List.append_assoc]
end Go.Proofs.YtiiankekobgebaaGreatDoor

namespace Go.Proofs.YtiiankekobgebaaGreatDoor
open Go.RowKit

theorem grown_drew {w w' : World} {r : Option Nat} (h : w.drew.grownBy w' r) : w.grownBy w' r := ⟨h.os, h.tape, h.output, h.size, h.block⟩
theorem ins_fit {α : Type} (E : Enc α) (l : List α) (i : Nat) (x : α) (r : List Value) (hi : i ≤ l.length) (hr : E.k ≤ r.length) :
    splice (splice (rowOf E l ++ r) ((i + 1) * E.k) (rowOf E (l.drop i))) (i * E.k) (E.f x) = rowOf E (l.take i ++ x :: l.drop i) ++ r.drop E.k := by
  have hA : (rowOf E (l.take i)).length = i * E.k := by rw [rowOf_len, List.length_take, Nat.min_eq_left hi]
  have := splice_ins (rowOf E (l.take i)) (rowOf E (l.drop i)) r (E.f x) E.k (E.len x) hr
  rw [hA, ← rowOf_append, List.take_append_drop, ← Nat.succ_mul] at this
  rw [show (i + 1) * E.k = i.succ * E.k from rfl, this, rowOf_append, rowOf]
  simp [List.append_assoc]

set_option maxHeartbeats 8000000 in
set_option maxRecDepth 100000 in
theorem insL_shift (B g c i vb : Nat) (l : List Ls) (x : Ls) (w : World) (hown : OwnAt lsE w B 39 g c l) (hl : l.length ≤ 20) (hi : i < l.length) (hroom : l.length + 1 ≤ c) (hx : w.heap[vb]? = some (.cells (lsE.f x).toArray 39 (0, 0))) (hne : vb ≠ g) :
    Calls Tryz.prog 74 #[.slice (some ⟨g, 0, none⟩) l.length c, .int .i64 i, .slice (some ⟨vb, 0, none⟩) 1 1] w fun e w' => ∃ v', e = .returned v' ∧ w'.ownsRow B 39 lsE.k v' (l.length + 1) (rowOf lsE (l.take i ++ x :: l.drop i)) ∧ w.grownBy w' (some g) := by
  obtain ⟨r, hr, hlr⟩ := hown.row
  have hcM : c ≤ maxLen := hown.max
  unfold maxLen at hcM
  have hBg := hown.base
  have hlr' : (rowOf lsE l ++ r).length = c * 5 := hlr
  have hrl : (rowOf lsE l).length = l.length * 5 := rowOf_len lsE l
  have hr5 : lsE.k ≤ r.length := by show 5 ≤ _; rw [List.length_append, hrl] at hlr'; omega
  have hov : ∀ lb cb, (callFunc 89 #[.slice (some ⟨vb, 0, none⟩) 1 1, .slice (some ⟨g, (i + 1) * 5, none⟩) lb cb]).run Tryz.prog w = .ok (.value (.bool false)) w := fun lb cb => by
    rw [run_callFunc_extern Tryz.func89 (by kernel_rfl) (by kernel_rfl) (by kernel_rfl) (e := Extern.SlicesOverlaps.overlaps #[30, 30] #[4]) (by kernel_rfl),
      Lib.run_overlaps_apart w 30 4 39 Tryz.underlying30 5 sizeOfL ⟨vb, 0, none⟩ ⟨g, (i + 1) * 5, none⟩ 1 1 lb cb hne 39 39 5 (c * 5) (by simp [World.shape?, hx]; rfl) (by simp [World.shape?, hr]; simpa using hlr') (by omega) (by simp [World.frozen?, hx]) (by simp [World.frozen?, hx])]
    rfl
  have hfit := ins_fit lsE l i x r (by omega) hr5
  have HSrc : Hid (∀ j v, (rowOf lsE (l.drop i))[j]? = some v → w.cell? ((⟨g, i * 5, none⟩ : Addr).add j) = some v) := by
    have h := (hown.lies.drop i).news
    rw [show (0 : Nat) + i * lsE.k = i * 5 from by rw [Nat.zero_add]; rfl] at h
    exact h
  have HXs : Hid (∀ W : World, w.grownBy W (some g) → ∀ j v, (lsE.f x)[j]? = some v → W.cell? ((⟨vb, 0, none⟩ : Addr).add j) = some v) := fun W hW j v hj => by
    rw [add_addr, Nat.zero_add, World.cell?_of_block (a := ⟨vb, j, none⟩) (hW.block vb (Array.getElem?_eq_some_iff.1 hx).1 (by simpa using hne))]
    simp only [World.cell?, hx]
    simpa using hj
  have HDl : Hid ((rowOf lsE (l.drop i)).length = (l.length - i) * 5) := by rw [Hid, rowOf_len, List.length_drop]; rfl
  have HD1 := Lib.hid (rowOf_one lsE (l.drop i))
  have HX1 := Lib.hid (lsE.one x)
  have HXl := Lib.hid (lsE.len x)
  have HFin : Hid (∀ W : World, W.heap[g]? = some (.cells (splice (splice (rowOf lsE l ++ r) ((i + 1) * 5) (rowOf lsE (l.drop i))) (i * 5) (lsE.f x)).toArray 39 (0, 0)) → W.ownsRow B 39 lsE.k (.slice (some ⟨g, 0, none⟩) (l.length + 1) c) (l.length + 1) (rowOf lsE (l.take i ++ x :: l.drop i))) := fun W hW => by
    have hlen : (l.take i ++ x :: l.drop i).length = l.length + 1 := by simp; omega
    have h2 : OwnAt lsE W B 39 g c (l.take i ++ x :: l.drop i) := ⟨hBg, by rw [hlen]; exact hroom, hown.max, r.drop lsE.k, by
      rw [← hfit]; exact hW, by
      rw [← hfit, length_splice _ _ _ (by rw [length_splice _ _ _ (by rw [HDl.out, hlr']; show (i + 1) * 5 + _ ≤ _; omega), hlr', HXl.out]; show i * 5 + 5 ≤ _; omega), length_splice _ _ _ (by rw [HDl.out, hlr']; show (i + 1) * 5 + _ ≤ _; omega)]; exact hlr⟩
    have := h2.own
    rw [hlen] at this
    exact this
  have HR := Lib.hid hr
  have HLr := Lib.hid hlr'
  obtain ⟨N, hN⟩ : ∃ N, N = l.length := ⟨_, rfl⟩
  rw [← hN] at hl hi hroom HDl HFin ⊢
  obtain ⟨F, hF⟩ : ∃ F, F = rowOf lsE (l.take i ++ x :: l.drop i) := ⟨_, rfl⟩
  rw [← hF] at HFin ⊢
  obtain ⟨D, hD⟩ : ∃ D, D = rowOf lsE (l.drop i) := ⟨_, rfl⟩
  rw [← hD] at HSrc HDl HD1 HFin
  obtain ⟨X, hX⟩ : ∃ X, X = lsE.f x := ⟨_, rfl⟩
  rw [← hX] at HXs HX1 HXl HFin
  obtain ⟨C, hC⟩ : ∃ C, C = rowOf lsE l ++ r := ⟨_, rfl⟩
  rw [← hC] at HR HLr HFin
  clear hN hF hD hX hC hfit hr hlr hlr' hrl hr5 hown hx hne
  have b1 : (0 : Int) ≤ (i : Int) := by omega
  have b2 : (i : Int) ≤ (N : Int) := by omega
  have b3 : (N : Int) ≤ (c : Int) := by omega
  have b4 : ((i : Int) == (N : Int)) = false := beq_eq_false_iff_ne.2 (by omega)
  have b5 : ¬ (c : Int) < (N : Int) + 1 := by omega
  have b6 : (N : Int) + 1 ≤ (c : Int) := by omega
  have b7 : IntKind.i64.wrap ((N : Int) + 1) = (N : Int) + 1 := by rw [IntKind.wrap_i64]; omega
  have b8 : IntKind.i64.wrap ((i : Int) + 1) = (i : Int) + 1 := by rw [IntKind.wrap_i64]; omega
  have b9 : (i : Int) + 1 ≤ (N : Int) + 1 := by omega
  have b10 : (0 : Int) ≤ (i : Int) + 1 := by omega
  have b11 : (0 : Int) ≤ (N : Int) + 1 := by omega
  have b12 : (i : Int) ≤ (N : Int) + 1 := by omega
  have b13 : ¬ (c = i + 1) := by omega
  have b14 : ¬ (c = i) := by omega
  go_enter Tryz.func74, Tryz.ntmps74
  go_wp2_with (simp only [hov])
  go_region_held3 (fun w' => True) (trivial)
    ((refine step_copyK (by rfl) _ _ 30 30 (by rfl) 39 5 Tryz.underlying30 sizeL g ((i + 1) * 5) (N - i) (c - (i + 1)) ⟨g, i * 5, none⟩ (N + 1 - i) (c - i) (by simp [Act.eval, Act.put]) (by simp [Act.eval, Act.put]) C 39 HR.out D (by rw [HDl.out]; congr 1; simp only [Nat.min_def]; split <;> omega) HSrc.out (by rw [HDl.out, HLr.out]; omega) HD1.out ?_; intro w1 hh1 hg1))
  replace hg1 := grown_drew hg1
  have HG1 := Lib.hid hg1
  have HXs1 := Lib.hid (HXs.out w1 hg1)
  clear hg1 HXs HSrc
  obtain ⟨w2, hw2⟩ : ∃ w2, w2 = w1.setRow g (splice (splice C ((i + 1) * 5) D) (i * 5) X).toArray := ⟨_, rfl⟩
  have hcp : ∀ ty, (Builtin.copy_ #[30, 30] ty #[.slice (some ⟨g, i * 5, none⟩) (N + 1 - i) (c - i), .slice (some ⟨vb, 0, none⟩) 1 1]).run Tryz.prog w1 = .ok (.int .i64 1) w2 := fun ty => by
    have := run_copyK (P := Tryz.prog) w1 30 30 ty 39 5 g (i * 5) (N + 1 - i) (c - i) ⟨vb, 0, none⟩ 1 1 (splice C ((i + 1) * 5) D) 39 X Tryz.underlying30 sizeL hh1.out (by rw [HXl.out]; show 5 = _; simp only [Nat.min_def]; split <;> omega) HXs1.out (by rw [length_splice _ _ _ (by rw [HDl.out, HLr.out]; omega), HLr.out, HXl.out]; show i * 5 + 5 ≤ _; omega) HX1.out
    rw [this, hw2, show Nat.min 1 (N + 1 - i) = 1 by simp only [Nat.min_def]; split <;> omega]
    rfl
  have hh2 : Hid (w2.heap[g]? = some (.cells (splice (splice C ((i + 1) * 5) D) (i * 5) X).toArray 39 (0, 0))) := by rw [hw2]; exact setRow_heap w1 g _ _ _ _ hh1.out
  have hg2 : Hid (w1.grownBy w2 (some g)) := by rw [hw2]; exact grown_row _ _ _
  clear hw2 HXs1
  go_wp2
  go_ret
  exact ⟨_, rfl, HFin.out _ hh2.out, HG1.out.trans hg2.out⟩
end Go.Proofs.YtiiankekobgebaaGreatDoor

namespace Go.Proofs.YtiiankekobgebaaGreatDoor
open Go.RowKit

theorem news_of {w : World} {vb : Nat} {x : Ls} (hx : w.heap[vb]? = some (.cells (lsE.f x).toArray 39 (0, 0))) : ∀ j v, (lsE.f x)[j]? = some v → w.cell? ((⟨vb, 0, none⟩ : Addr).add j) = some v := fun j v hj => by
  rw [add_addr, Nat.zero_add]
  simp only [World.cell?, hx]
  simpa using hj
set_option maxHeartbeats 8000000 in
set_option maxRecDepth 100000 in
theorem insL_end (B g c vb : Nat) (l : List Ls) (x : Ls) (w : World) (hown : OwnAt lsE w B 39 g c l) (hl : l.length ≤ 20) (hB : B ≤ w.heap.size) (hx : w.heap[vb]? = some (.cells (lsE.f x).toArray 39 (0, 0))) :
    Calls Tryz.prog 74 #[.slice (some ⟨g, 0, none⟩) l.length c, .int .i64 l.length, .slice (some ⟨vb, 0, none⟩) 1 1] w fun e w' => ∃ v', e = .returned v' ∧ w'.ownsRow B 39 lsE.k v' (l.length + 1) (rowOf lsE (l ++ [x])) ∧ w.grownBy w' (some g) := by
  obtain ⟨i0, hi0, hz0, hz1, hz2⟩ := info_parts infoL3
  have hcM : c ≤ maxLen := hown.max
  unfold maxLen at hcM
  have hle := hown.le
  have HO := Lib.hid hown.own
  have HX1 := Lib.hid (lsE.one x)
  have HXl := Lib.hid (lsE.len x)
  have HNw := Lib.hid (news_of hx)
  have hrow : rowOf lsE (l ++ [x]) = rowOf lsE l ++ lsE.f x := by rw [rowOf_append, rowOf, rowOf, List.append_nil]
  rw [hrow]
  obtain ⟨N, hN⟩ : ∃ N, N = l.length := ⟨_, rfl⟩
  rw [← hN] at hl HO hle ⊢
  obtain ⟨X, hX⟩ : ∃ X, X = lsE.f x := ⟨_, rfl⟩
  rw [← hX] at HX1 HXl HNw ⊢
  generalize rowOf lsE l = R at *
  have b1 : (N : Int) ≤ (c : Int) := by omega
  have b2 : ((N : Int) == (N : Int)) = true := by simp
  clear hown hN hX hrow hx
  by_cases hcN : N = c
  · subst hcN
    go_enter Tryz.func74, Tryz.ntmps74
    go_wp2_with (at_builtin; refine wpList_append_own _ rfl _ _ 30 rfl B 39 i0 _ 5 48 Tryz.underlying30 hi0 hz0 hz1 hz2 rfl (by decide) _ _ _ rfl HO.out ⟨vb, 0, none⟩ 1 1 X rfl HXl.out HNw.out HX1.out (by unfold maxLen; omega) (by omega) hB ?_)
    intro v' w4 hown hgrow _
    have HO4 := Lib.hid hown
    have HG := Lib.hid hgrow
    clear hown hgrow
    go_wp2
    go_ret
    exact ⟨_, rfl, HO4.out, HG.out⟩
  · have hcN' : ¬ (c = N) := fun h => hcN h.symm
    clear hcN
    go_enter Tryz.func74, Tryz.ntmps74
    go_wp2_with (at_builtin; refine wpList_append_own _ rfl _ _ 30 rfl B 39 i0 _ 5 48 Tryz.underlying30 hi0 hz0 hz1 hz2 rfl (by decide) _ _ _ rfl HO.out ⟨vb, 0, none⟩ 1 1 X rfl HXl.out HNw.out HX1.out (by unfold maxLen; omega) (by omega) hB ?_)
    intro v' w4 hown hgrow _
    have HO4 := Lib.hid hown
    have HG := Lib.hid hgrow
    clear hown hgrow
    go_wp2
    go_ret
    exact ⟨_, rfl, HO4.out, HG.out⟩
set_option maxHeartbeats 8000000 in
set_option maxRecDepth 100000 in
theorem insL_nil (B vb : Nat) (x : Ls) (w : World) (hB : B ≤ w.heap.size) (hx : w.heap[vb]? = some (.cells (lsE.f x).toArray 39 (0, 0))) :
    Calls Tryz.prog 74 #[.slice none 0 0, .int .i64 0, .slice (some ⟨vb, 0, none⟩) 1 1] w fun e w' => ∃ v', e = .returned v' ∧ w'.ownsRow B 39 lsE.k v' 1 (rowOf lsE [x]) ∧ w.grownBy w' none := by
  obtain ⟨i0, hi0, hz0, hz1, hz2⟩ := info_parts infoL3
  have HX1 := Lib.hid (lsE.one x)
  have HXl := Lib.hid (lsE.len x)
  have HNw := Lib.hid (news_of hx)
  rw [show rowOf lsE [x] = lsE.f x by rw [rowOf, rowOf, List.append_nil]]
  obtain ⟨X, hX⟩ : ∃ X, X = lsE.f x := ⟨_, rfl⟩
  rw [← hX] at HX1 HXl HNw ⊢
  clear hX hx
  go_enter Tryz.func74, Tryz.ntmps74
  go_wp2_with (at_builtin; refine wpList_append_own _ rfl _ _ 30 rfl B 39 i0 _ 5 48 Tryz.underlying30 hi0 hz0 hz1 hz2 rfl (by decide) _ _ _ rfl (World.ownsRow_nil _ _ _ _) ⟨vb, 0, none⟩ 1 1 X rfl HXl.out HNw.out HX1.out (by unfold maxLen; omega) (by omega) hB ?_)
  intro v' w4 hown hgrow _
  have HO4 := Lib.hid hown
  have HG := Lib.hid hgrow
  clear hown hgrow
  go_wp2
  go_ret
  exact ⟨_, rfl, HO4.out, HG.out⟩

theorem splice_fill {α : Type} (A Z X D : List α) (h : X.length + D.length ≤ Z.length) : splice (splice (A ++ Z) A.length X) (A.length + X.length) D = A ++ X ++ D ++ Z.drop (X.length + D.length) := by
  have e1 : splice (A ++ Z) A.length X = A ++ (X ++ Z.drop X.length) := by
    rw [splice, List.take_append_of_le_length (Nat.le_refl _), List.take_length, List.drop_append, List.drop_eq_nil_of_le (by omega), List.nil_append, Nat.add_sub_cancel_left]
  rw [e1, splice, List.take_append, List.take_of_length_le (by omega), Nat.add_sub_cancel_left, List.take_append_of_le_length (Nat.le_refl _), List.take_length, List.drop_append, List.drop_eq_nil_of_le (by omega), List.nil_append, show A.length + X.length + D.length - A.length = X.length + D.length by omega, List.drop_append, List.drop_eq_nil_of_le (by omega), List.nil_append, Nat.add_sub_cancel_left, List.drop_drop]
  simp [List.append_assoc, Nat.add_comm]
theorem nextcap_small (n c : Nat) (hn : n ≤ 64) (hc : c ≤ 64) : Builtin.nextslicecap n c ≤ 128 := by
  unfold Builtin.nextslicecap
  split
  · omega
  · split <;> omega

set_option maxHeartbeats 8000000 in
set_option maxRecDepth 100000 in
theorem insL_grow (B g c i vb : Nat) (l : List Ls) (x : Ls) (w : World) (hown : OwnAt lsE w B 39 g c l) (hl : l.length ≤ 20) (hi : i < l.length) (hroom : c < l.length + 1) (hB : B ≤ w.heap.size) (hx : w.heap[vb]? = some (.cells (lsE.f x).toArray 39 (0, 0))) :
    Calls Tryz.prog 74 #[.slice (some ⟨g, 0, none⟩) l.length c, .int .i64 i, .slice (some ⟨vb, 0, none⟩) 1 1] w fun e w' => ∃ v', e = .returned v' ∧ w'.ownsRow B 39 lsE.k v' (l.length + 1) (rowOf lsE (l.take i ++ x :: l.drop i)) ∧ w.grownBy w' (some g) := by
  obtain ⟨i0, hi0, hz0, hz1, hz2⟩ := info_parts infoL3
  have hle := hown.le
  have hgw := hown.lt
  have hvw : vb < w.heap.size := (Array.getElem?_eq_some_iff.1 hx).1
  have hA : (rowOf lsE (l.take i)).length = i * 5 := by rw [rowOf_len, List.length_take, Nat.min_eq_left (by omega)]; rfl
  have hDl : (rowOf lsE (l.drop i)).length = (l.length - i) * 5 := by rw [rowOf_len, List.length_drop]; rfl
  have hXl : (lsE.f x).length = 5 := lsE.len x
  obtain ⟨G, hG⟩ : ∃ G, G = grownCap w (l.length + 1) c 39 := ⟨_, rfl⟩
  have hGn : l.length + 1 ≤ G := by rw [hG]; exact grownCap_ge w _ _ _
  have hGM : G ≤ maxLen := by rw [hG]; exact grownCap_le_maxLen w _ _ _ (by unfold maxLen; omega)
  obtain ⟨Z, hZ⟩ : ∃ Z : List Value, Z = (Builtin.zeroCells (Value.agg #[.bool false, .int .u64 0, .int .u64 0, .string ⟨#[]⟩, .int .i64 0]).cells (l.length + 1 - i)).toList ++ (Builtin.zeroCells (Value.agg #[.bool false, .int .u64 0, .int .u64 0, .string ⟨#[]⟩, .int .i64 0]).cells (G - (l.length + 1))).toList := ⟨_, rfl⟩
  have hZl : Z.length = (G - i) * 5 := by
    rw [hZ, List.length_append, zero_len, zero_len]
    show (l.length + 1 - i) * 5 + (G - (l.length + 1)) * 5 = _
    omega
  obtain ⟨W1, hW1⟩ : ∃ W1, W1 = w.drew.alloc (.cells (rowOf lsE (l.take i) ++ Z).toArray 39) := ⟨_, rfl⟩
  have hold : (Builtin.firstCells i0.size i (.slice (some ⟨g, 0, none⟩) i c)).run Tryz.prog w.drew = .ok (rowOf lsE (l.take i)).toArray w.drew := by
    rw [hz1]
    have h := run_loadCells_list (P := Tryz.prog) w.drew ⟨g, 0, none⟩ (rowOf lsE (l.take i)) (hown.lies.take i).news
    rw [hA] at h
    exact h
  have hrz : ∀ ty, (Builtin.append_ #[30, 3] ty #[.slice (some ⟨g, 0, none⟩) i c, .int .i64 ((l.length : Int) + 1 - (i : Int))]).run Tryz.prog w = .ok (.slice (some ⟨w.heap.size, 0, none⟩) (l.length + 1) G) W1 := fun ty => by
    have h := Lib.run_append_grow_zeros (P := Tryz.prog) w 30 3 ty 39 i0 _ .i64 .i64 Tryz.underlying30 Tryz.underlying3 hi0 hz0 (some ⟨g, 0, none⟩) i c (rowOf lsE (l.take i)) hold (l.length + 1 - i) (by omega) (by omega) (by omega) (by omega) (by rw [hz2]; omega) (by rw [hz2, show i + (l.length + 1 - i) = l.length + 1 by omega]; have := nextcap_small (l.length + 1) c (by omega) (by omega); omega)
    rw [show i + (l.length + 1 - i) = l.length + 1 by omega, ← hG] at h
    have key : ∀ A1 A2 : Array Value, (rowOf lsE (l.take i)).toArray ++ A1 ++ A2 = (rowOf lsE (l.take i) ++ (A1.toList ++ A2.toList)).toArray := fun A1 A2 => by apply Array.ext'; simp
    rw [show (l.length : Int) + 1 - (i : Int) = ((l.length + 1 - i : Nat) : Int) by omega, h, hW1, hZ, key]
  have hb1 : W1.heap[w.heap.size]? = some (.cells (rowOf lsE (l.take i) ++ Z).toArray 39 (0, 0)) := by rw [hW1]; exact heap_alloc_new w.drew _
  have hbl : Below w.heap.size w W1 := by rw [hW1]; exact bal (Below.refl _ _).drew _
  obtain ⟨W2, hW2⟩ : ∃ W2, W2 = W1.setRow w.heap.size (splice (rowOf lsE (l.take i) ++ Z) (i * 5) (lsE.f x)).toArray := ⟨_, rfl⟩
  have hcp1 : ∀ ty, (Builtin.copy_ #[30, 30] ty #[.slice (some ⟨w.heap.size, i * 5, none⟩) (l.length + 1 - i) (G - i), .slice (some ⟨vb, 0, none⟩) 1 1]).run Tryz.prog W1 = .ok (.int .i64 1) W2 := fun ty => by
    have := run_copyK (P := Tryz.prog) W1 30 30 ty 39 5 w.heap.size (i * 5) (l.length + 1 - i) (G - i) ⟨vb, 0, none⟩ 1 1 (rowOf lsE (l.take i) ++ Z) 39 (lsE.f x) Tryz.underlying30 sizeL hb1 (by rw [hXl]; simp only [Nat.min_def]; split <;> omega) (news_of ((hbl.block vb hvw).trans hx)) (by rw [List.length_append, hA, hZl, hXl]; omega) (lsE.one x)
    rw [this, hW2, show Nat.min 1 (l.length + 1 - i) = 1 by simp only [Nat.min_def]; split <;> omega]
    rfl
  have hb2 : W2.heap[w.heap.size]? = some (.cells (splice (rowOf lsE (l.take i) ++ Z) (i * 5) (lsE.f x)).toArray 39 (0, 0)) := by rw [hW2]; exact setRow_heap W1 _ _ _ _ _ hb1
  have hbl2 : Below w.heap.size w W2 := by rw [hW2]; exact below_setRow hbl (Nat.le_refl _) _
  obtain ⟨W3, hW3⟩ : ∃ W3, W3 = W2.drew.setRow w.heap.size (splice (splice (rowOf lsE (l.take i) ++ Z) (i * 5) (lsE.f x)) ((i + 1) * 5) (rowOf lsE (l.drop i))).toArray := ⟨_, rfl⟩
  have hs1 : (splice (rowOf lsE (l.take i) ++ Z) (i * 5) (lsE.f x)).length = G * 5 := by rw [length_splice _ _ _ (by rw [List.length_append, hA, hZl, hXl]; omega), List.length_append, hA, hZl]; omega
  have hcp2 : ∀ ty, (Builtin.copy_ #[30, 30] ty #[.slice (some ⟨w.heap.size, (i + 1) * 5, none⟩) (l.length - i) (G - (i + 1)), .slice (some ⟨g, i * 5, none⟩) (l.length - i) (c - i)]).run Tryz.prog W2.drew = .ok (.int .i64 ((l.length - i : Nat) : Int)) W3 := fun ty => by
    have h := ((hown.lies.below hbl2.drew).drop i).news
    rw [show (0 : Nat) + i * lsE.k = i * 5 from by rw [Nat.zero_add]; rfl] at h
    have := run_copyK (P := Tryz.prog) W2.drew 30 30 ty 39 5 w.heap.size ((i + 1) * 5) (l.length - i) (G - (i + 1)) ⟨g, i * 5, none⟩ (l.length - i) (c - i) (splice (rowOf lsE (l.take i) ++ Z) (i * 5) (lsE.f x)) 39 (rowOf lsE (l.drop i)) Tryz.underlying30 sizeL hb2 (by rw [hDl]; congr 1; simp) h (by rw [hs1, hDl]; omega) (rowOf_one _ _)
    rw [this, hW3, show Nat.min (l.length - i) (l.length - i) = l.length - i by simp]
    rfl
  have HFin : Hid (W3.ownsRow B 39 lsE.k (.slice (some ⟨w.heap.size, 0, none⟩) (l.length + 1) G) (l.length + 1) (rowOf lsE (l.take i ++ x :: l.drop i)) ∧ w.grownBy W3 (some g)) := by
    have hlen : (l.take i ++ x :: l.drop i).length = l.length + 1 := by simp; omega
    have hf := splice_fill (rowOf lsE (l.take i)) Z (lsE.f x) (rowOf lsE (l.drop i)) (by rw [hXl, hDl, hZl]; omega)
    rw [hA, hXl, show i * 5 + 5 = (i + 1) * 5 by omega] at hf
    have hrw : rowOf lsE (l.take i) ++ lsE.f x ++ rowOf lsE (l.drop i) = rowOf lsE (l.take i ++ x :: l.drop i) := by rw [rowOf_append, rowOf, List.append_assoc]
    rw [hrw] at hf
    have h3 : W3.heap[w.heap.size]? = some (.cells (rowOf lsE (l.take i ++ x :: l.drop i) ++ Z.drop (5 + (rowOf lsE (l.drop i)).length)).toArray 39 (0, 0)) := by
      rw [hW3, ← hf]
      exact setRow_heap W2.drew _ _ _ _ _ hb2
    have h2 : OwnAt lsE W3 B 39 w.heap.size G (l.take i ++ x :: l.drop i) := ⟨hB, by rw [hlen]; exact hGn, hGM, _, h3, by
      rw [← hf, length_splice _ _ _ (by rw [hs1, hDl]; omega), hs1]; rfl⟩
    have h4 := h2.own
    rw [hlen] at h4
    refine ⟨h4, grown_below ?_⟩
    rw [hW3]
    exact below_setRow hbl2.drew (Nat.le_refl _) _
  clear hW1 hW2 hW3 hb1 hb2 hbl hbl2 hs1 hold hA hDl hXl hZ hZl hx hown hG
  generalize rowOf lsE (l.take i ++ x :: l.drop i) = F at *
  obtain ⟨N, hN⟩ : ∃ N, N = l.length := ⟨_, rfl⟩
  rw [← hN] at hl hi hroom hle hGn hrz hcp1 hcp2 HFin ⊢
  unfold maxLen at hGM
  have b1 : (0 : Int) ≤ (i : Int) := by omega
  have b2 : (i : Int) ≤ (N : Int) := by omega
  have b3 : (N : Int) ≤ (c : Int) := by omega
  have b4 : ((i : Int) == (N : Int)) = false := beq_eq_false_iff_ne.2 (by omega)
  have b5 : (c : Int) < (N : Int) + 1 := by omega
  have b7 : IntKind.i64.wrap ((N : Int) + 1) = (N : Int) + 1 := by rw [IntKind.wrap_i64]; omega
  have b8 : IntKind.i64.wrap ((i : Int) + 1) = (i : Int) + 1 := by rw [IntKind.wrap_i64]; omega
  have b9 : (i : Int) + 1 ≤ (N : Int) + 1 := by omega
  have b10 : (0 : Int) ≤ (i : Int) + 1 := by omega
  have b12 : (i : Int) ≤ (N : Int) + 1 := by omega
  have b13 : ¬ (G = i + 1) := by omega
  have b14 : ¬ (c = i) := by omega
  have b15 : ¬ (G = i) := by omega
  have b16 : (N : Int) + 1 ≤ (G : Int) := by omega
  have b17 : IntKind.i64.wrap ((N : Int) + 1 - (i : Int)) = (N : Int) + 1 - (i : Int) := by rw [IntKind.wrap_i64]; omega
  have b18 : (i : Int) ≤ (c : Int) := by omega
  clear hN
  go_enter Tryz.func74, Tryz.ntmps74
  go_wp2_with (at_builtin; refine Lib.wpList_append_run _ rfl _ _ 30 3 rfl _ _ rfl rfl _ _ (hrz _) ?_)
  go_region_held3 (fun w' => True) (trivial) (fail)
  go_wp2
  go_ret
  exact ⟨_, rfl, HFin.out.1, HFin.out.2⟩
end Go.Proofs.YtiiankekobgebaaGreatDoor

namespace Go.Proofs.YtiiankekobgebaaGreatDoor
open Go.RowKit Go.Shelf

/-- Who grants, in memory. -/
def GrAt (w : World) (gb : Nat) (p : Pf) (ks lv : Value) : Prop := w.heap[gb]? = some (.cells #[.bool p.v, .int .u64 p.hi, .int .u64 p.lo, .int .i64 p.b, ks, lv] 66 (0, 0))
theorem GrAt.lt {w : World} {gb : Nat} {p : Pf} {ks lv : Value} (h : GrAt w gb p ks lv) : gb < w.heap.size := (Array.getElem?_eq_some_iff.1 h).1
theorem GrAt.cells {w : World} {gb : Nat} {p : Pf} {ks lv : Value} (h : GrAt w gb p ks lv) : (w.cell? ⟨gb, 0, none⟩ = some (.bool p.v) ∧ w.cell? ⟨gb, 1, none⟩ = some (.int .u64 p.hi) ∧ w.cell? ⟨gb, 2, none⟩ = some (.int .u64 p.lo) ∧ w.cell? ⟨gb, 3, none⟩ = some (.int .i64 p.b) ∧ w.cell? ⟨gb, 4, none⟩ = some ks ∧ w.cell? ⟨gb, 5, none⟩ = some lv) ∧ w.frozen? ⟨gb, 5, none⟩ = false := by
  unfold GrAt at h
  exact ⟨⟨by simp [World.cell?, h], by simp [World.cell?, h], by simp [World.cell?, h], by simp [World.cell?, h], by simp [World.cell?, h], by simp [World.cell?, h]⟩, by simp [World.frozen?, h]⟩
theorem GrAt.below {w w' : World} {gb : Nat} {p : Pf} {ks lv : Value} (h : GrAt w gb p ks lv) (hb : Below w.heap.size w w') : GrAt w' gb p ks lv := (hb.block gb h.lt).trans h
theorem GrAt.far {w w' : World} {gb : Nat} {p : Pf} {ks lv : Value} {row : Option Nat} (h : GrAt w gb p ks lv) (hg : w.grownBy w' row) (hr : row ≠ some gb) : GrAt w' gb p ks lv := (hg.block gb h.lt (fun e => hr e.symm)).trans h
theorem GrAt.put {w : World} {gb : Nat} {p : Pf} {ks lv : Value} (h : GrAt w gb p ks lv) (lv' : Value) : GrAt (w.setCell ⟨gb, 5, none⟩ lv') gb p ks lv' := by
  unfold GrAt at *
  rw [heap_setCell_same w gb 5 _ _ lv' h]
  rfl
/-- A row of leases lies elsewhere. -/
theorem GrAt.apart {w : World} {gb : Nat} {p : Pf} {ks lv : Value} (h : GrAt w gb p ks lv) {B : Nat} {v : Value} {l : List Ls} (ho : w.ownsRow B 39 lsE.k v l.length (rowOf lsE l)) : v.ownBlock ≠ some gb := by
  intro e
  rcases ho.2 with ⟨rfl, _⟩ | ⟨g, c, cur, rfl, _, hg, _⟩
  · simp [Value.ownBlock] at e
  · simp [Value.ownBlock] at e
    subst e
    unfold GrAt at h
    rw [hg] at h
    simp at h
/-- Worlds that part in two blocks alone, and in what is new. -/
structure Far (w w' : World) (p : Nat) (row : Option Nat) : Prop where
  os : w'.os = w.os
  tape : w'.tape = w.tape
  output : w'.output = w.output
  size : w.heap.size ≤ w'.heap.size
  block : ∀ k, k < w.heap.size → k ≠ p → some k ≠ row → w'.heap[k]? = w.heap[k]?
theorem Far.upto {w w' : World} {p B : Nat} {row : Option Nat} (h : Far w w' p row) (hp : B ≤ p) (hr : ∀ k, row = some k → B ≤ k) (hB : B ≤ w.heap.size) : Below B w w' :=
  ⟨h.os, h.tape, h.output, h.size, fun k hk => h.block k (by omega) (by omega) (fun e => by have := hr k e.symm; omega)⟩
theorem ownBlock_slice (g n c : Nat) : (Value.slice (some ⟨g, 0, none⟩) n c).ownBlock = some g := rfl

/-- Insert, whatever row it is. -/
theorem insL_any (B i vb : Nat) (lv : Value) (l : List Ls) (x : Ls) (w : World) (hown : w.ownsRow B 39 lsE.k lv l.length (rowOf lsE l)) (hl : l.length ≤ 20) (hi : i ≤ l.length) (hB : B ≤ w.heap.size) (hx : w.heap[vb]? = some (.cells (lsE.f x).toArray 39 (0, 0))) (hne : lv.ownBlock ≠ some vb) :
    Calls Tryz.prog 74 #[lv, .int .i64 i, .slice (some ⟨vb, 0, none⟩) 1 1] w fun e w' => ∃ g' c', e = .returned (.slice (some ⟨g', 0, none⟩) (l.length + 1) c') ∧ w'.ownsRow B 39 lsE.k (.slice (some ⟨g', 0, none⟩) (l.length + 1) c') (l.length + 1) (rowOf lsE (l.take i ++ x :: l.drop i)) ∧ w.grownBy w' lv.ownBlock := by
  have fin : ∀ {R : List Value} {w' : World} {v' : Value}, w'.ownsRow B 39 lsE.k v' (l.length + 1) R → ∃ g' c', v' = .slice (some ⟨g', 0, none⟩) (l.length + 1) c' := fun h => by
    rcases h.2 with ⟨_, e⟩ | ⟨g, c, cur, e, _⟩
    · omega
    · exact ⟨g, c, e⟩
  rcases own_form hown with ⟨rfl, rfl⟩ | ⟨g, c, rfl, ho⟩
  · obtain rfl : i = 0 := by simpa using hi
    refine (insL_nil B vb x w hB hx).mono ?_
    rintro e w' ⟨v', rfl, h1, h2⟩
    obtain ⟨g', c', rfl⟩ := fin h1
    exact ⟨g', c', rfl, h1, h2⟩
  · have hvg : vb ≠ g := fun e => hne (by rw [e]; rfl)
    rw [ownBlock_slice]
    by_cases he : i = l.length
    · subst he
      refine (insL_end B g c vb l x w ho hl hB hx).mono ?_
      rintro e w' ⟨v', rfl, h1, h2⟩
      obtain ⟨g', c', rfl⟩ := fin h1
      rw [List.take_length, List.drop_length]
      exact ⟨g', c', rfl, h1, h2⟩
    · by_cases hr : l.length + 1 ≤ c
      · refine (insL_shift B g c i vb l x w ho hl (by omega) hr hx hvg).mono ?_
        rintro e w' ⟨v', rfl, h1, h2⟩
        obtain ⟨g', c', rfl⟩ := fin h1
        exact ⟨g', c', rfl, h1, h2⟩
      · refine (insL_grow B g c i vb l x w ho hl (by omega) (by omega) hB hx).mono ?_
        rintro e w' ⟨v', rfl, h1, h2⟩
        obtain ⟨g', c', rfl⟩ := fin h1
        exact ⟨g', c', rfl, h1, h2⟩

theorem put1_any (q : Nat) (x y : Ls) (w : World) (hq : Has5 w q (.bool x.a.v) (.int .u64 x.a.hi) (.int .u64 x.a.lo) (.string x.who) (.int .i64 x.un)) :
    Calls Tryz.prog 73 #[.agg #[.bool y.a.v, .int .u64 y.a.hi, .int .u64 y.a.lo, .string y.who, .int .i64 y.un], .pointer (some ⟨q, 0, none⟩)] w fun e w' => e = .returned (.bool (x.a.less y.a)) ∧ Below w.heap.size w w' := by
  have HB := Lib.hid (bal (Below.refl w.heap.size w) (.cells #[.bool y.a.v, .int .u64 y.a.hi, .int .u64 y.a.lo, .string y.who, .int .i64 y.un] 39))
  obtain ⟨q0, q1, q2, _, _, q5⟩ := hq.alloc (.cells #[.bool y.a.v, .int .u64 y.a.hi, .int .u64 y.a.lo, .string y.who, .int .i64 y.un] 39)
  have hC : Hid (∀ w : World, Calls Tryz.prog 42 #[.agg #[.bool x.a.v, .int .u64 x.a.hi, .int .u64 x.a.lo], .agg #[.bool y.a.v, .int .u64 y.a.hi, .int .u64 y.a.lo]] w fun e w' => e = .returned (.bool (x.a.less y.a)) ∧ Below w.heap.size w w') :=
    fun w => oless_any x.a.v y.a.v x.a.hi x.a.lo y.a.hi y.a.lo w x.a.ok.1.1 x.a.ok.2.1 y.a.ok.1.1 y.a.ok.2.1
  generalize x.a.less y.a = r at *
  generalize x.a.v = v at *
  generalize x.a.hi = hi at *
  generalize x.a.lo = lo at *
  generalize y.a.v = u at *
  generalize y.a.hi = yi at *
  generalize y.a.lo = yo at *
  generalize y.who = who at *
  generalize y.un = un at *
  clear hq
  go_enter Tryz.func73, Tryz.ntmps73
  go_wp2_with fail
  refine (hC.out _).mono ?_
  rintro e w2 ⟨rfl, hb⟩
  have HB2 := Lib.hid (btr HB.out hb)
  clear hb
  go_wp2
  go_ret
  exact ⟨rfl, HB2.out⟩
theorem enters_put1 : ∀ args w, (callFunc 73 args).run Tryz.prog w = .ok (.enter 73 args) w := enters_of Tryz.func73 (by kernel_rfl) rfl

/-- Where a lease belongs. -/
def spotOf (x : Ls) (l : List Ls) : Nat := (l.findIdx? (fun y => x.a.less y.a)).getD l.length
def insOf (x : Ls) (l : List Ls) : List Ls := l.take (spotOf x l) ++ x :: l.drop (spotOf x l)
theorem spot_le (x : Ls) (l : List Ls) : spotOf x l ≤ l.length := by
  unfold spotOf
  cases h : l.findIdx? (fun y => x.a.less y.a) with
  | none => exact Nat.le_refl _
  | some i =>
    obtain ⟨hi, _⟩ := List.findIdx?_eq_some_iff_getElem.1 h
    exact Nat.le_of_lt hi
end Go.Proofs.YtiiankekobgebaaGreatDoor

namespace Go.Proofs.YtiiankekobgebaaGreatDoor
open Go.RowKit Go.Shelf

theorem own_lies {α : Type} {E : Enc α} {w : World} {B t : Nat} {v : Value} {l : List α} (h : w.ownsRow B t E.k v l.length (rowOf E l)) : ∃ a c, v = .slice a l.length c ∧ Lies E w a l := by
  rcases own_form h with ⟨rfl, rfl⟩ | ⟨g, c, rfl, ho⟩
  · exact ⟨none, 0, rfl, Lies.nil _ _ _⟩
  · exact ⟨_, c, rfl, ho.lies⟩
theorem own_far {α : Type} {E : Enc α} {w : World} {B t n : Nat} {v : Value} {R : List Value} (h : w.ownsRow B t E.k v n R) (a : Addr) (ha : v.ownBlock ≠ some a.block) (u : Value) : (w.setCell a u).ownsRow B t E.k v n R := by
  refine h.kept (row := some a.block) ⟨rfl, rfl, rfl, by simp, fun k hk hn => heap_setCell_other w a k u (fun e => hn (by rw [e]))⟩ (.inr ha)
theorem far_mk {w w1 w2 : World} {gb : Nat} {row : Option Nat} (h1 : w.grownBy w1 row) (hg : gb < w.heap.size) (u : Value) (e : w2 = w1.setCell ⟨gb, 5, none⟩ u) : Far w w2 gb row := by
  subst e
  exact ⟨h1.os, h1.tape, h1.output, by simpa using h1.size, fun k hk hp hr => (heap_setCell_other w1 ⟨gb, 5, none⟩ k u hp).trans (h1.block k hk hr)⟩

theorem enters_ins : ∀ args w, (callFunc 74 args).run Tryz.prog w = .ok (.enter 74 args) w := enters_of Tryz.func74 (by kernel_rfl) rfl
/-- A call of a Go function as one step of a region that draws. -/
theorem step_call {P : Program} {ops : Array Oper} {o : Oper} {a : Act} {w : World} {K : Act → World → Prop} {Q : Exit → Act → World → Prop} {E : Prop} (hgd : o.guard = none) (f : Nat) (xs : Array Operand) (ts : Array TypeId)
    (ho : o.op = .call { callee := .value (.func f), args := xs, argTypes := ts }) (ef : ∀ args w, (callFunc f args).run P w = .ok (.enter f args) w) (vs : Array Value) (hv : xs.map a.eval = vs) {R : Ending → World → Prop} (hc : Calls P f vs w R)
    (h : ∀ e w', R e w' → ∃ v, e = .returned v ∧ K (a.put o.dst v) w') : if Region.wanted o (yielded ops a.tmps) = true then Oper.wp P o a w K Q else E := by
  have hw : Region.wanted o (yielded ops a.tmps) = true := by simp [Region.wanted, hgd]
  rw [if_pos hw]
  have hrun : (execOp a.eval o).run P w = .ok (.enter f vs) w := by
    subst hv
    simp [execOp, ho, resolve, invoke, ef, Act.eval, Deferred.ofValue]
  unfold Oper.wp
  rw [hrun]
  simp only [Oper.upon]
  refine hc.mono fun e w' he => ?_
  obtain ⟨v, rfl, hk⟩ := h e w' he
  exact hk

set_option maxHeartbeats 16000000 in
set_option maxRecDepth 100000 in
theorem put_any (gb : Nat) (p : Pf) (ks lv : Value) (x : Ls) (l : List Ls) (w : World) (B : Nat) (hg : GrAt w gb p ks lv) (hown : w.ownsRow B 39 lsE.k lv l.length (rowOf lsE l)) (hl : l.length ≤ 20) (hB : B ≤ w.heap.size) :
    Calls Tryz.prog 56 #[.pointer (some ⟨gb, 0, none⟩), .agg #[.bool x.a.v, .int .u64 x.a.hi, .int .u64 x.a.lo, .string x.who, .int .i64 x.un]] w fun e w' => (∃ v, e = .returned v) ∧ ∃ lv', GrAt w' gb p ks lv' ∧ w'.ownsRow B 39 lsE.k lv' (l.length + 1) (rowOf lsE (insOf x l)) ∧ Far w w' gb lv.ownBlock := by
  have hap := hg.apart hown
  obtain ⟨a0, c0, rfl, hlies⟩ := own_lies hown
  obtain ⟨W1, hW1⟩ : ∃ W1, W1 = w.alloc (.cells #[.bool x.a.v, .int .u64 x.a.hi, .int .u64 x.a.lo, .string x.who, .int .i64 x.un] 39) := ⟨_, rfl⟩
  have hB1 : Below w.heap.size w W1 := by rw [hW1]; exact bal (Below.refl w.heap.size w) _
  have hQ : Has5 W1 w.heap.size (.bool x.a.v) (.int .u64 x.a.hi) (.int .u64 x.a.lo) (.string x.who) (.int .i64 x.un) := by rw [hW1]; exact Has5.new w _ _ _ _ _ _
  have HI := Lib.hid (ifnL_any a0 c0 l W1 73 #[.pointer (some ⟨w.heap.size, 0, none⟩)] (fun y => x.a.less y.a) (by omega) (hlies.below hB1) enters_put1 (fun W y hy hb => (put1_any w.heap.size x y W (hQ.below hb)).mono fun e w' h => ⟨h.1, btr hb h.2⟩))
  obtain ⟨⟨_, _, _, _, _, g5⟩, gf⟩ := hg.cells
  have hgw := hg.lt
  have HG1 := Lib.hid (hg.below hB1)
  obtain ⟨g1, f1⟩ : W1.cell? ⟨gb, 5, none⟩ = some (.slice a0 l.length c0) ∧ W1.frozen? ⟨gb, 5, none⟩ = false := ⟨by rw [(bcell hB1).1 _ _ hgw]; exact g5, by rw [(bcell hB1).2 _ _ hgw]; exact gf⟩
  have HIns : Hid (∀ (W : World) (vb : Nat), Below w.heap.size w W → W.heap[vb]? = some (.cells (lsE.f x).toArray 39 (0, 0)) → w.heap.size ≤ vb → Calls Tryz.prog 74 #[.slice a0 l.length c0, .int .i64 (spotOf x l), .slice (some ⟨vb, 0, none⟩) 1 1] W fun e w' => ∃ g' c', e = .returned (.slice (some ⟨g', 0, none⟩) (l.length + 1) c') ∧ w'.ownsRow B 39 lsE.k (.slice (some ⟨g', 0, none⟩) (l.length + 1) c') (l.length + 1) (rowOf lsE (insOf x l)) ∧ W.grownBy w' (Value.slice a0 l.length c0).ownBlock) := by
    intro W vb hb hx hv
    exact insL_any B (spotOf x l) vb _ l x W (own_keep hown hb) hl (spot_le x l) (by have := hb.size; omega) hx (fun e => by have := (hown.lt vb e).2; omega)
  have HAp := Lib.hid hap
  have HB1 := Lib.hid hB1
  have HGa : Hid (∀ (W : World) (g' c' : Nat), W.ownsRow B 39 lsE.k (.slice (some ⟨g', 0, none⟩) (l.length + 1) c') (l.length + 1) (rowOf lsE (insOf x l)) → GrAt W gb p ks (.slice a0 l.length c0) → g' ≠ gb) := fun W g' c' h1 h2 e => by
    have hlen : (insOf x l).length = l.length + 1 := by unfold insOf; have := spot_le x l; simp; omega
    rw [← hlen] at h1
    exact h2.apart h1 (by rw [e]; rfl)
  rw [hW1] at HI g1 f1 HG1 HB1 hQ
  clear hW1 hB1 hown hlies hg g5 gf hap W1
  have hcase : (idxI (l.findIdx? (fun y => x.a.less y.a)) = -1 ∧ spotOf x l = l.length) ∨ idxI (l.findIdx? (fun y => x.a.less y.a)) = (spotOf x l : Int) := by
    unfold spotOf
    cases l.findIdx? (fun y => x.a.less y.a) with
    | none => exact .inl ⟨rfl, rfl⟩
    | some i => exact .inr rfl
  have HX0 : Hid (lsE.f x = [.bool x.a.v, .int .u64 x.a.hi, .int .u64 x.a.lo, .string x.who, .int .i64 x.un]) := rfl
  generalize lsE.f x = X at *
  generalize rowOf lsE (insOf x l) = R at *
  have hsp := spot_le x l
  generalize spotOf x l = sp at *
  generalize idxI (l.findIdx? (fun y => x.a.less y.a)) = ix at *
  obtain ⟨N, hN⟩ : ∃ N, N = l.length := ⟨_, rfl⟩
  rw [← hN] at HI HIns hl hcase hsp g1 HGa HG1 HAp ⊢
  clear hN
  generalize x.a.v = v at *
  generalize x.a.hi = hi at *
  generalize x.a.lo = lo at *
  generalize x.who = who at *
  generalize x.un = un at *
  have HX := Lib.hid hQ
  clear hQ
  rcases hcase with ⟨rfl, rfl⟩ | rfl
  · have hdn : ((-1 : Int) < 0) := by decide
    go_enter Tryz.func56, Tryz.ntmps56
    go_wp2_with fail
    refine HI.out.mono ?_
    rintro e w3 ⟨rfl, hb⟩
    have HG3 := Lib.hid (HG1.out.below hb)
    have HB3 := Lib.hid (btr HB1.out hb)
    have HX3 := Lib.hid (HX.out.below hb)
    obtain ⟨⟨_, _, _, _, _, g3⟩, f3⟩ := HG3.out.cells
    obtain ⟨x0, x1, x2, x3, x4, x5⟩ := HX3.out
    clear hb g1 f1 HI HG1 HB1 HX HX3
    have hg3 : (w3.alloc (.cells #[.bool v, .int .u64 hi, .int .u64 lo, .string who, .int .i64 un] 39)).cell? ⟨gb, 5, none⟩ = some (.slice a0 sp c0) := by rw [(bcell (bal (Below.refl w3.heap.size w3) _)).1 _ _ HG3.out.lt]; exact g3
    have HC := Lib.hid (HIns.out (w3.alloc (.cells #[.bool v, .int .u64 hi, .int .u64 lo, .string who, .int .i64 un] 39)).drew w3.heap.size (bal HB3.out _).drew (by rw [HX0.out]; exact heap_alloc_new w3 _) HB3.out.size)
    have HG4 : Hid (GrAt (w3.alloc (.cells #[.bool v, .int .u64 hi, .int .u64 lo, .string who, .int .i64 un] 39)).drew gb p ks (.slice a0 sp c0)) := HG3.out.below (bal (Below.refl w3.heap.size w3) (.cells #[.bool v, .int .u64 hi, .int .u64 lo, .string who, .int .i64 un] 39)).drew
    have HB4 : Hid (Below w.heap.size w (w3.alloc (.cells #[.bool v, .int .u64 hi, .int .u64 lo, .string who, .int .i64 un] 39)).drew) := (bal HB3.out (.cells #[.bool v, .int .u64 hi, .int .u64 lo, .string who, .int .i64 un] 39)).drew
    have g3d : w3.drew.cell? ⟨gb, 5, none⟩ = some (.slice a0 sp c0) := g3
    obtain ⟨y0, y1, y2, y3, y4⟩ : w3.drew.cell? ⟨w.heap.size, 0, none⟩ = some (.bool v) ∧ w3.drew.cell? ⟨w.heap.size, 1, none⟩ = some (.int .u64 hi) ∧ w3.drew.cell? ⟨w.heap.size, 2, none⟩ = some (.int .u64 lo) ∧ w3.drew.cell? ⟨w.heap.size, 3, none⟩ = some (.string who) ∧ w3.drew.cell? ⟨w.heap.size, 4, none⟩ = some (.int .i64 un) := ⟨x0, x1, x2, x3, x4⟩
    clear HIns HX0 HB3
    go_wp2_with fail
    go_region_law ((refine step_call (by rfl) 74 _ _ (by rfl) enters_ins _ (by simp [Act.eval]) HC.out ?_; rintro e w5 ⟨g', c', rfl, ho, hgr⟩; refine ⟨_, rfl, ?_⟩; have HG5 := Lib.hid (HG4.out.far hgr HAp.out); have HO5 := Lib.hid ho; have HF5 := Lib.hid hgr; obtain ⟨⟨_, _, _, _, _, g5⟩, f5⟩ := HG5.out.cells; clear ho hgr HC))
    all_goals go_wp2_with fail
    all_goals go_end0
    all_goals exact ⟨⟨_, rfl⟩, _, HG5.out.put _, own_far (E := lsE) HO5.out ⟨gb, 5, none⟩ (by have := HGa.out _ _ _ HO5.out HG5.out; simpa [Value.ownBlock] using this) _, far_mk ((grown_below HB4.out).trans HF5.out) hgw _ rfl⟩
  · have hdn : decide ((sp : Int) < 0) = false := decide_eq_false (by omega)
    go_enter Tryz.func56, Tryz.ntmps56
    go_wp2_with fail
    refine HI.out.mono ?_
    rintro e w3 ⟨rfl, hb⟩
    have HG3 := Lib.hid (HG1.out.below hb)
    have HB3 := Lib.hid (btr HB1.out hb)
    have HX3 := Lib.hid (HX.out.below hb)
    obtain ⟨⟨_, _, _, _, _, g3⟩, f3⟩ := HG3.out.cells
    obtain ⟨x0, x1, x2, x3, x4, x5⟩ := HX3.out
    clear hb g1 f1 HI HG1 HB1 HX HX3
    have hg3 : (w3.alloc (.cells #[.bool v, .int .u64 hi, .int .u64 lo, .string who, .int .i64 un] 39)).cell? ⟨gb, 5, none⟩ = some (.slice a0 N c0) := by rw [(bcell (bal (Below.refl w3.heap.size w3) _)).1 _ _ HG3.out.lt]; exact g3
    have HC := Lib.hid (HIns.out (w3.alloc (.cells #[.bool v, .int .u64 hi, .int .u64 lo, .string who, .int .i64 un] 39)).drew w3.heap.size (bal HB3.out _).drew (by rw [HX0.out]; exact heap_alloc_new w3 _) HB3.out.size)
    have HG4 : Hid (GrAt (w3.alloc (.cells #[.bool v, .int .u64 hi, .int .u64 lo, .string who, .int .i64 un] 39)).drew gb p ks (.slice a0 N c0)) := HG3.out.below (bal (Below.refl w3.heap.size w3) (.cells #[.bool v, .int .u64 hi, .int .u64 lo, .string who, .int .i64 un] 39)).drew
    have HB4 : Hid (Below w.heap.size w (w3.alloc (.cells #[.bool v, .int .u64 hi, .int .u64 lo, .string who, .int .i64 un] 39)).drew) := (bal HB3.out (.cells #[.bool v, .int .u64 hi, .int .u64 lo, .string who, .int .i64 un] 39)).drew
    have g3d : w3.drew.cell? ⟨gb, 5, none⟩ = some (.slice a0 N c0) := g3
    obtain ⟨y0, y1, y2, y3, y4⟩ : w3.drew.cell? ⟨w.heap.size, 0, none⟩ = some (.bool v) ∧ w3.drew.cell? ⟨w.heap.size, 1, none⟩ = some (.int .u64 hi) ∧ w3.drew.cell? ⟨w.heap.size, 2, none⟩ = some (.int .u64 lo) ∧ w3.drew.cell? ⟨w.heap.size, 3, none⟩ = some (.string who) ∧ w3.drew.cell? ⟨w.heap.size, 4, none⟩ = some (.int .i64 un) := ⟨x0, x1, x2, x3, x4⟩
    clear HIns HX0 HB3
    go_wp2_with fail
    go_region_law ((refine step_call (by rfl) 74 _ _ (by rfl) enters_ins _ (by simp [Act.eval]) HC.out ?_; rintro e w5 ⟨g', c', rfl, ho, hgr⟩; refine ⟨_, rfl, ?_⟩; have HG5 := Lib.hid (HG4.out.far hgr HAp.out); have HO5 := Lib.hid ho; have HF5 := Lib.hid hgr; obtain ⟨⟨_, _, _, _, _, g5⟩, f5⟩ := HG5.out.cells; clear ho hgr HC))
    all_goals go_wp2_with fail
    all_goals go_end0
    all_goals exact ⟨⟨_, rfl⟩, _, HG5.out.put _, own_far (E := lsE) HO5.out ⟨gb, 5, none⟩ (by have := HGa.out _ _ _ HO5.out HG5.out; simpa [Value.ownBlock] using this) _, far_mk ((grown_below HB4.out).trans HF5.out) hgw _ rfl⟩
end Go.Proofs.YtiiankekobgebaaGreatDoor

namespace Go.Proofs.YtiiankekobgebaaGreatDoor
open Go.RowKit Go.Shelf

/-- Are two addresses the same? -/
def sameA (x y : Ad) : Bool := (x.v == y.v) && ((x.hi == y.hi) && (x.lo == y.lo))
theorem sameA_iff (x y : Ad) : sameA x y = true ↔ x = y := by
  unfold sameA
  simp only [Bool.and_eq_true, beq_iff_eq]
  constructor
  · rintro ⟨a, b, c⟩; exact Ad.same a b c
  · rintro rfl; exact ⟨rfl, rfl, rfl⟩
theorem sameA_run (w : World) (x y : Ad) : (binOp .eql 24 (.agg #[.bool x.v, .int .u64 x.hi, .int .u64 x.lo]) (.agg #[.bool y.v, .int .u64 y.hi, .int .u64 y.lo])).run Tryz.prog w = .ok (.bool (sameA x y)) w := by
  unfold sameA
  generalize x.v = v
  generalize x.hi = hi
  generalize x.lo = lo
  generalize y.v = v'
  generalize y.hi = hi'
  generalize y.lo = lo'
  cases h1 : v == v' <;> cases h2 : hi == hi' <;> cases h3 : lo == lo' <;> simp [go_sem, h1, h2, h3]
theorem idx_any {α : Type} (f : α → Bool) (l : List α) : decide ((0 : Int) ≤ idxI (l.findIdx? f)) = l.any f := by
  cases h : l.findIdx? f with
  | none =>
    have := List.findIdx?_eq_none_iff.1 h
    rw [show l.any f = false from List.any_eq_false.2 fun x hx => by rw [this x hx]; simp]
    rfl
  | some i =>
    obtain ⟨hi, hp, _⟩ := List.findIdx?_eq_some_iff_getElem.1 h
    rw [show l.any f = true from List.any_eq_true.2 ⟨_, List.getElem_mem hi, hp⟩]
    simp [idxI]
theorem keepI {W W' : World} {g o q : Nat} {x0 x1 x2 y0 y1 y2 : Value}
    (h : (W.cell? ⟨g, o, none⟩ = some x0 ∧ W.cell? ⟨g, o + 1, none⟩ = some x1 ∧ W.cell? ⟨g, o + 2, none⟩ = some x2) ∧ (W.cell? ⟨q, 0, none⟩ = some y0 ∧ W.cell? ⟨q, 1, none⟩ = some y1 ∧ W.cell? ⟨q, 2, none⟩ = some y2)) (e : W' = W.drew) :
    (W'.cell? ⟨g, o, none⟩ = some x0 ∧ W'.cell? ⟨g, o + 1, none⟩ = some x1 ∧ W'.cell? ⟨g, o + 2, none⟩ = some x2) ∧ (W'.cell? ⟨q, 0, none⟩ = some y0 ∧ W'.cell? ⟨q, 1, none⟩ = some y1 ∧ W'.cell? ⟨q, 2, none⟩ = some y2) := by
  subst e
  exact h

set_option maxHeartbeats 8000000 in
set_option maxRecDepth 100000 in
theorem idxA_any (a : Option Addr) (c : Nat) (l : List Ad) (x : Ad) (w : World) (hl : l.length ≤ 1000) (hs : Lies adE w a l) :
    Calls Tryz.prog 88 #[.slice a l.length c, .agg #[.bool x.v, .int .u64 x.hi, .int .u64 x.lo]] w fun e w' => e = .returned (.int .i64 (idxI (l.findIdx? (sameA x)))) ∧ Below w.heap.size w w' := by
  have HX0 := Lib.hid (Has3.new w (.bool x.v) (.int .u64 x.hi) (.int .u64 x.lo) 24)
  have HB0 := Lib.hid (bal (Below.refl w.heap.size w) (.cells #[.bool x.v, .int .u64 x.hi, .int .u64 x.lo] 24))
  have HL := Lib.hid hs
  obtain ⟨R, hR⟩ : ∃ R, R = idxI (l.findIdx? (sameA x)) := ⟨_, rfl⟩
  rw [← hR]
  have HR := Lib.hid hR
  obtain ⟨N, hN⟩ : ∃ N, N = l.length := ⟨_, rfl⟩
  rw [← hN] at hl ⊢
  have HN := Lib.hid hN
  have hEq : Hid (∀ (W : World) (y : Ad), (binOp .eql 24 (.agg #[.bool x.v, .int .u64 x.hi, .int .u64 x.lo]) (.agg #[.bool y.v, .int .u64 y.hi, .int .u64 y.lo])).run Tryz.prog W = .ok (.bool (sameA x y)) W) := fun W y => sameA_run W x y
  clear hs hR hN
  generalize hxv : x.v = v at *
  generalize hxh : x.hi = hi at *
  generalize hxl : x.lo = lo at *
  clear hxv hxh hxl
  go_enter Tryz.func88, Tryz.ntmps88
  go_wp2_with fail
  go_loopw [8] (fun vi wr => ∃ k : Nat, vi = .int .i64 k ∧ k ≤ N ∧ Hid (Has3 wr w.heap.size (.bool v) (.int .u64 hi) (.int .u64 lo)) ∧ Hid (Below w.heap.size w wr) ∧ Hid (∀ j (hj : j < k) (hl : j < l.length), sameA x l[j] = false))
    (fun vi _ => N - (intOf vi).toNat)
  case atStart => exact ⟨0, rfl, Nat.zero_le _, HX0, HB0, fun j hj => absurd hj (Nat.not_lt_zero _)⟩
  case round =>
    clear HX0 HB0
    obtain ⟨k, rfl, hk, HX, HB, hh⟩ := hrel
    by_cases hkN : k < N
    · have hkl : k < l.length := by have := HN.out; omega
      obtain ⟨g, o, rfl, hg, c0, c1, c2⟩ := HL.out.ad k hkl
      rw [← (bcell HB.out).1 _ _ hg] at c0 c1 c2
      have hkz : (k : Int) < (N : Int) := by omega
      have hk0 : (0 : Int) ≤ (k : Int) := by omega
      have HQ : Hid (∀ b, sameA x l[k] = b → (b = true → R = k) ∧ (b = false → ∀ j (hj : j < k + 1) (hl : j < l.length), sameA x l[j] = false)) := by
        intro b hb
        refine ⟨fun e => ?_, fun e j hj hl => ?_⟩
        · rw [HR.out, find_hit hkl (hb.trans e) (fun j hj => hh.out j hj (by omega))]; rfl
        · by_cases hjk : j = k
          · subst hjk; exact hb.trans e
          · exact hh.out j (by omega) hl
      have hEk := fun W => hEq.out W l[k]
      have HSd := Lib.hid (keepI (W := wr) ⟨⟨c0, c1, c2⟩, ⟨HX.out.1, HX.out.2.1, HX.out.2.2.1⟩⟩ rfl)
      have HQ2 := Lib.hid (HQ.out _ rfl)
      generalize sameA x l[k] = q at *
      generalize l[k].v = v' at *
      generalize l[k].hi = hi' at *
      generalize l[k].lo = lo' at *
      clear hh hg c0 c1 c2 HQ
      cases q
      · have HE := Lib.hid (HQ2.out.2 rfl)
        clear HQ2
        go_wp2_with fail
        go_region_held3 (fun w' => (w'.cell? ⟨g, o + k * 3, none⟩ = some (.bool v') ∧ w'.cell? ⟨g, o + k * 3 + 1, none⟩ = some (.int .u64 hi') ∧ w'.cell? ⟨g, o + k * 3 + 2, none⟩ = some (.int .u64 lo')) ∧ (w'.cell? ⟨w.heap.size, 0, none⟩ = some (.bool v) ∧ w'.cell? ⟨w.heap.size, 1, none⟩ = some (.int .u64 hi) ∧ w'.cell? ⟨w.heap.size, 2, none⟩ = some (.int .u64 lo)))
          (first | with_reducible exact HSd.out | fail) (fail)
        go_wp2_with fail
        go_roundw
        case rel => exact ⟨k + 1, by go_num, by omega, HX.out.drew, HB.out.drew, HE⟩
        case measure => simp [intOf]; omega
      · have HE := Lib.hid (HQ2.out.1 rfl)
        clear HQ2
        go_wp2_with fail
        go_region_held3 (fun w' => (w'.cell? ⟨g, o + k * 3, none⟩ = some (.bool v') ∧ w'.cell? ⟨g, o + k * 3 + 1, none⟩ = some (.int .u64 hi') ∧ w'.cell? ⟨g, o + k * 3 + 2, none⟩ = some (.int .u64 lo')) ∧ (w'.cell? ⟨w.heap.size, 0, none⟩ = some (.bool v) ∧ w'.cell? ⟨w.heap.size, 1, none⟩ = some (.int .u64 hi) ∧ w'.cell? ⟨w.heap.size, 2, none⟩ = some (.int .u64 lo)))
          (first | with_reducible exact HSd.out | fail) (fail)
        go_wp2_with fail
        go_ret
        exact ⟨congrArg (fun r => Ending.returned (Value.int .i64 r)) HE.out.symm, HB.out.drew⟩
    · obtain rfl : k = N := by omega
      have hkk : ¬ (k : Int) < (k : Int) := by omega
      have HE : Hid (R = -1) := by rw [Hid, HR.out, find_miss (fun j hj => hh.out j (by have := HN.out; omega) hj)]; rfl
      clear hh
      go_wp2_with fail
      go_ret
      exact ⟨congrArg (fun r => Ending.returned (Value.int .i64 r)) HE.out.symm, HB.out⟩

set_option maxHeartbeats 4000000 in
theorem conA_any (a : Option Addr) (c : Nat) (l : List Ad) (x : Ad) (w : World) (hl : l.length ≤ 1000) (hs : Lies adE w a l) :
    Calls Tryz.prog 71 #[.slice a l.length c, .agg #[.bool x.v, .int .u64 x.hi, .int .u64 x.lo]] w fun e w' => e = .returned (.bool (l.any (sameA x))) ∧ Below w.heap.size w w' := by
  have HB0 := Lib.hid (bal (Below.refl w.heap.size w) (.cells #[.bool x.v, .int .u64 x.hi, .int .u64 x.lo] 24))
  have HI := Lib.hid (idxA_any a c l x _ hl (hs.below HB0.out))
  have HE := Lib.hid (idx_any (sameA x) l)
  generalize idxI (l.findIdx? (sameA x)) = ix at *
  generalize l.any (sameA x) = R at *
  generalize l.length = N at *
  generalize x.v = v at *
  generalize x.hi = hi at *
  generalize x.lo = lo at *
  clear hs
  go_enter Tryz.func71, Tryz.ntmps71
  go_wp2_with fail
  refine HI.out.mono ?_
  rintro e w2 ⟨rfl, hb⟩
  have HB2 := Lib.hid (btr HB0.out hb)
  clear hb
  go_wp2
  go_ret
  exact ⟨congrArg (fun r => Ending.returned (Value.bool r)) HE.out, HB2.out⟩
set_option maxHeartbeats 4000000 in
theorem conL_any (a : Option Addr) (c : Nat) (l : List Ls) (w : World) (f : Nat) (lb : Array Value) (p : Ls → Bool) (hl : l.length ≤ 1000) (hs : Lies lsE w a l) (ef : ∀ args w, (callFunc f args).run Tryz.prog w = .ok (.enter f args) w)
    (hp : ∀ (W : World) (x : Ls), x ∈ l → Below w.heap.size w W → Calls Tryz.prog f (#[.agg #[.bool x.a.v, .int .u64 x.a.hi, .int .u64 x.a.lo, .string x.who, .int .i64 x.un]] ++ lb) W fun e w' => e = .returned (.bool (p x)) ∧ Below w.heap.size w w') :
    Calls Tryz.prog 72 #[.slice a l.length c, .func (.func f) #[] lb] w fun e w' => e = .returned (.bool (l.any p)) ∧ Below w.heap.size w w' := by
  have HI := Lib.hid (ifnL_any a c l w f lb p hl hs ef hp)
  have HE := Lib.hid (idx_any p l)
  generalize idxI (l.findIdx? p) = ix at *
  generalize l.any p = R at *
  generalize l.length = N at *
  clear hs hp
  go_enter Tryz.func72, Tryz.ntmps72
  go_wp2_with fail
  refine HI.out.mono ?_
  rintro e w2 ⟨rfl, hb⟩
  have HB2 := Lib.hid hb
  clear hb
  go_wp2
  go_ret
  exact ⟨congrArg (fun r => Ending.returned (Value.bool r)) HE.out, HB2.out⟩
theorem first1_any (q : Nat) (x : Ad) (y : Ls) (w : World) (hq : Has3 w q (.bool x.v) (.int .u64 x.hi) (.int .u64 x.lo)) :
    Calls Tryz.prog 70 #[.agg #[.bool y.a.v, .int .u64 y.a.hi, .int .u64 y.a.lo, .string y.who, .int .i64 y.un], .pointer (some ⟨q, 0, none⟩)] w fun e w' => e = .returned (.bool (sameA y.a x)) ∧ Below w.heap.size w w' := by
  have HB := Lib.hid (bal (Below.refl w.heap.size w) (.cells #[.bool y.a.v, .int .u64 y.a.hi, .int .u64 y.a.lo, .string y.who, .int .i64 y.un] 39))
  obtain ⟨q0, q1, q2, q3⟩ := hq.alloc (.cells #[.bool y.a.v, .int .u64 y.a.hi, .int .u64 y.a.lo, .string y.who, .int .i64 y.un] 39)
  have hE := fun W => sameA_run W y.a x
  generalize sameA y.a x = r at *
  generalize x.v = v at *
  generalize x.hi = hi at *
  generalize x.lo = lo at *
  generalize y.a.v = u at *
  generalize y.a.hi = yi at *
  generalize y.a.lo = yo at *
  generalize y.who = who at *
  generalize y.un = un at *
  clear hq
  go_enter Tryz.func70, Tryz.ntmps70
  go_wp2
  go_ret
  exact ⟨rfl, HB.out⟩
theorem grant1_any (q : Nat) (s : ByteArray) (y : Ls) (w : World) (hq : w.cell? ⟨q, 0, none⟩ = some (.string s)) (hlt : q < w.heap.size) :
    Calls Tryz.prog 54 #[.agg #[.bool y.a.v, .int .u64 y.a.hi, .int .u64 y.a.lo, .string y.who, .int .i64 y.un], .pointer (some ⟨q, 0, none⟩)] w fun e w' => e = .returned (.bool (y.who.toList == s.toList)) ∧ Below w.heap.size w w' := by
  have HB := Lib.hid (bal (Below.refl w.heap.size w) (.cells #[.bool y.a.v, .int .u64 y.a.hi, .int .u64 y.a.lo, .string y.who, .int .i64 y.un] 39))
  have hq' : (w.alloc (.cells #[.bool y.a.v, .int .u64 y.a.hi, .int .u64 y.a.lo, .string y.who, .int .i64 y.un] 39)).cell? ⟨q, 0, none⟩ = some (.string s) := by rw [(bcell HB.out).1 _ _ hlt]; exact hq
  generalize y.a.v = u at *
  generalize y.a.hi = yi at *
  generalize y.a.lo = yo at *
  generalize y.who = who at *
  generalize y.un = un at *
  clear hq
  go_enter Tryz.func54, Tryz.ntmps54
  go_wp2
  go_ret
  exact ⟨rfl, HB.out⟩
end Go.Proofs.YtiiankekobgebaaGreatDoor

namespace Go.Proofs.YtiiankekobgebaaGreatDoor
open Go.RowKit

/-- The address of a kind that a number tells. -/
def adOf (v : Bool) (n : Int) : Ad := ⟨v, n / 18446744073709551616 % 18446744073709551616, n % 18446744073709551616, ⟨⟨by omega, by omega⟩, by omega, by omega⟩⟩
def Ad.n (x : Ad) : Int := num x.hi x.lo
theorem top_le (v : Bool) : top v ≤ 340282366920938463463374607431768211456 := by cases v <;> decide
theorem adOf_n {v : Bool} {n : Int} (h0 : 0 ≤ n) (h1 : n < top v) : (adOf v n).n = n := by
  have := top_le v
  unfold Ad.n adOf num
  simp only
  omega
theorem adOf_chk {v : Bool} {n : Int} (h0 : 0 ≤ n) (h1 : n < top v) : chk (adOf v n).v (adOf v n).hi (adOf v n).lo = 0 := by
  refine chk_top (adOf v n).ok.1.1 (adOf v n).ok.2.1 ?_
  have := adOf_n h0 h1
  unfold Ad.n at this
  rw [this]
  exact h1
theorem Ad.n_top {x : Ad} (c : chk x.v x.hi x.lo = 0) : 0 ≤ x.n ∧ x.n < top x.v := num_top c x.ok.1.1 x.ok.1.2 x.ok.2.1 x.ok.2.2
theorem ad_same {x y : Ad} (hv : x.v = y.v) (hn : x.n = y.n) : x = y := by
  obtain ⟨a, b⟩ := num_inj x.ok.2.1 x.ok.2.2 y.ok.2.1 y.ok.2.2 hn
  exact Ad.same hv a b
theorem adOf_self {x : Ad} (c : chk x.v x.hi x.lo = 0) : adOf x.v x.n = x := ad_same rfl (adOf_n (Ad.n_top c).1 (Ad.n_top c).2)
theorem adOf_inj {v : Bool} {n m : Int} (h0 : 0 ≤ n) (h1 : n < top v) (g0 : 0 ≤ m) (g1 : m < top v) (h : adOf v n = adOf v m) : n = m := by
  have := congrArg Ad.n h
  rw [adOf_n h0 h1, adOf_n g0 g1] at this
  exact this
/-- How many addresses a prefix has. -/
def Pf.many (p : Pf) : Nat := (amt p.v p.b).toNat
theorem Pf.many_amt {p : Pf} : (p.many : Int) = amt p.v p.b := by
  have := amt_pos p.v p.b
  unfold Pf.many; omega
theorem Pf.n_top {p : Pf} (r : p.R) : 0 ≤ p.n ∧ p.n + amt p.v p.b ≤ top p.v := by
  have h := num_top r.c r.h0 r.h1 r.l0 r.l1
  have := step_le (amt_pos p.v p.b) r.al (m := top p.v) (by rw [top_amt p.v p.b r.b0 r.b1]; exact Int.mul_emod_right _ _) h.2
  exact ⟨h.1, this⟩
/-- The addresses of a prefix, rising. -/
def addrs (p : Pf) : List Ad := (List.range p.many).map (fun i : Nat => adOf p.v (p.n + i))
theorem addrs_len (p : Pf) : (addrs p).length = p.many := by simp [addrs]
theorem addrs_at (p : Pf) (i : Nat) (h : i < p.many) : (addrs p)[i]'(by rw [addrs_len]; exact h) = adOf p.v (p.n + i) := by simp [addrs]
theorem many_pos (p : Pf) : 0 < p.many := by
  have := amt_pos p.v p.b
  unfold Pf.many; omega
theorem many_narrow {p : Pf} (r : p.R) (h : wideB p.v p.b = false) : p.many ≤ 16 := by
  unfold wideB at h
  have h4 : wid p.v - p.b ≤ 4 := by simpa using h
  have b1 := r.b1
  unfold Pf.many amt
  have : (wid p.v - p.b).toNat ≤ 4 := by omega
  have h5 : (2 : Nat) ^ (wid p.v - p.b).toNat ≤ 2 ^ 4 := Nat.pow_le_pow_right (by decide) this
  have h6 : ((2 : Int) ^ (wid p.v - p.b).toNat).toNat = (2 : Nat) ^ (wid p.v - p.b).toNat := (congrArg Int.toNat (pow_cast (wid p.v - p.b).toNat)).symm.trans (Int.toNat_natCast _)
  rw [h6]
  omega
/-- The first one, the last one, the next one. -/
theorem first_ad {p : Pf} (r : p.R) : (adOf p.v p.n).v = p.v ∧ (adOf p.v p.n).hi = p.hi ∧ (adOf p.v p.n).lo = p.lo := by
  obtain ⟨h0, h1⟩ := Pf.n_top r
  have := adOf_n (v := p.v) h0 (by have := amt_pos p.v p.b; omega)
  obtain ⟨a, b⟩ := num_inj (adOf p.v p.n).ok.2.1 (adOf p.v p.n).ok.2.2 r.l0 r.l1 this
  exact ⟨rfl, a, b⟩
theorem last_ad {p : Pf} (r : p.R) : (adOf p.v (p.n + amt p.v p.b - 1)).hi = laH p.v p.hi p.b ∧ (adOf p.v (p.n + amt p.v p.b - 1)).lo = laL p.v p.lo p.b := by
  obtain ⟨h0, h1⟩ := Pf.n_top r
  have hp := amt_pos p.v p.b
  obtain ⟨n1, _, _, l1⟩ := la_num r
  have := adOf_n (v := p.v) (n := p.n + amt p.v p.b - 1) (by omega) (by omega)
  exact num_inj (adOf p.v (p.n + amt p.v p.b - 1)).ok.2.1 (adOf p.v (p.n + amt p.v p.b - 1)).ok.2.2 l1.1 l1.2 (this.trans n1.symm)
theorem next_ad {v : Bool} {n : Int} (h0 : 0 ≤ n) (h1 : n + 1 < top v) : nxV v (adOf v n).hi (adOf v n).lo = v ∧ nxH v (adOf v n).hi (adOf v n).lo = (adOf v (n + 1)).hi ∧ nxL v (adOf v n).hi (adOf v n).lo = (adOf v (n + 1)).lo ∧ nxB v (adOf v n).hi (adOf v n).lo = true := by
  have c := adOf_chk (v := v) h0 (by omega)
  have c' : chk v (adOf v n).hi (adOf v n).lo = 0 := c
  have e := adOf_n (v := v) h0 (by omega)
  have e1 := adOf_n (v := v) (n := n + 1) (by omega) h1
  have ht : top true = 340282366920938463463374607431768211456 := by decide
  have hf : top false = 4294967296 := by decide
  have hl : isLast v (adOf v n).hi (adOf v n).lo = false := by
    rw [Bool.eq_false_iff]
    intro hl
    simp only [isLast, eqA, beq_self_eq_true, Bool.true_and, Bool.and_eq_true, beq_iff_eq] at hl
    unfold Ad.n num at e
    rw [hl.1, hl.2] at e
    cases v
    · simp [mxH, mxL] at e; omega
    · simp [mxH, mxL] at e; omega
  have k := (adOf v n).ok
  have k1 := (adOf v (n + 1)).ok
  have hv : (adOf v n).v = v := rfl
  unfold nxV nxH nxL nxB
  rw [if_pos ⟨c', hl⟩, if_pos ⟨c', hl⟩, if_pos ⟨c', hl⟩, if_pos ⟨c', hl⟩]
  unfold Ad.n num at e e1
  refine ⟨rfl, ?_, ?_, rfl⟩
  · omega
  · omega
/-- What a prefix has is what stands from its first address to its last one. -/
theorem inA_num {p : Pf} (r : p.R) {x : Ad} (c : chk x.v x.hi x.lo = 0) : p.inA x.v x.hi x.lo = true ↔ x.v = p.v ∧ p.n ≤ x.n ∧ x.n < p.n + amt p.v p.b := by
  have q := host_right c x.ok.1.1 x.ok.1.2 x.ok.2.1 x.ok.2.2
  have b1 := r.b1
  rw [in_has r q, has_iff r (show Pf.R ⟨x.v, x.hi, x.lo, wid x.v⟩ from q)]
  constructor
  · rintro ⟨_, b, c, d⟩; exact ⟨b, c, d⟩
  · rintro ⟨a, b, c⟩
    exact ⟨by rw [a]; exact b1, a, b, c⟩
end Go.Proofs.YtiiankekobgebaaGreatDoor
