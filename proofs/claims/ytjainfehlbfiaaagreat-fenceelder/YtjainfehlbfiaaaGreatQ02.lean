/- Package lease: leases as plain words, right, look, Pool, Check, Drop. -/
import Derived.Test.YtjainfehlbfiaaaGreatQ01
import Derived.Lib.SliceRun
import Derived.Shelf.Abstract
import Derived.Maps.OwnSet
import Derived.Maps.Views
import Derived.StringKeys
set_option linter.unusedVariables false
set_option linter.unusedSimpArgs false
namespace Go.Proofs.YtjainfehlbfiaaaGreat
open Go.RowKit

/-- An address whose halves are words. -/
structure Ad where
  v : Bool
  hi : Int
  lo : Int
  ok : (0 ≤ hi ∧ hi < 18446744073709551616) ∧ (0 ≤ lo ∧ lo < 18446744073709551616)
/-- A lease. -/
structure Ls where
  a : Ad
  who : ByteArray
  un : Int
theorem Ad.same {x y : Ad} (h0 : x.v = y.v) (h1 : x.hi = y.hi) (h2 : x.lo = y.lo) : x = y := by
  cases x; cases y; simp at h0 h1 h2; subst h0; subst h1; subst h2; rfl
def adE : Enc Ad := ⟨3, fun x => [.bool x.v, .int .u64 x.hi, .int .u64 x.lo], by decide, fun _ => rfl, fun x u hu => by simp at hu; rcases hu with rfl | rfl | rfl <;> rfl⟩
def lsE : Enc Ls := ⟨5, fun x => [.bool x.a.v, .int .u64 x.a.hi, .int .u64 x.a.lo, .string x.who, .int .i64 x.un], by decide, fun _ => rfl, fun x u hu => by simp at hu; rcases hu with rfl | rfl | rfl | rfl | rfl <;> rfl⟩
theorem Lies.ad {w : World} {a : Option Addr} {l : List Ad} (h : Lies adE w a l) (j : Nat) (hj : j < l.length) : ∃ g o : Nat, a = some ⟨g, o, none⟩ ∧ g < w.heap.size ∧ w.cell? ⟨g, o + j * 3, none⟩ = some (.bool l[j].v) ∧ w.cell? ⟨g, o + j * 3 + 1, none⟩ = some (.int .u64 l[j].hi) ∧ w.cell? ⟨g, o + j * 3 + 2, none⟩ = some (.int .u64 l[j].lo) := by
  obtain ⟨g, o, e, hg, c⟩ := h j hj
  exact ⟨g, o, e, hg, c 0 _ rfl, c 1 _ rfl, c 2 _ rfl⟩
theorem Lies.ls {w : World} {a : Option Addr} {l : List Ls} (h : Lies lsE w a l) (j : Nat) (hj : j < l.length) : ∃ g o : Nat, a = some ⟨g, o, none⟩ ∧ g < w.heap.size ∧ w.cell? ⟨g, o + j * 5, none⟩ = some (.bool l[j].a.v) ∧ w.cell? ⟨g, o + j * 5 + 1, none⟩ = some (.int .u64 l[j].a.hi) ∧ w.cell? ⟨g, o + j * 5 + 2, none⟩ = some (.int .u64 l[j].a.lo) ∧ w.cell? ⟨g, o + j * 5 + 3, none⟩ = some (.string l[j].who) ∧ w.cell? ⟨g, o + j * 5 + 4, none⟩ = some (.int .i64 l[j].un) := by
  obtain ⟨g, o, e, hg, c⟩ := h j hj
  exact ⟨g, o, e, hg, c 0 _ rfl, c 1 _ rfl, c 2 _ rfl, c 3 _ rfl, c 4 _ rfl⟩

/-- Five cells of a variable. -/
def Has5 (w : World) (p : Nat) (x0 x1 x2 x3 x4 : Value) : Prop := w.cell? ⟨p, 0, none⟩ = some x0 ∧ w.cell? ⟨p, 1, none⟩ = some x1 ∧ w.cell? ⟨p, 2, none⟩ = some x2 ∧ w.cell? ⟨p, 3, none⟩ = some x3 ∧ w.cell? ⟨p, 4, none⟩ = some x4 ∧ p < w.heap.size
theorem Has5.below {W w' : World} {p : Nat} {x0 x1 x2 x3 x4 : Value} (h : Has5 W p x0 x1 x2 x3 x4) (hb : Below W.heap.size W w') : Has5 w' p x0 x1 x2 x3 x4 := by
  obtain ⟨a, b, c, d, e, f⟩ := h
  obtain ⟨h1, _⟩ := bcell hb
  exact ⟨by rw [h1 _ _ f]; exact a, by rw [h1 _ _ f]; exact b, by rw [h1 _ _ f]; exact c, by rw [h1 _ _ f]; exact d, by rw [h1 _ _ f]; exact e, Nat.lt_of_lt_of_le f hb.size⟩
theorem Has5.new (W : World) (x0 x1 x2 x3 x4 : Value) (t : Nat) : Has5 (W.alloc (.cells #[x0, x1, x2, x3, x4] t)) W.heap.size x0 x1 x2 x3 x4 := by
  refine ⟨?_, ?_, ?_, ?_, ?_, ?_⟩
  · simp [go_sem]
  · simp [go_sem]
  · simp [go_sem]
  · simp [go_sem]
  · simp [go_sem]
  · simp
theorem Has5.alloc {W : World} {p : Nat} {x0 x1 x2 x3 x4 : Value} (h : Has5 W p x0 x1 x2 x3 x4) (o : Obj) : Has5 (W.alloc o) p x0 x1 x2 x3 x4 := h.below (bal (Below.refl _ _) _)

/-- What is wrong with a lease. -/
def Ls.rgt (x : Ls) : Int := if chk x.a.v x.a.hi x.a.lo = 0 then (if whoB x.who = true then (if x.un < 0 ∨ 10499 < x.un then 3 else 0) else 1) else chk x.a.v x.a.hi x.a.lo

set_option maxHeartbeats 8000000 in
theorem lright_any (x : Ls) (w : World) : Calls Tryz.prog 106 #[.agg #[.bool x.a.v, .int .u64 x.a.hi, .int .u64 x.a.lo, .string x.who, .int .i64 x.un]] w fun e w' => e = .returned (.int .i64 x.rgt) ∧ Below w.heap.size w w' := by
  have hA : Hid (∀ w : World, Calls Tryz.prog 36 #[.agg #[.bool x.a.v, .int .u64 x.a.hi, .int .u64 x.a.lo]] w fun e w' => e = .returned (.int .i64 (chk x.a.v x.a.hi x.a.lo)) ∧ ∃ c, w' = w.alloc (.cells c 29)) := fun w => check_any x.a.v x.a.hi x.a.lo w x.a.ok.1.1 x.a.ok.2.1
  have hN : Hid (∀ w : World, Calls Tryz.prog 38 #[.string x.who] w fun e w' => e = .returned (.bool (whoB x.who)) ∧ w' = w) := fun w => nright_any x.who w
  have HP := Lib.hid (Has5.new w (.bool x.a.v) (.int .u64 x.a.hi) (.int .u64 x.a.lo) (.string x.who) (.int .i64 x.un) 106)
  have HB := Lib.hid (bal (Below.refl w.heap.size w) (.cells #[.bool x.a.v, .int .u64 x.a.hi, .int .u64 x.a.lo, .string x.who, .int .i64 x.un] 106))
  unfold Ls.rgt
  generalize x.a.v = v at *
  generalize x.a.hi = hi at *
  generalize x.a.lo = lo at *
  generalize x.who = who at *
  generalize x.un = un at *
  generalize chk v hi lo = r at *
  generalize whoB who = b at *
  by_cases hr : r = 0
  · subst hr
    rw [if_pos rfl]
    cases b
    · rw [if_neg (by decide)]
      go_enter Tryz.func106, Tryz.ntmps106
      go_wp2_with fail
      refine (hA.out _).mono ?_
      rintro e w2 ⟨rfl, c, rfl⟩
      obtain ⟨p0, p1, p2, p3, p4, p5⟩ := HP.out.alloc (.cells c 29)
      go_wp2_with (go_at_call 38; refine (hN.out _).mono ?_; rintro e w3 ⟨rfl, rfl⟩)
      go_ret
      exact ⟨rfl, bal HB.out _⟩
    · rw [if_pos rfl]
      by_cases h0 : un < 0
      · rw [if_pos (.inl h0)]
        go_enter Tryz.func106, Tryz.ntmps106
        go_wp2_with fail
        refine (hA.out _).mono ?_
        rintro e w2 ⟨rfl, c, rfl⟩
        obtain ⟨p0, p1, p2, p3, p4, p5⟩ := HP.out.alloc (.cells c 29)
        go_wp2_with (go_at_call 38; refine (hN.out _).mono ?_; rintro e w3 ⟨rfl, rfl⟩)
        go_ret
        exact ⟨rfl, bal HB.out _⟩
      · have d0 : decide (un < 0) = false := decide_eq_false h0
        by_cases h1 : 10499 < un
        · rw [if_pos (.inr h1)]
          go_enter Tryz.func106, Tryz.ntmps106
          go_wp2_with fail
          refine (hA.out _).mono ?_
          rintro e w2 ⟨rfl, c, rfl⟩
          obtain ⟨p0, p1, p2, p3, p4, p5⟩ := HP.out.alloc (.cells c 29)
          go_wp2_with (go_at_call 38; refine (hN.out _).mono ?_; rintro e w3 ⟨rfl, rfl⟩)
          go_ret
          exact ⟨rfl, bal HB.out _⟩
        · have d1 : decide (10499 < un) = false := decide_eq_false h1
          rw [if_neg (by omega)]
          go_enter Tryz.func106, Tryz.ntmps106
          go_wp2_with fail
          refine (hA.out _).mono ?_
          rintro e w2 ⟨rfl, c, rfl⟩
          obtain ⟨p0, p1, p2, p3, p4, p5⟩ := HP.out.alloc (.cells c 29)
          go_wp2_with (go_at_call 38; refine (hN.out _).mono ?_; rintro e w3 ⟨rfl, rfl⟩)
          go_ret
          exact ⟨rfl, bal HB.out _⟩
  · rw [if_neg hr]
    have hI : (r != 0) = true := by rw [bne_iff_ne]; exact hr
    clear hr
    go_enter Tryz.func106, Tryz.ntmps106
    go_wp2_with fail
    refine (hA.out _).mono ?_
    rintro e w2 ⟨rfl, c, rfl⟩
    go_wp2
    go_ret
    exact ⟨rfl, bal HB.out _⟩
end Go.Proofs.YtjainfehlbfiaaaGreat

namespace Go.Proofs.YtjainfehlbfiaaaGreat
open Go.RowKit

def Ad.less (x y : Ad) : Bool := lessB x.v x.hi x.lo y.v y.hi y.lo
/-- The first lease of which something is wrong tells. -/
def rgtAll : List Ls → Int
  | [] => 0
  | x :: r => if x.rgt = 0 then rgtAll r else x.rgt
def rises : List Ls → Bool
  | [] => true
  | [_] => true
  | x :: y :: r => x.a.less y.a && rises (y :: r)
def lookL (l : List Ls) (now : Int) : Int := if 20 < l.length then 2 else if rgtAll l = 0 then (if rises l = true then (if now < 0 ∨ 9999 < now then 3 else 0) else 4) else rgtAll l
theorem rises_at (l : List Ls) (m : Nat) (h : m + 1 < l.length) : rises (l.drop m) = (l[m].a.less l[m + 1].a && rises (l.drop (m + 1))) := by
  rw [List.drop_eq_getElem_cons (show m < l.length by omega), List.drop_eq_getElem_cons (show m + 1 < l.length from h), rises]
theorem rises_end (l : List Ls) (m : Nat) (h : l.length ≤ m + 1) : rises (l.drop m) = true := by
  match e : l.drop m with
  | [] => rfl
  | [_] => rfl
  | x :: y :: r =>
    have := congrArg List.length e
    simp at this
    omega
theorem keepA33 {w W W' : World} {g a b : Nat} {x0 x1 x2 y0 y1 y2 : Value}
    (h : (W.cell? ⟨g, a, none⟩ = some x0 ∧ W.cell? ⟨g, a + 1, none⟩ = some x1 ∧ W.cell? ⟨g, a + 2, none⟩ = some x2) ∧ (W.cell? ⟨g, b, none⟩ = some y0 ∧ W.cell? ⟨g, b + 1, none⟩ = some y1 ∧ W.cell? ⟨g, b + 2, none⟩ = some y2) ∧ g < W.heap.size ∧ Below w.heap.size w W) (hb : Below W.heap.size W W') :
    (W'.cell? ⟨g, a, none⟩ = some x0 ∧ W'.cell? ⟨g, a + 1, none⟩ = some x1 ∧ W'.cell? ⟨g, a + 2, none⟩ = some x2) ∧ (W'.cell? ⟨g, b, none⟩ = some y0 ∧ W'.cell? ⟨g, b + 1, none⟩ = some y1 ∧ W'.cell? ⟨g, b + 2, none⟩ = some y2) ∧ g < W'.heap.size ∧ Below w.heap.size w W' := by
  obtain ⟨⟨a0, a1, a2⟩, ⟨b0, b1, b2⟩, hg, hw⟩ := h
  have k := (bcell hb).1
  exact ⟨⟨by rw [k _ _ hg]; exact a0, by rw [k _ _ hg]; exact a1, by rw [k _ _ hg]; exact a2⟩, ⟨by rw [k _ _ hg]; exact b0, by rw [k _ _ hg]; exact b1, by rw [k _ _ hg]; exact b2⟩, Nat.lt_of_lt_of_le hg hb.size, btr hw hb⟩

set_option maxHeartbeats 16000000 in
set_option maxRecDepth 100000 in
theorem llook_any (a : Option Addr) (c : Nat) (l : List Ls) (now : Int) (w : World) (hs : Lies lsE w a l) :
    Calls Tryz.prog 86 #[.slice a l.length c, .int .i64 now] w fun e w' => e = .returned (.int .i64 (lookL l now)) ∧ Below w.heap.size w w' := by
  by_cases hl : 20 < l.length
  · rw [show lookL l now = 2 by simp [lookL, hl]]
    have hl' : (20 : Int) < (l.length : Int) := by omega
    generalize l.length = N at *
    go_enter Tryz.func86, Tryz.ntmps86
    go_wp2
    go_ret
    exact ⟨rfl, Below.refl _ _⟩
  rw [show lookL l now = if rgtAll l = 0 then (if rises l = true then (if now < 0 ∨ 9999 < now then 3 else 0) else 4) else rgtAll l by simp [lookL, hl]]
  obtain ⟨N, hN⟩ : ∃ N, N = l.length := ⟨_, rfl⟩
  rw [← hN] at hl ⊢
  have hN20 : N ≤ 20 := by omega
  have hd20 : decide ((20 : Int) < (N : Int)) = false := decide_eq_false (by omega)
  have HN : Hid (N = l.length) := hN
  have HL := Lib.hid hs
  obtain ⟨R, hR⟩ : ∃ R, R = if rgtAll l = 0 then (if rises l = true then (if now < 0 ∨ 9999 < now then 3 else 0) else 4) else rgtAll l := ⟨_, rfl⟩
  rw [← hR]
  have HR := Lib.hid hR
  clear hN hl hs hR
  go_enter Tryz.func86, Tryz.ntmps86
  go_wp2_with fail
  go_loopw [14] (fun vi wr => ∃ k : Nat, vi = .int .i64 k ∧ k ≤ N ∧ Hid (Below w.heap.size w wr) ∧ Hid (rgtAll l = rgtAll (l.drop k)))
    (fun vi _ => N - (intOf vi).toNat)
  case atStart => exact ⟨0, rfl, Nat.zero_le _, Below.refl _ _, rfl⟩
  case round =>
    obtain ⟨k, rfl, hk, hb, hh⟩ := hrel
    by_cases hkN : k < N
    · have hkl : k < l.length := by have := HN.out; omega
      obtain ⟨g, o, rfl, hg, c0, c1, c2, c3, c4⟩ := HL.out.ls k hkl
      have hdec := hh.out
      rw [List.drop_eq_getElem_cons hkl, rgtAll] at hdec
      rw [← (bcell hb.out).1 _ _ hg] at c0 c1 c2 c3 c4
      have hC : Hid (∀ w : World, Calls Tryz.prog 106 #[.agg #[.bool l[k].a.v, .int .u64 l[k].a.hi, .int .u64 l[k].a.lo, .string l[k].who, .int .i64 l[k].un]] w fun e w' => e = .returned (.int .i64 l[k].rgt) ∧ Below w.heap.size w w') := fun w => lright_any l[k] w
      have hb1 := Lib.hid (bal hb.out (.cells #[.bool l[k].a.v, .int .u64 l[k].a.hi, .int .u64 l[k].a.lo, .string l[k].who, .int .i64 l[k].un] 106))
      have hkz : (k : Int) < (N : Int) := by omega
      have hk0 : (0 : Int) ≤ (k : Int) := by omega
      generalize l[k].rgt = r at *
      generalize l[k].a.v = v at *
      generalize l[k].a.hi = hi at *
      generalize l[k].a.lo = lo at *
      generalize l[k].who = who at *
      generalize l[k].un = un at *
      clear hh hb
      by_cases hx : r = 0
      · subst hx
        rw [if_pos rfl] at hdec
        have HD := Lib.hid hdec
        clear hdec
        go_wp2_with fail
        refine (hC.out _).mono ?_
        rintro e w2 ⟨rfl, hb2⟩
        have hb3 := Lib.hid (btr hb1.out hb2)
        clear hb1 hb2
        go_wp2_with fail
        go_roundw
        case rel => exact ⟨k + 1, by go_num, by omega, hb3, HD⟩
        case measure => simp [intOf]; omega
      · rw [if_neg hx] at hdec
        have HD : Hid (R = r) := by rw [Hid, HR.out, hdec, if_neg hx]
        have hI : (r != 0) = true := by rw [bne_iff_ne]; exact hx
        clear hdec hx
        go_wp2_with fail
        refine (hC.out _).mono ?_
        rintro e w2 ⟨rfl, hb2⟩
        have hb3 := Lib.hid (btr hb1.out hb2)
        clear hb1 hb2
        go_wp2_with fail
        go_ret
        exact ⟨congrArg (fun r => Ending.returned (Value.int .i64 r)) HD.out.symm, hb3.out⟩
    · obtain rfl : k = N := by omega
      have hd := hh.out
      rw [List.drop_eq_nil_of_le (by have := HN.out; omega), rgtAll] at hd
      have HR2 : Hid (R = if rises l = true then (if now < 0 ∨ 9999 < now then 3 else 0) else 4) := by rw [Hid, HR.out, if_pos hd]
      clear hd hh HR
      have hkk : ¬ (k : Int) < (k : Int) := by omega
      go_wp2_with fail
      obtain ⟨wo, hwo⟩ : ∃ wo, wo = wr := ⟨_, rfl⟩
      subst hwo
      go_loopw [8] (fun vi wr => ∃ m : Nat, vi = .int .i64 ((m : Int) + 1) ∧ m ≤ 20 ∧ Hid (Below w.heap.size w wr) ∧ Hid (rises l = rises (l.drop m)))
        (fun vi _ => k + 1 - (intOf vi).toNat)
      case atStart => exact ⟨0, rfl, Nat.zero_le _, hb, rfl⟩
      case round =>
        clear hb
        obtain ⟨m, rfl, hm, hb, hh⟩ := hrel
        by_cases hmN : m + 1 < k
        · have hml : m + 1 < l.length := by have := HN.out; omega
          have hst := hh.out
          rw [rises_at l m hml] at hst
          obtain ⟨g, o, rfl, hg, c0, c1, c2, _, _⟩ := HL.out.ls m (by omega)
          obtain ⟨g', o', e', _, d0, d1, d2, _, _⟩ := HL.out.ls (m + 1) hml
          obtain ⟨rfl, rfl⟩ : g = g' ∧ o = o' := by simpa using e'
          have hgr : g < wr.heap.size := Nat.lt_of_lt_of_le hg hb.out.size
          rw [← (bcell hb.out).1 _ _ hg] at c0 c1 c2 d0 d1 d2
          have hC : Hid (∀ w : World, Calls Tryz.prog 45 #[.agg #[.bool l[m].a.v, .int .u64 l[m].a.hi, .int .u64 l[m].a.lo], .agg #[.bool l[m + 1].a.v, .int .u64 l[m + 1].a.hi, .int .u64 l[m + 1].a.lo]] w fun e w' => e = .returned (.bool (l[m].a.less l[m + 1].a)) ∧ Below w.heap.size w w') :=
            fun w => oless_any l[m].a.v l[m + 1].a.v l[m].a.hi l[m].a.lo l[m + 1].a.hi l[m + 1].a.lo w l[m].a.ok.1.1 l[m].a.ok.2.1 l[m + 1].a.ok.1.1 l[m + 1].a.ok.2.1
          generalize l[m].a.less l[m + 1].a = r at *
          generalize l[m].a.v = v at *
          generalize l[m].a.hi = hi at *
          generalize l[m].a.lo = lo at *
          generalize l[m + 1].a.v = u at *
          generalize l[m + 1].a.hi = yi at *
          generalize l[m + 1].a.lo = yo at *
          have hkz : (m : Int) + 1 < (k : Int) := by omega
          have hwr : IntKind.i64.wrap ((m : Int) + 1 - 1) = (m : Int) := by rw [IntKind.wrap_i64]; omega
          have hwr2 : IntKind.i64.wrap (m : Int) = (m : Int) := by rw [IntKind.wrap_i64]; omega
          have hm1 : (0 : Int) ≤ (m : Int) := by omega
          have hm3 : (0 : Int) ≤ (m : Int) + 1 := by omega
          have hm2 : (m : Int) < (k : Int) := by omega
          have HSd := Lib.hid (keepA33 (w := w) (W := wr) ⟨⟨c0, c1, c2⟩, ⟨d0, d1, d2⟩, hgr, hb.out⟩ (Below.refl _ _).drew)
          have HB := hb
          clear hh hb c0 c1 c2 d0 d1 d2 e' hg
          cases r
          · rw [Bool.false_and] at hst
            have HD : Hid (R = 4) := by rw [Hid, HR2.out, hst]; rfl
            clear hst
            go_wp2_with fail
            go_region_held3 (fun w' => (w'.cell? ⟨g, o + m * 5, none⟩ = some (.bool v) ∧ w'.cell? ⟨g, o + m * 5 + 1, none⟩ = some (.int .u64 hi) ∧ w'.cell? ⟨g, o + m * 5 + 2, none⟩ = some (.int .u64 lo)) ∧ (w'.cell? ⟨g, o + (m + 1) * 5, none⟩ = some (.bool u) ∧ w'.cell? ⟨g, o + (m + 1) * 5 + 1, none⟩ = some (.int .u64 yi) ∧ w'.cell? ⟨g, o + (m + 1) * 5 + 2, none⟩ = some (.int .u64 yo)) ∧ g < w'.heap.size ∧ Below w.heap.size w w')
              (first | with_reducible exact HSd.out | with_reducible exact HSe.out | fail)
              ((go_at_call 45; refine (hC.out _).mono ?_; rintro e wx ⟨rfl, hb⟩; have HSe := Lib.hid (keepA33 HSd.out hb); clear hb))
            have HB2 := Lib.hid HSe.out.2.2.2
            clear HSe HSd
            go_wp2_with fail
            go_ret
            exact ⟨congrArg (fun r => Ending.returned (Value.int .i64 r)) HD.out.symm, HB2.out⟩
          · rw [Bool.true_and] at hst
            have HD := Lib.hid hst
            clear hst
            go_wp2_with fail
            go_region_held3 (fun w' => (w'.cell? ⟨g, o + m * 5, none⟩ = some (.bool v) ∧ w'.cell? ⟨g, o + m * 5 + 1, none⟩ = some (.int .u64 hi) ∧ w'.cell? ⟨g, o + m * 5 + 2, none⟩ = some (.int .u64 lo)) ∧ (w'.cell? ⟨g, o + (m + 1) * 5, none⟩ = some (.bool u) ∧ w'.cell? ⟨g, o + (m + 1) * 5 + 1, none⟩ = some (.int .u64 yi) ∧ w'.cell? ⟨g, o + (m + 1) * 5 + 2, none⟩ = some (.int .u64 yo)) ∧ g < w'.heap.size ∧ Below w.heap.size w w')
              (first | with_reducible exact HSd.out | with_reducible exact HSe.out | fail)
              ((go_at_call 45; refine (hC.out _).mono ?_; rintro e wx ⟨rfl, hb⟩; have HSe := Lib.hid (keepA33 HSd.out hb); clear hb))
            have HB2 := Lib.hid HSe.out.2.2.2
            clear HSe HSd
            go_wp2_with fail
            go_roundw
            case rel => exact ⟨m + 1, by go_num, by omega, HB2, HD⟩
            case measure => simp [intOf]; omega
        · have hd := hh.out
          rw [rises_end l m (by have := HN.out; omega)] at hd
          have HD : Hid (R = if now < 0 ∨ 9999 < now then 3 else 0) := by rw [Hid, HR2.out, if_pos hd]
          have hkz : ¬ (m : Int) + 1 < (k : Int) := by omega
          clear hd hh HR2
          by_cases h0 : now < 0
          · have HE : Hid (R = 3) := by rw [Hid, HD.out, if_pos (.inl h0)]
            go_wp2_with fail
            go_ret
            exact ⟨congrArg (fun r => Ending.returned (Value.int .i64 r)) HE.out.symm, hb.out⟩
          · have d0 : decide (now < 0) = false := decide_eq_false h0
            by_cases h1 : 9999 < now
            · have HE : Hid (R = 3) := by rw [Hid, HD.out, if_pos (.inr h1)]
              clear h0
              go_wp2_with fail
              go_ret
              exact ⟨congrArg (fun r => Ending.returned (Value.int .i64 r)) HE.out.symm, hb.out⟩
            · have HE : Hid (R = 0) := by rw [Hid, HD.out, if_neg (by omega)]
              have d1 : decide (9999 < now) = false := decide_eq_false h1
              clear h0 h1
              go_wp2_with fail
              go_ret
              exact ⟨congrArg (fun r => Ending.returned (Value.int .i64 r)) HE.out.symm, hb.out⟩
end Go.Proofs.YtjainfehlbfiaaaGreat

namespace Go.Proofs.YtjainfehlbfiaaaGreat
open Go.RowKit

def idxI : Option Nat → Int
  | some i => i
  | none => -1
theorem find_hit {α : Type} {p : α → Bool} {l : List α} {k : Nat} (hk : k < l.length) (h : p l[k] = true) (ha : ∀ j (hj : j < k), p (l[j]'(by omega)) = false) : l.findIdx? p = some k :=
  List.findIdx?_eq_some_iff_getElem.2 ⟨hk, h, fun j hj => by rw [ha j hj]; simp⟩
theorem find_miss {α : Type} {p : α → Bool} {l : List α} (ha : ∀ j (hj : j < l.length), p l[j] = false) : l.findIdx? p = none :=
  List.findIdx?_eq_none_iff.2 fun x hx => by
    obtain ⟨j, hj, rfl⟩ := List.mem_iff_getElem.1 hx
    exact ha j hj

set_option maxHeartbeats 8000000 in
set_option maxRecDepth 100000 in
theorem ifnL_any (a : Option Addr) (c : Nat) (l : List Ls) (w : World) (f : Nat) (lb : Array Value) (p : Ls → Bool) (hl : l.length ≤ 1000) (hs : Lies lsE w a l) (ef : ∀ args w, (callFunc f args).run Tryz.prog w = .ok (.enter f args) w)
    (hp : ∀ (W : World) (x : Ls), x ∈ l → Below w.heap.size w W → Calls Tryz.prog f (#[.agg #[.bool x.a.v, .int .u64 x.a.hi, .int .u64 x.a.lo, .string x.who, .int .i64 x.un]] ++ lb) W fun e w' => e = .returned (.bool (p x)) ∧ Below w.heap.size w w') :
    Calls Tryz.prog 77 #[.slice a l.length c, .func (.func f) #[] lb] w fun e w' => e = .returned (.int .i64 (idxI (l.findIdx? p))) ∧ Below w.heap.size w w' := by
  obtain ⟨N, hN⟩ : ∃ N, N = l.length := ⟨_, rfl⟩
  rw [← hN] at hl ⊢
  have HN : Hid (N = l.length) := hN
  have HL := Lib.hid hs
  have HPr := Lib.hid hp
  obtain ⟨R, hR⟩ : ∃ R, R = idxI (l.findIdx? p) := ⟨_, rfl⟩
  rw [← hR]
  have HR := Lib.hid hR
  clear hN hs hp hR
  go_enter Tryz.func77, Tryz.ntmps77
  go_wp2_with fail
  go_loopw [8] (fun vi wr => ∃ k : Nat, vi = .int .i64 k ∧ k ≤ N ∧ Hid (Below w.heap.size w wr) ∧ Hid (∀ j (hj : j < k) (hl : j < l.length), p l[j] = false))
    (fun vi _ => N - (intOf vi).toNat)
  case atStart => exact ⟨0, rfl, Nat.zero_le _, Below.refl _ _, fun j hj => absurd hj (Nat.not_lt_zero _)⟩
  case round =>
    obtain ⟨k, rfl, hk, hb, hh⟩ := hrel
    by_cases hkN : k < N
    · have hkl : k < l.length := by have := HN.out; omega
      obtain ⟨g, o, rfl, hg, c0, c1, c2, c3, c4⟩ := HL.out.ls k hkl
      rw [← (bcell hb.out).1 _ _ hg] at c0 c1 c2 c3 c4
      have HC := Lib.hid (HPr.out wr l[k] (List.getElem_mem hkl) hb.out)
      have hkz : (k : Int) < (N : Int) := by omega
      have hk0 : (0 : Int) ≤ (k : Int) := by omega
      have HQ : Hid (∀ b, p l[k] = b → (b = true → R = k) ∧ (b = false → ∀ j (hj : j < k + 1) (hl : j < l.length), p l[j] = false)) := by
        intro b hb
        refine ⟨fun e => ?_, fun e j hj hl => ?_⟩
        · rw [HR.out, find_hit hkl (hb.trans e) (fun j hj => hh.out j hj (by omega))]; rfl
        · by_cases hjk : j = k
          · subst hjk; exact hb.trans e
          · exact hh.out j (by omega) hl
      generalize hq : p l[k] = b at *
      have HQ2 := Lib.hid (HQ.out b rfl)
      generalize l[k].a.v = v at *
      generalize l[k].a.hi = hi at *
      generalize l[k].a.lo = lo at *
      generalize l[k].who = who at *
      generalize l[k].un = un at *
      clear hh hb HPr HQ hq HL
      cases b
      · have HQ3 := Lib.hid (HQ2.out.2 rfl)
        clear HQ2
        go_wp2_with fail
        refine HC.out.mono ?_
        rintro e w2 ⟨rfl, hb2⟩
        have HB := Lib.hid hb2
        clear hb2
        go_wp2_with fail
        go_roundw
        case rel => exact ⟨k + 1, by go_num, by omega, HB, HQ3⟩
        case measure => simp [intOf]; omega
      · have HQ3 := Lib.hid (HQ2.out.1 rfl)
        clear HQ2
        go_wp2_with fail
        refine HC.out.mono ?_
        rintro e w2 ⟨rfl, hb2⟩
        go_wp2_with fail
        go_ret
        exact ⟨congrArg (fun r => Ending.returned (Value.int .i64 r)) HQ3.out.symm, hb2⟩
    · obtain rfl : k = N := by omega
      have hkk : ¬ (k : Int) < (k : Int) := by omega
      have HD : Hid (R = -1) := by
        rw [Hid, HR.out, find_miss (fun j hj => hh.out j (by have := HN.out; omega) hj)]; rfl
      go_wp2_with fail
      go_ret
      exact ⟨congrArg (fun r => Ending.returned (Value.int .i64 r)) HD.out.symm, hb.out⟩

theorem zeroL (w : World) : (zeroValue 106).run Tryz.prog w = .ok (.agg #[.bool false, .int .u64 0, .int .u64 0, .string ⟨#[]⟩, .int .i64 0]) w := by kernel_rfl
theorem infoL : (Tryz.prog.info? 106).map (fun i => (i.zero, i.size)) = some (some (.agg #[.bool false, .int .u64 0, .int .u64 0, .string ⟨#[]⟩, .int .i64 0]), 5) := by kernel_rfl
theorem splice5 (L : List Value) (o : Nat) (x0 x1 x2 x3 x4 : Value) (h : o + 5 ≤ L.length) : ((((L.set o x0).set (o + 1) x1).set (o + 2) x2).set (o + 3) x3).set (o + 4) x4 = splice L o [x0, x1, x2, x3, x4] := by
  apply List.ext_getElem?
  intro i
  rw [splice]
  simp only [List.getElem?_set, List.length_set]
  by_cases h1 : i < o
  · rw [List.getElem?_append_left (by simp; omega), List.getElem?_take_of_lt h1]
    rw [if_neg (by omega), if_neg (by omega), if_neg (by omega), if_neg (by omega), if_neg (by omega)]
  · rw [List.getElem?_append_right (by simp; omega)]
    rw [show (L.take o).length = o by simp; omega]
    by_cases h2 : i < o + 5
    · have : i = o ∨ i = o + 1 ∨ i = o + 2 ∨ i = o + 3 ∨ i = o + 4 := by omega
      rcases this with rfl | rfl | rfl | rfl | rfl
      · simp; omega
      · simp; omega
      · simp; omega
      · simp; omega
      · simp; omega
    · rw [if_neg (by omega), if_neg (by omega), if_neg (by omega), if_neg (by omega), if_neg (by omega)]
      rw [List.getElem?_append_right (by simp; omega), List.getElem?_drop]
      congr 1
      simp; omega
theorem set5_row {w : World} {g o t : Nat} {cs : List Value} (hg : w.heap[g]? = some (.cells cs.toArray t (0, 0))) (x0 x1 x2 x3 x4 : Value) (h : o + 5 ≤ cs.length) :
    (((((w.setCell ⟨g, o, none⟩ x0).setCell ⟨g, o + 1, none⟩ x1).setCell ⟨g, o + 2, none⟩ x2).setCell ⟨g, o + 3, none⟩ x3).setCell ⟨g, o + 4, none⟩ x4) = w.setRow g (splice cs o [x0, x1, x2, x3, x4]).toArray := by
  rw [setCell_eq_setRow w g o _ t (0, 0) x0 hg]
  have h1 := setRow_heap w g _ (cs.toArray.setIfInBounds o x0) t _ hg
  rw [setCell_eq_setRow _ g (o + 1) _ t (0, 0) x1 h1, setRow_setRow]
  have h2 := setRow_heap w g _ ((cs.toArray.setIfInBounds o x0).setIfInBounds (o + 1) x1) t _ hg
  rw [setCell_eq_setRow _ g (o + 2) _ t (0, 0) x2 h2, setRow_setRow]
  have h3 := setRow_heap w g _ (((cs.toArray.setIfInBounds o x0).setIfInBounds (o + 1) x1).setIfInBounds (o + 2) x2) t _ hg
  rw [setCell_eq_setRow _ g (o + 3) _ t (0, 0) x3 h3, setRow_setRow]
  have h4 := setRow_heap w g _ ((((cs.toArray.setIfInBounds o x0).setIfInBounds (o + 1) x1).setIfInBounds (o + 2) x2).setIfInBounds (o + 3) x3) t _ hg
  rw [setCell_eq_setRow _ g (o + 4) _ t (0, 0) x4 h4, setRow_setRow]
  have e : ((((cs.toArray.setIfInBounds o x0).setIfInBounds (o + 1) x1).setIfInBounds (o + 2) x2).setIfInBounds (o + 3) x3).setIfInBounds (o + 4) x4 = (splice cs o [x0, x1, x2, x3, x4]).toArray := by
    rw [← splice5 cs o x0 x1 x2 x3 x4 h]
    simp only [List.setIfInBounds_toArray]
  exact congrArg (w.setRow g) e
theorem OwnAt.set5 {w : World} {B t g c : Nat} {l : List Ls} (h : OwnAt lsE w B t g c l) (j : Nat) (x : Ls) (hj : j < l.length) :
    OwnAt lsE (((((w.setCell ⟨g, j * 5, none⟩ (.bool x.a.v)).setCell ⟨g, j * 5 + 1, none⟩ (.int .u64 x.a.hi)).setCell ⟨g, j * 5 + 2, none⟩ (.int .u64 x.a.lo)).setCell ⟨g, j * 5 + 3, none⟩ (.string x.who)).setCell ⟨g, j * 5 + 4, none⟩ (.int .i64 x.un)) B t g c (l.set j x) ∧
    w.grownBy (((((w.setCell ⟨g, j * 5, none⟩ (.bool x.a.v)).setCell ⟨g, j * 5 + 1, none⟩ (.int .u64 x.a.hi)).setCell ⟨g, j * 5 + 2, none⟩ (.int .u64 x.a.lo)).setCell ⟨g, j * 5 + 3, none⟩ (.string x.who)).setCell ⟨g, j * 5 + 4, none⟩ (.int .i64 x.un)) (some g) := by
  obtain ⟨r, hr, hl⟩ := h.row
  have hle : j * 5 + 5 ≤ (rowOf lsE l ++ r).length := by
    rw [hl]
    have := h.le
    show j * 5 + 5 ≤ c * 5
    omega
  rw [set5_row hr _ _ _ _ _ hle]
  exact ⟨h.set j x hj _ ⟨r, hr, hl, rfl⟩, grown_row _ _ _⟩
/-- The row but for what is cut off. -/
theorem OwnAt.tail {α : Type} {E : Enc α} {w : World} {B t g c : Nat} {l : List α} (h : OwnAt E w B t g c l) (n : Nat) (hn : n ≤ l.length) (cs : List Value) (h1 : cs.length = c * E.k) (h2 : cs.take (n * E.k) = rowOf E (l.take n)) : OwnAt E (w.setRow g cs.toArray) B t g c (l.take n) := by
  obtain ⟨r, hr, hl⟩ := h.row
  refine ⟨h.base, by have := h.le; rw [List.length_take]; omega, h.max, cs.drop (n * E.k), ?_, ?_⟩
  · rw [← h2, List.take_append_drop]
    exact setRow_heap w g _ _ t _ hr
  · rw [← h2, List.take_append_drop]; exact h1
end Go.Proofs.YtjainfehlbfiaaaGreat

namespace Go.Proofs.YtjainfehlbfiaaaGreat
open Go.RowKit

/-- clear of a row's cells. -/
theorem run_clear_row {P : Program} (w : World) (t e ty : TypeId) (z : Value) (ht : P.underlying t = some (.slice e)) (hv : ∀ w, (zeroValue e).run P w = .ok z w) (b o n c : Nat) (hn : 0 < n) (cur : Array Value) (T : TypeId) (hg : w.heap[b]? = some (.cells cur T (0, 0)))
    (vs : List Value) (hvs : vs = (Builtin.zeroCells z.cells n).toList) (h1 : ∀ u ∈ vs, u.oneCell' = true) (hfit : o + vs.length ≤ cur.size) :
    (Builtin.clear_ #[t] ty #[.slice (some ⟨b, o, none⟩) n c]).run P w = .ok (.tuple #[]) (w.setRow b (splice cur.toList o vs).toArray) := by
  have hst := run_storeCells_at P b o T vs 0 cur w hg (by simpa using hfit) h1
  simp only [Nat.add_zero] at hst
  obtain ⟨m, rfl⟩ : ∃ m, n = m + 1 := ⟨n - 1, by omega⟩
  simp [Builtin.clear_, run_underlying ht, hv, ← hvs, hst, splice]
theorem zero_len (n : Nat) (z : Array Value) : (Builtin.zeroCells z n).toList.length = n * z.size := by
  simp [Builtin.zeroCells]
theorem zero_one (n : Nat) (z : Array Value) (h : ∀ u ∈ z.toList, u.oneCell' = true) : ∀ u ∈ (Builtin.zeroCells z n).toList, u.oneCell' = true := by
  intro u hu
  simp [Builtin.zeroCells] at hu
  obtain ⟨i, hi, rfl⟩ := hu
  have hz : 0 < z.size := by
    rcases Nat.eq_zero_or_pos z.size with e | e
    · rw [e] at hi; omega
    · exact e
  rw [getElem!_pos z _ (Nat.mod_lt _ hz)]
  exact h _ (by simp)

/-- What has been kept when j have been asked. -/
structure Kept (p : Ls → Bool) (l : List Ls) (j i : Nat) (dk : List Ls) : Prop where
  lt : i < j
  len : dk.length = l.length
  low : dk.take i = (l.take j).filter (fun x => !p x)
  high : dk.drop j = l.drop j
theorem Kept.at {p : Ls → Bool} {l : List Ls} {j i : Nat} {dk : List Ls} (h : Kept p l j i dk) (hj : j < l.length) : dk[j]'(by rw [h.len]; exact hj) = l[j] := by
  have e := h.high
  rw [List.drop_eq_getElem_cons (by rw [h.len]; exact hj), List.drop_eq_getElem_cons hj] at e
  exact (List.cons.inj e).1
theorem Kept.skip {p : Ls → Bool} {l : List Ls} {j i : Nat} {dk : List Ls} (h : Kept p l j i dk) (hj : j < l.length) (hp : p l[j] = true) : Kept p l (j + 1) i dk := by
  refine ⟨by have := h.lt; omega, h.len, ?_, ?_⟩
  · rw [h.low, List.take_succ_eq_append_getElem hj, List.filter_append]; simp [hp]
  · rw [← List.tail_drop, ← List.tail_drop, h.high]
theorem Kept.keep {p : Ls → Bool} {l : List Ls} {j i : Nat} {dk : List Ls} (h : Kept p l j i dk) (hj : j < l.length) (hp : p l[j] = false) : Kept p l (j + 1) (i + 1) (dk.set i l[j]) := by
  have hlt := h.lt
  have hl := h.len
  refine ⟨by omega, by rw [List.length_set]; exact h.len, ?_, ?_⟩
  · rw [List.take_succ_eq_append_getElem hj, List.filter_append, ← h.low, List.take_succ_eq_append_getElem (by rw [List.length_set]; omega), List.take_set_of_le (Nat.le_refl _)]
    simp [hp]
  · rw [List.drop_set_of_lt (by omega), ← List.tail_drop, ← List.tail_drop, h.high]
theorem Kept.start {p : Ls → Bool} {l : List Ls} {k : Nat} (hk : k < l.length) (h : p l[k] = true) (ha : ∀ j (hj : j < k), p (l[j]'(by omega)) = false) : Kept p l (k + 1) k l := by
  refine ⟨by omega, rfl, ?_, rfl⟩
  rw [List.take_succ_eq_append_getElem hk, List.filter_append]
  have e : (l.take k).filter (fun x => !p x) = l.take k := List.filter_eq_self.2 fun x hx => by
    obtain ⟨j, hj, rfl⟩ := List.mem_iff_getElem.1 hx
    rw [List.length_take] at hj
    rw [List.getElem_take, ha j (by omega)]; rfl
  rw [e]
  simp [h]

set_option maxHeartbeats 16000000 in
set_option maxRecDepth 100000 in
theorem delfL_any (B g c : Nat) (l : List Ls) (w : World) (f : Nat) (lb : Array Value) (p : Ls → Bool) (hl : l.length ≤ 20) (hown : OwnAt lsE w B 106 g c l) (ef : ∀ args w, (callFunc f args).run Tryz.prog w = .ok (.enter f args) w)
    (hp : ∀ (W : World) (x : Ls), x ∈ l → w.grownBy W (some g) → Calls Tryz.prog f (#[.agg #[.bool x.a.v, .int .u64 x.a.hi, .int .u64 x.a.lo, .string x.who, .int .i64 x.un]] ++ lb) W fun e w' => e = .returned (.bool (p x)) ∧ Below W.heap.size W w') :
    Calls Tryz.prog 107 #[.slice (some ⟨g, 0, none⟩) l.length c, .func (.func f) #[] lb] w fun e w' => e = .returned (.slice (some ⟨g, 0, none⟩) (l.filter (fun x => !p x)).length c) ∧ OwnAt lsE w' B 106 g c (l.filter (fun x => !p x)) ∧ w.grownBy w' (some g) := by
  have HI := Lib.hid (ifnL_any (some ⟨g, 0, none⟩) c l w f lb p (by omega) hown.lies ef (fun W x hx hb => (hp W x hx (grown_below hb)).mono fun e w' h => ⟨h.1, btr hb h.2⟩))
  have HPr := Lib.hid hp
  have HO := Lib.hid hown
  have hcN : l.length ≤ c := hown.le
  have hcM : c ≤ maxLen := hown.max
  unfold maxLen at hcM
  cases hf : l.findIdx? p with
  | none =>
    rw [hf] at HI
    have e : l.filter (fun x => !p x) = l := List.filter_eq_self.2 fun x hx => by rw [List.findIdx?_eq_none_iff.1 hf x hx]; rfl
    rw [e]
    have hi : idxI none = -1 := rfl
    rw [hi] at HI
    clear hp hown hf e hi
    obtain ⟨N, hN⟩ : ∃ N, N = l.length := ⟨_, rfl⟩
    rw [← hN] at hl HI hcN ⊢
    clear hN
    go_enter Tryz.func107, Tryz.ntmps107
    go_wp2_with fail
    refine HI.out.mono ?_
    rintro e w2 ⟨rfl, hb⟩
    go_wp2_with fail
    go_ret
    exact ⟨rfl, HO.out.keep hb, grown_below hb⟩
  | some k0 =>
    rw [hf] at HI
    obtain ⟨hk0, ht, ha⟩ := List.findIdx?_eq_some_iff_getElem.1 hf
    have HK0 := Lib.hid (Kept.start (p := p) hk0 ht (fun j hj => by simpa using ha j hj))
    have hi : idxI (some k0) = (k0 : Int) := rfl
    rw [hi] at HI
    obtain ⟨F, hF⟩ : ∃ F, F = l.filter (fun x => !p x) := ⟨_, rfl⟩
    rw [← hF]
    have HF := Lib.hid hF
    obtain ⟨N, hN⟩ : ∃ N, N = l.length := ⟨_, rfl⟩
    rw [← hN] at hl HI hcN hk0 ⊢
    have HN := Lib.hid hN
    obtain ⟨M, hM⟩ : ∃ M, M = F.length := ⟨_, rfl⟩
    rw [← hM]
    have HM := Lib.hid hM
    have hne1 : ((k0 : Int) == -1) = false := beq_eq_false_iff_ne.2 (by omega)
    clear hp hown hf hi ht ha hF hN hM
    go_enter Tryz.func107, Tryz.ntmps107
    go_wp2_with fail
    refine HI.out.mono ?_
    rintro e w2 ⟨rfl, hb⟩
    have HO2 := Lib.hid (HO.out.keep hb)
    have HG2 := Lib.hid (grown_below (row := some g) hb)
    clear hb HI
    go_wp2_with fail
    go_loopw [5, 6] (fun vi vj wr => ∃ (i j : Nat) (dk : List Ls), vi = .int .i64 i ∧ vj = .int .i64 j ∧ i < N ∧ j ≤ N ∧ Hid (w.grownBy wr (some g)) ∧ Hid (OwnAt lsE wr B 106 g c dk) ∧ Hid (Kept p l j i dk))
      (fun _ vj _ => N - (intOf vj).toNat)
    case atStart => exact ⟨k0, k0 + 1, l, rfl, by go_num, hk0, by omega, HG2, HO2, HK0⟩
    case round =>
      clear HG2 HO2 HK0 HO
      obtain ⟨i, j, dk, rfl, rfl, hi, hj, HG, HO, HK⟩ := hrel
      by_cases hjN : j < N
      · have hjl : j < l.length := by have := HN.out; omega
        have hjd : j < dk.length := by rw [HK.out.len]; exact hjl
        have hid : i < dk.length := by rw [HK.out.len]; have := HN.out; omega
        obtain ⟨g', o', e', hgr, c0, c1, c2, c3, c4⟩ := HO.out.lies.ls j hjd
        obtain ⟨rfl, rfl⟩ : g = g' ∧ 0 = o' := by simpa using e'
        rw [HK.out.at hjl] at c0 c1 c2 c3 c4
        simp only [Nat.zero_add] at c0 c1 c2 c3 c4
        have hjz : (j : Int) < (N : Int) := by omega
        have hj0 : (0 : Int) ≤ (j : Int) := by omega
        have hiz : (i : Int) < (N : Int) := by omega
        have hi0 : (0 : Int) ≤ (i : Int) := by omega
        have hmem := List.getElem_mem hjl
        have HC : Hid (∀ W : World, w.grownBy W (some g) → Calls Tryz.prog f (#[.agg #[.bool l[j].a.v, .int .u64 l[j].a.hi, .int .u64 l[j].a.lo, .string l[j].who, .int .i64 l[j].un]] ++ lb) W fun e w' => e = .returned (.bool (p l[j])) ∧ Below W.heap.size W w') := fun W hW => HPr.out W l[j] hmem hW
        obtain ⟨y, hy⟩ : ∃ y, y = l[j] := ⟨_, rfl⟩
        have HKs : Hid (∀ b, p y = b → (b = true → Kept p l (j + 1) i dk) ∧ (b = false → Kept p l (j + 1) (i + 1) (dk.set i y))) := fun b hb => ⟨fun e => HK.out.skip hjl (by rw [← hy]; exact hb.trans e), fun e => by rw [hy]; exact HK.out.keep hjl (by rw [← hy]; exact hb.trans e)⟩
        rw [← hy] at c0 c1 c2 c3 c4 HC
        have HB1 := Lib.hid (bal (Below.refl wr.heap.size wr) (.cells #[.bool y.a.v, .int .u64 y.a.hi, .int .u64 y.a.lo, .string y.who, .int .i64 y.un] 106))
        have HP1 := Lib.hid (Has5.new wr (.bool y.a.v) (.int .u64 y.a.hi) (.int .u64 y.a.lo) (.string y.who) (.int .i64 y.un) 106)
        have HKs2 := Lib.hid (HKs.out _ rfl)
        have HO5 : Hid (∀ W : World, OwnAt lsE W B 106 g c dk → _) := fun W hW => hW.set5 i y hid
        have hgH : Hid (g < wr.heap.size) := hgr
        clear hy hmem HKs HK HPr e' hgr
        generalize p y = b at *
        generalize y.a.v = v at *
        generalize y.a.hi = yh at *
        generalize y.a.lo = lo at *
        generalize y.who = who at *
        generalize y.un = un at *
        have HC2 := Lib.hid (HC.out _ (HG.out.trans (grown_below HB1.out)))
        cases b
        · have HK3 := Lib.hid (HKs2.out.2 rfl)
          clear HKs2
          go_wp2_with fail
          refine HC2.out.mono ?_
          rintro e w3 ⟨rfl, hb3⟩
          have HB3 := Lib.hid (btr HB1.out hb3)
          have HG3 := Lib.hid (HG.out.trans (grown_below (row := some g) HB3.out))
          have HO3 := Lib.hid (HO.out.keep HB3.out)
          obtain ⟨p0, p1, p2, p3, p4, p5⟩ := HP1.out.below hb3
          clear hb3 HB1 HC HC2 HP1 c0 c1 c2 c3 c4
          obtain ⟨g', o', e', _, d0, d1, d2, d3, d4⟩ := HO3.out.lies.ls i hid
          obtain ⟨rfl, rfl⟩ : g = g' ∧ 0 = o' := by simpa using e'
          simp only [Nat.zero_add] at d0 d1 d2 d3 d4
          obtain ⟨q0, q1, q2, q3, q4⟩ : w3.frozen? ⟨g, i * 5, none⟩ = false ∧ w3.frozen? ⟨g, i * 5 + 1, none⟩ = false ∧ w3.frozen? ⟨g, i * 5 + 2, none⟩ = false ∧ w3.frozen? ⟨g, i * 5 + 3, none⟩ = false ∧ w3.frozen? ⟨g, i * 5 + 4, none⟩ = false := by
            obtain ⟨r, hr, _⟩ := HO3.out.row
            exact ⟨frozen_of_row _ _ _ _ _ hr, frozen_of_row _ _ _ _ _ hr, frozen_of_row _ _ _ _ _ hr, frozen_of_row _ _ _ _ _ hr, frozen_of_row _ _ _ _ _ hr⟩
          have HS5 := Lib.hid (HO5.out w3 HO3.out)
          clear e' HO5
          go_wp2_with fail
          go_roundw
          case rel => exact ⟨i + 1, j + 1, dk.set i y, by go_num, by go_num, by have := HK3.out.lt; omega, by omega, HG3.out.trans HS5.out.2, HS5.out.1, HK3⟩
          case measure => simp [intOf]; omega
        · have HK3 := Lib.hid (HKs2.out.1 rfl)
          clear HKs2
          go_wp2_with fail
          refine HC2.out.mono ?_
          rintro e w3 ⟨rfl, hb3⟩
          have HB3 := Lib.hid (btr HB1.out hb3)
          have HG3 := Lib.hid (HG.out.trans (grown_below (row := some g) HB3.out))
          have HO3 := Lib.hid (HO.out.keep HB3.out)
          clear hb3 HB1 HC HC2 HP1 c0 c1 c2 c3 c4
          go_wp2_with fail
          go_roundw
          case rel => exact ⟨i, j + 1, dk, rfl, by go_num, hi, by omega, HG3, HO3, HK3⟩
          case measure => simp [intOf]; omega
      · obtain rfl : j = N := by omega
        obtain ⟨r, hr, hlr⟩ := HO.out.row
        have hdl : dk.length = j := by rw [HK.out.len]; exact HN.out.symm
        have hF : dk.take i = F := by rw [HK.out.low, HF.out, List.take_of_length_le (by have := HN.out; omega)]
        have hFl : F.length = i := by rw [← hF, List.length_take]; omega
        obtain ⟨vs, hvs⟩ : ∃ vs, vs = (Builtin.zeroCells (Value.agg #[.bool false, .int .u64 0, .int .u64 0, .string ⟨#[]⟩, .int .i64 0]).cells (j - i)).toList := ⟨_, rfl⟩
        have hvl : vs.length = (j - i) * 5 := by rw [hvs, zero_len]; rfl
        have hlr' : (rowOf lsE dk ++ r).length = c * 5 := hlr
        have hcl : ∀ ty, (Builtin.clear_ #[53] ty #[.slice (some ⟨g, i * 5, none⟩) (j - i) (c - i)]).run Tryz.prog wr = .ok (.tuple #[]) (wr.setRow g (splice (rowOf lsE dk ++ r) (i * 5) vs).toArray) := fun ty => by
          have := run_clear_row (P := Tryz.prog) wr 53 106 ty _ Tryz.underlying53 zeroL g (i * 5) (j - i) (c - i) (by omega) (rowOf lsE dk ++ r).toArray 106 hr vs hvs (by rw [hvs]; exact zero_one _ _ (by intro u hu; simp [Value.cells] at hu; rcases hu with rfl | rfl | rfl | rfl | rfl <;> rfl)) (by rw [hvl]; simp only [List.size_toArray]; rw [hlr']; omega)
          simpa using this
        have htk : (splice (rowOf lsE dk ++ r) (i * 5) vs).take (i * lsE.k) = rowOf lsE (dk.take i) := by
          show (splice (rowOf lsE dk ++ r) (i * 5) vs).take (i * 5) = _
          rw [splice, List.take_append_of_le_length (by rw [List.length_take, hlr']; omega), List.take_take, Nat.min_self, List.take_append_of_le_length (by rw [rowOf_len, hdl]; show i * 5 ≤ j * 5; omega)]
          exact (rowOf_take lsE dk i).symm
        have HT := Lib.hid (HO.out.tail i (by omega) (splice (rowOf lsE dk ++ r) (i * 5) vs) (by rw [length_splice _ _ _ (by rw [hvl, hlr']; omega)]; exact hlr) htk)
        have HT2 := Lib.hid (HG.out.trans (grown_row wr g (splice (rowOf lsE dk ++ r) (i * 5) vs).toArray))
        rw [hF] at HT
        have HMi : Hid (M = i) := by rw [Hid, HM.out, hFl]
        have hjj : ¬ (j : Int) < (j : Int) := by omega
        have hi0 : (0 : Int) ≤ (i : Int) := by omega
        have hi1 : (i : Int) ≤ (j : Int) := by omega
        have hi2 : (i : Int) ≤ (c : Int) := by omega
        have hi3 : (j : Int) ≤ (c : Int) := by omega
        generalize (splice (rowOf lsE dk ++ r) (i * 5) vs).toArray = cs at *
        clear hF hFl hvs hvl hlr hlr' htk hdl hr HK HG HO HPr HF HM HN
        go_wp2_with fail
        go_ret
        exact ⟨congrArg (fun m => Ending.returned (Value.slice (some ⟨g, 0, none⟩) m c)) HMi.out.symm, HT.out, HT2.out⟩
end Go.Proofs.YtjainfehlbfiaaaGreat

namespace Go.Proofs.YtjainfehlbfiaaaGreat
open Go.RowKit Go.Shelf

theorem infoLb : (Tryz.prog.info? 106).map (fun i => (i.zero, i.size, i.bytes)) = some (some (.agg #[.bool false, .int .u64 0, .int .u64 0, .string ⟨#[]⟩, .int .i64 0]), 5, 48) := by kernel_rfl
theorem rowL_empty (w : World) : (w.alloc (.cells #[] 106)).ownsRow w.heap.size 106 5 (.slice (some ⟨w.heap.size, 0, none⟩) 0 0) 0 [] :=
  ⟨by simp, .inr ⟨w.heap.size, 0, #[], rfl, Nat.le_refl _, heap_alloc_new w _, Nat.le_refl _, Nat.zero_le _, by simp, by simp⟩⟩
/-- Leases that are not over. -/
def live (l : List Ls) (now : Int) : List Ls := l.filter (fun x => !decide (x.un < now))

set_option maxHeartbeats 4000000 in
set_option maxRecDepth 100000 in
theorem cloneL_any (a : Option Addr) (c : Nat) (l : List Ls) (w : World) (hl : l.length ≤ 20) (hs : Lies lsE w a l) :
    Calls Tryz.prog 50 #[.slice a l.length c] w fun e w' => ∃ v', e = .returned v' ∧ w'.ownsRow w.heap.size 106 lsE.k v' l.length (rowOf lsE l) ∧ Below w.heap.size w w' := by
  have q22 : ∀ (w : World) (a : Option Addr) (n c n' c' : Nat), (binOp .eql 53 (.slice a n c) (.slice none n' c')).run Tryz.prog w = .ok (.bool a.isNone) w := fun w a n c n' c' => Lib.run_eql_slice_nil w _ _ a n c n' c' Tryz.underlying53
  cases a with
  | none =>
    obtain rfl := hs.none_nil
    show Calls _ _ #[.slice none 0 c] _ _
    clear hs
    go_enter Tryz.func50, Tryz.ntmps50
    go_wp2
    go_ret
    exact ⟨_, rfl, World.ownsRow_nil _ _ _ _, Below.refl _ _⟩
  | some ad =>
    obtain ⟨i0, hi0, hz0, hz1, hz2⟩ := info_parts infoLb
    have hnews : ∀ j u, (rowOf lsE l)[j]? = some u → (w.alloc (.cells #[] 106)).cell? (ad.add j) = some u := (hs.below (bal (Below.refl _ _) _)).news
    have HNews := Lib.hid hnews
    have HRl := Lib.hid (rowOf_len lsE l)
    have HR1 := Lib.hid (rowOf_one lsE l)
    obtain ⟨row, hrow⟩ : ∃ row, row = rowOf lsE l := ⟨_, rfl⟩
    obtain ⟨N, hN⟩ : ∃ N, N = l.length := ⟨_, rfl⟩
    rw [← hrow] at HNews HRl HR1 ⊢
    rw [← hN] at HRl hl ⊢
    clear hnews hs hrow hN
    go_enter Tryz.func50, Tryz.ntmps50
    go_wp2_with (at_builtin; refine wpList_append_own _ rfl _ _ 53 rfl w.heap.size 106 i0 _ 5 48 Tryz.underlying53 hi0 hz0 hz1 hz2 rfl (by decide) _ _ _ rfl (rowL_empty w) ad N c row rfl HRl.out HNews.out HR1.out (by unfold maxLen; omega) (by omega) (by simp) ?_)
    intro v' w4 hown hgrow _
    have HB : Hid (Below w.heap.size w w4) := (bal (Below.refl _ _) _).grown hgrow (by simp) (fun k hk => ((rowL_empty w).lt k hk).1)
    have HO : Hid (w4.ownsRow w.heap.size 106 5 v' N row) := hown
    clear hown hgrow
    go_wp2
    go_ret
    exact ⟨_, rfl, HO.out, HB.out⟩

theorem run1_any (q : Nat) (now : Int) (x : Ls) (w : World) (hq : w.cell? ⟨q, 0, none⟩ = some (.int .i64 now)) (hlt : q < w.heap.size) :
    Calls Tryz.prog 108 #[.agg #[.bool x.a.v, .int .u64 x.a.hi, .int .u64 x.a.lo, .string x.who, .int .i64 x.un], .pointer (some ⟨q, 0, none⟩)] w fun e w' => e = .returned (.bool (decide (x.un < now))) ∧ Below w.heap.size w w' := by
  have HB := Lib.hid (bal (Below.refl w.heap.size w) (.cells #[.bool x.a.v, .int .u64 x.a.hi, .int .u64 x.a.lo, .string x.who, .int .i64 x.un] 106))
  have hq' : (w.alloc (.cells #[.bool x.a.v, .int .u64 x.a.hi, .int .u64 x.a.lo, .string x.who, .int .i64 x.un] 106)).cell? ⟨q, 0, none⟩ = some (.int .i64 now) := by rw [(bcell HB.out).1 _ _ hlt]; exact hq
  generalize x.a.v = v at *
  generalize x.a.hi = hi at *
  generalize x.a.lo = lo at *
  generalize x.who = who at *
  generalize x.un = un at *
  clear hq
  go_enter Tryz.func108, Tryz.ntmps108
  go_wp2
  go_ret
  exact ⟨rfl, HB.out⟩
theorem enters_run1 : ∀ args w, (callFunc 108 args).run Tryz.prog w = .ok (.enter 108 args) w := enters_of Tryz.func108 (by kernel_rfl) rfl

set_option maxHeartbeats 4000000 in
theorem delfL_nil (w : World) (f : Nat) (lb : Array Value) (ef : ∀ args w, (callFunc f args).run Tryz.prog w = .ok (.enter f args) w) :
    Calls Tryz.prog 107 #[.slice none 0 0, .func (.func f) #[] lb] w fun e w' => e = .returned (.slice none 0 0) ∧ Below w.heap.size w w' := by
  have HI := Lib.hid (ifnL_any none 0 [] w f lb (fun _ => true) (by simp) (Lies.nil _ _ _) ef (fun W x hx => by simp at hx))
  have hi : idxI (List.findIdx? (fun _ : Ls => true) []) = -1 := rfl
  rw [hi] at HI
  clear hi
  go_enter Tryz.func107, Tryz.ntmps107
  go_wp2_with fail
  refine HI.out.mono ?_
  rintro e w2 ⟨rfl, hb⟩
  go_wp2_with fail
  go_ret
  exact ⟨rfl, hb⟩

set_option maxHeartbeats 8000000 in
set_option maxRecDepth 100000 in
theorem running_any (a : Option Addr) (c : Nat) (l : List Ls) (now : Int) (w : World) (hl : l.length ≤ 20) (hs : Lies lsE w a l) :
    Calls Tryz.prog 87 #[.slice a l.length c, .int .i64 now] w fun e w' => ∃ v', e = .returned v' ∧ w'.ownsRow w.heap.size 106 lsE.k v' (live l now).length (rowOf lsE (live l now)) ∧ Below w.heap.size w w' := by
  have HB := Lib.hid (bal (Below.refl w.heap.size w) (.cells #[.int .i64 now] 3))
  have HQ : Hid ((w.alloc (.cells #[.int .i64 now] 3)).cell? ⟨w.heap.size, 0, none⟩ = some (.int .i64 now)) := by simp [Hid, go_sem]
  have HC := Lib.hid (cloneL_any a c l (w.alloc (.cells #[.int .i64 now] 3)) hl (hs.below HB.out))
  have hsz : (w.alloc (.cells #[.int .i64 now] 3)).heap.size = w.heap.size + 1 := by simp
  obtain ⟨N, hN⟩ : ∃ N, N = l.length := ⟨_, rfl⟩
  rw [← hN] at HC ⊢
  have HN := Lib.hid hN
  obtain ⟨m, hm⟩ : ∃ m, m = live l now := ⟨_, rfl⟩
  rw [← hm]
  have Hm := Lib.hid hm
  obtain ⟨M, hM⟩ : ∃ M, M = m.length := ⟨_, rfl⟩
  rw [← hM]
  have HM := Lib.hid hM
  clear hN hs hm hM
  go_enter Tryz.func87, Tryz.ntmps87
  go_wp2_with fail
  refine HC.out.mono ?_
  rintro e w2 ⟨v', rfl, hown, hb⟩
  rw [HN.out] at hown
  rcases own_form hown with ⟨rfl, hnil⟩ | ⟨g, c', rfl, ho⟩
  · have HB2 := Lib.hid (btr HB.out hb)
    have HD := Lib.hid (delfL_nil w2 108 #[.pointer (some ⟨w.heap.size, 0, none⟩)] enters_run1)
    have HL : Hid (m = []) := by rw [Hid, Hm.out, hnil]; rfl
    have HM0 : Hid (M = 0) := by rw [Hid, HM.out, HL.out]; rfl
    clear hown hb HC hnil
    go_wp2_with fail
    refine HD.out.mono ?_
    rintro e w3 ⟨rfl, hb⟩
    have HB3 := Lib.hid (btr HB2.out hb)
    clear hb
    go_wp2_with fail
    go_ret
    exact ⟨_, rfl, by rw [HL.out, HM0.out]; exact World.ownsRow_nil _ _ _ _, HB3.out⟩
  · have HB2 := Lib.hid (btr HB.out hb)
    have hgw : w.heap.size + 1 ≤ g := by have := ho.base; omega
    have hQ2 : w2.cell? ⟨w.heap.size, 0, none⟩ = some (.int .i64 now) := by rw [(bcell hb).1 _ _ (by omega)]; exact HQ.out
    have hw2 : w.heap.size + 1 ≤ w2.heap.size := by have := hb.size; omega
    have HD := Lib.hid (delfL_any (w.heap.size + 1) g c' l w2 108 #[.pointer (some ⟨w.heap.size, 0, none⟩)] (fun x => decide (x.un < now)) hl (ho.lower (by omega)) enters_run1 (fun W x hx hW => by
      refine run1_any w.heap.size now x W ?_ (by have := hW.size; omega)
      rw [hW.cell_far ⟨w.heap.size, 0, none⟩ (by show w.heap.size < _; omega) (by simp; omega)]
      exact hQ2))
    rw [show (l.filter (fun x => !decide (x.un < now))) = live l now from rfl, ← Hm.out, ← HM.out, ← HN.out] at HD
    clear hown ho hb HC hQ2
    rw [← HN.out]
    go_wp2_with fail
    refine HD.out.mono ?_
    rintro e w3 ⟨rfl, ho3, hg3⟩
    have HB3 := Lib.hid (HB2.out.trans (grown_upto hg3 (show w.heap.size ≤ g by omega) (by omega)))
    have HO3 := Lib.hid (ho3.lower (show w.heap.size ≤ w.heap.size + 1 by omega)).own
    rw [← HM.out] at HO3
    clear hg3 ho3 HD
    go_wp2_with fail
    go_ret
    exact ⟨_, rfl, HO3.out, HB3.out⟩
end Go.Proofs.YtjainfehlbfiaaaGreat

namespace Go.Proofs.YtjainfehlbfiaaaGreat
open Go.RowKit Go.Shelf

theorem look_len {l : List Ls} {now : Int} (h : lookL l now = 0) : l.length ≤ 20 := by
  unfold lookL at h
  by_cases h1 : 20 < l.length
  · rw [if_pos h1] at h; exact absurd h (by decide)
  · omega
theorem live_len (l : List Ls) (now : Int) : (live l now).length ≤ l.length := List.length_filter_le _ _

set_option maxHeartbeats 8000000 in
set_option maxRecDepth 100000 in
theorem drop_ok (a : Option Addr) (c : Nat) (l : List Ls) (now : Int) (w : World) (hs : Lies lsE w a l) (h0 : lookL l now = 0) :
    Calls Tryz.prog 62 #[.slice a l.length c, .int .i64 now] w fun e w' => ∃ v', e = .returned (.tuple #[v', .int .i64 ((l.length : Int) - ((live l now).length : Int)), .int .i64 0]) ∧ w'.ownsRow w.heap.size 106 lsE.k v' (live l now).length (rowOf lsE (live l now)) ∧ Below w.heap.size w w' := by
  have hl := look_len h0
  have hM := live_len l now
  have HK := Lib.hid (llook_any a c l now w hs)
  have HR : Hid (∀ w' : World, Below w.heap.size w w' → Calls Tryz.prog 87 #[.slice a l.length c, .int .i64 now] w' fun e w'' => ∃ v', e = .returned v' ∧ w''.ownsRow w.heap.size 106 lsE.k v' (live l now).length (rowOf lsE (live l now)) ∧ Below w'.heap.size w' w'') := fun w' hb => (running_any a c l now w' hl (hs.below hb)).mono fun e w'' h => by
    obtain ⟨v', e1, h1, h2⟩ := h
    exact ⟨v', e1, row_base h1 hb.size, h2⟩
  rw [h0] at HK
  obtain ⟨m, hm⟩ : ∃ m, m = live l now := ⟨_, rfl⟩
  rw [← hm] at HR hM ⊢
  obtain ⟨N, hN⟩ : ∃ N, N = l.length := ⟨_, rfl⟩
  rw [← hN] at HK HR hl hM ⊢
  obtain ⟨M, hMM⟩ : ∃ M, M = m.length := ⟨_, rfl⟩
  have HMM := Lib.hid hMM
  rw [← hMM] at HR hM ⊢
  clear hs h0 hm hN hMM
  go_enter Tryz.func62, Tryz.ntmps62
  go_wp2_with fail
  refine HK.out.mono ?_
  rintro e w2 ⟨rfl, hb⟩
  have HB := Lib.hid hb
  clear hb HK
  go_wp2_with fail
  refine (HR.out _ HB.out).mono ?_
  rintro e w3 ⟨v', rfl, hown, hb⟩
  have HB3 := Lib.hid (btr HB.out hb)
  clear hb HR HB
  rw [HMM.out] at hown
  rcases own_form hown with ⟨rfl, hnil⟩ | ⟨g, c', rfl, ho⟩
  · obtain rfl : M = 0 := by rw [HMM.out, hnil]; rfl
    have HO := Lib.hid hown
    rw [← HMM.out] at HO
    clear hown hnil
    go_wp2_with fail
    refine bodyPost_ret (v := .tuple #[.slice none 0 0, .int .i64 ((N : Int) - ((0 : Nat) : Int)), .int .i64 0]) ?_ rfl ⟨_, rfl, HO.out, HB3.out⟩
    simp [results, Tryz.results62, go_sem]
  · have HO := Lib.hid hown
    rw [← HMM.out] at HO ⊢
    clear hown ho
    go_wp2_with fail
    refine bodyPost_ret (v := .tuple #[.slice (some ⟨g, 0, none⟩) M c', .int .i64 ((N : Int) - (M : Int)), .int .i64 0]) ?_ rfl ⟨_, rfl, HO.out, HB3.out⟩
    simp [results, Tryz.results62, go_sem]
set_option maxHeartbeats 8000000 in
set_option maxRecDepth 100000 in
theorem drop_bad (a : Option Addr) (c : Nat) (l : List Ls) (now : Int) (w : World) (hs : Lies lsE w a l) (h0 : ¬ lookL l now = 0) :
    Calls Tryz.prog 62 #[.slice a l.length c, .int .i64 now] w fun e w' => e = .returned (.tuple #[.slice none 0 0, .int .i64 0, .int .i64 (lookL l now)]) ∧ Below w.heap.size w w' := by
  have HK := Lib.hid (llook_any a c l now w hs)
  have hI : (lookL l now != 0) = true := by rw [bne_iff_ne]; exact h0
  generalize lookL l now = r at *
  generalize l.length = N at *
  clear hs h0
  go_enter Tryz.func62, Tryz.ntmps62
  go_wp2_with fail
  refine HK.out.mono ?_
  rintro e w2 ⟨rfl, hb⟩
  go_wp2_with fail
  refine bodyPost_ret (v := .tuple #[.slice none 0 0, .int .i64 0, .int .i64 r]) ?_ rfl ⟨rfl, hb⟩
  simp [results, Tryz.results62, go_sem]
end Go.Proofs.YtjainfehlbfiaaaGreat

namespace Go.Proofs.YtjainfehlbfiaaaGreat
open Go.RowKit

/-- More than sixteen addresses? -/
def wideB (v : Bool) (b : Int) : Bool := decide (4 < wid v - b)
theorem mask_wide : ∀ n : Fin 129, decide ((16 : Int) ≤ 2 ^ (min n.val 64) - 1) = decide (4 < n.val) := by decide +kernel
theorem wide_iff {v : Bool} {hi lo b : Int} (r : Right v hi lo b) : decide ((16 : Int) ≤ IntKind.u64.wrap (laL v lo b - lo)) = wideB v b := by
  have c0 := (right_iff v hi lo b r.h0 r.h1 r.l0 r.l1).2 r
  have hw : wid v ≤ 128 := by unfold wid; split <;> omega
  have b0 := r.b0
  have b1 := r.b1
  have e : fsL v lo b = lo := by
    rcases pchk_cases v hi lo b with ⟨_, _, _, _, _, e2⟩ | k | k
    · exact e2
    · omega
    · omega
  have hm : laL v lo b - lo = 2 ^ (min (wid v - b).toNat 64) - 1 := by
    unfold laL mask
    rw [e]; omega
  have hp : ∀ n : Nat, n ≤ 64 → IntKind.u64.wrap ((2 : Int) ^ n - 1) = 2 ^ n - 1 := fun n hn => by
    have h1 : (0 : Int) < 2 ^ n := Int.pow_pos (by decide)
    have h2 : (2 : Int) ^ n ≤ 2 ^ 64 := by
      have : (2 : Nat) ^ n ≤ 2 ^ 64 := Nat.pow_le_pow_right (by decide) hn
      have h4 := Int.ofNat_le.2 this
      rw [pow_cast, pow_cast] at h4
      exact h4
    have h3 : (2 : Int) ^ 64 = 18446744073709551616 := by decide
    generalize (2 : Int) ^ n = x at *
    have : (x - 1) % 18446744073709551616 = x - 1 := by omega
    simp [IntKind.wrap, IntKind.bits, IntKind.signed, this]
  rw [hm, hp _ (by omega)]
  have := mask_wide ⟨(wid v - b).toNat, by omega⟩
  simp only at this
  rw [this]
  unfold wideB
  exact decide_eq_decide.2 (by omega)

set_option maxHeartbeats 8000000 in
theorem wide_any (v : Bool) (hi lo b : Int) (w : World) (r : Right v hi lo b) : Calls Tryz.prog 43 #[.agg #[.bool v, .int .u64 hi, .int .u64 lo, .int .i64 b]] w fun e w' => e = .returned (.bool (wideB v b)) ∧ Below w.heap.size w w' := by
  have c0 := (right_iff v hi lo b r.h0 r.h1 r.l0 r.l1).2 r
  have hE : Hid (∀ w : World, Calls Tryz.prog 58 #[.agg #[.bool v, .int .u64 hi, .int .u64 lo, .int .i64 b]] w fun e w' => e = .returned (.tuple #[.agg #[.bool v, .int .u64 hi, .int .u64 lo], .agg #[.bool v, .int .u64 (laH v hi b), .int .u64 (laL v lo b)], .int .i64 0]) ∧ Below w.heap.size w w') := fun w => ends_ok v hi lo b w r.h0 r.h1 r.l0 r.l1 c0
  have HW := Lib.hid (wide_iff r)
  have HB := Lib.hid (bal (Below.refl w.heap.size w) (.cells #[.bool v, .int .u64 hi, .int .u64 lo, .int .i64 b] 31))
  generalize wideB v b = R at *
  generalize laH v hi b = r1 at *
  generalize laL v lo b = r2 at *
  clear r c0
  go_enter Tryz.func43, Tryz.ntmps43
  go_wp2_with fail
  refine (hE.out _).mono ?_
  rintro e w2 ⟨rfl, hb⟩
  have HB2 := Lib.hid (bal (bal (btr HB.out hb) (.cells #[.bool v, .int .u64 hi, .int .u64 lo] 29)) (.cells #[.bool v, .int .u64 r1, .int .u64 r2] 29))
  clear hb HB hE
  go_wp2
  go_ret
  exact ⟨congrArg (fun r => Ending.returned (Value.bool r)) HW.out, HB2.out⟩

/-- What is wrong with those that are kept back, behind the one ahead (if there is one). -/
def keptE (p : Pf) : Option Ad → List Ad → Int
  | _, [] => 0
  | none, x :: r => if chk x.v x.hi x.lo = 0 then (if p.inA x.v x.hi x.lo = true then keptE p (some x) r else 5) else chk x.v x.hi x.lo
  | some q, x :: r => if chk x.v x.hi x.lo = 0 then (if p.inA x.v x.hi x.lo = true then (if q.less x = true then keptE p (some x) r else 4) else 5) else chk x.v x.hi x.lo
def poolE (p : Pf) (kept : List Ad) : Int := if p.chk = 0 then (if wideB p.v p.b = true ∨ 6 < kept.length then 2 else keptE p none kept) else p.chk
theorem keptE_nil (p : Pf) (q : Option Ad) : keptE p q [] = 0 := by cases q <;> rfl
def prevA (l : List Ad) (k : Nat) : Option Ad := if k = 0 then none else l[k - 1]?
theorem prevA_succ (l : List Ad) (k : Nat) (h : k < l.length) : prevA l (k + 1) = some l[k] := by simp [prevA, h]
theorem keepP {w W W' : World} {pb g xb o : Nat} {s x0 x1 x2 y0 y1 y2 : Value}
    (h : (W.cell? ⟨pb, 4, none⟩ = some s ∧ pb < W.heap.size) ∧ (W.cell? ⟨g, o, none⟩ = some x0 ∧ W.cell? ⟨g, o + 1, none⟩ = some x1 ∧ W.cell? ⟨g, o + 2, none⟩ = some x2 ∧ g < W.heap.size) ∧ (W.cell? ⟨xb, 0, none⟩ = some y0 ∧ W.cell? ⟨xb, 1, none⟩ = some y1 ∧ W.cell? ⟨xb, 2, none⟩ = some y2 ∧ xb < W.heap.size) ∧ Below w.heap.size w W) (hb : Below W.heap.size W W') :
    (W'.cell? ⟨pb, 4, none⟩ = some s ∧ pb < W'.heap.size) ∧ (W'.cell? ⟨g, o, none⟩ = some x0 ∧ W'.cell? ⟨g, o + 1, none⟩ = some x1 ∧ W'.cell? ⟨g, o + 2, none⟩ = some x2 ∧ g < W'.heap.size) ∧ (W'.cell? ⟨xb, 0, none⟩ = some y0 ∧ W'.cell? ⟨xb, 1, none⟩ = some y1 ∧ W'.cell? ⟨xb, 2, none⟩ = some y2 ∧ xb < W'.heap.size) ∧ Below w.heap.size w W' := by
  obtain ⟨⟨a0, a1⟩, ⟨b0, b1, b2, b3⟩, ⟨c0, c1, c2, c3⟩, hw⟩ := h
  have k := (bcell hb).1
  have z := hb.size
  exact ⟨⟨by rw [k _ _ a1]; exact a0, by omega⟩, ⟨by rw [k _ _ b3]; exact b0, by rw [k _ _ b3]; exact b1, by rw [k _ _ b3]; exact b2, by omega⟩, ⟨by rw [k _ _ c3]; exact c0, by rw [k _ _ c3]; exact c1, by rw [k _ _ c3]; exact c2, by omega⟩, btr hw hb⟩

set_option maxHeartbeats 16000000 in
set_option maxRecDepth 100000 in
theorem pool_any (p : Pf) (hp : p.Ok) (a : Option Addr) (c : Nat) (l : List Ad) (w : World) (hs : Lies adE w a l) :
    Calls Tryz.prog 35 #[.agg #[.bool p.v, .int .u64 p.hi, .int .u64 p.lo, .int .i64 p.b, .slice a l.length c]] w fun e w' => e = .returned (.int .i64 (poolE p l)) ∧ Below w.heap.size w w' := by
  obtain ⟨i0, i1, l0, l1⟩ := hp
  have HP := Lib.hid (Has5.new w (.bool p.v) (.int .u64 p.hi) (.int .u64 p.lo) (.int .i64 p.b) (.slice a l.length c) 87)
  have HB := Lib.hid (bal (Below.refl w.heap.size w) (.cells #[.bool p.v, .int .u64 p.hi, .int .u64 p.lo, .int .i64 p.b, .slice a l.length c] 87))
  have hC : Hid (∀ w : World, Calls Tryz.prog 42 #[.agg #[.bool p.v, .int .u64 p.hi, .int .u64 p.lo, .int .i64 p.b]] w fun e w' => e = .returned (.int .i64 p.chk) ∧ Below w.heap.size w w') := fun w => pcheck_any p.v p.hi p.lo p.b w i0 i1 l0 l1
  obtain ⟨R, hR⟩ : ∃ R, R = poolE p l := ⟨_, rfl⟩
  rw [← hR]
  have HR := Lib.hid hR
  have HL := Lib.hid hs
  obtain ⟨N, hN⟩ : ∃ N, N = l.length := ⟨_, rfl⟩
  rw [← hN] at HP HB ⊢
  have HN := Lib.hid hN
  clear hR hs hN
  by_cases hc : p.chk = 0
  · have hr : Right p.v p.hi p.lo p.b := (right_iff _ _ _ _ i0 i1 l0 l1).1 hc
    have hW : Hid (∀ w : World, Calls Tryz.prog 43 #[.agg #[.bool p.v, .int .u64 p.hi, .int .u64 p.lo, .int .i64 p.b]] w fun e w' => e = .returned (.bool (wideB p.v p.b)) ∧ Below w.heap.size w w') := fun w => wide_any p.v p.hi p.lo p.b w hr
    have hI : Hid (∀ (x : Ad) (w : World), Calls Tryz.prog 44 #[.agg #[.bool x.v, .int .u64 x.hi, .int .u64 x.lo], .agg #[.bool p.v, .int .u64 p.hi, .int .u64 p.lo, .int .i64 p.b]] w fun e w' => e = .returned (.bool (p.inA x.v x.hi x.lo)) ∧ Below w.heap.size w w') := fun x w => within_any x.v x.hi x.lo p.v p.hi p.lo p.b w x.ok.1.1 x.ok.2.1 i0 i1 l0 l1 hc
    have HR1 : Hid (R = if wideB p.v p.b = true ∨ 6 < N then 2 else keptE p none l) := by rw [Hid, HR.out, poolE, if_pos hc, HN.out]
    rw [hc] at hC
    clear HR hr i0 i1 l0 l1 hc
    generalize wideB p.v p.b = wb at *
    cases wb
    · by_cases h6 : 6 < N
      · have HE : Hid (R = 2) := by rw [Hid, HR1.out, if_pos (.inr h6)]
        have h6' : (6 : Int) < (N : Int) := by omega
        generalize p.v = v at *
        generalize p.hi = hi at *
        generalize p.lo = lo at *
        generalize p.b = b at *
        go_enter Tryz.func35, Tryz.ntmps35
        go_wp2_with fail
        refine (hC.out _).mono ?_
        rintro e w2 ⟨rfl, hb⟩
        obtain ⟨p0, p1, p2, p3, p4, p5⟩ := HP.out.below hb
        have HP2 := Lib.hid (HP.out.below hb)
        replace HB := Lib.hid (btr HB.out hb)
        clear hb hC
        go_wp2_with fail
        refine (hW.out _).mono ?_
        rintro e w3 ⟨rfl, hb⟩
        clear p0 p1 p2 p3 p4 p5
        obtain ⟨p0, p1, p2, p3, p4, p5⟩ := HP2.out.below hb
        replace HB := Lib.hid (btr HB.out hb)
        clear hb hW HP2 HP
        go_wp2_with fail
        go_ret
        exact ⟨congrArg (fun r => Ending.returned (Value.int .i64 r)) HE.out.symm, HB.out⟩
      · have HR2 : Hid (R = keptE p none l) := by rw [Hid, HR1.out, if_neg (by simp; omega)]
        have hd6 : decide ((6 : Int) < (N : Int)) = false := decide_eq_false (by omega)
        have hN6 : N ≤ 6 := by omega
        have hIn : Hid (∀ (x : Ad) (w : World), Calls Tryz.prog 44 #[.agg #[.bool x.v, .int .u64 x.hi, .int .u64 x.lo], .agg #[.bool p.v, .int .u64 p.hi, .int .u64 p.lo, .int .i64 p.b]] w fun e w' => e = .returned (.bool (p.inA x.v x.hi x.lo)) ∧ Below w.heap.size w w') := hI
        clear hI HR1 h6
        generalize p.v = v at *
        generalize p.hi = hi at *
        generalize p.lo = lo at *
        generalize p.b = b at *
        go_enter Tryz.func35, Tryz.ntmps35
        go_wp2_with fail
        refine (hC.out _).mono ?_
        rintro e w2 ⟨rfl, hb⟩
        replace HP := Lib.hid (HP.out.below hb)
        replace HB := Lib.hid (btr HB.out hb)
        clear hb hC
        obtain ⟨p0, p1, p2, p3, p4, p5⟩ := HP.out
        go_wp2_with fail
        refine (hW.out _).mono ?_
        rintro e w3 ⟨rfl, hb⟩
        clear p0 p1 p2 p3 p4 p5
        replace HP := Lib.hid (HP.out.below hb)
        replace HB := Lib.hid (btr HB.out hb)
        clear hb hW
        obtain ⟨p0, p1, p2, p3, p4, p5⟩ := HP.out
        go_wp2_with fail
        clear p0 p1 p2 p3 p4 p5
        go_loopw [25] (fun vi wr => ∃ k : Nat, vi = .int .i64 k ∧ k ≤ N ∧ Hid (Has5 wr w.heap.size (.bool v) (.int .u64 hi) (.int .u64 lo) (.int .i64 b) (.slice a N c)) ∧ Hid (Below w.heap.size w wr) ∧ Hid (R = keptE p (prevA l k) (l.drop k)))
          (fun vi _ => N - (intOf vi).toNat)
        case atStart => exact ⟨0, rfl, Nat.zero_le _, HP, HB, HR2⟩
        case round =>
          clear HP HB HR2
          obtain ⟨k, rfl, hk, HP, HB, hh⟩ := hrel
          by_cases hkN : k < N
          · have hkl : k < l.length := by have := HN.out; omega
            obtain ⟨g, o, rfl, hg, c0, c1, c2⟩ := HL.out.ad k hkl
            rw [← (bcell HB.out).1 _ _ hg] at c0 c1 c2
            have hgr : g < wr.heap.size := Nat.lt_of_lt_of_le hg HB.out.size
            have hdec := hh.out
            rw [List.drop_eq_getElem_cons hkl] at hdec
            obtain ⟨x, hx⟩ : ∃ x, x = l[k] := ⟨_, rfl⟩
            rw [← hx] at c0 c1 c2 hdec
            have hnx : prevA l (k + 1) = some x := by rw [hx]; exact prevA_succ l k hkl
            have hCk : Hid (∀ w : World, Calls Tryz.prog 36 #[.agg #[.bool x.v, .int .u64 x.hi, .int .u64 x.lo]] w fun e w' => e = .returned (.int .i64 (chk x.v x.hi x.lo)) ∧ ∃ c, w' = w.alloc (.cells c 29)) := fun w => check_any x.v x.hi x.lo w x.ok.1.1 x.ok.2.1
            have hIx := Lib.hid (fun w => hIn.out x w)
            have hkz : (k : Int) < (N : Int) := by omega
            have hk0 : (0 : Int) ≤ (k : Int) := by omega
            have HX1 := Lib.hid (Has3.new wr (.bool x.v) (.int .u64 x.hi) (.int .u64 x.lo) 29)
            have HB1 := Lib.hid (bal HB.out (.cells #[.bool x.v, .int .u64 x.hi, .int .u64 x.lo] 29))
            have HP1 := Lib.hid (HP.out.alloc (.cells #[.bool x.v, .int .u64 x.hi, .int .u64 x.lo] 29))
            -- the one ahead
            have HSt : Hid (chk x.v x.hi x.lo = 0 → p.inA x.v x.hi x.lo = true → k = 0 → R = keptE p (prevA l (k + 1)) (l.drop (k + 1))) := by
              intro e1 e2 e3
              subst e3
              rw [hdec, hnx, show prevA l 0 = none from rfl, keptE, if_pos e1, if_pos e2]
            have HS0 : Hid (¬ chk x.v x.hi x.lo = 0 → R = chk x.v x.hi x.lo) := by
              intro e1
              rw [hdec]
              cases prevA l k <;> rw [keptE, if_neg e1]
            have HS1 : Hid (chk x.v x.hi x.lo = 0 → ¬ p.inA x.v x.hi x.lo = true → R = 5) := by
              intro e1 e2
              rw [hdec]
              cases prevA l k <;> rw [keptE, if_pos e1, if_neg e2]
            have HS2 : Hid (chk x.v x.hi x.lo = 0 → p.inA x.v x.hi x.lo = true → ∀ m (hm : m < l.length), k = m + 1 → R = if l[m].less x = true then keptE p (prevA l (k + 1)) (l.drop (k + 1)) else 4) := by
              intro e1 e2 m hm e3
              subst e3
              rw [hdec, hnx, prevA_succ l m hm, keptE, if_pos e1, if_pos e2]
            have HLs : Hid (∀ m (hm : m < l.length) (w : World), Calls Tryz.prog 45 #[.agg #[.bool l[m].v, .int .u64 l[m].hi, .int .u64 l[m].lo], .agg #[.bool x.v, .int .u64 x.hi, .int .u64 x.lo]] w fun e w' => e = .returned (.bool (l[m].less x)) ∧ Below w.heap.size w w') :=
              fun m hm w => oless_any l[m].v x.v l[m].hi l[m].lo x.hi x.lo w l[m].ok.1.1 l[m].ok.2.1 x.ok.1.1 x.ok.2.1
            have HLl : Hid (∀ m, k = m + 1 → ∃ (hm : m < l.length) (y : Ad), y = l[m] ∧ wr.cell? ⟨g, o + m * 3, none⟩ = some (.bool y.v) ∧ wr.cell? ⟨g, o + m * 3 + 1, none⟩ = some (.int .u64 y.hi) ∧ wr.cell? ⟨g, o + m * 3 + 2, none⟩ = some (.int .u64 y.lo)) := by
              intro m hm
              have hml : m < l.length := by omega
              obtain ⟨g', o', e', _, d0, d1, d2⟩ := HL.out.ad m hml
              obtain ⟨rfl, rfl⟩ : g = g' ∧ o = o' := by simpa using e'
              rw [← (bcell HB.out).1 _ _ hg] at d0 d1 d2
              exact ⟨hml, l[m], rfl, d0, d1, d2⟩
            have hgH := Lib.hid hgr
            clear hdec hnx hh hx hgr hg HL hIn HB HP
            generalize hr1 : chk x.v x.hi x.lo = r1 at *
            generalize hr2 : p.inA x.v x.hi x.lo = r2 at *
            by_cases hc0 : r1 = 0
            · subst hc0
              clear HS0
              cases r2
              · have HE := Lib.hid (HS1.out rfl (by decide))
                clear HSt HS1 HS2 HLs HLl hr1 hr2
                generalize x.v = xv at *
                generalize x.hi = xh at *
                generalize x.lo = xl at *
                go_wp2_with fail
                refine (hCk.out _).mono ?_
                rintro e w4 ⟨rfl, cc, rfl⟩
                obtain ⟨q0, q1, q2, q3⟩ := HX1.out.alloc (.cells cc 29)
                obtain ⟨p0, p1, p2, p3, p4, p5⟩ := HP1.out.alloc (.cells cc 29)
                replace HB1 := Lib.hid (bal HB1.out (.cells cc 29))
                generalize (wr.alloc (.cells #[.bool xv, .int .u64 xh, .int .u64 xl] 29)).alloc (.cells cc 29) = w4 at *
                go_wp2_with fail
                refine (hIx.out _).mono ?_
                rintro e w5 ⟨rfl, hb⟩
                replace HB1 := Lib.hid (btr HB1.out hb)
                clear hb p0 p1 p2 p3 p4 p5 q0 q1 q2 q3
                go_wp2_with fail
                go_ret
                exact ⟨congrArg (fun r => Ending.returned (Value.int .i64 r)) HE.out.symm, HB1.out⟩
              · by_cases hk00 : k = 0
                · subst hk00
                  simp only [Nat.zero_mul, Nat.add_zero] at c0 c1 c2
                  have HE := Lib.hid (HSt.out rfl rfl rfl)
                  clear HSt HS1 HS2 HLs HLl hr1 hr2
                  have hdk : decide ((0 : Int) < ((0 : Nat) : Int)) = false := by decide
                  generalize x.v = xv at *
                  generalize x.hi = xh at *
                  generalize x.lo = xl at *
                  go_wp2_with fail
                  refine (hCk.out _).mono ?_
                  rintro e w4 ⟨rfl, cc, rfl⟩
                  replace HX1 := Lib.hid (HX1.out.alloc (.cells cc 29))
                  replace HP1 := Lib.hid (HP1.out.alloc (.cells cc 29))
                  replace HB1 := Lib.hid (bal HB1.out (.cells cc 29))
                  have HB0 := Lib.hid (bal (bal (Below.refl wr.heap.size wr) (.cells #[.bool xv, .int .u64 xh, .int .u64 xl] 29)) (.cells cc 29))
                  generalize (wr.alloc (.cells #[.bool xv, .int .u64 xh, .int .u64 xl] 29)).alloc (.cells cc 29) = w4 at *
                  obtain ⟨q0, q1, q2, q3⟩ := HX1.out
                  obtain ⟨p0, p1, p2, p3, p4, p5⟩ := HP1.out
                  go_wp2_with fail
                  refine (hIx.out _).mono ?_
                  rintro e w5 ⟨rfl, hb⟩
                  clear p0 p1 p2 p3 p4 p5 q0 q1 q2 q3
                  replace HX1 := Lib.hid (HX1.out.below hb)
                  replace HP1 := Lib.hid (HP1.out.below hb)
                  replace HB1 := Lib.hid (btr HB1.out hb)
                  replace HB0 := Lib.hid (btr HB0.out hb)
                  clear hb hIx hCk
                  obtain ⟨q0, q1, q2, q3⟩ := HX1.out
                  obtain ⟨p0, p1, p2, p3, p4, p5⟩ := HP1.out
                  go_wp2_with fail
                  go_region
                  all_goals go_wp2_with fail
                  go_roundw
                  case rel => exact ⟨0 + 1, by go_num, by omega, HP1, HB1.out.drew, HE⟩
                  case measure => simp [intOf]; omega
                · obtain ⟨m, rfl⟩ : ∃ m, k = m + 1 := ⟨k - 1, by omega⟩
                  obtain ⟨hml, y, hy, d0, d1, d2⟩ := HLl.out m rfl
                  have HE := Lib.hid (HS2.out rfl rfl m hml rfl)
                  have hLm := Lib.hid (fun w => HLs.out m hml w)
                  rw [← hy] at HE hLm
                  clear HSt HS1 HS2 HLs HLl hr1 hr2 hy
                  generalize y.less x = r3 at *
                  generalize x.v = xv at *
                  generalize x.hi = xh at *
                  generalize x.lo = xl at *
                  generalize y.v = yv at *
                  generalize y.hi = yh at *
                  generalize y.lo = yl at *
                  go_wp2_with fail
                  refine (hCk.out _).mono ?_
                  rintro e w4 ⟨rfl, cc, rfl⟩
                  replace HX1 := Lib.hid (HX1.out.alloc (.cells cc 29))
                  replace HP1 := Lib.hid (HP1.out.alloc (.cells cc 29))
                  replace HB1 := Lib.hid (bal HB1.out (.cells cc 29))
                  have HB0 := Lib.hid (bal (bal (Below.refl wr.heap.size wr) (.cells #[.bool xv, .int .u64 xh, .int .u64 xl] 29)) (.cells cc 29))
                  generalize (wr.alloc (.cells #[.bool xv, .int .u64 xh, .int .u64 xl] 29)).alloc (.cells cc 29) = w4 at *
                  obtain ⟨q0, q1, q2, q3⟩ := HX1.out
                  obtain ⟨p0, p1, p2, p3, p4, p5⟩ := HP1.out
                  go_wp2_with fail
                  refine (hIx.out _).mono ?_
                  rintro e w5 ⟨rfl, hb⟩
                  clear p0 p1 p2 p3 p4 p5 q0 q1 q2 q3
                  replace HX1 := Lib.hid (HX1.out.below hb)
                  replace HP1 := Lib.hid (HP1.out.below hb)
                  replace HB1 := Lib.hid (btr HB1.out hb)
                  replace HB0 := Lib.hid (btr HB0.out hb)
                  clear hb hIx hCk
                  obtain ⟨q0, q1, q2, q3⟩ := HX1.out
                  obtain ⟨p0, p1, p2, p3, p4, p5⟩ := HP1.out
                  have hm1 : (0 : Int) ≤ (m : Int) := by omega
                  have hm2 : (m : Int) < (N : Int) := by omega
                  have hm3 : (0 : Int) < (m : Int) + 1 := by omega
                  have hwr : IntKind.i64.wrap ((m : Int) + 1 - 1) = (m : Int) := by rw [IntKind.wrap_i64]; omega
                  have hwr2 : IntKind.i64.wrap (m : Int) = (m : Int) := by rw [IntKind.wrap_i64]; omega
                  rw [← (bcell HB0.out).1 _ _ hgH.out] at d0 d1 d2
                  have hg5 : g < w5.heap.size := Nat.lt_of_lt_of_le hgH.out HB0.out.size
                  have HSd := Lib.hid (keepP (w := w) ⟨⟨p4, p5⟩, ⟨d0, d1, d2, hg5⟩, ⟨q0, q1, q2, q3⟩, HB1.out⟩ (Below.refl _ _).drew)
                  clear d0 d1 d2 p0 p1 p2 p3 p4 p5 q0 q1 q2 q3 hg5
                  cases r3
                  · have HE2 : Hid (R = 4) := by rw [Hid, HE.out]; rfl
                    clear HE
                    go_wp2_with fail
                    go_region_held3 (fun w' => (w'.cell? ⟨w.heap.size, 4, none⟩ = some (.slice (some ⟨g, o, none⟩) N c) ∧ w.heap.size < w'.heap.size) ∧ (w'.cell? ⟨g, o + m * 3, none⟩ = some (.bool yv) ∧ w'.cell? ⟨g, o + m * 3 + 1, none⟩ = some (.int .u64 yh) ∧ w'.cell? ⟨g, o + m * 3 + 2, none⟩ = some (.int .u64 yl) ∧ g < w'.heap.size) ∧ (w'.cell? ⟨wr.heap.size, 0, none⟩ = some (.bool xv) ∧ w'.cell? ⟨wr.heap.size, 1, none⟩ = some (.int .u64 xh) ∧ w'.cell? ⟨wr.heap.size, 2, none⟩ = some (.int .u64 xl) ∧ wr.heap.size < w'.heap.size) ∧ Below w.heap.size w w')
                      (first | with_reducible exact HSd.out | with_reducible exact HSe.out | fail)
                      ((go_at_call 45; refine (hLm.out _).mono ?_; rintro e wx ⟨rfl, hb⟩; have HSe := Lib.hid (keepP HSd.out hb); have HPe := Lib.hid (HP1.out.below ((Below.refl _ _).drew.trans hb)); clear hb))
                    have HB2 := Lib.hid HSe.out.2.2.2
                    clear HSe HSd
                    go_wp2_with fail
                    go_ret
                    exact ⟨congrArg (fun r => Ending.returned (Value.int .i64 r)) HE2.out.symm, HB2.out⟩
                  · have HE2 := Lib.hid (HE.out.trans (if_pos rfl))
                    clear HE
                    go_wp2_with fail
                    go_region_held3 (fun w' => (w'.cell? ⟨w.heap.size, 4, none⟩ = some (.slice (some ⟨g, o, none⟩) N c) ∧ w.heap.size < w'.heap.size) ∧ (w'.cell? ⟨g, o + m * 3, none⟩ = some (.bool yv) ∧ w'.cell? ⟨g, o + m * 3 + 1, none⟩ = some (.int .u64 yh) ∧ w'.cell? ⟨g, o + m * 3 + 2, none⟩ = some (.int .u64 yl) ∧ g < w'.heap.size) ∧ (w'.cell? ⟨wr.heap.size, 0, none⟩ = some (.bool xv) ∧ w'.cell? ⟨wr.heap.size, 1, none⟩ = some (.int .u64 xh) ∧ w'.cell? ⟨wr.heap.size, 2, none⟩ = some (.int .u64 xl) ∧ wr.heap.size < w'.heap.size) ∧ Below w.heap.size w w')
                      (first | with_reducible exact HSd.out | with_reducible exact HSe.out | fail)
                      ((go_at_call 45; refine (hLm.out _).mono ?_; rintro e wx ⟨rfl, hb⟩; have HSe := Lib.hid (keepP HSd.out hb); have HPe := Lib.hid (HP1.out.below ((Below.refl _ _).drew.trans hb)); clear hb))
                    have HB2 := Lib.hid HSe.out.2.2.2
                    clear HSe HSd
                    go_wp2_with fail
                    go_roundw
                    case rel => exact ⟨m + 1 + 1, by go_num, by omega, HPe, HB2, HE2⟩
                    case measure => simp [intOf]; omega
            · have HE := Lib.hid (HS0.out hc0)
              have hI1 : (r1 != 0) = true := by rw [bne_iff_ne]; exact hc0
              clear HSt HS1 HS2 HLs HLl HS0 hr1 hr2 hc0
              generalize x.v = xv at *
              generalize x.hi = xh at *
              generalize x.lo = xl at *
              go_wp2_with fail
              refine (hCk.out _).mono ?_
              rintro e w4 ⟨rfl, cc, rfl⟩
              replace HB1 := Lib.hid (bal HB1.out (.cells cc 29))
              go_wp2_with fail
              go_ret
              exact ⟨congrArg (fun r => Ending.returned (Value.int .i64 r)) HE.out.symm, HB1.out⟩
          · obtain rfl : k = N := by omega
            have hkk : ¬ (k : Int) < (k : Int) := by omega
            have hd := hh.out
            rw [List.drop_eq_nil_of_le (by have := HN.out; omega), keptE_nil] at hd
            have HE := Lib.hid hd
            clear hd hh
            go_wp2_with fail
            go_ret
            exact ⟨congrArg (fun r => Ending.returned (Value.int .i64 r)) HE.out.symm, HB.out⟩
    · have HE : Hid (R = 2) := by rw [Hid, HR1.out, if_pos (.inl rfl)]
      generalize p.v = v at *
      generalize p.hi = hi at *
      generalize p.lo = lo at *
      generalize p.b = b at *
      go_enter Tryz.func35, Tryz.ntmps35
      go_wp2_with fail
      refine (hC.out _).mono ?_
      rintro e w2 ⟨rfl, hb⟩
      obtain ⟨p0, p1, p2, p3, p4, p5⟩ := HP.out.below hb
      replace HB := Lib.hid (btr HB.out hb)
      clear hb hC
      go_wp2_with fail
      refine (hW.out _).mono ?_
      rintro e w3 ⟨rfl, hb⟩
      replace HB := Lib.hid (btr HB.out hb)
      clear hb hW p0 p1 p2 p3 p4 p5
      go_wp2_with fail
      go_ret
      exact ⟨congrArg (fun r => Ending.returned (Value.int .i64 r)) HE.out.symm, HB.out⟩
  · have HE : Hid (R = p.chk) := by rw [Hid, HR.out, poolE, if_neg hc]
    have hI : (p.chk != 0) = true := by rw [bne_iff_ne]; exact hc
    clear hc HR
    generalize p.chk = r at *
    generalize p.v = v at *
    generalize p.hi = hi at *
    generalize p.lo = lo at *
    generalize p.b = b at *
    go_enter Tryz.func35, Tryz.ntmps35
    go_wp2_with fail
    refine (hC.out _).mono ?_
    rintro e w2 ⟨rfl, hb⟩
    go_wp2_with fail
    go_ret
    exact ⟨congrArg (fun r => Ending.returned (Value.int .i64 r)) HE.out.symm, btr HB.out hb⟩
end Go.Proofs.YtjainfehlbfiaaaGreat

namespace Go.Proofs.YtjainfehlbfiaaaGreat
open Go.RowKit Go.Maps Go.Shelf

def Ls.hasWho (s : ByteArray) (x : Ls) : Bool := decide (x.who = s)
/-- What is wrong, lease by lease, behind those ahead. -/
def chkOf (p : Pf) : List Ls → List Ls → Int
  | _, [] => 0
  | h, x :: r => if p.inA x.a.v x.a.hi x.a.lo = true then (if h.any (Ls.hasWho x.who) = true then 6 else chkOf p (h ++ [x]) r) else 5
def checkE (p : Pf) (kept : List Ad) (l : List Ls) (now : Int) : Int := if poolE p kept = 0 then (if lookL l now = 0 then chkOf p [] l else lookL l now) else poolE p kept
/-- The map of names that were met, behind k rounds. -/
def Dw (l : List Ls) : Nat → DataW Unit
  | 0 => .map []
  | k + 1 => match l[k]? with
    | some x => (Dw l k).put (.string x.who.data.toList) (.lit (.int .i64 (k : Int)))
    | none => Dw l k
theorem Dw_isMap (l : List Ls) : ∀ k, IsMap (Dw l k)
  | 0 => ⟨[], rfl⟩
  | k + 1 => by
    have h := Dw_isMap l k
    rw [Dw]
    split
    · obtain ⟨es, he⟩ := h; rw [he]; exact ⟨_, rfl⟩
    · exact h
theorem Dw_succ (l : List Ls) (k : Nat) (h : k < l.length) : Dw l (k + 1) = (Dw l k).put (.string l[k].who.data.toList) (.lit (.int .i64 (k : Int))) := by rw [Dw, List.getElem?_eq_getElem h]
theorem bytes_same {a b : ByteArray} (h : a.data.toList = b.data.toList) : a = b := by
  cases a; cases b; simp at h; subst h; rfl
theorem Dw_has (l : List Ls) (s : ByteArray) : ∀ k, k ≤ l.length → Maps.has (Dw l k) (.string s.data.toList) = (l.take k).any (Ls.hasWho s)
  | 0, _ => by simp [Dw, Maps.has]
  | k + 1, hk => by
    have ih := Dw_has l s k (by omega)
    rw [Dw_succ l k (by omega), List.take_succ_eq_append_getElem (by omega), List.any_append, ← ih]
    by_cases h : l[k].who = s
    · subst h
      rw [has_put_same (Dw_isMap l k) (by trivial)]
      simp [Ls.hasWho]
    · rw [has_put_other (by intro e; injection e with e; exact h (bytes_same e).symm)]
      simp [Ls.hasWho, h]
theorem ownsMapS_below {w w' : World} {b n : Nat} {D : DataW Unit} (h : w.ownsMap Tryz.prog 9 (plainElem Tryz.prog 3) b n D) (hb : Below w.heap.size w w') : w'.ownsMap Tryz.prog 9 (plainElem Tryz.prog 3) b n D := by
  have hlt := h.lt
  obtain ⟨es, clock, hh, r⟩ := h
  exact ⟨es, clock, (hb.block b hlt).trans hh, r⟩
theorem Has5.far {w w' : World} {row : Option Nat} {p : Nat} {x0 x1 x2 x3 x4 : Value} (h : Has5 w p x0 x1 x2 x3 x4) (hg : w.grownBy w' row) (hr : row ≠ some p) : Has5 w' p x0 x1 x2 x3 x4 := by
  obtain ⟨a, b, c, d, e, f⟩ := h
  have k : ∀ o, w'.cell? ⟨p, o, none⟩ = w.cell? ⟨p, o, none⟩ := fun o => hg.cell_far _ f (fun h => hr h.symm)
  exact ⟨by rw [k]; exact a, by rw [k]; exact b, by rw [k]; exact c, by rw [k]; exact d, by rw [k]; exact e, Nat.lt_of_lt_of_le f hg.size⟩
theorem keySt : Keyed Tryz.prog 9 := string_keyed Tryz.underlying9
theorem zeroIn (w : World) : (zeroValue 3).run Tryz.prog w = .ok (.int .i64 0) w := by kernel_rfl
theorem rgt_all {l : List Ls} (h : rgtAll l = 0) : ∀ x ∈ l, x.rgt = 0 := by
  induction l with
  | nil => simp
  | cons y r ih =>
    rw [rgtAll] at h
    by_cases hy : y.rgt = 0
    · rw [if_pos hy] at h
      intro x hx
      rcases List.mem_cons.1 hx with rfl | hx
      · exact hy
      · exact ih h x hx
    · rw [if_neg hy] at h; exact absurd h hy
theorem look_rgt {l : List Ls} {now : Int} (h : lookL l now = 0) : ∀ x ∈ l, x.rgt = 0 := by
  unfold lookL at h
  by_cases h1 : 20 < l.length
  · rw [if_pos h1] at h; exact absurd h (by decide)
  · rw [if_neg h1] at h
    by_cases h2 : rgtAll l = 0
    · exact rgt_all h2
    · rw [if_neg h2] at h; exact absurd h h2
theorem rgt_who {x : Ls} (h : x.rgt = 0) : whoB x.who = true := by
  unfold Ls.rgt at h
  by_cases h1 : chk x.a.v x.a.hi x.a.lo = 0
  · rw [if_pos h1] at h
    by_cases h2 : whoB x.who = true
    · exact h2
    · rw [if_neg h2] at h; exact absurd h (by decide)
  · rw [if_neg h1] at h; exact absurd h h1
theorem who_size {s : ByteArray} (h : whoB s = true) : s.size ≤ 8 := by
  simp [whoB] at h; omega

theorem lookL_len20 {l : List Ls} {now : Int} (h : lookL l now = 0) : l.length ≤ 20 := by
  unfold lookL at h
  by_cases h1 : 20 < l.length
  · rw [if_pos h1] at h; exact absurd h (by decide)
  · omega

set_option maxHeartbeats 16000000 in
set_option maxRecDepth 100000 in
theorem check_ls (p : Pf) (hp : p.Ok) (ka : Option Addr) (kc : Nat) (kept : List Ad) (a : Option Addr) (c : Nat) (l : List Ls) (now : Int) (w : World) (hk : Lies adE w ka kept) (hs : Lies lsE w a l) :
    Calls Tryz.prog 99 #[.agg #[.bool p.v, .int .u64 p.hi, .int .u64 p.lo, .int .i64 p.b, .slice ka kept.length kc], .slice a l.length c, .int .i64 now] w fun e w' => e = .returned (.int .i64 (checkE p kept l now)) ∧ Below w.heap.size w w' := by
  have hmm := @run_makeMap Tryz.prog
  have HP := Lib.hid (Has5.new w (.bool p.v) (.int .u64 p.hi) (.int .u64 p.lo) (.int .i64 p.b) (.slice ka kept.length kc) 87)
  have HB := Lib.hid (bal (Below.refl w.heap.size w) (.cells #[.bool p.v, .int .u64 p.hi, .int .u64 p.lo, .int .i64 p.b, .slice ka kept.length kc] 87))
  have HC : Hid (∀ w' : World, Below w.heap.size w w' → Calls Tryz.prog 35 #[.agg #[.bool p.v, .int .u64 p.hi, .int .u64 p.lo, .int .i64 p.b, .slice ka kept.length kc]] w' fun e w'' => e = .returned (.int .i64 (poolE p kept)) ∧ Below w'.heap.size w' w'') := fun w' hb => pool_any p hp ka kc kept w' (hk.below hb)
  have HK : Hid (∀ w' : World, Below w.heap.size w w' → Calls Tryz.prog 86 #[.slice a l.length c, .int .i64 now] w' fun e w'' => e = .returned (.int .i64 (lookL l now)) ∧ Below w'.heap.size w' w'') := fun w' hb => llook_any a c l now w' (hs.below hb)
  obtain ⟨R, hR⟩ : ∃ R, R = checkE p kept l now := ⟨_, rfl⟩
  rw [← hR]
  have HR := Lib.hid hR
  have HL := Lib.hid hs
  obtain ⟨N, hN⟩ : ∃ N, N = l.length := ⟨_, rfl⟩
  rw [← hN] at HK ⊢
  have HN := Lib.hid hN
  obtain ⟨i0, i1, l0, l1⟩ := hp
  unfold checkE at HR
  generalize hr0 : poolE p kept = r0 at *
  generalize kept.length = KN at *
  generalize hr1 : lookL l now = r1 at *
  by_cases h0 : r0 = 0
  · subst h0
    rw [if_pos rfl] at HR
    have hpc : p.chk = 0 := by
      unfold poolE at hr0
      by_cases hc : p.chk = 0
      · exact hc
      · rw [if_neg hc] at hr0; exact absurd hr0 hc
    have hI : Hid (∀ (x : Ad) (w : World), Calls Tryz.prog 44 #[.agg #[.bool x.v, .int .u64 x.hi, .int .u64 x.lo], .agg #[.bool p.v, .int .u64 p.hi, .int .u64 p.lo, .int .i64 p.b]] w fun e w' => e = .returned (.bool (p.inA x.v x.hi x.lo)) ∧ Below w.heap.size w w') := fun x w => within_any x.v x.hi x.lo p.v p.hi p.lo p.b w x.ok.1.1 x.ok.2.1 i0 i1 l0 l1 hpc
    clear hk hs hR hN i0 i1 l0 l1 hr0 hpc
    by_cases h1 : r1 = 0
    · subst h1
      rw [if_pos rfl] at HR
      have hN20 : N ≤ 20 := by have := lookL_len20 hr1; have := HN.out; omega
      have HW : Hid (∀ x ∈ l, x.who.size ≤ 8) := fun x hx => who_size (rgt_who (look_rgt hr1 x hx))
      clear hr1
      generalize p.v = v at *
      generalize p.hi = hi at *
      generalize p.lo = lo at *
      generalize p.b = b at *
      go_enter Tryz.func99, Tryz.ntmps99
      go_wp2_with fail
      refine (HC.out _ HB.out).mono ?_
      rintro e w2 ⟨rfl, hb⟩
      replace HP := Lib.hid (HP.out.below hb)
      replace HB := Lib.hid (btr HB.out hb)
      clear hb HC
      go_wp2_with fail
      refine (HK.out _ HB.out).mono ?_
      rintro e w3 ⟨rfl, hb⟩
      replace HP := Lib.hid (HP.out.below hb)
      replace HB := Lib.hid (btr HB.out hb)
      have hw3 : w.heap.size < w3.heap.size := HP.out.2.2.2.2.2
      clear hb HK
      go_wp2_with fail
      go_loopw [28] (fun vi wr => ∃ k : Nat, vi = .int .i64 k ∧ k ≤ N ∧ Hid (Has5 wr w.heap.size (.bool v) (.int .u64 hi) (.int .u64 lo) (.int .i64 b) (.slice ka KN kc)) ∧ Hid (wr.ownsMap Tryz.prog 9 (plainElem Tryz.prog 3) w3.heap.size k (Dw l k)) ∧ Hid (Below w.heap.size w wr) ∧ Hid (R = chkOf p (l.take k) (l.drop k)))
        (fun vi _ => N - (intOf vi).toNat)
      case atStart => exact ⟨0, rfl, Nat.zero_le _, HP.out.alloc _, World.ownsMap_made _ _ _ _, bal HB.out _, HR⟩
      case round =>
        clear HP HB HR
        obtain ⟨k, rfl, hk, HP, HM, HB, hh⟩ := hrel
        by_cases hkN : k < N
        · have hkl : k < l.length := by have := HN.out; omega
          obtain ⟨g, o, rfl, hg, c0, c1, c2, c3, c4⟩ := HL.out.ls k hkl
          rw [← (bcell HB.out).1 _ _ hg] at c0 c1 c2 c3 c4
          have hdec := hh.out
          rw [List.drop_eq_getElem_cons hkl, chkOf] at hdec
          have hDs := Dw_succ l k hkl
          have hDh := Dw_has l l[k].who k (by omega)
          have hsz := HW.out l[k] (List.getElem_mem hkl)
          have htk : l.take (k + 1) = l.take k ++ [l[k]] := List.take_succ_eq_append_getElem hkl
          obtain ⟨x, hx⟩ : ∃ x, x = l[k] := ⟨_, rfl⟩
          rw [← hx] at c0 c1 c2 c3 c4 hdec hDs hDh hsz htk
          have hIx := Lib.hid (fun w => hI.out x.a w)
          have hkey : keyOf Tryz.prog 9 (.string x.who) = some (.string x.who.data.toList) := Go.WideMaps.keyOf_string_mk Tryz.underlying9 (by unfold maxLen; omega)
          have HKey := Lib.hid hkey
          have hkz : (k : Int) < (N : Int) := by omega
          have hk0 : (0 : Int) ≤ (k : Int) := by omega
          have HX := Lib.hid (Has5.new wr (.bool x.a.v) (.int .u64 x.a.hi) (.int .u64 x.a.lo) (.string x.who) (.int .i64 x.un) 106)
          replace HP := Lib.hid (HP.out.alloc (.cells #[.bool x.a.v, .int .u64 x.a.hi, .int .u64 x.a.lo, .string x.who, .int .i64 x.un] 106))
          replace HB := Lib.hid (bal HB.out (.cells #[.bool x.a.v, .int .u64 x.a.hi, .int .u64 x.a.lo, .string x.who, .int .i64 x.un] 106))
          replace HM := Lib.hid (HM.out.alloc (.cells #[.bool x.a.v, .int .u64 x.a.hi, .int .u64 x.a.lo, .string x.who, .int .i64 x.un] 106))
          have HDs := Lib.hid hDs
          have HDh := Lib.hid hDh
          have HTk := Lib.hid htk
          clear hDs hDh htk hh hx hkey hsz hg HL HW hI
          generalize p.inA x.a.v x.a.hi x.a.lo = r2 at *
          generalize (l.take k).any (Ls.hasWho x.who) = r3 at *
          have HDec := Lib.hid hdec
          clear hdec
          cases r2
          · have HE : Hid (R = 5) := by rw [Hid, HDec.out, if_neg (by decide)]
            clear HDec HDs HDh HTk HKey
            generalize x.a.v = xv at *
            generalize x.a.hi = xh at *
            generalize x.a.lo = xl at *
            generalize x.who = xw at *
            generalize x.un = xu at *
            obtain ⟨p0, p1, p2, p3, p4, p5⟩ := HP.out
            go_wp2_with fail
            refine (hIx.out _).mono ?_
            rintro e w5 ⟨rfl, hb⟩
            replace HB := Lib.hid (btr HB.out hb)
            clear hb p0 p1 p2 p3 p4 p5
            go_wp2_with fail
            go_ret
            exact ⟨congrArg (fun r => Ending.returned (Value.int .i64 r)) HE.out.symm, HB.out⟩
          · rw [if_pos rfl] at HDec
            cases r3
            · have HE : Hid (R = chkOf p (l.take (k + 1)) (l.drop (k + 1))) := by rw [Hid, HDec.out, if_neg (by decide), HTk.out]
              have hh := HDh.out
              clear HDec HTk HDh
              generalize Dw l k = D at *
              obtain ⟨D', hD'⟩ : ∃ D', D' = Dw l (k + 1) := ⟨_, rfl⟩
              rw [← hD'] at HDs
              have HD' := Lib.hid hD'
              clear hD'
              generalize x.a.v = xv at *
              generalize x.a.hi = xh at *
              generalize x.a.lo = xl at *
              generalize x.who = xw at *
              generalize x.un = xu at *
              obtain ⟨p0, p1, p2, p3, p4, p5⟩ := HP.out
              go_wp2_with fail
              refine (hIx.out _).mono ?_
              rintro e w5 ⟨rfl, hb⟩
              clear p0 p1 p2 p3 p4 p5
              replace HP := Lib.hid (HP.out.below hb)
              replace HB := Lib.hid (btr HB.out hb)
              replace HM := Lib.hid (ownsMapS_below HM.out hb)
              obtain ⟨x0, x1, x2, x3, x4, x5⟩ := HX.out.below hb
              clear hb HX hIx
              go_wp2_with (first
                | (at_lookup; refine wpList_lookup_own_ok_int _ rfl _ _ 163 rfl 9 3 .i64 keySt Tryz.underlying163 Tryz.underlying3 (zeroIn _) w3.heap.size k _ rfl HM.out _ _ rfl HKey.out ?_; intro cc hat hwc; rw [hh]; clear hat hwc hh)
                | (at_mapUpdate; refine wpList_mapUpdate_own _ rfl _ _ _ 163 rfl 9 3 keySt Tryz.underlying163 _ w3.heap.size k _ rfl HM.out (by unfold maxLen; omega) _ _ _ rfl rfl HKey.out _ [] (plainElem_int Tryz.underlying3 (WalkArith.wf_i64 (by omega))) ?_; intro w1 hown1 hgrow1))
              go_roundw
              case rel => exact ⟨k + 1, by go_num, by omega, HP.out.far hgrow1 (by simp; omega), by rw [← HD'.out, HDs.out]; exact Lib.hid hown1, HB.out.grown hgrow1 HB.out.size (fun j hj => by cases hj; omega), HE⟩
              case measure => simp [intOf]; omega
            · have HE : Hid (R = 6) := by rw [Hid, HDec.out, if_pos rfl]
              have hh := HDh.out
              clear HDec HTk HDh HDs
              generalize Dw l k = D at *
              generalize x.a.v = xv at *
              generalize x.a.hi = xh at *
              generalize x.a.lo = xl at *
              generalize x.who = xw at *
              generalize x.un = xu at *
              obtain ⟨p0, p1, p2, p3, p4, p5⟩ := HP.out
              go_wp2_with fail
              refine (hIx.out _).mono ?_
              rintro e w5 ⟨rfl, hb⟩
              clear p0 p1 p2 p3 p4 p5
              replace HB := Lib.hid (btr HB.out hb)
              replace HM := Lib.hid (ownsMapS_below HM.out hb)
              obtain ⟨x0, x1, x2, x3, x4, x5⟩ := HX.out.below hb
              clear hb HX hIx
              go_wp2_with (at_lookup; refine wpList_lookup_own_ok_int _ rfl _ _ 163 rfl 9 3 .i64 keySt Tryz.underlying163 Tryz.underlying3 (zeroIn _) w3.heap.size k _ rfl HM.out _ _ rfl HKey.out ?_; intro cc hat hwc; rw [hh]; clear hat hwc hh)
              go_ret
              exact ⟨congrArg (fun r => Ending.returned (Value.int .i64 r)) HE.out.symm, HB.out⟩
        · obtain rfl : k = N := by omega
          have hkk : ¬ (k : Int) < (k : Int) := by omega
          have hd := hh.out
          rw [List.drop_eq_nil_of_le (by have := HN.out; omega), chkOf] at hd
          have HE := Lib.hid hd
          clear hd hh
          go_wp2_with fail
          go_ret
          exact ⟨congrArg (fun r => Ending.returned (Value.int .i64 r)) HE.out.symm, HB.out⟩
    · rw [if_neg h1] at HR
      have hI1 : (r1 != 0) = true := by rw [bne_iff_ne]; exact h1
      clear h1 hr1
      generalize p.v = v at *
      generalize p.hi = hi at *
      generalize p.lo = lo at *
      generalize p.b = b at *
      go_enter Tryz.func99, Tryz.ntmps99
      go_wp2_with fail
      refine (HC.out _ HB.out).mono ?_
      rintro e w2 ⟨rfl, hb⟩
      replace HB := Lib.hid (btr HB.out hb)
      clear hb HC
      go_wp2_with fail
      refine (HK.out _ HB.out).mono ?_
      rintro e w3 ⟨rfl, hb⟩
      replace HB := Lib.hid (btr HB.out hb)
      clear hb HK
      go_wp2_with fail
      go_ret
      exact ⟨congrArg (fun r => Ending.returned (Value.int .i64 r)) HR.out.symm, HB.out⟩
  · rw [if_neg h0] at HR
    have hI0 : (r0 != 0) = true := by rw [bne_iff_ne]; exact h0
    clear h0 hr0 hr1 hk hs hR hN i0 i1 l0 l1
    generalize p.v = v at *
    generalize p.hi = hi at *
    generalize p.lo = lo at *
    generalize p.b = b at *
    go_enter Tryz.func99, Tryz.ntmps99
    go_wp2_with fail
    refine (HC.out _ HB.out).mono ?_
    rintro e w2 ⟨rfl, hb⟩
    go_wp2_with fail
    go_ret
    exact ⟨congrArg (fun r => Ending.returned (Value.int .i64 r)) HR.out.symm, btr HB.out hb⟩
end Go.Proofs.YtjainfehlbfiaaaGreat
