/- Entries of a log as plain words; log.follows, log.Check; slices.IndexFunc, ContainsFunc, Clone at entries. -/
import Derived.Test.YtjainfehlbfiaaaGreatQ03
import Derived.Test.YtjainfehlbfiaaaGreatQ02
import Derived.Shelf.Abstract
set_option linter.unusedVariables false
set_option linter.unusedSimpArgs false
namespace Go.Proofs.YtjainfehlbfiaaaGreat
open Go.RowKit

/-- An entry of a log. -/
structure En where
  num : Int
  ep : Int
  o : Opd
theorem En.same {x y : En} (h0 : x.num = y.num) (h1 : x.ep = y.ep) (h2 : x.o = y.o) : x = y := by
  cases x; cases y; simp at h0 h1 h2; subst h0; subst h1; subst h2; rfl
def enE : Enc En := ⟨13, fun x => [.int .i64 x.num, .int .i64 x.ep, .int .i64 x.o.k, .bool x.o.p.v, .int .u64 x.o.p.hi, .int .u64 x.o.p.lo, .int .i64 x.o.p.b, .bool x.o.a.v, .int .u64 x.o.a.hi, .int .u64 x.o.a.lo, .string x.o.who, .int .i64 x.o.pof, .int .i64 x.o.n], by decide, fun _ => rfl, fun x u hu => by simp at hu; rcases hu with rfl | rfl | rfl | rfl | rfl | rfl | rfl | rfl | rfl | rfl | rfl | rfl | rfl <;> rfl⟩
theorem Lies.has {α : Type} {E : Enc α} {w : World} {a : Option Addr} {l : List α} (h : Lies E w a l) (j : Nat) (hj : j < l.length) : ∃ g o : Nat, a = some ⟨g, o, none⟩ ∧ HasL w g (o + j * E.k) (E.f l[j]) := by
  obtain ⟨g, o, e, hg, c⟩ := h j hj
  exact ⟨g, o, e, c, hg⟩
theorem Lies.en {w : World} {a : Option Addr} {l : List En} (h : Lies enE w a l) (j : Nat) (hj : j < l.length) : ∃ g o : Nat, a = some ⟨g, o, none⟩ ∧ g < w.heap.size ∧ w.cell? ⟨g, o + j * 13, none⟩ = some (.int .i64 l[j].num) ∧ w.cell? ⟨g, o + j * 13 + 1, none⟩ = some (.int .i64 l[j].ep) ∧ w.cell? ⟨g, o + j * 13 + 2, none⟩ = some (.int .i64 l[j].o.k) ∧ w.cell? ⟨g, o + j * 13 + 3, none⟩ = some (.bool l[j].o.p.v) ∧ w.cell? ⟨g, o + j * 13 + 4, none⟩ = some (.int .u64 l[j].o.p.hi) ∧ w.cell? ⟨g, o + j * 13 + 5, none⟩ = some (.int .u64 l[j].o.p.lo) ∧ w.cell? ⟨g, o + j * 13 + 6, none⟩ = some (.int .i64 l[j].o.p.b) ∧ w.cell? ⟨g, o + j * 13 + 7, none⟩ = some (.bool l[j].o.a.v) ∧ w.cell? ⟨g, o + j * 13 + 8, none⟩ = some (.int .u64 l[j].o.a.hi) ∧ w.cell? ⟨g, o + j * 13 + 9, none⟩ = some (.int .u64 l[j].o.a.lo) ∧ w.cell? ⟨g, o + j * 13 + 10, none⟩ = some (.string l[j].o.who) ∧ w.cell? ⟨g, o + j * 13 + 11, none⟩ = some (.int .i64 l[j].o.pof) ∧ w.cell? ⟨g, o + j * 13 + 12, none⟩ = some (.int .i64 l[j].o.n) := by
  obtain ⟨g, o, e, c, hg⟩ := h.has j hj
  exact ⟨g, o, e, hg, c 0 _ rfl, c 1 _ rfl, c 2 _ rfl, c 3 _ rfl, c 4 _ rfl, c 5 _ rfl, c 6 _ rfl, c 7 _ rfl, c 8 _ rfl, c 9 _ rfl, c 10 _ rfl, c 11 _ rfl, c 12 _ rfl⟩
/-- The epoch of the last entry; 0, if there is none. -/
def tailE (l : List En) : Int := match l.getLast? with | some x => x.ep | none => 0
/-- May an entry stand behind these? -/
def follE (l : List En) (n : En) : Int :=
  if n.num = (l.length : Int) + 1 then (if n.ep < 1 ∨ 999 < n.ep then 3 else if n.ep < tailE l then 4 else formE n.o) else 4
theorem keepE {w W W' : World} {b : Nat} {v0 v1 v2 v3 v4 v5 v6 v7 v8 v9 v10 v11 v12 : Value} (h : (W.cell? ⟨b, 0, none⟩ = some (v0) ∧ W.cell? ⟨b, 1, none⟩ = some (v1) ∧ W.cell? ⟨b, 2, none⟩ = some (v2) ∧ W.cell? ⟨b, 3, none⟩ = some (v3) ∧ W.cell? ⟨b, 4, none⟩ = some (v4) ∧ W.cell? ⟨b, 5, none⟩ = some (v5) ∧ W.cell? ⟨b, 6, none⟩ = some (v6) ∧ W.cell? ⟨b, 7, none⟩ = some (v7) ∧ W.cell? ⟨b, 8, none⟩ = some (v8) ∧ W.cell? ⟨b, 9, none⟩ = some (v9) ∧ W.cell? ⟨b, 10, none⟩ = some (v10) ∧ W.cell? ⟨b, 11, none⟩ = some (v11) ∧ W.cell? ⟨b, 12, none⟩ = some (v12) ∧ b < W.heap.size) ∧ Below w.heap.size w W) (hb : Below W.heap.size W W') : (W'.cell? ⟨b, 0, none⟩ = some (v0) ∧ W'.cell? ⟨b, 1, none⟩ = some (v1) ∧ W'.cell? ⟨b, 2, none⟩ = some (v2) ∧ W'.cell? ⟨b, 3, none⟩ = some (v3) ∧ W'.cell? ⟨b, 4, none⟩ = some (v4) ∧ W'.cell? ⟨b, 5, none⟩ = some (v5) ∧ W'.cell? ⟨b, 6, none⟩ = some (v6) ∧ W'.cell? ⟨b, 7, none⟩ = some (v7) ∧ W'.cell? ⟨b, 8, none⟩ = some (v8) ∧ W'.cell? ⟨b, 9, none⟩ = some (v9) ∧ W'.cell? ⟨b, 10, none⟩ = some (v10) ∧ W'.cell? ⟨b, 11, none⟩ = some (v11) ∧ W'.cell? ⟨b, 12, none⟩ = some (v12) ∧ b < W'.heap.size) ∧ Below w.heap.size w W' := by
  obtain ⟨⟨a0, a1, a2, a3, a4, a5, a6, a7, a8, a9, a10, a11, a12, z⟩, hw⟩ := h
  have k := (bcell hb).1
  exact ⟨⟨by rw [k _ _ z]; exact a0, by rw [k _ _ z]; exact a1, by rw [k _ _ z]; exact a2, by rw [k _ _ z]; exact a3, by rw [k _ _ z]; exact a4, by rw [k _ _ z]; exact a5, by rw [k _ _ z]; exact a6, by rw [k _ _ z]; exact a7, by rw [k _ _ z]; exact a8, by rw [k _ _ z]; exact a9, by rw [k _ _ z]; exact a10, by rw [k _ _ z]; exact a11, by rw [k _ _ z]; exact a12, Nat.lt_of_lt_of_le z hb.size⟩, btr hw hb⟩
set_option maxHeartbeats 16000000 in
set_option maxRecDepth 100000 in
theorem follows_any (a : Option Addr) (c : Nat) (l : List En) (n : En) (w : World) (hl : l.length ≤ 1000) (hs : Lies enE w a l) :
    Calls Tryz.prog 27 #[.slice a l.length c, .agg #[.int .i64 n.num, .int .i64 n.ep, .int .i64 n.o.k, .bool n.o.p.v, .int .u64 n.o.p.hi, .int .u64 n.o.p.lo, .int .i64 n.o.p.b, .bool n.o.a.v, .int .u64 n.o.a.hi, .int .u64 n.o.a.lo, .string n.o.who, .int .i64 n.o.pof, .int .i64 n.o.n]] w fun e w' => e = .returned (.int .i64 (follE l n)) ∧ Below w.heap.size w w' := by
  have hF : Hid (∀ w : World, Calls Tryz.prog 31 #[.agg #[.int .i64 n.o.k, .bool n.o.p.v, .int .u64 n.o.p.hi, .int .u64 n.o.p.lo, .int .i64 n.o.p.b, .bool n.o.a.v, .int .u64 n.o.a.hi, .int .u64 n.o.a.lo, .string n.o.who, .int .i64 n.o.pof, .int .i64 n.o.n]] w fun e w' => e = .returned (.int .i64 (formE n.o)) ∧ Below w.heap.size w w') := fun w => sform_any n.o w
  have HB := Lib.hid (bal (Below.refl w.heap.size w) (.cells #[.int .i64 n.num, .int .i64 n.ep, .int .i64 n.o.k, .bool n.o.p.v, .int .u64 n.o.p.hi, .int .u64 n.o.p.lo, .int .i64 n.o.p.b, .bool n.o.a.v, .int .u64 n.o.a.hi, .int .u64 n.o.a.lo, .string n.o.who, .int .i64 n.o.pof, .int .i64 n.o.n] 68))
  have HL := Lib.hid hs
  unfold follE
  obtain ⟨N, hN⟩ : ∃ N, N = l.length := ⟨_, rfl⟩
  rw [← hN]
  have HN : Hid (N = l.length) := hN
  have hN1 : N ≤ 1000 := by omega
  have hN0 : (0 : Int) ≤ (N : Int) := by omega
  have hN3 : (N : Int) ≤ 1000 := by omega
  clear hN hs hl
  generalize formE n.o = fe at *
  generalize n.num = x0 at *
  generalize n.ep = x1 at *
  generalize n.o.k = x2 at *
  generalize n.o.p.v = x3 at *
  generalize n.o.p.hi = x4 at *
  generalize n.o.p.lo = x5 at *
  generalize n.o.p.b = x6 at *
  generalize n.o.a.v = x7 at *
  generalize n.o.a.hi = x8 at *
  generalize n.o.a.lo = x9 at *
  generalize n.o.who = x10 at *
  generalize n.o.pof = x11 at *
  generalize n.o.n = x12 at *
  by_cases h0 : x0 = (N : Int) + 1
  · rw [if_pos h0]
    have b0 : (x0 != (N : Int) + 1) = false := by simp [h0]
    clear h0
    by_cases h1 : x1 < 1
    · rw [if_pos (.inl h1)]
      go_enter Tryz.func27, Tryz.ntmps27
      go_wp2
      go_ret
      exact ⟨rfl, HB.out⟩
    have d1 : decide (x1 < 1) = false := decide_eq_false h1
    by_cases h2 : 999 < x1
    · rw [if_pos (.inr h2)]
      go_enter Tryz.func27, Tryz.ntmps27
      go_wp2
      go_ret
      exact ⟨rfl, HB.out⟩
    have d2 : decide (999 < x1) = false := decide_eq_false h2
    rw [if_neg (by omega)]
    by_cases hz : N = 0
    · have et : tailE l = 0 := by
        have : l = [] := List.length_eq_zero_iff.1 (by rw [← HN.out]; exact hz)
        rw [this]; rfl
      rw [et, if_neg (by omega)]
      subst hz
      clear et HL HN h1 h2
      go_enter Tryz.func27, Tryz.ntmps27
      go_wp2
      go_region
      go_wp2_with fail
      refine (hF.out _).mono ?_
      rintro e w3 ⟨rfl, hb3⟩
      go_wp2
      go_ret
      exact ⟨rfl, btr HB.out.drew hb3⟩
    · obtain ⟨m, hm⟩ : ∃ m, N = m + 1 := ⟨N - 1, by omega⟩
      have hml : m < l.length := by have := HN.out; omega
      have et : tailE l = l[m].ep := by
        unfold tailE
        rw [List.getLast?_eq_getElem?, show l.length - 1 = m by have := HN.out; omega, List.getElem?_eq_getElem hml]
      rw [et]
      obtain ⟨g, o, rfl, hg, q0, q1, q3⟩ := HL.out.en m hml
      clear q0 q3
      have hgn : g < (w.alloc (.cells #[.int .i64 x0, .int .i64 x1, .int .i64 x2, .bool x3, .int .u64 x4, .int .u64 x5, .int .i64 x6, .bool x7, .int .u64 x8, .int .u64 x9, .string x10, .int .i64 x11, .int .i64 x12] 68)).heap.size := by simp; omega
      have q2 : (w.alloc (.cells #[.int .i64 x0, .int .i64 x1, .int .i64 x2, .bool x3, .int .u64 x4, .int .u64 x5, .int .i64 x6, .bool x7, .int .u64 x8, .int .u64 x9, .string x10, .int .i64 x11, .int .i64 x12] 68)).cell? ⟨g, o + m * 13 + 1, none⟩ = some (.int .i64 l[m].ep) := by rw [(bcell (bal (Below.refl w.heap.size w) _)).1 _ _ hg]; exact q1
      have HQ := Lib.hid q2
      have hwr : IntKind.i64.wrap ((m : Int) + 1 - 1) = (m : Int) := by rw [IntKind.wrap_i64]; omega
      have hwr2 : IntKind.i64.wrap (m : Int) = (m : Int) := by rw [IntKind.wrap_i64]; omega
      have hm0 : (0 : Int) ≤ (m : Int) := by omega
      have hm1 : (m : Int) < (m : Int) + 1 := by omega
      have hmp : (0 : Int) < (m : Int) + 1 := by omega
      have hcast : ((N : Nat) : Int) = (m : Int) + 1 := by omega
      subst hm
      generalize l[m].ep = y at *
      clear et hz q1 q2 hg hml HL HN h1 h2
      obtain ⟨hh, hz⟩ := (HasL.new w [.int .i64 x0, .int .i64 x1, .int .i64 x2, .bool x3, .int .u64 x4, .int .u64 x5, .int .i64 x6, .bool x7, .int .u64 x8, .int .u64 x9, .string x10, .int .i64 x11, .int .i64 x12] 68)
      have S1 : Hid (((w.alloc (.cells #[.int .i64 x0, .int .i64 x1, .int .i64 x2, .bool x3, .int .u64 x4, .int .u64 x5, .int .i64 x6, .bool x7, .int .u64 x8, .int .u64 x9, .string x10, .int .i64 x11, .int .i64 x12] 68)).drew.cell? ⟨w.heap.size, 0, none⟩ = some (.int .i64 x0) ∧ (w.alloc (.cells #[.int .i64 x0, .int .i64 x1, .int .i64 x2, .bool x3, .int .u64 x4, .int .u64 x5, .int .i64 x6, .bool x7, .int .u64 x8, .int .u64 x9, .string x10, .int .i64 x11, .int .i64 x12] 68)).drew.cell? ⟨w.heap.size, 1, none⟩ = some (.int .i64 x1) ∧ (w.alloc (.cells #[.int .i64 x0, .int .i64 x1, .int .i64 x2, .bool x3, .int .u64 x4, .int .u64 x5, .int .i64 x6, .bool x7, .int .u64 x8, .int .u64 x9, .string x10, .int .i64 x11, .int .i64 x12] 68)).drew.cell? ⟨w.heap.size, 2, none⟩ = some (.int .i64 x2) ∧ (w.alloc (.cells #[.int .i64 x0, .int .i64 x1, .int .i64 x2, .bool x3, .int .u64 x4, .int .u64 x5, .int .i64 x6, .bool x7, .int .u64 x8, .int .u64 x9, .string x10, .int .i64 x11, .int .i64 x12] 68)).drew.cell? ⟨w.heap.size, 3, none⟩ = some (.bool x3) ∧ (w.alloc (.cells #[.int .i64 x0, .int .i64 x1, .int .i64 x2, .bool x3, .int .u64 x4, .int .u64 x5, .int .i64 x6, .bool x7, .int .u64 x8, .int .u64 x9, .string x10, .int .i64 x11, .int .i64 x12] 68)).drew.cell? ⟨w.heap.size, 4, none⟩ = some (.int .u64 x4) ∧ (w.alloc (.cells #[.int .i64 x0, .int .i64 x1, .int .i64 x2, .bool x3, .int .u64 x4, .int .u64 x5, .int .i64 x6, .bool x7, .int .u64 x8, .int .u64 x9, .string x10, .int .i64 x11, .int .i64 x12] 68)).drew.cell? ⟨w.heap.size, 5, none⟩ = some (.int .u64 x5) ∧ (w.alloc (.cells #[.int .i64 x0, .int .i64 x1, .int .i64 x2, .bool x3, .int .u64 x4, .int .u64 x5, .int .i64 x6, .bool x7, .int .u64 x8, .int .u64 x9, .string x10, .int .i64 x11, .int .i64 x12] 68)).drew.cell? ⟨w.heap.size, 6, none⟩ = some (.int .i64 x6) ∧ (w.alloc (.cells #[.int .i64 x0, .int .i64 x1, .int .i64 x2, .bool x3, .int .u64 x4, .int .u64 x5, .int .i64 x6, .bool x7, .int .u64 x8, .int .u64 x9, .string x10, .int .i64 x11, .int .i64 x12] 68)).drew.cell? ⟨w.heap.size, 7, none⟩ = some (.bool x7) ∧ (w.alloc (.cells #[.int .i64 x0, .int .i64 x1, .int .i64 x2, .bool x3, .int .u64 x4, .int .u64 x5, .int .i64 x6, .bool x7, .int .u64 x8, .int .u64 x9, .string x10, .int .i64 x11, .int .i64 x12] 68)).drew.cell? ⟨w.heap.size, 8, none⟩ = some (.int .u64 x8) ∧ (w.alloc (.cells #[.int .i64 x0, .int .i64 x1, .int .i64 x2, .bool x3, .int .u64 x4, .int .u64 x5, .int .i64 x6, .bool x7, .int .u64 x8, .int .u64 x9, .string x10, .int .i64 x11, .int .i64 x12] 68)).drew.cell? ⟨w.heap.size, 9, none⟩ = some (.int .u64 x9) ∧ (w.alloc (.cells #[.int .i64 x0, .int .i64 x1, .int .i64 x2, .bool x3, .int .u64 x4, .int .u64 x5, .int .i64 x6, .bool x7, .int .u64 x8, .int .u64 x9, .string x10, .int .i64 x11, .int .i64 x12] 68)).drew.cell? ⟨w.heap.size, 10, none⟩ = some (.string x10) ∧ (w.alloc (.cells #[.int .i64 x0, .int .i64 x1, .int .i64 x2, .bool x3, .int .u64 x4, .int .u64 x5, .int .i64 x6, .bool x7, .int .u64 x8, .int .u64 x9, .string x10, .int .i64 x11, .int .i64 x12] 68)).drew.cell? ⟨w.heap.size, 11, none⟩ = some (.int .i64 x11) ∧ (w.alloc (.cells #[.int .i64 x0, .int .i64 x1, .int .i64 x2, .bool x3, .int .u64 x4, .int .u64 x5, .int .i64 x6, .bool x7, .int .u64 x8, .int .u64 x9, .string x10, .int .i64 x11, .int .i64 x12] 68)).drew.cell? ⟨w.heap.size, 12, none⟩ = some (.int .i64 x12) ∧ (w.alloc (.cells #[.int .i64 x0, .int .i64 x1, .int .i64 x2, .bool x3, .int .u64 x4, .int .u64 x5, .int .i64 x6, .bool x7, .int .u64 x8, .int .u64 x9, .string x10, .int .i64 x11, .int .i64 x12] 68)).drew.cell? ⟨g, o + m * 13 + 1, none⟩ = some (.int .i64 y)) ∧ Below w.heap.size w (w.alloc (.cells #[.int .i64 x0, .int .i64 x1, .int .i64 x2, .bool x3, .int .u64 x4, .int .u64 x5, .int .i64 x6, .bool x7, .int .u64 x8, .int .u64 x9, .string x10, .int .i64 x11, .int .i64 x12] 68)).drew) := ⟨⟨hh 0 _ rfl, hh 1 _ rfl, hh 2 _ rfl, hh 3 _ rfl, hh 4 _ rfl, hh 5 _ rfl, hh 6 _ rfl, hh 7 _ rfl, hh 8 _ rfl, hh 9 _ rfl, hh 10 _ rfl, hh 11 _ rfl, hh 12 _ rfl, HQ.out⟩, HB.out.drew⟩
      clear HQ
      by_cases hy : x1 < y
      · rw [if_pos hy]
        go_enter Tryz.func27, Tryz.ntmps27
        go_wp2_with fail
        go_region_held3 (fun w' => (w'.cell? ⟨w.heap.size, 0, none⟩ = some (.int .i64 x0) ∧ w'.cell? ⟨w.heap.size, 1, none⟩ = some (.int .i64 x1) ∧ w'.cell? ⟨w.heap.size, 2, none⟩ = some (.int .i64 x2) ∧ w'.cell? ⟨w.heap.size, 3, none⟩ = some (.bool x3) ∧ w'.cell? ⟨w.heap.size, 4, none⟩ = some (.int .u64 x4) ∧ w'.cell? ⟨w.heap.size, 5, none⟩ = some (.int .u64 x5) ∧ w'.cell? ⟨w.heap.size, 6, none⟩ = some (.int .i64 x6) ∧ w'.cell? ⟨w.heap.size, 7, none⟩ = some (.bool x7) ∧ w'.cell? ⟨w.heap.size, 8, none⟩ = some (.int .u64 x8) ∧ w'.cell? ⟨w.heap.size, 9, none⟩ = some (.int .u64 x9) ∧ w'.cell? ⟨w.heap.size, 10, none⟩ = some (.string x10) ∧ w'.cell? ⟨w.heap.size, 11, none⟩ = some (.int .i64 x11) ∧ w'.cell? ⟨w.heap.size, 12, none⟩ = some (.int .i64 x12) ∧ w'.cell? ⟨g, o + m * 13 + 1, none⟩ = some (.int .i64 y)) ∧ Below w.heap.size w w')
          (with_reducible exact S1.out)
          (fail)
        go_wp2
        go_ret
        exact ⟨rfl, And.right (by assumption)⟩
      · rw [if_neg hy]
        have d3 : decide (x1 < y) = false := decide_eq_false hy
        go_enter Tryz.func27, Tryz.ntmps27
        go_wp2_with fail
        go_region_held3 (fun w' => (w'.cell? ⟨w.heap.size, 0, none⟩ = some (.int .i64 x0) ∧ w'.cell? ⟨w.heap.size, 1, none⟩ = some (.int .i64 x1) ∧ w'.cell? ⟨w.heap.size, 2, none⟩ = some (.int .i64 x2) ∧ w'.cell? ⟨w.heap.size, 3, none⟩ = some (.bool x3) ∧ w'.cell? ⟨w.heap.size, 4, none⟩ = some (.int .u64 x4) ∧ w'.cell? ⟨w.heap.size, 5, none⟩ = some (.int .u64 x5) ∧ w'.cell? ⟨w.heap.size, 6, none⟩ = some (.int .i64 x6) ∧ w'.cell? ⟨w.heap.size, 7, none⟩ = some (.bool x7) ∧ w'.cell? ⟨w.heap.size, 8, none⟩ = some (.int .u64 x8) ∧ w'.cell? ⟨w.heap.size, 9, none⟩ = some (.int .u64 x9) ∧ w'.cell? ⟨w.heap.size, 10, none⟩ = some (.string x10) ∧ w'.cell? ⟨w.heap.size, 11, none⟩ = some (.int .i64 x11) ∧ w'.cell? ⟨w.heap.size, 12, none⟩ = some (.int .i64 x12) ∧ w'.cell? ⟨g, o + m * 13 + 1, none⟩ = some (.int .i64 y)) ∧ Below w.heap.size w w')
          (with_reducible exact S1.out)
          (fail)
        clear S1
        go_wp2_with fail
        refine (hF.out _).mono ?_
        rintro e w3 ⟨rfl, hb3⟩
        go_wp2
        go_ret
        exact ⟨rfl, btr (And.right (by assumption)) hb3⟩
  · rw [if_neg h0]
    have b0 : (x0 != (N : Int) + 1) = true := by rw [bne_iff_ne]; exact h0
    go_enter Tryz.func27, Tryz.ntmps27
    go_wp2
    go_ret
    exact ⟨rfl, HB.out⟩
end Go.Proofs.YtjainfehlbfiaaaGreat

namespace Go.Proofs.YtjainfehlbfiaaaGreat
open Go.RowKit

/-- What is wrong with a log, behind these entries, which are right. -/
def logFrom : List En → List En → Int
  | _, [] => 0
  | done, x :: r => if follE done x = 0 then logFrom (done ++ [x]) r else follE done x
def logE (l : List En) : Int := if 30 < l.length then 2 else logFrom [] l

set_option maxHeartbeats 16000000 in
set_option maxRecDepth 100000 in
theorem lcheck_any (a : Option Addr) (c : Nat) (l : List En) (w : World) (hc : l.length ≤ c) (hs : Lies enE w a l) :
    Calls Tryz.prog 17 #[.slice a l.length c] w fun e w' => e = .returned (.int .i64 (logE l)) ∧ Below w.heap.size w w' := by
  by_cases hl : 30 < l.length
  · rw [show logE l = 2 by simp [logE, hl]]
    have hl' : (30 : Int) < (l.length : Int) := by omega
    generalize l.length = N at *
    go_enter Tryz.func17, Tryz.ntmps17
    go_wp2
    go_ret
    exact ⟨rfl, Below.refl _ _⟩
  rw [show logE l = logFrom [] l by simp [logE, hl]]
  obtain ⟨N, hN⟩ : ∃ N, N = l.length := ⟨_, rfl⟩
  rw [← hN] at hl hc ⊢
  have hN30 : N ≤ 30 := by omega
  have hd30 : decide ((30 : Int) < (N : Int)) = false := decide_eq_false (by omega)
  have HN : Hid (N = l.length) := hN
  have HL := Lib.hid hs
  obtain ⟨R, hR⟩ : ∃ R, R = logFrom [] l := ⟨_, rfl⟩
  rw [← hR]
  have HR := Lib.hid hR
  clear hN hl hs hR
  go_enter Tryz.func17, Tryz.ntmps17
  go_wp2_with fail
  go_loopw [11] (fun vi wr => ∃ k : Nat, vi = .int .i64 k ∧ k ≤ N ∧ Hid (Below w.heap.size w wr) ∧ Hid (R = logFrom (l.take k) (l.drop k)))
    (fun vi _ => N - (intOf vi).toNat)
  case atStart => exact ⟨0, rfl, Nat.zero_le _, Below.refl _ _, HR.out⟩
  case round =>
    clear HR
    obtain ⟨k, rfl, hk, hb, hh⟩ := hrel
    by_cases hkN : k < N
    · have hkl : k < l.length := by have := HN.out; omega
      obtain ⟨g, o, rfl, hg, c0, c1, c2, c3, c4, c5, c6, c7, c8, c9, c10, c11, c12⟩ := HL.out.en k hkl
      have hdec := hh.out
      rw [List.drop_eq_getElem_cons hkl, logFrom, show l.take k ++ [l[k]] = l.take (k + 1) by rw [List.take_succ_eq_append_getElem hkl]] at hdec
      rw [← (bcell hb.out).1 _ _ hg] at c0 c1 c2 c3 c4 c5 c6 c7 c8 c9 c10 c11 c12
      have hC : Hid (∀ W : World, Below w.heap.size w W → Calls Tryz.prog 27 #[.slice (some ⟨g, o, none⟩) k c, .agg #[.int .i64 l[k].num, .int .i64 l[k].ep, .int .i64 l[k].o.k, .bool l[k].o.p.v, .int .u64 l[k].o.p.hi, .int .u64 l[k].o.p.lo, .int .i64 l[k].o.p.b, .bool l[k].o.a.v, .int .u64 l[k].o.a.hi, .int .u64 l[k].o.a.lo, .string l[k].o.who, .int .i64 l[k].o.pof, .int .i64 l[k].o.n]] W fun e w' => e = .returned (.int .i64 (follE (l.take k) l[k])) ∧ Below W.heap.size W w') := fun W hW => by
        have h := follows_any (some ⟨g, o, none⟩) c (l.take k) l[k] W (by rw [List.length_take]; omega) ((HL.out.below hW).take k)
        rw [show (l.take k).length = k by rw [List.length_take]; omega] at h
        exact h
      have hb1 := Lib.hid (bal hb.out (.cells #[.int .i64 l[k].num, .int .i64 l[k].ep, .int .i64 l[k].o.k, .bool l[k].o.p.v, .int .u64 l[k].o.p.hi, .int .u64 l[k].o.p.lo, .int .i64 l[k].o.p.b, .bool l[k].o.a.v, .int .u64 l[k].o.a.hi, .int .u64 l[k].o.a.lo, .string l[k].o.who, .int .i64 l[k].o.pof, .int .i64 l[k].o.n] 68))
      have hkz : (k : Int) < (N : Int) := by omega
      have hk0 : (0 : Int) ≤ (k : Int) := by omega
      have hkc : (k : Int) ≤ (c : Int) := by omega
      generalize follE (l.take k) l[k] = r at *
      generalize hxe : l[k] = x at *
      clear hxe
      generalize x.num = x0 at *
      generalize x.ep = x1 at *
      generalize x.o.k = x2 at *
      generalize x.o.p.v = x3 at *
      generalize x.o.p.hi = x4 at *
      generalize x.o.p.lo = x5 at *
      generalize x.o.p.b = x6 at *
      generalize x.o.a.v = x7 at *
      generalize x.o.a.hi = x8 at *
      generalize x.o.a.lo = x9 at *
      generalize x.o.who = x10 at *
      generalize x.o.pof = x11 at *
      generalize x.o.n = x12 at *
      clear hh hb
      by_cases hx : r = 0
      · subst hx
        rw [if_pos rfl] at hdec
        have HD := Lib.hid hdec
        clear hdec
        go_wp2_with fail
        go_region_with (go_at_call 27; refine (hC.out _ hb1.out.drew).mono ?_; rintro e w2 ⟨rfl, hb2⟩)
        have hb3 := Lib.hid (btr hb1.out.drew hb2)
        clear hb1 hb2
        go_wp2_with fail
        go_roundw
        case rel => exact ⟨k + 1, by go_num, by omega, hb3, HD⟩
        case measure => simp [intOf]; omega
      · rw [if_neg hx] at hdec
        have HD : Hid (R = r) := hdec
        have hI : (r != 0) = true := by rw [bne_iff_ne]; exact hx
        clear hdec hx
        go_wp2_with fail
        go_region_with (go_at_call 27; refine (hC.out _ hb1.out.drew).mono ?_; rintro e w2 ⟨rfl, hb2⟩)
        have hb3 := Lib.hid (btr hb1.out.drew hb2)
        clear hb1 hb2
        go_wp2_with fail
        go_ret
        exact ⟨congrArg (fun r => Ending.returned (Value.int .i64 r)) HD.out.symm, hb3.out⟩
    · obtain rfl : k = N := by omega
      have hd := hh.out
      rw [List.drop_eq_nil_of_le (by have := HN.out; omega), logFrom] at hd
      have HD : Hid (R = 0) := hd
      have hkk : ¬ (k : Int) < (k : Int) := by omega
      clear hd hh
      go_wp2_with fail
      go_ret
      exact ⟨congrArg (fun r => Ending.returned (Value.int .i64 r)) HD.out.symm, hb.out⟩
end Go.Proofs.YtjainfehlbfiaaaGreat

namespace Go.Proofs.YtjainfehlbfiaaaGreat
open Go.RowKit

theorem any_idx {α : Type} (f : α → Bool) (l : List α) : decide ((0 : Int) ≤ idxI (l.findIdx? f)) = l.any f := by
  cases h : l.findIdx? f with
  | none =>
    have := List.findIdx?_eq_none_iff.1 h
    rw [show l.any f = false from List.any_eq_false.2 fun x hx => by rw [this x hx]; simp]
    rfl
  | some i =>
    obtain ⟨hi, hp, _⟩ := List.findIdx?_eq_some_iff_getElem.1 h
    rw [show l.any f = true from List.any_eq_true.2 ⟨_, List.getElem_mem hi, hp⟩]
    simp [idxI]
set_option maxHeartbeats 8000000 in
theorem ifnE_any (a : Option Addr) (c : Nat) (l : List En) (w : World) (f : Nat) (lb : Array Value) (p : En → Bool) (hl : l.length ≤ 1000) (hs : Lies enE w a l) (ef : ∀ args w, (callFunc f args).run Tryz.prog w = .ok (.enter f args) w)
    (hp : ∀ (W : World) (x : En), x ∈ l → Below w.heap.size w W → Calls Tryz.prog f (#[.agg #[.int .i64 x.num, .int .i64 x.ep, .int .i64 x.o.k, .bool x.o.p.v, .int .u64 x.o.p.hi, .int .u64 x.o.p.lo, .int .i64 x.o.p.b, .bool x.o.a.v, .int .u64 x.o.a.hi, .int .u64 x.o.a.lo, .string x.o.who, .int .i64 x.o.pof, .int .i64 x.o.n]] ++ lb) W fun e w' => e = .returned (.bool (p x)) ∧ Below w.heap.size w w') :
    Calls Tryz.prog 33 #[.slice a l.length c, .func (.func f) #[] lb] w fun e w' => e = .returned (.int .i64 (idxI (l.findIdx? p))) ∧ Below w.heap.size w w' := by
  obtain ⟨N, hN⟩ : ∃ N, N = l.length := ⟨_, rfl⟩
  rw [← hN] at hl ⊢
  have HN : Hid (N = l.length) := hN
  have HL := Lib.hid hs
  have HPr := Lib.hid hp
  obtain ⟨R, hR⟩ : ∃ R, R = idxI (l.findIdx? p) := ⟨_, rfl⟩
  rw [← hR]
  have HR := Lib.hid hR
  clear hN hs hp hR
  go_enter Tryz.func33, Tryz.ntmps33
  go_wp2_with fail
  go_loopw [8] (fun vi wr => ∃ k : Nat, vi = .int .i64 k ∧ k ≤ N ∧ Hid (Below w.heap.size w wr) ∧ Hid (∀ j (hj : j < k) (hl : j < l.length), p l[j] = false))
    (fun vi _ => N - (intOf vi).toNat)
  case atStart => exact ⟨0, rfl, Nat.zero_le _, Below.refl _ _, fun j hj => absurd hj (Nat.not_lt_zero _)⟩
  case round =>
    obtain ⟨k, rfl, hk, hb, hh⟩ := hrel
    by_cases hkN : k < N
    · have hkl : k < l.length := by have := HN.out; omega
      obtain ⟨g, o, rfl, ch, hg⟩ := HL.out.has k hkl
      obtain ⟨c0, c1, c2, c3, c4, c5, c6, c7, c8, c9, c10, c11, c12⟩ : w.cell? ⟨g, o + k * 13, none⟩ = some (.int .i64 l[k].num) ∧ w.cell? ⟨g, o + k * 13 + 1, none⟩ = some (.int .i64 l[k].ep) ∧ w.cell? ⟨g, o + k * 13 + 2, none⟩ = some (.int .i64 l[k].o.k) ∧ w.cell? ⟨g, o + k * 13 + 3, none⟩ = some (.bool l[k].o.p.v) ∧ w.cell? ⟨g, o + k * 13 + 4, none⟩ = some (.int .u64 l[k].o.p.hi) ∧ w.cell? ⟨g, o + k * 13 + 5, none⟩ = some (.int .u64 l[k].o.p.lo) ∧ w.cell? ⟨g, o + k * 13 + 6, none⟩ = some (.int .i64 l[k].o.p.b) ∧ w.cell? ⟨g, o + k * 13 + 7, none⟩ = some (.bool l[k].o.a.v) ∧ w.cell? ⟨g, o + k * 13 + 8, none⟩ = some (.int .u64 l[k].o.a.hi) ∧ w.cell? ⟨g, o + k * 13 + 9, none⟩ = some (.int .u64 l[k].o.a.lo) ∧ w.cell? ⟨g, o + k * 13 + 10, none⟩ = some (.string l[k].o.who) ∧ w.cell? ⟨g, o + k * 13 + 11, none⟩ = some (.int .i64 l[k].o.pof) ∧ w.cell? ⟨g, o + k * 13 + 12, none⟩ = some (.int .i64 l[k].o.n) := ⟨ch 0 _ rfl, ch 1 _ rfl, ch 2 _ rfl, ch 3 _ rfl, ch 4 _ rfl, ch 5 _ rfl, ch 6 _ rfl, ch 7 _ rfl, ch 8 _ rfl, ch 9 _ rfl, ch 10 _ rfl, ch 11 _ rfl, ch 12 _ rfl⟩
      rw [← (bcell hb.out).1 _ _ hg] at c0 c1 c2 c3 c4 c5 c6 c7 c8 c9 c10 c11 c12
      have HC := Lib.hid (HPr.out wr l[k] (List.getElem_mem hkl) hb.out)
      have hkz : (k : Int) < (N : Int) := by omega
      have hk0 : (0 : Int) ≤ (k : Int) := by omega
      have HQ : Hid (∀ b, p l[k] = b → (b = true → R = k) ∧ (b = false → ∀ j (hj : j < k + 1) (hl : j < l.length), p l[j] = false)) := by
        intro b hb
        refine ⟨fun e => ?_, fun e j hj hl => ?_⟩
        · rw [HR.out, find_hit hkl (hb.trans e) (fun j hj => hh.out j hj (by omega))]; rfl
        · by_cases hjk : j = k
          · subst hjk; exact hb.trans e
          · exact hh.out j (by omega) hl
      generalize hq : p l[k] = b at *
      have HQ2 := Lib.hid (HQ.out b rfl)
      clear ch
      generalize l[k].num = x0 at *
      generalize l[k].ep = x1 at *
      generalize l[k].o.k = x2 at *
      generalize l[k].o.p.v = x3 at *
      generalize l[k].o.p.hi = x4 at *
      generalize l[k].o.p.lo = x5 at *
      generalize l[k].o.p.b = x6 at *
      generalize l[k].o.a.v = x7 at *
      generalize l[k].o.a.hi = x8 at *
      generalize l[k].o.a.lo = x9 at *
      generalize l[k].o.who = x10 at *
      generalize l[k].o.pof = x11 at *
      generalize l[k].o.n = x12 at *
      clear hh hb HPr HQ hq HL
      cases b
      · have HQ3 := Lib.hid (HQ2.out.2 rfl)
        clear HQ2
        go_wp2_with fail
        refine HC.out.mono ?_
        rintro e w2 ⟨rfl, hb2⟩
        have HB := Lib.hid hb2
        clear hb2
        go_wp2_with fail
        go_roundw
        case rel => exact ⟨k + 1, by go_num, by omega, HB, HQ3⟩
        case measure => simp [intOf]; omega
      · have HQ3 := Lib.hid (HQ2.out.1 rfl)
        clear HQ2
        go_wp2_with fail
        refine HC.out.mono ?_
        rintro e w2 ⟨rfl, hb2⟩
        go_wp2_with fail
        go_ret
        exact ⟨congrArg (fun r => Ending.returned (Value.int .i64 r)) HQ3.out.symm, hb2⟩
    · obtain rfl : k = N := by omega
      have hkk : ¬ (k : Int) < (k : Int) := by omega
      have HD : Hid (R = -1) := by
        rw [Hid, HR.out, find_miss (fun j hj => hh.out j (by have := HN.out; omega) hj)]; rfl
      go_wp2_with fail
      go_ret
      exact ⟨congrArg (fun r => Ending.returned (Value.int .i64 r)) HD.out.symm, hb.out⟩
set_option maxHeartbeats 4000000 in
theorem conE_any (a : Option Addr) (c : Nat) (l : List En) (w : World) (f : Nat) (lb : Array Value) (p : En → Bool) (hl : l.length ≤ 1000) (hs : Lies enE w a l) (ef : ∀ args w, (callFunc f args).run Tryz.prog w = .ok (.enter f args) w)
    (hp : ∀ (W : World) (x : En), x ∈ l → Below w.heap.size w W → Calls Tryz.prog f (#[.agg #[.int .i64 x.num, .int .i64 x.ep, .int .i64 x.o.k, .bool x.o.p.v, .int .u64 x.o.p.hi, .int .u64 x.o.p.lo, .int .i64 x.o.p.b, .bool x.o.a.v, .int .u64 x.o.a.hi, .int .u64 x.o.a.lo, .string x.o.who, .int .i64 x.o.pof, .int .i64 x.o.n]] ++ lb) W fun e w' => e = .returned (.bool (p x)) ∧ Below w.heap.size w w') :
    Calls Tryz.prog 29 #[.slice a l.length c, .func (.func f) #[] lb] w fun e w' => e = .returned (.bool (l.any p)) ∧ Below w.heap.size w w' := by
  have HI := Lib.hid (ifnE_any a c l w f lb p hl hs ef hp)
  have HE := Lib.hid (any_idx p l)
  generalize idxI (l.findIdx? p) = ix at *
  generalize l.any p = R at *
  generalize l.length = N at *
  clear hs hp
  go_enter Tryz.func29, Tryz.ntmps29
  go_wp2_with fail
  refine HI.out.mono ?_
  rintro e w2 ⟨rfl, hb⟩
  have HB2 := Lib.hid hb
  clear hb
  go_wp2
  go_ret
  exact ⟨congrArg (fun r => Ending.returned (Value.bool r)) HE.out, HB2.out⟩
end Go.Proofs.YtjainfehlbfiaaaGreat

namespace Go.Proofs.YtjainfehlbfiaaaGreat
open Go.RowKit

theorem infoE : (Tryz.prog.info? 68).map (fun i => (i.zero, i.size, i.bytes)) = some (some (.agg #[.int .i64 0, .int .i64 0, .int .i64 0, .bool false, .int .u64 0, .int .u64 0, .int .i64 0, .bool false, .int .u64 0, .int .u64 0, .string ⟨#[]⟩, .int .i64 0, .int .i64 0]), 13, 112) := by kernel_rfl
theorem rowE_empty (w : World) : (w.alloc (.cells #[] 68)).ownsRow w.heap.size 68 13 (.slice (some ⟨w.heap.size, 0, none⟩) 0 0) 0 [] :=
  ⟨by simp, .inr ⟨w.heap.size, 0, #[], rfl, Nat.le_refl _, heap_alloc_new w _, Nat.le_refl _, Nat.zero_le _, by simp, by simp⟩⟩
set_option maxHeartbeats 4000000 in
set_option maxRecDepth 100000 in
theorem cloneE_any (a : Option Addr) (c : Nat) (l : List En) (w : World) (hl : l.length ≤ 1000) (hs : Lies enE w a l) :
    Calls Tryz.prog 23 #[.slice a l.length c] w fun e w' => ∃ v', e = .returned v' ∧ w'.ownsRow w.heap.size 68 enE.k v' l.length (rowOf enE l) ∧ Below w.heap.size w w' := by
  have q22 : ∀ (w : World) (a : Option Addr) (n c n' c' : Nat), (binOp .eql 24 (.slice a n c) (.slice none n' c')).run Tryz.prog w = .ok (.bool a.isNone) w := fun w a n c n' c' => Lib.run_eql_slice_nil w _ _ a n c n' c' Tryz.underlying24
  cases a with
  | none =>
    obtain rfl := hs.none_nil
    show Calls _ _ #[.slice none 0 c] _ _
    clear hs
    go_enter Tryz.func23, Tryz.ntmps23
    go_wp2
    go_ret
    exact ⟨_, rfl, World.ownsRow_nil _ _ _ _, Below.refl _ _⟩
  | some ad =>
    obtain ⟨i0, hi0, hz0, hz1, hz2⟩ := info_parts infoE
    have hnews : ∀ j u, (rowOf enE l)[j]? = some u → (w.alloc (.cells #[] 68)).cell? (ad.add j) = some u := (hs.below (bal (Below.refl _ _) _)).news
    have HNews := Lib.hid hnews
    have HRl := Lib.hid (rowOf_len enE l)
    have HR1 := Lib.hid (rowOf_one enE l)
    obtain ⟨row, hrow⟩ : ∃ row, row = rowOf enE l := ⟨_, rfl⟩
    obtain ⟨N, hN⟩ : ∃ N, N = l.length := ⟨_, rfl⟩
    rw [← hrow] at HNews HRl HR1 ⊢
    rw [← hN] at HRl hl ⊢
    clear hnews hs hrow hN
    go_enter Tryz.func23, Tryz.ntmps23
    go_wp2_with (at_builtin; refine wpList_append_own _ rfl _ _ 24 rfl w.heap.size 68 i0 _ 13 112 Tryz.underlying24 hi0 hz0 hz1 hz2 rfl (by decide) _ _ _ rfl (rowE_empty w) ad N c row rfl HRl.out HNews.out HR1.out (by unfold maxLen; omega) (by omega) (by simp) ?_)
    intro v' w4 hown hgrow _
    have HB : Hid (Below w.heap.size w w4) := (bal (Below.refl _ _) _).grown hgrow (by simp) (fun k hk => ((rowE_empty w).lt k hk).1)
    have HO : Hid (w4.ownsRow w.heap.size 68 13 v' N row) := hown
    clear hown hgrow
    go_wp2
    go_ret
    exact ⟨_, rfl, HO.out, HB.out⟩
theorem logE_len {l : List En} (h : logE l = 0) : l.length ≤ 30 := by
  unfold logE at h
  by_cases hl : 30 < l.length
  · rw [if_pos hl] at h; omega
  · omega
end Go.Proofs.YtjainfehlbfiaaaGreat
