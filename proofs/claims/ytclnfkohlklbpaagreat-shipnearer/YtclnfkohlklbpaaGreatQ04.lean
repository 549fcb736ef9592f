/- What the card leans on: LnA, StGn. -/
import Derived.Test.YtclnfkohlklbpaaGreatQ03
import Derived.Test.YtclnfkohlklbpaaGreatQ02
import Derived.Shelf.Abstract
import Derived.Test.YtclnfkohlklbpaaGreatQ01
set_option linter.unusedVariables false
set_option linter.unusedSimpArgs false
namespace Go.Proofs.YtclnfkohlklbpaaGreat
open Go.RowKit

/-- An entry of a log. -/
structure En where
  num : Int
  ep : Int
  o : Opd
theorem En.same {x y : En} (h0 : x.num = y.num) (h1 : x.ep = y.ep) (h2 : x.o = y.o) : x = y := by
  cases x; cases y; simp at h0 h1 h2; subst h0; subst h1; subst h2; rfl
def enE : Enc En := ⟨13, fun x => [.int .i64 x.num, .int .i64 x.ep, .int .i64 x.o.k, .bool x.o.p.v, .int .u64 x.o.p.hi, .int .u64 x.o.p.lo, .int .i64 x.o.p.b, .bool x.o.a.v, .int .u64 x.o.a.hi, .int .u64 x.o.a.lo, .string x.o.who, .int .i64 x.o.pof, .int .i64 x.o.n], by decide, fun _ => rfl, fun x u hu => by simp at hu; rcases hu with rfl | rfl | rfl | rfl | rfl | rfl | rfl | rfl | rfl | rfl | rfl | rfl | rfl <;> rfl⟩
theorem Lies.has {α : Type} {E : Enc α} {w : World} {a : Option Addr} {l : List α} (h : Lies E w a l) (j : Nat) (hj : j < l.length) : ∃ g o : Nat, a = some ⟨g, o, none⟩ ∧ HasL w g (o + j * E.k) (E.f l[j]) := by
  obtain ⟨g, o, e, hg, c⟩ := h j hj
  exact ⟨g, o, e, c, hg⟩
theorem Lies.en {w : World} {a : Option Addr} {l : List En} (h : Lies enE w a l) (j : Nat) (hj : j < l.length) : ∃ g o : Nat, a = some ⟨g, o, none⟩ ∧ g < w.heap.size ∧ w.cell? ⟨g, o + j * 13, none⟩ = some (.int .i64 l[j].num) ∧ w.cell? ⟨g, o + j * 13 + 1, none⟩ = some (.int .i64 l[j].ep) ∧ w.cell? ⟨g, o + j * 13 + 2, none⟩ = some (.int .i64 l[j].o.k) ∧ w.cell? ⟨g, o + j * 13 + 3, none⟩ = some (.bool l[j].o.p.v) ∧ w.cell? ⟨g, o + j * 13 + 4, none⟩ = some (.int .u64 l[j].o.p.hi) ∧ w.cell? ⟨g, o + j * 13 + 5, none⟩ = some (.int .u64 l[j].o.p.lo) ∧ w.cell? ⟨g, o + j * 13 + 6, none⟩ = some (.int .i64 l[j].o.p.b) ∧ w.cell? ⟨g, o + j * 13 + 7, none⟩ = some (.bool l[j].o.a.v) ∧ w.cell? ⟨g, o + j * 13 + 8, none⟩ = some (.int .u64 l[j].o.a.hi) ∧ w.cell? ⟨g, o + j * 13 + 9, none⟩ = some (.int .u64 l[j].o.a.lo) ∧ w.cell? ⟨g, o + j * 13 + 10, none⟩ = some (.string l[j].o.who) ∧ w.cell? ⟨g, o + j * 13 + 11, none⟩ = some (.int .i64 l[j].o.pof) ∧ w.cell? ⟨g, o + j * 13 + 12, none⟩ = some (.int .i64 l[j].o.n) := by
  obtain ⟨g, o, e, c, hg⟩ := h.has j hj
  exact ⟨g, o, e, hg, c 0 _ rfl, c 1 _ rfl, c 2 _ rfl, c 3 _ rfl, c 4 _ rfl, c 5 _ rfl, c 6 _ rfl, c 7 _ rfl, c 8 _ rfl, c 9 _ rfl, c 10 _ rfl, c 11 _ rfl, c 12 _ rfl⟩
/-- The epoch of the last entry; 0, if there is none. -/
def tailE (l : List En) : Int := match l.getLast? with | some x => x.ep | none => 0
/-- May an entry stand behind these? -/
def follE (l : List En) (n : En) : Int :=
  if n.num = (l.length : Int) + 1 then (if n.ep < 1 ∨ 999 < n.ep then 3 else if n.ep < tailE l then 4 else formE n.o) else 4
theorem keepE {w W W' : World} {b : Nat} {v0 v1 v2 v3 v4 v5 v6 v7 v8 v9 v10 v11 v12 : Value} (h : (W.cell? ⟨b, 0, none⟩ = some (v0) ∧ W.cell? ⟨b, 1, none⟩ = some (v1) ∧ W.cell? ⟨b, 2, none⟩ = some (v2) ∧ W.cell? ⟨b, 3, none⟩ = some (v3) ∧ W.cell? ⟨b, 4, none⟩ = some (v4) ∧ W.cell? ⟨b, 5, none⟩ = some (v5) ∧ W.cell? ⟨b, 6, none⟩ = some (v6) ∧ W.cell? ⟨b, 7, none⟩ = some (v7) ∧ W.cell? ⟨b, 8, none⟩ = some (v8) ∧ W.cell? ⟨b, 9, none⟩ = some (v9) ∧ W.cell? ⟨b, 10, none⟩ = some (v10) ∧ W.cell? ⟨b, 11, none⟩ = some (v11) ∧ W.cell? ⟨b, 12, none⟩ = some (v12) ∧ b < W.heap.size) ∧ Below w.heap.size w W) (hb : Below W.heap.size W W') : (W'.cell? ⟨b, 0, none⟩ = some (v0) ∧ W'.cell? ⟨b, 1, none⟩ = some (v1) ∧ W'.cell? ⟨b, 2, none⟩ = some (v2) ∧ W'.cell? ⟨b, 3, none⟩ = some (v3) ∧ W'.cell? ⟨b, 4, none⟩ = some (v4) ∧ W'.cell? ⟨b, 5, none⟩ = some (v5) ∧ W'.cell? ⟨b, 6, none⟩ = some (v6) ∧ W'.cell? ⟨b, 7, none⟩ = some (v7) ∧ W'.cell? ⟨b, 8, none⟩ = some (v8) ∧ W'.cell? ⟨b, 9, none⟩ = some (v9) ∧ W'.cell? ⟨b, 10, none⟩ = some (v10) ∧ W'.cell? ⟨b, 11, none⟩ = some (v11) ∧ W'.cell? ⟨b, 12, none⟩ = some (v12) ∧ b < W'.heap.size) ∧ Below w.heap.size w W' := by
  obtain ⟨⟨a0, a1, a2, a3, a4, a5, a6, a7, a8, a9, a10, a11, a12, z⟩, hw⟩ := h
  have k := (bcell hb).1
  exact ⟨⟨by rw [k _ _ z]; exact a0, by rw [k _ _ z]; exact a1, by rw [k _ _ z]; exact a2, by rw [k _ _ z]; exact a3, by rw [k _ _ z]; exact a4, by rw [k _ _ z]; exact a5, by rw [k _ _ z]; exact a6, by rw [k _ _ z]; exact a7, by rw [k _ _ z]; exact a8, by rw [k _ _ z]; exact a9, by rw [k _ _ z]; exact a10, by rw [k _ _ z]; exact a11, by rw [k _ _ z]; exact a12, Nat.lt_of_lt_of_le z hb.size⟩, btr hw hb⟩
set_option maxHeartbeats 16000000 in
set_option maxRecDepth 100000 in
theorem follows_any (a : Option Addr) (c : Nat) (l : List En) (n : En) (w : World) (hl : l.length ≤ 1000) (hs : Lies enE w a l) :
    Calls Tryz.prog 20 #[.slice a l.length c, .agg #[.int .i64 n.num, .int .i64 n.ep, .int .i64 n.o.k, .bool n.o.p.v, .int .u64 n.o.p.hi, .int .u64 n.o.p.lo, .int .i64 n.o.p.b, .bool n.o.a.v, .int .u64 n.o.a.hi, .int .u64 n.o.a.lo, .string n.o.who, .int .i64 n.o.pof, .int .i64 n.o.n]] w fun e w' => e = .returned (.int .i64 (follE l n)) ∧ Below w.heap.size w w' := by
  have hF : Hid (∀ w : World, Calls Tryz.prog 24 #[.agg #[.int .i64 n.o.k, .bool n.o.p.v, .int .u64 n.o.p.hi, .int .u64 n.o.p.lo, .int .i64 n.o.p.b, .bool n.o.a.v, .int .u64 n.o.a.hi, .int .u64 n.o.a.lo, .string n.o.who, .int .i64 n.o.pof, .int .i64 n.o.n]] w fun e w' => e = .returned (.int .i64 (formE n.o)) ∧ Below w.heap.size w w') := fun w => sform_any n.o w
  have HB := Lib.hid (bal (Below.refl w.heap.size w) (.cells #[.int .i64 n.num, .int .i64 n.ep, .int .i64 n.o.k, .bool n.o.p.v, .int .u64 n.o.p.hi, .int .u64 n.o.p.lo, .int .i64 n.o.p.b, .bool n.o.a.v, .int .u64 n.o.a.hi, .int .u64 n.o.a.lo, .string n.o.who, .int .i64 n.o.pof, .int .i64 n.o.n] 55))
  have HL := Lib.hid hs
  unfold follE
  obtain ⟨N, hN⟩ : ∃ N, N = l.length := ⟨_, rfl⟩
  rw [← hN]
  have HN : Hid (N = l.length) := hN
  have hN1 : N ≤ 1000 := by omega
  have hN0 : (0 : Int) ≤ (N : Int) := by omega
  have hN3 : (N : Int) ≤ 1000 := by omega
  clear hN hs hl
  generalize formE n.o = fe at *
  generalize n.num = x0 at *
  generalize n.ep = x1 at *
  generalize n.o.k = x2 at *
  generalize n.o.p.v = x3 at *
  generalize n.o.p.hi = x4 at *
  generalize n.o.p.lo = x5 at *
  generalize n.o.p.b = x6 at *
  generalize n.o.a.v = x7 at *
  generalize n.o.a.hi = x8 at *
  generalize n.o.a.lo = x9 at *
  generalize n.o.who = x10 at *
  generalize n.o.pof = x11 at *
  generalize n.o.n = x12 at *
  by_cases h0 : x0 = (N : Int) + 1
  · rw [if_pos h0]
    have b0 : (x0 != (N : Int) + 1) = false := by simp [h0]
    clear h0
    by_cases h1 : x1 < 1
    · rw [if_pos (.inl h1)]
      go_enter Tryz.func20, Tryz.ntmps20
      go_wp2
      go_ret
      exact ⟨rfl, HB.out⟩
    have d1 : decide (x1 < 1) = false := decide_eq_false h1
    by_cases h2 : 999 < x1
    · rw [if_pos (.inr h2)]
      go_enter Tryz.func20, Tryz.ntmps20
      go_wp2
      go_ret
      exact ⟨rfl, HB.out⟩
    have d2 : decide (999 < x1) = false := decide_eq_false h2
    rw [if_neg (by omega)]
    by_cases hz : N = 0
    · have et : tailE l = 0 := by
        have : l = [] := List.length_eq_zero_iff.1 (by rw [← HN.out]; exact hz)
        rw [this]; rfl
      rw [et, if_neg (by omega)]
      subst hz
      clear et HL HN h1 h2
      go_enter Tryz.func20, Tryz.ntmps20
      go_wp2
      go_region
      go_wp2_with fail
      refine (hF.out _).mono ?_
      rintro e w3 ⟨rfl, hb3⟩
      go_wp2
      go_ret
      exact ⟨rfl, btr HB.out.drew hb3⟩
    · obtain ⟨m, hm⟩ : ∃ m, N = m + 1 := ⟨N - 1, by omega⟩
      have hml : m < l.length := by have := HN.out; omega
      have et : tailE l = l[m].ep := by
        unfold tailE
        rw [List.getLast?_eq_getElem?, show l.length - 1 = m by have := HN.out; omega, List.getElem?_eq_getElem hml]
      rw [et]
      obtain ⟨g, o, rfl, hg, q0, q1, q3⟩ := HL.out.en m hml
      clear q0 q3
      have hgn : g < (w.alloc (.cells #[.int .i64 x0, .int .i64 x1, .int .i64 x2, .bool x3, .int .u64 x4, .int .u64 x5, .int .i64 x6, .bool x7, .int .u64 x8, .int .u64 x9, .string x10, .int .i64 x11, .int .i64 x12] 55)).heap.size := by simp; omega
      have q2 : (w.alloc (.cells #[.int .i64 x0, .int .i64 x1, .int .i64 x2, .bool x3, .int .u64 x4, .int .u64 x5, .int .i64 x6, .bool x7, .int .u64 x8, .int .u64 x9, .string x10, .int .i64 x11, .int .i64 x12] 55)).cell? ⟨g, o + m * 13 + 1, none⟩ = some (.int .i64 l[m].ep) := by rw [(bcell (bal (Below.refl w.heap.size w) _)).1 _ _ hg]; exact q1
      have HQ := Lib.hid q2
      have hwr : IntKind.i64.wrap ((m : Int) + 1 - 1) = (m : Int) := by rw [IntKind.wrap_i64]; omega
      have hwr2 : IntKind.i64.wrap (m : Int) = (m : Int) := by rw [IntKind.wrap_i64]; omega
      have hm0 : (0 : Int) ≤ (m : Int) := by omega
      have hm1 : (m : Int) < (m : Int) + 1 := by omega
      have hmp : (0 : Int) < (m : Int) + 1 := by omega
      have hcast : ((N : Nat) : Int) = (m : Int) + 1 := by omega
      subst hm
      generalize l[m].ep = y at *
      clear et hz q1 q2 hg hml HL HN h1 h2
      obtain ⟨hh, hz⟩ := (HasL.new w [.int .i64 x0, .int .i64 x1, .int .i64 x2, .bool x3, .int .u64 x4, .int .u64 x5, .int .i64 x6, .bool x7, .int .u64 x8, .int .u64 x9, .string x10, .int .i64 x11, .int .i64 x12] 55)
      have S1 : Hid (((w.alloc (.cells #[.int .i64 x0, .int .i64 x1, .int .i64 x2, .bool x3, .int .u64 x4, .int .u64 x5, .int .i64 x6, .bool x7, .int .u64 x8, .int .u64 x9, .string x10, .int .i64 x11, .int .i64 x12] 55)).drew.cell? ⟨w.heap.size, 0, none⟩ = some (.int .i64 x0) ∧ (w.alloc (.cells #[.int .i64 x0, .int .i64 x1, .int .i64 x2, .bool x3, .int .u64 x4, .int .u64 x5, .int .i64 x6, .bool x7, .int .u64 x8, .int .u64 x9, .string x10, .int .i64 x11, .int .i64 x12] 55)).drew.cell? ⟨w.heap.size, 1, none⟩ = some (.int .i64 x1) ∧ (w.alloc (.cells #[.int .i64 x0, .int .i64 x1, .int .i64 x2, .bool x3, .int .u64 x4, .int .u64 x5, .int .i64 x6, .bool x7, .int .u64 x8, .int .u64 x9, .string x10, .int .i64 x11, .int .i64 x12] 55)).drew.cell? ⟨w.heap.size, 2, none⟩ = some (.int .i64 x2) ∧ (w.alloc (.cells #[.int .i64 x0, .int .i64 x1, .int .i64 x2, .bool x3, .int .u64 x4, .int .u64 x5, .int .i64 x6, .bool x7, .int .u64 x8, .int .u64 x9, .string x10, .int .i64 x11, .int .i64 x12] 55)).drew.cell? ⟨w.heap.size, 3, none⟩ = some (.bool x3) ∧ (w.alloc (.cells #[.int .i64 x0, .int .i64 x1, .int .i64 x2, .bool x3, .int .u64 x4, .int .u64 x5, .int .i64 x6, .bool x7, .int .u64 x8, .int .u64 x9, .string x10, .int .i64 x11, .int .i64 x12] 55)).drew.cell? ⟨w.heap.size, 4, none⟩ = some (.int .u64 x4) ∧ (w.alloc (.cells #[.int .i64 x0, .int .i64 x1, .int .i64 x2, .bool x3, .int .u64 x4, .int .u64 x5, .int .i64 x6, .bool x7, .int .u64 x8, .int .u64 x9, .string x10, .int .i64 x11, .int .i64 x12] 55)).drew.cell? ⟨w.heap.size, 5, none⟩ = some (.int .u64 x5) ∧ (w.alloc (.cells #[.int .i64 x0, .int .i64 x1, .int .i64 x2, .bool x3, .int .u64 x4, .int .u64 x5, .int .i64 x6, .bool x7, .int .u64 x8, .int .u64 x9, .string x10, .int .i64 x11, .int .i64 x12] 55)).drew.cell? ⟨w.heap.size, 6, none⟩ = some (.int .i64 x6) ∧ (w.alloc (.cells #[.int .i64 x0, .int .i64 x1, .int .i64 x2, .bool x3, .int .u64 x4, .int .u64 x5, .int .i64 x6, .bool x7, .int .u64 x8, .int .u64 x9, .string x10, .int .i64 x11, .int .i64 x12] 55)).drew.cell? ⟨w.heap.size, 7, none⟩ = some (.bool x7) ∧ (w.alloc (.cells #[.int .i64 x0, .int .i64 x1, .int .i64 x2, .bool x3, .int .u64 x4, .int .u64 x5, .int .i64 x6, .bool x7, .int .u64 x8, .int .u64 x9, .string x10, .int .i64 x11, .int .i64 x12] 55)).drew.cell? ⟨w.heap.size, 8, none⟩ = some (.int .u64 x8) ∧ (w.alloc (.cells #[.int .i64 x0, .int .i64 x1, .int .i64 x2, .bool x3, .int .u64 x4, .int .u64 x5, .int .i64 x6, .bool x7, .int .u64 x8, .int .u64 x9, .string x10, .int .i64 x11, .int .i64 x12] 55)).drew.cell? ⟨w.heap.size, 9, none⟩ = some (.int .u64 x9) ∧ (w.alloc (.cells #[.int .i64 x0, .int .i64 x1, .int .i64 x2, .bool x3, .int .u64 x4, .int .u64 x5, .int .i64 x6, .bool x7, .int .u64 x8, .int .u64 x9, .string x10, .int .i64 x11, .int .i64 x12] 55)).drew.cell? ⟨w.heap.size, 10, none⟩ = some (.string x10) ∧ (w.alloc (.cells #[.int .i64 x0, .int .i64 x1, .int .i64 x2, .bool x3, .int .u64 x4, .int .u64 x5, .int .i64 x6, .bool x7, .int .u64 x8, .int .u64 x9, .string x10, .int .i64 x11, .int .i64 x12] 55)).drew.cell? ⟨w.heap.size, 11, none⟩ = some (.int .i64 x11) ∧ (w.alloc (.cells #[.int .i64 x0, .int .i64 x1, .int .i64 x2, .bool x3, .int .u64 x4, .int .u64 x5, .int .i64 x6, .bool x7, .int .u64 x8, .int .u64 x9, .string x10, .int .i64 x11, .int .i64 x12] 55)).drew.cell? ⟨w.heap.size, 12, none⟩ = some (.int .i64 x12) ∧ (w.alloc (.cells #[.int .i64 x0, .int .i64 x1, .int .i64 x2, .bool x3, .int .u64 x4, .int .u64 x5, .int .i64 x6, .bool x7, .int .u64 x8, .int .u64 x9, .string x10, .int .i64 x11, .int .i64 x12] 55)).drew.cell? ⟨g, o + m * 13 + 1, none⟩ = some (.int .i64 y)) ∧ Below w.heap.size w (w.alloc (.cells #[.int .i64 x0, .int .i64 x1, .int .i64 x2, .bool x3, .int .u64 x4, .int .u64 x5, .int .i64 x6, .bool x7, .int .u64 x8, .int .u64 x9, .string x10, .int .i64 x11, .int .i64 x12] 55)).drew) := ⟨⟨hh 0 _ rfl, hh 1 _ rfl, hh 2 _ rfl, hh 3 _ rfl, hh 4 _ rfl, hh 5 _ rfl, hh 6 _ rfl, hh 7 _ rfl, hh 8 _ rfl, hh 9 _ rfl, hh 10 _ rfl, hh 11 _ rfl, hh 12 _ rfl, HQ.out⟩, HB.out.drew⟩
      clear HQ
      by_cases hy : x1 < y
      · rw [if_pos hy]
        go_enter Tryz.func20, Tryz.ntmps20
        go_wp2_with fail
        go_region_held3 (fun w' => (w'.cell? ⟨w.heap.size, 0, none⟩ = some (.int .i64 x0) ∧ w'.cell? ⟨w.heap.size, 1, none⟩ = some (.int .i64 x1) ∧ w'.cell? ⟨w.heap.size, 2, none⟩ = some (.int .i64 x2) ∧ w'.cell? ⟨w.heap.size, 3, none⟩ = some (.bool x3) ∧ w'.cell? ⟨w.heap.size, 4, none⟩ = some (.int .u64 x4) ∧ w'.cell? ⟨w.heap.size, 5, none⟩ = some (.int .u64 x5) ∧ w'.cell? ⟨w.heap.size, 6, none⟩ = some (.int .i64 x6) ∧ w'.cell? ⟨w.heap.size, 7, none⟩ = some (.bool x7) ∧ w'.cell? ⟨w.heap.size, 8, none⟩ = some (.int .u64 x8) ∧ w'.cell? ⟨w.heap.size, 9, none⟩ = some (.int .u64 x9) ∧ w'.cell? ⟨w.heap.size, 10, none⟩ = some (.string x10) ∧ w'.cell? ⟨w.heap.size, 11, none⟩ = some (.int .i64 x11) ∧ w'.cell? ⟨w.heap.size, 12, none⟩ = some (.int .i64 x12) ∧ w'.cell? ⟨g, o + m * 13 + 1, none⟩ = some (.int .i64 y)) ∧ Below w.heap.size w w')
          (with_reducible exact S1.out)
          (fail)
        go_wp2
        go_ret
        exact ⟨rfl, And.right (by assumption)⟩
      · rw [if_neg hy]
        have d3 : decide (x1 < y) = false := decide_eq_false hy
        go_enter Tryz.func20, Tryz.ntmps20
        go_wp2_with fail
        go_region_held3 (fun w' => (w'.cell? ⟨w.heap.size, 0, none⟩ = some (.int .i64 x0) ∧ w'.cell? ⟨w.heap.size, 1, none⟩ = some (.int .i64 x1) ∧ w'.cell? ⟨w.heap.size, 2, none⟩ = some (.int .i64 x2) ∧ w'.cell? ⟨w.heap.size, 3, none⟩ = some (.bool x3) ∧ w'.cell? ⟨w.heap.size, 4, none⟩ = some (.int .u64 x4) ∧ w'.cell? ⟨w.heap.size, 5, none⟩ = some (.int .u64 x5) ∧ w'.cell? ⟨w.heap.size, 6, none⟩ = some (.int .i64 x6) ∧ w'.cell? ⟨w.heap.size, 7, none⟩ = some (.bool x7) ∧ w'.cell? ⟨w.heap.size, 8, none⟩ = some (.int .u64 x8) ∧ w'.cell? ⟨w.heap.size, 9, none⟩ = some (.int .u64 x9) ∧ w'.cell? ⟨w.heap.size, 10, none⟩ = some (.string x10) ∧ w'.cell? ⟨w.heap.size, 11, none⟩ = some (.int .i64 x11) ∧ w'.cell? ⟨w.heap.size, 12, none⟩ = some (.int .i64 x12) ∧ w'.cell? ⟨g, o + m * 13 + 1, none⟩ = some (.int .i64 y)) ∧ Below w.heap.size w w')
          (with_reducible exact S1.out)
          (fail)
        clear S1
        go_wp2_with fail
        refine (hF.out _).mono ?_
        rintro e w3 ⟨rfl, hb3⟩
        go_wp2
        go_ret
        exact ⟨rfl, btr (And.right (by assumption)) hb3⟩
  · rw [if_neg h0]
    have b0 : (x0 != (N : Int) + 1) = true := by rw [bne_iff_ne]; exact h0
    go_enter Tryz.func20, Tryz.ntmps20
    go_wp2
    go_ret
    exact ⟨rfl, HB.out⟩
end Go.Proofs.YtclnfkohlklbpaaGreat

namespace Go.Proofs.YtclnfkohlklbpaaGreat
open Go.RowKit

/-- What is wrong with a log, behind these entries, which are right. -/
def logFrom : List En → List En → Int
  | _, [] => 0
  | done, x :: r => if follE done x = 0 then logFrom (done ++ [x]) r else follE done x
def logE (l : List En) : Int := if 30 < l.length then 2 else logFrom [] l

set_option maxHeartbeats 16000000 in
set_option maxRecDepth 100000 in
theorem lcheck_any (a : Option Addr) (c : Nat) (l : List En) (w : World) (hc : l.length ≤ c) (hs : Lies enE w a l) :
    Calls Tryz.prog 11 #[.slice a l.length c] w fun e w' => e = .returned (.int .i64 (logE l)) ∧ Below w.heap.size w w' := by
  by_cases hl : 30 < l.length
  · rw [show logE l = 2 by simp [logE, hl]]
    have hl' : (30 : Int) < (l.length : Int) := by omega
    generalize l.length = N at *
    go_enter Tryz.func11, Tryz.ntmps11
    go_wp2
    go_ret
    exact ⟨rfl, Below.refl _ _⟩
  rw [show logE l = logFrom [] l by simp [logE, hl]]
  obtain ⟨N, hN⟩ : ∃ N, N = l.length := ⟨_, rfl⟩
  rw [← hN] at hl hc ⊢
  have hN30 : N ≤ 30 := by omega
  have hd30 : decide ((30 : Int) < (N : Int)) = false := decide_eq_false (by omega)
  have HN : Hid (N = l.length) := hN
  have HL := Lib.hid hs
  obtain ⟨R, hR⟩ : ∃ R, R = logFrom [] l := ⟨_, rfl⟩
  rw [← hR]
  have HR := Lib.hid hR
  clear hN hl hs hR
  go_enter Tryz.func11, Tryz.ntmps11
  go_wp2_with fail
  go_loopw [11] (fun vi wr => ∃ k : Nat, vi = .int .i64 k ∧ k ≤ N ∧ Hid (Below w.heap.size w wr) ∧ Hid (R = logFrom (l.take k) (l.drop k)))
    (fun vi _ => N - (intOf vi).toNat)
  case atStart => exact ⟨0, rfl, Nat.zero_le _, Below.refl _ _, HR.out⟩
  case round =>
    clear HR
    obtain ⟨k, rfl, hk, hb, hh⟩ := hrel
    by_cases hkN : k < N
    · have hkl : k < l.length := by have := HN.out; omega
      obtain ⟨g, o, rfl, hg, c0, c1, c2, c3, c4, c5, c6, c7, c8, c9, c10, c11, c12⟩ := HL.out.en k hkl
      have hdec := hh.out
      rw [List.drop_eq_getElem_cons hkl, logFrom, show l.take k ++ [l[k]] = l.take (k + 1) by rw [List.take_succ_eq_append_getElem hkl]] at hdec
      rw [← (bcell hb.out).1 _ _ hg] at c0 c1 c2 c3 c4 c5 c6 c7 c8 c9 c10 c11 c12
      have hC : Hid (∀ W : World, Below w.heap.size w W → Calls Tryz.prog 20 #[.slice (some ⟨g, o, none⟩) k c, .agg #[.int .i64 l[k].num, .int .i64 l[k].ep, .int .i64 l[k].o.k, .bool l[k].o.p.v, .int .u64 l[k].o.p.hi, .int .u64 l[k].o.p.lo, .int .i64 l[k].o.p.b, .bool l[k].o.a.v, .int .u64 l[k].o.a.hi, .int .u64 l[k].o.a.lo, .string l[k].o.who, .int .i64 l[k].o.pof, .int .i64 l[k].o.n]] W fun e w' => e = .returned (.int .i64 (follE (l.take k) l[k])) ∧ Below W.heap.size W w') := fun W hW => by
        have h := follows_any (some ⟨g, o, none⟩) c (l.take k) l[k] W (by rw [List.length_take]; omega) ((HL.out.below hW).take k)
        rw [show (l.take k).length = k by rw [List.length_take]; omega] at h
        exact h
      have hb1 := Lib.hid (bal hb.out (.cells #[.int .i64 l[k].num, .int .i64 l[k].ep, .int .i64 l[k].o.k, .bool l[k].o.p.v, .int .u64 l[k].o.p.hi, .int .u64 l[k].o.p.lo, .int .i64 l[k].o.p.b, .bool l[k].o.a.v, .int .u64 l[k].o.a.hi, .int .u64 l[k].o.a.lo, .string l[k].o.who, .int .i64 l[k].o.pof, .int .i64 l[k].o.n] 55))
      have hkz : (k : Int) < (N : Int) := by omega
      have hk0 : (0 : Int) ≤ (k : Int) := by omega
      have hkc : (k : Int) ≤ (c : Int) := by omega
      generalize follE (l.take k) l[k] = r at *
      generalize hxe : l[k] = x at *
      clear hxe
      generalize x.num = x0 at *
      generalize x.ep = x1 at *
      generalize x.o.k = x2 at *
      generalize x.o.p.v = x3 at *
      generalize x.o.p.hi = x4 at *
      generalize x.o.p.lo = x5 at *
      generalize x.o.p.b = x6 at *
      generalize x.o.a.v = x7 at *
      generalize x.o.a.hi = x8 at *
      generalize x.o.a.lo = x9 at *
      generalize x.o.who = x10 at *
      generalize x.o.pof = x11 at *
      generalize x.o.n = x12 at *
      clear hh hb
      by_cases hx : r = 0
      · subst hx
        rw [if_pos rfl] at hdec
        have HD := Lib.hid hdec
        clear hdec
        go_wp2_with fail
        go_region_with (go_at_call 20; refine (hC.out _ hb1.out.drew).mono ?_; rintro e w2 ⟨rfl, hb2⟩)
        have hb3 := Lib.hid (btr hb1.out.drew hb2)
        clear hb1 hb2
        go_wp2_with fail
        go_roundw
        case rel => exact ⟨k + 1, by go_num, by omega, hb3, HD⟩
        case measure => simp [intOf]; omega
      · rw [if_neg hx] at hdec
        have HD : Hid (R = r) := hdec
        have hI : (r != 0) = true := by rw [bne_iff_ne]; exact hx
        clear hdec hx
        go_wp2_with fail
        go_region_with (go_at_call 20; refine (hC.out _ hb1.out.drew).mono ?_; rintro e w2 ⟨rfl, hb2⟩)
        have hb3 := Lib.hid (btr hb1.out.drew hb2)
        clear hb1 hb2
        go_wp2_with fail
        go_ret
        exact ⟨congrArg (fun r => Ending.returned (Value.int .i64 r)) HD.out.symm, hb3.out⟩
    · obtain rfl : k = N := by omega
      have hd := hh.out
      rw [List.drop_eq_nil_of_le (by have := HN.out; omega), logFrom] at hd
      have HD : Hid (R = 0) := hd
      have hkk : ¬ (k : Int) < (k : Int) := by omega
      clear hd hh
      go_wp2_with fail
      go_ret
      exact ⟨congrArg (fun r => Ending.returned (Value.int .i64 r)) HD.out.symm, hb.out⟩
end Go.Proofs.YtclnfkohlklbpaaGreat

namespace Go.Proofs.YtclnfkohlklbpaaGreat
open Go.RowKit

theorem any_idx {α : Type} (f : α → Bool) (l : List α) : decide ((0 : Int) ≤ idxI (l.findIdx? f)) = l.any f := by
  cases h : l.findIdx? f with
  | none =>
    have := List.findIdx?_eq_none_iff.1 h
    rw [show l.any f = false from List.any_eq_false.2 fun x hx => by rw [this x hx]; simp]
    rfl
  | some i =>
    obtain ⟨hi, hp, _⟩ := List.findIdx?_eq_some_iff_getElem.1 h
    rw [show l.any f = true from List.any_eq_true.2 ⟨_, List.getElem_mem hi, hp⟩]
    simp [idxI]
end Go.Proofs.YtclnfkohlklbpaaGreat

namespace Go.Proofs.YtclnfkohlklbpaaGreat
open Go.RowKit

theorem infoE : (Tryz.prog.info? 55).map (fun i => (i.zero, i.size, i.bytes)) = some (some (.agg #[.int .i64 0, .int .i64 0, .int .i64 0, .bool false, .int .u64 0, .int .u64 0, .int .i64 0, .bool false, .int .u64 0, .int .u64 0, .string ⟨#[]⟩, .int .i64 0, .int .i64 0]), 13, 112) := by kernel_rfl
theorem rowE_empty (w : World) : (w.alloc (.cells #[] 55)).ownsRow w.heap.size 55 13 (.slice (some ⟨w.heap.size, 0, none⟩) 0 0) 0 [] :=
  ⟨by simp, .inr ⟨w.heap.size, 0, #[], rfl, Nat.le_refl _, heap_alloc_new w _, Nat.le_refl _, Nat.zero_le _, by simp, by simp⟩⟩
set_option maxHeartbeats 4000000 in
set_option maxRecDepth 100000 in
theorem cloneE_any (a : Option Addr) (c : Nat) (l : List En) (w : World) (hl : l.length ≤ 1000) (hs : Lies enE w a l) :
    Calls Tryz.prog 17 #[.slice a l.length c] w fun e w' => ∃ v', e = .returned v' ∧ w'.ownsRow w.heap.size 55 enE.k v' l.length (rowOf enE l) ∧ Below w.heap.size w w' := by
  have q22 : ∀ (w : World) (a : Option Addr) (n c n' c' : Nat), (binOp .eql 22 (.slice a n c) (.slice none n' c')).run Tryz.prog w = .ok (.bool a.isNone) w := fun w a n c n' c' => Lib.run_eql_slice_nil w _ _ a n c n' c' Tryz.underlying22
  cases a with
  | none =>
    obtain rfl := hs.none_nil
    show Calls _ _ #[.slice none 0 c] _ _
    clear hs
    go_enter Tryz.func17, Tryz.ntmps17
    go_wp2
    go_ret
    exact ⟨_, rfl, World.ownsRow_nil _ _ _ _, Below.refl _ _⟩
  | some ad =>
    obtain ⟨i0, hi0, hz0, hz1, hz2⟩ := info_parts infoE
    have hnews : ∀ j u, (rowOf enE l)[j]? = some u → (w.alloc (.cells #[] 55)).cell? (ad.add j) = some u := (hs.below (bal (Below.refl _ _) _)).news
    have HNews := Lib.hid hnews
    have HRl := Lib.hid (rowOf_len enE l)
    have HR1 := Lib.hid (rowOf_one enE l)
    obtain ⟨row, hrow⟩ : ∃ row, row = rowOf enE l := ⟨_, rfl⟩
    obtain ⟨N, hN⟩ : ∃ N, N = l.length := ⟨_, rfl⟩
    rw [← hrow] at HNews HRl HR1 ⊢
    rw [← hN] at HRl hl ⊢
    clear hnews hs hrow hN
    go_enter Tryz.func17, Tryz.ntmps17
    go_wp2_with (at_builtin; refine wpList_append_own _ rfl _ _ 22 rfl w.heap.size 55 i0 _ 13 112 Tryz.underlying22 hi0 hz0 hz1 hz2 rfl (by decide) _ _ _ rfl (rowE_empty w) ad N c row rfl HRl.out HNews.out HR1.out (by unfold maxLen; omega) (by omega) (by simp) ?_)
    intro v' w4 hown hgrow _
    have HB : Hid (Below w.heap.size w w4) := (bal (Below.refl _ _) _).grown hgrow (by simp) (fun k hk => ((rowE_empty w).lt k hk).1)
    have HO : Hid (w4.ownsRow w.heap.size 55 13 v' N row) := hown
    clear hown hgrow
    go_wp2
    go_ret
    exact ⟨_, rfl, HO.out, HB.out⟩
theorem logE_len {l : List En} (h : logE l = 0) : l.length ≤ 30 := by
  unfold logE at h
  by_cases hl : 30 < l.length
  · rw [if_pos hl] at h; omega
  · omega
end Go.Proofs.YtclnfkohlklbpaaGreat

namespace Go.Proofs.YtclnfkohlklbpaaGreat
open Go.RowKit

/-- A block of cells, all of it, none of it frozen. -/
def Blk (w : World) (b t : Nat) (l : List Value) : Prop := w.heap[b]? = some (.cells l.toArray t (0, 0))
theorem Blk.lt {w : World} {b t : Nat} {l : List Value} (h : Blk w b t l) : b < w.heap.size := (Array.getElem?_eq_some_iff.1 h).1
theorem Blk.cell {w : World} {b t : Nat} {l : List Value} (h : Blk w b t l) (j : Nat) (v : Value) (hj : l[j]? = some v) : w.cell? ⟨b, j, none⟩ = some v := by
  unfold Blk at h
  simp only [World.cell?, h]
  simpa using hj
theorem Blk.free {w : World} {b t : Nat} {l : List Value} (h : Blk w b t l) (j : Nat) : w.frozen? ⟨b, j, none⟩ = false := by
  unfold Blk at h
  simp [World.frozen?, h]
theorem Blk.below {w w' : World} {b t : Nat} {l : List Value} (h : Blk w b t l) (hb : Below w.heap.size w w') : Blk w' b t l := (hb.block b h.lt).trans h
theorem Blk.upto {w w' : World} {B b t : Nat} {l : List Value} (h : Blk w b t l) (hlt : b < B) (hb : Below B w w') : Blk w' b t l := (hb.block b hlt).trans h
theorem Blk.new (W : World) (l : List Value) (t : Nat) : Blk (W.alloc (.cells l.toArray t)) W.heap.size t l := heap_alloc_new W _
theorem Blk.set {w : World} {b t : Nat} {l : List Value} (h : Blk w b t l) (j : Nat) (u : Value) : Blk (w.setCell ⟨b, j, none⟩ u) b t (l.set j u) := by
  unfold Blk at h ⊢
  have h1 := heap_setCell_same w b j _ _ u h
  rw [h1]
  simp
theorem Blk.other {w : World} {b t c j : Nat} {l : List Value} (h : Blk w b t l) (hne : b ≠ c) (u : Value) : Blk (w.setCell ⟨c, j, none⟩ u) b t l := (heap_setCell_other w ⟨c, j, none⟩ b u hne).trans h
theorem Blk.two {w : World} {b t : Nat} {x0 x1 : Value} (h : Blk w b t [x0, x1]) : (w.cell? ⟨b, 0, none⟩ = some x0 ∧ w.cell? ⟨b, 1, none⟩ = some x1) ∧ (w.frozen? ⟨b, 0, none⟩ = false ∧ w.frozen? ⟨b, 1, none⟩ = false) := ⟨⟨h.cell 0 _ rfl, h.cell 1 _ rfl⟩, h.free 0, h.free 1⟩
theorem Blk.three {w : World} {b t : Nat} {x0 x1 x2 : Value} (h : Blk w b t [x0, x1, x2]) : (w.cell? ⟨b, 0, none⟩ = some x0 ∧ w.cell? ⟨b, 1, none⟩ = some x1 ∧ w.cell? ⟨b, 2, none⟩ = some x2) ∧ (w.frozen? ⟨b, 0, none⟩ = false ∧ w.frozen? ⟨b, 1, none⟩ = false ∧ w.frozen? ⟨b, 2, none⟩ = false) := ⟨⟨h.cell 0 _ rfl, h.cell 1 _ rfl, h.cell 2 _ rfl⟩, h.free 0, h.free 1, h.free 2⟩
theorem Blk.four {w : World} {b t : Nat} {x0 x1 x2 x3 : Value} (h : Blk w b t [x0, x1, x2, x3]) : (w.cell? ⟨b, 0, none⟩ = some x0 ∧ w.cell? ⟨b, 1, none⟩ = some x1 ∧ w.cell? ⟨b, 2, none⟩ = some x2 ∧ w.cell? ⟨b, 3, none⟩ = some x3) ∧ (w.frozen? ⟨b, 0, none⟩ = false ∧ w.frozen? ⟨b, 1, none⟩ = false ∧ w.frozen? ⟨b, 2, none⟩ = false ∧ w.frozen? ⟨b, 3, none⟩ = false) := ⟨⟨h.cell 0 _ rfl, h.cell 1 _ rfl, h.cell 2 _ rfl, h.cell 3 _ rfl⟩, h.free 0, h.free 1, h.free 2, h.free 3⟩
theorem Blk.put4 {w : World} {b t : Nat} {x0 x1 x2 x3 : Value} (h : Blk w b t [x0, x1, x2, x3]) (y0 y1 y2 y3 : Value) : Blk ((((w.setCell ⟨b, 0, none⟩ y0).setCell ⟨b, 1, none⟩ y1).setCell ⟨b, 2, none⟩ y2).setCell ⟨b, 3, none⟩ y3) b t [y0, y1, y2, y3] := (((h.set 0 y0).set 1 y1).set 2 y2).set 3 y3
theorem own_st {w : World} {B t k n : Nat} {v : Value} {R : List Value} (h : w.ownsRow B t k v n R) {b j : Nat} (hb : b < B) (u : Value) : (w.setCell ⟨b, j, none⟩ u).ownsRow B t k v n R :=
  h.kept (row := some b) ⟨rfl, rfl, rfl, by simp, fun k hk hn => heap_setCell_other w ⟨b, j, none⟩ k u (fun e => hn (by rw [e]))⟩ (.inr fun e => by have := (h.lt b e).1; omega)
theorem own_slice {w : World} {B t k n : Nat} {v : Value} {R : List Value} (h : w.ownsRow B t k v n R) : ∃ a c, v = .slice a n c := by
  rcases h.2 with ⟨rfl, h2⟩ | ⟨g, c, cur, rfl, _⟩
  · exact ⟨none, 0, by rw [h2]⟩
  · exact ⟨_, c, rfl⟩
theorem own_open {α : Type} {E : Enc α} {w : World} {B t : Nat} {v : Value} {l : List α} (h : w.ownsRow B t E.k v l.length (rowOf E l)) : ∃ a c, v = .slice a l.length c ∧ l.length ≤ c ∧ Lies E w a l ∧ ∀ g o, a = some ⟨g, o, none⟩ → B ≤ g := by
  rcases own_form h with ⟨rfl, rfl⟩ | ⟨g, c, rfl, ho⟩
  · exact ⟨none, 0, rfl, Nat.le_refl _, Lies.nil _ _ _, fun g o e => by simp at e⟩
  · exact ⟨_, c, rfl, ho.le, ho.lies, fun g' o' e => by simp at e; obtain ⟨rfl, _⟩ := e; exact ho.base⟩
end Go.Proofs.YtclnfkohlklbpaaGreat
