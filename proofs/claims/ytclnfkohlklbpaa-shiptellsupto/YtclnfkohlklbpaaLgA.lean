/- Entries of a log as plain words; log.follows. -/
import Derived.Test.YtclnfkohlklbpaaOpC
set_option linter.unusedVariables false
set_option linter.unusedSimpArgs false
namespace Go.Proofs.Ytclnfkohlklbpaa
open Go.RowKit

/-- An entry of a log. -/
structure En where
  num : Int
  ep : Int
  o : Opd
theorem En.same {x y : En} (h0 : x.num = y.num) (h1 : x.ep = y.ep) (h2 : x.o = y.o) : x = y := by
  cases x; cases y; simp at h0 h1 h2; subst h0; subst h1; subst h2; rfl
def enE : Enc En := ⟨13, fun x => [.int .i64 x.num, .int .i64 x.ep, .int .i64 x.o.k, .bool x.o.p.v, .int .u64 x.o.p.hi, .int .u64 x.o.p.lo, .int .i64 x.o.p.b, .bool x.o.a.v, .int .u64 x.o.a.hi, .int .u64 x.o.a.lo, .string x.o.who, .int .i64 x.o.pof, .int .i64 x.o.n], by decide, fun _ => rfl, fun x u hu => by simp at hu; rcases hu with rfl | rfl | rfl | rfl | rfl | rfl | rfl | rfl | rfl | rfl | rfl | rfl | rfl <;> rfl⟩
theorem Lies.has {α : Type} {E : Enc α} {w : World} {a : Option Addr} {l : List α} (h : Lies E w a l) (j : Nat) (hj : j < l.length) : ∃ g o : Nat, a = some ⟨g, o, none⟩ ∧ HasL w g (o + j * E.k) (E.f l[j]) := by
  obtain ⟨g, o, e, hg, c⟩ := h j hj
  exact ⟨g, o, e, c, hg⟩
theorem Lies.en {w : World} {a : Option Addr} {l : List En} (h : Lies enE w a l) (j : Nat) (hj : j < l.length) : ∃ g o : Nat, a = some ⟨g, o, none⟩ ∧ g < w.heap.size ∧ w.cell? ⟨g, o + j * 13, none⟩ = some (.int .i64 l[j].num) ∧ w.cell? ⟨g, o + j * 13 + 1, none⟩ = some (.int .i64 l[j].ep) ∧ w.cell? ⟨g, o + j * 13 + 2, none⟩ = some (.int .i64 l[j].o.k) ∧ w.cell? ⟨g, o + j * 13 + 3, none⟩ = some (.bool l[j].o.p.v) ∧ w.cell? ⟨g, o + j * 13 + 4, none⟩ = some (.int .u64 l[j].o.p.hi) ∧ w.cell? ⟨g, o + j * 13 + 5, none⟩ = some (.int .u64 l[j].o.p.lo) ∧ w.cell? ⟨g, o + j * 13 + 6, none⟩ = some (.int .i64 l[j].o.p.b) ∧ w.cell? ⟨g, o + j * 13 + 7, none⟩ = some (.bool l[j].o.a.v) ∧ w.cell? ⟨g, o + j * 13 + 8, none⟩ = some (.int .u64 l[j].o.a.hi) ∧ w.cell? ⟨g, o + j * 13 + 9, none⟩ = some (.int .u64 l[j].o.a.lo) ∧ w.cell? ⟨g, o + j * 13 + 10, none⟩ = some (.string l[j].o.who) ∧ w.cell? ⟨g, o + j * 13 + 11, none⟩ = some (.int .i64 l[j].o.pof) ∧ w.cell? ⟨g, o + j * 13 + 12, none⟩ = some (.int .i64 l[j].o.n) := by
  obtain ⟨g, o, e, c, hg⟩ := h.has j hj
  exact ⟨g, o, e, hg, c 0 _ rfl, c 1 _ rfl, c 2 _ rfl, c 3 _ rfl, c 4 _ rfl, c 5 _ rfl, c 6 _ rfl, c 7 _ rfl, c 8 _ rfl, c 9 _ rfl, c 10 _ rfl, c 11 _ rfl, c 12 _ rfl⟩
/-- The epoch of the last entry; 0, if there is none. -/
def tailE (l : List En) : Int := match l.getLast? with | some x => x.ep | none => 0
/-- May an entry stand behind these? -/
def follE (l : List En) (n : En) : Int :=
  if n.num = (l.length : Int) + 1 then (if n.ep < 1 ∨ 999 < n.ep then 3 else if n.ep < tailE l then 4 else formE n.o) else 4
theorem keepE {w W W' : World} {b : Nat} {v0 v1 v2 v3 v4 v5 v6 v7 v8 v9 v10 v11 v12 : Value} (h : (W.cell? ⟨b, 0, none⟩ = some (v0) ∧ W.cell? ⟨b, 1, none⟩ = some (v1) ∧ W.cell? ⟨b, 2, none⟩ = some (v2) ∧ W.cell? ⟨b, 3, none⟩ = some (v3) ∧ W.cell? ⟨b, 4, none⟩ = some (v4) ∧ W.cell? ⟨b, 5, none⟩ = some (v5) ∧ W.cell? ⟨b, 6, none⟩ = some (v6) ∧ W.cell? ⟨b, 7, none⟩ = some (v7) ∧ W.cell? ⟨b, 8, none⟩ = some (v8) ∧ W.cell? ⟨b, 9, none⟩ = some (v9) ∧ W.cell? ⟨b, 10, none⟩ = some (v10) ∧ W.cell? ⟨b, 11, none⟩ = some (v11) ∧ W.cell? ⟨b, 12, none⟩ = some (v12) ∧ b < W.heap.size) ∧ Below w.heap.size w W) (hb : Below W.heap.size W W') : (W'.cell? ⟨b, 0, none⟩ = some (v0) ∧ W'.cell? ⟨b, 1, none⟩ = some (v1) ∧ W'.cell? ⟨b, 2, none⟩ = some (v2) ∧ W'.cell? ⟨b, 3, none⟩ = some (v3) ∧ W'.cell? ⟨b, 4, none⟩ = some (v4) ∧ W'.cell? ⟨b, 5, none⟩ = some (v5) ∧ W'.cell? ⟨b, 6, none⟩ = some (v6) ∧ W'.cell? ⟨b, 7, none⟩ = some (v7) ∧ W'.cell? ⟨b, 8, none⟩ = some (v8) ∧ W'.cell? ⟨b, 9, none⟩ = some (v9) ∧ W'.cell? ⟨b, 10, none⟩ = some (v10) ∧ W'.cell? ⟨b, 11, none⟩ = some (v11) ∧ W'.cell? ⟨b, 12, none⟩ = some (v12) ∧ b < W'.heap.size) ∧ Below w.heap.size w W' := by
  obtain ⟨⟨a0, a1, a2, a3, a4, a5, a6, a7, a8, a9, a10, a11, a12, z⟩, hw⟩ := h
  have k := (bcell hb).1
  exact ⟨⟨by rw [k _ _ z]; exact a0, by rw [k _ _ z]; exact a1, by rw [k _ _ z]; exact a2, by rw [k _ _ z]; exact a3, by rw [k _ _ z]; exact a4, by rw [k _ _ z]; exact a5, by rw [k _ _ z]; exact a6, by rw [k _ _ z]; exact a7, by rw [k _ _ z]; exact a8, by rw [k _ _ z]; exact a9, by rw [k _ _ z]; exact a10, by rw [k _ _ z]; exact a11, by rw [k _ _ z]; exact a12, Nat.lt_of_lt_of_le z hb.size⟩, btr hw hb⟩
set_option maxHeartbeats 16000000 in
set_option maxRecDepth 100000 in
theorem follows_any (a : Option Addr) (c : Nat) (l : List En) (n : En) (w : World) (hl : l.length ≤ 1000) (hs : Lies enE w a l) :
    Calls Try.prog 20 #[.slice a l.length c, .agg #[.int .i64 n.num, .int .i64 n.ep, .int .i64 n.o.k, .bool n.o.p.v, .int .u64 n.o.p.hi, .int .u64 n.o.p.lo, .int .i64 n.o.p.b, .bool n.o.a.v, .int .u64 n.o.a.hi, .int .u64 n.o.a.lo, .string n.o.who, .int .i64 n.o.pof, .int .i64 n.o.n]] w fun e w' => e = .returned (.int .i64 (follE l n)) ∧ Below w.heap.size w w' := by
  have hF : Hid (∀ w : World, Calls Try.prog 27 #[.agg #[.int .i64 n.o.k, .bool n.o.p.v, .int .u64 n.o.p.hi, .int .u64 n.o.p.lo, .int .i64 n.o.p.b, .bool n.o.a.v, .int .u64 n.o.a.hi, .int .u64 n.o.a.lo, .string n.o.who, .int .i64 n.o.pof, .int .i64 n.o.n]] w fun e w' => e = .returned (.int .i64 (formE n.o)) ∧ Below w.heap.size w w') := fun w => sform_any n.o w
  have HB := Lib.hid (bal (Below.refl w.heap.size w) (.cells #[.int .i64 n.num, .int .i64 n.ep, .int .i64 n.o.k, .bool n.o.p.v, .int .u64 n.o.p.hi, .int .u64 n.o.p.lo, .int .i64 n.o.p.b, .bool n.o.a.v, .int .u64 n.o.a.hi, .int .u64 n.o.a.lo, .string n.o.who, .int .i64 n.o.pof, .int .i64 n.o.n] 44))
  have HL := Lib.hid hs
  unfold follE
  obtain ⟨N, hN⟩ : ∃ N, N = l.length := ⟨_, rfl⟩
  rw [← hN]
  have HN : Hid (N = l.length) := hN
  have hN1 : N ≤ 1000 := by omega
  have hN0 : (0 : Int) ≤ (N : Int) := by omega
  have hN3 : (N : Int) ≤ 1000 := by omega
  clear hN hs hl
  generalize formE n.o = fe at *
  generalize n.num = x0 at *
  generalize n.ep = x1 at *
  generalize n.o.k = x2 at *
  generalize n.o.p.v = x3 at *
  generalize n.o.p.hi = x4 at *
  generalize n.o.p.lo = x5 at *
  generalize n.o.p.b = x6 at *
  generalize n.o.a.v = x7 at *
  generalize n.o.a.hi = x8 at *
  generalize n.o.a.lo = x9 at *
  generalize n.o.who = x10 at *
  generalize n.o.pof = x11 at *
  generalize n.o.n = x12 at *
  by_cases h0 : x0 = (N : Int) + 1
  · rw [if_pos h0]
    have b0 : (x0 != (N : Int) + 1) = false := by simp [h0]
    clear h0
    by_cases h1 : x1 < 1
    · rw [if_pos (.inl h1)]
      go_enter Try.func20, Try.ntmps20
      go_wp2
      go_ret
      exact ⟨rfl, HB.out⟩
    have d1 : decide (x1 < 1) = false := decide_eq_false h1
    by_cases h2 : 999 < x1
    · rw [if_pos (.inr h2)]
      go_enter Try.func20, Try.ntmps20
      go_wp2
      go_ret
      exact ⟨rfl, HB.out⟩
    have d2 : decide (999 < x1) = false := decide_eq_false h2
    rw [if_neg (by omega)]
    by_cases hz : N = 0
    · have et : tailE l = 0 := by
        have : l = [] := List.length_eq_zero_iff.1 (by rw [← HN.out]; exact hz)
        rw [this]; rfl
      rw [et, if_neg (by omega)]
      subst hz
      clear et HL HN h1 h2
      go_enter Try.func20, Try.ntmps20
      go_wp2
      go_region
      go_wp2_with fail
      refine (hF.out _).mono ?_
      rintro e w3 ⟨rfl, hb3⟩
      go_wp2
      go_ret
      exact ⟨rfl, btr HB.out.drew hb3⟩
    · obtain ⟨m, hm⟩ : ∃ m, N = m + 1 := ⟨N - 1, by omega⟩
      have hml : m < l.length := by have := HN.out; omega
      have et : tailE l = l[m].ep := by
        unfold tailE
        rw [List.getLast?_eq_getElem?, show l.length - 1 = m by have := HN.out; omega, List.getElem?_eq_getElem hml]
      rw [et]
      obtain ⟨g, o, rfl, hg, q0, q1, q3⟩ := HL.out.en m hml
      clear q0 q3
      have hgn : g < (w.alloc (.cells #[.int .i64 x0, .int .i64 x1, .int .i64 x2, .bool x3, .int .u64 x4, .int .u64 x5, .int .i64 x6, .bool x7, .int .u64 x8, .int .u64 x9, .string x10, .int .i64 x11, .int .i64 x12] 44)).heap.size := by simp; omega
      have q2 : (w.alloc (.cells #[.int .i64 x0, .int .i64 x1, .int .i64 x2, .bool x3, .int .u64 x4, .int .u64 x5, .int .i64 x6, .bool x7, .int .u64 x8, .int .u64 x9, .string x10, .int .i64 x11, .int .i64 x12] 44)).cell? ⟨g, o + m * 13 + 1, none⟩ = some (.int .i64 l[m].ep) := by rw [(bcell (bal (Below.refl w.heap.size w) _)).1 _ _ hg]; exact q1
      have HQ := Lib.hid q2
      have hwr : IntKind.i64.wrap ((m : Int) + 1 - 1) = (m : Int) := by rw [IntKind.wrap_i64]; omega
      have hwr2 : IntKind.i64.wrap (m : Int) = (m : Int) := by rw [IntKind.wrap_i64]; omega
      have hm0 : (0 : Int) ≤ (m : Int) := by omega
      have hm1 : (m : Int) < (m : Int) + 1 := by omega
      have hmp : (0 : Int) < (m : Int) + 1 := by omega
      have hcast : ((N : Nat) : Int) = (m : Int) + 1 := by omega
      subst hm
      generalize l[m].ep = y at *
      clear et hz q1 q2 hg hml HL HN h1 h2
      obtain ⟨hh, hz⟩ := (HasL.new w [.int .i64 x0, .int .i64 x1, .int .i64 x2, .bool x3, .int .u64 x4, .int .u64 x5, .int .i64 x6, .bool x7, .int .u64 x8, .int .u64 x9, .string x10, .int .i64 x11, .int .i64 x12] 44)
      have S1 : Hid (((w.alloc (.cells #[.int .i64 x0, .int .i64 x1, .int .i64 x2, .bool x3, .int .u64 x4, .int .u64 x5, .int .i64 x6, .bool x7, .int .u64 x8, .int .u64 x9, .string x10, .int .i64 x11, .int .i64 x12] 44)).drew.cell? ⟨w.heap.size, 0, none⟩ = some (.int .i64 x0) ∧ (w.alloc (.cells #[.int .i64 x0, .int .i64 x1, .int .i64 x2, .bool x3, .int .u64 x4, .int .u64 x5, .int .i64 x6, .bool x7, .int .u64 x8, .int .u64 x9, .string x10, .int .i64 x11, .int .i64 x12] 44)).drew.cell? ⟨w.heap.size, 1, none⟩ = some (.int .i64 x1) ∧ (w.alloc (.cells #[.int .i64 x0, .int .i64 x1, .int .i64 x2, .bool x3, .int .u64 x4, .int .u64 x5, .int .i64 x6, .bool x7, .int .u64 x8, .int .u64 x9, .string x10, .int .i64 x11, .int .i64 x12] 44)).drew.cell? ⟨w.heap.size, 2, none⟩ = some (.int .i64 x2) ∧ (w.alloc (.cells #[.int .i64 x0, .int .i64 x1, .int .i64 x2, .bool x3, .int .u64 x4, .int .u64 x5, .int .i64 x6, .bool x7, .int .u64 x8, .int .u64 x9, .string x10, .int .i64 x11, .int .i64 x12] 44)).drew.cell? ⟨w.heap.size, 3, none⟩ = some (.bool x3) ∧ (w.alloc (.cells #[.int .i64 x0, .int .i64 x1, .int .i64 x2, .bool x3, .int .u64 x4, .int .u64 x5, .int .i64 x6, .bool x7, .int .u64 x8, .int .u64 x9, .string x10, .int .i64 x11, .int .i64 x12] 44)).drew.cell? ⟨w.heap.size, 4, none⟩ = some (.int .u64 x4) ∧ (w.alloc (.cells #[.int .i64 x0, .int .i64 x1, .int .i64 x2, .bool x3, .int .u64 x4, .int .u64 x5, .int .i64 x6, .bool x7, .int .u64 x8, .int .u64 x9, .string x10, .int .i64 x11, .int .i64 x12] 44)).drew.cell? ⟨w.heap.size, 5, none⟩ = some (.int .u64 x5) ∧ (w.alloc (.cells #[.int .i64 x0, .int .i64 x1, .int .i64 x2, .bool x3, .int .u64 x4, .int .u64 x5, .int .i64 x6, .bool x7, .int .u64 x8, .int .u64 x9, .string x10, .int .i64 x11, .int .i64 x12] 44)).drew.cell? ⟨w.heap.size, 6, none⟩ = some (.int .i64 x6) ∧ (w.alloc (.cells #[.int .i64 x0, .int .i64 x1, .int .i64 x2, .bool x3, .int .u64 x4, .int .u64 x5, .int .i64 x6, .bool x7, .int .u64 x8, .int .u64 x9, .string x10, .int .i64 x11, .int .i64 x12] 44)).drew.cell? ⟨w.heap.size, 7, none⟩ = some (.bool x7) ∧ (w.alloc (.cells #[.int .i64 x0, .int .i64 x1, .int .i64 x2, .bool x3, .int .u64 x4, .int .u64 x5, .int .i64 x6, .bool x7, .int .u64 x8, .int .u64 x9, .string x10, .int .i64 x11, .int .i64 x12] 44)).drew.cell? ⟨w.heap.size, 8, none⟩ = some (.int .u64 x8) ∧ (w.alloc (.cells #[.int .i64 x0, .int .i64 x1, .int .i64 x2, .bool x3, .int .u64 x4, .int .u64 x5, .int .i64 x6, .bool x7, .int .u64 x8, .int .u64 x9, .string x10, .int .i64 x11, .int .i64 x12] 44)).drew.cell? ⟨w.heap.size, 9, none⟩ = some (.int .u64 x9) ∧ (w.alloc (.cells #[.int .i64 x0, .int .i64 x1, .int .i64 x2, .bool x3, .int .u64 x4, .int .u64 x5, .int .i64 x6, .bool x7, .int .u64 x8, .int .u64 x9, .string x10, .int .i64 x11, .int .i64 x12] 44)).drew.cell? ⟨w.heap.size, 10, none⟩ = some (.string x10) ∧ (w.alloc (.cells #[.int .i64 x0, .int .i64 x1, .int .i64 x2, .bool x3, .int .u64 x4, .int .u64 x5, .int .i64 x6, .bool x7, .int .u64 x8, .int .u64 x9, .string x10, .int .i64 x11, .int .i64 x12] 44)).drew.cell? ⟨w.heap.size, 11, none⟩ = some (.int .i64 x11) ∧ (w.alloc (.cells #[.int .i64 x0, .int .i64 x1, .int .i64 x2, .bool x3, .int .u64 x4, .int .u64 x5, .int .i64 x6, .bool x7, .int .u64 x8, .int .u64 x9, .string x10, .int .i64 x11, .int .i64 x12] 44)).drew.cell? ⟨w.heap.size, 12, none⟩ = some (.int .i64 x12) ∧ (w.alloc (.cells #[.int .i64 x0, .int .i64 x1, .int .i64 x2, .bool x3, .int .u64 x4, .int .u64 x5, .int .i64 x6, .bool x7, .int .u64 x8, .int .u64 x9, .string x10, .int .i64 x11, .int .i64 x12] 44)).drew.cell? ⟨g, o + m * 13 + 1, none⟩ = some (.int .i64 y)) ∧ Below w.heap.size w (w.alloc (.cells #[.int .i64 x0, .int .i64 x1, .int .i64 x2, .bool x3, .int .u64 x4, .int .u64 x5, .int .i64 x6, .bool x7, .int .u64 x8, .int .u64 x9, .string x10, .int .i64 x11, .int .i64 x12] 44)).drew) := ⟨⟨hh 0 _ rfl, hh 1 _ rfl, hh 2 _ rfl, hh 3 _ rfl, hh 4 _ rfl, hh 5 _ rfl, hh 6 _ rfl, hh 7 _ rfl, hh 8 _ rfl, hh 9 _ rfl, hh 10 _ rfl, hh 11 _ rfl, hh 12 _ rfl, HQ.out⟩, HB.out.drew⟩
      clear HQ
      by_cases hy : x1 < y
      · rw [if_pos hy]
        go_enter Try.func20, Try.ntmps20
        go_wp2_with fail
        go_region_held3 (fun w' => (w'.cell? ⟨w.heap.size, 0, none⟩ = some (.int .i64 x0) ∧ w'.cell? ⟨w.heap.size, 1, none⟩ = some (.int .i64 x1) ∧ w'.cell? ⟨w.heap.size, 2, none⟩ = some (.int .i64 x2) ∧ w'.cell? ⟨w.heap.size, 3, none⟩ = some (.bool x3) ∧ w'.cell? ⟨w.heap.size, 4, none⟩ = some (.int .u64 x4) ∧ w'.cell? ⟨w.heap.size, 5, none⟩ = some (.int .u64 x5) ∧ w'.cell? ⟨w.heap.size, 6, none⟩ = some (.int .i64 x6) ∧ w'.cell? ⟨w.heap.size, 7, none⟩ = some (.bool x7) ∧ w'.cell? ⟨w.heap.size, 8, none⟩ = some (.int .u64 x8) ∧ w'.cell? ⟨w.heap.size, 9, none⟩ = some (.int .u64 x9) ∧ w'.cell? ⟨w.heap.size, 10, none⟩ = some (.string x10) ∧ w'.cell? ⟨w.heap.size, 11, none⟩ = some (.int .i64 x11) ∧ w'.cell? ⟨w.heap.size, 12, none⟩ = some (.int .i64 x12) ∧ w'.cell? ⟨g, o + m * 13 + 1, none⟩ = some (.int .i64 y)) ∧ Below w.heap.size w w')
          (with_reducible exact S1.out)
          (fail)
        go_wp2
        go_ret
        exact ⟨rfl, And.right (by assumption)⟩
      · rw [if_neg hy]
        have d3 : decide (x1 < y) = false := decide_eq_false hy
        go_enter Try.func20, Try.ntmps20
        go_wp2_with fail
        go_region_held3 (fun w' => (w'.cell? ⟨w.heap.size, 0, none⟩ = some (.int .i64 x0) ∧ w'.cell? ⟨w.heap.size, 1, none⟩ = some (.int .i64 x1) ∧ w'.cell? ⟨w.heap.size, 2, none⟩ = some (.int .i64 x2) ∧ w'.cell? ⟨w.heap.size, 3, none⟩ = some (.bool x3) ∧ w'.cell? ⟨w.heap.size, 4, none⟩ = some (.int .u64 x4) ∧ w'.cell? ⟨w.heap.size, 5, none⟩ = some (.int .u64 x5) ∧ w'.cell? ⟨w.heap.size, 6, none⟩ = some (.int .i64 x6) ∧ w'.cell? ⟨w.heap.size, 7, none⟩ = some (.bool x7) ∧ w'.cell? ⟨w.heap.size, 8, none⟩ = some (.int .u64 x8) ∧ w'.cell? ⟨w.heap.size, 9, none⟩ = some (.int .u64 x9) ∧ w'.cell? ⟨w.heap.size, 10, none⟩ = some (.string x10) ∧ w'.cell? ⟨w.heap.size, 11, none⟩ = some (.int .i64 x11) ∧ w'.cell? ⟨w.heap.size, 12, none⟩ = some (.int .i64 x12) ∧ w'.cell? ⟨g, o + m * 13 + 1, none⟩ = some (.int .i64 y)) ∧ Below w.heap.size w w')
          (with_reducible exact S1.out)
          (fail)
        clear S1
        go_wp2_with fail
        refine (hF.out _).mono ?_
        rintro e w3 ⟨rfl, hb3⟩
        go_wp2
        go_ret
        exact ⟨rfl, btr (And.right (by assumption)) hb3⟩
  · rw [if_neg h0]
    have b0 : (x0 != (N : Int) + 1) = true := by rw [bne_iff_ne]; exact h0
    go_enter Try.func20, Try.ntmps20
    go_wp2
    go_ret
    exact ⟨rfl, HB.out⟩
end Go.Proofs.Ytclnfkohlklbpaa
