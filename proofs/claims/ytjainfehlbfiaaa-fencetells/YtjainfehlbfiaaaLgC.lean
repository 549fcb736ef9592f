/- slices.IndexFunc, slices.ContainsFunc at entries. -/
import Derived.Test.YtjainfehlbfiaaaLgB
import Derived.Test.YtjainfehlbfiaaaLsC
set_option linter.unusedVariables false
set_option linter.unusedSimpArgs false
namespace Go.Proofs.Ytjainfehlbfiaaa
open Go.RowKit

theorem any_idx {α : Type} (f : α → Bool) (l : List α) : decide ((0 : Int) ≤ idxI (l.findIdx? f)) = l.any f := by
  cases h : l.findIdx? f with
  | none =>
    have := List.findIdx?_eq_none_iff.1 h
    rw [show l.any f = false from List.any_eq_false.2 fun x hx => by rw [this x hx]; simp]
    rfl
  | some i =>
    obtain ⟨hi, hp, _⟩ := List.findIdx?_eq_some_iff_getElem.1 h
    rw [show l.any f = true from List.any_eq_true.2 ⟨_, List.getElem_mem hi, hp⟩]
    simp [idxI]
set_option maxHeartbeats 8000000 in
theorem ifnE_any (a : Option Addr) (c : Nat) (l : List En) (w : World) (f : Nat) (lb : Array Value) (p : En → Bool) (hl : l.length ≤ 1000) (hs : Lies enE w a l) (ef : ∀ args w, (callFunc f args).run Try.prog w = .ok (.enter f args) w)
    (hp : ∀ (W : World) (x : En), x ∈ l → Below w.heap.size w W → Calls Try.prog f (#[.agg #[.int .i64 x.num, .int .i64 x.ep, .int .i64 x.o.k, .bool x.o.p.v, .int .u64 x.o.p.hi, .int .u64 x.o.p.lo, .int .i64 x.o.p.b, .bool x.o.a.v, .int .u64 x.o.a.hi, .int .u64 x.o.a.lo, .string x.o.who, .int .i64 x.o.pof, .int .i64 x.o.n]] ++ lb) W fun e w' => e = .returned (.bool (p x)) ∧ Below w.heap.size w w') :
    Calls Try.prog 39 #[.slice a l.length c, .func (.func f) #[] lb] w fun e w' => e = .returned (.int .i64 (idxI (l.findIdx? p))) ∧ Below w.heap.size w w' := by
  obtain ⟨N, hN⟩ : ∃ N, N = l.length := ⟨_, rfl⟩
  rw [← hN] at hl ⊢
  have HN : Hid (N = l.length) := hN
  have HL := Lib.hid hs
  have HPr := Lib.hid hp
  obtain ⟨R, hR⟩ : ∃ R, R = idxI (l.findIdx? p) := ⟨_, rfl⟩
  rw [← hR]
  have HR := Lib.hid hR
  clear hN hs hp hR
  go_enter Try.func39, Try.ntmps39
  go_wp2_with fail
  go_loopw [8] (fun vi wr => ∃ k : Nat, vi = .int .i64 k ∧ k ≤ N ∧ Hid (Below w.heap.size w wr) ∧ Hid (∀ j (hj : j < k) (hl : j < l.length), p l[j] = false))
    (fun vi _ => N - (intOf vi).toNat)
  case atStart => exact ⟨0, rfl, Nat.zero_le _, Below.refl _ _, fun j hj => absurd hj (Nat.not_lt_zero _)⟩
  case round =>
    obtain ⟨k, rfl, hk, hb, hh⟩ := hrel
    by_cases hkN : k < N
    · have hkl : k < l.length := by have := HN.out; omega
      obtain ⟨g, o, rfl, ch, hg⟩ := HL.out.has k hkl
      obtain ⟨c0, c1, c2, c3, c4, c5, c6, c7, c8, c9, c10, c11, c12⟩ : w.cell? ⟨g, o + k * 13, none⟩ = some (.int .i64 l[k].num) ∧ w.cell? ⟨g, o + k * 13 + 1, none⟩ = some (.int .i64 l[k].ep) ∧ w.cell? ⟨g, o + k * 13 + 2, none⟩ = some (.int .i64 l[k].o.k) ∧ w.cell? ⟨g, o + k * 13 + 3, none⟩ = some (.bool l[k].o.p.v) ∧ w.cell? ⟨g, o + k * 13 + 4, none⟩ = some (.int .u64 l[k].o.p.hi) ∧ w.cell? ⟨g, o + k * 13 + 5, none⟩ = some (.int .u64 l[k].o.p.lo) ∧ w.cell? ⟨g, o + k * 13 + 6, none⟩ = some (.int .i64 l[k].o.p.b) ∧ w.cell? ⟨g, o + k * 13 + 7, none⟩ = some (.bool l[k].o.a.v) ∧ w.cell? ⟨g, o + k * 13 + 8, none⟩ = some (.int .u64 l[k].o.a.hi) ∧ w.cell? ⟨g, o + k * 13 + 9, none⟩ = some (.int .u64 l[k].o.a.lo) ∧ w.cell? ⟨g, o + k * 13 + 10, none⟩ = some (.string l[k].o.who) ∧ w.cell? ⟨g, o + k * 13 + 11, none⟩ = some (.int .i64 l[k].o.pof) ∧ w.cell? ⟨g, o + k * 13 + 12, none⟩ = some (.int .i64 l[k].o.n) := ⟨ch 0 _ rfl, ch 1 _ rfl, ch 2 _ rfl, ch 3 _ rfl, ch 4 _ rfl, ch 5 _ rfl, ch 6 _ rfl, ch 7 _ rfl, ch 8 _ rfl, ch 9 _ rfl, ch 10 _ rfl, ch 11 _ rfl, ch 12 _ rfl⟩
      rw [← (bcell hb.out).1 _ _ hg] at c0 c1 c2 c3 c4 c5 c6 c7 c8 c9 c10 c11 c12
      have HC := Lib.hid (HPr.out wr l[k] (List.getElem_mem hkl) hb.out)
      have hkz : (k : Int) < (N : Int) := by omega
      have hk0 : (0 : Int) ≤ (k : Int) := by omega
      have HQ : Hid (∀ b, p l[k] = b → (b = true → R = k) ∧ (b = false → ∀ j (hj : j < k + 1) (hl : j < l.length), p l[j] = false)) := by
        intro b hb
        refine ⟨fun e => ?_, fun e j hj hl => ?_⟩
        · rw [HR.out, find_hit hkl (hb.trans e) (fun j hj => hh.out j hj (by omega))]; rfl
        · by_cases hjk : j = k
          · subst hjk; exact hb.trans e
          · exact hh.out j (by omega) hl
      generalize hq : p l[k] = b at *
      have HQ2 := Lib.hid (HQ.out b rfl)
      clear ch
      generalize l[k].num = x0 at *
      generalize l[k].ep = x1 at *
      generalize l[k].o.k = x2 at *
      generalize l[k].o.p.v = x3 at *
      generalize l[k].o.p.hi = x4 at *
      generalize l[k].o.p.lo = x5 at *
      generalize l[k].o.p.b = x6 at *
      generalize l[k].o.a.v = x7 at *
      generalize l[k].o.a.hi = x8 at *
      generalize l[k].o.a.lo = x9 at *
      generalize l[k].o.who = x10 at *
      generalize l[k].o.pof = x11 at *
      generalize l[k].o.n = x12 at *
      clear hh hb HPr HQ hq HL
      cases b
      · have HQ3 := Lib.hid (HQ2.out.2 rfl)
        clear HQ2
        go_wp2_with fail
        refine HC.out.mono ?_
        rintro e w2 ⟨rfl, hb2⟩
        have HB := Lib.hid hb2
        clear hb2
        go_wp2_with fail
        go_roundw
        case rel => exact ⟨k + 1, by go_num, by omega, HB, HQ3⟩
        case measure => simp [intOf]; omega
      · have HQ3 := Lib.hid (HQ2.out.1 rfl)
        clear HQ2
        go_wp2_with fail
        refine HC.out.mono ?_
        rintro e w2 ⟨rfl, hb2⟩
        go_wp2_with fail
        go_ret
        exact ⟨congrArg (fun r => Ending.returned (Value.int .i64 r)) HQ3.out.symm, hb2⟩
    · obtain rfl : k = N := by omega
      have hkk : ¬ (k : Int) < (k : Int) := by omega
      have HD : Hid (R = -1) := by
        rw [Hid, HR.out, find_miss (fun j hj => hh.out j (by have := HN.out; omega) hj)]; rfl
      go_wp2_with fail
      go_ret
      exact ⟨congrArg (fun r => Ending.returned (Value.int .i64 r)) HD.out.symm, hb.out⟩
set_option maxHeartbeats 4000000 in
theorem conE_any (a : Option Addr) (c : Nat) (l : List En) (w : World) (f : Nat) (lb : Array Value) (p : En → Bool) (hl : l.length ≤ 1000) (hs : Lies enE w a l) (ef : ∀ args w, (callFunc f args).run Try.prog w = .ok (.enter f args) w)
    (hp : ∀ (W : World) (x : En), x ∈ l → Below w.heap.size w W → Calls Try.prog f (#[.agg #[.int .i64 x.num, .int .i64 x.ep, .int .i64 x.o.k, .bool x.o.p.v, .int .u64 x.o.p.hi, .int .u64 x.o.p.lo, .int .i64 x.o.p.b, .bool x.o.a.v, .int .u64 x.o.a.hi, .int .u64 x.o.a.lo, .string x.o.who, .int .i64 x.o.pof, .int .i64 x.o.n]] ++ lb) W fun e w' => e = .returned (.bool (p x)) ∧ Below w.heap.size w w') :
    Calls Try.prog 31 #[.slice a l.length c, .func (.func f) #[] lb] w fun e w' => e = .returned (.bool (l.any p)) ∧ Below w.heap.size w w' := by
  have HI := Lib.hid (ifnE_any a c l w f lb p hl hs ef hp)
  have HE := Lib.hid (any_idx p l)
  generalize idxI (l.findIdx? p) = ix at *
  generalize l.any p = R at *
  generalize l.length = N at *
  clear hs hp
  go_enter Try.func31, Try.ntmps31
  go_wp2_with fail
  refine HI.out.mono ?_
  rintro e w2 ⟨rfl, hb⟩
  have HB2 := Lib.hid hb
  clear hb
  go_wp2
  go_ret
  exact ⟨congrArg (fun r => Ending.returned (Value.bool r)) HE.out, HB2.out⟩
end Go.Proofs.Ytjainfehlbfiaaa
