/- TableMore: the walk and the law. -/
import Derived.Test.YtghbonlignmdoaaGreatDoorTrA
import Derived.Test.YtghbonlignmdoaaGreatDoorPfF
import Derived.Test.YtghbonlignmdoaaGreatDoorTrB
set_option linter.unusedVariables false
set_option linter.unusedSimpArgs false
namespace Go.Proofs.YtghbonlignmdoaaGreatDoor
open Go.RowKit

theorem at_world (W : World) {c : Prop} [Decidable c] {P : Program} {o : Oper} {a : Act} {w : World} {K : Act → World → Prop} {Q : Exit → Act → World → Prop} {E : Prop} (hw : w = W) (h : if c then Oper.wp P o a W K Q else E) : if c then Oper.wp P o a w K Q else E := by rw [hw]; exact h
set_option maxHeartbeats 64000000 in
set_option maxRecDepth 100000 in
theorem tm_err (a : Option Addr) (c N : Nat) (v : Bool) (xh xl : Int) (n : Int) (w : World) (fi fe : Int)
    (HT : Hid (∀ w' : World, Calls Tryz.prog 5 #[] w' fun e w'' => e = .returned (.bool true) ∧ Below w'.heap.size w' w''))
    (HQ : Hid (∀ w' : World, Below w.heap.size w w' → Calls Tryz.prog 6 #[] w' fun e w'' => e = .returned (.bool true) ∧ Below w'.heap.size w' w''))
    (HF : Hid (∀ w' : World, Below w.heap.size w w' → Calls Tryz.prog 11 #[.slice a N c, .agg #[.bool v, .int .u64 xh, .int .u64 xl]] w' fun e w'' => e = .returned (.tuple #[.int .i64 fi, .int .i64 fe]) ∧ Below w'.heap.size w' w'')) (h0 : (fe != 0) = true) (h5 : (fe != 5) = true) :
    Calls Tryz.prog 4 #[.slice a N c, .agg #[.bool v, .int .u64 xh, .int .u64 xl], .int .i64 n] w fun e w' => e = .returned (.bool true) ∧ Below w.heap.size w w' := by
  have HP := Lib.hid (Has3.new w (.bool v) (.int .u64 xh) (.int .u64 xl) 25)
  have HB := Lib.hid (bal (Below.refl w.heap.size w) (.cells #[.bool v, .int .u64 xh, .int .u64 xl] 25))
  go_enter Tryz.func4, Tryz.ntmps4
  obtain ⟨a0, a1, a2, a3⟩ := HP.out
  go_wp2_with fail
  refine (HT.out _).mono ?_
  rintro e w1 ⟨rfl, hb⟩
  clear a0 a1 a2 a3
  replace HP := Lib.hid (HP.out.below hb)
  replace HB := Lib.hid (btr HB.out hb)
  clear hb
  obtain ⟨a0, a1, a2, a3⟩ := HP.out
  go_wp2_with fail
  refine (HQ.out _ HB.out).mono ?_
  rintro e w2 ⟨rfl, hb⟩
  clear a0 a1 a2 a3
  replace HP := Lib.hid (HP.out.below hb)
  replace HB := Lib.hid (btr HB.out hb)
  clear hb
  obtain ⟨a0, a1, a2, a3⟩ := HP.out
  go_wp2_with fail
  refine (HF.out _ HB.out).mono ?_
  rintro e w3 ⟨rfl, hb⟩
  clear a0 a1 a2 a3
  replace HP := Lib.hid (HP.out.below hb)
  replace HB := Lib.hid (btr HB.out hb)
  clear hb
  go_wp2_with fail
  go_ret
  exact ⟨rfl, HB.out⟩

set_option maxHeartbeats 64000000 in
set_option maxRecDepth 100000 in
theorem tm_neg0 (a : Option Addr) (c N : Nat) (v : Bool) (xh xl : Int) (n : Int) (w : World) (fi fe : Int)
    (HT : Hid (∀ w' : World, Calls Tryz.prog 5 #[] w' fun e w'' => e = .returned (.bool true) ∧ Below w'.heap.size w' w''))
    (HQ : Hid (∀ w' : World, Below w.heap.size w w' → Calls Tryz.prog 6 #[] w' fun e w'' => e = .returned (.bool true) ∧ Below w'.heap.size w' w''))
    (HF : Hid (∀ w' : World, Below w.heap.size w w' → Calls Tryz.prog 11 #[.slice a N c, .agg #[.bool v, .int .u64 xh, .int .u64 xl]] w' fun e w'' => e = .returned (.tuple #[.int .i64 fi, .int .i64 fe]) ∧ Below w'.heap.size w' w'')) (h0 : fe = 0) (h1 : n < 0) :
    Calls Tryz.prog 4 #[.slice a N c, .agg #[.bool v, .int .u64 xh, .int .u64 xl], .int .i64 n] w fun e w' => e = .returned (.bool true) ∧ Below w.heap.size w w' := by
  have HP := Lib.hid (Has3.new w (.bool v) (.int .u64 xh) (.int .u64 xl) 25)
  have HB := Lib.hid (bal (Below.refl w.heap.size w) (.cells #[.bool v, .int .u64 xh, .int .u64 xl] 25))
  subst h0
  go_enter Tryz.func4, Tryz.ntmps4
  obtain ⟨a0, a1, a2, a3⟩ := HP.out
  go_wp2_with fail
  refine (HT.out _).mono ?_
  rintro e w1 ⟨rfl, hb⟩
  clear a0 a1 a2 a3
  replace HP := Lib.hid (HP.out.below hb)
  replace HB := Lib.hid (btr HB.out hb)
  clear hb
  obtain ⟨a0, a1, a2, a3⟩ := HP.out
  go_wp2_with fail
  refine (HQ.out _ HB.out).mono ?_
  rintro e w2 ⟨rfl, hb⟩
  clear a0 a1 a2 a3
  replace HP := Lib.hid (HP.out.below hb)
  replace HB := Lib.hid (btr HB.out hb)
  clear hb
  obtain ⟨a0, a1, a2, a3⟩ := HP.out
  go_wp2_with fail
  refine (HF.out _ HB.out).mono ?_
  rintro e w3 ⟨rfl, hb⟩
  clear a0 a1 a2 a3
  replace HP := Lib.hid (HP.out.below hb)
  replace HB := Lib.hid (btr HB.out hb)
  clear hb
  go_wp2_with fail
  go_ret
  exact ⟨rfl, HB.out⟩

set_option maxHeartbeats 64000000 in
set_option maxRecDepth 100000 in
theorem tm_big0 (a : Option Addr) (c N : Nat) (v : Bool) (xh xl : Int) (n : Int) (w : World) (fi fe : Int)
    (HT : Hid (∀ w' : World, Calls Tryz.prog 5 #[] w' fun e w'' => e = .returned (.bool true) ∧ Below w'.heap.size w' w''))
    (HQ : Hid (∀ w' : World, Below w.heap.size w w' → Calls Tryz.prog 6 #[] w' fun e w'' => e = .returned (.bool true) ∧ Below w'.heap.size w' w''))
    (HF : Hid (∀ w' : World, Below w.heap.size w w' → Calls Tryz.prog 11 #[.slice a N c, .agg #[.bool v, .int .u64 xh, .int .u64 xl]] w' fun e w'' => e = .returned (.tuple #[.int .i64 fi, .int .i64 fe]) ∧ Below w'.heap.size w' w'')) (h0 : fe = 0) (h1 : decide (n < 0) = false) (h2 : (N : Int) ≤ n) :
    Calls Tryz.prog 4 #[.slice a N c, .agg #[.bool v, .int .u64 xh, .int .u64 xl], .int .i64 n] w fun e w' => e = .returned (.bool true) ∧ Below w.heap.size w w' := by
  have HP := Lib.hid (Has3.new w (.bool v) (.int .u64 xh) (.int .u64 xl) 25)
  have HB := Lib.hid (bal (Below.refl w.heap.size w) (.cells #[.bool v, .int .u64 xh, .int .u64 xl] 25))
  subst h0
  go_enter Tryz.func4, Tryz.ntmps4
  obtain ⟨a0, a1, a2, a3⟩ := HP.out
  go_wp2_with fail
  refine (HT.out _).mono ?_
  rintro e w1 ⟨rfl, hb⟩
  clear a0 a1 a2 a3
  replace HP := Lib.hid (HP.out.below hb)
  replace HB := Lib.hid (btr HB.out hb)
  clear hb
  obtain ⟨a0, a1, a2, a3⟩ := HP.out
  go_wp2_with fail
  refine (HQ.out _ HB.out).mono ?_
  rintro e w2 ⟨rfl, hb⟩
  clear a0 a1 a2 a3
  replace HP := Lib.hid (HP.out.below hb)
  replace HB := Lib.hid (btr HB.out hb)
  clear hb
  obtain ⟨a0, a1, a2, a3⟩ := HP.out
  go_wp2_with fail
  refine (HF.out _ HB.out).mono ?_
  rintro e w3 ⟨rfl, hb⟩
  clear a0 a1 a2 a3
  replace HP := Lib.hid (HP.out.below hb)
  replace HB := Lib.hid (btr HB.out hb)
  clear hb
  go_wp2_with fail
  go_ret
  exact ⟨rfl, HB.out⟩

set_option maxHeartbeats 64000000 in
set_option maxRecDepth 100000 in
theorem tm_neg5 (a : Option Addr) (c N : Nat) (v : Bool) (xh xl : Int) (n : Int) (w : World) (fi fe : Int)
    (HT : Hid (∀ w' : World, Calls Tryz.prog 5 #[] w' fun e w'' => e = .returned (.bool true) ∧ Below w'.heap.size w' w''))
    (HQ : Hid (∀ w' : World, Below w.heap.size w w' → Calls Tryz.prog 6 #[] w' fun e w'' => e = .returned (.bool true) ∧ Below w'.heap.size w' w''))
    (HF : Hid (∀ w' : World, Below w.heap.size w w' → Calls Tryz.prog 11 #[.slice a N c, .agg #[.bool v, .int .u64 xh, .int .u64 xl]] w' fun e w'' => e = .returned (.tuple #[.int .i64 fi, .int .i64 fe]) ∧ Below w'.heap.size w' w'')) (h0 : fe = 5) (h1 : n < 0) :
    Calls Tryz.prog 4 #[.slice a N c, .agg #[.bool v, .int .u64 xh, .int .u64 xl], .int .i64 n] w fun e w' => e = .returned (.bool true) ∧ Below w.heap.size w w' := by
  have HP := Lib.hid (Has3.new w (.bool v) (.int .u64 xh) (.int .u64 xl) 25)
  have HB := Lib.hid (bal (Below.refl w.heap.size w) (.cells #[.bool v, .int .u64 xh, .int .u64 xl] 25))
  subst h0
  go_enter Tryz.func4, Tryz.ntmps4
  obtain ⟨a0, a1, a2, a3⟩ := HP.out
  go_wp2_with fail
  refine (HT.out _).mono ?_
  rintro e w1 ⟨rfl, hb⟩
  clear a0 a1 a2 a3
  replace HP := Lib.hid (HP.out.below hb)
  replace HB := Lib.hid (btr HB.out hb)
  clear hb
  obtain ⟨a0, a1, a2, a3⟩ := HP.out
  go_wp2_with fail
  refine (HQ.out _ HB.out).mono ?_
  rintro e w2 ⟨rfl, hb⟩
  clear a0 a1 a2 a3
  replace HP := Lib.hid (HP.out.below hb)
  replace HB := Lib.hid (btr HB.out hb)
  clear hb
  obtain ⟨a0, a1, a2, a3⟩ := HP.out
  go_wp2_with fail
  refine (HF.out _ HB.out).mono ?_
  rintro e w3 ⟨rfl, hb⟩
  clear a0 a1 a2 a3
  replace HP := Lib.hid (HP.out.below hb)
  replace HB := Lib.hid (btr HB.out hb)
  clear hb
  go_wp2_with fail
  go_ret
  exact ⟨rfl, HB.out⟩

set_option maxHeartbeats 64000000 in
set_option maxRecDepth 100000 in
theorem tm_big5 (a : Option Addr) (c N : Nat) (v : Bool) (xh xl : Int) (n : Int) (w : World) (fi fe : Int)
    (HT : Hid (∀ w' : World, Calls Tryz.prog 5 #[] w' fun e w'' => e = .returned (.bool true) ∧ Below w'.heap.size w' w''))
    (HQ : Hid (∀ w' : World, Below w.heap.size w w' → Calls Tryz.prog 6 #[] w' fun e w'' => e = .returned (.bool true) ∧ Below w'.heap.size w' w''))
    (HF : Hid (∀ w' : World, Below w.heap.size w w' → Calls Tryz.prog 11 #[.slice a N c, .agg #[.bool v, .int .u64 xh, .int .u64 xl]] w' fun e w'' => e = .returned (.tuple #[.int .i64 fi, .int .i64 fe]) ∧ Below w'.heap.size w' w'')) (h0 : fe = 5) (h1 : decide (n < 0) = false) (h2 : (N : Int) ≤ n) :
    Calls Tryz.prog 4 #[.slice a N c, .agg #[.bool v, .int .u64 xh, .int .u64 xl], .int .i64 n] w fun e w' => e = .returned (.bool true) ∧ Below w.heap.size w w' := by
  have HP := Lib.hid (Has3.new w (.bool v) (.int .u64 xh) (.int .u64 xl) 25)
  have HB := Lib.hid (bal (Below.refl w.heap.size w) (.cells #[.bool v, .int .u64 xh, .int .u64 xl] 25))
  subst h0
  go_enter Tryz.func4, Tryz.ntmps4
  obtain ⟨a0, a1, a2, a3⟩ := HP.out
  go_wp2_with fail
  refine (HT.out _).mono ?_
  rintro e w1 ⟨rfl, hb⟩
  clear a0 a1 a2 a3
  replace HP := Lib.hid (HP.out.below hb)
  replace HB := Lib.hid (btr HB.out hb)
  clear hb
  obtain ⟨a0, a1, a2, a3⟩ := HP.out
  go_wp2_with fail
  refine (HQ.out _ HB.out).mono ?_
  rintro e w2 ⟨rfl, hb⟩
  clear a0 a1 a2 a3
  replace HP := Lib.hid (HP.out.below hb)
  replace HB := Lib.hid (btr HB.out hb)
  clear hb
  obtain ⟨a0, a1, a2, a3⟩ := HP.out
  go_wp2_with fail
  refine (HF.out _ HB.out).mono ?_
  rintro e w3 ⟨rfl, hb⟩
  clear a0 a1 a2 a3
  replace HP := Lib.hid (HP.out.below hb)
  replace HB := Lib.hid (btr HB.out hb)
  clear hb
  go_wp2_with fail
  go_ret
  exact ⟨rfl, HB.out⟩

theorem less_row {ps : List Pf} {N m q B : Nat} {v : Value} {w : World} {n : Nat} {xs : List Value} (hN : N = ps.length) (hq : q = m + 1) (hm : m < N) (h : w.ownsRow B 37 4 v n xs) (hn : n = N - 1) (hx : xs = flat (ps.take m) ++ flat (ps.drop q)) : w.ownsRow B 37 4 v (lessL' ps m).length (flat (lessL' ps m)) := by
  rw [lessL'_len (by omega), lessL', flat_append, ← hq, ← hx, ← hN, ← hn]
  exact h

set_option maxHeartbeats 64000000 in
set_option maxRecDepth 100000 in
theorem tm_none (a : Option Addr) (c N : Nat) (v : Bool) (xh xl : Int) (n : Int) (w : World) (fi fe : Int)
    (HT : Hid (∀ w' : World, Calls Tryz.prog 5 #[] w' fun e w'' => e = .returned (.bool true) ∧ Below w'.heap.size w' w''))
    (HQ : Hid (∀ w' : World, Below w.heap.size w w' → Calls Tryz.prog 6 #[] w' fun e w'' => e = .returned (.bool true) ∧ Below w'.heap.size w' w''))
    (HF : Hid (∀ w' : World, Below w.heap.size w w' → Calls Tryz.prog 11 #[.slice a N c, .agg #[.bool v, .int .u64 xh, .int .u64 xl]] w' fun e w'' => e = .returned (.tuple #[.int .i64 fi, .int .i64 fe]) ∧ Below w'.heap.size w' w''))
    (ps : List Pf) (m : Nat) (hn : n = m) (hm : m < N) (hN : N = ps.length) (hN12 : N ≤ 12) (hc : N ≤ c) (hs : Sl w a ps) (k f : Int)
    (HL : Hid (∀ (n5 : Nat) (a' : Option Addr) (c' : Nat) (w' : World), n5 = (lessL' ps m).length → Sl w' a' (lessL' ps m) → Calls Tryz.prog 11 #[.slice a' n5 c', .agg #[.bool v, .int .u64 xh, .int .u64 xl]] w' fun e w'' => e = .returned (.tuple #[.int .i64 k, .int .i64 f]) ∧ Below w'.heap.size w' w'')) (h0 : fe = 5) (h1 : f = 5) :
    Calls Tryz.prog 4 #[.slice a N c, .agg #[.bool v, .int .u64 xh, .int .u64 xl], .int .i64 n] w fun e w' => e = .returned (.bool true) ∧ Below w.heap.size w w' := by
  have HP := Lib.hid (Has3.new w (.bool v) (.int .u64 xh) (.int .u64 xl) 25)
  have HB := Lib.hid (bal (Below.refl w.heap.size w) (.cells #[.bool v, .int .u64 xh, .int .u64 xl] 25))
  subst hn
  subst h0 h1
  have hml : m < ps.length := by omega
  obtain ⟨g, o, rfl, hg, _, _, _, _⟩ := hs m hml
  have k5 : decide ((m : Int) < 0) = false := decide_eq_false (by omega)
  have k6 : decide ((N : Int) ≤ (m : Int)) = false := decide_eq_false (by omega)
  have k7 : (0 : Int) ≤ (m : Int) := by omega
  have k8 : (m : Int) ≤ (c : Int) := by omega
  obtain ⟨q, hq⟩ : ∃ q, q = m + 1 := ⟨_, rfl⟩
  have k9 : IntKind.i64.wrap ((m : Int) + 1) = (q : Int) := by rw [IntKind.wrap_i64]; omega
  have k10 : (0 : Int) ≤ (q : Int) := by omega
  have k11 : (q : Int) ≤ (N : Int) := by omega
  have k12 : (N : Int) ≤ (c : Int) := by omega
  have k14 : q ≤ N := by omega
  have Hq := Lib.hid hq
  clear hq
  have Hs := Lib.hid hs
  have HN := Lib.hid hN
  clear hs hN
  obtain ⟨i0, hi0, hz0, hz1, hz2⟩ := info_parts infoP
  obtain ⟨n5, hn5⟩ : ∃ n5, Hid (n5 = (lessL' ps m).length) := ⟨_, rfl⟩
  by_cases hcm : c = q
  · have hNc : N = c := by have := Hq.out; omega
    subst hNc
    subst hcm
    go_enter Tryz.func4, Tryz.ntmps4
    obtain ⟨a0, a1, a2, a3⟩ := HP.out
    go_wp2_with fail
    refine (HT.out _).mono ?_
    rintro e w1 ⟨rfl, hb⟩
    clear a0 a1 a2 a3
    replace HP := Lib.hid (HP.out.below hb)
    replace HB := Lib.hid (btr HB.out hb)
    clear hb
    obtain ⟨a0, a1, a2, a3⟩ := HP.out
    go_wp2_with fail
    refine (HQ.out _ HB.out).mono ?_
    rintro e w2 ⟨rfl, hb⟩
    clear a0 a1 a2 a3
    replace HP := Lib.hid (HP.out.below hb)
    replace HB := Lib.hid (btr HB.out hb)
    clear hb
    obtain ⟨a0, a1, a2, a3⟩ := HP.out
    go_wp2_with fail
    refine (HF.out _ HB.out).mono ?_
    rintro e w3 ⟨rfl, hb⟩
    clear a0 a1 a2 a3
    replace HP := Lib.hid (HP.out.below hb)
    replace HB := Lib.hid (btr HB.out hb)
    clear hb
    have rA : Hid (World.ownsRow (w3.alloc (.cells #[] 37)).drew w3.heap.size 37 4 (.slice (some ⟨w3.heap.size, 0, none⟩) 0 0) 0 []) := row_empty w3
    have kA : Hid (Below w3.heap.size w3 (w3.alloc (.cells #[] 37)).drew) := (bal (Below.refl _ _) _).drew
    have BA : Hid (Below w.heap.size w (w3.alloc (.cells #[] 37)).drew) := btr HB.out kA.out
    have hpz := Lib.hid HP.out.2.2.2
    have T0 : Hid (w3.drew.cell? ⟨w.heap.size, 0, none⟩ = some (.bool v) ∧ Below w.heap.size w w3.drew) := ⟨HP.out.1, HB.out.drew⟩
    have TA : Hid ((w3.alloc (.cells #[] 37)).drew.cell? ⟨w.heap.size, 0, none⟩ = some (.bool v) ∧ Below w.heap.size w (w3.alloc (.cells #[] 37)).drew) := ⟨(HP.out.below kA.out).1, BA.out⟩
    obtain ⟨a0, a1, a2, a3⟩ := HP.out
    go_wp2_with fail
    go_region_held3 (fun w' => w'.cell? ⟨w.heap.size, 0, none⟩ = some (.bool v) ∧ Below w.heap.size w w')
      (first | with_reducible exact T0.out | with_reducible exact TA.out | with_reducible exact T4.out | with_reducible exact T5.out | fail)
      (first
        | (refine at_world w4 (by with_reducible rfl) ?_; go_must (refine step_append_own (by rfl) _ _ 22 (by rfl) w3.heap.size 37 i0 _ 4 32 Tryz.underlying22 hi0 hz0 hz1 hz2 rfl (by decide) _ _ _ (by rfl) O4.out _ _ _ (flat (ps.drop N)) (by rfl) (by rw [flat_len, List.length_drop]; have := HN.out; omega) (by intro j u hj; rw [List.drop_eq_nil_of_le (by have := HN.out; omega)] at hj; simp [flat] at hj) (flat_one _) (by unfold maxLen; omega) (by omega) H4.out.size ?_; intro v5 w5 hown5 hgrow5 _; have H5 : Hid (Below w3.heap.size w3 w5) := H4.out.grown hgrow5 H4.out.size (fun k hk => (O4.out.lt k hk).1); have HO5 : Hid (w5.ownsRow w3.heap.size 37 4 v5 (lessL' ps m).length (flat (lessL' ps m))) := Lib.hid (less_row HN.out Hq.out hm hown5 (by have := Hq.out; omega) (by first | rfl | simp)); obtain ⟨a5, c5, e5, _, s5⟩ := own_sl HO5.out; rw [← hn5.out] at e5; subst e5; have S5 := Lib.hid s5; have P5 := Lib.hid (has3_upto HP.out hpz.out H5.out); have B5 : Hid (Below w.heap.size w w5) := btr HB.out (below_le H5.out (Nat.le_refl _)); have T5 : Hid (w5.cell? ⟨w.heap.size, 0, none⟩ = some (.bool v) ∧ Below w.heap.size w w5) := ⟨P5.out.1, B5.out⟩; clear hown5 hgrow5 s5))
        | (refine at_world (w3.alloc (.cells #[] 37)).drew (by with_reducible rfl) ?_; go_must (refine step_append_own (by rfl) _ _ 22 (by rfl) w3.heap.size 37 i0 _ 4 32 Tryz.underlying22 hi0 hz0 hz1 hz2 rfl (by decide) _ _ _ (by rfl) rA.out _ _ _ (flat (ps.take m)) (by rfl) (by rw [flat_len, List.length_take]; have := HN.out; omega) (sl_news ((Hs.out.below BA.out).take m)) (flat_one _) (by unfold maxLen; omega) (by omega) kA.out.size ?_; intro v4 w4 hown4 hgrow4 _; have H4 : Hid (Below w3.heap.size w3 w4) := kA.out.grown hgrow4 kA.out.size (fun k hk => (rA.out.lt k hk).1); have O4 := Lib.hid hown4; have B4 : Hid (Below w.heap.size w w4) := btr HB.out (below_le H4.out (Nat.le_refl _)); have T4 : Hid (w4.cell? ⟨w.heap.size, 0, none⟩ = some (.bool v) ∧ Below w.heap.size w w4) := ⟨(has3_upto HP.out hpz.out H4.out).1, B4.out⟩; clear hown4 hgrow4)))
    clear a0 a1 a2 a3 HP HB rA kA BA T0 TA T4 T5 H4 O4 B4 HO5
    have HP := P5
    have HB := B5
    clear P5 B5
    obtain ⟨a0, a1, a2, a3⟩ := HP.out
    go_wp2_with fail
    refine (HL.out n5 _ _ _ hn5.out S5.out).mono ?_
    rintro e w6 ⟨rfl, hb⟩
    clear a0 a1 a2 a3
    replace HB := Lib.hid (btr HB.out hb)
    replace S5 := Lib.hid (S5.out.below hb)
    clear hb HP
    go_wp2
    go_ret
    exact ⟨rfl, HB.out⟩
  · go_enter Tryz.func4, Tryz.ntmps4
    obtain ⟨a0, a1, a2, a3⟩ := HP.out
    go_wp2_with fail
    refine (HT.out _).mono ?_
    rintro e w1 ⟨rfl, hb⟩
    clear a0 a1 a2 a3
    replace HP := Lib.hid (HP.out.below hb)
    replace HB := Lib.hid (btr HB.out hb)
    clear hb
    obtain ⟨a0, a1, a2, a3⟩ := HP.out
    go_wp2_with fail
    refine (HQ.out _ HB.out).mono ?_
    rintro e w2 ⟨rfl, hb⟩
    clear a0 a1 a2 a3
    replace HP := Lib.hid (HP.out.below hb)
    replace HB := Lib.hid (btr HB.out hb)
    clear hb
    obtain ⟨a0, a1, a2, a3⟩ := HP.out
    go_wp2_with fail
    refine (HF.out _ HB.out).mono ?_
    rintro e w3 ⟨rfl, hb⟩
    clear a0 a1 a2 a3
    replace HP := Lib.hid (HP.out.below hb)
    replace HB := Lib.hid (btr HB.out hb)
    clear hb
    have rA : Hid (World.ownsRow (w3.alloc (.cells #[] 37)).drew w3.heap.size 37 4 (.slice (some ⟨w3.heap.size, 0, none⟩) 0 0) 0 []) := row_empty w3
    have kA : Hid (Below w3.heap.size w3 (w3.alloc (.cells #[] 37)).drew) := (bal (Below.refl _ _) _).drew
    have BA : Hid (Below w.heap.size w (w3.alloc (.cells #[] 37)).drew) := btr HB.out kA.out
    have hpz := Lib.hid HP.out.2.2.2
    have T0 : Hid (w3.drew.cell? ⟨w.heap.size, 0, none⟩ = some (.bool v) ∧ Below w.heap.size w w3.drew) := ⟨HP.out.1, HB.out.drew⟩
    have TA : Hid ((w3.alloc (.cells #[] 37)).drew.cell? ⟨w.heap.size, 0, none⟩ = some (.bool v) ∧ Below w.heap.size w (w3.alloc (.cells #[] 37)).drew) := ⟨(HP.out.below kA.out).1, BA.out⟩
    obtain ⟨a0, a1, a2, a3⟩ := HP.out
    go_wp2_with fail
    go_region_held3 (fun w' => w'.cell? ⟨w.heap.size, 0, none⟩ = some (.bool v) ∧ Below w.heap.size w w')
      (first | with_reducible exact T0.out | with_reducible exact TA.out | with_reducible exact T4.out | with_reducible exact T5.out | fail)
      (first
        | (refine at_world w4 (by with_reducible rfl) ?_; go_must (refine step_append_own (by rfl) _ _ 22 (by rfl) w3.heap.size 37 i0 _ 4 32 Tryz.underlying22 hi0 hz0 hz1 hz2 rfl (by decide) _ _ _ (by rfl) O4.out _ _ _ (flat (ps.drop q)) (by rfl) (by rw [flat_len, List.length_drop]; have := HN.out; omega) (sl_news ((Hs.out.below B4.out).drop q)) (flat_one _) (by unfold maxLen; omega) (by omega) H4.out.size ?_; intro v5 w5 hown5 hgrow5 _; have H5 : Hid (Below w3.heap.size w3 w5) := H4.out.grown hgrow5 H4.out.size (fun k hk => (O4.out.lt k hk).1); have HO5 : Hid (w5.ownsRow w3.heap.size 37 4 v5 (lessL' ps m).length (flat (lessL' ps m))) := Lib.hid (less_row HN.out Hq.out hm hown5 (by have := Hq.out; omega) (by first | rfl | simp)); obtain ⟨a5, c5, e5, _, s5⟩ := own_sl HO5.out; rw [← hn5.out] at e5; subst e5; have S5 := Lib.hid s5; have P5 := Lib.hid (has3_upto HP.out hpz.out H5.out); have B5 : Hid (Below w.heap.size w w5) := btr HB.out (below_le H5.out (Nat.le_refl _)); have T5 : Hid (w5.cell? ⟨w.heap.size, 0, none⟩ = some (.bool v) ∧ Below w.heap.size w w5) := ⟨P5.out.1, B5.out⟩; clear hown5 hgrow5 s5))
        | (refine at_world (w3.alloc (.cells #[] 37)).drew (by with_reducible rfl) ?_; go_must (refine step_append_own (by rfl) _ _ 22 (by rfl) w3.heap.size 37 i0 _ 4 32 Tryz.underlying22 hi0 hz0 hz1 hz2 rfl (by decide) _ _ _ (by rfl) rA.out _ _ _ (flat (ps.take m)) (by rfl) (by rw [flat_len, List.length_take]; have := HN.out; omega) (sl_news ((Hs.out.below BA.out).take m)) (flat_one _) (by unfold maxLen; omega) (by omega) kA.out.size ?_; intro v4 w4 hown4 hgrow4 _; have H4 : Hid (Below w3.heap.size w3 w4) := kA.out.grown hgrow4 kA.out.size (fun k hk => (rA.out.lt k hk).1); have O4 := Lib.hid hown4; have B4 : Hid (Below w.heap.size w w4) := btr HB.out (below_le H4.out (Nat.le_refl _)); have T4 : Hid (w4.cell? ⟨w.heap.size, 0, none⟩ = some (.bool v) ∧ Below w.heap.size w w4) := ⟨(has3_upto HP.out hpz.out H4.out).1, B4.out⟩; clear hown4 hgrow4)))
    clear a0 a1 a2 a3 HP HB rA kA BA T0 TA T4 T5 H4 O4 B4 HO5
    have HP := P5
    have HB := B5
    clear P5 B5
    obtain ⟨a0, a1, a2, a3⟩ := HP.out
    go_wp2_with fail
    refine (HL.out n5 _ _ _ hn5.out S5.out).mono ?_
    rintro e w6 ⟨rfl, hb⟩
    clear a0 a1 a2 a3
    replace HB := Lib.hid (btr HB.out hb)
    replace S5 := Lib.hid (S5.out.below hb)
    clear hb HP
    go_wp2
    go_ret
    exact ⟨rfl, HB.out⟩

set_option maxHeartbeats 64000000 in
set_option maxRecDepth 100000 in
theorem tm_other (a : Option Addr) (c N : Nat) (v : Bool) (xh xl : Int) (n : Int) (w : World) (fi fe : Int)
    (HT : Hid (∀ w' : World, Calls Tryz.prog 5 #[] w' fun e w'' => e = .returned (.bool true) ∧ Below w'.heap.size w' w''))
    (HQ : Hid (∀ w' : World, Below w.heap.size w w' → Calls Tryz.prog 6 #[] w' fun e w'' => e = .returned (.bool true) ∧ Below w'.heap.size w' w''))
    (HF : Hid (∀ w' : World, Below w.heap.size w w' → Calls Tryz.prog 11 #[.slice a N c, .agg #[.bool v, .int .u64 xh, .int .u64 xl]] w' fun e w'' => e = .returned (.tuple #[.int .i64 fi, .int .i64 fe]) ∧ Below w'.heap.size w' w''))
    (ps : List Pf) (m : Nat) (hn : n = m) (hm : m < N) (hN : N = ps.length) (hN12 : N ≤ 12) (hc : N ≤ c) (hs : Sl w a ps) (k f : Int)
    (HL : Hid (∀ (n5 : Nat) (a' : Option Addr) (c' : Nat) (w' : World), n5 = (lessL' ps m).length → Sl w' a' (lessL' ps m) → Calls Tryz.prog 11 #[.slice a' n5 c', .agg #[.bool v, .int .u64 xh, .int .u64 xl]] w' fun e w'' => e = .returned (.tuple #[.int .i64 k, .int .i64 f]) ∧ Below w'.heap.size w' w'')) (kk jj : Nat) (h0 : fe = 0) (h1 : fi = jj) (h2 : f = 0) (h3 : k = kk) (hne : m ≠ jj) (hjN : jj < N) (hk : Hid (kk < (lessL' ps m).length)) (heq : (lessL' ps m)[kk]? = ps[jj]?) :
    Calls Tryz.prog 4 #[.slice a N c, .agg #[.bool v, .int .u64 xh, .int .u64 xl], .int .i64 n] w fun e w' => e = .returned (.bool true) ∧ Below w.heap.size w w' := by
  have HP := Lib.hid (Has3.new w (.bool v) (.int .u64 xh) (.int .u64 xl) 25)
  have HB := Lib.hid (bal (Below.refl w.heap.size w) (.cells #[.bool v, .int .u64 xh, .int .u64 xl] 25))
  subst hn
  subst h0 h1 h2 h3
  have hml : m < ps.length := by omega
  obtain ⟨g, o, rfl, hg, _, _, _, _⟩ := hs m hml
  have k5 : decide ((m : Int) < 0) = false := decide_eq_false (by omega)
  have k6 : decide ((N : Int) ≤ (m : Int)) = false := decide_eq_false (by omega)
  have k7 : (0 : Int) ≤ (m : Int) := by omega
  have k8 : (m : Int) ≤ (c : Int) := by omega
  obtain ⟨q, hq⟩ : ∃ q, q = m + 1 := ⟨_, rfl⟩
  have k9 : IntKind.i64.wrap ((m : Int) + 1) = (q : Int) := by rw [IntKind.wrap_i64]; omega
  have k10 : (0 : Int) ≤ (q : Int) := by omega
  have k11 : (q : Int) ≤ (N : Int) := by omega
  have k12 : (N : Int) ≤ (c : Int) := by omega
  have k14 : q ≤ N := by omega
  have Hq := Lib.hid hq
  clear hq
  have Hs := Lib.hid hs
  have HN := Lib.hid hN
  clear hs hN
  obtain ⟨i0, hi0, hz0, hz1, hz2⟩ := info_parts infoP
  obtain ⟨n5, hn5⟩ : ∃ n5, Hid (n5 = (lessL' ps m).length) := ⟨_, rfl⟩
  have hj : jj < ps.length := by have := HN.out; omega
  have hk5 := hk.out
  rw [← hn5.out] at hk
  rw [List.getElem?_eq_getElem hk5, List.getElem?_eq_getElem hj] at heq
  injection heq with heq
  have Heq := Lib.hid heq
  clear heq
  have hne' : ((m : Int) != (jj : Int)) = true := by rw [bne_iff_ne]; omega
  have q1 : (0 : Int) ≤ (kk : Int) := by omega
  have q2 : (kk : Int) < (n5 : Int) := by have := hk.out; omega
  have q3 : (0 : Int) ≤ (jj : Int) := by omega
  have q4 : (jj : Int) < (N : Int) := by omega
  by_cases hcm : c = q
  · have hNc : N = c := by have := Hq.out; omega
    subst hNc
    subst hcm
    go_enter Tryz.func4, Tryz.ntmps4
    obtain ⟨a0, a1, a2, a3⟩ := HP.out
    go_wp2_with fail
    refine (HT.out _).mono ?_
    rintro e w1 ⟨rfl, hb⟩
    clear a0 a1 a2 a3
    replace HP := Lib.hid (HP.out.below hb)
    replace HB := Lib.hid (btr HB.out hb)
    clear hb
    obtain ⟨a0, a1, a2, a3⟩ := HP.out
    go_wp2_with fail
    refine (HQ.out _ HB.out).mono ?_
    rintro e w2 ⟨rfl, hb⟩
    clear a0 a1 a2 a3
    replace HP := Lib.hid (HP.out.below hb)
    replace HB := Lib.hid (btr HB.out hb)
    clear hb
    obtain ⟨a0, a1, a2, a3⟩ := HP.out
    go_wp2_with fail
    refine (HF.out _ HB.out).mono ?_
    rintro e w3 ⟨rfl, hb⟩
    clear a0 a1 a2 a3
    replace HP := Lib.hid (HP.out.below hb)
    replace HB := Lib.hid (btr HB.out hb)
    clear hb
    have rA : Hid (World.ownsRow (w3.alloc (.cells #[] 37)).drew w3.heap.size 37 4 (.slice (some ⟨w3.heap.size, 0, none⟩) 0 0) 0 []) := row_empty w3
    have kA : Hid (Below w3.heap.size w3 (w3.alloc (.cells #[] 37)).drew) := (bal (Below.refl _ _) _).drew
    have BA : Hid (Below w.heap.size w (w3.alloc (.cells #[] 37)).drew) := btr HB.out kA.out
    have hpz := Lib.hid HP.out.2.2.2
    have T0 : Hid (w3.drew.cell? ⟨w.heap.size, 0, none⟩ = some (.bool v) ∧ Below w.heap.size w w3.drew) := ⟨HP.out.1, HB.out.drew⟩
    have TA : Hid ((w3.alloc (.cells #[] 37)).drew.cell? ⟨w.heap.size, 0, none⟩ = some (.bool v) ∧ Below w.heap.size w (w3.alloc (.cells #[] 37)).drew) := ⟨(HP.out.below kA.out).1, BA.out⟩
    obtain ⟨a0, a1, a2, a3⟩ := HP.out
    go_wp2_with fail
    go_region_held3 (fun w' => w'.cell? ⟨w.heap.size, 0, none⟩ = some (.bool v) ∧ Below w.heap.size w w')
      (first | with_reducible exact T0.out | with_reducible exact TA.out | with_reducible exact T4.out | with_reducible exact T5.out | fail)
      (first
        | (refine at_world w4 (by with_reducible rfl) ?_; go_must (refine step_append_own (by rfl) _ _ 22 (by rfl) w3.heap.size 37 i0 _ 4 32 Tryz.underlying22 hi0 hz0 hz1 hz2 rfl (by decide) _ _ _ (by rfl) O4.out _ _ _ (flat (ps.drop N)) (by rfl) (by rw [flat_len, List.length_drop]; have := HN.out; omega) (by intro j u hj; rw [List.drop_eq_nil_of_le (by have := HN.out; omega)] at hj; simp [flat] at hj) (flat_one _) (by unfold maxLen; omega) (by omega) H4.out.size ?_; intro v5 w5 hown5 hgrow5 _; have H5 : Hid (Below w3.heap.size w3 w5) := H4.out.grown hgrow5 H4.out.size (fun k hk => (O4.out.lt k hk).1); have HO5 : Hid (w5.ownsRow w3.heap.size 37 4 v5 (lessL' ps m).length (flat (lessL' ps m))) := Lib.hid (less_row HN.out Hq.out hm hown5 (by have := Hq.out; omega) (by first | rfl | simp)); obtain ⟨a5, c5, e5, _, s5⟩ := own_sl HO5.out; rw [← hn5.out] at e5; subst e5; have S5 := Lib.hid s5; have P5 := Lib.hid (has3_upto HP.out hpz.out H5.out); have B5 : Hid (Below w.heap.size w w5) := btr HB.out (below_le H5.out (Nat.le_refl _)); have T5 : Hid (w5.cell? ⟨w.heap.size, 0, none⟩ = some (.bool v) ∧ Below w.heap.size w w5) := ⟨P5.out.1, B5.out⟩; clear hown5 hgrow5 s5))
        | (refine at_world (w3.alloc (.cells #[] 37)).drew (by with_reducible rfl) ?_; go_must (refine step_append_own (by rfl) _ _ 22 (by rfl) w3.heap.size 37 i0 _ 4 32 Tryz.underlying22 hi0 hz0 hz1 hz2 rfl (by decide) _ _ _ (by rfl) rA.out _ _ _ (flat (ps.take m)) (by rfl) (by rw [flat_len, List.length_take]; have := HN.out; omega) (sl_news ((Hs.out.below BA.out).take m)) (flat_one _) (by unfold maxLen; omega) (by omega) kA.out.size ?_; intro v4 w4 hown4 hgrow4 _; have H4 : Hid (Below w3.heap.size w3 w4) := kA.out.grown hgrow4 kA.out.size (fun k hk => (rA.out.lt k hk).1); have O4 := Lib.hid hown4; have B4 : Hid (Below w.heap.size w w4) := btr HB.out (below_le H4.out (Nat.le_refl _)); have T4 : Hid (w4.cell? ⟨w.heap.size, 0, none⟩ = some (.bool v) ∧ Below w.heap.size w w4) := ⟨(has3_upto HP.out hpz.out H4.out).1, B4.out⟩; clear hown4 hgrow4)))
    clear a0 a1 a2 a3 HP HB rA kA BA T0 TA T4 T5 H4 O4 B4 HO5
    have HP := P5
    have HB := B5
    clear P5 B5
    obtain ⟨a0, a1, a2, a3⟩ := HP.out
    go_wp2_with fail
    refine (HL.out n5 _ _ _ hn5.out S5.out).mono ?_
    rintro e w6 ⟨rfl, hb⟩
    clear a0 a1 a2 a3
    replace HB := Lib.hid (btr HB.out hb)
    replace S5 := Lib.hid (S5.out.below hb)
    clear hb HP
    obtain ⟨g5, o5, e5, hg5, y0, y1, y2, y3⟩ := S5.out kk hk5
    obtain ⟨g', o', ea, hgl, x0, x1, x2, x3⟩ := Hs.out jj hj
    obtain ⟨rfl, rfl⟩ : g = g' ∧ o = o' := by simpa using ea
    have hB6 := HB.out
    rw [Heq.out] at y0 y1 y2 y3
    rw [← (show w6.cell? _ = w.cell? _ from HB.out.cell (p := ⟨g, _, none⟩) hgl)] at x0 x1 x2 x3
    generalize ps[jj] = x at *
    clear hB6
    subst e5
    have E1 := eql_pf x.v x.hi x.lo x.b x.v x.hi x.lo x.b
    rw [show eqP x.v x.hi x.lo x.b x.v x.hi x.lo x.b = true from eqP_iff.2 ⟨rfl, rfl, rfl, rfl⟩] at E1
    have HC : Hid ((w6.cell? ⟨g5, o5 + kk * 4, none⟩ = some (.bool x.v) ∧ w6.cell? ⟨g5, o5 + kk * 4 + 1, none⟩ = some (.int .u64 x.hi) ∧ w6.cell? ⟨g5, o5 + kk * 4 + 2, none⟩ = some (.int .u64 x.lo) ∧ w6.cell? ⟨g5, o5 + kk * 4 + 3, none⟩ = some (.int .i64 x.b)) ∧ (w6.cell? ⟨g, o + jj * 4, none⟩ = some (.bool x.v) ∧ w6.cell? ⟨g, o + jj * 4 + 1, none⟩ = some (.int .u64 x.hi) ∧ w6.cell? ⟨g, o + jj * 4 + 2, none⟩ = some (.int .u64 x.lo) ∧ w6.cell? ⟨g, o + jj * 4 + 3, none⟩ = some (.int .i64 x.b))) := ⟨⟨y0, y1, y2, y3⟩, ⟨x0, x1, x2, x3⟩⟩
    clear ea hgl hg5
    obtain ⟨⟨y0, y1, y2, y3⟩, ⟨x0, x1, x2, x3⟩⟩ := HC.out
    go_wp2_with fail
    go_region_held3 (fun w' => (w'.cell? ⟨g5, o5 + kk * 4, none⟩ = some (.bool x.v) ∧ w'.cell? ⟨g5, o5 + kk * 4 + 1, none⟩ = some (.int .u64 x.hi) ∧ w'.cell? ⟨g5, o5 + kk * 4 + 2, none⟩ = some (.int .u64 x.lo) ∧ w'.cell? ⟨g5, o5 + kk * 4 + 3, none⟩ = some (.int .i64 x.b)) ∧ (w'.cell? ⟨g, o + jj * 4, none⟩ = some (.bool x.v) ∧ w'.cell? ⟨g, o + jj * 4 + 1, none⟩ = some (.int .u64 x.hi) ∧ w'.cell? ⟨g, o + jj * 4 + 2, none⟩ = some (.int .u64 x.lo) ∧ w'.cell? ⟨g, o + jj * 4 + 3, none⟩ = some (.int .i64 x.b)))
      (first | with_reducible exact HC.out | exact HC.out | assumption)
      (fail)
    go_wp2_with fail
    go_ret
    exact ⟨rfl, HB.out.drew⟩
  · go_enter Tryz.func4, Tryz.ntmps4
    obtain ⟨a0, a1, a2, a3⟩ := HP.out
    go_wp2_with fail
    refine (HT.out _).mono ?_
    rintro e w1 ⟨rfl, hb⟩
    clear a0 a1 a2 a3
    replace HP := Lib.hid (HP.out.below hb)
    replace HB := Lib.hid (btr HB.out hb)
    clear hb
    obtain ⟨a0, a1, a2, a3⟩ := HP.out
    go_wp2_with fail
    refine (HQ.out _ HB.out).mono ?_
    rintro e w2 ⟨rfl, hb⟩
    clear a0 a1 a2 a3
    replace HP := Lib.hid (HP.out.below hb)
    replace HB := Lib.hid (btr HB.out hb)
    clear hb
    obtain ⟨a0, a1, a2, a3⟩ := HP.out
    go_wp2_with fail
    refine (HF.out _ HB.out).mono ?_
    rintro e w3 ⟨rfl, hb⟩
    clear a0 a1 a2 a3
    replace HP := Lib.hid (HP.out.below hb)
    replace HB := Lib.hid (btr HB.out hb)
    clear hb
    have rA : Hid (World.ownsRow (w3.alloc (.cells #[] 37)).drew w3.heap.size 37 4 (.slice (some ⟨w3.heap.size, 0, none⟩) 0 0) 0 []) := row_empty w3
    have kA : Hid (Below w3.heap.size w3 (w3.alloc (.cells #[] 37)).drew) := (bal (Below.refl _ _) _).drew
    have BA : Hid (Below w.heap.size w (w3.alloc (.cells #[] 37)).drew) := btr HB.out kA.out
    have hpz := Lib.hid HP.out.2.2.2
    have T0 : Hid (w3.drew.cell? ⟨w.heap.size, 0, none⟩ = some (.bool v) ∧ Below w.heap.size w w3.drew) := ⟨HP.out.1, HB.out.drew⟩
    have TA : Hid ((w3.alloc (.cells #[] 37)).drew.cell? ⟨w.heap.size, 0, none⟩ = some (.bool v) ∧ Below w.heap.size w (w3.alloc (.cells #[] 37)).drew) := ⟨(HP.out.below kA.out).1, BA.out⟩
    obtain ⟨a0, a1, a2, a3⟩ := HP.out
    go_wp2_with fail
    go_region_held3 (fun w' => w'.cell? ⟨w.heap.size, 0, none⟩ = some (.bool v) ∧ Below w.heap.size w w')
      (first | with_reducible exact T0.out | with_reducible exact TA.out | with_reducible exact T4.out | with_reducible exact T5.out | fail)
      (first
        | (refine at_world w4 (by with_reducible rfl) ?_; go_must (refine step_append_own (by rfl) _ _ 22 (by rfl) w3.heap.size 37 i0 _ 4 32 Tryz.underlying22 hi0 hz0 hz1 hz2 rfl (by decide) _ _ _ (by rfl) O4.out _ _ _ (flat (ps.drop q)) (by rfl) (by rw [flat_len, List.length_drop]; have := HN.out; omega) (sl_news ((Hs.out.below B4.out).drop q)) (flat_one _) (by unfold maxLen; omega) (by omega) H4.out.size ?_; intro v5 w5 hown5 hgrow5 _; have H5 : Hid (Below w3.heap.size w3 w5) := H4.out.grown hgrow5 H4.out.size (fun k hk => (O4.out.lt k hk).1); have HO5 : Hid (w5.ownsRow w3.heap.size 37 4 v5 (lessL' ps m).length (flat (lessL' ps m))) := Lib.hid (less_row HN.out Hq.out hm hown5 (by have := Hq.out; omega) (by first | rfl | simp)); obtain ⟨a5, c5, e5, _, s5⟩ := own_sl HO5.out; rw [← hn5.out] at e5; subst e5; have S5 := Lib.hid s5; have P5 := Lib.hid (has3_upto HP.out hpz.out H5.out); have B5 : Hid (Below w.heap.size w w5) := btr HB.out (below_le H5.out (Nat.le_refl _)); have T5 : Hid (w5.cell? ⟨w.heap.size, 0, none⟩ = some (.bool v) ∧ Below w.heap.size w w5) := ⟨P5.out.1, B5.out⟩; clear hown5 hgrow5 s5))
        | (refine at_world (w3.alloc (.cells #[] 37)).drew (by with_reducible rfl) ?_; go_must (refine step_append_own (by rfl) _ _ 22 (by rfl) w3.heap.size 37 i0 _ 4 32 Tryz.underlying22 hi0 hz0 hz1 hz2 rfl (by decide) _ _ _ (by rfl) rA.out _ _ _ (flat (ps.take m)) (by rfl) (by rw [flat_len, List.length_take]; have := HN.out; omega) (sl_news ((Hs.out.below BA.out).take m)) (flat_one _) (by unfold maxLen; omega) (by omega) kA.out.size ?_; intro v4 w4 hown4 hgrow4 _; have H4 : Hid (Below w3.heap.size w3 w4) := kA.out.grown hgrow4 kA.out.size (fun k hk => (rA.out.lt k hk).1); have O4 := Lib.hid hown4; have B4 : Hid (Below w.heap.size w w4) := btr HB.out (below_le H4.out (Nat.le_refl _)); have T4 : Hid (w4.cell? ⟨w.heap.size, 0, none⟩ = some (.bool v) ∧ Below w.heap.size w w4) := ⟨(has3_upto HP.out hpz.out H4.out).1, B4.out⟩; clear hown4 hgrow4)))
    clear a0 a1 a2 a3 HP HB rA kA BA T0 TA T4 T5 H4 O4 B4 HO5
    have HP := P5
    have HB := B5
    clear P5 B5
    obtain ⟨a0, a1, a2, a3⟩ := HP.out
    go_wp2_with fail
    refine (HL.out n5 _ _ _ hn5.out S5.out).mono ?_
    rintro e w6 ⟨rfl, hb⟩
    clear a0 a1 a2 a3
    replace HB := Lib.hid (btr HB.out hb)
    replace S5 := Lib.hid (S5.out.below hb)
    clear hb HP
    obtain ⟨g5, o5, e5, hg5, y0, y1, y2, y3⟩ := S5.out kk hk5
    obtain ⟨g', o', ea, hgl, x0, x1, x2, x3⟩ := Hs.out jj hj
    obtain ⟨rfl, rfl⟩ : g = g' ∧ o = o' := by simpa using ea
    have hB6 := HB.out
    rw [Heq.out] at y0 y1 y2 y3
    rw [← (show w6.cell? _ = w.cell? _ from HB.out.cell (p := ⟨g, _, none⟩) hgl)] at x0 x1 x2 x3
    generalize ps[jj] = x at *
    clear hB6
    subst e5
    have E1 := eql_pf x.v x.hi x.lo x.b x.v x.hi x.lo x.b
    rw [show eqP x.v x.hi x.lo x.b x.v x.hi x.lo x.b = true from eqP_iff.2 ⟨rfl, rfl, rfl, rfl⟩] at E1
    have HC : Hid ((w6.cell? ⟨g5, o5 + kk * 4, none⟩ = some (.bool x.v) ∧ w6.cell? ⟨g5, o5 + kk * 4 + 1, none⟩ = some (.int .u64 x.hi) ∧ w6.cell? ⟨g5, o5 + kk * 4 + 2, none⟩ = some (.int .u64 x.lo) ∧ w6.cell? ⟨g5, o5 + kk * 4 + 3, none⟩ = some (.int .i64 x.b)) ∧ (w6.cell? ⟨g, o + jj * 4, none⟩ = some (.bool x.v) ∧ w6.cell? ⟨g, o + jj * 4 + 1, none⟩ = some (.int .u64 x.hi) ∧ w6.cell? ⟨g, o + jj * 4 + 2, none⟩ = some (.int .u64 x.lo) ∧ w6.cell? ⟨g, o + jj * 4 + 3, none⟩ = some (.int .i64 x.b))) := ⟨⟨y0, y1, y2, y3⟩, ⟨x0, x1, x2, x3⟩⟩
    clear ea hgl hg5
    obtain ⟨⟨y0, y1, y2, y3⟩, ⟨x0, x1, x2, x3⟩⟩ := HC.out
    go_wp2_with fail
    go_region_held3 (fun w' => (w'.cell? ⟨g5, o5 + kk * 4, none⟩ = some (.bool x.v) ∧ w'.cell? ⟨g5, o5 + kk * 4 + 1, none⟩ = some (.int .u64 x.hi) ∧ w'.cell? ⟨g5, o5 + kk * 4 + 2, none⟩ = some (.int .u64 x.lo) ∧ w'.cell? ⟨g5, o5 + kk * 4 + 3, none⟩ = some (.int .i64 x.b)) ∧ (w'.cell? ⟨g, o + jj * 4, none⟩ = some (.bool x.v) ∧ w'.cell? ⟨g, o + jj * 4 + 1, none⟩ = some (.int .u64 x.hi) ∧ w'.cell? ⟨g, o + jj * 4 + 2, none⟩ = some (.int .u64 x.lo) ∧ w'.cell? ⟨g, o + jj * 4 + 3, none⟩ = some (.int .i64 x.b)))
      (first | with_reducible exact HC.out | exact HC.out | assumption)
      (fail)
    go_wp2_with fail
    go_ret
    exact ⟨rfl, HB.out.drew⟩

set_option maxHeartbeats 64000000 in
set_option maxRecDepth 100000 in
theorem tm_up (a : Option Addr) (c N : Nat) (v : Bool) (xh xl : Int) (n : Int) (w : World) (fi fe : Int)
    (HT : Hid (∀ w' : World, Calls Tryz.prog 5 #[] w' fun e w'' => e = .returned (.bool true) ∧ Below w'.heap.size w' w''))
    (HQ : Hid (∀ w' : World, Below w.heap.size w w' → Calls Tryz.prog 6 #[] w' fun e w'' => e = .returned (.bool true) ∧ Below w'.heap.size w' w''))
    (HF : Hid (∀ w' : World, Below w.heap.size w w' → Calls Tryz.prog 11 #[.slice a N c, .agg #[.bool v, .int .u64 xh, .int .u64 xl]] w' fun e w'' => e = .returned (.tuple #[.int .i64 fi, .int .i64 fe]) ∧ Below w'.heap.size w' w''))
    (ps : List Pf) (m : Nat) (hn : n = m) (hm : m < N) (hN : N = ps.length) (hN12 : N ≤ 12) (hc : N ≤ c) (hs : Sl w a ps) (k f : Int)
    (HL : Hid (∀ (n5 : Nat) (a' : Option Addr) (c' : Nat) (w' : World), n5 = (lessL' ps m).length → Sl w' a' (lessL' ps m) → Calls Tryz.prog 11 #[.slice a' n5 c', .agg #[.bool v, .int .u64 xh, .int .u64 xl]] w' fun e w'' => e = .returned (.tuple #[.int .i64 k, .int .i64 f]) ∧ Below w'.heap.size w' w'')) (kk jj : Nat) (h0 : fe = 0) (h1 : fi = m) (h2 : f = 0) (h3 : k = kk) (hjN : jj < N) (hk : Hid (kk < (lessL' ps m).length)) (heq : (lessL' ps m)[kk]? = ps[jj]?)
    (HA : Hid (∀ w' : World, Below w.heap.size w w' → Calls Tryz.prog 9 #[.slice a N c, .int .i64 m] w' fun e w'' => e = .returned (.tuple #[.int .i64 jj, .int .i64 0]) ∧ Below w'.heap.size w' w'')) :
    Calls Tryz.prog 4 #[.slice a N c, .agg #[.bool v, .int .u64 xh, .int .u64 xl], .int .i64 n] w fun e w' => e = .returned (.bool true) ∧ Below w.heap.size w w' := by
  have HP := Lib.hid (Has3.new w (.bool v) (.int .u64 xh) (.int .u64 xl) 25)
  have HB := Lib.hid (bal (Below.refl w.heap.size w) (.cells #[.bool v, .int .u64 xh, .int .u64 xl] 25))
  subst hn
  subst h0 h1 h2 h3
  have hml : m < ps.length := by omega
  obtain ⟨g, o, rfl, hg, _, _, _, _⟩ := hs m hml
  have k5 : decide ((m : Int) < 0) = false := decide_eq_false (by omega)
  have k6 : decide ((N : Int) ≤ (m : Int)) = false := decide_eq_false (by omega)
  have k7 : (0 : Int) ≤ (m : Int) := by omega
  have k8 : (m : Int) ≤ (c : Int) := by omega
  obtain ⟨q, hq⟩ : ∃ q, q = m + 1 := ⟨_, rfl⟩
  have k9 : IntKind.i64.wrap ((m : Int) + 1) = (q : Int) := by rw [IntKind.wrap_i64]; omega
  have k10 : (0 : Int) ≤ (q : Int) := by omega
  have k11 : (q : Int) ≤ (N : Int) := by omega
  have k12 : (N : Int) ≤ (c : Int) := by omega
  have k14 : q ≤ N := by omega
  have Hq := Lib.hid hq
  clear hq
  have Hs := Lib.hid hs
  have HN := Lib.hid hN
  clear hs hN
  obtain ⟨i0, hi0, hz0, hz1, hz2⟩ := info_parts infoP
  obtain ⟨n5, hn5⟩ : ∃ n5, Hid (n5 = (lessL' ps m).length) := ⟨_, rfl⟩
  have hj : jj < ps.length := by have := HN.out; omega
  have hk5 := hk.out
  rw [← hn5.out] at hk
  rw [List.getElem?_eq_getElem hk5, List.getElem?_eq_getElem hj] at heq
  injection heq with heq
  have Heq := Lib.hid heq
  clear heq
  have hne' : ((m : Int) != (m : Int)) = false := by simp
  have q1 : (0 : Int) ≤ (kk : Int) := by omega
  have q2 : (kk : Int) < (n5 : Int) := by have := hk.out; omega
  have q3 : (0 : Int) ≤ (jj : Int) := by omega
  have q4 : (jj : Int) < (N : Int) := by omega
  by_cases hcm : c = q
  · have hNc : N = c := by have := Hq.out; omega
    subst hNc
    subst hcm
    go_enter Tryz.func4, Tryz.ntmps4
    obtain ⟨a0, a1, a2, a3⟩ := HP.out
    go_wp2_with fail
    refine (HT.out _).mono ?_
    rintro e w1 ⟨rfl, hb⟩
    clear a0 a1 a2 a3
    replace HP := Lib.hid (HP.out.below hb)
    replace HB := Lib.hid (btr HB.out hb)
    clear hb
    obtain ⟨a0, a1, a2, a3⟩ := HP.out
    go_wp2_with fail
    refine (HQ.out _ HB.out).mono ?_
    rintro e w2 ⟨rfl, hb⟩
    clear a0 a1 a2 a3
    replace HP := Lib.hid (HP.out.below hb)
    replace HB := Lib.hid (btr HB.out hb)
    clear hb
    obtain ⟨a0, a1, a2, a3⟩ := HP.out
    go_wp2_with fail
    refine (HF.out _ HB.out).mono ?_
    rintro e w3 ⟨rfl, hb⟩
    clear a0 a1 a2 a3
    replace HP := Lib.hid (HP.out.below hb)
    replace HB := Lib.hid (btr HB.out hb)
    clear hb
    have rA : Hid (World.ownsRow (w3.alloc (.cells #[] 37)).drew w3.heap.size 37 4 (.slice (some ⟨w3.heap.size, 0, none⟩) 0 0) 0 []) := row_empty w3
    have kA : Hid (Below w3.heap.size w3 (w3.alloc (.cells #[] 37)).drew) := (bal (Below.refl _ _) _).drew
    have BA : Hid (Below w.heap.size w (w3.alloc (.cells #[] 37)).drew) := btr HB.out kA.out
    have hpz := Lib.hid HP.out.2.2.2
    have T0 : Hid (w3.drew.cell? ⟨w.heap.size, 0, none⟩ = some (.bool v) ∧ Below w.heap.size w w3.drew) := ⟨HP.out.1, HB.out.drew⟩
    have TA : Hid ((w3.alloc (.cells #[] 37)).drew.cell? ⟨w.heap.size, 0, none⟩ = some (.bool v) ∧ Below w.heap.size w (w3.alloc (.cells #[] 37)).drew) := ⟨(HP.out.below kA.out).1, BA.out⟩
    obtain ⟨a0, a1, a2, a3⟩ := HP.out
    go_wp2_with fail
    go_region_held3 (fun w' => w'.cell? ⟨w.heap.size, 0, none⟩ = some (.bool v) ∧ Below w.heap.size w w')
      (first | with_reducible exact T0.out | with_reducible exact TA.out | with_reducible exact T4.out | with_reducible exact T5.out | fail)
      (first
        | (refine at_world w4 (by with_reducible rfl) ?_; go_must (refine step_append_own (by rfl) _ _ 22 (by rfl) w3.heap.size 37 i0 _ 4 32 Tryz.underlying22 hi0 hz0 hz1 hz2 rfl (by decide) _ _ _ (by rfl) O4.out _ _ _ (flat (ps.drop N)) (by rfl) (by rw [flat_len, List.length_drop]; have := HN.out; omega) (by intro j u hj; rw [List.drop_eq_nil_of_le (by have := HN.out; omega)] at hj; simp [flat] at hj) (flat_one _) (by unfold maxLen; omega) (by omega) H4.out.size ?_; intro v5 w5 hown5 hgrow5 _; have H5 : Hid (Below w3.heap.size w3 w5) := H4.out.grown hgrow5 H4.out.size (fun k hk => (O4.out.lt k hk).1); have HO5 : Hid (w5.ownsRow w3.heap.size 37 4 v5 (lessL' ps m).length (flat (lessL' ps m))) := Lib.hid (less_row HN.out Hq.out hm hown5 (by have := Hq.out; omega) (by first | rfl | simp)); obtain ⟨a5, c5, e5, _, s5⟩ := own_sl HO5.out; rw [← hn5.out] at e5; subst e5; have S5 := Lib.hid s5; have P5 := Lib.hid (has3_upto HP.out hpz.out H5.out); have B5 : Hid (Below w.heap.size w w5) := btr HB.out (below_le H5.out (Nat.le_refl _)); have T5 : Hid (w5.cell? ⟨w.heap.size, 0, none⟩ = some (.bool v) ∧ Below w.heap.size w w5) := ⟨P5.out.1, B5.out⟩; clear hown5 hgrow5 s5))
        | (refine at_world (w3.alloc (.cells #[] 37)).drew (by with_reducible rfl) ?_; go_must (refine step_append_own (by rfl) _ _ 22 (by rfl) w3.heap.size 37 i0 _ 4 32 Tryz.underlying22 hi0 hz0 hz1 hz2 rfl (by decide) _ _ _ (by rfl) rA.out _ _ _ (flat (ps.take m)) (by rfl) (by rw [flat_len, List.length_take]; have := HN.out; omega) (sl_news ((Hs.out.below BA.out).take m)) (flat_one _) (by unfold maxLen; omega) (by omega) kA.out.size ?_; intro v4 w4 hown4 hgrow4 _; have H4 : Hid (Below w3.heap.size w3 w4) := kA.out.grown hgrow4 kA.out.size (fun k hk => (rA.out.lt k hk).1); have O4 := Lib.hid hown4; have B4 : Hid (Below w.heap.size w w4) := btr HB.out (below_le H4.out (Nat.le_refl _)); have T4 : Hid (w4.cell? ⟨w.heap.size, 0, none⟩ = some (.bool v) ∧ Below w.heap.size w w4) := ⟨(has3_upto HP.out hpz.out H4.out).1, B4.out⟩; clear hown4 hgrow4)))
    clear a0 a1 a2 a3 HP HB rA kA BA T0 TA T4 T5 H4 O4 B4 HO5
    have HP := P5
    have HB := B5
    clear P5 B5
    obtain ⟨a0, a1, a2, a3⟩ := HP.out
    go_wp2_with fail
    refine (HL.out n5 _ _ _ hn5.out S5.out).mono ?_
    rintro e w6 ⟨rfl, hb⟩
    clear a0 a1 a2 a3
    replace HB := Lib.hid (btr HB.out hb)
    replace S5 := Lib.hid (S5.out.below hb)
    clear hb HP
    go_wp2_with fail
    refine (HA.out _ HB.out).mono ?_
    rintro e w7 ⟨rfl, hb⟩
    replace HB := Lib.hid (btr HB.out hb)
    replace S5 := Lib.hid (S5.out.below hb)
    clear hb
    obtain ⟨g5, o5, e5, hg5, y0, y1, y2, y3⟩ := S5.out kk hk5
    obtain ⟨g', o', ea, hgl, x0, x1, x2, x3⟩ := Hs.out jj hj
    obtain ⟨rfl, rfl⟩ : g = g' ∧ o = o' := by simpa using ea
    rw [Heq.out] at y0 y1 y2 y3
    rw [← (show w7.cell? _ = w.cell? _ from HB.out.cell (p := ⟨g, _, none⟩) hgl)] at x0 x1 x2 x3
    generalize ps[jj] = x at *
    subst e5
    have E1 := eql_pf x.v x.hi x.lo x.b x.v x.hi x.lo x.b
    rw [show eqP x.v x.hi x.lo x.b x.v x.hi x.lo x.b = true from eqP_iff.2 ⟨rfl, rfl, rfl, rfl⟩] at E1
    have HC : Hid ((w7.cell? ⟨g5, o5 + kk * 4, none⟩ = some (.bool x.v) ∧ w7.cell? ⟨g5, o5 + kk * 4 + 1, none⟩ = some (.int .u64 x.hi) ∧ w7.cell? ⟨g5, o5 + kk * 4 + 2, none⟩ = some (.int .u64 x.lo) ∧ w7.cell? ⟨g5, o5 + kk * 4 + 3, none⟩ = some (.int .i64 x.b)) ∧ (w7.cell? ⟨g, o + jj * 4, none⟩ = some (.bool x.v) ∧ w7.cell? ⟨g, o + jj * 4 + 1, none⟩ = some (.int .u64 x.hi) ∧ w7.cell? ⟨g, o + jj * 4 + 2, none⟩ = some (.int .u64 x.lo) ∧ w7.cell? ⟨g, o + jj * 4 + 3, none⟩ = some (.int .i64 x.b))) := ⟨⟨y0, y1, y2, y3⟩, ⟨x0, x1, x2, x3⟩⟩
    clear ea hgl hg5
    obtain ⟨⟨y0, y1, y2, y3⟩, ⟨x0, x1, x2, x3⟩⟩ := HC.out
    go_wp2_with fail
    go_region_held3 (fun w' => (w'.cell? ⟨g5, o5 + kk * 4, none⟩ = some (.bool x.v) ∧ w'.cell? ⟨g5, o5 + kk * 4 + 1, none⟩ = some (.int .u64 x.hi) ∧ w'.cell? ⟨g5, o5 + kk * 4 + 2, none⟩ = some (.int .u64 x.lo) ∧ w'.cell? ⟨g5, o5 + kk * 4 + 3, none⟩ = some (.int .i64 x.b)) ∧ (w'.cell? ⟨g, o + jj * 4, none⟩ = some (.bool x.v) ∧ w'.cell? ⟨g, o + jj * 4 + 1, none⟩ = some (.int .u64 x.hi) ∧ w'.cell? ⟨g, o + jj * 4 + 2, none⟩ = some (.int .u64 x.lo) ∧ w'.cell? ⟨g, o + jj * 4 + 3, none⟩ = some (.int .i64 x.b)))
      (first | with_reducible exact HC.out | exact HC.out | assumption)
      (fail)
    go_wp2_with fail
    go_ret
    exact ⟨rfl, HB.out.drew⟩
  · go_enter Tryz.func4, Tryz.ntmps4
    obtain ⟨a0, a1, a2, a3⟩ := HP.out
    go_wp2_with fail
    refine (HT.out _).mono ?_
    rintro e w1 ⟨rfl, hb⟩
    clear a0 a1 a2 a3
    replace HP := Lib.hid (HP.out.below hb)
    replace HB := Lib.hid (btr HB.out hb)
    clear hb
    obtain ⟨a0, a1, a2, a3⟩ := HP.out
    go_wp2_with fail
    refine (HQ.out _ HB.out).mono ?_
    rintro e w2 ⟨rfl, hb⟩
    clear a0 a1 a2 a3
    replace HP := Lib.hid (HP.out.below hb)
    replace HB := Lib.hid (btr HB.out hb)
    clear hb
    obtain ⟨a0, a1, a2, a3⟩ := HP.out
    go_wp2_with fail
    refine (HF.out _ HB.out).mono ?_
    rintro e w3 ⟨rfl, hb⟩
    clear a0 a1 a2 a3
    replace HP := Lib.hid (HP.out.below hb)
    replace HB := Lib.hid (btr HB.out hb)
    clear hb
    have rA : Hid (World.ownsRow (w3.alloc (.cells #[] 37)).drew w3.heap.size 37 4 (.slice (some ⟨w3.heap.size, 0, none⟩) 0 0) 0 []) := row_empty w3
    have kA : Hid (Below w3.heap.size w3 (w3.alloc (.cells #[] 37)).drew) := (bal (Below.refl _ _) _).drew
    have BA : Hid (Below w.heap.size w (w3.alloc (.cells #[] 37)).drew) := btr HB.out kA.out
    have hpz := Lib.hid HP.out.2.2.2
    have T0 : Hid (w3.drew.cell? ⟨w.heap.size, 0, none⟩ = some (.bool v) ∧ Below w.heap.size w w3.drew) := ⟨HP.out.1, HB.out.drew⟩
    have TA : Hid ((w3.alloc (.cells #[] 37)).drew.cell? ⟨w.heap.size, 0, none⟩ = some (.bool v) ∧ Below w.heap.size w (w3.alloc (.cells #[] 37)).drew) := ⟨(HP.out.below kA.out).1, BA.out⟩
    obtain ⟨a0, a1, a2, a3⟩ := HP.out
    go_wp2_with fail
    go_region_held3 (fun w' => w'.cell? ⟨w.heap.size, 0, none⟩ = some (.bool v) ∧ Below w.heap.size w w')
      (first | with_reducible exact T0.out | with_reducible exact TA.out | with_reducible exact T4.out | with_reducible exact T5.out | fail)
      (first
        | (refine at_world w4 (by with_reducible rfl) ?_; go_must (refine step_append_own (by rfl) _ _ 22 (by rfl) w3.heap.size 37 i0 _ 4 32 Tryz.underlying22 hi0 hz0 hz1 hz2 rfl (by decide) _ _ _ (by rfl) O4.out _ _ _ (flat (ps.drop q)) (by rfl) (by rw [flat_len, List.length_drop]; have := HN.out; omega) (sl_news ((Hs.out.below B4.out).drop q)) (flat_one _) (by unfold maxLen; omega) (by omega) H4.out.size ?_; intro v5 w5 hown5 hgrow5 _; have H5 : Hid (Below w3.heap.size w3 w5) := H4.out.grown hgrow5 H4.out.size (fun k hk => (O4.out.lt k hk).1); have HO5 : Hid (w5.ownsRow w3.heap.size 37 4 v5 (lessL' ps m).length (flat (lessL' ps m))) := Lib.hid (less_row HN.out Hq.out hm hown5 (by have := Hq.out; omega) (by first | rfl | simp)); obtain ⟨a5, c5, e5, _, s5⟩ := own_sl HO5.out; rw [← hn5.out] at e5; subst e5; have S5 := Lib.hid s5; have P5 := Lib.hid (has3_upto HP.out hpz.out H5.out); have B5 : Hid (Below w.heap.size w w5) := btr HB.out (below_le H5.out (Nat.le_refl _)); have T5 : Hid (w5.cell? ⟨w.heap.size, 0, none⟩ = some (.bool v) ∧ Below w.heap.size w w5) := ⟨P5.out.1, B5.out⟩; clear hown5 hgrow5 s5))
        | (refine at_world (w3.alloc (.cells #[] 37)).drew (by with_reducible rfl) ?_; go_must (refine step_append_own (by rfl) _ _ 22 (by rfl) w3.heap.size 37 i0 _ 4 32 Tryz.underlying22 hi0 hz0 hz1 hz2 rfl (by decide) _ _ _ (by rfl) rA.out _ _ _ (flat (ps.take m)) (by rfl) (by rw [flat_len, List.length_take]; have := HN.out; omega) (sl_news ((Hs.out.below BA.out).take m)) (flat_one _) (by unfold maxLen; omega) (by omega) kA.out.size ?_; intro v4 w4 hown4 hgrow4 _; have H4 : Hid (Below w3.heap.size w3 w4) := kA.out.grown hgrow4 kA.out.size (fun k hk => (rA.out.lt k hk).1); have O4 := Lib.hid hown4; have B4 : Hid (Below w.heap.size w w4) := btr HB.out (below_le H4.out (Nat.le_refl _)); have T4 : Hid (w4.cell? ⟨w.heap.size, 0, none⟩ = some (.bool v) ∧ Below w.heap.size w w4) := ⟨(has3_upto HP.out hpz.out H4.out).1, B4.out⟩; clear hown4 hgrow4)))
    clear a0 a1 a2 a3 HP HB rA kA BA T0 TA T4 T5 H4 O4 B4 HO5
    have HP := P5
    have HB := B5
    clear P5 B5
    obtain ⟨a0, a1, a2, a3⟩ := HP.out
    go_wp2_with fail
    refine (HL.out n5 _ _ _ hn5.out S5.out).mono ?_
    rintro e w6 ⟨rfl, hb⟩
    clear a0 a1 a2 a3
    replace HB := Lib.hid (btr HB.out hb)
    replace S5 := Lib.hid (S5.out.below hb)
    clear hb HP
    go_wp2_with fail
    refine (HA.out _ HB.out).mono ?_
    rintro e w7 ⟨rfl, hb⟩
    replace HB := Lib.hid (btr HB.out hb)
    replace S5 := Lib.hid (S5.out.below hb)
    clear hb
    obtain ⟨g5, o5, e5, hg5, y0, y1, y2, y3⟩ := S5.out kk hk5
    obtain ⟨g', o', ea, hgl, x0, x1, x2, x3⟩ := Hs.out jj hj
    obtain ⟨rfl, rfl⟩ : g = g' ∧ o = o' := by simpa using ea
    rw [Heq.out] at y0 y1 y2 y3
    rw [← (show w7.cell? _ = w.cell? _ from HB.out.cell (p := ⟨g, _, none⟩) hgl)] at x0 x1 x2 x3
    generalize ps[jj] = x at *
    subst e5
    have E1 := eql_pf x.v x.hi x.lo x.b x.v x.hi x.lo x.b
    rw [show eqP x.v x.hi x.lo x.b x.v x.hi x.lo x.b = true from eqP_iff.2 ⟨rfl, rfl, rfl, rfl⟩] at E1
    have HC : Hid ((w7.cell? ⟨g5, o5 + kk * 4, none⟩ = some (.bool x.v) ∧ w7.cell? ⟨g5, o5 + kk * 4 + 1, none⟩ = some (.int .u64 x.hi) ∧ w7.cell? ⟨g5, o5 + kk * 4 + 2, none⟩ = some (.int .u64 x.lo) ∧ w7.cell? ⟨g5, o5 + kk * 4 + 3, none⟩ = some (.int .i64 x.b)) ∧ (w7.cell? ⟨g, o + jj * 4, none⟩ = some (.bool x.v) ∧ w7.cell? ⟨g, o + jj * 4 + 1, none⟩ = some (.int .u64 x.hi) ∧ w7.cell? ⟨g, o + jj * 4 + 2, none⟩ = some (.int .u64 x.lo) ∧ w7.cell? ⟨g, o + jj * 4 + 3, none⟩ = some (.int .i64 x.b))) := ⟨⟨y0, y1, y2, y3⟩, ⟨x0, x1, x2, x3⟩⟩
    clear ea hgl hg5
    obtain ⟨⟨y0, y1, y2, y3⟩, ⟨x0, x1, x2, x3⟩⟩ := HC.out
    go_wp2_with fail
    go_region_held3 (fun w' => (w'.cell? ⟨g5, o5 + kk * 4, none⟩ = some (.bool x.v) ∧ w'.cell? ⟨g5, o5 + kk * 4 + 1, none⟩ = some (.int .u64 x.hi) ∧ w'.cell? ⟨g5, o5 + kk * 4 + 2, none⟩ = some (.int .u64 x.lo) ∧ w'.cell? ⟨g5, o5 + kk * 4 + 3, none⟩ = some (.int .i64 x.b)) ∧ (w'.cell? ⟨g, o + jj * 4, none⟩ = some (.bool x.v) ∧ w'.cell? ⟨g, o + jj * 4 + 1, none⟩ = some (.int .u64 x.hi) ∧ w'.cell? ⟨g, o + jj * 4 + 2, none⟩ = some (.int .u64 x.lo) ∧ w'.cell? ⟨g, o + jj * 4 + 3, none⟩ = some (.int .i64 x.b)))
      (first | with_reducible exact HC.out | exact HC.out | assumption)
      (fail)
    go_wp2_with fail
    go_ret
    exact ⟨rfl, HB.out.drew⟩

set_option maxHeartbeats 64000000 in
set_option maxRecDepth 100000 in
theorem tm_top (a : Option Addr) (c N : Nat) (v : Bool) (xh xl : Int) (n : Int) (w : World) (fi fe : Int)
    (HT : Hid (∀ w' : World, Calls Tryz.prog 5 #[] w' fun e w'' => e = .returned (.bool true) ∧ Below w'.heap.size w' w''))
    (HQ : Hid (∀ w' : World, Below w.heap.size w w' → Calls Tryz.prog 6 #[] w' fun e w'' => e = .returned (.bool true) ∧ Below w'.heap.size w' w''))
    (HF : Hid (∀ w' : World, Below w.heap.size w w' → Calls Tryz.prog 11 #[.slice a N c, .agg #[.bool v, .int .u64 xh, .int .u64 xl]] w' fun e w'' => e = .returned (.tuple #[.int .i64 fi, .int .i64 fe]) ∧ Below w'.heap.size w' w''))
    (ps : List Pf) (m : Nat) (hn : n = m) (hm : m < N) (hN : N = ps.length) (hN12 : N ≤ 12) (hc : N ≤ c) (hs : Sl w a ps) (k f : Int)
    (HL : Hid (∀ (n5 : Nat) (a' : Option Addr) (c' : Nat) (w' : World), n5 = (lessL' ps m).length → Sl w' a' (lessL' ps m) → Calls Tryz.prog 11 #[.slice a' n5 c', .agg #[.bool v, .int .u64 xh, .int .u64 xl]] w' fun e w'' => e = .returned (.tuple #[.int .i64 k, .int .i64 f]) ∧ Below w'.heap.size w' w'')) (h0 : fe = 0) (h1 : fi = m) (h2 : f = 5)
    (HA : Hid (∀ w' : World, Below w.heap.size w w' → Calls Tryz.prog 9 #[.slice a N c, .int .i64 m] w' fun e w'' => e = .returned (.tuple #[.int .i64 0, .int .i64 5]) ∧ Below w'.heap.size w' w'')) :
    Calls Tryz.prog 4 #[.slice a N c, .agg #[.bool v, .int .u64 xh, .int .u64 xl], .int .i64 n] w fun e w' => e = .returned (.bool true) ∧ Below w.heap.size w w' := by
  have HP := Lib.hid (Has3.new w (.bool v) (.int .u64 xh) (.int .u64 xl) 25)
  have HB := Lib.hid (bal (Below.refl w.heap.size w) (.cells #[.bool v, .int .u64 xh, .int .u64 xl] 25))
  subst hn
  subst h0 h1 h2
  have hml : m < ps.length := by omega
  obtain ⟨g, o, rfl, hg, _, _, _, _⟩ := hs m hml
  have k5 : decide ((m : Int) < 0) = false := decide_eq_false (by omega)
  have k6 : decide ((N : Int) ≤ (m : Int)) = false := decide_eq_false (by omega)
  have k7 : (0 : Int) ≤ (m : Int) := by omega
  have k8 : (m : Int) ≤ (c : Int) := by omega
  obtain ⟨q, hq⟩ : ∃ q, q = m + 1 := ⟨_, rfl⟩
  have k9 : IntKind.i64.wrap ((m : Int) + 1) = (q : Int) := by rw [IntKind.wrap_i64]; omega
  have k10 : (0 : Int) ≤ (q : Int) := by omega
  have k11 : (q : Int) ≤ (N : Int) := by omega
  have k12 : (N : Int) ≤ (c : Int) := by omega
  have k14 : q ≤ N := by omega
  have Hq := Lib.hid hq
  clear hq
  have Hs := Lib.hid hs
  have HN := Lib.hid hN
  clear hs hN
  obtain ⟨i0, hi0, hz0, hz1, hz2⟩ := info_parts infoP
  obtain ⟨n5, hn5⟩ : ∃ n5, Hid (n5 = (lessL' ps m).length) := ⟨_, rfl⟩
  have hne' : ((m : Int) != (m : Int)) = false := by simp
  by_cases hcm : c = q
  · have hNc : N = c := by have := Hq.out; omega
    subst hNc
    subst hcm
    go_enter Tryz.func4, Tryz.ntmps4
    obtain ⟨a0, a1, a2, a3⟩ := HP.out
    go_wp2_with fail
    refine (HT.out _).mono ?_
    rintro e w1 ⟨rfl, hb⟩
    clear a0 a1 a2 a3
    replace HP := Lib.hid (HP.out.below hb)
    replace HB := Lib.hid (btr HB.out hb)
    clear hb
    obtain ⟨a0, a1, a2, a3⟩ := HP.out
    go_wp2_with fail
    refine (HQ.out _ HB.out).mono ?_
    rintro e w2 ⟨rfl, hb⟩
    clear a0 a1 a2 a3
    replace HP := Lib.hid (HP.out.below hb)
    replace HB := Lib.hid (btr HB.out hb)
    clear hb
    obtain ⟨a0, a1, a2, a3⟩ := HP.out
    go_wp2_with fail
    refine (HF.out _ HB.out).mono ?_
    rintro e w3 ⟨rfl, hb⟩
    clear a0 a1 a2 a3
    replace HP := Lib.hid (HP.out.below hb)
    replace HB := Lib.hid (btr HB.out hb)
    clear hb
    have rA : Hid (World.ownsRow (w3.alloc (.cells #[] 37)).drew w3.heap.size 37 4 (.slice (some ⟨w3.heap.size, 0, none⟩) 0 0) 0 []) := row_empty w3
    have kA : Hid (Below w3.heap.size w3 (w3.alloc (.cells #[] 37)).drew) := (bal (Below.refl _ _) _).drew
    have BA : Hid (Below w.heap.size w (w3.alloc (.cells #[] 37)).drew) := btr HB.out kA.out
    have hpz := Lib.hid HP.out.2.2.2
    have T0 : Hid (w3.drew.cell? ⟨w.heap.size, 0, none⟩ = some (.bool v) ∧ Below w.heap.size w w3.drew) := ⟨HP.out.1, HB.out.drew⟩
    have TA : Hid ((w3.alloc (.cells #[] 37)).drew.cell? ⟨w.heap.size, 0, none⟩ = some (.bool v) ∧ Below w.heap.size w (w3.alloc (.cells #[] 37)).drew) := ⟨(HP.out.below kA.out).1, BA.out⟩
    obtain ⟨a0, a1, a2, a3⟩ := HP.out
    go_wp2_with fail
    go_region_held3 (fun w' => w'.cell? ⟨w.heap.size, 0, none⟩ = some (.bool v) ∧ Below w.heap.size w w')
      (first | with_reducible exact T0.out | with_reducible exact TA.out | with_reducible exact T4.out | with_reducible exact T5.out | fail)
      (first
        | (refine at_world w4 (by with_reducible rfl) ?_; go_must (refine step_append_own (by rfl) _ _ 22 (by rfl) w3.heap.size 37 i0 _ 4 32 Tryz.underlying22 hi0 hz0 hz1 hz2 rfl (by decide) _ _ _ (by rfl) O4.out _ _ _ (flat (ps.drop N)) (by rfl) (by rw [flat_len, List.length_drop]; have := HN.out; omega) (by intro j u hj; rw [List.drop_eq_nil_of_le (by have := HN.out; omega)] at hj; simp [flat] at hj) (flat_one _) (by unfold maxLen; omega) (by omega) H4.out.size ?_; intro v5 w5 hown5 hgrow5 _; have H5 : Hid (Below w3.heap.size w3 w5) := H4.out.grown hgrow5 H4.out.size (fun k hk => (O4.out.lt k hk).1); have HO5 : Hid (w5.ownsRow w3.heap.size 37 4 v5 (lessL' ps m).length (flat (lessL' ps m))) := Lib.hid (less_row HN.out Hq.out hm hown5 (by have := Hq.out; omega) (by first | rfl | simp)); obtain ⟨a5, c5, e5, _, s5⟩ := own_sl HO5.out; rw [← hn5.out] at e5; subst e5; have S5 := Lib.hid s5; have P5 := Lib.hid (has3_upto HP.out hpz.out H5.out); have B5 : Hid (Below w.heap.size w w5) := btr HB.out (below_le H5.out (Nat.le_refl _)); have T5 : Hid (w5.cell? ⟨w.heap.size, 0, none⟩ = some (.bool v) ∧ Below w.heap.size w w5) := ⟨P5.out.1, B5.out⟩; clear hown5 hgrow5 s5))
        | (refine at_world (w3.alloc (.cells #[] 37)).drew (by with_reducible rfl) ?_; go_must (refine step_append_own (by rfl) _ _ 22 (by rfl) w3.heap.size 37 i0 _ 4 32 Tryz.underlying22 hi0 hz0 hz1 hz2 rfl (by decide) _ _ _ (by rfl) rA.out _ _ _ (flat (ps.take m)) (by rfl) (by rw [flat_len, List.length_take]; have := HN.out; omega) (sl_news ((Hs.out.below BA.out).take m)) (flat_one _) (by unfold maxLen; omega) (by omega) kA.out.size ?_; intro v4 w4 hown4 hgrow4 _; have H4 : Hid (Below w3.heap.size w3 w4) := kA.out.grown hgrow4 kA.out.size (fun k hk => (rA.out.lt k hk).1); have O4 := Lib.hid hown4; have B4 : Hid (Below w.heap.size w w4) := btr HB.out (below_le H4.out (Nat.le_refl _)); have T4 : Hid (w4.cell? ⟨w.heap.size, 0, none⟩ = some (.bool v) ∧ Below w.heap.size w w4) := ⟨(has3_upto HP.out hpz.out H4.out).1, B4.out⟩; clear hown4 hgrow4)))
    clear a0 a1 a2 a3 HP HB rA kA BA T0 TA T4 T5 H4 O4 B4 HO5
    have HP := P5
    have HB := B5
    clear P5 B5
    obtain ⟨a0, a1, a2, a3⟩ := HP.out
    go_wp2_with fail
    refine (HL.out n5 _ _ _ hn5.out S5.out).mono ?_
    rintro e w6 ⟨rfl, hb⟩
    clear a0 a1 a2 a3
    replace HB := Lib.hid (btr HB.out hb)
    replace S5 := Lib.hid (S5.out.below hb)
    clear hb HP
    go_wp2_with fail
    refine (HA.out _ HB.out).mono ?_
    rintro e w7 ⟨rfl, hb⟩
    replace HB := Lib.hid (btr HB.out hb)
    clear hb
    go_wp2_with fail
    go_region
    go_wp2_with fail
    go_ret
    exact ⟨rfl, HB.out.drew⟩
  · go_enter Tryz.func4, Tryz.ntmps4
    obtain ⟨a0, a1, a2, a3⟩ := HP.out
    go_wp2_with fail
    refine (HT.out _).mono ?_
    rintro e w1 ⟨rfl, hb⟩
    clear a0 a1 a2 a3
    replace HP := Lib.hid (HP.out.below hb)
    replace HB := Lib.hid (btr HB.out hb)
    clear hb
    obtain ⟨a0, a1, a2, a3⟩ := HP.out
    go_wp2_with fail
    refine (HQ.out _ HB.out).mono ?_
    rintro e w2 ⟨rfl, hb⟩
    clear a0 a1 a2 a3
    replace HP := Lib.hid (HP.out.below hb)
    replace HB := Lib.hid (btr HB.out hb)
    clear hb
    obtain ⟨a0, a1, a2, a3⟩ := HP.out
    go_wp2_with fail
    refine (HF.out _ HB.out).mono ?_
    rintro e w3 ⟨rfl, hb⟩
    clear a0 a1 a2 a3
    replace HP := Lib.hid (HP.out.below hb)
    replace HB := Lib.hid (btr HB.out hb)
    clear hb
    have rA : Hid (World.ownsRow (w3.alloc (.cells #[] 37)).drew w3.heap.size 37 4 (.slice (some ⟨w3.heap.size, 0, none⟩) 0 0) 0 []) := row_empty w3
    have kA : Hid (Below w3.heap.size w3 (w3.alloc (.cells #[] 37)).drew) := (bal (Below.refl _ _) _).drew
    have BA : Hid (Below w.heap.size w (w3.alloc (.cells #[] 37)).drew) := btr HB.out kA.out
    have hpz := Lib.hid HP.out.2.2.2
    have T0 : Hid (w3.drew.cell? ⟨w.heap.size, 0, none⟩ = some (.bool v) ∧ Below w.heap.size w w3.drew) := ⟨HP.out.1, HB.out.drew⟩
    have TA : Hid ((w3.alloc (.cells #[] 37)).drew.cell? ⟨w.heap.size, 0, none⟩ = some (.bool v) ∧ Below w.heap.size w (w3.alloc (.cells #[] 37)).drew) := ⟨(HP.out.below kA.out).1, BA.out⟩
    obtain ⟨a0, a1, a2, a3⟩ := HP.out
    go_wp2_with fail
    go_region_held3 (fun w' => w'.cell? ⟨w.heap.size, 0, none⟩ = some (.bool v) ∧ Below w.heap.size w w')
      (first | with_reducible exact T0.out | with_reducible exact TA.out | with_reducible exact T4.out | with_reducible exact T5.out | fail)
      (first
        | (refine at_world w4 (by with_reducible rfl) ?_; go_must (refine step_append_own (by rfl) _ _ 22 (by rfl) w3.heap.size 37 i0 _ 4 32 Tryz.underlying22 hi0 hz0 hz1 hz2 rfl (by decide) _ _ _ (by rfl) O4.out _ _ _ (flat (ps.drop q)) (by rfl) (by rw [flat_len, List.length_drop]; have := HN.out; omega) (sl_news ((Hs.out.below B4.out).drop q)) (flat_one _) (by unfold maxLen; omega) (by omega) H4.out.size ?_; intro v5 w5 hown5 hgrow5 _; have H5 : Hid (Below w3.heap.size w3 w5) := H4.out.grown hgrow5 H4.out.size (fun k hk => (O4.out.lt k hk).1); have HO5 : Hid (w5.ownsRow w3.heap.size 37 4 v5 (lessL' ps m).length (flat (lessL' ps m))) := Lib.hid (less_row HN.out Hq.out hm hown5 (by have := Hq.out; omega) (by first | rfl | simp)); obtain ⟨a5, c5, e5, _, s5⟩ := own_sl HO5.out; rw [← hn5.out] at e5; subst e5; have S5 := Lib.hid s5; have P5 := Lib.hid (has3_upto HP.out hpz.out H5.out); have B5 : Hid (Below w.heap.size w w5) := btr HB.out (below_le H5.out (Nat.le_refl _)); have T5 : Hid (w5.cell? ⟨w.heap.size, 0, none⟩ = some (.bool v) ∧ Below w.heap.size w w5) := ⟨P5.out.1, B5.out⟩; clear hown5 hgrow5 s5))
        | (refine at_world (w3.alloc (.cells #[] 37)).drew (by with_reducible rfl) ?_; go_must (refine step_append_own (by rfl) _ _ 22 (by rfl) w3.heap.size 37 i0 _ 4 32 Tryz.underlying22 hi0 hz0 hz1 hz2 rfl (by decide) _ _ _ (by rfl) rA.out _ _ _ (flat (ps.take m)) (by rfl) (by rw [flat_len, List.length_take]; have := HN.out; omega) (sl_news ((Hs.out.below BA.out).take m)) (flat_one _) (by unfold maxLen; omega) (by omega) kA.out.size ?_; intro v4 w4 hown4 hgrow4 _; have H4 : Hid (Below w3.heap.size w3 w4) := kA.out.grown hgrow4 kA.out.size (fun k hk => (rA.out.lt k hk).1); have O4 := Lib.hid hown4; have B4 : Hid (Below w.heap.size w w4) := btr HB.out (below_le H4.out (Nat.le_refl _)); have T4 : Hid (w4.cell? ⟨w.heap.size, 0, none⟩ = some (.bool v) ∧ Below w.heap.size w w4) := ⟨(has3_upto HP.out hpz.out H4.out).1, B4.out⟩; clear hown4 hgrow4)))
    clear a0 a1 a2 a3 HP HB rA kA BA T0 TA T4 T5 H4 O4 B4 HO5
    have HP := P5
    have HB := B5
    clear P5 B5
    obtain ⟨a0, a1, a2, a3⟩ := HP.out
    go_wp2_with fail
    refine (HL.out n5 _ _ _ hn5.out S5.out).mono ?_
    rintro e w6 ⟨rfl, hb⟩
    clear a0 a1 a2 a3
    replace HB := Lib.hid (btr HB.out hb)
    replace S5 := Lib.hid (S5.out.below hb)
    clear hb HP
    go_wp2_with fail
    refine (HA.out _ HB.out).mono ?_
    rintro e w7 ⟨rfl, hb⟩
    replace HB := Lib.hid (btr HB.out hb)
    clear hb
    go_wp2_with fail
    go_region
    go_wp2_with fail
    go_ret
    exact ⟨rfl, HB.out.drew⟩

end Go.Proofs.YtghbonlignmdoaaGreatDoor

namespace Go.Proofs.YtghbonlignmdoaaGreatDoor
open Go.RowKit

/-- What Find tells of a table with an address that is right. -/
theorem find_at {ps : List Pf} (h : tchkL ps = 0) (hR : ∀ p ∈ ps, p.R) {v : Bool} {xh xl : Int} (q : Right v xh xl (wid v)) :
    (lastI (fun p => p.has ⟨v, xh, xl, wid v⟩) ps = none → findI ps v xh xl = 0 ∧ findE ps v xh xl = 5) ∧
    (∀ j, lastI (fun p => p.has ⟨v, xh, xl, wid v⟩) ps = some j → findI ps v xh xl = j ∧ findE ps v xh xl = 0) := by
  have hc : chk v xh xl = 0 := q.c
  have e := find_host hR q
  refine ⟨fun hl => ?_, fun j hl => ?_⟩
  · rw [← e] at hl
    have e1 : findE ps v xh xl = 5 := by rw [findE, if_pos h, if_pos hc, hl]; rfl
    exact ⟨by rw [findI, if_neg (by rw [e1]; decide)], e1⟩
  · rw [← e] at hl
    have e1 : findE ps v xh xl = 0 := by rw [findE, if_pos h, if_pos hc, hl]; rfl
    exact ⟨by rw [findI, if_pos e1, hl]; rfl, e1⟩
theorem chk_val (v : Bool) (xh xl : Int) : chk v xh xl = 0 ∨ chk v xh xl = 3 := by
  rcases chk_cases v xh xl with ⟨h, _⟩ | h
  · exact .inl h
  · exact .inr h

theorem pchk_ne5 (v : Bool) (hi lo b : Int) : pchk v hi lo b ≠ 5 := by
  unfold pchk
  have := chk_val v hi lo
  repeat' split
  all_goals omega
theorem tchk_ne5 : ∀ (ps : List Pf) (o : Option Pf), tchk o ps ≠ 5
  | [], o => by cases o <;> (rw [tchk]; decide)
  | p :: r, none => by
    rw [tchk_none]
    split
    · exact tchk_ne5 r _
    · exact pchk_ne5 _ _ _ _
  | p :: r, some q => by
    rw [tchk_some]
    split
    · split
      · exact tchk_ne5 r _
      · unfold folE
        split
        · decide
        · split <;> decide
    · exact pchk_ne5 _ _ _ _
theorem tchkL_ne5 (ps : List Pf) : tchkL ps ≠ 5 := by
  unfold tchkL
  split
  · decide
  · exact tchk_ne5 ps none

theorem tmore_law (a : Option Addr) (c : Nat) (ps : List Pf) (v : Bool) (xh xl : Int) (n : Int) (w : World) (hg : Good w) (hok : ∀ p ∈ ps, p.Ok) (hcap : ps.length ≤ c) (hs : Sl w a ps) (x0 : 0 ≤ xh) (x1 : xh < 18446744073709551616) (x2 : 0 ≤ xl) (x3 : xl < 18446744073709551616) :
    Calls Tryz.prog 4 #[.slice a ps.length c, .agg #[.bool v, .int .u64 xh, .int .u64 xl], .int .i64 n] w fun e w' => e = .returned (.bool true) ∧ Below w.heap.size w w' := by
  have CB := Lib.hid tbegun_any
  have CQ := Lib.hid (fun w' (h : Below w.heap.size w w') => pbegun_any w' (hg.below h))
  have CF := Lib.hid (fun w' (h : Below w.heap.size w w') => find_any a c ps v xh xl w' hok (hs.below h) x0 x2)
  by_cases hr : tchkL ps = 0
  · have hR := right_all hok hr
    have h12 := (tchkL_right hr).1
    by_cases hc : chk v xh xl = 0
    · have q := host_right hc x0 x1 x2 x3
      obtain ⟨f1, f2⟩ := find_at hr hR q
      have bounds : ∀ fe : Int, findE ps v xh xl = fe → (fe = 0 ∨ fe = 5) → (n < 0 ∨ (ps.length : Int) ≤ n) → Calls Tryz.prog 4 #[.slice a ps.length c, .agg #[.bool v, .int .u64 xh, .int .u64 xl], .int .i64 n] w fun e w' => e = .returned (.bool true) ∧ Below w.heap.size w w' := fun fe he h05 hn => by
        rw [he] at CF
        by_cases h : n < 0
        · rcases h05 with h0 | h0
          · exact tm_neg0 a c ps.length v xh xl n w _ fe CB CQ CF h0 h
          · exact tm_neg5 a c ps.length v xh xl n w _ fe CB CQ CF h0 h
        · rcases h05 with h0 | h0
          · exact tm_big0 a c ps.length v xh xl n w _ fe CB CQ CF h0 (decide_eq_false h) (by omega)
          · exact tm_big5 a c ps.length v xh xl n w _ fe CB CQ CF h0 (decide_eq_false h) (by omega)
      by_cases hnb : n < 0 ∨ (ps.length : Int) ≤ n
      · cases hl : lastI (fun p => p.has ⟨v, xh, xl, wid v⟩) ps with
        | none => exact bounds 5 (f1 hl).2 (.inr rfl) hnb
        | some j => exact bounds 0 (f2 j hl).2 (.inl rfl) hnb
      · obtain ⟨m, hm⟩ : ∃ m : Nat, n = m := ⟨n.toNat, by omega⟩
        have hml : m < ps.length := by omega
        have hRl : ∀ p ∈ lessL' ps m, p.R := fun p hp => hR p ((lessL'_sub ps m).subset hp)
        have hokl : ∀ p ∈ lessL' ps m, p.Ok := fun p hp => hok p ((lessL'_sub ps m).subset hp)
        obtain ⟨g1, g2⟩ := find_at (lessL'_tab hml hR hr) hRl q
        obtain ⟨L1, L2, L3⟩ := less_find (fun p : Pf => p.has ⟨v, xh, xl, wid v⟩) hml
        have HL : ∀ (n5 : Nat) (a' : Option Addr) (c' : Nat) (w' : World), n5 = (lessL' ps m).length → Sl w' a' (lessL' ps m) → Calls Tryz.prog 11 #[.slice a' n5 c', .agg #[.bool v, .int .u64 xh, .int .u64 xl]] w' fun e w'' => e = .returned (.tuple #[.int .i64 (findI (lessL' ps m) v xh xl), .int .i64 (findE (lessL' ps m) v xh xl)]) ∧ Below w'.heap.size w' w'' := fun n5 a' c' w' hn h => by
          rw [hn]; exact find_any a' c' (lessL' ps m) v xh xl w' hokl h x0 x2
        cases hl : lastI (fun p => p.has ⟨v, xh, xl, wid v⟩) ps with
        | none =>
          rw [(f1 hl).2] at CF
          exact tm_none a c ps.length v xh xl n w _ 5 CB CQ CF ps m hm hml rfl h12 hcap hs _ _ (Lib.hid HL) rfl (g1 (L1 hl)).2
        | some i =>
          rw [(f2 i hl).1, (f2 i hl).2] at CF
          have hil := lastI_lt hl
          by_cases hne : i = m
          · subst hne
            have hli := lastI_some hl
            have hpar := below_same hR (rise_all hR hr) (s := ⟨v, xh, xl, wid v⟩) q hml hli.2.1
            have hless := (L3 hl).trans hpar
            have CA := fun w' (h : Below w.heap.size w w') => above_any a c ps i w' hok hcap (hs.below h)
            cases hp : par ps i with
            | none =>
              rw [hp] at hless
              refine tm_top a c ps.length v xh xl n w _ 0 CB CQ CF ps i hm hml rfl h12 hcap hs _ _ (Lib.hid HL) rfl rfl (g1 hless).2 (Lib.hid fun w' h => ?_)
              have := CA w' h
              rw [(above_no hr hml hp).1, (above_no hr hml hp).2] at this
              exact this
            | some u =>
              have hlt := lastI_lt (hless.trans hp)
              have hu := par_lt hp
              refine tm_up a c ps.length v xh xl n w _ 0 CB CQ CF ps i hm hml rfl h12 hcap hs _ _ (Lib.hid HL) u u rfl rfl (g2 u (hless.trans hp)).2 (g2 u (hless.trans hp)).1 hu.2 (Lib.hid hlt) ?_ (Lib.hid fun w' h => ?_)
              · rw [lessL', List.getElem?_append_left (by rw [List.length_take]; omega), List.getElem?_take_of_lt hu.1]
              · have := CA w' h
                rw [(above_at hr hml hp).1, (above_at hr hml hp).2] at this
                exact this
          · obtain ⟨k, hk1, hk2⟩ := L2 i hl hne
            have hlt := lastI_lt hk1
            exact tm_other a c ps.length v xh xl n w _ 0 CB CQ CF ps m hm hml rfl h12 hcap hs _ _ (Lib.hid HL) k i rfl rfl (g2 k hk1).2 (g2 k hk1).1 (fun h => hne h.symm) hil (Lib.hid hlt) hk2
    · have e1 : findE ps v xh xl = 3 := by rw [findE, if_pos hr, if_neg hc]; rcases chk_val v xh xl with h | h; exact absurd h hc; exact h
      rw [e1] at CF
      exact tm_err a c ps.length v xh xl n w _ 3 CB CQ CF (by decide) (by decide)
  · have e1 : findE ps v xh xl = tchkL ps := by rw [findE, if_neg hr]
    rw [e1] at CF
    exact tm_err a c ps.length v xh xl n w _ (tchkL ps) CB CQ CF (by rw [bne_iff_ne]; exact hr) (by rw [bne_iff_ne]; exact tchkL_ne5 ps)
end Go.Proofs.YtghbonlignmdoaaGreatDoor
