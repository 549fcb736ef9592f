/- yardarmlaw.TableTells, case by case. -/
import Derived.Test.YthbpldmebekgoaaTbK
import Derived.Test.YthbpldmebekgoaaTbL
set_option linter.unusedVariables false
set_option linter.unusedSimpArgs false
namespace Go.Proofs.Ythbpldmebekgoaa
open Go.RowKit

set_option maxHeartbeats 16000000 in
set_option maxRecDepth 100000 in
theorem tt_bad (a : Option Addr) (c N : Nat) (ps : List Pf) (v : Bool) (xh xl : Int) (n : Int) (w : World) (hN : N = ps.length) (hs : Sl w a ps)
    (fi fe ai ae t : Int)
    (HF : Hid (∀ w' : World, Below w.heap.size w w' → Calls Try.prog 4 #[.slice a N c, .agg #[.bool v, .int .u64 xh, .int .u64 xl]] w' fun e w'' => e = .returned (.tuple #[.int .i64 fi, .int .i64 fe]) ∧ Below w'.heap.size w' w''))
    (HA : Hid (∀ w' : World, Below w.heap.size w w' → Calls Try.prog 5 #[.slice a N c, .int .i64 n] w' fun e w'' => e = .returned (.tuple #[.int .i64 ai, .int .i64 ae]) ∧ Below w'.heap.size w' w''))
    (HT : Hid (∀ w' : World, Below w.heap.size w w' → Calls Try.prog 7 #[.slice a N c] w' fun e w'' => e = .returned (.int .i64 t) ∧ Below w'.heap.size w' w''))
    (HK : Hid (∀ w' : World, Below w.heap.size w w' → Calls Try.prog 12 #[.slice a N c] w' fun e w'' => e = .returned (.int .i64 t) ∧ Below w'.heap.size w' w''))
    (HG : Hid (∀ w' : World, Calls Try.prog 11 #[] w' fun e w'' => e = .returned (.bool true) ∧ Below w'.heap.size w' w''))
    (be : Int) (HL : Hid (∀ w' : World, Below w.heap.size w w' → Calls Try.prog 6 #[.slice a N c, .int .i64 n] w' fun e w'' => e = .returned (.tuple #[.slice none 0 0, .int .i64 be]) ∧ Below w'.heap.size w' w'')) (h1 : be = t) (h2 : fe = t) (h3 : ae = t) (h4 : fi = 0) (h5 : ai = 0) (hI : (t == 0) = false) :
    Calls Try.prog 3 #[.slice a N c, .agg #[.bool v, .int .u64 xh, .int .u64 xl], .int .i64 n] w fun e w' => e = .returned (.bool true) ∧ Below w.heap.size w w' := by
  have HP := Lib.hid (Has3.new w (.bool v) (.int .u64 xh) (.int .u64 xl) 25)
  have HB := Lib.hid (bal (Below.refl w.heap.size w) (.cells #[.bool v, .int .u64 xh, .int .u64 xl] 25))
  have Hs := Lib.hid hs
  have HN := Lib.hid hN
  clear hs hN
  subst h1 h2 h3 h4 h5
  obtain ⟨a0, a1, a2, a3⟩ := HP.out
  go_enter Try.func3, Try.ntmps3
  go_wp2_with fail
  refine (HF.out _ HB.out).mono ?_
  rintro e w2 ⟨rfl, hb⟩
  clear a0 a1 a2 a3
  replace HP := Lib.hid (HP.out.below hb)
  replace HB := Lib.hid (btr HB.out hb)
  clear hb
  obtain ⟨a0, a1, a2, a3⟩ := HP.out
  go_wp2_with fail
  refine (HA.out _ HB.out).mono ?_
  rintro e w2 ⟨rfl, hb⟩
  clear a0 a1 a2 a3
  replace HP := Lib.hid (HP.out.below hb)
  replace HB := Lib.hid (btr HB.out hb)
  clear hb
  obtain ⟨a0, a1, a2, a3⟩ := HP.out
  go_wp2_with fail
  refine (HL.out _ HB.out).mono ?_
  rintro e w2 ⟨rfl, hb⟩
  clear a0 a1 a2 a3
  replace HP := Lib.hid (HP.out.below hb)
  replace HB := Lib.hid (btr HB.out hb)
  clear hb
  obtain ⟨a0, a1, a2, a3⟩ := HP.out
  go_wp2_with fail
  refine (HT.out _ HB.out).mono ?_
  rintro e w2 ⟨rfl, hb⟩
  clear a0 a1 a2 a3
  replace HP := Lib.hid (HP.out.below hb)
  replace HB := Lib.hid (btr HB.out hb)
  clear hb
  obtain ⟨a0, a1, a2, a3⟩ := HP.out
  go_wp2_with fail
  refine wp_loop_rounds 1 ?_
  rw [rounds_succ]
  go_wp2_with fail
  refine (HG.out _).mono ?_
  rintro e w2 ⟨rfl, hb⟩
  clear a0 a1 a2 a3
  replace HP := Lib.hid (HP.out.below hb)
  replace HB := Lib.hid (btr HB.out hb)
  clear hb
  obtain ⟨a0, a1, a2, a3⟩ := HP.out
  go_wp2_with fail
  refine (HK.out _ HB.out).mono ?_
  rintro e w2 ⟨rfl, hb⟩
  clear a0 a1 a2 a3
  replace HP := Lib.hid (HP.out.below hb)
  replace HB := Lib.hid (btr HB.out hb)
  clear hb
  obtain ⟨a0, a1, a2, a3⟩ := HP.out
  go_wp2
  go_ret
  exact ⟨rfl, HB.out⟩

/-- Places that lie in a row behind a slice. -/
def RowI (w : World) (v : Value) (L : List Nat) : Prop := (v = .slice none 0 0 ∧ L = []) ∨ ∃ g c, v = .slice (some ⟨g, 0, none⟩) L.length c ∧ g < w.heap.size ∧ ∀ j (h : j < L.length), w.cell? ⟨g, j, none⟩ = some (.int .i64 (L[j] : Nat))
theorem RowI.of {w : World} {B : Nat} {v : Value} {L : List Nat} (h : w.ownsRow B 3 1 v L.length (intsT L)) : RowI w v L := by
  obtain ⟨h1, h2⟩ := h
  rcases h2 with ⟨rfl, h2⟩ | ⟨g, c, cur, rfl, _, hc, h3, h4, h5, h6⟩
  · exact .inl ⟨rfl, List.length_eq_zero_iff.1 h2⟩
  · refine .inr ⟨g, c, rfl, (Array.getElem?_eq_some_iff.1 hc).1, fun j hj => ?_⟩
    have hj2 : (cur.toList.take (L.length * 1))[j]? = (intsT L)[j]? := by rw [h6]
    rw [List.getElem?_take_of_lt (by omega)] at hj2
    simp only [intsT, List.getElem?_map, List.getElem?_eq_getElem hj, Option.map_some] at hj2
    simp [World.cell?, hc]
    simpa using hj2
theorem Sl.at {w : World} {g o : Nat} {ps : List Pf} (h : Sl w (some ⟨g, o, none⟩) ps) (j : Nat) (hj : j < ps.length) : g < w.heap.size ∧ w.cell? ⟨g, o + j * 4, none⟩ = some (.bool ps[j].v) ∧ w.cell? ⟨g, o + j * 4 + 1, none⟩ = some (.int .u64 ps[j].hi) ∧ w.cell? ⟨g, o + j * 4 + 2, none⟩ = some (.int .u64 ps[j].lo) ∧ w.cell? ⟨g, o + j * 4 + 3, none⟩ = some (.int .i64 ps[j].b) := by
  obtain ⟨g', o', e, r⟩ := h j hj
  obtain ⟨rfl, rfl⟩ : g = g' ∧ o = o' := by simpa using e
  exact r
theorem row_keep {w w' : World} {B e s n : Nat} {v : Value} {xs : List Value} (h : w.ownsRow B e s v n xs) (hb : Below w.heap.size w w') : w'.ownsRow B e s v n xs := by
  obtain ⟨h1, h2⟩ := h
  refine ⟨h1, ?_⟩
  rcases h2 with h2 | ⟨g, c, cur, e1, e2, hc, r⟩
  · exact .inl h2
  · exact .inr ⟨g, c, cur, e1, e2, (hb.block g (Array.getElem?_eq_some_iff.1 hc).1).trans hc, r⟩
theorem has3_upto {w w' : World} {B p : Nat} {x y z : Value} (h : Has3 w p x y z) (hp : p < B) (hb : Below B w w') : Has3 w' p x y z :=
  ⟨by rw [hb.cell (p := ⟨p, 0, none⟩) hp]; exact h.1, by rw [hb.cell (p := ⟨p, 1, none⟩) hp]; exact h.2.1, by rw [hb.cell (p := ⟨p, 2, none⟩) hp]; exact h.2.2.1, Nat.lt_of_lt_of_le h.2.2.2 hb.size⟩
/-- The same, below a bound of blocks. -/
def RowO (B : Nat) (w : World) (p : Option Addr) (L : List Nat) : Prop := ∀ j (h : j < L.length), ∃ g, p = some ⟨g, 0, none⟩ ∧ g < B ∧ w.cell? ⟨g, j, none⟩ = some (.int .i64 (L[j] : Nat))
theorem RowI.open {w : World} {v : Value} {L : List Nat} (h : RowI w v L) : ∃ p c, v = .slice p L.length c ∧ RowO w.heap.size w p L := by
  rcases h with ⟨rfl, rfl⟩ | ⟨g, c, rfl, hg, h⟩
  · exact ⟨none, 0, rfl, fun j hj => by simp at hj⟩
  · exact ⟨_, c, rfl, fun j hj => ⟨g, rfl, hg, h j hj⟩⟩
theorem RowO.upto {B : Nat} {w w' : World} {p : Option Addr} {L : List Nat} (h : RowO B w p L) (hb : Below B w w') : RowO B w' p L := fun j hj => by
  obtain ⟨g, e, hg, hc⟩ := h j hj
  exact ⟨g, e, hg, by rw [hb.cell (p := ⟨g, j, none⟩) hg]; exact hc⟩
theorem RowO.wide {B B' : Nat} {w : World} {p : Option Addr} {L : List Nat} (h : RowO B w p L) (hb : B ≤ B') : RowO B' w p L := fun j hj => by
  obtain ⟨g, e, hg, hc⟩ := h j hj
  exact ⟨g, e, Nat.lt_of_lt_of_le hg hb, hc⟩
theorem RowI.below {w w' : World} {v : Value} {L : List Nat} (h : RowI w v L) (hb : Below w.heap.size w w') : RowI w' v L := by
  rcases h with h | ⟨g, c, e, hg, h⟩
  · exact .inl h
  · exact .inr ⟨g, c, e, Nat.lt_of_lt_of_le hg hb.size, fun j hj => by rw [(bcell hb).1 _ _ hg]; exact h j hj⟩

set_option maxHeartbeats 16000000 in
set_option maxRecDepth 100000 in
theorem tt_A1Na (a : Option Addr) (c N : Nat) (ps : List Pf) (v : Bool) (xh xl : Int) (n : Int) (w : World) (hN : N = ps.length) (hN12 : N ≤ 12) (hs : Sl w a ps)
    (fi fe ai ae t : Int)
    (HF : Hid (∀ w' : World, Below w.heap.size w w' → Calls Try.prog 4 #[.slice a N c, .agg #[.bool v, .int .u64 xh, .int .u64 xl]] w' fun e w'' => e = .returned (.tuple #[.int .i64 fi, .int .i64 fe]) ∧ Below w'.heap.size w' w''))
    (HA : Hid (∀ w' : World, Below w.heap.size w w' → Calls Try.prog 5 #[.slice a N c, .int .i64 n] w' fun e w'' => e = .returned (.tuple #[.int .i64 ai, .int .i64 ae]) ∧ Below w'.heap.size w' w''))
    (HT : Hid (∀ w' : World, Below w.heap.size w w' → Calls Try.prog 7 #[.slice a N c] w' fun e w'' => e = .returned (.int .i64 t) ∧ Below w'.heap.size w' w''))
    (HK : Hid (∀ w' : World, Below w.heap.size w w' → Calls Try.prog 12 #[.slice a N c] w' fun e w'' => e = .returned (.int .i64 t) ∧ Below w'.heap.size w' w''))
    (HG : Hid (∀ w' : World, Calls Try.prog 11 #[] w' fun e w'' => e = .returned (.bool true) ∧ Below w'.heap.size w' w''))
    (be : Int) (HL : Hid (∀ w' : World, Below w.heap.size w w' → Calls Try.prog 6 #[.slice a N c, .int .i64 n] w' fun e w'' => e = .returned (.tuple #[.slice none 0 0, .int .i64 be]) ∧ Below w'.heap.size w' w'')) (k1 : be = 3) (k2 : ae = 3) (k3 : ai = 0) (k4 : n < 0)
    (cc : Int) (HC : Hid (∀ w' : World, Calls Try.prog 8 #[.agg #[.bool v, .int .u64 xh, .int .u64 xl]] w' fun e w'' => e = .returned (.int .i64 cc) ∧ Below w'.heap.size w' w'')) (g1 : cc = 3) (g2 : fe = 3) (g3 : fi = 0) (ht : t = 0) :
    Calls Try.prog 3 #[.slice a N c, .agg #[.bool v, .int .u64 xh, .int .u64 xl], .int .i64 n] w fun e w' => e = .returned (.bool true) ∧ Below w.heap.size w w' := by
  have HP := Lib.hid (Has3.new w (.bool v) (.int .u64 xh) (.int .u64 xl) 25)
  have HB := Lib.hid (bal (Below.refl w.heap.size w) (.cells #[.bool v, .int .u64 xh, .int .u64 xl] 25))
  have Hs := Lib.hid hs
  have HN := Lib.hid hN
  clear hs hN
  subst ht
  subst g1 g2 g3
  subst k1 k2 k3
  obtain ⟨a0, a1, a2, a3⟩ := HP.out
  go_enter Try.func3, Try.ntmps3
  go_wp2_with fail
  refine (HF.out _ HB.out).mono ?_
  rintro e w2 ⟨rfl, hb⟩
  clear a0 a1 a2 a3
  replace HP := Lib.hid (HP.out.below hb)
  replace HB := Lib.hid (btr HB.out hb)
  clear hb
  obtain ⟨a0, a1, a2, a3⟩ := HP.out
  go_wp2_with fail
  refine (HA.out _ HB.out).mono ?_
  rintro e w2 ⟨rfl, hb⟩
  clear a0 a1 a2 a3
  replace HP := Lib.hid (HP.out.below hb)
  replace HB := Lib.hid (btr HB.out hb)
  clear hb
  obtain ⟨a0, a1, a2, a3⟩ := HP.out
  go_wp2_with fail
  refine (HL.out _ HB.out).mono ?_
  rintro e w2 ⟨rfl, hb⟩
  clear a0 a1 a2 a3
  replace HP := Lib.hid (HP.out.below hb)
  replace HB := Lib.hid (btr HB.out hb)
  clear hb
  obtain ⟨a0, a1, a2, a3⟩ := HP.out
  go_wp2_with fail
  refine (HT.out _ HB.out).mono ?_
  rintro e w2 ⟨rfl, hb⟩
  clear a0 a1 a2 a3
  replace HP := Lib.hid (HP.out.below hb)
  replace HB := Lib.hid (btr HB.out hb)
  clear hb
  obtain ⟨a0, a1, a2, a3⟩ := HP.out
  go_wp2_with fail
  refine (HC.out _).mono ?_
  rintro e w2 ⟨rfl, hb⟩
  clear a0 a1 a2 a3
  replace HP := Lib.hid (HP.out.below hb)
  replace HB := Lib.hid (btr HB.out hb)
  clear hb
  obtain ⟨a0, a1, a2, a3⟩ := HP.out
  go_wp2_with fail
  refine wp_loop_rounds 1 ?_
  rw [rounds_succ]
  go_wp2_with fail
  refine (HG.out _).mono ?_
  rintro e w2 ⟨rfl, hb⟩
  clear a0 a1 a2 a3
  replace HP := Lib.hid (HP.out.below hb)
  replace HB := Lib.hid (btr HB.out hb)
  clear hb
  obtain ⟨a0, a1, a2, a3⟩ := HP.out
  go_wp2_with fail
  refine (HK.out _ HB.out).mono ?_
  rintro e w2 ⟨rfl, hb⟩
  clear a0 a1 a2 a3
  replace HP := Lib.hid (HP.out.below hb)
  replace HB := Lib.hid (btr HB.out hb)
  clear hb
  obtain ⟨a0, a1, a2, a3⟩ := HP.out
  go_wp2
  go_ret
  exact ⟨rfl, HB.out⟩
set_option maxHeartbeats 16000000 in
set_option maxRecDepth 100000 in
theorem tt_A1Nb (a : Option Addr) (c N : Nat) (ps : List Pf) (v : Bool) (xh xl : Int) (n : Int) (w : World) (hN : N = ps.length) (hN12 : N ≤ 12) (hs : Sl w a ps)
    (fi fe ai ae t : Int)
    (HF : Hid (∀ w' : World, Below w.heap.size w w' → Calls Try.prog 4 #[.slice a N c, .agg #[.bool v, .int .u64 xh, .int .u64 xl]] w' fun e w'' => e = .returned (.tuple #[.int .i64 fi, .int .i64 fe]) ∧ Below w'.heap.size w' w''))
    (HA : Hid (∀ w' : World, Below w.heap.size w w' → Calls Try.prog 5 #[.slice a N c, .int .i64 n] w' fun e w'' => e = .returned (.tuple #[.int .i64 ai, .int .i64 ae]) ∧ Below w'.heap.size w' w''))
    (HT : Hid (∀ w' : World, Below w.heap.size w w' → Calls Try.prog 7 #[.slice a N c] w' fun e w'' => e = .returned (.int .i64 t) ∧ Below w'.heap.size w' w''))
    (HK : Hid (∀ w' : World, Below w.heap.size w w' → Calls Try.prog 12 #[.slice a N c] w' fun e w'' => e = .returned (.int .i64 t) ∧ Below w'.heap.size w' w''))
    (HG : Hid (∀ w' : World, Calls Try.prog 11 #[] w' fun e w'' => e = .returned (.bool true) ∧ Below w'.heap.size w' w''))
    (be : Int) (HL : Hid (∀ w' : World, Below w.heap.size w w' → Calls Try.prog 6 #[.slice a N c, .int .i64 n] w' fun e w'' => e = .returned (.tuple #[.slice none 0 0, .int .i64 be]) ∧ Below w'.heap.size w' w'')) (k1 : be = 3) (k2 : ae = 3) (k3 : ai = 0) (k4 : decide (n < 0) = false) (k5 : (N : Int) ≤ n)
    (cc : Int) (HC : Hid (∀ w' : World, Calls Try.prog 8 #[.agg #[.bool v, .int .u64 xh, .int .u64 xl]] w' fun e w'' => e = .returned (.int .i64 cc) ∧ Below w'.heap.size w' w'')) (g1 : cc = 3) (g2 : fe = 3) (g3 : fi = 0) (ht : t = 0) :
    Calls Try.prog 3 #[.slice a N c, .agg #[.bool v, .int .u64 xh, .int .u64 xl], .int .i64 n] w fun e w' => e = .returned (.bool true) ∧ Below w.heap.size w w' := by
  have HP := Lib.hid (Has3.new w (.bool v) (.int .u64 xh) (.int .u64 xl) 25)
  have HB := Lib.hid (bal (Below.refl w.heap.size w) (.cells #[.bool v, .int .u64 xh, .int .u64 xl] 25))
  have Hs := Lib.hid hs
  have HN := Lib.hid hN
  clear hs hN
  subst ht
  subst g1 g2 g3
  subst k1 k2 k3
  obtain ⟨a0, a1, a2, a3⟩ := HP.out
  go_enter Try.func3, Try.ntmps3
  go_wp2_with fail
  refine (HF.out _ HB.out).mono ?_
  rintro e w2 ⟨rfl, hb⟩
  clear a0 a1 a2 a3
  replace HP := Lib.hid (HP.out.below hb)
  replace HB := Lib.hid (btr HB.out hb)
  clear hb
  obtain ⟨a0, a1, a2, a3⟩ := HP.out
  go_wp2_with fail
  refine (HA.out _ HB.out).mono ?_
  rintro e w2 ⟨rfl, hb⟩
  clear a0 a1 a2 a3
  replace HP := Lib.hid (HP.out.below hb)
  replace HB := Lib.hid (btr HB.out hb)
  clear hb
  obtain ⟨a0, a1, a2, a3⟩ := HP.out
  go_wp2_with fail
  refine (HL.out _ HB.out).mono ?_
  rintro e w2 ⟨rfl, hb⟩
  clear a0 a1 a2 a3
  replace HP := Lib.hid (HP.out.below hb)
  replace HB := Lib.hid (btr HB.out hb)
  clear hb
  obtain ⟨a0, a1, a2, a3⟩ := HP.out
  go_wp2_with fail
  refine (HT.out _ HB.out).mono ?_
  rintro e w2 ⟨rfl, hb⟩
  clear a0 a1 a2 a3
  replace HP := Lib.hid (HP.out.below hb)
  replace HB := Lib.hid (btr HB.out hb)
  clear hb
  obtain ⟨a0, a1, a2, a3⟩ := HP.out
  go_wp2_with fail
  refine (HC.out _).mono ?_
  rintro e w2 ⟨rfl, hb⟩
  clear a0 a1 a2 a3
  replace HP := Lib.hid (HP.out.below hb)
  replace HB := Lib.hid (btr HB.out hb)
  clear hb
  obtain ⟨a0, a1, a2, a3⟩ := HP.out
  go_wp2_with fail
  refine wp_loop_rounds 1 ?_
  rw [rounds_succ]
  go_wp2_with fail
  refine (HG.out _).mono ?_
  rintro e w2 ⟨rfl, hb⟩
  clear a0 a1 a2 a3
  replace HP := Lib.hid (HP.out.below hb)
  replace HB := Lib.hid (btr HB.out hb)
  clear hb
  obtain ⟨a0, a1, a2, a3⟩ := HP.out
  go_wp2_with fail
  refine (HK.out _ HB.out).mono ?_
  rintro e w2 ⟨rfl, hb⟩
  clear a0 a1 a2 a3
  replace HP := Lib.hid (HP.out.below hb)
  replace HB := Lib.hid (btr HB.out hb)
  clear hb
  obtain ⟨a0, a1, a2, a3⟩ := HP.out
  go_wp2
  go_ret
  exact ⟨rfl, HB.out⟩
set_option maxHeartbeats 16000000 in
set_option maxRecDepth 100000 in
theorem tt_A2Na (a : Option Addr) (c N : Nat) (ps : List Pf) (v : Bool) (xh xl : Int) (n : Int) (w : World) (hN : N = ps.length) (hN12 : N ≤ 12) (hs : Sl w a ps)
    (fi fe ai ae t : Int)
    (HF : Hid (∀ w' : World, Below w.heap.size w w' → Calls Try.prog 4 #[.slice a N c, .agg #[.bool v, .int .u64 xh, .int .u64 xl]] w' fun e w'' => e = .returned (.tuple #[.int .i64 fi, .int .i64 fe]) ∧ Below w'.heap.size w' w''))
    (HA : Hid (∀ w' : World, Below w.heap.size w w' → Calls Try.prog 5 #[.slice a N c, .int .i64 n] w' fun e w'' => e = .returned (.tuple #[.int .i64 ai, .int .i64 ae]) ∧ Below w'.heap.size w' w''))
    (HT : Hid (∀ w' : World, Below w.heap.size w w' → Calls Try.prog 7 #[.slice a N c] w' fun e w'' => e = .returned (.int .i64 t) ∧ Below w'.heap.size w' w''))
    (HK : Hid (∀ w' : World, Below w.heap.size w w' → Calls Try.prog 12 #[.slice a N c] w' fun e w'' => e = .returned (.int .i64 t) ∧ Below w'.heap.size w' w''))
    (HG : Hid (∀ w' : World, Calls Try.prog 11 #[] w' fun e w'' => e = .returned (.bool true) ∧ Below w'.heap.size w' w''))
    (be : Int) (HL : Hid (∀ w' : World, Below w.heap.size w w' → Calls Try.prog 6 #[.slice a N c, .int .i64 n] w' fun e w'' => e = .returned (.tuple #[.slice none 0 0, .int .i64 be]) ∧ Below w'.heap.size w' w'')) (k1 : be = 3) (k2 : ae = 3) (k3 : ai = 0) (k4 : n < 0)
    (cc : Int) (HC : Hid (∀ w' : World, Calls Try.prog 8 #[.agg #[.bool v, .int .u64 xh, .int .u64 xl]] w' fun e w'' => e = .returned (.int .i64 cc) ∧ Below w'.heap.size w' w''))
    (HH : Hid (∀ w' : World, Calls Try.prog 10 #[.agg #[.bool v, .int .u64 xh, .int .u64 xl]] w' fun e w'' => e = .returned (.agg #[.bool v, .int .u64 xh, .int .u64 xl, .int .i64 (wid v)]) ∧ Below w'.heap.size w' w''))
    (r1 : Int) (HN1 : Hid (∀ w' : World, Below w.heap.size w w' → Calls Try.prog 9 #[.slice a N c, .agg #[.bool v, .int .u64 xh, .int .u64 xl, .int .i64 (wid v)], .int .i64 (-1)] w' fun e w'' => e = .returned (.int .i64 r1) ∧ Below w'.heap.size w' w'')) (g1 : cc = 0) (g2 : fe = 5) (g3 : fi = 0) (g4 : r1 = -1) (ht : t = 0) :
    Calls Try.prog 3 #[.slice a N c, .agg #[.bool v, .int .u64 xh, .int .u64 xl], .int .i64 n] w fun e w' => e = .returned (.bool true) ∧ Below w.heap.size w w' := by
  have HP := Lib.hid (Has3.new w (.bool v) (.int .u64 xh) (.int .u64 xl) 25)
  have HB := Lib.hid (bal (Below.refl w.heap.size w) (.cells #[.bool v, .int .u64 xh, .int .u64 xl] 25))
  have Hs := Lib.hid hs
  have HN := Lib.hid hN
  clear hs hN
  subst ht
  subst g1 g2 g3 g4
  subst k1 k2 k3
  obtain ⟨a0, a1, a2, a3⟩ := HP.out
  go_enter Try.func3, Try.ntmps3
  go_wp2_with fail
  refine (HF.out _ HB.out).mono ?_
  rintro e w2 ⟨rfl, hb⟩
  clear a0 a1 a2 a3
  replace HP := Lib.hid (HP.out.below hb)
  replace HB := Lib.hid (btr HB.out hb)
  clear hb
  obtain ⟨a0, a1, a2, a3⟩ := HP.out
  go_wp2_with fail
  refine (HA.out _ HB.out).mono ?_
  rintro e w2 ⟨rfl, hb⟩
  clear a0 a1 a2 a3
  replace HP := Lib.hid (HP.out.below hb)
  replace HB := Lib.hid (btr HB.out hb)
  clear hb
  obtain ⟨a0, a1, a2, a3⟩ := HP.out
  go_wp2_with fail
  refine (HL.out _ HB.out).mono ?_
  rintro e w2 ⟨rfl, hb⟩
  clear a0 a1 a2 a3
  replace HP := Lib.hid (HP.out.below hb)
  replace HB := Lib.hid (btr HB.out hb)
  clear hb
  obtain ⟨a0, a1, a2, a3⟩ := HP.out
  go_wp2_with fail
  refine (HT.out _ HB.out).mono ?_
  rintro e w2 ⟨rfl, hb⟩
  clear a0 a1 a2 a3
  replace HP := Lib.hid (HP.out.below hb)
  replace HB := Lib.hid (btr HB.out hb)
  clear hb
  obtain ⟨a0, a1, a2, a3⟩ := HP.out
  go_wp2_with fail
  refine (HC.out _).mono ?_
  rintro e w2 ⟨rfl, hb⟩
  clear a0 a1 a2 a3
  replace HP := Lib.hid (HP.out.below hb)
  replace HB := Lib.hid (btr HB.out hb)
  clear hb
  obtain ⟨a0, a1, a2, a3⟩ := HP.out
  go_wp2_with fail
  refine (HH.out _).mono ?_
  rintro e w2 ⟨rfl, hb⟩
  clear a0 a1 a2 a3
  replace HP := Lib.hid (HP.out.below hb)
  replace HB := Lib.hid (btr HB.out hb)
  clear hb
  obtain ⟨a0, a1, a2, a3⟩ := HP.out
  go_wp2_with fail
  refine (HN1.out _ HB.out).mono ?_
  rintro e w2 ⟨rfl, hb⟩
  clear a0 a1 a2 a3
  replace HP := Lib.hid (HP.out.below hb)
  replace HB := Lib.hid (btr HB.out hb)
  clear hb
  obtain ⟨a0, a1, a2, a3⟩ := HP.out
  go_wp2_with fail
  refine wp_loop_rounds 1 ?_
  rw [rounds_succ]
  go_wp2_with fail
  refine (HG.out _).mono ?_
  rintro e w2 ⟨rfl, hb⟩
  clear a0 a1 a2 a3
  replace HP := Lib.hid (HP.out.below hb)
  replace HB := Lib.hid (btr HB.out hb)
  clear hb
  obtain ⟨a0, a1, a2, a3⟩ := HP.out
  go_wp2_with fail
  refine (HK.out _ HB.out).mono ?_
  rintro e w2 ⟨rfl, hb⟩
  clear a0 a1 a2 a3
  replace HP := Lib.hid (HP.out.below hb)
  replace HB := Lib.hid (btr HB.out hb)
  clear hb
  obtain ⟨a0, a1, a2, a3⟩ := HP.out
  go_wp2
  go_ret
  exact ⟨rfl, HB.out⟩
set_option maxHeartbeats 16000000 in
set_option maxRecDepth 100000 in
theorem tt_A2Nb (a : Option Addr) (c N : Nat) (ps : List Pf) (v : Bool) (xh xl : Int) (n : Int) (w : World) (hN : N = ps.length) (hN12 : N ≤ 12) (hs : Sl w a ps)
    (fi fe ai ae t : Int)
    (HF : Hid (∀ w' : World, Below w.heap.size w w' → Calls Try.prog 4 #[.slice a N c, .agg #[.bool v, .int .u64 xh, .int .u64 xl]] w' fun e w'' => e = .returned (.tuple #[.int .i64 fi, .int .i64 fe]) ∧ Below w'.heap.size w' w''))
    (HA : Hid (∀ w' : World, Below w.heap.size w w' → Calls Try.prog 5 #[.slice a N c, .int .i64 n] w' fun e w'' => e = .returned (.tuple #[.int .i64 ai, .int .i64 ae]) ∧ Below w'.heap.size w' w''))
    (HT : Hid (∀ w' : World, Below w.heap.size w w' → Calls Try.prog 7 #[.slice a N c] w' fun e w'' => e = .returned (.int .i64 t) ∧ Below w'.heap.size w' w''))
    (HK : Hid (∀ w' : World, Below w.heap.size w w' → Calls Try.prog 12 #[.slice a N c] w' fun e w'' => e = .returned (.int .i64 t) ∧ Below w'.heap.size w' w''))
    (HG : Hid (∀ w' : World, Calls Try.prog 11 #[] w' fun e w'' => e = .returned (.bool true) ∧ Below w'.heap.size w' w''))
    (be : Int) (HL : Hid (∀ w' : World, Below w.heap.size w w' → Calls Try.prog 6 #[.slice a N c, .int .i64 n] w' fun e w'' => e = .returned (.tuple #[.slice none 0 0, .int .i64 be]) ∧ Below w'.heap.size w' w'')) (k1 : be = 3) (k2 : ae = 3) (k3 : ai = 0) (k4 : decide (n < 0) = false) (k5 : (N : Int) ≤ n)
    (cc : Int) (HC : Hid (∀ w' : World, Calls Try.prog 8 #[.agg #[.bool v, .int .u64 xh, .int .u64 xl]] w' fun e w'' => e = .returned (.int .i64 cc) ∧ Below w'.heap.size w' w''))
    (HH : Hid (∀ w' : World, Calls Try.prog 10 #[.agg #[.bool v, .int .u64 xh, .int .u64 xl]] w' fun e w'' => e = .returned (.agg #[.bool v, .int .u64 xh, .int .u64 xl, .int .i64 (wid v)]) ∧ Below w'.heap.size w' w''))
    (r1 : Int) (HN1 : Hid (∀ w' : World, Below w.heap.size w w' → Calls Try.prog 9 #[.slice a N c, .agg #[.bool v, .int .u64 xh, .int .u64 xl, .int .i64 (wid v)], .int .i64 (-1)] w' fun e w'' => e = .returned (.int .i64 r1) ∧ Below w'.heap.size w' w'')) (g1 : cc = 0) (g2 : fe = 5) (g3 : fi = 0) (g4 : r1 = -1) (ht : t = 0) :
    Calls Try.prog 3 #[.slice a N c, .agg #[.bool v, .int .u64 xh, .int .u64 xl], .int .i64 n] w fun e w' => e = .returned (.bool true) ∧ Below w.heap.size w w' := by
  have HP := Lib.hid (Has3.new w (.bool v) (.int .u64 xh) (.int .u64 xl) 25)
  have HB := Lib.hid (bal (Below.refl w.heap.size w) (.cells #[.bool v, .int .u64 xh, .int .u64 xl] 25))
  have Hs := Lib.hid hs
  have HN := Lib.hid hN
  clear hs hN
  subst ht
  subst g1 g2 g3 g4
  subst k1 k2 k3
  obtain ⟨a0, a1, a2, a3⟩ := HP.out
  go_enter Try.func3, Try.ntmps3
  go_wp2_with fail
  refine (HF.out _ HB.out).mono ?_
  rintro e w2 ⟨rfl, hb⟩
  clear a0 a1 a2 a3
  replace HP := Lib.hid (HP.out.below hb)
  replace HB := Lib.hid (btr HB.out hb)
  clear hb
  obtain ⟨a0, a1, a2, a3⟩ := HP.out
  go_wp2_with fail
  refine (HA.out _ HB.out).mono ?_
  rintro e w2 ⟨rfl, hb⟩
  clear a0 a1 a2 a3
  replace HP := Lib.hid (HP.out.below hb)
  replace HB := Lib.hid (btr HB.out hb)
  clear hb
  obtain ⟨a0, a1, a2, a3⟩ := HP.out
  go_wp2_with fail
  refine (HL.out _ HB.out).mono ?_
  rintro e w2 ⟨rfl, hb⟩
  clear a0 a1 a2 a3
  replace HP := Lib.hid (HP.out.below hb)
  replace HB := Lib.hid (btr HB.out hb)
  clear hb
  obtain ⟨a0, a1, a2, a3⟩ := HP.out
  go_wp2_with fail
  refine (HT.out _ HB.out).mono ?_
  rintro e w2 ⟨rfl, hb⟩
  clear a0 a1 a2 a3
  replace HP := Lib.hid (HP.out.below hb)
  replace HB := Lib.hid (btr HB.out hb)
  clear hb
  obtain ⟨a0, a1, a2, a3⟩ := HP.out
  go_wp2_with fail
  refine (HC.out _).mono ?_
  rintro e w2 ⟨rfl, hb⟩
  clear a0 a1 a2 a3
  replace HP := Lib.hid (HP.out.below hb)
  replace HB := Lib.hid (btr HB.out hb)
  clear hb
  obtain ⟨a0, a1, a2, a3⟩ := HP.out
  go_wp2_with fail
  refine (HH.out _).mono ?_
  rintro e w2 ⟨rfl, hb⟩
  clear a0 a1 a2 a3
  replace HP := Lib.hid (HP.out.below hb)
  replace HB := Lib.hid (btr HB.out hb)
  clear hb
  obtain ⟨a0, a1, a2, a3⟩ := HP.out
  go_wp2_with fail
  refine (HN1.out _ HB.out).mono ?_
  rintro e w2 ⟨rfl, hb⟩
  clear a0 a1 a2 a3
  replace HP := Lib.hid (HP.out.below hb)
  replace HB := Lib.hid (btr HB.out hb)
  clear hb
  obtain ⟨a0, a1, a2, a3⟩ := HP.out
  go_wp2_with fail
  refine wp_loop_rounds 1 ?_
  rw [rounds_succ]
  go_wp2_with fail
  refine (HG.out _).mono ?_
  rintro e w2 ⟨rfl, hb⟩
  clear a0 a1 a2 a3
  replace HP := Lib.hid (HP.out.below hb)
  replace HB := Lib.hid (btr HB.out hb)
  clear hb
  obtain ⟨a0, a1, a2, a3⟩ := HP.out
  go_wp2_with fail
  refine (HK.out _ HB.out).mono ?_
  rintro e w2 ⟨rfl, hb⟩
  clear a0 a1 a2 a3
  replace HP := Lib.hid (HP.out.below hb)
  replace HB := Lib.hid (btr HB.out hb)
  clear hb
  obtain ⟨a0, a1, a2, a3⟩ := HP.out
  go_wp2
  go_ret
  exact ⟨rfl, HB.out⟩
set_option maxHeartbeats 16000000 in
set_option maxRecDepth 100000 in
theorem tt_A3Na (a : Option Addr) (c N : Nat) (ps : List Pf) (v : Bool) (xh xl : Int) (n : Int) (w : World) (hN : N = ps.length) (hN12 : N ≤ 12) (hs : Sl w a ps)
    (fi fe ai ae t : Int)
    (HF : Hid (∀ w' : World, Below w.heap.size w w' → Calls Try.prog 4 #[.slice a N c, .agg #[.bool v, .int .u64 xh, .int .u64 xl]] w' fun e w'' => e = .returned (.tuple #[.int .i64 fi, .int .i64 fe]) ∧ Below w'.heap.size w' w''))
    (HA : Hid (∀ w' : World, Below w.heap.size w w' → Calls Try.prog 5 #[.slice a N c, .int .i64 n] w' fun e w'' => e = .returned (.tuple #[.int .i64 ai, .int .i64 ae]) ∧ Below w'.heap.size w' w''))
    (HT : Hid (∀ w' : World, Below w.heap.size w w' → Calls Try.prog 7 #[.slice a N c] w' fun e w'' => e = .returned (.int .i64 t) ∧ Below w'.heap.size w' w''))
    (HK : Hid (∀ w' : World, Below w.heap.size w w' → Calls Try.prog 12 #[.slice a N c] w' fun e w'' => e = .returned (.int .i64 t) ∧ Below w'.heap.size w' w''))
    (HG : Hid (∀ w' : World, Calls Try.prog 11 #[] w' fun e w'' => e = .returned (.bool true) ∧ Below w'.heap.size w' w''))
    (be : Int) (HL : Hid (∀ w' : World, Below w.heap.size w w' → Calls Try.prog 6 #[.slice a N c, .int .i64 n] w' fun e w'' => e = .returned (.tuple #[.slice none 0 0, .int .i64 be]) ∧ Below w'.heap.size w' w'')) (k1 : be = 3) (k2 : ae = 3) (k3 : ai = 0) (k4 : n < 0)
    (cc : Int) (HC : Hid (∀ w' : World, Calls Try.prog 8 #[.agg #[.bool v, .int .u64 xh, .int .u64 xl]] w' fun e w'' => e = .returned (.int .i64 cc) ∧ Below w'.heap.size w' w''))
    (HH : Hid (∀ w' : World, Calls Try.prog 10 #[.agg #[.bool v, .int .u64 xh, .int .u64 xl]] w' fun e w'' => e = .returned (.agg #[.bool v, .int .u64 xh, .int .u64 xl, .int .i64 (wid v)]) ∧ Below w'.heap.size w' w''))
    (r1 : Int) (HN1 : Hid (∀ w' : World, Below w.heap.size w w' → Calls Try.prog 9 #[.slice a N c, .agg #[.bool v, .int .u64 xh, .int .u64 xl, .int .i64 (wid v)], .int .i64 (-1)] w' fun e w'' => e = .returned (.int .i64 r1) ∧ Below w'.heap.size w' w'')) (j : Nat) (g1 : cc = 0) (g2 : fe = 0) (g3 : fi = j) (g4 : r1 = j) (ht : t = 0) :
    Calls Try.prog 3 #[.slice a N c, .agg #[.bool v, .int .u64 xh, .int .u64 xl], .int .i64 n] w fun e w' => e = .returned (.bool true) ∧ Below w.heap.size w w' := by
  have HP := Lib.hid (Has3.new w (.bool v) (.int .u64 xh) (.int .u64 xl) 25)
  have HB := Lib.hid (bal (Below.refl w.heap.size w) (.cells #[.bool v, .int .u64 xh, .int .u64 xl] 25))
  have Hs := Lib.hid hs
  have HN := Lib.hid hN
  clear hs hN
  subst ht
  subst g1 g2 g3 g4
  have hj0 : decide ((j : Int) < 0) = false := decide_eq_false (by omega)
  subst k1 k2 k3
  obtain ⟨a0, a1, a2, a3⟩ := HP.out
  go_enter Try.func3, Try.ntmps3
  go_wp2_with fail
  refine (HF.out _ HB.out).mono ?_
  rintro e w2 ⟨rfl, hb⟩
  clear a0 a1 a2 a3
  replace HP := Lib.hid (HP.out.below hb)
  replace HB := Lib.hid (btr HB.out hb)
  clear hb
  obtain ⟨a0, a1, a2, a3⟩ := HP.out
  go_wp2_with fail
  refine (HA.out _ HB.out).mono ?_
  rintro e w2 ⟨rfl, hb⟩
  clear a0 a1 a2 a3
  replace HP := Lib.hid (HP.out.below hb)
  replace HB := Lib.hid (btr HB.out hb)
  clear hb
  obtain ⟨a0, a1, a2, a3⟩ := HP.out
  go_wp2_with fail
  refine (HL.out _ HB.out).mono ?_
  rintro e w2 ⟨rfl, hb⟩
  clear a0 a1 a2 a3
  replace HP := Lib.hid (HP.out.below hb)
  replace HB := Lib.hid (btr HB.out hb)
  clear hb
  obtain ⟨a0, a1, a2, a3⟩ := HP.out
  go_wp2_with fail
  refine (HT.out _ HB.out).mono ?_
  rintro e w2 ⟨rfl, hb⟩
  clear a0 a1 a2 a3
  replace HP := Lib.hid (HP.out.below hb)
  replace HB := Lib.hid (btr HB.out hb)
  clear hb
  obtain ⟨a0, a1, a2, a3⟩ := HP.out
  go_wp2_with fail
  refine (HC.out _).mono ?_
  rintro e w2 ⟨rfl, hb⟩
  clear a0 a1 a2 a3
  replace HP := Lib.hid (HP.out.below hb)
  replace HB := Lib.hid (btr HB.out hb)
  clear hb
  obtain ⟨a0, a1, a2, a3⟩ := HP.out
  go_wp2_with fail
  refine (HH.out _).mono ?_
  rintro e w2 ⟨rfl, hb⟩
  clear a0 a1 a2 a3
  replace HP := Lib.hid (HP.out.below hb)
  replace HB := Lib.hid (btr HB.out hb)
  clear hb
  obtain ⟨a0, a1, a2, a3⟩ := HP.out
  go_wp2_with fail
  refine (HN1.out _ HB.out).mono ?_
  rintro e w2 ⟨rfl, hb⟩
  clear a0 a1 a2 a3
  replace HP := Lib.hid (HP.out.below hb)
  replace HB := Lib.hid (btr HB.out hb)
  clear hb
  obtain ⟨a0, a1, a2, a3⟩ := HP.out
  go_wp2_with fail
  refine wp_loop_rounds 1 ?_
  rw [rounds_succ]
  go_wp2_with fail
  refine (HG.out _).mono ?_
  rintro e w2 ⟨rfl, hb⟩
  clear a0 a1 a2 a3
  replace HP := Lib.hid (HP.out.below hb)
  replace HB := Lib.hid (btr HB.out hb)
  clear hb
  obtain ⟨a0, a1, a2, a3⟩ := HP.out
  go_wp2_with fail
  refine (HK.out _ HB.out).mono ?_
  rintro e w2 ⟨rfl, hb⟩
  clear a0 a1 a2 a3
  replace HP := Lib.hid (HP.out.below hb)
  replace HB := Lib.hid (btr HB.out hb)
  clear hb
  obtain ⟨a0, a1, a2, a3⟩ := HP.out
  go_wp2
  go_ret
  exact ⟨rfl, HB.out⟩
set_option maxHeartbeats 16000000 in
set_option maxRecDepth 100000 in
theorem tt_A3Nb (a : Option Addr) (c N : Nat) (ps : List Pf) (v : Bool) (xh xl : Int) (n : Int) (w : World) (hN : N = ps.length) (hN12 : N ≤ 12) (hs : Sl w a ps)
    (fi fe ai ae t : Int)
    (HF : Hid (∀ w' : World, Below w.heap.size w w' → Calls Try.prog 4 #[.slice a N c, .agg #[.bool v, .int .u64 xh, .int .u64 xl]] w' fun e w'' => e = .returned (.tuple #[.int .i64 fi, .int .i64 fe]) ∧ Below w'.heap.size w' w''))
    (HA : Hid (∀ w' : World, Below w.heap.size w w' → Calls Try.prog 5 #[.slice a N c, .int .i64 n] w' fun e w'' => e = .returned (.tuple #[.int .i64 ai, .int .i64 ae]) ∧ Below w'.heap.size w' w''))
    (HT : Hid (∀ w' : World, Below w.heap.size w w' → Calls Try.prog 7 #[.slice a N c] w' fun e w'' => e = .returned (.int .i64 t) ∧ Below w'.heap.size w' w''))
    (HK : Hid (∀ w' : World, Below w.heap.size w w' → Calls Try.prog 12 #[.slice a N c] w' fun e w'' => e = .returned (.int .i64 t) ∧ Below w'.heap.size w' w''))
    (HG : Hid (∀ w' : World, Calls Try.prog 11 #[] w' fun e w'' => e = .returned (.bool true) ∧ Below w'.heap.size w' w''))
    (be : Int) (HL : Hid (∀ w' : World, Below w.heap.size w w' → Calls Try.prog 6 #[.slice a N c, .int .i64 n] w' fun e w'' => e = .returned (.tuple #[.slice none 0 0, .int .i64 be]) ∧ Below w'.heap.size w' w'')) (k1 : be = 3) (k2 : ae = 3) (k3 : ai = 0) (k4 : decide (n < 0) = false) (k5 : (N : Int) ≤ n)
    (cc : Int) (HC : Hid (∀ w' : World, Calls Try.prog 8 #[.agg #[.bool v, .int .u64 xh, .int .u64 xl]] w' fun e w'' => e = .returned (.int .i64 cc) ∧ Below w'.heap.size w' w''))
    (HH : Hid (∀ w' : World, Calls Try.prog 10 #[.agg #[.bool v, .int .u64 xh, .int .u64 xl]] w' fun e w'' => e = .returned (.agg #[.bool v, .int .u64 xh, .int .u64 xl, .int .i64 (wid v)]) ∧ Below w'.heap.size w' w''))
    (r1 : Int) (HN1 : Hid (∀ w' : World, Below w.heap.size w w' → Calls Try.prog 9 #[.slice a N c, .agg #[.bool v, .int .u64 xh, .int .u64 xl, .int .i64 (wid v)], .int .i64 (-1)] w' fun e w'' => e = .returned (.int .i64 r1) ∧ Below w'.heap.size w' w'')) (j : Nat) (g1 : cc = 0) (g2 : fe = 0) (g3 : fi = j) (g4 : r1 = j) (ht : t = 0) :
    Calls Try.prog 3 #[.slice a N c, .agg #[.bool v, .int .u64 xh, .int .u64 xl], .int .i64 n] w fun e w' => e = .returned (.bool true) ∧ Below w.heap.size w w' := by
  have HP := Lib.hid (Has3.new w (.bool v) (.int .u64 xh) (.int .u64 xl) 25)
  have HB := Lib.hid (bal (Below.refl w.heap.size w) (.cells #[.bool v, .int .u64 xh, .int .u64 xl] 25))
  have Hs := Lib.hid hs
  have HN := Lib.hid hN
  clear hs hN
  subst ht
  subst g1 g2 g3 g4
  have hj0 : decide ((j : Int) < 0) = false := decide_eq_false (by omega)
  subst k1 k2 k3
  obtain ⟨a0, a1, a2, a3⟩ := HP.out
  go_enter Try.func3, Try.ntmps3
  go_wp2_with fail
  refine (HF.out _ HB.out).mono ?_
  rintro e w2 ⟨rfl, hb⟩
  clear a0 a1 a2 a3
  replace HP := Lib.hid (HP.out.below hb)
  replace HB := Lib.hid (btr HB.out hb)
  clear hb
  obtain ⟨a0, a1, a2, a3⟩ := HP.out
  go_wp2_with fail
  refine (HA.out _ HB.out).mono ?_
  rintro e w2 ⟨rfl, hb⟩
  clear a0 a1 a2 a3
  replace HP := Lib.hid (HP.out.below hb)
  replace HB := Lib.hid (btr HB.out hb)
  clear hb
  obtain ⟨a0, a1, a2, a3⟩ := HP.out
  go_wp2_with fail
  refine (HL.out _ HB.out).mono ?_
  rintro e w2 ⟨rfl, hb⟩
  clear a0 a1 a2 a3
  replace HP := Lib.hid (HP.out.below hb)
  replace HB := Lib.hid (btr HB.out hb)
  clear hb
  obtain ⟨a0, a1, a2, a3⟩ := HP.out
  go_wp2_with fail
  refine (HT.out _ HB.out).mono ?_
  rintro e w2 ⟨rfl, hb⟩
  clear a0 a1 a2 a3
  replace HP := Lib.hid (HP.out.below hb)
  replace HB := Lib.hid (btr HB.out hb)
  clear hb
  obtain ⟨a0, a1, a2, a3⟩ := HP.out
  go_wp2_with fail
  refine (HC.out _).mono ?_
  rintro e w2 ⟨rfl, hb⟩
  clear a0 a1 a2 a3
  replace HP := Lib.hid (HP.out.below hb)
  replace HB := Lib.hid (btr HB.out hb)
  clear hb
  obtain ⟨a0, a1, a2, a3⟩ := HP.out
  go_wp2_with fail
  refine (HH.out _).mono ?_
  rintro e w2 ⟨rfl, hb⟩
  clear a0 a1 a2 a3
  replace HP := Lib.hid (HP.out.below hb)
  replace HB := Lib.hid (btr HB.out hb)
  clear hb
  obtain ⟨a0, a1, a2, a3⟩ := HP.out
  go_wp2_with fail
  refine (HN1.out _ HB.out).mono ?_
  rintro e w2 ⟨rfl, hb⟩
  clear a0 a1 a2 a3
  replace HP := Lib.hid (HP.out.below hb)
  replace HB := Lib.hid (btr HB.out hb)
  clear hb
  obtain ⟨a0, a1, a2, a3⟩ := HP.out
  go_wp2_with fail
  refine wp_loop_rounds 1 ?_
  rw [rounds_succ]
  go_wp2_with fail
  refine (HG.out _).mono ?_
  rintro e w2 ⟨rfl, hb⟩
  clear a0 a1 a2 a3
  replace HP := Lib.hid (HP.out.below hb)
  replace HB := Lib.hid (btr HB.out hb)
  clear hb
  obtain ⟨a0, a1, a2, a3⟩ := HP.out
  go_wp2_with fail
  refine (HK.out _ HB.out).mono ?_
  rintro e w2 ⟨rfl, hb⟩
  clear a0 a1 a2 a3
  replace HP := Lib.hid (HP.out.below hb)
  replace HB := Lib.hid (btr HB.out hb)
  clear hb
  obtain ⟨a0, a1, a2, a3⟩ := HP.out
  go_wp2
  go_ret
  exact ⟨rfl, HB.out⟩
end Go.Proofs.Ythbpldmebekgoaa
