/- yardarmlaw.PickTells, case by case. -/
import Derived.Test.YtjhkbjigpiickaaPkC
import Derived.Test.YtjhkbjigpiickaaPbA
import Derived.Test.YtjhkbjigpiickaaSpD
set_option linter.unusedVariables false
set_option linter.unusedSimpArgs false
namespace Go.Proofs.Ytjhkbjigpiickaa
open Go.RowKit

/-- Nothing but block fb is other. -/
def Oth (fb : Nat) (W W' : World) : Prop := W'.heap.size = W.heap.size ∧ ∀ b o, b ≠ fb → W'.cell? ⟨b, o, none⟩ = W.cell? ⟨b, o, none⟩
theorem oth_set (fb i : Nat) (W : World) (u : Value) : Oth fb W (W.setCell ⟨fb, i, none⟩ u) := ⟨by simp, fun b o h => by
  rw [World.cell?_setCell_other]
  intro e
  injection e with e
  exact h e.symm⟩
theorem Oth.trans {fb : Nat} {A B C : World} (h : Oth fb A B) (k : Oth fb B C) : Oth fb A C := ⟨k.1.trans h.1, fun b o hb => (k.2 b o hb).trans (h.2 b o hb)⟩
theorem oth_put (fb : Nat) (W : World) (x y z t : Value) : Oth fb W ((((W.setCell ⟨fb, 0, none⟩ x).setCell ⟨fb, 1, none⟩ y).setCell ⟨fb, 2, none⟩ z).setCell ⟨fb, 3, none⟩ t) :=
  (((oth_set fb 0 W x).trans (oth_set fb 1 _ y)).trans (oth_set fb 2 _ z)).trans (oth_set fb 3 _ t)
theorem own4_put {W : World} {fb : Nat} {x y z t : Value} (h : Own4 W fb x y z t) (x' y' z' t' : Value) : Own4 ((((W.setCell ⟨fb, 0, none⟩ x').setCell ⟨fb, 1, none⟩ y').setCell ⟨fb, 2, none⟩ z').setCell ⟨fb, 3, none⟩ t') fb x' y' z' t' := by
  obtain ⟨⟨c0, c1, c2, c3⟩, ⟨f0, f1, f2, f3⟩, h⟩ := h
  exact ⟨⟨by simp [go_sem, c0, c1, c2, c3], by simp [go_sem, c0, c1, c2, c3], by simp [go_sem, c0, c1, c2, c3], by simp [go_sem, c0, c1, c2, c3]⟩, ⟨by simp [go_sem, f0], by simp [go_sem, f1], by simp [go_sem, f2], by simp [go_sem, f3]⟩, by simpa using h⟩
theorem has4_oth {W W' : World} {m fb : Nat} {v : Bool} {hi lo b : Int} (h : Has4 W m v hi lo b) (hne : m ≠ fb) (k : Oth fb W W') : Has4 W' m v hi lo b := by
  obtain ⟨c0, c1, c2, c3, h4⟩ := h
  exact ⟨by rw [k.2 _ _ hne]; exact c0, by rw [k.2 _ _ hne]; exact c1, by rw [k.2 _ _ hne]; exact c2, by rw [k.2 _ _ hne]; exact c3, by rw [k.1]; exact h4⟩
theorem sl_oth {W W' : World} {a : Option Addr} {M : List Pf} {fb : Nat} (h : Sl W a M) (hne : ∀ g o, a = some ⟨g, o, none⟩ → 0 < M.length → g ≠ fb) (k : Oth fb W W') : Sl W' a M := by
  intro j hj
  obtain ⟨g, o, e, hg, c0, c1, c2, c3⟩ := h j hj
  have hn := hne g o e (by omega)
  exact ⟨g, o, e, by rw [k.1]; exact hg, by rw [k.2 _ _ hn]; exact c0, by rw [k.2 _ _ hn]; exact c1, by rw [k.2 _ _ hn]; exact c2, by rw [k.2 _ _ hn]; exact c3⟩
theorem sl_low {W : World} {a : Option Addr} {M : List Pf} (h : Sl W a M) : ∀ g o, a = some ⟨g, o, none⟩ → 0 < M.length → g ≠ W.heap.size := fun g o e h0 => by
  obtain ⟨g', o', e', hg, _⟩ := h 0 h0
  rw [e] at e'
  injection e' with e'
  injection e' with e'
  omega
theorem row_high {W : World} {a : Option Addr} {M : List Pf} {c fb : Nat} (h : W.ownsRow (fb + 1) 26 4 (.slice a M.length c) M.length (flat M)) : ∀ g o, a = some ⟨g, o, none⟩ → 0 < M.length → g ≠ fb := fun g o e h0 => by
  rcases h.2 with ⟨_, h'⟩ | ⟨g', c', cur, e', h', _⟩
  · omega
  · injection e' with e'
    rw [e] at e'
    injection e' with e'
    injection e' with e'
    omega

set_option maxHeartbeats 32000000 in
set_option maxRecDepth 100000 in
theorem pt_bad1 (p : Pf) (a : Option Addr) (c N : Nat) (us : List Pf) (bits : Int) (w : World) (hN : N = us.length) (hp : p.Ok) (hok : ∀ u ∈ us, u.Ok) (hs : Sl w a us) (hr : ¬ p.chk = 0) :
    Calls Try.prog 3 #[.agg #[.bool p.v, .int .u64 p.hi, .int .u64 p.lo, .int .i64 p.b], .slice a N c, .int .i64 bits] w fun e w' => e = .returned (.bool true) ∧ Below w.heap.size w w' := by
  have HP := Lib.hid (Has4.new w p.v p.hi p.lo p.b 26)
  have HB := Lib.hid (pal w p.v p.hi p.lo p.b)
  have CB : Hid (∀ w : World, Calls Try.prog 11 #[] w fun e w' => e = .returned (.bool true) ∧ Below w.heap.size w w') := pkbegun_any
  have CP : Hid (∀ w : World, Calls Try.prog 6 #[.agg #[.bool p.v, .int .u64 p.hi, .int .u64 p.lo, .int .i64 p.b]] w fun e w' => e = .returned (.int .i64 p.chk) ∧ Below w.heap.size w w') := fun w => rpcheck_pf p w hp
  have CL : Hid (∀ w' : World, Below w.heap.size w w' → Calls Try.prog 7 #[.slice a N c] w' fun e w'' => e = .returned (.int .i64 (slkL us)) ∧ Below w'.heap.size w' w'') := fun w' h => by rw [hN]; exact clist_any a c us w' hok (hs.below h)
  have e1 : pkE p us = p.chk := if_neg hr
  have CF : Hid (∀ w' : World, Below w.heap.size w w' → Calls Try.prog 4 #[.agg #[.bool p.v, .int .u64 p.hi, .int .u64 p.lo, .int .i64 p.b], .slice a N c] w' fun e w'' => e = .returned (.tuple #[.slice none 0 0, .int .i64 p.chk]) ∧ Below w'.heap.size w' w'') := fun w' h => by rw [hN, ← e1]; exact pFree_bad p a c us w' hp hok (hs.below h) (by rw [e1]; exact hr)
  have C1 : Hid (∀ w' : World, Below w.heap.size w w' → Calls Try.prog 5 #[.agg #[.bool p.v, .int .u64 p.hi, .int .u64 p.lo, .int .i64 p.b], .slice a N c, .int .i64 bits] w' fun e w'' => e = .returned (.tuple #[.agg #[.bool false, .int .u64 0, .int .u64 0, .int .i64 0], .int .i64 p.chk]) ∧ Below w'.heap.size w' w'') := fun w' h => by rw [hN, ← e1]; exact pFirst_bad p a c us bits w' hp hok (hs.below h) (by rw [e1]; exact hr)
  have hI : (p.chk != 0) = true := by rw [bne_iff_ne]; exact hr
  have hJ : (p.chk == 0) = false := by rw [beq_eq_false_iff_ne]; exact hr
  have CR : Hid (∀ w' : World, Calls Try.prog 12 #[.slice none 0 0, .int .i64 p.chk, .int .i64 p.chk, .slice none 0 0] w' fun e w'' => e = .returned (.bool true) ∧ Below w'.heap.size w' w'') := fun w' => pare_err _ _ w' hI
  generalize p.chk = r at *
  have hrr : (r == r) = true := by simp
  clear e1 hok hs hr hp hN CL
  go_enter Try.func3, Try.ntmps3
  obtain ⟨p0, p1, p2, p3, p4⟩ := HP.out
  go_wp2_with fail
  refine (CF.out _ HB.out).mono ?_
  rintro e w1 ⟨rfl, hb⟩
  clear p0 p1 p2 p3 p4
  replace HB := Lib.hid (btr HB.out hb)
  replace HP := Lib.hid (HP.out.below hb)
  clear hb
  obtain ⟨p0, p1, p2, p3, p4⟩ := HP.out
  go_wp2_with fail
  refine (C1.out _ HB.out).mono ?_
  rintro e w2 ⟨rfl, hb⟩
  clear p0 p1 p2 p3 p4
  replace HB := Lib.hid (btr HB.out hb)
  replace HP := Lib.hid (HP.out.below hb)
  clear hb
  have HX := Lib.hid (Has4.new w2 false 0 0 0 26)
  replace HB := Lib.hid (bal HB.out (.cells #[.bool false, .int .u64 0, .int .u64 0, .int .i64 0] 26))
  replace HP := Lib.hid (HP.out.alloc (.cells #[.bool false, .int .u64 0, .int .u64 0, .int .i64 0] 26))
  clear CF C1
  obtain ⟨p0, p1, p2, p3, p4⟩ := HP.out
  go_wp2_with fail
  refine (CP.out _).mono ?_
  rintro e w3 ⟨rfl, hb⟩
  clear p0 p1 p2 p3 p4
  replace HB := Lib.hid (btr HB.out hb)
  replace HP := Lib.hid (HP.out.below hb)
  replace HX := Lib.hid (HX.out.below hb)
  clear hb
  have HF := Lib.hid (Has4.new w3 false 0 0 0 26)
  replace HB := Lib.hid (bal HB.out (.cells #[.bool false, .int .u64 0, .int .u64 0, .int .i64 0] 26))
  replace HP := Lib.hid (HP.out.alloc (.cells #[.bool false, .int .u64 0, .int .u64 0, .int .i64 0] 26))
  replace HX := Lib.hid (HX.out.alloc (.cells #[.bool false, .int .u64 0, .int .u64 0, .int .i64 0] 26))
  go_wp2_with fail
  refine (CB.out _).mono ?_
  rintro e w4 ⟨rfl, hb⟩
  replace HB := Lib.hid (btr HB.out hb)
  replace HP := Lib.hid (HP.out.below hb)
  replace HX := Lib.hid (HX.out.below hb)
  replace HF := Lib.hid (HF.out.below hb)
  clear hb
  go_wp2_with fail
  refine (CR.out _).mono ?_
  rintro e w5 ⟨rfl, hb⟩
  replace HB := Lib.hid (btr HB.out hb)
  replace HP := Lib.hid (HP.out.below hb)
  replace HX := Lib.hid (HX.out.below hb)
  replace HF := Lib.hid (HF.out.below hb)
  clear hb
  have hq : ∀ w : World, (binOp .eql 26 (.agg #[.bool false, .int .u64 0, .int .u64 0, .int .i64 0]) (.agg #[.bool false, .int .u64 0, .int .u64 0, .int .i64 0])).run Try.prog w = .ok (.bool true) w := fun w => by
    rw [eql_pf, show eqP false 0 0 0 false 0 0 0 = true from eqP_iff.2 ⟨rfl, rfl, rfl, rfl⟩]
  obtain ⟨x0, x1, x2, x3, x4⟩ := HX.out
  obtain ⟨f0, f1, f2, f3, f4⟩ := HF.out
  go_wp2
  go_ret
  exact ⟨rfl, HB.out⟩

set_option maxHeartbeats 32000000 in
set_option maxRecDepth 100000 in
theorem pt_bad2 (p : Pf) (a : Option Addr) (c N : Nat) (us : List Pf) (bits : Int) (w : World) (hN : N = us.length) (hp : p.Ok) (hok : ∀ u ∈ us, u.Ok) (hs : Sl w a us) (h0 : p.chk = 0) (hr : ¬ slkL us = 0) :
    Calls Try.prog 3 #[.agg #[.bool p.v, .int .u64 p.hi, .int .u64 p.lo, .int .i64 p.b], .slice a N c, .int .i64 bits] w fun e w' => e = .returned (.bool true) ∧ Below w.heap.size w w' := by
  have HP := Lib.hid (Has4.new w p.v p.hi p.lo p.b 26)
  have HB := Lib.hid (pal w p.v p.hi p.lo p.b)
  have CB : Hid (∀ w : World, Calls Try.prog 11 #[] w fun e w' => e = .returned (.bool true) ∧ Below w.heap.size w w') := pkbegun_any
  have CP : Hid (∀ w : World, Calls Try.prog 6 #[.agg #[.bool p.v, .int .u64 p.hi, .int .u64 p.lo, .int .i64 p.b]] w fun e w' => e = .returned (.int .i64 p.chk) ∧ Below w.heap.size w w') := fun w => rpcheck_pf p w hp
  have CL : Hid (∀ w' : World, Below w.heap.size w w' → Calls Try.prog 7 #[.slice a N c] w' fun e w'' => e = .returned (.int .i64 (slkL us)) ∧ Below w'.heap.size w' w'') := fun w' h => by rw [hN]; exact clist_any a c us w' hok (hs.below h)
  have e1 : pkE p us = slkL us := if_pos h0
  have CF : Hid (∀ w' : World, Below w.heap.size w w' → Calls Try.prog 4 #[.agg #[.bool p.v, .int .u64 p.hi, .int .u64 p.lo, .int .i64 p.b], .slice a N c] w' fun e w'' => e = .returned (.tuple #[.slice none 0 0, .int .i64 (slkL us)]) ∧ Below w'.heap.size w' w'') := fun w' h => by rw [hN, ← e1]; exact pFree_bad p a c us w' hp hok (hs.below h) (by rw [e1]; exact hr)
  have C1 : Hid (∀ w' : World, Below w.heap.size w w' → Calls Try.prog 5 #[.agg #[.bool p.v, .int .u64 p.hi, .int .u64 p.lo, .int .i64 p.b], .slice a N c, .int .i64 bits] w' fun e w'' => e = .returned (.tuple #[.agg #[.bool false, .int .u64 0, .int .u64 0, .int .i64 0], .int .i64 (slkL us)]) ∧ Below w'.heap.size w' w'') := fun w' h => by rw [hN, ← e1]; exact pFirst_bad p a c us bits w' hp hok (hs.below h) (by rw [e1]; exact hr)
  have hI : (slkL us != 0) = true := by rw [bne_iff_ne]; exact hr
  have hJ : (slkL us == 0) = false := by rw [beq_eq_false_iff_ne]; exact hr
  have CR : Hid (∀ w' : World, Calls Try.prog 12 #[.slice none 0 0, .int .i64 (slkL us), .int .i64 (slkL us), .slice none 0 0] w' fun e w'' => e = .returned (.bool true) ∧ Below w'.heap.size w' w'') := fun w' => pare_err _ _ w' hI
  rw [h0] at CP
  generalize slkL us = r at *
  have hrr : (r == r) = true := by simp
  clear e1 hok hs hr hp hN h0
  go_enter Try.func3, Try.ntmps3
  obtain ⟨p0, p1, p2, p3, p4⟩ := HP.out
  go_wp2_with fail
  refine (CF.out _ HB.out).mono ?_
  rintro e w1 ⟨rfl, hb⟩
  clear p0 p1 p2 p3 p4
  replace HB := Lib.hid (btr HB.out hb)
  replace HP := Lib.hid (HP.out.below hb)
  clear hb
  obtain ⟨p0, p1, p2, p3, p4⟩ := HP.out
  go_wp2_with fail
  refine (C1.out _ HB.out).mono ?_
  rintro e w2 ⟨rfl, hb⟩
  clear p0 p1 p2 p3 p4
  replace HB := Lib.hid (btr HB.out hb)
  replace HP := Lib.hid (HP.out.below hb)
  clear hb
  have HX := Lib.hid (Has4.new w2 false 0 0 0 26)
  replace HB := Lib.hid (bal HB.out (.cells #[.bool false, .int .u64 0, .int .u64 0, .int .i64 0] 26))
  replace HP := Lib.hid (HP.out.alloc (.cells #[.bool false, .int .u64 0, .int .u64 0, .int .i64 0] 26))
  clear CF C1
  obtain ⟨p0, p1, p2, p3, p4⟩ := HP.out
  go_wp2_with fail
  refine (CP.out _).mono ?_
  rintro e w3 ⟨rfl, hb⟩
  clear p0 p1 p2 p3 p4
  replace HB := Lib.hid (btr HB.out hb)
  replace HP := Lib.hid (HP.out.below hb)
  replace HX := Lib.hid (HX.out.below hb)
  clear hb
  go_wp2_with fail
  refine (CL.out _ HB.out).mono ?_
  rintro e w4 ⟨rfl, hb⟩
  replace HB := Lib.hid (btr HB.out hb)
  replace HP := Lib.hid (HP.out.below hb)
  replace HX := Lib.hid (HX.out.below hb)
  clear hb
  have HF := Lib.hid (Has4.new w4 false 0 0 0 26)
  replace HB := Lib.hid (bal HB.out (.cells #[.bool false, .int .u64 0, .int .u64 0, .int .i64 0] 26))
  replace HP := Lib.hid (HP.out.alloc (.cells #[.bool false, .int .u64 0, .int .u64 0, .int .i64 0] 26))
  replace HX := Lib.hid (HX.out.alloc (.cells #[.bool false, .int .u64 0, .int .u64 0, .int .i64 0] 26))
  go_wp2_with fail
  refine (CB.out _).mono ?_
  rintro e w5 ⟨rfl, hb⟩
  replace HB := Lib.hid (btr HB.out hb)
  replace HP := Lib.hid (HP.out.below hb)
  replace HX := Lib.hid (HX.out.below hb)
  replace HF := Lib.hid (HF.out.below hb)
  clear hb
  go_wp2_with fail
  refine (CR.out _).mono ?_
  rintro e w6 ⟨rfl, hb⟩
  replace HB := Lib.hid (btr HB.out hb)
  replace HP := Lib.hid (HP.out.below hb)
  replace HX := Lib.hid (HX.out.below hb)
  replace HF := Lib.hid (HF.out.below hb)
  clear hb
  have hq : ∀ w : World, (binOp .eql 26 (.agg #[.bool false, .int .u64 0, .int .u64 0, .int .i64 0]) (.agg #[.bool false, .int .u64 0, .int .u64 0, .int .i64 0])).run Try.prog w = .ok (.bool true) w := fun w => by
    rw [eql_pf, show eqP false 0 0 0 false 0 0 0 = true from eqP_iff.2 ⟨rfl, rfl, rfl, rfl⟩]
  
  obtain ⟨x0, x1, x2, x3, x4⟩ := HX.out
  obtain ⟨f0, f1, f2, f3, f4⟩ := HF.out
  go_wp2
  go_ret
  exact ⟨rfl, HB.out⟩

set_option maxHeartbeats 32000000 in
set_option maxRecDepth 100000 in
theorem pt_low (p : Pf) (a : Option Addr) (c N : Nat) (us : List Pf) (bits : Int) (w : World) (hN : N = us.length) (hp : p.Ok) (hok : ∀ u ∈ us, u.Ok) (hs : Sl w a us) (h0 : pkE p us = 0) (hr : bits < p.b) :
    Calls Try.prog 3 #[.agg #[.bool p.v, .int .u64 p.hi, .int .u64 p.lo, .int .i64 p.b], .slice a N c, .int .i64 bits] w fun e w' => e = .returned (.bool true) ∧ Below w.heap.size w w' := by
  have HP := Lib.hid (Has4.new w p.v p.hi p.lo p.b 26)
  have HB := Lib.hid (pal w p.v p.hi p.lo p.b)
  have CB : Hid (∀ w : World, Calls Try.prog 11 #[] w fun e w' => e = .returned (.bool true) ∧ Below w.heap.size w w') := pkbegun_any
  have CP : Hid (∀ w : World, Calls Try.prog 6 #[.agg #[.bool p.v, .int .u64 p.hi, .int .u64 p.lo, .int .i64 p.b]] w fun e w' => e = .returned (.int .i64 p.chk) ∧ Below w.heap.size w w') := fun w => rpcheck_pf p w hp
  have CL : Hid (∀ w' : World, Below w.heap.size w w' → Calls Try.prog 7 #[.slice a N c] w' fun e w'' => e = .returned (.int .i64 (slkL us)) ∧ Below w'.heap.size w' w'') := fun w' h => by rw [hN]; exact clist_any a c us w' hok (hs.below h)
  obtain ⟨rp, hl, hu⟩ := pkE_ok hp hok h0
  have h01 : p.chk = 0 := (right_iff _ _ _ _ hp.1 hp.2.1 hp.2.2.1 hp.2.2.2).2 rp
  have h02 : slkL us = 0 := by rw [pkE, if_pos h01] at h0; exact h0
  rw [h01] at CP
  rw [h02] at CL
  have CF : Hid (∀ w' : World, Below w.heap.size w w' → Calls Try.prog 4 #[.agg #[.bool p.v, .int .u64 p.hi, .int .u64 p.lo, .int .i64 p.b], .slice a N c] w' (FreePost w' p us)) := fun w' h => by rw [hN]; exact pFree_ok p a c us w' hp hok (hs.below h) h0
  have CN : Hid (∀ (w' : World) (o : Obj), Below w.heap.size w (w'.alloc o) → Calls Try.prog 9 #[.slice (some ⟨w'.heap.size + 1, 0, none⟩) 1 1, .slice a N c] ((w'.alloc o).alloc (.cells #[.bool p.v, .int .u64 p.hi, .int .u64 p.lo, .int .i64 p.b] 26)) fun e w'' => ∃ v M, e = .returned v ∧ w''.ownsRow (w'.heap.size + 1) 26 4 v M.length (flat M) ∧ IsRoom p us M ∧ Below (w'.alloc o).heap.size (w'.alloc o) w'') := fun w' o h => by
    rw [hN]
    refine (normOf_any [p] us (some ⟨w'.heap.size + 1, 0, none⟩) a 1 c _ (fun s hs => by rw [List.mem_singleton] at hs; subst hs; exact rp) hu (by simp) hl (sl_one2 w' p o) (hs.below (bal h _))).mono ?_
    rintro e w'' ⟨v, M, h1, h2, h3, _, h4⟩
    exact ⟨v, M, h1, row_base h2 (by simp), h3.of fun v x => by rw [adr_one'], btr (bal (Below.refl _ _) _) h4⟩
  have CR : Hid (∀ (M : List Pf) (a b : Option Addr) (c d : Nat) (w' : World), IsRoom p us M → Sl w' a M → Sl w' b M → Calls Try.prog 12 #[.slice a M.length c, .int .i64 0, .int .i64 0, .slice b M.length d] w' fun e w'' => e = .returned (.bool true) ∧ Below w'.heap.size w' w'') := fun M a b c d w' h h1 h2 => pare_ok a b c d M w' (by have := room_len rp hu hl h; omega) h1 h2
  have C1 : Hid (∀ w' : World, Below w.heap.size w w' → Calls Try.prog 5 #[.agg #[.bool p.v, .int .u64 p.hi, .int .u64 p.lo, .int .i64 p.b], .slice a N c, .int .i64 bits] w' fun e w'' => e = .returned (.tuple #[.agg #[.bool false, .int .u64 0, .int .u64 0, .int .i64 0], .int .i64 3]) ∧ Below w'.heap.size w' w'') := fun w' h => by rw [hN]; exact pFirst_range p a c us bits w' hp hok (hs.below h) h0 (.inl hr)
  have d1 : decide (bits < p.b) = true := decide_eq_true hr
  have Hr := Lib.hid hr
  clear hok hs hr hp hN h0 rp hl hu h01 h02
  go_enter Try.func3, Try.ntmps3
  obtain ⟨p0, p1, p2, p3, p4⟩ := HP.out
  go_wp2_with fail
  refine (CF.out _ HB.out).mono ?_
  rintro e w1 ⟨v1, M, rfl, o1, n1, hb⟩
  clear p0 p1 p2 p3 p4
  obtain ⟨a1, c1, rfl, _, s1⟩ := own_sl o1
  have HL := Lib.hid s1
  have HM := Lib.hid n1
  clear o1 s1 n1
  replace HB := Lib.hid (btr HB.out hb)
  replace HP := Lib.hid (HP.out.below hb)
  clear hb CF
  obtain ⟨p0, p1, p2, p3, p4⟩ := HP.out
  go_wp2_with fail
  refine (C1.out _ HB.out).mono ?_
  rintro e w2 ⟨rfl, hb⟩
  clear p0 p1 p2 p3 p4
  replace HB := Lib.hid (btr HB.out hb)
  replace HP := Lib.hid (HP.out.below hb)
  replace HL := Lib.hid (HL.out.below hb)
  clear hb
  have HX := Lib.hid (Has4.new w2 false 0 0 0 26)
  replace HB := Lib.hid (bal HB.out (.cells #[.bool false, .int .u64 0, .int .u64 0, .int .i64 0] 26))
  replace HP := Lib.hid (HP.out.alloc (.cells #[.bool false, .int .u64 0, .int .u64 0, .int .i64 0] 26))
  replace HL := Lib.hid (HL.out.below (bal (Below.refl _ _) (.cells #[.bool false, .int .u64 0, .int .u64 0, .int .i64 0] 26)))
  clear C1
  obtain ⟨p0, p1, p2, p3, p4⟩ := HP.out
  go_wp2_with fail
  refine (CP.out _).mono ?_
  rintro e w3 ⟨rfl, hb⟩
  clear p0 p1 p2 p3 p4
  replace HB := Lib.hid (btr HB.out hb)
  replace HP := Lib.hid (HP.out.below hb)
  replace HX := Lib.hid (HX.out.below hb)
  replace HL := Lib.hid (HL.out.below hb)
  clear hb
  go_wp2_with fail
  refine (CL.out _ HB.out).mono ?_
  rintro e w4 ⟨rfl, hb⟩
  replace HB := Lib.hid (btr HB.out hb)
  replace HP := Lib.hid (HP.out.below hb)
  replace HX := Lib.hid (HX.out.below hb)
  replace HL := Lib.hid (HL.out.below hb)
  clear hb
  obtain ⟨r0, r1, r2, r3, r4⟩ := HP.out
  have HF := Lib.hid (Has4.new w4 false 0 0 0 26)
  replace HB := Lib.hid (bal HB.out (.cells #[.bool false, .int .u64 0, .int .u64 0, .int .i64 0] 26))
  replace HP := Lib.hid (HP.out.alloc (.cells #[.bool false, .int .u64 0, .int .u64 0, .int .i64 0] 26))
  replace HX := Lib.hid (HX.out.alloc (.cells #[.bool false, .int .u64 0, .int .u64 0, .int .i64 0] 26))
  replace HL := Lib.hid (HL.out.below (bal (Below.refl _ _) (.cells #[.bool false, .int .u64 0, .int .u64 0, .int .i64 0] 26)))
  obtain ⟨p0, p1, p2, p3, p4⟩ := HP.out
  go_wp2_with fail
  refine (CN.out _ _ HB.out).mono ?_
  rintro e w5 ⟨v2, M2, rfl, o2, n2, hb⟩
  clear p0 p1 p2 p3 p4
  obtain rfl := n2.uniq HM.out
  obtain ⟨a2, c2, rfl, _, s2⟩ := own_sl o2
  have HO2 := Lib.hid o2
  have HL2 := Lib.hid s2
  clear o2 s2 n2
  replace HB := Lib.hid (btr HB.out hb)
  replace HP := Lib.hid (HP.out.below hb)
  replace HX := Lib.hid (HX.out.below hb)
  replace HF := Lib.hid (HF.out.below hb)
  replace HL := Lib.hid (HL.out.below hb)
  clear hb CN
  clear r0 r1 r2 r3 r4
  have CR2 := Lib.hid (fun a b c d w' => CR.out M2 a b c d w' HM.out)
  obtain ⟨Ln, hLn⟩ : ∃ Ln, Ln = M2.length := ⟨_, rfl⟩
  have HLn := Lib.hid hLn
  rw [← hLn] at CR2 ⊢
  clear hLn CR
  go_wp2_with fail
  refine (CB.out _).mono ?_
  rintro e w6 ⟨rfl, hb⟩
  replace HB := Lib.hid (btr HB.out hb)
  replace HP := Lib.hid (HP.out.below hb)
  replace HX := Lib.hid (HX.out.below hb)
  replace HF := Lib.hid (HF.out.below hb)
  replace HL := Lib.hid (HL.out.below hb)
  replace HL2 := Lib.hid (HL2.out.below hb)
  clear hb
  go_wp2_with fail
  refine (CR2.out _ _ _ _ _ HL.out HL2.out).mono ?_
  rintro e w7 ⟨rfl, hb⟩
  replace HB := Lib.hid (btr HB.out hb)
  replace HP := Lib.hid (HP.out.below hb)
  replace HX := Lib.hid (HX.out.below hb)
  replace HF := Lib.hid (HF.out.below hb)
  replace HL := Lib.hid (HL.out.below hb)
  replace HL2 := Lib.hid (HL2.out.below hb)
  clear hb
  have hq : ∀ w : World, (binOp .eql 26 (.agg #[.bool false, .int .u64 0, .int .u64 0, .int .i64 0]) (.agg #[.bool false, .int .u64 0, .int .u64 0, .int .i64 0])).run Try.prog w = .ok (.bool true) w := fun w => by
    rw [eql_pf, show eqP false 0 0 0 false 0 0 0 = true from eqP_iff.2 ⟨rfl, rfl, rfl, rfl⟩]
  
  obtain ⟨x0, x1, x2, x3, x4⟩ := HX.out
  obtain ⟨f0, f1, f2, f3, f4⟩ := HF.out
  go_wp2
  go_ret
  exact ⟨rfl, HB.out⟩

set_option maxHeartbeats 32000000 in
set_option maxRecDepth 100000 in
theorem pt_high (p : Pf) (a : Option Addr) (c N : Nat) (us : List Pf) (bits : Int) (w : World) (hN : N = us.length) (hp : p.Ok) (hok : ∀ u ∈ us, u.Ok) (hs : Sl w a us) (h0 : pkE p us = 0) (hr : wid p.v < bits) :
    Calls Try.prog 3 #[.agg #[.bool p.v, .int .u64 p.hi, .int .u64 p.lo, .int .i64 p.b], .slice a N c, .int .i64 bits] w fun e w' => e = .returned (.bool true) ∧ Below w.heap.size w w' := by
  have HP := Lib.hid (Has4.new w p.v p.hi p.lo p.b 26)
  have HB := Lib.hid (pal w p.v p.hi p.lo p.b)
  have CB : Hid (∀ w : World, Calls Try.prog 11 #[] w fun e w' => e = .returned (.bool true) ∧ Below w.heap.size w w') := pkbegun_any
  have CP : Hid (∀ w : World, Calls Try.prog 6 #[.agg #[.bool p.v, .int .u64 p.hi, .int .u64 p.lo, .int .i64 p.b]] w fun e w' => e = .returned (.int .i64 p.chk) ∧ Below w.heap.size w w') := fun w => rpcheck_pf p w hp
  have CL : Hid (∀ w' : World, Below w.heap.size w w' → Calls Try.prog 7 #[.slice a N c] w' fun e w'' => e = .returned (.int .i64 (slkL us)) ∧ Below w'.heap.size w' w'') := fun w' h => by rw [hN]; exact clist_any a c us w' hok (hs.below h)
  obtain ⟨rp, hl, hu⟩ := pkE_ok hp hok h0
  have h01 : p.chk = 0 := (right_iff _ _ _ _ hp.1 hp.2.1 hp.2.2.1 hp.2.2.2).2 rp
  have h02 : slkL us = 0 := by rw [pkE, if_pos h01] at h0; exact h0
  rw [h01] at CP
  rw [h02] at CL
  have CF : Hid (∀ w' : World, Below w.heap.size w w' → Calls Try.prog 4 #[.agg #[.bool p.v, .int .u64 p.hi, .int .u64 p.lo, .int .i64 p.b], .slice a N c] w' (FreePost w' p us)) := fun w' h => by rw [hN]; exact pFree_ok p a c us w' hp hok (hs.below h) h0
  have CN : Hid (∀ (w' : World) (o : Obj), Below w.heap.size w (w'.alloc o) → Calls Try.prog 9 #[.slice (some ⟨w'.heap.size + 1, 0, none⟩) 1 1, .slice a N c] ((w'.alloc o).alloc (.cells #[.bool p.v, .int .u64 p.hi, .int .u64 p.lo, .int .i64 p.b] 26)) fun e w'' => ∃ v M, e = .returned v ∧ w''.ownsRow (w'.heap.size + 1) 26 4 v M.length (flat M) ∧ IsRoom p us M ∧ Below (w'.alloc o).heap.size (w'.alloc o) w'') := fun w' o h => by
    rw [hN]
    refine (normOf_any [p] us (some ⟨w'.heap.size + 1, 0, none⟩) a 1 c _ (fun s hs => by rw [List.mem_singleton] at hs; subst hs; exact rp) hu (by simp) hl (sl_one2 w' p o) (hs.below (bal h _))).mono ?_
    rintro e w'' ⟨v, M, h1, h2, h3, _, h4⟩
    exact ⟨v, M, h1, row_base h2 (by simp), h3.of fun v x => by rw [adr_one'], btr (bal (Below.refl _ _) _) h4⟩
  have CR : Hid (∀ (M : List Pf) (a b : Option Addr) (c d : Nat) (w' : World), IsRoom p us M → Sl w' a M → Sl w' b M → Calls Try.prog 12 #[.slice a M.length c, .int .i64 0, .int .i64 0, .slice b M.length d] w' fun e w'' => e = .returned (.bool true) ∧ Below w'.heap.size w' w'') := fun M a b c d w' h h1 h2 => pare_ok a b c d M w' (by have := room_len rp hu hl h; omega) h1 h2
  have CBi : Hid (∀ w : World, Calls Try.prog 8 #[.agg #[.bool p.v, .int .u64 p.hi, .int .u64 p.lo]] w fun e w' => ∃ t : ByteArray, e = .returned (.string t) ∧ (t.size : Int) = wid p.v ∧ Below w.heap.size w w') := fun w => by
    have e1 : p.hi = (p.hi.toNat : Int) := by have := hp.1; omega
    have e2 : p.lo = (p.lo.toNat : Int) := by have := hp.2.2.1; omega
    have := bits_any p.v p.hi.toNat p.lo.toNat w (by have := hp.2.1; omega) (by have := hp.2.2.2; omega)
    rw [← e1, ← e2] at this
    refine this.mono ?_
    rintro e w' ⟨rfl, hb⟩
    refine ⟨_, rfl, ?_, hb⟩
    have := bitsT_length p.v p.hi.toNat p.lo.toNat
    show ((bitsT p.v p.hi.toNat p.lo.toNat).toArray.size : Int) = _
    rw [List.size_toArray, this]
    unfold wid
    cases p.v <;> rfl
  have C1 : Hid (∀ w' : World, Below w.heap.size w w' → Calls Try.prog 5 #[.agg #[.bool p.v, .int .u64 p.hi, .int .u64 p.lo, .int .i64 p.b], .slice a N c, .int .i64 bits] w' fun e w'' => e = .returned (.tuple #[.agg #[.bool false, .int .u64 0, .int .u64 0, .int .i64 0], .int .i64 3]) ∧ Below w'.heap.size w' w'') := fun w' h => by rw [hN]; exact pFirst_range p a c us bits w' hp hok (hs.below h) h0 (.inr hr)
  have d1 : decide (bits < p.b) = false := decide_eq_false (by have := rp.b1; omega)
  have Hr := Lib.hid hr
  clear hok hs hr hp hN h0 rp hl hu h01 h02
  go_enter Try.func3, Try.ntmps3
  obtain ⟨p0, p1, p2, p3, p4⟩ := HP.out
  go_wp2_with fail
  refine (CF.out _ HB.out).mono ?_
  rintro e w1 ⟨v1, M, rfl, o1, n1, hb⟩
  clear p0 p1 p2 p3 p4
  obtain ⟨a1, c1, rfl, _, s1⟩ := own_sl o1
  have HL := Lib.hid s1
  have HM := Lib.hid n1
  clear o1 s1 n1
  replace HB := Lib.hid (btr HB.out hb)
  replace HP := Lib.hid (HP.out.below hb)
  clear hb CF
  obtain ⟨p0, p1, p2, p3, p4⟩ := HP.out
  go_wp2_with fail
  refine (C1.out _ HB.out).mono ?_
  rintro e w2 ⟨rfl, hb⟩
  clear p0 p1 p2 p3 p4
  replace HB := Lib.hid (btr HB.out hb)
  replace HP := Lib.hid (HP.out.below hb)
  replace HL := Lib.hid (HL.out.below hb)
  clear hb
  have HX := Lib.hid (Has4.new w2 false 0 0 0 26)
  replace HB := Lib.hid (bal HB.out (.cells #[.bool false, .int .u64 0, .int .u64 0, .int .i64 0] 26))
  replace HP := Lib.hid (HP.out.alloc (.cells #[.bool false, .int .u64 0, .int .u64 0, .int .i64 0] 26))
  replace HL := Lib.hid (HL.out.below (bal (Below.refl _ _) (.cells #[.bool false, .int .u64 0, .int .u64 0, .int .i64 0] 26)))
  clear C1
  obtain ⟨p0, p1, p2, p3, p4⟩ := HP.out
  go_wp2_with fail
  refine (CP.out _).mono ?_
  rintro e w3 ⟨rfl, hb⟩
  clear p0 p1 p2 p3 p4
  replace HB := Lib.hid (btr HB.out hb)
  replace HP := Lib.hid (HP.out.below hb)
  replace HX := Lib.hid (HX.out.below hb)
  replace HL := Lib.hid (HL.out.below hb)
  clear hb
  go_wp2_with fail
  refine (CL.out _ HB.out).mono ?_
  rintro e w4 ⟨rfl, hb⟩
  replace HB := Lib.hid (btr HB.out hb)
  replace HP := Lib.hid (HP.out.below hb)
  replace HX := Lib.hid (HX.out.below hb)
  replace HL := Lib.hid (HL.out.below hb)
  clear hb
  obtain ⟨p0, p1, p2, p3, p4⟩ := HP.out
  go_wp2_with fail
  refine (CBi.out _).mono ?_
  rintro e w5 ⟨t, rfl, ht, hb⟩
  have d2 : (t.size : Int) < bits := by rw [ht]; exact Hr.out
  clear p0 p1 p2 p3 p4 ht
  replace HB := Lib.hid (btr HB.out hb)
  replace HP := Lib.hid (HP.out.below hb)
  replace HX := Lib.hid (HX.out.below hb)
  replace HL := Lib.hid (HL.out.below hb)
  clear hb CBi
  have HF := Lib.hid (Has4.new w5 false 0 0 0 26)
  replace HB := Lib.hid (bal HB.out (.cells #[.bool false, .int .u64 0, .int .u64 0, .int .i64 0] 26))
  replace HP := Lib.hid (HP.out.alloc (.cells #[.bool false, .int .u64 0, .int .u64 0, .int .i64 0] 26))
  replace HX := Lib.hid (HX.out.alloc (.cells #[.bool false, .int .u64 0, .int .u64 0, .int .i64 0] 26))
  replace HL := Lib.hid (HL.out.below (bal (Below.refl _ _) (.cells #[.bool false, .int .u64 0, .int .u64 0, .int .i64 0] 26)))
  obtain ⟨p0, p1, p2, p3, p4⟩ := HP.out
  go_wp2_with fail
  refine (CN.out _ _ HB.out).mono ?_
  rintro e w6 ⟨v2, M2, rfl, o2, n2, hb⟩
  clear p0 p1 p2 p3 p4
  obtain rfl := n2.uniq HM.out
  obtain ⟨a2, c2, rfl, _, s2⟩ := own_sl o2
  have HO2 := Lib.hid o2
  have HL2 := Lib.hid s2
  clear o2 s2 n2
  replace HB := Lib.hid (btr HB.out hb)
  replace HP := Lib.hid (HP.out.below hb)
  replace HX := Lib.hid (HX.out.below hb)
  replace HF := Lib.hid (HF.out.below hb)
  replace HL := Lib.hid (HL.out.below hb)
  clear hb CN
  have CR2 := Lib.hid (fun a b c d w' => CR.out M2 a b c d w' HM.out)
  obtain ⟨Ln, hLn⟩ : ∃ Ln, Ln = M2.length := ⟨_, rfl⟩
  have HLn := Lib.hid hLn
  rw [← hLn] at CR2 ⊢
  clear hLn CR
  go_wp2_with fail
  refine (CB.out _).mono ?_
  rintro e w7 ⟨rfl, hb⟩
  replace HB := Lib.hid (btr HB.out hb)
  replace HP := Lib.hid (HP.out.below hb)
  replace HX := Lib.hid (HX.out.below hb)
  replace HF := Lib.hid (HF.out.below hb)
  replace HL := Lib.hid (HL.out.below hb)
  replace HL2 := Lib.hid (HL2.out.below hb)
  clear hb
  go_wp2_with fail
  refine (CR2.out _ _ _ _ _ HL.out HL2.out).mono ?_
  rintro e w8 ⟨rfl, hb⟩
  replace HB := Lib.hid (btr HB.out hb)
  replace HP := Lib.hid (HP.out.below hb)
  replace HX := Lib.hid (HX.out.below hb)
  replace HF := Lib.hid (HF.out.below hb)
  replace HL := Lib.hid (HL.out.below hb)
  replace HL2 := Lib.hid (HL2.out.below hb)
  clear hb
  have hq : ∀ w : World, (binOp .eql 26 (.agg #[.bool false, .int .u64 0, .int .u64 0, .int .i64 0]) (.agg #[.bool false, .int .u64 0, .int .u64 0, .int .i64 0])).run Try.prog w = .ok (.bool true) w := fun w => by
    rw [eql_pf, show eqP false 0 0 0 false 0 0 0 = true from eqP_iff.2 ⟨rfl, rfl, rfl, rfl⟩]
  
  obtain ⟨x0, x1, x2, x3, x4⟩ := HX.out
  obtain ⟨f0, f1, f2, f3, f4⟩ := HF.out
  go_wp2
  go_ret
  exact ⟨rfl, HB.out⟩

set_option maxHeartbeats 32000000 in
set_option maxRecDepth 100000 in
theorem pt_none (p : Pf) (a : Option Addr) (c N : Nat) (us : List Pf) (bits : Int) (w : World) (hN : N = us.length) (hp : p.Ok) (hok : ∀ u ∈ us, u.Ok) (hs : Sl w a us) (h0 : pkE p us = 0) (hr : p.b ≤ bits) (hr2 : bits ≤ wid p.v) (hq : firstP us bits p.nd.h p = none) :
    Calls Try.prog 3 #[.agg #[.bool p.v, .int .u64 p.hi, .int .u64 p.lo, .int .i64 p.b], .slice a N c, .int .i64 bits] w fun e w' => e = .returned (.bool true) ∧ Below w.heap.size w w' := by
  have HP := Lib.hid (Has4.new w p.v p.hi p.lo p.b 26)
  have HB := Lib.hid (pal w p.v p.hi p.lo p.b)
  have CB : Hid (∀ w : World, Calls Try.prog 11 #[] w fun e w' => e = .returned (.bool true) ∧ Below w.heap.size w w') := pkbegun_any
  have CP : Hid (∀ w : World, Calls Try.prog 6 #[.agg #[.bool p.v, .int .u64 p.hi, .int .u64 p.lo, .int .i64 p.b]] w fun e w' => e = .returned (.int .i64 p.chk) ∧ Below w.heap.size w w') := fun w => rpcheck_pf p w hp
  have CL : Hid (∀ w' : World, Below w.heap.size w w' → Calls Try.prog 7 #[.slice a N c] w' fun e w'' => e = .returned (.int .i64 (slkL us)) ∧ Below w'.heap.size w' w'') := fun w' h => by rw [hN]; exact clist_any a c us w' hok (hs.below h)
  obtain ⟨rp, hl, hu⟩ := pkE_ok hp hok h0
  have h01 : p.chk = 0 := (right_iff _ _ _ _ hp.1 hp.2.1 hp.2.2.1 hp.2.2.2).2 rp
  have h02 : slkL us = 0 := by rw [pkE, if_pos h01] at h0; exact h0
  rw [h01] at CP
  rw [h02] at CL
  have CF : Hid (∀ w' : World, Below w.heap.size w w' → Calls Try.prog 4 #[.agg #[.bool p.v, .int .u64 p.hi, .int .u64 p.lo, .int .i64 p.b], .slice a N c] w' (FreePost w' p us)) := fun w' h => by rw [hN]; exact pFree_ok p a c us w' hp hok (hs.below h) h0
  have CN : Hid (∀ (w' : World) (o : Obj), Below w.heap.size w (w'.alloc o) → Calls Try.prog 9 #[.slice (some ⟨w'.heap.size + 1, 0, none⟩) 1 1, .slice a N c] ((w'.alloc o).alloc (.cells #[.bool p.v, .int .u64 p.hi, .int .u64 p.lo, .int .i64 p.b] 26)) fun e w'' => ∃ v M, e = .returned v ∧ w''.ownsRow (w'.heap.size + 1) 26 4 v M.length (flat M) ∧ IsRoom p us M ∧ Below (w'.alloc o).heap.size (w'.alloc o) w'') := fun w' o h => by
    rw [hN]
    refine (normOf_any [p] us (some ⟨w'.heap.size + 1, 0, none⟩) a 1 c _ (fun s hs => by rw [List.mem_singleton] at hs; subst hs; exact rp) hu (by simp) hl (sl_one2 w' p o) (hs.below (bal h _))).mono ?_
    rintro e w'' ⟨v, M, h1, h2, h3, _, h4⟩
    exact ⟨v, M, h1, row_base h2 (by simp), h3.of fun v x => by rw [adr_one'], btr (bal (Below.refl _ _) _) h4⟩
  have CR : Hid (∀ (M : List Pf) (a b : Option Addr) (c d : Nat) (w' : World), IsRoom p us M → Sl w' a M → Sl w' b M → Calls Try.prog 12 #[.slice a M.length c, .int .i64 0, .int .i64 0, .slice b M.length d] w' fun e w'' => e = .returned (.bool true) ∧ Below w'.heap.size w' w'') := fun M a b c d w' h h1 h2 => pare_ok a b c d M w' (by have := room_len rp hu hl h; omega) h1 h2
  have CBi : Hid (∀ w : World, Calls Try.prog 8 #[.agg #[.bool p.v, .int .u64 p.hi, .int .u64 p.lo]] w fun e w' => ∃ t : ByteArray, e = .returned (.string t) ∧ (t.size : Int) = wid p.v ∧ Below w.heap.size w w') := fun w => by
    have e1 : p.hi = (p.hi.toNat : Int) := by have := hp.1; omega
    have e2 : p.lo = (p.lo.toNat : Int) := by have := hp.2.2.1; omega
    have := bits_any p.v p.hi.toNat p.lo.toNat w (by have := hp.2.1; omega) (by have := hp.2.2.2; omega)
    rw [← e1, ← e2] at this
    refine this.mono ?_
    rintro e w' ⟨rfl, hb⟩
    refine ⟨_, rfl, ?_, hb⟩
    have := bitsT_length p.v p.hi.toNat p.lo.toNat
    show ((bitsT p.v p.hi.toNat p.lo.toNat).toArray.size : Int) = _
    rw [List.size_toArray, this]
    unfold wid
    cases p.v <;> rfl
  have C1 : Hid (∀ w' : World, Below w.heap.size w w' → Calls Try.prog 5 #[.agg #[.bool p.v, .int .u64 p.hi, .int .u64 p.lo, .int .i64 p.b], .slice a N c, .int .i64 bits] w' fun e w'' => e = .returned (.tuple #[.agg #[.bool false, .int .u64 0, .int .u64 0, .int .i64 0], .int .i64 8]) ∧ Below w'.heap.size w' w'') := fun w' h => by
    rw [hN]
    refine (pFirst_ok p a c us bits w' hp hok (hs.below h) h0 hr hr2).mono ?_
    rintro e w'' ⟨M, hM, hb, hx⟩
    have hw := wide_first rp hu hM hr hr2
    rw [hq] at hw
    rw [hw] at hx
    rcases hx with ⟨h1, h2⟩ | ⟨x, h1, h2⟩
    · exact ⟨h2, hb⟩
    · exact absurd h1 (by simp)
  have CFo : Hid (∀ w' : World, Below w.heap.size w w' → Calls Try.prog 10 #[.agg #[.bool p.v, .int .u64 p.hi, .int .u64 p.lo, .int .i64 p.b], .slice a N c, .int .i64 bits] w' fun e w'' => e = .returned (.tuple #[.agg #[.bool false, .int .u64 0, .int .u64 0, .int .i64 0], .bool false]) ∧ Below w'.heap.size w' w'') := fun w' h => by
    have := fo_any us bits hu hl p.nd.h p rp rfl hr hr2 a c w' (hs.below h)
    rw [hq] at this
    rw [hN]
    exact this
  have d1 : decide (bits < p.b) = false := decide_eq_false (by omega)
  have Hr := Lib.hid hr2
  clear hok hs hr hr2 hp hN h0 rp hl hu h01 h02 hq
  go_enter Try.func3, Try.ntmps3
  obtain ⟨p0, p1, p2, p3, p4⟩ := HP.out
  go_wp2_with fail
  refine (CF.out _ HB.out).mono ?_
  rintro e w1 ⟨v1, M, rfl, o1, n1, hb⟩
  clear p0 p1 p2 p3 p4
  obtain ⟨a1, c1, rfl, _, s1⟩ := own_sl o1
  have HL := Lib.hid s1
  have HM := Lib.hid n1
  clear o1 s1 n1
  replace HB := Lib.hid (btr HB.out hb)
  replace HP := Lib.hid (HP.out.below hb)
  clear hb CF
  obtain ⟨p0, p1, p2, p3, p4⟩ := HP.out
  go_wp2_with fail
  refine (C1.out _ HB.out).mono ?_
  rintro e w2 ⟨rfl, hb⟩
  clear p0 p1 p2 p3 p4
  replace HB := Lib.hid (btr HB.out hb)
  replace HP := Lib.hid (HP.out.below hb)
  replace HL := Lib.hid (HL.out.below hb)
  clear hb
  have HX := Lib.hid (Has4.new w2 false 0 0 0 26)
  replace HB := Lib.hid (bal HB.out (.cells #[.bool false, .int .u64 0, .int .u64 0, .int .i64 0] 26))
  replace HP := Lib.hid (HP.out.alloc (.cells #[.bool false, .int .u64 0, .int .u64 0, .int .i64 0] 26))
  replace HL := Lib.hid (HL.out.below (bal (Below.refl _ _) (.cells #[.bool false, .int .u64 0, .int .u64 0, .int .i64 0] 26)))
  clear C1
  obtain ⟨p0, p1, p2, p3, p4⟩ := HP.out
  go_wp2_with fail
  refine (CP.out _).mono ?_
  rintro e w3 ⟨rfl, hb⟩
  clear p0 p1 p2 p3 p4
  replace HB := Lib.hid (btr HB.out hb)
  replace HP := Lib.hid (HP.out.below hb)
  replace HX := Lib.hid (HX.out.below hb)
  replace HL := Lib.hid (HL.out.below hb)
  clear hb
  go_wp2_with fail
  refine (CL.out _ HB.out).mono ?_
  rintro e w4 ⟨rfl, hb⟩
  replace HB := Lib.hid (btr HB.out hb)
  replace HP := Lib.hid (HP.out.below hb)
  replace HX := Lib.hid (HX.out.below hb)
  replace HL := Lib.hid (HL.out.below hb)
  clear hb
  obtain ⟨p0, p1, p2, p3, p4⟩ := HP.out
  go_wp2_with fail
  refine (CBi.out _).mono ?_
  rintro e w5 ⟨y, rfl, ht, hb⟩
  have d2 : decide ((y.size : Int) < bits) = false := decide_eq_false (by rw [ht]; have := Hr.out; omega)
  clear p0 p1 p2 p3 p4 ht
  replace HB := Lib.hid (btr HB.out hb)
  replace HP := Lib.hid (HP.out.below hb)
  replace HX := Lib.hid (HX.out.below hb)
  replace HL := Lib.hid (HL.out.below hb)
  clear hb CBi
  obtain ⟨fb, hfb⟩ : ∃ fb, fb = w5.heap.size := ⟨_, rfl⟩
  have HXn : Hid (w2.heap.size ≠ fb) := Lib.hid (by have := HX.out.2.2.2.2; omega)
  have HLn1 : Hid (∀ g o, a1 = some ⟨g, o, none⟩ → 0 < M.length → g ≠ fb) := Lib.hid (by rw [hfb]; exact sl_low HL.out)
  have HFb : Hid (w.heap.size ≤ fb) := Lib.hid (by rw [hfb]; exact HB.out.size)
  have Hfb := Lib.hid hfb
  clear hfb
  have HF := Lib.hid (Own4.new w5 (.bool false) (.int .u64 0) (.int .u64 0) (.int .i64 0) 26)
  replace HB := Lib.hid (bal HB.out (.cells #[.bool false, .int .u64 0, .int .u64 0, .int .i64 0] 26))
  replace HP := Lib.hid (HP.out.alloc (.cells #[.bool false, .int .u64 0, .int .u64 0, .int .i64 0] 26))
  replace HX := Lib.hid (HX.out.alloc (.cells #[.bool false, .int .u64 0, .int .u64 0, .int .i64 0] 26))
  replace HL := Lib.hid (HL.out.below (bal (Below.refl _ _) (.cells #[.bool false, .int .u64 0, .int .u64 0, .int .i64 0] 26)))
  obtain ⟨p0, p1, p2, p3, p4⟩ := HP.out
  go_wp2_with fail
  refine (CN.out _ _ HB.out).mono ?_
  rintro e w6 ⟨v2, M2, rfl, o2, n2, hb⟩
  clear p0 p1 p2 p3 p4
  obtain rfl := n2.uniq HM.out
  obtain ⟨a2, c2, rfl, _, s2⟩ := own_sl o2
  have HO2 := Lib.hid o2
  have HL2 := Lib.hid s2
  clear o2 s2 n2
  replace HB := Lib.hid (btr HB.out hb)
  replace HP := Lib.hid (HP.out.below hb)
  replace HX := Lib.hid (HX.out.below hb)
  replace HF := Lib.hid (HF.out.below hb)
  replace HL := Lib.hid (HL.out.below hb)
  clear hb CN
  have HLn2 : Hid (∀ g o, a2 = some ⟨g, o, none⟩ → 0 < M2.length → g ≠ fb) := Lib.hid (by have := HO2.out; rw [← Hfb.out] at this; exact row_high this)
  rw [← Hfb.out] at HF HO2 ⊢
  have CR2 := Lib.hid (fun a b c d w' => CR.out M2 a b c d w' HM.out)
  obtain ⟨Ln, hLn⟩ : ∃ Ln, Ln = M2.length := ⟨_, rfl⟩
  have HLn := Lib.hid hLn
  rw [← hLn] at CR2 ⊢
  clear hLn CR
  obtain ⟨p0, p1, p2, p3, p4⟩ := HP.out
  go_wp2_with fail
  refine (CFo.out _ HB.out).mono ?_
  rintro e w7 ⟨rfl, hb⟩
  clear p0 p1 p2 p3 p4
  replace HB := Lib.hid (btr HB.out hb)
  replace HP := Lib.hid (HP.out.below hb)
  replace HX := Lib.hid (HX.out.below hb)
  replace HF := Lib.hid (HF.out.below hb)
  replace HL := Lib.hid (HL.out.below hb)
  replace HL2 := Lib.hid (HL2.out.below hb)
  clear hb
  clear CFo
  replace HB := Lib.hid (bal HB.out (.cells #[.bool false, .int .u64 0, .int .u64 0, .int .i64 0] 26))
  replace HX := Lib.hid (HX.out.alloc (.cells #[.bool false, .int .u64 0, .int .u64 0, .int .i64 0] 26))
  replace HF := Lib.hid (HF.out.alloc (.cells #[.bool false, .int .u64 0, .int .u64 0, .int .i64 0] 26))
  replace HL := Lib.hid (HL.out.below (bal (Below.refl _ _) (.cells #[.bool false, .int .u64 0, .int .u64 0, .int .i64 0] 26)))
  replace HL2 := Lib.hid (HL2.out.below (bal (Below.refl _ _) (.cells #[.bool false, .int .u64 0, .int .u64 0, .int .i64 0] 26)))
  obtain ⟨⟨f0, f1, f2, f3⟩, ⟨f4, f5, f6, f7⟩, f8⟩ := HF.out
  go_wp2_with fail
  clear f0 f1 f2 f3 f4 f5 f6 f7 f8 HP
  have HO : Hid (Oth fb (w7.alloc (.cells #[.bool false, .int .u64 0, .int .u64 0, .int .i64 0] 26)) ((((((((((w7.alloc (.cells #[.bool false, .int .u64 0, .int .u64 0, .int .i64 0] 26)).setCell ⟨fb, 0, none⟩ (.bool false)).setCell ⟨fb, 1, none⟩ (.int .u64 0)).setCell ⟨fb, 2, none⟩ (.int .u64 0)).setCell ⟨fb, 3, none⟩ (.int .i64 0))).setCell ⟨fb, 0, none⟩ (.bool false)).setCell ⟨fb, 1, none⟩ (.int .u64 0)).setCell ⟨fb, 2, none⟩ (.int .u64 0)).setCell ⟨fb, 3, none⟩ (.int .i64 0))) := (oth_put _ _ _ _ _ _).trans (oth_put _ _ _ _ _ _)
  have HF' := Lib.hid (own4_put (own4_put HF.out (.bool false) (.int .u64 0) (.int .u64 0) (.int .i64 0)) (.bool false) (.int .u64 0) (.int .u64 0) (.int .i64 0))
  have HX' := Lib.hid (has4_oth HX.out HXn.out HO.out)
  have HL' := Lib.hid (sl_oth HL.out HLn1.out HO.out)
  have HL2' := Lib.hid (sl_oth HL2.out HLn2.out HO.out)
  have HBz : Hid (Below w.heap.size w ((((((((((w7.alloc (.cells #[.bool false, .int .u64 0, .int .u64 0, .int .i64 0] 26)).setCell ⟨fb, 0, none⟩ (.bool false)).setCell ⟨fb, 1, none⟩ (.int .u64 0)).setCell ⟨fb, 2, none⟩ (.int .u64 0)).setCell ⟨fb, 3, none⟩ (.int .i64 0))).setCell ⟨fb, 0, none⟩ (.bool false)).setCell ⟨fb, 1, none⟩ (.int .u64 0)).setCell ⟨fb, 2, none⟩ (.int .u64 0)).setCell ⟨fb, 3, none⟩ (.int .i64 0))) := bse (bse (bse (bse (bse (bse (bse (bse HB.out HFb.out _) HFb.out _) HFb.out _) HFb.out _) HFb.out _) HFb.out _) HFb.out _) HFb.out _
  clear HO HB HX HF HL HL2
  generalize ((((((((((w7.alloc (.cells #[.bool false, .int .u64 0, .int .u64 0, .int .i64 0] 26)).setCell ⟨fb, 0, none⟩ (.bool false)).setCell ⟨fb, 1, none⟩ (.int .u64 0)).setCell ⟨fb, 2, none⟩ (.int .u64 0)).setCell ⟨fb, 3, none⟩ (.int .i64 0))).setCell ⟨fb, 0, none⟩ (.bool false)).setCell ⟨fb, 1, none⟩ (.int .u64 0)).setCell ⟨fb, 2, none⟩ (.int .u64 0)).setCell ⟨fb, 3, none⟩ (.int .i64 0)) = wz at *
  refine (CB.out _).mono ?_
  rintro e wy ⟨rfl, hb⟩
  have HB := Lib.hid (btr HBz.out hb)
  replace HF' := Lib.hid (HF'.out.below hb)
  replace HX' := Lib.hid (HX'.out.below hb)
  replace HL' := Lib.hid (HL'.out.below hb)
  replace HL2' := Lib.hid (HL2'.out.below hb)
  clear hb HBz
  go_wp2_with fail
  refine (CR2.out _ _ _ _ _ HL'.out HL2'.out).mono ?_
  rintro e wv ⟨rfl, hb⟩
  replace HB := Lib.hid (btr HB.out hb)
  replace HF' := Lib.hid (HF'.out.below hb)
  replace HX' := Lib.hid (HX'.out.below hb)
  clear hb HL' HL2'
  have hq : ∀ w : World, (binOp .eql 26 (.agg #[.bool false, .int .u64 0, .int .u64 0, .int .i64 0]) (.agg #[.bool false, .int .u64 0, .int .u64 0, .int .i64 0])).run Try.prog w = .ok (.bool true) w := fun w => by
    rw [eql_pf, show eqP false 0 0 0 false 0 0 0 = true from eqP_iff.2 ⟨rfl, rfl, rfl, rfl⟩]
  obtain ⟨x0, x1, x2, x3, x4⟩ := HX'.out
  obtain ⟨⟨f0, f1, f2, f3⟩, _, f8⟩ := HF'.out
  go_wp2
  go_ret
  exact ⟨rfl, HB.out⟩

set_option maxHeartbeats 32000000 in
set_option maxRecDepth 100000 in
theorem pt_some (p : Pf) (a : Option Addr) (c N : Nat) (us : List Pf) (bits : Int) (w : World) (hN : N = us.length) (hp : p.Ok) (hok : ∀ u ∈ us, u.Ok) (hs : Sl w a us) (h0 : pkE p us = 0) (hr : p.b ≤ bits) (hr2 : bits ≤ wid p.v) (t : Pf) (hq : firstP us bits p.nd.h p = some t) :
    Calls Try.prog 3 #[.agg #[.bool p.v, .int .u64 p.hi, .int .u64 p.lo, .int .i64 p.b], .slice a N c, .int .i64 bits] w fun e w' => e = .returned (.bool true) ∧ Below w.heap.size w w' := by
  have HP := Lib.hid (Has4.new w p.v p.hi p.lo p.b 26)
  have HB := Lib.hid (pal w p.v p.hi p.lo p.b)
  have CB : Hid (∀ w : World, Calls Try.prog 11 #[] w fun e w' => e = .returned (.bool true) ∧ Below w.heap.size w w') := pkbegun_any
  have CP : Hid (∀ w : World, Calls Try.prog 6 #[.agg #[.bool p.v, .int .u64 p.hi, .int .u64 p.lo, .int .i64 p.b]] w fun e w' => e = .returned (.int .i64 p.chk) ∧ Below w.heap.size w w') := fun w => rpcheck_pf p w hp
  have CL : Hid (∀ w' : World, Below w.heap.size w w' → Calls Try.prog 7 #[.slice a N c] w' fun e w'' => e = .returned (.int .i64 (slkL us)) ∧ Below w'.heap.size w' w'') := fun w' h => by rw [hN]; exact clist_any a c us w' hok (hs.below h)
  obtain ⟨rp, hl, hu⟩ := pkE_ok hp hok h0
  have h01 : p.chk = 0 := (right_iff _ _ _ _ hp.1 hp.2.1 hp.2.2.1 hp.2.2.2).2 rp
  have h02 : slkL us = 0 := by rw [pkE, if_pos h01] at h0; exact h0
  rw [h01] at CP
  rw [h02] at CL
  have CF : Hid (∀ w' : World, Below w.heap.size w w' → Calls Try.prog 4 #[.agg #[.bool p.v, .int .u64 p.hi, .int .u64 p.lo, .int .i64 p.b], .slice a N c] w' (FreePost w' p us)) := fun w' h => by rw [hN]; exact pFree_ok p a c us w' hp hok (hs.below h) h0
  have CN : Hid (∀ (w' : World) (o : Obj), Below w.heap.size w (w'.alloc o) → Calls Try.prog 9 #[.slice (some ⟨w'.heap.size + 1, 0, none⟩) 1 1, .slice a N c] ((w'.alloc o).alloc (.cells #[.bool p.v, .int .u64 p.hi, .int .u64 p.lo, .int .i64 p.b] 26)) fun e w'' => ∃ v M, e = .returned v ∧ w''.ownsRow (w'.heap.size + 1) 26 4 v M.length (flat M) ∧ IsRoom p us M ∧ Below (w'.alloc o).heap.size (w'.alloc o) w'') := fun w' o h => by
    rw [hN]
    refine (normOf_any [p] us (some ⟨w'.heap.size + 1, 0, none⟩) a 1 c _ (fun s hs => by rw [List.mem_singleton] at hs; subst hs; exact rp) hu (by simp) hl (sl_one2 w' p o) (hs.below (bal h _))).mono ?_
    rintro e w'' ⟨v, M, h1, h2, h3, _, h4⟩
    exact ⟨v, M, h1, row_base h2 (by simp), h3.of fun v x => by rw [adr_one'], btr (bal (Below.refl _ _) _) h4⟩
  have CR : Hid (∀ (M : List Pf) (a b : Option Addr) (c d : Nat) (w' : World), IsRoom p us M → Sl w' a M → Sl w' b M → Calls Try.prog 12 #[.slice a M.length c, .int .i64 0, .int .i64 0, .slice b M.length d] w' fun e w'' => e = .returned (.bool true) ∧ Below w'.heap.size w' w'') := fun M a b c d w' h h1 h2 => pare_ok a b c d M w' (by have := room_len rp hu hl h; omega) h1 h2
  have CBi : Hid (∀ w : World, Calls Try.prog 8 #[.agg #[.bool p.v, .int .u64 p.hi, .int .u64 p.lo]] w fun e w' => ∃ t : ByteArray, e = .returned (.string t) ∧ (t.size : Int) = wid p.v ∧ Below w.heap.size w w') := fun w => by
    have e1 : p.hi = (p.hi.toNat : Int) := by have := hp.1; omega
    have e2 : p.lo = (p.lo.toNat : Int) := by have := hp.2.2.1; omega
    have := bits_any p.v p.hi.toNat p.lo.toNat w (by have := hp.2.1; omega) (by have := hp.2.2.2; omega)
    rw [← e1, ← e2] at this
    refine this.mono ?_
    rintro e w' ⟨rfl, hb⟩
    refine ⟨_, rfl, ?_, hb⟩
    have := bitsT_length p.v p.hi.toNat p.lo.toNat
    show ((bitsT p.v p.hi.toNat p.lo.toNat).toArray.size : Int) = _
    rw [List.size_toArray, this]
    unfold wid
    cases p.v <;> rfl
  have C1 : Hid (∀ w' : World, Below w.heap.size w w' → Calls Try.prog 5 #[.agg #[.bool p.v, .int .u64 p.hi, .int .u64 p.lo, .int .i64 p.b], .slice a N c, .int .i64 bits] w' fun e w'' => e = .returned (.tuple #[.agg #[.bool t.v, .int .u64 t.hi, .int .u64 t.lo, .int .i64 t.b], .int .i64 0]) ∧ Below w'.heap.size w' w'') := fun w' h => by
    rw [hN]
    refine (pFirst_ok p a c us bits w' hp hok (hs.below h) h0 hr hr2).mono ?_
    rintro e w'' ⟨M, hM, hb, hx⟩
    have hw := wide_first rp hu hM hr hr2
    rw [hq] at hw
    rw [hw] at hx
    rcases hx with ⟨h1, h2⟩ | ⟨x, h1, h2⟩
    · exact absurd h1 (by simp)
    · injection h1 with h1; subst h1; exact ⟨h2, hb⟩
  have CFo : Hid (∀ w' : World, Below w.heap.size w w' → Calls Try.prog 10 #[.agg #[.bool p.v, .int .u64 p.hi, .int .u64 p.lo, .int .i64 p.b], .slice a N c, .int .i64 bits] w' fun e w'' => e = .returned (.tuple #[.agg #[.bool t.v, .int .u64 t.hi, .int .u64 t.lo, .int .i64 t.b], .bool true]) ∧ Below w'.heap.size w' w'') := fun w' h => by
    have := fo_any us bits hu hl p.nd.h p rp rfl hr hr2 a c w' (hs.below h)
    rw [hq] at this
    rw [hN]
    exact this
  have d1 : decide (bits < p.b) = false := decide_eq_false (by omega)
  have Hr := Lib.hid hr2
  clear hok hs hr hr2 hp hN h0 rp hl hu h01 h02 hq
  go_enter Try.func3, Try.ntmps3
  obtain ⟨p0, p1, p2, p3, p4⟩ := HP.out
  go_wp2_with fail
  refine (CF.out _ HB.out).mono ?_
  rintro e w1 ⟨v1, M, rfl, o1, n1, hb⟩
  clear p0 p1 p2 p3 p4
  obtain ⟨a1, c1, rfl, _, s1⟩ := own_sl o1
  have HL := Lib.hid s1
  have HM := Lib.hid n1
  clear o1 s1 n1
  replace HB := Lib.hid (btr HB.out hb)
  replace HP := Lib.hid (HP.out.below hb)
  clear hb CF
  obtain ⟨p0, p1, p2, p3, p4⟩ := HP.out
  go_wp2_with fail
  refine (C1.out _ HB.out).mono ?_
  rintro e w2 ⟨rfl, hb⟩
  clear p0 p1 p2 p3 p4
  replace HB := Lib.hid (btr HB.out hb)
  replace HP := Lib.hid (HP.out.below hb)
  replace HL := Lib.hid (HL.out.below hb)
  clear hb
  have HX := Lib.hid (Has4.new w2 t.v t.hi t.lo t.b 26)
  replace HB := Lib.hid (bal HB.out (.cells #[.bool t.v, .int .u64 t.hi, .int .u64 t.lo, .int .i64 t.b] 26))
  replace HP := Lib.hid (HP.out.alloc (.cells #[.bool t.v, .int .u64 t.hi, .int .u64 t.lo, .int .i64 t.b] 26))
  replace HL := Lib.hid (HL.out.below (bal (Below.refl _ _) (.cells #[.bool t.v, .int .u64 t.hi, .int .u64 t.lo, .int .i64 t.b] 26)))
  clear C1
  obtain ⟨p0, p1, p2, p3, p4⟩ := HP.out
  go_wp2_with fail
  refine (CP.out _).mono ?_
  rintro e w3 ⟨rfl, hb⟩
  clear p0 p1 p2 p3 p4
  replace HB := Lib.hid (btr HB.out hb)
  replace HP := Lib.hid (HP.out.below hb)
  replace HX := Lib.hid (HX.out.below hb)
  replace HL := Lib.hid (HL.out.below hb)
  clear hb
  go_wp2_with fail
  refine (CL.out _ HB.out).mono ?_
  rintro e w4 ⟨rfl, hb⟩
  replace HB := Lib.hid (btr HB.out hb)
  replace HP := Lib.hid (HP.out.below hb)
  replace HX := Lib.hid (HX.out.below hb)
  replace HL := Lib.hid (HL.out.below hb)
  clear hb
  obtain ⟨p0, p1, p2, p3, p4⟩ := HP.out
  go_wp2_with fail
  refine (CBi.out _).mono ?_
  rintro e w5 ⟨y, rfl, ht, hb⟩
  have d2 : decide ((y.size : Int) < bits) = false := decide_eq_false (by rw [ht]; have := Hr.out; omega)
  clear p0 p1 p2 p3 p4 ht
  replace HB := Lib.hid (btr HB.out hb)
  replace HP := Lib.hid (HP.out.below hb)
  replace HX := Lib.hid (HX.out.below hb)
  replace HL := Lib.hid (HL.out.below hb)
  clear hb CBi
  obtain ⟨fb, hfb⟩ : ∃ fb, fb = w5.heap.size := ⟨_, rfl⟩
  have HXn : Hid (w2.heap.size ≠ fb) := Lib.hid (by have := HX.out.2.2.2.2; omega)
  have HLn1 : Hid (∀ g o, a1 = some ⟨g, o, none⟩ → 0 < M.length → g ≠ fb) := Lib.hid (by rw [hfb]; exact sl_low HL.out)
  have HFb : Hid (w.heap.size ≤ fb) := Lib.hid (by rw [hfb]; exact HB.out.size)
  have Hfb := Lib.hid hfb
  clear hfb
  have HF := Lib.hid (Own4.new w5 (.bool false) (.int .u64 0) (.int .u64 0) (.int .i64 0) 26)
  replace HB := Lib.hid (bal HB.out (.cells #[.bool false, .int .u64 0, .int .u64 0, .int .i64 0] 26))
  replace HP := Lib.hid (HP.out.alloc (.cells #[.bool false, .int .u64 0, .int .u64 0, .int .i64 0] 26))
  replace HX := Lib.hid (HX.out.alloc (.cells #[.bool false, .int .u64 0, .int .u64 0, .int .i64 0] 26))
  replace HL := Lib.hid (HL.out.below (bal (Below.refl _ _) (.cells #[.bool false, .int .u64 0, .int .u64 0, .int .i64 0] 26)))
  obtain ⟨p0, p1, p2, p3, p4⟩ := HP.out
  go_wp2_with fail
  refine (CN.out _ _ HB.out).mono ?_
  rintro e w6 ⟨v2, M2, rfl, o2, n2, hb⟩
  clear p0 p1 p2 p3 p4
  obtain rfl := n2.uniq HM.out
  obtain ⟨a2, c2, rfl, _, s2⟩ := own_sl o2
  have HO2 := Lib.hid o2
  have HL2 := Lib.hid s2
  clear o2 s2 n2
  replace HB := Lib.hid (btr HB.out hb)
  replace HP := Lib.hid (HP.out.below hb)
  replace HX := Lib.hid (HX.out.below hb)
  replace HF := Lib.hid (HF.out.below hb)
  replace HL := Lib.hid (HL.out.below hb)
  clear hb CN
  have HLn2 : Hid (∀ g o, a2 = some ⟨g, o, none⟩ → 0 < M2.length → g ≠ fb) := Lib.hid (by have := HO2.out; rw [← Hfb.out] at this; exact row_high this)
  rw [← Hfb.out] at HF HO2 ⊢
  have CR2 := Lib.hid (fun a b c d w' => CR.out M2 a b c d w' HM.out)
  obtain ⟨Ln, hLn⟩ : ∃ Ln, Ln = M2.length := ⟨_, rfl⟩
  have HLn := Lib.hid hLn
  rw [← hLn] at CR2 ⊢
  clear hLn CR
  obtain ⟨p0, p1, p2, p3, p4⟩ := HP.out
  go_wp2_with fail
  refine (CFo.out _ HB.out).mono ?_
  rintro e w7 ⟨rfl, hb⟩
  clear p0 p1 p2 p3 p4
  replace HB := Lib.hid (btr HB.out hb)
  replace HP := Lib.hid (HP.out.below hb)
  replace HX := Lib.hid (HX.out.below hb)
  replace HF := Lib.hid (HF.out.below hb)
  replace HL := Lib.hid (HL.out.below hb)
  replace HL2 := Lib.hid (HL2.out.below hb)
  clear hb
  clear CFo
  replace HB := Lib.hid (bal HB.out (.cells #[.bool t.v, .int .u64 t.hi, .int .u64 t.lo, .int .i64 t.b] 26))
  replace HX := Lib.hid (HX.out.alloc (.cells #[.bool t.v, .int .u64 t.hi, .int .u64 t.lo, .int .i64 t.b] 26))
  replace HF := Lib.hid (HF.out.alloc (.cells #[.bool t.v, .int .u64 t.hi, .int .u64 t.lo, .int .i64 t.b] 26))
  replace HL := Lib.hid (HL.out.below (bal (Below.refl _ _) (.cells #[.bool t.v, .int .u64 t.hi, .int .u64 t.lo, .int .i64 t.b] 26)))
  replace HL2 := Lib.hid (HL2.out.below (bal (Below.refl _ _) (.cells #[.bool t.v, .int .u64 t.hi, .int .u64 t.lo, .int .i64 t.b] 26)))
  obtain ⟨⟨f0, f1, f2, f3⟩, ⟨f4, f5, f6, f7⟩, f8⟩ := HF.out
  go_wp2_with fail
  clear f0 f1 f2 f3 f4 f5 f6 f7 f8 HP
  have HO : Hid (Oth fb (w7.alloc (.cells #[.bool t.v, .int .u64 t.hi, .int .u64 t.lo, .int .i64 t.b] 26)) (((((w7.alloc (.cells #[.bool t.v, .int .u64 t.hi, .int .u64 t.lo, .int .i64 t.b] 26)).setCell ⟨fb, 0, none⟩ (.bool t.v)).setCell ⟨fb, 1, none⟩ (.int .u64 t.hi)).setCell ⟨fb, 2, none⟩ (.int .u64 t.lo)).setCell ⟨fb, 3, none⟩ (.int .i64 t.b))) := oth_put _ _ _ _ _ _
  have HF' := Lib.hid (own4_put HF.out (.bool t.v) (.int .u64 t.hi) (.int .u64 t.lo) (.int .i64 t.b))
  have HX' := Lib.hid (has4_oth HX.out HXn.out HO.out)
  have HL' := Lib.hid (sl_oth HL.out HLn1.out HO.out)
  have HL2' := Lib.hid (sl_oth HL2.out HLn2.out HO.out)
  have HBz : Hid (Below w.heap.size w (((((w7.alloc (.cells #[.bool t.v, .int .u64 t.hi, .int .u64 t.lo, .int .i64 t.b] 26)).setCell ⟨fb, 0, none⟩ (.bool t.v)).setCell ⟨fb, 1, none⟩ (.int .u64 t.hi)).setCell ⟨fb, 2, none⟩ (.int .u64 t.lo)).setCell ⟨fb, 3, none⟩ (.int .i64 t.b))) := bse (bse (bse (bse HB.out HFb.out _) HFb.out _) HFb.out _) HFb.out _
  clear HO HB HX HF HL HL2
  generalize (((((w7.alloc (.cells #[.bool t.v, .int .u64 t.hi, .int .u64 t.lo, .int .i64 t.b] 26)).setCell ⟨fb, 0, none⟩ (.bool t.v)).setCell ⟨fb, 1, none⟩ (.int .u64 t.hi)).setCell ⟨fb, 2, none⟩ (.int .u64 t.lo)).setCell ⟨fb, 3, none⟩ (.int .i64 t.b)) = wz at *
  refine (CB.out _).mono ?_
  rintro e wy ⟨rfl, hb⟩
  have HB := Lib.hid (btr HBz.out hb)
  replace HF' := Lib.hid (HF'.out.below hb)
  replace HX' := Lib.hid (HX'.out.below hb)
  replace HL' := Lib.hid (HL'.out.below hb)
  replace HL2' := Lib.hid (HL2'.out.below hb)
  clear hb HBz
  go_wp2_with fail
  refine (CR2.out _ _ _ _ _ HL'.out HL2'.out).mono ?_
  rintro e wv ⟨rfl, hb⟩
  replace HB := Lib.hid (btr HB.out hb)
  replace HF' := Lib.hid (HF'.out.below hb)
  replace HX' := Lib.hid (HX'.out.below hb)
  clear hb HL' HL2'
  have hq : ∀ w : World, (binOp .eql 26 (.agg #[.bool t.v, .int .u64 t.hi, .int .u64 t.lo, .int .i64 t.b]) (.agg #[.bool t.v, .int .u64 t.hi, .int .u64 t.lo, .int .i64 t.b])).run Try.prog w = .ok (.bool true) w := fun w => by
    rw [eql_pf, show eqP t.v t.hi t.lo t.b t.v t.hi t.lo t.b = true from eqP_iff.2 ⟨rfl, rfl, rfl, rfl⟩]
  obtain ⟨x0, x1, x2, x3, x4⟩ := HX'.out
  obtain ⟨⟨f0, f1, f2, f3⟩, _, f8⟩ := HF'.out
  go_wp2
  go_ret
  exact ⟨rfl, HB.out⟩

end Go.Proofs.Ytjhkbjigpiickaa
