/- PickAll: the walk and the law. -/
import Derived.Test.YtjhkbjigpiickaaGreatDoorPmC
import Derived.Test.YtjhkbjigpiickaaGreatDoorPBb
import Derived.Test.YtjhkbjigpiickaaGreatDoorSmA
import Derived.Test.YtjhkbjigpiickaaGreatDoorOpenP
set_option linter.unusedVariables false
set_option linter.unusedSimpArgs false
namespace Go.Proofs.YtjhkbjigpiickaaGreatDoor
open Go.RowKit

theorem row_has4 {w : World} {B : Nat} {v : Value} {p : Pf} (h : w.ownsRow B 26 4 v [p].length (flat [p])) : ∃ g c, v = .slice (some ⟨g, 0, none⟩) 1 c ∧ Has4 w g p.v p.hi p.lo p.b := by
  obtain ⟨a, c, rfl, _, hs⟩ := own_sl h
  obtain ⟨g, o, rfl, hg, c0, c1, c2, c3⟩ := hs 0 (by simp)
  have ho0 : o = 0 := by
    rcases h.2 with ⟨h, _⟩ | ⟨g', c', cur, h, _⟩
    · injection h with h; exact absurd h (by simp)
    · injection h with h; injection h with h; injection h
  subst ho0
  simp only [Nat.zero_mul, Nat.add_zero, List.getElem_cons_zero] at c0 c1 c2 c3
  exact ⟨g, c, rfl, c0, c1, c2, c3, hg⟩

set_option maxHeartbeats 32000000 in
set_option maxRecDepth 100000 in
theorem pa_bad (p q : Pf) (bits : Int) (w : World) (hg : Good w) (hp : p.Ok) (hq : q.Ok) (hr : ¬ p.chk = 0) :
    Calls Tryz.prog 4 #[.agg #[.bool p.v, .int .u64 p.hi, .int .u64 p.lo, .int .i64 p.b], .agg #[.bool q.v, .int .u64 q.hi, .int .u64 q.lo, .int .i64 q.b], .int .i64 bits] w fun e w' => e = .returned (.bool true) ∧ Below w.heap.size w w' := by
  have HP : Hid (Has4 ((w.alloc (.cells #[.bool p.v, .int .u64 p.hi, .int .u64 p.lo, .int .i64 p.b] 26)).alloc (.cells #[.bool q.v, .int .u64 q.hi, .int .u64 q.lo, .int .i64 q.b] 26)) w.heap.size p.v p.hi p.lo p.b) := (Has4.new w p.v p.hi p.lo p.b 26).alloc _
  have HQ : Hid (Has4 ((w.alloc (.cells #[.bool p.v, .int .u64 p.hi, .int .u64 p.lo, .int .i64 p.b] 26)).alloc (.cells #[.bool q.v, .int .u64 q.hi, .int .u64 q.lo, .int .i64 q.b] 26)) (w.heap.size + 1) q.v q.hi q.lo q.b) := by
    have := Has4.new (w.alloc (.cells #[.bool p.v, .int .u64 p.hi, .int .u64 p.lo, .int .i64 p.b] 26)) q.v q.hi q.lo q.b 26
    rw [World.size_alloc] at this
    exact this
  have HB : Hid (Below w.heap.size w ((w.alloc (.cells #[.bool p.v, .int .u64 p.hi, .int .u64 p.lo, .int .i64 p.b] 26)).alloc (.cells #[.bool q.v, .int .u64 q.hi, .int .u64 q.lo, .int .i64 q.b] 26))) := bal (pal w p.v p.hi p.lo p.b) _
  have CB : Hid (∀ w : World, Calls Tryz.prog 6 #[] w fun e w' => e = .returned (.bool true) ∧ Below w.heap.size w w') := pkbegun_any
  have CC : Hid (∀ w' : World, Below w.heap.size w w' → Calls Tryz.prog 7 #[] w' fun e w'' => e = .returned (.bool true) ∧ Below w'.heap.size w' w'') := fun w' h => pbegun_any w' (hg.below h)
  clear hg
  have e1 : pkE p [] = p.chk := if_neg hr
  have CF : Hid (∀ w' : World, Calls Tryz.prog 12 #[.agg #[.bool p.v, .int .u64 p.hi, .int .u64 p.lo, .int .i64 p.b], .slice none 0 0] w' fun e w'' => e = .returned (.tuple #[.slice none 0 0, .int .i64 p.chk]) ∧ Below w'.heap.size w' w'') := fun w' => by rw [← e1]; exact pFree_bad p none 0 [] w' hp (by simp) (fun j hj => by simp at hj) (by rw [e1]; exact hr)
  have hI : (p.chk != 0) = true := by rw [bne_iff_ne]; exact hr
  generalize p.chk = r at *
  clear e1 hr hp hq
  go_enter Tryz.func4, Tryz.ntmps4
  go_wp2_with fail
  refine (CB.out _).mono ?_
  rintro e w1 ⟨rfl, hb⟩
  replace HB := Lib.hid (btr HB.out hb)
  replace HP := Lib.hid (HP.out.below hb)
  replace HQ := Lib.hid (HQ.out.below hb)
  clear hb
  go_wp2_with fail
  refine (CC.out _ HB.out).mono ?_
  rintro e w2 ⟨rfl, hb⟩
  replace HB := Lib.hid (btr HB.out hb)
  replace HP := Lib.hid (HP.out.below hb)
  replace HQ := Lib.hid (HQ.out.below hb)
  clear hb
  obtain ⟨p0, p1, p2, p3, p4⟩ := HP.out
  obtain ⟨q0, q1, q2, q3, q4⟩ := HQ.out
  go_wp2_with fail
  refine (CF.out _).mono ?_
  rintro e w3 ⟨rfl, hb⟩
  clear p0 p1 p2 p3 p4 q0 q1 q2 q3 q4
  replace HB := Lib.hid (btr HB.out hb)
  replace HP := Lib.hid (HP.out.below hb)
  replace HQ := Lib.hid (HQ.out.below hb)
  clear hb
  go_wp2
  go_ret
  exact ⟨rfl, HB.out⟩

set_option maxHeartbeats 32000000 in
set_option maxRecDepth 100000 in
theorem pa_in_bad (p q : Pf) (bits : Int) (w : World) (hg : Good w) (hp : p.Ok) (hq : q.Ok) (rp : p.R) (hr : p.b ≤ bits ∧ bits ≤ wid p.v) (hc : ¬ q.chk = 0) :
    Calls Tryz.prog 4 #[.agg #[.bool p.v, .int .u64 p.hi, .int .u64 p.lo, .int .i64 p.b], .agg #[.bool q.v, .int .u64 q.hi, .int .u64 q.lo, .int .i64 q.b], .int .i64 bits] w fun e w' => e = .returned (.bool true) ∧ Below w.heap.size w w' := by
  have HP : Hid (Has4 ((w.alloc (.cells #[.bool p.v, .int .u64 p.hi, .int .u64 p.lo, .int .i64 p.b] 26)).alloc (.cells #[.bool q.v, .int .u64 q.hi, .int .u64 q.lo, .int .i64 q.b] 26)) w.heap.size p.v p.hi p.lo p.b) := (Has4.new w p.v p.hi p.lo p.b 26).alloc _
  have HQ : Hid (Has4 ((w.alloc (.cells #[.bool p.v, .int .u64 p.hi, .int .u64 p.lo, .int .i64 p.b] 26)).alloc (.cells #[.bool q.v, .int .u64 q.hi, .int .u64 q.lo, .int .i64 q.b] 26)) (w.heap.size + 1) q.v q.hi q.lo q.b) := by
    have := Has4.new (w.alloc (.cells #[.bool p.v, .int .u64 p.hi, .int .u64 p.lo, .int .i64 p.b] 26)) q.v q.hi q.lo q.b 26
    rw [World.size_alloc] at this
    exact this
  have HB : Hid (Below w.heap.size w ((w.alloc (.cells #[.bool p.v, .int .u64 p.hi, .int .u64 p.lo, .int .i64 p.b] 26)).alloc (.cells #[.bool q.v, .int .u64 q.hi, .int .u64 q.lo, .int .i64 q.b] 26))) := bal (pal w p.v p.hi p.lo p.b) _
  have CB : Hid (∀ w : World, Calls Tryz.prog 6 #[] w fun e w' => e = .returned (.bool true) ∧ Below w.heap.size w w') := pkbegun_any
  have CC : Hid (∀ w' : World, Below w.heap.size w w' → Calls Tryz.prog 7 #[] w' fun e w'' => e = .returned (.bool true) ∧ Below w'.heap.size w' w'') := fun w' h => pbegun_any w' (hg.below h)
  clear hg
  have c0 : p.chk = 0 := (right_iff _ _ _ _ hp.1 hp.2.1 hp.2.2.1 hp.2.2.2).2 rp
  have eN : pkE p [] = 0 := by rw [pkE, if_pos c0]; rfl
  have eP : pkE p [p] = 0 := by rw [pkE, if_pos c0]; exact one_chk rp
  have okn : ∀ u ∈ ([] : List Pf), u.Ok := by simp
  have slN : ∀ w : World, Sl w none [] := fun w j hj => by simp at hj
  have CF : Hid (∀ w' : World, Calls Tryz.prog 12 #[.agg #[.bool p.v, .int .u64 p.hi, .int .u64 p.lo, .int .i64 p.b], .slice none 0 0] w' fun e w'' => ∃ g c, e = .returned (.tuple #[.slice (some ⟨g, 0, none⟩) 1 c, .int .i64 0]) ∧ Has4 w'' g p.v p.hi p.lo p.b ∧ Below w'.heap.size w' w'') := fun w' =>
    (pFree_ok p none 0 [] w' hp okn (slN w') eN).mono fun e w'' ⟨v, M, he, ho, hn, hb⟩ => by
      have := hn.uniq (room_nil rp)
      subst this
      obtain ⟨g, c, rfl, h4⟩ := row_has4 ho
      exact ⟨g, c, he, h4, hb⟩
  have CG : Hid (∀ w' : World, Calls Tryz.prog 12 #[.agg #[.bool p.v, .int .u64 p.hi, .int .u64 p.lo, .int .i64 p.b], .slice (some ⟨w'.heap.size, 0, none⟩) 1 1] (w'.alloc (.cells #[.bool p.v, .int .u64 p.hi, .int .u64 p.lo, .int .i64 p.b] 26)) fun e w'' => ∃ a c, e = .returned (.tuple #[.slice a 0 c, .int .i64 0]) ∧ Below w'.heap.size w' w'') := fun w' =>
    (pFree_ok p (some ⟨w'.heap.size, 0, none⟩) 1 [p] _ hp (fun u hu => by rw [List.mem_singleton] at hu; subst hu; exact hp) (sl_one1 w' p) eP).mono fun e w'' ⟨v, M, he, ho, hn, hb⟩ => by
      have := hn.uniq room_self
      subst this
      obtain ⟨a, c, rfl, _, _⟩ := own_sl ho
      exact ⟨a, c, he, btr (bal (Below.refl _ _) _) hb⟩
  have C1 : Hid (∀ w' : World, Calls Tryz.prog 5 #[.agg #[.bool p.v, .int .u64 p.hi, .int .u64 p.lo, .int .i64 p.b], .slice none 0 0, .int .i64 bits] w' fun e w'' => e = .returned (.tuple #[.agg #[.bool p.v, .int .u64 p.hi, .int .u64 p.lo, .int .i64 bits], .int .i64 0]) ∧ Below w'.heap.size w' w'') := fun w' =>
    (pFirst_ok p none 0 [] bits w' hp okn (slN w') eN hr.1 hr.2).mono fun e w'' ⟨M, hn, hb, hx⟩ => by
      have := hn.uniq (room_nil rp)
      subst this
      rw [wide_one hr.1] at hx
      rcases hx with ⟨k, _⟩ | ⟨x, k, he⟩
      · exact absurd k (by simp)
      · injection k with k; subst k; exact ⟨he, hb⟩
  have hI : (q.chk != 0) = true := by rw [bne_iff_ne]; exact hc
  have CH : Hid (∀ w' : World, Calls Tryz.prog 9 #[.agg #[.bool p.v, .int .u64 p.hi, .int .u64 p.lo, .int .i64 p.b], .agg #[.bool q.v, .int .u64 q.hi, .int .u64 q.lo, .int .i64 q.b]] w' fun e w'' => e = .returned (.tuple #[.bool false, .int .i64 q.chk]) ∧ Below w'.heap.size w' w'') := fun w' => has_bad p.v p.hi p.lo p.b q.v q.hi q.lo q.b q.chk w' hp.1 hp.2.1 hp.2.2.1 hp.2.2.2 hq.1 hq.2.1 hq.2.2.1 hq.2.2.2 (by rw [two, if_pos (show pchk p.v p.hi p.lo p.b = 0 from c0)]; rfl) hI
  have CI : Hid (∀ w' : World, Calls Tryz.prog 9 #[.agg #[.bool q.v, .int .u64 q.hi, .int .u64 q.lo, .int .i64 q.b], .agg #[.bool p.v, .int .u64 p.hi, .int .u64 p.lo, .int .i64 p.b]] w' fun e w'' => e = .returned (.tuple #[.bool false, .int .i64 q.chk]) ∧ Below w'.heap.size w' w'') := fun w' => has_bad q.v q.hi q.lo q.b p.v p.hi p.lo p.b q.chk w' hq.1 hq.2.1 hq.2.2.1 hq.2.2.2 hp.1 hp.2.1 hp.2.2.1 hp.2.2.2 (by rw [two, if_neg (show ¬ pchk q.v q.hi q.lo q.b = 0 from hc)]; rfl) hI
  generalize q.chk = k at *
  have Eq1 : ∀ w : World, (binOp .neq 26 (.agg #[.bool p.v, .int .u64 p.hi, .int .u64 p.lo, .int .i64 p.b]) (.agg #[.bool p.v, .int .u64 p.hi, .int .u64 p.lo, .int .i64 p.b])).run Tryz.prog w = .ok (.bool false) w := fun w => by rw [neq_pf, show eqP p.v p.hi p.lo p.b p.v p.hi p.lo p.b = true from eqP_iff.2 ⟨rfl, rfl, rfl, rfl⟩]; rfl
  have Eq2 : ∀ w : World, (binOp .neq 24 (.agg #[.bool p.v, .int .u64 p.hi, .int .u64 p.lo]) (.agg #[.bool p.v, .int .u64 p.hi, .int .u64 p.lo])).run Tryz.prog w = .ok (.bool false) w := fun w => by rw [neq_addr]; simp [eqA]
  have Eq3 : (bits != bits) = false := by simp
  have Eq4 : ∀ w : World, (binOp .eql 26 (.agg #[.bool p.v, .int .u64 p.hi, .int .u64 p.lo, .int .i64 bits]) (.agg #[.bool p.v, .int .u64 p.hi, .int .u64 p.lo, .int .i64 bits])).run Tryz.prog w = .ok (.bool true) w := fun w => by rw [eql_pf, show eqP p.v p.hi p.lo bits p.v p.hi p.lo bits = true from eqP_iff.2 ⟨rfl, rfl, rfl, rfl⟩]
  clear hp hq rp c0 eN eP okn slN hr hc
  go_enter Tryz.func4, Tryz.ntmps4
  go_wp2_with fail
  refine (CB.out _).mono ?_
  rintro e w1 ⟨rfl, hb⟩
  replace HB := Lib.hid (btr HB.out hb)
  replace HP := Lib.hid (HP.out.below hb)
  replace HQ := Lib.hid (HQ.out.below hb)
  clear hb
  go_wp2_with fail
  refine (CC.out _ HB.out).mono ?_
  rintro e w2 ⟨rfl, hb⟩
  replace HB := Lib.hid (btr HB.out hb)
  replace HP := Lib.hid (HP.out.below hb)
  replace HQ := Lib.hid (HQ.out.below hb)
  clear hb
  obtain ⟨p0, p1, p2, p3, p4⟩ := HP.out
  obtain ⟨q0, q1, q2, q3, q4⟩ := HQ.out
  go_wp2_with fail
  refine (CF.out _).mono ?_
  rintro e w3 ⟨gl, cl, rfl, h4, hb⟩
  clear p0 p1 p2 p3 p4 q0 q1 q2 q3 q4
  have HL := Lib.hid h4
  replace HB := Lib.hid (btr HB.out hb)
  replace HP := Lib.hid (HP.out.below hb)
  replace HQ := Lib.hid (HQ.out.below hb)
  clear hb h4 CF
  obtain ⟨p0, p1, p2, p3, p4⟩ := HP.out
  obtain ⟨q0, q1, q2, q3, q4⟩ := HQ.out
  go_wp2_with fail
  refine (CG.out _).mono ?_
  rintro e w4 ⟨an, cn, rfl, hb⟩
  clear p0 p1 p2 p3 p4 q0 q1 q2 q3 q4
  replace HB := Lib.hid (btr HB.out hb)
  replace HP := Lib.hid (HP.out.below hb)
  replace HQ := Lib.hid (HQ.out.below hb)
  replace HL := Lib.hid (HL.out.below hb)
  clear hb CG
  obtain ⟨p0, p1, p2, p3, p4⟩ := HP.out
  obtain ⟨q0, q1, q2, q3, q4⟩ := HQ.out
  obtain ⟨l0, l1, l2, l3, l4⟩ := HL.out
  go_wp2_with fail
  go_region
  clear p0 p1 p2 p3 p4 q0 q1 q2 q3 q4 l0 l1 l2 l3 l4
  replace HB := Lib.hid HB.out.drew
  replace HP := Lib.hid (HP.out.below (Below.refl _ _).drew)
  replace HQ := Lib.hid (HQ.out.below (Below.refl _ _).drew)
  replace HL := Lib.hid (HL.out.below (Below.refl _ _).drew)
  generalize w4.drew = wd4 at *
  obtain ⟨p0, p1, p2, p3, p4⟩ := HP.out
  obtain ⟨q0, q1, q2, q3, q4⟩ := HQ.out
  go_wp2_with fail
  refine (C1.out _).mono ?_
  rintro e w5 ⟨rfl, hb⟩
  clear p0 p1 p2 p3 p4 q0 q1 q2 q3 q4
  replace HB := Lib.hid (btr HB.out hb)
  replace HP := Lib.hid (HP.out.below hb)
  replace HQ := Lib.hid (HQ.out.below hb)
  clear hb
  have HX := Lib.hid (Has4.new w5 p.v p.hi p.lo bits 26)
  replace HB := Lib.hid (bal HB.out (.cells #[.bool p.v, .int .u64 p.hi, .int .u64 p.lo, .int .i64 bits] 26))
  replace HP := Lib.hid (HP.out.alloc (.cells #[.bool p.v, .int .u64 p.hi, .int .u64 p.lo, .int .i64 bits] 26))
  replace HQ := Lib.hid (HQ.out.alloc (.cells #[.bool p.v, .int .u64 p.hi, .int .u64 p.lo, .int .i64 bits] 26))
  clear C1
  obtain ⟨x0, x1, x2, x3, x4⟩ := HX.out
  obtain ⟨p0, p1, p2, p3, p4⟩ := HP.out
  obtain ⟨q0, q1, q2, q3, q4⟩ := HQ.out
  go_wp2_with fail
  refine (CH.out _).mono ?_
  rintro e w6 ⟨rfl, hb⟩
  clear p0 p1 p2 p3 p4 q0 q1 q2 q3 q4
  replace HB := Lib.hid (btr HB.out hb)
  replace HP := Lib.hid (HP.out.below hb)
  replace HQ := Lib.hid (HQ.out.below hb)
  replace HX := Lib.hid (HX.out.below hb)
  clear hb
  clear x0 x1 x2 x3 x4 CH
  obtain ⟨p0, p1, p2, p3, p4⟩ := HP.out
  obtain ⟨q0, q1, q2, q3, q4⟩ := HQ.out
  go_wp2_with fail
  refine (CI.out _).mono ?_
  rintro e w7 ⟨rfl, hb⟩
  clear p0 p1 p2 p3 p4 q0 q1 q2 q3 q4
  replace HB := Lib.hid (btr HB.out hb)
  replace HP := Lib.hid (HP.out.below hb)
  replace HQ := Lib.hid (HQ.out.below hb)
  replace HX := Lib.hid (HX.out.below hb)
  clear hb
  clear CI
  go_wp2
  go_ret
  exact ⟨rfl, HB.out⟩

set_option maxHeartbeats 32000000 in
set_option maxRecDepth 100000 in
theorem pa_in_a (p q : Pf) (bits : Int) (w : World) (hg : Good w) (hp : p.Ok) (hq : q.Ok) (rp : p.R) (hr : p.b ≤ bits ∧ bits ≤ wid p.v) (rq : q.R) (ha : p.has q = true) :
    Calls Tryz.prog 4 #[.agg #[.bool p.v, .int .u64 p.hi, .int .u64 p.lo, .int .i64 p.b], .agg #[.bool q.v, .int .u64 q.hi, .int .u64 q.lo, .int .i64 q.b], .int .i64 bits] w fun e w' => e = .returned (.bool true) ∧ Below w.heap.size w w' := by
  have HP : Hid (Has4 ((w.alloc (.cells #[.bool p.v, .int .u64 p.hi, .int .u64 p.lo, .int .i64 p.b] 26)).alloc (.cells #[.bool q.v, .int .u64 q.hi, .int .u64 q.lo, .int .i64 q.b] 26)) w.heap.size p.v p.hi p.lo p.b) := (Has4.new w p.v p.hi p.lo p.b 26).alloc _
  have HQ : Hid (Has4 ((w.alloc (.cells #[.bool p.v, .int .u64 p.hi, .int .u64 p.lo, .int .i64 p.b] 26)).alloc (.cells #[.bool q.v, .int .u64 q.hi, .int .u64 q.lo, .int .i64 q.b] 26)) (w.heap.size + 1) q.v q.hi q.lo q.b) := by
    have := Has4.new (w.alloc (.cells #[.bool p.v, .int .u64 p.hi, .int .u64 p.lo, .int .i64 p.b] 26)) q.v q.hi q.lo q.b 26
    rw [World.size_alloc] at this
    exact this
  have HB : Hid (Below w.heap.size w ((w.alloc (.cells #[.bool p.v, .int .u64 p.hi, .int .u64 p.lo, .int .i64 p.b] 26)).alloc (.cells #[.bool q.v, .int .u64 q.hi, .int .u64 q.lo, .int .i64 q.b] 26))) := bal (pal w p.v p.hi p.lo p.b) _
  have CB : Hid (∀ w : World, Calls Tryz.prog 6 #[] w fun e w' => e = .returned (.bool true) ∧ Below w.heap.size w w') := pkbegun_any
  have CC : Hid (∀ w' : World, Below w.heap.size w w' → Calls Tryz.prog 7 #[] w' fun e w'' => e = .returned (.bool true) ∧ Below w'.heap.size w' w'') := fun w' h => pbegun_any w' (hg.below h)
  clear hg
  have c0 : p.chk = 0 := (right_iff _ _ _ _ hp.1 hp.2.1 hp.2.2.1 hp.2.2.2).2 rp
  have eN : pkE p [] = 0 := by rw [pkE, if_pos c0]; rfl
  have eP : pkE p [p] = 0 := by rw [pkE, if_pos c0]; exact one_chk rp
  have okn : ∀ u ∈ ([] : List Pf), u.Ok := by simp
  have slN : ∀ w : World, Sl w none [] := fun w j hj => by simp at hj
  have CF : Hid (∀ w' : World, Calls Tryz.prog 12 #[.agg #[.bool p.v, .int .u64 p.hi, .int .u64 p.lo, .int .i64 p.b], .slice none 0 0] w' fun e w'' => ∃ g c, e = .returned (.tuple #[.slice (some ⟨g, 0, none⟩) 1 c, .int .i64 0]) ∧ Has4 w'' g p.v p.hi p.lo p.b ∧ Below w'.heap.size w' w'') := fun w' =>
    (pFree_ok p none 0 [] w' hp okn (slN w') eN).mono fun e w'' ⟨v, M, he, ho, hn, hb⟩ => by
      have := hn.uniq (room_nil rp)
      subst this
      obtain ⟨g, c, rfl, h4⟩ := row_has4 ho
      exact ⟨g, c, he, h4, hb⟩
  have CG : Hid (∀ w' : World, Calls Tryz.prog 12 #[.agg #[.bool p.v, .int .u64 p.hi, .int .u64 p.lo, .int .i64 p.b], .slice (some ⟨w'.heap.size, 0, none⟩) 1 1] (w'.alloc (.cells #[.bool p.v, .int .u64 p.hi, .int .u64 p.lo, .int .i64 p.b] 26)) fun e w'' => ∃ a c, e = .returned (.tuple #[.slice a 0 c, .int .i64 0]) ∧ Below w'.heap.size w' w'') := fun w' =>
    (pFree_ok p (some ⟨w'.heap.size, 0, none⟩) 1 [p] _ hp (fun u hu => by rw [List.mem_singleton] at hu; subst hu; exact hp) (sl_one1 w' p) eP).mono fun e w'' ⟨v, M, he, ho, hn, hb⟩ => by
      have := hn.uniq room_self
      subst this
      obtain ⟨a, c, rfl, _, _⟩ := own_sl ho
      exact ⟨a, c, he, btr (bal (Below.refl _ _) _) hb⟩
  have C1 : Hid (∀ w' : World, Calls Tryz.prog 5 #[.agg #[.bool p.v, .int .u64 p.hi, .int .u64 p.lo, .int .i64 p.b], .slice none 0 0, .int .i64 bits] w' fun e w'' => e = .returned (.tuple #[.agg #[.bool p.v, .int .u64 p.hi, .int .u64 p.lo, .int .i64 bits], .int .i64 0]) ∧ Below w'.heap.size w' w'') := fun w' =>
    (pFirst_ok p none 0 [] bits w' hp okn (slN w') eN hr.1 hr.2).mono fun e w'' ⟨M, hn, hb, hx⟩ => by
      have := hn.uniq (room_nil rp)
      subst this
      rw [wide_one hr.1] at hx
      rcases hx with ⟨k, _⟩ | ⟨x, k, he⟩
      · exact absurd k (by simp)
      · injection k with k; subst k; exact ⟨he, hb⟩
  have d0 : q.chk = 0 := (right_iff _ _ _ _ hq.1 hq.2.1 hq.2.2.1 hq.2.2.2).2 rq
  have CH : Hid (∀ w' : World, Calls Tryz.prog 9 #[.agg #[.bool p.v, .int .u64 p.hi, .int .u64 p.lo, .int .i64 p.b], .agg #[.bool q.v, .int .u64 q.hi, .int .u64 q.lo, .int .i64 q.b]] w' fun e w'' => e = .returned (.tuple #[.bool true, .int .i64 0]) ∧ Below w'.heap.size w' w'') := fun w' => by
    have := has_ok p.v p.hi p.lo p.b q.v q.hi q.lo q.b w' hp.1 hp.2.1 hp.2.2.1 hp.2.2.2 hq.1 hq.2.1 hq.2.2.1 hq.2.2.2 (by rw [two, if_pos (show pchk p.v p.hi p.lo p.b = 0 from c0)]; exact d0)
    rw [show hasB p.v p.hi p.lo p.b q.v q.hi q.lo q.b = true from ha] at this
    exact this
  have CI : Hid (∀ w' : World, Calls Tryz.prog 9 #[.agg #[.bool q.v, .int .u64 q.hi, .int .u64 q.lo, .int .i64 q.b], .agg #[.bool p.v, .int .u64 p.hi, .int .u64 p.lo, .int .i64 p.b]] w' fun e w'' => ∃ y, e = .returned (.tuple #[.bool y, .int .i64 0]) ∧ Below w'.heap.size w' w'') := fun w' =>
    (has_ok q.v q.hi q.lo q.b p.v p.hi p.lo p.b w' hq.1 hq.2.1 hq.2.2.1 hq.2.2.2 hp.1 hp.2.1 hp.2.2.1 hp.2.2.2 (by rw [two, if_pos (show pchk q.v q.hi q.lo q.b = 0 from d0)]; exact c0)).mono fun e w'' ⟨h1, h2⟩ => ⟨_, h1, h2⟩
  have Eq1 : ∀ w : World, (binOp .neq 26 (.agg #[.bool p.v, .int .u64 p.hi, .int .u64 p.lo, .int .i64 p.b]) (.agg #[.bool p.v, .int .u64 p.hi, .int .u64 p.lo, .int .i64 p.b])).run Tryz.prog w = .ok (.bool false) w := fun w => by rw [neq_pf, show eqP p.v p.hi p.lo p.b p.v p.hi p.lo p.b = true from eqP_iff.2 ⟨rfl, rfl, rfl, rfl⟩]; rfl
  have Eq2 : ∀ w : World, (binOp .neq 24 (.agg #[.bool p.v, .int .u64 p.hi, .int .u64 p.lo]) (.agg #[.bool p.v, .int .u64 p.hi, .int .u64 p.lo])).run Tryz.prog w = .ok (.bool false) w := fun w => by rw [neq_addr]; simp [eqA]
  have Eq3 : (bits != bits) = false := by simp
  have Eq4 : ∀ w : World, (binOp .eql 26 (.agg #[.bool p.v, .int .u64 p.hi, .int .u64 p.lo, .int .i64 bits]) (.agg #[.bool p.v, .int .u64 p.hi, .int .u64 p.lo, .int .i64 bits])).run Tryz.prog w = .ok (.bool true) w := fun w => by rw [eql_pf, show eqP p.v p.hi p.lo bits p.v p.hi p.lo bits = true from eqP_iff.2 ⟨rfl, rfl, rfl, rfl⟩]
  clear hp hq rp c0 eN eP okn slN hr rq ha d0
  go_enter Tryz.func4, Tryz.ntmps4
  go_wp2_with fail
  refine (CB.out _).mono ?_
  rintro e w1 ⟨rfl, hb⟩
  replace HB := Lib.hid (btr HB.out hb)
  replace HP := Lib.hid (HP.out.below hb)
  replace HQ := Lib.hid (HQ.out.below hb)
  clear hb
  go_wp2_with fail
  refine (CC.out _ HB.out).mono ?_
  rintro e w2 ⟨rfl, hb⟩
  replace HB := Lib.hid (btr HB.out hb)
  replace HP := Lib.hid (HP.out.below hb)
  replace HQ := Lib.hid (HQ.out.below hb)
  clear hb
  obtain ⟨p0, p1, p2, p3, p4⟩ := HP.out
  obtain ⟨q0, q1, q2, q3, q4⟩ := HQ.out
  go_wp2_with fail
  refine (CF.out _).mono ?_
  rintro e w3 ⟨gl, cl, rfl, h4, hb⟩
  clear p0 p1 p2 p3 p4 q0 q1 q2 q3 q4
  have HL := Lib.hid h4
  replace HB := Lib.hid (btr HB.out hb)
  replace HP := Lib.hid (HP.out.below hb)
  replace HQ := Lib.hid (HQ.out.below hb)
  clear hb h4 CF
  obtain ⟨p0, p1, p2, p3, p4⟩ := HP.out
  obtain ⟨q0, q1, q2, q3, q4⟩ := HQ.out
  go_wp2_with fail
  refine (CG.out _).mono ?_
  rintro e w4 ⟨an, cn, rfl, hb⟩
  clear p0 p1 p2 p3 p4 q0 q1 q2 q3 q4
  replace HB := Lib.hid (btr HB.out hb)
  replace HP := Lib.hid (HP.out.below hb)
  replace HQ := Lib.hid (HQ.out.below hb)
  replace HL := Lib.hid (HL.out.below hb)
  clear hb CG
  obtain ⟨p0, p1, p2, p3, p4⟩ := HP.out
  obtain ⟨q0, q1, q2, q3, q4⟩ := HQ.out
  obtain ⟨l0, l1, l2, l3, l4⟩ := HL.out
  go_wp2_with fail
  go_region
  clear p0 p1 p2 p3 p4 q0 q1 q2 q3 q4 l0 l1 l2 l3 l4
  replace HB := Lib.hid HB.out.drew
  replace HP := Lib.hid (HP.out.below (Below.refl _ _).drew)
  replace HQ := Lib.hid (HQ.out.below (Below.refl _ _).drew)
  replace HL := Lib.hid (HL.out.below (Below.refl _ _).drew)
  generalize w4.drew = wd4 at *
  obtain ⟨p0, p1, p2, p3, p4⟩ := HP.out
  obtain ⟨q0, q1, q2, q3, q4⟩ := HQ.out
  go_wp2_with fail
  refine (C1.out _).mono ?_
  rintro e w5 ⟨rfl, hb⟩
  clear p0 p1 p2 p3 p4 q0 q1 q2 q3 q4
  replace HB := Lib.hid (btr HB.out hb)
  replace HP := Lib.hid (HP.out.below hb)
  replace HQ := Lib.hid (HQ.out.below hb)
  clear hb
  have HX := Lib.hid (Has4.new w5 p.v p.hi p.lo bits 26)
  replace HB := Lib.hid (bal HB.out (.cells #[.bool p.v, .int .u64 p.hi, .int .u64 p.lo, .int .i64 bits] 26))
  replace HP := Lib.hid (HP.out.alloc (.cells #[.bool p.v, .int .u64 p.hi, .int .u64 p.lo, .int .i64 bits] 26))
  replace HQ := Lib.hid (HQ.out.alloc (.cells #[.bool p.v, .int .u64 p.hi, .int .u64 p.lo, .int .i64 bits] 26))
  clear C1
  obtain ⟨x0, x1, x2, x3, x4⟩ := HX.out
  obtain ⟨p0, p1, p2, p3, p4⟩ := HP.out
  obtain ⟨q0, q1, q2, q3, q4⟩ := HQ.out
  go_wp2_with fail
  refine (CH.out _).mono ?_
  rintro e w6 ⟨rfl, hb⟩
  clear p0 p1 p2 p3 p4 q0 q1 q2 q3 q4
  replace HB := Lib.hid (btr HB.out hb)
  replace HP := Lib.hid (HP.out.below hb)
  replace HQ := Lib.hid (HQ.out.below hb)
  replace HX := Lib.hid (HX.out.below hb)
  clear hb
  clear x0 x1 x2 x3 x4 CH
  obtain ⟨p0, p1, p2, p3, p4⟩ := HP.out
  obtain ⟨q0, q1, q2, q3, q4⟩ := HQ.out
  go_wp2_with fail
  refine (CI.out _).mono ?_
  rintro e w7 ⟨y, rfl, hb⟩
  clear p0 p1 p2 p3 p4 q0 q1 q2 q3 q4
  replace HB := Lib.hid (btr HB.out hb)
  replace HP := Lib.hid (HP.out.below hb)
  replace HQ := Lib.hid (HQ.out.below hb)
  replace HX := Lib.hid (HX.out.below hb)
  clear hb
  clear CI
  go_wp2
  go_ret
  exact ⟨rfl, HB.out⟩

set_option maxHeartbeats 32000000 in
set_option maxRecDepth 100000 in
theorem pa_in_b (p q : Pf) (bits : Int) (w : World) (hg : Good w) (hp : p.Ok) (hq : q.Ok) (rp : p.R) (hr : p.b ≤ bits ∧ bits ≤ wid p.v) (rq : q.R) (ha : p.has q = false) (hb' : q.has p = true) :
    Calls Tryz.prog 4 #[.agg #[.bool p.v, .int .u64 p.hi, .int .u64 p.lo, .int .i64 p.b], .agg #[.bool q.v, .int .u64 q.hi, .int .u64 q.lo, .int .i64 q.b], .int .i64 bits] w fun e w' => e = .returned (.bool true) ∧ Below w.heap.size w w' := by
  have HP : Hid (Has4 ((w.alloc (.cells #[.bool p.v, .int .u64 p.hi, .int .u64 p.lo, .int .i64 p.b] 26)).alloc (.cells #[.bool q.v, .int .u64 q.hi, .int .u64 q.lo, .int .i64 q.b] 26)) w.heap.size p.v p.hi p.lo p.b) := (Has4.new w p.v p.hi p.lo p.b 26).alloc _
  have HQ : Hid (Has4 ((w.alloc (.cells #[.bool p.v, .int .u64 p.hi, .int .u64 p.lo, .int .i64 p.b] 26)).alloc (.cells #[.bool q.v, .int .u64 q.hi, .int .u64 q.lo, .int .i64 q.b] 26)) (w.heap.size + 1) q.v q.hi q.lo q.b) := by
    have := Has4.new (w.alloc (.cells #[.bool p.v, .int .u64 p.hi, .int .u64 p.lo, .int .i64 p.b] 26)) q.v q.hi q.lo q.b 26
    rw [World.size_alloc] at this
    exact this
  have HB : Hid (Below w.heap.size w ((w.alloc (.cells #[.bool p.v, .int .u64 p.hi, .int .u64 p.lo, .int .i64 p.b] 26)).alloc (.cells #[.bool q.v, .int .u64 q.hi, .int .u64 q.lo, .int .i64 q.b] 26))) := bal (pal w p.v p.hi p.lo p.b) _
  have CB : Hid (∀ w : World, Calls Tryz.prog 6 #[] w fun e w' => e = .returned (.bool true) ∧ Below w.heap.size w w') := pkbegun_any
  have CC : Hid (∀ w' : World, Below w.heap.size w w' → Calls Tryz.prog 7 #[] w' fun e w'' => e = .returned (.bool true) ∧ Below w'.heap.size w' w'') := fun w' h => pbegun_any w' (hg.below h)
  clear hg
  have c0 : p.chk = 0 := (right_iff _ _ _ _ hp.1 hp.2.1 hp.2.2.1 hp.2.2.2).2 rp
  have eN : pkE p [] = 0 := by rw [pkE, if_pos c0]; rfl
  have eP : pkE p [p] = 0 := by rw [pkE, if_pos c0]; exact one_chk rp
  have okn : ∀ u ∈ ([] : List Pf), u.Ok := by simp
  have slN : ∀ w : World, Sl w none [] := fun w j hj => by simp at hj
  have CF : Hid (∀ w' : World, Calls Tryz.prog 12 #[.agg #[.bool p.v, .int .u64 p.hi, .int .u64 p.lo, .int .i64 p.b], .slice none 0 0] w' fun e w'' => ∃ g c, e = .returned (.tuple #[.slice (some ⟨g, 0, none⟩) 1 c, .int .i64 0]) ∧ Has4 w'' g p.v p.hi p.lo p.b ∧ Below w'.heap.size w' w'') := fun w' =>
    (pFree_ok p none 0 [] w' hp okn (slN w') eN).mono fun e w'' ⟨v, M, he, ho, hn, hb⟩ => by
      have := hn.uniq (room_nil rp)
      subst this
      obtain ⟨g, c, rfl, h4⟩ := row_has4 ho
      exact ⟨g, c, he, h4, hb⟩
  have CG : Hid (∀ w' : World, Calls Tryz.prog 12 #[.agg #[.bool p.v, .int .u64 p.hi, .int .u64 p.lo, .int .i64 p.b], .slice (some ⟨w'.heap.size, 0, none⟩) 1 1] (w'.alloc (.cells #[.bool p.v, .int .u64 p.hi, .int .u64 p.lo, .int .i64 p.b] 26)) fun e w'' => ∃ a c, e = .returned (.tuple #[.slice a 0 c, .int .i64 0]) ∧ Below w'.heap.size w' w'') := fun w' =>
    (pFree_ok p (some ⟨w'.heap.size, 0, none⟩) 1 [p] _ hp (fun u hu => by rw [List.mem_singleton] at hu; subst hu; exact hp) (sl_one1 w' p) eP).mono fun e w'' ⟨v, M, he, ho, hn, hb⟩ => by
      have := hn.uniq room_self
      subst this
      obtain ⟨a, c, rfl, _, _⟩ := own_sl ho
      exact ⟨a, c, he, btr (bal (Below.refl _ _) _) hb⟩
  have C1 : Hid (∀ w' : World, Calls Tryz.prog 5 #[.agg #[.bool p.v, .int .u64 p.hi, .int .u64 p.lo, .int .i64 p.b], .slice none 0 0, .int .i64 bits] w' fun e w'' => e = .returned (.tuple #[.agg #[.bool p.v, .int .u64 p.hi, .int .u64 p.lo, .int .i64 bits], .int .i64 0]) ∧ Below w'.heap.size w' w'') := fun w' =>
    (pFirst_ok p none 0 [] bits w' hp okn (slN w') eN hr.1 hr.2).mono fun e w'' ⟨M, hn, hb, hx⟩ => by
      have := hn.uniq (room_nil rp)
      subst this
      rw [wide_one hr.1] at hx
      rcases hx with ⟨k, _⟩ | ⟨x, k, he⟩
      · exact absurd k (by simp)
      · injection k with k; subst k; exact ⟨he, hb⟩
  have d0 : q.chk = 0 := (right_iff _ _ _ _ hq.1 hq.2.1 hq.2.2.1 hq.2.2.2).2 rq
  have CH : Hid (∀ w' : World, Calls Tryz.prog 9 #[.agg #[.bool p.v, .int .u64 p.hi, .int .u64 p.lo, .int .i64 p.b], .agg #[.bool q.v, .int .u64 q.hi, .int .u64 q.lo, .int .i64 q.b]] w' fun e w'' => e = .returned (.tuple #[.bool false, .int .i64 0]) ∧ Below w'.heap.size w' w'') := fun w' => by
    have := has_ok p.v p.hi p.lo p.b q.v q.hi q.lo q.b w' hp.1 hp.2.1 hp.2.2.1 hp.2.2.2 hq.1 hq.2.1 hq.2.2.1 hq.2.2.2 (by rw [two, if_pos (show pchk p.v p.hi p.lo p.b = 0 from c0)]; exact d0)
    rw [show hasB p.v p.hi p.lo p.b q.v q.hi q.lo q.b = false from ha] at this
    exact this
  have CI : Hid (∀ w' : World, Calls Tryz.prog 9 #[.agg #[.bool q.v, .int .u64 q.hi, .int .u64 q.lo, .int .i64 q.b], .agg #[.bool p.v, .int .u64 p.hi, .int .u64 p.lo, .int .i64 p.b]] w' fun e w'' => e = .returned (.tuple #[.bool true, .int .i64 0]) ∧ Below w'.heap.size w' w'') := fun w' => by
    have := has_ok q.v q.hi q.lo q.b p.v p.hi p.lo p.b w' hq.1 hq.2.1 hq.2.2.1 hq.2.2.2 hp.1 hp.2.1 hp.2.2.1 hp.2.2.2 (by rw [two, if_pos (show pchk q.v q.hi q.lo q.b = 0 from d0)]; exact c0)
    rw [show hasB q.v q.hi q.lo q.b p.v p.hi p.lo p.b = true from hb'] at this
    exact this
  have Eq1 : ∀ w : World, (binOp .neq 26 (.agg #[.bool p.v, .int .u64 p.hi, .int .u64 p.lo, .int .i64 p.b]) (.agg #[.bool p.v, .int .u64 p.hi, .int .u64 p.lo, .int .i64 p.b])).run Tryz.prog w = .ok (.bool false) w := fun w => by rw [neq_pf, show eqP p.v p.hi p.lo p.b p.v p.hi p.lo p.b = true from eqP_iff.2 ⟨rfl, rfl, rfl, rfl⟩]; rfl
  have Eq2 : ∀ w : World, (binOp .neq 24 (.agg #[.bool p.v, .int .u64 p.hi, .int .u64 p.lo]) (.agg #[.bool p.v, .int .u64 p.hi, .int .u64 p.lo])).run Tryz.prog w = .ok (.bool false) w := fun w => by rw [neq_addr]; simp [eqA]
  have Eq3 : (bits != bits) = false := by simp
  have Eq4 : ∀ w : World, (binOp .eql 26 (.agg #[.bool p.v, .int .u64 p.hi, .int .u64 p.lo, .int .i64 bits]) (.agg #[.bool p.v, .int .u64 p.hi, .int .u64 p.lo, .int .i64 bits])).run Tryz.prog w = .ok (.bool true) w := fun w => by rw [eql_pf, show eqP p.v p.hi p.lo bits p.v p.hi p.lo bits = true from eqP_iff.2 ⟨rfl, rfl, rfl, rfl⟩]
  clear hp hq rp c0 eN eP okn slN hr rq ha hb' d0
  go_enter Tryz.func4, Tryz.ntmps4
  go_wp2_with fail
  refine (CB.out _).mono ?_
  rintro e w1 ⟨rfl, hb⟩
  replace HB := Lib.hid (btr HB.out hb)
  replace HP := Lib.hid (HP.out.below hb)
  replace HQ := Lib.hid (HQ.out.below hb)
  clear hb
  go_wp2_with fail
  refine (CC.out _ HB.out).mono ?_
  rintro e w2 ⟨rfl, hb⟩
  replace HB := Lib.hid (btr HB.out hb)
  replace HP := Lib.hid (HP.out.below hb)
  replace HQ := Lib.hid (HQ.out.below hb)
  clear hb
  obtain ⟨p0, p1, p2, p3, p4⟩ := HP.out
  obtain ⟨q0, q1, q2, q3, q4⟩ := HQ.out
  go_wp2_with fail
  refine (CF.out _).mono ?_
  rintro e w3 ⟨gl, cl, rfl, h4, hb⟩
  clear p0 p1 p2 p3 p4 q0 q1 q2 q3 q4
  have HL := Lib.hid h4
  replace HB := Lib.hid (btr HB.out hb)
  replace HP := Lib.hid (HP.out.below hb)
  replace HQ := Lib.hid (HQ.out.below hb)
  clear hb h4 CF
  obtain ⟨p0, p1, p2, p3, p4⟩ := HP.out
  obtain ⟨q0, q1, q2, q3, q4⟩ := HQ.out
  go_wp2_with fail
  refine (CG.out _).mono ?_
  rintro e w4 ⟨an, cn, rfl, hb⟩
  clear p0 p1 p2 p3 p4 q0 q1 q2 q3 q4
  replace HB := Lib.hid (btr HB.out hb)
  replace HP := Lib.hid (HP.out.below hb)
  replace HQ := Lib.hid (HQ.out.below hb)
  replace HL := Lib.hid (HL.out.below hb)
  clear hb CG
  obtain ⟨p0, p1, p2, p3, p4⟩ := HP.out
  obtain ⟨q0, q1, q2, q3, q4⟩ := HQ.out
  obtain ⟨l0, l1, l2, l3, l4⟩ := HL.out
  go_wp2_with fail
  go_region
  clear p0 p1 p2 p3 p4 q0 q1 q2 q3 q4 l0 l1 l2 l3 l4
  replace HB := Lib.hid HB.out.drew
  replace HP := Lib.hid (HP.out.below (Below.refl _ _).drew)
  replace HQ := Lib.hid (HQ.out.below (Below.refl _ _).drew)
  replace HL := Lib.hid (HL.out.below (Below.refl _ _).drew)
  generalize w4.drew = wd4 at *
  obtain ⟨p0, p1, p2, p3, p4⟩ := HP.out
  obtain ⟨q0, q1, q2, q3, q4⟩ := HQ.out
  go_wp2_with fail
  refine (C1.out _).mono ?_
  rintro e w5 ⟨rfl, hb⟩
  clear p0 p1 p2 p3 p4 q0 q1 q2 q3 q4
  replace HB := Lib.hid (btr HB.out hb)
  replace HP := Lib.hid (HP.out.below hb)
  replace HQ := Lib.hid (HQ.out.below hb)
  clear hb
  have HX := Lib.hid (Has4.new w5 p.v p.hi p.lo bits 26)
  replace HB := Lib.hid (bal HB.out (.cells #[.bool p.v, .int .u64 p.hi, .int .u64 p.lo, .int .i64 bits] 26))
  replace HP := Lib.hid (HP.out.alloc (.cells #[.bool p.v, .int .u64 p.hi, .int .u64 p.lo, .int .i64 bits] 26))
  replace HQ := Lib.hid (HQ.out.alloc (.cells #[.bool p.v, .int .u64 p.hi, .int .u64 p.lo, .int .i64 bits] 26))
  clear C1
  obtain ⟨x0, x1, x2, x3, x4⟩ := HX.out
  obtain ⟨p0, p1, p2, p3, p4⟩ := HP.out
  obtain ⟨q0, q1, q2, q3, q4⟩ := HQ.out
  go_wp2_with fail
  refine (CH.out _).mono ?_
  rintro e w6 ⟨rfl, hb⟩
  clear p0 p1 p2 p3 p4 q0 q1 q2 q3 q4
  replace HB := Lib.hid (btr HB.out hb)
  replace HP := Lib.hid (HP.out.below hb)
  replace HQ := Lib.hid (HQ.out.below hb)
  replace HX := Lib.hid (HX.out.below hb)
  clear hb
  clear x0 x1 x2 x3 x4 CH
  obtain ⟨p0, p1, p2, p3, p4⟩ := HP.out
  obtain ⟨q0, q1, q2, q3, q4⟩ := HQ.out
  go_wp2_with fail
  refine (CI.out _).mono ?_
  rintro e w7 ⟨rfl, hb⟩
  clear p0 p1 p2 p3 p4 q0 q1 q2 q3 q4
  replace HB := Lib.hid (btr HB.out hb)
  replace HP := Lib.hid (HP.out.below hb)
  replace HQ := Lib.hid (HQ.out.below hb)
  replace HX := Lib.hid (HX.out.below hb)
  clear hb
  clear CI
  go_wp2
  go_ret
  exact ⟨rfl, HB.out⟩

set_option maxHeartbeats 32000000 in
set_option maxRecDepth 100000 in
theorem pa_in_apart (p q : Pf) (bits : Int) (w : World) (hg : Good w) (hp : p.Ok) (hq : q.Ok) (rp : p.R) (hr : p.b ≤ bits ∧ bits ≤ wid p.v) (rq : q.R) (ha : p.has q = false) (hb' : q.has p = false) :
    Calls Tryz.prog 4 #[.agg #[.bool p.v, .int .u64 p.hi, .int .u64 p.lo, .int .i64 p.b], .agg #[.bool q.v, .int .u64 q.hi, .int .u64 q.lo, .int .i64 q.b], .int .i64 bits] w fun e w' => e = .returned (.bool true) ∧ Below w.heap.size w w' := by
  have HP : Hid (Has4 ((w.alloc (.cells #[.bool p.v, .int .u64 p.hi, .int .u64 p.lo, .int .i64 p.b] 26)).alloc (.cells #[.bool q.v, .int .u64 q.hi, .int .u64 q.lo, .int .i64 q.b] 26)) w.heap.size p.v p.hi p.lo p.b) := (Has4.new w p.v p.hi p.lo p.b 26).alloc _
  have HQ : Hid (Has4 ((w.alloc (.cells #[.bool p.v, .int .u64 p.hi, .int .u64 p.lo, .int .i64 p.b] 26)).alloc (.cells #[.bool q.v, .int .u64 q.hi, .int .u64 q.lo, .int .i64 q.b] 26)) (w.heap.size + 1) q.v q.hi q.lo q.b) := by
    have := Has4.new (w.alloc (.cells #[.bool p.v, .int .u64 p.hi, .int .u64 p.lo, .int .i64 p.b] 26)) q.v q.hi q.lo q.b 26
    rw [World.size_alloc] at this
    exact this
  have HB : Hid (Below w.heap.size w ((w.alloc (.cells #[.bool p.v, .int .u64 p.hi, .int .u64 p.lo, .int .i64 p.b] 26)).alloc (.cells #[.bool q.v, .int .u64 q.hi, .int .u64 q.lo, .int .i64 q.b] 26))) := bal (pal w p.v p.hi p.lo p.b) _
  have CB : Hid (∀ w : World, Calls Tryz.prog 6 #[] w fun e w' => e = .returned (.bool true) ∧ Below w.heap.size w w') := pkbegun_any
  have CC : Hid (∀ w' : World, Below w.heap.size w w' → Calls Tryz.prog 7 #[] w' fun e w'' => e = .returned (.bool true) ∧ Below w'.heap.size w' w'') := fun w' h => pbegun_any w' (hg.below h)
  clear hg
  have c0 : p.chk = 0 := (right_iff _ _ _ _ hp.1 hp.2.1 hp.2.2.1 hp.2.2.2).2 rp
  have eN : pkE p [] = 0 := by rw [pkE, if_pos c0]; rfl
  have eP : pkE p [p] = 0 := by rw [pkE, if_pos c0]; exact one_chk rp
  have okn : ∀ u ∈ ([] : List Pf), u.Ok := by simp
  have slN : ∀ w : World, Sl w none [] := fun w j hj => by simp at hj
  have CF : Hid (∀ w' : World, Calls Tryz.prog 12 #[.agg #[.bool p.v, .int .u64 p.hi, .int .u64 p.lo, .int .i64 p.b], .slice none 0 0] w' fun e w'' => ∃ g c, e = .returned (.tuple #[.slice (some ⟨g, 0, none⟩) 1 c, .int .i64 0]) ∧ Has4 w'' g p.v p.hi p.lo p.b ∧ Below w'.heap.size w' w'') := fun w' =>
    (pFree_ok p none 0 [] w' hp okn (slN w') eN).mono fun e w'' ⟨v, M, he, ho, hn, hb⟩ => by
      have := hn.uniq (room_nil rp)
      subst this
      obtain ⟨g, c, rfl, h4⟩ := row_has4 ho
      exact ⟨g, c, he, h4, hb⟩
  have CG : Hid (∀ w' : World, Calls Tryz.prog 12 #[.agg #[.bool p.v, .int .u64 p.hi, .int .u64 p.lo, .int .i64 p.b], .slice (some ⟨w'.heap.size, 0, none⟩) 1 1] (w'.alloc (.cells #[.bool p.v, .int .u64 p.hi, .int .u64 p.lo, .int .i64 p.b] 26)) fun e w'' => ∃ a c, e = .returned (.tuple #[.slice a 0 c, .int .i64 0]) ∧ Below w'.heap.size w' w'') := fun w' =>
    (pFree_ok p (some ⟨w'.heap.size, 0, none⟩) 1 [p] _ hp (fun u hu => by rw [List.mem_singleton] at hu; subst hu; exact hp) (sl_one1 w' p) eP).mono fun e w'' ⟨v, M, he, ho, hn, hb⟩ => by
      have := hn.uniq room_self
      subst this
      obtain ⟨a, c, rfl, _, _⟩ := own_sl ho
      exact ⟨a, c, he, btr (bal (Below.refl _ _) _) hb⟩
  have C1 : Hid (∀ w' : World, Calls Tryz.prog 5 #[.agg #[.bool p.v, .int .u64 p.hi, .int .u64 p.lo, .int .i64 p.b], .slice none 0 0, .int .i64 bits] w' fun e w'' => e = .returned (.tuple #[.agg #[.bool p.v, .int .u64 p.hi, .int .u64 p.lo, .int .i64 bits], .int .i64 0]) ∧ Below w'.heap.size w' w'') := fun w' =>
    (pFirst_ok p none 0 [] bits w' hp okn (slN w') eN hr.1 hr.2).mono fun e w'' ⟨M, hn, hb, hx⟩ => by
      have := hn.uniq (room_nil rp)
      subst this
      rw [wide_one hr.1] at hx
      rcases hx with ⟨k, _⟩ | ⟨x, k, he⟩
      · exact absurd k (by simp)
      · injection k with k; subst k; exact ⟨he, hb⟩
  have d0 : q.chk = 0 := (right_iff _ _ _ _ hq.1 hq.2.1 hq.2.2.1 hq.2.2.2).2 rq
  have CH : Hid (∀ w' : World, Calls Tryz.prog 9 #[.agg #[.bool p.v, .int .u64 p.hi, .int .u64 p.lo, .int .i64 p.b], .agg #[.bool q.v, .int .u64 q.hi, .int .u64 q.lo, .int .i64 q.b]] w' fun e w'' => e = .returned (.tuple #[.bool false, .int .i64 0]) ∧ Below w'.heap.size w' w'') := fun w' => by
    have := has_ok p.v p.hi p.lo p.b q.v q.hi q.lo q.b w' hp.1 hp.2.1 hp.2.2.1 hp.2.2.2 hq.1 hq.2.1 hq.2.2.1 hq.2.2.2 (by rw [two, if_pos (show pchk p.v p.hi p.lo p.b = 0 from c0)]; exact d0)
    rw [show hasB p.v p.hi p.lo p.b q.v q.hi q.lo q.b = false from ha] at this
    exact this
  have CI : Hid (∀ w' : World, Calls Tryz.prog 9 #[.agg #[.bool q.v, .int .u64 q.hi, .int .u64 q.lo, .int .i64 q.b], .agg #[.bool p.v, .int .u64 p.hi, .int .u64 p.lo, .int .i64 p.b]] w' fun e w'' => e = .returned (.tuple #[.bool false, .int .i64 0]) ∧ Below w'.heap.size w' w'') := fun w' => by
    have := has_ok q.v q.hi q.lo q.b p.v p.hi p.lo p.b w' hq.1 hq.2.1 hq.2.2.1 hq.2.2.2 hp.1 hp.2.1 hp.2.2.1 hp.2.2.2 (by rw [two, if_pos (show pchk q.v q.hi q.lo q.b = 0 from d0)]; exact c0)
    rw [show hasB q.v q.hi q.lo q.b p.v p.hi p.lo p.b = false from hb'] at this
    exact this
  have eQ : pkE p [q] = 0 := by rw [pkE, if_pos c0]; exact one_chk rq
  have C2 : Hid (∀ w' : World, Calls Tryz.prog 5 #[.agg #[.bool p.v, .int .u64 p.hi, .int .u64 p.lo, .int .i64 p.b], .slice (some ⟨w'.heap.size, 0, none⟩) 1 1, .int .i64 bits] (w'.alloc (.cells #[.bool q.v, .int .u64 q.hi, .int .u64 q.lo, .int .i64 q.b] 26)) fun e w'' => e = .returned (.tuple #[.agg #[.bool p.v, .int .u64 p.hi, .int .u64 p.lo, .int .i64 bits], .int .i64 0]) ∧ Below w'.heap.size w' w'') := fun w' =>
    (pFirst_ok p (some ⟨w'.heap.size, 0, none⟩) 1 [q] bits _ hp (fun u hu => by rw [List.mem_singleton] at hu; subst hu; exact hq) (sl_one1 w' q) eQ hr.1 hr.2).mono fun e w'' ⟨M, hn, hb, hx⟩ => by
      have := hn.uniq (room_apart rp rq ha hb')
      subst this
      rw [wide_one hr.1] at hx
      rcases hx with ⟨k, _⟩ | ⟨x, k, he⟩
      · exact absurd k (by simp)
      · injection k with k; subst k; exact ⟨he, btr (bal (Below.refl _ _) _) hb⟩
  have Eq1 : ∀ w : World, (binOp .neq 26 (.agg #[.bool p.v, .int .u64 p.hi, .int .u64 p.lo, .int .i64 p.b]) (.agg #[.bool p.v, .int .u64 p.hi, .int .u64 p.lo, .int .i64 p.b])).run Tryz.prog w = .ok (.bool false) w := fun w => by rw [neq_pf, show eqP p.v p.hi p.lo p.b p.v p.hi p.lo p.b = true from eqP_iff.2 ⟨rfl, rfl, rfl, rfl⟩]; rfl
  have Eq2 : ∀ w : World, (binOp .neq 24 (.agg #[.bool p.v, .int .u64 p.hi, .int .u64 p.lo]) (.agg #[.bool p.v, .int .u64 p.hi, .int .u64 p.lo])).run Tryz.prog w = .ok (.bool false) w := fun w => by rw [neq_addr]; simp [eqA]
  have Eq3 : (bits != bits) = false := by simp
  have Eq4 : ∀ w : World, (binOp .eql 26 (.agg #[.bool p.v, .int .u64 p.hi, .int .u64 p.lo, .int .i64 bits]) (.agg #[.bool p.v, .int .u64 p.hi, .int .u64 p.lo, .int .i64 bits])).run Tryz.prog w = .ok (.bool true) w := fun w => by rw [eql_pf, show eqP p.v p.hi p.lo bits p.v p.hi p.lo bits = true from eqP_iff.2 ⟨rfl, rfl, rfl, rfl⟩]
  clear hp hq rp c0 eN eP okn slN hr rq ha hb' d0 eQ
  go_enter Tryz.func4, Tryz.ntmps4
  go_wp2_with fail
  refine (CB.out _).mono ?_
  rintro e w1 ⟨rfl, hb⟩
  replace HB := Lib.hid (btr HB.out hb)
  replace HP := Lib.hid (HP.out.below hb)
  replace HQ := Lib.hid (HQ.out.below hb)
  clear hb
  go_wp2_with fail
  refine (CC.out _ HB.out).mono ?_
  rintro e w2 ⟨rfl, hb⟩
  replace HB := Lib.hid (btr HB.out hb)
  replace HP := Lib.hid (HP.out.below hb)
  replace HQ := Lib.hid (HQ.out.below hb)
  clear hb
  obtain ⟨p0, p1, p2, p3, p4⟩ := HP.out
  obtain ⟨q0, q1, q2, q3, q4⟩ := HQ.out
  go_wp2_with fail
  refine (CF.out _).mono ?_
  rintro e w3 ⟨gl, cl, rfl, h4, hb⟩
  clear p0 p1 p2 p3 p4 q0 q1 q2 q3 q4
  have HL := Lib.hid h4
  replace HB := Lib.hid (btr HB.out hb)
  replace HP := Lib.hid (HP.out.below hb)
  replace HQ := Lib.hid (HQ.out.below hb)
  clear hb h4 CF
  obtain ⟨p0, p1, p2, p3, p4⟩ := HP.out
  obtain ⟨q0, q1, q2, q3, q4⟩ := HQ.out
  go_wp2_with fail
  refine (CG.out _).mono ?_
  rintro e w4 ⟨an, cn, rfl, hb⟩
  clear p0 p1 p2 p3 p4 q0 q1 q2 q3 q4
  replace HB := Lib.hid (btr HB.out hb)
  replace HP := Lib.hid (HP.out.below hb)
  replace HQ := Lib.hid (HQ.out.below hb)
  replace HL := Lib.hid (HL.out.below hb)
  clear hb CG
  obtain ⟨p0, p1, p2, p3, p4⟩ := HP.out
  obtain ⟨q0, q1, q2, q3, q4⟩ := HQ.out
  obtain ⟨l0, l1, l2, l3, l4⟩ := HL.out
  go_wp2_with fail
  go_region
  clear p0 p1 p2 p3 p4 q0 q1 q2 q3 q4 l0 l1 l2 l3 l4
  replace HB := Lib.hid HB.out.drew
  replace HP := Lib.hid (HP.out.below (Below.refl _ _).drew)
  replace HQ := Lib.hid (HQ.out.below (Below.refl _ _).drew)
  replace HL := Lib.hid (HL.out.below (Below.refl _ _).drew)
  generalize w4.drew = wd4 at *
  obtain ⟨p0, p1, p2, p3, p4⟩ := HP.out
  obtain ⟨q0, q1, q2, q3, q4⟩ := HQ.out
  go_wp2_with fail
  refine (C1.out _).mono ?_
  rintro e w5 ⟨rfl, hb⟩
  clear p0 p1 p2 p3 p4 q0 q1 q2 q3 q4
  replace HB := Lib.hid (btr HB.out hb)
  replace HP := Lib.hid (HP.out.below hb)
  replace HQ := Lib.hid (HQ.out.below hb)
  clear hb
  have HX := Lib.hid (Has4.new w5 p.v p.hi p.lo bits 26)
  replace HB := Lib.hid (bal HB.out (.cells #[.bool p.v, .int .u64 p.hi, .int .u64 p.lo, .int .i64 bits] 26))
  replace HP := Lib.hid (HP.out.alloc (.cells #[.bool p.v, .int .u64 p.hi, .int .u64 p.lo, .int .i64 bits] 26))
  replace HQ := Lib.hid (HQ.out.alloc (.cells #[.bool p.v, .int .u64 p.hi, .int .u64 p.lo, .int .i64 bits] 26))
  clear C1
  obtain ⟨x0, x1, x2, x3, x4⟩ := HX.out
  obtain ⟨p0, p1, p2, p3, p4⟩ := HP.out
  obtain ⟨q0, q1, q2, q3, q4⟩ := HQ.out
  go_wp2_with fail
  refine (CH.out _).mono ?_
  rintro e w6 ⟨rfl, hb⟩
  clear p0 p1 p2 p3 p4 q0 q1 q2 q3 q4
  replace HB := Lib.hid (btr HB.out hb)
  replace HP := Lib.hid (HP.out.below hb)
  replace HQ := Lib.hid (HQ.out.below hb)
  replace HX := Lib.hid (HX.out.below hb)
  clear hb
  clear x0 x1 x2 x3 x4 CH
  obtain ⟨p0, p1, p2, p3, p4⟩ := HP.out
  obtain ⟨q0, q1, q2, q3, q4⟩ := HQ.out
  go_wp2_with fail
  refine (CI.out _).mono ?_
  rintro e w7 ⟨rfl, hb⟩
  clear p0 p1 p2 p3 p4 q0 q1 q2 q3 q4
  replace HB := Lib.hid (btr HB.out hb)
  replace HP := Lib.hid (HP.out.below hb)
  replace HQ := Lib.hid (HQ.out.below hb)
  replace HX := Lib.hid (HX.out.below hb)
  clear hb
  clear CI
  obtain ⟨p0, p1, p2, p3, p4⟩ := HP.out
  obtain ⟨q0, q1, q2, q3, q4⟩ := HQ.out
  go_wp2_with fail
  refine (C2.out _).mono ?_
  rintro e w8 ⟨rfl, hb⟩
  clear p0 p1 p2 p3 p4 q0 q1 q2 q3 q4
  replace HB := Lib.hid (btr HB.out hb)
  replace HP := Lib.hid (HP.out.below hb)
  replace HQ := Lib.hid (HQ.out.below hb)
  replace HX := Lib.hid (HX.out.below hb)
  clear hb C2
  have HY := Lib.hid (Has4.new w8 p.v p.hi p.lo bits 26)
  replace HB := Lib.hid (bal HB.out (.cells #[.bool p.v, .int .u64 p.hi, .int .u64 p.lo, .int .i64 bits] 26))
  replace HP := Lib.hid (HP.out.alloc (.cells #[.bool p.v, .int .u64 p.hi, .int .u64 p.lo, .int .i64 bits] 26))
  replace HQ := Lib.hid (HQ.out.alloc (.cells #[.bool p.v, .int .u64 p.hi, .int .u64 p.lo, .int .i64 bits] 26))
  replace HX := Lib.hid (HX.out.alloc (.cells #[.bool p.v, .int .u64 p.hi, .int .u64 p.lo, .int .i64 bits] 26))
  obtain ⟨x0, x1, x2, x3, x4⟩ := HX.out
  obtain ⟨y0, y1, y2, y3, y4⟩ := HY.out
  go_wp2
  go_ret
  exact ⟨rfl, HB.out⟩

set_option maxHeartbeats 32000000 in
set_option maxRecDepth 100000 in
theorem pa_out_bad (p q : Pf) (bits : Int) (w : World) (hg : Good w) (hp : p.Ok) (hq : q.Ok) (rp : p.R) (hr : bits < p.b ∨ wid p.v < bits) (hc : ¬ q.chk = 0) :
    Calls Tryz.prog 4 #[.agg #[.bool p.v, .int .u64 p.hi, .int .u64 p.lo, .int .i64 p.b], .agg #[.bool q.v, .int .u64 q.hi, .int .u64 q.lo, .int .i64 q.b], .int .i64 bits] w fun e w' => e = .returned (.bool true) ∧ Below w.heap.size w w' := by
  have HP : Hid (Has4 ((w.alloc (.cells #[.bool p.v, .int .u64 p.hi, .int .u64 p.lo, .int .i64 p.b] 26)).alloc (.cells #[.bool q.v, .int .u64 q.hi, .int .u64 q.lo, .int .i64 q.b] 26)) w.heap.size p.v p.hi p.lo p.b) := (Has4.new w p.v p.hi p.lo p.b 26).alloc _
  have HQ : Hid (Has4 ((w.alloc (.cells #[.bool p.v, .int .u64 p.hi, .int .u64 p.lo, .int .i64 p.b] 26)).alloc (.cells #[.bool q.v, .int .u64 q.hi, .int .u64 q.lo, .int .i64 q.b] 26)) (w.heap.size + 1) q.v q.hi q.lo q.b) := by
    have := Has4.new (w.alloc (.cells #[.bool p.v, .int .u64 p.hi, .int .u64 p.lo, .int .i64 p.b] 26)) q.v q.hi q.lo q.b 26
    rw [World.size_alloc] at this
    exact this
  have HB : Hid (Below w.heap.size w ((w.alloc (.cells #[.bool p.v, .int .u64 p.hi, .int .u64 p.lo, .int .i64 p.b] 26)).alloc (.cells #[.bool q.v, .int .u64 q.hi, .int .u64 q.lo, .int .i64 q.b] 26))) := bal (pal w p.v p.hi p.lo p.b) _
  have CB : Hid (∀ w : World, Calls Tryz.prog 6 #[] w fun e w' => e = .returned (.bool true) ∧ Below w.heap.size w w') := pkbegun_any
  have CC : Hid (∀ w' : World, Below w.heap.size w w' → Calls Tryz.prog 7 #[] w' fun e w'' => e = .returned (.bool true) ∧ Below w'.heap.size w' w'') := fun w' h => pbegun_any w' (hg.below h)
  clear hg
  have c0 : p.chk = 0 := (right_iff _ _ _ _ hp.1 hp.2.1 hp.2.2.1 hp.2.2.2).2 rp
  have eN : pkE p [] = 0 := by rw [pkE, if_pos c0]; rfl
  have eP : pkE p [p] = 0 := by rw [pkE, if_pos c0]; exact one_chk rp
  have okn : ∀ u ∈ ([] : List Pf), u.Ok := by simp
  have slN : ∀ w : World, Sl w none [] := fun w j hj => by simp at hj
  have CF : Hid (∀ w' : World, Calls Tryz.prog 12 #[.agg #[.bool p.v, .int .u64 p.hi, .int .u64 p.lo, .int .i64 p.b], .slice none 0 0] w' fun e w'' => ∃ g c, e = .returned (.tuple #[.slice (some ⟨g, 0, none⟩) 1 c, .int .i64 0]) ∧ Has4 w'' g p.v p.hi p.lo p.b ∧ Below w'.heap.size w' w'') := fun w' =>
    (pFree_ok p none 0 [] w' hp okn (slN w') eN).mono fun e w'' ⟨v, M, he, ho, hn, hb⟩ => by
      have := hn.uniq (room_nil rp)
      subst this
      obtain ⟨g, c, rfl, h4⟩ := row_has4 ho
      exact ⟨g, c, he, h4, hb⟩
  have CG : Hid (∀ w' : World, Calls Tryz.prog 12 #[.agg #[.bool p.v, .int .u64 p.hi, .int .u64 p.lo, .int .i64 p.b], .slice (some ⟨w'.heap.size, 0, none⟩) 1 1] (w'.alloc (.cells #[.bool p.v, .int .u64 p.hi, .int .u64 p.lo, .int .i64 p.b] 26)) fun e w'' => ∃ a c, e = .returned (.tuple #[.slice a 0 c, .int .i64 0]) ∧ Below w'.heap.size w' w'') := fun w' =>
    (pFree_ok p (some ⟨w'.heap.size, 0, none⟩) 1 [p] _ hp (fun u hu => by rw [List.mem_singleton] at hu; subst hu; exact hp) (sl_one1 w' p) eP).mono fun e w'' ⟨v, M, he, ho, hn, hb⟩ => by
      have := hn.uniq room_self
      subst this
      obtain ⟨a, c, rfl, _, _⟩ := own_sl ho
      exact ⟨a, c, he, btr (bal (Below.refl _ _) _) hb⟩
  have C1 : Hid (∀ w' : World, Calls Tryz.prog 5 #[.agg #[.bool p.v, .int .u64 p.hi, .int .u64 p.lo, .int .i64 p.b], .slice none 0 0, .int .i64 bits] w' fun e w'' => e = .returned (.tuple #[.agg #[.bool false, .int .u64 0, .int .u64 0, .int .i64 0], .int .i64 3]) ∧ Below w'.heap.size w' w'') := fun w' => pFirst_range p none 0 [] bits w' hp okn (slN w') eN hr
  have hI : (q.chk != 0) = true := by rw [bne_iff_ne]; exact hc
  have CH : Hid (∀ w' : World, Calls Tryz.prog 9 #[.agg #[.bool p.v, .int .u64 p.hi, .int .u64 p.lo, .int .i64 p.b], .agg #[.bool q.v, .int .u64 q.hi, .int .u64 q.lo, .int .i64 q.b]] w' fun e w'' => e = .returned (.tuple #[.bool false, .int .i64 q.chk]) ∧ Below w'.heap.size w' w'') := fun w' => has_bad p.v p.hi p.lo p.b q.v q.hi q.lo q.b q.chk w' hp.1 hp.2.1 hp.2.2.1 hp.2.2.2 hq.1 hq.2.1 hq.2.2.1 hq.2.2.2 (by rw [two, if_pos (show pchk p.v p.hi p.lo p.b = 0 from c0)]; rfl) hI
  have CI : Hid (∀ w' : World, Calls Tryz.prog 9 #[.agg #[.bool q.v, .int .u64 q.hi, .int .u64 q.lo, .int .i64 q.b], .agg #[.bool p.v, .int .u64 p.hi, .int .u64 p.lo, .int .i64 p.b]] w' fun e w'' => e = .returned (.tuple #[.bool false, .int .i64 q.chk]) ∧ Below w'.heap.size w' w'') := fun w' => has_bad q.v q.hi q.lo q.b p.v p.hi p.lo p.b q.chk w' hq.1 hq.2.1 hq.2.2.1 hq.2.2.2 hp.1 hp.2.1 hp.2.2.1 hp.2.2.2 (by rw [two, if_neg (show ¬ pchk q.v q.hi q.lo q.b = 0 from hc)]; rfl) hI
  generalize q.chk = k at *
  have Eq1 : ∀ w : World, (binOp .neq 26 (.agg #[.bool p.v, .int .u64 p.hi, .int .u64 p.lo, .int .i64 p.b]) (.agg #[.bool p.v, .int .u64 p.hi, .int .u64 p.lo, .int .i64 p.b])).run Tryz.prog w = .ok (.bool false) w := fun w => by rw [neq_pf, show eqP p.v p.hi p.lo p.b p.v p.hi p.lo p.b = true from eqP_iff.2 ⟨rfl, rfl, rfl, rfl⟩]; rfl
  have Eq4 : ∀ w : World, (binOp .eql 26 (.agg #[.bool false, .int .u64 0, .int .u64 0, .int .i64 0]) (.agg #[.bool false, .int .u64 0, .int .u64 0, .int .i64 0])).run Tryz.prog w = .ok (.bool true) w := fun w => by rw [eql_pf, show eqP false 0 0 0 false 0 0 0 = true from eqP_iff.2 ⟨rfl, rfl, rfl, rfl⟩]
  clear hp hq rp c0 eN eP okn slN hr hc
  go_enter Tryz.func4, Tryz.ntmps4
  go_wp2_with fail
  refine (CB.out _).mono ?_
  rintro e w1 ⟨rfl, hb⟩
  replace HB := Lib.hid (btr HB.out hb)
  replace HP := Lib.hid (HP.out.below hb)
  replace HQ := Lib.hid (HQ.out.below hb)
  clear hb
  go_wp2_with fail
  refine (CC.out _ HB.out).mono ?_
  rintro e w2 ⟨rfl, hb⟩
  replace HB := Lib.hid (btr HB.out hb)
  replace HP := Lib.hid (HP.out.below hb)
  replace HQ := Lib.hid (HQ.out.below hb)
  clear hb
  obtain ⟨p0, p1, p2, p3, p4⟩ := HP.out
  obtain ⟨q0, q1, q2, q3, q4⟩ := HQ.out
  go_wp2_with fail
  refine (CF.out _).mono ?_
  rintro e w3 ⟨gl, cl, rfl, h4, hb⟩
  clear p0 p1 p2 p3 p4 q0 q1 q2 q3 q4
  have HL := Lib.hid h4
  replace HB := Lib.hid (btr HB.out hb)
  replace HP := Lib.hid (HP.out.below hb)
  replace HQ := Lib.hid (HQ.out.below hb)
  clear hb h4 CF
  obtain ⟨p0, p1, p2, p3, p4⟩ := HP.out
  obtain ⟨q0, q1, q2, q3, q4⟩ := HQ.out
  go_wp2_with fail
  refine (CG.out _).mono ?_
  rintro e w4 ⟨an, cn, rfl, hb⟩
  clear p0 p1 p2 p3 p4 q0 q1 q2 q3 q4
  replace HB := Lib.hid (btr HB.out hb)
  replace HP := Lib.hid (HP.out.below hb)
  replace HQ := Lib.hid (HQ.out.below hb)
  replace HL := Lib.hid (HL.out.below hb)
  clear hb CG
  obtain ⟨p0, p1, p2, p3, p4⟩ := HP.out
  obtain ⟨q0, q1, q2, q3, q4⟩ := HQ.out
  obtain ⟨l0, l1, l2, l3, l4⟩ := HL.out
  go_wp2_with fail
  go_region
  clear p0 p1 p2 p3 p4 q0 q1 q2 q3 q4 l0 l1 l2 l3 l4
  replace HB := Lib.hid HB.out.drew
  replace HP := Lib.hid (HP.out.below (Below.refl _ _).drew)
  replace HQ := Lib.hid (HQ.out.below (Below.refl _ _).drew)
  replace HL := Lib.hid (HL.out.below (Below.refl _ _).drew)
  generalize w4.drew = wd4 at *
  obtain ⟨p0, p1, p2, p3, p4⟩ := HP.out
  obtain ⟨q0, q1, q2, q3, q4⟩ := HQ.out
  go_wp2_with fail
  refine (C1.out _).mono ?_
  rintro e w5 ⟨rfl, hb⟩
  clear p0 p1 p2 p3 p4 q0 q1 q2 q3 q4
  replace HB := Lib.hid (btr HB.out hb)
  replace HP := Lib.hid (HP.out.below hb)
  replace HQ := Lib.hid (HQ.out.below hb)
  clear hb
  have HX := Lib.hid (Has4.new w5 false 0 0 0 26)
  replace HB := Lib.hid (bal HB.out (.cells #[.bool false, .int .u64 0, .int .u64 0, .int .i64 0] 26))
  replace HP := Lib.hid (HP.out.alloc (.cells #[.bool false, .int .u64 0, .int .u64 0, .int .i64 0] 26))
  replace HQ := Lib.hid (HQ.out.alloc (.cells #[.bool false, .int .u64 0, .int .u64 0, .int .i64 0] 26))
  clear C1
  obtain ⟨x0, x1, x2, x3, x4⟩ := HX.out
  obtain ⟨p0, p1, p2, p3, p4⟩ := HP.out
  obtain ⟨q0, q1, q2, q3, q4⟩ := HQ.out
  go_wp2_with fail
  refine (CH.out _).mono ?_
  rintro e w6 ⟨rfl, hb⟩
  clear p0 p1 p2 p3 p4 q0 q1 q2 q3 q4
  replace HB := Lib.hid (btr HB.out hb)
  replace HP := Lib.hid (HP.out.below hb)
  replace HQ := Lib.hid (HQ.out.below hb)
  replace HX := Lib.hid (HX.out.below hb)
  clear hb
  clear x0 x1 x2 x3 x4 CH
  obtain ⟨p0, p1, p2, p3, p4⟩ := HP.out
  obtain ⟨q0, q1, q2, q3, q4⟩ := HQ.out
  go_wp2_with fail
  refine (CI.out _).mono ?_
  rintro e w7 ⟨rfl, hb⟩
  clear p0 p1 p2 p3 p4 q0 q1 q2 q3 q4
  replace HB := Lib.hid (btr HB.out hb)
  replace HP := Lib.hid (HP.out.below hb)
  replace HQ := Lib.hid (HQ.out.below hb)
  replace HX := Lib.hid (HX.out.below hb)
  clear hb
  clear CI
  go_wp2
  go_ret
  exact ⟨rfl, HB.out⟩

set_option maxHeartbeats 32000000 in
set_option maxRecDepth 100000 in
theorem pa_out_a (p q : Pf) (bits : Int) (w : World) (hg : Good w) (hp : p.Ok) (hq : q.Ok) (rp : p.R) (hr : bits < p.b ∨ wid p.v < bits) (rq : q.R) (ha : p.has q = true) :
    Calls Tryz.prog 4 #[.agg #[.bool p.v, .int .u64 p.hi, .int .u64 p.lo, .int .i64 p.b], .agg #[.bool q.v, .int .u64 q.hi, .int .u64 q.lo, .int .i64 q.b], .int .i64 bits] w fun e w' => e = .returned (.bool true) ∧ Below w.heap.size w w' := by
  have HP : Hid (Has4 ((w.alloc (.cells #[.bool p.v, .int .u64 p.hi, .int .u64 p.lo, .int .i64 p.b] 26)).alloc (.cells #[.bool q.v, .int .u64 q.hi, .int .u64 q.lo, .int .i64 q.b] 26)) w.heap.size p.v p.hi p.lo p.b) := (Has4.new w p.v p.hi p.lo p.b 26).alloc _
  have HQ : Hid (Has4 ((w.alloc (.cells #[.bool p.v, .int .u64 p.hi, .int .u64 p.lo, .int .i64 p.b] 26)).alloc (.cells #[.bool q.v, .int .u64 q.hi, .int .u64 q.lo, .int .i64 q.b] 26)) (w.heap.size + 1) q.v q.hi q.lo q.b) := by
    have := Has4.new (w.alloc (.cells #[.bool p.v, .int .u64 p.hi, .int .u64 p.lo, .int .i64 p.b] 26)) q.v q.hi q.lo q.b 26
    rw [World.size_alloc] at this
    exact this
  have HB : Hid (Below w.heap.size w ((w.alloc (.cells #[.bool p.v, .int .u64 p.hi, .int .u64 p.lo, .int .i64 p.b] 26)).alloc (.cells #[.bool q.v, .int .u64 q.hi, .int .u64 q.lo, .int .i64 q.b] 26))) := bal (pal w p.v p.hi p.lo p.b) _
  have CB : Hid (∀ w : World, Calls Tryz.prog 6 #[] w fun e w' => e = .returned (.bool true) ∧ Below w.heap.size w w') := pkbegun_any
  have CC : Hid (∀ w' : World, Below w.heap.size w w' → Calls Tryz.prog 7 #[] w' fun e w'' => e = .returned (.bool true) ∧ Below w'.heap.size w' w'') := fun w' h => pbegun_any w' (hg.below h)
  clear hg
  have c0 : p.chk = 0 := (right_iff _ _ _ _ hp.1 hp.2.1 hp.2.2.1 hp.2.2.2).2 rp
  have eN : pkE p [] = 0 := by rw [pkE, if_pos c0]; rfl
  have eP : pkE p [p] = 0 := by rw [pkE, if_pos c0]; exact one_chk rp
  have okn : ∀ u ∈ ([] : List Pf), u.Ok := by simp
  have slN : ∀ w : World, Sl w none [] := fun w j hj => by simp at hj
  have CF : Hid (∀ w' : World, Calls Tryz.prog 12 #[.agg #[.bool p.v, .int .u64 p.hi, .int .u64 p.lo, .int .i64 p.b], .slice none 0 0] w' fun e w'' => ∃ g c, e = .returned (.tuple #[.slice (some ⟨g, 0, none⟩) 1 c, .int .i64 0]) ∧ Has4 w'' g p.v p.hi p.lo p.b ∧ Below w'.heap.size w' w'') := fun w' =>
    (pFree_ok p none 0 [] w' hp okn (slN w') eN).mono fun e w'' ⟨v, M, he, ho, hn, hb⟩ => by
      have := hn.uniq (room_nil rp)
      subst this
      obtain ⟨g, c, rfl, h4⟩ := row_has4 ho
      exact ⟨g, c, he, h4, hb⟩
  have CG : Hid (∀ w' : World, Calls Tryz.prog 12 #[.agg #[.bool p.v, .int .u64 p.hi, .int .u64 p.lo, .int .i64 p.b], .slice (some ⟨w'.heap.size, 0, none⟩) 1 1] (w'.alloc (.cells #[.bool p.v, .int .u64 p.hi, .int .u64 p.lo, .int .i64 p.b] 26)) fun e w'' => ∃ a c, e = .returned (.tuple #[.slice a 0 c, .int .i64 0]) ∧ Below w'.heap.size w' w'') := fun w' =>
    (pFree_ok p (some ⟨w'.heap.size, 0, none⟩) 1 [p] _ hp (fun u hu => by rw [List.mem_singleton] at hu; subst hu; exact hp) (sl_one1 w' p) eP).mono fun e w'' ⟨v, M, he, ho, hn, hb⟩ => by
      have := hn.uniq room_self
      subst this
      obtain ⟨a, c, rfl, _, _⟩ := own_sl ho
      exact ⟨a, c, he, btr (bal (Below.refl _ _) _) hb⟩
  have C1 : Hid (∀ w' : World, Calls Tryz.prog 5 #[.agg #[.bool p.v, .int .u64 p.hi, .int .u64 p.lo, .int .i64 p.b], .slice none 0 0, .int .i64 bits] w' fun e w'' => e = .returned (.tuple #[.agg #[.bool false, .int .u64 0, .int .u64 0, .int .i64 0], .int .i64 3]) ∧ Below w'.heap.size w' w'') := fun w' => pFirst_range p none 0 [] bits w' hp okn (slN w') eN hr
  have d0 : q.chk = 0 := (right_iff _ _ _ _ hq.1 hq.2.1 hq.2.2.1 hq.2.2.2).2 rq
  have CH : Hid (∀ w' : World, Calls Tryz.prog 9 #[.agg #[.bool p.v, .int .u64 p.hi, .int .u64 p.lo, .int .i64 p.b], .agg #[.bool q.v, .int .u64 q.hi, .int .u64 q.lo, .int .i64 q.b]] w' fun e w'' => e = .returned (.tuple #[.bool true, .int .i64 0]) ∧ Below w'.heap.size w' w'') := fun w' => by
    have := has_ok p.v p.hi p.lo p.b q.v q.hi q.lo q.b w' hp.1 hp.2.1 hp.2.2.1 hp.2.2.2 hq.1 hq.2.1 hq.2.2.1 hq.2.2.2 (by rw [two, if_pos (show pchk p.v p.hi p.lo p.b = 0 from c0)]; exact d0)
    rw [show hasB p.v p.hi p.lo p.b q.v q.hi q.lo q.b = true from ha] at this
    exact this
  have CI : Hid (∀ w' : World, Calls Tryz.prog 9 #[.agg #[.bool q.v, .int .u64 q.hi, .int .u64 q.lo, .int .i64 q.b], .agg #[.bool p.v, .int .u64 p.hi, .int .u64 p.lo, .int .i64 p.b]] w' fun e w'' => ∃ y, e = .returned (.tuple #[.bool y, .int .i64 0]) ∧ Below w'.heap.size w' w'') := fun w' =>
    (has_ok q.v q.hi q.lo q.b p.v p.hi p.lo p.b w' hq.1 hq.2.1 hq.2.2.1 hq.2.2.2 hp.1 hp.2.1 hp.2.2.1 hp.2.2.2 (by rw [two, if_pos (show pchk q.v q.hi q.lo q.b = 0 from d0)]; exact c0)).mono fun e w'' ⟨h1, h2⟩ => ⟨_, h1, h2⟩
  have Eq1 : ∀ w : World, (binOp .neq 26 (.agg #[.bool p.v, .int .u64 p.hi, .int .u64 p.lo, .int .i64 p.b]) (.agg #[.bool p.v, .int .u64 p.hi, .int .u64 p.lo, .int .i64 p.b])).run Tryz.prog w = .ok (.bool false) w := fun w => by rw [neq_pf, show eqP p.v p.hi p.lo p.b p.v p.hi p.lo p.b = true from eqP_iff.2 ⟨rfl, rfl, rfl, rfl⟩]; rfl
  have Eq4 : ∀ w : World, (binOp .eql 26 (.agg #[.bool false, .int .u64 0, .int .u64 0, .int .i64 0]) (.agg #[.bool false, .int .u64 0, .int .u64 0, .int .i64 0])).run Tryz.prog w = .ok (.bool true) w := fun w => by rw [eql_pf, show eqP false 0 0 0 false 0 0 0 = true from eqP_iff.2 ⟨rfl, rfl, rfl, rfl⟩]
  clear hp hq rp c0 eN eP okn slN hr rq ha d0
  go_enter Tryz.func4, Tryz.ntmps4
  go_wp2_with fail
  refine (CB.out _).mono ?_
  rintro e w1 ⟨rfl, hb⟩
  replace HB := Lib.hid (btr HB.out hb)
  replace HP := Lib.hid (HP.out.below hb)
  replace HQ := Lib.hid (HQ.out.below hb)
  clear hb
  go_wp2_with fail
  refine (CC.out _ HB.out).mono ?_
  rintro e w2 ⟨rfl, hb⟩
  replace HB := Lib.hid (btr HB.out hb)
  replace HP := Lib.hid (HP.out.below hb)
  replace HQ := Lib.hid (HQ.out.below hb)
  clear hb
  obtain ⟨p0, p1, p2, p3, p4⟩ := HP.out
  obtain ⟨q0, q1, q2, q3, q4⟩ := HQ.out
  go_wp2_with fail
  refine (CF.out _).mono ?_
  rintro e w3 ⟨gl, cl, rfl, h4, hb⟩
  clear p0 p1 p2 p3 p4 q0 q1 q2 q3 q4
  have HL := Lib.hid h4
  replace HB := Lib.hid (btr HB.out hb)
  replace HP := Lib.hid (HP.out.below hb)
  replace HQ := Lib.hid (HQ.out.below hb)
  clear hb h4 CF
  obtain ⟨p0, p1, p2, p3, p4⟩ := HP.out
  obtain ⟨q0, q1, q2, q3, q4⟩ := HQ.out
  go_wp2_with fail
  refine (CG.out _).mono ?_
  rintro e w4 ⟨an, cn, rfl, hb⟩
  clear p0 p1 p2 p3 p4 q0 q1 q2 q3 q4
  replace HB := Lib.hid (btr HB.out hb)
  replace HP := Lib.hid (HP.out.below hb)
  replace HQ := Lib.hid (HQ.out.below hb)
  replace HL := Lib.hid (HL.out.below hb)
  clear hb CG
  obtain ⟨p0, p1, p2, p3, p4⟩ := HP.out
  obtain ⟨q0, q1, q2, q3, q4⟩ := HQ.out
  obtain ⟨l0, l1, l2, l3, l4⟩ := HL.out
  go_wp2_with fail
  go_region
  clear p0 p1 p2 p3 p4 q0 q1 q2 q3 q4 l0 l1 l2 l3 l4
  replace HB := Lib.hid HB.out.drew
  replace HP := Lib.hid (HP.out.below (Below.refl _ _).drew)
  replace HQ := Lib.hid (HQ.out.below (Below.refl _ _).drew)
  replace HL := Lib.hid (HL.out.below (Below.refl _ _).drew)
  generalize w4.drew = wd4 at *
  obtain ⟨p0, p1, p2, p3, p4⟩ := HP.out
  obtain ⟨q0, q1, q2, q3, q4⟩ := HQ.out
  go_wp2_with fail
  refine (C1.out _).mono ?_
  rintro e w5 ⟨rfl, hb⟩
  clear p0 p1 p2 p3 p4 q0 q1 q2 q3 q4
  replace HB := Lib.hid (btr HB.out hb)
  replace HP := Lib.hid (HP.out.below hb)
  replace HQ := Lib.hid (HQ.out.below hb)
  clear hb
  have HX := Lib.hid (Has4.new w5 false 0 0 0 26)
  replace HB := Lib.hid (bal HB.out (.cells #[.bool false, .int .u64 0, .int .u64 0, .int .i64 0] 26))
  replace HP := Lib.hid (HP.out.alloc (.cells #[.bool false, .int .u64 0, .int .u64 0, .int .i64 0] 26))
  replace HQ := Lib.hid (HQ.out.alloc (.cells #[.bool false, .int .u64 0, .int .u64 0, .int .i64 0] 26))
  clear C1
  obtain ⟨x0, x1, x2, x3, x4⟩ := HX.out
  obtain ⟨p0, p1, p2, p3, p4⟩ := HP.out
  obtain ⟨q0, q1, q2, q3, q4⟩ := HQ.out
  go_wp2_with fail
  refine (CH.out _).mono ?_
  rintro e w6 ⟨rfl, hb⟩
  clear p0 p1 p2 p3 p4 q0 q1 q2 q3 q4
  replace HB := Lib.hid (btr HB.out hb)
  replace HP := Lib.hid (HP.out.below hb)
  replace HQ := Lib.hid (HQ.out.below hb)
  replace HX := Lib.hid (HX.out.below hb)
  clear hb
  clear x0 x1 x2 x3 x4 CH
  obtain ⟨p0, p1, p2, p3, p4⟩ := HP.out
  obtain ⟨q0, q1, q2, q3, q4⟩ := HQ.out
  go_wp2_with fail
  refine (CI.out _).mono ?_
  rintro e w7 ⟨y, rfl, hb⟩
  clear p0 p1 p2 p3 p4 q0 q1 q2 q3 q4
  replace HB := Lib.hid (btr HB.out hb)
  replace HP := Lib.hid (HP.out.below hb)
  replace HQ := Lib.hid (HQ.out.below hb)
  replace HX := Lib.hid (HX.out.below hb)
  clear hb
  clear CI
  go_wp2
  go_ret
  exact ⟨rfl, HB.out⟩

set_option maxHeartbeats 32000000 in
set_option maxRecDepth 100000 in
theorem pa_out_b (p q : Pf) (bits : Int) (w : World) (hg : Good w) (hp : p.Ok) (hq : q.Ok) (rp : p.R) (hr : bits < p.b ∨ wid p.v < bits) (rq : q.R) (ha : p.has q = false) (hb' : q.has p = true) :
    Calls Tryz.prog 4 #[.agg #[.bool p.v, .int .u64 p.hi, .int .u64 p.lo, .int .i64 p.b], .agg #[.bool q.v, .int .u64 q.hi, .int .u64 q.lo, .int .i64 q.b], .int .i64 bits] w fun e w' => e = .returned (.bool true) ∧ Below w.heap.size w w' := by
  have HP : Hid (Has4 ((w.alloc (.cells #[.bool p.v, .int .u64 p.hi, .int .u64 p.lo, .int .i64 p.b] 26)).alloc (.cells #[.bool q.v, .int .u64 q.hi, .int .u64 q.lo, .int .i64 q.b] 26)) w.heap.size p.v p.hi p.lo p.b) := (Has4.new w p.v p.hi p.lo p.b 26).alloc _
  have HQ : Hid (Has4 ((w.alloc (.cells #[.bool p.v, .int .u64 p.hi, .int .u64 p.lo, .int .i64 p.b] 26)).alloc (.cells #[.bool q.v, .int .u64 q.hi, .int .u64 q.lo, .int .i64 q.b] 26)) (w.heap.size + 1) q.v q.hi q.lo q.b) := by
    have := Has4.new (w.alloc (.cells #[.bool p.v, .int .u64 p.hi, .int .u64 p.lo, .int .i64 p.b] 26)) q.v q.hi q.lo q.b 26
    rw [World.size_alloc] at this
    exact this
  have HB : Hid (Below w.heap.size w ((w.alloc (.cells #[.bool p.v, .int .u64 p.hi, .int .u64 p.lo, .int .i64 p.b] 26)).alloc (.cells #[.bool q.v, .int .u64 q.hi, .int .u64 q.lo, .int .i64 q.b] 26))) := bal (pal w p.v p.hi p.lo p.b) _
  have CB : Hid (∀ w : World, Calls Tryz.prog 6 #[] w fun e w' => e = .returned (.bool true) ∧ Below w.heap.size w w') := pkbegun_any
  have CC : Hid (∀ w' : World, Below w.heap.size w w' → Calls Tryz.prog 7 #[] w' fun e w'' => e = .returned (.bool true) ∧ Below w'.heap.size w' w'') := fun w' h => pbegun_any w' (hg.below h)
  clear hg
  have c0 : p.chk = 0 := (right_iff _ _ _ _ hp.1 hp.2.1 hp.2.2.1 hp.2.2.2).2 rp
  have eN : pkE p [] = 0 := by rw [pkE, if_pos c0]; rfl
  have eP : pkE p [p] = 0 := by rw [pkE, if_pos c0]; exact one_chk rp
  have okn : ∀ u ∈ ([] : List Pf), u.Ok := by simp
  have slN : ∀ w : World, Sl w none [] := fun w j hj => by simp at hj
  have CF : Hid (∀ w' : World, Calls Tryz.prog 12 #[.agg #[.bool p.v, .int .u64 p.hi, .int .u64 p.lo, .int .i64 p.b], .slice none 0 0] w' fun e w'' => ∃ g c, e = .returned (.tuple #[.slice (some ⟨g, 0, none⟩) 1 c, .int .i64 0]) ∧ Has4 w'' g p.v p.hi p.lo p.b ∧ Below w'.heap.size w' w'') := fun w' =>
    (pFree_ok p none 0 [] w' hp okn (slN w') eN).mono fun e w'' ⟨v, M, he, ho, hn, hb⟩ => by
      have := hn.uniq (room_nil rp)
      subst this
      obtain ⟨g, c, rfl, h4⟩ := row_has4 ho
      exact ⟨g, c, he, h4, hb⟩
  have CG : Hid (∀ w' : World, Calls Tryz.prog 12 #[.agg #[.bool p.v, .int .u64 p.hi, .int .u64 p.lo, .int .i64 p.b], .slice (some ⟨w'.heap.size, 0, none⟩) 1 1] (w'.alloc (.cells #[.bool p.v, .int .u64 p.hi, .int .u64 p.lo, .int .i64 p.b] 26)) fun e w'' => ∃ a c, e = .returned (.tuple #[.slice a 0 c, .int .i64 0]) ∧ Below w'.heap.size w' w'') := fun w' =>
    (pFree_ok p (some ⟨w'.heap.size, 0, none⟩) 1 [p] _ hp (fun u hu => by rw [List.mem_singleton] at hu; subst hu; exact hp) (sl_one1 w' p) eP).mono fun e w'' ⟨v, M, he, ho, hn, hb⟩ => by
      have := hn.uniq room_self
      subst this
      obtain ⟨a, c, rfl, _, _⟩ := own_sl ho
      exact ⟨a, c, he, btr (bal (Below.refl _ _) _) hb⟩
  have C1 : Hid (∀ w' : World, Calls Tryz.prog 5 #[.agg #[.bool p.v, .int .u64 p.hi, .int .u64 p.lo, .int .i64 p.b], .slice none 0 0, .int .i64 bits] w' fun e w'' => e = .returned (.tuple #[.agg #[.bool false, .int .u64 0, .int .u64 0, .int .i64 0], .int .i64 3]) ∧ Below w'.heap.size w' w'') := fun w' => pFirst_range p none 0 [] bits w' hp okn (slN w') eN hr
  have d0 : q.chk = 0 := (right_iff _ _ _ _ hq.1 hq.2.1 hq.2.2.1 hq.2.2.2).2 rq
  have CH : Hid (∀ w' : World, Calls Tryz.prog 9 #[.agg #[.bool p.v, .int .u64 p.hi, .int .u64 p.lo, .int .i64 p.b], .agg #[.bool q.v, .int .u64 q.hi, .int .u64 q.lo, .int .i64 q.b]] w' fun e w'' => e = .returned (.tuple #[.bool false, .int .i64 0]) ∧ Below w'.heap.size w' w'') := fun w' => by
    have := has_ok p.v p.hi p.lo p.b q.v q.hi q.lo q.b w' hp.1 hp.2.1 hp.2.2.1 hp.2.2.2 hq.1 hq.2.1 hq.2.2.1 hq.2.2.2 (by rw [two, if_pos (show pchk p.v p.hi p.lo p.b = 0 from c0)]; exact d0)
    rw [show hasB p.v p.hi p.lo p.b q.v q.hi q.lo q.b = false from ha] at this
    exact this
  have CI : Hid (∀ w' : World, Calls Tryz.prog 9 #[.agg #[.bool q.v, .int .u64 q.hi, .int .u64 q.lo, .int .i64 q.b], .agg #[.bool p.v, .int .u64 p.hi, .int .u64 p.lo, .int .i64 p.b]] w' fun e w'' => e = .returned (.tuple #[.bool true, .int .i64 0]) ∧ Below w'.heap.size w' w'') := fun w' => by
    have := has_ok q.v q.hi q.lo q.b p.v p.hi p.lo p.b w' hq.1 hq.2.1 hq.2.2.1 hq.2.2.2 hp.1 hp.2.1 hp.2.2.1 hp.2.2.2 (by rw [two, if_pos (show pchk q.v q.hi q.lo q.b = 0 from d0)]; exact c0)
    rw [show hasB q.v q.hi q.lo q.b p.v p.hi p.lo p.b = true from hb'] at this
    exact this
  have Eq1 : ∀ w : World, (binOp .neq 26 (.agg #[.bool p.v, .int .u64 p.hi, .int .u64 p.lo, .int .i64 p.b]) (.agg #[.bool p.v, .int .u64 p.hi, .int .u64 p.lo, .int .i64 p.b])).run Tryz.prog w = .ok (.bool false) w := fun w => by rw [neq_pf, show eqP p.v p.hi p.lo p.b p.v p.hi p.lo p.b = true from eqP_iff.2 ⟨rfl, rfl, rfl, rfl⟩]; rfl
  have Eq4 : ∀ w : World, (binOp .eql 26 (.agg #[.bool false, .int .u64 0, .int .u64 0, .int .i64 0]) (.agg #[.bool false, .int .u64 0, .int .u64 0, .int .i64 0])).run Tryz.prog w = .ok (.bool true) w := fun w => by rw [eql_pf, show eqP false 0 0 0 false 0 0 0 = true from eqP_iff.2 ⟨rfl, rfl, rfl, rfl⟩]
  clear hp hq rp c0 eN eP okn slN hr rq ha hb' d0
  go_enter Tryz.func4, Tryz.ntmps4
  go_wp2_with fail
  refine (CB.out _).mono ?_
  rintro e w1 ⟨rfl, hb⟩
  replace HB := Lib.hid (btr HB.out hb)
  replace HP := Lib.hid (HP.out.below hb)
  replace HQ := Lib.hid (HQ.out.below hb)
  clear hb
  go_wp2_with fail
  refine (CC.out _ HB.out).mono ?_
  rintro e w2 ⟨rfl, hb⟩
  replace HB := Lib.hid (btr HB.out hb)
  replace HP := Lib.hid (HP.out.below hb)
  replace HQ := Lib.hid (HQ.out.below hb)
  clear hb
  obtain ⟨p0, p1, p2, p3, p4⟩ := HP.out
  obtain ⟨q0, q1, q2, q3, q4⟩ := HQ.out
  go_wp2_with fail
  refine (CF.out _).mono ?_
  rintro e w3 ⟨gl, cl, rfl, h4, hb⟩
  clear p0 p1 p2 p3 p4 q0 q1 q2 q3 q4
  have HL := Lib.hid h4
  replace HB := Lib.hid (btr HB.out hb)
  replace HP := Lib.hid (HP.out.below hb)
  replace HQ := Lib.hid (HQ.out.below hb)
  clear hb h4 CF
  obtain ⟨p0, p1, p2, p3, p4⟩ := HP.out
  obtain ⟨q0, q1, q2, q3, q4⟩ := HQ.out
  go_wp2_with fail
  refine (CG.out _).mono ?_
  rintro e w4 ⟨an, cn, rfl, hb⟩
  clear p0 p1 p2 p3 p4 q0 q1 q2 q3 q4
  replace HB := Lib.hid (btr HB.out hb)
  replace HP := Lib.hid (HP.out.below hb)
  replace HQ := Lib.hid (HQ.out.below hb)
  replace HL := Lib.hid (HL.out.below hb)
  clear hb CG
  obtain ⟨p0, p1, p2, p3, p4⟩ := HP.out
  obtain ⟨q0, q1, q2, q3, q4⟩ := HQ.out
  obtain ⟨l0, l1, l2, l3, l4⟩ := HL.out
  go_wp2_with fail
  go_region
  clear p0 p1 p2 p3 p4 q0 q1 q2 q3 q4 l0 l1 l2 l3 l4
  replace HB := Lib.hid HB.out.drew
  replace HP := Lib.hid (HP.out.below (Below.refl _ _).drew)
  replace HQ := Lib.hid (HQ.out.below (Below.refl _ _).drew)
  replace HL := Lib.hid (HL.out.below (Below.refl _ _).drew)
  generalize w4.drew = wd4 at *
  obtain ⟨p0, p1, p2, p3, p4⟩ := HP.out
  obtain ⟨q0, q1, q2, q3, q4⟩ := HQ.out
  go_wp2_with fail
  refine (C1.out _).mono ?_
  rintro e w5 ⟨rfl, hb⟩
  clear p0 p1 p2 p3 p4 q0 q1 q2 q3 q4
  replace HB := Lib.hid (btr HB.out hb)
  replace HP := Lib.hid (HP.out.below hb)
  replace HQ := Lib.hid (HQ.out.below hb)
  clear hb
  have HX := Lib.hid (Has4.new w5 false 0 0 0 26)
  replace HB := Lib.hid (bal HB.out (.cells #[.bool false, .int .u64 0, .int .u64 0, .int .i64 0] 26))
  replace HP := Lib.hid (HP.out.alloc (.cells #[.bool false, .int .u64 0, .int .u64 0, .int .i64 0] 26))
  replace HQ := Lib.hid (HQ.out.alloc (.cells #[.bool false, .int .u64 0, .int .u64 0, .int .i64 0] 26))
  clear C1
  obtain ⟨x0, x1, x2, x3, x4⟩ := HX.out
  obtain ⟨p0, p1, p2, p3, p4⟩ := HP.out
  obtain ⟨q0, q1, q2, q3, q4⟩ := HQ.out
  go_wp2_with fail
  refine (CH.out _).mono ?_
  rintro e w6 ⟨rfl, hb⟩
  clear p0 p1 p2 p3 p4 q0 q1 q2 q3 q4
  replace HB := Lib.hid (btr HB.out hb)
  replace HP := Lib.hid (HP.out.below hb)
  replace HQ := Lib.hid (HQ.out.below hb)
  replace HX := Lib.hid (HX.out.below hb)
  clear hb
  clear x0 x1 x2 x3 x4 CH
  obtain ⟨p0, p1, p2, p3, p4⟩ := HP.out
  obtain ⟨q0, q1, q2, q3, q4⟩ := HQ.out
  go_wp2_with fail
  refine (CI.out _).mono ?_
  rintro e w7 ⟨rfl, hb⟩
  clear p0 p1 p2 p3 p4 q0 q1 q2 q3 q4
  replace HB := Lib.hid (btr HB.out hb)
  replace HP := Lib.hid (HP.out.below hb)
  replace HQ := Lib.hid (HQ.out.below hb)
  replace HX := Lib.hid (HX.out.below hb)
  clear hb
  clear CI
  go_wp2
  go_ret
  exact ⟨rfl, HB.out⟩

set_option maxHeartbeats 32000000 in
set_option maxRecDepth 100000 in
theorem pa_out_apart (p q : Pf) (bits : Int) (w : World) (hg : Good w) (hp : p.Ok) (hq : q.Ok) (rp : p.R) (hr : bits < p.b ∨ wid p.v < bits) (rq : q.R) (ha : p.has q = false) (hb' : q.has p = false) :
    Calls Tryz.prog 4 #[.agg #[.bool p.v, .int .u64 p.hi, .int .u64 p.lo, .int .i64 p.b], .agg #[.bool q.v, .int .u64 q.hi, .int .u64 q.lo, .int .i64 q.b], .int .i64 bits] w fun e w' => e = .returned (.bool true) ∧ Below w.heap.size w w' := by
  have HP : Hid (Has4 ((w.alloc (.cells #[.bool p.v, .int .u64 p.hi, .int .u64 p.lo, .int .i64 p.b] 26)).alloc (.cells #[.bool q.v, .int .u64 q.hi, .int .u64 q.lo, .int .i64 q.b] 26)) w.heap.size p.v p.hi p.lo p.b) := (Has4.new w p.v p.hi p.lo p.b 26).alloc _
  have HQ : Hid (Has4 ((w.alloc (.cells #[.bool p.v, .int .u64 p.hi, .int .u64 p.lo, .int .i64 p.b] 26)).alloc (.cells #[.bool q.v, .int .u64 q.hi, .int .u64 q.lo, .int .i64 q.b] 26)) (w.heap.size + 1) q.v q.hi q.lo q.b) := by
    have := Has4.new (w.alloc (.cells #[.bool p.v, .int .u64 p.hi, .int .u64 p.lo, .int .i64 p.b] 26)) q.v q.hi q.lo q.b 26
    rw [World.size_alloc] at this
    exact this
  have HB : Hid (Below w.heap.size w ((w.alloc (.cells #[.bool p.v, .int .u64 p.hi, .int .u64 p.lo, .int .i64 p.b] 26)).alloc (.cells #[.bool q.v, .int .u64 q.hi, .int .u64 q.lo, .int .i64 q.b] 26))) := bal (pal w p.v p.hi p.lo p.b) _
  have CB : Hid (∀ w : World, Calls Tryz.prog 6 #[] w fun e w' => e = .returned (.bool true) ∧ Below w.heap.size w w') := pkbegun_any
  have CC : Hid (∀ w' : World, Below w.heap.size w w' → Calls Tryz.prog 7 #[] w' fun e w'' => e = .returned (.bool true) ∧ Below w'.heap.size w' w'') := fun w' h => pbegun_any w' (hg.below h)
  clear hg
  have c0 : p.chk = 0 := (right_iff _ _ _ _ hp.1 hp.2.1 hp.2.2.1 hp.2.2.2).2 rp
  have eN : pkE p [] = 0 := by rw [pkE, if_pos c0]; rfl
  have eP : pkE p [p] = 0 := by rw [pkE, if_pos c0]; exact one_chk rp
  have okn : ∀ u ∈ ([] : List Pf), u.Ok := by simp
  have slN : ∀ w : World, Sl w none [] := fun w j hj => by simp at hj
  have CF : Hid (∀ w' : World, Calls Tryz.prog 12 #[.agg #[.bool p.v, .int .u64 p.hi, .int .u64 p.lo, .int .i64 p.b], .slice none 0 0] w' fun e w'' => ∃ g c, e = .returned (.tuple #[.slice (some ⟨g, 0, none⟩) 1 c, .int .i64 0]) ∧ Has4 w'' g p.v p.hi p.lo p.b ∧ Below w'.heap.size w' w'') := fun w' =>
    (pFree_ok p none 0 [] w' hp okn (slN w') eN).mono fun e w'' ⟨v, M, he, ho, hn, hb⟩ => by
      have := hn.uniq (room_nil rp)
      subst this
      obtain ⟨g, c, rfl, h4⟩ := row_has4 ho
      exact ⟨g, c, he, h4, hb⟩
  have CG : Hid (∀ w' : World, Calls Tryz.prog 12 #[.agg #[.bool p.v, .int .u64 p.hi, .int .u64 p.lo, .int .i64 p.b], .slice (some ⟨w'.heap.size, 0, none⟩) 1 1] (w'.alloc (.cells #[.bool p.v, .int .u64 p.hi, .int .u64 p.lo, .int .i64 p.b] 26)) fun e w'' => ∃ a c, e = .returned (.tuple #[.slice a 0 c, .int .i64 0]) ∧ Below w'.heap.size w' w'') := fun w' =>
    (pFree_ok p (some ⟨w'.heap.size, 0, none⟩) 1 [p] _ hp (fun u hu => by rw [List.mem_singleton] at hu; subst hu; exact hp) (sl_one1 w' p) eP).mono fun e w'' ⟨v, M, he, ho, hn, hb⟩ => by
      have := hn.uniq room_self
      subst this
      obtain ⟨a, c, rfl, _, _⟩ := own_sl ho
      exact ⟨a, c, he, btr (bal (Below.refl _ _) _) hb⟩
  have C1 : Hid (∀ w' : World, Calls Tryz.prog 5 #[.agg #[.bool p.v, .int .u64 p.hi, .int .u64 p.lo, .int .i64 p.b], .slice none 0 0, .int .i64 bits] w' fun e w'' => e = .returned (.tuple #[.agg #[.bool false, .int .u64 0, .int .u64 0, .int .i64 0], .int .i64 3]) ∧ Below w'.heap.size w' w'') := fun w' => pFirst_range p none 0 [] bits w' hp okn (slN w') eN hr
  have d0 : q.chk = 0 := (right_iff _ _ _ _ hq.1 hq.2.1 hq.2.2.1 hq.2.2.2).2 rq
  have CH : Hid (∀ w' : World, Calls Tryz.prog 9 #[.agg #[.bool p.v, .int .u64 p.hi, .int .u64 p.lo, .int .i64 p.b], .agg #[.bool q.v, .int .u64 q.hi, .int .u64 q.lo, .int .i64 q.b]] w' fun e w'' => e = .returned (.tuple #[.bool false, .int .i64 0]) ∧ Below w'.heap.size w' w'') := fun w' => by
    have := has_ok p.v p.hi p.lo p.b q.v q.hi q.lo q.b w' hp.1 hp.2.1 hp.2.2.1 hp.2.2.2 hq.1 hq.2.1 hq.2.2.1 hq.2.2.2 (by rw [two, if_pos (show pchk p.v p.hi p.lo p.b = 0 from c0)]; exact d0)
    rw [show hasB p.v p.hi p.lo p.b q.v q.hi q.lo q.b = false from ha] at this
    exact this
  have CI : Hid (∀ w' : World, Calls Tryz.prog 9 #[.agg #[.bool q.v, .int .u64 q.hi, .int .u64 q.lo, .int .i64 q.b], .agg #[.bool p.v, .int .u64 p.hi, .int .u64 p.lo, .int .i64 p.b]] w' fun e w'' => e = .returned (.tuple #[.bool false, .int .i64 0]) ∧ Below w'.heap.size w' w'') := fun w' => by
    have := has_ok q.v q.hi q.lo q.b p.v p.hi p.lo p.b w' hq.1 hq.2.1 hq.2.2.1 hq.2.2.2 hp.1 hp.2.1 hp.2.2.1 hp.2.2.2 (by rw [two, if_pos (show pchk q.v q.hi q.lo q.b = 0 from d0)]; exact c0)
    rw [show hasB q.v q.hi q.lo q.b p.v p.hi p.lo p.b = false from hb'] at this
    exact this
  have eQ : pkE p [q] = 0 := by rw [pkE, if_pos c0]; exact one_chk rq
  have C2 : Hid (∀ w' : World, Calls Tryz.prog 5 #[.agg #[.bool p.v, .int .u64 p.hi, .int .u64 p.lo, .int .i64 p.b], .slice (some ⟨w'.heap.size, 0, none⟩) 1 1, .int .i64 bits] (w'.alloc (.cells #[.bool q.v, .int .u64 q.hi, .int .u64 q.lo, .int .i64 q.b] 26)) fun e w'' => e = .returned (.tuple #[.agg #[.bool false, .int .u64 0, .int .u64 0, .int .i64 0], .int .i64 3]) ∧ Below w'.heap.size w' w'') := fun w' =>
    (pFirst_range p (some ⟨w'.heap.size, 0, none⟩) 1 [q] bits _ hp (fun u hu => by rw [List.mem_singleton] at hu; subst hu; exact hq) (sl_one1 w' q) eQ hr).mono fun e w'' ⟨he, hb⟩ => ⟨he, btr (bal (Below.refl _ _) _) hb⟩
  have Eq1 : ∀ w : World, (binOp .neq 26 (.agg #[.bool p.v, .int .u64 p.hi, .int .u64 p.lo, .int .i64 p.b]) (.agg #[.bool p.v, .int .u64 p.hi, .int .u64 p.lo, .int .i64 p.b])).run Tryz.prog w = .ok (.bool false) w := fun w => by rw [neq_pf, show eqP p.v p.hi p.lo p.b p.v p.hi p.lo p.b = true from eqP_iff.2 ⟨rfl, rfl, rfl, rfl⟩]; rfl
  have Eq4 : ∀ w : World, (binOp .eql 26 (.agg #[.bool false, .int .u64 0, .int .u64 0, .int .i64 0]) (.agg #[.bool false, .int .u64 0, .int .u64 0, .int .i64 0])).run Tryz.prog w = .ok (.bool true) w := fun w => by rw [eql_pf, show eqP false 0 0 0 false 0 0 0 = true from eqP_iff.2 ⟨rfl, rfl, rfl, rfl⟩]
  clear hp hq rp c0 eN eP okn slN hr rq ha hb' d0 eQ
  go_enter Tryz.func4, Tryz.ntmps4
  go_wp2_with fail
  refine (CB.out _).mono ?_
  rintro e w1 ⟨rfl, hb⟩
  replace HB := Lib.hid (btr HB.out hb)
  replace HP := Lib.hid (HP.out.below hb)
  replace HQ := Lib.hid (HQ.out.below hb)
  clear hb
  go_wp2_with fail
  refine (CC.out _ HB.out).mono ?_
  rintro e w2 ⟨rfl, hb⟩
  replace HB := Lib.hid (btr HB.out hb)
  replace HP := Lib.hid (HP.out.below hb)
  replace HQ := Lib.hid (HQ.out.below hb)
  clear hb
  obtain ⟨p0, p1, p2, p3, p4⟩ := HP.out
  obtain ⟨q0, q1, q2, q3, q4⟩ := HQ.out
  go_wp2_with fail
  refine (CF.out _).mono ?_
  rintro e w3 ⟨gl, cl, rfl, h4, hb⟩
  clear p0 p1 p2 p3 p4 q0 q1 q2 q3 q4
  have HL := Lib.hid h4
  replace HB := Lib.hid (btr HB.out hb)
  replace HP := Lib.hid (HP.out.below hb)
  replace HQ := Lib.hid (HQ.out.below hb)
  clear hb h4 CF
  obtain ⟨p0, p1, p2, p3, p4⟩ := HP.out
  obtain ⟨q0, q1, q2, q3, q4⟩ := HQ.out
  go_wp2_with fail
  refine (CG.out _).mono ?_
  rintro e w4 ⟨an, cn, rfl, hb⟩
  clear p0 p1 p2 p3 p4 q0 q1 q2 q3 q4
  replace HB := Lib.hid (btr HB.out hb)
  replace HP := Lib.hid (HP.out.below hb)
  replace HQ := Lib.hid (HQ.out.below hb)
  replace HL := Lib.hid (HL.out.below hb)
  clear hb CG
  obtain ⟨p0, p1, p2, p3, p4⟩ := HP.out
  obtain ⟨q0, q1, q2, q3, q4⟩ := HQ.out
  obtain ⟨l0, l1, l2, l3, l4⟩ := HL.out
  go_wp2_with fail
  go_region
  clear p0 p1 p2 p3 p4 q0 q1 q2 q3 q4 l0 l1 l2 l3 l4
  replace HB := Lib.hid HB.out.drew
  replace HP := Lib.hid (HP.out.below (Below.refl _ _).drew)
  replace HQ := Lib.hid (HQ.out.below (Below.refl _ _).drew)
  replace HL := Lib.hid (HL.out.below (Below.refl _ _).drew)
  generalize w4.drew = wd4 at *
  obtain ⟨p0, p1, p2, p3, p4⟩ := HP.out
  obtain ⟨q0, q1, q2, q3, q4⟩ := HQ.out
  go_wp2_with fail
  refine (C1.out _).mono ?_
  rintro e w5 ⟨rfl, hb⟩
  clear p0 p1 p2 p3 p4 q0 q1 q2 q3 q4
  replace HB := Lib.hid (btr HB.out hb)
  replace HP := Lib.hid (HP.out.below hb)
  replace HQ := Lib.hid (HQ.out.below hb)
  clear hb
  have HX := Lib.hid (Has4.new w5 false 0 0 0 26)
  replace HB := Lib.hid (bal HB.out (.cells #[.bool false, .int .u64 0, .int .u64 0, .int .i64 0] 26))
  replace HP := Lib.hid (HP.out.alloc (.cells #[.bool false, .int .u64 0, .int .u64 0, .int .i64 0] 26))
  replace HQ := Lib.hid (HQ.out.alloc (.cells #[.bool false, .int .u64 0, .int .u64 0, .int .i64 0] 26))
  clear C1
  obtain ⟨x0, x1, x2, x3, x4⟩ := HX.out
  obtain ⟨p0, p1, p2, p3, p4⟩ := HP.out
  obtain ⟨q0, q1, q2, q3, q4⟩ := HQ.out
  go_wp2_with fail
  refine (CH.out _).mono ?_
  rintro e w6 ⟨rfl, hb⟩
  clear p0 p1 p2 p3 p4 q0 q1 q2 q3 q4
  replace HB := Lib.hid (btr HB.out hb)
  replace HP := Lib.hid (HP.out.below hb)
  replace HQ := Lib.hid (HQ.out.below hb)
  replace HX := Lib.hid (HX.out.below hb)
  clear hb
  clear x0 x1 x2 x3 x4 CH
  obtain ⟨p0, p1, p2, p3, p4⟩ := HP.out
  obtain ⟨q0, q1, q2, q3, q4⟩ := HQ.out
  go_wp2_with fail
  refine (CI.out _).mono ?_
  rintro e w7 ⟨rfl, hb⟩
  clear p0 p1 p2 p3 p4 q0 q1 q2 q3 q4
  replace HB := Lib.hid (btr HB.out hb)
  replace HP := Lib.hid (HP.out.below hb)
  replace HQ := Lib.hid (HQ.out.below hb)
  replace HX := Lib.hid (HX.out.below hb)
  clear hb
  clear CI
  obtain ⟨p0, p1, p2, p3, p4⟩ := HP.out
  obtain ⟨q0, q1, q2, q3, q4⟩ := HQ.out
  go_wp2_with fail
  refine (C2.out _).mono ?_
  rintro e w8 ⟨rfl, hb⟩
  clear p0 p1 p2 p3 p4 q0 q1 q2 q3 q4
  replace HB := Lib.hid (btr HB.out hb)
  replace HP := Lib.hid (HP.out.below hb)
  replace HQ := Lib.hid (HQ.out.below hb)
  replace HX := Lib.hid (HX.out.below hb)
  clear hb C2
  have HY := Lib.hid (Has4.new w8 false 0 0 0 26)
  replace HB := Lib.hid (bal HB.out (.cells #[.bool false, .int .u64 0, .int .u64 0, .int .i64 0] 26))
  replace HP := Lib.hid (HP.out.alloc (.cells #[.bool false, .int .u64 0, .int .u64 0, .int .i64 0] 26))
  replace HQ := Lib.hid (HQ.out.alloc (.cells #[.bool false, .int .u64 0, .int .u64 0, .int .i64 0] 26))
  replace HX := Lib.hid (HX.out.alloc (.cells #[.bool false, .int .u64 0, .int .u64 0, .int .i64 0] 26))
  obtain ⟨x0, x1, x2, x3, x4⟩ := HX.out
  obtain ⟨y0, y1, y2, y3, y4⟩ := HY.out
  go_wp2
  go_ret
  exact ⟨rfl, HB.out⟩

end Go.Proofs.YtjhkbjigpiickaaGreatDoor

namespace Go.Proofs.YtjhkbjigpiickaaGreatDoor
open Go.RowKit

theorem pall_law (p q : Pf) (bits : Int) (w : World) (hg : Good w) (hp : p.Ok) (hq : q.Ok) :
    Calls Tryz.prog 4 #[.agg #[.bool p.v, .int .u64 p.hi, .int .u64 p.lo, .int .i64 p.b], .agg #[.bool q.v, .int .u64 q.hi, .int .u64 q.lo, .int .i64 q.b], .int .i64 bits] w fun e w' => e = .returned (.bool true) ∧ Below w.heap.size w w' := by
  by_cases h1 : p.chk = 0
  · have rp : p.R := (right_iff _ _ _ _ hp.1 hp.2.1 hp.2.2.1 hp.2.2.2).1 h1
    by_cases hr : p.b ≤ bits ∧ bits ≤ wid p.v
    · by_cases h2 : q.chk = 0
      · have rq : q.R := (right_iff _ _ _ _ hq.1 hq.2.1 hq.2.2.1 hq.2.2.2).1 h2
        cases ha : p.has q with
        | true => exact pa_in_a p q bits w hg hp hq rp hr rq ha
        | false => cases hb : q.has p with
          | true => exact pa_in_b p q bits w hg hp hq rp hr rq ha hb
          | false => exact pa_in_apart p q bits w hg hp hq rp hr rq ha hb
      · exact pa_in_bad p q bits w hg hp hq rp hr h2
    · have hr' : bits < p.b ∨ wid p.v < bits := by omega
      by_cases h2 : q.chk = 0
      · have rq : q.R := (right_iff _ _ _ _ hq.1 hq.2.1 hq.2.2.1 hq.2.2.2).1 h2
        cases ha : p.has q with
        | true => exact pa_out_a p q bits w hg hp hq rp hr' rq ha
        | false => cases hb : q.has p with
          | true => exact pa_out_b p q bits w hg hp hq rp hr' rq ha hb
          | false => exact pa_out_apart p q bits w hg hp hq rp hr' rq ha hb
      · exact pa_out_bad p q bits w hg hp hq rp hr' h2
  · exact pa_bad p q bits w hg hp hq h1
end Go.Proofs.YtjhkbjigpiickaaGreatDoor

namespace Go.Proofs.YtjhkbjigpiickaaGreatDoor
open Go.ChangeShapes Go.WideShapes Go.ChangeAt Go.WideMaps Go.WideElems Go.RowKit Go.Deep

theorem addr_add (b o k : Nat) : (⟨b, o, none⟩ : Addr).add k = ⟨b, o + k, none⟩ := by
  unfold Addr.add
  split
  · rename_i h; rw [h]; rfl
  · rfl

theorem list4 {α : Type} {l : List α} (h : l.length = 4) : ∃ a b c d, l = [a, b, c, d] := by
  match l, h with
  | [a, b, c, d], _ => exact ⟨a, b, c, d, rfl⟩

set_option maxRecDepth 100000 in
theorem open_cells {H : Type} {enc : TypeId × Value → H} {W : World} {n : Nat} {cs : List Value} {x : DataW H × List MemPlace} (hl : cs.length = 4)
    (hf : DataW.trod enc Tryz.prog W 0 (fun _ => true) true n 26 cs = some x) :
    ∃ p : Pf, cs = [.bool p.v, .int .u64 p.hi, .int .u64 p.lo, .int .i64 p.b] ∧ p.Ok := by
  obtain ⟨c0, c1, c2, c3, rfl⟩ := list4 hl
  obtain ⟨ya, yb, n, hx, _, ha, hb⟩ := trod_struct2 Tryz.underlying26 hf
  simp only [cells_addr, cells_i] at ha hb
  have ha' : DataW.trod enc Tryz.prog W 0 (fun _ => true) true n 24 [c0, c1, c2] = some ya := ha
  have hb' : DataW.trod enc Tryz.prog W 0 (fun _ => true) true n 3 [c3] = some yb := hb
  obtain ⟨y0, y1, y2, m, hya, _, h0, h1, h2⟩ := Go.Deep.trod_struct3 Tryz.underlying24 ha'
  simp only [cells_b, cells_u] at h0 h1 h2
  obtain ⟨b0, e0, rfl⟩ := DataW.trod_bool Tryz.underlying4 (show DataW.trod enc Tryz.prog W 0 (fun _ => true) true m 4 [c0] = some y0 from h0)
  obtain ⟨i1, e1, rfl, w1⟩ := DataW.trod_int Tryz.underlying22 (show DataW.trod enc Tryz.prog W 0 (fun _ => true) true m 22 [c1] = some y1 from h1)
  obtain ⟨i2, e2, rfl, w2⟩ := DataW.trod_int Tryz.underlying22 (show DataW.trod enc Tryz.prog W 0 (fun _ => true) true m 22 [c2] = some y2 from h2)
  obtain ⟨i3, e3, rfl, w3⟩ := DataW.trod_int Tryz.underlying3 hb'
  simp at e0 e1 e2 e3
  subst e0 e1 e2 e3
  obtain ⟨a1, a2⟩ := wd_of w1
  obtain ⟨a3, a4⟩ := wd_of w2
  exact ⟨⟨b0, i1, i2, i3⟩, rfl, a1, a2, a3, a4⟩

set_option maxRecDepth 100000 in
/-- A list of prefixes that came in, opened. -/
theorem open_pfs {H : Type} {enc : TypeId × Value → H} {W : World} {base : Nat} {v : Value} {d : DataW H} {p : List MemPlace}
    (hv : Value.okWide Tryz.prog W .any base 27 v) (h : DataW.Trod enc Tryz.prog W 0 (fun _ => true) true 27 v d p) :
    ∃ (a : Option Addr) (ps : List Pf) (c : Nat), v = .slice a ps.length c ∧ ps.length ≤ c ∧ Sl W a ps ∧ ∀ p ∈ ps, p.Ok := by
  obtain ⟨a0, len, cap, rfl⟩ := okWide_slice Tryz.underlying27 hv
  obtain ⟨fuel, hf⟩ := h
  rcases open_slice Tryz.underlying27 hf with ⟨hcs, _⟩ | ⟨a, len', cap', m, n, D, Pl, hcs, _, hl, _, hm, _, hel⟩
  · simp [Value.cells] at hcs
    obtain ⟨rfl, rfl, rfl⟩ := hcs
    exact ⟨none, [], 0, rfl, Nat.le_refl _, fun j hj => by simp at hj, by simp⟩
  · simp [Value.cells] at hcs
    obtain ⟨rfl, rfl, rfl⟩ := hcs
    simp only [if_true] at hm
    subst hm
    rw [cells_pf] at hel
    have each : ∀ i, i < len → ∃ p : Pf, p.Ok ∧ ∀ k (hk : k < 4), W.cell? ((a.add (i * 4)).add k) = [Value.bool p.v, .int .u64 p.hi, .int .u64 p.lo, .int .i64 p.b][k]? := fun i hi => by
      obtain ⟨cs', h1, h2⟩ := hel i (by omega)
      obtain ⟨_, hlen, hcell⟩ := World.cells?_some h1
      obtain ⟨p, rfl, hok⟩ := open_cells hlen h2
      exact ⟨p, hok, hcell⟩
    let f : Nat → Pf := fun i => if h : i < len then (each i h).choose else ⟨false, 0, 0, 0⟩
    have hfs : ∀ i, i < len → (f i).Ok ∧ ∀ k (hk : k < 4), W.cell? ((a.add (i * 4)).add k) = [Value.bool (f i).v, .int .u64 (f i).hi, .int .u64 (f i).lo, .int .i64 (f i).b][k]? := fun i hi => by
      have := (each i hi).choose_spec
      simp only [f, hi, dif_pos]
      exact this
    refine ⟨some a, (List.range len).map f, m, by simp, by simpa using hl, ?_, ?_⟩
    · intro j hj
      have hj' : j < len := by simpa using hj
      obtain ⟨_, hc⟩ := hfs j hj'
      have hsp : a.spot = none := by
        have h0 := (hfs 0 (by omega)).2 0 (by decide)
        have h1 : W.cell? a = some (.bool (f 0).v) := by simpa [Addr.add] using h0
        exact World.cell?_spot h1
      obtain ⟨blk, off, spot⟩ := a
      simp only at hsp
      subst hsp
      have hlt : blk < W.heap.size := by
        have h0 := hc 0 (by decide)
        rw [addr_add, addr_add] at h0
        exact World.block_lt_of_cell? W _ h0
      refine ⟨blk, off, rfl, hlt, ?_, ?_, ?_, ?_⟩
      · have := hc 0 (by decide); rw [addr_add, addr_add] at this; simpa using this
      · have := hc 1 (by decide); rw [addr_add, addr_add] at this; simpa using this
      · have := hc 2 (by decide); rw [addr_add, addr_add] at this; simpa using this
      · have := hc 3 (by decide); rw [addr_add, addr_add] at this; simpa using this
    · intro p hp
      obtain ⟨i, hi, rfl⟩ := List.mem_map.1 hp
      exact (hfs i (List.mem_range.1 hi)).1
end Go.Proofs.YtjhkbjigpiickaaGreatDoor
