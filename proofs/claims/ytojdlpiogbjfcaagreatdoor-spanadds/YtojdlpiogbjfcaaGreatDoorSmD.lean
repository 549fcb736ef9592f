/- SpanAdds: the walk and the law. -/
import Derived.Test.YtojdlpiogbjfcaaGreatDoorSmB
import Derived.Test.YtojdlpiogbjfcaaGreatDoorSmA
import Derived.Test.YtojdlpiogbjfcaaGreatDoorPBb
set_option linter.unusedVariables false
set_option linter.unusedSimpArgs false
namespace Go.Proofs.YtojdlpiogbjfcaaGreatDoor
open Go.RowKit

theorem at_world (W : World) {c : Prop} [Decidable c] {P : Program} {o : Oper} {a : Act} {w : World} {K : Act → World → Prop} {Q : Exit → Act → World → Prop} {E : Prop} (hw : w = W) (h : if c then Oper.wp P o a W K Q else E) : if c then Oper.wp P o a w K Q else E := by rw [hw]; exact h
/-- append of nil in a region that draws: nothing turns. -/
theorem step_append_none {P : Program} {w : World} {ops : Array Oper} {o : Oper} {a : Act} {K : Act → World → Prop} {Q : Exit → Act → World → Prop} {E : Prop} (hgd : o.guard = none) (s x : Operand) (t : TypeId)
    (ho : o.op = .call { callee := .builtin .append, args := #[s, x], argTypes := #[t, t] })
    (base : Nat) (e : TypeId) (i : TypeInfo) (size : Nat) (ht : P.underlying t = some (.slice e)) (hi : P.info? e = some i)
    (v : Value) (n : Nat) (xs : List Value) (hs : a.eval s = v) (hown : w.ownsRow base e size v n xs) (hx : a.eval x = .slice none 0 0)
    (h : K (a.put o.dst v) w) : if Region.wanted o (yielded ops a.tmps) = true then Oper.wp P o a w K Q else E := by
  have hw : Region.wanted o (yielded ops a.tmps) = true := by simp [Region.wanted, hgd]
  rw [if_pos hw]
  have hrun := run_append_owned_none (P := P) (w := w) base t o.type e i size ht hi v n xs hown
  unfold Oper.wp
  simp [execOp, ho, resolve, invoke, builtin, hs, hx, hrun, Result.andThen]
  exact h
theorem far_cells {w w' : World} {row : Option Nat} {g : Nat} {L : List Pf} (hg : w.grownBy w' row) (hr : row ≠ some g) (h : Sl w (some ⟨g, 0, none⟩) L) : Sl w' (some ⟨g, 0, none⟩) L := by
  intro j hj
  obtain ⟨g', o', e, hlt, b⟩ := h j hj
  obtain ⟨rfl, rfl⟩ : g = g' ∧ 0 = o' := by simpa using e
  have k : ∀ oo, w'.cell? ⟨g, oo, none⟩ = w.cell? ⟨g, oo, none⟩ := fun oo => hg.cell_far _ hlt (fun h => hr h.symm)
  exact ⟨g, 0, rfl, Nat.lt_of_lt_of_le hlt hg.size, by rw [k, k, k, k]; exact b⟩
set_option maxHeartbeats 64000000 in
set_option maxRecDepth 100000 in
theorem sd_bad (a : Option Addr) (c N : Nat) (p : Pf) (w : World)
    (CB : Hid (∀ w' : World, Calls Tryz.prog 6 #[] w' fun e w'' => e = .returned (.bool true) ∧ Below w'.heap.size w' w''))
    (CQ : Hid (∀ w' : World, Below w.heap.size w w' → Calls Tryz.prog 7 #[] w' fun e w'' => e = .returned (.bool true) ∧ Below w'.heap.size w' w'')) (r : Int) (hI : (r != 0) = true)
    (CN : Hid (∀ w' : World, Below w.heap.size w w' → Calls Tryz.prog 8 #[.slice a N c] w' fun e w'' => e = .returned (.tuple #[.slice none 0 0, .int .i64 r]) ∧ Below w'.heap.size w' w''))
    (CM : Hid (∀ w' : World, Below w.heap.size w w' → Calls Tryz.prog 9 #[.slice a N c, .agg #[.bool p.v, .int .u64 p.hi, .int .u64 p.lo, .int .i64 p.b]] w' fun e w'' => e = .returned (.tuple #[.slice none 0 0, .int .i64 r]) ∧ Below w'.heap.size w' w'')) :
    Calls Tryz.prog 5 #[.slice a N c, .agg #[.bool p.v, .int .u64 p.hi, .int .u64 p.lo, .int .i64 p.b]] w fun e w' => e = .returned (.bool true) ∧ Below w.heap.size w w' := by
  have HP := Lib.hid (Has4.new w p.v p.hi p.lo p.b 27)
  have HB := Lib.hid (pal w p.v p.hi p.lo p.b)
  go_enter Tryz.func5, Tryz.ntmps5
  obtain ⟨p0, p1, p2, p3, p4⟩ := HP.out
  go_wp2_with fail
  refine (CB.out _).mono ?_
  rintro e w1 ⟨rfl, hb⟩
  clear p0 p1 p2 p3 p4
  replace HP := Lib.hid (HP.out.below hb)
  replace HB := Lib.hid (btr HB.out hb)
  clear hb
  obtain ⟨p0, p1, p2, p3, p4⟩ := HP.out
  go_wp2_with fail
  refine (CQ.out _ HB.out).mono ?_
  rintro e w2 ⟨rfl, hb⟩
  clear p0 p1 p2 p3 p4
  replace HP := Lib.hid (HP.out.below hb)
  replace HB := Lib.hid (btr HB.out hb)
  clear hb
  obtain ⟨p0, p1, p2, p3, p4⟩ := HP.out
  go_wp2_with fail
  refine (CN.out _ HB.out).mono ?_
  rintro e w3 ⟨rfl, hb⟩
  clear p0 p1 p2 p3 p4
  replace HP := Lib.hid (HP.out.below hb)
  replace HB := Lib.hid (btr HB.out hb)
  clear hb
  obtain ⟨p0, p1, p2, p3, p4⟩ := HP.out
  go_wp2_with fail
  refine (CM.out _ HB.out).mono ?_
  rintro e w4 ⟨rfl, hb⟩
  clear p0 p1 p2 p3 p4
  replace HP := Lib.hid (HP.out.below hb)
  replace HB := Lib.hid (btr HB.out hb)
  clear hb
  go_wp2
  go_ret
  exact ⟨rfl, HB.out⟩

set_option maxHeartbeats 64000000 in
set_option maxRecDepth 100000 in
theorem sd_badp (a : Option Addr) (c N : Nat) (p : Pf) (w : World)
    (CB : Hid (∀ w' : World, Calls Tryz.prog 6 #[] w' fun e w'' => e = .returned (.bool true) ∧ Below w'.heap.size w' w''))
    (CQ : Hid (∀ w' : World, Below w.heap.size w w' → Calls Tryz.prog 7 #[] w' fun e w'' => e = .returned (.bool true) ∧ Below w'.heap.size w' w'')) (A : Bool → Int → Prop) (r : Int) (hI : (r != 0) = true)
    (CN : Hid (∀ w' : World, Below w.heap.size w w' → Calls Tryz.prog 8 #[.slice a N c] w' (NormPost2 w' N A)))
    (CM : Hid (∀ w' : World, Below w.heap.size w w' → Calls Tryz.prog 9 #[.slice a N c, .agg #[.bool p.v, .int .u64 p.hi, .int .u64 p.lo, .int .i64 p.b]] w' fun e w'' => e = .returned (.tuple #[.slice none 0 0, .int .i64 r]) ∧ Below w'.heap.size w' w'')) :
    Calls Tryz.prog 5 #[.slice a N c, .agg #[.bool p.v, .int .u64 p.hi, .int .u64 p.lo, .int .i64 p.b]] w fun e w' => e = .returned (.bool true) ∧ Below w.heap.size w w' := by
  have HP := Lib.hid (Has4.new w p.v p.hi p.lo p.b 27)
  have HB := Lib.hid (pal w p.v p.hi p.lo p.b)
  go_enter Tryz.func5, Tryz.ntmps5
  obtain ⟨p0, p1, p2, p3, p4⟩ := HP.out
  go_wp2_with fail
  refine (CB.out _).mono ?_
  rintro e w1 ⟨rfl, hb⟩
  clear p0 p1 p2 p3 p4
  replace HP := Lib.hid (HP.out.below hb)
  replace HB := Lib.hid (btr HB.out hb)
  clear hb
  obtain ⟨p0, p1, p2, p3, p4⟩ := HP.out
  go_wp2_with fail
  refine (CQ.out _ HB.out).mono ?_
  rintro e w2 ⟨rfl, hb⟩
  clear p0 p1 p2 p3 p4
  replace HP := Lib.hid (HP.out.below hb)
  replace HB := Lib.hid (btr HB.out hb)
  clear hb
  obtain ⟨p0, p1, p2, p3, p4⟩ := HP.out
  go_wp2_with fail
  refine (CN.out _ HB.out).mono ?_
  rintro e w3 ⟨v1, M1, rfl, o1, i1, l1, hb⟩
  clear p0 p1 p2 p3 p4
  replace HP := Lib.hid (HP.out.below hb)
  replace HB := Lib.hid (btr HB.out hb)
  obtain ⟨r1, c1, rfl, _, s1⟩ := own_sl o1
  have L1 := Lib.hid s1
  have I1 := Lib.hid i1
  clear o1 i1 s1
  clear hb
  obtain ⟨p0, p1, p2, p3, p4⟩ := HP.out
  go_wp2_with fail
  refine (CM.out _ HB.out).mono ?_
  rintro e w4 ⟨rfl, hb⟩
  clear p0 p1 p2 p3 p4
  replace HP := Lib.hid (HP.out.below hb)
  replace HB := Lib.hid (btr HB.out hb)
  replace L1 := Lib.hid (L1.out.below hb)
  clear hb
  go_wp2
  go_ret
  exact ⟨rfl, HB.out⟩

def anyP (L : List Pf) (p : Pf) : Bool := L.any fun s => s.has p
theorem anyP_step {L : List Pf} {p : Pf} {k : Nat} (h : k < L.length) : anyP (L.take (k + 1)) p = (anyP (L.take k) p || (L[k]).has p) := by
  unfold anyP; rw [List.take_succ_eq_append_getElem h, List.any_append]; simp
theorem bl_val {a b : Bool} (h : a = b) : Value.bool a = Value.bool b := by rw [h]
theorem sl_onep (w : World) (p : Pf) : Sl (w.alloc (.cells #[.bool p.v, .int .u64 p.hi, .int .u64 p.lo, .int .i64 p.b] 27)) (some ⟨w.heap.size, 0, none⟩) [p] := by
  intro j hj
  obtain rfl : j = 0 := by simp at hj; exact hj
  refine ⟨_, _, rfl, by simp, ?_⟩
  simp [go_sem]

set_option maxHeartbeats 64000000 in
set_option maxRecDepth 100000 in
theorem sd_ok (a : Option Addr) (c N : Nat) (p : Pf) (w : World)
    (CB : Hid (∀ w' : World, Calls Tryz.prog 6 #[] w' fun e w'' => e = .returned (.bool true) ∧ Below w'.heap.size w' w''))
    (CQ : Hid (∀ w' : World, Below w.heap.size w w' → Calls Tryz.prog 7 #[] w' fun e w'' => e = .returned (.bool true) ∧ Below w'.heap.size w' w'')) (A A2 : Bool → Int → Prop) (h12 : N ≤ 12) (rp : p.R)
    (CMn : Hid (∀ (M : List Pf) (r : Option Addr) (d k : Nat) (w' : World), IsNorm M A → ∀ h : k < M.length, M.length ≤ 12 → Sl w' r M → Calls Tryz.prog 9 #[.slice r M.length d, .agg #[.bool (M[k]).v, .int .u64 (M[k]).hi, .int .u64 (M[k]).lo, .int .i64 (M[k]).b]] w' (NormPost2 w' 1548 (fun v x => Adr (M.map Pf.nd) v x ∧ ¬ (M[k]).nd.In v x))))
    (CTn : Hid (∀ (M M1 : List Pf) (n : Nat) (r : Option Addr) (d : Nat) (w' : World), IsNorm M A2 → IsNorm M1 A → n = (M ++ [p]).length → n ≤ 12 → anyP M1 p = true → Sl w' r (M ++ [p]) → Calls Tryz.prog 8 #[.slice r n d] w' (NormPost2 w' n A)))
    (CN : Hid (∀ w' : World, Below w.heap.size w w' → Calls Tryz.prog 8 #[.slice a N c] w' (NormPost2 w' N A)))
    (CM : Hid (∀ w' : World, Below w.heap.size w w' → Calls Tryz.prog 9 #[.slice a N c, .agg #[.bool p.v, .int .u64 p.hi, .int .u64 p.lo, .int .i64 p.b]] w' (NormPost2 w' 1548 A2))) :
    Calls Tryz.prog 5 #[.slice a N c, .agg #[.bool p.v, .int .u64 p.hi, .int .u64 p.lo, .int .i64 p.b]] w fun e w' => e = .returned (.bool true) ∧ Below w.heap.size w w' := by
  have Hrp := Lib.hid rp
  obtain ⟨i0, hi0, hz0, hz1, hz2⟩ := info_parts infoP
  have HP := Lib.hid (Has4.new w p.v p.hi p.lo p.b 27)
  have HB := Lib.hid (pal w p.v p.hi p.lo p.b)
  go_enter Tryz.func5, Tryz.ntmps5
  obtain ⟨p0, p1, p2, p3, p4⟩ := HP.out
  go_wp2_with fail
  refine (CB.out _).mono ?_
  rintro e w1 ⟨rfl, hb⟩
  clear p0 p1 p2 p3 p4
  replace HP := Lib.hid (HP.out.below hb)
  replace HB := Lib.hid (btr HB.out hb)
  clear hb
  obtain ⟨p0, p1, p2, p3, p4⟩ := HP.out
  go_wp2_with fail
  refine (CQ.out _ HB.out).mono ?_
  rintro e w2 ⟨rfl, hb⟩
  clear p0 p1 p2 p3 p4
  replace HP := Lib.hid (HP.out.below hb)
  replace HB := Lib.hid (btr HB.out hb)
  clear hb
  obtain ⟨p0, p1, p2, p3, p4⟩ := HP.out
  go_wp2_with fail
  refine (CN.out _ HB.out).mono ?_
  rintro e w3 ⟨v1, M1, rfl, o1, i1, l1, hb⟩
  clear p0 p1 p2 p3 p4
  replace HP := Lib.hid (HP.out.below hb)
  replace HB := Lib.hid (btr HB.out hb)
  obtain ⟨r1, c1, rfl, _, s1⟩ := own_sl o1
  have L1 := Lib.hid s1
  have I1 := Lib.hid i1
  clear o1 i1 s1
  clear hb
  obtain ⟨p0, p1, p2, p3, p4⟩ := HP.out
  go_wp2_with fail
  refine (CM.out _ HB.out).mono ?_
  rintro e w4 ⟨v2, M2, rfl, o2, i2, l2, hb⟩
  clear p0 p1 p2 p3 p4
  replace HP := Lib.hid (HP.out.below hb)
  replace HB := Lib.hid (btr HB.out hb)
  replace L1 := Lib.hid (L1.out.below hb)
  have O2 := Lib.hid o2
  have I2 := Lib.hid i2
  clear o2 i2
  clear hb
  have hl1 : M1.length ≤ 12 := Nat.le_trans l1 h12
  have hm2 := Lib.hid l2
  obtain ⟨m1, hm1⟩ : ∃ m, m = M1.length := ⟨_, rfl⟩
  obtain ⟨m2, hm2'⟩ : ∃ m, m = M2.length := ⟨_, rfl⟩
  rw [← hm1] at hl1 ⊢
  have Hm1 := Lib.hid hm1
  have Hm2 := Lib.hid hm2'
  have CP : Hid (∀ (x : Pf) (w' : World), x.R → Calls Tryz.prog 14 #[.agg #[.bool x.v, .int .u64 x.hi, .int .u64 x.lo, .int .i64 x.b], .agg #[.bool p.v, .int .u64 p.hi, .int .u64 p.lo, .int .i64 p.b]] w' fun e w'' => e = .returned (.tuple #[.bool (x.has p), .int .i64 0]) ∧ Below w'.heap.size w' w'') := fun x w' rx => has_ok x.v x.hi x.lo x.b p.v p.hi p.lo p.b w' rx.h0 rx.h1 rx.l0 rx.l1 rp.h0 rp.h1 rp.l0 rp.l1 (two_R rx rp)
  have HV2 : Hid ((v2 = .slice none 0 0 ∧ M2 = []) ∨ ∃ g2 c2, v2 = .slice (some ⟨g2, 0, none⟩) m2 c2 ∧ Sl w4 (some ⟨g2, 0, none⟩) M2) := by
    obtain ⟨a2, c2, e2, _, s2⟩ := own_sl O2.out
    rcases O2.out.2 with ⟨h, h'⟩ | ⟨g, cap, cur, h, _⟩
    · exact .inl ⟨h, List.length_eq_zero_iff.1 h'⟩
    · rw [h] at e2
      injection e2 with e3 e4 e5
      subst e3
      exact .inr ⟨g, cap, by rw [h, hm2'], s2⟩
  clear O2 l1 l2 hm1 hm2' rp CN CM
  rcases HV2.out with ⟨rfl, hM2⟩ | ⟨g2, c2, rfl, s2⟩
  · have HM2 := Lib.hid hM2
    clear hM2 HV2
    go_wp2_with fail
    go_loopw [9, 10] (fun va vi wr => ∃ k : Nat, vi = .int .i64 k ∧ k ≤ m1 ∧ va = .bool (anyP (M1.take k) p) ∧ Hid (Has4 wr w.heap.size p.v p.hi p.lo p.b) ∧ Hid (Below w.heap.size w wr) ∧ Hid (Sl wr r1 M1))
      (fun _ vi _ => m1 - (intOf vi).toNat)
    case atStart => exact ⟨0, rfl, Nat.zero_le _, rfl, HP, HB, L1⟩
    case round =>
      clear HP HB L1
      obtain ⟨k, rfl, hk, rfl, HP, HB, L1⟩ := hrel
      by_cases hkm : k < m1
      · have hkl : k < M1.length := by have := Hm1.out; omega
        obtain ⟨g, o, ea, hg, d0, d1, d2, d3⟩ := L1.out k hkl
        have E1 := Lib.hid (anyP_step (p := p) hkl)
        have rx := I1.out.right _ (List.getElem_mem hkl)
        have D1 := Lib.hid (fun w' => CP.out M1[k] w' rx)
        subst ea
        generalize (M1[k]).has p = y1 at *
        generalize M1[k] = x at *
        generalize anyP (M1.take k) p = b1 at *
        have HS : Hid ((wr.cell? ⟨w.heap.size, 0, none⟩ = some (.bool p.v) ∧ wr.cell? ⟨w.heap.size, 1, none⟩ = some (.int .u64 p.hi) ∧ wr.cell? ⟨w.heap.size, 2, none⟩ = some (.int .u64 p.lo) ∧ wr.cell? ⟨w.heap.size, 3, none⟩ = some (.int .i64 p.b) ∧ w.heap.size < wr.heap.size) ∧ (wr.cell? ⟨g, o + k * 4, none⟩ = some (.bool x.v) ∧ wr.cell? ⟨g, o + k * 4 + 1, none⟩ = some (.int .u64 x.hi) ∧ wr.cell? ⟨g, o + k * 4 + 2, none⟩ = some (.int .u64 x.lo) ∧ wr.cell? ⟨g, o + k * 4 + 3, none⟩ = some (.int .i64 x.b) ∧ g < wr.heap.size) ∧ Below w.heap.size w wr) := ⟨HP.out, ⟨d0, d1, d2, d3, hg⟩, HB.out⟩
        have k1 : (k : Int) < (m1 : Int) := by omega
        have k2 : (0 : Int) ≤ (k : Int) := by omega
        clear d0 d1 d2 d3 hg rx hkl HP HB
        go_wp2_with fail
        have HSd := Lib.hid (keepR HS.out (Below.refl _ _).drew)
        go_region_held3 (fun w' => (w'.cell? ⟨w.heap.size, 0, none⟩ = some (.bool p.v) ∧ w'.cell? ⟨w.heap.size, 1, none⟩ = some (.int .u64 p.hi) ∧ w'.cell? ⟨w.heap.size, 2, none⟩ = some (.int .u64 p.lo) ∧ w'.cell? ⟨w.heap.size, 3, none⟩ = some (.int .i64 p.b) ∧ w.heap.size < w'.heap.size) ∧ (w'.cell? ⟨g, o + k * 4, none⟩ = some (.bool x.v) ∧ w'.cell? ⟨g, o + k * 4 + 1, none⟩ = some (.int .u64 x.hi) ∧ w'.cell? ⟨g, o + k * 4 + 2, none⟩ = some (.int .u64 x.lo) ∧ w'.cell? ⟨g, o + k * 4 + 3, none⟩ = some (.int .i64 x.b) ∧ g < w'.heap.size) ∧ Below w.heap.size w w')
          (first | with_reducible exact HSd.out | with_reducible exact HSe.out | fail)
          ((go_at_call 14; refine (D1.out _).mono ?_; rintro e wx ⟨rfl, hb⟩; have HSe := Lib.hid (keepR HSd.out hb); replace L1 := Lib.hid ((L1.out.below (Below.refl _ _).drew).below hb); clear hb))
        have HP2 := Lib.hid HSe.out.1
        have HB2 := Lib.hid HSe.out.2.2
        clear HS HSd HSe
        cases b1
        all_goals
          go_wp2_with fail
          go_roundw
          case rel => exact ⟨k + 1, by go_num, by omega, bl_val (by rw [E1.out]; simp), HP2, HB2, L1⟩
          case measure => simp [intOf]; omega
      · obtain rfl : m1 = k := by omega
        have k3 : decide ((m1 : Int) < (m1 : Int)) = false := by simp
        rw [List.take_of_length_le (show M1.length ≤ m1 by have := Hm1.out; omega)]
        cases hb1 : anyP M1 p
        · clear HP
          go_wp2_with fail
          go_loopw [15] (fun vi wr => ∃ k : Nat, vi = .int .i64 k ∧ k ≤ m1 ∧ Hid (Sl wr r1 M1) ∧ Hid (Below w.heap.size w wr))
            (fun vi _ => m1 - (intOf vi).toNat)
          case atStart => exact ⟨0, rfl, Nat.zero_le _, L1, HB⟩
          case round =>
            clear L1 HB
            obtain ⟨k, rfl, hk, L1, HB⟩ := hrel
            by_cases hkm : k < m1
            · have hkl : k < M1.length := by have := Hm1.out; omega
              obtain ⟨g, o, ea, hg, x0, x1, x2, x3⟩ := L1.out k hkl
              have CM2 := Lib.hid (fun w' (h : Sl w' r1 M1) => CMn.out M1 r1 c1 k w' I1.out hkl (by have := Hm1.out; omega) h)
              subst ea
              have HIk := Lib.hid (fun M (h : IsNorm M (fun v x => Adr (M1.map Pf.nd) v x ∧ ¬ (M1[k]).nd.In v x)) => I1.out.less hkl h)
              generalize M1[k] = x at *
              rw [← Hm1.out] at CM2 HIk
              have k1 : (k : Int) < (m1 : Int) := by omega
              have k2 : (0 : Int) ≤ (k : Int) := by omega
              have k3 : (m1 : Int) ≤ 12 := by omega
              have hge : 1 ≤ m1 := by omega
              clear hkl hg
              go_wp2_with fail
              refine (CM2.out _ L1.out).mono ?_
              rintro e w9 ⟨v9, M9, rfl, o9, i9, l9, hb⟩
              have hlen := HIk.out M9 i9
              obtain ⟨r9, c9, rfl, _, _⟩ := own_sl o9
              replace L1 := Lib.hid (L1.out.below hb)
              replace HB := Lib.hid (btr HB.out hb)
              rw [hlen]
              have k4 : (((m1 - 1 : Nat) : Int) != (m1 : Int) - 1) = false := by
                rw [bne_eq_false_iff_eq]; omega
              obtain ⟨m9, hm9⟩ : ∃ m9, m9 = m1 - 1 := ⟨_, rfl⟩
              rw [← hm9] at k4 ⊢
              clear hb o9 i9 x0 x1 x2 x3 hlen hm9
              go_wp2_with fail
              go_roundw
              case rel => exact ⟨k + 1, by go_num, by omega, L1, HB⟩
              case measure => simp [intOf]; omega
            · obtain rfl : m1 = k := by omega
              have k3 : decide ((m1 : Int) < (m1 : Int)) = false := by simp
              go_wp2_with fail
              go_ret
              exact ⟨rfl, HB.out⟩
        · rcases (show m2 < 12 ∧ m2 = 0 by rw [Hm2.out, HM2.out]; simp) with ⟨hm12, hm20⟩
          · obtain ⟨n5, hn5⟩ : ∃ n5, Hid (n5 = (M2 ++ [p]).length) := ⟨_, rfl⟩
            have CT := Lib.hid (fun (r : Option Addr) (d : Nat) (w' : World) (h : Sl w' r (M2 ++ [p])) => CTn.out M2 M1 n5 r d w' I2.out I1.out hn5.out (by rw [hn5.out, List.length_append]; have := Hm2.out; simp; omega) hb1 h)
            have C6 := Lib.hid (fun (b : Option Addr) (d : Nat) w' (h1 : Sl w' b M1) (h2 : Sl w' r1 M1) => same_any b r1 d c1 M1 w' (by have := Hm1.out; omega) h1 h2)
            rw [← Hm1.out] at C6
            obtain ⟨p0, p1, p2, p3, p4⟩ := HP.out
            go_wp2_with fail
            obtain ⟨W, hW⟩ : ∃ W, W = wr := ⟨_, rfl⟩
            subst hW
            have TW : Hid ((W.cell? ⟨w.heap.size, 0, none⟩ = some (.bool p.v) ∧ W.cell? ⟨w.heap.size, 1, none⟩ = some (.int .u64 p.hi) ∧ W.cell? ⟨w.heap.size, 2, none⟩ = some (.int .u64 p.lo) ∧ W.cell? ⟨w.heap.size, 3, none⟩ = some (.int .i64 p.b) ∧ w.heap.size < W.heap.size) ∧ Below w.heap.size w W) := ⟨HP.out, HB.out⟩
            have T0 : Hid ((W.drew.cell? ⟨w.heap.size, 0, none⟩ = some (.bool p.v) ∧ W.drew.cell? ⟨w.heap.size, 1, none⟩ = some (.int .u64 p.hi) ∧ W.drew.cell? ⟨w.heap.size, 2, none⟩ = some (.int .u64 p.lo) ∧ W.drew.cell? ⟨w.heap.size, 3, none⟩ = some (.int .i64 p.b) ∧ w.heap.size < W.drew.heap.size) ∧ Below w.heap.size w W.drew) := ⟨HP.out, HB.out.drew⟩
            have TA : Hid (((W.alloc (.cells #[] 27)).drew.cell? ⟨w.heap.size, 0, none⟩ = some (.bool p.v) ∧ (W.alloc (.cells #[] 27)).drew.cell? ⟨w.heap.size, 1, none⟩ = some (.int .u64 p.hi) ∧ (W.alloc (.cells #[] 27)).drew.cell? ⟨w.heap.size, 2, none⟩ = some (.int .u64 p.lo) ∧ (W.alloc (.cells #[] 27)).drew.cell? ⟨w.heap.size, 3, none⟩ = some (.int .i64 p.b) ∧ w.heap.size < (W.alloc (.cells #[] 27)).drew.heap.size) ∧ Below w.heap.size w (W.alloc (.cells #[] 27)).drew) := ⟨HP.out.below (bal (Below.refl _ _) _).drew, (bal HB.out _).drew⟩
            have TB : Hid ((((W.alloc (.cells #[] 27)).alloc (.cells #[.bool p.v, .int .u64 p.hi, .int .u64 p.lo, .int .i64 p.b] 27)).drew.cell? ⟨w.heap.size, 0, none⟩ = some (.bool p.v) ∧ ((W.alloc (.cells #[] 27)).alloc (.cells #[.bool p.v, .int .u64 p.hi, .int .u64 p.lo, .int .i64 p.b] 27)).drew.cell? ⟨w.heap.size, 1, none⟩ = some (.int .u64 p.hi) ∧ ((W.alloc (.cells #[] 27)).alloc (.cells #[.bool p.v, .int .u64 p.hi, .int .u64 p.lo, .int .i64 p.b] 27)).drew.cell? ⟨w.heap.size, 2, none⟩ = some (.int .u64 p.lo) ∧ ((W.alloc (.cells #[] 27)).alloc (.cells #[.bool p.v, .int .u64 p.hi, .int .u64 p.lo, .int .i64 p.b] 27)).drew.cell? ⟨w.heap.size, 3, none⟩ = some (.int .i64 p.b) ∧ w.heap.size < ((W.alloc (.cells #[] 27)).alloc (.cells #[.bool p.v, .int .u64 p.hi, .int .u64 p.lo, .int .i64 p.b] 27)).drew.heap.size) ∧ Below w.heap.size w ((W.alloc (.cells #[] 27)).alloc (.cells #[.bool p.v, .int .u64 p.hi, .int .u64 p.lo, .int .i64 p.b] 27)).drew) := ⟨HP.out.below (bal (bal (Below.refl _ _) _) _).drew, (bal (bal HB.out _) _).drew⟩
            have TC : Hid ((((W.alloc (.cells #[.bool p.v, .int .u64 p.hi, .int .u64 p.lo, .int .i64 p.b] 27)).alloc (.cells #[] 27)).drew.cell? ⟨w.heap.size, 0, none⟩ = some (.bool p.v) ∧ ((W.alloc (.cells #[.bool p.v, .int .u64 p.hi, .int .u64 p.lo, .int .i64 p.b] 27)).alloc (.cells #[] 27)).drew.cell? ⟨w.heap.size, 1, none⟩ = some (.int .u64 p.hi) ∧ ((W.alloc (.cells #[.bool p.v, .int .u64 p.hi, .int .u64 p.lo, .int .i64 p.b] 27)).alloc (.cells #[] 27)).drew.cell? ⟨w.heap.size, 2, none⟩ = some (.int .u64 p.lo) ∧ ((W.alloc (.cells #[.bool p.v, .int .u64 p.hi, .int .u64 p.lo, .int .i64 p.b] 27)).alloc (.cells #[] 27)).drew.cell? ⟨w.heap.size, 3, none⟩ = some (.int .i64 p.b) ∧ w.heap.size < ((W.alloc (.cells #[.bool p.v, .int .u64 p.hi, .int .u64 p.lo, .int .i64 p.b] 27)).alloc (.cells #[] 27)).drew.heap.size) ∧ Below w.heap.size w ((W.alloc (.cells #[.bool p.v, .int .u64 p.hi, .int .u64 p.lo, .int .i64 p.b] 27)).alloc (.cells #[] 27)).drew) := ⟨HP.out.below (bal (bal (Below.refl _ _) _) _).drew, (bal (bal HB.out _) _).drew⟩
            have TD : Hid (((W.alloc (.cells #[.bool p.v, .int .u64 p.hi, .int .u64 p.lo, .int .i64 p.b] 27)).drew.cell? ⟨w.heap.size, 0, none⟩ = some (.bool p.v) ∧ (W.alloc (.cells #[.bool p.v, .int .u64 p.hi, .int .u64 p.lo, .int .i64 p.b] 27)).drew.cell? ⟨w.heap.size, 1, none⟩ = some (.int .u64 p.hi) ∧ (W.alloc (.cells #[.bool p.v, .int .u64 p.hi, .int .u64 p.lo, .int .i64 p.b] 27)).drew.cell? ⟨w.heap.size, 2, none⟩ = some (.int .u64 p.lo) ∧ (W.alloc (.cells #[.bool p.v, .int .u64 p.hi, .int .u64 p.lo, .int .i64 p.b] 27)).drew.cell? ⟨w.heap.size, 3, none⟩ = some (.int .i64 p.b) ∧ w.heap.size < (W.alloc (.cells #[.bool p.v, .int .u64 p.hi, .int .u64 p.lo, .int .i64 p.b] 27)).drew.heap.size) ∧ Below w.heap.size w (W.alloc (.cells #[.bool p.v, .int .u64 p.hi, .int .u64 p.lo, .int .i64 p.b] 27)).drew) := ⟨HP.out.below (bal (Below.refl _ _) _).drew, (bal HB.out _).drew⟩
            have kA : Hid (Below W.heap.size W (W.alloc (.cells #[] 27)).drew) := (bal (Below.refl _ _) _).drew
            have kB : Hid (Below W.heap.size W ((W.alloc (.cells #[] 27)).alloc (.cells #[.bool p.v, .int .u64 p.hi, .int .u64 p.lo, .int .i64 p.b] 27)).drew) := (bal (bal (Below.refl _ _) _) _).drew
            have kC : Hid (Below W.heap.size W ((W.alloc (.cells #[.bool p.v, .int .u64 p.hi, .int .u64 p.lo, .int .i64 p.b] 27)).alloc (.cells #[] 27)).drew) := (bal (bal (Below.refl _ _) _) _).drew
            have rA : Hid (World.ownsRow (W.alloc (.cells #[] 27)).drew W.heap.size 27 4 (.slice (some ⟨W.heap.size, 0, none⟩) 0 0) 0 []) := row_empty W
            have rB : Hid (World.ownsRow ((W.alloc (.cells #[] 27)).alloc (.cells #[.bool p.v, .int .u64 p.hi, .int .u64 p.lo, .int .i64 p.b] 27)).drew W.heap.size 27 4 (.slice (some ⟨W.heap.size, 0, none⟩) 0 0) 0 []) := own_keep (row_empty W) (bal (Below.refl _ _) _).drew
            have rC : Hid (World.ownsRow ((W.alloc (.cells #[.bool p.v, .int .u64 p.hi, .int .u64 p.lo, .int .i64 p.b] 27)).alloc (.cells #[] 27)).drew W.heap.size 27 4 (.slice (some ⟨W.heap.size + 1, 0, none⟩) 0 0) 0 []) := by
              have := row_base (row_empty (W.alloc (.cells #[.bool p.v, .int .u64 p.hi, .int .u64 p.lo, .int .i64 p.b] 27))) (show W.heap.size ≤ (W.alloc (.cells #[.bool p.v, .int .u64 p.hi, .int .u64 p.lo, .int .i64 p.b] 27)).heap.size by simp)
              rw [show (W.alloc (.cells #[.bool p.v, .int .u64 p.hi, .int .u64 p.lo, .int .i64 p.b] 27)).heap.size = W.heap.size + 1 by simp] at this
              exact this
            have qB : Hid (Sl ((W.alloc (.cells #[] 27)).alloc (.cells #[.bool p.v, .int .u64 p.hi, .int .u64 p.lo, .int .i64 p.b] 27)).drew (some ⟨W.heap.size + 1, 0, none⟩) [p]) := by
              have := sl_onep (W.alloc (.cells #[] 27)) p
              rw [show (W.alloc (.cells #[] 27)).heap.size = W.heap.size + 1 by simp] at this
              exact this
            have qC : Hid (Sl ((W.alloc (.cells #[.bool p.v, .int .u64 p.hi, .int .u64 p.lo, .int .i64 p.b] 27)).alloc (.cells #[] 27)).drew (some ⟨W.heap.size, 0, none⟩) [p]) := (sl_onep W p).below (bal (Below.refl _ _) _).drew
            go_region_held3 (fun w' => (w'.cell? ⟨w.heap.size, 0, none⟩ = some (.bool p.v) ∧ w'.cell? ⟨w.heap.size, 1, none⟩ = some (.int .u64 p.hi) ∧ w'.cell? ⟨w.heap.size, 2, none⟩ = some (.int .u64 p.lo) ∧ w'.cell? ⟨w.heap.size, 3, none⟩ = some (.int .i64 p.b) ∧ w.heap.size < w'.heap.size) ∧ Below w.heap.size w w')
              (first | with_reducible exact T0.out | with_reducible exact TA.out | with_reducible exact TB.out | with_reducible exact TC.out | with_reducible exact TD.out | with_reducible exact T4.out | with_reducible exact T4p.out | with_reducible exact T5.out | with_reducible exact T6.out | fail)
              (first
                | (refine at_world ((W.alloc (.cells #[] 27)).drew) (by with_reducible rfl) ?_; refine step_append_none (by rfl) _ _ 22 (by rfl) W.heap.size 27 i0 4 Tryz.underlying22 hi0 _ _ _ (by rfl) rA.out (by rfl) ?_)
                | (refine at_world (((W.alloc (.cells #[] 27)).alloc (.cells #[.bool p.v, .int .u64 p.hi, .int .u64 p.lo, .int .i64 p.b] 27)).drew) (by with_reducible rfl) ?_; refine step_append_none (by rfl) _ _ 22 (by rfl) W.heap.size 27 i0 4 Tryz.underlying22 hi0 _ _ _ (by rfl) rB.out (by rfl) ?_)
                | (refine at_world (((W.alloc (.cells #[.bool p.v, .int .u64 p.hi, .int .u64 p.lo, .int .i64 p.b] 27)).alloc (.cells #[] 27)).drew) (by with_reducible rfl) ?_; refine step_append_none (by rfl) _ _ 22 (by rfl) W.heap.size 27 i0 4 Tryz.underlying22 hi0 _ _ _ (by rfl) rC.out (by rfl) ?_)
                | (refine at_world (((W.alloc (.cells #[] 27)).alloc (.cells #[.bool p.v, .int .u64 p.hi, .int .u64 p.lo, .int .i64 p.b] 27)).drew) (by with_reducible rfl) ?_; refine step_append_own (by rfl) _ _ 22 (by rfl) W.heap.size 27 i0 _ 4 32 Tryz.underlying22 hi0 hz0 hz1 hz2 rfl (by decide) _ _ _ (by rfl) rB.out _ _ _ (flat [p]) (by rfl) (by rfl) (sl_news qB.out) (flat_one _) (by unfold maxLen; omega) (by omega) kB.out.size ?_; intro v5 w5 hown5 hgrow5 _; have H5 : Hid (Below W.heap.size W w5) := kB.out.grown hgrow5 kB.out.size (fun k hk => (rB.out.lt k hk).1); have HO5 : Hid (w5.ownsRow W.heap.size 27 4 v5 (M2 ++ [p]).length (flat (M2 ++ [p]))) := Lib.hid (by rw [HM2.out]; simpa using hown5); obtain ⟨a5, c5, e5, _, s5⟩ := own_sl HO5.out; rw [show (M2 ++ [p]).length = n5 from hn5.out.symm] at e5; subst e5; have S5 := Lib.hid s5; have T5 : Hid ((w5.cell? ⟨w.heap.size, 0, none⟩ = some (.bool p.v) ∧ w5.cell? ⟨w.heap.size, 1, none⟩ = some (.int .u64 p.hi) ∧ w5.cell? ⟨w.heap.size, 2, none⟩ = some (.int .u64 p.lo) ∧ w5.cell? ⟨w.heap.size, 3, none⟩ = some (.int .i64 p.b) ∧ w.heap.size < w5.heap.size) ∧ Below w.heap.size w w5) := ⟨HP.out.below (below_le H5.out (Nat.le_refl _)), btr HB.out (below_le H5.out (Nat.le_refl _))⟩; clear hown5 hgrow5 s5)
                | (refine at_world (((W.alloc (.cells #[.bool p.v, .int .u64 p.hi, .int .u64 p.lo, .int .i64 p.b] 27)).alloc (.cells #[] 27)).drew) (by with_reducible rfl) ?_; refine step_append_own (by rfl) _ _ 22 (by rfl) W.heap.size 27 i0 _ 4 32 Tryz.underlying22 hi0 hz0 hz1 hz2 rfl (by decide) _ _ _ (by rfl) rC.out _ _ _ (flat [p]) (by rfl) (by rfl) (sl_news qC.out) (flat_one _) (by unfold maxLen; omega) (by omega) kC.out.size ?_; intro v5 w5 hown5 hgrow5 _; have H5 : Hid (Below W.heap.size W w5) := kC.out.grown hgrow5 kC.out.size (fun k hk => (rC.out.lt k hk).1); have HO5 : Hid (w5.ownsRow W.heap.size 27 4 v5 (M2 ++ [p]).length (flat (M2 ++ [p]))) := Lib.hid (by rw [HM2.out]; simpa using hown5); obtain ⟨a5, c5, e5, _, s5⟩ := own_sl HO5.out; rw [show (M2 ++ [p]).length = n5 from hn5.out.symm] at e5; subst e5; have S5 := Lib.hid s5; have T5 : Hid ((w5.cell? ⟨w.heap.size, 0, none⟩ = some (.bool p.v) ∧ w5.cell? ⟨w.heap.size, 1, none⟩ = some (.int .u64 p.hi) ∧ w5.cell? ⟨w.heap.size, 2, none⟩ = some (.int .u64 p.lo) ∧ w5.cell? ⟨w.heap.size, 3, none⟩ = some (.int .i64 p.b) ∧ w.heap.size < w5.heap.size) ∧ Below w.heap.size w w5) := ⟨HP.out.below (below_le H5.out (Nat.le_refl _)), btr HB.out (below_le H5.out (Nat.le_refl _))⟩; clear hown5 hgrow5 s5)
                | (go_at_call 8; refine (CT.out _ _ _ S5.out).mono ?_; rintro e w6 ⟨v6, M6, rfl, o6, i6, l6, hb⟩; have e6 := I1.out.uniq i6; subst e6; obtain ⟨r6, c6, e7, _, s6⟩ := own_sl o6; rw [← Hm1.out] at e7; subst e7; have L6 := Lib.hid s6; have T6 : Hid ((w6.cell? ⟨w.heap.size, 0, none⟩ = some (.bool p.v) ∧ w6.cell? ⟨w.heap.size, 1, none⟩ = some (.int .u64 p.hi) ∧ w6.cell? ⟨w.heap.size, 2, none⟩ = some (.int .u64 p.lo) ∧ w6.cell? ⟨w.heap.size, 3, none⟩ = some (.int .i64 p.b) ∧ w.heap.size < w6.heap.size) ∧ Below w.heap.size w w6) := ⟨(HP.out.below (below_le H5.out (Nat.le_refl _))).below hb, btr (btr HB.out (below_le H5.out (Nat.le_refl _))) hb⟩; have LR := Lib.hid ((L1.out.below (below_le H5.out (Nat.le_refl _))).below hb); clear hb o6 i6 s6))
            all_goals
              clear HP HB L1
              have HB := Lib.hid T6.out.2
              have L1 := Lib.hid LR.out
              clear LR T0 TA TB TC TD TW T5 T6 kA kB kC rA rB rC qB qC S5 HO5 H5 CT p0 p1 p2 p3 p4
              go_wp2_with fail
              refine (C6.out _ _ _ L6.out L1.out).mono ?_
              rintro e w8 ⟨rfl, hb⟩
              replace HB := Lib.hid (btr HB.out hb)
              replace L1 := Lib.hid (L1.out.below hb)
              clear hb L6
              go_wp2_with fail
              go_loopw [15] (fun vi wr => ∃ k : Nat, vi = .int .i64 k ∧ k ≤ m1 ∧ Hid (Sl wr r1 M1) ∧ Hid (Below w.heap.size w wr))
                (fun vi _ => m1 - (intOf vi).toNat)
              case atStart => exact ⟨0, rfl, Nat.zero_le _, L1, HB⟩
              case round =>
                clear L1 HB
                obtain ⟨k, rfl, hk, L1, HB⟩ := hrel
                by_cases hkm : k < m1
                · have hkl : k < M1.length := by have := Hm1.out; omega
                  obtain ⟨g, o, ea, hg, x0, x1, x2, x3⟩ := L1.out k hkl
                  have CM2 := Lib.hid (fun w' (h : Sl w' r1 M1) => CMn.out M1 r1 c1 k w' I1.out hkl (by have := Hm1.out; omega) h)
                  subst ea
                  have HIk := Lib.hid (fun M (h : IsNorm M (fun v x => Adr (M1.map Pf.nd) v x ∧ ¬ (M1[k]).nd.In v x)) => I1.out.less hkl h)
                  generalize M1[k] = x at *
                  rw [← Hm1.out] at CM2 HIk
                  have k1 : (k : Int) < (m1 : Int) := by omega
                  have k2 : (0 : Int) ≤ (k : Int) := by omega
                  have k3 : (m1 : Int) ≤ 12 := by omega
                  have hge : 1 ≤ m1 := by omega
                  clear hkl hg
                  go_wp2_with fail
                  refine (CM2.out _ L1.out).mono ?_
                  rintro e w9 ⟨v9, M9, rfl, o9, i9, l9, hb⟩
                  have hlen := HIk.out M9 i9
                  obtain ⟨r9, c9, rfl, _, _⟩ := own_sl o9
                  replace L1 := Lib.hid (L1.out.below hb)
                  replace HB := Lib.hid (btr HB.out hb)
                  rw [hlen]
                  have k4 : (((m1 - 1 : Nat) : Int) != (m1 : Int) - 1) = false := by
                    rw [bne_eq_false_iff_eq]; omega
                  obtain ⟨m9, hm9⟩ : ∃ m9, m9 = m1 - 1 := ⟨_, rfl⟩
                  rw [← hm9] at k4 ⊢
                  clear hb o9 i9 x0 x1 x2 x3 hlen hm9
                  go_wp2_with fail
                  go_roundw
                  case rel => exact ⟨k + 1, by go_num, by omega, L1, HB⟩
                  case measure => simp [intOf]; omega
                · obtain rfl : m1 = k := by omega
                  have k3 : decide ((m1 : Int) < (m1 : Int)) = false := by simp
                  go_wp2_with fail
                  go_ret
                  exact ⟨rfl, HB.out⟩
  · have L2 := Lib.hid s2
    clear s2 HV2
    go_wp2_with fail
    go_loopw [9, 10] (fun va vi wr => ∃ k : Nat, vi = .int .i64 k ∧ k ≤ m1 ∧ va = .bool (anyP (M1.take k) p) ∧ Hid (Has4 wr w.heap.size p.v p.hi p.lo p.b) ∧ Hid (Below w.heap.size w wr) ∧ Hid (Sl wr r1 M1) ∧ Hid (Sl wr (some ⟨g2, 0, none⟩) M2))
      (fun _ vi _ => m1 - (intOf vi).toNat)
    case atStart => exact ⟨0, rfl, Nat.zero_le _, rfl, HP, HB, L1, L2⟩
    case round =>
      clear HP HB L1 L2
      obtain ⟨k, rfl, hk, rfl, HP, HB, L1, L2⟩ := hrel
      by_cases hkm : k < m1
      · have hkl : k < M1.length := by have := Hm1.out; omega
        obtain ⟨g, o, ea, hg, d0, d1, d2, d3⟩ := L1.out k hkl
        have E1 := Lib.hid (anyP_step (p := p) hkl)
        have rx := I1.out.right _ (List.getElem_mem hkl)
        have D1 := Lib.hid (fun w' => CP.out M1[k] w' rx)
        subst ea
        generalize (M1[k]).has p = y1 at *
        generalize M1[k] = x at *
        generalize anyP (M1.take k) p = b1 at *
        have HS : Hid ((wr.cell? ⟨w.heap.size, 0, none⟩ = some (.bool p.v) ∧ wr.cell? ⟨w.heap.size, 1, none⟩ = some (.int .u64 p.hi) ∧ wr.cell? ⟨w.heap.size, 2, none⟩ = some (.int .u64 p.lo) ∧ wr.cell? ⟨w.heap.size, 3, none⟩ = some (.int .i64 p.b) ∧ w.heap.size < wr.heap.size) ∧ (wr.cell? ⟨g, o + k * 4, none⟩ = some (.bool x.v) ∧ wr.cell? ⟨g, o + k * 4 + 1, none⟩ = some (.int .u64 x.hi) ∧ wr.cell? ⟨g, o + k * 4 + 2, none⟩ = some (.int .u64 x.lo) ∧ wr.cell? ⟨g, o + k * 4 + 3, none⟩ = some (.int .i64 x.b) ∧ g < wr.heap.size) ∧ Below w.heap.size w wr) := ⟨HP.out, ⟨d0, d1, d2, d3, hg⟩, HB.out⟩
        have k1 : (k : Int) < (m1 : Int) := by omega
        have k2 : (0 : Int) ≤ (k : Int) := by omega
        clear d0 d1 d2 d3 hg rx hkl HP HB
        go_wp2_with fail
        have HSd := Lib.hid (keepR HS.out (Below.refl _ _).drew)
        go_region_held3 (fun w' => (w'.cell? ⟨w.heap.size, 0, none⟩ = some (.bool p.v) ∧ w'.cell? ⟨w.heap.size, 1, none⟩ = some (.int .u64 p.hi) ∧ w'.cell? ⟨w.heap.size, 2, none⟩ = some (.int .u64 p.lo) ∧ w'.cell? ⟨w.heap.size, 3, none⟩ = some (.int .i64 p.b) ∧ w.heap.size < w'.heap.size) ∧ (w'.cell? ⟨g, o + k * 4, none⟩ = some (.bool x.v) ∧ w'.cell? ⟨g, o + k * 4 + 1, none⟩ = some (.int .u64 x.hi) ∧ w'.cell? ⟨g, o + k * 4 + 2, none⟩ = some (.int .u64 x.lo) ∧ w'.cell? ⟨g, o + k * 4 + 3, none⟩ = some (.int .i64 x.b) ∧ g < w'.heap.size) ∧ Below w.heap.size w w')
          (first | with_reducible exact HSd.out | with_reducible exact HSe.out | fail)
          ((go_at_call 14; refine (D1.out _).mono ?_; rintro e wx ⟨rfl, hb⟩; have HSe := Lib.hid (keepR HSd.out hb); replace L1 := Lib.hid ((L1.out.below (Below.refl _ _).drew).below hb); replace L2 := Lib.hid ((L2.out.below (Below.refl _ _).drew).below hb); clear hb))
        have HP2 := Lib.hid HSe.out.1
        have HB2 := Lib.hid HSe.out.2.2
        clear HS HSd HSe
        cases b1
        all_goals
          go_wp2_with fail
          go_roundw
          case rel => exact ⟨k + 1, by go_num, by omega, bl_val (by rw [E1.out]; simp), HP2, HB2, L1, L2⟩
          case measure => simp [intOf]; omega
      · obtain rfl : m1 = k := by omega
        have k3 : decide ((m1 : Int) < (m1 : Int)) = false := by simp
        rw [List.take_of_length_le (show M1.length ≤ m1 by have := Hm1.out; omega)]
        cases hb1 : anyP M1 p
        · clear HP
          go_wp2_with fail
          go_loopw [15] (fun vi wr => ∃ k : Nat, vi = .int .i64 k ∧ k ≤ m1 ∧ Hid (Sl wr r1 M1) ∧ Hid (Below w.heap.size w wr))
            (fun vi _ => m1 - (intOf vi).toNat)
          case atStart => exact ⟨0, rfl, Nat.zero_le _, L1, HB⟩
          case round =>
            clear L1 HB
            obtain ⟨k, rfl, hk, L1, HB⟩ := hrel
            by_cases hkm : k < m1
            · have hkl : k < M1.length := by have := Hm1.out; omega
              obtain ⟨g, o, ea, hg, x0, x1, x2, x3⟩ := L1.out k hkl
              have CM2 := Lib.hid (fun w' (h : Sl w' r1 M1) => CMn.out M1 r1 c1 k w' I1.out hkl (by have := Hm1.out; omega) h)
              subst ea
              have HIk := Lib.hid (fun M (h : IsNorm M (fun v x => Adr (M1.map Pf.nd) v x ∧ ¬ (M1[k]).nd.In v x)) => I1.out.less hkl h)
              generalize M1[k] = x at *
              rw [← Hm1.out] at CM2 HIk
              have k1 : (k : Int) < (m1 : Int) := by omega
              have k2 : (0 : Int) ≤ (k : Int) := by omega
              have k3 : (m1 : Int) ≤ 12 := by omega
              have hge : 1 ≤ m1 := by omega
              clear hkl hg
              go_wp2_with fail
              refine (CM2.out _ L1.out).mono ?_
              rintro e w9 ⟨v9, M9, rfl, o9, i9, l9, hb⟩
              have hlen := HIk.out M9 i9
              obtain ⟨r9, c9, rfl, _, _⟩ := own_sl o9
              replace L1 := Lib.hid (L1.out.below hb)
              replace HB := Lib.hid (btr HB.out hb)
              rw [hlen]
              have k4 : (((m1 - 1 : Nat) : Int) != (m1 : Int) - 1) = false := by
                rw [bne_eq_false_iff_eq]; omega
              obtain ⟨m9, hm9⟩ : ∃ m9, m9 = m1 - 1 := ⟨_, rfl⟩
              rw [← hm9] at k4 ⊢
              clear hb o9 i9 x0 x1 x2 x3 hlen hm9
              go_wp2_with fail
              go_roundw
              case rel => exact ⟨k + 1, by go_num, by omega, L1, HB⟩
              case measure => simp [intOf]; omega
            · obtain rfl : m1 = k := by omega
              have k3 : decide ((m1 : Int) < (m1 : Int)) = false := by simp
              go_wp2_with fail
              go_ret
              exact ⟨rfl, HB.out⟩
        · by_cases hm12 : m2 < 12
          · obtain ⟨n5, hn5⟩ : ∃ n5, Hid (n5 = (M2 ++ [p]).length) := ⟨_, rfl⟩
            have CT := Lib.hid (fun (r : Option Addr) (d : Nat) (w' : World) (h : Sl w' r (M2 ++ [p])) => CTn.out M2 M1 n5 r d w' I2.out I1.out hn5.out (by rw [hn5.out, List.length_append]; have := Hm2.out; simp; omega) hb1 h)
            have C6 := Lib.hid (fun (b : Option Addr) (d : Nat) w' (h1 : Sl w' b M1) (h2 : Sl w' r1 M1) => same_any b r1 d c1 M1 w' (by have := Hm1.out; omega) h1 h2)
            rw [← Hm1.out] at C6
            have d12 : (m2 : Int) < 12 := by omega
            obtain ⟨p0, p1, p2, p3, p4⟩ := HP.out
            go_wp2_with fail
            obtain ⟨W, hW⟩ : ∃ W, W = wr := ⟨_, rfl⟩
            subst hW
            have TW : Hid ((W.cell? ⟨w.heap.size, 0, none⟩ = some (.bool p.v) ∧ W.cell? ⟨w.heap.size, 1, none⟩ = some (.int .u64 p.hi) ∧ W.cell? ⟨w.heap.size, 2, none⟩ = some (.int .u64 p.lo) ∧ W.cell? ⟨w.heap.size, 3, none⟩ = some (.int .i64 p.b) ∧ w.heap.size < W.heap.size) ∧ Below w.heap.size w W) := ⟨HP.out, HB.out⟩
            have T0 : Hid ((W.drew.cell? ⟨w.heap.size, 0, none⟩ = some (.bool p.v) ∧ W.drew.cell? ⟨w.heap.size, 1, none⟩ = some (.int .u64 p.hi) ∧ W.drew.cell? ⟨w.heap.size, 2, none⟩ = some (.int .u64 p.lo) ∧ W.drew.cell? ⟨w.heap.size, 3, none⟩ = some (.int .i64 p.b) ∧ w.heap.size < W.drew.heap.size) ∧ Below w.heap.size w W.drew) := ⟨HP.out, HB.out.drew⟩
            have TA : Hid (((W.alloc (.cells #[] 27)).drew.cell? ⟨w.heap.size, 0, none⟩ = some (.bool p.v) ∧ (W.alloc (.cells #[] 27)).drew.cell? ⟨w.heap.size, 1, none⟩ = some (.int .u64 p.hi) ∧ (W.alloc (.cells #[] 27)).drew.cell? ⟨w.heap.size, 2, none⟩ = some (.int .u64 p.lo) ∧ (W.alloc (.cells #[] 27)).drew.cell? ⟨w.heap.size, 3, none⟩ = some (.int .i64 p.b) ∧ w.heap.size < (W.alloc (.cells #[] 27)).drew.heap.size) ∧ Below w.heap.size w (W.alloc (.cells #[] 27)).drew) := ⟨HP.out.below (bal (Below.refl _ _) _).drew, (bal HB.out _).drew⟩
            have TB : Hid ((((W.alloc (.cells #[] 27)).alloc (.cells #[.bool p.v, .int .u64 p.hi, .int .u64 p.lo, .int .i64 p.b] 27)).drew.cell? ⟨w.heap.size, 0, none⟩ = some (.bool p.v) ∧ ((W.alloc (.cells #[] 27)).alloc (.cells #[.bool p.v, .int .u64 p.hi, .int .u64 p.lo, .int .i64 p.b] 27)).drew.cell? ⟨w.heap.size, 1, none⟩ = some (.int .u64 p.hi) ∧ ((W.alloc (.cells #[] 27)).alloc (.cells #[.bool p.v, .int .u64 p.hi, .int .u64 p.lo, .int .i64 p.b] 27)).drew.cell? ⟨w.heap.size, 2, none⟩ = some (.int .u64 p.lo) ∧ ((W.alloc (.cells #[] 27)).alloc (.cells #[.bool p.v, .int .u64 p.hi, .int .u64 p.lo, .int .i64 p.b] 27)).drew.cell? ⟨w.heap.size, 3, none⟩ = some (.int .i64 p.b) ∧ w.heap.size < ((W.alloc (.cells #[] 27)).alloc (.cells #[.bool p.v, .int .u64 p.hi, .int .u64 p.lo, .int .i64 p.b] 27)).drew.heap.size) ∧ Below w.heap.size w ((W.alloc (.cells #[] 27)).alloc (.cells #[.bool p.v, .int .u64 p.hi, .int .u64 p.lo, .int .i64 p.b] 27)).drew) := ⟨HP.out.below (bal (bal (Below.refl _ _) _) _).drew, (bal (bal HB.out _) _).drew⟩
            have TC : Hid ((((W.alloc (.cells #[.bool p.v, .int .u64 p.hi, .int .u64 p.lo, .int .i64 p.b] 27)).alloc (.cells #[] 27)).drew.cell? ⟨w.heap.size, 0, none⟩ = some (.bool p.v) ∧ ((W.alloc (.cells #[.bool p.v, .int .u64 p.hi, .int .u64 p.lo, .int .i64 p.b] 27)).alloc (.cells #[] 27)).drew.cell? ⟨w.heap.size, 1, none⟩ = some (.int .u64 p.hi) ∧ ((W.alloc (.cells #[.bool p.v, .int .u64 p.hi, .int .u64 p.lo, .int .i64 p.b] 27)).alloc (.cells #[] 27)).drew.cell? ⟨w.heap.size, 2, none⟩ = some (.int .u64 p.lo) ∧ ((W.alloc (.cells #[.bool p.v, .int .u64 p.hi, .int .u64 p.lo, .int .i64 p.b] 27)).alloc (.cells #[] 27)).drew.cell? ⟨w.heap.size, 3, none⟩ = some (.int .i64 p.b) ∧ w.heap.size < ((W.alloc (.cells #[.bool p.v, .int .u64 p.hi, .int .u64 p.lo, .int .i64 p.b] 27)).alloc (.cells #[] 27)).drew.heap.size) ∧ Below w.heap.size w ((W.alloc (.cells #[.bool p.v, .int .u64 p.hi, .int .u64 p.lo, .int .i64 p.b] 27)).alloc (.cells #[] 27)).drew) := ⟨HP.out.below (bal (bal (Below.refl _ _) _) _).drew, (bal (bal HB.out _) _).drew⟩
            have TD : Hid (((W.alloc (.cells #[.bool p.v, .int .u64 p.hi, .int .u64 p.lo, .int .i64 p.b] 27)).drew.cell? ⟨w.heap.size, 0, none⟩ = some (.bool p.v) ∧ (W.alloc (.cells #[.bool p.v, .int .u64 p.hi, .int .u64 p.lo, .int .i64 p.b] 27)).drew.cell? ⟨w.heap.size, 1, none⟩ = some (.int .u64 p.hi) ∧ (W.alloc (.cells #[.bool p.v, .int .u64 p.hi, .int .u64 p.lo, .int .i64 p.b] 27)).drew.cell? ⟨w.heap.size, 2, none⟩ = some (.int .u64 p.lo) ∧ (W.alloc (.cells #[.bool p.v, .int .u64 p.hi, .int .u64 p.lo, .int .i64 p.b] 27)).drew.cell? ⟨w.heap.size, 3, none⟩ = some (.int .i64 p.b) ∧ w.heap.size < (W.alloc (.cells #[.bool p.v, .int .u64 p.hi, .int .u64 p.lo, .int .i64 p.b] 27)).drew.heap.size) ∧ Below w.heap.size w (W.alloc (.cells #[.bool p.v, .int .u64 p.hi, .int .u64 p.lo, .int .i64 p.b] 27)).drew) := ⟨HP.out.below (bal (Below.refl _ _) _).drew, (bal HB.out _).drew⟩
            have kA : Hid (Below W.heap.size W (W.alloc (.cells #[] 27)).drew) := (bal (Below.refl _ _) _).drew
            have kB : Hid (Below W.heap.size W ((W.alloc (.cells #[] 27)).alloc (.cells #[.bool p.v, .int .u64 p.hi, .int .u64 p.lo, .int .i64 p.b] 27)).drew) := (bal (bal (Below.refl _ _) _) _).drew
            have kC : Hid (Below W.heap.size W ((W.alloc (.cells #[.bool p.v, .int .u64 p.hi, .int .u64 p.lo, .int .i64 p.b] 27)).alloc (.cells #[] 27)).drew) := (bal (bal (Below.refl _ _) _) _).drew
            have rA : Hid (World.ownsRow (W.alloc (.cells #[] 27)).drew W.heap.size 27 4 (.slice (some ⟨W.heap.size, 0, none⟩) 0 0) 0 []) := row_empty W
            have rB : Hid (World.ownsRow ((W.alloc (.cells #[] 27)).alloc (.cells #[.bool p.v, .int .u64 p.hi, .int .u64 p.lo, .int .i64 p.b] 27)).drew W.heap.size 27 4 (.slice (some ⟨W.heap.size, 0, none⟩) 0 0) 0 []) := own_keep (row_empty W) (bal (Below.refl _ _) _).drew
            have rC : Hid (World.ownsRow ((W.alloc (.cells #[.bool p.v, .int .u64 p.hi, .int .u64 p.lo, .int .i64 p.b] 27)).alloc (.cells #[] 27)).drew W.heap.size 27 4 (.slice (some ⟨W.heap.size + 1, 0, none⟩) 0 0) 0 []) := by
              have := row_base (row_empty (W.alloc (.cells #[.bool p.v, .int .u64 p.hi, .int .u64 p.lo, .int .i64 p.b] 27))) (show W.heap.size ≤ (W.alloc (.cells #[.bool p.v, .int .u64 p.hi, .int .u64 p.lo, .int .i64 p.b] 27)).heap.size by simp)
              rw [show (W.alloc (.cells #[.bool p.v, .int .u64 p.hi, .int .u64 p.lo, .int .i64 p.b] 27)).heap.size = W.heap.size + 1 by simp] at this
              exact this
            have qB : Hid (Sl ((W.alloc (.cells #[] 27)).alloc (.cells #[.bool p.v, .int .u64 p.hi, .int .u64 p.lo, .int .i64 p.b] 27)).drew (some ⟨W.heap.size + 1, 0, none⟩) [p]) := by
              have := sl_onep (W.alloc (.cells #[] 27)) p
              rw [show (W.alloc (.cells #[] 27)).heap.size = W.heap.size + 1 by simp] at this
              exact this
            have qC : Hid (Sl ((W.alloc (.cells #[.bool p.v, .int .u64 p.hi, .int .u64 p.lo, .int .i64 p.b] 27)).alloc (.cells #[] 27)).drew (some ⟨W.heap.size, 0, none⟩) [p]) := (sl_onep W p).below (bal (Below.refl _ _) _).drew
            have sA : Hid (Sl (W.alloc (.cells #[] 27)).drew (some ⟨g2, 0, none⟩) M2) := L2.out.below kA.out
            have sB : Hid (Sl ((W.alloc (.cells #[] 27)).alloc (.cells #[.bool p.v, .int .u64 p.hi, .int .u64 p.lo, .int .i64 p.b] 27)).drew (some ⟨g2, 0, none⟩) M2) := L2.out.below kB.out
            have sC : Hid (Sl ((W.alloc (.cells #[.bool p.v, .int .u64 p.hi, .int .u64 p.lo, .int .i64 p.b] 27)).alloc (.cells #[] 27)).drew (some ⟨g2, 0, none⟩) M2) := L2.out.below kC.out
            go_region_held3 (fun w' => (w'.cell? ⟨w.heap.size, 0, none⟩ = some (.bool p.v) ∧ w'.cell? ⟨w.heap.size, 1, none⟩ = some (.int .u64 p.hi) ∧ w'.cell? ⟨w.heap.size, 2, none⟩ = some (.int .u64 p.lo) ∧ w'.cell? ⟨w.heap.size, 3, none⟩ = some (.int .i64 p.b) ∧ w.heap.size < w'.heap.size) ∧ Below w.heap.size w w')
              (first | with_reducible exact T0.out | with_reducible exact TA.out | with_reducible exact TB.out | with_reducible exact TC.out | with_reducible exact TD.out | with_reducible exact T4.out | with_reducible exact T4p.out | with_reducible exact T5.out | with_reducible exact T6.out | fail)
              (first
                | (refine at_world ((W.alloc (.cells #[] 27)).drew) (by with_reducible rfl) ?_; refine step_append_own (by rfl) _ _ 22 (by rfl) W.heap.size 27 i0 _ 4 32 Tryz.underlying22 hi0 hz0 hz1 hz2 rfl (by decide) _ _ _ (by rfl) rA.out _ _ _ (flat M2) (by rfl) (by rw [flat_len, ← Hm2.out]) (sl_news sA.out) (flat_one _) (by have := hm2.out; have := Hm2.out; unfold maxLen; omega) (by have := hm2.out; have := Hm2.out; omega) kA.out.size ?_; intro v4 w4 hown4 hgrow4 _; have H4 : Hid (Below W.heap.size W w4) := kA.out.grown hgrow4 kA.out.size (fun k hk => (rA.out.lt k hk).1); have O4 := Lib.hid hown4; have T4 : Hid ((w4.cell? ⟨w.heap.size, 0, none⟩ = some (.bool p.v) ∧ w4.cell? ⟨w.heap.size, 1, none⟩ = some (.int .u64 p.hi) ∧ w4.cell? ⟨w.heap.size, 2, none⟩ = some (.int .u64 p.lo) ∧ w4.cell? ⟨w.heap.size, 3, none⟩ = some (.int .i64 p.b) ∧ w.heap.size < w4.heap.size) ∧ Below w.heap.size w w4) := ⟨HP.out.below (below_le H4.out (Nat.le_refl _)), btr HB.out (below_le H4.out (Nat.le_refl _))⟩; have T4p : Hid (((w4.alloc (.cells #[.bool p.v, .int .u64 p.hi, .int .u64 p.lo, .int .i64 p.b] 27)).cell? ⟨w.heap.size, 0, none⟩ = some (.bool p.v) ∧ (w4.alloc (.cells #[.bool p.v, .int .u64 p.hi, .int .u64 p.lo, .int .i64 p.b] 27)).cell? ⟨w.heap.size, 1, none⟩ = some (.int .u64 p.hi) ∧ (w4.alloc (.cells #[.bool p.v, .int .u64 p.hi, .int .u64 p.lo, .int .i64 p.b] 27)).cell? ⟨w.heap.size, 2, none⟩ = some (.int .u64 p.lo) ∧ (w4.alloc (.cells #[.bool p.v, .int .u64 p.hi, .int .u64 p.lo, .int .i64 p.b] 27)).cell? ⟨w.heap.size, 3, none⟩ = some (.int .i64 p.b) ∧ w.heap.size < (w4.alloc (.cells #[.bool p.v, .int .u64 p.hi, .int .u64 p.lo, .int .i64 p.b] 27)).heap.size) ∧ Below w.heap.size w (w4.alloc (.cells #[.bool p.v, .int .u64 p.hi, .int .u64 p.lo, .int .i64 p.b] 27))) := ⟨(HP.out.below (below_le H4.out (Nat.le_refl _))).below (bal (Below.refl _ _) _), bal (btr HB.out (below_le H4.out (Nat.le_refl _))) _⟩; clear hown4 hgrow4)
                | (refine at_world (((W.alloc (.cells #[] 27)).alloc (.cells #[.bool p.v, .int .u64 p.hi, .int .u64 p.lo, .int .i64 p.b] 27)).drew) (by with_reducible rfl) ?_; refine step_append_own (by rfl) _ _ 22 (by rfl) W.heap.size 27 i0 _ 4 32 Tryz.underlying22 hi0 hz0 hz1 hz2 rfl (by decide) _ _ _ (by rfl) rB.out _ _ _ (flat M2) (by rfl) (by rw [flat_len, ← Hm2.out]) (sl_news sB.out) (flat_one _) (by have := hm2.out; have := Hm2.out; unfold maxLen; omega) (by have := hm2.out; have := Hm2.out; omega) kB.out.size ?_; intro v4 w4 hown4 hgrow4 _; have H4 : Hid (Below W.heap.size W w4) := kB.out.grown hgrow4 kB.out.size (fun k hk => (rB.out.lt k hk).1); have O4 := Lib.hid hown4; have T4 : Hid ((w4.cell? ⟨w.heap.size, 0, none⟩ = some (.bool p.v) ∧ w4.cell? ⟨w.heap.size, 1, none⟩ = some (.int .u64 p.hi) ∧ w4.cell? ⟨w.heap.size, 2, none⟩ = some (.int .u64 p.lo) ∧ w4.cell? ⟨w.heap.size, 3, none⟩ = some (.int .i64 p.b) ∧ w.heap.size < w4.heap.size) ∧ Below w.heap.size w w4) := ⟨HP.out.below (below_le H4.out (Nat.le_refl _)), btr HB.out (below_le H4.out (Nat.le_refl _))⟩; have q4 := Lib.hid (far_cells hgrow4 (by simp [Value.ownBlock]) qB.out); clear hown4 hgrow4)
                | (refine at_world (((W.alloc (.cells #[.bool p.v, .int .u64 p.hi, .int .u64 p.lo, .int .i64 p.b] 27)).alloc (.cells #[] 27)).drew) (by with_reducible rfl) ?_; refine step_append_own (by rfl) _ _ 22 (by rfl) W.heap.size 27 i0 _ 4 32 Tryz.underlying22 hi0 hz0 hz1 hz2 rfl (by decide) _ _ _ (by rfl) rC.out _ _ _ (flat M2) (by rfl) (by rw [flat_len, ← Hm2.out]) (sl_news sC.out) (flat_one _) (by have := hm2.out; have := Hm2.out; unfold maxLen; omega) (by have := hm2.out; have := Hm2.out; omega) kC.out.size ?_; intro v4 w4 hown4 hgrow4 _; have H4 : Hid (Below W.heap.size W w4) := kC.out.grown hgrow4 kC.out.size (fun k hk => (rC.out.lt k hk).1); have O4 := Lib.hid hown4; have T4 : Hid ((w4.cell? ⟨w.heap.size, 0, none⟩ = some (.bool p.v) ∧ w4.cell? ⟨w.heap.size, 1, none⟩ = some (.int .u64 p.hi) ∧ w4.cell? ⟨w.heap.size, 2, none⟩ = some (.int .u64 p.lo) ∧ w4.cell? ⟨w.heap.size, 3, none⟩ = some (.int .i64 p.b) ∧ w.heap.size < w4.heap.size) ∧ Below w.heap.size w w4) := ⟨HP.out.below (below_le H4.out (Nat.le_refl _)), btr HB.out (below_le H4.out (Nat.le_refl _))⟩; have q4 := Lib.hid (far_cells hgrow4 (by simp [Value.ownBlock]) qC.out); clear hown4 hgrow4)
                | (refine at_world (w4.alloc (.cells #[.bool p.v, .int .u64 p.hi, .int .u64 p.lo, .int .i64 p.b] 27)) (by with_reducible rfl) ?_; refine step_append_own (by rfl) _ _ 22 (by rfl) W.heap.size 27 i0 _ 4 32 Tryz.underlying22 hi0 hz0 hz1 hz2 rfl (by decide) _ _ _ (by rfl) (own_keep O4.out (bal (Below.refl _ _) _)) _ _ _ (flat [p]) (by rfl) (by rfl) (sl_news (sl_onep w4 p)) (flat_one _) (by have := hm2.out; have := Hm2.out; unfold maxLen; omega) (by have := hm2.out; have := Hm2.out; omega) (Nat.le_trans H4.out.size (by simp)) ?_; intro v5 w5 hown5 hgrow5 _; have H5 : Hid (Below W.heap.size W w5) := (H4.out.trans (below_le (bal (Below.refl _ _) _) H4.out.size)).grown hgrow5 (Nat.le_trans H4.out.size (by simp)) (fun k hk => (O4.out.lt k hk).1); have HO5 : Hid (w5.ownsRow W.heap.size 27 4 v5 (M2 ++ [p]).length (flat (M2 ++ [p]))) := Lib.hid (by rw [List.length_append, flat_append, ← Hm2.out]; simpa using hown5); obtain ⟨a5, c5, e5, _, s5⟩ := own_sl HO5.out; rw [show (M2 ++ [p]).length = n5 from hn5.out.symm] at e5; subst e5; have S5 := Lib.hid s5; have T5 : Hid ((w5.cell? ⟨w.heap.size, 0, none⟩ = some (.bool p.v) ∧ w5.cell? ⟨w.heap.size, 1, none⟩ = some (.int .u64 p.hi) ∧ w5.cell? ⟨w.heap.size, 2, none⟩ = some (.int .u64 p.lo) ∧ w5.cell? ⟨w.heap.size, 3, none⟩ = some (.int .i64 p.b) ∧ w.heap.size < w5.heap.size) ∧ Below w.heap.size w w5) := ⟨HP.out.below (below_le H5.out (Nat.le_refl _)), btr HB.out (below_le H5.out (Nat.le_refl _))⟩; clear hown5 hgrow5 s5)
                | (refine at_world (w4) (by with_reducible rfl) ?_; refine step_append_own (by rfl) _ _ 22 (by rfl) W.heap.size 27 i0 _ 4 32 Tryz.underlying22 hi0 hz0 hz1 hz2 rfl (by decide) _ _ _ (by rfl) O4.out _ _ _ (flat [p]) (by rfl) (by rfl) (sl_news q4.out) (flat_one _) (by have := hm2.out; have := Hm2.out; unfold maxLen; omega) (by have := hm2.out; have := Hm2.out; omega) H4.out.size ?_; intro v5 w5 hown5 hgrow5 _; have H5 : Hid (Below W.heap.size W w5) := H4.out.grown hgrow5 H4.out.size (fun k hk => (O4.out.lt k hk).1); have HO5 : Hid (w5.ownsRow W.heap.size 27 4 v5 (M2 ++ [p]).length (flat (M2 ++ [p]))) := Lib.hid (by rw [List.length_append, flat_append, ← Hm2.out]; simpa using hown5); obtain ⟨a5, c5, e5, _, s5⟩ := own_sl HO5.out; rw [show (M2 ++ [p]).length = n5 from hn5.out.symm] at e5; subst e5; have S5 := Lib.hid s5; have T5 : Hid ((w5.cell? ⟨w.heap.size, 0, none⟩ = some (.bool p.v) ∧ w5.cell? ⟨w.heap.size, 1, none⟩ = some (.int .u64 p.hi) ∧ w5.cell? ⟨w.heap.size, 2, none⟩ = some (.int .u64 p.lo) ∧ w5.cell? ⟨w.heap.size, 3, none⟩ = some (.int .i64 p.b) ∧ w.heap.size < w5.heap.size) ∧ Below w.heap.size w w5) := ⟨HP.out.below (below_le H5.out (Nat.le_refl _)), btr HB.out (below_le H5.out (Nat.le_refl _))⟩; clear hown5 hgrow5 s5)
                | (go_at_call 8; refine (CT.out _ _ _ S5.out).mono ?_; rintro e w6 ⟨v6, M6, rfl, o6, i6, l6, hb⟩; have e6 := I1.out.uniq i6; subst e6; obtain ⟨r6, c6, e7, _, s6⟩ := own_sl o6; rw [← Hm1.out] at e7; subst e7; have L6 := Lib.hid s6; have T6 : Hid ((w6.cell? ⟨w.heap.size, 0, none⟩ = some (.bool p.v) ∧ w6.cell? ⟨w.heap.size, 1, none⟩ = some (.int .u64 p.hi) ∧ w6.cell? ⟨w.heap.size, 2, none⟩ = some (.int .u64 p.lo) ∧ w6.cell? ⟨w.heap.size, 3, none⟩ = some (.int .i64 p.b) ∧ w.heap.size < w6.heap.size) ∧ Below w.heap.size w w6) := ⟨(HP.out.below (below_le H5.out (Nat.le_refl _))).below hb, btr (btr HB.out (below_le H5.out (Nat.le_refl _))) hb⟩; have LR := Lib.hid ((L1.out.below (below_le H5.out (Nat.le_refl _))).below hb); clear hb o6 i6 s6))
            all_goals
              clear HP HB L1
              have HB := Lib.hid T6.out.2
              have L1 := Lib.hid LR.out
              clear LR T0 TA TB TC TD TW T5 T6 kA kB kC rA rB rC qB qC S5 HO5 H5 CT p0 p1 p2 p3 p4
              go_wp2_with fail
              refine (C6.out _ _ _ L6.out L1.out).mono ?_
              rintro e w8 ⟨rfl, hb⟩
              replace HB := Lib.hid (btr HB.out hb)
              replace L1 := Lib.hid (L1.out.below hb)
              clear hb L6
              go_wp2_with fail
              go_loopw [15] (fun vi wr => ∃ k : Nat, vi = .int .i64 k ∧ k ≤ m1 ∧ Hid (Sl wr r1 M1) ∧ Hid (Below w.heap.size w wr))
                (fun vi _ => m1 - (intOf vi).toNat)
              case atStart => exact ⟨0, rfl, Nat.zero_le _, L1, HB⟩
              case round =>
                clear L1 HB
                obtain ⟨k, rfl, hk, L1, HB⟩ := hrel
                by_cases hkm : k < m1
                · have hkl : k < M1.length := by have := Hm1.out; omega
                  obtain ⟨g, o, ea, hg, x0, x1, x2, x3⟩ := L1.out k hkl
                  have CM2 := Lib.hid (fun w' (h : Sl w' r1 M1) => CMn.out M1 r1 c1 k w' I1.out hkl (by have := Hm1.out; omega) h)
                  subst ea
                  have HIk := Lib.hid (fun M (h : IsNorm M (fun v x => Adr (M1.map Pf.nd) v x ∧ ¬ (M1[k]).nd.In v x)) => I1.out.less hkl h)
                  generalize M1[k] = x at *
                  rw [← Hm1.out] at CM2 HIk
                  have k1 : (k : Int) < (m1 : Int) := by omega
                  have k2 : (0 : Int) ≤ (k : Int) := by omega
                  have k3 : (m1 : Int) ≤ 12 := by omega
                  have hge : 1 ≤ m1 := by omega
                  clear hkl hg
                  go_wp2_with fail
                  refine (CM2.out _ L1.out).mono ?_
                  rintro e w9 ⟨v9, M9, rfl, o9, i9, l9, hb⟩
                  have hlen := HIk.out M9 i9
                  obtain ⟨r9, c9, rfl, _, _⟩ := own_sl o9
                  replace L1 := Lib.hid (L1.out.below hb)
                  replace HB := Lib.hid (btr HB.out hb)
                  rw [hlen]
                  have k4 : (((m1 - 1 : Nat) : Int) != (m1 : Int) - 1) = false := by
                    rw [bne_eq_false_iff_eq]; omega
                  obtain ⟨m9, hm9⟩ : ∃ m9, m9 = m1 - 1 := ⟨_, rfl⟩
                  rw [← hm9] at k4 ⊢
                  clear hb o9 i9 x0 x1 x2 x3 hlen hm9
                  go_wp2_with fail
                  go_roundw
                  case rel => exact ⟨k + 1, by go_num, by omega, L1, HB⟩
                  case measure => simp [intOf]; omega
                · obtain rfl : m1 = k := by omega
                  have k3 : decide ((m1 : Int) < (m1 : Int)) = false := by simp
                  go_wp2_with fail
                  go_ret
                  exact ⟨rfl, HB.out⟩
          · have d12 : decide ((m2 : Int) < 12) = false := decide_eq_false (by omega)
            clear HP
            go_wp2_with fail
            go_loopw [15] (fun vi wr => ∃ k : Nat, vi = .int .i64 k ∧ k ≤ m1 ∧ Hid (Sl wr r1 M1) ∧ Hid (Below w.heap.size w wr))
              (fun vi _ => m1 - (intOf vi).toNat)
            case atStart => exact ⟨0, rfl, Nat.zero_le _, L1, HB⟩
            case round =>
              clear L1 HB
              obtain ⟨k, rfl, hk, L1, HB⟩ := hrel
              by_cases hkm : k < m1
              · have hkl : k < M1.length := by have := Hm1.out; omega
                obtain ⟨g, o, ea, hg, x0, x1, x2, x3⟩ := L1.out k hkl
                have CM2 := Lib.hid (fun w' (h : Sl w' r1 M1) => CMn.out M1 r1 c1 k w' I1.out hkl (by have := Hm1.out; omega) h)
                subst ea
                have HIk := Lib.hid (fun M (h : IsNorm M (fun v x => Adr (M1.map Pf.nd) v x ∧ ¬ (M1[k]).nd.In v x)) => I1.out.less hkl h)
                generalize M1[k] = x at *
                rw [← Hm1.out] at CM2 HIk
                have k1 : (k : Int) < (m1 : Int) := by omega
                have k2 : (0 : Int) ≤ (k : Int) := by omega
                have k3 : (m1 : Int) ≤ 12 := by omega
                have hge : 1 ≤ m1 := by omega
                clear hkl hg
                go_wp2_with fail
                refine (CM2.out _ L1.out).mono ?_
                rintro e w9 ⟨v9, M9, rfl, o9, i9, l9, hb⟩
                have hlen := HIk.out M9 i9
                obtain ⟨r9, c9, rfl, _, _⟩ := own_sl o9
                replace L1 := Lib.hid (L1.out.below hb)
                replace HB := Lib.hid (btr HB.out hb)
                rw [hlen]
                have k4 : (((m1 - 1 : Nat) : Int) != (m1 : Int) - 1) = false := by
                  rw [bne_eq_false_iff_eq]; omega
                obtain ⟨m9, hm9⟩ : ∃ m9, m9 = m1 - 1 := ⟨_, rfl⟩
                rw [← hm9] at k4 ⊢
                clear hb o9 i9 x0 x1 x2 x3 hlen hm9
                go_wp2_with fail
                go_roundw
                case rel => exact ⟨k + 1, by go_num, by omega, L1, HB⟩
                case measure => simp [intOf]; omega
              · obtain rfl : m1 = k := by omega
                have k3 : decide ((m1 : Int) < (m1 : Int)) = false := by simp
                go_wp2_with fail
                go_ret
                exact ⟨rfl, HB.out⟩
end Go.Proofs.YtojdlpiogbjfcaaGreatDoor

namespace Go.Proofs.YtojdlpiogbjfcaaGreatDoor
open Go.RowKit

theorem sadds_law (a : Option Addr) (c : Nat) (ps : List Pf) (p : Pf) (w : World) (hg : Good w) (hok : ∀ p ∈ ps, p.Ok) (hcap : ps.length ≤ c) (hs : Sl w a ps) (hp : p.Ok) :
    Calls Tryz.prog 5 #[.slice a ps.length c, .agg #[.bool p.v, .int .u64 p.hi, .int .u64 p.lo, .int .i64 p.b]] w fun e w' => e = .returned (.bool true) ∧ Below w.heap.size w w' := by
  have CB := Lib.hid sbegun_any
  have CQ := Lib.hid (fun w' (h : Below w.heap.size w w') => pbegun_any w' (hg.below h))
  by_cases hr : slkL ps = 0
  · obtain ⟨h12, hR⟩ := slk_R hok hr
    have CN := Lib.hid (fun w' (h : Below w.heap.size w w') => sNorm_ok a c ps w' hok (hs.below h) hr)
    have e3 : sMinE ps p = p.chk := by rw [sMinE, if_pos hr]
    by_cases hq : p.chk = 0
    · have rp : p.R := (right_iff _ _ _ _ hp.1 hp.2.1 hp.2.2.1 hp.2.2.2).1 hq
      have CM := Lib.hid (fun w' (h : Below w.heap.size w w') => sMinus_ok a c ps p w' hok hp (hs.below h) (by rw [e3]; exact hq))
      refine sd_ok a c ps.length p w CB CQ _ _ h12 rp (Lib.hid ?_) (Lib.hid ?_) CN CM
      · intro M r d k w' hn hk hl h
        exact sMinus_ok r d M M[k] w' (fun x hx => R_ok (hn.right x hx)) (R_ok (hn.right _ (List.getElem_mem hk))) h (by rw [sMinE, if_pos (slk_of_R hn.right hl)]; exact R_chk (hn.right _ (List.getElem_mem hk)))
      · intro M M1 n r d w' hn hn1 hlen hn12 hany h
        have hRM : ∀ x ∈ M ++ [p], x.R := fun x hx => by
          rcases List.mem_append.1 hx with h | h
          · exact hn.right x h
          · simp at h; subst h; exact rp
        have := sNorm_ok r d (M ++ [p]) w' (fun x hx => R_ok (hRM x hx)) h (slk_of_R hRM (by omega))
        rw [← hlen] at this
        refine this.mono ?_
        rintro e w'' ⟨v, L, h1, h2, h3, h4, h5⟩
        refine ⟨v, L, h1, h2, h3.of fun v x => ?_, h4, h5⟩
        unfold anyP at hany
        obtain ⟨q, hqm, hqh⟩ := List.any_eq_true.1 hany
        rw [adr_back rp hn1.right (fun v x => by rw [hn.adr, hn1.adr]) (hn1.right q hqm) (fun v x hx => ⟨_, List.mem_map_of_mem hqm, hx⟩) hqh v x, hn1.adr]
    · have CM := Lib.hid (fun w' (h : Below w.heap.size w w') => sMinus_bad a c ps p w' hok hp (hs.below h) (by rw [e3]; exact hq))
      rw [e3] at CM
      exact sd_badp a c ps.length p w CB CQ _ p.chk (by rw [bne_iff_ne]; exact hq) CN CM
  · have e3 : sMinE ps p = slkL ps := by rw [sMinE, if_neg hr]
    have CM := Lib.hid (fun w' (h : Below w.heap.size w w') => sMinus_bad a c ps p w' hok hp (hs.below h) (by rw [e3]; exact hr))
    rw [e3] at CM
    exact sd_bad a c ps.length p w CB CQ (slkL ps) (by rw [bne_iff_ne]; exact hr) (Lib.hid (fun w' h => sNorm_bad a c ps w' hok (hs.below h) hr)) CM
end Go.Proofs.YtojdlpiogbjfcaaGreatDoor
