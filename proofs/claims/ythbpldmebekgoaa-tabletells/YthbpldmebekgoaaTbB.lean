/- table.follows, table.Check, table.look: is it a table? -/
import Derived.Test.YthbpldmebekgoaaTbP
set_option linter.unusedVariables false
set_option linter.unusedSimpArgs false
namespace Go.Proofs.Ythbpldmebekgoaa
open Go.RowKit


def folE (c : Int) : Int := if c = 0 then 6 else if 0 < c then 4 else 0

theorem follows_any (v : Bool) (hi lo b : Int) (u : Bool) (yi yo c : Int) (w : World) (h0 : 0 ≤ hi) (h1 : 0 ≤ lo) (h2 : 0 ≤ yi) (h3 : 0 ≤ yo) :
    Calls Try.prog 26 #[.agg #[.bool v, .int .u64 hi, .int .u64 lo, .int .i64 b], .agg #[.bool u, .int .u64 yi, .int .u64 yo, .int .i64 c]] w fun e w' =>
      e = .returned (.int .i64 (folE (cmpP v hi lo b u yi yo c))) ∧ Below w.heap.size w w' := by
  have hC : Hid (∀ w : World, Calls Try.prog 38 #[.agg #[.bool v, .int .u64 hi, .int .u64 lo, .int .i64 b], .agg #[.bool u, .int .u64 yi, .int .u64 yo, .int .i64 c]] w fun e w' =>
      e = .returned (.int .i64 (cmpP v hi lo b u yi yo c)) ∧ Below w.heap.size w w') := fun w => compare_any v hi lo b u yi yo c w h0 h1 h2 h3
  generalize cmpP v hi lo b u yi yo c = r at *
  clear h0 h1 h2 h3
  by_cases h : r = 0
  · subst h
    rw [show folE 0 = 6 from rfl]
    go_enter Try.func26, Try.ntmps26
    go_wp2_with fail
    refine (hC.out _).mono ?_
    rintro e w2 ⟨rfl, hb⟩
    go_wp2
    go_ret
    exact ⟨rfl, btr (bal (bal (Below.refl _ _) _) _) hb⟩
  · have hq : (r == 0) = false := by simp [h]
    by_cases h' : 0 < r
    · rw [show folE r = 4 by simp [folE, h, h']]
      clear h
      go_enter Try.func26, Try.ntmps26
      go_wp2_with fail
      refine (hC.out _).mono ?_
      rintro e w2 ⟨rfl, hb⟩
      go_wp2
      go_ret
      exact ⟨rfl, btr (bal (bal (Below.refl _ _) _) _) hb⟩
    · rw [show folE r = 0 by simp [folE, h, h']]
      have hd : decide (0 < r) = false := decide_eq_false h'
      clear h
      go_enter Try.func26, Try.ntmps26
      go_wp2_with fail
      refine (hC.out _).mono ?_
      rintro e w2 ⟨rfl, hb⟩
      go_wp2
      go_ret
      exact ⟨rfl, btr (bal (bal (Below.refl _ _) _) _) hb⟩


/-- What Check says, prefix by prefix, behind the one ahead (if there is one). -/
def tchk : Option Pf → List Pf → Int
  | _, [] => 0
  | none, p :: r => if p.chk = 0 then tchk (some p) r else p.chk
  | some q, p :: r => if p.chk = 0 then (if folE (q.cmp p) = 0 then tchk (some p) r else folE (q.cmp p)) else p.chk
def tchkL (ps : List Pf) : Int := if 12 < ps.length then 2 else tchk none ps

theorem tchk_none (p : Pf) (r : List Pf) : tchk none (p :: r) = if p.chk = 0 then tchk (some p) r else p.chk := rfl
theorem tchk_some (q p : Pf) (r : List Pf) : tchk (some q) (p :: r) = if p.chk = 0 then (if folE (q.cmp p) = 0 then tchk (some p) r else folE (q.cmp p)) else p.chk := rfl

/-- The one ahead of place k. -/
def prevP (ps : List Pf) (k : Nat) : Option Pf := if k = 0 then none else ps[k - 1]?
theorem prevP_succ (ps : List Pf) (k : Nat) (h : k < ps.length) : prevP ps (k + 1) = some ps[k] := by simp [prevP, h]

set_option maxHeartbeats 8000000 in
set_option maxRecDepth 100000 in
theorem tcheck_any (a : Option Addr) (c : Nat) (ps : List Pf) (w : World) (hok : ∀ p ∈ ps, p.Ok) (hs : Sl w a ps) :
    Calls Try.prog 12 #[.slice a ps.length c] w fun e w' => e = .returned (.int .i64 (tchkL ps)) ∧ Below w.heap.size w w' := by
  by_cases hl : 12 < ps.length
  · rw [show tchkL ps = 2 by simp [tchkL, hl]]
    have hl' : (12 : Int) < (ps.length : Int) := by omega
    generalize ps.length = N at *
    go_enter Try.func12, Try.ntmps12
    go_wp2
    go_ret
    exact ⟨rfl, Below.refl _ _⟩
  rw [show tchkL ps = tchk none ps by simp [tchkL, hl]]
  obtain ⟨N, hN⟩ : ∃ N, N = ps.length := ⟨_, rfl⟩
  rw [← hN] at hl ⊢
  have hN8 : N ≤ 12 := by omega
  have hd12 : decide ((12 : Int) < (N : Int)) = false := decide_eq_false (by omega)
  have HN : Hid (N = ps.length) := hN
  clear hN hl
  go_enter Try.func12, Try.ntmps12
  go_wp2_with fail
  go_loopw [12] (fun vi wr => ∃ k : Nat, vi = .int .i64 k ∧ k ≤ N ∧ Below w.heap.size w wr ∧ Hid (tchk none ps = tchk (prevP ps k) (ps.drop k)))
    (fun vi _ => N - (intOf vi).toNat)
  case atStart => exact ⟨0, rfl, Nat.zero_le _, Below.refl _ _, rfl⟩
  case round =>
    obtain ⟨k, rfl, hk, hb, hh⟩ := hrel
    have hN := HN.out
    by_cases hkN : k < N
    · have hkl : k < ps.length := by omega
      obtain ⟨g, o, rfl, hg, c0, c1, c2, c3⟩ := hs k hkl
      have hdec := hh.out
      have ho := hok _ (List.getElem_mem hkl)
      rw [List.drop_eq_getElem_cons hkl] at hdec
      have hnx : prevP ps (k + 1) = some ps[k] := prevP_succ ps k hkl
      rw [← (bcell hb).1 _ _ hg] at c0 c1 c2 c3
      have hgr : g < wr.heap.size := Nat.lt_of_lt_of_le hg hb.size
      have C0 : Hid (_ ∧ _ ∧ _ ∧ _) := ⟨c0, c1, c2, c3⟩
      by_cases hk0 : k = 0
      · subst hk0
        rw [show prevP ps 0 = none from rfl, tchk_none] at hdec
        generalize ps[0]'(by omega) = x at *
        obtain ⟨v, hi, lo, b⟩ := x
        obtain ⟨i0, i1, l0, l1⟩ := ho
        simp only [Pf.chk, Nat.zero_mul, Nat.add_zero] at hdec c0 c1 c2 c3 i0 i1 l0 l1
        have hC : Hid (∀ w : World, Calls Try.prog 25 #[.agg #[.bool v, .int .u64 hi, .int .u64 lo, .int .i64 b]] w fun e w' => e = .returned (.int .i64 (pchk v hi lo b)) ∧ Below w.heap.size w w') := fun w => pcheck_any v hi lo b w i0 i1 l0 l1
        have hb1 : Hid (Below w.heap.size w (wr.alloc (.cells #[.bool v, .int .u64 hi, .int .u64 lo, .int .i64 b] 37))) := bal hb _
        have HX : Hid (prevP ps (0 + 1) = _) := hnx
        clear hh hN hok hs i0 i1 l0 l1 C0 hnx
        by_cases hx : pchk v hi lo b = 0
        · simp only [hx, if_true] at hdec
          rw [hx] at hC
          have HD : Hid (tchk none ps = tchk (prevP ps (0 + 1)) (ps.drop (0 + 1))) := by rw [HX.out]; exact hdec
          clear hdec hx
          go_wp2_with fail
          refine (hC.out _).mono ?_
          rintro e w2 ⟨rfl, hb2⟩
          have hb3 : Hid (Below w.heap.size w w2) := btr hb1.out hb2
          clear hb1 hb2
          go_wp2_with fail
          go_roundw
          case rel => exact ⟨0 + 1, by go_num, by omega, hb3.out, HD⟩
          case measure => simp [intOf]; omega
        · simp only [hx, if_false] at hdec
          have HD : Hid (tchk none ps = pchk v hi lo b) := hdec
          have hI : (pchk v hi lo b != 0) = true := by rw [bne_iff_ne]; exact hx
          clear hdec hx
          generalize pchk v hi lo b = r at *
          go_wp2_with fail
          refine (hC.out _).mono ?_
          rintro e w2 ⟨rfl, hb2⟩
          have hb3 : Hid (Below w.heap.size w w2) := btr hb1.out hb2
          clear hb1 hb2
          go_wp2_with fail
          go_ret
          exact ⟨congrArg (fun r => Ending.returned (Value.int .i64 r)) HD.out.symm, hb3.out⟩
      · obtain ⟨m, rfl⟩ : ∃ m, k = m + 1 := ⟨k - 1, by omega⟩
        have hml : m < ps.length := by omega
        rw [prevP_succ ps m hml, tchk_some] at hdec
        obtain ⟨g', o', e', hg', d0, d1, d2, d3⟩ := hs m hml
        obtain ⟨rfl, rfl⟩ : g = g' ∧ o = o' := by simpa using e'
        rw [← (bcell hb).1 _ _ hg] at d0 d1 d2 d3
        have hoq := hok _ (List.getElem_mem hml)
        generalize ps[m + 1]'(by omega) = x at *
        generalize ps[m]'(by omega) = y at *
        obtain ⟨v, hi, lo, b⟩ := x
        obtain ⟨u, yi, yo, cb⟩ := y
        obtain ⟨i0, i1, l0, l1⟩ := ho
        obtain ⟨j0, j1, m0, m1⟩ := hoq
        simp only [Pf.chk, Pf.cmp] at hdec c0 c1 c2 c3 i0 i1 l0 l1 d0 d1 d2 d3 j0 j1 m0 m1
        have hC : Hid (∀ w : World, Calls Try.prog 25 #[.agg #[.bool v, .int .u64 hi, .int .u64 lo, .int .i64 b]] w fun e w' => e = .returned (.int .i64 (pchk v hi lo b)) ∧ Below w.heap.size w w') := fun w => pcheck_any v hi lo b w i0 i1 l0 l1
        have hF : Hid (∀ w : World, Calls Try.prog 26 #[.agg #[.bool u, .int .u64 yi, .int .u64 yo, .int .i64 cb], .agg #[.bool v, .int .u64 hi, .int .u64 lo, .int .i64 b]] w fun e w' => e = .returned (.int .i64 (folE (cmpP u yi yo cb v hi lo b))) ∧ Below w.heap.size w w') := fun w => follows_any u yi yo cb v hi lo b w j0 m0 i0 l0
        have hb1 : Hid (Below w.heap.size w (wr.alloc (.cells #[.bool v, .int .u64 hi, .int .u64 lo, .int .i64 b] 37))) := bal hb _
        have HX : Hid (prevP ps (m + 1 + 1) = _) := hnx
        have D0 : Hid (wr.cell? ⟨g, o + m * 4, none⟩ = some (.bool u) ∧ wr.cell? ⟨g, o + m * 4 + 1, none⟩ = some (.int .u64 yi) ∧ wr.cell? ⟨g, o + m * 4 + 2, none⟩ = some (.int .u64 yo) ∧ wr.cell? ⟨g, o + m * 4 + 3, none⟩ = some (.int .i64 cb)) := ⟨d0, d1, d2, d3⟩
        have hP := Lib.hid (Has4.new wr v hi lo b 37)
        have hm0 : ((m : Int) + 1 == 0) = false := by rw [beq_eq_false_iff_ne]; omega
        clear hh hN hok hs i0 i1 l0 l1 C0 hnx d0 d1 d2 d3 j0 j1 m0 m1 e' hg'
        by_cases hx : pchk v hi lo b = 0
        · simp only [hx, if_true] at hdec
          rw [hx] at hC
          go_wp2_with fail
          refine (hC.out _).mono ?_
          rintro e w2 ⟨rfl, hb2⟩
          have hb3 : Hid (Below w.heap.size w w2) := btr hb1.out hb2
          have hb2' : Below wr.heap.size wr w2 := btr (bal (Below.refl _ _) _) hb2
          have HP2 := Lib.hid (hP.out.below hb2)
          obtain ⟨d0, d1, d2, d3⟩ := D0.out
          rw [← (bcell hb2').1 _ _ hgr] at d0 d1 d2 d3
          have HD2 : Hid (w2.cell? ⟨g, o + m * 4, none⟩ = some (.bool u) ∧ w2.cell? ⟨g, o + m * 4 + 1, none⟩ = some (.int .u64 yi) ∧ w2.cell? ⟨g, o + m * 4 + 2, none⟩ = some (.int .u64 yo) ∧ w2.cell? ⟨g, o + m * 4 + 3, none⟩ = some (.int .i64 cb) ∧ g < w2.heap.size) := ⟨d0, d1, d2, d3, Nat.lt_of_lt_of_le hgr hb2'.size⟩
          have hsub : (m : Int) + 1 - 1 = (m : Int) := by omega
          have hwr : IntKind.i64.wrap ((m : Int) + 1 - 1) = (m : Int) := by rw [IntKind.wrap_i64]; omega
          have hwr2 : IntKind.i64.wrap (m : Int) = (m : Int) := by rw [IntKind.wrap_i64]; omega
          have hm1 : (0 : Int) ≤ (m : Int) := by omega
          have hm2 : (m : Int) < (N : Int) := by omega
          clear hb1 hb2 hb2' c0 c1 c2 c3 D0 hP hx d0 d1 d2 d3
          by_cases hy : folE (cmpP u yi yo cb v hi lo b) = 0
          · simp only [hy, if_true] at hdec
            rw [hy] at hF
            have HD : Hid (tchk none ps = tchk (prevP ps (m + 1 + 1)) (ps.drop (m + 1 + 1))) := by rw [HX.out]; exact hdec
            clear hdec hy
            go_wp2_with fail
            go_region_held3 (fun w' => (w'.cell? ⟨wr.heap.size, 0, none⟩ = some (.bool v) ∧ w'.cell? ⟨wr.heap.size, 1, none⟩ = some (.int .u64 hi) ∧ w'.cell? ⟨wr.heap.size, 2, none⟩ = some (.int .u64 lo) ∧ w'.cell? ⟨wr.heap.size, 3, none⟩ = some (.int .i64 b) ∧ wr.heap.size < w'.heap.size) ∧ (w'.cell? ⟨g, o + m * 4, none⟩ = some (.bool u) ∧ w'.cell? ⟨g, o + m * 4 + 1, none⟩ = some (.int .u64 yi) ∧ w'.cell? ⟨g, o + m * 4 + 2, none⟩ = some (.int .u64 yo) ∧ w'.cell? ⟨g, o + m * 4 + 3, none⟩ = some (.int .i64 cb) ∧ g < w'.heap.size) ∧ Below w.heap.size w w')
              (first | exact ⟨HP2.out, HD2.out, hb3.out.drew⟩ | exact keepR (by assumption) (by assumption))
              ((go_at_call 26; refine (hF.out _).mono ?_; rintro e w' ⟨rfl, hb⟩))
            have hb5 : Hid (Below w.heap.size w _) := And.right (And.right (by assumption))
            go_wp2_with fail
            go_roundw
            case rel => exact ⟨m + 1 + 1, by go_num, by omega, hb5.out, HD⟩
            case measure => simp [intOf]; omega
          · simp only [hy, if_false] at hdec
            have HD : Hid (tchk none ps = folE (cmpP u yi yo cb v hi lo b)) := hdec
            have hI : (folE (cmpP u yi yo cb v hi lo b) != 0) = true := by rw [bne_iff_ne]; exact hy
            clear hdec hy
            generalize folE (cmpP u yi yo cb v hi lo b) = r at *
            go_wp2_with fail
            go_region_held3 (fun w' => (w'.cell? ⟨wr.heap.size, 0, none⟩ = some (.bool v) ∧ w'.cell? ⟨wr.heap.size, 1, none⟩ = some (.int .u64 hi) ∧ w'.cell? ⟨wr.heap.size, 2, none⟩ = some (.int .u64 lo) ∧ w'.cell? ⟨wr.heap.size, 3, none⟩ = some (.int .i64 b) ∧ wr.heap.size < w'.heap.size) ∧ (w'.cell? ⟨g, o + m * 4, none⟩ = some (.bool u) ∧ w'.cell? ⟨g, o + m * 4 + 1, none⟩ = some (.int .u64 yi) ∧ w'.cell? ⟨g, o + m * 4 + 2, none⟩ = some (.int .u64 yo) ∧ w'.cell? ⟨g, o + m * 4 + 3, none⟩ = some (.int .i64 cb) ∧ g < w'.heap.size) ∧ Below w.heap.size w w')
              (first | exact ⟨HP2.out, HD2.out, hb3.out.drew⟩ | exact keepR (by assumption) (by assumption))
              ((go_at_call 26; refine (hF.out _).mono ?_; rintro e w' ⟨rfl, hb⟩))
            have hb5 : Hid (Below w.heap.size w _) := And.right (And.right (by assumption))
            go_wp2_with fail
            go_ret
            exact ⟨congrArg (fun r => Ending.returned (Value.int .i64 r)) HD.out.symm, hb5.out⟩
        · simp only [hx, if_false] at hdec
          have HD : Hid (tchk none ps = pchk v hi lo b) := hdec
          have hI : (pchk v hi lo b != 0) = true := by rw [bne_iff_ne]; exact hx
          clear hdec hx
          generalize pchk v hi lo b = r at *
          go_wp2_with fail
          refine (hC.out _).mono ?_
          rintro e w2 ⟨rfl, hb2⟩
          have hb3 : Hid (Below w.heap.size w w2) := btr hb1.out hb2
          clear hb1 hb2
          go_wp2_with fail
          go_ret
          exact ⟨congrArg (fun r => Ending.returned (Value.int .i64 r)) HD.out.symm, hb3.out⟩
    · have hd := hh.out
      rw [List.drop_eq_nil_of_le (by omega)] at hd
      have HD : Hid (tchk none ps = 0) := by rw [hd]; cases prevP ps k <;> rfl
      clear hd hh hN hs hok
      go_wp2_with fail
      go_ret
      exact ⟨congrArg (fun r => Ending.returned (Value.int .i64 r)) HD.out.symm, hb⟩

/-- What is said of a table and a place. -/
def tlook (ps : List Pf) (n : Int) : Int := if tchkL ps = 0 then (if n < 0 ∨ (ps.length : Int) ≤ n then 3 else 0) else tchkL ps

theorem tlook_any (a : Option Addr) (c : Nat) (ps : List Pf) (n : Int) (w : World) (hok : ∀ p ∈ ps, p.Ok) (hs : Sl w a ps) :
    Calls Try.prog 17 #[.slice a ps.length c, .int .i64 n] w fun e w' => e = .returned (.int .i64 (tlook ps n)) ∧ Below w.heap.size w w' := by
  have hC : Hid (∀ w' : World, w' = w → Calls Try.prog 12 #[.slice a ps.length c] w' fun e w' => e = .returned (.int .i64 (tchkL ps)) ∧ Below w.heap.size w w') := fun w' e => by subst e; exact tcheck_any a c ps w' hok hs
  unfold tlook
  generalize ps.length = N at *
  generalize tchkL ps = r at *
  clear hok hs
  by_cases hr : r = 0
  · subst hr
    simp only [if_true]
    by_cases h0 : n < 0
    · simp only [h0, true_or, if_true]
      go_enter Try.func17, Try.ntmps17
      go_wp2_with fail
      refine (hC.out _ rfl).mono ?_
      rintro e w2 ⟨rfl, hb⟩
      go_wp2
      go_ret
      exact ⟨rfl, hb⟩
    · have hd : decide (n < 0) = false := decide_eq_false h0
      by_cases h1 : (N : Int) ≤ n
      · simp only [h0, h1, or_true, if_true]
        go_enter Try.func17, Try.ntmps17
        go_wp2_with fail
        refine (hC.out _ rfl).mono ?_
        rintro e w2 ⟨rfl, hb⟩
        go_wp2
        go_ret
        exact ⟨rfl, hb⟩
      · have hd1 : decide ((N : Int) ≤ n) = false := decide_eq_false h1
        simp only [h0, h1, or_self, if_false]
        go_enter Try.func17, Try.ntmps17
        go_wp2_with fail
        refine (hC.out _ rfl).mono ?_
        rintro e w2 ⟨rfl, hb⟩
        go_wp2
        go_ret
        exact ⟨rfl, hb⟩
  · have hI : (r != 0) = true := by rw [bne_iff_ne]; exact hr
    simp only [hr, if_false]
    clear hr
    go_enter Try.func17, Try.ntmps17
    go_wp2_with fail
    refine (hC.out _ rfl).mono ?_
    rintro e w2 ⟨rfl, hb⟩
    go_wp2
    go_ret
    exact ⟨rfl, hb⟩
end Go.Proofs.Ythbpldmebekgoaa
