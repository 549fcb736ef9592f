/- The document on tables: CheckTable. -/
import Derived.Test.YthbpldmebekgoaaTbG
set_option linter.unusedVariables false
set_option linter.unusedSimpArgs false
namespace Go.Proofs.Ythbpldmebekgoaa
open Go.RowKit

/-- A prefix whose numbers are Nats. -/
theorem Pf.Ok.nat {p : Pf} (h : p.Ok) : ∃ hi lo : Nat, p.hi = hi ∧ p.lo = lo ∧ hi < 18446744073709551616 ∧ lo < 18446744073709551616 := by
  obtain ⟨a, b, c, d⟩ := h
  exact ⟨p.hi.toNat, p.lo.toNat, by omega, by omega, by omega, by omega⟩

theorem keepR2 {w W W' : World} {g o p : Nat} {v : Bool} {hi lo b : Int} {u : Bool} {yi yo c : Int}
    (h : (W.cell? ⟨g, p, none⟩ = some (.bool v) ∧ W.cell? ⟨g, p + 1, none⟩ = some (.int .u64 hi) ∧ W.cell? ⟨g, p + 2, none⟩ = some (.int .u64 lo) ∧ W.cell? ⟨g, p + 3, none⟩ = some (.int .i64 b)) ∧ (W.cell? ⟨g, o, none⟩ = some (.bool u) ∧ W.cell? ⟨g, o + 1, none⟩ = some (.int .u64 yi) ∧ W.cell? ⟨g, o + 2, none⟩ = some (.int .u64 yo) ∧ W.cell? ⟨g, o + 3, none⟩ = some (.int .i64 c) ∧ g < W.heap.size) ∧ Below w.heap.size w W)
    (hb : Below W.heap.size W W') :
    (W'.cell? ⟨g, p, none⟩ = some (.bool v) ∧ W'.cell? ⟨g, p + 1, none⟩ = some (.int .u64 hi) ∧ W'.cell? ⟨g, p + 2, none⟩ = some (.int .u64 lo) ∧ W'.cell? ⟨g, p + 3, none⟩ = some (.int .i64 b)) ∧ (W'.cell? ⟨g, o, none⟩ = some (.bool u) ∧ W'.cell? ⟨g, o + 1, none⟩ = some (.int .u64 yi) ∧ W'.cell? ⟨g, o + 2, none⟩ = some (.int .u64 yo) ∧ W'.cell? ⟨g, o + 3, none⟩ = some (.int .i64 c) ∧ g < W'.heap.size) ∧ Below w.heap.size w W' := by
  obtain ⟨⟨a1, b1, c1, d1⟩, ⟨a, b', c', d, f⟩, h3⟩ := h
  obtain ⟨k1, _⟩ := bcell hb
  exact ⟨⟨by rw [k1 _ _ f]; exact a1, by rw [k1 _ _ f]; exact b1, by rw [k1 _ _ f]; exact c1, by rw [k1 _ _ f]; exact d1⟩, ⟨by rw [k1 _ _ f]; exact a, by rw [k1 _ _ f]; exact b', by rw [k1 _ _ f]; exact c', by rw [k1 _ _ f]; exact d, Nat.lt_of_lt_of_le f hb.size⟩, btr h3 hb⟩

set_option maxHeartbeats 8000000 in
set_option maxRecDepth 100000 in
theorem rtable_any (a : Option Addr) (c : Nat) (ps : List Pf) (w : World) (hok : ∀ p ∈ ps, p.Ok) (hs : Sl w a ps) :
    Calls Try.prog 7 #[.slice a ps.length c] w fun e w' => e = .returned (.int .i64 (tchkL ps)) ∧ Below w.heap.size w w' := by
  by_cases hl : 12 < ps.length
  · rw [show tchkL ps = 2 by simp [tchkL, hl]]
    have hl' : (12 : Int) < (ps.length : Int) := by omega
    generalize ps.length = N at *
    go_enter Try.func7, Try.ntmps7
    go_wp2
    go_ret
    exact ⟨rfl, Below.refl _ _⟩
  rw [show tchkL ps = tchk none ps by simp [tchkL, hl]]
  obtain ⟨N, hN⟩ : ∃ N, N = ps.length := ⟨_, rfl⟩
  rw [← hN] at hl ⊢
  have hN8 : N ≤ 12 := by omega
  have hd12 : decide ((12 : Int) < (N : Int)) = false := decide_eq_false (by omega)
  have HN : Hid (N = ps.length) := hN
  clear hN hl
  go_enter Try.func7, Try.ntmps7
  go_wp2_with fail
  go_loopw [3] (fun vi wr => ∃ k : Nat, vi = .int .i64 k ∧ k ≤ N ∧ Below w.heap.size w wr ∧ Hid (tchk none ps = tchk (prevP ps k) (ps.drop k)) ∧ Hid (∀ q, prevP ps k = some q → q.chk = 0))
    (fun vi _ => N - (intOf vi).toNat)
  case atStart => exact ⟨0, rfl, Nat.zero_le _, Below.refl _ _, rfl, fun q hq => by simp [prevP] at hq⟩
  case round =>
    obtain ⟨k, rfl, hk, hb, hh, hpv⟩ := hrel
    have hN := HN.out
    by_cases hkN : k < N
    · have hkl : k < ps.length := by omega
      obtain ⟨g, o, rfl, hg, c0, c1, c2, c3⟩ := hs k hkl
      have hdec := hh.out
      have ho := hok _ (List.getElem_mem hkl)
      rw [List.drop_eq_getElem_cons hkl] at hdec
      have hnx : prevP ps (k + 1) = some ps[k] := prevP_succ ps k hkl
      rw [← (bcell hb).1 _ _ hg] at c0 c1 c2 c3
      have hgr : g < wr.heap.size := Nat.lt_of_lt_of_le hg hb.size
      by_cases hk0 : k = 0
      · subst hk0
        rw [show prevP ps 0 = none from rfl, tchk_none] at hdec
        generalize ps[0]'(by omega) = x at *
        obtain ⟨hn, ln, e1, e2, n1, n2⟩ := ho.nat
        obtain ⟨v, hi, lo, b⟩ := x
        simp only [Pf.chk, Nat.zero_mul, Nat.add_zero] at hdec c0 c1 c2 c3 e1 e2 hnx
        subst e1 e2
        have hC : Hid (∀ w : World, Calls Try.prog 19 #[.agg #[.bool v, .int .u64 (hn : Int), .int .u64 (ln : Int), .int .i64 b]] w fun e w' => e = .returned (.int .i64 (pchk v hn ln b)) ∧ Below w.heap.size w w') := fun w => rpcheck_nat v hn ln b w n1 n2
        have HX := Lib.hid hnx
        have hB0 := Lib.hid hb
        clear hh hN hok hs hnx ho hpv hb
        generalize (hn : Int) = hi at *
        generalize (ln : Int) = lo at *
        by_cases hx : pchk v hi lo b = 0
        · simp only [hx, if_true] at hdec
          rw [hx] at hC
          have HD : Hid (tchk none ps = tchk (prevP ps (0 + 1)) (ps.drop (0 + 1))) := by rw [HX.out]; exact hdec
          have HV : Hid (∀ q, prevP ps (0 + 1) = some q → q.chk = 0) := fun q hq => by
            rw [HX.out] at hq; injection hq with hq; subst hq; exact hx
          clear hdec hx
          go_wp2_with fail
          refine (hC.out _).mono ?_
          rintro e w2 ⟨rfl, hb2⟩
          replace hB0 := Lib.hid (btr hB0.out hb2)
          clear hb2 c0 c1 c2 c3
          go_wp2_with fail
          go_region
          go_wp2_with fail
          go_region
          go_wp2_with fail
          go_roundw
          case rel => exact ⟨0 + 1, by go_num, by omega, by first | assumption | exact hB0.out.drew.drew | exact hB0.out.drew, HD, HV⟩
          case measure => simp [intOf]; omega
        · simp only [hx, if_false] at hdec
          have HD : Hid (tchk none ps = pchk v hi lo b) := hdec
          have hI : (pchk v hi lo b != 0) = true := by rw [bne_iff_ne]; exact hx
          clear hdec hx
          generalize pchk v hi lo b = r at *
          go_wp2_with fail
          refine (hC.out _).mono ?_
          rintro e w2 ⟨rfl, hb2⟩
          replace hB0 := Lib.hid (btr hB0.out hb2)
          clear hb2
          go_wp2_with fail
          go_ret
          exact ⟨congrArg (fun r => Ending.returned (Value.int .i64 r)) HD.out.symm, hB0.out⟩
      · obtain ⟨m, rfl⟩ : ∃ m, k = m + 1 := ⟨k - 1, by omega⟩
        have hml : m < ps.length := by omega
        rw [prevP_succ ps m hml, tchk_some] at hdec
        have hq0 : (ps[m]).chk = 0 := hpv.out _ (prevP_succ ps m hml)
        obtain ⟨g', o', e', hg', d0, d1, d2, d3⟩ := hs m hml
        obtain ⟨rfl, rfl⟩ : g = g' ∧ o = o' := by simpa using e'
        rw [← (bcell hb).1 _ _ hg] at d0 d1 d2 d3
        have hoq := hok _ (List.getElem_mem hml)
        generalize ps[m + 1]'(by omega) = x at *
        generalize ps[m]'(by omega) = y at *
        obtain ⟨hn, ln, e1, e2, n1, n2⟩ := ho.nat
        obtain ⟨yn, zn, e3, e4, n3, n4⟩ := hoq.nat
        obtain ⟨v, hi, lo, b⟩ := x
        obtain ⟨u, yi, yo, cb⟩ := y
        simp only [Pf.chk, Pf.cmp] at hdec c0 c1 c2 c3 d0 d1 d2 d3 e1 e2 e3 e4 hnx hq0
        subst e1 e2 e3 e4
        have hC : Hid (∀ w : World, Calls Try.prog 19 #[.agg #[.bool v, .int .u64 (hn : Int), .int .u64 (ln : Int), .int .i64 b]] w fun e w' => e = .returned (.int .i64 (pchk v hn ln b)) ∧ Below w.heap.size w w') := fun w => rpcheck_nat v hn ln b w n1 n2
        have HX := Lib.hid hnx
        have HB := Lib.hid hb
        have hsub : (m : Int) + 1 - 1 = (m : Int) := by omega
        have hwr : IntKind.i64.wrap ((m : Int) + 1 - 1) = (m : Int) := by rw [IntKind.wrap_i64]; omega
        have hwr2 : IntKind.i64.wrap (m : Int) = (m : Int) := by rw [IntKind.wrap_i64]; omega
        have hm0 : (0 : Int) < (m : Int) + 1 := by omega
        have hm1 : (0 : Int) ≤ (m : Int) := by omega
        have hm2 : (m : Int) < (N : Int) := by omega
        have hm3 : (m : Int) + 1 < (N : Int) := by omega
        have hm4 : (0 : Int) ≤ (m : Int) + 1 := by omega
        have hc0 := Lib.hid (And.intro c0 (And.intro c1 (And.intro c2 c3)))
        have hd0 := Lib.hid (And.intro d0 (And.intro d1 (And.intro d2 d3)))
        by_cases hx : pchk v hn ln b = 0
        · simp only [hx, if_true] at hdec
          rw [hx] at hC
          have r : Right v hn ln b := (right_iff _ _ _ _ (by omega) (by omega) (by omega) (by omega)).1 hx
          have q : Right u yn zn cb := (right_iff _ _ _ _ (by omega) (by omega) (by omega) (by omega)).1 hq0
          have hA : Hid (∀ w : World, Calls Try.prog 20 #[.agg #[.bool v, .int .u64 (hn : Int), .int .u64 (ln : Int), .int .i64 b], .agg #[.bool u, .int .u64 (yn : Int), .int .u64 (zn : Int), .int .i64 cb]] w fun e w' => e = .returned (.bool (decide (cmpP v hn ln b u yn zn cb < 0))) ∧ Below w.heap.size w w') := fun w => by
            have := rahead_any v hn ln b u yn zn cb w r q
            rw [ahead_cmp r q] at this
            exact this
          have hT := cmp_turn q r
          have hZ := cmp_zero q r
          have HV : Hid (∀ q, prevP ps (m + 1 + 1) = some q → q.chk = 0) := fun q hq => by
            rw [HX.out] at hq; injection hq with hq; subst hq; exact hx
          clear hh hN hok hs hnx ho hoq hpv hb n1 n2 n3 n4 r q hq0 c0 c1 c2 c3 d0 d1 d2 d3 e' hg' hx
          generalize (hn : Int) = hi at *
          generalize (ln : Int) = lo at *
          generalize (yn : Int) = yi at *
          generalize (zn : Int) = yo at *
          have hEq := eql_pf v hi lo b u yi yo cb
          have hE2 : eqP v hi lo b u yi yo cb = true ↔ cmpP u yi yo cb v hi lo b = 0 := by
            rw [eqP_iff, hZ]
            constructor
            · rintro ⟨x, y, z, t⟩; exact ⟨x.symm, y.symm, z.symm, t.symm⟩
            · rintro ⟨x, y, z, t⟩; exact ⟨x.symm, y.symm, z.symm, t.symm⟩
          cases he : eqP v hi lo b u yi yo cb
          · rw [he] at hEq hE2
            have hne : cmpP u yi yo cb v hi lo b ≠ 0 := fun h => by have := hE2.2 h; simp at this
            have hfol : folE (cmpP u yi yo cb v hi lo b) = if cmpP v hi lo b u yi yo cb < 0 then 4 else 0 := by
              rw [folE, if_neg hne]
              by_cases h : cmpP v hi lo b u yi yo cb < 0
              · rw [if_pos h, if_pos (hT.2 h)]
              · rw [if_neg h, if_neg (fun h' => h (hT.1 h'))]
            simp only [hfol] at hdec
            clear hZ hE2 hne hfol hT he
            generalize cmpP v hi lo b u yi yo cb = z at *
            by_cases hz : z < 0
            · simp only [hz, if_true] at hdec
              have HD : Hid (tchk none ps = 4) := by rw [hdec]; exact if_neg (by decide)
              have hz' : decide (z < 0) = true := decide_eq_true hz
              rw [hz'] at hA
              clear hdec hz hz'
              obtain ⟨c0, c1, c2, c3⟩ := hc0.out
              go_wp2_with fail
              refine (hC.out _).mono ?_
              rintro e w2 ⟨rfl, hb2⟩
              replace HB := Lib.hid (btr HB.out hb2)
              clear c0 c1 c2 c3
              obtain ⟨c0, c1, c2, c3⟩ := hc0.out
              obtain ⟨d0, d1, d2, d3⟩ := hd0.out
              rw [← (bcell hb2).1 _ _ hgr] at c0 c1 c2 c3 d0 d1 d2 d3
              have hg2 : g < w2.heap.size := Nat.lt_of_lt_of_le hgr hb2.size
              clear hb2 hc0 hd0 hC
              go_wp2_with fail
              go_region
              go_wp2_with fail
              go_region_held3 (fun w' => (w'.cell? ⟨g, o + (m + 1) * 4, none⟩ = some (.bool v) ∧ w'.cell? ⟨g, o + (m + 1) * 4 + 1, none⟩ = some (.int .u64 hi) ∧ w'.cell? ⟨g, o + (m + 1) * 4 + 2, none⟩ = some (.int .u64 lo) ∧ w'.cell? ⟨g, o + (m + 1) * 4 + 3, none⟩ = some (.int .i64 b)) ∧ (w'.cell? ⟨g, o + m * 4, none⟩ = some (.bool u) ∧ w'.cell? ⟨g, o + m * 4 + 1, none⟩ = some (.int .u64 yi) ∧ w'.cell? ⟨g, o + m * 4 + 2, none⟩ = some (.int .u64 yo) ∧ w'.cell? ⟨g, o + m * 4 + 3, none⟩ = some (.int .i64 cb) ∧ g < w'.heap.size) ∧ Below w.heap.size w w')
                (first | exact ⟨⟨c0, c1, c2, c3⟩, ⟨d0, d1, d2, d3, hg2⟩, HB.out.drew.drew⟩ | exact keepR2 (by assumption) (by assumption))
                ((go_at_call 20; refine (hA.out _).mono ?_; rintro e w' ⟨rfl, hb⟩))
              go_wp2_with fail
              go_ret
              exact ⟨congrArg (fun r => Ending.returned (Value.int .i64 r)) HD.out.symm, And.right (And.right (by assumption))⟩
            · simp only [hz, if_false] at hdec
              have HD : Hid (tchk none ps = tchk (prevP ps (m + 1 + 1)) (ps.drop (m + 1 + 1))) := by rw [HX.out]; exact hdec
              have hz' : decide (z < 0) = false := decide_eq_false hz
              rw [hz'] at hA
              clear hdec hz hz'
              obtain ⟨c0, c1, c2, c3⟩ := hc0.out
              go_wp2_with fail
              refine (hC.out _).mono ?_
              rintro e w2 ⟨rfl, hb2⟩
              replace HB := Lib.hid (btr HB.out hb2)
              clear c0 c1 c2 c3
              obtain ⟨c0, c1, c2, c3⟩ := hc0.out
              obtain ⟨d0, d1, d2, d3⟩ := hd0.out
              rw [← (bcell hb2).1 _ _ hgr] at c0 c1 c2 c3 d0 d1 d2 d3
              have hg2 : g < w2.heap.size := Nat.lt_of_lt_of_le hgr hb2.size
              clear hb2 hc0 hd0 hC
              go_wp2_with fail
              go_region
              go_wp2_with fail
              go_region_held3 (fun w' => (w'.cell? ⟨g, o + (m + 1) * 4, none⟩ = some (.bool v) ∧ w'.cell? ⟨g, o + (m + 1) * 4 + 1, none⟩ = some (.int .u64 hi) ∧ w'.cell? ⟨g, o + (m + 1) * 4 + 2, none⟩ = some (.int .u64 lo) ∧ w'.cell? ⟨g, o + (m + 1) * 4 + 3, none⟩ = some (.int .i64 b)) ∧ (w'.cell? ⟨g, o + m * 4, none⟩ = some (.bool u) ∧ w'.cell? ⟨g, o + m * 4 + 1, none⟩ = some (.int .u64 yi) ∧ w'.cell? ⟨g, o + m * 4 + 2, none⟩ = some (.int .u64 yo) ∧ w'.cell? ⟨g, o + m * 4 + 3, none⟩ = some (.int .i64 cb) ∧ g < w'.heap.size) ∧ Below w.heap.size w w')
                (first | exact ⟨⟨c0, c1, c2, c3⟩, ⟨d0, d1, d2, d3, hg2⟩, HB.out.drew.drew⟩ | exact keepR2 (by assumption) (by assumption))
                ((go_at_call 20; refine (hA.out _).mono ?_; rintro e w' ⟨rfl, hb⟩))
              go_wp2_with fail
              go_roundw
              case rel => exact ⟨m + 1 + 1, by go_num, by omega, And.right (And.right (by assumption)), HD, HV⟩
              case measure => simp [intOf]; omega
          · rw [he] at hEq hE2
            have hf : cmpP u yi yo cb v hi lo b = 0 := hE2.1 rfl
            simp only [hf] at hdec
            have HD : Hid (tchk none ps = 6) := by rw [hdec]; exact if_neg (by decide)
            clear hdec hf hE2 hZ hT he hA
            obtain ⟨c0, c1, c2, c3⟩ := hc0.out
            go_wp2_with fail
            refine (hC.out _).mono ?_
            rintro e w2 ⟨rfl, hb2⟩
            replace HB := Lib.hid (btr HB.out hb2)
            clear c0 c1 c2 c3
            obtain ⟨c0, c1, c2, c3⟩ := hc0.out
            obtain ⟨d0, d1, d2, d3⟩ := hd0.out
            rw [← (bcell hb2).1 _ _ hgr] at c0 c1 c2 c3 d0 d1 d2 d3
            clear hb2 hc0 hd0 hC
            go_wp2_with fail
            go_region
            go_wp2_with fail
            go_ret
            exact ⟨congrArg (fun r => Ending.returned (Value.int .i64 r)) HD.out.symm, HB.out.drew⟩
        · simp only [hx, if_false] at hdec
          have HD : Hid (tchk none ps = pchk v hn ln b) := hdec
          have hI : (pchk v hn ln b != 0) = true := by rw [bne_iff_ne]; exact hx
          clear hdec hx hh hN hok hs hnx ho hoq hpv hb hq0 d0 d1 d2 d3 e' hg'
          generalize pchk v hn ln b = r at *
          generalize (hn : Int) = hi at *
          generalize (ln : Int) = lo at *
          go_wp2_with fail
          refine (hC.out _).mono ?_
          rintro e w2 ⟨rfl, hb2⟩
          replace HB := Lib.hid (btr HB.out hb2)
          clear hb2
          go_wp2_with fail
          go_ret
          exact ⟨congrArg (fun r => Ending.returned (Value.int .i64 r)) HD.out.symm, HB.out⟩
    · have hd := hh.out
      rw [List.drop_eq_nil_of_le (by omega)] at hd
      have HD : Hid (tchk none ps = 0) := by rw [hd]; cases prevP ps k <;> rfl
      clear hd hh hN hs hok hpv
      go_wp2_with fail
      go_ret
      exact ⟨congrArg (fun r => Ending.returned (Value.int .i64 r)) HD.out.symm, hb⟩
end Go.Proofs.Ythbpldmebekgoaa
