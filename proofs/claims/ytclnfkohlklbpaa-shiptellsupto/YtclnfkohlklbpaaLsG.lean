/- lease.wide, lease.Pool: pools. -/
import Derived.Test.YtclnfkohlklbpaaLsA
import Derived.Test.YtclnfkohlklbpaaLsB
set_option linter.unusedVariables false
set_option linter.unusedSimpArgs false
namespace Go.Proofs.Ytclnfkohlklbpaa
open Go.RowKit

/-- More than sixteen addresses? -/
def wideB (v : Bool) (b : Int) : Bool := decide (4 < wid v - b)
theorem mask_wide : ∀ n : Fin 129, decide ((16 : Int) ≤ 2 ^ (min n.val 64) - 1) = decide (4 < n.val) := by decide +kernel
theorem wide_iff {v : Bool} {hi lo b : Int} (r : Right v hi lo b) : decide ((16 : Int) ≤ IntKind.u64.wrap (laL v lo b - lo)) = wideB v b := by
  have c0 := (right_iff v hi lo b r.h0 r.h1 r.l0 r.l1).2 r
  have hw : wid v ≤ 128 := by unfold wid; split <;> omega
  have b0 := r.b0
  have b1 := r.b1
  have e : fsL v lo b = lo := by
    rcases pchk_cases v hi lo b with ⟨_, _, _, _, _, e2⟩ | k | k
    · exact e2
    · omega
    · omega
  have hm : laL v lo b - lo = 2 ^ (min (wid v - b).toNat 64) - 1 := by
    unfold laL mask
    rw [e]; omega
  have hp : ∀ n : Nat, n ≤ 64 → IntKind.u64.wrap ((2 : Int) ^ n - 1) = 2 ^ n - 1 := fun n hn => by
    have h1 : (0 : Int) < 2 ^ n := Int.pow_pos (by decide)
    have h2 : (2 : Int) ^ n ≤ 2 ^ 64 := by
      have : (2 : Nat) ^ n ≤ 2 ^ 64 := Nat.pow_le_pow_right (by decide) hn
      have h4 := Int.ofNat_le.2 this
      rw [pow_cast, pow_cast] at h4
      exact h4
    have h3 : (2 : Int) ^ 64 = 18446744073709551616 := by decide
    generalize (2 : Int) ^ n = x at *
    have : (x - 1) % 18446744073709551616 = x - 1 := by omega
    simp [IntKind.wrap, IntKind.bits, IntKind.signed, this]
  rw [hm, hp _ (by omega)]
  have := mask_wide ⟨(wid v - b).toNat, by omega⟩
  simp only at this
  rw [this]
  unfold wideB
  exact decide_eq_decide.2 (by omega)

set_option maxHeartbeats 8000000 in
theorem wide_any (v : Bool) (hi lo b : Int) (w : World) (r : Right v hi lo b) : Calls Try.prog 38 #[.agg #[.bool v, .int .u64 hi, .int .u64 lo, .int .i64 b]] w fun e w' => e = .returned (.bool (wideB v b)) ∧ Below w.heap.size w w' := by
  have c0 := (right_iff v hi lo b r.h0 r.h1 r.l0 r.l1).2 r
  have hE : Hid (∀ w : World, Calls Try.prog 43 #[.agg #[.bool v, .int .u64 hi, .int .u64 lo, .int .i64 b]] w fun e w' => e = .returned (.tuple #[.agg #[.bool v, .int .u64 hi, .int .u64 lo], .agg #[.bool v, .int .u64 (laH v hi b), .int .u64 (laL v lo b)], .int .i64 0]) ∧ Below w.heap.size w w') := fun w => ends_ok v hi lo b w r.h0 r.h1 r.l0 r.l1 c0
  have HW := Lib.hid (wide_iff r)
  have HB := Lib.hid (bal (Below.refl w.heap.size w) (.cells #[.bool v, .int .u64 hi, .int .u64 lo, .int .i64 b] 40))
  generalize wideB v b = R at *
  generalize laH v hi b = r1 at *
  generalize laL v lo b = r2 at *
  clear r c0
  go_enter Try.func38, Try.ntmps38
  go_wp2_with fail
  refine (hE.out _).mono ?_
  rintro e w2 ⟨rfl, hb⟩
  have HB2 := Lib.hid (bal (bal (btr HB.out hb) (.cells #[.bool v, .int .u64 hi, .int .u64 lo] 38)) (.cells #[.bool v, .int .u64 r1, .int .u64 r2] 38))
  clear hb HB hE
  go_wp2
  go_ret
  exact ⟨congrArg (fun r => Ending.returned (Value.bool r)) HW.out, HB2.out⟩

/-- What is wrong with those that are kept back, behind the one ahead (if there is one). -/
def keptE (p : Pf) : Option Ad → List Ad → Int
  | _, [] => 0
  | none, x :: r => if chk x.v x.hi x.lo = 0 then (if p.inA x.v x.hi x.lo = true then keptE p (some x) r else 5) else chk x.v x.hi x.lo
  | some q, x :: r => if chk x.v x.hi x.lo = 0 then (if p.inA x.v x.hi x.lo = true then (if q.less x = true then keptE p (some x) r else 4) else 5) else chk x.v x.hi x.lo
def poolE (p : Pf) (kept : List Ad) : Int := if p.chk = 0 then (if wideB p.v p.b = true ∨ 6 < kept.length then 2 else keptE p none kept) else p.chk
theorem keptE_nil (p : Pf) (q : Option Ad) : keptE p q [] = 0 := by cases q <;> rfl
def prevA (l : List Ad) (k : Nat) : Option Ad := if k = 0 then none else l[k - 1]?
theorem prevA_succ (l : List Ad) (k : Nat) (h : k < l.length) : prevA l (k + 1) = some l[k] := by simp [prevA, h]
theorem keepP {w W W' : World} {pb g xb o : Nat} {s x0 x1 x2 y0 y1 y2 : Value}
    (h : (W.cell? ⟨pb, 4, none⟩ = some s ∧ pb < W.heap.size) ∧ (W.cell? ⟨g, o, none⟩ = some x0 ∧ W.cell? ⟨g, o + 1, none⟩ = some x1 ∧ W.cell? ⟨g, o + 2, none⟩ = some x2 ∧ g < W.heap.size) ∧ (W.cell? ⟨xb, 0, none⟩ = some y0 ∧ W.cell? ⟨xb, 1, none⟩ = some y1 ∧ W.cell? ⟨xb, 2, none⟩ = some y2 ∧ xb < W.heap.size) ∧ Below w.heap.size w W) (hb : Below W.heap.size W W') :
    (W'.cell? ⟨pb, 4, none⟩ = some s ∧ pb < W'.heap.size) ∧ (W'.cell? ⟨g, o, none⟩ = some x0 ∧ W'.cell? ⟨g, o + 1, none⟩ = some x1 ∧ W'.cell? ⟨g, o + 2, none⟩ = some x2 ∧ g < W'.heap.size) ∧ (W'.cell? ⟨xb, 0, none⟩ = some y0 ∧ W'.cell? ⟨xb, 1, none⟩ = some y1 ∧ W'.cell? ⟨xb, 2, none⟩ = some y2 ∧ xb < W'.heap.size) ∧ Below w.heap.size w W' := by
  obtain ⟨⟨a0, a1⟩, ⟨b0, b1, b2, b3⟩, ⟨c0, c1, c2, c3⟩, hw⟩ := h
  have k := (bcell hb).1
  have z := hb.size
  exact ⟨⟨by rw [k _ _ a1]; exact a0, by omega⟩, ⟨by rw [k _ _ b3]; exact b0, by rw [k _ _ b3]; exact b1, by rw [k _ _ b3]; exact b2, by omega⟩, ⟨by rw [k _ _ c3]; exact c0, by rw [k _ _ c3]; exact c1, by rw [k _ _ c3]; exact c2, by omega⟩, btr hw hb⟩

set_option maxHeartbeats 16000000 in
set_option maxRecDepth 100000 in
theorem pool_any (p : Pf) (hp : p.Ok) (a : Option Addr) (c : Nat) (l : List Ad) (w : World) (hs : Lies adE w a l) :
    Calls Try.prog 33 #[.agg #[.bool p.v, .int .u64 p.hi, .int .u64 p.lo, .int .i64 p.b, .slice a l.length c]] w fun e w' => e = .returned (.int .i64 (poolE p l)) ∧ Below w.heap.size w w' := by
  obtain ⟨i0, i1, l0, l1⟩ := hp
  have HP := Lib.hid (Has5.new w (.bool p.v) (.int .u64 p.hi) (.int .u64 p.lo) (.int .i64 p.b) (.slice a l.length c) 66)
  have HB := Lib.hid (bal (Below.refl w.heap.size w) (.cells #[.bool p.v, .int .u64 p.hi, .int .u64 p.lo, .int .i64 p.b, .slice a l.length c] 66))
  have hC : Hid (∀ w : World, Calls Try.prog 37 #[.agg #[.bool p.v, .int .u64 p.hi, .int .u64 p.lo, .int .i64 p.b]] w fun e w' => e = .returned (.int .i64 p.chk) ∧ Below w.heap.size w w') := fun w => pcheck_any p.v p.hi p.lo p.b w i0 i1 l0 l1
  obtain ⟨R, hR⟩ : ∃ R, R = poolE p l := ⟨_, rfl⟩
  rw [← hR]
  have HR := Lib.hid hR
  have HL := Lib.hid hs
  obtain ⟨N, hN⟩ : ∃ N, N = l.length := ⟨_, rfl⟩
  rw [← hN] at HP HB ⊢
  have HN := Lib.hid hN
  clear hR hs hN
  by_cases hc : p.chk = 0
  · have hr : Right p.v p.hi p.lo p.b := (right_iff _ _ _ _ i0 i1 l0 l1).1 hc
    have hW : Hid (∀ w : World, Calls Try.prog 38 #[.agg #[.bool p.v, .int .u64 p.hi, .int .u64 p.lo, .int .i64 p.b]] w fun e w' => e = .returned (.bool (wideB p.v p.b)) ∧ Below w.heap.size w w') := fun w => wide_any p.v p.hi p.lo p.b w hr
    have hI : Hid (∀ (x : Ad) (w : World), Calls Try.prog 39 #[.agg #[.bool x.v, .int .u64 x.hi, .int .u64 x.lo], .agg #[.bool p.v, .int .u64 p.hi, .int .u64 p.lo, .int .i64 p.b]] w fun e w' => e = .returned (.bool (p.inA x.v x.hi x.lo)) ∧ Below w.heap.size w w') := fun x w => within_any x.v x.hi x.lo p.v p.hi p.lo p.b w x.ok.1.1 x.ok.2.1 i0 i1 l0 l1 hc
    have HR1 : Hid (R = if wideB p.v p.b = true ∨ 6 < N then 2 else keptE p none l) := by rw [Hid, HR.out, poolE, if_pos hc, HN.out]
    rw [hc] at hC
    clear HR hr i0 i1 l0 l1 hc
    generalize wideB p.v p.b = wb at *
    cases wb
    · by_cases h6 : 6 < N
      · have HE : Hid (R = 2) := by rw [Hid, HR1.out, if_pos (.inr h6)]
        have h6' : (6 : Int) < (N : Int) := by omega
        generalize p.v = v at *
        generalize p.hi = hi at *
        generalize p.lo = lo at *
        generalize p.b = b at *
        go_enter Try.func33, Try.ntmps33
        go_wp2_with fail
        refine (hC.out _).mono ?_
        rintro e w2 ⟨rfl, hb⟩
        obtain ⟨p0, p1, p2, p3, p4, p5⟩ := HP.out.below hb
        have HP2 := Lib.hid (HP.out.below hb)
        replace HB := Lib.hid (btr HB.out hb)
        clear hb hC
        go_wp2_with fail
        refine (hW.out _).mono ?_
        rintro e w3 ⟨rfl, hb⟩
        clear p0 p1 p2 p3 p4 p5
        obtain ⟨p0, p1, p2, p3, p4, p5⟩ := HP2.out.below hb
        replace HB := Lib.hid (btr HB.out hb)
        clear hb hW HP2 HP
        go_wp2_with fail
        go_ret
        exact ⟨congrArg (fun r => Ending.returned (Value.int .i64 r)) HE.out.symm, HB.out⟩
      · have HR2 : Hid (R = keptE p none l) := by rw [Hid, HR1.out, if_neg (by simp; omega)]
        have hd6 : decide ((6 : Int) < (N : Int)) = false := decide_eq_false (by omega)
        have hN6 : N ≤ 6 := by omega
        have hIn : Hid (∀ (x : Ad) (w : World), Calls Try.prog 39 #[.agg #[.bool x.v, .int .u64 x.hi, .int .u64 x.lo], .agg #[.bool p.v, .int .u64 p.hi, .int .u64 p.lo, .int .i64 p.b]] w fun e w' => e = .returned (.bool (p.inA x.v x.hi x.lo)) ∧ Below w.heap.size w w') := hI
        clear hI HR1 h6
        generalize p.v = v at *
        generalize p.hi = hi at *
        generalize p.lo = lo at *
        generalize p.b = b at *
        go_enter Try.func33, Try.ntmps33
        go_wp2_with fail
        refine (hC.out _).mono ?_
        rintro e w2 ⟨rfl, hb⟩
        replace HP := Lib.hid (HP.out.below hb)
        replace HB := Lib.hid (btr HB.out hb)
        clear hb hC
        obtain ⟨p0, p1, p2, p3, p4, p5⟩ := HP.out
        go_wp2_with fail
        refine (hW.out _).mono ?_
        rintro e w3 ⟨rfl, hb⟩
        clear p0 p1 p2 p3 p4 p5
        replace HP := Lib.hid (HP.out.below hb)
        replace HB := Lib.hid (btr HB.out hb)
        clear hb hW
        obtain ⟨p0, p1, p2, p3, p4, p5⟩ := HP.out
        go_wp2_with fail
        clear p0 p1 p2 p3 p4 p5
        go_loopw [25] (fun vi wr => ∃ k : Nat, vi = .int .i64 k ∧ k ≤ N ∧ Hid (Has5 wr w.heap.size (.bool v) (.int .u64 hi) (.int .u64 lo) (.int .i64 b) (.slice a N c)) ∧ Hid (Below w.heap.size w wr) ∧ Hid (R = keptE p (prevA l k) (l.drop k)))
          (fun vi _ => N - (intOf vi).toNat)
        case atStart => exact ⟨0, rfl, Nat.zero_le _, HP, HB, HR2⟩
        case round =>
          clear HP HB HR2
          obtain ⟨k, rfl, hk, HP, HB, hh⟩ := hrel
          by_cases hkN : k < N
          · have hkl : k < l.length := by have := HN.out; omega
            obtain ⟨g, o, rfl, hg, c0, c1, c2⟩ := HL.out.ad k hkl
            rw [← (bcell HB.out).1 _ _ hg] at c0 c1 c2
            have hgr : g < wr.heap.size := Nat.lt_of_lt_of_le hg HB.out.size
            have hdec := hh.out
            rw [List.drop_eq_getElem_cons hkl] at hdec
            obtain ⟨x, hx⟩ : ∃ x, x = l[k] := ⟨_, rfl⟩
            rw [← hx] at c0 c1 c2 hdec
            have hnx : prevA l (k + 1) = some x := by rw [hx]; exact prevA_succ l k hkl
            have hCk : Hid (∀ w : World, Calls Try.prog 34 #[.agg #[.bool x.v, .int .u64 x.hi, .int .u64 x.lo]] w fun e w' => e = .returned (.int .i64 (chk x.v x.hi x.lo)) ∧ ∃ c, w' = w.alloc (.cells c 38)) := fun w => check_any x.v x.hi x.lo w x.ok.1.1 x.ok.2.1
            have hIx := Lib.hid (fun w => hIn.out x w)
            have hkz : (k : Int) < (N : Int) := by omega
            have hk0 : (0 : Int) ≤ (k : Int) := by omega
            have HX1 := Lib.hid (Has3.new wr (.bool x.v) (.int .u64 x.hi) (.int .u64 x.lo) 38)
            have HB1 := Lib.hid (bal HB.out (.cells #[.bool x.v, .int .u64 x.hi, .int .u64 x.lo] 38))
            have HP1 := Lib.hid (HP.out.alloc (.cells #[.bool x.v, .int .u64 x.hi, .int .u64 x.lo] 38))
            -- the one ahead
            have HSt : Hid (chk x.v x.hi x.lo = 0 → p.inA x.v x.hi x.lo = true → k = 0 → R = keptE p (prevA l (k + 1)) (l.drop (k + 1))) := by
              intro e1 e2 e3
              subst e3
              rw [hdec, hnx, show prevA l 0 = none from rfl, keptE, if_pos e1, if_pos e2]
            have HS0 : Hid (¬ chk x.v x.hi x.lo = 0 → R = chk x.v x.hi x.lo) := by
              intro e1
              rw [hdec]
              cases prevA l k <;> rw [keptE, if_neg e1]
            have HS1 : Hid (chk x.v x.hi x.lo = 0 → ¬ p.inA x.v x.hi x.lo = true → R = 5) := by
              intro e1 e2
              rw [hdec]
              cases prevA l k <;> rw [keptE, if_pos e1, if_neg e2]
            have HS2 : Hid (chk x.v x.hi x.lo = 0 → p.inA x.v x.hi x.lo = true → ∀ m (hm : m < l.length), k = m + 1 → R = if l[m].less x = true then keptE p (prevA l (k + 1)) (l.drop (k + 1)) else 4) := by
              intro e1 e2 m hm e3
              subst e3
              rw [hdec, hnx, prevA_succ l m hm, keptE, if_pos e1, if_pos e2]
            have HLs : Hid (∀ m (hm : m < l.length) (w : World), Calls Try.prog 40 #[.agg #[.bool l[m].v, .int .u64 l[m].hi, .int .u64 l[m].lo], .agg #[.bool x.v, .int .u64 x.hi, .int .u64 x.lo]] w fun e w' => e = .returned (.bool (l[m].less x)) ∧ Below w.heap.size w w') :=
              fun m hm w => oless_any l[m].v x.v l[m].hi l[m].lo x.hi x.lo w l[m].ok.1.1 l[m].ok.2.1 x.ok.1.1 x.ok.2.1
            have HLl : Hid (∀ m, k = m + 1 → ∃ (hm : m < l.length) (y : Ad), y = l[m] ∧ wr.cell? ⟨g, o + m * 3, none⟩ = some (.bool y.v) ∧ wr.cell? ⟨g, o + m * 3 + 1, none⟩ = some (.int .u64 y.hi) ∧ wr.cell? ⟨g, o + m * 3 + 2, none⟩ = some (.int .u64 y.lo)) := by
              intro m hm
              have hml : m < l.length := by omega
              obtain ⟨g', o', e', _, d0, d1, d2⟩ := HL.out.ad m hml
              obtain ⟨rfl, rfl⟩ : g = g' ∧ o = o' := by simpa using e'
              rw [← (bcell HB.out).1 _ _ hg] at d0 d1 d2
              exact ⟨hml, l[m], rfl, d0, d1, d2⟩
            have hgH := Lib.hid hgr
            clear hdec hnx hh hx hgr hg HL hIn HB HP
            generalize hr1 : chk x.v x.hi x.lo = r1 at *
            generalize hr2 : p.inA x.v x.hi x.lo = r2 at *
            by_cases hc0 : r1 = 0
            · subst hc0
              clear HS0
              cases r2
              · have HE := Lib.hid (HS1.out rfl (by decide))
                clear HSt HS1 HS2 HLs HLl hr1 hr2
                generalize x.v = xv at *
                generalize x.hi = xh at *
                generalize x.lo = xl at *
                go_wp2_with fail
                refine (hCk.out _).mono ?_
                rintro e w4 ⟨rfl, cc, rfl⟩
                obtain ⟨q0, q1, q2, q3⟩ := HX1.out.alloc (.cells cc 38)
                obtain ⟨p0, p1, p2, p3, p4, p5⟩ := HP1.out.alloc (.cells cc 38)
                replace HB1 := Lib.hid (bal HB1.out (.cells cc 38))
                generalize (wr.alloc (.cells #[.bool xv, .int .u64 xh, .int .u64 xl] 38)).alloc (.cells cc 38) = w4 at *
                go_wp2_with fail
                refine (hIx.out _).mono ?_
                rintro e w5 ⟨rfl, hb⟩
                replace HB1 := Lib.hid (btr HB1.out hb)
                clear hb p0 p1 p2 p3 p4 p5 q0 q1 q2 q3
                go_wp2_with fail
                go_ret
                exact ⟨congrArg (fun r => Ending.returned (Value.int .i64 r)) HE.out.symm, HB1.out⟩
              · by_cases hk00 : k = 0
                · subst hk00
                  simp only [Nat.zero_mul, Nat.add_zero] at c0 c1 c2
                  have HE := Lib.hid (HSt.out rfl rfl rfl)
                  clear HSt HS1 HS2 HLs HLl hr1 hr2
                  have hdk : decide ((0 : Int) < ((0 : Nat) : Int)) = false := by decide
                  generalize x.v = xv at *
                  generalize x.hi = xh at *
                  generalize x.lo = xl at *
                  go_wp2_with fail
                  refine (hCk.out _).mono ?_
                  rintro e w4 ⟨rfl, cc, rfl⟩
                  replace HX1 := Lib.hid (HX1.out.alloc (.cells cc 38))
                  replace HP1 := Lib.hid (HP1.out.alloc (.cells cc 38))
                  replace HB1 := Lib.hid (bal HB1.out (.cells cc 38))
                  have HB0 := Lib.hid (bal (bal (Below.refl wr.heap.size wr) (.cells #[.bool xv, .int .u64 xh, .int .u64 xl] 38)) (.cells cc 38))
                  generalize (wr.alloc (.cells #[.bool xv, .int .u64 xh, .int .u64 xl] 38)).alloc (.cells cc 38) = w4 at *
                  obtain ⟨q0, q1, q2, q3⟩ := HX1.out
                  obtain ⟨p0, p1, p2, p3, p4, p5⟩ := HP1.out
                  go_wp2_with fail
                  refine (hIx.out _).mono ?_
                  rintro e w5 ⟨rfl, hb⟩
                  clear p0 p1 p2 p3 p4 p5 q0 q1 q2 q3
                  replace HX1 := Lib.hid (HX1.out.below hb)
                  replace HP1 := Lib.hid (HP1.out.below hb)
                  replace HB1 := Lib.hid (btr HB1.out hb)
                  replace HB0 := Lib.hid (btr HB0.out hb)
                  clear hb hIx hCk
                  obtain ⟨q0, q1, q2, q3⟩ := HX1.out
                  obtain ⟨p0, p1, p2, p3, p4, p5⟩ := HP1.out
                  go_wp2_with fail
                  go_region
                  all_goals go_wp2_with fail
                  go_roundw
                  case rel => exact ⟨0 + 1, by go_num, by omega, HP1, HB1.out.drew, HE⟩
                  case measure => simp [intOf]; omega
                · obtain ⟨m, rfl⟩ : ∃ m, k = m + 1 := ⟨k - 1, by omega⟩
                  obtain ⟨hml, y, hy, d0, d1, d2⟩ := HLl.out m rfl
                  have HE := Lib.hid (HS2.out rfl rfl m hml rfl)
                  have hLm := Lib.hid (fun w => HLs.out m hml w)
                  rw [← hy] at HE hLm
                  clear HSt HS1 HS2 HLs HLl hr1 hr2 hy
                  generalize y.less x = r3 at *
                  generalize x.v = xv at *
                  generalize x.hi = xh at *
                  generalize x.lo = xl at *
                  generalize y.v = yv at *
                  generalize y.hi = yh at *
                  generalize y.lo = yl at *
                  go_wp2_with fail
                  refine (hCk.out _).mono ?_
                  rintro e w4 ⟨rfl, cc, rfl⟩
                  replace HX1 := Lib.hid (HX1.out.alloc (.cells cc 38))
                  replace HP1 := Lib.hid (HP1.out.alloc (.cells cc 38))
                  replace HB1 := Lib.hid (bal HB1.out (.cells cc 38))
                  have HB0 := Lib.hid (bal (bal (Below.refl wr.heap.size wr) (.cells #[.bool xv, .int .u64 xh, .int .u64 xl] 38)) (.cells cc 38))
                  generalize (wr.alloc (.cells #[.bool xv, .int .u64 xh, .int .u64 xl] 38)).alloc (.cells cc 38) = w4 at *
                  obtain ⟨q0, q1, q2, q3⟩ := HX1.out
                  obtain ⟨p0, p1, p2, p3, p4, p5⟩ := HP1.out
                  go_wp2_with fail
                  refine (hIx.out _).mono ?_
                  rintro e w5 ⟨rfl, hb⟩
                  clear p0 p1 p2 p3 p4 p5 q0 q1 q2 q3
                  replace HX1 := Lib.hid (HX1.out.below hb)
                  replace HP1 := Lib.hid (HP1.out.below hb)
                  replace HB1 := Lib.hid (btr HB1.out hb)
                  replace HB0 := Lib.hid (btr HB0.out hb)
                  clear hb hIx hCk
                  obtain ⟨q0, q1, q2, q3⟩ := HX1.out
                  obtain ⟨p0, p1, p2, p3, p4, p5⟩ := HP1.out
                  have hm1 : (0 : Int) ≤ (m : Int) := by omega
                  have hm2 : (m : Int) < (N : Int) := by omega
                  have hm3 : (0 : Int) < (m : Int) + 1 := by omega
                  have hwr : IntKind.i64.wrap ((m : Int) + 1 - 1) = (m : Int) := by rw [IntKind.wrap_i64]; omega
                  have hwr2 : IntKind.i64.wrap (m : Int) = (m : Int) := by rw [IntKind.wrap_i64]; omega
                  rw [← (bcell HB0.out).1 _ _ hgH.out] at d0 d1 d2
                  have hg5 : g < w5.heap.size := Nat.lt_of_lt_of_le hgH.out HB0.out.size
                  have HSd := Lib.hid (keepP (w := w) ⟨⟨p4, p5⟩, ⟨d0, d1, d2, hg5⟩, ⟨q0, q1, q2, q3⟩, HB1.out⟩ (Below.refl _ _).drew)
                  clear d0 d1 d2 p0 p1 p2 p3 p4 p5 q0 q1 q2 q3 hg5
                  cases r3
                  · have HE2 : Hid (R = 4) := by rw [Hid, HE.out]; rfl
                    clear HE
                    go_wp2_with fail
                    go_region_held3 (fun w' => (w'.cell? ⟨w.heap.size, 4, none⟩ = some (.slice (some ⟨g, o, none⟩) N c) ∧ w.heap.size < w'.heap.size) ∧ (w'.cell? ⟨g, o + m * 3, none⟩ = some (.bool yv) ∧ w'.cell? ⟨g, o + m * 3 + 1, none⟩ = some (.int .u64 yh) ∧ w'.cell? ⟨g, o + m * 3 + 2, none⟩ = some (.int .u64 yl) ∧ g < w'.heap.size) ∧ (w'.cell? ⟨wr.heap.size, 0, none⟩ = some (.bool xv) ∧ w'.cell? ⟨wr.heap.size, 1, none⟩ = some (.int .u64 xh) ∧ w'.cell? ⟨wr.heap.size, 2, none⟩ = some (.int .u64 xl) ∧ wr.heap.size < w'.heap.size) ∧ Below w.heap.size w w')
                      (first | with_reducible exact HSd.out | with_reducible exact HSe.out | fail)
                      ((go_at_call 40; refine (hLm.out _).mono ?_; rintro e wx ⟨rfl, hb⟩; have HSe := Lib.hid (keepP HSd.out hb); have HPe := Lib.hid (HP1.out.below ((Below.refl _ _).drew.trans hb)); clear hb))
                    have HB2 := Lib.hid HSe.out.2.2.2
                    clear HSe HSd
                    go_wp2_with fail
                    go_ret
                    exact ⟨congrArg (fun r => Ending.returned (Value.int .i64 r)) HE2.out.symm, HB2.out⟩
                  · have HE2 := Lib.hid (HE.out.trans (if_pos rfl))
                    clear HE
                    go_wp2_with fail
                    go_region_held3 (fun w' => (w'.cell? ⟨w.heap.size, 4, none⟩ = some (.slice (some ⟨g, o, none⟩) N c) ∧ w.heap.size < w'.heap.size) ∧ (w'.cell? ⟨g, o + m * 3, none⟩ = some (.bool yv) ∧ w'.cell? ⟨g, o + m * 3 + 1, none⟩ = some (.int .u64 yh) ∧ w'.cell? ⟨g, o + m * 3 + 2, none⟩ = some (.int .u64 yl) ∧ g < w'.heap.size) ∧ (w'.cell? ⟨wr.heap.size, 0, none⟩ = some (.bool xv) ∧ w'.cell? ⟨wr.heap.size, 1, none⟩ = some (.int .u64 xh) ∧ w'.cell? ⟨wr.heap.size, 2, none⟩ = some (.int .u64 xl) ∧ wr.heap.size < w'.heap.size) ∧ Below w.heap.size w w')
                      (first | with_reducible exact HSd.out | with_reducible exact HSe.out | fail)
                      ((go_at_call 40; refine (hLm.out _).mono ?_; rintro e wx ⟨rfl, hb⟩; have HSe := Lib.hid (keepP HSd.out hb); have HPe := Lib.hid (HP1.out.below ((Below.refl _ _).drew.trans hb)); clear hb))
                    have HB2 := Lib.hid HSe.out.2.2.2
                    clear HSe HSd
                    go_wp2_with fail
                    go_roundw
                    case rel => exact ⟨m + 1 + 1, by go_num, by omega, HPe, HB2, HE2⟩
                    case measure => simp [intOf]; omega
            · have HE := Lib.hid (HS0.out hc0)
              have hI1 : (r1 != 0) = true := by rw [bne_iff_ne]; exact hc0
              clear HSt HS1 HS2 HLs HLl HS0 hr1 hr2 hc0
              generalize x.v = xv at *
              generalize x.hi = xh at *
              generalize x.lo = xl at *
              go_wp2_with fail
              refine (hCk.out _).mono ?_
              rintro e w4 ⟨rfl, cc, rfl⟩
              replace HB1 := Lib.hid (bal HB1.out (.cells cc 38))
              go_wp2_with fail
              go_ret
              exact ⟨congrArg (fun r => Ending.returned (Value.int .i64 r)) HE.out.symm, HB1.out⟩
          · obtain rfl : k = N := by omega
            have hkk : ¬ (k : Int) < (k : Int) := by omega
            have hd := hh.out
            rw [List.drop_eq_nil_of_le (by have := HN.out; omega), keptE_nil] at hd
            have HE := Lib.hid hd
            clear hd hh
            go_wp2_with fail
            go_ret
            exact ⟨congrArg (fun r => Ending.returned (Value.int .i64 r)) HE.out.symm, HB.out⟩
    · have HE : Hid (R = 2) := by rw [Hid, HR1.out, if_pos (.inl rfl)]
      generalize p.v = v at *
      generalize p.hi = hi at *
      generalize p.lo = lo at *
      generalize p.b = b at *
      go_enter Try.func33, Try.ntmps33
      go_wp2_with fail
      refine (hC.out _).mono ?_
      rintro e w2 ⟨rfl, hb⟩
      obtain ⟨p0, p1, p2, p3, p4, p5⟩ := HP.out.below hb
      replace HB := Lib.hid (btr HB.out hb)
      clear hb hC
      go_wp2_with fail
      refine (hW.out _).mono ?_
      rintro e w3 ⟨rfl, hb⟩
      replace HB := Lib.hid (btr HB.out hb)
      clear hb hW p0 p1 p2 p3 p4 p5
      go_wp2_with fail
      go_ret
      exact ⟨congrArg (fun r => Ending.returned (Value.int .i64 r)) HE.out.symm, HB.out⟩
  · have HE : Hid (R = p.chk) := by rw [Hid, HR.out, poolE, if_neg hc]
    have hI : (p.chk != 0) = true := by rw [bne_iff_ne]; exact hc
    clear hc HR
    generalize p.chk = r at *
    generalize p.v = v at *
    generalize p.hi = hi at *
    generalize p.lo = lo at *
    generalize p.b = b at *
    go_enter Try.func33, Try.ntmps33
    go_wp2_with fail
    refine (hC.out _).mono ?_
    rintro e w2 ⟨rfl, hb⟩
    go_wp2_with fail
    go_ret
    exact ⟨congrArg (fun r => Ending.returned (Value.int .i64 r)) HE.out.symm, btr HB.out hb⟩
end Go.Proofs.Ytclnfkohlklbpaa
