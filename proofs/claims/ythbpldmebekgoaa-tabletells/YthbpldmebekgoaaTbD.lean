/- table.Find: the nearest prefix of an address. The closures of table.Find and table.standing. -/
import Derived.Test.YthbpldmebekgoaaTbC
import Derived.Shelf.Abstract
set_option linter.unusedVariables false
set_option linter.unusedSimpArgs false
namespace Go.Proofs.Ythbpldmebekgoaa
open Go.RowKit Go.Shelf

theorem find1_any (ab : Nat) (v : Bool) (xh xl : Int) (u : Bool) (hi lo b : Int) (w : World) (h0 : 0 ≤ xh) (h1 : 0 ≤ xl) (i0 : 0 ≤ hi) (i1 : hi < 18446744073709551616) (i2 : 0 ≤ lo) (i3 : lo < 18446744073709551616) (c0 : pchk u hi lo b = 0)
    (ha : Has3 w ab (.bool v) (.int .u64 xh) (.int .u64 xl)) :
    Calls Try.prog 15 #[.agg #[.bool u, .int .u64 hi, .int .u64 lo, .int .i64 b], .pointer (some ⟨ab, 0, none⟩)] w fun e w' => e = .returned (.bool (inB v xh xl u hi lo b)) ∧ Below w.heap.size w w' := by
  have hW : Hid (∀ w : World, Calls Try.prog 16 #[.agg #[.bool v, .int .u64 xh, .int .u64 xl], .agg #[.bool u, .int .u64 hi, .int .u64 lo, .int .i64 b]] w fun e w' =>
      e = .returned (.bool (inB v xh xl u hi lo b)) ∧ Below w.heap.size w w') := fun w => within_any v xh xl u hi lo b w h0 h1 i0 i1 i2 i3 c0
  have HB := Lib.hid (bal (Below.refl w.heap.size w) (.cells #[.bool u, .int .u64 hi, .int .u64 lo, .int .i64 b] 37))
  generalize inB v xh xl u hi lo b = r at *
  clear h0 h1 i0 i1 i2 i3 c0
  obtain ⟨a0, a1, a2, a3⟩ := ha
  go_enter Try.func15, Try.ntmps15
  go_wp2_with fail
  refine (hW.out _).mono ?_
  rintro e w2 ⟨rfl, hb⟩
  go_wp2
  go_ret
  exact ⟨rfl, btr HB.out hb⟩

theorem stand1_any (pb : Nat) (v : Bool) (hi lo b : Int) (u : Bool) (yi yo c : Int) (w : World) (r : Right v hi lo b) (q : Right u yi yo c)
    (ha : Has4 w pb v hi lo b) :
    Calls Try.prog 29 #[.agg #[.bool u, .int .u64 yi, .int .u64 yo, .int .i64 c], .pointer (some ⟨pb, 0, none⟩)] w fun e w' => e = .returned (.bool (hasB u yi yo c v hi lo b)) ∧ Below w.heap.size w w' := by
  have hW : Hid (∀ w : World, Calls Try.prog 30 #[.agg #[.bool u, .int .u64 yi, .int .u64 yo, .int .i64 c], .agg #[.bool v, .int .u64 hi, .int .u64 lo, .int .i64 b]] w fun e w' =>
      e = .returned (.tuple #[.bool (hasB u yi yo c v hi lo b), .int .i64 0]) ∧ Below w.heap.size w w') := fun w => has_ok u yi yo c v hi lo b w q.h0 q.h1 q.l0 q.l1 r.h0 r.h1 r.l0 r.l1 (by rw [two, if_pos ((right_iff _ _ _ _ q.h0 q.h1 q.l0 q.l1).2 q)]; exact (right_iff _ _ _ _ r.h0 r.h1 r.l0 r.l1).2 r)
  have HB := Lib.hid (bal (Below.refl w.heap.size w) (.cells #[.bool u, .int .u64 yi, .int .u64 yo, .int .i64 c] 37))
  generalize hasB u yi yo c v hi lo b = r at *
  obtain ⟨a0, a1, a2, a3, a4⟩ := ha
  clear q
  go_enter Try.func29, Try.ntmps29
  go_wp2_with fail
  refine (hW.out _).mono ?_
  rintro e w2 ⟨rfl, hb⟩
  go_wp2
  go_ret
  exact ⟨rfl, btr HB.out hb⟩

theorem tchk_right : ∀ (ps : List Pf) (o : Option Pf), tchk o ps = 0 → ∀ p ∈ ps, p.chk = 0
  | [], _, _, p, hp => by simp at hp
  | q :: r, none, h, p, hp => by
    rw [tchk_none] at h
    by_cases hq : q.chk = 0
    · rw [if_pos hq] at h
      rcases List.mem_cons.1 hp with rfl | hp
      · exact hq
      · exact tchk_right r _ h p hp
    · rw [if_neg hq] at h; exact absurd h hq
  | q :: r, some s, h, p, hp => by
    rw [tchk_some] at h
    by_cases hq : q.chk = 0
    · rw [if_pos hq] at h
      by_cases hf : folE (s.cmp q) = 0
      · rw [if_pos hf] at h
        rcases List.mem_cons.1 hp with rfl | hp
        · exact hq
        · exact tchk_right r _ h p hp
      · rw [if_neg hf] at h; exact absurd h hf
    · rw [if_neg hq] at h; exact absurd h hq
theorem tchkL_right {ps : List Pf} (h : tchkL ps = 0) : ps.length ≤ 12 ∧ ∀ p ∈ ps, p.chk = 0 := by
  unfold tchkL at h
  by_cases hl : 12 < ps.length
  · rw [if_pos hl] at h; exact absurd h (by decide)
  · rw [if_neg hl] at h; exact ⟨by omega, tchk_right ps none h⟩

def findE (ps : List Pf) (v : Bool) (xh xl : Int) : Int := if tchkL ps = 0 then (if chk v xh xl = 0 then (if (lastI (fun p => p.inA v xh xl) ps).isSome then 0 else 5) else chk v xh xl) else tchkL ps
def findI (ps : List Pf) (v : Bool) (xh xl : Int) : Int := if findE ps v xh xl = 0 then nrI (lastI (fun p => p.inA v xh xl) ps) else 0

theorem enters_find1 : ∀ args w, (callFunc 15 args).run Try.prog w = .ok (.enter 15 args) w := enters_of Try.func15 (by kernel_rfl) rfl

set_option maxHeartbeats 8000000 in
set_option maxRecDepth 100000 in
theorem find_any (a : Option Addr) (c : Nat) (ps : List Pf) (v : Bool) (xh xl : Int) (w : World) (hok : ∀ p ∈ ps, p.Ok) (hs : Sl w a ps) (h0 : 0 ≤ xh) (h1 : 0 ≤ xl) :
    Calls Try.prog 4 #[.slice a ps.length c, .agg #[.bool v, .int .u64 xh, .int .u64 xl]] w fun e w' => e = .returned (.tuple #[.int .i64 (findI ps v xh xl), .int .i64 (findE ps v xh xl)]) ∧ Below w.heap.size w w' := by
  have B1 := bal (Below.refl w.heap.size w) (.cells #[.bool v, .int .u64 xh, .int .u64 xl] 25)
  have hC := tcheck_any a c ps _ hok (hs.below B1)
  have HB := Lib.hid B1
  have HP := Lib.hid (Has3.new w (.bool v) (.int .u64 xh) (.int .u64 xl) 25)
  by_cases hr : tchkL ps = 0
  · obtain ⟨h12, hall⟩ := tchkL_right hr
    rw [hr] at hC
    have HC := Lib.hid hC
    have hA : Hid (∀ w : World, Calls Try.prog 13 #[.agg #[.bool v, .int .u64 xh, .int .u64 xl]] w fun e w' => e = .returned (.int .i64 (chk v xh xl)) ∧ ∃ c, w' = w.alloc (.cells c 25)) := fun w => check_any v xh xl w h0 h1
    rcases chk_cases v xh xl with ⟨hc, _⟩ | hc
    · rw [hc] at hA
      have hF : Hid (∀ (w' : World), Has3 w' w.heap.size (.bool v) (.int .u64 xh) (.int .u64 xl) → Below w.heap.size w w' → Calls Try.prog 14 #[.slice a ps.length c, .func (.func 15) #[] #[.pointer (some ⟨w.heap.size, 0, none⟩)]] w' fun e w'' =>
          e = .returned (.tuple #[.int .i64 (nrI (lastI (fun p => p.inA v xh xl) ps)), .bool (lastI (fun p => p.inA v xh xl) ps).isSome]) ∧ Below w'.heap.size w' w'') := by
        intro w' ha hb
        refine nearest_any a c ps w' 15 _ (fun p => p.inA v xh xl) h12 (hs.below hb) enters_find1 ?_
        intro W x hx hbW
        obtain ⟨k0, k1, k2, k3⟩ := hok x hx
        have := find1_any w.heap.size v xh xl x.v x.hi x.lo x.b W h0 h1 k0 k1 k2 k3 (hall x hx) (ha.below hbW)
        exact this.mono fun e w3 h => ⟨h.1, btr hbW h.2⟩
      have e1 : findE ps v xh xl = if (lastI (fun p => p.inA v xh xl) ps).isSome then 0 else 5 := by rw [findE, if_pos hr, if_pos hc]
      have e2 : findI ps v xh xl = if (lastI (fun p => p.inA v xh xl) ps).isSome then nrI (lastI (fun p => p.inA v xh xl) ps) else 0 := by
        rw [findI, e1]; cases (lastI (fun p => p.inA v xh xl) ps).isSome <;> simp
      rw [e1, e2]
      generalize ps.length = N at *
      generalize nrI (lastI (fun p => p.inA v xh xl) ps) = r1 at *
      generalize (lastI (fun p => p.inA v xh xl) ps).isSome = r2 at *
      clear e1 e2 hall hok hs hr h0 h1 hc h12 B1 hC
      cases r2
      all_goals
        go_enter Try.func4, Try.ntmps4
        go_wp2_with fail
        refine HC.out.mono ?_
        rintro e w2 ⟨rfl, hb⟩
        replace HP := Lib.hid (HP.out.below hb)
        replace HB := Lib.hid (btr HB.out hb)
        clear hb HC
        obtain ⟨a0, a1, a2, a3⟩ := HP.out
        go_wp2_with fail
        refine (hA.out _).mono ?_
        rintro e w3 ⟨rfl, cc, rfl⟩
        replace HP := Lib.hid (HP.out.alloc (.cells cc 25))
        replace HB := Lib.hid (bal HB.out (.cells cc 25))
        clear a0 a1 a2 a3 hA
        generalize w2.alloc (.cells cc 25) = w4 at *
        go_wp2_with fail
        refine (hF.out _ HP.out HB.out).mono ?_
        rintro e w5 ⟨rfl, hb⟩
        replace HB := Lib.hid (btr HB.out hb)
        clear hb hF
        go_wp2
        go_ret2
        exact ⟨rfl, HB.out⟩
    · rw [hc] at hA
      have e1 : findE ps v xh xl = 3 := by rw [findE, if_pos hr, hc]; exact if_neg (by decide)
      have e2 : findI ps v xh xl = 0 := by rw [findI, e1]; exact if_neg (by decide)
      rw [e1, e2]
      generalize ps.length = N at *
      clear e1 e2 hall hok hs hr h0 h1 hc h12 B1 hC
      go_enter Try.func4, Try.ntmps4
      go_wp2_with fail
      refine HC.out.mono ?_
      rintro e w2 ⟨rfl, hb⟩
      replace HP := Lib.hid (HP.out.below hb)
      replace HB := Lib.hid (btr HB.out hb)
      clear hb HC
      obtain ⟨a0, a1, a2, a3⟩ := HP.out
      go_wp2_with fail
      refine (hA.out _).mono ?_
      rintro e w3 ⟨rfl, cc, rfl⟩
      replace HB := Lib.hid (bal HB.out (.cells cc 25))
      clear a0 a1 a2 a3 hA
      generalize w2.alloc (.cells cc 25) = w4 at *
      go_wp2
      go_ret2
      exact ⟨rfl, HB.out⟩
  · have e1 : findE ps v xh xl = tchkL ps := by rw [findE, if_neg hr]
    have e2 : findI ps v xh xl = 0 := by rw [findI, e1, if_neg hr]
    have hI : (tchkL ps != 0) = true := by rw [bne_iff_ne]; exact hr
    rw [e1, e2]
    have HC := Lib.hid hC
    generalize ps.length = N at *
    generalize tchkL ps = r at *
    clear e1 e2 hok hs hr h0 h1 B1 hC
    go_enter Try.func4, Try.ntmps4
    go_wp2_with fail
    refine HC.out.mono ?_
    rintro e w2 ⟨rfl, hb⟩
    replace HB := Lib.hid (btr HB.out hb)
    go_wp2
    go_ret2
    exact ⟨rfl, HB.out⟩
end Go.Proofs.Ythbpldmebekgoaa
