/- pick.look, pick.room. -/
import Derived.Test.YtjhkbjigpiickaaPkP
import Derived.Test.YtjhkbjigpiickaaSpC
import Derived.Laws.AppendOwnNone
set_option linter.unusedVariables false
set_option linter.unusedSimpArgs false
namespace Go.Proofs.Ytjhkbjigpiickaa
open Go.RowKit

/-- What is wrong with what comes in, if something is. -/
def pkE (p : Pf) (us : List Pf) : Int := if p.chk = 0 then slkL us else p.chk

set_option maxHeartbeats 4000000 in
set_option maxRecDepth 100000 in
theorem plook_any (p : Pf) (a : Option Addr) (c : Nat) (us : List Pf) (w : World) (hp : p.Ok) (hok : ∀ u ∈ us, u.Ok) (hs : Sl w a us) :
    Calls Try.prog 13 #[.agg #[.bool p.v, .int .u64 p.hi, .int .u64 p.lo, .int .i64 p.b], .slice a us.length c] w fun e w' => e = .returned (.int .i64 (pkE p us)) ∧ Below w.heap.size w w' := by
  have HB := Lib.hid (pal w p.v p.hi p.lo p.b)
  have HC : Hid (∀ w : World, Calls Try.prog 15 #[.agg #[.bool p.v, .int .u64 p.hi, .int .u64 p.lo, .int .i64 p.b]] w fun e w' => e = .returned (.int .i64 p.chk) ∧ Below w.heap.size w w') := fun w => pcheck_any p.v p.hi p.lo p.b w hp.1 hp.2.1 hp.2.2.1 hp.2.2.2
  unfold pkE
  by_cases h : p.chk = 0
  · rw [if_pos h]
    rw [h] at HC
    by_cases hr : slkL us = 0
    · have HN := Lib.hid (fun w' (hb : Below w.heap.size w w') => sNorm_ok a c us w' hok (hs.below hb) hr)
      rw [hr]
      generalize us.length = N at *
      clear hok hs h hr hp
      go_enter Try.func13, Try.ntmps13
      go_wp2_with fail
      refine (HC.out _).mono ?_
      rintro e w2 ⟨rfl, hb⟩
      replace HB := Lib.hid (btr HB.out hb)
      clear hb HC
      go_wp2_with fail
      refine (HN.out _ HB.out).mono ?_
      rintro e w3 ⟨v, M, rfl, _, _, _, hb⟩
      replace HB := Lib.hid (btr HB.out hb)
      clear hb HN
      go_wp2
      go_ret
      exact ⟨rfl, HB.out⟩
    · have HN := Lib.hid (fun w' (hb : Below w.heap.size w w') => sNorm_bad a c us w' hok (hs.below hb) hr)
      generalize us.length = N at *
      generalize slkL us = r at *
      clear hok hs h hr hp
      go_enter Try.func13, Try.ntmps13
      go_wp2_with fail
      refine (HC.out _).mono ?_
      rintro e w2 ⟨rfl, hb⟩
      replace HB := Lib.hid (btr HB.out hb)
      clear hb HC
      go_wp2_with fail
      refine (HN.out _ HB.out).mono ?_
      rintro e w3 ⟨rfl, hb⟩
      replace HB := Lib.hid (btr HB.out hb)
      clear hb HN
      go_wp2
      go_ret
      exact ⟨rfl, HB.out⟩
  · rw [if_neg h]
    have hI : (p.chk != 0) = true := by rw [bne_iff_ne]; exact h
    generalize us.length = N at *
    generalize p.chk = r at *
    clear hok hs h hp
    go_enter Try.func13, Try.ntmps13
    go_wp2_with fail
    refine (HC.out _).mono ?_
    rintro e w2 ⟨rfl, hb⟩
    replace HB := Lib.hid (btr HB.out hb)
    clear hb HC
    go_wp2
    go_ret
    exact ⟨rfl, HB.out⟩

/-- A row of the call's own, with the norm of all that is left. -/
def RoomPost (w : World) (p : Pf) (us : List Pf) (e : Ending) (w' : World) : Prop := ∃ v M, e = .returned v ∧ w'.ownsRow w.heap.size 26 4 v M.length (flat M) ∧ IsRoom p us M ∧ Below w.heap.size w w'
theorem one_chk {q : Pf} (r : q.R) : slkL [q] = 0 := by
  unfold slkL schk schk
  rw [if_neg (by simp), show q.chk = 0 from (right_iff _ _ _ _ r.h0 r.h1 r.l0 r.l1).2 r]; rfl
theorem one_min {q u : Pf} (r : q.R) (s : u.R) : sMinE [q] u = 0 := by
  rw [sMinE, if_pos (one_chk r)]; exact (right_iff _ _ _ _ s.h0 s.h1 s.l0 s.l1).2 s
theorem pR_ok {p : Pf} (r : p.R) : p.Ok := ⟨r.h0, r.h1, r.l0, r.l1⟩
theorem sl_one1 (w : World) (p : Pf) : Sl (w.alloc (.cells #[.bool p.v, .int .u64 p.hi, .int .u64 p.lo, .int .i64 p.b] 26)) (some ⟨w.heap.size, 0, none⟩) [p] := by
  intro j hj
  obtain rfl : j = 0 := by simp at hj; exact hj
  refine ⟨_, _, rfl, by simp, ?_⟩
  simp [go_sem]
theorem sl_one2 (w : World) (p : Pf) (o : Obj) : Sl ((w.alloc o).alloc (.cells #[.bool p.v, .int .u64 p.hi, .int .u64 p.lo, .int .i64 p.b] 26)) (some ⟨w.heap.size + 1, 0, none⟩) [p] := by
  have := sl_one1 (w.alloc o) p
  rw [World.size_alloc] at this
  exact this
theorem wpList_append_many {P : Program} {w : World} {ops : Array Oper} {rest : List Oper} {o : Oper} {a : Act} {Q : Exit → Act → World → Prop} (hgd : o.guard = none) (s x : Operand) (t : TypeId)
    (ho : o.op = .call { callee := .builtin .append, args := #[s, x], argTypes := #[t, t] })
    (base : Nat) (i : TypeInfo) (z : Value) (ht : P.underlying t = some (.slice 26)) (hi : P.info? 26 = some i) (hz : i.zero = some z)
    (hsize : i.size = 4) (hby : i.bytes = 32) (hzs : z.cells.size = 4)
    (v : Value) (xs : List Pf) (hs : a.eval s = v) (hown : w.ownsRow base 26 4 v xs.length (flat xs))
    (vx : Value) (B2 : Nat) (ys : List Pf) (hx : a.eval x = vx) (hown2 : w.ownsRow B2 26 4 vx ys.length (flat ys))
    (h63 : xs.length + ys.length ≤ 100000000) (hbase : base ≤ w.heap.size)
    (h : ∀ v' w', w'.ownsRow base 26 4 v' (xs ++ ys).length (flat (xs ++ ys)) → w.grownBy w' v.ownBlock → wpList P ops Q rest (a.put o.dst v') w') : wpList P ops Q (o :: rest) a w := by
  obtain ⟨ad, c, rfl, hc, hsl⟩ := own_sl hown2
  obtain ⟨hl, h2⟩ := hown2
  rcases h2 with ⟨e, h0⟩ | ⟨g, cap, cur, e, hg, h3⟩
  · have : ys = [] := List.length_eq_zero_iff.1 h0
    subst this
    rw [e] at hx
    refine wpList_append_own_none hgd s x t ho base 26 i 4 ht hi v xs.length (flat xs) hs hown hx ?_
    exact h v w (by simpa using hown) (World.grownBy.refl _ _)
  · injection e with e1 e2 e3
    subst e1 e3
    refine wpList_append_own w hgd s x t ho base 26 i z 4 32 ht hi hz hsize hby hzs (by decide) v xs.length (flat xs) hs hown ⟨g, 0, none⟩ ys.length c (flat ys) hx hl (sl_news hsl) (flat_one _) (by unfold maxLen; omega) (by omega) hbase (fun v' w' a b _ => h v' w' ?_ b)
    rw [List.length_append, flat_append]; exact a
/-- Minus at a list of one. -/
theorem minus_one (a : Addr) (c : Nat) (q u : Pf) (w : World) (rq : q.R) (ru : u.R) (hs : Sl w (some a) [q]) :
    Calls Try.prog 28 #[.slice (some a) 1 c, .agg #[.bool u.v, .int .u64 u.hi, .int .u64 u.lo, .int .i64 u.b]] w (NormPost2 w 1548 (fun v x => Adr ([q].map Pf.nd) v x ∧ ¬ u.nd.In v x)) :=
  sMinus_ok (some a) c [q] u w (fun p hp => by rw [List.mem_singleton] at hp; subst hp; exact pR_ok rq) (pR_ok ru) hs (one_min rq ru)

set_option maxHeartbeats 16000000 in
set_option maxRecDepth 100000 in
theorem room_any (p : Pf) (a : Option Addr) (c : Nat) (us : List Pf) (w : World) (rp : p.R) (hu : ∀ u ∈ us, u.R) (hl : us.length ≤ 12) (hs : Sl w a us) :
    Calls Try.prog 14 #[.agg #[.bool p.v, .int .u64 p.hi, .int .u64 p.lo, .int .i64 p.b], .slice a us.length c] w (RoomPost w p us) := by
  obtain ⟨N, hN⟩ : ∃ N, N = us.length := ⟨_, rfl⟩
  rw [← hN] at hl ⊢
  have HN := Lib.hid hN
  have Hp := Lib.hid rp
  have Hu := Lib.hid hu
  have Hs := Lib.hid hs
  obtain ⟨i0, hi0, hz0, hz1, hz2⟩ := info_parts infoP
  clear hN rp hu hs
  go_enter Try.func14, Try.ntmps14
  go_wp2_with fail
  go_loopw [5, 17] (fun vf vi wr => ∃ (k : Nat) (F : List Pf), vi = .int .i64 k ∧ k ≤ N ∧ Hid (wr.ownsRow w.heap.size 26 4 vf F.length (flat F)) ∧ Hid (IsRoom p (us.take k) F) ∧ Hid (Below w.heap.size w wr))
    (fun _ vi _ => N - (intOf vi).toNat)
  case atStart => exact ⟨0, [p], rfl, Nat.zero_le _, (by have := row_one (w.alloc (.cells #[.bool p.v, .int .u64 p.hi, .int .u64 p.lo, .int .i64 p.b] 26)) p; rw [World.size_alloc] at this; exact row_base this (Nat.le_succ _)), room_nil Hp.out, bal (bal (Below.refl _ _) _) _⟩
  case round =>
    obtain ⟨k, F, rfl, hk, HO, HR, HB⟩ := hrel
    have hN := HN.out
    by_cases hkN : k < N
    · have hkl : k < us.length := by omega
      obtain ⟨g, o, rfl, hg, c0, c1, c2, c3⟩ := Hs.out k hkl
      rw [← (bcell HB.out).1 _ _ hg] at c0 c1 c2 c3
      have q3 : (k : Int) < (N : Int) := by omega
      have q4 : (0 : Int) ≤ (k : Int) := by omega
      have HT : Hid (us.take (k + 1) = us.take k ++ [us[k]]) := List.take_succ_eq_append_getElem hkl
      have Hru := Lib.hid (Hu.out _ (List.getElem_mem hkl))
      have HLn := Lib.hid (room_len Hp.out (us := us.take k) (fun u hu => Hu.out u (List.mem_of_mem_take hu)) (by rw [List.length_take]; omega) HR.out)
      generalize us[k] = u at *
      obtain ⟨af, cf, rfl, hcf, sf⟩ := own_sl HO.out
      have HF := Lib.hid sf
      obtain ⟨M, hM⟩ : ∃ M, M = F.length := ⟨_, rfl⟩
      rw [← hM] at hcf ⊢
      have HM := Lib.hid hM
      have hM8 : M ≤ 3073 := by rw [hM]; exact HLn.out
      clear hN sf hM
      go_wp2_with fail
      have HUb := Lib.hid (Has4.new wr u.v u.hi u.lo u.b 26)
      have HFo := Lib.hid (HF.out.below (pal wr u.v u.hi u.lo u.b))
      have HOo := Lib.hid (own_keep HO.out (pal wr u.v u.hi u.lo u.b))
      have HBo := Lib.hid (btr HB.out (pal wr u.v u.hi u.lo u.b))
      have hbu : Hid (wr.heap.size < (wr.alloc (.cells #[.bool u.v, .int .u64 u.hi, .int .u64 u.lo, .int .i64 u.b] 26)).heap.size) := Lib.hid (by simp)
      generalize wr.alloc (.cells #[.bool u.v, .int .u64 u.hi, .int .u64 u.lo, .int .i64 u.b] 26) = wo at *
      generalize wr.heap.size = bu at *
      clear HF HO HB c0 c1 c2 c3
      go_loopw [8, 23] (fun vl vj wi => ∃ (j : Nat) (X : List Pf), vj = .int .i64 j ∧ j ≤ M ∧ Hid (wi.ownsRow wo.heap.size 26 4 vl X.length (flat X)) ∧ Hid (IsNorm X (fun v x => Adr ((F.take j).map Pf.nd) v x ∧ ¬ u.nd.In v x)) ∧ Hid (X.length ≤ 1548 * j) ∧ Hid (Below wo.heap.size wo wi))
        (fun _ vj _ => M - (intOf vj).toNat)
      case atStart => exact ⟨0, [], rfl, Nat.zero_le _, row_nil _ _ _ _, ⟨by simp, nrm_nil, fun v x => by simp [Adr]⟩, Nat.le_refl _, Below.refl _ _⟩
      case round =>
        obtain ⟨j, X, rfl, hj, HX, HXn, HXl, HBi⟩ := hrel
        have hMM := HM.out
        by_cases hjM : j < M
        · have hjl : j < F.length := by omega
          obtain ⟨g', o', rfl, hg', d0, d1, d2, d3⟩ := HFo.out j hjl
          rw [← (bcell HBi.out).1 _ _ hg'] at d0 d1 d2 d3
          have r3 : (j : Int) < (M : Int) := by omega
          have r4 : (0 : Int) ≤ (j : Int) := by omega
          have HFT : Hid (F.take (j + 1) = F.take j ++ [F[j]]) := List.take_succ_eq_append_getElem hjl
          have Hrq := Lib.hid (HR.out.right _ (List.getElem_mem hjl))
          have HNm : Hid (Nrm ((F.take j ++ [F[j]]).map Pf.nd)) := Lib.hid (by
            rw [← List.take_succ_eq_append_getElem hjl, List.map_take]
            exact ⟨fun p hp => HR.out.nrm.1 p (List.mem_of_mem_take hp), HR.out.nrm.2.sublist (List.take_sublist _ _)⟩)
          generalize F[j] = q at *
          have HUi := Lib.hid (HUb.out.below HBi.out)
          obtain ⟨b0, b1, b2, b3, b4⟩ := HUi.out
          clear hMM
          go_wp2_with fail
          refine (minus_one _ _ q u _ Hrq.out Hru.out (sl_one2 _ q _)).mono ?_
          rintro e w5 ⟨v5, Y, rfl, o5, n5, l5, bb5⟩
          have HBi5 : Hid (Below wo.heap.size wo w5) := HBi.out.trans (below_le (btr (bal (pal wr q.v q.hi q.lo q.b) _) bb5) HBi.out.size)
          have HX5 := Lib.hid (own_keep HX.out (btr (bal (pal wr q.v q.hi q.lo q.b) (.cells #[.bool q.v, .int .u64 q.hi, .int .u64 q.lo, .int .i64 q.b] 26)) bb5))
          have HY5 := Lib.hid o5
          have HYn := Lib.hid n5
          have HYl := Lib.hid l5
          clear o5 n5 l5 bb5 b0 b1 b2 b3 b4 d0 d1 d2 d3
          have HLL : Hid (X.length + Y.length ≤ 100000000) := Lib.hid (by have := HXl.out; have := HYl.out; have := HLn.out; have := HM.out; omega)
          go_wp2_with (at_builtin; refine wpList_append_many rfl _ _ 27 rfl wo.heap.size i0 _ Try.underlying27 hi0 hz0 hz1 hz2 rfl _ _ rfl HX5.out v5 _ Y rfl HY5.out HLL.out HBi5.out.size ?_)
          intro v6 w6 hown6 hgrow6
          have HBi6 : Hid (Below wo.heap.size wo w6) := HBi5.out.grown hgrow6 HBi5.out.size (fun k hk => (HX5.out.lt k hk).1)
          have HX6 : Hid (w6.ownsRow wo.heap.size 26 4 v6 (X ++ Y).length (flat (X ++ Y))) := by rw [List.length_append]; exact hown6
          have HXl6 : Hid ((X ++ Y).length ≤ 1548 * (j + 1)) := Lib.hid (by rw [List.length_append]; have := HXl.out; have := HYl.out; omega)
          have HXn6 : Hid (IsNorm (X ++ Y) (fun v x => Adr ((F.take (j + 1)).map Pf.nd) v x ∧ ¬ u.nd.In v x)) := Lib.hid (by rw [HFT.out]; exact join_norm HNm.out HXn.out HYn.out)
          clear hown6 hgrow6
          go_wp2_with fail
          go_roundw
          case rel => exact ⟨j + 1, X ++ Y, by go_num, by omega, HX6, HXn6, HXl6, HBi6⟩
          case measure => simp [intOf]; omega
        · obtain rfl : j = M := by omega
          have r3 : decide ((j : Int) < (j : Int)) = false := by simp
          have HB7 : Hid (Below w.heap.size w wr) := HBo.out.trans (below_le HBi.out HBo.out.size)
          have HX7 := Lib.hid (row_base HX.out HBo.out.size)
          have HR7 : Hid (IsRoom p (us.take (k + 1)) X) := Lib.hid (by
            rw [HT.out]
            refine room_step HR.out ?_
            have := HXn.out
            rw [List.take_of_length_le (by have := HM.out; omega)] at this
            exact this)
          clear hMM
          go_wp2_with fail
          go_roundw
          case rel => exact ⟨k + 1, X, by go_num, by omega, HX7, HR7, HB7⟩
          case measure => simp [intOf]; omega
    · obtain rfl : k = N := by omega
      have q3 : decide ((k : Int) < (k : Int)) = false := by simp
      have HR7 : Hid (IsRoom p us F) := Lib.hid (by
        have := HR.out
        rw [List.take_of_length_le (by omega)] at this
        exact this)
      clear hN
      go_wp2_with fail
      go_ret
      exact ⟨_, F, rfl, HO.out, HR7.out, HB.out⟩
end Go.Proofs.Ytjhkbjigpiickaa
