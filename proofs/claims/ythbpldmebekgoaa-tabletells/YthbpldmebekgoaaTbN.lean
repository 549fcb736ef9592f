/- yardarmlaw.TableTells, case by case. -/
import Derived.Test.YthbpldmebekgoaaTbM
set_option linter.unusedVariables false
set_option linter.unusedSimpArgs false
namespace Go.Proofs.Ythbpldmebekgoaa
open Go.RowKit

set_option maxHeartbeats 16000000 in
set_option maxRecDepth 100000 in
theorem tt_A1N2 (a : Option Addr) (c N : Nat) (ps : List Pf) (v : Bool) (xh xl : Int) (n : Int) (w : World) (hN : N = ps.length) (hN12 : N ≤ 12) (hs : Sl w a ps)
    (fi fe ai ae t : Int)
    (HF : Hid (∀ w' : World, Below w.heap.size w w' → Calls Try.prog 4 #[.slice a N c, .agg #[.bool v, .int .u64 xh, .int .u64 xl]] w' fun e w'' => e = .returned (.tuple #[.int .i64 fi, .int .i64 fe]) ∧ Below w'.heap.size w' w''))
    (HA : Hid (∀ w' : World, Below w.heap.size w w' → Calls Try.prog 5 #[.slice a N c, .int .i64 n] w' fun e w'' => e = .returned (.tuple #[.int .i64 ai, .int .i64 ae]) ∧ Below w'.heap.size w' w''))
    (HT : Hid (∀ w' : World, Below w.heap.size w w' → Calls Try.prog 7 #[.slice a N c] w' fun e w'' => e = .returned (.int .i64 t) ∧ Below w'.heap.size w' w''))
    (HK : Hid (∀ w' : World, Below w.heap.size w w' → Calls Try.prog 12 #[.slice a N c] w' fun e w'' => e = .returned (.int .i64 t) ∧ Below w'.heap.size w' w''))
    (HG : Hid (∀ w' : World, Calls Try.prog 11 #[] w' fun e w'' => e = .returned (.bool true) ∧ Below w'.heap.size w' w''))
    (m : Nat) (hn : n = m) (hm : m < N) (HL : Hid (∀ w' : World, Below w.heap.size w w' → Calls Try.prog 6 #[.slice a N c, .int .i64 n] w' fun e w'' => ∃ bv, e = .returned (.tuple #[bv, .int .i64 0]) ∧ w''.ownsRow w'.heap.size 3 1 bv (lowL ps m N).length (intsT (lowL ps m N)) ∧ Below w'.heap.size w' w''))
    (HM : Hid (∀ (m : Nat) (hm : m < ps.length) (w' : World), Below w.heap.size w w' → Calls Try.prog 9 #[.slice a N c, .agg #[.bool (ps[m]).v, .int .u64 (ps[m]).hi, .int .u64 (ps[m]).lo, .int .i64 (ps[m]).b], .int .i64 m] w' fun e w'' => e = .returned (.int .i64 (nrM (par ps m))) ∧ Below w'.heap.size w' w'')) (k2 : ae = 5) (k3 : ai = 0) (k4 : par ps m = none)
    (cc : Int) (HC : Hid (∀ w' : World, Calls Try.prog 8 #[.agg #[.bool v, .int .u64 xh, .int .u64 xl]] w' fun e w'' => e = .returned (.int .i64 cc) ∧ Below w'.heap.size w' w'')) (g1 : cc = 3) (g2 : fe = 3) (g3 : fi = 0) (ht : t = 0) :
    Calls Try.prog 3 #[.slice a N c, .agg #[.bool v, .int .u64 xh, .int .u64 xl], .int .i64 n] w fun e w' => e = .returned (.bool true) ∧ Below w.heap.size w w' := by
  have HP := Lib.hid (Has3.new w (.bool v) (.int .u64 xh) (.int .u64 xl) 25)
  have HB := Lib.hid (bal (Below.refl w.heap.size w) (.cells #[.bool v, .int .u64 xh, .int .u64 xl] 25))
  have Hs := Lib.hid hs
  have HN := Lib.hid hN
  clear hs hN
  subst ht
  subst g1 g2 g3
  subst k2 k3 hn
  have hml : m < ps.length := by have := HN.out; omega
  obtain ⟨g, o, rfl, hg, _, _, _, _⟩ := Hs.out m hml
  have k5 : decide ((m : Int) < 0) = false := decide_eq_false (by omega)
  have k6 : decide ((N : Int) ≤ (m : Int)) = false := decide_eq_false (by omega)
  obtain ⟨a0, a1, a2, a3⟩ := HP.out
  go_enter Try.func3, Try.ntmps3
  go_wp2_with fail
  refine (HF.out _ HB.out).mono ?_
  rintro e w2 ⟨rfl, hb⟩
  clear a0 a1 a2 a3
  replace HP := Lib.hid (HP.out.below hb)
  replace HB := Lib.hid (btr HB.out hb)
  clear hb
  obtain ⟨a0, a1, a2, a3⟩ := HP.out
  go_wp2_with fail
  refine (HA.out _ HB.out).mono ?_
  rintro e w2 ⟨rfl, hb⟩
  clear a0 a1 a2 a3
  replace HP := Lib.hid (HP.out.below hb)
  replace HB := Lib.hid (btr HB.out hb)
  clear hb
  obtain ⟨a0, a1, a2, a3⟩ := HP.out
  go_wp2_with fail
  refine (HL.out _ HB.out).mono ?_
  rintro e w2 ⟨bv, rfl, hrow, hb⟩
  clear a0 a1 a2 a3
  replace HP := Lib.hid (HP.out.below hb)
  replace HB := Lib.hid (btr HB.out hb)
  have HR := Lib.hid (RowI.of hrow)
  clear hrow
  clear hb
  obtain ⟨a0, a1, a2, a3⟩ := HP.out
  go_wp2_with fail
  refine (HT.out _ HB.out).mono ?_
  rintro e w2 ⟨rfl, hb⟩
  clear a0 a1 a2 a3
  replace HP := Lib.hid (HP.out.below hb)
  replace HB := Lib.hid (btr HB.out hb)
  replace HR := Lib.hid (HR.out.below hb)
  clear hb
  obtain ⟨a0, a1, a2, a3⟩ := HP.out
  go_wp2_with fail
  refine (HC.out _).mono ?_
  rintro e w2 ⟨rfl, hb⟩
  clear a0 a1 a2 a3
  replace HP := Lib.hid (HP.out.below hb)
  replace HB := Lib.hid (btr HB.out hb)
  replace HR := Lib.hid (HR.out.below hb)
  clear hb
  obtain ⟨a0, a1, a2, a3⟩ := HP.out
  have hX := Hs.out.below HB.out
  obtain ⟨_, c0, c1, c2, c3⟩ := hX.at m hml
  have hMm := Lib.hid (HM.out m hml)
  generalize ps[m] = x at c0 c1 c2 c3 hMm
  obtain ⟨yv, yh, yl, yb⟩ := x
  simp only at c0 c1 c2 c3 hMm
  rw [k4] at hMm
  clear hX
  rw [show nrM none = -1 from rfl] at hMm
  go_wp2_with fail
  refine (hMm.out _ HB.out).mono ?_
  rintro e w2 ⟨rfl, hb⟩
  clear a0 a1 a2 a3
  replace HP := Lib.hid (HP.out.below hb)
  replace HB := Lib.hid (btr HB.out hb)
  replace HR := Lib.hid (HR.out.below hb)
  clear hb
  obtain ⟨a0, a1, a2, a3⟩ := HP.out
  clear c0 c1 c2 c3 hMm
  clear a0 a1 a2 a3
  obtain ⟨pb, cb, rfl, hRO⟩ := HR.out.open
  have HRO := Lib.hid hRO
  clear hRO HR
  obtain ⟨W0, hW0⟩ : ∃ W0, W0 = w2 := ⟨_, rfl⟩
  rw [← hW0] at HRO
  go_wp2_with fail
  go_loopw [19, 20] (fun vs vi wr => ∃ k : Nat, vi = .int .i64 k ∧ k ≤ N ∧ Hid (wr.ownsRow W0.heap.size 3 1 vs (lowL ps m k).length (intsT (lowL ps m k))) ∧ Hid (RowO W0.heap.size wr pb (lowL ps m N)) ∧ Hid (Below w.heap.size w wr) ∧ Hid (W0.heap.size ≤ wr.heap.size) ∧ Hid (Has3 wr w.heap.size (.bool v) (.int .u64 xh) (.int .u64 xl)))
    (fun _ vi _ => N - (intOf vi).toNat)
  case atStart => exact ⟨0, rfl, Nat.zero_le _, row_nil _ _ _ _, by subst hW0; exact HRO, HB, by subst hW0; exact Nat.le_refl _, HP⟩
  case round =>
    have hwW : Hid (w.heap.size < W0.heap.size) := by subst hW0; exact HP.out.2.2.2
    clear HP HB HRO hW0
    obtain ⟨k, rfl, hk, HO, HRO, HB, HZ, HP⟩ := hrel
    by_cases hkN : k < N
    · have hkl : k < ps.length := by have := HN.out; omega
      have hX := Hs.out.below HB.out
      obtain ⟨_, c0, c1, c2, c3⟩ := hX.at k hkl
      have hMk := Lib.hid (HM.out k hkl)
      generalize ps[k] = x at c0 c1 c2 c3 hMk
      obtain ⟨yv, yh, yl, yb⟩ := x
      simp only at c0 c1 c2 c3 hMk
      clear hX
      have hk1 : (0 : Int) ≤ (k : Int) := by omega
      have hk2 : (k : Int) < (N : Int) := by omega
      by_cases hq : par ps k = some m
      · have HS := Lib.hid (lowL_hit hq)
        have HLn := Lib.hid (lowL_len ps m k)
        rw [hq, show nrM (some m) = (m : Int) from rfl] at hMk
        have hmm : ((m : Int) == (m : Int)) = true := by simp
        clear hq
        go_wp2_with fail
        refine (hMk.out _ HB.out).mono ?_
        rintro e w4 ⟨rfl, hb⟩
        replace HO := Lib.hid (row_keep HO.out hb)
        replace HRO := Lib.hid (HRO.out.upto (hb.mono HZ.out))
        replace HP := Lib.hid (HP.out.below hb)
        replace HB := Lib.hid (btr HB.out hb)
        replace HZ := Lib.hid (Nat.le_trans HZ.out hb.size)
        clear hb c0 c1 c2 c3 hMk
        obtain ⟨i0, hi0, hz0, hz1, hz2⟩ := info_parts infoI
        go_wp2_with (at_builtin; refine wpList_append_own _ rfl _ _ 30 rfl W0.heap.size 3 i0 (.int .i64 0) 1 8 Try.underlying30 hi0 hz0 hz1 hz2 rfl (by decide) _ _ _ rfl (HO.out.alloc _) ⟨w4.heap.size, 0, none⟩ 1 1 [.int .i64 (k : Int)] rfl rfl ?c1 ?c2 ?c3 ?c4 ?c5 ?_)
        case c1 =>
          intro j u hj
          match j, hj with
          | 0, hj => simp at hj; subst hj; simp [Addr.add]
        case c2 => intro u hu; simp at hu; subst hu; rfl
        case c3 => have := HLn.out; unfold maxLen; omega
        case c4 => have := HLn.out; omega
        case c5 => have := HZ.out; simp; omega
        intro v' w5 hown' hgrow _
        have hZ := HZ.out
        have hwW' := hwW.out
        have HB5 : Hid (Below w.heap.size w w5) := (bal HB.out _).grown hgrow (by simp; omega) (fun k hk => Nat.le_trans (by omega) (HO.out.lt k hk).1)
        have hB5 : Below W0.heap.size w4 w5 := ((Below.refl W0.heap.size w4).alloc (by omega) _).grown hgrow (by simp; omega) (fun k hk => (HO.out.lt k hk).1)
        replace HRO := Lib.hid (HRO.out.upto hB5)
        have HP5 : Hid (Has3 w5 w.heap.size (.bool v) (.int .u64 xh) (.int .u64 xl)) := has3_upto HP.out hwW.out hB5
        have HZ5 : Hid (W0.heap.size ≤ w5.heap.size) := Nat.le_trans (by simp; omega) hgrow.size
        have HO5 : Hid (w5.ownsRow W0.heap.size 3 1 v' (lowL ps m (k + 1)).length (intsT (lowL ps m (k + 1)))) := by
          rw [HS.out, List.length_append, intsT, List.map_append]; exact hown'
        clear hown' hgrow HO HB hZ hwW' hB5
        go_wp2
        go_roundw
        case rel => exact ⟨k + 1, by go_num, by omega, HO5, HRO, HB5, HZ5, HP5⟩
        case measure => simp [intOf]; omega
      · have HS := Lib.hid (lowL_miss hq)
        have hmm : (nrM (par ps k) == (m : Int)) = false := by
          rw [beq_eq_false_iff_ne]
          intro h
          apply hq
          cases hp : par ps k with
          | none => rw [hp, show nrM none = -1 from rfl] at h; omega
          | some j => rw [hp, show nrM (some j) = (j : Int) from rfl] at h; have : j = m := by omega
                      rw [this]
        generalize nrM (par ps k) = q at *
        clear hq
        go_wp2_with fail
        refine (hMk.out _ HB.out).mono ?_
        rintro e w4 ⟨rfl, hb⟩
        replace HO := Lib.hid (row_keep HO.out hb)
        replace HRO := Lib.hid (HRO.out.upto (hb.mono HZ.out))
        replace HP := Lib.hid (HP.out.below hb)
        replace HB := Lib.hid (btr HB.out hb)
        replace HZ := Lib.hid (Nat.le_trans HZ.out hb.size)
        clear hb c0 c1 c2 c3 hMk
        go_wp2_with fail
        go_roundw
        case rel => exact ⟨k + 1, by go_num, by omega, by rw [HS.out]; exact HO, HRO, HB, HZ, HP⟩
        case measure => simp [intOf]; omega
    · have : k = N := by omega
      subst this
      obtain ⟨pv, cv, rfl, hRV⟩ := (RowI.of HO.out).open
      replace HRO := Lib.hid (HRO.out.wide HZ.out)
      have HRV := Lib.hid hRV
      clear hRV HO
      have hLk := lowL_len ps m k
      generalize lowL ps m k = L at *
      have hLk' := Lib.hid hLk
      clear hLk
      have hll : (((L.length : Nat) : Int) != (L.length : Int)) = false := by simp
      clear Hs HM HT HF HA HL
      obtain ⟨B, hB⟩ : ∃ B, B = wr.heap.size := ⟨_, rfl⟩
      rw [← hB] at HRO HRV
      clear hB HZ
      go_wp2_with fail
      go_loopw [21] (fun vi wr' => ∃ j : Nat, vi = .int .i64 j ∧ j ≤ L.length ∧ Hid (RowO B wr' pb L) ∧ Hid (RowO B wr' pv L) ∧ Hid (Below w.heap.size w wr') ∧ Hid (Has3 wr' w.heap.size (.bool v) (.int .u64 xh) (.int .u64 xl)))
        (fun vi _ => L.length - (intOf vi).toNat)
      case atStart => exact ⟨0, rfl, Nat.zero_le _, HRO, HRV, HB, HP⟩
      case round =>
        clear HP HB HRO HRV
        obtain ⟨j, rfl, hj, HRO, HRV, HB, HP⟩ := hrel
        by_cases hjL : j < L.length
        · obtain ⟨g1, rfl, _, d1⟩ := HRO.out j hjL
          obtain ⟨g2, rfl, _, d2⟩ := HRV.out j hjL
          have hj1 : (0 : Int) ≤ (j : Int) := by omega
          have hj2 : (j : Int) < (L.length : Int) := by omega
          have hj3 : j + 1 ≤ L.length := by omega
          have hj12 : j ≤ 12 := by have := hLk'.out; omega
          have hj4 : L.length - (j + 1) < L.length - j := by omega
          generalize (L[j] : Nat) = y at d1 d2
          have hyy : ((y : Int) != (y : Int)) = false := by simp
          go_wp2_with fail
          go_region
          go_wp2_with fail
          go_roundw
          case rel => exact ⟨j + 1, by go_num, hj3, HRO, HRV, Lib.hid HB.out.drew, HP⟩
          case measure => simp [intOf]; omega
        · clear HRO HRV
          obtain ⟨a0, a1, a2, a3⟩ := HP.out
          go_wp2_with fail
          refine (HG.out _).mono ?_
          rintro e w2 ⟨rfl, hb⟩
          clear a0 a1 a2 a3
          replace HP := Lib.hid (HP.out.below hb)
          replace HB := Lib.hid (btr HB.out hb)
          clear hb
          obtain ⟨a0, a1, a2, a3⟩ := HP.out
          go_wp2_with fail
          refine (HK.out _ HB.out).mono ?_
          rintro e w2 ⟨rfl, hb⟩
          clear a0 a1 a2 a3
          replace HP := Lib.hid (HP.out.below hb)
          replace HB := Lib.hid (btr HB.out hb)
          clear hb
          obtain ⟨a0, a1, a2, a3⟩ := HP.out
          go_wp2
          go_ret
          exact ⟨rfl, HB.out⟩
set_option maxHeartbeats 16000000 in
set_option maxRecDepth 100000 in
theorem tt_A1N3 (a : Option Addr) (c N : Nat) (ps : List Pf) (v : Bool) (xh xl : Int) (n : Int) (w : World) (hN : N = ps.length) (hN12 : N ≤ 12) (hs : Sl w a ps)
    (fi fe ai ae t : Int)
    (HF : Hid (∀ w' : World, Below w.heap.size w w' → Calls Try.prog 4 #[.slice a N c, .agg #[.bool v, .int .u64 xh, .int .u64 xl]] w' fun e w'' => e = .returned (.tuple #[.int .i64 fi, .int .i64 fe]) ∧ Below w'.heap.size w' w''))
    (HA : Hid (∀ w' : World, Below w.heap.size w w' → Calls Try.prog 5 #[.slice a N c, .int .i64 n] w' fun e w'' => e = .returned (.tuple #[.int .i64 ai, .int .i64 ae]) ∧ Below w'.heap.size w' w''))
    (HT : Hid (∀ w' : World, Below w.heap.size w w' → Calls Try.prog 7 #[.slice a N c] w' fun e w'' => e = .returned (.int .i64 t) ∧ Below w'.heap.size w' w''))
    (HK : Hid (∀ w' : World, Below w.heap.size w w' → Calls Try.prog 12 #[.slice a N c] w' fun e w'' => e = .returned (.int .i64 t) ∧ Below w'.heap.size w' w''))
    (HG : Hid (∀ w' : World, Calls Try.prog 11 #[] w' fun e w'' => e = .returned (.bool true) ∧ Below w'.heap.size w' w''))
    (m : Nat) (hn : n = m) (hm : m < N) (HL : Hid (∀ w' : World, Below w.heap.size w w' → Calls Try.prog 6 #[.slice a N c, .int .i64 n] w' fun e w'' => ∃ bv, e = .returned (.tuple #[bv, .int .i64 0]) ∧ w''.ownsRow w'.heap.size 3 1 bv (lowL ps m N).length (intsT (lowL ps m N)) ∧ Below w'.heap.size w' w''))
    (HM : Hid (∀ (m : Nat) (hm : m < ps.length) (w' : World), Below w.heap.size w w' → Calls Try.prog 9 #[.slice a N c, .agg #[.bool (ps[m]).v, .int .u64 (ps[m]).hi, .int .u64 (ps[m]).lo, .int .i64 (ps[m]).b], .int .i64 m] w' fun e w'' => e = .returned (.int .i64 (nrM (par ps m))) ∧ Below w'.heap.size w' w'')) (i : Nat) (k2 : ae = 0) (k3 : ai = i) (k4 : par ps m = some i)
    (cc : Int) (HC : Hid (∀ w' : World, Calls Try.prog 8 #[.agg #[.bool v, .int .u64 xh, .int .u64 xl]] w' fun e w'' => e = .returned (.int .i64 cc) ∧ Below w'.heap.size w' w'')) (g1 : cc = 3) (g2 : fe = 3) (g3 : fi = 0) (ht : t = 0) :
    Calls Try.prog 3 #[.slice a N c, .agg #[.bool v, .int .u64 xh, .int .u64 xl], .int .i64 n] w fun e w' => e = .returned (.bool true) ∧ Below w.heap.size w w' := by
  have HP := Lib.hid (Has3.new w (.bool v) (.int .u64 xh) (.int .u64 xl) 25)
  have HB := Lib.hid (bal (Below.refl w.heap.size w) (.cells #[.bool v, .int .u64 xh, .int .u64 xl] 25))
  have Hs := Lib.hid hs
  have HN := Lib.hid hN
  clear hs hN
  subst ht
  subst g1 g2 g3
  subst k2 k3 hn
  have hml : m < ps.length := by have := HN.out; omega
  obtain ⟨g, o, rfl, hg, _, _, _, _⟩ := Hs.out m hml
  have k5 : decide ((m : Int) < 0) = false := decide_eq_false (by omega)
  have k6 : decide ((N : Int) ≤ (m : Int)) = false := decide_eq_false (by omega)
  have hi0 : decide ((i : Int) < 0) = false := decide_eq_false (by omega)
  obtain ⟨a0, a1, a2, a3⟩ := HP.out
  go_enter Try.func3, Try.ntmps3
  go_wp2_with fail
  refine (HF.out _ HB.out).mono ?_
  rintro e w2 ⟨rfl, hb⟩
  clear a0 a1 a2 a3
  replace HP := Lib.hid (HP.out.below hb)
  replace HB := Lib.hid (btr HB.out hb)
  clear hb
  obtain ⟨a0, a1, a2, a3⟩ := HP.out
  go_wp2_with fail
  refine (HA.out _ HB.out).mono ?_
  rintro e w2 ⟨rfl, hb⟩
  clear a0 a1 a2 a3
  replace HP := Lib.hid (HP.out.below hb)
  replace HB := Lib.hid (btr HB.out hb)
  clear hb
  obtain ⟨a0, a1, a2, a3⟩ := HP.out
  go_wp2_with fail
  refine (HL.out _ HB.out).mono ?_
  rintro e w2 ⟨bv, rfl, hrow, hb⟩
  clear a0 a1 a2 a3
  replace HP := Lib.hid (HP.out.below hb)
  replace HB := Lib.hid (btr HB.out hb)
  have HR := Lib.hid (RowI.of hrow)
  clear hrow
  clear hb
  obtain ⟨a0, a1, a2, a3⟩ := HP.out
  go_wp2_with fail
  refine (HT.out _ HB.out).mono ?_
  rintro e w2 ⟨rfl, hb⟩
  clear a0 a1 a2 a3
  replace HP := Lib.hid (HP.out.below hb)
  replace HB := Lib.hid (btr HB.out hb)
  replace HR := Lib.hid (HR.out.below hb)
  clear hb
  obtain ⟨a0, a1, a2, a3⟩ := HP.out
  go_wp2_with fail
  refine (HC.out _).mono ?_
  rintro e w2 ⟨rfl, hb⟩
  clear a0 a1 a2 a3
  replace HP := Lib.hid (HP.out.below hb)
  replace HB := Lib.hid (btr HB.out hb)
  replace HR := Lib.hid (HR.out.below hb)
  clear hb
  obtain ⟨a0, a1, a2, a3⟩ := HP.out
  have hX := Hs.out.below HB.out
  obtain ⟨_, c0, c1, c2, c3⟩ := hX.at m hml
  have hMm := Lib.hid (HM.out m hml)
  generalize ps[m] = x at c0 c1 c2 c3 hMm
  obtain ⟨yv, yh, yl, yb⟩ := x
  simp only at c0 c1 c2 c3 hMm
  rw [k4] at hMm
  clear hX
  rw [show nrM (some i) = (i : Int) from rfl] at hMm
  go_wp2_with fail
  refine (hMm.out _ HB.out).mono ?_
  rintro e w2 ⟨rfl, hb⟩
  clear a0 a1 a2 a3
  replace HP := Lib.hid (HP.out.below hb)
  replace HB := Lib.hid (btr HB.out hb)
  replace HR := Lib.hid (HR.out.below hb)
  clear hb
  obtain ⟨a0, a1, a2, a3⟩ := HP.out
  clear c0 c1 c2 c3 hMm
  clear a0 a1 a2 a3
  obtain ⟨pb, cb, rfl, hRO⟩ := HR.out.open
  have HRO := Lib.hid hRO
  clear hRO HR
  obtain ⟨W0, hW0⟩ : ∃ W0, W0 = w2 := ⟨_, rfl⟩
  rw [← hW0] at HRO
  go_wp2_with fail
  go_loopw [19, 20] (fun vs vi wr => ∃ k : Nat, vi = .int .i64 k ∧ k ≤ N ∧ Hid (wr.ownsRow W0.heap.size 3 1 vs (lowL ps m k).length (intsT (lowL ps m k))) ∧ Hid (RowO W0.heap.size wr pb (lowL ps m N)) ∧ Hid (Below w.heap.size w wr) ∧ Hid (W0.heap.size ≤ wr.heap.size) ∧ Hid (Has3 wr w.heap.size (.bool v) (.int .u64 xh) (.int .u64 xl)))
    (fun _ vi _ => N - (intOf vi).toNat)
  case atStart => exact ⟨0, rfl, Nat.zero_le _, row_nil _ _ _ _, by subst hW0; exact HRO, HB, by subst hW0; exact Nat.le_refl _, HP⟩
  case round =>
    have hwW : Hid (w.heap.size < W0.heap.size) := by subst hW0; exact HP.out.2.2.2
    clear HP HB HRO hW0
    obtain ⟨k, rfl, hk, HO, HRO, HB, HZ, HP⟩ := hrel
    by_cases hkN : k < N
    · have hkl : k < ps.length := by have := HN.out; omega
      have hX := Hs.out.below HB.out
      obtain ⟨_, c0, c1, c2, c3⟩ := hX.at k hkl
      have hMk := Lib.hid (HM.out k hkl)
      generalize ps[k] = x at c0 c1 c2 c3 hMk
      obtain ⟨yv, yh, yl, yb⟩ := x
      simp only at c0 c1 c2 c3 hMk
      clear hX
      have hk1 : (0 : Int) ≤ (k : Int) := by omega
      have hk2 : (k : Int) < (N : Int) := by omega
      by_cases hq : par ps k = some m
      · have HS := Lib.hid (lowL_hit hq)
        have HLn := Lib.hid (lowL_len ps m k)
        rw [hq, show nrM (some m) = (m : Int) from rfl] at hMk
        have hmm : ((m : Int) == (m : Int)) = true := by simp
        clear hq
        go_wp2_with fail
        refine (hMk.out _ HB.out).mono ?_
        rintro e w4 ⟨rfl, hb⟩
        replace HO := Lib.hid (row_keep HO.out hb)
        replace HRO := Lib.hid (HRO.out.upto (hb.mono HZ.out))
        replace HP := Lib.hid (HP.out.below hb)
        replace HB := Lib.hid (btr HB.out hb)
        replace HZ := Lib.hid (Nat.le_trans HZ.out hb.size)
        clear hb c0 c1 c2 c3 hMk
        obtain ⟨i0, hi0, hz0, hz1, hz2⟩ := info_parts infoI
        go_wp2_with (at_builtin; refine wpList_append_own _ rfl _ _ 30 rfl W0.heap.size 3 i0 (.int .i64 0) 1 8 Try.underlying30 hi0 hz0 hz1 hz2 rfl (by decide) _ _ _ rfl (HO.out.alloc _) ⟨w4.heap.size, 0, none⟩ 1 1 [.int .i64 (k : Int)] rfl rfl ?c1 ?c2 ?c3 ?c4 ?c5 ?_)
        case c1 =>
          intro j u hj
          match j, hj with
          | 0, hj => simp at hj; subst hj; simp [Addr.add]
        case c2 => intro u hu; simp at hu; subst hu; rfl
        case c3 => have := HLn.out; unfold maxLen; omega
        case c4 => have := HLn.out; omega
        case c5 => have := HZ.out; simp; omega
        intro v' w5 hown' hgrow _
        have hZ := HZ.out
        have hwW' := hwW.out
        have HB5 : Hid (Below w.heap.size w w5) := (bal HB.out _).grown hgrow (by simp; omega) (fun k hk => Nat.le_trans (by omega) (HO.out.lt k hk).1)
        have hB5 : Below W0.heap.size w4 w5 := ((Below.refl W0.heap.size w4).alloc (by omega) _).grown hgrow (by simp; omega) (fun k hk => (HO.out.lt k hk).1)
        replace HRO := Lib.hid (HRO.out.upto hB5)
        have HP5 : Hid (Has3 w5 w.heap.size (.bool v) (.int .u64 xh) (.int .u64 xl)) := has3_upto HP.out hwW.out hB5
        have HZ5 : Hid (W0.heap.size ≤ w5.heap.size) := Nat.le_trans (by simp; omega) hgrow.size
        have HO5 : Hid (w5.ownsRow W0.heap.size 3 1 v' (lowL ps m (k + 1)).length (intsT (lowL ps m (k + 1)))) := by
          rw [HS.out, List.length_append, intsT, List.map_append]; exact hown'
        clear hown' hgrow HO HB hZ hwW' hB5
        go_wp2
        go_roundw
        case rel => exact ⟨k + 1, by go_num, by omega, HO5, HRO, HB5, HZ5, HP5⟩
        case measure => simp [intOf]; omega
      · have HS := Lib.hid (lowL_miss hq)
        have hmm : (nrM (par ps k) == (m : Int)) = false := by
          rw [beq_eq_false_iff_ne]
          intro h
          apply hq
          cases hp : par ps k with
          | none => rw [hp, show nrM none = -1 from rfl] at h; omega
          | some j => rw [hp, show nrM (some j) = (j : Int) from rfl] at h; have : j = m := by omega
                      rw [this]
        generalize nrM (par ps k) = q at *
        clear hq
        go_wp2_with fail
        refine (hMk.out _ HB.out).mono ?_
        rintro e w4 ⟨rfl, hb⟩
        replace HO := Lib.hid (row_keep HO.out hb)
        replace HRO := Lib.hid (HRO.out.upto (hb.mono HZ.out))
        replace HP := Lib.hid (HP.out.below hb)
        replace HB := Lib.hid (btr HB.out hb)
        replace HZ := Lib.hid (Nat.le_trans HZ.out hb.size)
        clear hb c0 c1 c2 c3 hMk
        go_wp2_with fail
        go_roundw
        case rel => exact ⟨k + 1, by go_num, by omega, by rw [HS.out]; exact HO, HRO, HB, HZ, HP⟩
        case measure => simp [intOf]; omega
    · have : k = N := by omega
      subst this
      obtain ⟨pv, cv, rfl, hRV⟩ := (RowI.of HO.out).open
      replace HRO := Lib.hid (HRO.out.wide HZ.out)
      have HRV := Lib.hid hRV
      clear hRV HO
      have hLk := lowL_len ps m k
      generalize lowL ps m k = L at *
      have hLk' := Lib.hid hLk
      clear hLk
      have hll : (((L.length : Nat) : Int) != (L.length : Int)) = false := by simp
      clear Hs HM HT HF HA HL
      obtain ⟨B, hB⟩ : ∃ B, B = wr.heap.size := ⟨_, rfl⟩
      rw [← hB] at HRO HRV
      clear hB HZ
      go_wp2_with fail
      go_loopw [21] (fun vi wr' => ∃ j : Nat, vi = .int .i64 j ∧ j ≤ L.length ∧ Hid (RowO B wr' pb L) ∧ Hid (RowO B wr' pv L) ∧ Hid (Below w.heap.size w wr') ∧ Hid (Has3 wr' w.heap.size (.bool v) (.int .u64 xh) (.int .u64 xl)))
        (fun vi _ => L.length - (intOf vi).toNat)
      case atStart => exact ⟨0, rfl, Nat.zero_le _, HRO, HRV, HB, HP⟩
      case round =>
        clear HP HB HRO HRV
        obtain ⟨j, rfl, hj, HRO, HRV, HB, HP⟩ := hrel
        by_cases hjL : j < L.length
        · obtain ⟨g1, rfl, _, d1⟩ := HRO.out j hjL
          obtain ⟨g2, rfl, _, d2⟩ := HRV.out j hjL
          have hj1 : (0 : Int) ≤ (j : Int) := by omega
          have hj2 : (j : Int) < (L.length : Int) := by omega
          have hj3 : j + 1 ≤ L.length := by omega
          have hj12 : j ≤ 12 := by have := hLk'.out; omega
          have hj4 : L.length - (j + 1) < L.length - j := by omega
          generalize (L[j] : Nat) = y at d1 d2
          have hyy : ((y : Int) != (y : Int)) = false := by simp
          go_wp2_with fail
          go_region
          go_wp2_with fail
          go_roundw
          case rel => exact ⟨j + 1, by go_num, hj3, HRO, HRV, Lib.hid HB.out.drew, HP⟩
          case measure => simp [intOf]; omega
        · clear HRO HRV
          obtain ⟨a0, a1, a2, a3⟩ := HP.out
          go_wp2_with fail
          refine (HG.out _).mono ?_
          rintro e w2 ⟨rfl, hb⟩
          clear a0 a1 a2 a3
          replace HP := Lib.hid (HP.out.below hb)
          replace HB := Lib.hid (btr HB.out hb)
          clear hb
          obtain ⟨a0, a1, a2, a3⟩ := HP.out
          go_wp2_with fail
          refine (HK.out _ HB.out).mono ?_
          rintro e w2 ⟨rfl, hb⟩
          clear a0 a1 a2 a3
          replace HP := Lib.hid (HP.out.below hb)
          replace HB := Lib.hid (btr HB.out hb)
          clear hb
          obtain ⟨a0, a1, a2, a3⟩ := HP.out
          go_wp2
          go_ret
          exact ⟨rfl, HB.out⟩
set_option maxHeartbeats 16000000 in
set_option maxRecDepth 100000 in
theorem tt_A2N2 (a : Option Addr) (c N : Nat) (ps : List Pf) (v : Bool) (xh xl : Int) (n : Int) (w : World) (hN : N = ps.length) (hN12 : N ≤ 12) (hs : Sl w a ps)
    (fi fe ai ae t : Int)
    (HF : Hid (∀ w' : World, Below w.heap.size w w' → Calls Try.prog 4 #[.slice a N c, .agg #[.bool v, .int .u64 xh, .int .u64 xl]] w' fun e w'' => e = .returned (.tuple #[.int .i64 fi, .int .i64 fe]) ∧ Below w'.heap.size w' w''))
    (HA : Hid (∀ w' : World, Below w.heap.size w w' → Calls Try.prog 5 #[.slice a N c, .int .i64 n] w' fun e w'' => e = .returned (.tuple #[.int .i64 ai, .int .i64 ae]) ∧ Below w'.heap.size w' w''))
    (HT : Hid (∀ w' : World, Below w.heap.size w w' → Calls Try.prog 7 #[.slice a N c] w' fun e w'' => e = .returned (.int .i64 t) ∧ Below w'.heap.size w' w''))
    (HK : Hid (∀ w' : World, Below w.heap.size w w' → Calls Try.prog 12 #[.slice a N c] w' fun e w'' => e = .returned (.int .i64 t) ∧ Below w'.heap.size w' w''))
    (HG : Hid (∀ w' : World, Calls Try.prog 11 #[] w' fun e w'' => e = .returned (.bool true) ∧ Below w'.heap.size w' w''))
    (m : Nat) (hn : n = m) (hm : m < N) (HL : Hid (∀ w' : World, Below w.heap.size w w' → Calls Try.prog 6 #[.slice a N c, .int .i64 n] w' fun e w'' => ∃ bv, e = .returned (.tuple #[bv, .int .i64 0]) ∧ w''.ownsRow w'.heap.size 3 1 bv (lowL ps m N).length (intsT (lowL ps m N)) ∧ Below w'.heap.size w' w''))
    (HM : Hid (∀ (m : Nat) (hm : m < ps.length) (w' : World), Below w.heap.size w w' → Calls Try.prog 9 #[.slice a N c, .agg #[.bool (ps[m]).v, .int .u64 (ps[m]).hi, .int .u64 (ps[m]).lo, .int .i64 (ps[m]).b], .int .i64 m] w' fun e w'' => e = .returned (.int .i64 (nrM (par ps m))) ∧ Below w'.heap.size w' w'')) (k2 : ae = 5) (k3 : ai = 0) (k4 : par ps m = none)
    (cc : Int) (HC : Hid (∀ w' : World, Calls Try.prog 8 #[.agg #[.bool v, .int .u64 xh, .int .u64 xl]] w' fun e w'' => e = .returned (.int .i64 cc) ∧ Below w'.heap.size w' w''))
    (HH : Hid (∀ w' : World, Calls Try.prog 10 #[.agg #[.bool v, .int .u64 xh, .int .u64 xl]] w' fun e w'' => e = .returned (.agg #[.bool v, .int .u64 xh, .int .u64 xl, .int .i64 (wid v)]) ∧ Below w'.heap.size w' w''))
    (r1 : Int) (HN1 : Hid (∀ w' : World, Below w.heap.size w w' → Calls Try.prog 9 #[.slice a N c, .agg #[.bool v, .int .u64 xh, .int .u64 xl, .int .i64 (wid v)], .int .i64 (-1)] w' fun e w'' => e = .returned (.int .i64 r1) ∧ Below w'.heap.size w' w'')) (g1 : cc = 0) (g2 : fe = 5) (g3 : fi = 0) (g4 : r1 = -1) (ht : t = 0) :
    Calls Try.prog 3 #[.slice a N c, .agg #[.bool v, .int .u64 xh, .int .u64 xl], .int .i64 n] w fun e w' => e = .returned (.bool true) ∧ Below w.heap.size w w' := by
  have HP := Lib.hid (Has3.new w (.bool v) (.int .u64 xh) (.int .u64 xl) 25)
  have HB := Lib.hid (bal (Below.refl w.heap.size w) (.cells #[.bool v, .int .u64 xh, .int .u64 xl] 25))
  have Hs := Lib.hid hs
  have HN := Lib.hid hN
  clear hs hN
  subst ht
  subst g1 g2 g3 g4
  subst k2 k3 hn
  have hml : m < ps.length := by have := HN.out; omega
  obtain ⟨g, o, rfl, hg, _, _, _, _⟩ := Hs.out m hml
  have k5 : decide ((m : Int) < 0) = false := decide_eq_false (by omega)
  have k6 : decide ((N : Int) ≤ (m : Int)) = false := decide_eq_false (by omega)
  obtain ⟨a0, a1, a2, a3⟩ := HP.out
  go_enter Try.func3, Try.ntmps3
  go_wp2_with fail
  refine (HF.out _ HB.out).mono ?_
  rintro e w2 ⟨rfl, hb⟩
  clear a0 a1 a2 a3
  replace HP := Lib.hid (HP.out.below hb)
  replace HB := Lib.hid (btr HB.out hb)
  clear hb
  obtain ⟨a0, a1, a2, a3⟩ := HP.out
  go_wp2_with fail
  refine (HA.out _ HB.out).mono ?_
  rintro e w2 ⟨rfl, hb⟩
  clear a0 a1 a2 a3
  replace HP := Lib.hid (HP.out.below hb)
  replace HB := Lib.hid (btr HB.out hb)
  clear hb
  obtain ⟨a0, a1, a2, a3⟩ := HP.out
  go_wp2_with fail
  refine (HL.out _ HB.out).mono ?_
  rintro e w2 ⟨bv, rfl, hrow, hb⟩
  clear a0 a1 a2 a3
  replace HP := Lib.hid (HP.out.below hb)
  replace HB := Lib.hid (btr HB.out hb)
  have HR := Lib.hid (RowI.of hrow)
  clear hrow
  clear hb
  obtain ⟨a0, a1, a2, a3⟩ := HP.out
  go_wp2_with fail
  refine (HT.out _ HB.out).mono ?_
  rintro e w2 ⟨rfl, hb⟩
  clear a0 a1 a2 a3
  replace HP := Lib.hid (HP.out.below hb)
  replace HB := Lib.hid (btr HB.out hb)
  replace HR := Lib.hid (HR.out.below hb)
  clear hb
  obtain ⟨a0, a1, a2, a3⟩ := HP.out
  go_wp2_with fail
  refine (HC.out _).mono ?_
  rintro e w2 ⟨rfl, hb⟩
  clear a0 a1 a2 a3
  replace HP := Lib.hid (HP.out.below hb)
  replace HB := Lib.hid (btr HB.out hb)
  replace HR := Lib.hid (HR.out.below hb)
  clear hb
  obtain ⟨a0, a1, a2, a3⟩ := HP.out
  go_wp2_with fail
  refine (HH.out _).mono ?_
  rintro e w2 ⟨rfl, hb⟩
  clear a0 a1 a2 a3
  replace HP := Lib.hid (HP.out.below hb)
  replace HB := Lib.hid (btr HB.out hb)
  replace HR := Lib.hid (HR.out.below hb)
  clear hb
  obtain ⟨a0, a1, a2, a3⟩ := HP.out
  go_wp2_with fail
  refine (HN1.out _ HB.out).mono ?_
  rintro e w2 ⟨rfl, hb⟩
  clear a0 a1 a2 a3
  replace HP := Lib.hid (HP.out.below hb)
  replace HB := Lib.hid (btr HB.out hb)
  replace HR := Lib.hid (HR.out.below hb)
  clear hb
  obtain ⟨a0, a1, a2, a3⟩ := HP.out
  have hX := Hs.out.below HB.out
  obtain ⟨_, c0, c1, c2, c3⟩ := hX.at m hml
  have hMm := Lib.hid (HM.out m hml)
  generalize ps[m] = x at c0 c1 c2 c3 hMm
  obtain ⟨yv, yh, yl, yb⟩ := x
  simp only at c0 c1 c2 c3 hMm
  rw [k4] at hMm
  clear hX
  rw [show nrM none = -1 from rfl] at hMm
  go_wp2_with fail
  refine (hMm.out _ HB.out).mono ?_
  rintro e w2 ⟨rfl, hb⟩
  clear a0 a1 a2 a3
  replace HP := Lib.hid (HP.out.below hb)
  replace HB := Lib.hid (btr HB.out hb)
  replace HR := Lib.hid (HR.out.below hb)
  clear hb
  obtain ⟨a0, a1, a2, a3⟩ := HP.out
  clear c0 c1 c2 c3 hMm
  clear a0 a1 a2 a3
  obtain ⟨pb, cb, rfl, hRO⟩ := HR.out.open
  have HRO := Lib.hid hRO
  clear hRO HR
  obtain ⟨W0, hW0⟩ : ∃ W0, W0 = w2 := ⟨_, rfl⟩
  rw [← hW0] at HRO
  go_wp2_with fail
  go_loopw [19, 20] (fun vs vi wr => ∃ k : Nat, vi = .int .i64 k ∧ k ≤ N ∧ Hid (wr.ownsRow W0.heap.size 3 1 vs (lowL ps m k).length (intsT (lowL ps m k))) ∧ Hid (RowO W0.heap.size wr pb (lowL ps m N)) ∧ Hid (Below w.heap.size w wr) ∧ Hid (W0.heap.size ≤ wr.heap.size) ∧ Hid (Has3 wr w.heap.size (.bool v) (.int .u64 xh) (.int .u64 xl)))
    (fun _ vi _ => N - (intOf vi).toNat)
  case atStart => exact ⟨0, rfl, Nat.zero_le _, row_nil _ _ _ _, by subst hW0; exact HRO, HB, by subst hW0; exact Nat.le_refl _, HP⟩
  case round =>
    have hwW : Hid (w.heap.size < W0.heap.size) := by subst hW0; exact HP.out.2.2.2
    clear HP HB HRO hW0
    obtain ⟨k, rfl, hk, HO, HRO, HB, HZ, HP⟩ := hrel
    by_cases hkN : k < N
    · have hkl : k < ps.length := by have := HN.out; omega
      have hX := Hs.out.below HB.out
      obtain ⟨_, c0, c1, c2, c3⟩ := hX.at k hkl
      have hMk := Lib.hid (HM.out k hkl)
      generalize ps[k] = x at c0 c1 c2 c3 hMk
      obtain ⟨yv, yh, yl, yb⟩ := x
      simp only at c0 c1 c2 c3 hMk
      clear hX
      have hk1 : (0 : Int) ≤ (k : Int) := by omega
      have hk2 : (k : Int) < (N : Int) := by omega
      by_cases hq : par ps k = some m
      · have HS := Lib.hid (lowL_hit hq)
        have HLn := Lib.hid (lowL_len ps m k)
        rw [hq, show nrM (some m) = (m : Int) from rfl] at hMk
        have hmm : ((m : Int) == (m : Int)) = true := by simp
        clear hq
        go_wp2_with fail
        refine (hMk.out _ HB.out).mono ?_
        rintro e w4 ⟨rfl, hb⟩
        replace HO := Lib.hid (row_keep HO.out hb)
        replace HRO := Lib.hid (HRO.out.upto (hb.mono HZ.out))
        replace HP := Lib.hid (HP.out.below hb)
        replace HB := Lib.hid (btr HB.out hb)
        replace HZ := Lib.hid (Nat.le_trans HZ.out hb.size)
        clear hb c0 c1 c2 c3 hMk
        obtain ⟨i0, hi0, hz0, hz1, hz2⟩ := info_parts infoI
        go_wp2_with (at_builtin; refine wpList_append_own _ rfl _ _ 30 rfl W0.heap.size 3 i0 (.int .i64 0) 1 8 Try.underlying30 hi0 hz0 hz1 hz2 rfl (by decide) _ _ _ rfl (HO.out.alloc _) ⟨w4.heap.size, 0, none⟩ 1 1 [.int .i64 (k : Int)] rfl rfl ?c1 ?c2 ?c3 ?c4 ?c5 ?_)
        case c1 =>
          intro j u hj
          match j, hj with
          | 0, hj => simp at hj; subst hj; simp [Addr.add]
        case c2 => intro u hu; simp at hu; subst hu; rfl
        case c3 => have := HLn.out; unfold maxLen; omega
        case c4 => have := HLn.out; omega
        case c5 => have := HZ.out; simp; omega
        intro v' w5 hown' hgrow _
        have hZ := HZ.out
        have hwW' := hwW.out
        have HB5 : Hid (Below w.heap.size w w5) := (bal HB.out _).grown hgrow (by simp; omega) (fun k hk => Nat.le_trans (by omega) (HO.out.lt k hk).1)
        have hB5 : Below W0.heap.size w4 w5 := ((Below.refl W0.heap.size w4).alloc (by omega) _).grown hgrow (by simp; omega) (fun k hk => (HO.out.lt k hk).1)
        replace HRO := Lib.hid (HRO.out.upto hB5)
        have HP5 : Hid (Has3 w5 w.heap.size (.bool v) (.int .u64 xh) (.int .u64 xl)) := has3_upto HP.out hwW.out hB5
        have HZ5 : Hid (W0.heap.size ≤ w5.heap.size) := Nat.le_trans (by simp; omega) hgrow.size
        have HO5 : Hid (w5.ownsRow W0.heap.size 3 1 v' (lowL ps m (k + 1)).length (intsT (lowL ps m (k + 1)))) := by
          rw [HS.out, List.length_append, intsT, List.map_append]; exact hown'
        clear hown' hgrow HO HB hZ hwW' hB5
        go_wp2
        go_roundw
        case rel => exact ⟨k + 1, by go_num, by omega, HO5, HRO, HB5, HZ5, HP5⟩
        case measure => simp [intOf]; omega
      · have HS := Lib.hid (lowL_miss hq)
        have hmm : (nrM (par ps k) == (m : Int)) = false := by
          rw [beq_eq_false_iff_ne]
          intro h
          apply hq
          cases hp : par ps k with
          | none => rw [hp, show nrM none = -1 from rfl] at h; omega
          | some j => rw [hp, show nrM (some j) = (j : Int) from rfl] at h; have : j = m := by omega
                      rw [this]
        generalize nrM (par ps k) = q at *
        clear hq
        go_wp2_with fail
        refine (hMk.out _ HB.out).mono ?_
        rintro e w4 ⟨rfl, hb⟩
        replace HO := Lib.hid (row_keep HO.out hb)
        replace HRO := Lib.hid (HRO.out.upto (hb.mono HZ.out))
        replace HP := Lib.hid (HP.out.below hb)
        replace HB := Lib.hid (btr HB.out hb)
        replace HZ := Lib.hid (Nat.le_trans HZ.out hb.size)
        clear hb c0 c1 c2 c3 hMk
        go_wp2_with fail
        go_roundw
        case rel => exact ⟨k + 1, by go_num, by omega, by rw [HS.out]; exact HO, HRO, HB, HZ, HP⟩
        case measure => simp [intOf]; omega
    · have : k = N := by omega
      subst this
      obtain ⟨pv, cv, rfl, hRV⟩ := (RowI.of HO.out).open
      replace HRO := Lib.hid (HRO.out.wide HZ.out)
      have HRV := Lib.hid hRV
      clear hRV HO
      have hLk := lowL_len ps m k
      generalize lowL ps m k = L at *
      have hLk' := Lib.hid hLk
      clear hLk
      have hll : (((L.length : Nat) : Int) != (L.length : Int)) = false := by simp
      clear Hs HM HT HF HA HL
      obtain ⟨B, hB⟩ : ∃ B, B = wr.heap.size := ⟨_, rfl⟩
      rw [← hB] at HRO HRV
      clear hB HZ
      go_wp2_with fail
      go_loopw [21] (fun vi wr' => ∃ j : Nat, vi = .int .i64 j ∧ j ≤ L.length ∧ Hid (RowO B wr' pb L) ∧ Hid (RowO B wr' pv L) ∧ Hid (Below w.heap.size w wr') ∧ Hid (Has3 wr' w.heap.size (.bool v) (.int .u64 xh) (.int .u64 xl)))
        (fun vi _ => L.length - (intOf vi).toNat)
      case atStart => exact ⟨0, rfl, Nat.zero_le _, HRO, HRV, HB, HP⟩
      case round =>
        clear HP HB HRO HRV
        obtain ⟨j, rfl, hj, HRO, HRV, HB, HP⟩ := hrel
        by_cases hjL : j < L.length
        · obtain ⟨g1, rfl, _, d1⟩ := HRO.out j hjL
          obtain ⟨g2, rfl, _, d2⟩ := HRV.out j hjL
          have hj1 : (0 : Int) ≤ (j : Int) := by omega
          have hj2 : (j : Int) < (L.length : Int) := by omega
          have hj3 : j + 1 ≤ L.length := by omega
          have hj12 : j ≤ 12 := by have := hLk'.out; omega
          have hj4 : L.length - (j + 1) < L.length - j := by omega
          generalize (L[j] : Nat) = y at d1 d2
          have hyy : ((y : Int) != (y : Int)) = false := by simp
          go_wp2_with fail
          go_region
          go_wp2_with fail
          go_roundw
          case rel => exact ⟨j + 1, by go_num, hj3, HRO, HRV, Lib.hid HB.out.drew, HP⟩
          case measure => simp [intOf]; omega
        · clear HRO HRV
          obtain ⟨a0, a1, a2, a3⟩ := HP.out
          go_wp2_with fail
          refine (HG.out _).mono ?_
          rintro e w2 ⟨rfl, hb⟩
          clear a0 a1 a2 a3
          replace HP := Lib.hid (HP.out.below hb)
          replace HB := Lib.hid (btr HB.out hb)
          clear hb
          obtain ⟨a0, a1, a2, a3⟩ := HP.out
          go_wp2_with fail
          refine (HK.out _ HB.out).mono ?_
          rintro e w2 ⟨rfl, hb⟩
          clear a0 a1 a2 a3
          replace HP := Lib.hid (HP.out.below hb)
          replace HB := Lib.hid (btr HB.out hb)
          clear hb
          obtain ⟨a0, a1, a2, a3⟩ := HP.out
          go_wp2
          go_ret
          exact ⟨rfl, HB.out⟩
set_option maxHeartbeats 16000000 in
set_option maxRecDepth 100000 in
theorem tt_A2N3 (a : Option Addr) (c N : Nat) (ps : List Pf) (v : Bool) (xh xl : Int) (n : Int) (w : World) (hN : N = ps.length) (hN12 : N ≤ 12) (hs : Sl w a ps)
    (fi fe ai ae t : Int)
    (HF : Hid (∀ w' : World, Below w.heap.size w w' → Calls Try.prog 4 #[.slice a N c, .agg #[.bool v, .int .u64 xh, .int .u64 xl]] w' fun e w'' => e = .returned (.tuple #[.int .i64 fi, .int .i64 fe]) ∧ Below w'.heap.size w' w''))
    (HA : Hid (∀ w' : World, Below w.heap.size w w' → Calls Try.prog 5 #[.slice a N c, .int .i64 n] w' fun e w'' => e = .returned (.tuple #[.int .i64 ai, .int .i64 ae]) ∧ Below w'.heap.size w' w''))
    (HT : Hid (∀ w' : World, Below w.heap.size w w' → Calls Try.prog 7 #[.slice a N c] w' fun e w'' => e = .returned (.int .i64 t) ∧ Below w'.heap.size w' w''))
    (HK : Hid (∀ w' : World, Below w.heap.size w w' → Calls Try.prog 12 #[.slice a N c] w' fun e w'' => e = .returned (.int .i64 t) ∧ Below w'.heap.size w' w''))
    (HG : Hid (∀ w' : World, Calls Try.prog 11 #[] w' fun e w'' => e = .returned (.bool true) ∧ Below w'.heap.size w' w''))
    (m : Nat) (hn : n = m) (hm : m < N) (HL : Hid (∀ w' : World, Below w.heap.size w w' → Calls Try.prog 6 #[.slice a N c, .int .i64 n] w' fun e w'' => ∃ bv, e = .returned (.tuple #[bv, .int .i64 0]) ∧ w''.ownsRow w'.heap.size 3 1 bv (lowL ps m N).length (intsT (lowL ps m N)) ∧ Below w'.heap.size w' w''))
    (HM : Hid (∀ (m : Nat) (hm : m < ps.length) (w' : World), Below w.heap.size w w' → Calls Try.prog 9 #[.slice a N c, .agg #[.bool (ps[m]).v, .int .u64 (ps[m]).hi, .int .u64 (ps[m]).lo, .int .i64 (ps[m]).b], .int .i64 m] w' fun e w'' => e = .returned (.int .i64 (nrM (par ps m))) ∧ Below w'.heap.size w' w'')) (i : Nat) (k2 : ae = 0) (k3 : ai = i) (k4 : par ps m = some i)
    (cc : Int) (HC : Hid (∀ w' : World, Calls Try.prog 8 #[.agg #[.bool v, .int .u64 xh, .int .u64 xl]] w' fun e w'' => e = .returned (.int .i64 cc) ∧ Below w'.heap.size w' w''))
    (HH : Hid (∀ w' : World, Calls Try.prog 10 #[.agg #[.bool v, .int .u64 xh, .int .u64 xl]] w' fun e w'' => e = .returned (.agg #[.bool v, .int .u64 xh, .int .u64 xl, .int .i64 (wid v)]) ∧ Below w'.heap.size w' w''))
    (r1 : Int) (HN1 : Hid (∀ w' : World, Below w.heap.size w w' → Calls Try.prog 9 #[.slice a N c, .agg #[.bool v, .int .u64 xh, .int .u64 xl, .int .i64 (wid v)], .int .i64 (-1)] w' fun e w'' => e = .returned (.int .i64 r1) ∧ Below w'.heap.size w' w'')) (g1 : cc = 0) (g2 : fe = 5) (g3 : fi = 0) (g4 : r1 = -1) (ht : t = 0) :
    Calls Try.prog 3 #[.slice a N c, .agg #[.bool v, .int .u64 xh, .int .u64 xl], .int .i64 n] w fun e w' => e = .returned (.bool true) ∧ Below w.heap.size w w' := by
  have HP := Lib.hid (Has3.new w (.bool v) (.int .u64 xh) (.int .u64 xl) 25)
  have HB := Lib.hid (bal (Below.refl w.heap.size w) (.cells #[.bool v, .int .u64 xh, .int .u64 xl] 25))
  have Hs := Lib.hid hs
  have HN := Lib.hid hN
  clear hs hN
  subst ht
  subst g1 g2 g3 g4
  subst k2 k3 hn
  have hml : m < ps.length := by have := HN.out; omega
  obtain ⟨g, o, rfl, hg, _, _, _, _⟩ := Hs.out m hml
  have k5 : decide ((m : Int) < 0) = false := decide_eq_false (by omega)
  have k6 : decide ((N : Int) ≤ (m : Int)) = false := decide_eq_false (by omega)
  have hi0 : decide ((i : Int) < 0) = false := decide_eq_false (by omega)
  obtain ⟨a0, a1, a2, a3⟩ := HP.out
  go_enter Try.func3, Try.ntmps3
  go_wp2_with fail
  refine (HF.out _ HB.out).mono ?_
  rintro e w2 ⟨rfl, hb⟩
  clear a0 a1 a2 a3
  replace HP := Lib.hid (HP.out.below hb)
  replace HB := Lib.hid (btr HB.out hb)
  clear hb
  obtain ⟨a0, a1, a2, a3⟩ := HP.out
  go_wp2_with fail
  refine (HA.out _ HB.out).mono ?_
  rintro e w2 ⟨rfl, hb⟩
  clear a0 a1 a2 a3
  replace HP := Lib.hid (HP.out.below hb)
  replace HB := Lib.hid (btr HB.out hb)
  clear hb
  obtain ⟨a0, a1, a2, a3⟩ := HP.out
  go_wp2_with fail
  refine (HL.out _ HB.out).mono ?_
  rintro e w2 ⟨bv, rfl, hrow, hb⟩
  clear a0 a1 a2 a3
  replace HP := Lib.hid (HP.out.below hb)
  replace HB := Lib.hid (btr HB.out hb)
  have HR := Lib.hid (RowI.of hrow)
  clear hrow
  clear hb
  obtain ⟨a0, a1, a2, a3⟩ := HP.out
  go_wp2_with fail
  refine (HT.out _ HB.out).mono ?_
  rintro e w2 ⟨rfl, hb⟩
  clear a0 a1 a2 a3
  replace HP := Lib.hid (HP.out.below hb)
  replace HB := Lib.hid (btr HB.out hb)
  replace HR := Lib.hid (HR.out.below hb)
  clear hb
  obtain ⟨a0, a1, a2, a3⟩ := HP.out
  go_wp2_with fail
  refine (HC.out _).mono ?_
  rintro e w2 ⟨rfl, hb⟩
  clear a0 a1 a2 a3
  replace HP := Lib.hid (HP.out.below hb)
  replace HB := Lib.hid (btr HB.out hb)
  replace HR := Lib.hid (HR.out.below hb)
  clear hb
  obtain ⟨a0, a1, a2, a3⟩ := HP.out
  go_wp2_with fail
  refine (HH.out _).mono ?_
  rintro e w2 ⟨rfl, hb⟩
  clear a0 a1 a2 a3
  replace HP := Lib.hid (HP.out.below hb)
  replace HB := Lib.hid (btr HB.out hb)
  replace HR := Lib.hid (HR.out.below hb)
  clear hb
  obtain ⟨a0, a1, a2, a3⟩ := HP.out
  go_wp2_with fail
  refine (HN1.out _ HB.out).mono ?_
  rintro e w2 ⟨rfl, hb⟩
  clear a0 a1 a2 a3
  replace HP := Lib.hid (HP.out.below hb)
  replace HB := Lib.hid (btr HB.out hb)
  replace HR := Lib.hid (HR.out.below hb)
  clear hb
  obtain ⟨a0, a1, a2, a3⟩ := HP.out
  have hX := Hs.out.below HB.out
  obtain ⟨_, c0, c1, c2, c3⟩ := hX.at m hml
  have hMm := Lib.hid (HM.out m hml)
  generalize ps[m] = x at c0 c1 c2 c3 hMm
  obtain ⟨yv, yh, yl, yb⟩ := x
  simp only at c0 c1 c2 c3 hMm
  rw [k4] at hMm
  clear hX
  rw [show nrM (some i) = (i : Int) from rfl] at hMm
  go_wp2_with fail
  refine (hMm.out _ HB.out).mono ?_
  rintro e w2 ⟨rfl, hb⟩
  clear a0 a1 a2 a3
  replace HP := Lib.hid (HP.out.below hb)
  replace HB := Lib.hid (btr HB.out hb)
  replace HR := Lib.hid (HR.out.below hb)
  clear hb
  obtain ⟨a0, a1, a2, a3⟩ := HP.out
  clear c0 c1 c2 c3 hMm
  clear a0 a1 a2 a3
  obtain ⟨pb, cb, rfl, hRO⟩ := HR.out.open
  have HRO := Lib.hid hRO
  clear hRO HR
  obtain ⟨W0, hW0⟩ : ∃ W0, W0 = w2 := ⟨_, rfl⟩
  rw [← hW0] at HRO
  go_wp2_with fail
  go_loopw [19, 20] (fun vs vi wr => ∃ k : Nat, vi = .int .i64 k ∧ k ≤ N ∧ Hid (wr.ownsRow W0.heap.size 3 1 vs (lowL ps m k).length (intsT (lowL ps m k))) ∧ Hid (RowO W0.heap.size wr pb (lowL ps m N)) ∧ Hid (Below w.heap.size w wr) ∧ Hid (W0.heap.size ≤ wr.heap.size) ∧ Hid (Has3 wr w.heap.size (.bool v) (.int .u64 xh) (.int .u64 xl)))
    (fun _ vi _ => N - (intOf vi).toNat)
  case atStart => exact ⟨0, rfl, Nat.zero_le _, row_nil _ _ _ _, by subst hW0; exact HRO, HB, by subst hW0; exact Nat.le_refl _, HP⟩
  case round =>
    have hwW : Hid (w.heap.size < W0.heap.size) := by subst hW0; exact HP.out.2.2.2
    clear HP HB HRO hW0
    obtain ⟨k, rfl, hk, HO, HRO, HB, HZ, HP⟩ := hrel
    by_cases hkN : k < N
    · have hkl : k < ps.length := by have := HN.out; omega
      have hX := Hs.out.below HB.out
      obtain ⟨_, c0, c1, c2, c3⟩ := hX.at k hkl
      have hMk := Lib.hid (HM.out k hkl)
      generalize ps[k] = x at c0 c1 c2 c3 hMk
      obtain ⟨yv, yh, yl, yb⟩ := x
      simp only at c0 c1 c2 c3 hMk
      clear hX
      have hk1 : (0 : Int) ≤ (k : Int) := by omega
      have hk2 : (k : Int) < (N : Int) := by omega
      by_cases hq : par ps k = some m
      · have HS := Lib.hid (lowL_hit hq)
        have HLn := Lib.hid (lowL_len ps m k)
        rw [hq, show nrM (some m) = (m : Int) from rfl] at hMk
        have hmm : ((m : Int) == (m : Int)) = true := by simp
        clear hq
        go_wp2_with fail
        refine (hMk.out _ HB.out).mono ?_
        rintro e w4 ⟨rfl, hb⟩
        replace HO := Lib.hid (row_keep HO.out hb)
        replace HRO := Lib.hid (HRO.out.upto (hb.mono HZ.out))
        replace HP := Lib.hid (HP.out.below hb)
        replace HB := Lib.hid (btr HB.out hb)
        replace HZ := Lib.hid (Nat.le_trans HZ.out hb.size)
        clear hb c0 c1 c2 c3 hMk
        obtain ⟨i0, hi0, hz0, hz1, hz2⟩ := info_parts infoI
        go_wp2_with (at_builtin; refine wpList_append_own _ rfl _ _ 30 rfl W0.heap.size 3 i0 (.int .i64 0) 1 8 Try.underlying30 hi0 hz0 hz1 hz2 rfl (by decide) _ _ _ rfl (HO.out.alloc _) ⟨w4.heap.size, 0, none⟩ 1 1 [.int .i64 (k : Int)] rfl rfl ?c1 ?c2 ?c3 ?c4 ?c5 ?_)
        case c1 =>
          intro j u hj
          match j, hj with
          | 0, hj => simp at hj; subst hj; simp [Addr.add]
        case c2 => intro u hu; simp at hu; subst hu; rfl
        case c3 => have := HLn.out; unfold maxLen; omega
        case c4 => have := HLn.out; omega
        case c5 => have := HZ.out; simp; omega
        intro v' w5 hown' hgrow _
        have hZ := HZ.out
        have hwW' := hwW.out
        have HB5 : Hid (Below w.heap.size w w5) := (bal HB.out _).grown hgrow (by simp; omega) (fun k hk => Nat.le_trans (by omega) (HO.out.lt k hk).1)
        have hB5 : Below W0.heap.size w4 w5 := ((Below.refl W0.heap.size w4).alloc (by omega) _).grown hgrow (by simp; omega) (fun k hk => (HO.out.lt k hk).1)
        replace HRO := Lib.hid (HRO.out.upto hB5)
        have HP5 : Hid (Has3 w5 w.heap.size (.bool v) (.int .u64 xh) (.int .u64 xl)) := has3_upto HP.out hwW.out hB5
        have HZ5 : Hid (W0.heap.size ≤ w5.heap.size) := Nat.le_trans (by simp; omega) hgrow.size
        have HO5 : Hid (w5.ownsRow W0.heap.size 3 1 v' (lowL ps m (k + 1)).length (intsT (lowL ps m (k + 1)))) := by
          rw [HS.out, List.length_append, intsT, List.map_append]; exact hown'
        clear hown' hgrow HO HB hZ hwW' hB5
        go_wp2
        go_roundw
        case rel => exact ⟨k + 1, by go_num, by omega, HO5, HRO, HB5, HZ5, HP5⟩
        case measure => simp [intOf]; omega
      · have HS := Lib.hid (lowL_miss hq)
        have hmm : (nrM (par ps k) == (m : Int)) = false := by
          rw [beq_eq_false_iff_ne]
          intro h
          apply hq
          cases hp : par ps k with
          | none => rw [hp, show nrM none = -1 from rfl] at h; omega
          | some j => rw [hp, show nrM (some j) = (j : Int) from rfl] at h; have : j = m := by omega
                      rw [this]
        generalize nrM (par ps k) = q at *
        clear hq
        go_wp2_with fail
        refine (hMk.out _ HB.out).mono ?_
        rintro e w4 ⟨rfl, hb⟩
        replace HO := Lib.hid (row_keep HO.out hb)
        replace HRO := Lib.hid (HRO.out.upto (hb.mono HZ.out))
        replace HP := Lib.hid (HP.out.below hb)
        replace HB := Lib.hid (btr HB.out hb)
        replace HZ := Lib.hid (Nat.le_trans HZ.out hb.size)
        clear hb c0 c1 c2 c3 hMk
        go_wp2_with fail
        go_roundw
        case rel => exact ⟨k + 1, by go_num, by omega, by rw [HS.out]; exact HO, HRO, HB, HZ, HP⟩
        case measure => simp [intOf]; omega
    · have : k = N := by omega
      subst this
      obtain ⟨pv, cv, rfl, hRV⟩ := (RowI.of HO.out).open
      replace HRO := Lib.hid (HRO.out.wide HZ.out)
      have HRV := Lib.hid hRV
      clear hRV HO
      have hLk := lowL_len ps m k
      generalize lowL ps m k = L at *
      have hLk' := Lib.hid hLk
      clear hLk
      have hll : (((L.length : Nat) : Int) != (L.length : Int)) = false := by simp
      clear Hs HM HT HF HA HL
      obtain ⟨B, hB⟩ : ∃ B, B = wr.heap.size := ⟨_, rfl⟩
      rw [← hB] at HRO HRV
      clear hB HZ
      go_wp2_with fail
      go_loopw [21] (fun vi wr' => ∃ j : Nat, vi = .int .i64 j ∧ j ≤ L.length ∧ Hid (RowO B wr' pb L) ∧ Hid (RowO B wr' pv L) ∧ Hid (Below w.heap.size w wr') ∧ Hid (Has3 wr' w.heap.size (.bool v) (.int .u64 xh) (.int .u64 xl)))
        (fun vi _ => L.length - (intOf vi).toNat)
      case atStart => exact ⟨0, rfl, Nat.zero_le _, HRO, HRV, HB, HP⟩
      case round =>
        clear HP HB HRO HRV
        obtain ⟨j, rfl, hj, HRO, HRV, HB, HP⟩ := hrel
        by_cases hjL : j < L.length
        · obtain ⟨g1, rfl, _, d1⟩ := HRO.out j hjL
          obtain ⟨g2, rfl, _, d2⟩ := HRV.out j hjL
          have hj1 : (0 : Int) ≤ (j : Int) := by omega
          have hj2 : (j : Int) < (L.length : Int) := by omega
          have hj3 : j + 1 ≤ L.length := by omega
          have hj12 : j ≤ 12 := by have := hLk'.out; omega
          have hj4 : L.length - (j + 1) < L.length - j := by omega
          generalize (L[j] : Nat) = y at d1 d2
          have hyy : ((y : Int) != (y : Int)) = false := by simp
          go_wp2_with fail
          go_region
          go_wp2_with fail
          go_roundw
          case rel => exact ⟨j + 1, by go_num, hj3, HRO, HRV, Lib.hid HB.out.drew, HP⟩
          case measure => simp [intOf]; omega
        · clear HRO HRV
          obtain ⟨a0, a1, a2, a3⟩ := HP.out
          go_wp2_with fail
          refine (HG.out _).mono ?_
          rintro e w2 ⟨rfl, hb⟩
          clear a0 a1 a2 a3
          replace HP := Lib.hid (HP.out.below hb)
          replace HB := Lib.hid (btr HB.out hb)
          clear hb
          obtain ⟨a0, a1, a2, a3⟩ := HP.out
          go_wp2_with fail
          refine (HK.out _ HB.out).mono ?_
          rintro e w2 ⟨rfl, hb⟩
          clear a0 a1 a2 a3
          replace HP := Lib.hid (HP.out.below hb)
          replace HB := Lib.hid (btr HB.out hb)
          clear hb
          obtain ⟨a0, a1, a2, a3⟩ := HP.out
          go_wp2
          go_ret
          exact ⟨rfl, HB.out⟩
set_option maxHeartbeats 16000000 in
set_option maxRecDepth 100000 in
theorem tt_A3N2 (a : Option Addr) (c N : Nat) (ps : List Pf) (v : Bool) (xh xl : Int) (n : Int) (w : World) (hN : N = ps.length) (hN12 : N ≤ 12) (hs : Sl w a ps)
    (fi fe ai ae t : Int)
    (HF : Hid (∀ w' : World, Below w.heap.size w w' → Calls Try.prog 4 #[.slice a N c, .agg #[.bool v, .int .u64 xh, .int .u64 xl]] w' fun e w'' => e = .returned (.tuple #[.int .i64 fi, .int .i64 fe]) ∧ Below w'.heap.size w' w''))
    (HA : Hid (∀ w' : World, Below w.heap.size w w' → Calls Try.prog 5 #[.slice a N c, .int .i64 n] w' fun e w'' => e = .returned (.tuple #[.int .i64 ai, .int .i64 ae]) ∧ Below w'.heap.size w' w''))
    (HT : Hid (∀ w' : World, Below w.heap.size w w' → Calls Try.prog 7 #[.slice a N c] w' fun e w'' => e = .returned (.int .i64 t) ∧ Below w'.heap.size w' w''))
    (HK : Hid (∀ w' : World, Below w.heap.size w w' → Calls Try.prog 12 #[.slice a N c] w' fun e w'' => e = .returned (.int .i64 t) ∧ Below w'.heap.size w' w''))
    (HG : Hid (∀ w' : World, Calls Try.prog 11 #[] w' fun e w'' => e = .returned (.bool true) ∧ Below w'.heap.size w' w''))
    (m : Nat) (hn : n = m) (hm : m < N) (HL : Hid (∀ w' : World, Below w.heap.size w w' → Calls Try.prog 6 #[.slice a N c, .int .i64 n] w' fun e w'' => ∃ bv, e = .returned (.tuple #[bv, .int .i64 0]) ∧ w''.ownsRow w'.heap.size 3 1 bv (lowL ps m N).length (intsT (lowL ps m N)) ∧ Below w'.heap.size w' w''))
    (HM : Hid (∀ (m : Nat) (hm : m < ps.length) (w' : World), Below w.heap.size w w' → Calls Try.prog 9 #[.slice a N c, .agg #[.bool (ps[m]).v, .int .u64 (ps[m]).hi, .int .u64 (ps[m]).lo, .int .i64 (ps[m]).b], .int .i64 m] w' fun e w'' => e = .returned (.int .i64 (nrM (par ps m))) ∧ Below w'.heap.size w' w'')) (k2 : ae = 5) (k3 : ai = 0) (k4 : par ps m = none)
    (cc : Int) (HC : Hid (∀ w' : World, Calls Try.prog 8 #[.agg #[.bool v, .int .u64 xh, .int .u64 xl]] w' fun e w'' => e = .returned (.int .i64 cc) ∧ Below w'.heap.size w' w''))
    (HH : Hid (∀ w' : World, Calls Try.prog 10 #[.agg #[.bool v, .int .u64 xh, .int .u64 xl]] w' fun e w'' => e = .returned (.agg #[.bool v, .int .u64 xh, .int .u64 xl, .int .i64 (wid v)]) ∧ Below w'.heap.size w' w''))
    (r1 : Int) (HN1 : Hid (∀ w' : World, Below w.heap.size w w' → Calls Try.prog 9 #[.slice a N c, .agg #[.bool v, .int .u64 xh, .int .u64 xl, .int .i64 (wid v)], .int .i64 (-1)] w' fun e w'' => e = .returned (.int .i64 r1) ∧ Below w'.heap.size w' w'')) (j : Nat) (g1 : cc = 0) (g2 : fe = 0) (g3 : fi = j) (g4 : r1 = j) (ht : t = 0) :
    Calls Try.prog 3 #[.slice a N c, .agg #[.bool v, .int .u64 xh, .int .u64 xl], .int .i64 n] w fun e w' => e = .returned (.bool true) ∧ Below w.heap.size w w' := by
  have HP := Lib.hid (Has3.new w (.bool v) (.int .u64 xh) (.int .u64 xl) 25)
  have HB := Lib.hid (bal (Below.refl w.heap.size w) (.cells #[.bool v, .int .u64 xh, .int .u64 xl] 25))
  have Hs := Lib.hid hs
  have HN := Lib.hid hN
  clear hs hN
  subst ht
  subst g1 g2 g3 g4
  have hj0 : decide ((j : Int) < 0) = false := decide_eq_false (by omega)
  subst k2 k3 hn
  have hml : m < ps.length := by have := HN.out; omega
  obtain ⟨g, o, rfl, hg, _, _, _, _⟩ := Hs.out m hml
  have k5 : decide ((m : Int) < 0) = false := decide_eq_false (by omega)
  have k6 : decide ((N : Int) ≤ (m : Int)) = false := decide_eq_false (by omega)
  obtain ⟨a0, a1, a2, a3⟩ := HP.out
  go_enter Try.func3, Try.ntmps3
  go_wp2_with fail
  refine (HF.out _ HB.out).mono ?_
  rintro e w2 ⟨rfl, hb⟩
  clear a0 a1 a2 a3
  replace HP := Lib.hid (HP.out.below hb)
  replace HB := Lib.hid (btr HB.out hb)
  clear hb
  obtain ⟨a0, a1, a2, a3⟩ := HP.out
  go_wp2_with fail
  refine (HA.out _ HB.out).mono ?_
  rintro e w2 ⟨rfl, hb⟩
  clear a0 a1 a2 a3
  replace HP := Lib.hid (HP.out.below hb)
  replace HB := Lib.hid (btr HB.out hb)
  clear hb
  obtain ⟨a0, a1, a2, a3⟩ := HP.out
  go_wp2_with fail
  refine (HL.out _ HB.out).mono ?_
  rintro e w2 ⟨bv, rfl, hrow, hb⟩
  clear a0 a1 a2 a3
  replace HP := Lib.hid (HP.out.below hb)
  replace HB := Lib.hid (btr HB.out hb)
  have HR := Lib.hid (RowI.of hrow)
  clear hrow
  clear hb
  obtain ⟨a0, a1, a2, a3⟩ := HP.out
  go_wp2_with fail
  refine (HT.out _ HB.out).mono ?_
  rintro e w2 ⟨rfl, hb⟩
  clear a0 a1 a2 a3
  replace HP := Lib.hid (HP.out.below hb)
  replace HB := Lib.hid (btr HB.out hb)
  replace HR := Lib.hid (HR.out.below hb)
  clear hb
  obtain ⟨a0, a1, a2, a3⟩ := HP.out
  go_wp2_with fail
  refine (HC.out _).mono ?_
  rintro e w2 ⟨rfl, hb⟩
  clear a0 a1 a2 a3
  replace HP := Lib.hid (HP.out.below hb)
  replace HB := Lib.hid (btr HB.out hb)
  replace HR := Lib.hid (HR.out.below hb)
  clear hb
  obtain ⟨a0, a1, a2, a3⟩ := HP.out
  go_wp2_with fail
  refine (HH.out _).mono ?_
  rintro e w2 ⟨rfl, hb⟩
  clear a0 a1 a2 a3
  replace HP := Lib.hid (HP.out.below hb)
  replace HB := Lib.hid (btr HB.out hb)
  replace HR := Lib.hid (HR.out.below hb)
  clear hb
  obtain ⟨a0, a1, a2, a3⟩ := HP.out
  go_wp2_with fail
  refine (HN1.out _ HB.out).mono ?_
  rintro e w2 ⟨rfl, hb⟩
  clear a0 a1 a2 a3
  replace HP := Lib.hid (HP.out.below hb)
  replace HB := Lib.hid (btr HB.out hb)
  replace HR := Lib.hid (HR.out.below hb)
  clear hb
  obtain ⟨a0, a1, a2, a3⟩ := HP.out
  have hX := Hs.out.below HB.out
  obtain ⟨_, c0, c1, c2, c3⟩ := hX.at m hml
  have hMm := Lib.hid (HM.out m hml)
  generalize ps[m] = x at c0 c1 c2 c3 hMm
  obtain ⟨yv, yh, yl, yb⟩ := x
  simp only at c0 c1 c2 c3 hMm
  rw [k4] at hMm
  clear hX
  rw [show nrM none = -1 from rfl] at hMm
  go_wp2_with fail
  refine (hMm.out _ HB.out).mono ?_
  rintro e w2 ⟨rfl, hb⟩
  clear a0 a1 a2 a3
  replace HP := Lib.hid (HP.out.below hb)
  replace HB := Lib.hid (btr HB.out hb)
  replace HR := Lib.hid (HR.out.below hb)
  clear hb
  obtain ⟨a0, a1, a2, a3⟩ := HP.out
  clear c0 c1 c2 c3 hMm
  clear a0 a1 a2 a3
  obtain ⟨pb, cb, rfl, hRO⟩ := HR.out.open
  have HRO := Lib.hid hRO
  clear hRO HR
  obtain ⟨W0, hW0⟩ : ∃ W0, W0 = w2 := ⟨_, rfl⟩
  rw [← hW0] at HRO
  go_wp2_with fail
  go_loopw [19, 20] (fun vs vi wr => ∃ k : Nat, vi = .int .i64 k ∧ k ≤ N ∧ Hid (wr.ownsRow W0.heap.size 3 1 vs (lowL ps m k).length (intsT (lowL ps m k))) ∧ Hid (RowO W0.heap.size wr pb (lowL ps m N)) ∧ Hid (Below w.heap.size w wr) ∧ Hid (W0.heap.size ≤ wr.heap.size) ∧ Hid (Has3 wr w.heap.size (.bool v) (.int .u64 xh) (.int .u64 xl)))
    (fun _ vi _ => N - (intOf vi).toNat)
  case atStart => exact ⟨0, rfl, Nat.zero_le _, row_nil _ _ _ _, by subst hW0; exact HRO, HB, by subst hW0; exact Nat.le_refl _, HP⟩
  case round =>
    have hwW : Hid (w.heap.size < W0.heap.size) := by subst hW0; exact HP.out.2.2.2
    clear HP HB HRO hW0
    obtain ⟨k, rfl, hk, HO, HRO, HB, HZ, HP⟩ := hrel
    by_cases hkN : k < N
    · have hkl : k < ps.length := by have := HN.out; omega
      have hX := Hs.out.below HB.out
      obtain ⟨_, c0, c1, c2, c3⟩ := hX.at k hkl
      have hMk := Lib.hid (HM.out k hkl)
      generalize ps[k] = x at c0 c1 c2 c3 hMk
      obtain ⟨yv, yh, yl, yb⟩ := x
      simp only at c0 c1 c2 c3 hMk
      clear hX
      have hk1 : (0 : Int) ≤ (k : Int) := by omega
      have hk2 : (k : Int) < (N : Int) := by omega
      by_cases hq : par ps k = some m
      · have HS := Lib.hid (lowL_hit hq)
        have HLn := Lib.hid (lowL_len ps m k)
        rw [hq, show nrM (some m) = (m : Int) from rfl] at hMk
        have hmm : ((m : Int) == (m : Int)) = true := by simp
        clear hq
        go_wp2_with fail
        refine (hMk.out _ HB.out).mono ?_
        rintro e w4 ⟨rfl, hb⟩
        replace HO := Lib.hid (row_keep HO.out hb)
        replace HRO := Lib.hid (HRO.out.upto (hb.mono HZ.out))
        replace HP := Lib.hid (HP.out.below hb)
        replace HB := Lib.hid (btr HB.out hb)
        replace HZ := Lib.hid (Nat.le_trans HZ.out hb.size)
        clear hb c0 c1 c2 c3 hMk
        obtain ⟨i0, hi0, hz0, hz1, hz2⟩ := info_parts infoI
        go_wp2_with (at_builtin; refine wpList_append_own _ rfl _ _ 30 rfl W0.heap.size 3 i0 (.int .i64 0) 1 8 Try.underlying30 hi0 hz0 hz1 hz2 rfl (by decide) _ _ _ rfl (HO.out.alloc _) ⟨w4.heap.size, 0, none⟩ 1 1 [.int .i64 (k : Int)] rfl rfl ?c1 ?c2 ?c3 ?c4 ?c5 ?_)
        case c1 =>
          intro j u hj
          match j, hj with
          | 0, hj => simp at hj; subst hj; simp [Addr.add]
        case c2 => intro u hu; simp at hu; subst hu; rfl
        case c3 => have := HLn.out; unfold maxLen; omega
        case c4 => have := HLn.out; omega
        case c5 => have := HZ.out; simp; omega
        intro v' w5 hown' hgrow _
        have hZ := HZ.out
        have hwW' := hwW.out
        have HB5 : Hid (Below w.heap.size w w5) := (bal HB.out _).grown hgrow (by simp; omega) (fun k hk => Nat.le_trans (by omega) (HO.out.lt k hk).1)
        have hB5 : Below W0.heap.size w4 w5 := ((Below.refl W0.heap.size w4).alloc (by omega) _).grown hgrow (by simp; omega) (fun k hk => (HO.out.lt k hk).1)
        replace HRO := Lib.hid (HRO.out.upto hB5)
        have HP5 : Hid (Has3 w5 w.heap.size (.bool v) (.int .u64 xh) (.int .u64 xl)) := has3_upto HP.out hwW.out hB5
        have HZ5 : Hid (W0.heap.size ≤ w5.heap.size) := Nat.le_trans (by simp; omega) hgrow.size
        have HO5 : Hid (w5.ownsRow W0.heap.size 3 1 v' (lowL ps m (k + 1)).length (intsT (lowL ps m (k + 1)))) := by
          rw [HS.out, List.length_append, intsT, List.map_append]; exact hown'
        clear hown' hgrow HO HB hZ hwW' hB5
        go_wp2
        go_roundw
        case rel => exact ⟨k + 1, by go_num, by omega, HO5, HRO, HB5, HZ5, HP5⟩
        case measure => simp [intOf]; omega
      · have HS := Lib.hid (lowL_miss hq)
        have hmm : (nrM (par ps k) == (m : Int)) = false := by
          rw [beq_eq_false_iff_ne]
          intro h
          apply hq
          cases hp : par ps k with
          | none => rw [hp, show nrM none = -1 from rfl] at h; omega
          | some j => rw [hp, show nrM (some j) = (j : Int) from rfl] at h; have : j = m := by omega
                      rw [this]
        generalize nrM (par ps k) = q at *
        clear hq
        go_wp2_with fail
        refine (hMk.out _ HB.out).mono ?_
        rintro e w4 ⟨rfl, hb⟩
        replace HO := Lib.hid (row_keep HO.out hb)
        replace HRO := Lib.hid (HRO.out.upto (hb.mono HZ.out))
        replace HP := Lib.hid (HP.out.below hb)
        replace HB := Lib.hid (btr HB.out hb)
        replace HZ := Lib.hid (Nat.le_trans HZ.out hb.size)
        clear hb c0 c1 c2 c3 hMk
        go_wp2_with fail
        go_roundw
        case rel => exact ⟨k + 1, by go_num, by omega, by rw [HS.out]; exact HO, HRO, HB, HZ, HP⟩
        case measure => simp [intOf]; omega
    · have : k = N := by omega
      subst this
      obtain ⟨pv, cv, rfl, hRV⟩ := (RowI.of HO.out).open
      replace HRO := Lib.hid (HRO.out.wide HZ.out)
      have HRV := Lib.hid hRV
      clear hRV HO
      have hLk := lowL_len ps m k
      generalize lowL ps m k = L at *
      have hLk' := Lib.hid hLk
      clear hLk
      have hll : (((L.length : Nat) : Int) != (L.length : Int)) = false := by simp
      clear Hs HM HT HF HA HL
      obtain ⟨B, hB⟩ : ∃ B, B = wr.heap.size := ⟨_, rfl⟩
      rw [← hB] at HRO HRV
      clear hB HZ
      go_wp2_with fail
      go_loopw [21] (fun vi wr' => ∃ j : Nat, vi = .int .i64 j ∧ j ≤ L.length ∧ Hid (RowO B wr' pb L) ∧ Hid (RowO B wr' pv L) ∧ Hid (Below w.heap.size w wr') ∧ Hid (Has3 wr' w.heap.size (.bool v) (.int .u64 xh) (.int .u64 xl)))
        (fun vi _ => L.length - (intOf vi).toNat)
      case atStart => exact ⟨0, rfl, Nat.zero_le _, HRO, HRV, HB, HP⟩
      case round =>
        clear HP HB HRO HRV
        obtain ⟨j, rfl, hj, HRO, HRV, HB, HP⟩ := hrel
        by_cases hjL : j < L.length
        · obtain ⟨g1, rfl, _, d1⟩ := HRO.out j hjL
          obtain ⟨g2, rfl, _, d2⟩ := HRV.out j hjL
          have hj1 : (0 : Int) ≤ (j : Int) := by omega
          have hj2 : (j : Int) < (L.length : Int) := by omega
          have hj3 : j + 1 ≤ L.length := by omega
          have hj12 : j ≤ 12 := by have := hLk'.out; omega
          have hj4 : L.length - (j + 1) < L.length - j := by omega
          generalize (L[j] : Nat) = y at d1 d2
          have hyy : ((y : Int) != (y : Int)) = false := by simp
          go_wp2_with fail
          go_region
          go_wp2_with fail
          go_roundw
          case rel => exact ⟨j + 1, by go_num, hj3, HRO, HRV, Lib.hid HB.out.drew, HP⟩
          case measure => simp [intOf]; omega
        · clear HRO HRV
          obtain ⟨a0, a1, a2, a3⟩ := HP.out
          go_wp2_with fail
          refine (HG.out _).mono ?_
          rintro e w2 ⟨rfl, hb⟩
          clear a0 a1 a2 a3
          replace HP := Lib.hid (HP.out.below hb)
          replace HB := Lib.hid (btr HB.out hb)
          clear hb
          obtain ⟨a0, a1, a2, a3⟩ := HP.out
          go_wp2_with fail
          refine (HK.out _ HB.out).mono ?_
          rintro e w2 ⟨rfl, hb⟩
          clear a0 a1 a2 a3
          replace HP := Lib.hid (HP.out.below hb)
          replace HB := Lib.hid (btr HB.out hb)
          clear hb
          obtain ⟨a0, a1, a2, a3⟩ := HP.out
          go_wp2
          go_ret
          exact ⟨rfl, HB.out⟩
set_option maxHeartbeats 16000000 in
set_option maxRecDepth 100000 in
theorem tt_A3N3 (a : Option Addr) (c N : Nat) (ps : List Pf) (v : Bool) (xh xl : Int) (n : Int) (w : World) (hN : N = ps.length) (hN12 : N ≤ 12) (hs : Sl w a ps)
    (fi fe ai ae t : Int)
    (HF : Hid (∀ w' : World, Below w.heap.size w w' → Calls Try.prog 4 #[.slice a N c, .agg #[.bool v, .int .u64 xh, .int .u64 xl]] w' fun e w'' => e = .returned (.tuple #[.int .i64 fi, .int .i64 fe]) ∧ Below w'.heap.size w' w''))
    (HA : Hid (∀ w' : World, Below w.heap.size w w' → Calls Try.prog 5 #[.slice a N c, .int .i64 n] w' fun e w'' => e = .returned (.tuple #[.int .i64 ai, .int .i64 ae]) ∧ Below w'.heap.size w' w''))
    (HT : Hid (∀ w' : World, Below w.heap.size w w' → Calls Try.prog 7 #[.slice a N c] w' fun e w'' => e = .returned (.int .i64 t) ∧ Below w'.heap.size w' w''))
    (HK : Hid (∀ w' : World, Below w.heap.size w w' → Calls Try.prog 12 #[.slice a N c] w' fun e w'' => e = .returned (.int .i64 t) ∧ Below w'.heap.size w' w''))
    (HG : Hid (∀ w' : World, Calls Try.prog 11 #[] w' fun e w'' => e = .returned (.bool true) ∧ Below w'.heap.size w' w''))
    (m : Nat) (hn : n = m) (hm : m < N) (HL : Hid (∀ w' : World, Below w.heap.size w w' → Calls Try.prog 6 #[.slice a N c, .int .i64 n] w' fun e w'' => ∃ bv, e = .returned (.tuple #[bv, .int .i64 0]) ∧ w''.ownsRow w'.heap.size 3 1 bv (lowL ps m N).length (intsT (lowL ps m N)) ∧ Below w'.heap.size w' w''))
    (HM : Hid (∀ (m : Nat) (hm : m < ps.length) (w' : World), Below w.heap.size w w' → Calls Try.prog 9 #[.slice a N c, .agg #[.bool (ps[m]).v, .int .u64 (ps[m]).hi, .int .u64 (ps[m]).lo, .int .i64 (ps[m]).b], .int .i64 m] w' fun e w'' => e = .returned (.int .i64 (nrM (par ps m))) ∧ Below w'.heap.size w' w'')) (i : Nat) (k2 : ae = 0) (k3 : ai = i) (k4 : par ps m = some i)
    (cc : Int) (HC : Hid (∀ w' : World, Calls Try.prog 8 #[.agg #[.bool v, .int .u64 xh, .int .u64 xl]] w' fun e w'' => e = .returned (.int .i64 cc) ∧ Below w'.heap.size w' w''))
    (HH : Hid (∀ w' : World, Calls Try.prog 10 #[.agg #[.bool v, .int .u64 xh, .int .u64 xl]] w' fun e w'' => e = .returned (.agg #[.bool v, .int .u64 xh, .int .u64 xl, .int .i64 (wid v)]) ∧ Below w'.heap.size w' w''))
    (r1 : Int) (HN1 : Hid (∀ w' : World, Below w.heap.size w w' → Calls Try.prog 9 #[.slice a N c, .agg #[.bool v, .int .u64 xh, .int .u64 xl, .int .i64 (wid v)], .int .i64 (-1)] w' fun e w'' => e = .returned (.int .i64 r1) ∧ Below w'.heap.size w' w'')) (j : Nat) (g1 : cc = 0) (g2 : fe = 0) (g3 : fi = j) (g4 : r1 = j) (ht : t = 0) :
    Calls Try.prog 3 #[.slice a N c, .agg #[.bool v, .int .u64 xh, .int .u64 xl], .int .i64 n] w fun e w' => e = .returned (.bool true) ∧ Below w.heap.size w w' := by
  have HP := Lib.hid (Has3.new w (.bool v) (.int .u64 xh) (.int .u64 xl) 25)
  have HB := Lib.hid (bal (Below.refl w.heap.size w) (.cells #[.bool v, .int .u64 xh, .int .u64 xl] 25))
  have Hs := Lib.hid hs
  have HN := Lib.hid hN
  clear hs hN
  subst ht
  subst g1 g2 g3 g4
  have hj0 : decide ((j : Int) < 0) = false := decide_eq_false (by omega)
  subst k2 k3 hn
  have hml : m < ps.length := by have := HN.out; omega
  obtain ⟨g, o, rfl, hg, _, _, _, _⟩ := Hs.out m hml
  have k5 : decide ((m : Int) < 0) = false := decide_eq_false (by omega)
  have k6 : decide ((N : Int) ≤ (m : Int)) = false := decide_eq_false (by omega)
  have hi0 : decide ((i : Int) < 0) = false := decide_eq_false (by omega)
  obtain ⟨a0, a1, a2, a3⟩ := HP.out
  go_enter Try.func3, Try.ntmps3
  go_wp2_with fail
  refine (HF.out _ HB.out).mono ?_
  rintro e w2 ⟨rfl, hb⟩
  clear a0 a1 a2 a3
  replace HP := Lib.hid (HP.out.below hb)
  replace HB := Lib.hid (btr HB.out hb)
  clear hb
  obtain ⟨a0, a1, a2, a3⟩ := HP.out
  go_wp2_with fail
  refine (HA.out _ HB.out).mono ?_
  rintro e w2 ⟨rfl, hb⟩
  clear a0 a1 a2 a3
  replace HP := Lib.hid (HP.out.below hb)
  replace HB := Lib.hid (btr HB.out hb)
  clear hb
  obtain ⟨a0, a1, a2, a3⟩ := HP.out
  go_wp2_with fail
  refine (HL.out _ HB.out).mono ?_
  rintro e w2 ⟨bv, rfl, hrow, hb⟩
  clear a0 a1 a2 a3
  replace HP := Lib.hid (HP.out.below hb)
  replace HB := Lib.hid (btr HB.out hb)
  have HR := Lib.hid (RowI.of hrow)
  clear hrow
  clear hb
  obtain ⟨a0, a1, a2, a3⟩ := HP.out
  go_wp2_with fail
  refine (HT.out _ HB.out).mono ?_
  rintro e w2 ⟨rfl, hb⟩
  clear a0 a1 a2 a3
  replace HP := Lib.hid (HP.out.below hb)
  replace HB := Lib.hid (btr HB.out hb)
  replace HR := Lib.hid (HR.out.below hb)
  clear hb
  obtain ⟨a0, a1, a2, a3⟩ := HP.out
  go_wp2_with fail
  refine (HC.out _).mono ?_
  rintro e w2 ⟨rfl, hb⟩
  clear a0 a1 a2 a3
  replace HP := Lib.hid (HP.out.below hb)
  replace HB := Lib.hid (btr HB.out hb)
  replace HR := Lib.hid (HR.out.below hb)
  clear hb
  obtain ⟨a0, a1, a2, a3⟩ := HP.out
  go_wp2_with fail
  refine (HH.out _).mono ?_
  rintro e w2 ⟨rfl, hb⟩
  clear a0 a1 a2 a3
  replace HP := Lib.hid (HP.out.below hb)
  replace HB := Lib.hid (btr HB.out hb)
  replace HR := Lib.hid (HR.out.below hb)
  clear hb
  obtain ⟨a0, a1, a2, a3⟩ := HP.out
  go_wp2_with fail
  refine (HN1.out _ HB.out).mono ?_
  rintro e w2 ⟨rfl, hb⟩
  clear a0 a1 a2 a3
  replace HP := Lib.hid (HP.out.below hb)
  replace HB := Lib.hid (btr HB.out hb)
  replace HR := Lib.hid (HR.out.below hb)
  clear hb
  obtain ⟨a0, a1, a2, a3⟩ := HP.out
  have hX := Hs.out.below HB.out
  obtain ⟨_, c0, c1, c2, c3⟩ := hX.at m hml
  have hMm := Lib.hid (HM.out m hml)
  generalize ps[m] = x at c0 c1 c2 c3 hMm
  obtain ⟨yv, yh, yl, yb⟩ := x
  simp only at c0 c1 c2 c3 hMm
  rw [k4] at hMm
  clear hX
  rw [show nrM (some i) = (i : Int) from rfl] at hMm
  go_wp2_with fail
  refine (hMm.out _ HB.out).mono ?_
  rintro e w2 ⟨rfl, hb⟩
  clear a0 a1 a2 a3
  replace HP := Lib.hid (HP.out.below hb)
  replace HB := Lib.hid (btr HB.out hb)
  replace HR := Lib.hid (HR.out.below hb)
  clear hb
  obtain ⟨a0, a1, a2, a3⟩ := HP.out
  clear c0 c1 c2 c3 hMm
  clear a0 a1 a2 a3
  obtain ⟨pb, cb, rfl, hRO⟩ := HR.out.open
  have HRO := Lib.hid hRO
  clear hRO HR
  obtain ⟨W0, hW0⟩ : ∃ W0, W0 = w2 := ⟨_, rfl⟩
  rw [← hW0] at HRO
  go_wp2_with fail
  go_loopw [19, 20] (fun vs vi wr => ∃ k : Nat, vi = .int .i64 k ∧ k ≤ N ∧ Hid (wr.ownsRow W0.heap.size 3 1 vs (lowL ps m k).length (intsT (lowL ps m k))) ∧ Hid (RowO W0.heap.size wr pb (lowL ps m N)) ∧ Hid (Below w.heap.size w wr) ∧ Hid (W0.heap.size ≤ wr.heap.size) ∧ Hid (Has3 wr w.heap.size (.bool v) (.int .u64 xh) (.int .u64 xl)))
    (fun _ vi _ => N - (intOf vi).toNat)
  case atStart => exact ⟨0, rfl, Nat.zero_le _, row_nil _ _ _ _, by subst hW0; exact HRO, HB, by subst hW0; exact Nat.le_refl _, HP⟩
  case round =>
    have hwW : Hid (w.heap.size < W0.heap.size) := by subst hW0; exact HP.out.2.2.2
    clear HP HB HRO hW0
    obtain ⟨k, rfl, hk, HO, HRO, HB, HZ, HP⟩ := hrel
    by_cases hkN : k < N
    · have hkl : k < ps.length := by have := HN.out; omega
      have hX := Hs.out.below HB.out
      obtain ⟨_, c0, c1, c2, c3⟩ := hX.at k hkl
      have hMk := Lib.hid (HM.out k hkl)
      generalize ps[k] = x at c0 c1 c2 c3 hMk
      obtain ⟨yv, yh, yl, yb⟩ := x
      simp only at c0 c1 c2 c3 hMk
      clear hX
      have hk1 : (0 : Int) ≤ (k : Int) := by omega
      have hk2 : (k : Int) < (N : Int) := by omega
      by_cases hq : par ps k = some m
      · have HS := Lib.hid (lowL_hit hq)
        have HLn := Lib.hid (lowL_len ps m k)
        rw [hq, show nrM (some m) = (m : Int) from rfl] at hMk
        have hmm : ((m : Int) == (m : Int)) = true := by simp
        clear hq
        go_wp2_with fail
        refine (hMk.out _ HB.out).mono ?_
        rintro e w4 ⟨rfl, hb⟩
        replace HO := Lib.hid (row_keep HO.out hb)
        replace HRO := Lib.hid (HRO.out.upto (hb.mono HZ.out))
        replace HP := Lib.hid (HP.out.below hb)
        replace HB := Lib.hid (btr HB.out hb)
        replace HZ := Lib.hid (Nat.le_trans HZ.out hb.size)
        clear hb c0 c1 c2 c3 hMk
        obtain ⟨i0, hi0, hz0, hz1, hz2⟩ := info_parts infoI
        go_wp2_with (at_builtin; refine wpList_append_own _ rfl _ _ 30 rfl W0.heap.size 3 i0 (.int .i64 0) 1 8 Try.underlying30 hi0 hz0 hz1 hz2 rfl (by decide) _ _ _ rfl (HO.out.alloc _) ⟨w4.heap.size, 0, none⟩ 1 1 [.int .i64 (k : Int)] rfl rfl ?c1 ?c2 ?c3 ?c4 ?c5 ?_)
        case c1 =>
          intro j u hj
          match j, hj with
          | 0, hj => simp at hj; subst hj; simp [Addr.add]
        case c2 => intro u hu; simp at hu; subst hu; rfl
        case c3 => have := HLn.out; unfold maxLen; omega
        case c4 => have := HLn.out; omega
        case c5 => have := HZ.out; simp; omega
        intro v' w5 hown' hgrow _
        have hZ := HZ.out
        have hwW' := hwW.out
        have HB5 : Hid (Below w.heap.size w w5) := (bal HB.out _).grown hgrow (by simp; omega) (fun k hk => Nat.le_trans (by omega) (HO.out.lt k hk).1)
        have hB5 : Below W0.heap.size w4 w5 := ((Below.refl W0.heap.size w4).alloc (by omega) _).grown hgrow (by simp; omega) (fun k hk => (HO.out.lt k hk).1)
        replace HRO := Lib.hid (HRO.out.upto hB5)
        have HP5 : Hid (Has3 w5 w.heap.size (.bool v) (.int .u64 xh) (.int .u64 xl)) := has3_upto HP.out hwW.out hB5
        have HZ5 : Hid (W0.heap.size ≤ w5.heap.size) := Nat.le_trans (by simp; omega) hgrow.size
        have HO5 : Hid (w5.ownsRow W0.heap.size 3 1 v' (lowL ps m (k + 1)).length (intsT (lowL ps m (k + 1)))) := by
          rw [HS.out, List.length_append, intsT, List.map_append]; exact hown'
        clear hown' hgrow HO HB hZ hwW' hB5
        go_wp2
        go_roundw
        case rel => exact ⟨k + 1, by go_num, by omega, HO5, HRO, HB5, HZ5, HP5⟩
        case measure => simp [intOf]; omega
      · have HS := Lib.hid (lowL_miss hq)
        have hmm : (nrM (par ps k) == (m : Int)) = false := by
          rw [beq_eq_false_iff_ne]
          intro h
          apply hq
          cases hp : par ps k with
          | none => rw [hp, show nrM none = -1 from rfl] at h; omega
          | some j => rw [hp, show nrM (some j) = (j : Int) from rfl] at h; have : j = m := by omega
                      rw [this]
        generalize nrM (par ps k) = q at *
        clear hq
        go_wp2_with fail
        refine (hMk.out _ HB.out).mono ?_
        rintro e w4 ⟨rfl, hb⟩
        replace HO := Lib.hid (row_keep HO.out hb)
        replace HRO := Lib.hid (HRO.out.upto (hb.mono HZ.out))
        replace HP := Lib.hid (HP.out.below hb)
        replace HB := Lib.hid (btr HB.out hb)
        replace HZ := Lib.hid (Nat.le_trans HZ.out hb.size)
        clear hb c0 c1 c2 c3 hMk
        go_wp2_with fail
        go_roundw
        case rel => exact ⟨k + 1, by go_num, by omega, by rw [HS.out]; exact HO, HRO, HB, HZ, HP⟩
        case measure => simp [intOf]; omega
    · have : k = N := by omega
      subst this
      obtain ⟨pv, cv, rfl, hRV⟩ := (RowI.of HO.out).open
      replace HRO := Lib.hid (HRO.out.wide HZ.out)
      have HRV := Lib.hid hRV
      clear hRV HO
      have hLk := lowL_len ps m k
      generalize lowL ps m k = L at *
      have hLk' := Lib.hid hLk
      clear hLk
      have hll : (((L.length : Nat) : Int) != (L.length : Int)) = false := by simp
      clear Hs HM HT HF HA HL
      obtain ⟨B, hB⟩ : ∃ B, B = wr.heap.size := ⟨_, rfl⟩
      rw [← hB] at HRO HRV
      clear hB HZ
      go_wp2_with fail
      go_loopw [21] (fun vi wr' => ∃ j : Nat, vi = .int .i64 j ∧ j ≤ L.length ∧ Hid (RowO B wr' pb L) ∧ Hid (RowO B wr' pv L) ∧ Hid (Below w.heap.size w wr') ∧ Hid (Has3 wr' w.heap.size (.bool v) (.int .u64 xh) (.int .u64 xl)))
        (fun vi _ => L.length - (intOf vi).toNat)
      case atStart => exact ⟨0, rfl, Nat.zero_le _, HRO, HRV, HB, HP⟩
      case round =>
        clear HP HB HRO HRV
        obtain ⟨j, rfl, hj, HRO, HRV, HB, HP⟩ := hrel
        by_cases hjL : j < L.length
        · obtain ⟨g1, rfl, _, d1⟩ := HRO.out j hjL
          obtain ⟨g2, rfl, _, d2⟩ := HRV.out j hjL
          have hj1 : (0 : Int) ≤ (j : Int) := by omega
          have hj2 : (j : Int) < (L.length : Int) := by omega
          have hj3 : j + 1 ≤ L.length := by omega
          have hj12 : j ≤ 12 := by have := hLk'.out; omega
          have hj4 : L.length - (j + 1) < L.length - j := by omega
          generalize (L[j] : Nat) = y at d1 d2
          have hyy : ((y : Int) != (y : Int)) = false := by simp
          go_wp2_with fail
          go_region
          go_wp2_with fail
          go_roundw
          case rel => exact ⟨j + 1, by go_num, hj3, HRO, HRV, Lib.hid HB.out.drew, HP⟩
          case measure => simp [intOf]; omega
        · clear HRO HRV
          obtain ⟨a0, a1, a2, a3⟩ := HP.out
          go_wp2_with fail
          refine (HG.out _).mono ?_
          rintro e w2 ⟨rfl, hb⟩
          clear a0 a1 a2 a3
          replace HP := Lib.hid (HP.out.below hb)
          replace HB := Lib.hid (btr HB.out hb)
          clear hb
          obtain ⟨a0, a1, a2, a3⟩ := HP.out
          go_wp2_with fail
          refine (HK.out _ HB.out).mono ?_
          rintro e w2 ⟨rfl, hb⟩
          clear a0 a1 a2 a3
          replace HP := Lib.hid (HP.out.below hb)
          replace HB := Lib.hid (btr HB.out hb)
          clear hb
          obtain ⟨a0, a1, a2, a3⟩ := HP.out
          go_wp2
          go_ret
          exact ⟨rfl, HB.out⟩
end Go.Proofs.Ythbpldmebekgoaa
