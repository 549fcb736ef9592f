/- The document's answer: IsAhead: the first bits that are not the same decide. -/
import Derived.Test.YtollaiabcnmebaaDoorRfJ
set_option linter.unusedVariables false
set_option linter.unusedSimpArgs false
namespace Go.Proofs.YtollaiabcnmebaaDoor
open Go.RowKit

set_option maxHeartbeats 8000000 in
set_option maxRecDepth 100000 in
theorem isAhead_any (v u : Bool) (xh xl yh yl : Nat) (w : World) (a1 : xh < 18446744073709551616) (a2 : xl < 18446744073709551616) (a3 : yh < 18446744073709551616) (a4 : yl < 18446744073709551616)
    (hv : v = true ∨ (xh = 0 ∧ xl ≤ 4294967295)) (hu : u = true ∨ (yh = 0 ∧ yl ≤ 4294967295)) :
    Calls Tryd.prog 14 #[.agg #[.bool v, .int .u64 xh, .int .u64 xl], .agg #[.bool u, .int .u64 yh, .int .u64 yl]] w fun e w' =>
      e = .returned (.bool (if v = u then lsB xh xl yh yl else u)) ∧ Below w.heap.size w w' := by
  by_cases hvu : v = u
  · subst hvu
    rw [if_pos rfl]
    have hls : lsB xh xl yh yl = lessL (bitsT v xh xl) (bitsT v yh yl) := by
      rw [lessL_num _ _ (bitsT_bin _ _ _) (bitsT_bin _ _ _) (by rw [bitsT_length, bitsT_length]), bitsT_num v xh xl a1 a2 hv, bitsT_num v yh yl a3 a4 hu]
      unfold lsB
      rw [Bool.eq_iff_iff]
      simp
      omega
    rw [hls]
    have HX : Hid (∀ (h l : Nat) (w : World), h < 18446744073709551616 → l < 18446744073709551616 → Calls Tryd.prog 21 #[.agg #[.bool v, .int .u64 h, .int .u64 l]] w fun e w' => e = .returned (.string ⟨(bitsT v h l).toArray⟩) ∧ Below w.heap.size w w') := fun h l w a b => bits_any v h l w a b
    have hlx : (bitsT v xh xl).length = (bitsT v yh yl).length := by rw [bitsT_length, bitsT_length]
    have hl8 : (bitsT v xh xl).length ≤ 128 := by rw [bitsT_length]; split <;> omega
    clear hls
    have HB0 : Hid (Below w.heap.size w ((w.alloc (.cells #[.bool v, .int .u64 xh, .int .u64 xl] 24)).alloc (.cells #[.bool v, .int .u64 yh, .int .u64 yl] 24))) := bal (bal (Below.refl _ _) _) _
    go_enter Tryd.func14, Tryd.ntmps14
    go_wp2_with fail
    have q1 : (w.alloc (.cells #[.bool v, .int .u64 xh, .int .u64 xl] 24)).heap.size = w.heap.size + 1 := by simp
    have P1 : Hid (Has3 ((w.alloc (.cells #[.bool v, .int .u64 xh, .int .u64 xl] 24)).alloc (.cells #[.bool v, .int .u64 yh, .int .u64 yl] 24)) w.heap.size (.bool v) (.int .u64 xh) (.int .u64 xl)) := (Has3.new w _ _ _ _).alloc _
    have P2 : Hid (Has3 ((w.alloc (.cells #[.bool v, .int .u64 xh, .int .u64 xl] 24)).alloc (.cells #[.bool v, .int .u64 yh, .int .u64 yl] 24)) (w.heap.size + 1) (.bool v) (.int .u64 yh) (.int .u64 yl)) := by
      have := Has3.new (w.alloc (.cells #[.bool v, .int .u64 xh, .int .u64 xl] 24)) (.bool v) (.int .u64 yh) (.int .u64 yl) 24
      rw [q1] at this; exact this
    clear q1
    generalize (w.alloc (.cells #[.bool v, .int .u64 xh, .int .u64 xl] 24)).alloc (.cells #[.bool v, .int .u64 yh, .int .u64 yl] 24) = W at *
    have P1' : Hid (Has3 W.drew w.heap.size (.bool v) (.int .u64 xh) (.int .u64 xl)) := P1.out
    have P2' : Hid (Has3 W.drew (w.heap.size + 1) (.bool v) (.int .u64 yh) (.int .u64 yl)) := P2.out
    have B' : Hid (Below w.heap.size w W.drew) := HB0.out.drew
    clear P1 P2
    go_region_held3 (fun w' => (w'.cell? ⟨w.heap.size, 0, none⟩ = some (.bool v) ∧ w'.cell? ⟨w.heap.size, 1, none⟩ = some (.int .u64 xh) ∧ w'.cell? ⟨w.heap.size, 2, none⟩ = some (.int .u64 xl) ∧ w.heap.size < w'.heap.size) ∧ (w'.cell? ⟨w.heap.size + 1, 0, none⟩ = some (.bool v) ∧ w'.cell? ⟨w.heap.size + 1, 1, none⟩ = some (.int .u64 yh) ∧ w'.cell? ⟨w.heap.size + 1, 2, none⟩ = some (.int .u64 yl) ∧ w.heap.size + 1 < w'.heap.size) ∧ Below w.heap.size w w')
      (first | exact ⟨P1'.out, P2'.out, B'.out⟩ | exact keep33 (by assumption) (by assumption))
      ((go_at_call 21; refine (HX.out _ _ _ (by assumption) (by assumption)).mono ?_; rintro e w3 ⟨rfl, hb⟩))
    have HS : Has3 w3 w.heap.size (.bool v) (.int .u64 xh) (.int .u64 xl) ∧ Has3 w3 (w.heap.size + 1) (.bool v) (.int .u64 yh) (.int .u64 yl) ∧ Below w.heap.size w w3 := by assumption
    have B : Hid (Below w.heap.size w w3) := HS.2.2
    clear HS P1' P2' B'
    obtain ⟨X, hX⟩ : ∃ X : ByteArray, X = ⟨(bitsT v xh xl).toArray⟩ := ⟨_, rfl⟩
    obtain ⟨Y, hY⟩ : ∃ Y : ByteArray, Y = ⟨(bitsT v yh yl).toArray⟩ := ⟨_, rfl⟩
    have eX : bitsT v xh xl = X.data.toList := by rw [hX]
    have eY : bitsT v yh yl = Y.data.toList := by rw [hY]
    rw [← hX, ← hY]
    rw [eX, eY] at hlx
    rw [eX] at hl8
    have HL : Hid (lessL (bitsT v xh xl) (bitsT v yh yl) = lessL X.data.toList Y.data.toList) := by rw [Hid, eX, eY]
    have sX := size_list X
    have sY := size_list Y
    clear hX hY eX eY
    obtain ⟨N, hN⟩ : ∃ N, N = X.size := ⟨_, rfl⟩
    have HN : Hid (N = X.size ∧ N = Y.size) := ⟨hN, by omega⟩
    have hN8 : N ≤ 128 := by omega
    clear hN hlx hl8
    go_wp2_with fail
    go_loopw [7] (fun vi wr => ∃ k : Nat, vi = .int .i64 k ∧ k ≤ N ∧ Below w.heap.size w wr ∧ Hid (lessL (bitsT v xh xl) (bitsT v yh yl) = lessL (X.data.toList.drop k) (Y.data.toList.drop k)))
      (fun vi _ => N - (intOf vi).toNat)
    case atStart => exact ⟨0, rfl, Nat.zero_le _, B.out, HL.out⟩
    case round =>
      obtain ⟨k, rfl, hk, hbr, hh⟩ := hrel
      obtain ⟨n1, n2⟩ := HN.out
      by_cases hkN : k < N
      · have kx : k < X.size := by omega
        have ky : k < Y.size := by omega
        have hki : (k : Int) < (X.size : Int) := by omega
        have hki2 : (k : Int) < (Y.size : Int) := by omega
        have hk0 : (0 : Int) ≤ (k : Int) := by omega
        have h1 : X[k]? = some X[k] := by simp [kx]
        have h2 : Y[k]? = some Y[k] := by simp [ky]
        have hd := hh.out
        rw [List.drop_eq_getElem_cons (show k < X.data.toList.length by omega), List.drop_eq_getElem_cons (show k < Y.data.toList.length by omega), data_get X k kx, data_get Y k ky, lessL] at hd
        by_cases he : X[k] = Y[k]
        · rw [if_pos he] at hd
          have HD : Hid (lessL (bitsT v xh xl) (bitsT v yh yl) = lessL (X.data.toList.drop (k + 1)) (Y.data.toList.drop (k + 1))) := hd
          have hee : ((X[k].toNat : Int) == (Y[k].toNat : Int)) = true := by rw [he, beq_self_eq_true]
          have hee2 : (X[k].toNat : Int) = (Y[k].toNat : Int) := by rw [he]
          clear hd hh he n1 n2
          go_wp2_with fail
          go_region
          go_wp2_with fail
          exact ⟨⟨k + 1, by go_num, by omega, hbr.drew, HD⟩, by simp [intOf]; omega⟩
        · rw [if_neg he] at hd
          have hee2 : ¬ (X[k].toNat : Int) = (Y[k].toNat : Int) := fun h => he (UInt8.toNat_inj.1 (by omega))
          have hee : ((X[k].toNat : Int) == (Y[k].toNat : Int)) = false := by rw [beq_eq_false_iff_ne]; exact hee2
          have HD : Hid (lessL (bitsT v xh xl) (bitsT v yh yl) = decide (X[k].toNat < Y[k].toNat)) := by
            rw [Hid, hd]
            rw [Bool.eq_iff_iff]
            simp [UInt8.lt_iff_toNat_lt]
          clear hd hh he n1 n2
          go_wp2_with fail
          go_region
          go_wp2_with fail
          go_region
          go_wp2_with fail
          rw [HD.out]
          go_ret
          exact ⟨rfl, hbr.drew.drew⟩
      · have hki : ¬ (k : Int) < (X.size : Int) := by omega
        have HD : Hid (lessL (bitsT v xh xl) (bitsT v yh yl) = false) := by
          have hd := hh.out
          rw [List.drop_eq_nil_of_le (by omega)] at hd
          rw [Hid, hd]; rfl
        clear hh n1 n2
        go_wp2_with fail
        rw [HD.out]
        go_ret
        exact ⟨rfl, hbr⟩
  · rw [if_neg hvu]
    have hvd : (v == u) = false := by rw [beq_eq_false_iff_ne]; exact hvu
    cases v
    · cases u
      · exact absurd rfl hvu
      · go_enter Tryd.func14, Tryd.ntmps14
        go_wp2_with fail
        go_ret
        exact ⟨rfl, bal (bal (Below.refl _ _) _) _⟩
    · cases u
      · go_enter Tryd.func14, Tryd.ntmps14
        go_wp2_with fail
        go_ret
        exact ⟨rfl, bal (bal (Below.refl _ _) _) _⟩
      · exact absurd rfl hvu
end Go.Proofs.YtollaiabcnmebaaDoor
