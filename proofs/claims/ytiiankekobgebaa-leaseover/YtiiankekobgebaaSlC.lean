/- The document: which address is ahead; what is right; what has what. -/
import Derived.Test.YtiiankekobgebaaSlB
import Derived.Test.YtiiankekobgebaaPfQ
set_option linter.unusedVariables false
set_option linter.unusedSimpArgs false
namespace Go.Proofs.Ytiiankekobgebaa
open Go.RowKit

theorem btw_in (n a b : Int) (w : World) (h1 : a ≤ n) (h2 : n ≤ b) :
    Calls Try.prog 24 #[.int .i64 n, .int .i64 a, .int .i64 b] w fun e w' => e = .returned (.bool true) ∧ w' = w := by
  have := between_any n a b w
  rw [decide_eq_true h1, decide_eq_true h2] at this
  exact this

theorem btw_out (n a b : Int) (w : World) (h : n < a ∨ b < n) :
    Calls Try.prog 24 #[.int .i64 n, .int .i64 a, .int .i64 b] w fun e w' => e = .returned (.bool false) ∧ w' = w := by
  have := between_any n a b w
  rcases h with h | h
  · rw [decide_eq_false (show ¬ a ≤ n by omega), Bool.false_and] at this
    exact this
  · rw [decide_eq_false (show ¬ n ≤ b by omega), Bool.and_false] at this
    exact this

theorem ext_list (s : ByteArray) (i j : Nat) : s.extract i j = ⟨((s.data.toList.drop i).take (j - i)).toArray⟩ := by
  apply ByteArray.ext
  rw [ByteArray.data_extract]
  apply Array.toList_inj.1
  rw [Array.toList_extract]

theorem str_to (s : ByteArray) (j : Nat) (W : World) (h2 : j ≤ s.size) (h3 : s.size ≤ 281474976710656) :
    (Instr.sliceAt 9 (.string s) none (some (.int .i64 (j : Int))) none).run Try.prog W = .ok (.string ⟨(s.data.toList.take j).toArray⟩) W := by
  have a2 : (j : Int) ≤ (s.size : Int) := by omega
  have h := ext_list s 0 j
  rw [List.drop_zero, Nat.sub_zero] at h
  rw [← h]
  simp [go_sem, a2]

set_option maxHeartbeats 8000000 in
set_option maxRecDepth 100000 in
theorem isAhead_any (v u : Bool) (xh xl yh yl : Nat) (w : World) (a1 : xh < 18446744073709551616) (a2 : xl < 18446744073709551616) (a3 : yh < 18446744073709551616) (a4 : yl < 18446744073709551616)
    (hv : v = true ∨ (xh = 0 ∧ xl ≤ 4294967295)) (hu : u = true ∨ (yh = 0 ∧ yl ≤ 4294967295)) :
    Calls Try.prog 25 #[.agg #[.bool v, .int .u64 xh, .int .u64 xl], .agg #[.bool u, .int .u64 yh, .int .u64 yl]] w fun e w' =>
      e = .returned (.bool (if v = u then lsB xh xl yh yl else u)) ∧ Below w.heap.size w w' := by
  by_cases hvu : v = u
  · subst hvu
    rw [if_pos rfl]
    have hls : lsB xh xl yh yl = lessL (bitsT v xh xl) (bitsT v yh yl) := by
      rw [lessL_num _ _ (bitsT_bin _ _ _) (bitsT_bin _ _ _) (by rw [bitsT_length, bitsT_length]), bitsT_num v xh xl a1 a2 hv, bitsT_num v yh yl a3 a4 hu]
      unfold lsB
      rw [Bool.eq_iff_iff]
      simp
      omega
    rw [hls]
    have HX : Hid (∀ (h l : Nat) (w : World), h < 18446744073709551616 → l < 18446744073709551616 → Calls Try.prog 46 #[.agg #[.bool v, .int .u64 h, .int .u64 l]] w fun e w' => e = .returned (.string ⟨(bitsT v h l).toArray⟩) ∧ Below w.heap.size w w') := fun h l w a b => bits_any v h l w a b
    have hlx : (bitsT v xh xl).length = (bitsT v yh yl).length := by rw [bitsT_length, bitsT_length]
    have hl8 : (bitsT v xh xl).length ≤ 128 := by rw [bitsT_length]; split <;> omega
    clear hls
    have HB0 : Hid (Below w.heap.size w ((w.alloc (.cells #[.bool v, .int .u64 xh, .int .u64 xl] 24)).alloc (.cells #[.bool v, .int .u64 yh, .int .u64 yl] 24))) := bal (bal (Below.refl _ _) _) _
    go_enter Try.func25, Try.ntmps25
    go_wp2_with fail
    have q1 : (w.alloc (.cells #[.bool v, .int .u64 xh, .int .u64 xl] 24)).heap.size = w.heap.size + 1 := by simp
    have P1 : Hid (Has3 ((w.alloc (.cells #[.bool v, .int .u64 xh, .int .u64 xl] 24)).alloc (.cells #[.bool v, .int .u64 yh, .int .u64 yl] 24)) w.heap.size (.bool v) (.int .u64 xh) (.int .u64 xl)) := (Has3.new w _ _ _ _).alloc _
    have P2 : Hid (Has3 ((w.alloc (.cells #[.bool v, .int .u64 xh, .int .u64 xl] 24)).alloc (.cells #[.bool v, .int .u64 yh, .int .u64 yl] 24)) (w.heap.size + 1) (.bool v) (.int .u64 yh) (.int .u64 yl)) := by
      have := Has3.new (w.alloc (.cells #[.bool v, .int .u64 xh, .int .u64 xl] 24)) (.bool v) (.int .u64 yh) (.int .u64 yl) 24
      rw [q1] at this; exact this
    clear q1
    generalize (w.alloc (.cells #[.bool v, .int .u64 xh, .int .u64 xl] 24)).alloc (.cells #[.bool v, .int .u64 yh, .int .u64 yl] 24) = W at *
    have P1' : Hid (Has3 W.drew w.heap.size (.bool v) (.int .u64 xh) (.int .u64 xl)) := P1.out
    have P2' : Hid (Has3 W.drew (w.heap.size + 1) (.bool v) (.int .u64 yh) (.int .u64 yl)) := P2.out
    have B' : Hid (Below w.heap.size w W.drew) := HB0.out.drew
    clear P1 P2
    go_region_held3 (fun w' => (w'.cell? ⟨w.heap.size, 0, none⟩ = some (.bool v) ∧ w'.cell? ⟨w.heap.size, 1, none⟩ = some (.int .u64 xh) ∧ w'.cell? ⟨w.heap.size, 2, none⟩ = some (.int .u64 xl) ∧ w.heap.size < w'.heap.size) ∧ (w'.cell? ⟨w.heap.size + 1, 0, none⟩ = some (.bool v) ∧ w'.cell? ⟨w.heap.size + 1, 1, none⟩ = some (.int .u64 yh) ∧ w'.cell? ⟨w.heap.size + 1, 2, none⟩ = some (.int .u64 yl) ∧ w.heap.size + 1 < w'.heap.size) ∧ Below w.heap.size w w')
      (first | exact ⟨P1'.out, P2'.out, B'.out⟩ | exact keep33 (by assumption) (by assumption))
      ((go_at_call 46; refine (HX.out _ _ _ (by assumption) (by assumption)).mono ?_; rintro e w3 ⟨rfl, hb⟩))
    have HS : Has3 w3 w.heap.size (.bool v) (.int .u64 xh) (.int .u64 xl) ∧ Has3 w3 (w.heap.size + 1) (.bool v) (.int .u64 yh) (.int .u64 yl) ∧ Below w.heap.size w w3 := by assumption
    have B : Hid (Below w.heap.size w w3) := HS.2.2
    clear HS P1' P2' B'
    obtain ⟨X, hX⟩ : ∃ X : ByteArray, X = ⟨(bitsT v xh xl).toArray⟩ := ⟨_, rfl⟩
    obtain ⟨Y, hY⟩ : ∃ Y : ByteArray, Y = ⟨(bitsT v yh yl).toArray⟩ := ⟨_, rfl⟩
    have eX : bitsT v xh xl = X.data.toList := by rw [hX]
    have eY : bitsT v yh yl = Y.data.toList := by rw [hY]
    rw [← hX, ← hY]
    rw [eX, eY] at hlx
    rw [eX] at hl8
    have HL : Hid (lessL (bitsT v xh xl) (bitsT v yh yl) = lessL X.data.toList Y.data.toList) := by rw [Hid, eX, eY]
    have sX := size_list X
    have sY := size_list Y
    clear hX hY eX eY
    obtain ⟨N, hN⟩ : ∃ N, N = X.size := ⟨_, rfl⟩
    have HN : Hid (N = X.size ∧ N = Y.size) := ⟨hN, by omega⟩
    have hN8 : N ≤ 128 := by omega
    clear hN hlx hl8
    go_wp2_with fail
    go_loopw [7] (fun vi wr => ∃ k : Nat, vi = .int .i64 k ∧ k ≤ N ∧ Below w.heap.size w wr ∧ Hid (lessL (bitsT v xh xl) (bitsT v yh yl) = lessL (X.data.toList.drop k) (Y.data.toList.drop k)))
      (fun vi _ => N - (intOf vi).toNat)
    case atStart => exact ⟨0, rfl, Nat.zero_le _, B.out, HL.out⟩
    case round =>
      obtain ⟨k, rfl, hk, hbr, hh⟩ := hrel
      obtain ⟨n1, n2⟩ := HN.out
      by_cases hkN : k < N
      · have kx : k < X.size := by omega
        have ky : k < Y.size := by omega
        have hki : (k : Int) < (X.size : Int) := by omega
        have hki2 : (k : Int) < (Y.size : Int) := by omega
        have hk0 : (0 : Int) ≤ (k : Int) := by omega
        have h1 : X[k]? = some X[k] := by simp [kx]
        have h2 : Y[k]? = some Y[k] := by simp [ky]
        have hd := hh.out
        rw [List.drop_eq_getElem_cons (show k < X.data.toList.length by omega), List.drop_eq_getElem_cons (show k < Y.data.toList.length by omega), data_get X k kx, data_get Y k ky, lessL] at hd
        by_cases he : X[k] = Y[k]
        · rw [if_pos he] at hd
          have HD : Hid (lessL (bitsT v xh xl) (bitsT v yh yl) = lessL (X.data.toList.drop (k + 1)) (Y.data.toList.drop (k + 1))) := hd
          have hee : ((X[k].toNat : Int) == (Y[k].toNat : Int)) = true := by rw [he, beq_self_eq_true]
          have hee2 : (X[k].toNat : Int) = (Y[k].toNat : Int) := by rw [he]
          clear hd hh he n1 n2
          go_wp2_with fail
          go_region
          go_wp2_with fail
          exact ⟨⟨k + 1, by go_num, by omega, hbr.drew, HD⟩, by simp [intOf]; omega⟩
        · rw [if_neg he] at hd
          have hee2 : ¬ (X[k].toNat : Int) = (Y[k].toNat : Int) := fun h => he (UInt8.toNat_inj.1 (by omega))
          have hee : ((X[k].toNat : Int) == (Y[k].toNat : Int)) = false := by rw [beq_eq_false_iff_ne]; exact hee2
          have HD : Hid (lessL (bitsT v xh xl) (bitsT v yh yl) = decide (X[k].toNat < Y[k].toNat)) := by
            rw [Hid, hd]
            rw [Bool.eq_iff_iff]
            simp [UInt8.lt_iff_toNat_lt]
          clear hd hh he n1 n2
          go_wp2_with fail
          go_region
          go_wp2_with fail
          go_region
          go_wp2_with fail
          rw [HD.out]
          go_ret
          exact ⟨rfl, hbr.drew.drew⟩
      · have hki : ¬ (k : Int) < (X.size : Int) := by omega
        have HD : Hid (lessL (bitsT v xh xl) (bitsT v yh yl) = false) := by
          have hd := hh.out
          rw [List.drop_eq_nil_of_le (by omega)] at hd
          rw [Hid, hd]; rfl
        clear hh n1 n2
        go_wp2_with fail
        rw [HD.out]
        go_ret
        exact ⟨rfl, hbr⟩
  · rw [if_neg hvu]
    have hvd : (v == u) = false := by rw [beq_eq_false_iff_ne]; exact hvu
    cases v
    · cases u
      · exact absurd rfl hvu
      · go_enter Try.func25, Try.ntmps25
        go_wp2_with fail
        go_ret
        exact ⟨rfl, bal (bal (Below.refl _ _) _) _⟩
    · cases u
      · go_enter Try.func25, Try.ntmps25
        go_wp2_with fail
        go_ret
        exact ⟨rfl, bal (bal (Below.refl _ _) _) _⟩
      · exact absurd rfl hvu

theorem right_nat {v : Bool} {hi lo : Nat} (c : chk v hi lo = 0) : v = true ∨ (hi = 0 ∧ lo ≤ 4294967295) := by
  rcases chk_cases v hi lo with ⟨_, h⟩ | h
  · exact h.imp id fun ⟨x, y⟩ => ⟨by omega, by omega⟩
  · omega

theorem bits_wid (v : Bool) (hi lo : Nat) : ((bitsT v hi lo).length : Int) = wid v := by rw [bitsT_length, wid]; cases v <;> rfl

theorem bits_num {v : Bool} {hi lo : Nat} (c : chk v hi lo = 0) (h1 : hi < 18446744073709551616) (l1 : lo < 18446744073709551616) : ((vbin 0 (bitsT v hi lo) : Nat) : Int) = num hi lo := by
  rw [bitsT_num v hi lo h1 l1 (right_nat c), num]; simp

theorem amt_nat (v : Bool) (hi lo b : Nat) (hb : (b : Int) ≤ wid v) : amt v b = ((2 ^ ((bitsT v hi lo).drop b).length : Nat) : Int) := by
  have h := bits_wid v hi lo
  rw [amt, List.length_drop, show (wid v - (b : Int)).toNat = (bitsT v hi lo).length - b by omega]; simp

theorem bits_mod {v : Bool} {hi lo b : Nat} (c : chk v hi lo = 0) (h1 : hi < 18446744073709551616) (l1 : lo < 18446744073709551616) (hb : (b : Int) ≤ wid v) :
    num hi lo % amt v b = ((vbin 0 ((bitsT v hi lo).drop b) : Nat) : Int) := by
  rw [← bits_num c h1 l1, amt_nat v hi lo b hb, ← Int.natCast_emod, (vbin_div _ b).2]

theorem bits_div {v : Bool} {hi lo b : Nat} (c : chk v hi lo = 0) (h1 : hi < 18446744073709551616) (l1 : lo < 18446744073709551616) (hb : (b : Int) ≤ wid v) :
    num hi lo / amt v b = ((vbin 0 ((bitsT v hi lo).take b) : Nat) : Int) := by
  rw [← bits_num c h1 l1, amt_nat v hi lo b hb, ← Int.natCast_ediv, (vbin_div _ b).1]

theorem drop_bin (v : Bool) (hi lo b : Nat) : IsBin ((bitsT v hi lo).drop b) := fun c hc => bitsT_bin v hi lo c (List.mem_of_mem_drop hc)

theorem take_bin (v : Bool) (hi lo b : Nat) : IsBin ((bitsT v hi lo).take b) := fun c hc => bitsT_bin v hi lo c (List.mem_of_mem_take hc)

theorem pchk_bits {v : Bool} {hi lo b : Nat} (c : chk v hi lo = 0) (h1 : hi < 18446744073709551616) (l1 : lo < 18446744073709551616) (hb : (b : Int) ≤ wid v) :
    ((∀ x ∈ (bitsT v hi lo).drop b, x = 48) → pchk v hi lo b = 0) ∧ ((¬ ∀ x ∈ (bitsT v hi lo).drop b, x = 48) → pchk v hi lo b = 4) := by
  have hm := bits_mod c h1 l1 hb
  have hz := vbin_zero _ (drop_bin v hi lo b)
  have hr := right_iff v hi lo b (by omega) (by omega) (by omega) (by omega)
  constructor
  · intro h
    rw [hr]
    refine ⟨c, by omega, hb, by omega, by omega, by omega, by omega, ?_⟩
    rw [hm, hz.2 h]; rfl
  · intro h
    rcases pchk_cases v hi lo b with ⟨k, _⟩ | k | k
    · exfalso
      apply h
      apply hz.1
      have := (hr.1 k).al
      rw [hm] at this
      omega
    · exfalso
      unfold pchk at k
      rw [if_pos c, if_neg (by omega)] at k
      split at k <;> omega
    · exact k

theorem right_bits {v : Bool} {hi lo b : Nat} (r : Right v hi lo b) : ∀ x ∈ (bitsT v hi lo).drop b, x = 48 := by
  have h1 := r.h1
  have l1 := r.l1
  have hm := bits_mod r.c (by omega) (by omega) r.b1
  rw [r.al] at hm
  exact (vbin_zero _ (drop_bin v hi lo b)).1 (by omega)

/-- What AddrOf makes of so many bits that tell a number is that number's address. -/
theorem parts_addr {v : Bool} {R : List UInt8} {x y : Int} (hl : (R.length : Int) = wid v) (x0 : 0 ≤ x) (y0 : 0 ≤ y) (y1 : y < 18446744073709551616) (hn : num x y = ((vbin 0 R : Nat) : Int)) :
    decide (R.length = 128) = v ∧ x = ((vbin 0 (R.take (R.length - 64)) : Nat) : Int) ∧ y = ((vbin 0 (R.drop (R.length - 64)) : Nat) : Int) := by
  have h2 : R.length = 128 ∨ R.length = 32 := by unfold wid at hl; split at hl <;> omega
  obtain ⟨p1, p2, p3⟩ := parts_num R h2
  refine ⟨by unfold wid at hl; cases v <;> simp at hl ⊢ <;> omega, ?_⟩
  refine num_inj y0 y1 (by omega) (by omega) ?_
  rw [hn, num, ← p1]; simp

theorem rwide_any (v : Bool) (hi lo : Int) (w : World) :
    Calls Try.prog 53 #[.agg #[.bool v, .int .u64 hi, .int .u64 lo]] w fun e w' => e = .returned (.int .i64 (wid v)) ∧ Below w.heap.size w w' := by
  have B0 : Hid (Below w.heap.size w (w.alloc (.cells #[.bool v, .int .u64 hi, .int .u64 lo] 24))) := bal (Below.refl _ _) _
  cases v
  all_goals
    go_enter Try.func53, Try.ntmps53
    go_wp2
    go_ret
    exact ⟨rfl, B0.out⟩

set_option maxHeartbeats 8000000 in
set_option maxRecDepth 100000 in
theorem rpcheck_nat (v : Bool) (hi lo : Nat) (b : Int) (w : World) (h1 : hi < 18446744073709551616) (l1 : lo < 18446744073709551616) :
    Calls Try.prog 36 #[.agg #[.bool v, .int .u64 hi, .int .u64 lo, .int .i64 b]] w fun e w' => e = .returned (.int .i64 (pchk v hi lo b)) ∧ Below w.heap.size w w' := by
  have hC : Hid (∀ w : World, Calls Try.prog 23 #[.agg #[.bool v, .int .u64 (hi : Int), .int .u64 (lo : Int)]] w fun e w' => e = .returned (.int .i64 (chk v hi lo)) ∧ Below w.heap.size w w') := fun w => rcheck_any v hi lo w (by omega) (by omega)
  have hW : Hid (∀ w : World, Calls Try.prog 53 #[.agg #[.bool v, .int .u64 (hi : Int), .int .u64 (lo : Int)]] w fun e w' => e = .returned (.int .i64 (wid v)) ∧ Below w.heap.size w w') := fun w => rwide_any v hi lo w
  have hX : Hid (∀ w : World, Calls Try.prog 46 #[.agg #[.bool v, .int .u64 (hi : Int), .int .u64 (lo : Int)]] w fun e w' => e = .returned (.string ⟨(bitsT v hi lo).toArray⟩) ∧ Below w.heap.size w w') := fun w => bits_any v hi lo w h1 l1
  have B0 : Hid (Below w.heap.size w (w.alloc (.cells #[.bool v, .int .u64 hi, .int .u64 lo, .int .i64 b] 26))) := bal (Below.refl _ _) _
  have P0 : Hid (Has4 (w.alloc (.cells #[.bool v, .int .u64 hi, .int .u64 lo, .int .i64 b] 26)) w.heap.size v hi lo b) := Has4.new _ _ _ _ _ _
  rcases chk_cases v hi lo with ⟨c, _⟩ | c
  · rw [c] at hC
    by_cases hb : 0 ≤ b ∧ b ≤ wid v
    · obtain ⟨hb0, hb1⟩ := hb
      have hT : Hid (∀ w : World, Calls Try.prog 24 #[.int .i64 b, .int .i64 0, .int .i64 (wid v)] w fun e w' => e = .returned (.bool true) ∧ w' = w) := fun w => btw_in _ _ _ w hb0 hb1
      obtain ⟨bN, rfl⟩ := Int.eq_ofNat_of_zero_le hb0
      obtain ⟨k0, k4⟩ := pchk_bits c h1 l1 hb1
      have hlen := bits_wid v hi lo
      have hw128 : wid v ≤ 128 := by unfold wid; split <;> omega
      obtain ⟨X, hX2⟩ : ∃ X : ByteArray, X = ⟨(bitsT v hi lo).toArray⟩ := ⟨_, rfl⟩
      have hXl : X.data.toList = bitsT v hi lo := by rw [hX2]
      have hXs := size_list X
      rw [← hX2] at hX
      rw [← hXl] at k0 k4 hlen
      have HK : Hid ((∀ x ∈ X.data.toList.drop bN, x = 48) → pchk v hi lo bN = 0) := k0
      have HK4 : Hid ((¬ ∀ x ∈ X.data.toList.drop bN, x = 48) → pchk v hi lo bN = 4) := k4
      have HXB : Hid (IsBin X.data.toList) := by rw [hXl]; exact bitsT_bin v hi lo
      obtain ⟨N, hN⟩ : ∃ N, N = X.size := ⟨_, rfl⟩
      have HN : Hid (N = X.size) := hN
      have hN128 : N ≤ 128 := by omega
      have hbN : bN ≤ N := by omega
      obtain ⟨P, hP⟩ : ∃ P, P = pchk v hi lo bN := ⟨_, rfl⟩
      rw [← hP] at HK HK4 ⊢
      clear k0 k4 hX2 hXl hN hlen hP
      obtain ⟨wv, hwv⟩ : ∃ wv, wv = wid v := ⟨_, rfl⟩
      rw [← hwv] at hT hW hb1 hw128
      clear hwv
      obtain ⟨p0, p1, p2, p3, p4⟩ := P0.out
      go_enter Try.func36, Try.ntmps36
      go_wp2_with fail
      generalize w.alloc (.cells #[.bool v, .int .u64 hi, .int .u64 lo, .int .i64 (bN : Int)] 26) = W0 at *
      refine (hC.out _).mono ?_
      clear p0 p1 p2 p3 p4
      rintro e w1 ⟨rfl, hb⟩
      replace B0 : Hid (Below w.heap.size w w1) := btr B0.out hb
      replace P0 : Hid (Has4 w1 w.heap.size v hi lo bN) := P0.out.below hb
      clear hb
      obtain ⟨p0, p1, p2, p3, p4⟩ := P0.out
      go_wp2_with fail
      have P0' : Hid (Has4 w1.drew w.heap.size v hi lo (bN : Int)) := P0.out.drew
      have B0' : Hid (Below w.heap.size w w1.drew) := B0.out.drew
      clear p0 p1 p2 p3 p4 P0 B0
      go_region_held3 (fun w' => (w'.cell? ⟨w.heap.size, 0, none⟩ = some (.bool v) ∧ w'.cell? ⟨w.heap.size, 1, none⟩ = some (.int .u64 hi) ∧ w'.cell? ⟨w.heap.size, 2, none⟩ = some (.int .u64 lo) ∧ w'.cell? ⟨w.heap.size, 3, none⟩ = some (.int .i64 (bN : Int)) ∧ w.heap.size < w'.heap.size) ∧ Below w.heap.size w w')
        (first | exact ⟨P0'.out, B0'.out⟩ | exact keep4b (by assumption) (by assumption) | assumption)
        (first
          | (go_at_call 53; refine (hW.out _).mono ?_; rintro e w3 ⟨rfl, hb⟩)
          | (go_at_call 24; refine (hT.out _).mono ?_; rintro e w4 ⟨rfl, rfl⟩))
      have HS : Has4 w4 w.heap.size v hi lo (bN : Int) ∧ Below w.heap.size w w4 := by assumption
      have P0 : Hid (Has4 w4 w.heap.size v hi lo (bN : Int)) := HS.1
      have B0 : Hid (Below w.heap.size w w4) := HS.2
      clear HS P0' B0'
      obtain ⟨p0, p1, p2, p3, p4⟩ := P0.out
      go_wp2_with fail
      refine (hX.out _).mono ?_
      clear p0 p1 p2 p3 p4
      rintro e w5 ⟨rfl, hb⟩
      replace B0 : Hid (Below w.heap.size w w5) := btr B0.out hb
      replace P0 : Hid (Has4 w5 w.heap.size v hi lo bN) := P0.out.below hb
      clear hb
      obtain ⟨p0, p1, p2, p3, p4⟩ := P0.out
      go_wp2_with fail
      go_loop [5] (fun vi => ∃ k : Nat, vi = .int .i64 k ∧ bN ≤ k ∧ k ≤ N ∧ Hid (∀ x ∈ (X.data.toList.drop bN).take (k - bN), x = 48))
        (fun vi => N - (intOf vi).toNat)
      case atStart => exact ⟨bN, rfl, Nat.le_refl _, hbN, by rw [Hid, Nat.sub_self, List.take_zero]; simp⟩
      case round =>
        obtain ⟨k, rfl, hbk, hk, hh⟩ := hrel
        have hN := HN.out
        by_cases hkN : k < N
        · have hks : k < X.size := by omega
          have hki : (k : Int) < (X.size : Int) := by omega
          have hk0 : (0 : Int) ≤ (k : Int) := by omega
          have hsk : X[k]? = some X[k] := by simp [hks]
          have hst : (X.data.toList.drop bN).take (k + 1 - bN) = (X.data.toList.drop bN).take (k - bN) ++ [X[k]] := by
            rw [show k + 1 - bN = (k - bN) + 1 by omega, List.take_succ_eq_append_getElem (by rw [List.length_drop]; omega), List.getElem_drop]
            congr 2
            rw [← data_get X k hks]
            congr 1; omega
          by_cases hx : X[k] = 48
          · have hxi : (X[k].toNat : Int) = 48 := by rw [hx]; rfl
            have HH : Hid (∀ x ∈ (X.data.toList.drop bN).take (k + 1 - bN), x = 48) := by
              intro x hm
              rw [hst] at hm
              rcases List.mem_append.1 hm with h | h
              · exact hh.out x h
              · simp at h; rw [h]; exact hx
            clear hst hh hx
            go_wp2_with fail
            exact ⟨⟨k + 1, by go_num, by omega, by omega, HH⟩, by simp [intOf]; omega⟩
          · have hxi : ¬ (X[k].toNat : Int) = 48 := fun e => hx (UInt8.toNat_inj.1 (by have : (48 : UInt8).toNat = 48 := rfl; omega))
            have hxb : ((X[k].toNat : Int) == 48) = false := by rw [beq_eq_false_iff_ne]; exact hxi
            have HP : Hid (P = 4) := HK4.out (fun h => hx (h _ (List.mem_of_mem_take (i := k + 1 - bN) (by rw [hst]; simp))))
            clear hst hh hx
            go_wp2_with fail
            rw [HP.out]
            go_ret
            exact ⟨rfl, B0.out⟩
        · have hki : ¬ (k : Int) < (X.size : Int) := by omega
          have HP : Hid (P = 0) := HK.out (by
            have := hh.out
            rw [List.take_of_length_le (by rw [List.length_drop]; omega)] at this
            exact this)
          clear hh
          go_wp2_with fail
          rw [HP.out]
          go_ret
          exact ⟨rfl, B0.out⟩
    · have hP : pchk v hi lo b = 3 := by rw [pchk, if_pos c, if_pos (by omega)]
      rw [hP]
      have hT : Hid (∀ w : World, Calls Try.prog 24 #[.int .i64 b, .int .i64 0, .int .i64 (wid v)] w fun e w' => e = .returned (.bool false) ∧ w' = w) := fun w => btw_out _ _ _ w (by omega)
      clear hP
      obtain ⟨wv, hwv⟩ : ∃ wv, wv = wid v := ⟨_, rfl⟩
      rw [← hwv] at hT hW
      clear hwv
      obtain ⟨p0, p1, p2, p3, p4⟩ := P0.out
      go_enter Try.func36, Try.ntmps36
      go_wp2_with fail
      generalize w.alloc (.cells #[.bool v, .int .u64 hi, .int .u64 lo, .int .i64 b] 26) = W0 at *
      refine (hC.out _).mono ?_
      clear p0 p1 p2 p3 p4
      rintro e w1 ⟨rfl, hb⟩
      replace B0 : Hid (Below w.heap.size w w1) := btr B0.out hb
      replace P0 : Hid (Has4 w1 w.heap.size v hi lo b) := P0.out.below hb
      clear hb
      obtain ⟨p0, p1, p2, p3, p4⟩ := P0.out
      go_wp2_with fail
      have P0' : Hid (Has4 w1.drew w.heap.size v hi lo b) := P0.out.drew
      have B0' : Hid (Below w.heap.size w w1.drew) := B0.out.drew
      clear p0 p1 p2 p3 p4 P0 B0
      go_region_held3 (fun w' => (w'.cell? ⟨w.heap.size, 0, none⟩ = some (.bool v) ∧ w'.cell? ⟨w.heap.size, 1, none⟩ = some (.int .u64 hi) ∧ w'.cell? ⟨w.heap.size, 2, none⟩ = some (.int .u64 lo) ∧ w'.cell? ⟨w.heap.size, 3, none⟩ = some (.int .i64 b) ∧ w.heap.size < w'.heap.size) ∧ Below w.heap.size w w')
        (first | exact ⟨P0'.out, B0'.out⟩ | exact keep4b (by assumption) (by assumption) | assumption)
        (first
          | (go_at_call 53; refine (hW.out _).mono ?_; rintro e w3 ⟨rfl, hb⟩)
          | (go_at_call 24; refine (hT.out _).mono ?_; rintro e w4 ⟨rfl, rfl⟩))
      have HS : Has4 w4 w.heap.size v hi lo b ∧ Below w.heap.size w w4 := by assumption
      have P0 : Hid (Has4 w4 w.heap.size v hi lo b) := HS.1
      have B0 : Hid (Below w.heap.size w w4) := HS.2
      clear HS P0' B0'
      go_wp2_with fail
      go_ret
      exact ⟨rfl, B0.out⟩
  · have hP : pchk v hi lo b = 3 := by rw [pchk, if_neg (by omega)]
    rw [hP]
    rw [c] at hC
    clear hP
    obtain ⟨p0, p1, p2, p3, p4⟩ := P0.out
    go_enter Try.func36, Try.ntmps36
    go_wp2_with fail
    generalize w.alloc (.cells #[.bool v, .int .u64 hi, .int .u64 lo, .int .i64 b] 26) = W0 at *
    refine (hC.out _).mono ?_
    clear p0 p1 p2 p3 p4
    rintro e w1 ⟨rfl, hb⟩
    replace B0 : Hid (Below w.heap.size w w1) := btr B0.out hb
    replace P0 : Hid (Has4 w1 w.heap.size v hi lo b) := P0.out.below hb
    clear hb
    go_wp2_with fail
    go_ret
    exact ⟨rfl, B0.out⟩

theorem div_same {A p q : Int} (hA : 0 < A) (hp : p % A = 0) : q / A = p / A ↔ p ≤ q ∧ q < p + A := by
  have h1 := Int.mul_ediv_add_emod p A
  have h2 := Int.mul_ediv_add_emod q A
  have h3 := Int.emod_nonneg q (Int.ne_of_gt hA)
  have h4 := Int.emod_lt_of_pos q hA
  constructor
  · intro h; rw [h] at h2; omega
  · rintro ⟨h5, h6⟩
    have e : q = (q - p) + A * (p / A) := by omega
    rw [e, Int.add_mul_ediv_left _ _ (Int.ne_of_gt hA), Int.ediv_eq_zero_of_lt (by omega) (by omega)]; omega

/-- Have the first bits of both the same? -/
theorem has_bits {v : Bool} {hi lo b : Nat} {u : Bool} {yi yo : Nat} {c : Int} (r : Right v hi lo b) (q : Right u yi yo c) :
    hasB v hi lo b u yi yo c = (decide ((b : Int) ≤ c) && ((v == u) && ((bitsT v hi lo).take b == (bitsT u yi yo).take b))) := by
  have h1 := r.h1
  have l1 := r.l1
  have h2 := q.h1
  have l2 := q.l1
  rw [Bool.eq_iff_iff, has_num r q]
  simp only [Bool.and_eq_true, decide_eq_true_eq, beq_iff_eq]
  constructor
  · rintro ⟨a1, rfl, a3, a4⟩
    refine ⟨a1, rfl, bin_inj _ _ (take_bin _ _ _ _) (take_bin _ _ _ _) (by rw [List.length_take, List.length_take, bitsT_length, bitsT_length]) ?_⟩
    have d1 := bits_div r.c (by omega) (by omega) r.b1
    have d2 := bits_div (b := b) q.c (by omega) (by omega) r.b1
    have := (div_same (amt_pos u b) r.al).2 ⟨a3, a4⟩
    rw [d1, d2] at this
    omega
  · rintro ⟨a1, rfl, a3⟩
    have d1 := bits_div r.c (by omega) (by omega) r.b1
    have d2 := bits_div (b := b) q.c (by omega) (by omega) r.b1
    have := (div_same (amt_pos v b) r.al).1 (d2.trans (by rw [← a3]; exact d1.symm))
    exact ⟨a1, rfl, this.1, this.2⟩

theorem keep43 {w W W' : World} {p q : Nat} {v : Bool} {hi lo b : Int} {x y z : Value}
    (h : Has4 W p v hi lo b ∧ Has3 W q x y z ∧ Below w.heap.size w W) (hb : Below W.heap.size W W') : Has4 W' p v hi lo b ∧ Has3 W' q x y z ∧ Below w.heap.size w W' :=
  ⟨h.1.below hb, h.2.1.below hb, btr h.2.2 hb⟩

set_option maxHeartbeats 8000000 in
set_option maxRecDepth 100000 in
theorem hasAddr_any (v : Bool) (hi lo b : Nat) (u : Bool) (yi yo : Nat) (w : World) (h1 : hi < 18446744073709551616) (l1 : lo < 18446744073709551616) (h2 : yi < 18446744073709551616) (l2 : yo < 18446744073709551616) (hb : (b : Int) ≤ wid v) :
    Calls Try.prog 26 #[.agg #[.bool v, .int .u64 hi, .int .u64 lo, .int .i64 (b : Int)], .agg #[.bool u, .int .u64 yi, .int .u64 yo]] w fun e w' => e = .returned (.bool ((v == u) && ((bitsT v hi lo).take b == (bitsT u yi yo).take b))) ∧ Below w.heap.size w w' := by
  have HB0 : Hid (Below w.heap.size w ((w.alloc (.cells #[.bool v, .int .u64 hi, .int .u64 lo, .int .i64 (b : Int)] 26)).alloc (.cells #[.bool u, .int .u64 yi, .int .u64 yo] 24))) := bal (bal (Below.refl _ _) _) _
  have q1 : (w.alloc (.cells #[.bool v, .int .u64 hi, .int .u64 lo, .int .i64 (b : Int)] 26)).heap.size = w.heap.size + 1 := by simp
  have P1 : Hid (Has4 ((w.alloc (.cells #[.bool v, .int .u64 hi, .int .u64 lo, .int .i64 (b : Int)] 26)).alloc (.cells #[.bool u, .int .u64 yi, .int .u64 yo] 24)) w.heap.size v hi lo b) := (Has4.new w _ _ _ _ _).alloc _
  have P2 : Hid (Has3 ((w.alloc (.cells #[.bool v, .int .u64 hi, .int .u64 lo, .int .i64 (b : Int)] 26)).alloc (.cells #[.bool u, .int .u64 yi, .int .u64 yo] 24)) (w.heap.size + 1) (.bool u) (.int .u64 yi) (.int .u64 yo)) := by
    have := Has3.new (w.alloc (.cells #[.bool v, .int .u64 hi, .int .u64 lo, .int .i64 (b : Int)] 26)) (.bool u) (.int .u64 yi) (.int .u64 yo) 24
    rw [q1] at this; exact this
  clear q1
  by_cases hvu : v = u
  · subst hvu
    rw [beq_self_eq_true, Bool.true_and]
    have hlen1 := bits_wid v hi lo
    have hlen2 := bits_wid v yi yo
    have hw128 : wid v ≤ 128 := by unfold wid; split <;> omega
    have HX : Hid (∀ (h l : Nat) (w : World), h < 18446744073709551616 → l < 18446744073709551616 → Calls Try.prog 46 #[.agg #[.bool v, .int .u64 h, .int .u64 l]] w fun e w' => e = .returned (.string ⟨(bitsT v h l).toArray⟩) ∧ Below w.heap.size w w') := fun h l w a b => bits_any v h l w a b
    have s1 : ∀ W : World, (Instr.sliceAt 9 (.string ⟨(bitsT v hi lo).toArray⟩) none (some (.int .i64 (b : Int))) none).run Try.prog W = .ok (.string ⟨((bitsT v hi lo).take b).toArray⟩) W := fun W =>
      str_to ⟨(bitsT v hi lo).toArray⟩ b W (by show b ≤ (bitsT v hi lo).toArray.size; rw [List.size_toArray]; omega) (by show (bitsT v hi lo).toArray.size ≤ _; rw [List.size_toArray]; omega)
    have s2 : ∀ W : World, (Instr.sliceAt 9 (.string ⟨(bitsT v yi yo).toArray⟩) none (some (.int .i64 (b : Int))) none).run Try.prog W = .ok (.string ⟨((bitsT v yi yo).take b).toArray⟩) W := fun W =>
      str_to ⟨(bitsT v yi yo).toArray⟩ b W (by show b ≤ (bitsT v yi yo).toArray.size; rw [List.size_toArray]; omega) (by show (bitsT v yi yo).toArray.size ≤ _; rw [List.size_toArray]; omega)
    go_enter Try.func26, Try.ntmps26
    go_wp2_with fail
    generalize (w.alloc (.cells #[.bool v, .int .u64 hi, .int .u64 lo, .int .i64 (b : Int)] 26)).alloc (.cells #[.bool v, .int .u64 yi, .int .u64 yo] 24) = W at *
    have P1' : Hid (Has4 W.drew w.heap.size v hi lo b) := P1.out
    have P2' : Hid (Has3 W.drew (w.heap.size + 1) (.bool v) (.int .u64 yi) (.int .u64 yo)) := P2.out
    have B' : Hid (Below w.heap.size w W.drew) := HB0.out.drew
    clear P1 P2 hlen1 hlen2
    go_region_held3 (fun w' => (w'.cell? ⟨w.heap.size, 0, none⟩ = some (.bool v) ∧ w'.cell? ⟨w.heap.size, 1, none⟩ = some (.int .u64 hi) ∧ w'.cell? ⟨w.heap.size, 2, none⟩ = some (.int .u64 lo) ∧ w'.cell? ⟨w.heap.size, 3, none⟩ = some (.int .i64 b) ∧ w.heap.size < w'.heap.size) ∧ (w'.cell? ⟨w.heap.size + 1, 0, none⟩ = some (.bool v) ∧ w'.cell? ⟨w.heap.size + 1, 1, none⟩ = some (.int .u64 yi) ∧ w'.cell? ⟨w.heap.size + 1, 2, none⟩ = some (.int .u64 yo) ∧ w.heap.size + 1 < w'.heap.size) ∧ Below w.heap.size w w')
      (first | exact ⟨P1'.out, P2'.out, B'.out⟩ | exact keep43 (by assumption) (by assumption))
      ((go_at_call 46; refine (HX.out _ _ _ (by assumption) (by assumption)).mono ?_; rintro e w3 ⟨rfl, hb⟩))
    have HS : Has4 w3 w.heap.size v hi lo b ∧ Has3 w3 (w.heap.size + 1) (.bool v) (.int .u64 yi) (.int .u64 yo) ∧ Below w.heap.size w w3 := by assumption
    go_wp2_with fail
    go_ret
    exact ⟨rfl, HS.2.2⟩
  · have hvd : (v == u) = false := by rw [beq_eq_false_iff_ne]; exact hvu
    rw [hvd, Bool.false_and]
    go_enter Try.func26, Try.ntmps26
    go_wp2_with fail
    go_region
    go_wp2_with fail
    go_ret
    exact ⟨rfl, HB0.out.drew⟩

end Go.Proofs.Ytiiankekobgebaa
