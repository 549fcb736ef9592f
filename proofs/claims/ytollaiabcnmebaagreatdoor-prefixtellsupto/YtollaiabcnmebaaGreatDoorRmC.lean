/- The document's answer: prefixes (several texts as one). -/
import Derived.Test.YtollaiabcnmebaaGreatDoorPfQ
import Derived.Test.YtollaiabcnmebaaGreatDoorPfH
import Derived.Test.YtollaiabcnmebaaGreatDoorRmB
import Derived.Test.YtollaiabcnmebaaGreatDoorRmA
import Derived.Test.YtollaiabcnmebaaGreatDoorPfD
import Derived.Test.YtollaiabcnmebaaGreatDoorPfG
import Derived.Test.YtollaiabcnmebaaGreatDoorPfF
import Derived.Test.YtollaiabcnmebaaGreatDoorPBb
set_option linter.unusedVariables false
set_option linter.unusedSimpArgs false
namespace Go.Proofs.YtollaiabcnmebaaGreatDoor

/-! A prefix that is printed is parsed as it was. -/
theorem idx1 : ∀ (t r : List UInt8), (47 : UInt8) ∉ t → Lib.index (t ++ 47 :: r) [47] = (t.length : Int)
  | [], r, _ => by simp [Lib.index, List.isPrefixOf]
  | b :: t, r, h => by
    have hb : b ≠ 47 := fun e => h (by simp [e])
    have ht : (47 : UInt8) ∉ t := fun e => h (List.mem_cons_of_mem _ e)
    have ih := idx1 t r ht
    rw [List.cons_append, Lib.index]
    have hp : ([47] : List UInt8).isPrefixOf (b :: (t ++ 47 :: r)) = false := by simp [List.isPrefixOf, Ne.symm hb]
    rw [hp, ih]
    have : (((t.length : Nat) : Int) == -1) = false := by rw [beq_eq_false_iff_ne]; omega
    simp [this]
theorem cut_slash (t r : List UInt8) (h : (47 : UInt8) ∉ t) : Lib.cut (t ++ [47] ++ r) [47] = (t, r, true) := by
  unfold Lib.cut
  rw [List.append_assoc, List.singleton_append, idx1 t r h, if_pos (by omega)]
  simp
theorem dec3_47 : ∀ n : Fin 256, (47 : UInt8) ∉ dec3 n.val := by decide +kernel
theorem hexd_47 : ∀ k : Fin 16, hexd k.val ≠ 47 := by decide +kernel
theorem hexs_47 (g : Nat) (h : g < 65536) : (47 : UInt8) ∉ hexs g := by
  have n : ∀ k, k < 16 → hexd k ≠ 47 := fun k hk => hexd_47 ⟨k, hk⟩
  have n1 := n (g % 16) (by omega)
  have n2 := n (g / 16 % 16) (by omega)
  have n3 := n (g / 16 / 16 % 16) (by omega)
  have n4 := n (g / 16 / 16 / 16) (by omega)
  unfold hexs
  split
  · have := n g (by omega)
    simp [Ne.symm this]
  · split
    · have := n (g / 16) (by omega)
      simp [Ne.symm this, Ne.symm n1]
    · split
      · have := n (g / 16 / 16) (by omega)
        simp [Ne.symm this, Ne.symm n1, Ne.symm n2]
      · simp [Ne.symm n1, Ne.symm n2, Ne.symm n3, Ne.symm n4]
theorem ptext_47 (gs : List Nat) (h : ∀ x ∈ gs, x < 65536) : (47 : UInt8) ∉ ptext gs := by
  unfold ptext
  refine join_mem 58 47 _ ?_ (by decide)
  intro w hw
  obtain ⟨g, hg, rfl⟩ := List.mem_map.1 hw
  exact hexs_47 g (h g hg)
theorem ptxt_47 (v : Bool) (hi lo : Int) (h0 : 0 ≤ hi) (l0 : 0 ≤ lo) : (47 : UInt8) ∉ ptxt v hi lo := by
  unfold ptxt
  split
  · cases v
    · rw [if_neg (by simp)]
      refine join_mem 46 47 _ ?_ (by decide)
      intro w hw
      obtain ⟨k, hk, rfl⟩ := four_mem hw
      rw [dec3_eq k (by omega)]
      exact dec3_47 ⟨k, hk⟩
    · rw [if_pos rfl]
      unfold psix
      have hl := grps_lt hi lo h0 l0
      split
      · exact ptext_47 _ hl
      · intro hm
        rcases List.mem_append.1 hm with hm | hm
        · rcases List.mem_append.1 hm with hm | hm
          · exact ptext_47 _ (fun x hx => hl x (List.mem_of_mem_take hx)) hm
          · simp at hm
        · exact ptext_47 _ (fun x hx => hl x (List.mem_of_mem_drop hx)) hm
  · simp
theorem dec3_four : ∀ n : Fin 129, nread (dec3 n.val) 4 = some n.val := by decide +kernel
theorem pfTxt_back (v : Bool) (hi lo b : Int) (h0 : 0 ≤ hi) (h1 : hi < 18446744073709551616) (l0 : 0 ≤ lo) (l1 : lo < 18446744073709551616) (c : chk v hi lo = 0) (b0 : 0 ≤ b) (b1 : b ≤ 128) :
    rform (pfTxt v hi lo b) = some (v, hi.toNat, lo.toNat, b.toNat) ∧ (pfTxt v hi lo b).length < 100 := by
  have hb := back_any v hi lo h0 h1 l0 l1 c
  have hn : nread (Lib.decDigits b.toNat) 4 = some b.toNat := by rw [dec3_eq _ (by omega)]; exact dec3_four ⟨b.toNat, by omega⟩
  have hl := decDigits_le b.toNat (by omega)
  constructor
  · unfold rform pfTxt
    rw [cut_slash _ _ (ptxt_47 v hi lo h0 l0)]
    simp only
    rw [if_neg (by simp), hb.1, hn]; rfl
  · unfold pfTxt
    simp only [List.length_append, List.length_cons, List.length_nil]
    omega

/-! Halves, by numbers. -/
theorem amt_half {v : Bool} {b : Int} (b0 : 0 ≤ b) (h : b < wid v) : amt v b = amt v (b + 1) * 2 := by
  unfold amt
  rw [show (wid v - b).toNat = (wid v - (b + 1)).toNat + 1 by omega, Int.pow_succ]
theorem right_low {v : Bool} {hi lo b : Int} (r : Right v hi lo b) (h : b < wid v) : Right v hi lo (b + 1) :=
  ⟨r.c, by have := r.b0; omega, by omega, r.h0, r.h1, r.l0, r.l1, mod_of (m := 2) (by rw [← amt_half r.b0 h]; exact r.al)⟩
/-- The greater half: its first address, and that it is right. -/
theorem great_num {v : Bool} {hi lo b : Int} (r : Right v hi lo b) (h : b < wid v) :
    num (fsH v (laH v hi b) (b + 1)) (fsL v (laL v lo b) (b + 1)) = num hi lo + amt v (b + 1) ∧ Right v (fsH v (laH v hi b) (b + 1)) (fsL v (laL v lo b) (b + 1)) (b + 1) := by
  obtain ⟨n1, c1, i1, l1⟩ := la_num r
  have b0 := r.b0
  have e := fs_num v (laH v hi b) (laL v lo b) (b + 1) c1 (by omega) (by omega) i1.1 i1.2 l1.1 l1.2
  have ap := amt_pos v (b + 1)
  have ah := amt_half b0 h
  have al := (right_low r h).al
  have hm : num (laH v hi b) (laL v lo b) % amt v (b + 1) = amt v (b + 1) - 1 := by
    rw [n1, ah]
    obtain ⟨k, hk⟩ := Int.dvd_of_emod_eq_zero al
    rw [hk, show amt v (b + 1) * k + amt v (b + 1) * 2 - 1 = (amt v (b + 1) - 1) + amt v (b + 1) * (k + 1) by rw [Int.mul_add]; omega, Int.add_mul_emod_self_left]
    exact Int.emod_eq_of_lt (by omega) (by omega)
  have e2 : num (fsH v (laH v hi b) (b + 1)) (fsL v (laL v lo b) (b + 1)) = num hi lo + amt v (b + 1) := by rw [e, hm, n1, ah]; omega
  have r1 : 0 ≤ fsH v (laH v hi b) (b + 1) ∧ fsH v (laH v hi b) (b + 1) < 18446744073709551616 := cut_rng _ i1.1 i1.2
  have r2 : 0 ≤ fsL v (laL v lo b) (b + 1) ∧ fsL v (laL v lo b) (b + 1) < 18446744073709551616 := cut_rng _ l1.1 l1.2
  have nt := num_top c1 i1.1 i1.2 l1.1 l1.2
  refine ⟨e2, chk_top r1.1 r2.1 (by rw [e2]; rw [n1, ah] at nt; omega), by omega, by omega, r1.1, r1.2, r2.1, r2.2, ?_⟩
  rw [e2]
  exact mod_add al (by have := Int.mul_emod_right (amt v (b + 1)) 1; rwa [Int.mul_one] at this)

/-- The next address of one that is not the last one, by its number. -/
theorem next_num {v : Bool} {h l gh gl : Int} (c : chk v h l = 0) (i : 0 ≤ h ∧ h < 18446744073709551616) (j : 0 ≤ l ∧ l < 18446744073709551616) (g1 : 0 ≤ gl ∧ gl < 18446744073709551616) (gc : num gh gl < top v) (e : num gh gl = num h l + 1) :
    nxV v h l = v ∧ nxH v h l = gh ∧ nxL v h l = gl ∧ nxB v h l = true := by
  have hl : isLast v h l = false := by
    cases hh : isLast v h l with
    | false => rfl
    | true =>
      simp only [isLast, eqA, beq_self_eq_true, Bool.true_and, Bool.and_eq_true, beq_iff_eq] at hh
      rw [hh.1, hh.2] at e
      cases v
      · have : top false = 4294967296 := by decide
        simp [mxH, mxL, num] at e
        unfold num at gc
        omega
      · have : top true = 340282366920938463463374607431768211456 := by decide
        simp [mxH, mxL, num] at e
        unfold num at gc
        omega
  have e2 : nxH v h l = h + (l + 1) / 18446744073709551616 := by simp [nxH, c, hl]
  have e3 : nxL v h l = (l + 1) % 18446744073709551616 := by simp [nxL, c, hl]
  refine ⟨by simp [nxV, c, hl], ?_, ?_, by simp [nxB, c, hl]⟩
  · rw [e2]; unfold num at e; omega
  · rw [e3]; unfold num at e; omega
end Go.Proofs.YtollaiabcnmebaaGreatDoor

namespace Go.Proofs.YtollaiabcnmebaaGreatDoor

theorem right_nat {v : Bool} {hi lo : Nat} (c : chk v hi lo = 0) : v = true ∨ (hi = 0 ∧ lo ≤ 4294967295) := by
  rcases chk_cases v hi lo with ⟨_, h⟩ | h
  · exact h.imp id fun ⟨x, y⟩ => ⟨by omega, by omega⟩
  · omega
theorem bits_wid (v : Bool) (hi lo : Nat) : ((bitsT v hi lo).length : Int) = wid v := by rw [bitsT_length, wid]; cases v <;> rfl
theorem bits_num {v : Bool} {hi lo : Nat} (c : chk v hi lo = 0) (h1 : hi < 18446744073709551616) (l1 : lo < 18446744073709551616) : ((vbin 0 (bitsT v hi lo) : Nat) : Int) = num hi lo := by
  rw [bitsT_num v hi lo h1 l1 (right_nat c), num]; simp
theorem amt_nat (v : Bool) (hi lo b : Nat) (hb : (b : Int) ≤ wid v) : amt v b = ((2 ^ ((bitsT v hi lo).drop b).length : Nat) : Int) := by
  have h := bits_wid v hi lo
  rw [amt, List.length_drop, show (wid v - (b : Int)).toNat = (bitsT v hi lo).length - b by omega]; simp
theorem bits_mod {v : Bool} {hi lo b : Nat} (c : chk v hi lo = 0) (h1 : hi < 18446744073709551616) (l1 : lo < 18446744073709551616) (hb : (b : Int) ≤ wid v) :
    num hi lo % amt v b = ((vbin 0 ((bitsT v hi lo).drop b) : Nat) : Int) := by
  rw [← bits_num c h1 l1, amt_nat v hi lo b hb, ← Int.natCast_emod, (vbin_div _ b).2]
theorem bits_div {v : Bool} {hi lo b : Nat} (c : chk v hi lo = 0) (h1 : hi < 18446744073709551616) (l1 : lo < 18446744073709551616) (hb : (b : Int) ≤ wid v) :
    num hi lo / amt v b = ((vbin 0 ((bitsT v hi lo).take b) : Nat) : Int) := by
  rw [← bits_num c h1 l1, amt_nat v hi lo b hb, ← Int.natCast_ediv, (vbin_div _ b).1]
theorem drop_bin (v : Bool) (hi lo b : Nat) : IsBin ((bitsT v hi lo).drop b) := fun c hc => bitsT_bin v hi lo c (List.mem_of_mem_drop hc)
theorem take_bin (v : Bool) (hi lo b : Nat) : IsBin ((bitsT v hi lo).take b) := fun c hc => bitsT_bin v hi lo c (List.mem_of_mem_take hc)

theorem pchk_bits {v : Bool} {hi lo b : Nat} (c : chk v hi lo = 0) (h1 : hi < 18446744073709551616) (l1 : lo < 18446744073709551616) (hb : (b : Int) ≤ wid v) :
    ((∀ x ∈ (bitsT v hi lo).drop b, x = 48) → pchk v hi lo b = 0) ∧ ((¬ ∀ x ∈ (bitsT v hi lo).drop b, x = 48) → pchk v hi lo b = 4) := by
  have hm := bits_mod c h1 l1 hb
  have hz := vbin_zero _ (drop_bin v hi lo b)
  have hr := right_iff v hi lo b (by omega) (by omega) (by omega) (by omega)
  constructor
  · intro h
    rw [hr]
    refine ⟨c, by omega, hb, by omega, by omega, by omega, by omega, ?_⟩
    rw [hm, hz.2 h]; rfl
  · intro h
    rcases pchk_cases v hi lo b with ⟨k, _⟩ | k | k
    · exfalso
      apply h
      apply hz.1
      have := (hr.1 k).al
      rw [hm] at this
      omega
    · exfalso
      unfold pchk at k
      rw [if_pos c, if_neg (by omega)] at k
      split at k <;> omega
    · exact k
theorem right_bits {v : Bool} {hi lo b : Nat} (r : Right v hi lo b) : ∀ x ∈ (bitsT v hi lo).drop b, x = 48 := by
  have h1 := r.h1
  have l1 := r.l1
  have hm := bits_mod r.c (by omega) (by omega) r.b1
  rw [r.al] at hm
  exact (vbin_zero _ (drop_bin v hi lo b)).1 (by omega)
/-- What AddrOf makes of so many bits that tell a number is that number's address. -/
theorem parts_addr {v : Bool} {R : List UInt8} {x y : Int} (hl : (R.length : Int) = wid v) (x0 : 0 ≤ x) (y0 : 0 ≤ y) (y1 : y < 18446744073709551616) (hn : num x y = ((vbin 0 R : Nat) : Int)) :
    decide (R.length = 128) = v ∧ x = ((vbin 0 (R.take (R.length - 64)) : Nat) : Int) ∧ y = ((vbin 0 (R.drop (R.length - 64)) : Nat) : Int) := by
  have h2 : R.length = 128 ∨ R.length = 32 := by unfold wid at hl; split at hl <;> omega
  obtain ⟨p1, p2, p3⟩ := parts_num R h2
  refine ⟨by unfold wid at hl; cases v <;> simp at hl ⊢ <;> omega, ?_⟩
  refine num_inj y0 y1 (by omega) (by omega) ?_
  rw [hn, num, ← p1]; simp
end Go.Proofs.YtollaiabcnmebaaGreatDoor

namespace Go.Proofs.YtollaiabcnmebaaGreatDoor
open Go.RowKit

theorem rwide_any (v : Bool) (hi lo : Int) (w : World) :
    Calls Tryz.prog 30 #[.agg #[.bool v, .int .u64 hi, .int .u64 lo]] w fun e w' => e = .returned (.int .i64 (wid v)) ∧ Below w.heap.size w w' := by
  have B0 : Hid (Below w.heap.size w (w.alloc (.cells #[.bool v, .int .u64 hi, .int .u64 lo] 24))) := bal (Below.refl _ _) _
  cases v
  all_goals
    go_enter Tryz.func30, Tryz.ntmps30
    go_wp2
    go_ret
    exact ⟨rfl, B0.out⟩

set_option maxHeartbeats 8000000 in
set_option maxRecDepth 100000 in
theorem rpcheck_nat (v : Bool) (hi lo : Nat) (b : Int) (w : World) (h1 : hi < 18446744073709551616) (l1 : lo < 18446744073709551616) :
    Calls Tryz.prog 10 #[.agg #[.bool v, .int .u64 hi, .int .u64 lo, .int .i64 b]] w fun e w' => e = .returned (.int .i64 (pchk v hi lo b)) ∧ Below w.heap.size w w' := by
  have hC : Hid (∀ w : World, Calls Tryz.prog 28 #[.agg #[.bool v, .int .u64 (hi : Int), .int .u64 (lo : Int)]] w fun e w' => e = .returned (.int .i64 (chk v hi lo)) ∧ Below w.heap.size w w') := fun w => rcheck_any v hi lo w (by omega) (by omega)
  have hW : Hid (∀ w : World, Calls Tryz.prog 30 #[.agg #[.bool v, .int .u64 (hi : Int), .int .u64 (lo : Int)]] w fun e w' => e = .returned (.int .i64 (wid v)) ∧ Below w.heap.size w w') := fun w => rwide_any v hi lo w
  have hX : Hid (∀ w : World, Calls Tryz.prog 13 #[.agg #[.bool v, .int .u64 (hi : Int), .int .u64 (lo : Int)]] w fun e w' => e = .returned (.string ⟨(bitsT v hi lo).toArray⟩) ∧ Below w.heap.size w w') := fun w => bits_any v hi lo w h1 l1
  have B0 : Hid (Below w.heap.size w (w.alloc (.cells #[.bool v, .int .u64 hi, .int .u64 lo, .int .i64 b] 26))) := bal (Below.refl _ _) _
  have P0 : Hid (Has4 (w.alloc (.cells #[.bool v, .int .u64 hi, .int .u64 lo, .int .i64 b] 26)) w.heap.size v hi lo b) := Has4.new _ _ _ _ _ _
  rcases chk_cases v hi lo with ⟨c, _⟩ | c
  · rw [c] at hC
    by_cases hb : 0 ≤ b ∧ b ≤ wid v
    · obtain ⟨hb0, hb1⟩ := hb
      have hT : Hid (∀ w : World, Calls Tryz.prog 29 #[.int .i64 b, .int .i64 0, .int .i64 (wid v)] w fun e w' => e = .returned (.bool true) ∧ w' = w) := fun w => btw_in _ _ _ w hb0 hb1
      obtain ⟨bN, rfl⟩ := Int.eq_ofNat_of_zero_le hb0
      obtain ⟨k0, k4⟩ := pchk_bits c h1 l1 hb1
      have hlen := bits_wid v hi lo
      have hw128 : wid v ≤ 128 := by unfold wid; split <;> omega
      obtain ⟨X, hX2⟩ : ∃ X : ByteArray, X = ⟨(bitsT v hi lo).toArray⟩ := ⟨_, rfl⟩
      have hXl : X.data.toList = bitsT v hi lo := by rw [hX2]
      have hXs := size_list X
      rw [← hX2] at hX
      rw [← hXl] at k0 k4 hlen
      have HK : Hid ((∀ x ∈ X.data.toList.drop bN, x = 48) → pchk v hi lo bN = 0) := k0
      have HK4 : Hid ((¬ ∀ x ∈ X.data.toList.drop bN, x = 48) → pchk v hi lo bN = 4) := k4
      have HXB : Hid (IsBin X.data.toList) := by rw [hXl]; exact bitsT_bin v hi lo
      obtain ⟨N, hN⟩ : ∃ N, N = X.size := ⟨_, rfl⟩
      have HN : Hid (N = X.size) := hN
      have hN128 : N ≤ 128 := by omega
      have hbN : bN ≤ N := by omega
      obtain ⟨P, hP⟩ : ∃ P, P = pchk v hi lo bN := ⟨_, rfl⟩
      rw [← hP] at HK HK4 ⊢
      clear k0 k4 hX2 hXl hN hlen hP
      obtain ⟨wv, hwv⟩ : ∃ wv, wv = wid v := ⟨_, rfl⟩
      rw [← hwv] at hT hW hb1 hw128
      clear hwv
      obtain ⟨p0, p1, p2, p3, p4⟩ := P0.out
      go_enter Tryz.func10, Tryz.ntmps10
      go_wp2_with fail
      generalize w.alloc (.cells #[.bool v, .int .u64 hi, .int .u64 lo, .int .i64 (bN : Int)] 26) = W0 at *
      refine (hC.out _).mono ?_
      clear p0 p1 p2 p3 p4
      rintro e w1 ⟨rfl, hb⟩
      replace B0 : Hid (Below w.heap.size w w1) := btr B0.out hb
      replace P0 : Hid (Has4 w1 w.heap.size v hi lo bN) := P0.out.below hb
      clear hb
      obtain ⟨p0, p1, p2, p3, p4⟩ := P0.out
      go_wp2_with fail
      have P0' : Hid (Has4 w1.drew w.heap.size v hi lo (bN : Int)) := P0.out.drew
      have B0' : Hid (Below w.heap.size w w1.drew) := B0.out.drew
      clear p0 p1 p2 p3 p4 P0 B0
      go_region_held3 (fun w' => (w'.cell? ⟨w.heap.size, 0, none⟩ = some (.bool v) ∧ w'.cell? ⟨w.heap.size, 1, none⟩ = some (.int .u64 hi) ∧ w'.cell? ⟨w.heap.size, 2, none⟩ = some (.int .u64 lo) ∧ w'.cell? ⟨w.heap.size, 3, none⟩ = some (.int .i64 (bN : Int)) ∧ w.heap.size < w'.heap.size) ∧ Below w.heap.size w w')
        (first | exact ⟨P0'.out, B0'.out⟩ | exact keep4b (by assumption) (by assumption) | assumption)
        (first
          | (go_at_call 30; refine (hW.out _).mono ?_; rintro e w3 ⟨rfl, hb⟩)
          | (go_at_call 29; refine (hT.out _).mono ?_; rintro e w4 ⟨rfl, rfl⟩))
      have HS : Has4 w4 w.heap.size v hi lo (bN : Int) ∧ Below w.heap.size w w4 := by assumption
      have P0 : Hid (Has4 w4 w.heap.size v hi lo (bN : Int)) := HS.1
      have B0 : Hid (Below w.heap.size w w4) := HS.2
      clear HS P0' B0'
      obtain ⟨p0, p1, p2, p3, p4⟩ := P0.out
      go_wp2_with fail
      refine (hX.out _).mono ?_
      clear p0 p1 p2 p3 p4
      rintro e w5 ⟨rfl, hb⟩
      replace B0 : Hid (Below w.heap.size w w5) := btr B0.out hb
      replace P0 : Hid (Has4 w5 w.heap.size v hi lo bN) := P0.out.below hb
      clear hb
      obtain ⟨p0, p1, p2, p3, p4⟩ := P0.out
      go_wp2_with fail
      go_loop [5] (fun vi => ∃ k : Nat, vi = .int .i64 k ∧ bN ≤ k ∧ k ≤ N ∧ Hid (∀ x ∈ (X.data.toList.drop bN).take (k - bN), x = 48))
        (fun vi => N - (intOf vi).toNat)
      case atStart => exact ⟨bN, rfl, Nat.le_refl _, hbN, by rw [Hid, Nat.sub_self, List.take_zero]; simp⟩
      case round =>
        obtain ⟨k, rfl, hbk, hk, hh⟩ := hrel
        have hN := HN.out
        by_cases hkN : k < N
        · have hks : k < X.size := by omega
          have hki : (k : Int) < (X.size : Int) := by omega
          have hk0 : (0 : Int) ≤ (k : Int) := by omega
          have hsk : X[k]? = some X[k] := by simp [hks]
          have hst : (X.data.toList.drop bN).take (k + 1 - bN) = (X.data.toList.drop bN).take (k - bN) ++ [X[k]] := by
            rw [show k + 1 - bN = (k - bN) + 1 by omega, List.take_succ_eq_append_getElem (by rw [List.length_drop]; omega), List.getElem_drop]
            congr 2
            rw [← data_get X k hks]
            congr 1; omega
          by_cases hx : X[k] = 48
          · have hxi : (X[k].toNat : Int) = 48 := by rw [hx]; rfl
            have HH : Hid (∀ x ∈ (X.data.toList.drop bN).take (k + 1 - bN), x = 48) := by
              intro x hm
              rw [hst] at hm
              rcases List.mem_append.1 hm with h | h
              · exact hh.out x h
              · simp at h; rw [h]; exact hx
            clear hst hh hx
            go_wp2_with fail
            exact ⟨⟨k + 1, by go_num, by omega, by omega, HH⟩, by simp [intOf]; omega⟩
          · have hxi : ¬ (X[k].toNat : Int) = 48 := fun e => hx (UInt8.toNat_inj.1 (by have : (48 : UInt8).toNat = 48 := rfl; omega))
            have hxb : ((X[k].toNat : Int) == 48) = false := by rw [beq_eq_false_iff_ne]; exact hxi
            have HP : Hid (P = 4) := HK4.out (fun h => hx (h _ (List.mem_of_mem_take (i := k + 1 - bN) (by rw [hst]; simp))))
            clear hst hh hx
            go_wp2_with fail
            rw [HP.out]
            go_ret
            exact ⟨rfl, B0.out⟩
        · have hki : ¬ (k : Int) < (X.size : Int) := by omega
          have HP : Hid (P = 0) := HK.out (by
            have := hh.out
            rw [List.take_of_length_le (by rw [List.length_drop]; omega)] at this
            exact this)
          clear hh
          go_wp2_with fail
          rw [HP.out]
          go_ret
          exact ⟨rfl, B0.out⟩
    · have hP : pchk v hi lo b = 3 := by rw [pchk, if_pos c, if_pos (by omega)]
      rw [hP]
      have hT : Hid (∀ w : World, Calls Tryz.prog 29 #[.int .i64 b, .int .i64 0, .int .i64 (wid v)] w fun e w' => e = .returned (.bool false) ∧ w' = w) := fun w => btw_out _ _ _ w (by omega)
      clear hP
      obtain ⟨wv, hwv⟩ : ∃ wv, wv = wid v := ⟨_, rfl⟩
      rw [← hwv] at hT hW
      clear hwv
      obtain ⟨p0, p1, p2, p3, p4⟩ := P0.out
      go_enter Tryz.func10, Tryz.ntmps10
      go_wp2_with fail
      generalize w.alloc (.cells #[.bool v, .int .u64 hi, .int .u64 lo, .int .i64 b] 26) = W0 at *
      refine (hC.out _).mono ?_
      clear p0 p1 p2 p3 p4
      rintro e w1 ⟨rfl, hb⟩
      replace B0 : Hid (Below w.heap.size w w1) := btr B0.out hb
      replace P0 : Hid (Has4 w1 w.heap.size v hi lo b) := P0.out.below hb
      clear hb
      obtain ⟨p0, p1, p2, p3, p4⟩ := P0.out
      go_wp2_with fail
      have P0' : Hid (Has4 w1.drew w.heap.size v hi lo b) := P0.out.drew
      have B0' : Hid (Below w.heap.size w w1.drew) := B0.out.drew
      clear p0 p1 p2 p3 p4 P0 B0
      go_region_held3 (fun w' => (w'.cell? ⟨w.heap.size, 0, none⟩ = some (.bool v) ∧ w'.cell? ⟨w.heap.size, 1, none⟩ = some (.int .u64 hi) ∧ w'.cell? ⟨w.heap.size, 2, none⟩ = some (.int .u64 lo) ∧ w'.cell? ⟨w.heap.size, 3, none⟩ = some (.int .i64 b) ∧ w.heap.size < w'.heap.size) ∧ Below w.heap.size w w')
        (first | exact ⟨P0'.out, B0'.out⟩ | exact keep4b (by assumption) (by assumption) | assumption)
        (first
          | (go_at_call 30; refine (hW.out _).mono ?_; rintro e w3 ⟨rfl, hb⟩)
          | (go_at_call 29; refine (hT.out _).mono ?_; rintro e w4 ⟨rfl, rfl⟩))
      have HS : Has4 w4 w.heap.size v hi lo b ∧ Below w.heap.size w w4 := by assumption
      have P0 : Hid (Has4 w4 w.heap.size v hi lo b) := HS.1
      have B0 : Hid (Below w.heap.size w w4) := HS.2
      clear HS P0' B0'
      go_wp2_with fail
      go_ret
      exact ⟨rfl, B0.out⟩
  · have hP : pchk v hi lo b = 3 := by rw [pchk, if_neg (by omega)]
    rw [hP]
    rw [c] at hC
    clear hP
    obtain ⟨p0, p1, p2, p3, p4⟩ := P0.out
    go_enter Tryz.func10, Tryz.ntmps10
    go_wp2_with fail
    generalize w.alloc (.cells #[.bool v, .int .u64 hi, .int .u64 lo, .int .i64 b] 26) = W0 at *
    refine (hC.out _).mono ?_
    clear p0 p1 p2 p3 p4
    rintro e w1 ⟨rfl, hb⟩
    replace B0 : Hid (Below w.heap.size w w1) := btr B0.out hb
    replace P0 : Hid (Has4 w1 w.heap.size v hi lo b) := P0.out.below hb
    clear hb
    go_wp2_with fail
    go_ret
    exact ⟨rfl, B0.out⟩
end Go.Proofs.YtollaiabcnmebaaGreatDoor

namespace Go.Proofs.YtollaiabcnmebaaGreatDoor
open Go.RowKit

theorem div_same {A p q : Int} (hA : 0 < A) (hp : p % A = 0) : q / A = p / A ↔ p ≤ q ∧ q < p + A := by
  have h1 := Int.mul_ediv_add_emod p A
  have h2 := Int.mul_ediv_add_emod q A
  have h3 := Int.emod_nonneg q (Int.ne_of_gt hA)
  have h4 := Int.emod_lt_of_pos q hA
  constructor
  · intro h; rw [h] at h2; omega
  · rintro ⟨h5, h6⟩
    have e : q = (q - p) + A * (p / A) := by omega
    rw [e, Int.add_mul_ediv_left _ _ (Int.ne_of_gt hA), Int.ediv_eq_zero_of_lt (by omega) (by omega)]; omega

/-- Have the first bits of both the same? -/
theorem has_bits {v : Bool} {hi lo b : Nat} {u : Bool} {yi yo : Nat} {c : Int} (r : Right v hi lo b) (q : Right u yi yo c) :
    hasB v hi lo b u yi yo c = (decide ((b : Int) ≤ c) && ((v == u) && ((bitsT v hi lo).take b == (bitsT u yi yo).take b))) := by
  have h1 := r.h1
  have l1 := r.l1
  have h2 := q.h1
  have l2 := q.l1
  rw [Bool.eq_iff_iff, has_num r q]
  simp only [Bool.and_eq_true, decide_eq_true_eq, beq_iff_eq]
  constructor
  · rintro ⟨a1, rfl, a3, a4⟩
    refine ⟨a1, rfl, bin_inj _ _ (take_bin _ _ _ _) (take_bin _ _ _ _) (by rw [List.length_take, List.length_take, bitsT_length, bitsT_length]) ?_⟩
    have d1 := bits_div r.c (by omega) (by omega) r.b1
    have d2 := bits_div (b := b) q.c (by omega) (by omega) r.b1
    have := (div_same (amt_pos u b) r.al).2 ⟨a3, a4⟩
    rw [d1, d2] at this
    omega
  · rintro ⟨a1, rfl, a3⟩
    have d1 := bits_div r.c (by omega) (by omega) r.b1
    have d2 := bits_div (b := b) q.c (by omega) (by omega) r.b1
    have := (div_same (amt_pos v b) r.al).1 (d2.trans (by rw [← a3]; exact d1.symm))
    exact ⟨a1, rfl, this.1, this.2⟩

theorem keep43 {w W W' : World} {p q : Nat} {v : Bool} {hi lo b : Int} {x y z : Value}
    (h : Has4 W p v hi lo b ∧ Has3 W q x y z ∧ Below w.heap.size w W) (hb : Below W.heap.size W W') : Has4 W' p v hi lo b ∧ Has3 W' q x y z ∧ Below w.heap.size w W' :=
  ⟨h.1.below hb, h.2.1.below hb, btr h.2.2 hb⟩

set_option maxHeartbeats 8000000 in
set_option maxRecDepth 100000 in
theorem hasAddr_any (v : Bool) (hi lo b : Nat) (u : Bool) (yi yo : Nat) (w : World) (h1 : hi < 18446744073709551616) (l1 : lo < 18446744073709551616) (h2 : yi < 18446744073709551616) (l2 : yo < 18446744073709551616) (hb : (b : Int) ≤ wid v) :
    Calls Tryz.prog 41 #[.agg #[.bool v, .int .u64 hi, .int .u64 lo, .int .i64 (b : Int)], .agg #[.bool u, .int .u64 yi, .int .u64 yo]] w fun e w' => e = .returned (.bool ((v == u) && ((bitsT v hi lo).take b == (bitsT u yi yo).take b))) ∧ Below w.heap.size w w' := by
  have HB0 : Hid (Below w.heap.size w ((w.alloc (.cells #[.bool v, .int .u64 hi, .int .u64 lo, .int .i64 (b : Int)] 26)).alloc (.cells #[.bool u, .int .u64 yi, .int .u64 yo] 24))) := bal (bal (Below.refl _ _) _) _
  have q1 : (w.alloc (.cells #[.bool v, .int .u64 hi, .int .u64 lo, .int .i64 (b : Int)] 26)).heap.size = w.heap.size + 1 := by simp
  have P1 : Hid (Has4 ((w.alloc (.cells #[.bool v, .int .u64 hi, .int .u64 lo, .int .i64 (b : Int)] 26)).alloc (.cells #[.bool u, .int .u64 yi, .int .u64 yo] 24)) w.heap.size v hi lo b) := (Has4.new w _ _ _ _ _).alloc _
  have P2 : Hid (Has3 ((w.alloc (.cells #[.bool v, .int .u64 hi, .int .u64 lo, .int .i64 (b : Int)] 26)).alloc (.cells #[.bool u, .int .u64 yi, .int .u64 yo] 24)) (w.heap.size + 1) (.bool u) (.int .u64 yi) (.int .u64 yo)) := by
    have := Has3.new (w.alloc (.cells #[.bool v, .int .u64 hi, .int .u64 lo, .int .i64 (b : Int)] 26)) (.bool u) (.int .u64 yi) (.int .u64 yo) 24
    rw [q1] at this; exact this
  clear q1
  by_cases hvu : v = u
  · subst hvu
    rw [beq_self_eq_true, Bool.true_and]
    have hlen1 := bits_wid v hi lo
    have hlen2 := bits_wid v yi yo
    have hw128 : wid v ≤ 128 := by unfold wid; split <;> omega
    have HX : Hid (∀ (h l : Nat) (w : World), h < 18446744073709551616 → l < 18446744073709551616 → Calls Tryz.prog 13 #[.agg #[.bool v, .int .u64 h, .int .u64 l]] w fun e w' => e = .returned (.string ⟨(bitsT v h l).toArray⟩) ∧ Below w.heap.size w w') := fun h l w a b => bits_any v h l w a b
    have s1 : ∀ W : World, (Instr.sliceAt 9 (.string ⟨(bitsT v hi lo).toArray⟩) none (some (.int .i64 (b : Int))) none).run Tryz.prog W = .ok (.string ⟨((bitsT v hi lo).take b).toArray⟩) W := fun W =>
      str_to ⟨(bitsT v hi lo).toArray⟩ b W (by show b ≤ (bitsT v hi lo).toArray.size; rw [List.size_toArray]; omega) (by show (bitsT v hi lo).toArray.size ≤ _; rw [List.size_toArray]; omega)
    have s2 : ∀ W : World, (Instr.sliceAt 9 (.string ⟨(bitsT v yi yo).toArray⟩) none (some (.int .i64 (b : Int))) none).run Tryz.prog W = .ok (.string ⟨((bitsT v yi yo).take b).toArray⟩) W := fun W =>
      str_to ⟨(bitsT v yi yo).toArray⟩ b W (by show b ≤ (bitsT v yi yo).toArray.size; rw [List.size_toArray]; omega) (by show (bitsT v yi yo).toArray.size ≤ _; rw [List.size_toArray]; omega)
    go_enter Tryz.func41, Tryz.ntmps41
    go_wp2_with fail
    generalize (w.alloc (.cells #[.bool v, .int .u64 hi, .int .u64 lo, .int .i64 (b : Int)] 26)).alloc (.cells #[.bool v, .int .u64 yi, .int .u64 yo] 24) = W at *
    have P1' : Hid (Has4 W.drew w.heap.size v hi lo b) := P1.out
    have P2' : Hid (Has3 W.drew (w.heap.size + 1) (.bool v) (.int .u64 yi) (.int .u64 yo)) := P2.out
    have B' : Hid (Below w.heap.size w W.drew) := HB0.out.drew
    clear P1 P2 hlen1 hlen2
    go_region_held3 (fun w' => (w'.cell? ⟨w.heap.size, 0, none⟩ = some (.bool v) ∧ w'.cell? ⟨w.heap.size, 1, none⟩ = some (.int .u64 hi) ∧ w'.cell? ⟨w.heap.size, 2, none⟩ = some (.int .u64 lo) ∧ w'.cell? ⟨w.heap.size, 3, none⟩ = some (.int .i64 b) ∧ w.heap.size < w'.heap.size) ∧ (w'.cell? ⟨w.heap.size + 1, 0, none⟩ = some (.bool v) ∧ w'.cell? ⟨w.heap.size + 1, 1, none⟩ = some (.int .u64 yi) ∧ w'.cell? ⟨w.heap.size + 1, 2, none⟩ = some (.int .u64 yo) ∧ w.heap.size + 1 < w'.heap.size) ∧ Below w.heap.size w w')
      (first | exact ⟨P1'.out, P2'.out, B'.out⟩ | exact keep43 (by assumption) (by assumption))
      ((go_at_call 13; refine (HX.out _ _ _ (by assumption) (by assumption)).mono ?_; rintro e w3 ⟨rfl, hb⟩))
    have HS : Has4 w3 w.heap.size v hi lo b ∧ Has3 w3 (w.heap.size + 1) (.bool v) (.int .u64 yi) (.int .u64 yo) ∧ Below w.heap.size w w3 := by assumption
    go_wp2_with fail
    go_ret
    exact ⟨rfl, HS.2.2⟩
  · have hvd : (v == u) = false := by rw [beq_eq_false_iff_ne]; exact hvu
    rw [hvd, Bool.false_and]
    go_enter Tryz.func41, Tryz.ntmps41
    go_wp2_with fail
    go_region
    go_wp2_with fail
    go_ret
    exact ⟨rfl, HB0.out.drew⟩

set_option maxHeartbeats 8000000 in
set_option maxRecDepth 100000 in
theorem hasPrefix_any (v : Bool) (hi lo b : Nat) (u : Bool) (yi yo : Nat) (c : Int) (w : World) (r : Right v hi lo b) (q : Right u yi yo c) :
    Calls Tryz.prog 19 #[.agg #[.bool v, .int .u64 hi, .int .u64 lo, .int .i64 (b : Int)], .agg #[.bool u, .int .u64 yi, .int .u64 yo, .int .i64 c]] w fun e w' => e = .returned (.bool (hasB v hi lo b u yi yo c)) ∧ Below w.heap.size w w' := by
  have h1 := r.h1
  have l1 := r.l1
  have h2 := q.h1
  have l2 := q.l1
  rw [has_bits r q]
  have HA : Hid (∀ w : World, Calls Tryz.prog 41 #[.agg #[.bool v, .int .u64 hi, .int .u64 lo, .int .i64 (b : Int)], .agg #[.bool u, .int .u64 yi, .int .u64 yo]] w fun e w' => e = .returned (.bool ((v == u) && ((bitsT v hi lo).take b == (bitsT u yi yo).take b))) ∧ Below w.heap.size w w') := fun w => hasAddr_any v hi lo b u yi yo w (by omega) (by omega) (by omega) (by omega) r.b1
  generalize ((v == u) && ((bitsT v hi lo).take b == (bitsT u yi yo).take b)) = R at *
  have HB0 : Hid (Below w.heap.size w ((w.alloc (.cells #[.bool v, .int .u64 hi, .int .u64 lo, .int .i64 (b : Int)] 26)).alloc (.cells #[.bool u, .int .u64 yi, .int .u64 yo, .int .i64 c] 26))) := bal (bal (Below.refl _ _) _) _
  by_cases hbc : (b : Int) ≤ c
  · rw [decide_eq_true hbc, Bool.true_and]
    have hd : decide ((b : Int) ≤ c) = true := decide_eq_true hbc
    clear r q h1 l1 h2 l2
    go_enter Tryz.func19, Tryz.ntmps19
    go_wp2_with fail
    refine (HA.out _).mono ?_
    rintro e w1 ⟨rfl, hb⟩
    go_wp2_with fail
    go_ret
    exact ⟨rfl, btr HB0.out hb⟩
  · rw [decide_eq_false hbc, Bool.false_and]
    have hd : decide ((b : Int) ≤ c) = false := decide_eq_false hbc
    clear r q h1 l1 h2 l2
    go_enter Tryz.func19, Tryz.ntmps19
    go_wp2_with fail
    go_ret
    exact ⟨rfl, HB0.out⟩
end Go.Proofs.YtollaiabcnmebaaGreatDoor

namespace Go.Proofs.YtollaiabcnmebaaGreatDoor
open Go.RowKit

set_option maxHeartbeats 8000000 in
set_option maxRecDepth 100000 in
theorem numberOf4_any (s : ByteArray) (w : World) (hs : s.size ≤ 1048576) :
    Calls Tryz.prog 37 #[.string s] w fun e w' => (∃ n : Int, e = .returned (.tuple #[.int .i64 n, .bool (nread s.data.toList 4).isSome]) ∧ ∀ k, nread s.data.toList 4 = some k → n = (k : Int)) ∧ Below w.heap.size w w' := by
  have hl := size_list s
  rw [← docN_eq]
  by_cases h14 : 1 ≤ s.size ∧ s.size ≤ 4
  · obtain ⟨hs1, hs4⟩ := h14
    have hd : docN s.data.toList = match rdn 0 s.data.toList with | some n => if digs 10 n = s.data.toList then some n else none | none => none := by rw [docN, if_pos (by omega)]; cases rdn 0 s.data.toList <;> rfl
    obtain ⟨D, hD⟩ : ∃ D, D = docN s.data.toList := ⟨_, rfl⟩
    rw [← hD]
    have HD : Hid (D = match rdn 0 s.data.toList with | some n => if digs 10 n = s.data.toList then some n else none | none => none) := hD.trans hd
    have HT : Hid (∀ w : World, Calls Tryz.prog 29 #[.int .i64 (s.size : Int), .int .i64 1, .int .i64 4] w fun e w' => e = .returned (.bool true) ∧ w' = w) := fun w => btw_in _ _ _ w (by omega) (by omega)
    obtain ⟨N, hN⟩ : ∃ N, N = s.size := ⟨_, rfl⟩
    have HN : Hid (N = s.size) := hN
    clear hd hD hN
    go_enter Tryz.func37, Tryz.ntmps37
    go_wp2_with fail
    refine (HT.out _).mono ?_
    rintro e w1 ⟨rfl, rfl⟩
    go_wp2_with fail
    go_loop [4, 5] (fun vn vi => ∃ (k acc : Nat) (a : Int), vi = .int .i64 k ∧ vn = .int .i64 a ∧ k ≤ N ∧ 0 ≤ a ∧ a < 10000 ∧ Hid (a = (acc : Int) ∧ acc < 10 ^ k ∧ rdn 0 s.data.toList = rdn acc (s.data.toList.drop k)))
      (fun _ vi => N - (intOf vi).toNat)
    case atStart => exact ⟨0, 0, 0, rfl, rfl, Nat.zero_le _, by omega, by omega, rfl, by decide, rfl⟩
    case round =>
      obtain ⟨k, acc, a, rfl, rfl, hk, a0, a1, hh⟩ := hrel
      have hN := HN.out
      by_cases hkN : k < N
      · obtain ⟨ha, hacc, hdec⟩ := hh.out
        have hks : k < s.size := by omega
        rw [List.drop_eq_getElem_cons (show k < s.data.toList.length by omega), rdn, data_get s k hks] at hdec
        have hki : (k : Int) < (s.size : Int) := by omega
        have hk0 : (0 : Int) ≤ (k : Int) := by omega
        have hpow : 10 ^ k ≤ 10 ^ 3 := Nat.pow_le_pow_right (by decide) (by omega)
        have hsuc : 10 ^ (k + 1) = 10 ^ k * 10 := Nat.pow_succ ..
        have hsk : s[k]? = some s[k] := by simp [hks]
        have hc256 : (s[k].toNat : Int) < 256 := by have := s[k].toNat_lt; omega
        have hcz : (0 : Int) ≤ (s[k].toNat : Int) := by omega
        have ha1 : a < 1000 := by omega
        by_cases c1 : 48 ≤ s[k].toNat ∧ s[k].toNat ≤ 57
        · rw [if_pos c1] at hdec
          have T1 : Hid (∀ w : World, Calls Tryz.prog 29 #[.int .i64 (s[k].toNat : Int), .int .i64 48, .int .i64 57] w fun e w' => e = .returned (.bool true) ∧ w' = w) := fun w => btw_in _ _ _ w (by omega) (by omega)
          have HE : Hid (10 * a + (s[k].toNat : Int) - 48 = ((10 * acc + s[k].toNat - 48 : Nat) : Int) ∧ 10 * acc + s[k].toNat - 48 < 10 ^ (k + 1) ∧ rdn 0 s.data.toList = rdn (10 * acc + s[k].toNat - 48) (s.data.toList.drop (k + 1))) := ⟨by omega, by omega, hdec⟩
          have d1 : 48 ≤ (s[k].toNat : Int) := by omega
          have d2 : (s[k].toNat : Int) ≤ 57 := by omega
          clear hdec hacc hpow ha hh c1 hsuc
          go_wp2_with fail
          refine (T1.out _).mono ?_
          rintro e w2 ⟨rfl, rfl⟩
          go_wp2_with fail
          exact ⟨⟨k + 1, _, _, by go_num, rfl, by omega, by omega, by omega, HE⟩, by simp [intOf]; omega⟩
        · rw [if_neg c1] at hdec
          have T1 : Hid (∀ w : World, Calls Tryz.prog 29 #[.int .i64 (s[k].toNat : Int), .int .i64 48, .int .i64 57] w fun e w' => e = .returned (.bool false) ∧ w' = w) := fun w => btw_out _ _ _ w (by omega)
          have HE : Hid (D = none) := by rw [Hid, HD.out, hdec]
          clear hdec hacc hpow ha hh c1 hsuc HD
          go_wp2_with fail
          refine (T1.out _).mono ?_
          rintro e w2 ⟨rfl, rfl⟩
          go_wp2_with fail
          rw [HE.out]
          go_ret2
          exact ⟨⟨_, rfl, fun k h => by cases h⟩, Below.refl _ _⟩
      · obtain ⟨ha, hacc, hdec⟩ := hh.out
        rw [List.drop_eq_nil_of_le (by omega), rdn] at hdec
        have hki : ¬ (k : Int) < (s.size : Int) := by omega
        have hpow : 10 ^ k ≤ 10 ^ 4 := Nat.pow_le_pow_right (by decide) (by omega)
        have HX : Hid (∀ w : World, Calls Tryz.prog 32 #[.int .i64 a, .int .i64 10] w fun e w' => e = .returned (.string ⟨(digs 10 acc).toArray⟩) ∧ Below w.heap.size w w') := by
          intro w; rw [ha]; exact digits_any 10 (by decide) (by decide) acc (by omega) w
        have HA : Hid (a = (acc : Int)) := ha
        by_cases hq : digs 10 acc = s.data.toList
        · have HE : Hid (D = some acc) := by rw [Hid, HD.out, hdec]; simp [hq]
          have hq2 := str_same _ s hq
          generalize digs 10 acc = dd at hq2 HX hq
          clear hdec hh ha hacc hpow HD hq
          go_wp2_with fail
          refine (HX.out _).mono ?_
          rintro e w2 ⟨rfl, hb⟩
          go_wp2_with fail
          rw [HE.out]
          go_ret2
          exact ⟨⟨_, rfl, fun k h => by injection h with h; rw [HA.out, h]⟩, hb⟩
        · have HE : Hid (D = none) := by rw [Hid, HD.out, hdec]; simp [hq]
          have hq2 := str_other _ s hq
          generalize digs 10 acc = dd at hq2 HX hq
          clear hdec hh ha hacc hpow HD hq
          go_wp2_with fail
          refine (HX.out _).mono ?_
          rintro e w2 ⟨rfl, hb⟩
          go_wp2_with fail
          rw [HE.out]
          go_ret2
          exact ⟨⟨_, rfl, fun k h => by cases h⟩, hb⟩
  · have hd : docN s.data.toList = none := by rw [docN, if_neg (by omega)]
    rw [hd]
    have HT : Hid (∀ w : World, Calls Tryz.prog 29 #[.int .i64 (s.size : Int), .int .i64 1, .int .i64 4] w fun e w' => e = .returned (.bool false) ∧ w' = w) := fun w => btw_out _ _ _ w (by omega)
    clear hd
    go_enter Tryz.func37, Tryz.ntmps37
    go_wp2_with fail
    refine (HT.out _).mono ?_
    rintro e w1 ⟨rfl, rfl⟩
    go_wp2_with fail
    go_ret2
    exact ⟨⟨_, rfl, fun k h => by cases h⟩, Below.refl _ _⟩
end Go.Proofs.YtollaiabcnmebaaGreatDoor

namespace Go.Proofs.YtollaiabcnmebaaGreatDoor
open Go.RowKit

theorem chk_ok' (v : Bool) (hi lo : Nat) (hv : v = true ∨ (hi = 0 ∧ lo ≤ 4294967295)) : chk v hi lo = 0 := by
  unfold chk
  rw [if_neg]
  rintro ⟨rfl, h⟩
  simp at hv; omega
theorem textOf_any (v : Bool) (hi lo : Nat) (w : World) (h1 : hi < 18446744073709551616) (l1 : lo < 18446744073709551616) (hv : v = true ∨ (hi = 0 ∧ lo ≤ 4294967295)) :
    Calls Tryz.prog 31 #[.agg #[.bool v, .int .u64 hi, .int .u64 lo]] w fun e w' => e = .returned (.string ⟨(ptxt v hi lo).toArray⟩) ∧ Below w.heap.size w w' := by
  have hc := chk_ok' v hi lo hv
  cases v
  · simp at hv
    have := textOf4_any hi lo w h1 hv.2
    rw [ptxt, if_pos hc, if_neg (by decide), Int.toNat_natCast]
    exact this
  · rw [ptxt, if_pos hc, if_pos rfl]
    exact textOf6_any hi lo w h1 l1

set_option maxHeartbeats 8000000 in
set_option maxRecDepth 100000 in
theorem prefixText_any (v : Bool) (hi lo b : Nat) (w : World) (r : Right v hi lo b) :
    Calls Tryz.prog 11 #[.agg #[.bool v, .int .u64 hi, .int .u64 lo, .int .i64 (b : Int)]] w fun e w' => e = .returned (.string ⟨(pfTxt v hi lo b).toArray⟩) ∧ Below w.heap.size w w' := by
  have h1 := r.h1
  have l1 := r.l1
  have hb := r.b1
  have hw128 : wid v ≤ 128 := by unfold wid; split <;> omega
  have HT : Hid (∀ w : World, Calls Tryz.prog 31 #[.agg #[.bool v, .int .u64 hi, .int .u64 lo]] w fun e w' => e = .returned (.string ⟨(ptxt v hi lo).toArray⟩) ∧ Below w.heap.size w w') := fun w => textOf_any v hi lo w (by omega) (by omega) (right_nat r.c)
  have HD : Hid (∀ w : World, Calls Tryz.prog 32 #[.int .i64 (b : Int), .int .i64 10] w fun e w' => e = .returned (.string ⟨(Lib.decDigits b).toArray⟩) ∧ Below w.heap.size w w') := fun w => by
    have := digits_any 10 (by decide) (by decide) b (by omega) w
    rw [digs10 b (by omega), ← dec3_eq b (by omega)] at this; exact this
  have hlen : (ptxt v hi lo).length ≤ 39 := (back_any v hi lo (by omega) (by omega) (by omega) (by omega) r.c).2
  have hdl := decDigits_le b (by omega)
  have p1 : ∀ W : World, (Op.stringOp .add ⟨(ptxt v hi lo).toArray⟩ ⟨#[47]⟩).run Tryz.prog W = .ok (.string ⟨(ptxt v hi lo ++ [47]).toArray⟩) W := fun W => add_lists _ [47] W (by simp; omega)
  have p2 : ∀ W : World, (Op.stringOp .add ⟨(ptxt v hi lo ++ [47]).toArray⟩ ⟨(Lib.decDigits b).toArray⟩).run Tryz.prog W = .ok (.string ⟨(pfTxt v hi lo b).toArray⟩) W := fun W => by
    rw [pfTxt, Int.toNat_natCast]; exact add_lists _ _ W (by simp; omega)
  have P1 : Hid (Has4 (w.alloc (.cells #[.bool v, .int .u64 hi, .int .u64 lo, .int .i64 (b : Int)] 26)) w.heap.size v hi lo b) := Has4.new w _ _ _ _ _
  have HB0 : Hid (Below w.heap.size w (w.alloc (.cells #[.bool v, .int .u64 hi, .int .u64 lo, .int .i64 (b : Int)] 26))) := bal (Below.refl _ _) _
  generalize pfTxt v hi lo b = T at *
  generalize ptxt v hi lo ++ [47] = T1 at *
  generalize ptxt v hi lo = T0 at *
  generalize Lib.decDigits b = D at *
  clear r h1 l1 hlen hdl
  go_enter Tryz.func11, Tryz.ntmps11
  go_wp2_with fail
  generalize w.alloc (.cells #[.bool v, .int .u64 hi, .int .u64 lo, .int .i64 (b : Int)] 26) = W at *
  have P1' : Hid (Has4 W.drew w.heap.size v hi lo b) := P1.out.drew
  have B' : Hid (Below w.heap.size w W.drew) := HB0.out.drew
  clear P1
  go_region_held3 (fun w' => (w'.cell? ⟨w.heap.size, 0, none⟩ = some (.bool v) ∧ w'.cell? ⟨w.heap.size, 1, none⟩ = some (.int .u64 hi) ∧ w'.cell? ⟨w.heap.size, 2, none⟩ = some (.int .u64 lo) ∧ w'.cell? ⟨w.heap.size, 3, none⟩ = some (.int .i64 b) ∧ w.heap.size < w'.heap.size) ∧ Below w.heap.size w w')
    (first | exact ⟨P1'.out, B'.out⟩ | exact keep4b (by assumption) (by assumption))
    (first
      | (go_at_call 31; refine (HT.out _).mono ?_; rintro e w3 ⟨rfl, hb⟩)
      | (go_at_call 32; refine (HD.out _).mono ?_; rintro e w3 ⟨rfl, hb⟩))
  have HS : Has4 w3 w.heap.size v hi lo b ∧ Below w.heap.size w w3 := by assumption
  go_wp2_with fail
  go_ret
  exact ⟨rfl, HS.2⟩

/-- The last bits are all ones. -/
theorem last_parts {v : Bool} {hi lo b : Nat} (r : Right v hi lo b) : ∀ R, R = (bitsT v hi lo).take b ++ List.replicate ((bitsT v hi lo).length - b) 49 →
    IsBin R ∧ (R.length : Int) = wid v ∧ decide (R.length = 128) = v ∧ laH v hi b = ((vbin 0 (R.take (R.length - 64)) : Nat) : Int) ∧ laL v lo b = ((vbin 0 (R.drop (R.length - 64)) : Nat) : Int) := by
  intro R hR
  have h1 := r.h1
  have l1 := r.l1
  have b1 := r.b1
  have hlen := bits_wid v hi lo
  have hl : (R.length : Int) = wid v := by rw [hR, List.length_append, List.length_take, List.length_replicate]; omega
  obtain ⟨n1, _, ⟨i0, i1⟩, j0, j1⟩ := la_num r
  have hbin : IsBin R := by
    intro c hc
    rw [hR] at hc
    rcases List.mem_append.1 hc with h | h
    · exact take_bin v hi lo b c h
    · exact .inr (List.mem_replicate.1 h).2
  refine ⟨hbin, hl, parts_addr hl i0 j0 j1 ?_⟩
  rw [n1, ← bits_num r.c (by omega) (by omega), amt_nat v hi lo b b1]
  have hz := (vbin_zero _ (drop_bin v hi lo b)).2 (right_bits r)
  have hcut := vbin_cut (bitsT v hi lo) b
  have hones := vbin_ones ((bitsT v hi lo).length - b) (vbin 0 ((bitsT v hi lo).take b))
  have hp : 0 < 2 ^ ((bitsT v hi lo).drop b).length := Nat.pow_pos (by decide)
  rw [hR, vbin_append]
  rw [hz, Nat.add_zero] at hcut
  rw [hcut]
  rw [List.length_drop] at hp ⊢
  rw [Nat.add_mul, Nat.one_mul] at hones
  omega

theorem keep4F {w W W' : World} {p q : Nat} {v : Bool} {hi lo b : Int} {x y z : Value}
    (h : Has4 W p v hi lo b ∧ HasF W q x y z ∧ Below w.heap.size w W) (hb : Below W.heap.size W W') : Has4 W' p v hi lo b ∧ HasF W' q x y z ∧ Below w.heap.size w W' :=
  ⟨h.1.below hb, h.2.1.below hb, btr h.2.2 hb⟩

set_option maxHeartbeats 8000000 in
set_option maxRecDepth 100000 in
theorem filled_any (v : Bool) (hi lo b : Nat) (w : World) (r : Right v hi lo b) :
    Calls Tryz.prog 33 #[.agg #[.bool v, .int .u64 hi, .int .u64 lo, .int .i64 (b : Int)], .string ⟨#[49]⟩] w fun e w' => e = .returned (.agg #[.bool v, .int .u64 (laH v hi b), .int .u64 (laL v lo b)]) ∧ Below w.heap.size w w' := by
  have h1 := r.h1
  have l1 := r.l1
  have hb := r.b1
  have hw128 : wid v ≤ 128 := by unfold wid; split <;> omega
  have hlen := bits_wid v hi lo
  obtain ⟨g1, g2, g3, g4, g5⟩ := last_parts r _ rfl
  have HX : Hid (∀ w : World, Calls Tryz.prog 13 #[.agg #[.bool v, .int .u64 hi, .int .u64 lo]] w fun e w' => e = .returned (.string ⟨(bitsT v hi lo).toArray⟩) ∧ Below w.heap.size w w') := fun w => bits_any v hi lo w (by omega) (by omega)
  have hW : Hid (∀ w : World, Calls Tryz.prog 30 #[.agg #[.bool v, .int .u64 (hi : Int), .int .u64 (lo : Int)]] w fun e w' => e = .returned (.int .i64 (wid v)) ∧ Below w.heap.size w w') := fun w => rwide_any v hi lo w
  have s1 : ∀ W : World, (Instr.sliceAt 9 (.string ⟨(bitsT v hi lo).toArray⟩) none (some (.int .i64 (b : Int))) none).run Tryz.prog W = .ok (.string ⟨((bitsT v hi lo).take b).toArray⟩) W := fun W =>
    str_to ⟨(bitsT v hi lo).toArray⟩ b W (by show b ≤ (bitsT v hi lo).toArray.size; rw [List.size_toArray]; omega) (by show (bitsT v hi lo).toArray.size ≤ _; rw [List.size_toArray]; omega)
  have HA : Hid (∀ w : World, Calls Tryz.prog 34 #[.string ⟨((bitsT v hi lo).take b ++ List.replicate ((bitsT v hi lo).length - b) 49).toArray⟩] w fun e w' => e = .returned (.agg #[.bool v, .int .u64 (laH v hi b), .int .u64 (laL v lo b)]) ∧ Below w.heap.size w w') := by
    intro w
    have hz : (⟨((bitsT v hi lo).take b ++ List.replicate ((bitsT v hi lo).length - b) 49).toArray⟩ : ByteArray).size = ((bitsT v hi lo).take b ++ List.replicate ((bitsT v hi lo).length - b) 49).length := by show (List.toArray _).size = _; rw [List.size_toArray]
    have := addrOf_any ⟨((bitsT v hi lo).take b ++ List.replicate ((bitsT v hi lo).length - b) 49).toArray⟩ w (by omega) g1
    rw [hz] at this
    rw [g4, g5]
    have e3 : Value.bool v = Value.bool (decide (((bitsT v hi lo).take b ++ List.replicate ((bitsT v hi lo).length - b) 49).length = 128)) := by rw [g3]
    rw [e3]
    exact this
  obtain ⟨l, hl⟩ : ∃ l, l = bitsT v hi lo := ⟨_, rfl⟩
  obtain ⟨wv, hwv⟩ : ∃ wv, wv = wid v := ⟨_, rfl⟩
  rw [← hl] at HX s1 HA hlen
  rw [← hwv] at hW hb hw128 hlen
  clear g1 g2 g3 g4 g5 r hl hwv h1 l1
  generalize laH v hi b = H1 at *
  generalize laL v lo b = H2 at *
  have P1 : Hid (Has4 (w.alloc (.cells #[.bool v, .int .u64 hi, .int .u64 lo, .int .i64 (b : Int)] 26)) w.heap.size v hi lo b) := Has4.new w _ _ _ _ _
  have HB0 : Hid (Below w.heap.size w (w.alloc (.cells #[.bool v, .int .u64 hi, .int .u64 lo, .int .i64 (b : Int)] 26))) := bal (Below.refl _ _) _
  have HLN : Hid ((l.length : Int) = wv) := hlen
  clear hlen
  have q1 : (w.alloc (.cells #[.bool v, .int .u64 hi, .int .u64 lo, .int .i64 (b : Int)] 26)).heap.size = w.heap.size + 1 := by simp
  have F1 : Hid (HasF ((w.alloc (.cells #[.bool v, .int .u64 hi, .int .u64 lo, .int .i64 (b : Int)] 26)).alloc (.cells #[.bool false, .int .u64 0, .int .u64 0] 24)) (w.heap.size + 1) (.bool false) (.int .u64 0) (.int .u64 0)) := by
    have := HasF.new (w.alloc (.cells #[.bool v, .int .u64 hi, .int .u64 lo, .int .i64 (b : Int)] 26)) (.bool false) (.int .u64 0) (.int .u64 0) 24
    rw [q1] at this; exact this
  replace P1 : Hid (Has4 ((w.alloc (.cells #[.bool v, .int .u64 hi, .int .u64 lo, .int .i64 (b : Int)] 26)).alloc (.cells #[.bool false, .int .u64 0, .int .u64 0] 24)) w.heap.size v hi lo b) := P1.out.alloc _
  replace HB0 : Hid (Below w.heap.size w ((w.alloc (.cells #[.bool v, .int .u64 hi, .int .u64 lo, .int .i64 (b : Int)] 26)).alloc (.cells #[.bool false, .int .u64 0, .int .u64 0] 24))) := bal HB0.out _
  clear q1
  go_enter Tryz.func33, Tryz.ntmps33
  go_wp2_with fail
  generalize (w.alloc (.cells #[.bool v, .int .u64 hi, .int .u64 lo, .int .i64 (b : Int)] 26)).alloc (.cells #[.bool false, .int .u64 0, .int .u64 0] 24) = W at *
  have P1' : Hid (Has4 W.drew w.heap.size v hi lo b) := P1.out.drew
  have F1' : Hid (HasF W.drew (w.heap.size + 1) (.bool false) (.int .u64 0) (.int .u64 0)) := F1.out.drew
  have B' : Hid (Below w.heap.size w W.drew) := HB0.out.drew
  clear P1 F1 HB0
  go_region_held3 (fun w' => (w'.cell? ⟨w.heap.size, 0, none⟩ = some (.bool v) ∧ w'.cell? ⟨w.heap.size, 1, none⟩ = some (.int .u64 hi) ∧ w'.cell? ⟨w.heap.size, 2, none⟩ = some (.int .u64 lo) ∧ w'.cell? ⟨w.heap.size, 3, none⟩ = some (.int .i64 b) ∧ w.heap.size < w'.heap.size) ∧ HasF w' (w.heap.size + 1) (.bool false) (.int .u64 0) (.int .u64 0) ∧ Below w.heap.size w w')
    (first | exact ⟨P1'.out, F1'.out, B'.out⟩ | exact keep4F (by assumption) (by assumption))
    ((go_at_call 13; refine (HX.out _).mono ?_; rintro e w3 ⟨rfl, hb3⟩))
  have HS : Has4 w3 w.heap.size v hi lo b ∧ HasF w3 (w.heap.size + 1) (.bool false) (.int .u64 0) (.int .u64 0) ∧ Below w.heap.size w w3 := by assumption
  have HS' : Hid (Has4 w3 w.heap.size v hi lo b ∧ HasF w3 (w.heap.size + 1) (.bool false) (.int .u64 0) (.int .u64 0) ∧ Below w.heap.size w w3) := HS
  clear HS P1' F1' B' hb3
  go_wp2_with fail
  go_loopw [5] (fun vs wr => ∃ (j : Nat) (Y : ByteArray), vs = .string Y ∧ (Y.size : Int) ≤ 128 ∧ Hid (Y = ⟨(l.take b ++ List.replicate j 49).toArray⟩ ∧ Y.size = b + j ∧ b + j ≤ l.length ∧ Has4 wr w.heap.size v hi lo b ∧ HasF wr (w.heap.size + 1) (.bool false) (.int .u64 0) (.int .u64 0) ∧ Below w.heap.size w wr))
    (fun vs _ => 128 - strLen vs)
  case atStart =>
    have hb' := HLN.out
    have hz : (⟨(l.take b).toArray⟩ : ByteArray).size = b := by show (l.take b).toArray.size = b; rw [List.size_toArray, List.length_take]; omega
    exact ⟨0, ⟨(l.take b).toArray⟩, rfl, by rw [hz]; omega, by rw [List.replicate_zero, List.append_nil], hz, by omega, HS'.out⟩
  case round =>
    obtain ⟨j, Y, rfl, hY8, HY⟩ := hrel
    obtain ⟨y1, y2, y3, hP, hF, hB⟩ := HY.out
    have hln := HLN.out
    obtain ⟨p0, p1, p2, p3, p4⟩ := hP
    by_cases hlt : b + j < l.length
    · have hlti : (Y.size : Int) < wv := by omega
      have hp1 : ∀ W : World, (Op.stringOp .add Y ⟨#[49]⟩).run Tryz.prog W = .ok (.string ⟨(l.take b ++ List.replicate (j + 1) 49).toArray⟩) W := by
        intro W
        rw [y1, List.replicate_succ', ← List.append_assoc]
        exact add_lists _ [49] W (by simp; omega)
      have HZ : Hid ((⟨(l.take b ++ List.replicate (j + 1) 49).toArray⟩ : ByteArray).size = b + (j + 1)) := by
        show (l.take b ++ List.replicate (j + 1) 49).toArray.size = _
        rw [List.size_toArray, List.length_append, List.length_take, List.length_replicate]; omega
      have HH : Hid (Y.size = b + j ∧ Has4 wr w.heap.size v hi lo b ∧ HasF wr (w.heap.size + 1) (.bool false) (.int .u64 0) (.int .u64 0) ∧ Below w.heap.size w wr ∧ b + j < l.length ∧ (l.length : Int) = wv) := ⟨y2, ⟨p0, p1, p2, p3, p4⟩, hF, hB, hlt, hln⟩
      clear y1 y2 y3 hF hB HY hln hlt
      go_wp2_with fail
      refine (hW.out _).mono ?_
      rintro e w4 ⟨rfl, hb4⟩
      have HH2 : Hid (Has4 w4 w.heap.size v hi lo b ∧ HasF w4 (w.heap.size + 1) (.bool false) (.int .u64 0) (.int .u64 0) ∧ Below w.heap.size w w4) := by
        obtain ⟨_, a, b, c, _⟩ := HH.out
        exact ⟨a.below hb4, b.below hb4, btr c hb4⟩
      clear p0 p1 p2 p3 p4 hb4
      go_wp2_with fail
      obtain ⟨y2, _, _, _, hlt, hln⟩ := HH.out
      have hZ := HZ.out
      exact ⟨⟨j + 1, _, rfl, by omega, rfl, hZ, by omega, HH2.out⟩, by simp only [strLen]; omega⟩
    · have hj : j = l.length - b := by omega
      have hlti : ¬ (Y.size : Int) < wv := by omega
      have hYA : Y = ⟨(l.take b ++ List.replicate (l.length - b) 49).toArray⟩ := by rw [y1, hj]
      rw [← hYA] at HA
      have HH : Hid (HasF wr (w.heap.size + 1) (.bool false) (.int .u64 0) (.int .u64 0) ∧ Below w.heap.size w wr) := ⟨hF, hB⟩
      clear y1 y2 y3 hF hB HY hln hlt hj hYA
      go_wp2_with fail
      refine (hW.out _).mono ?_
      rintro e w4 ⟨rfl, hb4⟩
      replace HH : Hid (HasF w4 (w.heap.size + 1) (.bool false) (.int .u64 0) (.int .u64 0) ∧ Below w.heap.size w w4) := ⟨HH.out.1.below hb4, btr HH.out.2 hb4⟩
      clear p0 p1 p2 p3 p4 hb4
      go_wp2_with fail
      refine (HA.out _).mono ?_
      rintro e w5 ⟨rfl, hb5⟩
      obtain ⟨⟨p0, p1, p2, p3⟩, ff⟩ := HH.out.1.below hb5
      have f0 := ff 0
      have f1 := ff 1
      have f2 := ff 2
      have HBr : Hid (Below w.heap.size w w5) := btr HH.out.2 hb5
      clear ff HH hb5
      go_wp2_with fail
      refine bodyPost_ret (v := .agg #[.bool v, .int .u64 H1, .int .u64 H2]) ?_ rfl ⟨rfl, ?_⟩
      · obtain ⟨a0, a1, a2, _⟩ := Has3.store ⟨p0, p1, p2, p3⟩ (.bool v) (.int .u64 H1) (.int .u64 H2)
        generalize ((w5.setCell _ _).setCell _ _).setCell _ _ = WW at a0 a1 a2 ⊢
        simp [results, Tryz.results33, go_sem, a0, a1, a2]
      · exact bse (bse (bse HBr.out (Nat.le_succ _) _) (Nat.le_succ _) _) (Nat.le_succ _) _

set_option maxHeartbeats 8000000 in
set_option maxRecDepth 100000 in
theorem lastOf_any (v : Bool) (hi lo b : Nat) (w : World) (r : Right v hi lo b) :
    Calls Tryz.prog 12 #[.agg #[.bool v, .int .u64 hi, .int .u64 lo, .int .i64 (b : Int)]] w fun e w' => e = .returned (.agg #[.bool v, .int .u64 (laH v hi b), .int .u64 (laL v lo b)]) ∧ Below w.heap.size w w' := by
  have HF : Hid (∀ w : World, Calls Tryz.prog 33 #[.agg #[.bool v, .int .u64 hi, .int .u64 lo, .int .i64 (b : Int)], .string ⟨#[49]⟩] w fun e w' => e = .returned (.agg #[.bool v, .int .u64 (laH v hi b), .int .u64 (laL v lo b)]) ∧ Below w.heap.size w w') := fun w => filled_any v hi lo b w r
  generalize laH v hi b = H1 at *
  generalize laL v lo b = H2 at *
  have q1 : (w.alloc (.cells #[.bool v, .int .u64 hi, .int .u64 lo, .int .i64 (b : Int)] 26)).heap.size = w.heap.size + 1 := by simp
  have F1 : Hid (HasF ((w.alloc (.cells #[.bool v, .int .u64 hi, .int .u64 lo, .int .i64 (b : Int)] 26)).alloc (.cells #[.bool false, .int .u64 0, .int .u64 0] 24)) (w.heap.size + 1) (.bool false) (.int .u64 0) (.int .u64 0)) := by
    have := HasF.new (w.alloc (.cells #[.bool v, .int .u64 hi, .int .u64 lo, .int .i64 (b : Int)] 26)) (.bool false) (.int .u64 0) (.int .u64 0) 24
    rw [q1] at this; exact this
  have HB0 : Hid (Below w.heap.size w ((w.alloc (.cells #[.bool v, .int .u64 hi, .int .u64 lo, .int .i64 (b : Int)] 26)).alloc (.cells #[.bool false, .int .u64 0, .int .u64 0] 24))) := bal (bal (Below.refl _ _) _) _
  clear q1
  go_enter Tryz.func12, Tryz.ntmps12
  go_wp2_with fail
  generalize (w.alloc (.cells #[.bool v, .int .u64 hi, .int .u64 lo, .int .i64 (b : Int)] 26)).alloc (.cells #[.bool false, .int .u64 0, .int .u64 0] 24) = W at *
  refine (HF.out _).mono ?_
  rintro e w1 ⟨rfl, hb⟩
  obtain ⟨⟨p0, p1, p2, p3⟩, ff⟩ := F1.out.below hb
  have f0 := ff 0
  have f1 := ff 1
  have f2 := ff 2
  have HBr : Hid (Below w.heap.size w w1) := btr HB0.out hb
  clear ff F1 hb
  go_wp2_with fail
  refine bodyPost_ret (v := .agg #[.bool v, .int .u64 H1, .int .u64 H2]) ?_ rfl ⟨rfl, ?_⟩
  · obtain ⟨a0, a1, a2, _⟩ := Has3.store ⟨p0, p1, p2, p3⟩ (.bool v) (.int .u64 H1) (.int .u64 H2)
    generalize ((w1.setCell _ _).setCell _ _).setCell _ _ = WW at a0 a1 a2 ⊢
    simp [results, Tryz.results12, go_sem, a0, a1, a2]
  · exact bse (bse (bse HBr.out (Nat.le_succ _) _) (Nat.le_succ _) _) (Nat.le_succ _) _
end Go.Proofs.YtollaiabcnmebaaGreatDoor

namespace Go.Proofs.YtollaiabcnmebaaGreatDoor
open Go.RowKit

theorem idx_none (c : UInt8) : ∀ l : List UInt8, c ∉ l → Lib.index l [c] = -1
  | [], _ => by simp [Lib.index]
  | b :: l, h => by
    have hb : b ≠ c := fun e => h (by simp [e])
    have hl := idx_none c l (fun e => h (List.mem_cons_of_mem _ e))
    rw [Lib.index, hl]; simp [List.isPrefixOf, Ne.symm hb]
theorem idx_at (c : UInt8) : ∀ (t r : List UInt8), c ∉ t → Lib.index (t ++ c :: r) [c] = (t.length : Int)
  | [], r, _ => by simp [Lib.index, List.isPrefixOf]
  | b :: t, r, h => by
    have hb : b ≠ c := fun e => h (by simp [e])
    have hl := idx_at c t r (fun e => h (List.mem_cons_of_mem _ e))
    rw [List.cons_append, Lib.index, hl]
    have : ¬ ((t.length : Int) == -1) = true := by rw [beq_iff_eq]; omega
    simp [List.isPrefixOf, Ne.symm hb, this]
theorem cut_no (c : UInt8) (l : List UInt8) (h : c ∉ l) : (Lib.cut l [c]).2.2 = false := by
  unfold Lib.cut; rw [idx_none c l h]; rfl
theorem cut_yes (c : UInt8) (t r : List UInt8) (h : c ∉ t) : Lib.cut (t ++ c :: r) [c] = (t, r, true) := by
  unfold Lib.cut
  rw [idx_at c t r h, if_pos (by omega), Int.toNat_natCast]
  simp
theorem split_first (c : UInt8) : ∀ l : List UInt8, c ∈ l → ∃ t r, l = t ++ c :: r ∧ c ∉ t
  | [], h => by simp at h
  | b :: l, h => by
    by_cases hb : b = c
    · exact ⟨[], l, by rw [hb]; rfl, by simp⟩
    · obtain ⟨t, r, e, ht⟩ := split_first c l (by rcases List.mem_cons.1 h with h | h; exact absurd h.symm hb; exact h)
      exact ⟨b :: t, r, by rw [e]; rfl, by intro hm; rcases List.mem_cons.1 hm with h | h; exact hb h.symm; exact ht h⟩
theorem rdn_no47 : ∀ (l : List UInt8) (acc : Nat), (47 : UInt8) ∈ l → rdn acc l = none
  | [], _, h => by simp at h
  | c :: r, acc, h => by
    rcases List.mem_cons.1 h with rfl | h
    · rw [rdn]; simp
    · rw [rdn, rdn_no47 r _ h]; simp
theorem nread_no47 (l : List UInt8) (h : (47 : UInt8) ∈ l) : nread l 4 = none := by
  rw [← docN_eq, docN, rdn_no47 l 0 h]; simp
/-- What the document reads of the pieces is what the program reads. -/
theorem rform_spl (l : List UInt8) : rform l = if (spl 47 l).length = 2 then (rparse ((spl 47 l).getD 0 [])).bind fun a => (nread ((spl 47 l).getD 1 []) 4).map fun n => (a.1, a.2.1, a.2.2, n) else none := by
  by_cases h : (47 : UInt8) ∈ l
  · obtain ⟨t, r, rfl, ht⟩ := split_first 47 l h
    rw [rform, cut_yes 47 t r ht, spl_append 47 t r ht]
    by_cases hr : (47 : UInt8) ∈ r
    · obtain ⟨t2, r2, rfl, ht2⟩ := split_first 47 r hr
      rw [spl_append 47 t2 r2 ht2]
      have hne : (spl 47 r2).length ≠ 0 := fun e => spl_ne 47 r2 (List.eq_nil_of_length_eq_zero e)
      rw [if_neg (show ¬ (true : Bool) = false by decide), if_neg (by simp; exact spl_ne 47 r2)]
      rw [nread_no47 _ hr]
      cases rparse t <;> rfl
    · rw [spl_none 47 r hr]; rfl
  · rw [rform, if_pos (cut_no 47 l h), spl_none 47 l h]; rfl

theorem Own4.store {W : World} {p : Nat} {x y z t : Value} (h : Own4 W p x y z t) (x' y' z' t' : Value) :
    ((((W.setCell ⟨p, 0, none⟩ x').setCell ⟨p, 1, none⟩ y').setCell ⟨p, 2, none⟩ z').setCell ⟨p, 3, none⟩ t').cell? ⟨p, 0, none⟩ = some x' ∧ ((((W.setCell ⟨p, 0, none⟩ x').setCell ⟨p, 1, none⟩ y').setCell ⟨p, 2, none⟩ z').setCell ⟨p, 3, none⟩ t').cell? ⟨p, 1, none⟩ = some y' ∧ ((((W.setCell ⟨p, 0, none⟩ x').setCell ⟨p, 1, none⟩ y').setCell ⟨p, 2, none⟩ z').setCell ⟨p, 3, none⟩ t').cell? ⟨p, 2, none⟩ = some z' ∧ ((((W.setCell ⟨p, 0, none⟩ x').setCell ⟨p, 1, none⟩ y').setCell ⟨p, 2, none⟩ z').setCell ⟨p, 3, none⟩ t').cell? ⟨p, 3, none⟩ = some t' := by
  obtain ⟨⟨h0, h1, h2, h3⟩, _, _⟩ := h
  have ne : ∀ a b : Nat, a ≠ b → (⟨p, a, none⟩ : Addr) ≠ ⟨p, b, none⟩ := by intro a b hab e; injection e with _ e; exact hab e
  refine ⟨?_, ?_, ?_, ?_⟩
  · rw [World.cell?_setCell_other (h := ne 3 0 (by decide)), World.cell?_setCell_other (h := ne 2 0 (by decide)), World.cell?_setCell_other (h := ne 1 0 (by decide))]
    exact World.cell?_setCell_same _ _ _ h0
  · rw [World.cell?_setCell_other (h := ne 3 1 (by decide)), World.cell?_setCell_other (h := ne 2 1 (by decide))]
    exact World.cell?_setCell_same _ _ _ (u := y) (by rw [World.cell?_setCell_other (h := ne 0 1 (by decide))]; exact h1)
  · rw [World.cell?_setCell_other (h := ne 3 2 (by decide))]
    exact World.cell?_setCell_same _ _ _ (u := z) (by rw [World.cell?_setCell_other (h := ne 1 2 (by decide)), World.cell?_setCell_other (h := ne 0 2 (by decide))]; exact h2)
  · exact World.cell?_setCell_same _ _ _ (u := t) (by rw [World.cell?_setCell_other (h := ne 2 3 (by decide)), World.cell?_setCell_other (h := ne 1 3 (by decide)), World.cell?_setCell_other (h := ne 0 3 (by decide))]; exact h3)

set_option maxHeartbeats 16000000 in
set_option maxRecDepth 100000 in
theorem prefixOf_any (s : ByteArray) (w : World) (hs : s.size ≤ 1048576) :
    Calls Tryz.prog 16 #[.string s] w fun e w' => e = .returned (.tuple #[ppV (rform s.data.toList), .int .i64 (ppE (rform s.data.toList))]) ∧ Below w.heap.size w w' := by
  have hl := size_list s
  have HS : Hid (∀ w : World, Calls Tryz.prog 35 #[.string s, .int .u8 47] w fun e w' => ∃ v, e = .returned v ∧ w'.ownsRow w.heap.size 9 1 v (spl 47 s.data.toList).length (strs (spl 47 s.data.toList)) ∧ Below w.heap.size w w') := fun w => splitAt_any s 47 w hs
  have hlen : ∀ x ∈ spl 47 s.data.toList, x.length ≤ 1048576 := fun x hx => Nat.le_trans (spl_len 47 _ x hx) (by omega)
  have hR := rform_spl s.data.toList
  obtain ⟨R, hRR⟩ : ∃ R, R = rform s.data.toList := ⟨_, rfl⟩
  rw [← hRR] at hR ⊢
  have hlt : ∀ v h l n, R = some (v, h, l, n) → h < 18446744073709551616 ∧ l < 18446744073709551616 := fun v h l n e => rform_lt (hRR ▸ e)
  generalize spl 47 s.data.toList = ws at *
  have B0 : Hid (Below w.heap.size w (w.alloc (.cells #[.bool false, .int .u64 0, .int .u64 0, .int .i64 0] 26))) := bal (Below.refl _ _) _
  have R0 : Hid (Own4 (w.alloc (.cells #[.bool false, .int .u64 0, .int .u64 0, .int .i64 0] 26)) w.heap.size (.bool false) (.int .u64 0) (.int .u64 0) (.int .i64 0)) := Own4.new w _ _ _ _ _
  clear hRR
  by_cases h2 : ws.length = 2
  · rw [if_pos h2] at hR
    match ws, h2 with
    | [x0, x1], _ =>
      have k0 : x0.length ≤ 1048576 := hlen x0 (by simp)
      have k1 : x1.length ≤ 1048576 := hlen x1 (by simp)
      have HR : Hid (R = (rparse x0).bind fun a => (nread x1 4).map fun n => (a.1, a.2.1, a.2.2, n)) := hR
      have HP : Hid (∀ w : World, Calls Tryz.prog 36 #[.string ⟨x0.toArray⟩] w fun e w' => e = .returned (.tuple #[prV (rparse x0), .bool (rparse x0).isSome]) ∧ Below w.heap.size w w') := fun w => parseOf_any ⟨x0.toArray⟩ w (by show x0.toArray.size ≤ _; rw [List.size_toArray]; exact k0)
      have HNm : Hid (∀ w : World, Calls Tryz.prog 37 #[.string ⟨x1.toArray⟩] w fun e w' => (∃ n : Int, e = .returned (.tuple #[.int .i64 n, .bool (nread x1 4).isSome]) ∧ ∀ k, nread x1 4 = some k → n = (k : Int)) ∧ Below w.heap.size w w') := fun w => numberOf4_any ⟨x1.toArray⟩ w (by show x1.toArray.size ≤ _; rw [List.size_toArray]; exact k1)
      have HHlt : Hid (∀ v h l n, R = some (v, h, l, n) → h < 18446744073709551616 ∧ l < 18446744073709551616) := hlt
      clear hR hlen k0 k1 hlt
      go_enter Tryz.func16, Tryz.ntmps16
      go_wp2_with fail
      generalize w.alloc (.cells #[.bool false, .int .u64 0, .int .u64 0, .int .i64 0] 26) = W0 at *
      refine (HS.out _).mono ?_
      rintro e w1 ⟨v, rfl, hown, hb1⟩
      replace R0 : Hid (Own4 w1 w.heap.size (.bool false) (.int .u64 0) (.int .u64 0) (.int .i64 0)) := R0.out.below hb1
      replace B0 : Hid (Below w.heap.size w w1) := btr B0.out hb1
      have hc := fun g hg => hown.cells (g := g) hg
      rcases hown.2 with ⟨rfl, hz⟩ | ⟨g, cap, cur, rfl, hg, hcur, h3⟩
      · simp at hz
      have hglt : g < w1.heap.size := by
        rcases Nat.lt_or_ge g w1.heap.size with h | h
        · exact h
        · rw [Array.getElem?_eq_none h] at hcur; cases hcur
      have cc0 : w1.cell? ⟨g, 0, none⟩ = some (.string ⟨x0.toArray⟩) := by
        have := hc g rfl 0 (.string ⟨x0.toArray⟩) (by simp [strs])
        rw [Lib.add_plain] at this; simpa using this
      have cc1 : w1.cell? ⟨g, 1, none⟩ = some (.string ⟨x1.toArray⟩) := by
        have := hc g rfl 1 (.string ⟨x1.toArray⟩) (by simp [strs])
        rw [Lib.add_plain] at this; simpa using this
      clear hcur h3 hc hown HS hb1
      go_wp2_with fail
      cases hr : rparse x0 with
      | none =>
        rw [hr] at HP
        have HE : Hid (R = none) := by rw [Hid, HR.out, hr]; rfl
        clear HR hr HHlt
        refine (HP.out _).mono ?_
        rintro e w2 ⟨rfl, hb2⟩
        have cc2 := (bcell hb2).1 g 1 hglt
        rw [cc1] at cc2
        have hg2 : g < w2.heap.size := Nat.lt_of_lt_of_le hglt hb2.size
        have hA2 : Below w2.heap.size w2 (w2.alloc (.cells #[.bool false, .int .u64 0, .int .u64 0] 24)) := bal (Below.refl _ _) _
        have cc3 := (bcell hA2).1 g 1 hg2
        rw [cc2] at cc3
        replace R0 : Hid (Own4 (w2.alloc (.cells #[.bool false, .int .u64 0, .int .u64 0] 24)) w.heap.size (.bool false) (.int .u64 0) (.int .u64 0) (.int .i64 0)) := (R0.out.below hb2).alloc _
        replace B0 : Hid (Below w.heap.size w (w2.alloc (.cells #[.bool false, .int .u64 0, .int .u64 0] 24))) := bal (btr B0.out hb2) _
        have A0 : Hid (Has3 (w2.alloc (.cells #[.bool false, .int .u64 0, .int .u64 0] 24)) w2.heap.size (.bool false) (.int .u64 0) (.int .u64 0)) := Has3.new w2 _ _ _ _
        clear cc0 cc1 cc2 hb2 hA2 hglt
        simp only [prV]
        go_wp2_with fail
        generalize w2.alloc (.cells #[.bool false, .int .u64 0, .int .u64 0] 24) = W2 at *
        generalize w2.heap.size = m2 at *
        refine (HNm.out _).mono ?_
        rintro e w3 ⟨⟨n, rfl, hn⟩, hb3⟩
        replace R0 : Hid (Own4 w3 w.heap.size (.bool false) (.int .u64 0) (.int .u64 0) (.int .i64 0)) := R0.out.below hb3
        replace B0 : Hid (Below w.heap.size w w3) := btr B0.out hb3
        clear hb3 hn cc3 A0
        obtain ⟨⟨r0, r1, r2, r3⟩, ⟨f0, f1, f2, f3⟩, r4⟩ := R0.out
        have HBr := B0
        clear R0 B0
        go_wp2_with fail
        refine bodyPost_ret (v := .tuple #[.agg #[.bool false, .int .u64 0, .int .u64 0, .int .i64 0], .int .i64 1]) ?_ rfl ⟨by rw [HE.out]; rfl, ?_⟩
        · obtain ⟨a0, a1, a2, a3⟩ := Own4.store ⟨⟨r0, r1, r2, r3⟩, ⟨f0, f1, f2, f3⟩, r4⟩ (.bool false) (.int .u64 0) (.int .u64 0) (.int .i64 0)
          generalize (((w3.setCell _ _).setCell _ _).setCell _ _).setCell _ _ = WW at a0 a1 a2 a3 ⊢
          simp [results, Tryz.results16, go_sem, a0, a1, a2, a3]
        · exact bse (bse (bse (bse HBr.out (Nat.le_refl _) _) (Nat.le_refl _) _) (Nat.le_refl _) _) (Nat.le_refl _) _
      | some p =>
        obtain ⟨xv, xh, xl⟩ := p
        rw [hr] at HP
        cases hq : nread x1 4 with
        | none =>
          rw [hq] at HNm
          have HE : Hid (R = none) := by rw [Hid, HR.out, hr, hq]; rfl
          clear HR hr HHlt hq
          refine (HP.out _).mono ?_
          rintro e w2 ⟨rfl, hb2⟩
          have cc2 := (bcell hb2).1 g 1 hglt
          rw [cc1] at cc2
          have hg2 : g < w2.heap.size := Nat.lt_of_lt_of_le hglt hb2.size
          have hA2 : Below w2.heap.size w2 (w2.alloc (.cells #[.bool xv, .int .u64 (xh : Int), .int .u64 (xl : Int)] 24)) := bal (Below.refl _ _) _
          have cc3 := (bcell hA2).1 g 1 hg2
          rw [cc2] at cc3
          replace R0 : Hid (Own4 (w2.alloc (.cells #[.bool xv, .int .u64 (xh : Int), .int .u64 (xl : Int)] 24)) w.heap.size (.bool false) (.int .u64 0) (.int .u64 0) (.int .i64 0)) := (R0.out.below hb2).alloc _
          replace B0 : Hid (Below w.heap.size w (w2.alloc (.cells #[.bool xv, .int .u64 (xh : Int), .int .u64 (xl : Int)] 24))) := bal (btr B0.out hb2) _
          have A0 : Hid (Has3 (w2.alloc (.cells #[.bool xv, .int .u64 (xh : Int), .int .u64 (xl : Int)] 24)) w2.heap.size (.bool xv) (.int .u64 (xh : Int)) (.int .u64 (xl : Int))) := Has3.new w2 _ _ _ _
          clear cc0 cc1 cc2 hb2 hA2 hglt
          simp only [prV]
          go_wp2_with fail
          generalize w2.alloc (.cells #[.bool xv, .int .u64 (xh : Int), .int .u64 (xl : Int)] 24) = W2 at *
          generalize w2.heap.size = m2 at *
          refine (HNm.out _).mono ?_
          rintro e w3 ⟨⟨n, rfl, hn⟩, hb3⟩
          replace R0 : Hid (Own4 w3 w.heap.size (.bool false) (.int .u64 0) (.int .u64 0) (.int .i64 0)) := R0.out.below hb3
          replace B0 : Hid (Below w.heap.size w w3) := btr B0.out hb3
          clear hb3 hn cc3 A0
          obtain ⟨⟨r0, r1, r2, r3⟩, ⟨f0, f1, f2, f3⟩, r4⟩ := R0.out
          have HBr := B0
          clear R0 B0
          go_wp2_with fail
          refine bodyPost_ret (v := .tuple #[.agg #[.bool false, .int .u64 0, .int .u64 0, .int .i64 0], .int .i64 1]) ?_ rfl ⟨by rw [HE.out]; rfl, ?_⟩
          · obtain ⟨a0, a1, a2, a3⟩ := Own4.store ⟨⟨r0, r1, r2, r3⟩, ⟨f0, f1, f2, f3⟩, r4⟩ (.bool false) (.int .u64 0) (.int .u64 0) (.int .i64 0)
            generalize (((w3.setCell _ _).setCell _ _).setCell _ _).setCell _ _ = WW at a0 a1 a2 a3 ⊢
            simp [results, Tryz.results16, go_sem, a0, a1, a2, a3]
          · exact bse (bse (bse (bse HBr.out (Nat.le_refl _) _) (Nat.le_refl _) _) (Nat.le_refl _) _) (Nat.le_refl _) _
        | some k =>
          rw [hq] at HNm
          have hRk : R = some (xv, xh, xl, k) := by rw [HR.out, hr, hq]; rfl
          obtain ⟨b1, b2⟩ := HHlt.out _ _ _ _ hRk
          have HE : Hid (R = some (xv, xh, xl, k)) := hRk
          have HCk : Hid (∀ w : World, Calls Tryz.prog 10 #[.agg #[.bool xv, .int .u64 (xh : Int), .int .u64 (xl : Int), .int .i64 (k : Int)]] w fun e w' => e = .returned (.int .i64 (pchk xv xh xl k)) ∧ Below w.heap.size w w') := fun w => rpcheck_nat xv xh xl k w b1 b2
          clear HR hr HHlt hq hRk
          refine (HP.out _).mono ?_
          rintro e w2 ⟨rfl, hb2⟩
          have cc2 := (bcell hb2).1 g 1 hglt
          rw [cc1] at cc2
          have hg2 : g < w2.heap.size := Nat.lt_of_lt_of_le hglt hb2.size
          have hA2 : Below w2.heap.size w2 (w2.alloc (.cells #[.bool xv, .int .u64 (xh : Int), .int .u64 (xl : Int)] 24)) := bal (Below.refl _ _) _
          have cc3 := (bcell hA2).1 g 1 hg2
          rw [cc2] at cc3
          replace R0 : Hid (Own4 (w2.alloc (.cells #[.bool xv, .int .u64 (xh : Int), .int .u64 (xl : Int)] 24)) w.heap.size (.bool false) (.int .u64 0) (.int .u64 0) (.int .i64 0)) := (R0.out.below hb2).alloc _
          replace B0 : Hid (Below w.heap.size w (w2.alloc (.cells #[.bool xv, .int .u64 (xh : Int), .int .u64 (xl : Int)] 24))) := bal (btr B0.out hb2) _
          have A0 : Hid (Has3 (w2.alloc (.cells #[.bool xv, .int .u64 (xh : Int), .int .u64 (xl : Int)] 24)) w2.heap.size (.bool xv) (.int .u64 (xh : Int)) (.int .u64 (xl : Int))) := Has3.new w2 _ _ _ _
          clear cc0 cc1 cc2 hb2 hA2 hglt
          simp only [prV]
          go_wp2_with fail
          generalize w2.alloc (.cells #[.bool xv, .int .u64 (xh : Int), .int .u64 (xl : Int)] 24) = W2 at *
          generalize w2.heap.size = m2 at *
          refine (HNm.out _).mono ?_
          rintro e w3 ⟨⟨n, rfl, hn⟩, hb3⟩
          replace R0 : Hid (Own4 w3 w.heap.size (.bool false) (.int .u64 0) (.int .u64 0) (.int .i64 0)) := R0.out.below hb3
          replace B0 : Hid (Below w.heap.size w w3) := btr B0.out hb3
          have hnk := hn k rfl
          subst hnk
          obtain ⟨a0, a1, a2, a3⟩ := A0.out.below hb3
          replace R0 : Hid (Own4 (w3.alloc (.cells #[.bool xv, .int .u64 (xh : Int), .int .u64 (xl : Int), .int .i64 (k : Int)] 26)) w.heap.size (.bool false) (.int .u64 0) (.int .u64 0) (.int .i64 0)) := R0.out.alloc _
          replace B0 : Hid (Below w.heap.size w (w3.alloc (.cells #[.bool xv, .int .u64 (xh : Int), .int .u64 (xl : Int), .int .i64 (k : Int)] 26))) := bal B0.out _
          have Q0 : Hid (Has4 (w3.alloc (.cells #[.bool xv, .int .u64 (xh : Int), .int .u64 (xl : Int), .int .i64 (k : Int)] 26)) w3.heap.size xv xh xl k) := Has4.new w3 _ _ _ _ _
          clear hb3 hn cc3 A0
          go_wp2_with fail
          generalize w3.alloc (.cells #[.bool xv, .int .u64 (xh : Int), .int .u64 (xl : Int), .int .i64 (k : Int)] 26) = W3 at *
          generalize w3.heap.size = m3 at *
          refine (HCk.out _).mono ?_
          rintro e w5 ⟨rfl, hb5⟩
          clear a0 a1 a2 a3
          replace R0 : Hid (Own4 w5 w.heap.size (.bool false) (.int .u64 0) (.int .u64 0) (.int .i64 0)) := R0.out.below hb5
          replace B0 : Hid (Below w.heap.size w w5) := btr B0.out hb5
          obtain ⟨a0, a1, a2, a3, a4⟩ := Q0.out.below hb5
          clear hb5 Q0
          rcases pchk_cases xv xh xl k with ⟨c, _⟩ | c | c
          · rw [c]
            have HV : Hid (ppV (some (xv, xh, xl, k)) = .agg #[.bool xv, .int .u64 (xh : Int), .int .u64 (xl : Int), .int .i64 (k : Int)] ∧ ppE (some (xv, xh, xl, k)) = 0) := ⟨by rw [ppV, if_pos c], c⟩
            clear c
            obtain ⟨⟨r0, r1, r2, r3⟩, ⟨f0, f1, f2, f3⟩, r4⟩ := R0.out
            have HBr := B0
            clear R0 B0
            go_wp2_with fail
            clear a0 a1 a2 a3 a4
            refine bodyPost_ret (v := .tuple #[.agg #[.bool xv, .int .u64 (xh : Int), .int .u64 (xl : Int), .int .i64 (k : Int)], .int .i64 0]) ?_ rfl ⟨by rw [HE.out, HV.out.1, HV.out.2], ?_⟩
            · obtain ⟨a0, a1, a2, a3⟩ := Own4.store ⟨⟨r0, r1, r2, r3⟩, ⟨f0, f1, f2, f3⟩, r4⟩ (.bool xv) (.int .u64 (xh : Int)) (.int .u64 (xl : Int)) (.int .i64 (k : Int))
              generalize (((w5.setCell _ _).setCell _ _).setCell _ _).setCell _ _ = WW at a0 a1 a2 a3 ⊢
              simp [results, Tryz.results16, go_sem, a0, a1, a2, a3]
            · exact bse (bse (bse (bse HBr.out (Nat.le_refl _) _) (Nat.le_refl _) _) (Nat.le_refl _) _) (Nat.le_refl _) _
          · rw [c]
            have HV : Hid (ppV (some (xv, xh, xl, k)) = .agg #[.bool false, .int .u64 0, .int .u64 0, .int .i64 0] ∧ ppE (some (xv, xh, xl, k)) = 3) := ⟨by rw [ppV, if_neg (by omega)], c⟩
            clear c
            obtain ⟨⟨r0, r1, r2, r3⟩, ⟨f0, f1, f2, f3⟩, r4⟩ := R0.out
            have HBr := B0
            clear R0 B0
            go_wp2_with fail
            clear a0 a1 a2 a3 a4
            refine bodyPost_ret (v := .tuple #[.agg #[.bool false, .int .u64 0, .int .u64 0, .int .i64 0], .int .i64 3]) ?_ rfl ⟨by rw [HE.out, HV.out.1, HV.out.2], ?_⟩
            · obtain ⟨a0, a1, a2, a3⟩ := Own4.store ⟨⟨r0, r1, r2, r3⟩, ⟨f0, f1, f2, f3⟩, r4⟩ (.bool false) (.int .u64 0) (.int .u64 0) (.int .i64 0)
              generalize (((w5.setCell _ _).setCell _ _).setCell _ _).setCell _ _ = WW at a0 a1 a2 a3 ⊢
              simp [results, Tryz.results16, go_sem, a0, a1, a2, a3]
            · exact bse (bse (bse (bse HBr.out (Nat.le_refl _) _) (Nat.le_refl _) _) (Nat.le_refl _) _) (Nat.le_refl _) _
          · rw [c]
            have HV : Hid (ppV (some (xv, xh, xl, k)) = .agg #[.bool false, .int .u64 0, .int .u64 0, .int .i64 0] ∧ ppE (some (xv, xh, xl, k)) = 4) := ⟨by rw [ppV, if_neg (by omega)], c⟩
            clear c
            obtain ⟨⟨r0, r1, r2, r3⟩, ⟨f0, f1, f2, f3⟩, r4⟩ := R0.out
            have HBr := B0
            clear R0 B0
            go_wp2_with fail
            clear a0 a1 a2 a3 a4
            refine bodyPost_ret (v := .tuple #[.agg #[.bool false, .int .u64 0, .int .u64 0, .int .i64 0], .int .i64 4]) ?_ rfl ⟨by rw [HE.out, HV.out.1, HV.out.2], ?_⟩
            · obtain ⟨a0, a1, a2, a3⟩ := Own4.store ⟨⟨r0, r1, r2, r3⟩, ⟨f0, f1, f2, f3⟩, r4⟩ (.bool false) (.int .u64 0) (.int .u64 0) (.int .i64 0)
              generalize (((w5.setCell _ _).setCell _ _).setCell _ _).setCell _ _ = WW at a0 a1 a2 a3 ⊢
              simp [results, Tryz.results16, go_sem, a0, a1, a2, a3]
            · exact bse (bse (bse (bse HBr.out (Nat.le_refl _) _) (Nat.le_refl _) _) (Nat.le_refl _) _) (Nat.le_refl _) _
  · rw [if_neg h2] at hR
    subst hR
    have h2i : ¬ ((ws.length : Int) = 2) := by omega
    have h2b : ((ws.length : Int) == 2) = false := by rw [beq_eq_false_iff_ne]; exact h2i
    clear hlen hlt
    go_enter Tryz.func16, Tryz.ntmps16
    go_wp2_with fail
    generalize w.alloc (.cells #[.bool false, .int .u64 0, .int .u64 0, .int .i64 0] 26) = W0 at *
    refine (HS.out _).mono ?_
    rintro e w1 ⟨v, rfl, hown, hb1⟩
    obtain ⟨a, c, rfl⟩ := own_slice hown
    replace R0 : Hid (Own4 w1 w.heap.size (.bool false) (.int .u64 0) (.int .u64 0) (.int .i64 0)) := R0.out.below hb1
    replace B0 : Hid (Below w.heap.size w w1) := btr B0.out hb1
    clear hown HS hb1
    obtain ⟨⟨r0, r1, r2, r3⟩, ⟨f0, f1, f2, f3⟩, r4⟩ := R0.out
    have HBr := B0
    clear R0 B0
    go_wp2_with fail
    refine bodyPost_ret (v := .tuple #[.agg #[.bool false, .int .u64 0, .int .u64 0, .int .i64 0], .int .i64 1]) ?_ rfl ⟨by rfl, ?_⟩
    · obtain ⟨a0, a1, a2, a3⟩ := Own4.store ⟨⟨r0, r1, r2, r3⟩, ⟨f0, f1, f2, f3⟩, r4⟩ (.bool false) (.int .u64 0) (.int .u64 0) (.int .i64 0)
      generalize (((w1.setCell _ _).setCell _ _).setCell _ _).setCell _ _ = WW at a0 a1 a2 a3 ⊢
      simp [results, Tryz.results16, go_sem, a0, a1, a2, a3]
    · exact bse (bse (bse (bse HBr.out (Nat.le_refl _) _) (Nat.le_refl _) _) (Nat.le_refl _) _) (Nat.le_refl _) _
end Go.Proofs.YtollaiabcnmebaaGreatDoor

namespace Go.Proofs.YtollaiabcnmebaaGreatDoor
open Go.RowKit

set_option maxHeartbeats 16000000 in
set_option maxRecDepth 100000 in
theorem wholeOf_zero (v : Bool) (hi lo b : Int) (u : Bool) (yi yo c : Int) (w : World) (hb : b = 0) :
    Calls Tryz.prog 15 #[.agg #[.bool v, .int .u64 hi, .int .u64 lo, .int .i64 b], .agg #[.bool u, .int .u64 yi, .int .u64 yo, .int .i64 c]] w fun e w' => e = .returned (.tuple #[.agg #[.bool false, .int .u64 0, .int .u64 0, .int .i64 0], .bool false]) ∧ Below w.heap.size w w' := by
  subst hb
  have hs1 : (w.alloc (.cells #[.bool v, .int .u64 hi, .int .u64 lo, .int .i64 0] 26)).heap.size = w.heap.size + 1 := by simp
  have hs2 : ((w.alloc (.cells #[.bool v, .int .u64 hi, .int .u64 lo, .int .i64 0] 26)).alloc (.cells #[.bool u, .int .u64 yi, .int .u64 yo, .int .i64 c] 26)).heap.size = w.heap.size + 1 + 1 := by simp
  have P0 : Hid (Has4 (((w.alloc (.cells #[.bool v, .int .u64 hi, .int .u64 lo, .int .i64 0] 26)).alloc (.cells #[.bool u, .int .u64 yi, .int .u64 yo, .int .i64 c] 26)).alloc (.cells #[.bool false, .int .u64 0, .int .u64 0, .int .i64 0] 26)) w.heap.size v hi lo 0) := ((Has4.new w _ _ _ _ _).alloc _).alloc _
  have Q0 : Hid (Has4 (((w.alloc (.cells #[.bool v, .int .u64 hi, .int .u64 lo, .int .i64 0] 26)).alloc (.cells #[.bool u, .int .u64 yi, .int .u64 yo, .int .i64 c] 26)).alloc (.cells #[.bool false, .int .u64 0, .int .u64 0, .int .i64 0] 26)) (w.heap.size + 1) u yi yo c) := by
    have := (Has4.new (w.alloc (.cells #[.bool v, .int .u64 hi, .int .u64 lo, .int .i64 0] 26)) u yi yo c 26).alloc (.cells #[.bool false, .int .u64 0, .int .u64 0, .int .i64 0] 26)
    rw [hs1] at this; exact this
  have R0 : Hid (Own4 (((w.alloc (.cells #[.bool v, .int .u64 hi, .int .u64 lo, .int .i64 0] 26)).alloc (.cells #[.bool u, .int .u64 yi, .int .u64 yo, .int .i64 c] 26)).alloc (.cells #[.bool false, .int .u64 0, .int .u64 0, .int .i64 0] 26)) (w.heap.size + 1 + 1) (.bool false) (.int .u64 0) (.int .u64 0) (.int .i64 0)) := by
    have := Own4.new ((w.alloc (.cells #[.bool v, .int .u64 hi, .int .u64 lo, .int .i64 0] 26)).alloc (.cells #[.bool u, .int .u64 yi, .int .u64 yo, .int .i64 c] 26)) (.bool false) (.int .u64 0) (.int .u64 0) (.int .i64 0) 26
    rw [hs2] at this; exact this
  have B0 : Hid (Below w.heap.size w (((w.alloc (.cells #[.bool v, .int .u64 hi, .int .u64 lo, .int .i64 0] 26)).alloc (.cells #[.bool u, .int .u64 yi, .int .u64 yo, .int .i64 c] 26)).alloc (.cells #[.bool false, .int .u64 0, .int .u64 0, .int .i64 0] 26))) := bal (bal (bal (Below.refl _ _) _) _) _
  clear hs1 hs2
  obtain ⟨p0, p1, p2, p3, p4⟩ := P0.out
  go_enter Tryz.func15, Tryz.ntmps15
  go_wp2_with fail
  generalize (((w.alloc (.cells #[.bool v, .int .u64 hi, .int .u64 lo, .int .i64 0] 26)).alloc (.cells #[.bool u, .int .u64 yi, .int .u64 yo, .int .i64 c] 26)).alloc (.cells #[.bool false, .int .u64 0, .int .u64 0, .int .i64 0] 26)) = W0 at *
  obtain ⟨⟨r0, r1, r2, r3⟩, ⟨f0, f1, f2, f3⟩, r4⟩ := R0.out
  have HBr := B0
  clear R0 B0
  refine bodyPost_ret (v := .tuple #[.agg #[.bool false, .int .u64 0, .int .u64 0, .int .i64 0], .bool false]) ?_ rfl ⟨rfl, ?_⟩
  · simp [results, Tryz.results15, go_sem, r0, r1, r2, r3]
  · exact HBr.out

set_option maxHeartbeats 16000000 in
set_option maxRecDepth 100000 in
theorem wholeOf_chk (v : Bool) (hi lo b : Int) (u : Bool) (yi yo c : Int) (w : World) (hb0 : 0 < b) (hb1 : b ≤ 128) (k : Int) (hk : (k != 0) = true) (hk0 : (k == 0) = false)
    (hC : Hid (∀ w : World, Calls Tryz.prog 10 #[.agg #[.bool v, .int .u64 hi, .int .u64 lo, .int .i64 (b - 1)]] w fun e w' => e = .returned (.int .i64 k) ∧ Below w.heap.size w w')) :
    Calls Tryz.prog 15 #[.agg #[.bool v, .int .u64 hi, .int .u64 lo, .int .i64 b], .agg #[.bool u, .int .u64 yi, .int .u64 yo, .int .i64 c]] w fun e w' => e = .returned (.tuple #[.agg #[.bool false, .int .u64 0, .int .u64 0, .int .i64 0], .bool false]) ∧ Below w.heap.size w w' := by
  have hbz : (b == 0) = false := by rw [beq_eq_false_iff_ne]; omega
  have hs1 : (w.alloc (.cells #[.bool v, .int .u64 hi, .int .u64 lo, .int .i64 b] 26)).heap.size = w.heap.size + 1 := by simp
  have hs2 : ((w.alloc (.cells #[.bool v, .int .u64 hi, .int .u64 lo, .int .i64 b] 26)).alloc (.cells #[.bool u, .int .u64 yi, .int .u64 yo, .int .i64 c] 26)).heap.size = w.heap.size + 1 + 1 := by simp
  have P0 : Hid (Has4 (((w.alloc (.cells #[.bool v, .int .u64 hi, .int .u64 lo, .int .i64 b] 26)).alloc (.cells #[.bool u, .int .u64 yi, .int .u64 yo, .int .i64 c] 26)).alloc (.cells #[.bool false, .int .u64 0, .int .u64 0, .int .i64 0] 26)) w.heap.size v hi lo b) := ((Has4.new w _ _ _ _ _).alloc _).alloc _
  have Q0 : Hid (Has4 (((w.alloc (.cells #[.bool v, .int .u64 hi, .int .u64 lo, .int .i64 b] 26)).alloc (.cells #[.bool u, .int .u64 yi, .int .u64 yo, .int .i64 c] 26)).alloc (.cells #[.bool false, .int .u64 0, .int .u64 0, .int .i64 0] 26)) (w.heap.size + 1) u yi yo c) := by
    have := (Has4.new (w.alloc (.cells #[.bool v, .int .u64 hi, .int .u64 lo, .int .i64 b] 26)) u yi yo c 26).alloc (.cells #[.bool false, .int .u64 0, .int .u64 0, .int .i64 0] 26)
    rw [hs1] at this; exact this
  have R0 : Hid (Own4 (((w.alloc (.cells #[.bool v, .int .u64 hi, .int .u64 lo, .int .i64 b] 26)).alloc (.cells #[.bool u, .int .u64 yi, .int .u64 yo, .int .i64 c] 26)).alloc (.cells #[.bool false, .int .u64 0, .int .u64 0, .int .i64 0] 26)) (w.heap.size + 1 + 1) (.bool false) (.int .u64 0) (.int .u64 0) (.int .i64 0)) := by
    have := Own4.new ((w.alloc (.cells #[.bool v, .int .u64 hi, .int .u64 lo, .int .i64 b] 26)).alloc (.cells #[.bool u, .int .u64 yi, .int .u64 yo, .int .i64 c] 26)) (.bool false) (.int .u64 0) (.int .u64 0) (.int .i64 0) 26
    rw [hs2] at this; exact this
  have B0 : Hid (Below w.heap.size w (((w.alloc (.cells #[.bool v, .int .u64 hi, .int .u64 lo, .int .i64 b] 26)).alloc (.cells #[.bool u, .int .u64 yi, .int .u64 yo, .int .i64 c] 26)).alloc (.cells #[.bool false, .int .u64 0, .int .u64 0, .int .i64 0] 26))) := bal (bal (bal (Below.refl _ _) _) _) _
  clear hs1 hs2
  obtain ⟨p0, p1, p2, p3, p4⟩ := P0.out
  have hwr : IntKind.i64.wrap (b - 1) = b - 1 := by rw [IntKind.wrap_i64]; omega
  have CW : Hid (Has4 ((((w.alloc (.cells #[.bool v, .int .u64 hi, .int .u64 lo, .int .i64 b] 26)).alloc (.cells #[.bool u, .int .u64 yi, .int .u64 yo, .int .i64 c] 26)).alloc (.cells #[.bool false, .int .u64 0, .int .u64 0, .int .i64 0] 26)).alloc (.cells #[.bool v, .int .u64 hi, .int .u64 lo, .int .i64 (b - 1)] 26)) (((w.alloc (.cells #[.bool v, .int .u64 hi, .int .u64 lo, .int .i64 b] 26)).alloc (.cells #[.bool u, .int .u64 yi, .int .u64 yo, .int .i64 c] 26)).alloc (.cells #[.bool false, .int .u64 0, .int .u64 0, .int .i64 0] 26)).heap.size v hi lo (b - 1)) := Has4.new _ _ _ _ _ _
  replace P0 : Hid (Has4 ((((w.alloc (.cells #[.bool v, .int .u64 hi, .int .u64 lo, .int .i64 b] 26)).alloc (.cells #[.bool u, .int .u64 yi, .int .u64 yo, .int .i64 c] 26)).alloc (.cells #[.bool false, .int .u64 0, .int .u64 0, .int .i64 0] 26)).alloc (.cells #[.bool v, .int .u64 hi, .int .u64 lo, .int .i64 (b - 1)] 26)) w.heap.size v hi lo b) := P0.out.alloc _
  replace Q0 : Hid (Has4 ((((w.alloc (.cells #[.bool v, .int .u64 hi, .int .u64 lo, .int .i64 b] 26)).alloc (.cells #[.bool u, .int .u64 yi, .int .u64 yo, .int .i64 c] 26)).alloc (.cells #[.bool false, .int .u64 0, .int .u64 0, .int .i64 0] 26)).alloc (.cells #[.bool v, .int .u64 hi, .int .u64 lo, .int .i64 (b - 1)] 26)) (w.heap.size + 1) u yi yo c) := Q0.out.alloc _
  replace R0 : Hid (Own4 ((((w.alloc (.cells #[.bool v, .int .u64 hi, .int .u64 lo, .int .i64 b] 26)).alloc (.cells #[.bool u, .int .u64 yi, .int .u64 yo, .int .i64 c] 26)).alloc (.cells #[.bool false, .int .u64 0, .int .u64 0, .int .i64 0] 26)).alloc (.cells #[.bool v, .int .u64 hi, .int .u64 lo, .int .i64 (b - 1)] 26)) (w.heap.size + 1 + 1) (.bool false) (.int .u64 0) (.int .u64 0) (.int .i64 0)) := R0.out.alloc _
  replace B0 : Hid (Below w.heap.size w ((((w.alloc (.cells #[.bool v, .int .u64 hi, .int .u64 lo, .int .i64 b] 26)).alloc (.cells #[.bool u, .int .u64 yi, .int .u64 yo, .int .i64 c] 26)).alloc (.cells #[.bool false, .int .u64 0, .int .u64 0, .int .i64 0] 26)).alloc (.cells #[.bool v, .int .u64 hi, .int .u64 lo, .int .i64 (b - 1)] 26))) := bal B0.out _
  go_enter Tryz.func15, Tryz.ntmps15
  go_wp2_with fail
  generalize (((w.alloc (.cells #[.bool v, .int .u64 hi, .int .u64 lo, .int .i64 b] 26)).alloc (.cells #[.bool u, .int .u64 yi, .int .u64 yo, .int .i64 c] 26)).alloc (.cells #[.bool false, .int .u64 0, .int .u64 0, .int .i64 0] 26)).alloc (.cells #[.bool v, .int .u64 hi, .int .u64 lo, .int .i64 (b - 1)] 26) = W0 at *
  refine (hC.out _).mono ?_
  rintro e w1 ⟨rfl, hb⟩
  replace R0 : Hid (Own4 w1 (w.heap.size + 1 + 1) (.bool false) (.int .u64 0) (.int .u64 0) (.int .i64 0)) := R0.out.below hb
  replace B0 : Hid (Below w.heap.size w w1) := btr B0.out hb
  clear hb p0 p1 p2 p3 p4 P0 Q0 CW
  obtain ⟨⟨r0, r1, r2, r3⟩, ⟨f0, f1, f2, f3⟩, r4⟩ := R0.out
  have HBr := B0
  clear R0 B0
  go_wp2_with fail
  refine bodyPost_ret (v := .tuple #[.agg #[.bool false, .int .u64 0, .int .u64 0, .int .i64 0], .bool false]) ?_ rfl ⟨by rfl, ?_⟩
  · obtain ⟨a0, a1, a2, a3⟩ := Own4.store ⟨⟨r0, r1, r2, r3⟩, ⟨f0, f1, f2, f3⟩, r4⟩ (.bool false) (.int .u64 0) (.int .u64 0) (.int .i64 0)
    generalize (((w1.setCell _ _).setCell _ _).setCell _ _).setCell _ _ = WW at a0 a1 a2 a3 ⊢
    simp [results, Tryz.results15, go_sem, a0, a1, a2, a3]
  · exact bse (bse (bse (bse HBr.out (by show w.heap.size ≤ w.heap.size + 1 + 1; omega) _) (by show w.heap.size ≤ w.heap.size + 1 + 1; omega) _) (by show w.heap.size ≤ w.heap.size + 1 + 1; omega) _) (by show w.heap.size ≤ w.heap.size + 1 + 1; omega) _

set_option maxHeartbeats 16000000 in
set_option maxRecDepth 100000 in
theorem wholeOf_two (v : Bool) (hi lo b : Int) (u : Bool) (yi yo c : Int) (w : World) (hb0 : 0 < b) (hb1 : b ≤ 128) (G1 G2 : Int)
    (hC : Hid (∀ w : World, Calls Tryz.prog 10 #[.agg #[.bool v, .int .u64 hi, .int .u64 lo, .int .i64 (b - 1)]] w fun e w' => e = .returned (.int .i64 0) ∧ Below w.heap.size w w'))
    (hH : Hid (∀ w : World, Calls Tryz.prog 14 #[.agg #[.bool v, .int .u64 hi, .int .u64 lo, .int .i64 (b - 1)]] w fun e w' => e = .returned (.tuple #[.agg #[.bool v, .int .u64 hi, .int .u64 lo, .int .i64 b], .agg #[.bool v, .int .u64 G1, .int .u64 G2, .int .i64 b]]) ∧ Below w.heap.size w w')) :
    Calls Tryz.prog 15 #[.agg #[.bool v, .int .u64 hi, .int .u64 lo, .int .i64 b], .agg #[.bool u, .int .u64 yi, .int .u64 yo, .int .i64 c]] w fun e w' => e = .returned (.tuple #[.agg #[.bool v, .int .u64 hi, .int .u64 lo, .int .i64 (b - 1)], .bool (eqP v G1 G2 b u yi yo c)]) ∧ Below w.heap.size w w' := by
  have hbz : (b == 0) = false := by rw [beq_eq_false_iff_ne]; omega
  have hs1 : (w.alloc (.cells #[.bool v, .int .u64 hi, .int .u64 lo, .int .i64 b] 26)).heap.size = w.heap.size + 1 := by simp
  have hs2 : ((w.alloc (.cells #[.bool v, .int .u64 hi, .int .u64 lo, .int .i64 b] 26)).alloc (.cells #[.bool u, .int .u64 yi, .int .u64 yo, .int .i64 c] 26)).heap.size = w.heap.size + 1 + 1 := by simp
  have P0 : Hid (Has4 (((w.alloc (.cells #[.bool v, .int .u64 hi, .int .u64 lo, .int .i64 b] 26)).alloc (.cells #[.bool u, .int .u64 yi, .int .u64 yo, .int .i64 c] 26)).alloc (.cells #[.bool false, .int .u64 0, .int .u64 0, .int .i64 0] 26)) w.heap.size v hi lo b) := ((Has4.new w _ _ _ _ _).alloc _).alloc _
  have Q0 : Hid (Has4 (((w.alloc (.cells #[.bool v, .int .u64 hi, .int .u64 lo, .int .i64 b] 26)).alloc (.cells #[.bool u, .int .u64 yi, .int .u64 yo, .int .i64 c] 26)).alloc (.cells #[.bool false, .int .u64 0, .int .u64 0, .int .i64 0] 26)) (w.heap.size + 1) u yi yo c) := by
    have := (Has4.new (w.alloc (.cells #[.bool v, .int .u64 hi, .int .u64 lo, .int .i64 b] 26)) u yi yo c 26).alloc (.cells #[.bool false, .int .u64 0, .int .u64 0, .int .i64 0] 26)
    rw [hs1] at this; exact this
  have R0 : Hid (Own4 (((w.alloc (.cells #[.bool v, .int .u64 hi, .int .u64 lo, .int .i64 b] 26)).alloc (.cells #[.bool u, .int .u64 yi, .int .u64 yo, .int .i64 c] 26)).alloc (.cells #[.bool false, .int .u64 0, .int .u64 0, .int .i64 0] 26)) (w.heap.size + 1 + 1) (.bool false) (.int .u64 0) (.int .u64 0) (.int .i64 0)) := by
    have := Own4.new ((w.alloc (.cells #[.bool v, .int .u64 hi, .int .u64 lo, .int .i64 b] 26)).alloc (.cells #[.bool u, .int .u64 yi, .int .u64 yo, .int .i64 c] 26)) (.bool false) (.int .u64 0) (.int .u64 0) (.int .i64 0) 26
    rw [hs2] at this; exact this
  have B0 : Hid (Below w.heap.size w (((w.alloc (.cells #[.bool v, .int .u64 hi, .int .u64 lo, .int .i64 b] 26)).alloc (.cells #[.bool u, .int .u64 yi, .int .u64 yo, .int .i64 c] 26)).alloc (.cells #[.bool false, .int .u64 0, .int .u64 0, .int .i64 0] 26))) := bal (bal (bal (Below.refl _ _) _) _) _
  clear hs1 hs2
  obtain ⟨p0, p1, p2, p3, p4⟩ := P0.out
  have hwr : IntKind.i64.wrap (b - 1) = b - 1 := by rw [IntKind.wrap_i64]; omega
  have CW : Hid (Has4 ((((w.alloc (.cells #[.bool v, .int .u64 hi, .int .u64 lo, .int .i64 b] 26)).alloc (.cells #[.bool u, .int .u64 yi, .int .u64 yo, .int .i64 c] 26)).alloc (.cells #[.bool false, .int .u64 0, .int .u64 0, .int .i64 0] 26)).alloc (.cells #[.bool v, .int .u64 hi, .int .u64 lo, .int .i64 (b - 1)] 26)) (w.heap.size + 1 + 1 + 1) v hi lo (b - 1)) := by
    have := Has4.new (((w.alloc (.cells #[.bool v, .int .u64 hi, .int .u64 lo, .int .i64 b] 26)).alloc (.cells #[.bool u, .int .u64 yi, .int .u64 yo, .int .i64 c] 26)).alloc (.cells #[.bool false, .int .u64 0, .int .u64 0, .int .i64 0] 26)) v hi lo (b - 1) 26
    rw [show (((w.alloc (.cells #[.bool v, .int .u64 hi, .int .u64 lo, .int .i64 b] 26)).alloc (.cells #[.bool u, .int .u64 yi, .int .u64 yo, .int .i64 c] 26)).alloc (.cells #[.bool false, .int .u64 0, .int .u64 0, .int .i64 0] 26)).heap.size = w.heap.size + 1 + 1 + 1 by simp] at this; exact this
  replace P0 : Hid (Has4 ((((w.alloc (.cells #[.bool v, .int .u64 hi, .int .u64 lo, .int .i64 b] 26)).alloc (.cells #[.bool u, .int .u64 yi, .int .u64 yo, .int .i64 c] 26)).alloc (.cells #[.bool false, .int .u64 0, .int .u64 0, .int .i64 0] 26)).alloc (.cells #[.bool v, .int .u64 hi, .int .u64 lo, .int .i64 (b - 1)] 26)) w.heap.size v hi lo b) := P0.out.alloc _
  replace Q0 : Hid (Has4 ((((w.alloc (.cells #[.bool v, .int .u64 hi, .int .u64 lo, .int .i64 b] 26)).alloc (.cells #[.bool u, .int .u64 yi, .int .u64 yo, .int .i64 c] 26)).alloc (.cells #[.bool false, .int .u64 0, .int .u64 0, .int .i64 0] 26)).alloc (.cells #[.bool v, .int .u64 hi, .int .u64 lo, .int .i64 (b - 1)] 26)) (w.heap.size + 1) u yi yo c) := Q0.out.alloc _
  replace R0 : Hid (Own4 ((((w.alloc (.cells #[.bool v, .int .u64 hi, .int .u64 lo, .int .i64 b] 26)).alloc (.cells #[.bool u, .int .u64 yi, .int .u64 yo, .int .i64 c] 26)).alloc (.cells #[.bool false, .int .u64 0, .int .u64 0, .int .i64 0] 26)).alloc (.cells #[.bool v, .int .u64 hi, .int .u64 lo, .int .i64 (b - 1)] 26)) (w.heap.size + 1 + 1) (.bool false) (.int .u64 0) (.int .u64 0) (.int .i64 0)) := R0.out.alloc _
  replace B0 : Hid (Below w.heap.size w ((((w.alloc (.cells #[.bool v, .int .u64 hi, .int .u64 lo, .int .i64 b] 26)).alloc (.cells #[.bool u, .int .u64 yi, .int .u64 yo, .int .i64 c] 26)).alloc (.cells #[.bool false, .int .u64 0, .int .u64 0, .int .i64 0] 26)).alloc (.cells #[.bool v, .int .u64 hi, .int .u64 lo, .int .i64 (b - 1)] 26))) := bal B0.out _
  go_enter Tryz.func15, Tryz.ntmps15
  go_wp2_with fail
  generalize (((w.alloc (.cells #[.bool v, .int .u64 hi, .int .u64 lo, .int .i64 b] 26)).alloc (.cells #[.bool u, .int .u64 yi, .int .u64 yo, .int .i64 c] 26)).alloc (.cells #[.bool false, .int .u64 0, .int .u64 0, .int .i64 0] 26)).alloc (.cells #[.bool v, .int .u64 hi, .int .u64 lo, .int .i64 (b - 1)] 26) = W0 at *
  refine (hC.out _).mono ?_
  rintro e w1 ⟨rfl, hb⟩
  replace P0 : Hid (Has4 w1 w.heap.size v hi lo b) := P0.out.below hb
  replace Q0 : Hid (Has4 w1 (w.heap.size + 1) u yi yo c) := Q0.out.below hb
  replace CW : Hid (Has4 w1 (w.heap.size + 1 + 1 + 1) v hi lo (b - 1)) := CW.out.below hb
  replace R0 : Hid (Own4 w1 (w.heap.size + 1 + 1) (.bool false) (.int .u64 0) (.int .u64 0) (.int .i64 0)) := R0.out.below hb
  replace B0 : Hid (Below w.heap.size w w1) := btr B0.out hb
  clear hb p0 p1 p2 p3 p4
  obtain ⟨c0, c1, c2, c3, c4⟩ := CW.out
  go_wp2_with fail
  refine (hH.out _).mono ?_
  rintro e w2 ⟨rfl, hb⟩
  clear c0 c1 c2 c3 c4
  have u8 : w.heap.size + 1 + 1 < w2.heap.size := (R0.out.below hb).2.2
  replace P0 : Hid (Has4 ((w2.alloc (.cells #[.bool v, .int .u64 hi, .int .u64 lo, .int .i64 b] 26)).alloc (.cells #[.bool v, .int .u64 G1, .int .u64 G2, .int .i64 b] 26)) w.heap.size v hi lo b) := ((P0.out.below hb).alloc _).alloc _
  replace Q0 : Hid (Has4 ((w2.alloc (.cells #[.bool v, .int .u64 hi, .int .u64 lo, .int .i64 b] 26)).alloc (.cells #[.bool v, .int .u64 G1, .int .u64 G2, .int .i64 b] 26)) (w.heap.size + 1) u yi yo c) := ((Q0.out.below hb).alloc _).alloc _
  replace CW : Hid (Has4 ((w2.alloc (.cells #[.bool v, .int .u64 hi, .int .u64 lo, .int .i64 b] 26)).alloc (.cells #[.bool v, .int .u64 G1, .int .u64 G2, .int .i64 b] 26)) (w.heap.size + 1 + 1 + 1) v hi lo (b - 1)) := ((CW.out.below hb).alloc _).alloc _
  replace R0 : Hid (Own4 ((w2.alloc (.cells #[.bool v, .int .u64 hi, .int .u64 lo, .int .i64 b] 26)).alloc (.cells #[.bool v, .int .u64 G1, .int .u64 G2, .int .i64 b] 26)) (w.heap.size + 1 + 1) (.bool false) (.int .u64 0) (.int .u64 0) (.int .i64 0)) := ((R0.out.below hb).alloc _).alloc _
  replace B0 : Hid (Below w.heap.size w ((w2.alloc (.cells #[.bool v, .int .u64 hi, .int .u64 lo, .int .i64 b] 26)).alloc (.cells #[.bool v, .int .u64 G1, .int .u64 G2, .int .i64 b] 26))) := bal (bal (btr B0.out hb) _) _
  have L1 : Hid (Has4 ((w2.alloc (.cells #[.bool v, .int .u64 hi, .int .u64 lo, .int .i64 b] 26)).alloc (.cells #[.bool v, .int .u64 G1, .int .u64 G2, .int .i64 b] 26)) w2.heap.size v hi lo b) := (Has4.new w2 _ _ _ _ _).alloc _
  have L2 : Hid (Has4 ((w2.alloc (.cells #[.bool v, .int .u64 hi, .int .u64 lo, .int .i64 b] 26)).alloc (.cells #[.bool v, .int .u64 G1, .int .u64 G2, .int .i64 b] 26)) (w2.heap.size + 1) v G1 G2 b) := by
    have := Has4.new (w2.alloc (.cells #[.bool v, .int .u64 hi, .int .u64 lo, .int .i64 b] 26)) v G1 G2 b 26
    rw [show (w2.alloc (.cells #[.bool v, .int .u64 hi, .int .u64 lo, .int .i64 b] 26)).heap.size = w2.heap.size + 1 by simp] at this
    exact this
  clear hb
  go_wp2_with fail
  generalize (w2.alloc (.cells #[.bool v, .int .u64 hi, .int .u64 lo, .int .i64 b] 26)).alloc (.cells #[.bool v, .int .u64 G1, .int .u64 G2, .int .i64 b] 26) = W4 at *
  generalize w2.heap.size = m4 at *
  have E1 := eql_pf v hi lo b v hi lo b
  rw [show eqP v hi lo b v hi lo b = true by simp [eqP, eqA]] at E1
  have E2 := eql_pf v G1 G2 b u yi yo c
  obtain ⟨p0, p1, p2, p3, p4⟩ := P0.out
  obtain ⟨q0, q1, q2, q3, q4⟩ := Q0.out
  obtain ⟨c0, c1, c2, c3, c4⟩ := CW.out
  obtain ⟨x0, x1, x2, x3, x4⟩ := L1.out
  obtain ⟨y0, y1, y2, y3, y4⟩ := L2.out
  obtain ⟨⟨r0, r1, r2, r3⟩, ⟨f0, f1, f2, f3⟩, r4⟩ := R0.out
  have n1 : m4 ≠ w.heap.size + 1 + 1 := by omega
  have n2 : m4 + 1 ≠ w.heap.size + 1 + 1 := by omega
  have n3 : w.heap.size ≠ w.heap.size + 1 + 1 := by omega
  have n4 : w.heap.size + 1 ≠ w.heap.size + 1 + 1 := by omega
  have n5 : w.heap.size + 1 + 1 + 1 ≠ w.heap.size + 1 + 1 := by omega
  go_region
  all_goals
    go_wp2
    refine bodyPost_ret (v := .tuple #[.agg #[.bool v, .int .u64 hi, .int .u64 lo, .int .i64 (b - 1)], .bool (eqP v G1 G2 b u yi yo c)]) ?_ rfl ⟨rfl, ?_⟩
    · simp [results, Tryz.results15, go_sem, r0, r1, r2, r3]
    · exact Below.drew (bse (bse (bse (bse (B0.out) (by first | (simp; done) | (simp; omega)) _) (by first | (simp; done) | (simp; omega)) _) (by first | (simp; done) | (simp; omega)) _) (by first | (simp; done) | (simp; omega)) _)

end Go.Proofs.YtollaiabcnmebaaGreatDoor

namespace Go.Proofs.YtollaiabcnmebaaGreatDoor
open Go.RowKit

/-- The greater half: the first bit behind the prefix is a one. -/
theorem great_parts {v : Bool} {hi lo b : Nat} (r : Right v hi lo b) (hlt : (b : Int) < wid v) : ∀ R, R = (bitsT v hi lo).set b 49 →
    IsBin R ∧ (R.length : Int) = wid v ∧ decide (R.length = 128) = v ∧ fsH v (laH v hi b) (b + 1) = ((vbin 0 (R.take (R.length - 64)) : Nat) : Int) ∧ fsL v (laL v lo b) (b + 1) = ((vbin 0 (R.drop (R.length - 64)) : Nat) : Int) := by
  intro R hR
  have h1 := r.h1
  have l1 := r.l1
  have hlen := bits_wid v hi lo
  have hbl : b < (bitsT v hi lo).length := by omega
  have hl : (R.length : Int) = wid v := by rw [hR, List.length_set]; exact hlen
  obtain ⟨n1, rr⟩ := great_num r hlt
  have hbin : IsBin R := by
    intro c hc
    rw [hR] at hc
    rcases List.mem_or_eq_of_mem_set hc with h | h
    · exact bitsT_bin v hi lo c h
    · exact .inr h
  refine ⟨hbin, hl, parts_addr hl rr.h0 rr.l0 rr.l1 ?_⟩
  have h0 : (bitsT v hi lo)[b] = 48 := right_bits r _ (by rw [List.drop_eq_getElem_cons hbl]; exact List.mem_cons_self ..)
  rw [n1, ← bits_num r.c (by omega) (by omega), hR, vbin_set _ b hbl h0, amt, show (wid v - ((b : Int) + 1)).toNat = (bitsT v hi lo).length - b - 1 by omega]
  simp

theorem Has4.oth {W : World} {p : Nat} {v : Bool} {hi lo b : Int} (h : Has4 W p v hi lo b) {a : Addr} (hn : ∀ i : Nat, a ≠ ⟨p, i, none⟩) (x : Value) : Has4 (W.setCell a x) p v hi lo b := by
  obtain ⟨h0, h1, h2, h3, h4⟩ := h
  exact ⟨by rw [World.cell?_setCell_other (h := hn 0)]; exact h0, by rw [World.cell?_setCell_other (h := hn 1)]; exact h1, by rw [World.cell?_setCell_other (h := hn 2)]; exact h2, by rw [World.cell?_setCell_other (h := hn 3)]; exact h3, by simpa using h4⟩
theorem Own4.oth {W : World} {p : Nat} {x y z t : Value} (h : Own4 W p x y z t) {a : Addr} (hn : ∀ i : Nat, a ≠ ⟨p, i, none⟩) (u : Value) : Own4 (W.setCell a u) p x y z t := by
  obtain ⟨⟨h0, h1, h2, h3⟩, ⟨f0, f1, f2, f3⟩, h4⟩ := h
  exact ⟨⟨by rw [World.cell?_setCell_other (h := hn 0)]; exact h0, by rw [World.cell?_setCell_other (h := hn 1)]; exact h1, by rw [World.cell?_setCell_other (h := hn 2)]; exact h2, by rw [World.cell?_setCell_other (h := hn 3)]; exact h3⟩,
    ⟨by rw [World.frozen?_setCell]; exact f0, by rw [World.frozen?_setCell]; exact f1, by rw [World.frozen?_setCell]; exact f2, by rw [World.frozen?_setCell]; exact f3⟩, by simpa using h4⟩

theorem RowU.oth {W : World} {B q i : Nat} {R : List UInt8} (h : RowU W B R) (hn : q ≠ B) (x : Value) : RowU (W.setCell ⟨q, i, none⟩ x) B R := by
  intro j d hj
  obtain ⟨h1, h2⟩ := h j d hj
  refine ⟨?_, by rw [World.frozen?_setCell]; exact h2⟩
  rw [World.cell?_setCell_other (h := by intro e; injection e with e; exact hn e)]
  exact h1
theorem conv_of {W : World} {B N c : Nat} {R : List UInt8} {X : ByteArray} (h : RowU W B R) (hX : X = ⟨R.toArray⟩) (hN : N = R.length) : ((convert 59 9 (.slice (some ⟨B, 0, none⟩) N c)).run Tryz.prog W = .ok (.string X) W) := by
  rw [hX]
  exact cvt W B 0 c R N hN (fun j hj => by rw [Nat.zero_add]; exact (h j _ (List.getElem?_eq_getElem hj)).1)
theorem keepR {w W W' : World} {p B N c : Nat} {v : Bool} {hi lo b : Int} {R : List UInt8} {X : ByteArray} (hX : X = ⟨R.toArray⟩) (hN : N = R.length) (h : (W.cell? ⟨p, 0, none⟩ = some (.bool v) ∧ W.cell? ⟨p, 1, none⟩ = some (.int .u64 hi) ∧ W.cell? ⟨p, 2, none⟩ = some (.int .u64 lo) ∧ W.cell? ⟨p, 3, none⟩ = some (.int .i64 b) ∧ p < W.heap.size) ∧ ((convert 59 9 (.slice (some ⟨B, 0, none⟩) N c)).run Tryz.prog W = .ok (.string X) W) ∧ (RowU W B R ∧ B < W.heap.size) ∧ Below w.heap.size w W) (hb : Below W.heap.size W W') : (W'.cell? ⟨p, 0, none⟩ = some (.bool v) ∧ W'.cell? ⟨p, 1, none⟩ = some (.int .u64 hi) ∧ W'.cell? ⟨p, 2, none⟩ = some (.int .u64 lo) ∧ W'.cell? ⟨p, 3, none⟩ = some (.int .i64 b) ∧ p < W'.heap.size) ∧ ((convert 59 9 (.slice (some ⟨B, 0, none⟩) N c)).run Tryz.prog W' = .ok (.string X) W') ∧ (RowU W' B R ∧ B < W'.heap.size) ∧ Below w.heap.size w W' := by
  have h1 : Has4 W p v hi lo b := h.1
  have hr := h.2.2.1.1.below h.2.2.1.2 hb
  exact ⟨h1.below hb, conv_of hr hX hN, ⟨hr, Nat.lt_of_lt_of_le h.2.2.1.2 hb.size⟩, btr h.2.2.2 hb⟩
theorem keepRs {w W : World} {p q B N c : Nat} {v : Bool} {hi lo b : Int} {R : List UInt8} {X : ByteArray} {x y z t : Value} (hX : X = ⟨R.toArray⟩) (hN : N = R.length) (h : (W.cell? ⟨p, 0, none⟩ = some (.bool v) ∧ W.cell? ⟨p, 1, none⟩ = some (.int .u64 hi) ∧ W.cell? ⟨p, 2, none⟩ = some (.int .u64 lo) ∧ W.cell? ⟨p, 3, none⟩ = some (.int .i64 b) ∧ p < W.heap.size) ∧ ((convert 59 9 (.slice (some ⟨B, 0, none⟩) N c)).run Tryz.prog W = .ok (.string X) W) ∧ (RowU W B R ∧ B < W.heap.size) ∧ Below w.heap.size w W) (hn : q ≠ p) (hq : w.heap.size ≤ q) (hB : q ≠ B) : (((((W.setCell ⟨q, 0, none⟩ x).setCell ⟨q, 1, none⟩ y).setCell ⟨q, 2, none⟩ z).setCell ⟨q, 3, none⟩ t).cell? ⟨p, 0, none⟩ = some (.bool v) ∧ ((((W.setCell ⟨q, 0, none⟩ x).setCell ⟨q, 1, none⟩ y).setCell ⟨q, 2, none⟩ z).setCell ⟨q, 3, none⟩ t).cell? ⟨p, 1, none⟩ = some (.int .u64 hi) ∧ ((((W.setCell ⟨q, 0, none⟩ x).setCell ⟨q, 1, none⟩ y).setCell ⟨q, 2, none⟩ z).setCell ⟨q, 3, none⟩ t).cell? ⟨p, 2, none⟩ = some (.int .u64 lo) ∧ ((((W.setCell ⟨q, 0, none⟩ x).setCell ⟨q, 1, none⟩ y).setCell ⟨q, 2, none⟩ z).setCell ⟨q, 3, none⟩ t).cell? ⟨p, 3, none⟩ = some (.int .i64 b) ∧ p < ((((W.setCell ⟨q, 0, none⟩ x).setCell ⟨q, 1, none⟩ y).setCell ⟨q, 2, none⟩ z).setCell ⟨q, 3, none⟩ t).heap.size) ∧ ((convert 59 9 (.slice (some ⟨B, 0, none⟩) N c)).run Tryz.prog ((((W.setCell ⟨q, 0, none⟩ x).setCell ⟨q, 1, none⟩ y).setCell ⟨q, 2, none⟩ z).setCell ⟨q, 3, none⟩ t) = .ok (.string X) ((((W.setCell ⟨q, 0, none⟩ x).setCell ⟨q, 1, none⟩ y).setCell ⟨q, 2, none⟩ z).setCell ⟨q, 3, none⟩ t)) ∧ (RowU ((((W.setCell ⟨q, 0, none⟩ x).setCell ⟨q, 1, none⟩ y).setCell ⟨q, 2, none⟩ z).setCell ⟨q, 3, none⟩ t) B R ∧ B < ((((W.setCell ⟨q, 0, none⟩ x).setCell ⟨q, 1, none⟩ y).setCell ⟨q, 2, none⟩ z).setCell ⟨q, 3, none⟩ t).heap.size) ∧ Below w.heap.size w ((((W.setCell ⟨q, 0, none⟩ x).setCell ⟨q, 1, none⟩ y).setCell ⟨q, 2, none⟩ z).setCell ⟨q, 3, none⟩ t) := by
  have ne : ∀ i j : Nat, (⟨q, i, none⟩ : Addr) ≠ ⟨p, j, none⟩ := by intro i j e; injection e with e; exact hn e
  have h1 : Has4 W p v hi lo b := h.1
  have hr := (((h.2.2.1.1.oth (i := 0) hB x).oth (i := 1) hB y).oth (i := 2) hB z).oth (i := 3) hB t
  exact ⟨(((h1.oth (ne 0) x).oth (ne 1) y).oth (ne 2) z).oth (ne 3) t, conv_of hr hX hN, ⟨hr, by simpa using h.2.2.1.2⟩, bse (bse (bse (bse h.2.2.2 (p := ⟨q, 0, none⟩) hq _) (p := ⟨q, 1, none⟩) hq _) (p := ⟨q, 2, none⟩) hq _) (p := ⟨q, 3, none⟩) hq _⟩
theorem lastR {w W : World} {a b c : Prop} (h : a ∧ b ∧ c ∧ Below w.heap.size w W) : Below w.heap.size w W := h.2.2.2

set_option maxHeartbeats 8000000 in
set_option maxRecDepth 100000 in
theorem halvesOf_any (v : Bool) (hi lo b : Nat) (w : World) (r : Right v hi lo b) (hlt : (b : Int) < wid v) :
    Calls Tryz.prog 14 #[.agg #[.bool v, .int .u64 hi, .int .u64 lo, .int .i64 (b : Int)]] w fun e w' => e = .returned (.tuple #[.agg #[.bool v, .int .u64 hi, .int .u64 lo, .int .i64 ((b : Int) + 1)], .agg #[.bool v, .int .u64 (fsH v (laH v hi b) (b + 1)), .int .u64 (fsL v (laL v lo b) (b + 1)), .int .i64 ((b : Int) + 1)]]) ∧ Below w.heap.size w w' := by
  have h1 := r.h1
  have l1 := r.l1
  have hw128 : wid v ≤ 128 := by unfold wid; split <;> omega
  have hlen := bits_wid v hi lo
  have HX : Hid (∀ w : World, Calls Tryz.prog 13 #[.agg #[.bool v, .int .u64 hi, .int .u64 lo]] w fun e w' => e = .returned (.string ⟨(bitsT v hi lo).toArray⟩) ∧ Below w.heap.size w w') := fun w => bits_any v hi lo w (by omega) (by omega)
  obtain ⟨g1, g2, g3, g4, g5⟩ := great_parts r hlt _ rfl
  have HA : Hid (∀ w : World, Calls Tryz.prog 34 #[.string ⟨((bitsT v hi lo).set b 49).toArray⟩] w fun e w' => e = .returned (.agg #[.bool v, .int .u64 (fsH v (laH v hi b) (b + 1)), .int .u64 (fsL v (laL v lo b) (b + 1))]) ∧ Below w.heap.size w w') := by
    intro w
    have hz : (⟨((bitsT v hi lo).set b 49).toArray⟩ : ByteArray).size = ((bitsT v hi lo).set b 49).length := by show (List.toArray _).size = _; rw [List.size_toArray]
    have := addrOf_any ⟨((bitsT v hi lo).set b 49).toArray⟩ w (by omega) g1
    rw [hz] at this
    rw [g4, g5]
    have e3 : Value.bool v = Value.bool (decide (((bitsT v hi lo).set b 49).length = 128)) := by rw [g3]
    rw [e3]
    exact this
  have hs1 : (w.alloc (.cells #[.bool v, .int .u64 hi, .int .u64 lo, .int .i64 (b : Int)] 26)).heap.size = w.heap.size + 1 := by simp
  have hs2 : ((w.alloc (.cells #[.bool v, .int .u64 hi, .int .u64 lo, .int .i64 (b : Int)] 26)).alloc (.cells #[.bool false, .int .u64 0, .int .u64 0, .int .i64 0] 26)).heap.size = w.heap.size + 1 + 1 := by simp
  have P1 : Hid (Has4 (((w.alloc (.cells #[.bool v, .int .u64 hi, .int .u64 lo, .int .i64 (b : Int)] 26)).alloc (.cells #[.bool false, .int .u64 0, .int .u64 0, .int .i64 0] 26)).alloc (.cells #[.bool false, .int .u64 0, .int .u64 0, .int .i64 0] 26)) w.heap.size v hi lo b) := ((Has4.new w _ _ _ _ _).alloc _).alloc _
  have R1 : Hid (Own4 (((w.alloc (.cells #[.bool v, .int .u64 hi, .int .u64 lo, .int .i64 (b : Int)] 26)).alloc (.cells #[.bool false, .int .u64 0, .int .u64 0, .int .i64 0] 26)).alloc (.cells #[.bool false, .int .u64 0, .int .u64 0, .int .i64 0] 26)) (w.heap.size + 1) (.bool false) (.int .u64 0) (.int .u64 0) (.int .i64 0)) := by
    have := (Own4.new (w.alloc (.cells #[.bool v, .int .u64 hi, .int .u64 lo, .int .i64 (b : Int)] 26)) (.bool false) (.int .u64 0) (.int .u64 0) (.int .i64 0) 26).alloc (.cells #[.bool false, .int .u64 0, .int .u64 0, .int .i64 0] 26)
    rw [hs1] at this; exact this
  have R2 : Hid (Own4 (((w.alloc (.cells #[.bool v, .int .u64 hi, .int .u64 lo, .int .i64 (b : Int)] 26)).alloc (.cells #[.bool false, .int .u64 0, .int .u64 0, .int .i64 0] 26)).alloc (.cells #[.bool false, .int .u64 0, .int .u64 0, .int .i64 0] 26)) (w.heap.size + 1 + 1) (.bool false) (.int .u64 0) (.int .u64 0) (.int .i64 0)) := by
    have := Own4.new ((w.alloc (.cells #[.bool v, .int .u64 hi, .int .u64 lo, .int .i64 (b : Int)] 26)).alloc (.cells #[.bool false, .int .u64 0, .int .u64 0, .int .i64 0] 26)) (.bool false) (.int .u64 0) (.int .u64 0) (.int .i64 0) 26
    rw [hs2] at this; exact this
  have HB0 : Hid (Below w.heap.size w (((w.alloc (.cells #[.bool v, .int .u64 hi, .int .u64 lo, .int .i64 (b : Int)] 26)).alloc (.cells #[.bool false, .int .u64 0, .int .u64 0, .int .i64 0] 26)).alloc (.cells #[.bool false, .int .u64 0, .int .u64 0, .int .i64 0] 26))) := bal (bal (bal (Below.refl _ _) _) _) _
  clear hs1 hs2
  have HROWN : Hid (IsBin (bitsT v hi lo)) := bitsT_bin v hi lo
  generalize hbt : bitsT v hi lo = l at *
  generalize fsH v (laH v hi b) (b + 1) = G1 at *
  generalize fsL v (laL v lo b) (b + 1) = G2 at *
  have hbl : b < l.length := by omega
  have hbi : (b : Int) < (l.length : Int) := by omega
  clear g1 g2 g3 g4 g5 r h1 l1 hbt
  obtain ⟨N, hN⟩ : ∃ N, N = l.length := ⟨_, rfl⟩
  have hsN : (⟨l.toArray⟩ : ByteArray).size = N := by rw [hN]; rfl
  have hW3 := R2.out.2.2
  go_enter Tryz.func14, Tryz.ntmps14
  go_wp2_with fail
  generalize (((w.alloc (.cells #[.bool v, .int .u64 hi, .int .u64 lo, .int .i64 (b : Int)] 26)).alloc (.cells #[.bool false, .int .u64 0, .int .u64 0, .int .i64 0] 26)).alloc (.cells #[.bool false, .int .u64 0, .int .u64 0, .int .i64 0] 26)) = W at *
  refine (HX.out _).mono ?_
  rintro e w1 ⟨rfl, hb1⟩
  have hB3 : w.heap.size + 1 + 1 < w1.heap.size := Nat.lt_of_lt_of_le hW3 hb1.size
  obtain ⟨c, W2, hcv, hrow, hb2, hsz2⟩ := conv_bytes w1 ⟨l.toArray⟩
  have hb12 := btr hb1 hb2
  replace P1 : Hid (Has4 W2 w.heap.size v hi lo b) := P1.out.below hb12
  replace R1 : Hid (Own4 W2 (w.heap.size + 1) (.bool false) (.int .u64 0) (.int .u64 0) (.int .i64 0)) := R1.out.below hb12
  replace R2 : Hid (Own4 W2 (w.heap.size + 1 + 1) (.bool false) (.int .u64 0) (.int .u64 0) (.int .i64 0)) := R2.out.below hb12
  replace HB0 : Hid (Below w.heap.size w W2) := btr HB0.out hb12
  have hrow' : RowU W2 w1.heap.size l := hrow
  rw [hsN] at hcv
  generalize w1.heap.size = B at *
  obtain ⟨hcm, hfm⟩ := hrow' b l[b] (List.getElem?_eq_getElem hbl)
  have hset := hrow'.set b hbl 49
  have ne0 : ∀ i : Nat, (⟨B, b, none⟩ : Addr) ≠ ⟨w.heap.size, i, none⟩ := by intro i e; injection e with e; omega
  have ne1 : ∀ i : Nat, (⟨B, b, none⟩ : Addr) ≠ ⟨w.heap.size + 1, i, none⟩ := by intro i e; injection e with e; omega
  have ne2 : ∀ i : Nat, (⟨B, b, none⟩ : Addr) ≠ ⟨w.heap.size + 1 + 1, i, none⟩ := by intro i e; injection e with e; omega
  have P3 : Hid (Has4 (W2.setCell ⟨B, b, none⟩ (.int .u8 49)) w.heap.size v hi lo b) := P1.out.oth ne0 _
  have R3 : Hid (Own4 (W2.setCell ⟨B, b, none⟩ (.int .u8 49)) (w.heap.size + 1) (.bool false) (.int .u64 0) (.int .u64 0) (.int .i64 0)) := R1.out.oth ne1 _
  have R4 : Hid (Own4 (W2.setCell ⟨B, b, none⟩ (.int .u8 49)) (w.heap.size + 1 + 1) (.bool false) (.int .u64 0) (.int .u64 0) (.int .i64 0)) := R2.out.oth ne2 _
  have HB3 : Hid (Below w.heap.size w (W2.setCell ⟨B, b, none⟩ (.int .u8 49))) := bse HB0.out (p := ⟨B, b, none⟩) (by show w.heap.size ≤ B; omega) _
  obtain ⟨X, hX⟩ : ∃ X : ByteArray, X = ⟨(l.set b 49).toArray⟩ := ⟨_, rfl⟩
  rw [← hX] at HA
  have hcv2 : (convert 59 9 (.slice (some ⟨B, 0, none⟩) N c)).run Tryz.prog (W2.setCell ⟨B, b, none⟩ (.int .u8 49)).drew = .ok (.string X) (W2.setCell ⟨B, b, none⟩ (.int .u8 49)).drew := by
    rw [hX]
    exact cvt _ B 0 c (l.set b 49) N (by rw [List.length_set]; exact hN) (fun j hj => by rw [Nat.zero_add]; exact (hset j _ (List.getElem?_eq_getElem hj)).1)
  have HXR : Hid (X = ⟨(l.set b 49).toArray⟩) := hX
  have HNR : Hid (N = (l.set b 49).length) := by rw [Hid, List.length_set]; exact hN
  have HRW : Hid (RowU (W2.setCell ⟨B, b, none⟩ (.int .u8 49)) B (l.set b 49) ∧ B < (W2.setCell ⟨B, b, none⟩ (.int .u8 49)).heap.size) := ⟨hset, by simp; omega⟩
  have hbN : (b : Int) < (N : Int) := by omega
  have hb0 : (0 : Int) ≤ (b : Int) := by omega
  have hb128 : (b : Int) ≤ 128 := by omega
  obtain ⟨p0, p1, p2, p3, p4⟩ := P1.out
  generalize l[b] = lb at hcm
  have hwr : IntKind.i64.wrap ((b : Int) + 1) = (b : Int) + 1 := by rw [IntKind.wrap_i64]; omega
  clear hset hrow hrow' hb1 hb2 hb12 R1 R2 hX hsz2 HX hN hsN
  go_wp2_with fail
  generalize W2.setCell ⟨B, b, none⟩ (.int .u8 49) = W3 at *
  clear p0 p1 p2 p3 p4
  obtain ⟨p0, p1, p2, p3, p4⟩ : Has4 W3.drew w.heap.size v hi lo b := P3.out
  have R3' : Hid (Own4 W3.drew (w.heap.size + 1) (.bool false) (.int .u64 0) (.int .u64 0) (.int .i64 0)) := R3.out
  have R4' : Hid (Own4 W3.drew (w.heap.size + 1 + 1) (.bool false) (.int .u64 0) (.int .u64 0) (.int .i64 0)) := R4.out
  have P3' : Hid (Has4 W3.drew w.heap.size v hi lo b) := P3.out
  have HB4 : Hid (Below w.heap.size w W3.drew) := HB3.out.drew
  clear P3 R3 R4 HB3 hcm hfm
  have hB3' := hB3
  clear HROWN hW3 hlen hw128 hlt P1 HB0 hcv hb0
  have hBq1 : w.heap.size + 1 ≠ B := by omega
  have hBq2 : w.heap.size + 1 + 1 ≠ B := by omega
  have HS0 : (W3.drew.cell? ⟨w.heap.size, 0, none⟩ = some (.bool v) ∧ W3.drew.cell? ⟨w.heap.size, 1, none⟩ = some (.int .u64 hi) ∧ W3.drew.cell? ⟨w.heap.size, 2, none⟩ = some (.int .u64 lo) ∧ W3.drew.cell? ⟨w.heap.size, 3, none⟩ = some (.int .i64 b) ∧ w.heap.size < W3.drew.heap.size) ∧ ((convert 59 9 (.slice (some ⟨B, 0, none⟩) N c)).run Tryz.prog W3.drew = .ok (.string X) W3.drew) ∧ (RowU W3.drew B (l.set b 49) ∧ B < W3.drew.heap.size) ∧ Below w.heap.size w W3.drew := ⟨P3'.out, hcv2, HRW.out, HB4.out⟩
  have nq1 : w.heap.size + 1 ≠ w.heap.size := by omega
  have nq2 : w.heap.size + 1 + 1 ≠ w.heap.size := by omega
  have gq1 : w.heap.size ≤ w.heap.size + 1 := by omega
  have gq2 : w.heap.size ≤ w.heap.size + 1 + 1 := by omega
  go_region_held3 (fun w' => (w'.cell? ⟨w.heap.size, 0, none⟩ = some (.bool v) ∧ w'.cell? ⟨w.heap.size, 1, none⟩ = some (.int .u64 hi) ∧ w'.cell? ⟨w.heap.size, 2, none⟩ = some (.int .u64 lo) ∧ w'.cell? ⟨w.heap.size, 3, none⟩ = some (.int .i64 b) ∧ w.heap.size < w'.heap.size) ∧ ((convert 59 9 (.slice (some ⟨B, 0, none⟩) N c)).run Tryz.prog w' = .ok (.string X) w') ∧ (RowU w' B (l.set b 49) ∧ B < w'.heap.size) ∧ Below w.heap.size w w')
    (first | with_reducible exact HS0 | with_reducible exact keepRs HXR.out HNR.out (by with_reducible assumption) nq1 gq1 hBq1 | with_reducible exact keepRs HXR.out HNR.out (by with_reducible assumption) nq2 gq2 hBq2 | with_reducible exact keepR HXR.out HNR.out (by with_reducible assumption) (by with_reducible assumption))
    ((go_at_call 34; refine (HA.out _).mono ?_; rintro e w5 ⟨rfl, hb5⟩; obtain ⟨⟨r0, r1, r2, r3⟩, ⟨r4, r5, r6, r7⟩, r8⟩ := R3'.out.below hb5; obtain ⟨⟨q0, q1, q2, q3⟩, ⟨q4, q5, q6, q7⟩, q8⟩ := R4'.out.below hb5))
  have HF := lastR (by with_reducible assumption)
  go_wp2_with fail
  refine bodyPost_ret (v := .tuple #[.agg #[.bool v, .int .u64 hi, .int .u64 lo, .int .i64 ((b : Int) + 1)], .agg #[.bool v, .int .u64 G1, .int .u64 G2, .int .i64 ((b : Int) + 1)]]) ?_ rfl ⟨rfl, HF⟩
  simp [results, Tryz.results14, go_sem, r0, r1, r2, r3, q0, q1, q2, q3]
end Go.Proofs.YtollaiabcnmebaaGreatDoor

namespace Go.Proofs.YtollaiabcnmebaaGreatDoor
open Go.RowKit

/-- Four cells of a variable that may be written. -/
def HasG (w : World) (p : Nat) (v : Bool) (hi lo b : Int) : Prop := Has4 w p v hi lo b ∧ ∀ o, w.frozen? ⟨p, o, none⟩ = false
theorem HasG.below {W w' : World} {p : Nat} {v : Bool} {hi lo b : Int} (h : HasG W p v hi lo b) (hb : Below W.heap.size W w') : HasG w' p v hi lo b :=
  ⟨h.1.below hb, fun o => by rw [(bcell hb).2 p o h.1.2.2.2.2]; exact h.2 o⟩
theorem HasG.new (W : World) (v : Bool) (hi lo b : Int) (t : Nat) : HasG (W.alloc (.cells #[.bool v, .int .u64 hi, .int .u64 lo, .int .i64 b] t)) W.heap.size v hi lo b :=
  ⟨Has4.new W v hi lo b t, fun o => World.frozen?_alloc_at _ _ _ _ rfl⟩
theorem HasG.alloc {W : World} {p : Nat} {v : Bool} {hi lo b : Int} (h : HasG W p v hi lo b) (o : Obj) : HasG (W.alloc o) p v hi lo b := h.below (bal (Below.refl _ _) _)
theorem HasG.oth {W : World} {p : Nat} {v : Bool} {hi lo b : Int} (h : HasG W p v hi lo b) {a : Addr} (hn : ∀ i : Nat, a ≠ ⟨p, i, none⟩) (x : Value) : HasG (W.setCell a x) p v hi lo b :=
  ⟨h.1.oth hn x, fun o => by rw [World.frozen?_setCell]; exact h.2 o⟩
theorem HasF.oth {W : World} {p : Nat} {x y z : Value} (h : HasF W p x y z) {a : Addr} (hn : ∀ i : Nat, a ≠ ⟨p, i, none⟩) (u : Value) : HasF (W.setCell a u) p x y z := by
  obtain ⟨⟨h0, h1, h2, h3⟩, h4⟩ := h
  exact ⟨⟨by rw [World.cell?_setCell_other (h := hn 0)]; exact h0, by rw [World.cell?_setCell_other (h := hn 1)]; exact h1, by rw [World.cell?_setCell_other (h := hn 2)]; exact h2, by simpa using h3⟩, fun o => by rw [World.frozen?_setCell]; exact h4 o⟩
theorem nea {p q : Nat} (hn : p ≠ q) (i : Nat) : ∀ j : Nat, (⟨q, i, none⟩ : Addr) ≠ ⟨p, j, none⟩ := by intro j e; injection e with e; exact hn e.symm
theorem HasG.other3 {W : World} {p q : Nat} {v : Bool} {hi lo b : Int} (h : HasG W p v hi lo b) (hn : p ≠ q) (x y z : Value) : HasG (((W.setCell ⟨q, 0, none⟩ x).setCell ⟨q, 1, none⟩ y).setCell ⟨q, 2, none⟩ z) p v hi lo b :=
  ((h.oth (nea hn 0) x).oth (nea hn 1) y).oth (nea hn 2) z
theorem HasG.other4 {W : World} {p q : Nat} {v : Bool} {hi lo b : Int} (h : HasG W p v hi lo b) (hn : p ≠ q) (x y z t : Value) : HasG ((((W.setCell ⟨q, 0, none⟩ x).setCell ⟨q, 1, none⟩ y).setCell ⟨q, 2, none⟩ z).setCell ⟨q, 3, none⟩ t) p v hi lo b :=
  (h.other3 hn x y z).oth (nea hn 3) t
theorem HasF.other3 {W : World} {p q : Nat} {a b c : Value} (h : HasF W p a b c) (hn : p ≠ q) (x y z : Value) : HasF (((W.setCell ⟨q, 0, none⟩ x).setCell ⟨q, 1, none⟩ y).setCell ⟨q, 2, none⟩ z) p a b c :=
  ((h.oth (nea hn 0) x).oth (nea hn 1) y).oth (nea hn 2) z
theorem HasF.other4 {W : World} {p q : Nat} {a b c : Value} (h : HasF W p a b c) (hn : p ≠ q) (x y z t : Value) : HasF ((((W.setCell ⟨q, 0, none⟩ x).setCell ⟨q, 1, none⟩ y).setCell ⟨q, 2, none⟩ z).setCell ⟨q, 3, none⟩ t) p a b c :=
  (h.other3 hn x y z).oth (nea hn 3) t
theorem HasG.store {W : World} {p : Nat} {v : Bool} {hi lo b : Int} (h : HasG W p v hi lo b) (v' : Bool) (hi' lo' b' : Int) :
    HasG ((((W.setCell ⟨p, 0, none⟩ (.bool v')).setCell ⟨p, 1, none⟩ (.int .u64 hi')).setCell ⟨p, 2, none⟩ (.int .u64 lo')).setCell ⟨p, 3, none⟩ (.int .i64 b')) p v' hi' lo' b' := by
  obtain ⟨⟨h0, h1, h2, h3, h4⟩, hf⟩ := h
  obtain ⟨a0, a1, a2, a3⟩ := Own4.store ⟨⟨h0, h1, h2, h3⟩, ⟨hf 0, hf 1, hf 2, hf 3⟩, h4⟩ (.bool v') (.int .u64 hi') (.int .u64 lo') (.int .i64 b')
  exact ⟨⟨a0, a1, a2, a3, by simpa using h4⟩, fun o => by rw [World.frozen?_setCell, World.frozen?_setCell, World.frozen?_setCell, World.frozen?_setCell]; exact hf o⟩
theorem keep3s {w W : World} {p q : Nat} {v : Bool} {hi lo b : Int} {x y z : Value} (h : (W.cell? ⟨p, 0, none⟩ = some (.bool v) ∧ W.cell? ⟨p, 1, none⟩ = some (.int .u64 hi) ∧ W.cell? ⟨p, 2, none⟩ = some (.int .u64 lo) ∧ W.cell? ⟨p, 3, none⟩ = some (.int .i64 b) ∧ p < W.heap.size) ∧ Below w.heap.size w W) (hn : q ≠ p) (hq : w.heap.size ≤ q) :
    ((((W.setCell ⟨q, 0, none⟩ x).setCell ⟨q, 1, none⟩ y).setCell ⟨q, 2, none⟩ z).cell? ⟨p, 0, none⟩ = some (.bool v) ∧ (((W.setCell ⟨q, 0, none⟩ x).setCell ⟨q, 1, none⟩ y).setCell ⟨q, 2, none⟩ z).cell? ⟨p, 1, none⟩ = some (.int .u64 hi) ∧ (((W.setCell ⟨q, 0, none⟩ x).setCell ⟨q, 1, none⟩ y).setCell ⟨q, 2, none⟩ z).cell? ⟨p, 2, none⟩ = some (.int .u64 lo) ∧ (((W.setCell ⟨q, 0, none⟩ x).setCell ⟨q, 1, none⟩ y).setCell ⟨q, 2, none⟩ z).cell? ⟨p, 3, none⟩ = some (.int .i64 b) ∧ p < (((W.setCell ⟨q, 0, none⟩ x).setCell ⟨q, 1, none⟩ y).setCell ⟨q, 2, none⟩ z).heap.size) ∧ Below w.heap.size w (((W.setCell ⟨q, 0, none⟩ x).setCell ⟨q, 1, none⟩ y).setCell ⟨q, 2, none⟩ z) := by
  have h1 : Has4 W p v hi lo b := h.1
  exact ⟨((h1.oth (nea (Ne.symm hn) 0) x).oth (nea (Ne.symm hn) 1) y).oth (nea (Ne.symm hn) 2) z, bse (bse (bse h.2 (p := ⟨q, 0, none⟩) hq _) (p := ⟨q, 1, none⟩) hq _) (p := ⟨q, 2, none⟩) hq _⟩
theorem eqA_same (v : Bool) (hi lo : Int) : eqA v hi lo v hi lo = true := by simp [eqA]
theorem eqP_same (v : Bool) (hi lo b : Int) : eqP v hi lo b v hi lo b = true := by simp [eqP, eqA]

end Go.Proofs.YtollaiabcnmebaaGreatDoor
