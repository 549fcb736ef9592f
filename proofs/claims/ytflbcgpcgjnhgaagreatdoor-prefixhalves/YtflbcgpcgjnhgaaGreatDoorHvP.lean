/- What the law on halves leans on: numbers and texts, without Go. -/
import Derived.Test.YtflbcgpcgjnhgaaGreatDoorPfQ
import Derived.Test.YtflbcgpcgjnhgaaGreatDoorPfH
set_option linter.unusedVariables false
set_option linter.unusedSimpArgs false
namespace Go.Proofs.YtflbcgpcgjnhgaaGreatDoor

/-! A prefix that is printed is parsed as it was. -/
theorem idx1 : ∀ (t r : List UInt8), (47 : UInt8) ∉ t → Lib.index (t ++ 47 :: r) [47] = (t.length : Int)
  | [], r, _ => by simp [Lib.index, List.isPrefixOf]
  | b :: t, r, h => by
    have hb : b ≠ 47 := fun e => h (by simp [e])
    have ht : (47 : UInt8) ∉ t := fun e => h (List.mem_cons_of_mem _ e)
    have ih := idx1 t r ht
    rw [List.cons_append, Lib.index]
    have hp : ([47] : List UInt8).isPrefixOf (b :: (t ++ 47 :: r)) = false := by simp [List.isPrefixOf, Ne.symm hb]
    rw [hp, ih]
    have : (((t.length : Nat) : Int) == -1) = false := by rw [beq_eq_false_iff_ne]; omega
    simp [this]
theorem cut_slash (t r : List UInt8) (h : (47 : UInt8) ∉ t) : Lib.cut (t ++ [47] ++ r) [47] = (t, r, true) := by
  unfold Lib.cut
  rw [List.append_assoc, List.singleton_append, idx1 t r h, if_pos (by omega)]
  simp
theorem dec3_47 : ∀ n : Fin 256, (47 : UInt8) ∉ dec3 n.val := by decide +kernel
theorem hexd_47 : ∀ k : Fin 16, hexd k.val ≠ 47 := by decide +kernel
theorem hexs_47 (g : Nat) (h : g < 65536) : (47 : UInt8) ∉ hexs g := by
  have n : ∀ k, k < 16 → hexd k ≠ 47 := fun k hk => hexd_47 ⟨k, hk⟩
  have n1 := n (g % 16) (by omega)
  have n2 := n (g / 16 % 16) (by omega)
  have n3 := n (g / 16 / 16 % 16) (by omega)
  have n4 := n (g / 16 / 16 / 16) (by omega)
  unfold hexs
  split
  · have := n g (by omega)
    simp [Ne.symm this]
  · split
    · have := n (g / 16) (by omega)
      simp [Ne.symm this, Ne.symm n1]
    · split
      · have := n (g / 16 / 16) (by omega)
        simp [Ne.symm this, Ne.symm n1, Ne.symm n2]
      · simp [Ne.symm n1, Ne.symm n2, Ne.symm n3, Ne.symm n4]
theorem ptext_47 (gs : List Nat) (h : ∀ x ∈ gs, x < 65536) : (47 : UInt8) ∉ ptext gs := by
  unfold ptext
  refine join_mem 58 47 _ ?_ (by decide)
  intro w hw
  obtain ⟨g, hg, rfl⟩ := List.mem_map.1 hw
  exact hexs_47 g (h g hg)
theorem ptxt_47 (v : Bool) (hi lo : Int) (h0 : 0 ≤ hi) (l0 : 0 ≤ lo) : (47 : UInt8) ∉ ptxt v hi lo := by
  unfold ptxt
  split
  · cases v
    · rw [if_neg (by simp)]
      refine join_mem 46 47 _ ?_ (by decide)
      intro w hw
      obtain ⟨k, hk, rfl⟩ := four_mem hw
      rw [dec3_eq k (by omega)]
      exact dec3_47 ⟨k, hk⟩
    · rw [if_pos rfl]
      unfold psix
      have hl := grps_lt hi lo h0 l0
      split
      · exact ptext_47 _ hl
      · intro hm
        rcases List.mem_append.1 hm with hm | hm
        · rcases List.mem_append.1 hm with hm | hm
          · exact ptext_47 _ (fun x hx => hl x (List.mem_of_mem_take hx)) hm
          · simp at hm
        · exact ptext_47 _ (fun x hx => hl x (List.mem_of_mem_drop hx)) hm
  · simp
theorem dec3_four : ∀ n : Fin 129, nread (dec3 n.val) 4 = some n.val := by decide +kernel
theorem pfTxt_back (v : Bool) (hi lo b : Int) (h0 : 0 ≤ hi) (h1 : hi < 18446744073709551616) (l0 : 0 ≤ lo) (l1 : lo < 18446744073709551616) (c : chk v hi lo = 0) (b0 : 0 ≤ b) (b1 : b ≤ 128) :
    rform (pfTxt v hi lo b) = some (v, hi.toNat, lo.toNat, b.toNat) ∧ (pfTxt v hi lo b).length < 100 := by
  have hb := back_any v hi lo h0 h1 l0 l1 c
  have hn : nread (Lib.decDigits b.toNat) 4 = some b.toNat := by rw [dec3_eq _ (by omega)]; exact dec3_four ⟨b.toNat, by omega⟩
  have hl := decDigits_le b.toNat (by omega)
  constructor
  · unfold rform pfTxt
    rw [cut_slash _ _ (ptxt_47 v hi lo h0 l0)]
    simp only
    rw [if_neg (by simp), hb.1, hn]; rfl
  · unfold pfTxt
    simp only [List.length_append, List.length_cons, List.length_nil]
    omega

/-! Halves, by numbers. -/
theorem amt_half {v : Bool} {b : Int} (b0 : 0 ≤ b) (h : b < wid v) : amt v b = amt v (b + 1) * 2 := by
  unfold amt
  rw [show (wid v - b).toNat = (wid v - (b + 1)).toNat + 1 by omega, Int.pow_succ]
theorem right_low {v : Bool} {hi lo b : Int} (r : Right v hi lo b) (h : b < wid v) : Right v hi lo (b + 1) :=
  ⟨r.c, by have := r.b0; omega, by omega, r.h0, r.h1, r.l0, r.l1, mod_of (m := 2) (by rw [← amt_half r.b0 h]; exact r.al)⟩
/-- The greater half: its first address, and that it is right. -/
theorem great_num {v : Bool} {hi lo b : Int} (r : Right v hi lo b) (h : b < wid v) :
    num (fsH v (laH v hi b) (b + 1)) (fsL v (laL v lo b) (b + 1)) = num hi lo + amt v (b + 1) ∧ Right v (fsH v (laH v hi b) (b + 1)) (fsL v (laL v lo b) (b + 1)) (b + 1) := by
  obtain ⟨n1, c1, i1, l1⟩ := la_num r
  have b0 := r.b0
  have e := fs_num v (laH v hi b) (laL v lo b) (b + 1) c1 (by omega) (by omega) i1.1 i1.2 l1.1 l1.2
  have ap := amt_pos v (b + 1)
  have ah := amt_half b0 h
  have al := (right_low r h).al
  have hm : num (laH v hi b) (laL v lo b) % amt v (b + 1) = amt v (b + 1) - 1 := by
    rw [n1, ah]
    obtain ⟨k, hk⟩ := Int.dvd_of_emod_eq_zero al
    rw [hk, show amt v (b + 1) * k + amt v (b + 1) * 2 - 1 = (amt v (b + 1) - 1) + amt v (b + 1) * (k + 1) by rw [Int.mul_add]; omega, Int.add_mul_emod_self_left]
    exact Int.emod_eq_of_lt (by omega) (by omega)
  have e2 : num (fsH v (laH v hi b) (b + 1)) (fsL v (laL v lo b) (b + 1)) = num hi lo + amt v (b + 1) := by rw [e, hm, n1, ah]; omega
  have r1 : 0 ≤ fsH v (laH v hi b) (b + 1) ∧ fsH v (laH v hi b) (b + 1) < 18446744073709551616 := cut_rng _ i1.1 i1.2
  have r2 : 0 ≤ fsL v (laL v lo b) (b + 1) ∧ fsL v (laL v lo b) (b + 1) < 18446744073709551616 := cut_rng _ l1.1 l1.2
  have nt := num_top c1 i1.1 i1.2 l1.1 l1.2
  refine ⟨e2, chk_top r1.1 r2.1 (by rw [e2]; rw [n1, ah] at nt; omega), by omega, by omega, r1.1, r1.2, r2.1, r2.2, ?_⟩
  rw [e2]
  exact mod_add al (by have := Int.mul_emod_right (amt v (b + 1)) 1; rwa [Int.mul_one] at this)

/-- The next address of one that is not the last one, by its number. -/
theorem next_num {v : Bool} {h l gh gl : Int} (c : chk v h l = 0) (i : 0 ≤ h ∧ h < 18446744073709551616) (j : 0 ≤ l ∧ l < 18446744073709551616) (g1 : 0 ≤ gl ∧ gl < 18446744073709551616) (gc : num gh gl < top v) (e : num gh gl = num h l + 1) :
    nxV v h l = v ∧ nxH v h l = gh ∧ nxL v h l = gl ∧ nxB v h l = true := by
  have hl : isLast v h l = false := by
    cases hh : isLast v h l with
    | false => rfl
    | true =>
      simp only [isLast, eqA, beq_self_eq_true, Bool.true_and, Bool.and_eq_true, beq_iff_eq] at hh
      rw [hh.1, hh.2] at e
      cases v
      · have : top false = 4294967296 := by decide
        simp [mxH, mxL, num] at e
        unfold num at gc
        omega
      · have : top true = 340282366920938463463374607431768211456 := by decide
        simp [mxH, mxL, num] at e
        unfold num at gc
        omega
  have e2 : nxH v h l = h + (l + 1) / 18446744073709551616 := by simp [nxH, c, hl]
  have e3 : nxL v h l = (l + 1) % 18446744073709551616 := by simp [nxL, c, hl]
  refine ⟨by simp [nxV, c, hl], ?_, ?_, by simp [nxB, c, hl]⟩
  · rw [e2]; unfold num at e; omega
  · rw [e3]; unfold num at e; omega
end Go.Proofs.YtflbcgpcgjnhgaaGreatDoor
