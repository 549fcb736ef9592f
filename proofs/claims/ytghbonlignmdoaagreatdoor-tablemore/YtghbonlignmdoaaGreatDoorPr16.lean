/- addr.printSixteen and addr.Print. -/
import Derived.Test.YtghbonlignmdoaaGreatDoorRow
set_option linter.unusedVariables false
set_option linter.unusedSimpArgs false
namespace Go.Proofs.YtghbonlignmdoaaGreatDoor
open Go.RowKit

/-- The groups of an address, as numbers. -/
def grps (hi lo : Int) : List Nat := (eight hi lo).map Int.toNat

theorem eight_lt (hi lo : Int) (h0 : 0 ≤ hi) (l0 : 0 ≤ lo) : ∀ x ∈ eight hi lo, 0 ≤ x ∧ x < 65536 := by
  intro x hx
  simp only [eight, List.mem_append, List.mem_cons, List.not_mem_nil, or_false] at hx
  rcases hx with (rfl | rfl | rfl | rfl) | (rfl | rfl | rfl | rfl) <;> omega

theorem grps_u64s (hi lo : Int) (h0 : 0 ≤ hi) (l0 : 0 ≤ lo) : ints (eight hi lo) = u64s (grps hi lo) := by
  have := eight_lt hi lo h0 l0
  rw [grps, ints, u64s, List.map_map]
  apply List.map_congr_left
  intro x hx
  have := this x hx
  show Value.int .u64 x = Value.int .u64 ((x.toNat : Nat) : Int)
  rw [Int.toNat_of_nonneg this.1]
theorem grps_len (hi lo : Int) : (grps hi lo).length = 8 := by simp [grps, eight]
theorem grps_lt (hi lo : Int) (h0 : 0 ≤ hi) (l0 : 0 ≤ lo) : ∀ x ∈ grps hi lo, x < 65536 := by
  intro x hx
  obtain ⟨y, hy, rfl⟩ := List.mem_map.1 hx
  have := eight_lt hi lo h0 l0 y hy
  omega

def ptext (gs : List Nat) : List UInt8 := Lib.join (gs.map hexs) [58]
theorem ptext_le (gs : List Nat) (h : gs.length ≤ 8) : (ptext gs).length ≤ 808 := by
  have := join_len 58 (gs.map hexs) 100 (by
    intro x hx
    obtain ⟨y, _, rfl⟩ := List.mem_map.1 hx
    exact Nat.le_trans (hexs_le y) (by decide))
  rw [List.length_map] at this
  unfold ptext
  omega
/-- The text of an address of sixteen bytes. -/
def psix (gs : List Nat) : List UInt8 :=
  if (lrow gs).2 - (lrow gs).1 < 2 then ptext gs else ptext (gs.take (lrow gs).1) ++ [58, 58] ++ ptext (gs.drop (lrow gs).2)

theorem slice_to (g cap f : Nat) (W : World) (hf : f ≤ cap) (h63 : (cap : Int) ≤ 9223372036854775807) :
    (Instr.sliceAt 88 (.slice (some ⟨g, 0, none⟩) 8 cap) none (some (.int .i64 (f : Int))) none).run Tryz.prog W = .ok (.slice (some ⟨g, 0, none⟩) f cap) W := by
  have h1 : (f : Int) ≤ (cap : Int) := by omega
  simp [go_sem, h1]
theorem slice_from (g cap t : Nat) (W : World) (ht : t ≤ 8) (hc : 8 ≤ cap) (h63 : (cap : Int) ≤ 9223372036854775807) :
    (Instr.sliceAt 88 (.slice (some ⟨g, 0, none⟩) 8 cap) (some (.int .i64 (t : Int))) none none).run Tryz.prog W = .ok (.slice (some ⟨g, if cap = t then 0 else t, none⟩) (8 - t) (cap - t)) W := by
  have h1 : (t : Int) ≤ 8 := by omega
  simp [go_sem, h1]
  split <;> rfl

set_option maxHeartbeats 16000000 in
set_option maxRecDepth 100000 in
theorem printSixteen_any (v : Bool) (hi lo : Int) (w : World) (hg : Good w) (h0 : 0 ≤ hi) (h1 : hi < 18446744073709551616) (l0 : 0 ≤ lo) (l1 : lo < 18446744073709551616) :
    Calls Tryz.prog 44 #[.agg #[.bool v, .int .u64 hi, .int .u64 lo]] w fun e w' => e = .returned (.string ⟨(psix (grps hi lo)).toArray⟩) ∧ RowKit.Below w.heap.size w w' := by
  have hS : Hid (∀ w : World, Calls Tryz.prog 52 #[.agg #[.bool v, .int .u64 hi, .int .u64 lo]] w fun e w' => ∃ v, e = .returned v ∧ w'.ownsRow w.heap.size 23 1 v 8 (u64s (grps hi lo)) ∧ RowKit.Below w.heap.size w w') := by
    intro w
    rw [← grps_u64s hi lo h0 l0]
    exact split_any v hi lo w h0 h1 l0 l1
  have hgl : Hid ((grps hi lo).length = 8) := grps_len hi lo
  have hglt : Hid (∀ x ∈ grps hi lo, x < 65536) := grps_lt hi lo h0 l0
  obtain ⟨gs, hgs⟩ : ∃ gs, gs = grps hi lo := ⟨_, rfl⟩
  rw [← hgs] at hS hgl hglt ⊢
  clear hgs
  obtain ⟨hft, ht8⟩ := lrow_le gs
  rw [hgl.out] at ht8
  obtain ⟨f, hf⟩ : ∃ f, f = (lrow gs).1 := ⟨_, rfl⟩
  obtain ⟨t, ht⟩ : ∃ t, t = (lrow gs).2 := ⟨_, rfl⟩
  rw [← hf, ← ht] at hft
  rw [← ht] at ht8
  have HF : Hid (lrow gs = (f, t)) := by rw [hf, ht]; rfl
  clear hf ht
  have hb0 : RowKit.Below w.heap.size w (w.alloc (.cells #[.bool v, .int .u64 hi, .int .u64 lo] 25)) := bal (RowKit.Below.refl _ _) _
  have HB0 : Hid (RowKit.Below w.heap.size w (w.alloc (.cells #[.bool v, .int .u64 hi, .int .u64 lo] 25))) := hb0
  clear hb0
  go_enter Tryz.func44, Tryz.ntmps44
  go_wp2_with fail
  refine (hS.out _).mono ?_
  rintro e w1 ⟨vs, rfl, hown, hb1⟩
  have hcells := fun g hg => hown.cells (g := g) hg
  rcases hown.2 with ⟨rfl, hz⟩ | ⟨g, cap, cur, rfl, hgb, hcur, hcap, hm, h3⟩
  · cases hz
  have hglt2 : g < w1.heap.size := by
    rcases Nat.lt_or_ge g w1.heap.size with h | h
    · exact h
    · rw [Array.getElem?_eq_none h] at hcur; cases hcur
  have hcell : Hid (∀ j (h : j < gs.length), w1.cell? ⟨g, j, none⟩ = some (.int .u64 ((gs[j] : Nat) : Int))) := by
    intro j hj
    have := hcells g rfl j (.int .u64 ((gs[j] : Nat) : Int)) (by simp [u64s, List.getElem?_eq_getElem hj])
    rw [Lib.add_plain, Nat.zero_add] at this
    exact this
  have hLR : Hid (Calls Tryz.prog 53 #[.slice (some ⟨g, 0, none⟩) 8 cap] w1 fun e w' => e = .returned (.tuple #[.int .i64 (f : Int), .int .i64 (t : Int)]) ∧ w' = w1) := by
    have := longestRow_any g cap gs w1 (by rw [hgl.out]; decide) hcell.out
    rw [HF.out, hgl.out] at this
    exact this
  have hB1 : Hid (RowKit.Below w.heap.size w w1) := btr HB0.out hb1
  have hG1 : Hid (Good w1) := hg.below hB1.out
  have hcap63 : (cap : Int) ≤ 9223372036854775807 := by unfold maxLen at hm; omega
  clear hown hcells hcur h3 hgb hb1 hm HB0 hS hg
  go_wp2_with fail
  refine hLR.out.mono ?_
  rintro e w' ⟨rfl, rfl⟩
  by_cases h2 : t - f < 2
  · have hI : (t : Int) - (f : Int) < 2 := by omega
    have hP : Hid (Calls Tryz.prog 54 #[.slice (some ⟨g, 0, none⟩) 8 cap] w' fun e w2 => e = .returned (.string ⟨(psix gs).toArray⟩) ∧ RowKit.Below w'.heap.size w' w2) := by
      have := printGroups_some g 0 cap gs w' hG1.out (by rw [hgl.out]; decide) hglt.out hglt2 (by intro j hj; rw [Nat.zero_add]; exact hcell.out j hj)
      rw [hgl.out] at this
      rw [psix, HF.out, if_pos h2]
      exact this
    go_wp2_with fail
    refine hP.out.mono ?_
    rintro e w2 ⟨rfl, hb2⟩
    go_wp2
    go_ret
    exact ⟨rfl, btr hB1.out hb2⟩
  · have hI : ¬ ((t : Int) - (f : Int) < 2) := by omega
    have hs1 : ∀ W : World, (Instr.sliceAt 88 (.slice (some ⟨g, 0, none⟩) 8 cap) none (some (.int .i64 (f : Int))) none).run Tryz.prog W = .ok (.slice (some ⟨g, 0, none⟩) f cap) W := fun W => slice_to g cap f W (by omega) hcap63
    have hs2 : ∀ W : World, (Instr.sliceAt 88 (.slice (some ⟨g, 0, none⟩) 8 cap) (some (.int .i64 (t : Int))) none none).run Tryz.prog W = .ok (.slice (some ⟨g, if cap = t then 0 else t, none⟩) (8 - t) (cap - t)) W := fun W => slice_from g cap t W ht8 hcap hcap63
    have P1 : Hid (∀ w2 : World, RowKit.Below w'.heap.size w' w2 → Calls Tryz.prog 54 #[.slice (some ⟨g, 0, none⟩) f cap] w2 fun e w3 => e = .returned (.string ⟨(ptext (gs.take f)).toArray⟩) ∧ RowKit.Below w2.heap.size w2 w3) := by
      intro w2 hb2
      by_cases hf0 : f = 0
      · subst hf0
        rw [show ptext (gs.take 0) = [] from rfl]
        exact printGroups_none _ _ w2
      · have hl : (gs.take f).length = f := by rw [List.length_take, hgl.out]; omega
        have := printGroups_some g 0 cap (gs.take f) w2 (hG1.out.below hb2) (by omega) (fun x hx => hglt.out x (List.mem_of_mem_take hx)) (Nat.lt_of_lt_of_le hglt2 hb2.size) (by
          intro j hj
          rw [(bcell hb2).1 g _ hglt2, Nat.zero_add, hcell.out j (by rw [hgl.out]; omega)]
          simp)
        rw [hl] at this
        exact this
    have P2 : Hid (∀ w2 : World, RowKit.Below w'.heap.size w' w2 → Calls Tryz.prog 54 #[.slice (some ⟨g, if cap = t then 0 else t, none⟩) (8 - t) (cap - t)] w2 fun e w3 => e = .returned (.string ⟨(ptext (gs.drop t)).toArray⟩) ∧ RowKit.Below w2.heap.size w2 w3) := by
      intro w2 hb2
      by_cases ht0 : t = 8
      · rw [ht0, List.drop_eq_nil_of_le (by rw [hgl.out]; omega)]
        exact printGroups_none _ _ w2
      · have hl : (gs.drop t).length = 8 - t := by rw [List.length_drop, hgl.out]
        rw [if_neg (by omega)]
        have := printGroups_some g t (cap - t) (gs.drop t) w2 (hG1.out.below hb2) (by omega) (fun x hx => hglt.out x (List.mem_of_mem_drop hx)) (Nat.lt_of_lt_of_le hglt2 hb2.size) (by
          intro j hj
          rw [(bcell hb2).1 g _ hglt2, hcell.out (t + j) (by rw [hgl.out]; omega)]
          simp)
        rw [hl] at this
        exact this
    have HPS : Hid (psix gs = ptext (gs.take f) ++ [58, 58] ++ ptext (gs.drop t)) := by
      rw [Hid, psix, HF.out, if_neg h2]
    generalize (if cap = t then 0 else t) = o2 at hs2 P2
    generalize 8 - t = n2 at hs2 P2
    generalize cap - t = c2 at hs2 P2
    have hl1 : (ptext (gs.take f)).length ≤ 808 := ptext_le _ (by rw [List.length_take, hgl.out]; omega)
    have hl2 : (ptext (gs.drop t)).length ≤ 808 := ptext_le _ (by rw [List.length_drop, hgl.out]; omega)
    generalize ptext (gs.take f) = s1 at P1 HPS hl1
    generalize ptext (gs.drop t) = s2 at P2 HPS hl2
    obtain ⟨s12, h12⟩ : ∃ s12, s12 = s1 ++ [58, 58] := ⟨_, rfl⟩
    obtain ⟨s123, h123⟩ : ∃ s123, s123 = s12 ++ s2 := ⟨_, rfl⟩
    have hp1 : ∀ W : World, (Op.stringOp .add ⟨s1.toArray⟩ ⟨#[58, 58]⟩).run Tryz.prog W = .ok (.string ⟨s12.toArray⟩) W := fun W => by
      rw [h12]; exact run_string_add_lists (P := Tryz.prog) W s1 [58, 58] (by omega) (by simp)
    have hp2 : ∀ W : World, (Op.stringOp .add ⟨s12.toArray⟩ ⟨s2.toArray⟩).run Tryz.prog W = .ok (.string ⟨s123.toArray⟩) W := fun W => by
      rw [h123]; exact run_string_add_lists (P := Tryz.prog) W s12 s2 (by rw [h12]; simp; omega) (by omega)
    have HPT : Hid (psix gs = s123) := by rw [Hid, HPS.out, h123, h12]
    clear h12 h123 HPS hl1 hl2
    go_wp2_with fail
    go_region_held3 (fun w2 => RowKit.Below w'.heap.size w' w2) (first | exact (RowKit.Below.refl _ _).drew | exact btr (by assumption) (by assumption))
      ((first
        | (go_at_call_of 54 f; refine (P1.out _ ?_).mono ?_; assumption; rintro e w4 ⟨rfl, hb4⟩)
        | (go_at_call_of 54 n2; refine (P2.out _ ?_).mono ?_; assumption; rintro e w5 ⟨rfl, hb5⟩)))
    go_wp2
    go_ret
    exact ⟨by rw [HPT.out]; rfl, btr hB1.out (by assumption)⟩

/-- The text of an address. -/
def ptxt (v : Bool) (hi lo : Int) : List UInt8 := if chk v hi lo = 0 then (if v then psix (grps hi lo) else Lib.join (four lo.toNat) [46]) else []

/-- addr.Print: whatever address it is handed. -/
theorem print_any (v : Bool) (hi lo : Int) (w : World) (hg : Good w) (h0 : 0 ≤ hi) (h1 : hi < 18446744073709551616) (l0 : 0 ≤ lo) (l1 : lo < 18446744073709551616) :
    Calls Tryz.prog 36 #[.agg #[.bool v, .int .u64 hi, .int .u64 lo]] w fun e w' => e = .returned (.tuple #[.string ⟨(ptxt v hi lo).toArray⟩, .int .i64 (chk v hi lo)]) ∧ RowKit.Below w.heap.size w w' := by
  rcases chk_cases v hi lo with ⟨c1, hc⟩ | c1
  · cases v
    · simp at hc
      have hT : ptxt false hi lo = Lib.join (four lo.toNat) [46] := by simp [ptxt, c1]
      have C1 : Hid (chk false hi lo = 0) := c1
      have HP : Hid (∀ w : World, Good w → Calls Tryz.prog 45 #[.agg #[.bool false, .int .u64 hi, .int .u64 lo]] w fun e w' => e = .returned (.string ⟨(Lib.join (four lo.toNat) [46]).toArray⟩) ∧ RowKit.Below w.heap.size w w') := fun w hg => printFour_any false hi lo w hg l0 (by omega)
      rw [hT, c1]
      clear hT c1 hc
      go_enter Tryz.func36, Tryz.ntmps36
      go_wp2_with fail
      refine (check_any false hi lo _ h0 l0).mono ?_
      rintro e w' ⟨rfl, k1, rfl⟩
      rw [C1.out]
      go_wp2_with fail
      refine (HP.out _ (hg.below (bal (bal (RowKit.Below.refl _ _) _) _))).mono ?_
      rintro e w2 ⟨rfl, hb⟩
      go_wp2
      go_ret2
      exact ⟨rfl, btr (bal (bal (RowKit.Below.refl _ _) _) _) hb⟩
    · have hT : ptxt true hi lo = psix (grps hi lo) := by simp [ptxt, c1]
      have C1 : Hid (chk true hi lo = 0) := c1
      have HP : Hid (∀ w : World, Good w → Calls Tryz.prog 44 #[.agg #[.bool true, .int .u64 hi, .int .u64 lo]] w fun e w' => e = .returned (.string ⟨(psix (grps hi lo)).toArray⟩) ∧ RowKit.Below w.heap.size w w') := fun w hg => printSixteen_any true hi lo w hg h0 h1 l0 l1
      rw [hT, c1]
      clear hT c1 hc
      go_enter Tryz.func36, Tryz.ntmps36
      go_wp2_with fail
      refine (check_any true hi lo _ h0 l0).mono ?_
      rintro e w' ⟨rfl, k1, rfl⟩
      rw [C1.out]
      go_wp2_with fail
      refine (HP.out _ (hg.below (bal (bal (RowKit.Below.refl _ _) _) _))).mono ?_
      rintro e w2 ⟨rfl, hb⟩
      go_wp2
      go_ret2
      exact ⟨rfl, btr (bal (bal (RowKit.Below.refl _ _) _) _) hb⟩
  · have hT : ptxt v hi lo = [] := by simp [ptxt, c1]
    have C1 : Hid (chk v hi lo = 3) := c1
    rw [hT, c1]
    clear hT c1
    go_enter Tryz.func36, Tryz.ntmps36
    go_wp2_with fail
    refine (check_any v hi lo _ h0 l0).mono ?_
    rintro e w' ⟨rfl, k1, rfl⟩
    rw [C1.out]
    go_wp2
    go_ret2
    exact ⟨rfl, bal (bal (RowKit.Below.refl _ _) _) _⟩
end Go.Proofs.YtghbonlignmdoaaGreatDoor
