/- addr.readSixteen: sixteen bytes of a text. -/
import Derived.Test.YtghbonlignmdoaaGreatDoorConcat
namespace Go.Proofs.YtghbonlignmdoaaGreatDoor
open Go.RowKit

def joinG (gs : List Nat) : Option (Nat × Nat) := if gs.length = 8 then some (gnum (gs.take 4) 0, gnum (gs.drop 4) 0) else none

/-- Sixteen bytes of a text. -/
def rsix (l : List UInt8) : Option (Nat × Nat) :=
  if (Lib.cut l [58, 58]).2.2 = false then (rgroups true l).bind joinG
  else (rgroups false (Lib.cut l [58, 58]).1).bind fun a => (rgroups true (Lib.cut l [58, 58]).2.1).bind fun b =>
    if a.length + b.length ≤ 7 then joinG (a ++ List.replicate (8 - a.length - b.length) 0 ++ b) else none

theorem rgrp_lt {l : List UInt8} {n : Nat} (h : rgrp l = some n) : n < 65536 := by
  unfold rgrp at h
  split at h
  · cases h
  · split at h
    · rename_i e
      have := puS_le e
      injection h with h; omega
    · cases h
theorem rgs_lt (m : Bool) : ∀ (ws : List (List UInt8)) (gs : List Nat), rgs m ws = some gs → (∀ x ∈ gs, x < 65536) ∧ gs.length ≤ ws.length + 1
  | [], gs, h => by simp [rgs] at h
  | [x], gs, h => by
    rw [rgs_one] at h
    split at h
    · cases hr : rfour x with
      | none => rw [hr] at h; cases h
      | some n =>
        rw [hr] at h
        have := rfour_lt hr
        injection h with h
        subst h
        refine ⟨?_, by simp⟩
        intro y hy
        simp at hy
        rcases hy with rfl | rfl <;> omega
    · cases hr : rgrp x with
      | none => rw [hr] at h; cases h
      | some n =>
        rw [hr] at h
        have := rgrp_lt hr
        injection h with h
        subst h
        simp; omega
  | x :: y :: r, gs, h => by
    rw [rgs_more (by simp)] at h
    cases hr : rgrp x with
    | none => rw [hr] at h; cases h
    | some n =>
      rw [hr] at h
      cases hq : rgs m (y :: r) with
      | none => rw [hq] at h; cases h
      | some l =>
        rw [hq] at h
        obtain ⟨h1, h2⟩ := rgs_lt m (y :: r) l hq
        have := rgrp_lt hr
        injection h with h
        subst h
        refine ⟨?_, by simp at h2 ⊢; omega⟩
        intro z hz
        rcases List.mem_cons.1 hz with rfl | hz
        · exact this
        · exact h1 z hz
theorem spl_length (c : UInt8) : ∀ l : List UInt8, (spl c l).length ≤ l.length + 1
  | [] => by simp [spl]
  | b :: l => by
    have ih := spl_length c l
    rw [spl]
    split
    · simp; omega
    · split
      · simp
      · rename_i w r e
        rw [e] at ih
        simp at ih ⊢; omega
theorem rgroups_lt {m : Bool} {l : List UInt8} {gs : List Nat} (h : rgroups m l = some gs) : (∀ x ∈ gs, x < 65536) ∧ gs.length ≤ l.length + 2 := by
  unfold rgroups at h
  split at h
  · injection h with h; subst h; simp
  · obtain ⟨h1, h2⟩ := rgs_lt m _ _ h
    have := spl_length 58 l
    exact ⟨h1, by omega⟩

def sixEnd (o : Option (Nat × Nat)) (e : Ending) : Prop :=
  match o with
  | some (h, l) => e = .returned (.agg #[.bool true, .int .u64 (h : Int), .int .u64 (l : Int)])
  | none => e = .panicked gaveUp

/-- join, of a row that a reader made. -/
theorem join_own (gs : List Nat) (v : Value) (B : Nat) (w : World) (hown : w.ownsRow B 23 1 v gs.length (u64s gs)) (hlt : ∀ x ∈ gs, x < 65536) (hm : gs.length < 1000000) :
    Calls Tryz.prog 91 #[v] w fun e w' => sixEnd (joinG gs) e ∧ Below w.heap.size w w' := by
  by_cases h8 : gs.length = 8
  · have hF : joinG gs = some (gnum (gs.take 4) 0, gnum (gs.drop 4) 0) := by rw [joinG, if_pos h8]
    rw [hF]
    have hc := fun g hg => hown.cells (g := g) hg
    rcases hown.2 with ⟨rfl, hz⟩ | ⟨g, cap, cur, rfl, hg, hcur, h3⟩
    · omega
    · have hlt2 : g < w.heap.size := by
        rcases Nat.lt_or_ge g w.heap.size with h | h
        · exact h
        · rw [Array.getElem?_eq_none h] at hcur; cases hcur
      rw [h8]
      refine (join_any g cap gs w h8 hlt ?_ hlt2).mono ?_
      · intro j hj
        have := hc g rfl j (.int .u64 ((gs[j]'(by omega) : Nat) : Int)) (by simp [u64s, List.getElem?_eq_getElem (show j < gs.length by omega)])
        rw [← this]
        congr 1
        unfold Addr.add; split <;> simp_all
      · rintro e w' ⟨rfl, hb⟩
        exact ⟨rfl, hb⟩
  · have hF : joinG gs = none := by rw [joinG, if_neg h8]
    rw [hF]
    obtain ⟨a, c, rfl⟩ := own_slice hown
    exact join_no a _ c w h8 hm

theorem made_zeros (n : Nat) : (madeCells #[Value.int .u64 0] n).toList = u64s (List.replicate n 0) := by
  apply List.ext_getElem
  · simp [madeCells, u64s]
  · intro i h1 h2
    simp [madeCells, u64s, Nat.mod_one]

theorem cut_le (l sep : List UInt8) : (Lib.cut l sep).1.length ≤ l.length ∧ (Lib.cut l sep).2.1.length ≤ l.length := by
  unfold Lib.cut
  split
  · simp; omega
  · simp

/-- A variable of three cells that the call laid first stays as it was while nothing old turns. -/
theorem kept3 {w w3 : World} {a b c : Value} {t n : Nat} (hb : Below ((w.alloc (.cells #[a, b, c] t)).drewN n).heap.size ((w.alloc (.cells #[a, b, c] t)).drewN n) w3) :
    w3.cell? ⟨w.heap.size, 0, none⟩ = some a ∧ w3.cell? ⟨w.heap.size, 1, none⟩ = some b ∧ w3.cell? ⟨w.heap.size, 2, none⟩ = some c ∧
    w3.frozen? ⟨w.heap.size, 0, none⟩ = false ∧ w3.frozen? ⟨w.heap.size, 1, none⟩ = false ∧ w3.frozen? ⟨w.heap.size, 2, none⟩ = false := by
  obtain ⟨h1, h2⟩ := bcell hb
  have hlt : w.heap.size < ((w.alloc (.cells #[a, b, c] t)).drewN n).heap.size := by
    show w.heap.size < (w.alloc (.cells #[a, b, c] t)).heap.size
    simp
  have hc : ∀ p, ((w.alloc (.cells #[a, b, c] t)).drewN n).cell? p = (w.alloc (.cells #[a, b, c] t)).cell? p := fun _ => rfl
  have hf : ∀ p, ((w.alloc (.cells #[a, b, c] t)).drewN n).frozen? p = (w.alloc (.cells #[a, b, c] t)).frozen? p := fun _ => rfl
  refine ⟨?_, ?_, ?_, ?_, ?_, ?_⟩
  · rw [h1 _ _ hlt, hc]; simp [go_sem]
  · rw [h1 _ _ hlt, hc]; simp [go_sem]
  · rw [h1 _ _ hlt, hc]; simp [go_sem]
  · rw [h2 _ _ hlt, hf]; simp [go_sem]
  · rw [h2 _ _ hlt, hf]; simp [go_sem]
  · rw [h2 _ _ hlt, hf]; simp [go_sem]

set_option maxHeartbeats 8000000 in
set_option maxRecDepth 100000 in
theorem readSixteen_any (s : ByteArray) (w : World) (hg : Good w) (hs : s.size ≤ 900) :
    Calls Tryz.prog 75 #[.string s] w fun e w' => sixEnd (rsix s.data.toList) e ∧ Below w.heap.size w w' := by
  have hgu : Hid (∀ w : World, Calls Tryz.prog 73 #[] w fun e w' => e = .panicked gaveUp ∧ w' = w) := fun w => giveUp_any w
  have hsl := size_list s
  obtain ⟨hc1, hc2⟩ := cut_le s.data.toList [58, 58]
  have hCut : Hid (∀ w : World, Good w → Calls Tryz.prog 49 #[.string s, .string ⟨#[58, 58]⟩] w fun e w' => e = .returned (.tuple #[.string ⟨(Lib.cut s.data.toList [58, 58]).1.toArray⟩, .string ⟨(Lib.cut s.data.toList [58, 58]).2.1.toArray⟩, .bool (Lib.cut s.data.toList [58, 58]).2.2]) ∧ ∃ n, w' = w.drewN n) := by
    intro w hg
    obtain ⟨m, hm⟩ := hg.maxlen
    exact Tryz.strings_Cut s ⟨#[58, 58]⟩ m w (by omega) hm
  have hRG : Hid (∀ (s : ByteArray) (may : Bool) (w : World), Good w → s.size ≤ 1000 → Calls Tryz.prog 92 #[.string s, .bool may] w fun e w' => rgEnd (rgroups may s.data.toList) w.heap.size e w' ∧ Below w.heap.size w w') := fun s may w => readGroups_any s may w
  obtain ⟨x, hx⟩ : ∃ x, x = Lib.cut s.data.toList [58, 58] := ⟨_, rfl⟩
  have hF : rsix s.data.toList = if x.2.2 = false then (rgroups true s.data.toList).bind joinG
      else (rgroups false x.1).bind fun a => (rgroups true x.2.1).bind fun b => if a.length + b.length ≤ 7 then joinG (a ++ List.replicate (8 - a.length - b.length) 0 ++ b) else none := by rw [hx]; rfl
  rw [hF]
  rw [← hx] at hc1 hc2 hCut
  clear hx hF
  obtain ⟨x1, x2, x3⟩ := x
  simp only at hc1 hc2 hCut ⊢
  cases x3
  · simp only [if_true]
    cases hr : rgroups true s.data.toList with
    | none =>
      have Hr : Hid (rgroups true s.data.toList = none) := hr
      clear hr
      go_enter Tryz.func75, Tryz.ntmps75
      go_wp2_with fail
      refine (hCut.out _ (hg.below (bal (Below.refl _ _) _))).mono ?_
      rintro e w1 ⟨rfl, n, rfl⟩
      go_wp2_with fail
      refine (hRG.out s true _ (hg.below (below_drewN (bal (Below.refl _ _) _) _)) (by omega)).mono ?_
      rintro e w2 ⟨he, hb2⟩
      rw [Hr.out] at he
      obtain rfl : e = .panicked gaveUp := he
      go_wp2
      exact ⟨rfl, rfl, btr (below_drewN (bal (Below.refl _ _) _) _) hb2⟩
    | some gs =>
      have Hr : Hid (rgroups true s.data.toList = some gs) := hr
      obtain ⟨hglt, hgle⟩ := rgroups_lt hr
      clear hr
      go_enter Tryz.func75, Tryz.ntmps75
      go_wp2_with fail
      refine (hCut.out _ (hg.below (bal (Below.refl _ _) _))).mono ?_
      rintro e w1 ⟨rfl, n, rfl⟩
      go_wp2_with fail
      refine (hRG.out s true _ (hg.below (below_drewN (bal (Below.refl _ _) _) _)) (by omega)).mono ?_
      rintro e w2 ⟨he, hb2⟩
      rw [Hr.out] at he
      obtain ⟨v, rfl, hown⟩ := he
      have HO : Hid (Calls Tryz.prog 91 #[v] w2 fun e w' => sixEnd (joinG gs) e ∧ Below w2.heap.size w2 w') := join_own gs v _ w2 hown hglt (by omega)
      have hz2 : w.heap.size + 1 ≤ w2.heap.size := by have := hb2.size; simpa using this
      clear hown hglt hgle
      go_wp2_with fail
      refine HO.out.mono ?_
      rintro e w3 ⟨he, hb3⟩
      cases hj : joinG gs with
      | none =>
        rw [hj] at he
        obtain rfl : e = .panicked gaveUp := he
        have Hj : Hid (joinG gs = none) := hj
        clear hj
        go_wp2
        exact ⟨rfl, by rw [Option.bind_some, Hj.out]; rfl, btr (btr (below_drewN (bal (Below.refl _ _) _) _) hb2) hb3⟩
      | some p =>
        obtain ⟨ph, pl⟩ := p
        rw [hj] at he
        obtain rfl : e = .returned (.agg #[.bool true, .int .u64 (ph : Int), .int .u64 (pl : Int)]) := he
        have Hj : Hid (joinG gs = some (ph, pl)) := hj
        clear hj
        obtain ⟨q0, q1, q2, f0, f1, f2⟩ := kept3 (btr hb2 hb3)
        have HB : Hid (Below w.heap.size w w3) := btr (btr (below_drewN (bal (Below.refl _ _) _) _) hb2) hb3
        clear hb2 hb3
        go_wp2
        refine bodyPost_ret (v := .agg #[.bool true, .int .u64 (ph : Int), .int .u64 (pl : Int)]) ?_ rfl ⟨by rw [Option.bind_some, Hj.out]; rfl, ?_⟩
        · simp [results, Tryz.results75, go_sem, q0, q1, q2]
        · exact bse (bse (bse HB.out (by simp) _) (by simp) _) (by simp) _
  · simp only [Bool.true_eq_false, if_false]
    have hR1 : Hid (∀ w : World, Good w → Calls Tryz.prog 92 #[.string ⟨x1.toArray⟩, .bool false] w fun e w' => rgEnd (rgroups false x1) w.heap.size e w' ∧ Below w.heap.size w w') :=
      fun w hw => hRG.out ⟨x1.toArray⟩ false w hw (by simp [ByteArray.size]; omega)
    have hR2 : Hid (∀ w : World, Good w → Calls Tryz.prog 92 #[.string ⟨x2.toArray⟩, .bool true] w fun e w' => rgEnd (rgroups true x2) w.heap.size e w' ∧ Below w.heap.size w w') :=
      fun w hw => hRG.out ⟨x2.toArray⟩ true w hw (by simp [ByteArray.size]; omega)
    clear hRG
    cases hr1 : rgroups false x1 with
    | none =>
      have Hr : Hid (rgroups false x1 = none) := hr1
      clear hr1
      go_enter Tryz.func75, Tryz.ntmps75
      go_wp2_with fail
      refine (hCut.out _ (hg.below (bal (Below.refl _ _) _))).mono ?_
      rintro e w1 ⟨rfl, n, rfl⟩
      go_wp2_with fail
      refine (hR1.out _ (hg.below (below_drewN (bal (Below.refl _ _) _) _))).mono ?_
      rintro e w2 ⟨he, hb2⟩
      rw [Hr.out] at he
      obtain rfl : e = .panicked gaveUp := he
      go_wp2
      exact ⟨rfl, rfl, btr (below_drewN (bal (Below.refl _ _) _) _) hb2⟩
    | some g1 =>
      obtain ⟨l1, l2⟩ := rgroups_lt hr1
      have Hr1 : Hid (rgroups false x1 = some g1) := hr1
      clear hr1
      cases hr2 : rgroups true x2 with
      | none =>
        have Hr2 : Hid (rgroups true x2 = none) := hr2
        clear hr2 l1 l2
        go_enter Tryz.func75, Tryz.ntmps75
        go_wp2_with fail
        refine (hCut.out _ (hg.below (bal (Below.refl _ _) _))).mono ?_
        rintro e w1 ⟨rfl, n, rfl⟩
        go_wp2_with fail
        refine (hR1.out _ (hg.below (below_drewN (bal (Below.refl _ _) _) _))).mono ?_
        rintro e w2 ⟨he, hb2⟩
        rw [Hr1.out] at he
        obtain ⟨v1, rfl, hown1⟩ := he
        have hb02 := btr (below_drewN (bal (Below.refl w.heap.size w) (.cells #[.bool false, .int .u64 0, .int .u64 0] 25)) n) hb2
        have hg2 : Good w2 := hg.below hb02
        clear hown1
        go_wp2_with fail
        refine (hR2.out _ hg2).mono ?_
        rintro e w3 ⟨he, hb3⟩
        rw [Hr2.out] at he
        obtain rfl : e = .panicked gaveUp := he
        go_wp2
        exact ⟨rfl, rfl, btr hb02 hb3⟩
      | some g2 =>
        obtain ⟨l3, l4⟩ := rgroups_lt hr2
        have Hr2 : Hid (rgroups true x2 = some g2) := hr2
        clear hr2
        simp only [Option.bind_some]
        by_cases h7 : g1.length + g2.length ≤ 7
        · rw [if_pos h7]
          obtain ⟨i0, hi, hz0, hz1, hz2⟩ := info_parts info64
          obtain ⟨k, hk⟩ : ∃ k : Nat, k = 8 - g1.length - g2.length := ⟨_, rfl⟩
          have hkI : 8 - (g1.length : Int) - (g2.length : Int) = (k : Int) := by omega
          have hk1 : ¬ (8 - (g1.length : Int) - (g2.length : Int) < 1) := by omega
          rw [← hk]
          have hjl : (g1 ++ List.replicate k 0 ++ g2).length = g1.length + k + g2.length := by simp; omega
          have hjlt : ∀ x ∈ g1 ++ List.replicate k 0 ++ g2, x < 65536 := by
            intro x hx
            simp only [List.mem_append] at hx
            rcases hx with (hx | hx) | hx
            · exact l1 x hx
            · have := List.eq_of_mem_replicate hx; omega
            · exact l3 x hx
          have HjL : Hid ((g1 ++ List.replicate k 0 ++ g2).length = g1.length + k + g2.length) := hjl
          have HjT : Hid (∀ x ∈ g1 ++ List.replicate k 0 ++ g2, x < 65536) := hjlt
          have HkI : Hid (8 - (g1.length : Int) - (g2.length : Int) = (k : Int)) := hkI
          have hk8 : k ≤ 8 := by omega
          have hk0 : 0 < k := by omega
          have n1 : g1.length ≤ 7 := by omega
          have n2 : g2.length ≤ 7 := by omega
          clear hjl hjlt hkI hk l1 l2 l3 l4 h7
          go_enter Tryz.func75, Tryz.ntmps75
          go_wp2_with fail
          refine (hCut.out _ (hg.below (bal (Below.refl _ _) _))).mono ?_
          rintro e w1 ⟨rfl, n, rfl⟩
          go_wp2_with fail
          refine (hR1.out _ (hg.below (below_drewN (bal (Below.refl _ _) _) _))).mono ?_
          rintro e w2 ⟨he, hb2⟩
          rw [Hr1.out] at he
          obtain ⟨v1, rfl, hown1⟩ := he
          have hb02 := btr (below_drewN (bal (Below.refl w.heap.size w) (.cells #[.bool false, .int .u64 0, .int .u64 0] 25)) n) hb2
          have hg2 : Good w2 := hg.below hb02
          have hown1' := own_base (b2 := w.heap.size) hown1 (by show w.heap.size ≤ (w.alloc _).heap.size; simp)
          obtain ⟨a1, c1, rfl⟩ := own_slice hown1
          clear hown1
          have HO1 : Hid (w2.ownsRow w.heap.size 23 1 (.slice a1 g1.length c1) g1.length (u64s g1)) := hown1'
          clear hown1'
          go_wp2_with fail
          refine (hR2.out _ hg2).mono ?_
          rintro e w3 ⟨he, hb3⟩
          rw [Hr2.out] at he
          obtain ⟨v2, rfl, hown2⟩ := he
          obtain ⟨a2, c2, rfl⟩ := own_slice hown2
          have HO2 : Hid (w3.ownsRow w.heap.size 23 1 (.slice a2 g2.length c2) g2.length (u64s g2)) := own_base hown2 hb02.size
          have HO3 : Hid (w3.ownsRow w.heap.size 23 1 (.slice a1 g1.length c1) g1.length (u64s g1)) := own_below HO1.out hb3
          have hz3 : w.heap.size ≤ w3.heap.size := Nat.le_trans hb02.size hb3.size
          have HB3 : Hid (Below ((w.alloc (.cells #[.bool false, .int .u64 0, .int .u64 0] 25)).drewN n).heap.size ((w.alloc (.cells #[.bool false, .int .u64 0, .int .u64 0] 25)).drewN n) w3) := btr hb2 hb3
          clear hown2 HO1 hg2 hb02 hb2 hb3
          go_wp2_with (at_make; refine wpList_make_full _ rfl _ _ 88 rfl w.heap.size 23 i0 (.int .u64 0) 1 Tryz.underlying88 hi hz0 hz1 .i64 .i64 _ _ k rfl rfl HkI.out HkI.out ?c1 ?c2 ?c3 ?_)
          case c1 => rw [hz2]; omega
          case c2 => unfold maxLen; omega
          case c3 => exact hz3
          intro w4 hown4 hgrow4
          rw [made_zeros] at hown4
          have hb4 : Below w3.heap.size w3 w4 := (Below.refl _ _).grown hgrow4 (Nat.le_refl _) (fun k hk => by cases hk)
          have HO4 : Hid (w4.ownsRow w.heap.size 23 1 (.slice (some ⟨w3.heap.size, 0, none⟩) k k) k (u64s (List.replicate k 0))) := hown4
          have HO5 : Hid (w4.ownsRow w.heap.size 23 1 (.slice a1 g1.length c1) g1.length (u64s g1)) := own_below HO3.out hb4
          have HO6 : Hid (w4.ownsRow w.heap.size 23 1 (.slice a2 g2.length c2) g2.length (u64s g2)) := own_below HO2.out hb4
          have HB4 : Hid (Below ((w.alloc (.cells #[.bool false, .int .u64 0, .int .u64 0] 25)).drewN n).heap.size ((w.alloc (.cells #[.bool false, .int .u64 0, .int .u64 0] 25)).drewN n) w4) := btr HB3.out hb4
          clear hown4 hgrow4 hb4 HO2 HO3 HB3
          go_wp2_with fail
          refine (concat_any w4.heap.size w.heap.size a1 (some ⟨w3.heap.size, 0, none⟩) a2 g1.length k g2.length c1 k c2 g1 (List.replicate k 0) g2 _ (HO5.out.alloc _) (HO4.out.alloc _) (HO6.out.alloc _) ?_ ?_ ?_ ?_ ?_ ?_ ?_ ?_).mono ?_
          · simp [go_sem]
          · simp [go_sem]
          · simp [go_sem]
          · simp
          · omega
          · omega
          · omega
          · omega
          rintro e w6 ⟨v, rfl, hown6, hb6⟩
          have HB6 : Hid (Below ((w.alloc (.cells #[.bool false, .int .u64 0, .int .u64 0] 25)).drewN n).heap.size ((w.alloc (.cells #[.bool false, .int .u64 0, .int .u64 0] 25)).drewN n) w6) := btr (bal HB4.out _) hb6
          rw [← HjL.out] at hown6
          have HJ : Hid (Calls Tryz.prog 91 #[v] w6 fun e w' => sixEnd (joinG (g1 ++ List.replicate k 0 ++ g2)) e ∧ Below w6.heap.size w6 w') := join_own _ v _ w6 hown6 HjT.out (by rw [HjL.out]; omega)
          clear hown6 hb6 HO4 HO5 HO6 HB4
          go_wp2_with fail
          refine HJ.out.mono ?_
          rintro e w7 ⟨he, hb7⟩
          cases hj : joinG (g1 ++ List.replicate k 0 ++ g2) with
          | none =>
            rw [hj] at he
            obtain rfl : e = .panicked gaveUp := he
            have Hj : Hid (joinG (g1 ++ List.replicate k 0 ++ g2) = none) := hj
            clear hj
            go_wp2
            exact ⟨rfl, by rw [Hj.out]; rfl, btr (btr (below_drewN (bal (Below.refl _ _) _) _) HB6.out) hb7⟩
          | some p =>
            obtain ⟨ph, pl⟩ := p
            rw [hj] at he
            obtain rfl : e = .returned (.agg #[.bool true, .int .u64 (ph : Int), .int .u64 (pl : Int)]) := he
            have Hj : Hid (joinG (g1 ++ List.replicate k 0 ++ g2) = some (ph, pl)) := hj
            clear hj
            obtain ⟨q0, q1, q2, f0, f1, f2⟩ := kept3 (btr HB6.out hb7)
            have HB : Hid (Below w.heap.size w w7) := btr (btr (below_drewN (bal (Below.refl _ _) _) _) HB6.out) hb7
            clear hb7
            go_wp2
            refine bodyPost_ret (v := .agg #[.bool true, .int .u64 (ph : Int), .int .u64 (pl : Int)]) ?_ rfl ⟨by rw [Hj.out]; rfl, ?_⟩
            · simp [results, Tryz.results75, go_sem, q0, q1, q2]
            · exact bse (bse (bse HB.out (by simp) _) (by simp) _) (by simp) _
        · rw [if_neg h7]
          go_enter Tryz.func75, Tryz.ntmps75
          go_wp2_with fail
          refine (hCut.out _ (hg.below (bal (Below.refl _ _) _))).mono ?_
          rintro e w1 ⟨rfl, n, rfl⟩
          go_wp2_with fail
          refine (hR1.out _ (hg.below (below_drewN (bal (Below.refl _ _) _) _))).mono ?_
          rintro e w2 ⟨he, hb2⟩
          rw [Hr1.out] at he
          obtain ⟨v1, rfl, hown1⟩ := he
          have hb02 := btr (below_drewN (bal (Below.refl w.heap.size w) (.cells #[.bool false, .int .u64 0, .int .u64 0] 25)) n) hb2
          have hg2 : Good w2 := hg.below hb02
          obtain ⟨a1, c1, rfl⟩ := own_slice hown1
          clear hown1
          go_wp2_with fail
          refine (hR2.out _ hg2).mono ?_
          rintro e w3 ⟨he, hb3⟩
          rw [Hr2.out] at he
          obtain ⟨v2, rfl, hown2⟩ := he
          obtain ⟨a2, c2, rfl⟩ := own_slice hown2
          clear hown2
          have h8 : 8 - (g1.length : Int) - (g2.length : Int) < 1 := by omega
          go_wp2_with fail
          refine (hgu.out _).mono ?_
          rintro e w4 ⟨rfl, rfl⟩
          go_wp2
          exact ⟨rfl, rfl, btr hb02 hb3⟩
end Go.Proofs.YtghbonlignmdoaaGreatDoor
