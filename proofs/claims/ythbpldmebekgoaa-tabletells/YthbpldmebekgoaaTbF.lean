/- table.Above, table.Below. -/
import Derived.Test.YthbpldmebekgoaaTbE
import Derived.OwnWalk
set_option linter.unusedVariables false
set_option linter.unusedSimpArgs false
namespace Go.Proofs.Ythbpldmebekgoaa
open Go.RowKit Go.Maps Go.Shelf

def aboveE (ps : List Pf) (n : Int) : Int := if tlook ps n = 0 then (if (par ps n.toNat).isSome then 0 else 5) else tlook ps n
def aboveI (ps : List Pf) (n : Int) : Int := if aboveE ps n = 0 then nrI (par ps n.toNat) else 0
theorem tlook_ok {ps : List Pf} {n : Int} (h : tlook ps n = 0) : tchkL ps = 0 ∧ ∃ m : Nat, n = m ∧ m < ps.length := by
  unfold tlook at h
  by_cases hc : tchkL ps = 0
  · rw [if_pos hc] at h
    refine ⟨hc, ?_⟩
    by_cases hn : n < 0 ∨ (ps.length : Int) ≤ n
    · rw [if_pos hn] at h; exact absurd h (by decide)
    · exact ⟨n.toNat, by omega, by omega⟩
  · rw [if_neg hc] at h; exact absurd h hc
theorem right_all {ps : List Pf} (hok : ∀ p ∈ ps, p.Ok) (h : tchkL ps = 0) : ∀ p ∈ ps, p.R := fun p hp => by
  obtain ⟨a, b, c, d⟩ := hok p hp
  exact (right_iff _ _ _ _ a b c d).1 ((tchkL_right h).2 p hp)

set_option maxHeartbeats 8000000 in
set_option maxRecDepth 100000 in
theorem above_any (a : Option Addr) (c : Nat) (ps : List Pf) (n : Int) (w : World) (hok : ∀ p ∈ ps, p.Ok) (hc : ps.length ≤ c) (hs : Sl w a ps) :
    Calls Try.prog 5 #[.slice a ps.length c, .int .i64 n] w fun e w' => e = .returned (.tuple #[.int .i64 (aboveI ps n), .int .i64 (aboveE ps n)]) ∧ Below w.heap.size w w' := by
  have hC := tlook_any a c ps n w hok hs
  by_cases hr : tlook ps n = 0
  · obtain ⟨hch, m, rfl, hm⟩ := tlook_ok hr
    obtain ⟨h12, hall⟩ := tchkL_right hch
    have hR := right_all hok hch
    have hS : Hid (∀ w' : World, Below w.heap.size w w' → Calls Try.prog 18 #[.slice a ps.length c] w' fun e w'' => e = .returned (.map (some w'.heap.size)) ∧ w''.ownsMap Try.prog 3 (plainElem Try.prog 3) w'.heap.size 12 (Dm ps ps.length) ∧ Below w'.heap.size w' w'') :=
      fun w' hb => standing_any a c ps w' hR h12 hc (hs.below hb)
    rw [hr] at hC
    have HC := Lib.hid hC
    have hkey : keyOf Try.prog 3 (.int .i64 (m : Int)) = some (.int .i64 (m : Int)) := keyOf_int_mk Try.underlying3 (WalkArith.wf_i64 (by omega))
    have HK := Lib.hid hkey
    have e1 : aboveE ps m = if (par ps m).isSome then 0 else 5 := by rw [aboveE, if_pos hr]; rfl
    cases hq : par ps m with
    | none =>
      have e1' : aboveE ps m = 5 := by rw [e1, hq]; rfl
      have e2 : aboveI ps m = 0 := by rw [aboveI, e1']; exact if_neg (by decide)
      rw [e1', e2]
      have hh : Maps.has (Dm ps ps.length) (.int .i64 (m : Int)) = false := by
        rw [Bool.eq_false_iff]
        intro h
        obtain ⟨m', h1, _, h3⟩ := (Dm_has ps m ps.length).1 h
        obtain rfl : m = m' := by omega
        rw [hq] at h3; simp at h3
      generalize Dm ps ps.length = D at *
      generalize ps.length = N at *
      clear hkey e1 e1' e2 hq hall hok hR hs hC hr hch h12 hm hc
      go_enter Try.func5, Try.ntmps5
      go_wp2_with fail
      refine HC.out.mono ?_
      rintro e w2 ⟨rfl, hb⟩
      go_wp2_with fail
      refine (hS.out _ hb).mono ?_
      rintro e w3 ⟨rfl, hown, hb3⟩
      replace hb := Lib.hid (btr hb hb3)
      clear hb3 hS HC
      go_wp2_with (at_lookup; refine wpList_lookup_own_ok_int _ rfl _ _ 46 rfl 3 3 .i64 keyI Try.underlying46 Try.underlying3 (zeroI _) w2.heap.size 12 _ rfl hown _ _ rfl HK.out ?_; intro cc hat hwc; rw [hh])
      go_ret2
      exact ⟨rfl, hb.out⟩
    | some j =>
      have e1' : aboveE ps m = 0 := by rw [e1, hq]; rfl
      have e2 : aboveI ps m = (j : Int) := by rw [aboveI, e1', if_pos rfl, Int.toNat_natCast, hq]; rfl
      rw [e1', e2]
      have hh : Maps.has (Dm ps ps.length) (.int .i64 (m : Int)) = true := (Dm_has ps m ps.length).2 ⟨m, rfl, hm, by rw [hq]; rfl⟩
      have hat0 := Lib.hid (Dm_at ps m j hq ps.length hm)
      generalize Dm ps ps.length = D at *
      generalize ps.length = N at *
      clear hkey e1 e1' e2 hq hall hok hR hs hC hr hch h12 hm hc
      go_enter Try.func5, Try.ntmps5
      go_wp2_with fail
      refine HC.out.mono ?_
      rintro e w2 ⟨rfl, hb⟩
      go_wp2_with fail
      refine (hS.out _ hb).mono ?_
      rintro e w3 ⟨rfl, hown, hb3⟩
      replace hb := Lib.hid (btr hb hb3)
      clear hb3 hS HC
      go_wp2_with (at_lookup; refine wpList_lookup_own_ok_int _ rfl _ _ 46 rfl 3 3 .i64 keyI Try.underlying46 Try.underlying3 (zeroI _) w2.heap.size 12 _ rfl hown _ _ rfl HK.out ?_; intro cc hat hwc; rw [hh]; obtain rfl : (j : Int) = cc := (by have := hat0.out.symm.trans hat; injection this with this; injection this))
      go_ret2
      exact ⟨rfl, hb.out⟩
  · have e1 : aboveE ps n = tlook ps n := by rw [aboveE, if_neg hr]
    have e2 : aboveI ps n = 0 := by rw [aboveI, e1, if_neg hr]
    have hI : (tlook ps n != 0) = true := by rw [bne_iff_ne]; exact hr
    rw [e1, e2]
    have HC := Lib.hid hC
    generalize ps.length = N at *
    generalize tlook ps n = r at *
    clear e1 e2 hok hs hr hC hc
    go_enter Try.func5, Try.ntmps5
    go_wp2_with fail
    refine HC.out.mono ?_
    rintro e w2 ⟨rfl, hb⟩
    go_wp2
    go_ret2
    exact ⟨rfl, hb⟩

theorem infoI : (Try.prog.info? 3).map (fun i => (i.zero, i.size, i.bytes)) = some (some (.int .i64 0), 1, 8) := by kernel_rfl
def intsT (l : List Nat) : List Value := l.map fun k : Nat => Value.int .i64 (k : Int)
theorem intsT_len (l : List Nat) : (intsT l).length = l.length := by simp [intsT]
/-- The places below n, among the first k. -/
def lowL (ps : List Pf) (n : Nat) (k : Nat) : List Nat := (List.range k).filter fun i => par ps i == some n
theorem lowL_hit {ps : List Pf} {n k : Nat} (h : par ps k = some n) : lowL ps n (k + 1) = lowL ps n k ++ [k] := by simp [lowL, List.range_succ, h]
theorem lowL_miss {ps : List Pf} {n k : Nat} (h : par ps k ≠ some n) : lowL ps n (k + 1) = lowL ps n k := by simp [lowL, List.range_succ, h]
theorem lowL_len (ps : List Pf) (n k : Nat) : (lowL ps n k).length ≤ k := by
  have := List.length_filter_le (fun i => par ps i == some n) (List.range k)
  rw [List.length_range] at this
  exact this


set_option maxHeartbeats 8000000 in
set_option maxRecDepth 100000 in
theorem below_ok (a : Option Addr) (c : Nat) (ps : List Pf) (m : Nat) (w : World) (hok : ∀ p ∈ ps, p.Ok) (hc : ps.length ≤ c) (hs : Sl w a ps) (hr : tlook ps m = 0) :
    Calls Try.prog 6 #[.slice a ps.length c, .int .i64 m] w fun e w' => ∃ v, e = .returned (.tuple #[v, .int .i64 0]) ∧ w'.ownsRow w.heap.size 3 1 v (lowL ps m ps.length).length (intsT (lowL ps m ps.length)) ∧ Below w.heap.size w w' := by
  have hC := tlook_any a c ps m w hok hs
  obtain ⟨hch, m', e, hm⟩ := tlook_ok hr
  obtain rfl : m = m' := by omega
  obtain ⟨h12, hall⟩ := tchkL_right hch
  have hR := right_all hok hch
  have hS : Hid (∀ w' : World, Below w.heap.size w w' → Calls Try.prog 18 #[.slice a ps.length c] w' fun e w'' => e = .returned (.map (some w'.heap.size)) ∧ w''.ownsMap Try.prog 3 (plainElem Try.prog 3) w'.heap.size 12 (Dm ps ps.length) ∧ Below w'.heap.size w' w'') :=
    fun w' hb => standing_any a c ps w' hR h12 hc (hs.below hb)
  rw [hr] at hC
  have HC := Lib.hid hC
  obtain ⟨i0, hi0, hz0, hz1, hz2⟩ := info_parts infoI
  obtain ⟨N, hN⟩ : ∃ N, N = ps.length := ⟨_, rfl⟩
  have hD : Hid (∀ k : Nat, k < N → ∀ j, par ps k = some j → Maps.has (Dm ps ps.length) (.int .i64 (k : Int)) = true ∧ (Dm ps ps.length).atKey (.int .i64 (k : Int)) (.lit (.int .i64 0)) = .lit (.int .i64 (j : Int))) :=
    fun k hk j hj => ⟨(Dm_has ps k ps.length).2 ⟨k, rfl, by omega, by rw [hj]; rfl⟩, Dm_at ps k j hj ps.length (by omega)⟩
  have hE : Hid (∀ k : Nat, par ps k = none → Maps.has (Dm ps ps.length) (.int .i64 (k : Int)) = false) := fun k hk => by
    rw [Bool.eq_false_iff]
    intro h
    obtain ⟨m', h1, _, h3⟩ := (Dm_has ps k ps.length).1 h
    obtain rfl : k = m' := by omega
    rw [hk] at h3; simp at h3
  rw [← hN] at hS HC hm hc ⊢ hD hE
  generalize Dm ps N = D at *
  have hN12 : N ≤ 12 := by omega
  clear hall hok hR hs hC hr hch h12 hN e
  go_enter Try.func6, Try.ntmps6
  go_wp2_with fail
  refine HC.out.mono ?_
  rintro e w2 ⟨rfl, hb⟩
  go_wp2_with fail
  refine (hS.out _ hb).mono ?_
  rintro e w3 ⟨rfl, hown, hb3⟩
  have hmb : Hid (w2.heap.size < w3.heap.size) := hown.lt
  have Hown := Lib.hid hown
  have hb2 := Lib.hid hb.size
  replace hb := Lib.hid (btr hb hb3)
  clear hb3 hS HC hown
  go_wp2_with fail
  go_loopw [8, 22] (fun vs vi wr => ∃ k : Nat, vi = .int .i64 k ∧ k ≤ N ∧ Hid (wr.ownsRow w3.heap.size 3 1 vs (lowL ps m k).length (intsT (lowL ps m k))) ∧ Hid (wr.ownsMap Try.prog 3 (plainElem Try.prog 3) w2.heap.size 12 D) ∧ Hid (Below w.heap.size w wr) ∧ Hid (w3.heap.size ≤ wr.heap.size))
    (fun _ vi _ => N - (intOf vi).toNat)
  case atStart => exact ⟨0, rfl, Nat.zero_le _, row_nil _ _ _ _, Hown, hb, Nat.le_refl _⟩
  case round =>
    obtain ⟨k, rfl, hk, HO, HM, HB, HZ⟩ := hrel
    by_cases hkN : k < N
    · have HK := Lib.hid (keyOf_int_mk Try.underlying3 (WalkArith.wf_i64 (n := (k : Int)) (by omega)))
      have hk3 : (k : Int) < (N : Int) := by omega
      cases hq : par ps k with
      | none =>
        have hh := hE.out k hq
        have HS := Lib.hid (lowL_miss (ps := ps) (n := m) (k := k) (by rw [hq]; simp))
        clear hq hE hD
        go_wp2_with (at_lookup; refine wpList_lookup_own_ok_int _ rfl _ _ 46 rfl 3 3 .i64 keyI Try.underlying46 Try.underlying3 (zeroI _) w2.heap.size 12 _ rfl HM.out _ _ rfl HK.out ?_; intro cc hat hwc; rw [hh])
        go_roundw
        case rel => exact ⟨k + 1, by go_num, by omega, by rw [HS.out]; exact HO, HM, HB, HZ⟩
        case measure => simp [intOf]; omega
      | some j =>
        obtain ⟨hh, hat0⟩ := hD.out k hkN j hq
        replace hat0 := Lib.hid hat0
        by_cases hj : j = m
        · subst hj
          have HS := Lib.hid (lowL_hit hq)
          have HL := Lib.hid (lowL_len ps j k)
          have hjj : ((j : Int) == (j : Int)) = true := by simp
          clear hq hE hD
          go_wp2_with (first
            | (at_lookup; refine wpList_lookup_own_ok_int _ rfl _ _ 46 rfl 3 3 .i64 keyI Try.underlying46 Try.underlying3 (zeroI _) w2.heap.size 12 _ rfl HM.out _ _ rfl HK.out ?_; intro cc hat hwc; rw [hh]; obtain rfl : (j : Int) = cc := (by have := hat0.out.symm.trans hat; injection this with this; injection this))
            | (at_builtin; refine wpList_append_own _ rfl _ _ 30 rfl w3.heap.size 3 i0 (.int .i64 0) 1 8 Try.underlying30 hi0 hz0 hz1 hz2 rfl (by decide) _ _ _ rfl (HO.out.alloc _) ⟨wr.heap.size, 0, none⟩ 1 1 [.int .i64 (k : Int)] rfl rfl ?c1 ?c2 ?c3 ?c4 ?c5 ?_))
          case c1 =>
            intro j u hj
            match j, hj with
            | 0, hj => simp at hj; subst hj; simp [Addr.add]
          case c2 => intro u hu; simp at hu; subst hu; rfl
          case c3 => have := HL.out; unfold maxLen; omega
          case c4 => have := HL.out; omega
          case c5 => have := HZ.out; simp; omega
          intro v' w4 hown' hgrow _
          have hZ := HZ.out
          have hS2 := hb2.out
          have hS3 := hmb.out
          have HB4 : Hid (Below w.heap.size w w4) := (bal HB.out _).grown hgrow (by simp; omega) (fun k hk => Nat.le_trans (by omega) (HO.out.lt k hk).1)
          have HM4 : Hid (w4.ownsMap Try.prog 3 (plainElem Try.prog 3) w2.heap.size 12 D) := (HM.out.alloc _).kept hgrow (fun h => by have := (HO.out.lt _ h.symm).1; omega)
          have HZ4 : Hid (w3.heap.size ≤ w4.heap.size) := Nat.le_trans (by simp; omega) hgrow.size
          have HO4 : Hid (w4.ownsRow w3.heap.size 3 1 v' (lowL ps j (k + 1)).length (intsT (lowL ps j (k + 1)))) := by
            rw [HS.out, List.length_append, intsT, List.map_append]; exact hown'
          clear hown' hgrow HO HM HB hZ hS2 hS3
          go_wp2
          go_roundw
          case rel => exact ⟨k + 1, by go_num, by omega, HO4, HM4, HB4, HZ4⟩
          case measure => simp [intOf]; omega
        · have HS := Lib.hid (lowL_miss (ps := ps) (n := m) (k := k) (by rw [hq]; simpa using hj))
          have hjj : ((j : Int) == (m : Int)) = false := by rw [beq_eq_false_iff_ne]; omega
          clear hq hE hD
          go_wp2_with (at_lookup; refine wpList_lookup_own_ok_int _ rfl _ _ 46 rfl 3 3 .i64 keyI Try.underlying46 Try.underlying3 (zeroI _) w2.heap.size 12 _ rfl HM.out _ _ rfl HK.out ?_; intro cc hat hwc; rw [hh]; obtain rfl : (j : Int) = cc := (by have := hat0.out.symm.trans hat; injection this with this; injection this))
          go_roundw
          case rel => exact ⟨k + 1, by go_num, by omega, by rw [HS.out]; exact HO, HM, HB, HZ⟩
          case measure => simp [intOf]; omega
    · have : k = N := by omega
      subst this
      have hsz := hb2.out
      have hmb' := hmb.out
      go_wp2_with fail
      go_ret2
      exact ⟨_, rfl, row_base HO.out (by omega), HB.out⟩

theorem below_bad (a : Option Addr) (c : Nat) (ps : List Pf) (n : Int) (w : World) (hok : ∀ p ∈ ps, p.Ok) (hs : Sl w a ps) (hr : tlook ps n ≠ 0) :
    Calls Try.prog 6 #[.slice a ps.length c, .int .i64 n] w fun e w' => e = .returned (.tuple #[.slice none 0 0, .int .i64 (tlook ps n)]) ∧ Below w.heap.size w w' := by
  have hC := tlook_any a c ps n w hok hs
  have hI : (tlook ps n != 0) = true := by rw [bne_iff_ne]; exact hr
  have HC := Lib.hid hC
  generalize ps.length = N at *
  generalize tlook ps n = r at *
  clear hok hs hr hC
  go_enter Try.func6, Try.ntmps6
  go_wp2_with fail
  refine HC.out.mono ?_
  rintro e w2 ⟨rfl, hb⟩
  go_wp2
  go_ret2
  exact ⟨rfl, hb⟩
end Go.Proofs.Ythbpldmebekgoaa
