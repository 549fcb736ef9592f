/- table.standing: which prefix stands below which: a map. -/
import Derived.Test.YthbpldmebekgoaaTbD
import Derived.Maps.OwnSet
import Derived.Maps.Views
set_option linter.unusedVariables false
set_option linter.unusedSimpArgs false
namespace Go.Proofs.Ythbpldmebekgoaa
open Go.RowKit Go.Maps Go.Shelf

theorem keyI : Keyed Try.prog 3 := int_keyed Try.underlying3
theorem zeroI (w : World) : (zeroValue 3).run Try.prog w = .ok (.int .i64 0) w := by kernel_rfl

/-- The one that place k stands below, looked for ahead of it. -/
def par (ps : List Pf) (k : Nat) : Option Nat := match ps[k]? with | some x => lastI (fun q => q.has x) (ps.take k) | none => none
/-- The map behind k rounds. -/
def Dm (ps : List Pf) : Nat → DataW Unit
  | 0 => .map []
  | k + 1 => match par ps k with
    | some j => (Dm ps k).put (.int .i64 (k : Int)) (.lit (.int .i64 (j : Int)))
    | none => Dm ps k
theorem Dm_isMap (ps : List Pf) : ∀ k, IsMap (Dm ps k)
  | 0 => ⟨[], rfl⟩
  | k + 1 => by
    have h := Dm_isMap ps k
    rw [Dm]
    split
    · obtain ⟨es, he⟩ := h; rw [he]; exact ⟨_, rfl⟩
    · exact h
theorem lastI_lt {α : Type} {p : α → Bool} : ∀ {l : List α} {i : Nat}, lastI p l = some i → i < l.length
  | [], i, h => by simp [lastI] at h
  | x :: r, i, h => by
    rw [lastI] at h
    split at h
    · rename_i j hj
      have := lastI_lt hj
      simp at h
      simp; omega
    · split at h
      · simp at h; simp; omega
      · simp at h
theorem par_lt {ps : List Pf} {k j : Nat} (h : par ps k = some j) : j < k ∧ j < ps.length := by
  unfold par at h
  split at h
  · have := lastI_lt h
    rw [List.length_take] at this
    omega
  · simp at h
theorem Dm_none {ps : List Pf} {k : Nat} (h : par ps k = none) : Dm ps (k + 1) = Dm ps k := by rw [Dm, h]
theorem Dm_some {ps : List Pf} {k j : Nat} (h : par ps k = some j) : Dm ps (k + 1) = (Dm ps k).put (.int .i64 (k : Int)) (.lit (.int .i64 (j : Int))) := by rw [Dm, h]
theorem lit_ne {a b : Int} (h : a ≠ b) : (Lit.int .i64 a) ≠ (Lit.int .i64 b) := fun e => h (by injection e)
theorem Dm_has (ps : List Pf) (n : Int) : ∀ k, Maps.has (Dm ps k) (.int .i64 n) = true ↔ ∃ m : Nat, n = m ∧ m < k ∧ (par ps m).isSome = true
  | 0 => by simp [Dm, Maps.has]
  | k + 1 => by
    have ih := Dm_has ps n k
    rw [Dm]
    split
    · rename_i j hj
      by_cases hn : n = (k : Int)
      · subst hn
        rw [has_put_same (Dm_isMap ps k) (by trivial)]
        simp only [true_iff]
        exact ⟨k, rfl, by omega, by rw [hj]; rfl⟩
      · rw [has_put_other (lit_ne hn), ih]
        constructor
        · rintro ⟨m, h1, h2, h3⟩; exact ⟨m, h1, by omega, h3⟩
        · rintro ⟨m, h1, h2, h3⟩; exact ⟨m, h1, by omega, h3⟩
    · rename_i hj
      rw [ih]
      constructor
      · rintro ⟨m, h1, h2, h3⟩; exact ⟨m, h1, by omega, h3⟩
      · rintro ⟨m, h1, h2, h3⟩
        by_cases hm : m = k
        · subst hm; rw [hj] at h3; simp at h3
        · exact ⟨m, h1, by omega, h3⟩
theorem Dm_at (ps : List Pf) (n : Nat) (j : Nat) (hj : par ps n = some j) : ∀ k, n < k → (Dm ps k).atKey (.int .i64 (n : Int)) (.lit (.int .i64 0)) = .lit (.int .i64 (j : Int))
  | 0, h => by omega
  | k + 1, h => by
    rw [Dm]
    by_cases hn : n = k
    · subst hn
      rw [hj]
      exact atKey_put_same (Dm_isMap ps n) (by trivial) _ _
    · have ih := Dm_at ps n j hj k (by omega)
      split
      · rw [atKey_put_other (lit_ne (by omega))]; exact ih
      · exact ih

theorem enters_stand1 : ∀ args w, (callFunc 29 args).run Try.prog w = .ok (.enter 29 args) w := enters_of Try.func29 (by kernel_rfl) rfl
theorem ownsMap_below {w w' : World} {b n : Nat} {D : DataW Unit} (h : w.ownsMap Try.prog 3 (plainElem Try.prog 3) b n D) (hb : Below w.heap.size w w') : w'.ownsMap Try.prog 3 (plainElem Try.prog 3) b n D := by
  have hlt := h.lt
  obtain ⟨es, clock, hh, r⟩ := h
  exact ⟨es, clock, (hb.block b hlt).trans hh, r⟩

set_option maxHeartbeats 8000000 in
set_option maxRecDepth 100000 in
theorem standing_any (a : Option Addr) (c : Nat) (ps : List Pf) (w : World) (hok : ∀ p ∈ ps, p.R) (hl : ps.length ≤ 12) (hc : ps.length ≤ c) (hs : Sl w a ps) :
    Calls Try.prog 18 #[.slice a ps.length c] w fun e w' => e = .returned (.map (some w.heap.size)) ∧ w'.ownsMap Try.prog 3 (plainElem Try.prog 3) w.heap.size 12 (Dm ps ps.length) ∧ Below w.heap.size w w' := by
  have hmm := @run_makeMap Try.prog
  obtain ⟨N, hN⟩ : ∃ N, N = ps.length := ⟨_, rfl⟩
  rw [← hN] at hl hc ⊢
  have HN : Hid (N = ps.length) := hN
  clear hN
  go_enter Try.func18, Try.ntmps18
  go_wp2_with fail
  go_loopw [11] (fun vi wr => ∃ k : Nat, vi = .int .i64 k ∧ k ≤ N ∧ Hid (wr.ownsMap Try.prog 3 (plainElem Try.prog 3) w.heap.size k (Dm ps k)) ∧ Below w.heap.size w wr)
    (fun vi _ => N - (intOf vi).toNat)
  case atStart => exact ⟨0, rfl, Nat.zero_le _, World.ownsMap_made _ _ _ _, bal (Below.refl _ _) _⟩
  case round =>
    obtain ⟨k, rfl, hk, hown, hb⟩ := hrel
    have hN := HN.out
    by_cases hkN : k < N
    · have hkl : k < ps.length := by omega
      obtain ⟨g, o, rfl, hg, c0, c1, c2, c3⟩ := hs k hkl
      rw [← (bcell hb).1 _ _ hg] at c0 c1 c2 c3
      have hR := hok _ (List.getElem_mem hkl)
      have hpar : par ps k = lastI (fun q => q.has ps[k]) (ps.take k) := by rw [par, List.getElem?_eq_getElem hkl]
      have hlen : (ps.take k).length = k := List.length_take_of_le (by omega)
      have hmem : ∀ x ∈ ps.take k, x.R := fun x hx => hok x (List.mem_of_mem_take hx)
      have hst := hs.take k
      generalize ps[k] = x at *
      obtain ⟨v, hi, lo, b⟩ := x
      simp only [Pf.R] at c0 c1 c2 c3 hR
      have hb1 := bal hb (.cells #[.bool v, .int .u64 hi, .int .u64 lo, .int .i64 b] 37)
      have hP := Has4.new wr v hi lo b 37
      have hF : Hid (∀ w' : World, Has4 w' wr.heap.size v hi lo b → Below w.heap.size w w' → Calls Try.prog 14 #[.slice (some ⟨g, o, none⟩) k c, .func (.func 29) #[] #[.pointer (some ⟨wr.heap.size, 0, none⟩)]] w' fun e w'' =>
          e = .returned (.tuple #[.int .i64 (nrI (par ps k)), .bool (par ps k).isSome]) ∧ Below w'.heap.size w' w'') := by
        intro w' h4 hbw
        have h12 : (ps.take k).length ≤ 12 := by omega
        have := nearest_any (some ⟨g, o, none⟩) c (ps.take k) w' 29 #[.pointer (some ⟨wr.heap.size, 0, none⟩)] (fun q => q.has ⟨v, hi, lo, b⟩) h12 (hst.below hbw) enters_stand1 (by
          intro W y hy hbW
          have := stand1_any wr.heap.size v hi lo b y.v y.hi y.lo y.b W hR (hmem y hy) (h4.below hbW)
          exact this.mono fun e w3 h => ⟨h.1, btr hbW h.2⟩)
        rw [hlen] at this
        rw [hpar]
        exact this
      have HB := Lib.hid hb1
      have HP := Lib.hid hP
      replace hown := Lib.hid (hown.out.alloc (.cells #[.bool v, .int .u64 hi, .int .u64 lo, .int .i64 b] 37))
      have hk1 : (0 : Int) ≤ (k : Int) := by omega
      have hk2 : (k : Int) ≤ (c : Int) := by omega
      have hk3 : (k : Int) < (N : Int) := by omega
      have hkey : keyOf Try.prog 3 (.int .i64 (k : Int)) = some (.int .i64 (k : Int)) := keyOf_int_mk Try.underlying3 (WalkArith.wf_i64 (by omega))
      have HK := Lib.hid hkey
      clear hkey hpar hlen hmem hst hR hN hok hs hb1 hP hb
      cases hq : par ps k with
      | none =>
        rw [hq] at hF
        have HD := Lib.hid (Dm_none hq)
        clear hq
        go_wp2_with fail
        refine (hF.out _ HP.out HB.out).mono ?_
        rintro e w2 ⟨rfl, hb2⟩
        replace hown := Lib.hid (ownsMap_below hown.out hb2)
        replace HB := Lib.hid (btr HB.out hb2)
        clear hF hb2 HP c0 c1 c2 c3
        go_wp2_with fail
        go_roundw
        case rel => exact ⟨k + 1, by go_num, by omega, by rw [HD.out]; exact Lib.hid (hown.out.mono (Nat.le_succ _)), HB.out⟩
        case measure => simp [intOf]; omega
      | some j =>
        rw [hq] at hF
        have HD := Lib.hid (Dm_some hq)
        have hj : j < 12 := by have := (par_lt hq).1; omega
        rw [show nrI (some j) = (j : Int) from rfl] at hF
        clear hq
        go_wp2_with fail
        refine (hF.out _ HP.out HB.out).mono ?_
        rintro e w2 ⟨rfl, hb2⟩
        replace hown := Lib.hid (ownsMap_below hown.out hb2)
        replace HB := Lib.hid (btr HB.out hb2)
        clear hF hb2 HP c0 c1 c2 c3
        go_wp2_with (at_mapUpdate; refine wpList_mapUpdate_own _ rfl _ _ _ 46 rfl 3 3 keyI Try.underlying46 _ w.heap.size k _ rfl hown.out (by unfold maxLen; omega) _ _ _ rfl rfl HK.out _ [] (plainElem_int Try.underlying3 (WalkArith.wf_i64 (by omega))) ?_; intro w1 hown1 hgrow1)
        go_roundw
        case rel => exact ⟨k + 1, by go_num, by omega, by rw [HD.out]; exact Lib.hid hown1, HB.out.grown hgrow1 HB.out.size (fun j hj => by cases hj; exact Nat.le_refl _)⟩
        case measure => simp [intOf]; omega
    · have : k = N := by omega
      subst this
      clear hN hok hs
      go_wp2_with fail
      go_ret
      exact ⟨rfl, hown.out.mono (by omega), hb⟩
end Go.Proofs.Ythbpldmebekgoaa
