/- yardarmlaw.TableTells is true, whatever it is handed. -/
import Derived.Test.YthbpldmebekgoaaTbN
set_option linter.unusedVariables false
set_option linter.unusedSimpArgs false
namespace Go.Proofs.Ythbpldmebekgoaa
open Go.RowKit

theorem lastI_congr {α : Type} {p q : α → Bool} : ∀ {l : List α}, (∀ x ∈ l, p x = q x) → lastI p l = lastI q l
  | [], _ => rfl
  | x :: r, h => by rw [lastI, lastI, lastI_congr (fun y hy => h y (by simp [hy])), h x (by simp)]

theorem par_near {a : Option Addr} {c : Nat} {ps : List Pf} {w : World} (hok : ∀ p ∈ ps, p.Ok) (hs : Sl w a ps) (ht : tchkL ps = 0) (m : Nat) (hm : m < ps.length) (w' : World) (hb : Below w.heap.size w w') :
    Calls Try.prog 9 #[.slice a ps.length c, .agg #[.bool (ps[m]).v, .int .u64 (ps[m]).hi, .int .u64 (ps[m]).lo, .int .i64 (ps[m]).b], .int .i64 m] w' fun e w'' => e = .returned (.int .i64 (nrM (par ps m))) ∧ Below w'.heap.size w' w'' := by
  have hR := right_all hok ht
  have h12 := (tchkL_right ht).1
  have hRm := hR _ (List.getElem_mem hm)
  obtain ⟨hi, lo, e1, e2, _, _⟩ := (hok _ (List.getElem_mem hm)).nat
  have hx : ps[m] = ⟨(ps[m]).v, hi, lo, (ps[m]).b⟩ := by
    cases hp : ps[m] with
    | mk v h l b => rw [hp] at e1 e2; simp only at e1 e2; rw [e1, e2]
  have hq : Right (ps[m]).v hi lo (ps[m]).b := by have := hRm; rw [Pf.R, e1, e2] at this; exact this
  have := near_any a c ps (ps[m]).v hi lo (ps[m]).b m w' hR h12 (hs.below hb) hq
  rw [e1, e2]
  refine this.mono ?_
  rintro e w2 ⟨r, rfl, hn, hb2⟩
  rw [← hx] at hn
  rw [near_par (rise_all hR ht) hR hm hn]
  exact ⟨rfl, hb2⟩

theorem host_near {a : Option Addr} {c : Nat} {ps : List Pf} {v : Bool} {xh xl : Int} {w : World} (hok : ∀ p ∈ ps, p.Ok) (hs : Sl w a ps) (ht : tchkL ps = 0) (hc : chk v xh xl = 0) (h0 : 0 ≤ xh) (h1 : xh < 18446744073709551616) (l0 : 0 ≤ xl) (l1 : xl < 18446744073709551616) (w' : World) (hb : Below w.heap.size w w') :
    Calls Try.prog 9 #[.slice a ps.length c, .agg #[.bool v, .int .u64 xh, .int .u64 xl, .int .i64 (wid v)], .int .i64 (-1)] w' fun e w'' => e = .returned (.int .i64 (nrM (lastI (fun p => p.inA v xh xl) ps))) ∧ Below w'.heap.size w' w'' := by
  have hR := right_all hok ht
  have h12 := (tchkL_right ht).1
  have hq := host_right hc h0 h1 l0 l1
  obtain ⟨hi, rfl⟩ := Int.eq_ofNat_of_zero_le h0
  obtain ⟨lo, rfl⟩ := Int.eq_ofNat_of_zero_le l0
  have := near_any a c ps v hi lo (wid v) (-1) w' hR h12 (hs.below hb) hq
  refine this.mono ?_
  rintro e w2 ⟨r, rfl, hn, hb2⟩
  have e1 := near_find (rise_all hR ht) hR (show Pf.R ⟨v, hi, lo, wid v⟩ from hq) (by decide) hn
  have e2 : lastI (fun p => p.has ⟨v, hi, lo, wid v⟩) ps = lastI (fun p => p.inA v hi lo) ps := lastI_congr fun p hp => (in_has (hR p hp) hq).symm
  rw [e1, e2]
  exact ⟨rfl, hb2⟩

theorem ttells_any (a : Option Addr) (c : Nat) (ps : List Pf) (v : Bool) (xh xl : Int) (n : Int) (w : World) (hok : ∀ p ∈ ps, p.Ok) (hcap : ps.length ≤ c) (hs : Sl w a ps) (h0 : 0 ≤ xh) (h1 : xh < 18446744073709551616) (l0 : 0 ≤ xl) (l1 : xl < 18446744073709551616) :
    Calls Try.prog 3 #[.slice a ps.length c, .agg #[.bool v, .int .u64 xh, .int .u64 xl], .int .i64 n] w fun e w' => e = .returned (.bool true) ∧ Below w.heap.size w w' := by
  have HF : Hid (∀ w' : World, Below w.heap.size w w' → Calls Try.prog 4 #[.slice a ps.length c, .agg #[.bool v, .int .u64 xh, .int .u64 xl]] w' fun e w'' => e = .returned (.tuple #[.int .i64 (findI ps v xh xl), .int .i64 (findE ps v xh xl)]) ∧ Below w'.heap.size w' w'') := fun w' hb => find_any a c ps v xh xl w' hok (hs.below hb) h0 l0
  have HA : Hid (∀ w' : World, Below w.heap.size w w' → Calls Try.prog 5 #[.slice a ps.length c, .int .i64 n] w' fun e w'' => e = .returned (.tuple #[.int .i64 (aboveI ps n), .int .i64 (aboveE ps n)]) ∧ Below w'.heap.size w' w'') := fun w' hb => above_any a c ps n w' hok hcap (hs.below hb)
  have HT : Hid (∀ w' : World, Below w.heap.size w w' → Calls Try.prog 7 #[.slice a ps.length c] w' fun e w'' => e = .returned (.int .i64 (tchkL ps)) ∧ Below w'.heap.size w' w'') := fun w' hb => rtable_any a c ps w' hok (hs.below hb)
  have HK : Hid (∀ w' : World, Below w.heap.size w w' → Calls Try.prog 12 #[.slice a ps.length c] w' fun e w'' => e = .returned (.int .i64 (tchkL ps)) ∧ Below w'.heap.size w' w'') := fun w' hb => tcheck_any a c ps w' hok (hs.below hb)
  have HG : Hid (∀ w' : World, Calls Try.prog 11 #[] w' fun e w'' => e = .returned (.bool true) ∧ Below w'.heap.size w' w'') := tbegun_any
  have HC : Hid (∀ w' : World, Calls Try.prog 8 #[.agg #[.bool v, .int .u64 xh, .int .u64 xl]] w' fun e w'' => e = .returned (.int .i64 (chk v xh xl)) ∧ Below w'.heap.size w' w'') := fun w' => rcheck_any v xh xl w' h0 l0
  have HH : Hid (∀ w' : World, Calls Try.prog 10 #[.agg #[.bool v, .int .u64 xh, .int .u64 xl]] w' fun e w'' => e = .returned (.agg #[.bool v, .int .u64 xh, .int .u64 xl, .int .i64 (wid v)]) ∧ Below w'.heap.size w' w'') := fun w' => rhost_any v xh xl w'
  by_cases ht : tchkL ps = 0
  · have h12 := (tchkL_right ht).1
    by_cases hn : tlook ps n = 0
    · obtain ⟨_, m, rfl, hm⟩ := tlook_ok hn
      have HL : Hid (∀ w' : World, Below w.heap.size w w' → Calls Try.prog 6 #[.slice a ps.length c, .int .i64 m] w' fun e w'' => ∃ bv, e = .returned (.tuple #[bv, .int .i64 0]) ∧ w''.ownsRow w'.heap.size 3 1 bv (lowL ps m ps.length).length (intsT (lowL ps m ps.length)) ∧ Below w'.heap.size w' w'') := fun w' hb => below_ok a c ps m w' hok hcap (hs.below hb) hn
      have HM := Lib.hid (fun (m : Nat) (hm : m < ps.length) (w' : World) (hb : Below w.heap.size w w') => par_near (c := c) hok hs ht m hm w' hb)
      have eA : aboveE ps m = if (par ps m).isSome then 0 else 5 := by rw [aboveE, if_pos hn]; rfl
      cases hp : par ps m with
      | none =>
        have k2 : aboveE ps m = 5 := by rw [eA, hp]; rfl
        have k3 : aboveI ps m = 0 := by rw [aboveI, k2]; exact if_neg (by decide)
        rcases chk_cases v xh xl with ⟨hc, _⟩ | hc
        · have HN1 := Lib.hid (fun (w' : World) (hb : Below w.heap.size w w') => host_near (c := c) hok hs ht hc h0 h1 l0 l1 w' hb)
          have eF : findE ps v xh xl = if (lastI (fun p => p.inA v xh xl) ps).isSome then 0 else 5 := by rw [findE, if_pos ht, if_pos hc]
          cases hl : lastI (fun p => p.inA v xh xl) ps with
          | none =>
            have g2 : findE ps v xh xl = 5 := by rw [eF, hl]; rfl
            have g3 : findI ps v xh xl = 0 := by rw [findI, g2]; exact if_neg (by decide)
            exact tt_A2N2 a c _ ps v xh xl _ w rfl h12 hs _ _ _ _ _ HF HA HT HK HG m rfl hm HL HM k2 k3 hp _ HC HH _ HN1 hc g2 g3 (by rw [hl]; rfl) ht
          | some j =>
            have g2 : findE ps v xh xl = 0 := by rw [eF, hl]; rfl
            have g3 : findI ps v xh xl = (j : Int) := by rw [findI, g2, if_pos rfl, hl]; rfl
            exact tt_A3N2 a c _ ps v xh xl _ w rfl h12 hs _ _ _ _ _ HF HA HT HK HG m rfl hm HL HM k2 k3 hp _ HC HH _ HN1 j hc g2 g3 (by rw [hl]; rfl) ht
        · have g2 : findE ps v xh xl = 3 := by rw [findE, if_pos ht, hc]; exact if_neg (by decide)
          have g3 : findI ps v xh xl = 0 := by rw [findI, g2]; exact if_neg (by decide)
          exact tt_A1N2 a c _ ps v xh xl _ w rfl h12 hs _ _ _ _ _ HF HA HT HK HG m rfl hm HL HM k2 k3 hp _ HC hc g2 g3 ht
      | some i =>
        have k2 : aboveE ps m = 0 := by rw [eA, hp]; rfl
        have k3 : aboveI ps m = (i : Int) := by rw [aboveI, k2, if_pos rfl, Int.toNat_natCast, hp]; rfl
        rcases chk_cases v xh xl with ⟨hc, _⟩ | hc
        · have HN1 := Lib.hid (fun (w' : World) (hb : Below w.heap.size w w') => host_near (c := c) hok hs ht hc h0 h1 l0 l1 w' hb)
          have eF : findE ps v xh xl = if (lastI (fun p => p.inA v xh xl) ps).isSome then 0 else 5 := by rw [findE, if_pos ht, if_pos hc]
          cases hl : lastI (fun p => p.inA v xh xl) ps with
          | none =>
            have g2 : findE ps v xh xl = 5 := by rw [eF, hl]; rfl
            have g3 : findI ps v xh xl = 0 := by rw [findI, g2]; exact if_neg (by decide)
            exact tt_A2N3 a c _ ps v xh xl _ w rfl h12 hs _ _ _ _ _ HF HA HT HK HG m rfl hm HL HM i k2 k3 hp _ HC HH _ HN1 hc g2 g3 (by rw [hl]; rfl) ht
          | some j =>
            have g2 : findE ps v xh xl = 0 := by rw [eF, hl]; rfl
            have g3 : findI ps v xh xl = (j : Int) := by rw [findI, g2, if_pos rfl, hl]; rfl
            exact tt_A3N3 a c _ ps v xh xl _ w rfl h12 hs _ _ _ _ _ HF HA HT HK HG m rfl hm HL HM i k2 k3 hp _ HC HH _ HN1 j hc g2 g3 (by rw [hl]; rfl) ht
        · have g2 : findE ps v xh xl = 3 := by rw [findE, if_pos ht, hc]; exact if_neg (by decide)
          have g3 : findI ps v xh xl = 0 := by rw [findI, g2]; exact if_neg (by decide)
          exact tt_A1N3 a c _ ps v xh xl _ w rfl h12 hs _ _ _ _ _ HF HA HT HK HG m rfl hm HL HM i k2 k3 hp _ HC hc g2 g3 ht
    · have HL : Hid (∀ w' : World, Below w.heap.size w w' → Calls Try.prog 6 #[.slice a ps.length c, .int .i64 n] w' fun e w'' => e = .returned (.tuple #[.slice none 0 0, .int .i64 (tlook ps n)]) ∧ Below w'.heap.size w' w'') := fun w' hb => below_bad a c ps n w' hok (hs.below hb) hn
      have hl3 : tlook ps n = 3 ∧ (n < 0 ∨ (ps.length : Int) ≤ n) := by
        unfold tlook at hn ⊢
        rw [if_pos ht] at hn ⊢
        by_cases h : n < 0 ∨ (ps.length : Int) ≤ n
        · rw [if_pos h]; exact ⟨rfl, h⟩
        · rw [if_neg h] at hn; exact absurd rfl hn
      have k2 : aboveE ps n = 3 := by rw [aboveE, if_neg hn]; exact hl3.1
      have k3 : aboveI ps n = 0 := by rw [aboveI, k2]; exact if_neg (by decide)
      by_cases h : n < 0
      · rcases chk_cases v xh xl with ⟨hc, _⟩ | hc
        · have HN1 := Lib.hid (fun (w' : World) (hb : Below w.heap.size w w') => host_near (c := c) hok hs ht hc h0 h1 l0 l1 w' hb)
          have eF : findE ps v xh xl = if (lastI (fun p => p.inA v xh xl) ps).isSome then 0 else 5 := by rw [findE, if_pos ht, if_pos hc]
          cases hl : lastI (fun p => p.inA v xh xl) ps with
          | none =>
            have g2 : findE ps v xh xl = 5 := by rw [eF, hl]; rfl
            have g3 : findI ps v xh xl = 0 := by rw [findI, g2]; exact if_neg (by decide)
            exact tt_A2Na a c _ ps v xh xl _ w rfl h12 hs _ _ _ _ _ HF HA HT HK HG (tlook ps n) HL hl3.1 k2 k3 h _ HC HH _ HN1 hc g2 g3 (by rw [hl]; rfl) ht
          | some j =>
            have g2 : findE ps v xh xl = 0 := by rw [eF, hl]; rfl
            have g3 : findI ps v xh xl = (j : Int) := by rw [findI, g2, if_pos rfl, hl]; rfl
            exact tt_A3Na a c _ ps v xh xl _ w rfl h12 hs _ _ _ _ _ HF HA HT HK HG (tlook ps n) HL hl3.1 k2 k3 h _ HC HH _ HN1 j hc g2 g3 (by rw [hl]; rfl) ht
        · have g2 : findE ps v xh xl = 3 := by rw [findE, if_pos ht, hc]; exact if_neg (by decide)
          have g3 : findI ps v xh xl = 0 := by rw [findI, g2]; exact if_neg (by decide)
          exact tt_A1Na a c _ ps v xh xl _ w rfl h12 hs _ _ _ _ _ HF HA HT HK HG (tlook ps n) HL hl3.1 k2 k3 h _ HC hc g2 g3 ht
      · have h' : decide (n < 0) = false := decide_eq_false h
        have h2 : (ps.length : Int) ≤ n := hl3.2.resolve_left h
        rcases chk_cases v xh xl with ⟨hc, _⟩ | hc
        · have HN1 := Lib.hid (fun (w' : World) (hb : Below w.heap.size w w') => host_near (c := c) hok hs ht hc h0 h1 l0 l1 w' hb)
          have eF : findE ps v xh xl = if (lastI (fun p => p.inA v xh xl) ps).isSome then 0 else 5 := by rw [findE, if_pos ht, if_pos hc]
          cases hl : lastI (fun p => p.inA v xh xl) ps with
          | none =>
            have g2 : findE ps v xh xl = 5 := by rw [eF, hl]; rfl
            have g3 : findI ps v xh xl = 0 := by rw [findI, g2]; exact if_neg (by decide)
            exact tt_A2Nb a c _ ps v xh xl _ w rfl h12 hs _ _ _ _ _ HF HA HT HK HG (tlook ps n) HL hl3.1 k2 k3 h' h2 _ HC HH _ HN1 hc g2 g3 (by rw [hl]; rfl) ht
          | some j =>
            have g2 : findE ps v xh xl = 0 := by rw [eF, hl]; rfl
            have g3 : findI ps v xh xl = (j : Int) := by rw [findI, g2, if_pos rfl, hl]; rfl
            exact tt_A3Nb a c _ ps v xh xl _ w rfl h12 hs _ _ _ _ _ HF HA HT HK HG (tlook ps n) HL hl3.1 k2 k3 h' h2 _ HC HH _ HN1 j hc g2 g3 (by rw [hl]; rfl) ht
        · have g2 : findE ps v xh xl = 3 := by rw [findE, if_pos ht, hc]; exact if_neg (by decide)
          have g3 : findI ps v xh xl = 0 := by rw [findI, g2]; exact if_neg (by decide)
          exact tt_A1Nb a c _ ps v xh xl _ w rfl h12 hs _ _ _ _ _ HF HA HT HK HG (tlook ps n) HL hl3.1 k2 k3 h' h2 _ HC hc g2 g3 ht
  · have e0 : tlook ps n = tchkL ps := by rw [tlook, if_neg ht]
    have HL : Hid (∀ w' : World, Below w.heap.size w w' → Calls Try.prog 6 #[.slice a ps.length c, .int .i64 n] w' fun e w'' => e = .returned (.tuple #[.slice none 0 0, .int .i64 (tlook ps n)]) ∧ Below w'.heap.size w' w'') := fun w' hb => below_bad a c ps n w' hok (hs.below hb) (by rw [e0]; exact ht)
    have e1 : findE ps v xh xl = tchkL ps := by rw [findE, if_neg ht]
    have e2 : findI ps v xh xl = 0 := by rw [findI, e1, if_neg ht]
    have e3 : aboveE ps n = tchkL ps := by rw [aboveE, if_neg (by rw [e0]; exact ht), e0]
    have e4 : aboveI ps n = 0 := by rw [aboveI, e3, if_neg ht]
    exact tt_bad a c _ ps v xh xl n w rfl hs _ _ _ _ _ HF HA HT HK HG _ HL e0 e1 e3 e2 e4 (by rw [beq_eq_false_iff_ne]; exact ht)
end Go.Proofs.Ythbpldmebekgoaa
