/- Tables: the document's nearest one is the last one; Host. -/
import Derived.Test.YthbpldmebekgoaaTbI
import Derived.Test.YthbpldmebekgoaaTbJ
set_option linter.unusedVariables false
set_option linter.unusedSimpArgs false
namespace Go.Proofs.Ythbpldmebekgoaa
open Go.RowKit

theorem near_find {ps : List Pf} (pw : ps.Pairwise (fun p q => p.cmp q < 0)) (hR : ∀ p ∈ ps, p.R) {q : Pf} (hq : q.R) {n r : Int} (hn : n < 0) (h : IsNear ps q n r) : r = nrM (lastI (fun p => p.has q) ps) := by
  cases hl : lastI (fun p => p.has q) ps with
  | none =>
    have h0 := lastI_none.1 hl
    rcases h with ⟨rfl, _⟩ | ⟨i, hi, _, _, hh, _⟩
    · rfl
    · have := h0 _ (List.getElem_mem hi)
      rw [hh] at this; exact absurd this (by decide)
  | some j =>
    obtain ⟨hj, h1, h2⟩ := lastI_some hl
    rcases h with ⟨_, h⟩ | ⟨i, hi, rfl, _, hh, hm⟩
    · have := h j hj (by omega)
      rw [h1] at this; exact absurd this (by decide)
    · have hij : i = j := by
        rcases Nat.lt_trichotomy i j with h | h | h
        · have h3 := has_order (hR _ (List.getElem_mem hi)) (hR _ (List.getElem_mem hj)) hq hh h1 (rise_lt pw hj h)
          have h4 := hm j hj (by omega) h1
          omega
        · exact h
        · have := h2 i hi h
          rw [hh] at this; exact absurd this (by decide)
      rw [hij]; rfl
theorem near_par {ps : List Pf} (pw : ps.Pairwise (fun p q => p.cmp q < 0)) (hR : ∀ p ∈ ps, p.R) {m : Nat} (hm : m < ps.length) {r : Int} (h : IsNear ps ps[m] m r) : r = nrM (par ps m) := by
  have hp : par ps m = lastI (fun q => q.has ps[m]) (ps.take m) := by rw [par, List.getElem?_eq_getElem hm]
  have hRm := hR _ (List.getElem_mem hm)
  have hlen : (ps.take m).length = m := List.length_take_of_le (by omega)
  have hbefore : ∀ i (hi : i < ps.length), (i : Int) ≠ (m : Int) → (ps[i]).has ps[m] = true → i < m := fun i hi hne hh => by
    rcases Nat.lt_or_ge i m with h | h
    · exact h
    · have := has_back hRm (hR _ (List.getElem_mem hi)) (rise_lt pw hi (by omega : m < i))
      rw [hh] at this; exact absurd this (by decide)
  rw [hp]
  cases hl : lastI (fun q => q.has ps[m]) (ps.take m) with
  | none =>
    have h0 := lastI_none.1 hl
    rcases h with ⟨rfl, _⟩ | ⟨i, hi, _, hne, hh, _⟩
    · rfl
    · have hlt := hbefore i hi hne hh
      have := h0 ps[i] (List.mem_take_iff_getElem.2 ⟨i, by omega, rfl⟩)
      rw [hh] at this; exact absurd this (by decide)
  | some j =>
    obtain ⟨hj, h1, h2⟩ := lastI_some hl
    have hjm : j < m := by omega
    rw [List.getElem_take] at h1
    rcases h with ⟨_, h⟩ | ⟨i, hi, rfl, hne, hh, hmx⟩
    · have := h j (by omega) (by omega)
      rw [h1] at this; exact absurd this (by decide)
    · have hlt := hbefore i hi hne hh
      have hij : i = j := by
        rcases Nat.lt_trichotomy i j with h | h | h
        · have h3 := has_order (hR _ (List.getElem_mem hi)) (hR _ (List.getElem_mem (by omega))) hRm hh h1 (rise_lt pw (by omega) h)
          have h4 := hmx j (by omega) (by omega) h1
          omega
        · exact h
        · have := h2 i (by omega) h
          rw [List.getElem_take, hh] at this; exact absurd this (by decide)
      rw [hij]; rfl


theorem rhost_any (v : Bool) (xh xl : Int) (w : World) :
    Calls Try.prog 10 #[.agg #[.bool v, .int .u64 xh, .int .u64 xl]] w fun e w' => e = .returned (.agg #[.bool v, .int .u64 xh, .int .u64 xl, .int .i64 (wid v)]) ∧ Below w.heap.size w w' := by
  have hW : Hid (∀ w : World, Calls Try.prog 22 #[.agg #[.bool v, .int .u64 xh, .int .u64 xl]] w fun e w' => e = .returned (.int .i64 (wid v)) ∧ Below w.heap.size w w') := fun w => rwide_any v xh xl w
  have P0 := (Has3.new w (.bool v) (.int .u64 xh) (.int .u64 xl) 25).alloc (.cells #[.bool false, .int .u64 0, .int .u64 0, .int .i64 0] 37)
  have B0 := bal (bal (Below.refl w.heap.size w) (.cells #[.bool v, .int .u64 xh, .int .u64 xl] 25)) (.cells #[.bool false, .int .u64 0, .int .u64 0, .int .i64 0] 37)
  have Q0 := Own4.new (w.alloc (.cells #[.bool v, .int .u64 xh, .int .u64 xl] 25)) (.bool false) (.int .u64 0) (.int .u64 0) (.int .i64 0) 37
  rw [show (w.alloc (.cells #[.bool v, .int .u64 xh, .int .u64 xl] 25)).heap.size = w.heap.size + 1 by simp] at Q0
  generalize wid v = d at *
  go_enter Try.func10, Try.ntmps10
  go_wp2_with fail
  generalize (w.alloc (.cells #[.bool v, .int .u64 xh, .int .u64 xl] 25)).alloc (.cells #[.bool false, .int .u64 0, .int .u64 0, .int .i64 0] 37) = W at *
  have HP : Hid (Has3 W.drew w.heap.size (.bool v) (.int .u64 xh) (.int .u64 xl)) := P0
  have HQ : Hid (Own4 W.drew (w.heap.size + 1) (.bool false) (.int .u64 0) (.int .u64 0) (.int .i64 0)) := Q0
  have HB : Hid (Below w.heap.size w W.drew) := B0.drew
  obtain ⟨a0, a1, a2, a3⟩ := P0
  clear B0 Q0
  go_region_with (go_at_call 22; refine (hW.out _).mono ?_; rintro e w3 ⟨rfl, hb3⟩; obtain ⟨p0, p1, p2, p3⟩ := HP.out.below hb3; obtain ⟨⟨q0, q1, q2, q3⟩, ⟨q4, q5, q6, q7⟩, q8⟩ := HQ.out.below hb3; have HB3 : Hid (Below w.heap.size w w3) := btr HB.out hb3; clear hb3)
  all_goals
    go_wp2
    refine bodyPost_ret (v := .agg #[.bool v, .int .u64 xh, .int .u64 xl, .int .i64 d]) ?_ rfl ⟨rfl, ?_⟩
    · simp [results, Try.results10, go_sem, q0, q1, q2, q3]
    · exact bse (bse (bse (bse HB3.out (by first | (simp; done) | (simp; omega)) _) (by first | (simp; done) | (simp; omega)) _) (by first | (simp; done) | (simp; omega)) _) (by first | (simp; done) | (simp; omega)) _
end Go.Proofs.Ythbpldmebekgoaa
