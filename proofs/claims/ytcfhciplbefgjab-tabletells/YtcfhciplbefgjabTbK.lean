/- Tables: the document's nearest one is the last one; Host. -/
import Derived.Test.YtcfhciplbefgjabTbI
import Derived.Test.YtcfhciplbefgjabTbJ
set_option linter.unusedVariables false
set_option linter.unusedSimpArgs false
namespace Go.Proofs.Ytcfhciplbefgjab
open Go.RowKit

theorem near_find {ps : List Pf} (pw : ps.Pairwise (fun p q => p.cmp q < 0)) (hR : ∀ p ∈ ps, p.R) {q : Pf} (hq : q.R) {n r : Int} (hn : n < 0) (h : IsNear ps q n r) : r = nrM (lastI (fun p => p.has q) ps) := by
  cases hl : lastI (fun p => p.has q) ps with
  | none =>
    have h0 := lastI_none.1 hl
    rcases h with ⟨rfl, _⟩ | ⟨i, hi, _, _, hh, _⟩
    · rfl
    · have := h0 _ (List.getElem_mem hi)
      rw [hh] at this; exact absurd this (by decide)
  | some j =>
    obtain ⟨hj, h1, h2⟩ := lastI_some hl
    rcases h with ⟨_, h⟩ | ⟨i, hi, rfl, _, hh, hm⟩
    · have := h j hj (by omega)
      rw [h1] at this; exact absurd this (by decide)
    · have hij : i = j := by
        rcases Nat.lt_trichotomy i j with h | h | h
        · have h3 := has_order (hR _ (List.getElem_mem hi)) (hR _ (List.getElem_mem hj)) hq hh h1 (rise_lt pw hj h)
          have h4 := hm j hj (by omega) h1
          omega
        · exact h
        · have := h2 i hi h
          rw [hh] at this; exact absurd this (by decide)
      rw [hij]; rfl
theorem near_par {ps : List Pf} (pw : ps.Pairwise (fun p q => p.cmp q < 0)) (hR : ∀ p ∈ ps, p.R) {m : Nat} (hm : m < ps.length) {r : Int} (h : IsNear ps ps[m] m r) : r = nrM (par ps m) := by
  have hp : par ps m = lastI (fun q => q.has ps[m]) (ps.take m) := by rw [par, List.getElem?_eq_getElem hm]
  have hRm := hR _ (List.getElem_mem hm)
  have hlen : (ps.take m).length = m := List.length_take_of_le (by omega)
  have hbefore : ∀ i (hi : i < ps.length), (i : Int) ≠ (m : Int) → (ps[i]).has ps[m] = true → i < m := fun i hi hne hh => by
    rcases Nat.lt_or_ge i m with h | h
    · exact h
    · have := has_back hRm (hR _ (List.getElem_mem hi)) (rise_lt pw hi (by omega : m < i))
      rw [hh] at this; exact absurd this (by decide)
  rw [hp]
  cases hl : lastI (fun q => q.has ps[m]) (ps.take m) with
  | none =>
    have h0 := lastI_none.1 hl
    rcases h with ⟨rfl, _⟩ | ⟨i, hi, _, hne, hh, _⟩
    · rfl
    · have hlt := hbefore i hi hne hh
      have := h0 ps[i] (List.mem_take_iff_getElem.2 ⟨i, by omega, rfl⟩)
      rw [hh] at this; exact absurd this (by decide)
  | some j =>
    obtain ⟨hj, h1, h2⟩ := lastI_some hl
    have hjm : j < m := by omega
    rw [List.getElem_take] at h1
    rcases h with ⟨_, h⟩ | ⟨i, hi, rfl, hne, hh, hmx⟩
    · have := h j (by omega) (by omega)
      rw [h1] at this; exact absurd this (by decide)
    · have hlt := hbefore i hi hne hh
      have hij : i = j := by
        rcases Nat.lt_trichotomy i j with h | h | h
        · have h3 := has_order (hR _ (List.getElem_mem hi)) (hR _ (List.getElem_mem (by omega))) hRm hh h1 (rise_lt pw (by omega) h)
          have h4 := hmx j (by omega) (by omega) h1
          omega
        · exact h
        · have := h2 i (by omega) h
          rw [List.getElem_take, hh] at this; exact absurd this (by decide)
      rw [hij]; rfl

theorem wid_pos (v : Bool) : 0 ≤ wid v := by unfold wid; split <;> omega
theorem amt_wid (v : Bool) : amt v (wid v) = 1 := by unfold amt; simp
/-- An address as a prefix. -/
theorem host_right {v : Bool} {xh xl : Int} (c : chk v xh xl = 0) (h0 : 0 ≤ xh) (h1 : xh < 18446744073709551616) (l0 : 0 ≤ xl) (l1 : xl < 18446744073709551616) : Right v xh xl (wid v) :=
  ⟨c, wid_pos v, Int.le_refl _, h0, h1, l0, l1, by rw [amt_wid]; exact Int.emod_one _⟩
theorem in_has {p : Pf} (r : p.R) {v : Bool} {xh xl : Int} (q : Right v xh xl (wid v)) : p.inA v xh xl = p.has ⟨v, xh, xl, wid v⟩ := by
  have hb1 := r.b1
  obtain ⟨n1, c1, _, l1⟩ := la_num r
  have e1 := (less_num ⟨q.l0, q.l1⟩ ⟨r.l0, r.l1⟩ q.c r.c).2
  have e2 := (less_num l1 ⟨q.l0, q.l1⟩ c1 q.c).2
  rw [Bool.eq_iff_iff, has_iff r (show Pf.R ⟨v, xh, xl, wid v⟩ from q)]
  unfold Pf.inA inB Pf.n
  simp only [Bool.and_eq_true, Bool.not_eq_true', Bool.eq_false_iff, ne_eq, e1, e2, n1]
  constructor
  · rintro ⟨g1, g2⟩
    have hv : v = p.v := by
      revert g1 g2
      cases v <;> cases p.v <;> simp
    refine ⟨by rw [hv]; exact hb1, hv, ?_, ?_⟩
    · rcases Int.lt_or_le (num xh xl) (num p.hi p.lo) with h | h
      · exact absurd (.inl ⟨hv, h⟩) g1
      · exact h
    · rcases Int.lt_or_le (num p.hi p.lo + amt p.v p.b - 1) (num xh xl) with h | h
      · exact absurd (.inl ⟨hv.symm, h⟩) g2
      · omega
  · rintro ⟨_, rfl, g3, g4⟩
    refine ⟨?_, ?_⟩
    · rintro (⟨_, h⟩ | ⟨h, h'⟩)
      · omega
      · exact h h'
    · rintro (⟨_, h⟩ | ⟨h, h'⟩)
      · omega
      · exact h h'

theorem rhost_any (v : Bool) (xh xl : Int) (w : World) :
    Calls Try.prog 20 #[.agg #[.bool v, .int .u64 xh, .int .u64 xl]] w fun e w' => e = .returned (.agg #[.bool v, .int .u64 xh, .int .u64 xl, .int .i64 (wid v)]) ∧ Below w.heap.size w w' := by
  have hW : Hid (∀ w : World, Calls Try.prog 32 #[.agg #[.bool v, .int .u64 xh, .int .u64 xl]] w fun e w' => e = .returned (.int .i64 (wid v)) ∧ Below w.heap.size w w') := fun w => rwide_any v xh xl w
  have P0 := (Has3.new w (.bool v) (.int .u64 xh) (.int .u64 xl) 25).alloc (.cells #[.bool false, .int .u64 0, .int .u64 0, .int .i64 0] 27)
  have B0 := bal (bal (Below.refl w.heap.size w) (.cells #[.bool v, .int .u64 xh, .int .u64 xl] 25)) (.cells #[.bool false, .int .u64 0, .int .u64 0, .int .i64 0] 27)
  have Q0 := Own4.new (w.alloc (.cells #[.bool v, .int .u64 xh, .int .u64 xl] 25)) (.bool false) (.int .u64 0) (.int .u64 0) (.int .i64 0) 27
  rw [show (w.alloc (.cells #[.bool v, .int .u64 xh, .int .u64 xl] 25)).heap.size = w.heap.size + 1 by simp] at Q0
  generalize wid v = d at *
  go_enter Try.func20, Try.ntmps20
  go_wp2_with fail
  generalize (w.alloc (.cells #[.bool v, .int .u64 xh, .int .u64 xl] 25)).alloc (.cells #[.bool false, .int .u64 0, .int .u64 0, .int .i64 0] 27) = W at *
  have HP : Hid (Has3 W.drew w.heap.size (.bool v) (.int .u64 xh) (.int .u64 xl)) := P0
  have HQ : Hid (Own4 W.drew (w.heap.size + 1) (.bool false) (.int .u64 0) (.int .u64 0) (.int .i64 0)) := Q0
  have HB : Hid (Below w.heap.size w W.drew) := B0.drew
  obtain ⟨a0, a1, a2, a3⟩ := P0
  clear B0 Q0
  go_region_with (go_at_call 32; refine (hW.out _).mono ?_; rintro e w3 ⟨rfl, hb3⟩; obtain ⟨p0, p1, p2, p3⟩ := HP.out.below hb3; obtain ⟨⟨q0, q1, q2, q3⟩, ⟨q4, q5, q6, q7⟩, q8⟩ := HQ.out.below hb3; have HB3 : Hid (Below w.heap.size w w3) := btr HB.out hb3; clear hb3)
  all_goals
    go_wp2
    refine bodyPost_ret (v := .agg #[.bool v, .int .u64 xh, .int .u64 xl, .int .i64 d]) ?_ rfl ⟨rfl, ?_⟩
    · simp [results, Try.results20, go_sem, q0, q1, q2, q3]
    · exact bse (bse (bse (bse HB3.out (by first | (simp; done) | (simp; omega)) _) (by first | (simp; done) | (simp; omega)) _) (by first | (simp; done) | (simp; omega)) _) (by first | (simp; done) | (simp; omega)) _
end Go.Proofs.Ytcfhciplbefgjab
