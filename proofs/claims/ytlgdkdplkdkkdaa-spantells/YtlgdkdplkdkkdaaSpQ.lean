/- Lists of prefixes without Go: who has an address, what is left without a prefix, how long a norm is. -/
import Derived.Test.YtlgdkdplkdkkdaaSpP
import Derived.Test.YtlgdkdplkdkkdaaTbP
set_option linter.unusedVariables false
set_option linter.unusedSimpArgs false
namespace Go.Proofs.Ytlgdkdplkdkkdaa
open Go.RowKit

theorem in_nd {p : Pf} (r : p.R) {v : Bool} {xh xl : Int} (q : Right v xh xl (wid v)) : p.inA v xh xl = true ↔ p.nd.In v (num xh xl) := by
  have e := has_nd r (show Pf.R ⟨v, xh, xl, wid v⟩ from q)
  rw [in_has r q, e]
  unfold Nd.Has Nd.In Pf.nd Pf.n
  simp only
  rw [show (wid v - wid v).toNat = 0 by omega]
  constructor
  · rintro ⟨a, _, b, c⟩; exact ⟨a.symm, b, c⟩
  · rintro ⟨a, b, c⟩; exact ⟨a.symm, Nat.zero_le _, b, c⟩
/-- Has a list an address? -/
def hasL (ps : List Pf) (v : Bool) (xh xl : Int) : Bool := ps.any fun p => p.inA v xh xl
theorem hasL_adr {ps : List Pf} (hR : ∀ p ∈ ps, p.R) {v : Bool} {xh xl : Int} (q : Right v xh xl (wid v)) : hasL ps v xh xl = true ↔ Adr (ps.map Pf.nd) v (num xh xl) := by
  unfold hasL Adr
  rw [List.any_eq_true]
  constructor
  · rintro ⟨p, hp, h⟩; exact ⟨_, List.mem_map_of_mem hp, (in_nd (hR p hp) q).1 h⟩
  · rintro ⟨x, hx, h⟩
    obtain ⟨p, hp, rfl⟩ := List.mem_map.1 hx
    exact ⟨p, hp, (in_nd (hR p hp) q).2 h⟩

/-- All that is left of a list without p. -/
def cutAll (p : Pf) : List Pf → List Pf
  | [] => []
  | q :: l => cutP p q.nd.h q ++ cutAll p l
theorem nd_h_le {p : Pf} (r : p.R) : p.nd.h ≤ 128 := by
  have b0 := r.b0
  have : wid p.v ≤ 128 := by unfold wid; split <;> omega
  unfold Pf.nd
  simp only
  omega
theorem cutAll_ok {p : Pf} (rp : p.R) : ∀ {l : List Pf}, (∀ q ∈ l, q.R) → (∀ e ∈ cutAll p l, e.R) ∧ (∀ v x, Adr ((cutAll p l).map Pf.nd) v x ↔ Adr (l.map Pf.nd) v x ∧ ¬ p.nd.In v x) ∧ (cutAll p l).length ≤ 129 * l.length
  | [], _ => ⟨by simp [cutAll], fun v x => by simp [cutAll, Adr], by simp [cutAll]⟩
  | q :: l, h => by
    obtain ⟨a1, a2, a3⟩ := cutAll_ok rp (l := l) (fun e he => h e (by simp [he]))
    have rq := h q (by simp)
    obtain ⟨c1, c2, c3⟩ := cutP_nd p rp q.nd.h q rq rfl
    obtain ⟨_, d2⟩ := cutN_adr p.nd (nd_ok rp) q.nd.h q.nd (nd_ok rq) rfl
    have hh := nd_h_le rq
    refine ⟨fun e he => (List.mem_append.1 he).elim (c1 e) (a1 e), fun v x => ?_, ?_⟩
    · rw [cutAll, List.map_append, adr_append, a2, c2, d2, List.map_cons]
      have : ∀ {L : List Nd}, Adr (q.nd :: L) v x ↔ q.nd.In v x ∨ Adr L v x := by intro L; simp [Adr]
      rw [this]
      constructor
      · rintro (⟨h1, h2⟩ | ⟨h1, h2⟩)
        · exact ⟨.inl h1, h2⟩
        · exact ⟨.inr h1, h2⟩
      · rintro ⟨h1 | h1, h2⟩
        · exact .inl ⟨h1, h2⟩
        · exact .inr ⟨h1, h2⟩
    · rw [cutAll, List.length_append, List.length_cons]; omega

theorem putP_len : ∀ (r : List Pf) (p : Pf), (putP r p).length ≤ r.length + 1
  | [], p => by simp [putP]
  | e :: r, p => by
    rw [putP]
    split
    · simp
    · split
      · have := putP_len r e.up'; simp; omega
      · simp
theorem foldP_len : ∀ (S r : List Pf), (S.foldl putP r).length ≤ r.length + S.length
  | [], r => by simp
  | p :: S, r => by
    have h1 := foldP_len S (putP r p)
    have h2 := putP_len r p
    simp only [List.foldl_cons, List.length_cons]; omega
theorem adr_perm {L M : List Nd} (h : ∀ p, p ∈ L ↔ p ∈ M) (v : Bool) (x : Int) : Adr L v x ↔ Adr M v x :=
  ⟨fun ⟨p, hp, hx⟩ => ⟨p, (h p).1 hp, hx⟩, fun ⟨p, hp, hx⟩ => ⟨p, (h p).2 hp, hx⟩⟩
theorem IsNorm.of {L : List Pf} {A B : Bool → Int → Prop} (h : IsNorm L A) (e : ∀ v x, A v x ↔ B v x) : IsNorm L B := ⟨h.right, h.nrm, fun v x => (h.adr v x).trans (e v x)⟩

/-- How many of a list lie within p. -/
def cnt (p : Nd) (L : List Nd) : Nat := (L.filter fun s => decide (p.Has s)).length
theorem cnt_le (p : Nd) (L : List Nd) : cnt p L ≤ L.length := List.length_filter_le _ _
theorem cnt_pos {p s : Nd} {L : List Nd} (h : s ∈ L) (hs : p.Has s) : 1 ≤ cnt p L :=
  List.length_pos_iff.2 (List.ne_nil_of_mem (List.mem_filter.2 ⟨h, by simpa using hs⟩))
theorem cnt_halves {p : Nd} (op : p.Ok) (h0 : 0 < p.h) : ∀ {L : List Nd}, (∀ s ∈ L, s.Ok) → cnt p.lo L + cnt p.hi L ≤ cnt p L
  | [], _ => by simp [cnt]
  | s :: L, h => by
    have ih := cnt_halves op h0 (L := L) (fun e he => h e (by simp [he]))
    have os := h s (by simp)
    unfold cnt at *
    simp only [List.filter_cons]
    by_cases h1 : p.lo.Has s
    · have h2 : ¬ p.hi.Has s := fun h2 => ahead_apart (p := p.lo) (q := p.hi) (.inr ⟨rfl, by rw [Nd.n_hi]; exact Int.le_refl _⟩) (Nd.has_in (Nd.lo_ok op) os h1 s.in_self) (Nd.has_in (Nd.hi_ok op) os h2 s.in_self)
      have h3 : p.Has s := Nd.has_trans op (Nd.lo_ok op) (Nd.has_lo h0) h1
      rw [decide_eq_true h1, decide_eq_false h2, decide_eq_true h3]
      simp only [if_true, Bool.false_eq_true, if_false, List.length_cons]
      omega
    · by_cases h2 : p.hi.Has s
      · have h3 : p.Has s := Nd.has_trans op (Nd.hi_ok op) (Nd.has_hi h0) h2
        rw [decide_eq_false h1, decide_eq_true h2, decide_eq_true h3]
        simp only [if_true, Bool.false_eq_true, if_false, List.length_cons]
        omega
      · by_cases h3 : p.Has s
        · rw [decide_eq_false h1, decide_eq_false h2, decide_eq_true h3]
          simp only [if_true, Bool.false_eq_true, if_false, List.length_cons]
          omega
        · rw [decide_eq_false h1, decide_eq_false h2, decide_eq_false h3]
          simp only [Bool.false_eq_true, if_false]
          exact ih
theorem withinN_len (so ot : List Nd) (os : ∀ s ∈ so, s.Ok) (oo : ∀ o ∈ ot, o.Ok) : ∀ (k : Nat) (p : Nd), p.Ok → p.h = k → (withinN so ot k p).length ≤ 1 + k * (cnt p so + cnt p ot)
  | 0, p, op, hk => by
    rw [withinN]
    split
    · simp
    · split
      · simp
      · split <;> simp
  | k + 1, p, op, hk => by
    have h0 : 0 < p.h := by omega
    have a := withinN_len so ot os oo k p.lo (Nd.lo_ok op) (by simp [Nd.lo]; omega)
    have b := withinN_len so ot os oo k p.hi (Nd.hi_ok op) (by simp [Nd.hi]; omega)
    have c1 := cnt_halves op h0 os
    have c2 := cnt_halves op h0 oo
    rw [withinN]
    by_cases h1 : ∃ o ∈ ot, o.Has p
    · rw [if_pos h1]; simp
    rw [if_neg h1]
    by_cases h2 : ∀ s ∈ so, ¬ s.Meet p
    · rw [if_pos h2]; simp
    rw [if_neg h2]
    by_cases h3 : (∃ s ∈ so, s.Has p) ∧ ¬ ∃ o ∈ ot, o.Meet p
    · rw [if_pos h3]; simp
    rw [if_neg h3]
    have hc : 1 ≤ cnt p so + cnt p ot := by
      by_cases h4 : ∃ s ∈ so, s.Has p
      · have h5 : ∃ o ∈ ot, o.Meet p := Classical.byContradiction fun h5 => h3 ⟨h4, h5⟩
        obtain ⟨o, ho, h5 | h5⟩ := h5
        · exact absurd ⟨o, ho, h5⟩ h1
        · have := cnt_pos ho h5; omega
      · have h5 : ∃ s ∈ so, s.Meet p := Classical.byContradiction fun h5 => h2 fun s hs hm => h5 ⟨s, hs, hm⟩
        obtain ⟨s, hs, h5 | h5⟩ := h5
        · exact absurd ⟨s, hs, h5⟩ h4
        · have := cnt_pos hs h5; omega
    split
    · simp
    · rw [List.length_append]
      have e1 : k * (cnt p.lo so + cnt p.lo ot) + k * (cnt p.hi so + cnt p.hi ot) ≤ k * (cnt p so + cnt p ot) := by
        rw [← Nat.mul_add]; exact Nat.mul_le_mul_left k (by omega)
      rw [Nat.succ_mul]
      omega
theorem withinN_few {so ot : List Nd} (os : ∀ s ∈ so, s.Ok) (oo : ∀ o ∈ ot, o.Ok) {k : Nat} {p : Nd} (op : p.Ok) (hk : p.h = k) (h1 : so.length ≤ 12) (h2 : ot.length ≤ 12) (h3 : k ≤ 128) : (withinN so ot k p).length ≤ 3073 := by
  have a := withinN_len so ot os oo k p op hk
  have b := cnt_le p so
  have c := cnt_le p ot
  have d : k * (cnt p so + cnt p ot) ≤ 128 * 24 := Nat.mul_le_mul h3 (by omega)
  omega
/-- What the document's normWithin answers. -/
structure IsWithin (so ot : List Pf) (p : Pf) (M : List Pf) : Prop where
  right : ∀ e ∈ M, e.R
  nd : M.map Pf.nd = withinN (so.map Pf.nd) (ot.map Pf.nd) p.nd.h p.nd
theorem map_ok {L : List Pf} (h : ∀ p ∈ L, p.R) : ∀ s ∈ L.map Pf.nd, s.Ok := fun s hs => by
  obtain ⟨p, hp, rfl⟩ := List.mem_map.1 hs
  exact nd_ok (h p hp)
theorem IsWithin.len {so ot : List Pf} {p : Pf} {M : List Pf} (h : IsWithin so ot p M) (rp : p.R) (os : ∀ s ∈ so, s.R) (oo : ∀ o ∈ ot, o.R) (h1 : so.length ≤ 12) (h2 : ot.length ≤ 12) : M.length ≤ 3073 := by
  have := withinN_few (map_ok os) (map_ok oo) (nd_ok rp) rfl (by simpa using h1) (by simpa using h2) (nd_h_le rp)
  rw [← h.nd, List.length_map] at this
  exact this
theorem within_norm {so ot X Y : List Pf} (os : ∀ s ∈ so, s.R) (oo : ∀ o ∈ ot, o.R) (hX : IsWithin so ot ⟨false, 0, 0, 0⟩ X) (hY : IsWithin so ot ⟨true, 0, 0, 0⟩ Y) :
    IsNorm (X ++ Y) (fun v x => Adr (so.map Pf.nd) v x ∧ ¬ Adr (ot.map Pf.nd) v x) := by
  have h := normOfN_ok (map_ok os) (map_ok oo) (fun s hs => by obtain ⟨p, hp, rfl⟩ := List.mem_map.1 hs; exact nd_fit (os p hp))
  have e : (X ++ Y).map Pf.nd = normOfN (so.map Pf.nd) (ot.map Pf.nd) := by
    rw [List.map_append, hX.nd, hY.nd]; rfl
  exact ⟨fun p hp => (List.mem_append.1 hp).elim (hX.right p) (hY.right p), by rw [e]; exact h.1, by rw [e]; exact h.2⟩
end Go.Proofs.Ytlgdkdplkdkkdaa
