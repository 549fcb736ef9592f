/- Tables without Go: what rises; the last one that has something is the one with the most bits. -/
import Derived.Test.YthbpldmebekgoaaTbF
set_option linter.unusedVariables false
set_option linter.unusedSimpArgs false
namespace Go.Proofs.Ythbpldmebekgoaa
open Go.RowKit


theorem folE_zero {c : Int} (h : folE c = 0) : c < 0 := by
  unfold folE at h
  split at h
  · exact absurd h (by decide)
  · split at h
    · exact absurd h (by decide)
    · omega
theorem rise_from : ∀ (ps : List Pf) (q : Pf), (∀ p ∈ ps, p.R) → q.R → tchk (some q) ps = 0 → ps.Pairwise (fun p q => p.cmp q < 0) ∧ ∀ p ∈ ps, q.cmp p < 0
  | [], q, _, _, _ => ⟨.nil, by simp⟩
  | p :: r, q, hR, hq, h => by
    rw [tchk_some] at h
    by_cases hp : p.chk = 0
    · rw [if_pos hp] at h
      by_cases hf : folE (q.cmp p) = 0
      · rw [if_pos hf] at h
        have hpr := hR p (by simp)
        obtain ⟨h1, h2⟩ := rise_from r p (fun x hx => hR x (by simp [hx])) hpr h
        have hqp := folE_zero hf
        refine ⟨List.pairwise_cons.2 ⟨h2, h1⟩, fun x hx => ?_⟩
        rcases List.mem_cons.1 hx with rfl | hx
        · exact hqp
        · exact cmp_trans hq hpr (hR x (by simp [hx])) hqp (h2 x hx)
      · rw [if_neg hf] at h; exact absurd h hf
    · rw [if_neg hp] at h; exact absurd h hp
theorem rise_all {ps : List Pf} (hR : ∀ p ∈ ps, p.R) (h : tchkL ps = 0) : ps.Pairwise (fun p q => p.cmp q < 0) := by
  unfold tchkL at h
  split at h
  · exact absurd h (by decide)
  · cases ps with
    | nil => exact .nil
    | cons p r =>
      rw [tchk_none] at h
      split at h
      · obtain ⟨h1, h2⟩ := rise_from r p (fun x hx => hR x (by simp [hx])) (hR p (by simp)) h
        exact List.pairwise_cons.2 ⟨h2, h1⟩
      · rename_i hp; exact absurd h hp
theorem rise_lt {ps : List Pf} (h : ps.Pairwise (fun p q => p.cmp q < 0)) {i j : Nat} (hj : j < ps.length) (hij : i < j) : (ps[i]'(by omega)).cmp ps[j] < 0 :=
  List.pairwise_iff_getElem.1 h i j (by omega) hj hij

/-- Of two that have a third one the one ahead has fewer bits. -/
theorem has_order {p q s : Pf} (r1 : p.R) (r2 : q.R) (r3 : s.R) (h1 : p.has s = true) (h2 : q.has s = true) (h : p.cmp q < 0) : p.b < q.b := by
  rw [has_iff r1 r3] at h1
  rw [has_iff r2 r3] at h2
  rw [cmp_neg r1 r2] at h
  obtain ⟨a1, a2, a3, a4⟩ := h1
  obtain ⟨b1, b2, b3, b4⟩ := h2
  have hv : p.v = q.v := a2.symm.trans b2
  rcases h with ⟨c, d⟩ | ⟨_, c⟩
  · rw [c, d] at hv; exact absurd hv (by decide)
  · rcases Int.lt_or_le p.b q.b with h | h
    · exact h
    · exfalso
      have r1' : Right q.v p.hi p.lo p.b := by have := r1; rw [Pf.R, hv] at this; exact this
      obtain ⟨g1, _⟩ := side r2 r1' h
      rw [hv] at a4
      unfold Pf.n at *
      omega
/-- What rises ahead is not had. -/
theorem has_back {p q : Pf} (r1 : p.R) (r2 : q.R) (h : p.cmp q < 0) : q.has p = false := by
  rw [Bool.eq_false_iff]
  intro hh
  rw [has_iff r2 r1] at hh
  rw [cmp_neg r1 r2] at h
  obtain ⟨a1, a2, a3, a4⟩ := hh
  rcases h with ⟨c, d⟩ | ⟨_, c⟩
  · rw [c, d] at a2; exact absurd a2 (by decide)
  · omega

theorem lastI_none {α : Type} {p : α → Bool} : ∀ {l : List α}, lastI p l = none ↔ ∀ x ∈ l, p x = false
  | [] => by simp [lastI]
  | x :: r => by
    have ih := lastI_none (p := p) (l := r)
    rw [lastI]
    cases hr : lastI p r with
    | some i =>
      simp only [reduceCtorEq, false_iff]
      intro h
      have : lastI p r = none := ih.2 fun y hy => h y (by simp [hy])
      rw [hr] at this; simp at this
    | none =>
      have h2 := ih.1 hr
      cases hx : p x
      · simp only [Bool.false_eq_true, if_false, true_iff]
        intro y hy
        rcases List.mem_cons.1 hy with rfl | hy
        · exact hx
        · exact h2 y hy
      · simp only [if_true, reduceCtorEq, false_iff]
        intro h
        have := h x (by simp)
        rw [hx] at this; exact absurd this (by decide)
theorem lastI_some {α : Type} {p : α → Bool} : ∀ {l : List α} {i : Nat}, lastI p l = some i → ∃ h : i < l.length, p l[i] = true ∧ ∀ j (hj : j < l.length), i < j → p l[j] = false
  | [], i, h => by simp [lastI] at h
  | x :: r, i, h => by
    rw [lastI] at h
    cases hr : lastI p r with
    | some k =>
      rw [hr] at h
      obtain ⟨h1, h2, h3⟩ := lastI_some hr
      simp only [Option.some.injEq] at h
      subst h
      refine ⟨by simp; omega, by simpa using h2, fun j hj hij => ?_⟩
      cases j with
      | zero => omega
      | succ j => simpa using h3 j (by simpa using hj) (by omega)
    | none =>
      rw [hr] at h
      have h2 := lastI_none.1 hr
      cases hx : p x
      · rw [hx] at h; simp at h
      · rw [hx] at h
        simp only [if_true, Option.some.injEq] at h
        subst h
        refine ⟨by simp, by simpa using hx, fun j hj hij => ?_⟩
        cases j with
        | zero => omega
        | succ j => simpa using h2 _ (List.getElem_mem (by simpa using hj))
def nrM (o : Option Nat) : Int := match o with | none => -1 | some i => (i : Int)
end Go.Proofs.Ythbpldmebekgoaa
