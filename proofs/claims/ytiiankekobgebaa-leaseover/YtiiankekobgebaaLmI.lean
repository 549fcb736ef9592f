/- Leases that stay. -/
import Derived.Test.YtiiankekobgebaaLmE
set_option linter.unusedVariables false
set_option linter.unusedSimpArgs false
namespace Go.Proofs.Ytiiankekobgebaa
open Go.RowKit Go.Shelf

/-- Where an address stands among all. -/
def Ad.key (x : Ad) : Int := if x.v = true then 4294967296 + x.n else x.n
theorem less_key {x y : Ad} (cx : chk x.v x.hi x.lo = 0) (cy : chk y.v y.hi y.lo = 0) : x.less y = true ↔ x.key < y.key := by
  unfold Ad.less
  rw [(less_num x.ok.2 y.ok.2 cx cy).2]
  have hx := Ad.n_top cx
  have hy := Ad.n_top cy
  have ht : top false = 4294967296 := by decide
  unfold Ad.key
  unfold Ad.n at *
  cases hv : x.v <;> cases hu : y.v <;> simp [hv, hu] at * <;> omega
/-- All right, and they rise. -/
def Rise (l : List Ls) : Prop := (∀ x ∈ l, x.rgt = 0) ∧ l.Pairwise (fun x y => x.a.key < y.a.key)
theorem rgtAll_iff (l : List Ls) : rgtAll l = 0 ↔ ∀ x ∈ l, x.rgt = 0 := by
  induction l with
  | nil => simp [rgtAll]
  | cons x r ih =>
    rw [rgtAll]
    by_cases h : x.rgt = 0
    · rw [if_pos h, ih]; simp [h]
    · rw [if_neg h]; simp [h]
theorem rises_iff : ∀ (l : List Ls), (∀ x ∈ l, x.rgt = 0) → (rises l = true ↔ l.Pairwise (fun x y => x.a.key < y.a.key))
  | [], _ => by simp [rises]
  | [x], _ => by simp [rises]
  | x :: y :: r, h => by
    have ih := rises_iff (y :: r) (fun z hz => h z (by simp [hz]))
    rw [rises, Bool.and_eq_true, ih, less_key (rgt_chk (h x (by simp))) (rgt_chk (h y (by simp))), List.pairwise_cons (a := x)]
    constructor
    · rintro ⟨h1, h2⟩
      refine ⟨fun z hz => ?_, h2⟩
      rcases List.mem_cons.1 hz with rfl | hz
      · exact h1
      · have := (List.pairwise_cons.1 h2).1 z hz
        omega
    · rintro ⟨h1, h2⟩
      exact ⟨h1 y (by simp), h2⟩
theorem look_iff (l : List Ls) (now : Int) : lookL l now = 0 ↔ l.length ≤ 20 ∧ Rise l ∧ 0 ≤ now ∧ now ≤ 9999 := by
  unfold lookL
  by_cases h1 : 20 < l.length
  · rw [if_pos h1]
    constructor
    · intro h; simp at h
    · rintro ⟨h, _⟩; omega
  · rw [if_neg h1]
    by_cases h2 : rgtAll l = 0
    · rw [if_pos h2]
      have hr := (rgtAll_iff l).1 h2
      by_cases h3 : rises l = true
      · rw [if_pos h3]
        have hp := (rises_iff l hr).1 h3
        by_cases h4 : now < 0 ∨ 9999 < now
        · rw [if_pos h4]
          constructor
          · intro h; simp at h
          · rintro ⟨_, _, h, h'⟩; omega
        · rw [if_neg h4]
          exact ⟨fun _ => ⟨by omega, ⟨hr, hp⟩, by omega, by omega⟩, fun _ => rfl⟩
      · rw [if_neg h3]
        constructor
        · intro h; simp at h
        · rintro ⟨_, ⟨_, hp⟩, _⟩
          exact absurd ((rises_iff l hr).2 hp) h3
    · rw [if_neg h2]
      constructor
      · intro h; exact absurd h h2
      · rintro ⟨_, ⟨hr, _⟩, _⟩
        exact absurd ((rgtAll_iff l).2 hr) h2
theorem Rise.live {l : List Ls} (h : Rise l) (now : Int) : Rise (live l now) :=
  ⟨fun x hx => h.1 x (live_sub hx), h.2.sublist List.filter_sublist⟩
theorem look_live {l : List Ls} {now m m' : Int} (h : lookL l now = 0) (h0 : 0 ≤ m') (h1 : m' ≤ 9999) : lookL (live l m) m' = 0 := by
  rw [look_iff] at h ⊢
  exact ⟨Nat.le_trans (List.length_filter_le _ _) h.1, h.2.1.live m, h0, h1⟩
theorem look_at {l : List Ls} {now m : Int} (h : lookL l now = 0) (h0 : 0 ≤ m) (h1 : m ≤ 9999) : lookL l m = 0 := by
  rw [look_iff] at h ⊢
  exact ⟨h.1, h.2.1, h0, h1⟩
theorem live_live (l : List Ls) {now later : Int} (h : now ≤ later) : live (live l now) later = live l later := by
  unfold live
  rw [List.filter_filter]
  congr 1
  funext x
  rw [Bool.eq_iff_iff]
  simp
  omega
theorem live_un {l : List Ls} {now : Int} {x : Ls} (h : x ∈ live l now) : now ≤ x.un := by
  have := (List.mem_filter.1 h).2
  simp at this
  omega
end Go.Proofs.Ytiiankekobgebaa
