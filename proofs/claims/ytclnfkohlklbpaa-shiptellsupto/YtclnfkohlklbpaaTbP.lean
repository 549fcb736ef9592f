/- Prefixes and lists of them: the plain words, and what holds of them. -/
import Derived.Test.YtclnfkohlklbpaaTbA
set_option linter.unusedVariables false
set_option linter.unusedSimpArgs false
namespace Go.Proofs.Ytclnfkohlklbpaa
open Go.RowKit

/-- Prefixes that lie in a row behind a slice. -/
def Sl (w : World) (a : Option Addr) (ps : List Pf) : Prop :=
  ∀ j (h : j < ps.length), ∃ g o : Nat, a = some ⟨g, o, none⟩ ∧ g < w.heap.size ∧ w.cell? ⟨g, o + j * 4, none⟩ = some (.bool ps[j].v) ∧ w.cell? ⟨g, o + j * 4 + 1, none⟩ = some (.int .u64 ps[j].hi) ∧ w.cell? ⟨g, o + j * 4 + 2, none⟩ = some (.int .u64 ps[j].lo) ∧ w.cell? ⟨g, o + j * 4 + 3, none⟩ = some (.int .i64 ps[j].b)

theorem Sl.below {w w' : World} {a : Option Addr} {ps : List Pf} (h : Sl w a ps) (hb : Below w.heap.size w w') : Sl w' a ps := by
  intro j hj
  obtain ⟨g, o, e, hg, c0, c1, c2, c3⟩ := h j hj
  refine ⟨g, o, e, Nat.lt_of_lt_of_le hg hb.size, ?_, ?_, ?_, ?_⟩ <;> rw [(bcell hb).1 _ _ hg] <;> assumption

def Pf.cmp (p q : Pf) : Int := cmpP p.v p.hi p.lo p.b q.v q.hi q.lo q.b

theorem keepR {w W W' : World} {g o p : Nat} {v : Bool} {hi lo b : Int} {u : Bool} {yi yo c : Int}
    (h : (W.cell? ⟨p, 0, none⟩ = some (.bool v) ∧ W.cell? ⟨p, 1, none⟩ = some (.int .u64 hi) ∧ W.cell? ⟨p, 2, none⟩ = some (.int .u64 lo) ∧ W.cell? ⟨p, 3, none⟩ = some (.int .i64 b) ∧ p < W.heap.size) ∧ (W.cell? ⟨g, o, none⟩ = some (.bool u) ∧ W.cell? ⟨g, o + 1, none⟩ = some (.int .u64 yi) ∧ W.cell? ⟨g, o + 2, none⟩ = some (.int .u64 yo) ∧ W.cell? ⟨g, o + 3, none⟩ = some (.int .i64 c) ∧ g < W.heap.size) ∧ Below w.heap.size w W)
    (hb : Below W.heap.size W W') :
    (W'.cell? ⟨p, 0, none⟩ = some (.bool v) ∧ W'.cell? ⟨p, 1, none⟩ = some (.int .u64 hi) ∧ W'.cell? ⟨p, 2, none⟩ = some (.int .u64 lo) ∧ W'.cell? ⟨p, 3, none⟩ = some (.int .i64 b) ∧ p < W'.heap.size) ∧ (W'.cell? ⟨g, o, none⟩ = some (.bool u) ∧ W'.cell? ⟨g, o + 1, none⟩ = some (.int .u64 yi) ∧ W'.cell? ⟨g, o + 2, none⟩ = some (.int .u64 yo) ∧ W'.cell? ⟨g, o + 3, none⟩ = some (.int .i64 c) ∧ g < W'.heap.size) ∧ Below w.heap.size w W' := by
  obtain ⟨h1, ⟨a, b', c', d, f⟩, h3⟩ := h
  obtain ⟨k1, _⟩ := bcell hb
  exact ⟨Has4.below h1 hb, ⟨by rw [k1 _ _ f]; exact a, by rw [k1 _ _ f]; exact b', by rw [k1 _ _ f]; exact c', by rw [k1 _ _ f]; exact d, Nat.lt_of_lt_of_le f hb.size⟩, btr h3 hb⟩

def Pf.has (p q : Pf) : Bool := hasB p.v p.hi p.lo p.b q.v q.hi q.lo q.b

def Pf.R (p : Pf) : Prop := Right p.v p.hi p.lo p.b

theorem Sl.take {w : World} {a : Option Addr} {ps : List Pf} (h : Sl w a ps) (k : Nat) : Sl w a (ps.take k) := by
  intro j hj
  have hj' : j < ps.length := by rw [List.length_take] at hj; omega
  obtain ⟨g, o, e, hg, c⟩ := h j hj'
  refine ⟨g, o, e, hg, ?_⟩
  rw [List.getElem_take]
  exact c

def Pf.inA (p : Pf) (v : Bool) (xh xl : Int) : Bool := inB v xh xl p.v p.hi p.lo p.b

theorem row_base {w : World} {B B' e s n : Nat} {v : Value} {xs : List Value} (h : w.ownsRow B e s v n xs) (hB : B' ≤ B) : w.ownsRow B' e s v n xs := by
  obtain ⟨h1, h2⟩ := h
  refine ⟨h1, ?_⟩
  rcases h2 with h2 | ⟨g, c, cur, e1, e2, r⟩
  · exact .inl h2
  · exact .inr ⟨g, c, cur, e1, Nat.le_trans hB e2, r⟩

theorem row_nil (w : World) (B e s : Nat) : w.ownsRow B e s (.slice none 0 0) 0 [] := ⟨by simp, .inl ⟨rfl, rfl⟩⟩

theorem cmp_zero {v : Bool} {hi lo b : Int} {u : Bool} {yi yo c : Int} (r : Right v hi lo b) (q : Right u yi yo c) : cmpP v hi lo b u yi yo c = 0 ↔ v = u ∧ hi = yi ∧ lo = yo ∧ b = c := by
  have e1 := (less_num ⟨r.l0, r.l1⟩ ⟨q.l0, q.l1⟩ r.c q.c).2
  have e2 := (less_num ⟨q.l0, q.l1⟩ ⟨r.l0, r.l1⟩ q.c r.c).2
  unfold cmpP
  constructor
  · intro h
    split at h
    · exact absurd h (by decide)
    · rename_i h1
      split at h
      · exact absurd h (by decide)
      · rename_i h2
        rw [e1] at h1
        rw [e2] at h2
        have hbc : b = c := by unfold cmpN at h; split at h <;> (try split at h) <;> omega
        have huv : v = u := by
          cases v <;> cases u <;> simp at h1 h2 ⊢
        subst huv
        have hn : num hi lo = num yi yo := by simp at h1 h2; omega
        obtain ⟨x, y⟩ := num_inj r.l0 r.l1 q.l0 q.l1 hn
        exact ⟨rfl, x, y, hbc⟩
  · rintro ⟨rfl, rfl, rfl, rfl⟩
    have h1 : ¬ (lessB v hi lo v hi lo = true) := by rw [e1]; cases v <;> simp
    rw [if_neg h1, if_neg h1]
    simp [cmpN]

/-- What stands ahead, and which way around. -/
theorem cmp_turn {v : Bool} {hi lo b : Int} {u : Bool} {yi yo c : Int} (r : Right v hi lo b) (q : Right u yi yo c) : 0 < cmpP v hi lo b u yi yo c ↔ cmpP u yi yo c v hi lo b < 0 := by
  have e1 := (less_num ⟨r.l0, r.l1⟩ ⟨q.l0, q.l1⟩ r.c q.c).2
  have e2 := (less_num ⟨q.l0, q.l1⟩ ⟨r.l0, r.l1⟩ q.c r.c).2
  unfold cmpP
  cases h1 : lessB v hi lo u yi yo <;> cases h2 : lessB u yi yo v hi lo
  · simp only [Bool.false_eq_true, if_false]
    unfold cmpN
    split <;> split <;> (try split) <;> omega
  · simp
  · simp
  · rw [e1] at h1; rw [e2] at h2
    rcases h1 with ⟨rfl, h1⟩ | ⟨rfl, rfl⟩
    · rcases h2 with ⟨_, h2⟩ | ⟨h2, h3⟩
      · omega
      · rw [h2] at h3; exact absurd h3 (by decide)
    · rcases h2 with ⟨h2, _⟩ | ⟨h2, _⟩ <;> exact absurd h2 (by decide)

def Pf.n (p : Pf) : Int := num p.hi p.lo

theorem cmp_neg {p q : Pf} (r : p.R) (s : q.R) : p.cmp q < 0 ↔ (p.v = false ∧ q.v = true) ∨ (p.v = q.v ∧ (p.n < q.n ∨ (p.n = q.n ∧ p.b < q.b))) := by
  have e1 := (less_num ⟨r.l0, r.l1⟩ ⟨s.l0, s.l1⟩ r.c s.c).2
  have e2 := (less_num ⟨s.l0, s.l1⟩ ⟨r.l0, r.l1⟩ s.c r.c).2
  unfold Pf.cmp cmpP Pf.n
  by_cases h1 : lessB p.v p.hi p.lo q.v q.hi q.lo = true
  · rw [if_pos h1]
    rw [e1] at h1
    constructor
    · intro _
      rcases h1 with ⟨a, b⟩ | h1
      · exact .inr ⟨a, .inl b⟩
      · exact .inl h1
    · intro _; decide
  · rw [if_neg h1]
    by_cases h2 : lessB q.v q.hi q.lo p.v p.hi p.lo = true
    · rw [if_pos h2]
      rw [e2] at h2
      constructor
      · intro h; exact absurd h (by decide)
      · rintro (⟨a, b⟩ | ⟨a, b⟩)
        · rw [a, b] at h2; simp at h2
        · rcases h2 with ⟨_, h2⟩ | ⟨h2, h3⟩
          · omega
          · rw [h2, h3] at a; exact absurd a (by decide)
    · rw [if_neg h2]
      rw [e1] at h1
      rw [e2] at h2
      have hv : p.v = q.v := by
        revert h1 h2
        cases p.v <;> cases q.v <;> simp
      have hn : num p.hi p.lo = num q.hi q.lo := by
        have g1 : ¬ (num p.hi p.lo < num q.hi q.lo) := fun h => h1 (.inl ⟨hv, h⟩)
        have g2 : ¬ (num q.hi q.lo < num p.hi p.lo) := fun h => h2 (.inl ⟨hv.symm, h⟩)
        omega
      unfold cmpN
      constructor
      · intro h
        refine .inr ⟨hv, .inr ⟨hn, ?_⟩⟩
        split at h
        · assumption
        · split at h <;> exact absurd h (by decide)
      · rintro (⟨a, b⟩ | ⟨_, b | ⟨_, b⟩⟩)
        · rw [a, b] at hv; exact absurd hv (by decide)
        · omega
        · rw [if_pos b]; decide

theorem cmp_trans {p q s : Pf} (r1 : p.R) (r2 : q.R) (r3 : s.R) (h1 : p.cmp q < 0) (h2 : q.cmp s < 0) : p.cmp s < 0 := by
  rw [cmp_neg r1 r2] at h1
  rw [cmp_neg r2 r3] at h2
  rw [cmp_neg r1 r3]
  rcases h1 with ⟨a, b⟩ | ⟨a, b⟩
  · rcases h2 with ⟨c, d⟩ | ⟨c, d⟩
    · rw [b] at c; exact absurd c (by decide)
    · exact .inl ⟨a, by rw [← c]; exact b⟩
  · rcases h2 with ⟨c, d⟩ | ⟨c, d⟩
    · exact .inl ⟨by rw [a]; exact c, d⟩
    · refine .inr ⟨a.trans c, ?_⟩
      omega

theorem has_iff {p q : Pf} (r : p.R) (s : q.R) : p.has q = true ↔ p.b ≤ q.b ∧ q.v = p.v ∧ p.n ≤ q.n ∧ q.n < p.n + amt p.v p.b := has_num r s

theorem wid_pos (v : Bool) : 0 ≤ wid v := by unfold wid; split <;> omega

theorem amt_wid (v : Bool) : amt v (wid v) = 1 := by unfold amt; simp

/-- An address as a prefix. -/
theorem host_right {v : Bool} {xh xl : Int} (c : chk v xh xl = 0) (h0 : 0 ≤ xh) (h1 : xh < 18446744073709551616) (l0 : 0 ≤ xl) (l1 : xl < 18446744073709551616) : Right v xh xl (wid v) :=
  ⟨c, wid_pos v, Int.le_refl _, h0, h1, l0, l1, by rw [amt_wid]; exact Int.emod_one _⟩

theorem in_has {p : Pf} (r : p.R) {v : Bool} {xh xl : Int} (q : Right v xh xl (wid v)) : p.inA v xh xl = p.has ⟨v, xh, xl, wid v⟩ := by
  have hb1 := r.b1
  obtain ⟨n1, c1, _, l1⟩ := la_num r
  have e1 := (less_num ⟨q.l0, q.l1⟩ ⟨r.l0, r.l1⟩ q.c r.c).2
  have e2 := (less_num l1 ⟨q.l0, q.l1⟩ c1 q.c).2
  rw [Bool.eq_iff_iff, has_iff r (show Pf.R ⟨v, xh, xl, wid v⟩ from q)]
  unfold Pf.inA inB Pf.n
  simp only [Bool.and_eq_true, Bool.not_eq_true', Bool.eq_false_iff, ne_eq, e1, e2, n1]
  constructor
  · rintro ⟨g1, g2⟩
    have hv : v = p.v := by
      revert g1 g2
      cases v <;> cases p.v <;> simp
    refine ⟨by rw [hv]; exact hb1, hv, ?_, ?_⟩
    · rcases Int.lt_or_le (num xh xl) (num p.hi p.lo) with h | h
      · exact absurd (.inl ⟨hv, h⟩) g1
      · exact h
    · rcases Int.lt_or_le (num p.hi p.lo + amt p.v p.b - 1) (num xh xl) with h | h
      · exact absurd (.inl ⟨hv.symm, h⟩) g2
      · omega
  · rintro ⟨_, rfl, g3, g4⟩
    refine ⟨?_, ?_⟩
    · rintro (⟨_, h⟩ | ⟨h, h'⟩)
      · omega
      · exact h h'
    · rintro (⟨_, h⟩ | ⟨h, h'⟩)
      · omega
      · exact h h'

end Go.Proofs.Ytclnfkohlklbpaa
