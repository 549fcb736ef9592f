/- Room without Go: what is left of a norm without one more, part by part, is a norm; the first room, as the document looks for it, begins the first one of the norm that is wide enough. -/
import Derived.Test.YtjhkbjigpiickaaSpM
set_option linter.unusedVariables false
set_option linter.unusedSimpArgs false
namespace Go.Proofs.Ytjhkbjigpiickaa

theorem cover_one {q x : Nd} (oq : q.Ok) (ox : x.Ok) (h : ∀ v y, x.In v y → q.In v y) : q.Has x := by
  obtain ⟨p, hp, h'⟩ := (nrm_one oq).cover x.h x rfl ox (fun v y hy => adr_one.2 (h v y hy))
  rw [List.mem_singleton] at hp
  subst hp; exact h'
theorem up_lo {e f : Nd} (h : e.Sib f) : e.up.Has e := ⟨rfl, by show e.h ≤ e.h + 1; omega, Int.le_refl _, by rw [Nd.w_up]; have := e.w_pos; show e.n < e.n + 2 * e.w; omega⟩
theorem up_hi {e f : Nd} (h : e.Sib f) : e.up.Has f := by
  obtain ⟨h1, h2, h3, _⟩ := h
  have := e.w_pos
  refine ⟨h1, by show f.h ≤ e.h + 1; omega, ?_, ?_⟩
  · show e.n ≤ f.n; omega
  · rw [Nd.w_up]; show f.n < e.n + 2 * e.w; omega
/-- What lies in a norm, and what lies in one more behind it, are a norm together. -/
theorem join_nrm {L X M : List Nd} {q : Nd} (hL : Nrm (L ++ [q])) (hX : Nrm X) (hM : Nrm M) (ix : ∀ v x, Adr X v x → Adr L v x) (im : ∀ v x, Adr M v x → q.In v x) : Nrm (X ++ M) := by
  obtain ⟨hok, hpw⟩ := hL
  obtain ⟨p1, p2, p3⟩ := List.pairwise_append.1 hpw
  have hL' : Nrm L := ⟨fun p hp => hok p (List.mem_append.2 (.inl hp)), p1⟩
  have oq : q.Ok := hok q (by simp)
  refine ⟨fun r hr => (List.mem_append.1 hr).elim (hX.1 r) (hM.1 r), List.pairwise_append.2 ⟨hX.2, hM.2, fun e he f hf => ?_⟩⟩
  have oe := hX.1 e he
  have of := hM.1 f hf
  obtain ⟨p, hp, pe⟩ := hL'.cover e.h e rfl oe (fun v x hx => ix v x ⟨e, he, hx⟩)
  have qf : q.Has f := cover_one oq of (fun v x hx => im v x ⟨f, hf, hx⟩)
  have op := hL'.1 p hp
  obtain ⟨hpq, hns⟩ := p3 p hp q (by simp)
  have e1 := Nd.has_end op oe pe
  refine ⟨?_, fun hs => ?_⟩
  · rcases hpq with ⟨a, b⟩ | ⟨a, b⟩
    · exact .inl ⟨pe.1.trans a, qf.1.trans b⟩
    · exact .inr ⟨pe.1.trans (a.trans qf.1.symm), by have := qf.2.2.1; omega⟩
  · have ou := Nd.sib_ok hs
    have k1 := up_lo hs
    have k2 := up_hi hs
    rcases Nd.over_half ou oe op k1 rfl pe with h1 | h1
    · rcases Nd.over_half ou of oq k2 (by rw [hs.2.1]; rfl) qf with h2 | h2
      · subst h1 h2; exact hns hs
      · exact ahead_apart hpq (Nd.has_in op oe pe e.in_self) (Nd.has_in oq ou h2 (Nd.has_in ou oe k1 e.in_self))
    · exact ahead_apart hpq (Nd.has_in op ou h1 (Nd.has_in ou of k2 f.in_self)) (Nd.has_in oq of qf f.in_self)

/-- The document's way to the first room of a size: by halves. -/
def firstN (ot : List Nd) (hb : Nat) : Nat → Nd → Option Nd
  | 0, p => if ∃ o ∈ ot, o.Has p then none else if ∃ o ∈ ot, o.Meet p then none else some ⟨p.v, p.n, hb⟩
  | k + 1, p => if ∃ o ∈ ot, o.Has p then none else if ∃ o ∈ ot, o.Meet p then (if p.h = hb then none else (firstN ot hb k p.lo).or (firstN ot hb k p.hi)) else some ⟨p.v, p.n, hb⟩
/-- The first one that is wide enough, cut to size. -/
def wideN (hb : Nat) (M : List Nd) : Option Nd := (M.find? fun q => decide (hb ≤ q.h)).map fun q => ⟨q.v, q.n, hb⟩
theorem wideN_nil (hb : Nat) : wideN hb [] = none := rfl
theorem wideN_one {hb : Nat} {p : Nd} (h : hb ≤ p.h) : wideN hb [p] = some ⟨p.v, p.n, hb⟩ := by simp [wideN, h]
theorem wideN_append (hb : Nat) (L M : List Nd) : wideN hb (L ++ M) = (wideN hb L).or (wideN hb M) := by
  unfold wideN
  rw [List.find?_append]
  cases h : L.find? fun q => decide (hb ≤ q.h) <;> simp
theorem firstN_find {p0 : Nd} {ot : List Nd} (o0 : p0.Ok) (oo : ∀ o ∈ ot, o.Ok) (hb : Nat) : ∀ (k : Nat) (p : Nd), p.Ok → p.h = k → p0.Has p → hb ≤ p.h → firstN ot hb k p = wideN hb (withinN [p0] ot k p)
  | 0, p, op, hk, h0, hh => by
    rw [firstN, withinN]
    by_cases h1 : ∃ o ∈ ot, o.Has p
    · rw [if_pos h1, if_pos h1]; rfl
    rw [if_neg h1, if_neg h1]
    have h2 : ¬ ∀ s ∈ [p0], ¬ s.Meet p := fun h => h p0 (by simp) (.inl h0)
    rw [if_neg h2]
    have h3 : ∃ s ∈ [p0], s.Has p := ⟨p0, by simp, h0⟩
    by_cases h4 : ∃ o ∈ ot, o.Meet p
    · rw [if_pos h4, if_neg (fun h => h.2 h4)]; rfl
    · rw [if_neg h4, if_pos ⟨h3, h4⟩, wideN_one hh]
  | k + 1, p, op, hk, h0, hh => by
    have hp0 : 0 < p.h := by omega
    rw [firstN, withinN]
    by_cases h1 : ∃ o ∈ ot, o.Has p
    · rw [if_pos h1, if_pos h1]; rfl
    rw [if_neg h1, if_neg h1]
    have h2 : ¬ ∀ s ∈ [p0], ¬ s.Meet p := fun h => h p0 (by simp) (.inl h0)
    rw [if_neg h2]
    have h3 : ∃ s ∈ [p0], s.Has p := ⟨p0, by simp, h0⟩
    by_cases h4 : ∃ o ∈ ot, o.Meet p
    · rw [if_pos h4, if_neg (c := (∃ s ∈ [p0], s.Has p) ∧ ¬ ∃ o ∈ ot, o.Meet p) (fun h => h.2 h4)]
      have os : ∀ s ∈ [p0], s.Ok := fun s hs => by rw [List.mem_singleton] at hs; subst hs; exact o0
      have hl : p0.Has p.lo := Nd.has_trans o0 op h0 (Nd.has_lo hp0)
      have hg : p0.Has p.hi := Nd.has_trans o0 op h0 (Nd.has_hi hp0)
      obtain ⟨a1, a2, a3⟩ := withinN_ok [p0] ot os oo k p.lo (Nd.lo_ok op) (by simp [Nd.lo]; omega)
      obtain ⟨b1, b2, b3⟩ := withinN_ok [p0] ot os oo k p.hi (Nd.hi_ok op) (by simp [Nd.hi]; omega)
      have h5 : ¬ (isOne (withinN [p0] ot k p.lo) p.lo = true ∧ isOne (withinN [p0] ot k p.hi) p.hi = true) := by
        rintro ⟨e1, e2⟩
        rw [isOne_iff] at e1 e2
        obtain ⟨o, ho, hm⟩ := h4
        rcases hm with hm | hm
        · exact h1 ⟨o, ho, hm⟩
        · have hx := Nd.has_in op (oo o ho) hm o.in_self
          rcases (Nd.in_halves hp0).1 hx with hx | hx
          · have := (a3 o.v o.n).1 (by rw [e1]; exact adr_one.2 hx)
            exact this.2.2 ⟨o, ho, o.in_self⟩
          · have := (b3 o.v o.n).1 (by rw [e2]; exact adr_one.2 hx)
            exact this.2.2 ⟨o, ho, o.in_self⟩
      rw [if_neg h5, wideN_append]
      by_cases h6 : p.h = hb
      · rw [if_pos h6]
        have none_of : ∀ (M : List Nd) (q : Nd), q.h < hb → (∀ r ∈ M, q.Has r) → wideN hb M = none := fun M q hq hM => by
          unfold wideN
          rw [Option.map_eq_none_iff, List.find?_eq_none]
          intro r hr
          have := (hM r hr).2.1
          simp; omega
        rw [none_of _ p.lo (by show p.h - 1 < hb; omega) a2, none_of _ p.hi (by show p.h - 1 < hb; omega) b2]; rfl
      · rw [if_neg h6, firstN_find o0 oo hb k p.lo (Nd.lo_ok op) (by simp [Nd.lo]; omega) hl (by show hb ≤ p.h - 1; omega), firstN_find o0 oo hb k p.hi (Nd.hi_ok op) (by simp [Nd.hi]; omega) hg (by show hb ≤ p.h - 1; omega)]
    · rw [if_neg h4, if_pos ⟨h3, h4⟩, wideN_one hh]

/-- What is picked is right, and within the norm. -/
theorem wideN_in {M : List Nd} (hM : Nrm M) {hb : Nat} {x : Nd} (h : wideN hb M = some x) : x.Ok ∧ x.h = hb ∧ ∀ v y, x.In v y → Adr M v y := by
  unfold wideN at h
  rw [Option.map_eq_some_iff] at h
  obtain ⟨m, hm, rfl⟩ := h
  have hmem := List.mem_of_find?_eq_some hm
  have hw : hb ≤ m.h := by have := List.find?_some hm; simpa using this
  have om := hM.1 m hmem
  have ox : Nd.Ok ⟨m.v, m.n, hb⟩ := Nd.w_mod (p := ⟨m.v, m.n, hb⟩) (q := m) hw om
  have hh : m.Has ⟨m.v, m.n, hb⟩ := ⟨rfl, hw, Int.le_refl _, by have := m.w_pos; show m.n < m.n + m.w; omega⟩
  exact ⟨ox, rfl, fun v y hy => ⟨m, hmem, Nd.has_in om ox hh hy⟩⟩
/-- Nothing ahead of it would do. -/
theorem wideN_least {M : List Nd} (hM : Nrm M) {y : Nd} (oy : y.Ok) (hy : ∀ v x, y.In v x → Adr M v x) : ∃ x, wideN y.h M = some x ∧ ((x.v = false ∧ y.v = true) ∨ (x.v = y.v ∧ x.n ≤ y.n)) := by
  obtain ⟨m, hm, h⟩ := hM.cover y.h y rfl oy hy
  unfold wideN
  cases hf : M.find? fun q => decide (y.h ≤ q.h) with
  | none =>
    rw [List.find?_eq_none] at hf
    exact absurd h.2.1 (by simpa using hf m hm)
  | some m0 =>
    refine ⟨⟨m0.v, m0.n, y.h⟩, rfl, ?_⟩
    have hmem := List.mem_of_find?_eq_some hf
    have hw : y.h ≤ m0.h := by have := List.find?_some hf; simpa using this
    obtain ⟨_, as, bs, hl, hn⟩ := List.find?_eq_some_iff_append.1 hf
    have hpos : m ∉ as := fun hma => by have := hn m hma; simp at this; exact absurd h.2.1 (by omega)
    have hcase : m = m0 ∨ m0.Ahead m := by
      rw [hl] at hm
      rcases List.mem_append.1 hm with hm | hm
      · exact absurd hm hpos
      · rcases List.mem_cons.1 hm with e | e
        · exact .inl e
        · have hpw := hM.2
          rw [hl] at hpw
          have := (List.pairwise_append.1 hpw).2.1
          exact .inr ((List.pairwise_cons.1 this).1 m e).1
    rcases hcase with e | e
    · subst e; exact .inr ⟨h.1.symm, h.2.2.1⟩
    · have := m0.w_pos
      rcases e with ⟨a, b⟩ | ⟨a, b⟩
      · exact .inl ⟨a, h.1.trans b⟩
      · exact .inr ⟨a.trans h.1.symm, by have := h.2.2.1; show m0.n ≤ y.n; omega⟩
end Go.Proofs.Ytjhkbjigpiickaa
