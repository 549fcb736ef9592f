/- Lists of prefixes without Go: intervals whose lengths are powers of two, each of which begins at a multiple of its length. A list that is as short as may be is told by its addresses alone. -/
set_option linter.unusedVariables false
set_option linter.unusedSimpArgs false
namespace Go.Proofs.Ytlgdkdplkdkkdaa

structure Nd where
  v : Bool
  n : Int
  h : Nat

namespace Nd
def w (p : Nd) : Int := 2 ^ p.h
def Ok (p : Nd) : Prop := p.n % p.w = 0
def In (p : Nd) (v : Bool) (x : Int) : Prop := p.v = v ∧ p.n ≤ x ∧ x < p.n + p.w
abbrev Has (p q : Nd) : Prop := q.v = p.v ∧ q.h ≤ p.h ∧ p.n ≤ q.n ∧ q.n < p.n + p.w
/-- The lesser and the greater half of one. -/
abbrev Sib (p q : Nd) : Prop := q.v = p.v ∧ q.h = p.h ∧ q.n = p.n + p.w ∧ p.n % (2 * p.w) = 0
def up (p : Nd) : Nd := ⟨p.v, p.n, p.h + 1⟩
def lo (p : Nd) : Nd := ⟨p.v, p.n, p.h - 1⟩
def hi (p : Nd) : Nd := ⟨p.v, p.n + 2 ^ (p.h - 1), p.h - 1⟩
def Ahead (p q : Nd) : Prop := (p.v = false ∧ q.v = true) ∨ (p.v = q.v ∧ p.n + p.w ≤ q.n)
/-- The order of a list that rises: by the address, then the wider one first. -/
def Le (p q : Nd) : Prop := (p.v = false ∧ q.v = true) ∨ (p.v = q.v ∧ (p.n < q.n ∨ (p.n = q.n ∧ q.h ≤ p.h)))

theorem w_pos (p : Nd) : 0 < p.w := Int.pow_pos (by decide)
theorem w_le {p q : Nd} (h : p.h ≤ q.h) : p.w ≤ q.w := by
  obtain ⟨k, hk⟩ : ∃ k, q.h = p.h + k := ⟨q.h - p.h, by omega⟩
  unfold w
  rw [hk, Int.pow_add]
  have h1 : (0 : Int) < 2 ^ p.h := Int.pow_pos (by decide)
  have h2 : (0 : Int) < 2 ^ k := Int.pow_pos (by decide)
  have := Int.mul_le_mul_of_nonneg_left (show (1 : Int) ≤ 2 ^ k by omega) (Int.le_of_lt h1)
  omega
theorem w_mod {p q : Nd} (h : p.h ≤ q.h) {x : Int} (hx : x % q.w = 0) : x % p.w = 0 := by
  obtain ⟨k, hk⟩ : ∃ k, q.h = p.h + k := ⟨q.h - p.h, by omega⟩
  unfold w at *
  rw [hk, Int.pow_add] at hx
  exact Int.emod_eq_zero_of_dvd (Int.dvd_trans (Int.dvd_mul_right _ _) (Int.dvd_of_emod_eq_zero hx))
theorem w_self (p q : Nd) (h : p.h ≤ q.h) : q.w % p.w = 0 := w_mod h (Int.emod_self)
theorem step {a x m : Int} (ha : 0 < a) (hx : x % a = 0) (hm : m % a = 0) (h : x < m) : x + a ≤ m := by
  obtain ⟨k, rfl⟩ := Int.dvd_of_emod_eq_zero hx
  obtain ⟨l, rfl⟩ := Int.dvd_of_emod_eq_zero hm
  have : k < l := Int.lt_of_mul_lt_mul_left h (Int.le_of_lt ha)
  have := Int.mul_le_mul_of_nonneg_left (show k + 1 ≤ l by omega) (Int.le_of_lt ha)
  rw [Int.mul_add, Int.mul_one] at this
  exact this
theorem mod_add {x y a : Int} (h : x % a = 0) (h' : y % a = 0) : (x + y) % a = 0 := Int.emod_eq_zero_of_dvd (Int.dvd_add (Int.dvd_of_emod_eq_zero h) (Int.dvd_of_emod_eq_zero h'))

theorem has_end {p q : Nd} (op : p.Ok) (oq : q.Ok) (h : p.Has q) : q.n + q.w ≤ p.n + p.w := by
  obtain ⟨_, h1, _, h3⟩ := h
  exact step q.w_pos oq (mod_add (w_mod h1 op) (w_self q p h1)) h3
theorem in_self (p : Nd) : p.In p.v p.n := ⟨rfl, Int.le_refl _, by have := p.w_pos; omega⟩
theorem has_in {p q : Nd} (op : p.Ok) (oq : q.Ok) (h : p.Has q) {v x} (hx : q.In v x) : p.In v x := by
  have := has_end op oq h
  obtain ⟨h0, _, h2, _⟩ := h
  obtain ⟨a, b, c⟩ := hx
  exact ⟨h0 ▸ a, by omega, by omega⟩
theorem has_refl (p : Nd) : p.Has p := ⟨rfl, Nat.le_refl _, Int.le_refl _, by have := p.w_pos; omega⟩
theorem has_trans {p q r : Nd} (op : p.Ok) (oq : q.Ok) (h : p.Has q) (h' : q.Has r) : p.Has r := by
  have := has_end op oq h
  obtain ⟨a, b, c, d⟩ := h
  obtain ⟨a', b', c', d'⟩ := h'
  exact ⟨a'.trans a, by omega, by omega, by omega⟩
theorem same_h {p q : Nd} (op : p.Ok) (oq : q.Ok) (h : p.Has q) (hh : p.h ≤ q.h) : p = q := by
  have he := has_end op oq h
  obtain ⟨a, b, c, d⟩ := h
  have e : p.h = q.h := by omega
  have ew : p.w = q.w := by unfold w; rw [e]
  have : p.n = q.n := by omega
  cases p; cases q; simp_all
theorem has_anti {p q : Nd} (op : p.Ok) (oq : q.Ok) (h : p.Has q) (h' : q.Has p) : p = q := same_h op oq h h'.2.1
theorem meet' {p q : Nd} (op : p.Ok) (oq : q.Ok) {v x} (hp : p.In v x) (hq : q.In v x) (hh : q.h ≤ p.h) : p.Has q := by
  obtain ⟨a, b, c⟩ := hp
  obtain ⟨a', b', c'⟩ := hq
  refine ⟨a'.trans a.symm, hh, ?_, by omega⟩
  rcases Int.lt_or_le q.n p.n with h | h
  · have := step q.w_pos oq (w_mod hh op) h
    omega
  · exact h
theorem meet {p q : Nd} (op : p.Ok) (oq : q.Ok) {v x} (hp : p.In v x) (hq : q.In v x) : p.Has q ∨ q.Has p := by
  rcases Nat.le_total q.h p.h with h | h
  · exact .inl (meet' op oq hp hq h)
  · exact .inr (meet' oq op hq hp h)

theorem w_lo {p : Nd} (h : 0 < p.h) : p.w = 2 * p.lo.w := by
  obtain ⟨k, hk⟩ : ∃ k, p.h = k + 1 := ⟨p.h - 1, by omega⟩
  unfold w lo
  simp only
  rw [hk, Nat.add_sub_cancel, Int.pow_succ]; omega
theorem w_hi (p : Nd) : p.hi.w = p.lo.w := rfl
theorem n_hi (p : Nd) : p.hi.n = p.n + p.lo.w := rfl
theorem lo_ok {p : Nd} (op : p.Ok) : p.lo.Ok := w_mod (p := p.lo) (q := p) (by unfold lo; simp) op
theorem hi_ok {p : Nd} (op : p.Ok) : p.hi.Ok := mod_add (w_mod (p := p.hi) (q := p) (by unfold hi; simp) op) (by show p.hi.w % p.hi.w = 0; exact Int.emod_self)
theorem in_halves {p : Nd} (h : 0 < p.h) {v x} : p.In v x ↔ p.lo.In v x ∨ p.hi.In v x := by
  have e := w_lo h
  have e1 := n_hi p
  have e2 := w_hi p
  have e3 : p.lo.n = p.n := rfl
  have := p.lo.w_pos
  unfold In
  have v1 : p.lo.v = p.v := rfl
  have v2 : p.hi.v = p.v := rfl
  rw [v1, v2, e1, e2, e3, e]
  constructor
  · rintro ⟨a, b, c⟩
    rcases Int.lt_or_le x (p.n + p.lo.w) with h | h
    · exact .inl ⟨a, b, h⟩
    · exact .inr ⟨a, h, by omega⟩
  · rintro (⟨a, b, c⟩ | ⟨a, b, c⟩)
    · exact ⟨a, b, by omega⟩
    · exact ⟨a, by omega, by omega⟩
theorem has_lo {p : Nd} (h : 0 < p.h) : p.Has p.lo := ⟨rfl, by unfold lo; simp, Int.le_refl _, by have := p.w_pos; show p.n < p.n + p.w; omega⟩
theorem has_hi {p : Nd} (h : 0 < p.h) : p.Has p.hi := ⟨rfl, by unfold hi; simp, by rw [n_hi]; have := p.lo.w_pos; omega, by rw [n_hi, w_lo h]; have := p.lo.w_pos; omega⟩
/-- What has a half is that half, or has the whole. -/
theorem over_half {p q r : Nd} (op : p.Ok) (oq : q.Ok) (or : r.Ok) (hq : p.Has q) (hh : q.h + 1 = p.h) (h : r.Has q) : r = q ∨ r.Has p := by
  have h1 := has_in op oq hq (in_self q)
  have h2 := has_in or oq h (in_self q)
  rcases Nat.lt_or_ge q.h r.h with hl | hl
  · exact .inr (meet' or op h2 h1 (by omega))
  · exact .inl (same_h or oq h hl)
theorem sib_ok {p q : Nd} (h : p.Sib q) : p.up.Ok := by
  obtain ⟨_, _, _, h⟩ := h
  unfold Ok
  show p.n % p.up.w = 0
  rw [show p.up.w = 2 * p.w by unfold w up; simp only; rw [Int.pow_succ]; omega]
  exact h
theorem w_up (p : Nd) : p.up.w = 2 * p.w := by unfold w up; simp only; rw [Int.pow_succ]; omega
theorem sib_in {p q : Nd} (h : p.Sib q) {v x} : p.up.In v x ↔ p.In v x ∨ q.In v x := by
  obtain ⟨a, b, c, _⟩ := h
  have e := w_up p
  have e2 : q.w = p.w := by unfold w; rw [b]
  have e3 : p.up.n = p.n := rfl
  have e4 : p.up.v = p.v := rfl
  have := p.w_pos
  unfold In
  rw [e, e3, e4, a, c, e2]
  constructor
  · rintro ⟨a, b, c⟩
    rcases Int.lt_or_le x (p.n + p.w) with h | h
    · exact .inl ⟨a, b, h⟩
    · exact .inr ⟨a, h, by omega⟩
  · rintro (⟨a, b, c⟩ | ⟨a, b, c⟩)
    · exact ⟨a, b, by omega⟩
    · exact ⟨a, by omega, by omega⟩
theorem halves_sib {p : Nd} (op : p.Ok) (h : 0 < p.h) : p.lo.Sib p.hi := ⟨rfl, rfl, n_hi p, by rw [← w_lo h]; exact op⟩
end Nd

/-- The addresses of a list. -/
def Adr (L : List Nd) (v : Bool) (x : Int) : Prop := ∃ p ∈ L, p.In v x
def Nrm (L : List Nd) : Prop := (∀ p ∈ L, p.Ok) ∧ L.Pairwise fun p q => p.Ahead q ∧ ¬ p.Sib q

theorem pair_mem {α : Type} {R : α → α → Prop} : ∀ {L : List α}, L.Pairwise R → ∀ {a b}, a ∈ L → b ∈ L → a = b ∨ R a b ∨ R b a
  | [], _, a, b, h, _ => by simp at h
  | c :: L, h, a, b, ha, hb => by
    obtain ⟨h1, h2⟩ := List.pairwise_cons.1 h
    rcases List.mem_cons.1 ha with ea | ha'
    · rcases List.mem_cons.1 hb with eb | hb'
      · exact .inl (ea.trans eb.symm)
      · exact .inr (.inl (ea ▸ h1 _ hb'))
    · rcases List.mem_cons.1 hb with eb | hb'
      · exact .inr (.inr (eb ▸ h1 _ ha'))
      · exact pair_mem h2 ha' hb'
theorem ahead_irr {p : Nd} (h : p.Ahead p) : False := by
  have := p.w_pos
  rcases h with ⟨a, b⟩ | ⟨_, b⟩
  · rw [a] at b; exact absurd b (by decide)
  · omega
theorem ahead_asym {p q : Nd} (h : p.Ahead q) (h' : q.Ahead p) : False := by
  have h1 := p.w_pos
  have h2 := q.w_pos
  rcases h with ⟨a, b⟩ | ⟨a, b⟩ <;> rcases h' with ⟨a', b'⟩ | ⟨a', b'⟩
  · rw [a] at b'; exact absurd b' (by decide)
  · rw [a, b] at a'; exact absurd a' (by decide)
  · rw [a', b'] at a; exact absurd a (by decide)
  · omega
theorem ahead_apart {p q : Nd} (h : p.Ahead q) {v x} (hp : p.In v x) (hq : q.In v x) : False := by
  obtain ⟨a, b, c⟩ := hp
  obtain ⟨a', b', c'⟩ := hq
  rcases h with ⟨d, e⟩ | ⟨d, e⟩
  · rw [← a'] at a; rw [a, e] at d; exact absurd d (by decide)
  · omega

theorem Nrm.cover {L : List Nd} (hL : Nrm L) : ∀ (k : Nat) (q : Nd), q.h = k → q.Ok → (∀ v x, q.In v x → Adr L v x) → ∃ p ∈ L, p.Has q
  | 0, q, hk, oq, h => by
    obtain ⟨p, hp, hx⟩ := h _ _ q.in_self
    exact ⟨p, hp, Nd.meet' (hL.1 p hp) oq hx q.in_self (by omega)⟩
  | k + 1, q, hk, oq, h => by
    have h0 : 0 < q.h := by omega
    obtain ⟨p1, m1, a1⟩ := Nrm.cover hL k q.lo (by simp [Nd.lo, hk]) (Nd.lo_ok oq) (fun v x hx => h v x ((Nd.in_halves h0).2 (.inl hx)))
    obtain ⟨p2, m2, a2⟩ := Nrm.cover hL k q.hi (by simp [Nd.hi, hk]) (Nd.hi_ok oq) (fun v x hx => h v x ((Nd.in_halves h0).2 (.inr hx)))
    rcases Nd.over_half oq (Nd.lo_ok oq) (hL.1 _ m1) (Nd.has_lo h0) (by simp [Nd.lo]; omega) a1 with e1 | e1
    · rcases Nd.over_half oq (Nd.hi_ok oq) (hL.1 _ m2) (Nd.has_hi h0) (by simp [Nd.hi]; omega) a2 with e2 | e2
      · exfalso
        subst e1 e2
        have hs := Nd.halves_sib oq h0
        rcases pair_mem hL.2 m1 m2 with e | e | e
        · have := congrArg Nd.n e
          rw [Nd.n_hi] at this
          have h1 := q.lo.w_pos
          have : q.lo.n = q.n := rfl
          omega
        · exact e.2 hs
        · have hb : q.lo.Ahead q.hi := .inr ⟨rfl, by rw [Nd.n_hi]; exact Int.le_refl _⟩
          exact ahead_asym hb e.1
      · exact ⟨p2, m2, e2⟩
    · exact ⟨p1, m1, e1⟩

theorem list_uniq {α : Type} {R : α → α → Prop} (irr : ∀ a, ¬ R a a) (asy : ∀ a b, R a b → ¬ R b a) : ∀ {L M : List α}, L.Pairwise R → M.Pairwise R → (∀ a, a ∈ L ↔ a ∈ M) → L = M
  | [], [], _, _, _ => rfl
  | [], b :: M, _, _, h => by have := (h b).2 (by simp); simp at this
  | a :: L, [], _, _, h => by have := (h a).1 (by simp); simp at this
  | a :: L, b :: M, hl, hm, h => by
    obtain ⟨l1, l2⟩ := List.pairwise_cons.1 hl
    obtain ⟨m1, m2⟩ := List.pairwise_cons.1 hm
    have e : a = b := by
      rcases List.mem_cons.1 ((h a).1 (by simp)) with e | e
      · exact e
      · rcases List.mem_cons.1 ((h b).2 (by simp)) with e' | e'
        · exact e'.symm
        · exact absurd (m1 _ e) (asy _ _ (l1 _ e'))
    subst e
    rw [list_uniq irr asy l2 m2 fun c => ?_]
    constructor
    · intro hc
      rcases List.mem_cons.1 ((h c).1 (by simp [hc])) with e | e
      · subst e; exact absurd (l1 _ hc) (irr _)
      · exact e
    · intro hc
      rcases List.mem_cons.1 ((h c).2 (by simp [hc])) with e | e
      · subst e; exact absurd (m1 _ hc) (irr _)
      · exact e

theorem Nrm.has_mem {L : List Nd} (hL : Nrm L) {p q : Nd} (hp : p ∈ L) (hq : q ∈ L) (h : p.Has q) : p = q := by
  have hx := Nd.has_in (hL.1 p hp) (hL.1 q hq) h q.in_self
  rcases pair_mem hL.2 hp hq with e | e | e
  · exact e
  · exact absurd hx (fun h => ahead_apart e.1 h q.in_self)
  · exact absurd hx (fun h => ahead_apart e.1 q.in_self h)
theorem Nrm.sub {L M : List Nd} (hL : Nrm L) (hM : Nrm M) (h : ∀ v x, Adr L v x ↔ Adr M v x) {p : Nd} (hp : p ∈ L) : p ∈ M := by
  obtain ⟨r, hr, h1⟩ := hM.cover p.h p rfl (hL.1 p hp) (fun v x hx => (h v x).1 ⟨p, hp, hx⟩)
  obtain ⟨s, hs, h2⟩ := hL.cover r.h r rfl (hM.1 r hr) (fun v x hx => (h v x).2 ⟨r, hr, hx⟩)
  have e := hL.has_mem hs hp (Nd.has_trans (hL.1 s hs) (hM.1 r hr) h2 h1)
  subst e
  rw [Nd.has_anti (hL.1 s hs) (hM.1 r hr) h2 h1]
  exact hr
/-- A list that is as short as may be hangs on nothing but its addresses. -/
theorem Nrm.uniq {L M : List Nd} (hL : Nrm L) (hM : Nrm M) (h : ∀ v x, Adr L v x ↔ Adr M v x) : L = M :=
  list_uniq (R := fun p q => Nd.Ahead p q ∧ ¬ Nd.Sib p q) (fun a h => ahead_irr h.1) (fun a b h h' => ahead_asym h.1 h'.1) hL.2 hM.2 fun a => ⟨hL.sub hM h, hM.sub hL fun v x => (h v x).symm⟩

/-- A list and one more, ahead of none; the list's last one stands first here. -/
def putN : List Nd → Nd → List Nd
  | [], p => [p]
  | e :: r, p => if e.Has p then e :: r else if e.Sib p then putN r e.up else p :: e :: r
def NrmR (L : List Nd) : Prop := (∀ p ∈ L, p.Ok) ∧ L.Pairwise fun q p => p.Ahead q ∧ ¬ p.Sib q

theorem le_refl' (p : Nd) : p.Le p := .inr ⟨rfl, .inr ⟨rfl, Nat.le_refl _⟩⟩
theorem le_cases {e p : Nd} (oe : e.Ok) (op : p.Ok) (h : e.Le p) : e.Has p ∨ e.Ahead p := by
  rcases h with h | ⟨hv, h⟩
  · exact .inr (.inl h)
  · rcases Nat.le_total p.h e.h with hh | hh
    · rcases Int.lt_or_le p.n (e.n + e.w) with h1 | h1
      · exact .inl ⟨hv.symm, hh, by omega, h1⟩
      · exact .inr (.inr ⟨hv, h1⟩)
    · rcases h with h | ⟨h, h'⟩
      · exact .inr (.inr ⟨hv, Nd.step e.w_pos oe (Nd.w_mod hh op) h⟩)
      · exact .inl ⟨hv.symm, h', by omega, by have := e.w_pos; omega⟩
theorem ahead_le {p q : Nd} (h : p.Ahead q) : p.Le q := by
  have := p.w_pos
  rcases h with h | ⟨hv, h⟩
  · exact .inl h
  · exact .inr ⟨hv, .inl (by omega)⟩
theorem ahead_trans {p q r : Nd} (h : p.Ahead q) (h' : q.Ahead r) : p.Ahead r := by
  have := q.w_pos
  rcases h with ⟨a, b⟩ | ⟨a, b⟩ <;> rcases h' with ⟨a', b'⟩ | ⟨a', b'⟩
  · exact .inl ⟨a, b'⟩
  · exact .inl ⟨a, a' ▸ b⟩
  · exact .inl ⟨a.trans a', b'⟩
  · exact .inr ⟨a.trans a', by omega⟩
theorem up_le {e q : Nd} (h : e.Le q) : e.up.Le q := by
  rcases h with h | ⟨hv, h | ⟨h, h'⟩⟩
  · exact .inl h
  · exact .inr ⟨hv, .inl h⟩
  · exact .inr ⟨hv, .inr ⟨h, by show q.h ≤ e.h + 1; omega⟩⟩
theorem ahead_up {e p : Nd} (h : p.Ahead e) : p.Ahead e.up := h
/-- Halves of one that have something between them are none. -/
theorem far_sib {f e p : Nd} (h1 : f.Ahead e) (h2 : e.Ahead p) : ¬ f.Sib p := by
  rintro ⟨a, b, c, _⟩
  have := e.w_pos
  rcases h1 with ⟨d, d'⟩ | ⟨d, d'⟩ <;> rcases h2 with ⟨g, g'⟩ | ⟨g, g'⟩
  · rw [d'] at g; exact absurd g (by decide)
  · rw [← g, d', d] at a; exact absurd a (by decide)
  · rw [← d, ← a, g'] at g; exact absurd g (by decide)
  · omega

theorem putN_le : ∀ (r : List Nd) (p q : Nd), p.Le q → (∀ e ∈ r, e.Le q) → ∀ e ∈ putN r p, e.Le q
  | [], p, q, hp, _, e, he => by simp [putN] at he; subst he; exact hp
  | f :: r, p, q, hp, hr, e, he => by
    rw [putN] at he
    split at he
    · exact hr e he
    · split at he
      · exact putN_le r f.up q (up_le (hr f (by simp))) (fun e he => hr e (by simp [he])) e he
      · rcases List.mem_cons.1 he with rfl | he
        · exact hp
        · exact hr e he
theorem putN_nrm : ∀ (r : List Nd) (p : Nd), NrmR r → p.Ok → (∀ e ∈ r, e.Le p) → NrmR (putN r p) ∧ ∀ v x, Adr (putN r p) v x ↔ Adr r v x ∨ p.In v x
  | [], p, _, op, _ => by
    refine ⟨⟨fun q hq => ?_, ?_⟩, fun v x => ?_⟩
    · simp [putN] at hq; subst hq; exact op
    · simp [putN]
    · simp [putN, Adr]
  | e :: r, p, hr, op, hl => by
    have oe : e.Ok := hr.1 e (by simp)
    obtain ⟨p1, p2⟩ := List.pairwise_cons.1 hr.2
    rw [putN]
    by_cases h : e.Has p
    · rw [if_pos h]
      refine ⟨hr, fun v x => ⟨.inl, ?_⟩⟩
      rintro (h' | h')
      · exact h'
      · exact ⟨e, by simp, Nd.has_in oe op h h'⟩
    rw [if_neg h]
    have ha : e.Ahead p := (le_cases oe op (hl e (by simp))).resolve_left h
    by_cases hs : e.Sib p
    · rw [if_pos hs]
      obtain ⟨g1, g2⟩ := putN_nrm r e.up ⟨fun q hq => hr.1 q (by simp [hq]), p2⟩ (Nd.sib_ok hs) (fun f hf => ahead_le (ahead_up (p1 f hf).1))
      refine ⟨g1, fun v x => ?_⟩
      rw [g2, Nd.sib_in hs]
      constructor
      · rintro (⟨q, hq, hx⟩ | hx | hx)
        · exact .inl ⟨q, by simp [hq], hx⟩
        · exact .inl ⟨e, by simp, hx⟩
        · exact .inr hx
      · rintro (⟨q, hq, hx⟩ | hx)
        · rcases List.mem_cons.1 hq with rfl | hq
          · exact .inr (.inl hx)
          · exact .inl ⟨q, hq, hx⟩
        · exact .inr (.inr hx)
    · rw [if_neg hs]
      refine ⟨⟨fun q hq => ?_, ?_⟩, fun v x => ?_⟩
      · rcases List.mem_cons.1 hq with rfl | hq
        · exact op
        · exact hr.1 q hq
      · refine List.pairwise_cons.2 ⟨fun q hq => ?_, hr.2⟩
        rcases List.mem_cons.1 hq with rfl | hq
        · exact ⟨ha, hs⟩
        · exact ⟨ahead_trans (p1 q hq).1 ha, far_sib (p1 q hq).1 ha⟩
      · constructor
        · rintro ⟨q, hq, hx⟩
          rcases List.mem_cons.1 hq with rfl | hq
          · exact .inr hx
          · exact .inl ⟨q, hq, hx⟩
        · rintro (⟨q, hq, hx⟩ | hx)
          · exact ⟨q, by simp only [List.mem_cons] at hq ⊢; exact .inr hq, hx⟩
          · exact ⟨p, by simp, hx⟩
theorem foldN_nrm : ∀ (S r : List Nd), NrmR r → (∀ p ∈ S, p.Ok) → S.Pairwise Nd.Le → (∀ e ∈ r, ∀ p ∈ S, e.Le p) → NrmR (S.foldl putN r) ∧ ∀ v x, Adr (S.foldl putN r) v x ↔ Adr r v x ∨ Adr S v x
  | [], r, hr, _, _, _ => ⟨hr, fun v x => by simp [Adr]⟩
  | p :: S, r, hr, ho, hs, hl => by
    obtain ⟨s1, s2⟩ := List.pairwise_cons.1 hs
    obtain ⟨g1, g2⟩ := putN_nrm r p hr (ho p (by simp)) (fun e he => hl e he p (by simp))
    obtain ⟨k1, k2⟩ := foldN_nrm S (putN r p) g1 (fun q hq => ho q (by simp [hq])) s2 (fun e he q hq => putN_le r p q (s1 q hq) (fun f hf => hl f hf q (by simp [hq])) e he)
    refine ⟨k1, fun v x => ?_⟩
    rw [List.foldl_cons, k2, g2]
    constructor
    · rintro ((h | h) | ⟨q, hq, hx⟩)
      · exact .inl h
      · exact .inr ⟨p, by simp, h⟩
      · exact .inr ⟨q, by simp [hq], hx⟩
    · rintro (h | ⟨q, hq, hx⟩)
      · exact .inl (.inl h)
      · rcases List.mem_cons.1 hq with rfl | hq
        · exact .inl (.inr hx)
        · exact .inr ⟨q, hq, hx⟩
theorem nrmR_rev {r : List Nd} (h : NrmR r) : Nrm r.reverse := ⟨fun p hp => h.1 p (by simpa using hp), List.pairwise_reverse.2 h.2⟩
/-- The list that comes of a sorted one. -/
def normN (S : List Nd) : List Nd := (S.foldl putN []).reverse
theorem normN_nrm {S : List Nd} (ho : ∀ p ∈ S, p.Ok) (hs : S.Pairwise Nd.Le) : Nrm (normN S) ∧ ∀ v x, Adr (normN S) v x ↔ Adr S v x := by
  obtain ⟨h1, h2⟩ := foldN_nrm S [] ⟨by simp, .nil⟩ ho hs (by simp)
  refine ⟨nrmR_rev h1, fun v x => ?_⟩
  have := h2 v x
  simp only [Adr, List.not_mem_nil, false_and, exists_false, false_or] at this
  simpa [normN, Adr] using this

/-- What is left of q without p: k is how often q may be halved. -/
def cutN (p : Nd) : Nat → Nd → List Nd
  | 0, q => if p.Has q then [] else if q.Has p then [] else [q]
  | k + 1, q => if p.Has q then [] else if q.Has p then cutN p k q.lo ++ cutN p k q.hi else [q]
theorem cutN_adr (p : Nd) (op : p.Ok) : ∀ (k : Nat) (q : Nd), q.Ok → q.h = k → (∀ r ∈ cutN p k q, r.Ok) ∧ ∀ v x, Adr (cutN p k q) v x ↔ q.In v x ∧ ¬ p.In v x
  | 0, q, oq, hk => by
    rw [cutN]
    by_cases h : p.Has q
    · rw [if_pos h]
      exact ⟨by simp, fun v x => ⟨fun ⟨_, h, _⟩ => by simp at h, fun ⟨h1, h2⟩ => absurd (Nd.has_in op oq h h1) h2⟩⟩
    rw [if_neg h]
    by_cases h' : q.Has p
    · have e := Nd.same_h oq op h' (by omega)
      subst e
      exact absurd (Nd.has_refl q) h
    rw [if_neg h']
    refine ⟨fun r hr => by simp at hr; subst hr; exact oq, fun v x => ?_⟩
    simp only [Adr, List.mem_singleton, exists_eq_left]
    refine ⟨fun hx => ⟨hx, fun hp => ?_⟩, And.left⟩
    rcases Nd.meet oq op hx hp with e | e
    · exact h' e
    · exact h e
  | k + 1, q, oq, hk => by
    rw [cutN]
    by_cases h : p.Has q
    · rw [if_pos h]
      exact ⟨by simp, fun v x => ⟨fun ⟨_, h, _⟩ => by simp at h, fun ⟨h1, h2⟩ => absurd (Nd.has_in op oq h h1) h2⟩⟩
    rw [if_neg h]
    by_cases h' : q.Has p
    · rw [if_pos h']
      obtain ⟨a1, a2⟩ := cutN_adr p op k q.lo (Nd.lo_ok oq) (by simp [Nd.lo, hk])
      obtain ⟨b1, b2⟩ := cutN_adr p op k q.hi (Nd.hi_ok oq) (by simp [Nd.hi, hk])
      refine ⟨fun r hr => (List.mem_append.1 hr).elim (a1 r) (b1 r), fun v x => ?_⟩
      rw [Nd.in_halves (p := q) (by omega)]
      constructor
      · rintro ⟨r, hr, hx⟩
        rcases List.mem_append.1 hr with hr | hr
        · have := (a2 v x).1 ⟨r, hr, hx⟩; exact ⟨.inl this.1, this.2⟩
        · have := (b2 v x).1 ⟨r, hr, hx⟩; exact ⟨.inr this.1, this.2⟩
      · rintro ⟨hx | hx, hn⟩
        · obtain ⟨r, hr, hx⟩ := (a2 v x).2 ⟨hx, hn⟩; exact ⟨r, List.mem_append.2 (.inl hr), hx⟩
        · obtain ⟨r, hr, hx⟩ := (b2 v x).2 ⟨hx, hn⟩; exact ⟨r, List.mem_append.2 (.inr hr), hx⟩
    rw [if_neg h']
    refine ⟨fun r hr => by simp at hr; subst hr; exact oq, fun v x => ?_⟩
    simp only [Adr, List.mem_singleton, exists_eq_left]
    refine ⟨fun hx => ⟨hx, fun hp => ?_⟩, And.left⟩
    rcases Nd.meet oq op hx hp with e | e
    · exact h' e
    · exact h e

abbrev Nd.Meet (p q : Nd) : Prop := p.Has q ∨ q.Has p
/-- Is a list just this one? -/
def isOne : List Nd → Nd → Bool
  | [x], q => decide (x.v = q.v) && decide (x.n = q.n) && decide (x.h = q.h)
  | _, _ => false
theorem isOne_iff {L : List Nd} {q : Nd} : isOne L q = true ↔ L = [q] := by
  match L with
  | [] => simp [isOne]
  | [x] =>
    obtain ⟨a, b, c⟩ := x
    obtain ⟨a', b', c'⟩ := q
    simp [isOne, and_assoc]
  | x :: y :: r => simp [isOne]
/-- The document's way: the norm of the addresses of p that some have and others have not; k is how often p may be halved. -/
def withinN (so ot : List Nd) : Nat → Nd → List Nd
  | 0, p => if ∃ o ∈ ot, o.Has p then [] else if ∀ s ∈ so, ¬ s.Meet p then [] else if (∃ s ∈ so, s.Has p) ∧ ¬ ∃ o ∈ ot, o.Meet p then [p] else []
  | k + 1, p => if ∃ o ∈ ot, o.Has p then [] else if ∀ s ∈ so, ¬ s.Meet p then [] else if (∃ s ∈ so, s.Has p) ∧ ¬ ∃ o ∈ ot, o.Meet p then [p] else
    if isOne (withinN so ot k p.lo) p.lo = true ∧ isOne (withinN so ot k p.hi) p.hi = true then [p] else withinN so ot k p.lo ++ withinN so ot k p.hi

theorem nrm_one {p : Nd} (op : p.Ok) : Nrm [p] := ⟨fun q hq => by simp at hq; subst hq; exact op, by simp⟩
theorem nrm_nil : Nrm [] := ⟨by simp, .nil⟩
theorem adr_one {p : Nd} {v x} : Adr [p] v x ↔ p.In v x := by simp [Adr]
theorem adr_nil {v x} : ¬ Adr [] v x := by simp [Adr]
theorem adr_append {L M : List Nd} {v x} : Adr (L ++ M) v x ↔ Adr L v x ∨ Adr M v x := by
  constructor
  · rintro ⟨p, hp, hx⟩
    rcases List.mem_append.1 hp with h | h
    · exact .inl ⟨p, h, hx⟩
    · exact .inr ⟨p, h, hx⟩
  · rintro (⟨p, hp, hx⟩ | ⟨p, hp, hx⟩)
    · exact ⟨p, List.mem_append.2 (.inl hp), hx⟩
    · exact ⟨p, List.mem_append.2 (.inr hp), hx⟩
theorem meet_in {p q : Nd} (op : p.Ok) (oq : q.Ok) {v x} (hp : p.In v x) (hq : q.In v x) : p.Meet q := Nd.meet op oq hp hq

/-- What lies in both halves, as short as may be, unless it is both of them whole. -/
theorem halves_nrm {p : Nd} (op : p.Ok) (h0 : 0 < p.h) {x y : List Nd} (hx : Nrm x) (hy : Nrm y) (ix : ∀ r ∈ x, p.lo.Has r) (iy : ∀ r ∈ y, p.hi.Has r) (hne : ¬ (x = [p.lo] ∧ y = [p.hi])) : Nrm (x ++ y) := by
  have ol := Nd.lo_ok op
  have oh := Nd.hi_ok op
  have hb : p.lo.Ahead p.hi := .inr ⟨rfl, by rw [Nd.n_hi]; exact Int.le_refl _⟩
  refine ⟨fun r hr => (List.mem_append.1 hr).elim (hx.1 r) (hy.1 r), List.pairwise_append.2 ⟨hx.2, hy.2, fun e he f hf => ?_⟩⟩
  have he1 := ix e he
  have hf1 := iy f hf
  have oe := hx.1 e he
  have of := hy.1 f hf
  have e1 := Nd.has_end ol oe he1
  refine ⟨.inr ⟨?_, ?_⟩, fun hs => hne ?_⟩
  · exact he1.1.trans hf1.1.symm
  · have h1 : p.hi.n ≤ f.n := hf1.2.2.1
    have h2 : p.lo.n + p.lo.w = p.hi.n := rfl
    omega
  · have ou := Nd.sib_ok hs
    have k1 : e.up.In p.v e.n := (Nd.sib_in hs).2 (.inl ⟨he1.1, Int.le_refl _, by have := e.w_pos; omega⟩)
    have k2 : e.up.In p.v f.n := (Nd.sib_in hs).2 (.inr ⟨hf1.1, Int.le_refl _, by have := f.w_pos; omega⟩)
    have g1 : p.In p.v e.n := (Nd.in_halves h0).2 (.inl (Nd.has_in ol oe he1 ⟨he1.1, Int.le_refl _, by have := e.w_pos; omega⟩))
    have hle : e.h ≤ p.h - 1 := he1.2.1
    have hq : p.Has e.up := Nd.meet' op ou g1 k1 (by show e.h + 1 ≤ p.h; omega)
    have hu : ¬ p.lo.Has e.up := fun h => ahead_apart hb (Nd.has_in ol ou h k2) (Nd.has_in oh of hf1 ⟨hf1.1, Int.le_refl _, by have := f.w_pos; omega⟩)
    have hul : e.up.Has p.lo := by
      rcases Nd.meet ou ol k1 (Nd.has_in ol oe he1 ⟨he1.1, Int.le_refl _, by have := e.w_pos; omega⟩) with h | h
      · exact h
      · exact absurd h hu
    have hh : p.h - 1 < e.h + 1 := by
      rcases Nat.lt_or_ge (p.h - 1) (e.h + 1) with h | h
      · exact h
      · exact absurd (Nd.meet' ol ou (Nd.has_in ol oe he1 ⟨he1.1, Int.le_refl _, by have := e.w_pos; omega⟩) k1 h) hu
    have eh : e.h = p.h - 1 := by omega
    have ee : p.lo = e := Nd.same_h ol oe he1 (by show p.h - 1 ≤ e.h; omega)
    have ef : p.hi = f := Nd.same_h oh of hf1 (by show p.h - 1 ≤ f.h; rw [hs.2.1]; omega)
    have one : ∀ {L : List Nd} {q : Nd}, Nrm L → q.Ok → (∀ r ∈ L, q.Has r) → q ∈ L → L = [q] := fun {L q} hL oq hi hm =>
      hL.uniq (nrm_one oq) fun v x => by
        rw [adr_one]
        exact ⟨fun ⟨r, hr, hx⟩ => Nd.has_in oq (hL.1 r hr) (hi r hr) hx, fun h => ⟨q, hm, h⟩⟩
    exact ⟨one hx ol ix (ee ▸ he), one hy oh iy (ef ▸ hf)⟩

theorem withinN_ok (so ot : List Nd) (os : ∀ s ∈ so, s.Ok) (oo : ∀ o ∈ ot, o.Ok) : ∀ (k : Nat) (p : Nd), p.Ok → p.h = k →
    Nrm (withinN so ot k p) ∧ (∀ r ∈ withinN so ot k p, p.Has r) ∧ ∀ v x, Adr (withinN so ot k p) v x ↔ p.In v x ∧ Adr so v x ∧ ¬ Adr ot v x := by
  have nilcase : ∀ p : Nd, p.Ok → (∃ o ∈ ot, o.Has p) ∨ (∀ s ∈ so, ¬ s.Meet p) → Nrm [] ∧ (∀ r ∈ ([] : List Nd), p.Has r) ∧ ∀ v x, Adr [] v x ↔ p.In v x ∧ Adr so v x ∧ ¬ Adr ot v x := fun p op h => by
    refine ⟨nrm_nil, by simp, fun v x => ⟨fun h => absurd h adr_nil, fun ⟨h1, ⟨s, hs, h2⟩, h3⟩ => ?_⟩⟩
    rcases h with ⟨o, ho, h⟩ | h
    · exact absurd ⟨o, ho, Nd.has_in (oo o ho) op h h1⟩ h3
    · exact absurd (meet_in (os s hs) op h2 h1) (h s hs)
  have onecase : ∀ p : Nd, p.Ok → (∃ s ∈ so, s.Has p) ∧ (¬ ∃ o ∈ ot, o.Meet p) → Nrm [p] ∧ (∀ r ∈ [p], p.Has r) ∧ ∀ v x, Adr [p] v x ↔ p.In v x ∧ Adr so v x ∧ ¬ Adr ot v x := fun p op ⟨⟨s, hs, h⟩, h'⟩ => by
    refine ⟨nrm_one op, fun r hr => by simp at hr; subst hr; exact r.has_refl, fun v x => ?_⟩
    rw [adr_one]
    exact ⟨fun hx => ⟨hx, ⟨s, hs, Nd.has_in (os s hs) op h hx⟩, fun ⟨o, ho, hx'⟩ => h' ⟨o, ho, meet_in (oo o ho) op hx' hx⟩⟩, And.left⟩
  intro k
  induction k with
  | zero =>
    intro p op hk
    rw [withinN]
    by_cases h1 : ∃ o ∈ ot, o.Has p
    · rw [if_pos h1]; exact nilcase p op (.inl h1)
    rw [if_neg h1]
    by_cases h2 : ∀ s ∈ so, ¬ s.Meet p
    · rw [if_pos h2]; exact nilcase p op (.inr h2)
    rw [if_neg h2]
    have up : ∀ q : Nd, q.Ok → q.Meet p → q.Has p := fun q oq h => by
      rcases h with h | h
      · exact h
      · rw [Nd.same_h op oq h (by omega)]; exact q.has_refl
    have h3 : (∃ s ∈ so, s.Has p) ∧ ¬ ∃ o ∈ ot, o.Meet p := by
      refine ⟨?_, fun ⟨o, ho, h⟩ => h1 ⟨o, ho, up o (oo o ho) h⟩⟩
      simp only [Classical.not_forall, Classical.not_not] at h2
      obtain ⟨s, hs, h⟩ := h2
      exact ⟨s, hs, up s (os s hs) h⟩
    rw [if_pos h3]; exact onecase p op h3
  | succ k ih =>
    intro p op hk
    have h0 : 0 < p.h := by omega
    rw [withinN]
    by_cases h1 : ∃ o ∈ ot, o.Has p
    · rw [if_pos h1]; exact nilcase p op (.inl h1)
    rw [if_neg h1]
    by_cases h2 : ∀ s ∈ so, ¬ s.Meet p
    · rw [if_pos h2]; exact nilcase p op (.inr h2)
    rw [if_neg h2]
    by_cases h3 : (∃ s ∈ so, s.Has p) ∧ ¬ ∃ o ∈ ot, o.Meet p
    · rw [if_pos h3]; exact onecase p op h3
    rw [if_neg h3]
    obtain ⟨a1, a2, a3⟩ := ih p.lo (Nd.lo_ok op) (by simp [Nd.lo, hk])
    obtain ⟨b1, b2, b3⟩ := ih p.hi (Nd.hi_ok op) (by simp [Nd.hi, hk])
    have key : ∀ v x, Adr (withinN so ot k p.lo ++ withinN so ot k p.hi) v x ↔ p.In v x ∧ Adr so v x ∧ ¬ Adr ot v x := fun v x => by
      rw [adr_append, a3, b3, Nd.in_halves h0]
      constructor
      · rintro (⟨h, h'⟩ | ⟨h, h'⟩)
        · exact ⟨.inl h, h'⟩
        · exact ⟨.inr h, h'⟩
      · rintro ⟨h | h, h'⟩
        · exact .inl ⟨h, h'⟩
        · exact .inr ⟨h, h'⟩
    by_cases h4 : withinN so ot k p.lo = [p.lo] ∧ withinN so ot k p.hi = [p.hi]
    · rw [if_pos ⟨isOne_iff.2 h4.1, isOne_iff.2 h4.2⟩]
      refine ⟨nrm_one op, fun r hr => by simp at hr; subst hr; exact r.has_refl, fun v x => ?_⟩
      rw [← key, h4.1, h4.2, adr_append, adr_one, adr_one, adr_one, Nd.in_halves h0]
    · rw [if_neg (fun h => h4 ⟨isOne_iff.1 h.1, isOne_iff.1 h.2⟩)]
      refine ⟨halves_nrm op h0 a1 b1 a2 b2 h4, fun r hr => ?_, key⟩
      rcases List.mem_append.1 hr with h | h
      · exact Nd.has_trans op (Nd.lo_ok op) (Nd.has_lo h0) (a2 r h)
      · exact Nd.has_trans op (Nd.hi_ok op) (Nd.has_hi h0) (b2 r h)
def root (v : Bool) : Nd := ⟨v, 0, if v then 128 else 32⟩
theorem root_ok (v : Bool) : (root v).Ok := by unfold root Nd.Ok; simp
def normOfN (so ot : List Nd) : List Nd := withinN so ot 32 (root false) ++ withinN so ot 128 (root true)
/-- All that lies among the addresses of its kind. -/
def Nd.Fit (p : Nd) : Prop := (root p.v).Has p
theorem normOfN_ok {so ot : List Nd} (os : ∀ s ∈ so, s.Ok) (oo : ∀ o ∈ ot, o.Ok) (fit : ∀ s ∈ so, s.Fit) : Nrm (normOfN so ot) ∧ ∀ v x, Adr (normOfN so ot) v x ↔ Adr so v x ∧ ¬ Adr ot v x := by
  obtain ⟨a1, a2, a3⟩ := withinN_ok so ot os oo 32 (root false) (root_ok _) rfl
  obtain ⟨b1, b2, b3⟩ := withinN_ok so ot os oo 128 (root true) (root_ok _) rfl
  refine ⟨⟨fun r hr => (List.mem_append.1 hr).elim (a1.1 r) (b1.1 r), List.pairwise_append.2 ⟨a1.2, b1.2, fun e he f hf => ?_⟩⟩, fun v x => ?_⟩
  · have h1 := (a2 e he).1
    have h2 := (b2 f hf).1
    refine ⟨.inl ⟨h1, h2⟩, fun h => ?_⟩
    rw [h.1] at h2
    rw [h2] at h1; exact absurd h1 (by decide)
  · unfold normOfN
    rw [adr_append, a3, b3]
    constructor
    · rintro (⟨_, h⟩ | ⟨_, h⟩) <;> exact h
    · rintro ⟨⟨s, hs, hx⟩, h⟩
      have hf := Nd.has_in (root_ok _) (os s hs) (fit s hs) hx
      rw [hx.1] at hf
      cases v
      · exact .inl ⟨hf, ⟨s, hs, hx⟩, h⟩
      · exact .inr ⟨hf, ⟨s, hs, hx⟩, h⟩
end Go.Proofs.Ytlgdkdplkdkkdaa
