/- Package pick: what holds of room, look, room, Free, First; pickBegun. -/
import Derived.Test.YtpbankmbdacdaaaGreatDoorSmA
import Derived.Test.YtpbankmbdacdaaaGreatDoorPmB
import Derived.Laws.AppendOwnNone
import Derived.Test.YtpbankmbdacdaaaGreatDoorShf
import Derived.Test.YtpbankmbdacdaaaGreatDoorNetV
set_option linter.unusedVariables false
set_option linter.unusedSimpArgs false
namespace Go.Proofs.YtpbankmbdacdaaaGreatDoor

theorem cover_one {q x : Nd} (oq : q.Ok) (ox : x.Ok) (h : ∀ v y, x.In v y → q.In v y) : q.Has x := by
  obtain ⟨p, hp, h'⟩ := (nrm_one oq).cover x.h x rfl ox (fun v y hy => adr_one.2 (h v y hy))
  rw [List.mem_singleton] at hp
  subst hp; exact h'
theorem up_lo {e f : Nd} (h : e.Sib f) : e.up.Has e := ⟨rfl, by show e.h ≤ e.h + 1; omega, Int.le_refl _, by rw [Nd.w_up]; have := e.w_pos; show e.n < e.n + 2 * e.w; omega⟩
theorem up_hi {e f : Nd} (h : e.Sib f) : e.up.Has f := by
  obtain ⟨h1, h2, h3, _⟩ := h
  have := e.w_pos
  refine ⟨h1, by show f.h ≤ e.h + 1; omega, ?_, ?_⟩
  · show e.n ≤ f.n; omega
  · rw [Nd.w_up]; show f.n < e.n + 2 * e.w; omega
/-- What lies in a norm, and what lies in one more behind it, are a norm together. -/
theorem join_nrm {L X M : List Nd} {q : Nd} (hL : Nrm (L ++ [q])) (hX : Nrm X) (hM : Nrm M) (ix : ∀ v x, Adr X v x → Adr L v x) (im : ∀ v x, Adr M v x → q.In v x) : Nrm (X ++ M) := by
  obtain ⟨hok, hpw⟩ := hL
  obtain ⟨p1, p2, p3⟩ := List.pairwise_append.1 hpw
  have hL' : Nrm L := ⟨fun p hp => hok p (List.mem_append.2 (.inl hp)), p1⟩
  have oq : q.Ok := hok q (by simp)
  refine ⟨fun r hr => (List.mem_append.1 hr).elim (hX.1 r) (hM.1 r), List.pairwise_append.2 ⟨hX.2, hM.2, fun e he f hf => ?_⟩⟩
  have oe := hX.1 e he
  have of := hM.1 f hf
  obtain ⟨p, hp, pe⟩ := hL'.cover e.h e rfl oe (fun v x hx => ix v x ⟨e, he, hx⟩)
  have qf : q.Has f := cover_one oq of (fun v x hx => im v x ⟨f, hf, hx⟩)
  have op := hL'.1 p hp
  obtain ⟨hpq, hns⟩ := p3 p hp q (by simp)
  have e1 := Nd.has_end op oe pe
  refine ⟨?_, fun hs => ?_⟩
  · rcases hpq with ⟨a, b⟩ | ⟨a, b⟩
    · exact .inl ⟨pe.1.trans a, qf.1.trans b⟩
    · exact .inr ⟨pe.1.trans (a.trans qf.1.symm), by have := qf.2.2.1; omega⟩
  · have ou := Nd.sib_ok hs
    have k1 := up_lo hs
    have k2 := up_hi hs
    rcases Nd.over_half ou oe op k1 rfl pe with h1 | h1
    · rcases Nd.over_half ou of oq k2 (by rw [hs.2.1]; rfl) qf with h2 | h2
      · subst h1 h2; exact hns hs
      · exact ahead_apart hpq (Nd.has_in op oe pe e.in_self) (Nd.has_in oq ou h2 (Nd.has_in ou oe k1 e.in_self))
    · exact ahead_apart hpq (Nd.has_in op ou h1 (Nd.has_in ou of k2 f.in_self)) (Nd.has_in oq of qf f.in_self)

/-- The document's way to the first room of a size: by halves. -/
def firstN (ot : List Nd) (hb : Nat) : Nat → Nd → Option Nd
  | 0, p => if ∃ o ∈ ot, o.Has p then none else if ∃ o ∈ ot, o.Meet p then none else some ⟨p.v, p.n, hb⟩
  | k + 1, p => if ∃ o ∈ ot, o.Has p then none else if ∃ o ∈ ot, o.Meet p then (if p.h = hb then none else (firstN ot hb k p.lo).or (firstN ot hb k p.hi)) else some ⟨p.v, p.n, hb⟩
/-- The first one that is wide enough, cut to size. -/
def wideN (hb : Nat) (M : List Nd) : Option Nd := (M.find? fun q => decide (hb ≤ q.h)).map fun q => ⟨q.v, q.n, hb⟩
theorem wideN_nil (hb : Nat) : wideN hb [] = none := rfl
theorem wideN_one {hb : Nat} {p : Nd} (h : hb ≤ p.h) : wideN hb [p] = some ⟨p.v, p.n, hb⟩ := by simp [wideN, h]
theorem wideN_append (hb : Nat) (L M : List Nd) : wideN hb (L ++ M) = (wideN hb L).or (wideN hb M) := by
  unfold wideN
  rw [List.find?_append]
  cases h : L.find? fun q => decide (hb ≤ q.h) <;> simp
theorem firstN_find {p0 : Nd} {ot : List Nd} (o0 : p0.Ok) (oo : ∀ o ∈ ot, o.Ok) (hb : Nat) : ∀ (k : Nat) (p : Nd), p.Ok → p.h = k → p0.Has p → hb ≤ p.h → firstN ot hb k p = wideN hb (withinN [p0] ot k p)
  | 0, p, op, hk, h0, hh => by
    rw [firstN, withinN]
    by_cases h1 : ∃ o ∈ ot, o.Has p
    · rw [if_pos h1, if_pos h1]; rfl
    rw [if_neg h1, if_neg h1]
    have h2 : ¬ ∀ s ∈ [p0], ¬ s.Meet p := fun h => h p0 (by simp) (.inl h0)
    rw [if_neg h2]
    have h3 : ∃ s ∈ [p0], s.Has p := ⟨p0, by simp, h0⟩
    by_cases h4 : ∃ o ∈ ot, o.Meet p
    · rw [if_pos h4, if_neg (fun h => h.2 h4)]; rfl
    · rw [if_neg h4, if_pos ⟨h3, h4⟩, wideN_one hh]
  | k + 1, p, op, hk, h0, hh => by
    have hp0 : 0 < p.h := by omega
    rw [firstN, withinN]
    by_cases h1 : ∃ o ∈ ot, o.Has p
    · rw [if_pos h1, if_pos h1]; rfl
    rw [if_neg h1, if_neg h1]
    have h2 : ¬ ∀ s ∈ [p0], ¬ s.Meet p := fun h => h p0 (by simp) (.inl h0)
    rw [if_neg h2]
    have h3 : ∃ s ∈ [p0], s.Has p := ⟨p0, by simp, h0⟩
    by_cases h4 : ∃ o ∈ ot, o.Meet p
    · rw [if_pos h4, if_neg (c := (∃ s ∈ [p0], s.Has p) ∧ ¬ ∃ o ∈ ot, o.Meet p) (fun h => h.2 h4)]
      have os : ∀ s ∈ [p0], s.Ok := fun s hs => by rw [List.mem_singleton] at hs; subst hs; exact o0
      have hl : p0.Has p.lo := Nd.has_trans o0 op h0 (Nd.has_lo hp0)
      have hg : p0.Has p.hi := Nd.has_trans o0 op h0 (Nd.has_hi hp0)
      obtain ⟨a1, a2, a3⟩ := withinN_ok [p0] ot os oo k p.lo (Nd.lo_ok op) (by simp [Nd.lo]; omega)
      obtain ⟨b1, b2, b3⟩ := withinN_ok [p0] ot os oo k p.hi (Nd.hi_ok op) (by simp [Nd.hi]; omega)
      have h5 : ¬ (isOne (withinN [p0] ot k p.lo) p.lo = true ∧ isOne (withinN [p0] ot k p.hi) p.hi = true) := by
        rintro ⟨e1, e2⟩
        rw [isOne_iff] at e1 e2
        obtain ⟨o, ho, hm⟩ := h4
        rcases hm with hm | hm
        · exact h1 ⟨o, ho, hm⟩
        · have hx := Nd.has_in op (oo o ho) hm o.in_self
          rcases (Nd.in_halves hp0).1 hx with hx | hx
          · have := (a3 o.v o.n).1 (by rw [e1]; exact adr_one.2 hx)
            exact this.2.2 ⟨o, ho, o.in_self⟩
          · have := (b3 o.v o.n).1 (by rw [e2]; exact adr_one.2 hx)
            exact this.2.2 ⟨o, ho, o.in_self⟩
      rw [if_neg h5, wideN_append]
      by_cases h6 : p.h = hb
      · rw [if_pos h6]
        have none_of : ∀ (M : List Nd) (q : Nd), q.h < hb → (∀ r ∈ M, q.Has r) → wideN hb M = none := fun M q hq hM => by
          unfold wideN
          rw [Option.map_eq_none_iff, List.find?_eq_none]
          intro r hr
          have := (hM r hr).2.1
          simp; omega
        rw [none_of _ p.lo (by show p.h - 1 < hb; omega) a2, none_of _ p.hi (by show p.h - 1 < hb; omega) b2]; rfl
      · rw [if_neg h6, firstN_find o0 oo hb k p.lo (Nd.lo_ok op) (by simp [Nd.lo]; omega) hl (by show hb ≤ p.h - 1; omega), firstN_find o0 oo hb k p.hi (Nd.hi_ok op) (by simp [Nd.hi]; omega) hg (by show hb ≤ p.h - 1; omega)]
    · rw [if_neg h4, if_pos ⟨h3, h4⟩, wideN_one hh]

/-- What is picked is right, and within the norm. -/
theorem wideN_in {M : List Nd} (hM : Nrm M) {hb : Nat} {x : Nd} (h : wideN hb M = some x) : x.Ok ∧ x.h = hb ∧ ∀ v y, x.In v y → Adr M v y := by
  unfold wideN at h
  rw [Option.map_eq_some_iff] at h
  obtain ⟨m, hm, rfl⟩ := h
  have hmem := List.mem_of_find?_eq_some hm
  have hw : hb ≤ m.h := by have := List.find?_some hm; simpa using this
  have om := hM.1 m hmem
  have ox : Nd.Ok ⟨m.v, m.n, hb⟩ := Nd.w_mod (p := ⟨m.v, m.n, hb⟩) (q := m) hw om
  have hh : m.Has ⟨m.v, m.n, hb⟩ := ⟨rfl, hw, Int.le_refl _, by have := m.w_pos; show m.n < m.n + m.w; omega⟩
  exact ⟨ox, rfl, fun v y hy => ⟨m, hmem, Nd.has_in om ox hh hy⟩⟩
/-- Nothing ahead of it would do. -/
theorem wideN_least {M : List Nd} (hM : Nrm M) {y : Nd} (oy : y.Ok) (hy : ∀ v x, y.In v x → Adr M v x) : ∃ x, wideN y.h M = some x ∧ ((x.v = false ∧ y.v = true) ∨ (x.v = y.v ∧ x.n ≤ y.n)) := by
  obtain ⟨m, hm, h⟩ := hM.cover y.h y rfl oy hy
  unfold wideN
  cases hf : M.find? fun q => decide (y.h ≤ q.h) with
  | none =>
    rw [List.find?_eq_none] at hf
    exact absurd h.2.1 (by simpa using hf m hm)
  | some m0 =>
    refine ⟨⟨m0.v, m0.n, y.h⟩, rfl, ?_⟩
    have hmem := List.mem_of_find?_eq_some hf
    have hw : y.h ≤ m0.h := by have := List.find?_some hf; simpa using this
    obtain ⟨_, l1, l2, hl, hn⟩ := List.find?_eq_some_iff_append.1 hf
    have hpos : m ∉ l1 := fun hma => by have := hn m hma; simp at this; exact absurd h.2.1 (by omega)
    have hcase : m = m0 ∨ m0.Ahead m := by
      rw [hl] at hm
      rcases List.mem_append.1 hm with hm | hm
      · exact absurd hm hpos
      · rcases List.mem_cons.1 hm with e | e
        · exact .inl e
        · have hpw := hM.2
          rw [hl] at hpw
          have := (List.pairwise_append.1 hpw).2.1
          exact .inr ((List.pairwise_cons.1 this).1 m e).1
    rcases hcase with e | e
    · subst e; exact .inr ⟨h.1.symm, h.2.2.1⟩
    · have := m0.w_pos
      rcases e with ⟨a, b⟩ | ⟨a, b⟩
      · exact .inl ⟨a, h.1.trans b⟩
      · exact .inr ⟨a.trans h.1.symm, by have := h.2.2.1; show m0.n ≤ y.n; omega⟩
end Go.Proofs.YtpbankmbdacdaaaGreatDoor

namespace Go.Proofs.YtpbankmbdacdaaaGreatDoor
open Go.RowKit

/-- The norm of all addresses of p that none of us has. -/
abbrev IsRoom (p : Pf) (us M : List Pf) : Prop := IsNorm M (fun v x => p.nd.In v x ∧ ¬ Adr (us.map Pf.nd) v x)
theorem adr_one' {p : Pf} {v : Bool} {x : Int} : Adr ([p].map Pf.nd) v x ↔ p.nd.In v x := by simp [Adr]
theorem room_nil {p : Pf} (r : p.R) : IsRoom p [] [p] := ⟨fun q hq => by rw [List.mem_singleton] at hq; subst hq; exact r, nrm_one (nd_ok r), fun v x => by rw [adr_one']; simp [Adr]⟩
/-- One more of a norm, without u. -/
theorem join_norm {L X M : List Pf} {u q : Pf} (hL : Nrm ((L ++ [q]).map Pf.nd)) (hX : IsNorm X (fun v x => Adr (L.map Pf.nd) v x ∧ ¬ u.nd.In v x)) (hM : IsNorm M (fun v x => Adr ([q].map Pf.nd) v x ∧ ¬ u.nd.In v x)) :
    IsNorm (X ++ M) (fun v x => Adr ((L ++ [q]).map Pf.nd) v x ∧ ¬ u.nd.In v x) := by
  refine ⟨fun p hp => (List.mem_append.1 hp).elim (hX.right p) (hM.right p), ?_, fun v x => ?_⟩
  · rw [List.map_append]
    rw [List.map_append] at hL
    exact join_nrm hL hX.nrm hM.nrm (fun v x h => ((hX.adr v x).1 h).1) (fun v x h => adr_one'.1 ((hM.adr v x).1 h).1)
  · rw [List.map_append, adr_append, hX.adr, hM.adr, List.map_append, adr_append]
    constructor
    · rintro (⟨a, b⟩ | ⟨a, b⟩)
      · exact ⟨.inl a, b⟩
      · exact ⟨.inr a, b⟩
    · rintro ⟨a | a, b⟩
      · exact .inl ⟨a, b⟩
      · exact .inr ⟨a, b⟩
theorem adr_snoc {us : List Pf} {u : Pf} {v : Bool} {x : Int} : Adr ((us ++ [u]).map Pf.nd) v x ↔ Adr (us.map Pf.nd) v x ∨ u.nd.In v x := by rw [List.map_append, adr_append, adr_one']
theorem room_step {p u : Pf} {us F X : List Pf} (hF : IsRoom p us F) (hX : IsNorm X (fun v x => Adr (F.map Pf.nd) v x ∧ ¬ u.nd.In v x)) : IsRoom p (us ++ [u]) X :=
  hX.of fun v x => by
    rw [hF.adr, adr_snoc]
    constructor
    · rintro ⟨⟨a, b⟩, c⟩; exact ⟨a, fun h => h.elim b c⟩
    · rintro ⟨a, b⟩; exact ⟨⟨a, fun h => b (.inl h)⟩, fun h => b (.inr h)⟩
theorem room_nd {p : Pf} {us M : List Pf} (r : p.R) (hu : ∀ u ∈ us, u.R) (h : IsRoom p us M) : M.map Pf.nd = withinN [p.nd] (us.map Pf.nd) p.nd.h p.nd := by
  have os : ∀ s ∈ [p.nd], s.Ok := fun s hs => by rw [List.mem_singleton] at hs; subst hs; exact nd_ok r
  obtain ⟨a1, _, a3⟩ := withinN_ok [p.nd] (us.map Pf.nd) os (map_ok hu) p.nd.h p.nd (nd_ok r) rfl
  refine h.nrm.uniq a1 fun v x => ?_
  rw [h.adr, a3, adr_one]
  exact ⟨fun ⟨a, b⟩ => ⟨a, a, b⟩, fun ⟨a, _, b⟩ => ⟨a, b⟩⟩
theorem room_len {p : Pf} {us M : List Pf} (r : p.R) (hu : ∀ u ∈ us, u.R) (hl : us.length ≤ 12) (h : IsRoom p us M) : M.length ≤ 3073 := by
  have os : ∀ s ∈ [p.nd], s.Ok := fun s hs => by rw [List.mem_singleton] at hs; subst hs; exact nd_ok r
  have := withinN_few os (map_ok hu) (nd_ok r) rfl (by simp) (by simpa using hl) (nd_h_le r)
  rw [← room_nd r hu h, List.length_map] at this
  exact this
/-- All of it lies in p. -/
theorem room_in {p : Pf} {us M : List Pf} (r : p.R) (h : IsRoom p us M) {q : Pf} (hq : q ∈ M) : p.has q = true :=
  (has_nd r (h.right q hq)).2 (cover_one (nd_ok r) (nd_ok (h.right q hq)) fun v x hx => ((h.adr v x).1 ⟨q.nd, List.mem_map_of_mem hq, hx⟩).1)

theorem first_R {p : Pf} (r : p.R) {bits : Int} (h : p.b ≤ bits) (h' : bits ≤ wid p.v) : Pf.R ⟨p.v, p.hi, p.lo, bits⟩ := by
  have b0 := r.b0
  refine ⟨r.c, by show 0 ≤ bits; omega, h', r.h0, r.h1, r.l0, r.l1, ?_⟩
  obtain ⟨m, hm⟩ := amt_mod (v := p.v) b0 h h'
  have := r.al
  rw [hm] at this
  exact mod_of this
theorem nd_first (p : Pf) (bits : Int) : (Pf.nd ⟨p.v, p.hi, p.lo, bits⟩) = ⟨p.v, p.n, (wid p.v - bits).toNat⟩ := rfl
/-- The first one of a list that is wide enough, cut to size. -/
def wideP (bits : Int) (M : List Pf) : Option Pf := (M.find? fun q => decide (q.b ≤ bits)).map fun q => ⟨q.v, q.hi, q.lo, bits⟩
theorem wideP_nd {bits : Int} {t : Bool} : ∀ {M : List Pf}, (∀ q ∈ M, q.R ∧ q.v = t) → bits ≤ wid t → (∀ x ∈ wideP bits M, x.R ∧ x.v = t ∧ x.b = bits) ∧ (wideP bits M).map Pf.nd = wideN (wid t - bits).toNat (M.map Pf.nd)
  | [], _, _ => ⟨by simp [wideP], rfl⟩
  | q :: M, h, hb => by
    obtain ⟨rq, vq⟩ := h q (by simp)
    have b1 := rq.b1
    rw [vq] at b1
    obtain ⟨i1, i2⟩ := wideP_nd (M := M) (fun x hx => h x (by simp [hx])) hb
    unfold wideP wideN at *
    rw [List.map_cons, List.find?_cons, List.find?_cons]
    have e : decide ((wid t - bits).toNat ≤ q.nd.h) = decide (q.b ≤ bits) := by
      have : q.nd.h = (wid t - q.b).toNat := by rw [← vq]; rfl
      rw [this]
      apply decide_eq_decide.2
      omega
    rw [e]
    cases hd : decide (q.b ≤ bits) with
    | true =>
      have hq : q.b ≤ bits := by simpa using hd
      subst vq
      exact ⟨fun x hx => by simp at hx; subst hx; exact ⟨first_R rq hq hb, rfl, rfl⟩, rfl⟩
    | false => exact ⟨i1, i2⟩
theorem nd_inj_opt {a b : Option Pf} (ha : ∀ x ∈ a, x.R) (hb : ∀ x ∈ b, x.R) (h : a.map Pf.nd = b.map Pf.nd) : a = b := by
  cases a with
  | none => cases b with
    | none => rfl
    | some y => simp at h
  | some x => cases b with
    | none => simp at h
    | some y => simp at h; rw [nd_inj (ha x rfl) (hb y rfl) h]
end Go.Proofs.YtpbankmbdacdaaaGreatDoor

namespace Go.Proofs.YtpbankmbdacdaaaGreatDoor
open Go.RowKit

theorem room_v {p : Pf} {us M : List Pf} (r : p.R) (h : IsRoom p us M) : ∀ q ∈ M, q.R ∧ q.v = p.v := fun q hq => ⟨h.right q hq, ((has_nd r (h.right q hq)).1 (room_in r h hq)).1⟩
theorem pick_nd {p : Pf} {us M : List Pf} (r : p.R) (h : IsRoom p us M) {bits : Int} (h2 : bits ≤ wid p.v) {x : Pf} (hx : wideP bits M = some x) : x.R ∧ x.v = p.v ∧ x.b = bits ∧ wideN (wid p.v - bits).toNat (M.map Pf.nd) = some x.nd := by
  obtain ⟨a1, a2⟩ := wideP_nd (room_v r h) h2
  rw [hx] at a1 a2
  obtain ⟨b1, b2, b3⟩ := a1 x rfl
  exact ⟨b1, b2, b3, a2.symm⟩
theorem pick_adr {p : Pf} {us M : List Pf} (r : p.R) (h : IsRoom p us M) {bits : Int} (h2 : bits ≤ wid p.v) {x : Pf} (hx : wideP bits M = some x) : ∀ v y, x.nd.In v y → p.nd.In v y ∧ ¬ Adr (us.map Pf.nd) v y := fun v y hy =>
  (h.adr v y).1 ((wideN_in h.nrm (pick_nd r h h2 hx).2.2.2).2.2 v y hy)
theorem pick_in {p : Pf} {us M : List Pf} (r : p.R) (hu : ∀ u ∈ us, u.R) (h : IsRoom p us M) {bits : Int} (h2 : bits ≤ wid p.v) {x : Pf} (hx : wideP bits M = some x) :
    p.has x = true ∧ ∀ u ∈ us, u.has x = false ∧ x.has u = false := by
  obtain ⟨rx, _, _, _⟩ := pick_nd r h h2 hx
  have ad := pick_adr r h h2 hx
  refine ⟨(has_nd r rx).2 (cover_one (nd_ok r) (nd_ok rx) fun v y hy => (ad v y hy).1), fun u hm => ⟨?_, ?_⟩⟩
  · apply Bool.eq_false_iff.2
    intro k
    exact (ad _ _ x.nd.in_self).2 ⟨u.nd, List.mem_map_of_mem hm, Nd.has_in (nd_ok (hu u hm)) (nd_ok rx) ((has_nd (hu u hm) rx).1 k) x.nd.in_self⟩
  · apply Bool.eq_false_iff.2
    intro k
    exact (ad _ _ (Nd.has_in (nd_ok rx) (nd_ok (hu u hm)) ((has_nd rx (hu u hm)).1 k) u.nd.in_self)).2 ⟨u.nd, List.mem_map_of_mem hm, u.nd.in_self⟩
theorem pick_behind {p : Pf} {us M M2 : List Pf} (r : p.R) (h : IsRoom p us M) {bits : Int} (h2 : bits ≤ wid p.v) {x y : Pf} (hx : wideP bits M = some x) (h' : IsRoom p (us ++ [x]) M2) (hy : wideP bits M2 = some y) :
    lessB x.v x.hi x.lo y.v y.hi y.lo = true ∧ lessE x.v x.hi x.lo y.v y.hi y.lo = 0 := by
  obtain ⟨rx, vx, bx, nx⟩ := pick_nd r h h2 hx
  obtain ⟨ry, vy, by', ny⟩ := pick_nd r h' h2 hy
  have ad := pick_adr r h' h2 hy
  have hh : y.nd.h = (wid p.v - bits).toNat := by
    show (wid y.v - y.b).toNat = _
    rw [vy, by']
  obtain ⟨z, e1, e2⟩ := wideN_least h.nrm (nd_ok ry) fun v t ht => (h.adr v t).2 ⟨(ad v t ht).1, fun k => (ad v t ht).2 (by rw [adr_snoc]; exact .inl k)⟩
  rw [hh, nx] at e1
  injection e1 with e1
  subst e1
  have hne : ¬ x.nd.In y.nd.v y.nd.n := fun k => (ad _ _ y.nd.in_self).2 (by rw [adr_snoc]; exact .inr k)
  have hwp := x.nd.w_pos
  have hyw := y.nd.w_pos
  have hlt : x.nd.Ahead y.nd := by
    rcases e2 with ⟨a, b⟩ | ⟨a, b⟩
    · exact .inl ⟨a, b⟩
    · refine .inr ⟨a, ?_⟩
      rcases Int.lt_or_le y.nd.n (x.nd.n + x.nd.w) with k | k
      · exact absurd ⟨a, b, k⟩ hne
      · exact k
  exact ahead_less rx ry hlt
/-- Where nobody is all is free; where everybody is nothing is; who is elsewhere does not matter. -/
theorem room_self {p : Pf} : IsRoom p [p] [] := ⟨by simp, nrm_nil, fun v x => by rw [adr_one']; simp [Adr]⟩
theorem room_apart {p q : Pf} (r : p.R) (s : q.R) (h : p.has q = false) (h' : q.has p = false) : IsRoom p [q] [p] :=
  (room_nil r).of fun v x => by
    rw [adr_one']
    refine ⟨fun ⟨a, _⟩ => ⟨a, fun k => ?_⟩, fun ⟨a, _⟩ => ⟨a, by simp [Adr]⟩⟩
    rcases Nd.meet (nd_ok r) (nd_ok s) a k with e | e
    · rw [(has_nd r s).2 e] at h; exact absurd h (by decide)
    · rw [(has_nd s r).2 e] at h'; exact absurd h' (by decide)
theorem wide_one {p : Pf} {bits : Int} (h : p.b ≤ bits) : wideP bits [p] = some ⟨p.v, p.hi, p.lo, bits⟩ := by
  unfold wideP
  rw [List.find?_cons, decide_eq_true h]; rfl
end Go.Proofs.YtpbankmbdacdaaaGreatDoor

namespace Go.Proofs.YtpbankmbdacdaaaGreatDoor
open Go.RowKit

/-- What is wrong with what comes in, if something is. -/
def pkE (p : Pf) (us : List Pf) : Int := if p.chk = 0 then slkL us else p.chk

set_option maxHeartbeats 4000000 in
set_option maxRecDepth 100000 in
theorem plook_any (p : Pf) (a : Option Addr) (c : Nat) (us : List Pf) (w : World) (hp : p.Ok) (hok : ∀ u ∈ us, u.Ok) (hs : Sl w a us) :
    Calls Tryz.prog 13 #[.agg #[.bool p.v, .int .u64 p.hi, .int .u64 p.lo, .int .i64 p.b], .slice a us.length c] w fun e w' => e = .returned (.int .i64 (pkE p us)) ∧ Below w.heap.size w w' := by
  have HB := Lib.hid (pal w p.v p.hi p.lo p.b)
  have HC : Hid (∀ w : World, Calls Tryz.prog 10 #[.agg #[.bool p.v, .int .u64 p.hi, .int .u64 p.lo, .int .i64 p.b]] w fun e w' => e = .returned (.int .i64 p.chk) ∧ Below w.heap.size w w') := fun w => pcheck_any p.v p.hi p.lo p.b w hp.1 hp.2.1 hp.2.2.1 hp.2.2.2
  unfold pkE
  by_cases h : p.chk = 0
  · rw [if_pos h]
    rw [h] at HC
    by_cases hr : slkL us = 0
    · have HN := Lib.hid (fun w' (hb : Below w.heap.size w w') => sNorm_ok a c us w' hok (hs.below hb) hr)
      rw [hr]
      generalize us.length = N at *
      clear hok hs h hr hp
      go_enter Tryz.func13, Tryz.ntmps13
      go_wp2_with fail
      refine (HC.out _).mono ?_
      rintro e w2 ⟨rfl, hb⟩
      replace HB := Lib.hid (btr HB.out hb)
      clear hb HC
      go_wp2_with fail
      refine (HN.out _ HB.out).mono ?_
      rintro e w3 ⟨v, M, rfl, _, _, _, hb⟩
      replace HB := Lib.hid (btr HB.out hb)
      clear hb HN
      go_wp2
      go_ret
      exact ⟨rfl, HB.out⟩
    · have HN := Lib.hid (fun w' (hb : Below w.heap.size w w') => sNorm_bad a c us w' hok (hs.below hb) hr)
      generalize us.length = N at *
      generalize slkL us = r at *
      clear hok hs h hr hp
      go_enter Tryz.func13, Tryz.ntmps13
      go_wp2_with fail
      refine (HC.out _).mono ?_
      rintro e w2 ⟨rfl, hb⟩
      replace HB := Lib.hid (btr HB.out hb)
      clear hb HC
      go_wp2_with fail
      refine (HN.out _ HB.out).mono ?_
      rintro e w3 ⟨rfl, hb⟩
      replace HB := Lib.hid (btr HB.out hb)
      clear hb HN
      go_wp2
      go_ret
      exact ⟨rfl, HB.out⟩
  · rw [if_neg h]
    have hI : (p.chk != 0) = true := by rw [bne_iff_ne]; exact h
    generalize us.length = N at *
    generalize p.chk = r at *
    clear hok hs h hp
    go_enter Tryz.func13, Tryz.ntmps13
    go_wp2_with fail
    refine (HC.out _).mono ?_
    rintro e w2 ⟨rfl, hb⟩
    replace HB := Lib.hid (btr HB.out hb)
    clear hb HC
    go_wp2
    go_ret
    exact ⟨rfl, HB.out⟩

/-- A row of the call's own, with the norm of all that is left. -/
def RoomPost (w : World) (p : Pf) (us : List Pf) (e : Ending) (w' : World) : Prop := ∃ v M, e = .returned v ∧ w'.ownsRow w.heap.size 26 4 v M.length (flat M) ∧ IsRoom p us M ∧ Below w.heap.size w w'
theorem one_chk {q : Pf} (r : q.R) : slkL [q] = 0 := by
  unfold slkL schk schk
  rw [if_neg (by simp), show q.chk = 0 from (right_iff _ _ _ _ r.h0 r.h1 r.l0 r.l1).2 r]; rfl
theorem one_min {q u : Pf} (r : q.R) (s : u.R) : sMinE [q] u = 0 := by
  rw [sMinE, if_pos (one_chk r)]; exact (right_iff _ _ _ _ s.h0 s.h1 s.l0 s.l1).2 s
theorem pR_ok {p : Pf} (r : p.R) : p.Ok := ⟨r.h0, r.h1, r.l0, r.l1⟩
theorem sl_one1 (w : World) (p : Pf) : Sl (w.alloc (.cells #[.bool p.v, .int .u64 p.hi, .int .u64 p.lo, .int .i64 p.b] 26)) (some ⟨w.heap.size, 0, none⟩) [p] := by
  intro j hj
  obtain rfl : j = 0 := by simp at hj; exact hj
  refine ⟨_, _, rfl, by simp, ?_⟩
  simp [go_sem]
theorem sl_one2 (w : World) (p : Pf) (o : Obj) : Sl ((w.alloc o).alloc (.cells #[.bool p.v, .int .u64 p.hi, .int .u64 p.lo, .int .i64 p.b] 26)) (some ⟨w.heap.size + 1, 0, none⟩) [p] := by
  have := sl_one1 (w.alloc o) p
  rw [World.size_alloc] at this
  exact this
theorem wpList_append_many {P : Program} {w : World} {ops : Array Oper} {rest : List Oper} {o : Oper} {a : Act} {Q : Exit → Act → World → Prop} (hgd : o.guard = none) (s x : Operand) (t : TypeId)
    (ho : o.op = .call { callee := .builtin .append, args := #[s, x], argTypes := #[t, t] })
    (base : Nat) (i : TypeInfo) (z : Value) (ht : P.underlying t = some (.slice 26)) (hi : P.info? 26 = some i) (hz : i.zero = some z)
    (hsize : i.size = 4) (hby : i.bytes = 32) (hzs : z.cells.size = 4)
    (v : Value) (xs : List Pf) (hs : a.eval s = v) (hown : w.ownsRow base 26 4 v xs.length (flat xs))
    (vx : Value) (B2 : Nat) (ys : List Pf) (hx : a.eval x = vx) (hown2 : w.ownsRow B2 26 4 vx ys.length (flat ys))
    (h63 : xs.length + ys.length ≤ 100000000) (hbase : base ≤ w.heap.size)
    (h : ∀ v' w', w'.ownsRow base 26 4 v' (xs ++ ys).length (flat (xs ++ ys)) → w.grownBy w' v.ownBlock → wpList P ops Q rest (a.put o.dst v') w') : wpList P ops Q (o :: rest) a w := by
  obtain ⟨ad, c, rfl, hc, hsl⟩ := own_sl hown2
  obtain ⟨hl, h2⟩ := hown2
  rcases h2 with ⟨e, h0⟩ | ⟨g, cap, cur, e, hg, h3⟩
  · have : ys = [] := List.length_eq_zero_iff.1 h0
    subst this
    rw [e] at hx
    refine wpList_append_own_none hgd s x t ho base 26 i 4 ht hi v xs.length (flat xs) hs hown hx ?_
    exact h v w (by simpa using hown) (World.grownBy.refl _ _)
  · injection e with e1 e2 e3
    subst e1 e3
    refine wpList_append_own w hgd s x t ho base 26 i z 4 32 ht hi hz hsize hby hzs (by decide) v xs.length (flat xs) hs hown ⟨g, 0, none⟩ ys.length c (flat ys) hx hl (sl_news hsl) (flat_one _) (by unfold maxLen; omega) (by omega) hbase (fun v' w' a b _ => h v' w' ?_ b)
    rw [List.length_append, flat_append]; exact a
/-- Minus at a list of one. -/
theorem minus_one (a : Addr) (c : Nat) (q u : Pf) (w : World) (rq : q.R) (ru : u.R) (hs : Sl w (some a) [q]) :
    Calls Tryz.prog 34 #[.slice (some a) 1 c, .agg #[.bool u.v, .int .u64 u.hi, .int .u64 u.lo, .int .i64 u.b]] w (NormPost2 w 1548 (fun v x => Adr ([q].map Pf.nd) v x ∧ ¬ u.nd.In v x)) :=
  sMinus_ok (some a) c [q] u w (fun p hp => by rw [List.mem_singleton] at hp; subst hp; exact pR_ok rq) (pR_ok ru) hs (one_min rq ru)

set_option maxHeartbeats 16000000 in
set_option maxRecDepth 100000 in
theorem room_any (p : Pf) (a : Option Addr) (c : Nat) (us : List Pf) (w : World) (rp : p.R) (hu : ∀ u ∈ us, u.R) (hl : us.length ≤ 12) (hs : Sl w a us) :
    Calls Tryz.prog 14 #[.agg #[.bool p.v, .int .u64 p.hi, .int .u64 p.lo, .int .i64 p.b], .slice a us.length c] w (RoomPost w p us) := by
  obtain ⟨N, hN⟩ : ∃ N, N = us.length := ⟨_, rfl⟩
  rw [← hN] at hl ⊢
  have HN := Lib.hid hN
  have Hp := Lib.hid rp
  have Hu := Lib.hid hu
  have Hs := Lib.hid hs
  obtain ⟨i0, hi0, hz0, hz1, hz2⟩ := info_parts infoP
  clear hN rp hu hs
  go_enter Tryz.func14, Tryz.ntmps14
  go_wp2_with fail
  go_loopw [5, 17] (fun vf vi wr => ∃ (k : Nat) (F : List Pf), vi = .int .i64 k ∧ k ≤ N ∧ Hid (wr.ownsRow w.heap.size 26 4 vf F.length (flat F)) ∧ Hid (IsRoom p (us.take k) F) ∧ Hid (Below w.heap.size w wr))
    (fun _ vi _ => N - (intOf vi).toNat)
  case atStart => exact ⟨0, [p], rfl, Nat.zero_le _, (by have := row_one (w.alloc (.cells #[.bool p.v, .int .u64 p.hi, .int .u64 p.lo, .int .i64 p.b] 26)) p; rw [World.size_alloc] at this; exact row_base this (Nat.le_succ _)), room_nil Hp.out, bal (bal (Below.refl _ _) _) _⟩
  case round =>
    obtain ⟨k, F, rfl, hk, HO, HR, HB⟩ := hrel
    have hN := HN.out
    by_cases hkN : k < N
    · have hkl : k < us.length := by omega
      obtain ⟨g, o, rfl, hg, c0, c1, c2, c3⟩ := Hs.out k hkl
      rw [← (bcell HB.out).1 _ _ hg] at c0 c1 c2 c3
      have q3 : (k : Int) < (N : Int) := by omega
      have q4 : (0 : Int) ≤ (k : Int) := by omega
      have HT : Hid (us.take (k + 1) = us.take k ++ [us[k]]) := List.take_succ_eq_append_getElem hkl
      have Hru := Lib.hid (Hu.out _ (List.getElem_mem hkl))
      have HLn := Lib.hid (room_len Hp.out (us := us.take k) (fun u hu => Hu.out u (List.mem_of_mem_take hu)) (by rw [List.length_take]; omega) HR.out)
      generalize us[k] = u at *
      obtain ⟨af, cf, rfl, hcf, sf⟩ := own_sl HO.out
      have HF := Lib.hid sf
      obtain ⟨M, hM⟩ : ∃ M, M = F.length := ⟨_, rfl⟩
      rw [← hM] at hcf ⊢
      have HM := Lib.hid hM
      have hM8 : M ≤ 3073 := by rw [hM]; exact HLn.out
      clear hN sf hM
      go_wp2_with fail
      have HUb := Lib.hid (Has4.new wr u.v u.hi u.lo u.b 26)
      have HFo := Lib.hid (HF.out.below (pal wr u.v u.hi u.lo u.b))
      have HOo := Lib.hid (own_keep HO.out (pal wr u.v u.hi u.lo u.b))
      have HBo := Lib.hid (btr HB.out (pal wr u.v u.hi u.lo u.b))
      have hbu : Hid (wr.heap.size < (wr.alloc (.cells #[.bool u.v, .int .u64 u.hi, .int .u64 u.lo, .int .i64 u.b] 26)).heap.size) := Lib.hid (by simp)
      generalize wr.alloc (.cells #[.bool u.v, .int .u64 u.hi, .int .u64 u.lo, .int .i64 u.b] 26) = wo at *
      generalize wr.heap.size = bu at *
      clear HF HO HB c0 c1 c2 c3
      go_loopw [8, 23] (fun vl vj wi => ∃ (j : Nat) (X : List Pf), vj = .int .i64 j ∧ j ≤ M ∧ Hid (wi.ownsRow wo.heap.size 26 4 vl X.length (flat X)) ∧ Hid (IsNorm X (fun v x => Adr ((F.take j).map Pf.nd) v x ∧ ¬ u.nd.In v x)) ∧ Hid (X.length ≤ 1548 * j) ∧ Hid (Below wo.heap.size wo wi))
        (fun _ vj _ => M - (intOf vj).toNat)
      case atStart => exact ⟨0, [], rfl, Nat.zero_le _, row_nil _ _ _ _, ⟨by simp, nrm_nil, fun v x => by simp [Adr]⟩, Nat.le_refl _, Below.refl _ _⟩
      case round =>
        obtain ⟨j, X, rfl, hj, HX, HXn, HXl, HBi⟩ := hrel
        have hMM := HM.out
        by_cases hjM : j < M
        · have hjl : j < F.length := by omega
          obtain ⟨g', o', rfl, hg', d0, d1, d2, d3⟩ := HFo.out j hjl
          rw [← (bcell HBi.out).1 _ _ hg'] at d0 d1 d2 d3
          have r3 : (j : Int) < (M : Int) := by omega
          have r4 : (0 : Int) ≤ (j : Int) := by omega
          have HFT : Hid (F.take (j + 1) = F.take j ++ [F[j]]) := List.take_succ_eq_append_getElem hjl
          have Hrq := Lib.hid (HR.out.right _ (List.getElem_mem hjl))
          have HNm : Hid (Nrm ((F.take j ++ [F[j]]).map Pf.nd)) := Lib.hid (by
            rw [← List.take_succ_eq_append_getElem hjl, List.map_take]
            exact ⟨fun p hp => HR.out.nrm.1 p (List.mem_of_mem_take hp), HR.out.nrm.2.sublist (List.take_sublist _ _)⟩)
          generalize F[j] = q at *
          have HUi := Lib.hid (HUb.out.below HBi.out)
          obtain ⟨b0, b1, b2, b3, b4⟩ := HUi.out
          clear hMM
          go_wp2_with fail
          refine (minus_one _ _ q u _ Hrq.out Hru.out (sl_one2 _ q _)).mono ?_
          rintro e w5 ⟨v5, Y, rfl, o5, n5, l5, bb5⟩
          have HBi5 : Hid (Below wo.heap.size wo w5) := HBi.out.trans (below_le (btr (bal (pal wr q.v q.hi q.lo q.b) _) bb5) HBi.out.size)
          have HX5 := Lib.hid (own_keep HX.out (btr (bal (pal wr q.v q.hi q.lo q.b) (.cells #[.bool q.v, .int .u64 q.hi, .int .u64 q.lo, .int .i64 q.b] 26)) bb5))
          have HY5 := Lib.hid o5
          have HYn := Lib.hid n5
          have HYl := Lib.hid l5
          clear o5 n5 l5 bb5 b0 b1 b2 b3 b4 d0 d1 d2 d3
          have HLL : Hid (X.length + Y.length ≤ 100000000) := Lib.hid (by have := HXl.out; have := HYl.out; have := HLn.out; have := HM.out; omega)
          go_wp2_with (at_builtin; refine wpList_append_many rfl _ _ 27 rfl wo.heap.size i0 _ Tryz.underlying27 hi0 hz0 hz1 hz2 rfl _ _ rfl HX5.out v5 _ Y rfl HY5.out HLL.out HBi5.out.size ?_)
          intro v6 w6 hown6 hgrow6
          have HBi6 : Hid (Below wo.heap.size wo w6) := HBi5.out.grown hgrow6 HBi5.out.size (fun k hk => (HX5.out.lt k hk).1)
          have HX6 : Hid (w6.ownsRow wo.heap.size 26 4 v6 (X ++ Y).length (flat (X ++ Y))) := by rw [List.length_append]; exact hown6
          have HXl6 : Hid ((X ++ Y).length ≤ 1548 * (j + 1)) := Lib.hid (by rw [List.length_append]; have := HXl.out; have := HYl.out; omega)
          have HXn6 : Hid (IsNorm (X ++ Y) (fun v x => Adr ((F.take (j + 1)).map Pf.nd) v x ∧ ¬ u.nd.In v x)) := Lib.hid (by rw [HFT.out]; exact join_norm HNm.out HXn.out HYn.out)
          clear hown6 hgrow6
          go_wp2_with fail
          go_roundw
          case rel => exact ⟨j + 1, X ++ Y, by go_num, by omega, HX6, HXn6, HXl6, HBi6⟩
          case measure => simp [intOf]; omega
        · obtain rfl : j = M := by omega
          have r3 : decide ((j : Int) < (j : Int)) = false := by simp
          have HB7 : Hid (Below w.heap.size w wr) := HBo.out.trans (below_le HBi.out HBo.out.size)
          have HX7 := Lib.hid (row_base HX.out HBo.out.size)
          have HR7 : Hid (IsRoom p (us.take (k + 1)) X) := Lib.hid (by
            rw [HT.out]
            refine room_step HR.out ?_
            have := HXn.out
            rw [List.take_of_length_le (by have := HM.out; omega)] at this
            exact this)
          clear hMM
          go_wp2_with fail
          go_roundw
          case rel => exact ⟨k + 1, X, by go_num, by omega, HX7, HR7, HB7⟩
          case measure => simp [intOf]; omega
    · obtain rfl : k = N := by omega
      have q3 : decide ((k : Int) < (k : Int)) = false := by simp
      have HR7 : Hid (IsRoom p us F) := Lib.hid (by
        have := HR.out
        rw [List.take_of_length_le (by omega)] at this
        exact this)
      clear hN
      go_wp2_with fail
      go_ret
      exact ⟨_, F, rfl, HO.out, HR7.out, HB.out⟩
end Go.Proofs.YtpbankmbdacdaaaGreatDoor

namespace Go.Proofs.YtpbankmbdacdaaaGreatDoor
open Go.RowKit

theorem pkE_ok {p : Pf} {us : List Pf} (hp : p.Ok) (hok : ∀ u ∈ us, u.Ok) (h : pkE p us = 0) : p.R ∧ us.length ≤ 12 ∧ ∀ u ∈ us, u.R := by
  unfold pkE at h
  split at h
  · rename_i h'
    exact ⟨(right_iff _ _ _ _ hp.1 hp.2.1 hp.2.2.1 hp.2.2.2).1 h', slkL_ok hok h⟩
  · exact absurd h ‹_›

set_option maxHeartbeats 4000000 in
set_option maxRecDepth 100000 in
theorem pFree_bad (p : Pf) (a : Option Addr) (c : Nat) (us : List Pf) (w : World) (hp : p.Ok) (hok : ∀ u ∈ us, u.Ok) (hs : Sl w a us) (h : pkE p us ≠ 0) :
    Calls Tryz.prog 12 #[.agg #[.bool p.v, .int .u64 p.hi, .int .u64 p.lo, .int .i64 p.b], .slice a us.length c] w fun e w' => e = .returned (.tuple #[.slice none 0 0, .int .i64 (pkE p us)]) ∧ Below w.heap.size w w' := by
  have HB := Lib.hid (pal w p.v p.hi p.lo p.b)
  have HK := Lib.hid (fun w' (hb : Below w.heap.size w w') => plook_any p a c us w' hp hok (hs.below hb))
  have hI : (pkE p us != 0) = true := by rw [bne_iff_ne]; exact h
  generalize us.length = N at *
  generalize pkE p us = r at *
  clear hok hs h hp
  go_enter Tryz.func12, Tryz.ntmps12
  go_wp2_with fail
  refine (HK.out _ HB.out).mono ?_
  rintro e w2 ⟨rfl, hb⟩
  replace HB := Lib.hid (btr HB.out hb)
  clear hb HK
  go_wp2
  go_ret2
  exact ⟨rfl, HB.out⟩

/-- Free hands back a row of its own, with the norm of what is left. -/
def FreePost (w : World) (p : Pf) (us : List Pf) (e : Ending) (w' : World) : Prop := ∃ v M, e = .returned (.tuple #[v, .int .i64 0]) ∧ w'.ownsRow w.heap.size 26 4 v M.length (flat M) ∧ IsRoom p us M ∧ Below w.heap.size w w'
set_option maxHeartbeats 4000000 in
set_option maxRecDepth 100000 in
theorem pFree_ok (p : Pf) (a : Option Addr) (c : Nat) (us : List Pf) (w : World) (hp : p.Ok) (hok : ∀ u ∈ us, u.Ok) (hs : Sl w a us) (h : pkE p us = 0) :
    Calls Tryz.prog 12 #[.agg #[.bool p.v, .int .u64 p.hi, .int .u64 p.lo, .int .i64 p.b], .slice a us.length c] w (FreePost w p us) := by
  have HB := Lib.hid (pal w p.v p.hi p.lo p.b)
  have HP := Lib.hid (Has4.new w p.v p.hi p.lo p.b 26)
  have HK := Lib.hid (fun w' (hb : Below w.heap.size w w') => plook_any p a c us w' hp hok (hs.below hb))
  obtain ⟨rp, hl, hu⟩ := pkE_ok hp hok h
  have HR := Lib.hid (fun w' (hb : Below w.heap.size w w') => room_any p a c us w' rp hu hl (hs.below hb))
  rw [h] at HK
  generalize us.length = N at *
  clear hok hs h hp rp hl hu
  go_enter Tryz.func12, Tryz.ntmps12
  go_wp2_with fail
  refine (HK.out _ HB.out).mono ?_
  rintro e w2 ⟨rfl, hb⟩
  replace HB := Lib.hid (btr HB.out hb)
  replace HP := Lib.hid (HP.out.below hb)
  clear hb HK
  obtain ⟨a0, a1, a2, a3, a4⟩ := HP.out
  go_wp2_with fail
  refine (HR.out _ HB.out).mono ?_
  rintro e w3 ⟨v, M, rfl, ho, hn, hb⟩
  have HO := Lib.hid (row_base ho HB.out.size)
  have HN := Lib.hid hn
  replace HB := Lib.hid (btr HB.out hb)
  clear hb ho hn HR a0 a1 a2 a3 a4
  go_wp2
  go_ret2
  exact ⟨v, M, rfl, HO.out, HN.out, HB.out⟩

theorem first1_any (bb : Nat) (bits : Int) (q : Pf) (w : World) (hc : w.cell? ⟨bb, 0, none⟩ = some (.int .i64 bits)) (hb : bb < w.heap.size) :
    Calls Tryz.prog 16 #[.agg #[.bool q.v, .int .u64 q.hi, .int .u64 q.lo, .int .i64 q.b], .pointer (some ⟨bb, 0, none⟩)] w fun e w' => e = .returned (.bool (decide (q.b ≤ bits))) ∧ Below w.heap.size w w' := by
  have hne : ¬ w.heap.size = bb := by omega
  go_enter Tryz.func16, Tryz.ntmps16
  go_wp2
  go_ret
  exact ⟨rfl, bal (Below.refl _ _) _⟩
theorem enters_first1 : ∀ args w, (callFunc 16 args).run Tryz.prog w = .ok (.enter 16 args) w := enters_of Tryz.func16 (by kernel_rfl) rfl
theorem pindex_empty (a : Option Addr) (c : Nat) (fv : Value) (w : World) :
    Calls Tryz.prog 15 #[.slice a 0 c, fv] w fun e w' => e = .returned (.int .i64 (-1)) ∧ w' = w := by
  go_enter Tryz.func15, Tryz.ntmps15
  go_wp2_with fail
  refine wp_loop_rounds 1 ?_
  rw [rounds_succ]
  go_wp2
  go_ret
  exact ⟨rfl, rfl⟩
/-- Which one is the first that is wide enough; none: all are too small. -/
def WideAt (bits : Int) (M : List Pf) (i : Int) : Prop := (i = -1 ∧ wideP bits M = none) ∨ ∃ (k : Nat) (h : k < M.length), i = k ∧ wideP bits M = some ⟨(M[k]).v, (M[k]).hi, (M[k]).lo, bits⟩
theorem idx_wide (bits : Int) (d : Pf) : ∀ (M : List Pf) (i : Nat), (Lib.idxByFrom (fun _ y => decide (y.b ≤ bits)) d M i = -1 ∧ wideP bits M = none) ∨ ∃ (k : Nat) (h : k < M.length), Lib.idxByFrom (fun _ y => decide (y.b ≤ bits)) d M i = ((i + k : Nat) : Int) ∧ wideP bits M = some ⟨(M[k]).v, (M[k]).hi, (M[k]).lo, bits⟩
  | [], i => .inl ⟨rfl, rfl⟩
  | q :: M, i => by
    unfold wideP
    rw [List.find?_cons, Lib.idxByFrom]
    cases hd : decide (q.b ≤ bits) with
    | true => exact .inr ⟨0, by simp, by simp, rfl⟩
    | false =>
      rcases idx_wide bits d M (i + 1) with ⟨e1, e2⟩ | ⟨k, h, e1, e2⟩
      · exact .inl ⟨by simpa using e1, e2⟩
      · refine .inr ⟨k + 1, by simpa using h, ?_, ?_⟩
        · simp only [Bool.false_eq_true, if_false]
          rw [e1]; congr 1; omega
        · exact e2
def encQ (p : Pf) : List Value := [.bool p.v, .int .u64 p.hi, .int .u64 p.lo, .int .i64 p.b]
theorem pindex_any (bb : Nat) (a : Option Addr) (c : Nat) (M : List Pf) (bits : Int) (w : World) (hl : M.length ≤ 4096) (hs : Sl w a M) (hc : w.cell? ⟨bb, 0, none⟩ = some (.int .i64 bits)) (hb : bb < w.heap.size) :
    Calls Tryz.prog 15 #[.slice a M.length c, .func (.func 16) #[] #[.pointer (some ⟨bb, 0, none⟩)]] w fun e w' => ∃ i, e = .returned (.int .i64 i) ∧ WideAt bits M i ∧ Below w.heap.size w w' := by
  by_cases h0 : M.length = 0
  · have : M = [] := List.length_eq_zero_iff.1 h0
    subst this
    refine (pindex_empty a c _ w).mono ?_
    rintro e w' ⟨rfl, rfl⟩
    exact ⟨-1, rfl, .inl ⟨rfl, rfl⟩, Below.refl _ _⟩
  · obtain ⟨g, o, rfl, hg, _⟩ := hs 0 (by omega)
    have hp : PredBelow Tryz.prog 16 #[.pointer (some ⟨bb, 0, none⟩)] (fun x => .agg (encQ x).toArray) (fun q => decide (q.b ≤ bits)) w := fun W x hB =>
      (first1_any bb bits x W (by rw [(bcell hB).1 _ _ hb]; exact hc) (Nat.lt_of_lt_of_le hb hB.size)).mono fun e w' ⟨h1, h2⟩ => ⟨h1, btr hB h2⟩
    letI : Inhabited Pf := ⟨⟨false, 0, 0, 0⟩⟩
    refine (Tryz.slices_IndexFunc (α := Pf) 4 aggP sizeP encQ (fun _ => rfl) (fun q => decide (q.b ≤ bits)) 16 #[.pointer (some ⟨bb, 0, none⟩)] enters_first1 g o M.length c M w hp (Nat.le_refl _) (by omega) hg ?_).mono ?_
    · intro j hj i v hv
      obtain ⟨g', o', e, _, c0, c1, c2, c3⟩ := hs j hj
      obtain ⟨rfl, rfl⟩ : g = g' ∧ o = o' := by simpa using e
      rw [getElem!_pos M j hj] at hv
      match i, hv with
      | 0, hv => simp [encQ] at hv; subst hv; exact c0
      | 1, hv => simp [encQ] at hv; subst hv; exact c1
      | 2, hv => simp [encQ] at hv; subst hv; exact c2
      | 3, hv => simp [encQ] at hv; subst hv; exact c3
      | (i + 4), hv => simp [encQ] at hv
    · rintro e w' ⟨rfl, hB⟩
      refine ⟨_, rfl, ?_, hB⟩
      rw [List.take_of_length_le (Nat.le_refl _)]
      rcases idx_wide bits _ M 0 with ⟨e1, e2⟩ | ⟨k, h, e1, e2⟩
      · exact .inl ⟨e1, e2⟩
      · exact .inr ⟨k, h, by unfold Lib.idxBy; rw [e1]; simp, e2⟩

def Has1 (w : World) (p : Nat) (x : Value) : Prop := w.cell? ⟨p, 0, none⟩ = some x ∧ p < w.heap.size
theorem Has1.below {W w' : World} {p : Nat} {x : Value} (h : Has1 W p x) (hb : Below W.heap.size W w') : Has1 w' p x := ⟨by rw [(bcell hb).1 _ _ h.2]; exact h.1, Nat.lt_of_lt_of_le h.2 hb.size⟩
theorem Has1.alloc {W : World} {p : Nat} {x : Value} (h : Has1 W p x) (o : Obj) : Has1 (W.alloc o) p x := h.below (bal (Below.refl _ _) _)
theorem Has1.new (W : World) (x : Value) (t : Nat) : Has1 (W.alloc (.cells #[x] t)) W.heap.size x := ⟨by simp [go_sem], by simp⟩
theorem Has1.new' (W : World) (o : Obj) (x : Value) (t : Nat) : Has1 ((W.alloc o).alloc (.cells #[x] t)) (W.heap.size + 1) x := by
  have := Has1.new (W.alloc o) x t
  rw [World.size_alloc] at this
  exact this

set_option maxHeartbeats 8000000 in
set_option maxRecDepth 100000 in
theorem pFirst_bad (p : Pf) (a : Option Addr) (c : Nat) (us : List Pf) (bits : Int) (w : World) (hp : p.Ok) (hok : ∀ u ∈ us, u.Ok) (hs : Sl w a us) (h : pkE p us ≠ 0) :
    Calls Tryz.prog 5 #[.agg #[.bool p.v, .int .u64 p.hi, .int .u64 p.lo, .int .i64 p.b], .slice a us.length c, .int .i64 bits] w fun e w' => e = .returned (.tuple #[.agg #[.bool false, .int .u64 0, .int .u64 0, .int .i64 0], .int .i64 (pkE p us)]) ∧ Below w.heap.size w w' := by
  have HB : Hid (Below w.heap.size w (((w.alloc (.cells #[.bool p.v, .int .u64 p.hi, .int .u64 p.lo, .int .i64 p.b] 26)).alloc (.cells #[.int .i64 bits] 3)).alloc (.cells #[.bool false, .int .u64 0, .int .u64 0, .int .i64 0] 26))) := bal (bal (pal w p.v p.hi p.lo p.b) _) _
  have HK := Lib.hid (fun w' (hb : Below w.heap.size w w') => plook_any p a c us w' hp hok (hs.below hb))
  have HP : Hid (Has4 (((w.alloc (.cells #[.bool p.v, .int .u64 p.hi, .int .u64 p.lo, .int .i64 p.b] 26)).alloc (.cells #[.int .i64 bits] 3)).alloc (.cells #[.bool false, .int .u64 0, .int .u64 0, .int .i64 0] 26)) w.heap.size p.v p.hi p.lo p.b) := ((Has4.new w p.v p.hi p.lo p.b 26).alloc _).alloc _
  have HC1 : Hid (Has1 (((w.alloc (.cells #[.bool p.v, .int .u64 p.hi, .int .u64 p.lo, .int .i64 p.b] 26)).alloc (.cells #[.int .i64 bits] 3)).alloc (.cells #[.bool false, .int .u64 0, .int .u64 0, .int .i64 0] 26)) (w.heap.size + 1) (.int .i64 bits)) := (Has1.new' w _ (.int .i64 bits) 3).alloc _
  have HQ : Hid (Own4 (((w.alloc (.cells #[.bool p.v, .int .u64 p.hi, .int .u64 p.lo, .int .i64 p.b] 26)).alloc (.cells #[.int .i64 bits] 3)).alloc (.cells #[.bool false, .int .u64 0, .int .u64 0, .int .i64 0] 26)) (w.heap.size + 1 + 1) (.bool false) (.int .u64 0) (.int .u64 0) (.int .i64 0)) := by
    have := Own4.new ((w.alloc (.cells #[.bool p.v, .int .u64 p.hi, .int .u64 p.lo, .int .i64 p.b] 26)).alloc (.cells #[.int .i64 bits] 3)) (.bool false) (.int .u64 0) (.int .u64 0) (.int .i64 0) 26
    rw [World.size_alloc, World.size_alloc] at this
    exact this
  have hI : (pkE p us != 0) = true := by rw [bne_iff_ne]; exact h
  generalize us.length = N at *
  generalize pkE p us = r at *
  clear hok hs h hp
  go_enter Tryz.func5, Tryz.ntmps5
  go_wp2_with fail
  refine (HK.out _ HB.out).mono ?_
  rintro e w2 ⟨rfl, hb⟩
  replace HB := Lib.hid (btr HB.out hb)
  replace HP := Lib.hid (HP.out.below hb)
  replace HC1 := Lib.hid (HC1.out.below hb)
  replace HQ := Lib.hid (HQ.out.below hb)
  clear hb HK
  obtain ⟨⟨q0, q1, q2, q3⟩, ⟨q4, q5, q6, q7⟩, q8⟩ := HQ.out
  go_wp2
  refine bodyPost_ret (v := .tuple #[.agg #[.bool false, .int .u64 0, .int .u64 0, .int .i64 0], .int .i64 r]) ?_ rfl ⟨rfl, ?_⟩
  · simp [results, Tryz.results5, go_sem, q0, q1, q2, q3]
  · exact bse (bse (bse (bse (HB.out) (by first | (simp; done) | (simp; omega)) _) (by first | (simp; done) | (simp; omega)) _) (by first | (simp; done) | (simp; omega)) _) (by first | (simp; done) | (simp; omega)) _

set_option maxHeartbeats 8000000 in
set_option maxRecDepth 100000 in
theorem pFirst_range (p : Pf) (a : Option Addr) (c : Nat) (us : List Pf) (bits : Int) (w : World) (hp : p.Ok) (hok : ∀ u ∈ us, u.Ok) (hs : Sl w a us) (h : pkE p us = 0) (hr : bits < p.b ∨ wid p.v < bits) :
    Calls Tryz.prog 5 #[.agg #[.bool p.v, .int .u64 p.hi, .int .u64 p.lo, .int .i64 p.b], .slice a us.length c, .int .i64 bits] w fun e w' => e = .returned (.tuple #[.agg #[.bool false, .int .u64 0, .int .u64 0, .int .i64 0], .int .i64 3]) ∧ Below w.heap.size w w' := by
  have HB : Hid (Below w.heap.size w (((w.alloc (.cells #[.bool p.v, .int .u64 p.hi, .int .u64 p.lo, .int .i64 p.b] 26)).alloc (.cells #[.int .i64 bits] 3)).alloc (.cells #[.bool false, .int .u64 0, .int .u64 0, .int .i64 0] 26))) := bal (bal (pal w p.v p.hi p.lo p.b) _) _
  have HK := Lib.hid (fun w' (hb : Below w.heap.size w w') => plook_any p a c us w' hp hok (hs.below hb))
  have HP : Hid (Has4 (((w.alloc (.cells #[.bool p.v, .int .u64 p.hi, .int .u64 p.lo, .int .i64 p.b] 26)).alloc (.cells #[.int .i64 bits] 3)).alloc (.cells #[.bool false, .int .u64 0, .int .u64 0, .int .i64 0] 26)) w.heap.size p.v p.hi p.lo p.b) := ((Has4.new w p.v p.hi p.lo p.b 26).alloc _).alloc _
  have HC1 : Hid (Has1 (((w.alloc (.cells #[.bool p.v, .int .u64 p.hi, .int .u64 p.lo, .int .i64 p.b] 26)).alloc (.cells #[.int .i64 bits] 3)).alloc (.cells #[.bool false, .int .u64 0, .int .u64 0, .int .i64 0] 26)) (w.heap.size + 1) (.int .i64 bits)) := (Has1.new' w _ (.int .i64 bits) 3).alloc _
  have HQ : Hid (Own4 (((w.alloc (.cells #[.bool p.v, .int .u64 p.hi, .int .u64 p.lo, .int .i64 p.b] 26)).alloc (.cells #[.int .i64 bits] 3)).alloc (.cells #[.bool false, .int .u64 0, .int .u64 0, .int .i64 0] 26)) (w.heap.size + 1 + 1) (.bool false) (.int .u64 0) (.int .u64 0) (.int .i64 0)) := by
    have := Own4.new ((w.alloc (.cells #[.bool p.v, .int .u64 p.hi, .int .u64 p.lo, .int .i64 p.b] 26)).alloc (.cells #[.int .i64 bits] 3)) (.bool false) (.int .u64 0) (.int .u64 0) (.int .i64 0) 26
    rw [World.size_alloc, World.size_alloc] at this
    exact this
  rw [h] at HK
  by_cases hlt : bits < p.b
  · have d1 : decide (bits < p.b) = true := decide_eq_true hlt
    generalize us.length = N at *
    clear hok hs h hp hr
    go_enter Tryz.func5, Tryz.ntmps5
    go_wp2_with fail
    refine (HK.out _ HB.out).mono ?_
    rintro e w2 ⟨rfl, hb⟩
    replace HB := Lib.hid (btr HB.out hb)
    replace HP := Lib.hid (HP.out.below hb)
    replace HC1 := Lib.hid (HC1.out.below hb)
    replace HQ := Lib.hid (HQ.out.below hb)
    clear hb HK
    obtain ⟨a0, a1, a2, a3, a4⟩ := HP.out
    obtain ⟨b0, b1⟩ := HC1.out
    obtain ⟨⟨q0, q1, q2, q3⟩, ⟨q4, q5, q6, q7⟩, q8⟩ := HQ.out
    go_wp2
    refine bodyPost_ret (v := .tuple #[.agg #[.bool false, .int .u64 0, .int .u64 0, .int .i64 0], .int .i64 3]) ?_ rfl ⟨rfl, ?_⟩
    · simp [results, Tryz.results5, go_sem, q0, q1, q2, q3]
    · exact bse (bse (bse (bse (HB.out) (by first | (simp; done) | (simp; omega)) _) (by first | (simp; done) | (simp; omega)) _) (by first | (simp; done) | (simp; omega)) _) (by first | (simp; done) | (simp; omega)) _
  · have d1 : decide (bits < p.b) = false := decide_eq_false hlt
    have hne : ((pchk p.v p.hi p.lo bits) != 0) = true := by
      rw [bne_iff_ne]
      intro e
      have := ((right_iff _ _ _ _ hp.1 hp.2.1 hp.2.2.1 hp.2.2.2).1 e).b1
      omega
    have HCk : Hid (∀ w : World, Calls Tryz.prog 10 #[.agg #[.bool p.v, .int .u64 p.hi, .int .u64 p.lo, .int .i64 bits]] w fun e w' => e = .returned (.int .i64 (pchk p.v p.hi p.lo bits)) ∧ Below w.heap.size w w') := fun w => pcheck_any p.v p.hi p.lo bits w hp.1 hp.2.1 hp.2.2.1 hp.2.2.2
    generalize pchk p.v p.hi p.lo bits = k at *
    generalize us.length = N at *
    clear hok hs h hp hr
    go_enter Tryz.func5, Tryz.ntmps5
    go_wp2_with fail
    refine (HK.out _ HB.out).mono ?_
    rintro e w2 ⟨rfl, hb⟩
    replace HB := Lib.hid (btr HB.out hb)
    replace HP := Lib.hid (HP.out.below hb)
    replace HC1 := Lib.hid (HC1.out.below hb)
    replace HQ := Lib.hid (HQ.out.below hb)
    clear hb HK
    obtain ⟨a0, a1, a2, a3, a4⟩ := HP.out
    obtain ⟨b0, b1⟩ := HC1.out
    go_wp2_with fail
    refine (HCk.out _).mono ?_
    rintro e w3 ⟨rfl, hb⟩
    replace HB := Lib.hid (btr HB.out hb)
    replace HP := Lib.hid (HP.out.below hb)
    replace HC1 := Lib.hid (HC1.out.below hb)
    replace HQ := Lib.hid (HQ.out.below hb)
    clear hb HCk a0 a1 a2 a3 a4 b0 b1
    obtain ⟨⟨q0, q1, q2, q3⟩, ⟨q4, q5, q6, q7⟩, q8⟩ := HQ.out
    go_wp2
    refine bodyPost_ret (v := .tuple #[.agg #[.bool false, .int .u64 0, .int .u64 0, .int .i64 0], .int .i64 3]) ?_ rfl ⟨rfl, ?_⟩
    · simp [results, Tryz.results5, go_sem, q0, q1, q2, q3]
    · exact bse (bse (bse (bse (HB.out) (by first | (simp; done) | (simp; omega)) _) (by first | (simp; done) | (simp; omega)) _) (by first | (simp; done) | (simp; omega)) _) (by first | (simp; done) | (simp; omega)) _

/-- First hands back the first one of a norm that is wide enough, cut to size; or there is none. -/
def FirstPost (w : World) (p : Pf) (us : List Pf) (bits : Int) (e : Ending) (w' : World) : Prop := ∃ M, IsRoom p us M ∧ Below w.heap.size w w' ∧
  ((wideP bits M = none ∧ e = .returned (.tuple #[.agg #[.bool false, .int .u64 0, .int .u64 0, .int .i64 0], .int .i64 8])) ∨ ∃ x : Pf, wideP bits M = some x ∧ e = .returned (.tuple #[.agg #[.bool x.v, .int .u64 x.hi, .int .u64 x.lo, .int .i64 x.b], .int .i64 0]))
set_option maxHeartbeats 8000000 in
set_option maxRecDepth 100000 in
theorem pFirst_ok (p : Pf) (a : Option Addr) (c : Nat) (us : List Pf) (bits : Int) (w : World) (hp : p.Ok) (hok : ∀ u ∈ us, u.Ok) (hs : Sl w a us) (h : pkE p us = 0) (hr : p.b ≤ bits) (hr' : bits ≤ wid p.v) :
    Calls Tryz.prog 5 #[.agg #[.bool p.v, .int .u64 p.hi, .int .u64 p.lo, .int .i64 p.b], .slice a us.length c, .int .i64 bits] w (FirstPost w p us bits) := by
  have HB : Hid (Below w.heap.size w (((w.alloc (.cells #[.bool p.v, .int .u64 p.hi, .int .u64 p.lo, .int .i64 p.b] 26)).alloc (.cells #[.int .i64 bits] 3)).alloc (.cells #[.bool false, .int .u64 0, .int .u64 0, .int .i64 0] 26))) := bal (bal (pal w p.v p.hi p.lo p.b) _) _
  have HK := Lib.hid (fun w' (hb : Below w.heap.size w w') => plook_any p a c us w' hp hok (hs.below hb))
  have HP : Hid (Has4 (((w.alloc (.cells #[.bool p.v, .int .u64 p.hi, .int .u64 p.lo, .int .i64 p.b] 26)).alloc (.cells #[.int .i64 bits] 3)).alloc (.cells #[.bool false, .int .u64 0, .int .u64 0, .int .i64 0] 26)) w.heap.size p.v p.hi p.lo p.b) := ((Has4.new w p.v p.hi p.lo p.b 26).alloc _).alloc _
  have HC1 : Hid (Has1 (((w.alloc (.cells #[.bool p.v, .int .u64 p.hi, .int .u64 p.lo, .int .i64 p.b] 26)).alloc (.cells #[.int .i64 bits] 3)).alloc (.cells #[.bool false, .int .u64 0, .int .u64 0, .int .i64 0] 26)) (w.heap.size + 1) (.int .i64 bits)) := (Has1.new' w _ (.int .i64 bits) 3).alloc _
  have HQ : Hid (Own4 (((w.alloc (.cells #[.bool p.v, .int .u64 p.hi, .int .u64 p.lo, .int .i64 p.b] 26)).alloc (.cells #[.int .i64 bits] 3)).alloc (.cells #[.bool false, .int .u64 0, .int .u64 0, .int .i64 0] 26)) (w.heap.size + 1 + 1) (.bool false) (.int .u64 0) (.int .u64 0) (.int .i64 0)) := by
    have := Own4.new ((w.alloc (.cells #[.bool p.v, .int .u64 p.hi, .int .u64 p.lo, .int .i64 p.b] 26)).alloc (.cells #[.int .i64 bits] 3)) (.bool false) (.int .u64 0) (.int .u64 0) (.int .i64 0) 26
    rw [World.size_alloc, World.size_alloc] at this
    exact this
  rw [h] at HK
  obtain ⟨rp, hl, hu⟩ := pkE_ok hp hok h
  have HR := Lib.hid (fun w' (hb : Below w.heap.size w w') => room_any p a c us w' rp hu hl (hs.below hb))
  have HLn := Lib.hid (fun M (hM : IsRoom p us M) => room_len rp hu hl hM)
  have hne : pchk p.v p.hi p.lo bits = 0 := (right_iff _ _ _ _ hp.1 hp.2.1 hp.2.2.1 hp.2.2.2).2 (first_R rp hr hr')
  have d1 : decide (bits < p.b) = false := decide_eq_false (by omega)
  have HCk : Hid (∀ w : World, Calls Tryz.prog 10 #[.agg #[.bool p.v, .int .u64 p.hi, .int .u64 p.lo, .int .i64 bits]] w fun e w' => e = .returned (.int .i64 0) ∧ Below w.heap.size w w') := fun w => by
    have := pcheck_any p.v p.hi p.lo bits w hp.1 hp.2.1 hp.2.2.1 hp.2.2.2
    rw [hne] at this
    exact this
  generalize us.length = N at *
  clear hok hs h hp hr hr' hne hl hu rp
  go_enter Tryz.func5, Tryz.ntmps5
  go_wp2_with fail
  refine (HK.out _ HB.out).mono ?_
  rintro e w2 ⟨rfl, hb⟩
  replace HB := Lib.hid (btr HB.out hb)
  replace HP := Lib.hid (HP.out.below hb)
  replace HC1 := Lib.hid (HC1.out.below hb)
  replace HQ := Lib.hid (HQ.out.below hb)
  clear hb HK
  obtain ⟨a0, a1, a2, a3, a4⟩ := HP.out
  obtain ⟨b0, b1⟩ := HC1.out
  go_wp2_with fail
  refine (HCk.out _).mono ?_
  rintro e w3 ⟨rfl, hb⟩
  replace HB := Lib.hid (btr HB.out hb)
  replace HP := Lib.hid (HP.out.below hb)
  replace HC1 := Lib.hid (HC1.out.below hb)
  replace HQ := Lib.hid (HQ.out.below hb)
  clear hb HCk a0 a1 a2 a3 a4 b0 b1
  obtain ⟨a0, a1, a2, a3, a4⟩ := HP.out
  obtain ⟨b0, b1⟩ := HC1.out
  go_wp2_with fail
  refine (HR.out _ HB.out).mono ?_
  rintro e w4 ⟨v, M, rfl, ho, hn, hb⟩
  have HN := Lib.hid hn
  have HLM := Lib.hid (HLn.out M hn)
  obtain ⟨am, cm, rfl, hcm, sm⟩ := own_sl ho
  replace HB := Lib.hid (btr HB.out hb)
  replace HP := Lib.hid (HP.out.below hb)
  replace HC1 := Lib.hid (HC1.out.below hb)
  replace HQ := Lib.hid (HQ.out.below hb)
  have HS := Lib.hid sm
  clear hb ho hn HR a0 a1 a2 a3 a4 b0 b1 sm HLn
  have HIx := Lib.hid (fun w' (hb : Below w4.heap.size w4 w') => pindex_any (w.heap.size + 1) am cm M bits w' (by have := HLM.out; omega) (HS.out.below hb) (HC1.out.below hb).1 (HC1.out.below hb).2)
  obtain ⟨Ln, hLn⟩ : ∃ Ln, Ln = M.length := ⟨_, rfl⟩
  rw [← hLn] at HIx hcm ⊢
  have HLnn := Lib.hid hLn
  clear hLn
  go_wp2_with fail
  refine (HIx.out _ (Below.refl _ _)).mono ?_
  rintro e w5 ⟨i, rfl, hi, hb⟩
  replace HS := Lib.hid (HS.out.below hb)
  replace HB := Lib.hid (btr HB.out hb)
  replace HP := Lib.hid (HP.out.below hb)
  replace HC1 := Lib.hid (HC1.out.below hb)
  replace HQ := Lib.hid (HQ.out.below hb)
  clear hb HIx
  rcases hi with ⟨rfl, hi⟩ | ⟨k, hk, rfl, hi⟩
  · have HI := Lib.hid hi
    clear hi
    obtain ⟨⟨q0, q1, q2, q3⟩, ⟨q4, q5, q6, q7⟩, q8⟩ := HQ.out
    go_wp2
    refine bodyPost_ret (v := .tuple #[.agg #[.bool false, .int .u64 0, .int .u64 0, .int .i64 0], .int .i64 8]) ?_ rfl ⟨M, HN.out, ?_, .inl ⟨HI.out, rfl⟩⟩
    · simp [results, Tryz.results5, go_sem, q0, q1, q2, q3]
    · exact bse (bse (bse (bse (HB.out) (by first | (simp; done) | (simp; omega)) _) (by first | (simp; done) | (simp; omega)) _) (by first | (simp; done) | (simp; omega)) _) (by first | (simp; done) | (simp; omega)) _
  · have HI := Lib.hid hi
    obtain ⟨g, o, rfl, hg, c0, c1, c2, c3⟩ := HS.out k hk
    have k3 : (k : Int) < (Ln : Int) := by have := HLnn.out; omega
    have k4 : (0 : Int) ≤ (k : Int) := by omega
    have k5 : decide ((k : Int) < 0) = false := decide_eq_false (by omega)
    clear hi
    generalize M[k] = x at *
    obtain ⟨b0, b1⟩ := HC1.out
    obtain ⟨⟨q0, q1, q2, q3⟩, ⟨q4, q5, q6, q7⟩, q8⟩ := HQ.out
    go_wp2_with fail
    go_region
    go_wp2
    refine bodyPost_ret (v := .tuple #[.agg #[.bool x.v, .int .u64 x.hi, .int .u64 x.lo, .int .i64 bits], .int .i64 0]) ?_ rfl ⟨M, HN.out, ?_, .inr ⟨_, HI.out, rfl⟩⟩
    · simp [results, Tryz.results5, go_sem, q0, q1, q2, q3]
    · exact bse (bse (bse (bse (HB.out.drew) (by first | (simp; done) | (simp; omega)) _) (by first | (simp; done) | (simp; omega)) _) (by first | (simp; done) | (simp; omega)) _) (by first | (simp; done) | (simp; omega)) _
end Go.Proofs.YtpbankmbdacdaaaGreatDoor

namespace Go.Proofs.YtpbankmbdacdaaaGreatDoor
open Go.RowKit

def ntP (n b : Int) : Pf := ⟨false, 0, n, b⟩
def pbU : List Pf := [ntP 1 32, ntP 4 31]
def pbM : List Pf := [ntP 0 32, ntP 2 31, ntP 6 31]
theorem ntP_R {n b : Int} (h : 0 ≤ n) (h1 : n < 18446744073709551616) (hp : pchk false 0 n b = 0) : (ntP n b).R := (right_iff false 0 n b (by decide) (by decide) h h1).1 hp
theorem ntP_ok {n b : Int} (h : 0 ≤ n) (h1 : n < 18446744073709551616) : (ntP n b).Ok := ⟨Int.le_refl 0, (by show (0 : Int) < 18446744073709551616; decide), h, h1⟩
theorem pbU_ok : ∀ p ∈ pbU, p.Ok := by
  intro p hp
  simp [pbU] at hp
  rcases hp with rfl | rfl <;> exact ntP_ok (by decide) (by decide)
theorem pbM_R : ∀ p ∈ pbM, p.R := by
  intro p hp
  simp [pbM] at hp
  rcases hp with rfl | rfl | rfl <;> exact ntP_R (by decide) (by decide) (by decide +kernel)
theorem pb29 : (ntP 0 29).R := ntP_R (by decide) (by decide) (by decide +kernel)
theorem pb1 : (ntP 1 32).R := ntP_R (by decide) (by decide) (by decide +kernel)
theorem pb4 : (ntP 4 31).R := ntP_R (by decide) (by decide) (by decide +kernel)
theorem pb_chk : pkE (ntP 0 29) pbU = 0 := by decide +kernel
theorem pb_room : IsRoom (ntP 0 29) pbU pbM := by
  have h := foldP_norm pbM_R (by decide +kernel)
  rw [show foldP pbM = pbM by rfl] at h
  obtain ⟨a1, a2, _⟩ := cutAll_ok pb1 (l := [ntP 0 29]) (fun q hq => by simp at hq; subst hq; exact pb29)
  obtain ⟨_, b2, _⟩ := cutAll_ok pb4 (l := cutAll (ntP 1 32) [ntP 0 29]) a1
  rw [show cutAll (ntP 4 31) (cutAll (ntP 1 32) [ntP 0 29]) = pbM by rfl] at b2
  refine h.of fun v x => ?_
  rw [b2, a2, adr_one', show pbU = [ntP 1 32] ++ [ntP 4 31] by rfl, adr_snoc, adr_one']
  constructor
  · rintro ⟨⟨a, b⟩, c⟩; exact ⟨a, fun h => h.elim b c⟩
  · rintro ⟨a, b⟩; exact ⟨⟨a, fun h => b (.inl h)⟩, fun h => b (.inr h)⟩
theorem pb_31 : wideP 31 pbM = some (ntP 2 31) := by rfl
theorem pb_30 : wideP 30 pbM = none := by rfl
theorem sl_lit2 (w : World) (p q : Pf) : Sl (w.alloc (.cells #[.bool p.v, .int .u64 p.hi, .int .u64 p.lo, .int .i64 p.b, .bool q.v, .int .u64 q.hi, .int .u64 q.lo, .int .i64 q.b] 26)) (some ⟨w.heap.size, 0, none⟩) [p, q] := by
  intro j hj
  refine ⟨_, _, rfl, by simp, ?_⟩
  have : j = 0 ∨ j = 1 := by simp at hj; omega
  rcases this with rfl | rfl
  · simp [go_sem]
  · simp [go_sem]
theorem sl_lit3 (w : World) (p q r : Pf) : Sl (w.alloc (.cells #[.bool p.v, .int .u64 p.hi, .int .u64 p.lo, .int .i64 p.b, .bool q.v, .int .u64 q.hi, .int .u64 q.lo, .int .i64 q.b, .bool r.v, .int .u64 r.hi, .int .u64 r.lo, .int .i64 r.b] 26)) (some ⟨w.heap.size, 0, none⟩) [p, q, r] := by
  intro j hj
  refine ⟨_, _, rfl, by simp, ?_⟩
  have : j = 0 ∨ j = 1 ∨ j = 2 := by simp at hj; omega
  rcases this with rfl | rfl | rfl
  · simp [go_sem]
  · simp [go_sem]
  · simp [go_sem]

theorem keepPb {b0 W W' : World} {m : Nat} (h : (W.cell? ⟨m, 0, none⟩ = some (.bool false) ∧ W.cell? ⟨m, 1, none⟩ = some (.int .u64 0) ∧ W.cell? ⟨m, 2, none⟩ = some (.int .u64 2) ∧ W.cell? ⟨m, 3, none⟩ = some (.int .i64 31) ∧ m < W.heap.size) ∧ Below b0.heap.size b0 W) (hb : Below W.heap.size W W') : (W'.cell? ⟨m, 0, none⟩ = some (.bool false) ∧ W'.cell? ⟨m, 1, none⟩ = some (.int .u64 0) ∧ W'.cell? ⟨m, 2, none⟩ = some (.int .u64 2) ∧ W'.cell? ⟨m, 3, none⟩ = some (.int .i64 31) ∧ m < W'.heap.size) ∧ Below b0.heap.size b0 W' :=
  ⟨(show Has4 W m false 0 2 31 from h.1).below hb, btr h.2 hb⟩

set_option maxHeartbeats 16000000 in
set_option maxRecDepth 100000 in
theorem pkbegun_any (w : World) : Calls Tryz.prog 6 #[] w fun e w' => e = .returned (.bool true) ∧ Below w.heap.size w w' := by
  have hN : Hid (∀ (n b : Int) (w : World), Calls Tryz.prog 17 #[.int .u64 n, .int .i64 b] w fun e w' => e = .returned (.agg #[.bool false, .int .u64 0, .int .u64 n, .int .i64 b]) ∧ Below w.heap.size w w') := net_any
  have hF : Hid (∀ (g : Nat) (w : World), Sl w (some ⟨g, 0, none⟩) pbU → Calls Tryz.prog 12 #[.agg #[.bool false, .int .u64 0, .int .u64 0, .int .i64 29], .slice (some ⟨g, 0, none⟩) 2 2] w fun e w' => ∃ a c, e = .returned (.tuple #[.slice a 3 c, .int .i64 0]) ∧ Sl w' a pbM ∧ Below w.heap.size w w') := fun g w h =>
    (pFree_ok (ntP 0 29) (some ⟨g, 0, none⟩) 2 pbU w (ntP_ok (by decide) (by decide)) pbU_ok h pb_chk).mono fun e w' ⟨v, M, he, ho, hn, hb⟩ => by
      have := hn.uniq pb_room
      subst this
      obtain ⟨a, c, rfl, _, hs⟩ := own_sl ho
      exact ⟨a, c, he, hs, hb⟩
  have h1 : Hid (∀ (g : Nat) (w : World), Sl w (some ⟨g, 0, none⟩) pbU → Calls Tryz.prog 5 #[.agg #[.bool false, .int .u64 0, .int .u64 0, .int .i64 29], .slice (some ⟨g, 0, none⟩) 2 2, .int .i64 31] w fun e w' => e = .returned (.tuple #[.agg #[.bool false, .int .u64 0, .int .u64 2, .int .i64 31], .int .i64 0]) ∧ Below w.heap.size w w') := fun g w h =>
    (pFirst_ok (ntP 0 29) (some ⟨g, 0, none⟩) 2 pbU 31 w (ntP_ok (by decide) (by decide)) pbU_ok h pb_chk (by decide) (by decide)).mono fun e w' ⟨M, hn, hb, hx⟩ => by
      have := hn.uniq pb_room
      subst this
      rw [pb_31] at hx
      rcases hx with ⟨h, _⟩ | ⟨x, h, he⟩
      · exact absurd h (by simp)
      · injection h with h; subst h; exact ⟨he, hb⟩
  have h2 : Hid (∀ (g : Nat) (w : World), Sl w (some ⟨g, 0, none⟩) pbU → Calls Tryz.prog 5 #[.agg #[.bool false, .int .u64 0, .int .u64 0, .int .i64 29], .slice (some ⟨g, 0, none⟩) 2 2, .int .i64 30] w fun e w' => e = .returned (.tuple #[.agg #[.bool false, .int .u64 0, .int .u64 0, .int .i64 0], .int .i64 8]) ∧ Below w.heap.size w w') := fun g w h =>
    (pFirst_ok (ntP 0 29) (some ⟨g, 0, none⟩) 2 pbU 30 w (ntP_ok (by decide) (by decide)) pbU_ok h pb_chk (by decide) (by decide)).mono fun e w' ⟨M, hn, hb, hx⟩ => by
      have := hn.uniq pb_room
      subst this
      rw [pb_30] at hx
      rcases hx with ⟨_, he⟩ | ⟨x, h, he⟩
      · exact ⟨he, hb⟩
      · exact absurd h (by simp)
  have hS : Hid (∀ (a b : Option Addr) (c d : Nat) (w : World), Sl w a pbM → Sl w b pbM → Calls Tryz.prog 18 #[.slice a 3 c, .slice b 3 d] w fun e w' => e = .returned (.bool true) ∧ Below w.heap.size w w') := fun a b c d w h1 h2 => same_any a b c d pbM w (by decide) h1 h2
  go_enter Tryz.func6, Tryz.ntmps6
  go_wp2_with fail
  refine (hN.out _ _ _).mono ?_
  rintro e w1 ⟨rfl, b1⟩
  go_wp2_with fail
  refine (hN.out _ _ _).mono ?_
  rintro e w2 ⟨rfl, b2⟩
  go_wp2_with fail
  refine (hN.out _ _ _).mono ?_
  rintro e w3 ⟨rfl, b3⟩
  have HB := Lib.hid (btr (btr b1 b2) b3)
  clear b1 b2 b3
  go_wp2_with fail
  refine (hF.out _ _ (sl_lit2 w3 (ntP 1 32) (ntP 4 31))).mono ?_
  rintro e w4 ⟨a4, c4, rfl, s4, b4⟩
  replace HB := Lib.hid (btr (bal HB.out _) b4)
  have HL := Lib.hid s4
  clear s4 b4 hF
  go_wp2_with fail
  refine (hN.out _ _ _).mono ?_
  rintro e w5 ⟨rfl, hb⟩
  replace HB := Lib.hid (btr HB.out hb)
  replace HL := Lib.hid (HL.out.below hb)
  clear hb
  go_wp2_with fail
  refine (hN.out _ _ _).mono ?_
  rintro e w6 ⟨rfl, hb⟩
  replace HB := Lib.hid (btr HB.out hb)
  replace HL := Lib.hid (HL.out.below hb)
  clear hb
  go_wp2_with fail
  refine (hN.out _ _ _).mono ?_
  rintro e w7 ⟨rfl, hb⟩
  replace HB := Lib.hid (btr HB.out hb)
  replace HL := Lib.hid (HL.out.below hb)
  clear hb
  go_wp2_with fail
  refine (h1.out _ _ (sl_lit2 w7 (ntP 1 32) (ntP 4 31))).mono ?_
  rintro e w8 ⟨rfl, hb⟩
  replace HB := Lib.hid (bal (btr (bal HB.out _) hb) (.cells #[.bool false, .int .u64 0, .int .u64 2, .int .i64 31] 26))
  replace HL := Lib.hid (((HL.out.below (bal (Below.refl _ _) _)).below hb).below (bal (Below.refl _ _) (.cells #[.bool false, .int .u64 0, .int .u64 2, .int .i64 31] 26)))
  have HP := Lib.hid (Has4.new w8 false 0 2 31 26)
  clear hb h1
  go_wp2_with fail
  generalize w8.heap.size = pb at *
  generalize w8.alloc (.cells #[.bool false, .int .u64 0, .int .u64 2, .int .i64 31] 26) = w8 at *
  refine (hN.out _ _ _).mono ?_
  rintro e w9 ⟨rfl, hb⟩
  replace HB := Lib.hid (btr HB.out hb)
  replace HL := Lib.hid (HL.out.below hb)
  replace HP := Lib.hid (HP.out.below hb)
  clear hb
  go_wp2_with fail
  refine (hN.out _ _ _).mono ?_
  rintro e w10 ⟨rfl, hb⟩
  replace HB := Lib.hid (btr HB.out hb)
  replace HL := Lib.hid (HL.out.below hb)
  replace HP := Lib.hid (HP.out.below hb)
  clear hb
  go_wp2_with fail
  refine (hN.out _ _ _).mono ?_
  rintro e w11 ⟨rfl, hb⟩
  replace HB := Lib.hid (btr HB.out hb)
  replace HL := Lib.hid (HL.out.below hb)
  replace HP := Lib.hid (HP.out.below hb)
  clear hb
  go_wp2_with fail
  refine (h2.out _ _ (sl_lit2 w11 (ntP 1 32) (ntP 4 31))).mono ?_
  rintro e w12 ⟨rfl, hb⟩
  replace HB := Lib.hid (btr (bal HB.out _) hb)
  replace HL := Lib.hid ((HL.out.below (bal (Below.refl _ _) _)).below hb)
  replace HP := Lib.hid ((HP.out.alloc _).below hb)
  clear hb h2
  have hS2 : Hid (∀ W : World, ((W.cell? ⟨pb, 0, none⟩ = some (.bool false) ∧ W.cell? ⟨pb, 1, none⟩ = some (.int .u64 0) ∧ W.cell? ⟨pb, 2, none⟩ = some (.int .u64 2) ∧ W.cell? ⟨pb, 3, none⟩ = some (.int .i64 31) ∧ pb < W.heap.size) ∧ Below w12.heap.size w12 W) → Calls Tryz.prog 18 #[.slice a4 3 c4, .slice (some ⟨W.heap.size, 0, none⟩) 3 3] (W.alloc (.cells #[.bool false, .int .u64 0, .int .u64 0, .int .i64 32, .bool false, .int .u64 0, .int .u64 2, .int .i64 31, .bool false, .int .u64 0, .int .u64 6, .int .i64 31] 26)) fun e w' => e = .returned (.bool true) ∧ Below W.heap.size W w') := fun W h =>
    (hS.out a4 (some ⟨W.heap.size, 0, none⟩) c4 3 _ (HL.out.below (bal h.2 _)) (sl_lit3 W (ntP 0 32) (ntP 2 31) (ntP 6 31))).mono fun e w' ⟨h1, h2⟩ => ⟨h1, btr (bal (Below.refl _ _) _) h2⟩
  have HSd : Hid (((w12.alloc (.cells #[.bool false, .int .u64 0, .int .u64 0, .int .i64 0] 26)).drew.cell? ⟨pb, 0, none⟩ = some (.bool false) ∧ (w12.alloc (.cells #[.bool false, .int .u64 0, .int .u64 0, .int .i64 0] 26)).drew.cell? ⟨pb, 1, none⟩ = some (.int .u64 0) ∧ (w12.alloc (.cells #[.bool false, .int .u64 0, .int .u64 0, .int .i64 0] 26)).drew.cell? ⟨pb, 2, none⟩ = some (.int .u64 2) ∧ (w12.alloc (.cells #[.bool false, .int .u64 0, .int .u64 0, .int .i64 0] 26)).drew.cell? ⟨pb, 3, none⟩ = some (.int .i64 31) ∧ pb < (w12.alloc (.cells #[.bool false, .int .u64 0, .int .u64 0, .int .i64 0] 26)).drew.heap.size) ∧ Below w12.heap.size w12 (w12.alloc (.cells #[.bool false, .int .u64 0, .int .u64 0, .int .i64 0] 26)).drew) := ⟨HP.out.alloc _, (bal (Below.refl _ _) _).drew⟩
  clear HP HL hS
  go_wp2_with fail
  go_region_held3 (fun w' => (w'.cell? ⟨pb, 0, none⟩ = some (.bool false) ∧ w'.cell? ⟨pb, 1, none⟩ = some (.int .u64 0) ∧ w'.cell? ⟨pb, 2, none⟩ = some (.int .u64 2) ∧ w'.cell? ⟨pb, 3, none⟩ = some (.int .i64 31) ∧ pb < w'.heap.size) ∧ Below w12.heap.size w12 w')
    (first | with_reducible exact HSd.out | exact keepPb HSd.out (bal (Below.refl _ _) _))
    (first
      | (go_at_call 17; refine (hN.out _ _ _).mono ?_; rintro e wx ⟨rfl, hb⟩; replace HSd := Lib.hid (keepPb HSd.out hb); clear hb)
      | (go_at_call 18; refine (hS2.out _ HSd.out).mono ?_; rintro e wx ⟨rfl, hb⟩; replace HSd := Lib.hid (keepPb HSd.out hb); clear hb))
  have HBz : Hid (Below w.heap.size w wx) := HB.out.trans (below_le HSd.out.2 HB.out.size)
  clear HSd HB hS2 hN
  go_wp2
  go_ret
  exact ⟨rfl, HBz.out⟩
end Go.Proofs.YtpbankmbdacdaaaGreatDoor
