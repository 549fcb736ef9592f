/- Room, on lists of prefixes: the norm of what is left, how long it is; the first room. -/
import Derived.Test.YtjhkbjigpiickaaPkM
import Derived.Test.YtjhkbjigpiickaaSpQ
set_option linter.unusedVariables false
set_option linter.unusedSimpArgs false
namespace Go.Proofs.Ytjhkbjigpiickaa
open Go.RowKit

/-- The norm of all addresses of p that none of us has. -/
abbrev IsRoom (p : Pf) (us M : List Pf) : Prop := IsNorm M (fun v x => p.nd.In v x ∧ ¬ Adr (us.map Pf.nd) v x)
theorem adr_one' {p : Pf} {v : Bool} {x : Int} : Adr ([p].map Pf.nd) v x ↔ p.nd.In v x := by simp [Adr]
theorem room_nil {p : Pf} (r : p.R) : IsRoom p [] [p] := ⟨fun q hq => by rw [List.mem_singleton] at hq; subst hq; exact r, nrm_one (nd_ok r), fun v x => by rw [adr_one']; simp [Adr]⟩
/-- One more of a norm, without u. -/
theorem join_norm {L X M : List Pf} {u q : Pf} (hL : Nrm ((L ++ [q]).map Pf.nd)) (hX : IsNorm X (fun v x => Adr (L.map Pf.nd) v x ∧ ¬ u.nd.In v x)) (hM : IsNorm M (fun v x => Adr ([q].map Pf.nd) v x ∧ ¬ u.nd.In v x)) :
    IsNorm (X ++ M) (fun v x => Adr ((L ++ [q]).map Pf.nd) v x ∧ ¬ u.nd.In v x) := by
  refine ⟨fun p hp => (List.mem_append.1 hp).elim (hX.right p) (hM.right p), ?_, fun v x => ?_⟩
  · rw [List.map_append]
    rw [List.map_append] at hL
    exact join_nrm hL hX.nrm hM.nrm (fun v x h => ((hX.adr v x).1 h).1) (fun v x h => adr_one'.1 ((hM.adr v x).1 h).1)
  · rw [List.map_append, adr_append, hX.adr, hM.adr, List.map_append, adr_append]
    constructor
    · rintro (⟨a, b⟩ | ⟨a, b⟩)
      · exact ⟨.inl a, b⟩
      · exact ⟨.inr a, b⟩
    · rintro ⟨a | a, b⟩
      · exact .inl ⟨a, b⟩
      · exact .inr ⟨a, b⟩
theorem adr_snoc {us : List Pf} {u : Pf} {v : Bool} {x : Int} : Adr ((us ++ [u]).map Pf.nd) v x ↔ Adr (us.map Pf.nd) v x ∨ u.nd.In v x := by rw [List.map_append, adr_append, adr_one']
theorem room_step {p u : Pf} {us F X : List Pf} (hF : IsRoom p us F) (hX : IsNorm X (fun v x => Adr (F.map Pf.nd) v x ∧ ¬ u.nd.In v x)) : IsRoom p (us ++ [u]) X :=
  hX.of fun v x => by
    rw [hF.adr, adr_snoc]
    constructor
    · rintro ⟨⟨a, b⟩, c⟩; exact ⟨a, fun h => h.elim b c⟩
    · rintro ⟨a, b⟩; exact ⟨⟨a, fun h => b (.inl h)⟩, fun h => b (.inr h)⟩
theorem room_nd {p : Pf} {us M : List Pf} (r : p.R) (hu : ∀ u ∈ us, u.R) (h : IsRoom p us M) : M.map Pf.nd = withinN [p.nd] (us.map Pf.nd) p.nd.h p.nd := by
  have os : ∀ s ∈ [p.nd], s.Ok := fun s hs => by rw [List.mem_singleton] at hs; subst hs; exact nd_ok r
  obtain ⟨a1, _, a3⟩ := withinN_ok [p.nd] (us.map Pf.nd) os (map_ok hu) p.nd.h p.nd (nd_ok r) rfl
  refine h.nrm.uniq a1 fun v x => ?_
  rw [h.adr, a3, adr_one]
  exact ⟨fun ⟨a, b⟩ => ⟨a, a, b⟩, fun ⟨a, _, b⟩ => ⟨a, b⟩⟩
theorem room_len {p : Pf} {us M : List Pf} (r : p.R) (hu : ∀ u ∈ us, u.R) (hl : us.length ≤ 12) (h : IsRoom p us M) : M.length ≤ 3073 := by
  have os : ∀ s ∈ [p.nd], s.Ok := fun s hs => by rw [List.mem_singleton] at hs; subst hs; exact nd_ok r
  have := withinN_few os (map_ok hu) (nd_ok r) rfl (by simp) (by simpa using hl) (nd_h_le r)
  rw [← room_nd r hu h, List.length_map] at this
  exact this
/-- All of it lies in p. -/
theorem room_in {p : Pf} {us M : List Pf} (r : p.R) (h : IsRoom p us M) {q : Pf} (hq : q ∈ M) : p.has q = true :=
  (has_nd r (h.right q hq)).2 (cover_one (nd_ok r) (nd_ok (h.right q hq)) fun v x hx => ((h.adr v x).1 ⟨q.nd, List.mem_map_of_mem hq, hx⟩).1)

theorem first_R {p : Pf} (r : p.R) {bits : Int} (h : p.b ≤ bits) (h' : bits ≤ wid p.v) : Pf.R ⟨p.v, p.hi, p.lo, bits⟩ := by
  have b0 := r.b0
  refine ⟨r.c, by show 0 ≤ bits; omega, h', r.h0, r.h1, r.l0, r.l1, ?_⟩
  obtain ⟨m, hm⟩ := amt_mod (v := p.v) b0 h h'
  have := r.al
  rw [hm] at this
  exact mod_of this
theorem nd_first (p : Pf) (bits : Int) : (Pf.nd ⟨p.v, p.hi, p.lo, bits⟩) = ⟨p.v, p.n, (wid p.v - bits).toNat⟩ := rfl
/-- The first one of a list that is wide enough, cut to size. -/
def wideP (bits : Int) (M : List Pf) : Option Pf := (M.find? fun q => decide (q.b ≤ bits)).map fun q => ⟨q.v, q.hi, q.lo, bits⟩
theorem wideP_nd {bits : Int} {t : Bool} : ∀ {M : List Pf}, (∀ q ∈ M, q.R ∧ q.v = t) → bits ≤ wid t → (∀ x ∈ wideP bits M, x.R ∧ x.v = t ∧ x.b = bits) ∧ (wideP bits M).map Pf.nd = wideN (wid t - bits).toNat (M.map Pf.nd)
  | [], _, _ => ⟨by simp [wideP], rfl⟩
  | q :: M, h, hb => by
    obtain ⟨rq, vq⟩ := h q (by simp)
    have b1 := rq.b1
    rw [vq] at b1
    obtain ⟨i1, i2⟩ := wideP_nd (M := M) (fun x hx => h x (by simp [hx])) hb
    unfold wideP wideN at *
    rw [List.map_cons, List.find?_cons, List.find?_cons]
    have e : decide ((wid t - bits).toNat ≤ q.nd.h) = decide (q.b ≤ bits) := by
      have : q.nd.h = (wid t - q.b).toNat := by rw [← vq]; rfl
      rw [this]
      apply decide_eq_decide.2
      omega
    rw [e]
    cases hd : decide (q.b ≤ bits) with
    | true =>
      have hq : q.b ≤ bits := by simpa using hd
      subst vq
      exact ⟨fun x hx => by simp at hx; subst hx; exact ⟨first_R rq hq hb, rfl, rfl⟩, rfl⟩
    | false => exact ⟨i1, i2⟩
theorem nd_inj_opt {a b : Option Pf} (ha : ∀ x ∈ a, x.R) (hb : ∀ x ∈ b, x.R) (h : a.map Pf.nd = b.map Pf.nd) : a = b := by
  cases a with
  | none => cases b with
    | none => rfl
    | some y => simp at h
  | some x => cases b with
    | none => simp at h
    | some y => simp at h; rw [nd_inj (ha x rfl) (hb y rfl) h]
end Go.Proofs.Ytjhkbjigpiickaa
