/- Prefixes as intervals; put and cut, as the program does them, on lists of prefixes. -/
import Derived.Test.YtlgdkdplkdkkdaaSpM
import Derived.Test.YtlgdkdplkdkkdaaHvN
import Derived.Test.YtlgdkdplkdkkdaaTbP
set_option linter.unusedVariables false
set_option linter.unusedSimpArgs false
namespace Go.Proofs.Ytlgdkdplkdkkdaa
open Go.RowKit

def Pf.nd (p : Pf) : Nd := ⟨p.v, p.n, (wid p.v - p.b).toNat⟩
theorem nd_w (p : Pf) : p.nd.w = amt p.v p.b := rfl
theorem nd_ok {p : Pf} (r : p.R) : p.nd.Ok := r.al
theorem nd_inj {p q : Pf} (r : p.R) (s : q.R) (h : p.nd = q.nd) : p = q := by
  have hv : p.v = q.v := congrArg Nd.v h
  have hn : p.n = q.n := congrArg Nd.n h
  have hh : (wid p.v - p.b).toNat = (wid q.v - q.b).toNat := congrArg Nd.h h
  obtain ⟨e1, e2⟩ := num_inj r.l0 r.l1 s.l0 s.l1 hn
  have b1 := r.b1
  have b2 := s.b1
  rw [hv] at hh b1
  have eb : p.b = q.b := by omega
  cases p; cases q; simp_all
theorem has_nd {p q : Pf} (r : p.R) (s : q.R) : p.has q = true ↔ p.nd.Has q.nd := by
  rw [has_iff r s]
  have b1 := r.b1
  have b2 := s.b1
  unfold Nd.Has
  rw [nd_w]
  show _ ↔ q.v = p.v ∧ (wid q.v - q.b).toNat ≤ (wid p.v - p.b).toNat ∧ p.n ≤ q.n ∧ q.n < p.n + amt p.v p.b
  constructor
  · rintro ⟨a, b, c, d⟩
    rw [b] at b2 ⊢
    exact ⟨rfl, by omega, c, d⟩
  · rintro ⟨a, b, c, d⟩
    rw [a] at b b2
    exact ⟨by omega, a, c, d⟩
theorem cmp_nd {p q : Pf} (r : p.R) (s : q.R) (h : ¬ q.cmp p < 0) : p.nd.Le q.nd := by
  rw [cmp_neg s r] at h
  have b1 := r.b1
  have b2 := s.b1
  have key : ∀ a b : Bool, ¬ (b = false ∧ a = true) → a ≠ b → a = false ∧ b = true := by decide
  by_cases hv : p.v = q.v
  · refine .inr ⟨hv, ?_⟩
    show p.n < q.n ∨ (p.n = q.n ∧ (wid q.v - q.b).toNat ≤ (wid p.v - p.b).toNat)
    rw [hv] at b1 ⊢
    have : ¬ (q.n < p.n ∨ (q.n = p.n ∧ q.b < p.b)) := fun h' => h (.inr ⟨hv.symm, h'⟩)
    omega
  · exact .inl (key _ _ (fun h' => h (.inl h')) hv)
/-- One that lies among the addresses of its kind. -/
theorem nd_fit {p : Pf} (r : p.R) : p.nd.Fit := by
  have nt := num_top r.c r.h0 r.h1 r.l0 r.l1
  have b0 := r.b0
  have b1 := r.b1
  refine ⟨rfl, ?_, nt.1, ?_⟩
  · show (wid p.v - p.b).toNat ≤ if p.v then 128 else 32
    cases hv : p.v <;> simp [wid] <;> omega
  · have e : (root p.v).w = top p.v := by unfold root Nd.w top wid; cases p.v <;> rfl
    show p.n < (root p.nd.v).n + (root p.nd.v).w
    rw [show p.nd.v = p.v from rfl, e]
    show p.n < 0 + top p.v
    have := nt.2
    unfold Pf.n
    omega

/-- The halves, and the one whose halves two are. -/
def Pf.lo' (p : Pf) : Pf := ⟨p.v, p.hi, p.lo, p.b + 1⟩
def Pf.hi' (p : Pf) : Pf := ⟨p.v, fsH p.v (laH p.v p.hi p.b) (p.b + 1), fsL p.v (laL p.v p.lo p.b) (p.b + 1), p.b + 1⟩
def Pf.up' (p : Pf) : Pf := ⟨p.v, p.hi, p.lo, p.b - 1⟩
theorem lo_R {p : Pf} (r : p.R) (h : p.b < wid p.v) : p.lo'.R := right_low r h
theorem hi_R {p : Pf} (r : p.R) (h : p.b < wid p.v) : p.hi'.R := (great_num r h).2
theorem nd_lo {p : Pf} (r : p.R) (h : p.b < wid p.v) : p.lo'.nd = p.nd.lo := by
  unfold Pf.nd Pf.lo' Nd.lo
  have : (wid p.v - (p.b + 1)).toNat = (wid p.v - p.b).toNat - 1 := by omega
  simp only [this]; rfl
theorem nd_hi {p : Pf} (r : p.R) (h : p.b < wid p.v) : p.hi'.nd = p.nd.hi := by
  have e := (great_num r h).1
  have : (wid p.v - (p.b + 1)).toNat = (wid p.v - p.b).toNat - 1 := by omega
  have e2 : p.hi'.n = p.n + 2 ^ ((wid p.v - p.b).toNat - 1) := by
    rw [← this]; exact e
  show (⟨p.v, p.hi'.n, (wid p.v - (p.b + 1)).toNat⟩ : Nd) = ⟨p.v, p.n + 2 ^ ((wid p.v - p.b).toNat - 1), (wid p.v - p.b).toNat - 1⟩
  rw [e2, this]
/-- Are they the halves of one, as Whole tells it? -/
def Pf.whole (p q : Pf) : Bool := decide (pchk p.v p.hi p.lo (p.b - 1) = 0) && eqP p.v p.up'.hi'.hi p.up'.hi'.lo (p.b - 1 + 1) q.v q.hi q.lo q.b
theorem up_R {p q : Pf} (r : p.R) (h : p.whole q = true) : p.up'.R := by
  unfold Pf.whole at h
  rw [Bool.and_eq_true, decide_eq_true_iff] at h
  exact (right_iff _ _ _ _ r.h0 r.h1 r.l0 r.l1).1 h.1
theorem nd_up {p q : Pf} (r : p.R) (h : p.whole q = true) : p.up'.nd = p.nd.up := by
  have b1 := r.b1
  unfold Pf.nd Pf.up' Nd.up
  have : (wid p.v - (p.b - 1)).toNat = (wid p.v - p.b).toNat + 1 := by omega
  simp only [this]; rfl
theorem whole_nd {p q : Pf} (r : p.R) (s : q.R) : p.whole q = true ↔ p.nd.Sib q.nd := by
  have b0 := r.b0
  have b1 := r.b1
  constructor
  · intro h
    have hu := up_R r h
    have ub0 : 0 ≤ p.b - 1 := hu.b0
    have hlt : p.up'.b < wid p.up'.v := by show p.b - 1 < wid p.v; omega
    unfold Pf.whole at h
    rw [Bool.and_eq_true, eqP_iff] at h
    obtain ⟨_, e1, e2, e3, e4⟩ := h
    have e : p.up'.hi' = q := by
      have : p.b - 1 + 1 = q.b := e4
      cases q
      unfold Pf.hi' Pf.up' at *
      simp_all
    have hl : p.up'.lo' = p := by
      unfold Pf.lo' Pf.up'
      cases p
      simp
    have := Nd.halves_sib (nd_ok hu) (p := p.up'.nd) (by show 0 < (wid p.v - (p.b - 1)).toNat; omega)
    rw [← nd_lo hu hlt, ← nd_hi hu hlt, hl, e] at this
    exact this
  · intro h
    have hb : 1 ≤ p.b := by
      rcases Int.lt_or_le 0 p.b with h' | h'
      · omega
      · exfalso
        have e0 : p.b = 0 := by omega
        have nt := num_top s.c s.h0 s.h1 s.l0 s.l1
        have np := num_top r.c r.h0 r.h1 r.l0 r.l1
        obtain ⟨hv, _, hn, _⟩ := h
        have hv' : q.v = p.v := hv
        have hn' : q.n = p.n + amt p.v p.b := hn
        rw [e0] at hn'
        have : amt p.v 0 = top p.v := by unfold amt top; simp
        rw [this] at hn'
        rw [hv'] at nt
        unfold Pf.n at hn'
        omega
    have hw := h.2.2.2
    rw [nd_w] at hw
    have hu : Right p.v p.hi p.lo (p.b - 1) := ⟨r.c, by omega, by omega, r.h0, r.h1, r.l0, r.l1, by
      rw [amt_half (v := p.v) (b := p.b - 1) (by omega) (by omega), show p.b - 1 + 1 = p.b by omega, Int.mul_comm]; exact hw⟩
    have hlt : p.up'.b < wid p.up'.v := by show p.b - 1 < wid p.v; omega
    have hu' : p.up'.R := hu
    have e : p.up'.hi' = q := by
      apply nd_inj (hi_R hu' hlt) s
      rw [nd_hi hu' hlt]
      obtain ⟨hv, hh, hn, _⟩ := h
      have hhh : (wid p.v - (p.b - 1)).toNat - 1 = (wid p.v - p.b).toNat := by omega
      show (⟨p.v, p.n + 2 ^ ((wid p.v - (p.b - 1)).toNat - 1), (wid p.v - (p.b - 1)).toNat - 1⟩ : Nd) = q.nd
      rw [hhh]
      have e1 : q.nd.v = p.v := hv
      have e2 : q.nd.h = (wid p.v - p.b).toNat := hh
      have e3 : q.nd.n = p.n + 2 ^ (wid p.v - p.b).toNat := hn
      cases hq : q.nd
      rw [hq] at e1 e2 e3
      simp_all
    unfold Pf.whole
    rw [Bool.and_eq_true, decide_eq_true_iff, eqP_iff]
    refine ⟨(right_iff _ _ _ _ r.h0 r.h1 r.l0 r.l1).2 hu, ?_⟩
    rw [← e]
    exact ⟨rfl, rfl, rfl, rfl⟩

/-- put, the list's last one first. -/
def putP : List Pf → Pf → List Pf
  | [], p => [p]
  | e :: r, p => if e.has p = true then e :: r else if e.whole p = true then putP r e.up' else p :: e :: r
theorem putP_nd : ∀ (r : List Pf) (p : Pf), (∀ e ∈ r, e.R) → p.R → (∀ e ∈ putP r p, e.R) ∧ (putP r p).map Pf.nd = putN (r.map Pf.nd) p.nd
  | [], p, _, rp => ⟨fun e he => by simp [putP] at he; subst he; exact rp, rfl⟩
  | e :: r, p, hr, rp => by
    have re := hr e (by simp)
    rw [putP, List.map_cons, putN]
    by_cases h : e.has p = true
    · rw [if_pos h, if_pos ((has_nd re rp).1 h)]
      exact ⟨hr, rfl⟩
    rw [if_neg h, if_neg (fun h' => h ((has_nd re rp).2 h'))]
    by_cases hw : e.whole p = true
    · rw [if_pos hw, if_pos ((whole_nd re rp).1 hw)]
      have := putP_nd r e.up' (fun x hx => hr x (by simp [hx])) (up_R re hw)
      rw [nd_up re hw] at this
      exact this
    · rw [if_neg hw, if_neg (fun h' => hw ((whole_nd re rp).2 h'))]
      refine ⟨fun x hx => ?_, by simp⟩
      rcases List.mem_cons.1 hx with rfl | hx
      · exact rp
      · exact hr x hx
def foldP (S : List Pf) : List Pf := (S.foldl putP []).reverse
theorem foldP_nd : ∀ (S r : List Pf), (∀ e ∈ r, e.R) → (∀ e ∈ S, e.R) → (∀ e ∈ S.foldl putP r, e.R) ∧ (S.foldl putP r).map Pf.nd = (S.map Pf.nd).foldl putN (r.map Pf.nd)
  | [], r, hr, _ => ⟨hr, rfl⟩
  | p :: S, r, hr, hs => by
    obtain ⟨h1, h2⟩ := putP_nd r p hr (hs p (by simp))
    obtain ⟨h3, h4⟩ := foldP_nd S (putP r p) h1 (fun e he => hs e (by simp [he]))
    rw [List.foldl_cons, List.map_cons, List.foldl_cons, ← h2]
    exact ⟨h3, h4⟩
/-- A list as short as may be, with these addresses. -/
structure IsNorm (L : List Pf) (A : Bool → Int → Prop) : Prop where
  right : ∀ p ∈ L, p.R
  nrm : Nrm (L.map Pf.nd)
  adr : ∀ v x, Adr (L.map Pf.nd) v x ↔ A v x
theorem IsNorm.uniq {L M : List Pf} {A : Bool → Int → Prop} (h : IsNorm L A) (k : IsNorm M A) : L = M := by
  have e := h.nrm.uniq k.nrm fun v x => (h.adr v x).trans (k.adr v x).symm
  have inj : ∀ (L M : List Pf), (∀ p ∈ L, p.R) → (∀ p ∈ M, p.R) → L.map Pf.nd = M.map Pf.nd → L = M := by
    intro L
    induction L with
    | nil => intro M _ _ h; cases M with
      | nil => rfl
      | cons _ _ => simp at h
    | cons p L ih => intro M hl hm h; cases M with
      | nil => simp at h
      | cons q M =>
        rw [List.map_cons, List.map_cons, List.cons.injEq] at h
        rw [nd_inj (hl p (by simp)) (hm q (by simp)) h.1, ih M (fun x hx => hl x (by simp [hx])) (fun x hx => hm x (by simp [hx])) h.2]
  exact inj L M h.right k.right e
theorem foldP_norm {S : List Pf} (hR : ∀ p ∈ S, p.R) (hs : S.Pairwise fun p q => ¬ q.cmp p < 0) : IsNorm (foldP S) (Adr (S.map Pf.nd)) := by
  obtain ⟨h1, h2⟩ := foldP_nd S [] (by simp) hR
  have h3 := normN_nrm (S := S.map Pf.nd) (fun p hp => by obtain ⟨q, hq, rfl⟩ := List.mem_map.1 hp; exact nd_ok (hR q hq)) (by
    rw [List.pairwise_map]
    refine List.Pairwise.imp_of_mem ?_ hs
    intro a b ha hb h
    exact cmp_nd (hR a ha) (hR b hb) h)
  have e : (foldP S).map Pf.nd = normN (S.map Pf.nd) := by unfold foldP normN; rw [List.map_reverse, h2]; rfl
  exact ⟨fun p hp => h1 p (by simpa [foldP] using hp), by rw [e]; exact h3.1, by rw [e]; exact h3.2⟩

/-- cut: what is left of q without p. -/
def cutP (p : Pf) : Nat → Pf → List Pf
  | 0, q => if p.has q = true then [] else if q.has p = true then [] else [q]
  | k + 1, q => if p.has q = true then [] else if q.has p = true then cutP p k q.lo' ++ cutP p k q.hi' else [q]
/-- Of the halves of what has p one has nothing to do with p. -/
theorem cut_side {p q : Nd} (op : p.Ok) (oq : q.Ok) (h0 : 0 < q.h) (h : q.Has p) (hn : ¬ p.Has q) : (¬ p.Has q.hi ∧ ¬ q.hi.Has p) ∨ (¬ p.Has q.lo ∧ ¬ q.lo.Has p) := by
  have ol := Nd.lo_ok oq
  have oh := Nd.hi_ok oq
  have hb : q.lo.Ahead q.hi := .inr ⟨rfl, by rw [Nd.n_hi]; exact Int.le_refl _⟩
  have key : ∀ s : Nd, s.Ok → q.Has s → s.h + 1 = q.h → s.In p.v p.n → s.Has p := fun s os hs hh hx => by
    rcases Nd.meet os op hx p.in_self with k | k
    · exact k
    · rcases Nd.over_half oq os op hs hh k with e | e
      · rw [e]; exact s.has_refl
      · exact absurd e hn
  rcases (Nd.in_halves h0).1 (Nd.has_in oq op h p.in_self) with hx | hx
  · have hl := key _ ol (Nd.has_lo h0) (by simp [Nd.lo]; omega) hx
    exact .inl ⟨fun k => ahead_apart hb (Nd.has_in ol op hl (Nd.has_in op oh k q.hi.in_self)) q.hi.in_self, fun k => ahead_apart hb hx (Nd.has_in oh op k p.in_self)⟩
  · have hl := key _ oh (Nd.has_hi h0) (by simp [Nd.hi]; omega) hx
    exact .inr ⟨fun k => ahead_apart hb q.lo.in_self (Nd.has_in oh op hl (Nd.has_in op ol k q.lo.in_self)), fun k => ahead_apart hb (Nd.has_in ol op k p.in_self) hx⟩
theorem cutP_one {p : Pf} {k : Nat} {q : Pf} (h : ¬ p.has q = true) (h' : ¬ q.has p = true) : (cutP p k q).length = 1 := by
  cases k <;> rw [cutP, if_neg h, if_neg h'] <;> rfl
theorem cutP_nd (p : Pf) (rp : p.R) : ∀ (k : Nat) (q : Pf), q.R → q.nd.h = k → (∀ e ∈ cutP p k q, e.R) ∧ (cutP p k q).map Pf.nd = cutN p.nd k q.nd ∧ (cutP p k q).length ≤ k + 1
  | 0, q, rq, hk => by
    rw [cutP, cutN]
    by_cases h : p.has q = true
    · rw [if_pos h, if_pos ((has_nd rp rq).1 h)]; exact ⟨by simp, rfl, by simp⟩
    rw [if_neg h, if_neg (fun h' => h ((has_nd rp rq).2 h'))]
    by_cases h' : q.has p = true
    · rw [if_pos h', if_pos ((has_nd rq rp).1 h')]; exact ⟨by simp, rfl, by simp⟩
    rw [if_neg h', if_neg (fun h'' => h' ((has_nd rq rp).2 h''))]
    exact ⟨fun e he => by simp at he; subst he; exact rq, rfl, by simp⟩
  | k + 1, q, rq, hk => by
    have b1 := rq.b1
    have hlt : q.b < wid q.v := by
      have : (wid q.v - q.b).toNat = k + 1 := hk
      omega
    rw [cutP, cutN]
    by_cases h : p.has q = true
    · rw [if_pos h, if_pos ((has_nd rp rq).1 h)]; exact ⟨by simp, rfl, by simp⟩
    rw [if_neg h, if_neg (fun h' => h ((has_nd rp rq).2 h'))]
    by_cases h' : q.has p = true
    · rw [if_pos h', if_pos ((has_nd rq rp).1 h')]
      have hh1 : q.lo'.nd.h = k := by rw [nd_lo rq hlt]; simp [Nd.lo, hk]
      have hh2 : q.hi'.nd.h = k := by rw [nd_hi rq hlt]; simp [Nd.hi, hk]
      obtain ⟨a1, a2, a3⟩ := cutP_nd p rp k q.lo' (lo_R rq hlt) hh1
      obtain ⟨c1, c2, c3⟩ := cutP_nd p rp k q.hi' (hi_R rq hlt) hh2
      rw [nd_lo rq hlt] at a2
      rw [nd_hi rq hlt] at c2
      refine ⟨fun e he => (List.mem_append.1 he).elim (a1 e) (c1 e), by rw [List.map_append, a2, c2], ?_⟩
      rw [List.length_append]
      rcases cut_side (nd_ok rp) (nd_ok rq) (by omega) ((has_nd rq rp).1 h') (fun e => h ((has_nd rp rq).2 e)) with ⟨e1, e2⟩ | ⟨e1, e2⟩
      · rw [← nd_hi rq hlt] at e1 e2
        have := cutP_one (k := k) (fun e => e1 ((has_nd rp (hi_R rq hlt)).1 e)) (fun e => e2 ((has_nd (hi_R rq hlt) rp).1 e))
        omega
      · rw [← nd_lo rq hlt] at e1 e2
        have := cutP_one (k := k) (fun e => e1 ((has_nd rp (lo_R rq hlt)).1 e)) (fun e => e2 ((has_nd (lo_R rq hlt) rp).1 e))
        omega
    rw [if_neg h', if_neg (fun h'' => h' ((has_nd rq rp).2 h''))]
    exact ⟨fun e he => by simp at he; subst he; exact rq, rfl, by simp⟩
end Go.Proofs.Ytlgdkdplkdkkdaa
