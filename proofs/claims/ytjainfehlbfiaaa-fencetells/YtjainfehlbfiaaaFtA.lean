/- Acquire by one contract; what holds of locks: plain words. -/
import Derived.Test.YtjainfehlbfiaaaFnF
set_option linter.unusedVariables false
set_option linter.unusedSimpArgs false
namespace Go.Proofs.Ytjainfehlbfiaaa
open Go.RowKit

theorem acq_any (d : Dk) (a : Option Addr) (c : Nat) (who now : Int) (w : World) (hc : d.l.length ≤ c) (hs : Lies enE w a d.l) :
    Calls Try.prog 5 #[.agg #[.int .i64 d.ep, .int .i64 d.h, .int .i64 d.u, .slice a d.l.length c], .int .i64 who, .int .i64 now] w fun e w' => ∃ a' c', e = .returned (.tuple #[.agg #[.int .i64 (acqD d who now).ep, .int .i64 (acqD d who now).h, .int .i64 (acqD d who now).u, .slice a' (acqD d who now).l.length c'], .int .i64 (acqD d who now).ep, .int .i64 (acqE d who now)]) ∧ (acqD d who now).l.length ≤ c' ∧ Lies enE w' a' (acqD d who now).l ∧ (∀ g o, a' = some ⟨g, o, none⟩ → w.heap.size ≤ g) ∧ Below w.heap.size w w' := by
  by_cases h0 : acqE d who now = 0
  · refine (acq_ok d a c who now w hc hs h0).mono ?_
    rintro e w' ⟨v, rfl, ho, hb⟩
    obtain ⟨a', c', rfl, hc', hl, hg⟩ := own_open ho
    rw [show acqD d who now = ⟨lendP d.ep d.h d.u now, who, now + 10, d.l⟩ by unfold acqD; rw [if_pos h0], h0]
    exact ⟨a', c', rfl, hc', hl, hg, hb⟩
  · refine (acq_bad d a c who now w hc hs h0).mono ?_
    rintro e w' ⟨rfl, hb⟩
    rw [show acqD d who now = noDk by unfold acqD; rw [if_neg h0]]
    exact ⟨none, 0, rfl, Nat.le_refl _, Lies.nil _ _ _, fun g o e => by simp at e, hb⟩
theorem acq_zero {d : Dk} {who now : Int} (h : acqE d who now = 0) : d.bad = 0 ∧ (1 ≤ who ∧ who ≤ 2) ∧ (0 ≤ now ∧ now ≤ 9999) ∧ lendE d.ep d.h d.u who now = 0 ∧ acqD d who now = ⟨lendP d.ep d.h d.u now, who, now + 10, d.l⟩ := by
  have hD : acqD d who now = ⟨lendP d.ep d.h d.u now, who, now + 10, d.l⟩ := by unfold acqD; rw [if_pos h]
  unfold acqE at h
  by_cases h1 : d.bad = 0
  · rw [if_pos h1] at h
    by_cases h2 : who < 1 ∨ 2 < who ∨ outB now 9999 = true
    · rw [if_pos h2] at h; exact absurd h (by decide)
    · rw [if_neg h2] at h
      have h3 : outB now 9999 = false := by cases hh : outB now 9999; rfl; exact absurd (.inr (.inr hh)) h2
      exact ⟨h1, ⟨by omega, by omega⟩, outB_false.1 h3, h, hD⟩
  · rw [if_neg h1] at h; exact absurd h h1
theorem acq_mk {d : Dk} {who now : Int} (h1 : d.bad = 0) (h2 : 1 ≤ who) (h3 : who ≤ 2) (h4 : 0 ≤ now) (h5 : now ≤ 9999) : acqE d who now = lendE d.ep d.h d.u who now := by
  unfold acqE
  rw [if_pos h1, if_neg]
  rintro (h | h | h)
  · omega
  · omega
  · rw [outB_false.2 ⟨h4, h5⟩] at h; exact absurd h (by decide)
/-- What is right of a disk. -/
structure GoodD (d : Dk) : Prop where
  ep : 0 ≤ d.ep ∧ d.ep ≤ 999
  h : 0 ≤ d.h ∧ d.h ≤ 2
  u : 0 ≤ d.u ∧ d.u ≤ 10009
  held : d.h = 0 ↔ d.ep = 0
  none : d.h = 0 → d.u = 0
  log : logE d.l = 0
  old : ∀ x ∈ d.l, x.ep ≤ d.ep
theorem bad_iff (d : Dk) : d.bad = 0 ↔ GoodD d := by
  unfold Dk.bad diskE
  constructor
  · intro h0
    have hl : lockE d.ep d.h d.u = 0 := by
      by_cases hh : lockE d.ep d.h d.u = 0
      · exact hh
      · rw [if_neg hh] at h0; exact absurd h0 hh
    rw [if_pos hl] at h0
    unfold lockE at hl
    by_cases ho : (outB d.ep 999 || outB d.h 2 || outB d.u 10009) = true
    · rw [if_pos ho] at hl; exact absurd hl (by decide)
    rw [if_neg ho] at hl
    have ho' : (outB d.ep 999 || outB d.h 2 || outB d.u 10009) = false := by simpa using ho
    simp only [Bool.or_eq_false_iff] at ho'
    by_cases hb : (((d.h == 0) != (d.ep == 0)) || ((d.h == 0) && (d.u != 0))) = true
    · rw [if_pos hb] at hl; exact absurd hl (by decide)
    have hb' : (((d.h == 0) != (d.ep == 0)) || ((d.h == 0) && (d.u != 0))) = false := by simpa using hb
    rw [Bool.or_eq_false_iff] at hb'
    obtain ⟨hb1, hb2⟩ := hb'
    unfold dlogE at h0
    have hlg : logE d.l = 0 := by
      by_cases hh : logE d.l = 0
      · exact hh
      · rw [if_neg hh] at h0; exact absurd h0 hh
    rw [if_pos hlg] at h0
    have ha : (d.l.any fun n => decide (d.ep < n.ep)) = false := by
      cases hh : (d.l.any fun n => decide (d.ep < n.ep))
      · rfl
      · rw [hh, if_pos rfl] at h0; exact absurd h0 (by decide)
    refine ⟨outB_false.1 ho'.1.1, outB_false.1 ho'.1.2, outB_false.1 ho'.2, ?_, ?_, hlg, ?_⟩
    · have hbe : (d.h == 0) = (d.ep == 0) := by simpa using hb1
      rw [← beq_iff_eq (a := d.h), ← beq_iff_eq (a := d.ep), hbe]
    · intro hz
      rw [hz] at hb2
      simpa using hb2
    · intro x hx
      have := List.any_eq_false.1 ha x hx
      simp at this
      exact this
  · rintro ⟨h1, h2, h3, h4, h5, h6, h7⟩
    have hl : lockE d.ep d.h d.u = 0 := by
      unfold lockE
      rw [outB_false.2 h1, outB_false.2 h2, outB_false.2 h3, if_neg (by decide), if_neg]
      intro hb
      by_cases hz : d.h = 0
      · simp [hz, h4.1 hz, h5 hz] at hb
      · have he : ¬ d.ep = 0 := fun e => hz (h4.2 e)
        have b1 : (d.h == 0) = false := beq_eq_false_iff_ne.2 hz
        have b2 : (d.ep == 0) = false := beq_eq_false_iff_ne.2 he
        rw [b1, b2] at hb
        simp at hb
    rw [if_pos hl]
    unfold dlogE
    rw [if_pos h6, if_neg]
    intro ha
    obtain ⟨x, hx, hp⟩ := List.any_eq_true.1 ha
    have := h7 x hx
    simp at hp
    omega
theorem lend_zero {ep h u who now : Int} (e : lendE ep h u who now = 0) : (heldB h u now = true ∧ h = who ∧ lendP ep h u now = ep) ∨ (heldB h u now = false ∧ ep < 999 ∧ lendP ep h u now = ep + 1) := by
  unfold lendE at e
  unfold lendP
  cases hb : heldB h u now
  · rw [hb] at e
    right
    refine ⟨rfl, ?_, by simp⟩
    rw [if_neg (by simp)] at e
    by_cases h9 : 999 ≤ ep
    · rw [if_pos (by simp [h9])] at e; exact absurd e (by decide)
    · omega
  · rw [hb] at e
    left
    refine ⟨rfl, ?_, by simp⟩
    by_cases hw : h = who
    · exact hw
    · rw [if_pos (by simp [hw])] at e; exact absurd e (by decide)
/-- Who gets the lock has a disk that is right. -/
theorem acq_good {d : Dk} {who now : Int} (h : acqE d who now = 0) : GoodD (acqD d who now) ∧ 1 ≤ (acqD d who now).ep ∧ (acqD d who now).h = who ∧ (acqD d who now).u = now + 10 ∧ (acqD d who now).l = d.l ∧ d.ep ≤ (acqD d who now).ep ∧ (acqD d who now).ep ≤ d.ep + 1 := by
  obtain ⟨h1, h2, h3, h4, h5⟩ := acq_zero h
  have g := (bad_iff d).1 h1
  rw [h5]
  have hp : (0 ≤ lendP d.ep d.h d.u now ∧ lendP d.ep d.h d.u now ≤ 999) ∧ 1 ≤ lendP d.ep d.h d.u now ∧ d.ep ≤ lendP d.ep d.h d.u now ∧ lendP d.ep d.h d.u now ≤ d.ep + 1 := by
    have ge := g.ep
    rcases lend_zero h4 with ⟨hb, hw, hp⟩ | ⟨hb, hw, hp⟩
    · rw [hp]
      have : ¬ d.ep = 0 := fun e => by
        have := g.held.2 e
        unfold heldB at hb
        rw [this] at hb
        simp at hb
      omega
    · rw [hp]; omega
  refine ⟨⟨hp.1, ⟨by show 0 ≤ who; omega, by show who ≤ 2; omega⟩, ⟨by show 0 ≤ now + 10; omega, by show now + 10 ≤ 10009; omega⟩, ⟨fun e => ?_, fun e => ?_⟩, fun e => ?_, g.log, fun x hx => ?_⟩, hp.2.1, rfl, rfl, rfl, hp.2.2⟩
  · have : who = 0 := e
    omega
  · have : lendP d.ep d.h d.u now = 0 := e
    omega
  · have : who = 0 := e
    omega
  · have := g.old x hx
    show x.ep ≤ lendP d.ep d.h d.u now
    omega
/-- FenceTime: for so long. -/
theorem ft_other {d : Dk} {who now more : Int} (h : acqE d who now = 0) (h0 : 0 ≤ more) (h1 : more ≤ 9999 - now) (h2 : more ≤ 10) : acqE (acqD d who now) (3 - who) (now + more) = 4 := by
  obtain ⟨g, g1, gh, gu, _⟩ := acq_good h
  obtain ⟨_, hw, hn, _⟩ := acq_zero h
  rw [acq_mk ((bad_iff _).2 g) (by omega) (by omega) (by omega) (by omega), gh, gu]
  unfold lendE
  have hb : heldB who (now + 10) (now + more) = true := by unfold heldB; simp; omega
  rw [hb, if_pos (by simp; omega)]
theorem ft_same {d : Dk} {who now more : Int} (h : acqE d who now = 0) (h0 : 0 ≤ more) (h1 : more ≤ 9999 - now) (h2 : more ≤ 10) : acqE (acqD d who now) who (now + more) = 0 ∧ (acqD (acqD d who now) who (now + more)).ep = (acqD d who now).ep ∧ (acqD (acqD d who now) who (now + more)).u = now + more + 10 := by
  obtain ⟨g, g1, gh, gu, _⟩ := acq_good h
  obtain ⟨_, hw, hn, _⟩ := acq_zero h
  have hb : heldB who (now + 10) (now + more) = true := by unfold heldB; simp; omega
  have he : acqE (acqD d who now) who (now + more) = 0 := by
    rw [acq_mk ((bad_iff _).2 g) (by omega) (by omega) (by omega) (by omega), gh, gu]
    unfold lendE
    rw [hb]
    simp
  obtain ⟨_, _, _, _, e5⟩ := acq_zero he
  refine ⟨he, ?_, ?_⟩
  · rw [e5]
    show lendP _ _ _ _ = _
    rw [gh, gu]
    unfold lendP
    rw [hb, if_pos rfl]
  · rw [e5]
theorem ft_full {d : Dk} {who now more : Int} (h : acqE d who now = 0) (h0 : 0 ≤ more) (h1 : more ≤ 9999 - now) (h2 : ¬ more ≤ 10) (h9 : (acqD d who now).ep = 999) : acqE (acqD d who now) (3 - who) (now + more) = 2 := by
  obtain ⟨g, g1, gh, gu, _⟩ := acq_good h
  obtain ⟨_, hw, hn, _⟩ := acq_zero h
  rw [acq_mk ((bad_iff _).2 g) (by omega) (by omega) (by omega) (by omega), gh, gu, h9]
  have hb : heldB who (now + 10) (now + more) = false := by unfold heldB; simp; omega
  unfold lendE
  rw [hb]
  simp
theorem ft_free {d : Dk} {who now more : Int} (h : acqE d who now = 0) (h0 : 0 ≤ more) (h1 : more ≤ 9999 - now) (h2 : ¬ more ≤ 10) (h9 : ¬ (acqD d who now).ep = 999) : acqE (acqD d who now) (3 - who) (now + more) = 0 ∧ (acqD (acqD d who now) (3 - who) (now + more)).ep = (acqD d who now).ep + 1 ∧ (acqD (acqD d who now) (3 - who) (now + more)).h = 3 - who := by
  obtain ⟨g, g1, gh, gu, _⟩ := acq_good h
  obtain ⟨_, hw, hn, _⟩ := acq_zero h
  have hb : heldB who (now + 10) (now + more) = false := by unfold heldB; simp; omega
  have ge := g.ep
  have he : acqE (acqD d who now) (3 - who) (now + more) = 0 := by
    rw [acq_mk ((bad_iff _).2 g) (by omega) (by omega) (by omega) (by omega), gh, gu]
    unfold lendE
    rw [hb]
    simp
    omega
  obtain ⟨_, _, _, _, e5⟩ := acq_zero he
  refine ⟨he, ?_, ?_⟩
  · rw [e5]
    show lendP _ _ _ _ = _
    rw [gh, gu]
    unfold lendP
    rw [hb, if_neg (by decide)]
  · rw [e5]
end Go.Proofs.Ytjainfehlbfiaaa
