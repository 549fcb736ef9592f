/- FenceElder: what it leans on. -/
import Derived.Test.YtjainfehlbfiaaaGreatQ35
import Derived.Test.YtjainfehlbfiaaaGreatQ37
import Derived.Test.YtjainfehlbfiaaaGreatQ40
set_option linter.unusedVariables false
set_option linter.unusedSimpArgs false
namespace Go.Proofs.YtjainfehlbfiaaaGreat
open Go.RowKit

def writeD (d : Dk) (epoch : Int) (o : Opd) : Dk := if writeE d epoch o = 0 then ⟨d.ep, d.h, d.u, d.l ++ [newE d.l epoch o]⟩ else noDk
theorem fwrite_any (d : Dk) (a : Option Addr) (c : Nat) (epoch : Int) (o : Opd) (w : World) (hc : d.l.length ≤ c) (hs : Lies enE w a d.l) :
    Calls Tryz.prog 8 #[.agg #[.int .i64 d.ep, .int .i64 d.h, .int .i64 d.u, .slice a d.l.length c], .int .i64 epoch, .agg #[.int .i64 o.k, .bool o.p.v, .int .u64 o.p.hi, .int .u64 o.p.lo, .int .i64 o.p.b, .bool o.a.v, .int .u64 o.a.hi, .int .u64 o.a.lo, .string o.who, .int .i64 o.pof, .int .i64 o.n]] w fun e w' => ∃ a' c', e = .returned (.tuple #[.agg #[.int .i64 (writeD d epoch o).ep, .int .i64 (writeD d epoch o).h, .int .i64 (writeD d epoch o).u, .slice a' (writeD d epoch o).l.length c'], .int .i64 (writeE d epoch o)]) ∧ (writeD d epoch o).l.length ≤ c' ∧ Lies enE w' a' (writeD d epoch o).l ∧ Below w.heap.size w w' := by
  by_cases h0 : writeE d epoch o = 0
  · refine (fwrite_ok d a c epoch o w hc hs h0).mono ?_
    rintro e w' ⟨v, rfl, ho, hb⟩
    have hn : (d.l ++ [newE d.l epoch o]).length = d.l.length + 1 := by simp
    rw [← hn] at ho
    obtain ⟨a', c', rfl, hc', hl, hg⟩ := own_open ho
    rw [show writeD d epoch o = ⟨d.ep, d.h, d.u, d.l ++ [newE d.l epoch o]⟩ by unfold writeD; rw [if_pos h0], h0]
    exact ⟨a', c', rfl, hc', hl, hb⟩
  · refine (fwrite_bad d a c epoch o w hc hs h0).mono ?_
    rintro e w' ⟨rfl, hb⟩
    rw [show writeD d epoch o = noDk by unfold writeD; rw [if_neg h0]]
    exact ⟨none, 0, rfl, Nat.le_refl _, Lies.nil _ _ _, hb⟩
theorem logFrom_snoc : ∀ (l done : List En) (x : En), logFrom done l = 0 → follE (done ++ l) x = 0 → logFrom done (l ++ [x]) = 0
  | [], done, x, h, hx => by
    rw [List.append_nil] at hx
    show logFrom done [x] = 0
    unfold logFrom
    rw [if_pos hx]; rfl
  | y :: r, done, x, h, hx => by
    rw [List.cons_append]
    unfold logFrom at h ⊢
    by_cases h0 : follE done y = 0
    · rw [if_pos h0] at h ⊢
      exact logFrom_snoc r _ x h (by rw [List.append_assoc]; exact hx)
    · rw [if_neg h0] at h; exact absurd h h0
theorem add_zero {l : List En} {ep : Int} {o : Opd} (h : addE l ep o = 0) : logE l = 0 ∧ follE l (newE l ep o) = 0 ∧ l.length < 30 := by
  unfold addE at h
  by_cases h1 : logE l = 0
  · rw [if_pos h1] at h
    by_cases h2 : follE l ⟨(l.length : Int) + 1, ep, o⟩ = 0
    · rw [if_pos h2] at h
      by_cases h3 : l.length < 30
      · exact ⟨h1, h2, h3⟩
      · rw [if_neg h3] at h; exact absurd h (by decide)
    · rw [if_neg h2] at h; exact absurd h h2
  · rw [if_neg h1] at h; exact absurd h h1
theorem logE_snoc {l : List En} {ep : Int} {o : Opd} (h : addE l ep o = 0) : logE (l ++ [newE l ep o]) = 0 := by
  obtain ⟨h1, h2, h3⟩ := add_zero h
  unfold logE at h1 ⊢
  rw [if_neg (by omega)] at h1
  rw [if_neg (by simp; omega)]
  exact logFrom_snoc l [] _ h1 h2
theorem write_zero {d : Dk} {epoch : Int} {o : Opd} (h : writeE d epoch o = 0) : GoodD d ∧ epoch = d.ep ∧ addE d.l epoch o = 0 ∧ writeD d epoch o = ⟨d.ep, d.h, d.u, d.l ++ [newE d.l epoch o]⟩ := by
  have hD : writeD d epoch o = ⟨d.ep, d.h, d.u, d.l ++ [newE d.l epoch o]⟩ := by unfold writeD; rw [if_pos h]
  unfold writeE at h
  by_cases h1 : d.bad = 0
  · rw [if_pos h1] at h
    unfold wrE at h
    by_cases h2 : ((epoch != d.ep) || (epoch == 0)) = true
    · rw [if_pos h2] at h; exact absurd h (by decide)
    · rw [if_neg h2] at h
      simp at h2
      exact ⟨(bad_iff d).1 h1, h2.1, h, hD⟩
  · rw [if_neg h1] at h; exact absurd h h1
theorem write_beg {d : Dk} {epoch : Int} {o : Opd} (h : writeE d epoch o = 0) : begE d.l (d.l ++ [newE d.l epoch o]) = 0 ∧ begB d.l (d.l ++ [newE d.l epoch o]) = true := by
  obtain ⟨g, -, ha, -⟩ := write_zero h
  refine ⟨by unfold begE; rw [if_pos g.log]; exact logE_snoc ha, ?_⟩
  unfold begB
  rw [List.take_left, (sameEn_iff _ _).2 rfl]
  simp
theorem write_good {d : Dk} {epoch : Int} {o : Opd} (h : writeE d epoch o = 0) : diskE d.ep d.h d.u (d.l ++ [newE d.l epoch o]) = 0 := by
  obtain ⟨g, he, ha, -⟩ := write_zero h
  have : GoodD ⟨d.ep, d.h, d.u, d.l ++ [newE d.l epoch o]⟩ := ⟨g.ep, g.h, g.u, g.held, g.none, logE_snoc ha, fun x hx => by
    rcases List.mem_append.1 hx with hx | hx
    · exact g.old x hx
    · simp at hx; subst hx; exact Int.le_of_eq he⟩
  exact (bad_iff ⟨d.ep, d.h, d.u, d.l ++ [newE d.l epoch o]⟩).2 this
theorem fe_other {d : Dk} {who now : Int} (h : acqE d who now = 0) : acqE (acqD d who now) (3 - who) now = 4 := by
  obtain ⟨h1, h2, h3, h4, h5⟩ := acq_zero h
  have g := acq_good h
  rw [acq_mk ((bad_iff _).2 g.1) (by omega) (by omega) h3.1 h3.2, g.2.2.1, g.2.2.2.1]
  unfold lendE heldB
  rw [if_pos]
  simp
  omega
theorem fe_same {d : Dk} {who now : Int} (h : acqE d who now = 0) : acqE (acqD d who now) who now = 0 ∧ acqD (acqD d who now) who now = acqD d who now := by
  obtain ⟨h1, h2, h3, h4, h5⟩ := acq_zero h
  have g := acq_good h
  have hb : heldB (acqD d who now).h (acqD d who now).u now = true := by
    rw [g.2.2.1, g.2.2.2.1]
    unfold heldB
    simp
    omega
  have e : acqE (acqD d who now) who now = 0 := by
    rw [acq_mk ((bad_iff _).2 g.1) h2.1 h2.2 h3.1 h3.2]
    unfold lendE
    rw [hb, g.2.2.1]
    simp
  refine ⟨e, ?_⟩
  rw [show acqD (acqD d who now) who now = ⟨lendP (acqD d who now).ep (acqD d who now).h (acqD d who now).u now, who, now + 10, (acqD d who now).l⟩ from (acq_zero e).2.2.2.2]
  unfold lendP
  rw [if_pos hb]
  have : ∀ (x : Dk), x.h = who → x.u = now + 10 → (⟨x.ep, who, now + 10, x.l⟩ : Dk) = x := fun x e1 e2 => by cases x; simp at e1 e2; subst e1; subst e2; rfl
  exact this _ g.2.2.1 g.2.2.2.1
theorem fe_elder {d : Dk} {who now : Int} (o : Opd) (h : acqE d who now = 0) : writeE (acqD d who now) ((acqD d who now).ep - 1) o = 4 := by
  have g := acq_good h
  unfold writeE
  rw [if_pos ((bad_iff _).2 g.1)]
  unfold wrE
  rw [if_pos]
  simp
  left
  omega
end Go.Proofs.YtjainfehlbfiaaaGreat
