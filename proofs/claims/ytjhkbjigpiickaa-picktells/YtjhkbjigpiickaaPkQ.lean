/- The document's way to the first room, on prefixes, and the program's: they are one. -/
import Derived.Test.YtjhkbjigpiickaaPkP
import Derived.Test.YtjhkbjigpiickaaReC
set_option linter.unusedVariables false
set_option linter.unusedSimpArgs false
namespace Go.Proofs.Ytjhkbjigpiickaa
open Go.RowKit

/-- The document's way to the first room. -/
def firstP (us : List Pf) (bits : Int) : Nat → Pf → Option Pf
  | 0, p => if anyH us p = true then none else if anyM us p = true then none else some ⟨p.v, p.hi, p.lo, bits⟩
  | k + 1, p => if anyH us p = true then none else if anyM us p = true then (if p.b = bits then none else (firstP us bits k p.lo').or (firstP us bits k p.hi')) else some ⟨p.v, p.hi, p.lo, bits⟩
theorem firstP_nd {us : List Pf} (hu : ∀ u ∈ us, u.R) {bits : Int} : ∀ (k : Nat) (p : Pf), p.R → p.nd.h = k → p.b ≤ bits → bits ≤ wid p.v →
    (∀ x ∈ firstP us bits k p, x.R ∧ x.v = p.v ∧ x.b = bits) ∧ (firstP us bits k p).map Pf.nd = firstN (us.map Pf.nd) (wid p.v - bits).toNat k p.nd
  | 0, p, r, hk, h1, h2 => by
    rw [firstP, firstN]
    have e1 := anyH_nd hu r
    have e2 := anyM_nd hu r
    by_cases c1 : anyH us p = true
    · rw [if_pos c1, if_pos (e1.1 c1)]; exact ⟨by simp, rfl⟩
    rw [if_neg c1, if_neg (fun h => c1 (e1.2 h))]
    by_cases c2 : anyM us p = true
    · rw [if_pos c2, if_pos (e2.1 c2)]; exact ⟨by simp, rfl⟩
    rw [if_neg c2, if_neg (fun h => c2 (e2.2 h))]
    exact ⟨fun x hx => by simp at hx; subst hx; exact ⟨first_R r h1 h2, rfl, rfl⟩, rfl⟩
  | k + 1, p, r, hk, h1, h2 => by
    rw [firstP, firstN]
    have b1 := r.b1
    have e1 := anyH_nd hu r
    have e2 := anyM_nd hu r
    by_cases c1 : anyH us p = true
    · rw [if_pos c1, if_pos (e1.1 c1)]; exact ⟨by simp, rfl⟩
    rw [if_neg c1, if_neg (fun h => c1 (e1.2 h))]
    by_cases c2 : anyM us p = true
    · rw [if_pos c2, if_pos (e2.1 c2)]
      have hh : (wid p.v - p.b).toNat = k + 1 := hk
      by_cases c3 : p.b = bits
      · rw [if_pos c3, if_pos (by show (wid p.v - p.b).toNat = _; rw [c3])]; exact ⟨by simp, rfl⟩
      · have hlt : p.b < wid p.v := by omega
        rw [if_neg c3, if_neg (by show ¬ (wid p.v - p.b).toNat = _; omega)]
        have hh1 : p.lo'.nd.h = k := by rw [nd_lo r hlt]; simp [Nd.lo, hk]
        have hh2 : p.hi'.nd.h = k := by rw [nd_hi r hlt]; simp [Nd.hi, hk]
        obtain ⟨a1, a2⟩ := firstP_nd hu (bits := bits) k p.lo' (lo_R r hlt) hh1 (by show p.b + 1 ≤ bits; omega) h2
        obtain ⟨d1, d2⟩ := firstP_nd hu (bits := bits) k p.hi' (hi_R r hlt) hh2 (by show p.b + 1 ≤ bits; omega) h2
        rw [nd_lo r hlt] at a2
        rw [nd_hi r hlt] at d2
        have a2' : (firstP us bits k p.lo').map Pf.nd = firstN (us.map Pf.nd) (wid p.v - bits).toNat k p.nd.lo := a2
        have d2' : (firstP us bits k p.hi').map Pf.nd = firstN (us.map Pf.nd) (wid p.v - bits).toNat k p.nd.hi := d2
        rw [← a2', ← d2']
        cases hx : firstP us bits k p.lo' with
        | none => exact ⟨fun x hx' => d1 x (by simpa using hx'), by simp⟩
        | some y => exact ⟨fun x hx' => a1 x (by rw [hx]; simpa using hx'), by simp⟩
    · rw [if_neg c2, if_neg (fun h => c2 (e2.2 h))]
      exact ⟨fun x hx => by simp at hx; subst hx; exact ⟨first_R r h1 h2, rfl, rfl⟩, rfl⟩
/-- Of a norm of what is left the first one that is wide enough is where the document finds the first room. -/
theorem wide_first {p : Pf} {us M : List Pf} (r : p.R) (hu : ∀ u ∈ us, u.R) (h : IsRoom p us M) {bits : Int} (h1 : p.b ≤ bits) (h2 : bits ≤ wid p.v) : wideP bits M = firstP us bits p.nd.h p := by
  have hv : ∀ q ∈ M, q.R ∧ q.v = p.v := fun q hq => ⟨h.right q hq, ((has_nd r (h.right q hq)).1 (room_in r h hq)).1⟩
  obtain ⟨a1, a2⟩ := wideP_nd hv h2
  obtain ⟨c1, c2⟩ := firstP_nd hu (bits := bits) p.nd.h p r rfl h1 h2
  have b1 := r.b1
  refine nd_inj_opt (fun x hx => (a1 x hx).1) (fun x hx => (c1 x hx).1) ?_
  rw [a2, c2, room_nd r hu h, firstN_find (nd_ok r) (map_ok hu) _ p.nd.h p.nd (nd_ok r) rfl p.nd.has_refl (by show (wid p.v - bits).toNat ≤ (wid p.v - p.b).toNat; omega)]
end Go.Proofs.Ytjhkbjigpiickaa
