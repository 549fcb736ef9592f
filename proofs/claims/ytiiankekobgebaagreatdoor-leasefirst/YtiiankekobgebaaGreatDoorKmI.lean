/- LeaseFirst: the law. -/
import Derived.Test.YtiiankekobgebaaGreatDoorKmG
set_option linter.unusedVariables false
set_option linter.unusedSimpArgs false
namespace Go.Proofs.YtiiankekobgebaaGreatDoor
open Go.RowKit Go.Shelf

theorem first_law (p : Pf) (hp : p.Ok) (ka : Option Addr) (kc : Nat) (kept : List Ad) (a : Option Addr) (c : Nat) (l : List Ls) (who : ByteArray) (now : Int) (w : World) (hg : Good w) (hk : Lies adE w ka kept) (hs : Lies lsE w a l) (hwho : who.size ≤ maxLen) :
    Calls Tryz.prog 4 #[.agg #[.bool p.v, .int .u64 p.hi, .int .u64 p.lo, .int .i64 p.b, .slice ka kept.length kc], .slice a l.length c, .string who, .int .i64 now] w fun e w' => e = .returned (.bool true) ∧ Below w.heap.size w w' := by
  by_cases hv : checkE p kept l now = 0
  · by_cases hwb : whoB who = true
    · cases hf : l.findIdx? (Ls.hasWho who) with
      | some i => exact lf_has p hp ka kc kept a c l who now w hg hk hs hwho hv hwb i hf
      | none =>
        obtain ⟨hp0, hl0, _⟩ := check_zero hv
        obtain ⟨hpc, hwd, hkl, _⟩ := pool_zero hp0
        have r : p.R := (right_iff p.v p.hi p.lo p.b hp.1 hp.2.1 hp.2.2.1 hp.2.2.2).1 hpc
        have hge : grantE p kept l who now 1 = 0 := by unfold grantE; rw [if_pos hv, if_pos hwb, if_neg (by decide)]
        have hn := grant_none_who (now := now) hf
        cases hk1 : firstK p kept (live l now) with
        | some k =>
          have hr : grantR p kept (live l now) who (now + 1) = some (insOf ⟨adK p k, who, now + 1⟩ (live l now), adK p k) := by
            unfold grantR
            rw [hn, hk1]
            rfl
          unfold firstK at hk1
          obtain ⟨_, xs, bs, h1, h2⟩ := List.find?_eq_some_iff_append.1 hk1
          have hkm : k < p.many := List.mem_range.1 (List.mem_of_find?_eq_some hk1)
          have hlen : xs.length = k := by
            have h3 : (List.range p.many)[xs.length]? = some k := by rw [h1]; simp
            rw [List.getElem?_eq_some_iff] at h3
            obtain ⟨h4, h5⟩ := h3
            simpa using h5
          refine lf_go p hp ka kc kept a c l who now w hg hk hs hwho r hwd hv hwb hf (adK p k) k hkm rfl ⟨_, gOut_some hge hr⟩ fun j hj => ?_
          have h3 : j ∈ xs := by
            have h4 : (List.range p.many)[j]? = some j := by rw [List.getElem?_range (by omega)]
            rw [h1, List.getElem?_append_left (by omega)] at h4
            exact List.mem_of_getElem? h4
          simpa using h2 j h3
        | none =>
          have hr : grantR p kept (live l now) who (now + 1) = none := by
            unfold grantR
            rw [hn, hk1]
            rfl
          unfold firstK at hk1
          rw [List.find?_eq_none] at hk1
          exact lf_full p hp ka kc kept a c l who now w hg hk hs hwho r hwd hv hwb hf p.many rfl (gOut_none hge hr) fun j hj => by simpa using hk1 j (List.mem_range.2 hj)
    · exact lf_who p hp ka kc kept a c l who now w hg hk hs hwho hv (by simpa using hwb)
  · exact lf_chk p hp ka kc kept a c l who now w hg hk hs hwho hv
end Go.Proofs.YtiiankekobgebaaGreatDoor
