/- LeaseFirst: whatever pool, leases, name and time it is handed, it answers true, and they read as they did. Under the row's own conditions alone: the listed variables of Go's library start as its text lays them (the card ties them to that text). -/
import Derived.Test.YtiiankekobgebaaGreatDoorKmG
import Derived.Test.YtiiankekobgebaaGreatDoorKmO
import Derived.Test.YtiiankekobgebaaGreatDoorLift
import Derived.Test.YtiiankekobgebaaGreatDoorTie
import Derived.Test.YtiiankekobgebaaGreatDoorCards
import Derived.SevenTiedAt
set_option linter.unusedVariables false
set_option linter.unusedSimpArgs false
namespace Go.Proofs.YtiiankekobgebaaGreatDoor
open Go.RowKit Go.Shelf

theorem first_law (p : Pf) (hp : p.Ok) (ka : Option Addr) (kc : Nat) (kept : List Ad) (a : Option Addr) (c : Nat) (l : List Ls) (who : ByteArray) (now : Int) (w : World) (hg : Good w) (hk : Lies adE w ka kept) (hs : Lies lsE w a l) (hwho : who.size ≤ maxLen) :
    Calls Tryz.prog 4 #[.agg #[.bool p.v, .int .u64 p.hi, .int .u64 p.lo, .int .i64 p.b, .slice ka kept.length kc], .slice a l.length c, .string who, .int .i64 now] w fun e w' => e = .returned (.bool true) ∧ Below w.heap.size w w' := by
  by_cases hv : checkE p kept l now = 0
  · by_cases hwb : whoB who = true
    · cases hf : l.findIdx? (Ls.hasWho who) with
      | some i => exact lf_has p hp ka kc kept a c l who now w hg hk hs hwho hv hwb i hf
      | none =>
        obtain ⟨hp0, hl0, _⟩ := check_zero hv
        obtain ⟨hpc, hwd, hkl, _⟩ := pool_zero hp0
        have r : p.R := (right_iff p.v p.hi p.lo p.b hp.1 hp.2.1 hp.2.2.1 hp.2.2.2).1 hpc
        have hge : grantE p kept l who now 1 = 0 := by unfold grantE; rw [if_pos hv, if_pos hwb, if_neg (by decide)]
        have hn := grant_none_who (now := now) hf
        cases hk1 : firstK p kept (live l now) with
        | some k =>
          have hr : grantR p kept (live l now) who (now + 1) = some (insOf ⟨adK p k, who, now + 1⟩ (live l now), adK p k) := by
            unfold grantR
            rw [hn, hk1]
            rfl
          unfold firstK at hk1
          obtain ⟨_, xs, bs, h1, h2⟩ := List.find?_eq_some_iff_append.1 hk1
          have hkm : k < p.many := List.mem_range.1 (List.mem_of_find?_eq_some hk1)
          have hlen : xs.length = k := by
            have h3 : (List.range p.many)[xs.length]? = some k := by rw [h1]; simp
            rw [List.getElem?_eq_some_iff] at h3
            obtain ⟨h4, h5⟩ := h3
            simpa using h5
          refine lf_go p hp ka kc kept a c l who now w hg hk hs hwho r hwd hv hwb hf (adK p k) k hkm rfl ⟨_, gOut_some hge hr⟩ fun j hj => ?_
          have h3 : j ∈ xs := by
            have h4 : (List.range p.many)[j]? = some j := by rw [List.getElem?_range (by omega)]
            rw [h1, List.getElem?_append_left (by omega)] at h4
            exact List.mem_of_getElem? h4
          simpa using h2 j h3
        | none =>
          have hr : grantR p kept (live l now) who (now + 1) = none := by
            unfold grantR
            rw [hn, hk1]
            rfl
          unfold firstK at hk1
          rw [List.find?_eq_none] at hk1
          exact lf_full p hp ka kc kept a c l who now w hg hk hs hwho r hwd hv hwb hf p.many rfl (gOut_none hge hr) fun j hj => by simpa using hk1 j (List.mem_range.2 hj)
    · exact lf_who p hp ka kc kept a c l who now w hg hk hs hwho hv (by simpa using hwb)
  · exact lf_chk p hp ka kc kept a c l who now w hg hk hs hwho hv
end Go.Proofs.YtiiankekobgebaaGreatDoor

namespace Go.Proofs.YtiiankekobgebaaGreatDoor
open Go.ChangeShapes Go.WideShapes Go.ChangeAt Go.WideMaps Go.WideElems Go.RowKit

theorem laidOut : laidOutB Tryz.prog = true := by kernel_rfl

set_option maxHeartbeats 1600000 in
set_option maxRecDepth 100000 in
theorem first_lifted (os : Os) (started : os.Started) (H : Type) (enc : TypeId × Value → H) :
    ReturnsInHanded {} Tryz.checked os 4 .any (fun w args => (Rows.leaseFirstSpec.pre enc Tryz.prog Tryz.f4 [] false w args ∧ laidMetH Tryz.prog laidAllVars w) ∧ sizedMet enc Tryz.prog Tryz.f4 (OpenSpec.ofChange Rows.leaseFirstSpec) false w args)
      (Rows.leaseFirstSpec.post enc Tryz.prog Tryz.f4 false true false false) := by
  refine returns_laid_shaped (C := Tryz.checked) (X := fun w _ => laidMetH Tryz.prog laidAllVars w) (fun _ _ _ hh h => h.of_heap hh) own started (by kernel_rfl) Tryz.func4
    (ChangeSpec.witness_shaped (enc := enc) (C := Tryz.checked) (os := os) (X := fun w _ => laidMetH Tryz.prog laidAllVars w) false (World.laidAll Tryz.prog os laidAllVars) #[.agg #[.bool false, .int .u64 0, .int .u64 0, .int .i64 0, .slice none 0 0], .slice none 0 0, .string ⟨#[]⟩, .int .i64 0] 8 (World.laidAll_os _ _ _)
      (World.shaped_of_ZipB (by kernel_rfl) (by kernel_rfl)) (by kernel_rfl) (by kernel_rfl) (by kernel_rfl)
      (by rw [MakeChecks.laidMetH_plain _ _ _ (by kernel_rfl)]; exact laidMet_laidAll _ (by kernel_rfl) (by kernel_rfl))) ?_
  intro W base args ds gs before hval0 hW hL hsh
  have hval : ∀ (j : Nat) t v, Tryz.f4.params[j]? = some t → args[j]? = some v → Value.okWide Tryz.prog W .any base t v := hval0
  have hW' := hW
  obtain ⟨p, q, hA0, hV, rfl, _, _⟩ := hW
  have hA : DataW.TrodAll enc Tryz.prog W 0 (fun _ => true) true Tryz.f4.params.toList args.toList ds p := hA0
  have hAk := hA
  rw [Tryz.params4] at hA hval
  obtain ⟨v0, v1, v2, v3, d0, d1, d2, d3, p0, p1, p2, p3, rfl, rfl, h0, h1, h2, h3⟩ := tfour hA
  obtain ⟨rfl, rfl⟩ := trodVars_none hV
  obtain ⟨pf, ka, kept, kc, rfl, hpo, hkc, hkl⟩ := open_pool (hval 0 29 v0 rfl rfl) h0
  obtain ⟨a, l, c, rfl, hcap, hsl, hws⟩ := open_lss (hval 1 30 v1 rfl rfl) h1
  obtain ⟨s, rfl, hss⟩ := open_str (hval 2 9 v2 rfl rfl) h2
  obtain ⟨n3, rfl, rfl, rfl, g3⟩ := open_int Tryz.underlying3 (hval 3 3 v3 rfl rfl) h3
  clear hA0 hval0
  simp only [List.append_nil] at hW'
  have hlt : ∀ y ∈ p, y.block < W.heap.size := fun y hy => by simpa using hW'.lt y (by simp [hy])
  refine (first_law pf hpo ka kc kept a c l s n3 W (good_of hL hsh) hkl hsl hss).mono fun e W' ⟨he, hb⟩ => ?_
  subst he
  have harg := below_trodAll laidOut hb (by intro t ht; rw [Tryz.params4] at ht; simp at ht; rcases ht with rfl | rfl | rfl | rfl <;> exact ⟨by kernel_rfl, of_decide_eq_true (by kernel_rfl)⟩) hAk hlt
  exact ⟨_, rfl, _, _, _, [], _, [], hW', trodAll_mk1 (shut_bool Tryz.underlying4 _), harg, rfl, hb.frame _, fun h => by cases h⟩

theorem first_holds : Rows.LeaseFirstSaid :=
  OpenClaim.holds_of_wide 4 Tryz.f4 rfl rfl rfl rfl rfl rfl rfl ⟨rfl, rfl, rfl, rfl, rfl⟩ rfl rfl rfl rfl rfl (by kernel_rfl) Tryz.func4 (by kernel_rfl)
    (of_decide_eq_true (by kernel_rfl)) (by unfold Func.isWrapper; first | (rw [if_pos (by decide +kernel)]; kernel_rfl) | (rw [if_neg (by decide +kernel)]; exact ⟨rfl, rfl⟩))
    (fun os started H enc _ => first_lifted os started H enc)

theorem first_card : Rows.LeaseFirstCardSaid :=
  Claim7.holds_tied_plain_at .later [] [.data, .data, .data, .data, .sentinel, .sentinel, .pinned] true Rows.leaseFirstCard.stood.harness true
    first_holds (fun _ h => by cases h) (by kernel_rfl) (fun _ h => by cases h) leaseFirst_row_tie rfl ⟨rfl, rfl⟩ (by kernel_rfl) rfl
    (fun f fn hf hfn => by
      obtain rfl : f = 4 := Option.some.inj ((show Tryz.prog.funcNamed "yardarm/yardarmlaw.LeaseFirst" = some 4 by kernel_rfl).symm.trans hf) |>.symm
      obtain rfl : fn = Tryz.f4 := (Option.some.inj (Tryz.func4.symm.trans hfn)).symm
      exact ⟨by kernel_rfl, fun j t ht => by
        rw [Tryz.params4] at ht
        rcases j with _ | _ | _ | _ | j
        · obtain rfl : 29 = t := by simpa using ht
          exact (show Tryz.prog.wantsStandIn 29 = false by kernel_rfl)
        · obtain rfl : 30 = t := by simpa using ht
          exact (show Tryz.prog.wantsStandIn 30 = false by kernel_rfl)
        · obtain rfl : 9 = t := by simpa using ht
          exact (show Tryz.prog.wantsStandIn 9 = false by kernel_rfl)
        · obtain rfl : 3 = t := by simpa using ht
          exact (show Tryz.prog.wantsStandIn 3 = false by kernel_rfl)
        · simp at ht⟩)
    (by kernel_rfl)
#print axioms first_card
end Go.Proofs.YtiiankekobgebaaGreatDoor
