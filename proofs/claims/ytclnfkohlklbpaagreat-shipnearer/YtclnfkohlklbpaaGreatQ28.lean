/- What the card leans on: StX, StV. -/
import Derived.Test.YtclnfkohlklbpaaGreatQ23
import Derived.Test.YtclnfkohlklbpaaGreatQ26
import Derived.Test.YtclnfkohlklbpaaGreatQ27
set_option linter.unusedVariables false
set_option linter.unusedSimpArgs false
namespace Go.Proofs.YtclnfkohlklbpaaGreat
open Go.RowKit

theorem leasesFrom_zero {P : List Pl} {now : Int} : ∀ {l done : List Ls}, leasesFrom P now done l = 0 → ∀ i (hi : i < l.length), (P.any fun y => y.p.ina l[i].a) = true ∧ ((done ++ l.take i).any (whoIs l[i].who)) = false ∧ ¬ l[i].un < now
  | [], _, _, i, hi => absurd hi (Nat.not_lt_zero _)
  | x :: r, done, h, i, hi => by
    unfold leasesFrom at h
    by_cases h1 : (P.any fun y => y.p.ina x.a) = true
    · rw [if_pos h1] at h
      by_cases h2 : done.any (whoIs x.who) = true
      · rw [if_pos h2] at h; exact absurd h (by decide)
      · rw [if_neg h2] at h
        by_cases h3 : x.un < now
        · rw [if_pos h3] at h; exact absurd h (by decide)
        · rw [if_neg h3] at h
          cases i with
          | zero =>
            refine ⟨h1, ?_, h3⟩
            rw [List.take_zero, List.append_nil]
            exact Bool.eq_false_iff.2 h2
          | succ j =>
            have ih := leasesFrom_zero (l := r) h j (by simpa using hi)
            rw [List.append_assoc] at ih
            exact ih
    · rw [if_neg h1] at h; exact absurd h (by decide)
theorem live_all {l : List Ls} {now : Int} (h : ∀ x ∈ l, ¬ x.un < now) : live l now = l := by
  unfold live
  rw [List.filter_eq_self]
  intro x hx
  simp [h x hx]
theorem insOf_len (x : Ls) (l : List Ls) : (insOf x l).length = l.length + 1 := by
  unfold insOf
  have := spot_le x l
  simp
  omega
theorem grantR_len {p : Pf} {kept : List Ad} {l : List Ls} {who : ByteArray} {un : Int} {l' : List Ls} {x : Ad} (h : grantR p kept l who un = some (l', x)) : 0 < l'.length ∧ (l'.length = l.length ∨ l'.length = l.length + 1) := by
  unfold grantR at h
  cases hf : l.findIdx? (fun y => y.who.toList == who.toList) with
  | some i =>
    rw [hf] at h
    obtain ⟨hi, _⟩ := List.findIdx?_eq_some_iff_getElem.1 hf
    simp only [List.getElem?_eq_getElem hi, Option.map_some, Option.some.injEq, Prod.mk.injEq] at h
    rw [← h.1, List.length_set]
    exact ⟨by omega, .inl rfl⟩
  | none =>
    rw [hf] at h
    simp only [Option.map_eq_some_iff, Prod.mk.injEq] at h
    obtain ⟨k, _, h2, _⟩ := h
    rw [← h2, insOf_len]
    exact ⟨by omega, .inr rfl⟩
theorem firstN_mono {α : Type} {f g : α → Bool} {l : List α} (h : ∀ x ∈ l, g x = true → f x = true) : firstN f l ≤ firstN g l := by
  unfold firstN
  cases hg : l.findIdx? g with
  | none =>
    cases hf : l.findIdx? f with
    | none => exact Nat.le_refl _
    | some i => obtain ⟨hi, _⟩ := List.findIdx?_eq_some_iff_getElem.1 hf; exact Nat.le_of_lt hi
  | some j =>
    obtain ⟨hj, hgj, _⟩ := List.findIdx?_eq_some_iff_getElem.1 hg
    have hfj := h _ (List.getElem_mem hj) hgj
    cases hf : l.findIdx? f with
    | none => have := List.findIdx?_eq_none_iff.1 hf _ (List.getElem_mem hj); rw [hfj] at this; exact absurd this (by decide)
    | some i =>
      obtain ⟨hi, _, hlt⟩ := List.findIdx?_eq_some_iff_getElem.1 hf
      show i ≤ j
      apply Classical.byContradiction
      intro hn
      exact hlt j (by omega) hfj
end Go.Proofs.YtclnfkohlklbpaaGreat

namespace Go.Proofs.YtclnfkohlklbpaaGreat
open Go.RowKit

theorem gOut_len {p : Pf} {kept : List Ad} {l : List Ls} {who : ByteArray} {now ttl : Int} (hl : ∀ x ∈ l, ¬ x.un < now) (h : (gOut p kept l who now ttl).1 = 0) : 0 < (gOut p kept l who now ttl).2.1.length ∧ ((gOut p kept l who now ttl).2.1.length = l.length ∨ (gOut p kept l who now ttl).2.1.length = l.length + 1) := by
  by_cases h0 : grantE p kept l who now ttl = 0
  · cases hr : grantR p kept (live l now) who (now + ttl) with
    | none => rw [gOut_none h0 hr] at h; exact absurd h (by decide)
    | some r =>
      obtain ⟨m, x⟩ := r
      rw [gOut_some h0 hr]
      have := grantR_len hr
      rw [live_all hl] at this
      exact this
  · rw [gOut_bad h0] at h; exact absurd h h0
set_option maxHeartbeats 8000000 in
set_option maxRecDepth 100000 in
theorem gpk_any (db B g : Nat) (a6 aG : Option Addr) (c5 c6 cG : Nat) (P : List Pl) (l : List Ls) (now : Int) (o : Opd) (w : World) (hd : Blk w db 78 [.slice (some ⟨g, 0, none⟩) P.length c5, .slice a6 l.length c6, .int .i64 now]) (hdB : B ≤ db) (ho : OwnS w B (.slice (some ⟨g, 0, none⟩) P.length c5) (.slice a6 l.length c6) P l) (hg : ∀ y ∈ P, y.p.chk = 0) (hl : l.length ≤ 20) (hun : ∀ x ∈ l, ¬ x.un < now) (n m : Nat) (hn : n < P.length) (hft : toL P[n].p l = fromL P[n].p l + m) (hml : fromL P[n].p l + m ≤ l.length) (G : Int × List Ls × Ad) (hG : G = gOut P[n].p P[n].kept ((l.drop (fromL P[n].p l)).take m) o.who now o.n) (NL : List Ls) (hNL : NL = l.take (fromL P[n].p l) ++ G.2.1 ++ l.drop (fromL P[n].p l + m))
    (h1 : c6 = fromL P[n].p l → aG = a6 ∧ cG = 0) (h2 : ¬ c6 = fromL P[n].p l → aG = Option.map (fun x => x.add (fromL P[n].p l * 5)) a6 ∧ cG = c6 - fromL P[n].p l) :
    GPk w B db g a6 aG c5 c6 cG P.length l.length now o.n o.who n (fromL P[n].p l) m (idxI (l.findIdx? (whoIs o.who))) P[n].p.v P[n].p.hi P[n].p.lo P[n].p.b P[n].s P[n].kept.length P[n].c G.1 G.2.1.length G.2.2.v G.2.2.hi G.2.2.lo (rowOf lsE G.2.1) (rowOf lsE NL) NL.length (Value.slice a6 l.length c6).ownBlock (fun w' vL => Blk w' db 78 [.slice (some ⟨g, 0, none⟩) P.length c5, vL, .int .i64 now] ∧ OwnR w' B (.slice (some ⟨g, 0, none⟩) P.length c5) vL P NL) (fun w' => Fr w w' db (.slice (some ⟨g, 0, none⟩) P.length c5) (.slice a6 l.length c6) P) := by
  have hBw : B ≤ w.heap.size := Nat.le_trans hdB (Nat.le_of_lt hd.lt)
  have hlie : Lies lsE w a6 l := by obtain ⟨a', c', e, h1, h2, h3⟩ := own_open ho.leases; injection e with e1 e2 e3; rw [e1]; exact h2
  have hliP : Lies plE w (some ⟨g, 0, none⟩) P := by obtain ⟨a', c', e, h1, h2, h3⟩ := own_open ho.pools; injection e with e1 e2 e3; rw [e1]; exact h2
  have hlc : l.length ≤ c6 := by obtain ⟨a', c', e, h1, h2, h3⟩ := own_open ho.leases; injection e with e1 e2 e3; omega
  obtain ⟨g', o', hgo, hgw, r0, r1, r2, r3, r4⟩ := hliP.pl n hn
  obtain ⟨rfl, rfl⟩ : g = g' ∧ 0 = o' := by simpa using hgo
  rw [Nat.zero_add] at r0 r1 r2 r3 r4
  have hlM : ((l.drop (fromL P[n].p l)).take m).length = m := by rw [List.length_take, List.length_drop]; omega
  have hkA : Lies adE w P[n].s P[n].kept := by
    have := ho.kept P[n] (List.getElem_mem hn)
    obtain ⟨a', c', e, h1, h2, h3⟩ := own_open this
    unfold Pl.v at e
    injection e with e1 e2 e3; rw [e1]; exact h2
  have hGl : G.1 = 0 → 0 < G.2.1.length ∧ (G.2.1.length = m ∨ G.2.1.length = m + 1) := fun h => by
    rw [hG] at h ⊢
    have := gOut_len (fun x hx => hun x (List.mem_of_mem_drop (List.mem_of_mem_take hx))) h
    rw [hlM] at this
    exact this
  have haG : aG = (if c6 = fromL P[n].p l then a6 else Option.map (fun x => x.add (fromL P[n].p l * 5)) a6) := by
    by_cases hc : c6 = fromL P[n].p l
    · rw [if_pos hc]; exact (h1 hc).1
    · rw [if_neg hc]; exact (h2 hc).1
  have hcG : cG = c6 - fromL P[n].p l := by
    by_cases hc : c6 = fromL P[n].p l
    · rw [(h1 hc).2]; omega
    · exact (h2 hc).2
  refine ⟨fun W hW => ⟨by rw [(bcell hW).1 _ _ hgw]; exact r0, by rw [(bcell hW).1 _ _ hgw]; exact r1, by rw [(bcell hW).1 _ _ hgw]; exact r2, by rw [(bcell hW).1 _ _ hgw]; exact r3, by rw [(bcell hW).1 _ _ hgw]; exact r4⟩, ?_, fun W => by_ctor o.who W, fun q W hW hq => ifnBy a6 c6 l o.who q W (by omega) (hlie.below hW) hq, ?_, ?_, ?_, fun W hW => Fr.below hW⟩
  · intro W hW hD
    have := stretch_any db (some ⟨g, 0, none⟩) a6 P.length c5 c6 l now P[n].p P[n].pok (hg _ (List.getElem_mem hn)) W hD (by omega) (hlie.below hW)
    rw [hft] at this
    rw [show ((fromL P[n].p l : Int) + (m : Int)) = ((fromL P[n].p l + m : Nat) : Int) by omega]
    exact this
  · intro W hW
    have := lgrant_own P[n].p P[n].pok P[n].s P[n].c P[n].kept (if c6 = fromL P[n].p l then a6 else Option.map (fun x => x.add (fromL P[n].p l * 5)) a6) (c6 - fromL P[n].p l) ((l.drop (fromL P[n].p l)).take m) o.who now o.n W (hkA.below hW) (lies_mid (hlie.below hW) hml hlc)
    rw [hlM, ← hG, ← haG, ← hcG] at this
    exact this
  · intro h0 W a4 c4 hW h4
    rcases own_form h4 with ⟨e, e2⟩ | ⟨vb, c', e, hat⟩
    · have := (hGl h0).1; rw [e2] at this; exact absurd this (by simp)
    · rw [e]
      refine (repL_any B (fromL P[n].p l) m vb c' (.slice a6 l.length c6) l _ w.heap.size W (own_keep ho.leases hW) hl hml (Nat.le_trans hBw hW.size) hat (hGl h0).2 (hGl h0).1 (fun e => by have := (ho.leases.lt vb e).2; have := hat.base; omega)).mono ?_
      rintro e w' ⟨v', rfl, q2, q3⟩
      rw [← hNL] at q2
      obtain ⟨a7, c7, rfl⟩ := own_slice q2
      exact ⟨a7, c7, rfl, q2, q3⟩
  · intro W w3 a7 c7 cs hW hD hX h3 hgr
    have hne : (Value.slice a6 l.length c6).ownBlock ≠ some db := own_ne_blk ho.leases hd (by decide)
    have hob : ∀ b, w.heap.size ≤ b → (Value.slice a6 l.length c6).ownBlock ≠ some b := fun b hb e => by have := (ho.leases.lt b e).2; omega
    have hD3 : Blk w3 db 78 [.slice (some ⟨g, 0, none⟩) P.length c5, .slice a6 l.length c6, .int .i64 now] := (hgr.block db hD.lt hne.symm).trans hD
    have hX3 : Blk w3 (w.heap.size + 1) 38 cs := (hgr.block _ hX.lt (hob _ (by omega)).symm).trans hX
    have hP3' : w3.ownsRow B 71 plE.k (.slice (some ⟨g, 0, none⟩) P.length c5) P.length (rowOf plE P) := (own_keep ho.pools hW).kept hgr (.inr (fun e => ho.pl g rfl e.symm))
    have hK3 : ∀ x ∈ P, w3.ownsRow B 38 adE.k x.v x.kept.length (rowOf adE x.kept) := fun x hx => (own_keep (ho.kept x hx) hW).kept hgr (by
      cases h : x.v.ownBlock with
      | none => exact .inl rfl
      | some b => exact .inr (fun e => (ho.pk x hx b h).2 e.symm))
    have hR : OwnR (w3.setCell ⟨db, 1, none⟩ (.slice a7 NL.length c7)) B (.slice (some ⟨g, 0, none⟩) P.length c5) (.slice a7 NL.length c7) P NL := ⟨own_cell hP3' 1 (own_ne_blk hP3' hD3 (by decide)) _, own_cell h3 1 (own_ne_blk h3 hD3 (by decide)) _, fun x hx => own_cell (hK3 x hx) 1 (own_ne_blk (hK3 x hx) hD3 (by decide)) _⟩
    have n1 : (Value.slice (some (⟨g, 0, none⟩ : Addr)) P.length c5).ownBlock ≠ some (w.heap.size + 1) := fun e => by have := (ho.pools.lt _ e).2; omega
    have n2 : (Value.slice a7 NL.length c7).ownBlock ≠ some (w.heap.size + 1) := own_ne_blk h3 hX3 (by decide)
    have n3 : ∀ x ∈ P, x.v.ownBlock ≠ some (w.heap.size + 1) := fun x hx e => by have := ((ho.kept x hx).lt _ e).2; omega
    have hdx : db ≠ w.heap.size + 1 := by have := hd.lt; omega
    have hF : Fr w (w3.setCell ⟨db, 1, none⟩ (.slice a7 NL.length c7)) db (.slice (some ⟨g, 0, none⟩) P.length c5) (.slice a6 l.length c6) P := (Fr.grown hW hgr (.inr (.inl rfl))).set (.inl rfl) 1 _
    refine ⟨hD3, fun b hb1 hb2 => hgr.block b hb2 (hob b hb1).symm, fun u0 u1 u2 => ⟨⟨?_, ?_⟩, ?_⟩, ?_⟩
    · exact (((hD3.set 1 _).other hdx _).other hdx _).other hdx _
    · exact ((hR.cell n1 n2 n3 0 _).cell n1 n2 n3 1 _).cell n1 n2 n3 2 _
    · exact ((hF.set (.inr (.inl (by omega))) 0 _).set (.inr (.inl (by omega))) 1 _).set (.inr (.inl (by omega))) 2 _
    · exact ((hW.mono hBw).grown hgr (Nat.le_trans hBw hW.size) (fun k hk => (ho.leases.lt k hk).1)).setCell (by exact hdB) _
set_option maxRecDepth 100000 in
theorem dgrant_run (db B : Nat) (a5 a6 : Option Addr) (c5 c6 : Nat) (P : List Pl) (l : List Ls) (now : Int) (o : Opd) (w : World) (hd : Blk w db 78 [.slice a5 P.length c5, .slice a6 l.length c6, .int .i64 now]) (hdB : B ≤ db) (ho : OwnS w B (.slice a5 P.length c5) (.slice a6 l.length c6) P l) (hg : ∀ y ∈ P, y.p.chk = 0) (hl : l.length ≤ 20) (hun : ∀ x ∈ l, ¬ x.un < now) (n m : Nat) (hn : n < P.length) (hof : o.pof = (n : Int)) (hft : toL P[n].p l = fromL P[n].p l + m) (hml : fromL P[n].p l + m ≤ l.length) (hix : l.findIdx? (whoIs o.who) = none ∨ ∃ i, l.findIdx? (whoIs o.who) = some i ∧ fromL P[n].p l ≤ i ∧ i < fromL P[n].p l + m) (G : Int × List Ls × Ad) (hG : G = gOut P[n].p P[n].kept ((l.drop (fromL P[n].p l)).take m) o.who now o.n) (NL : List Ls) (hNL : NL = l.take (fromL P[n].p l) ++ G.2.1 ++ l.drop (fromL P[n].p l + m)) :
    Calls Tryz.prog 45 #[.pointer (some ⟨db, 0, none⟩), .agg #[.int .i64 o.k, .bool o.p.v, .int .u64 o.p.hi, .int .u64 o.p.lo, .int .i64 o.p.b, .bool o.a.v, .int .u64 o.a.hi, .int .u64 o.a.lo, .string o.who, .int .i64 o.pof, .int .i64 o.n]] w fun e w' => e = .returned (.tuple #[.agg #[.bool (gaddr G NL.length).v, .int .u64 (gaddr G NL.length).hi, .int .u64 (gaddr G NL.length).lo], .int .i64 (gcode G NL.length)]) ∧ (gcode G NL.length = 0 → ∃ vL, Blk w' db 78 [.slice a5 P.length c5, vL, .int .i64 now] ∧ OwnR w' B (.slice a5 P.length c5) vL P NL) ∧ Fr w w' db (.slice a5 P.length c5) (.slice a6 l.length c6) P ∧ Below B w w' := by
  obtain ⟨g, hga⟩ : ∃ g, a5 = some ⟨g, 0, none⟩ := by
    rcases own_form ho.pools with ⟨e, e2⟩ | ⟨g, c', e, _⟩
    · rw [e2] at hn; exact absurd hn (Nat.not_lt_zero _)
    · injection e with e1 e2 e3; exact ⟨g, e1⟩
  subst hga
  have hlc : l.length ≤ c6 := by obtain ⟨a', c', e, h1, h2, h3⟩ := own_open ho.leases; injection e with e1 e2 e3; omega
  have C1 := gc1 G NL.length
  have C2 := gc2 G NL.length
  have C3 := gc3 G NL.length
  rw [hof]
  by_cases hc : c6 = fromL P[n].p l
  · have hpk := gpk_any db B g a6 a6 c5 c6 0 P l now o w hd hdB ho hg hl hun n m hn hft hml G hG NL hNL (fun _ => ⟨rfl, rfl⟩) (fun h => absurd hc h)
    rcases hix with hi | ⟨i, hi, h1, h2⟩
    · rw [hi] at hpk
      rw [hc] at hd hpk ⊢
      exact gwalk_end w B db g a6 c5 P.length l.length now o.n o.who n _ m _ _ _ _ _ _ _ _ _ _ _ _ _ _ _ _ _ _ o.k o.p.v o.p.hi o.p.lo o.p.b o.a.v o.a.hi o.a.lo _ _ _ _ hd hdB hn (by omega) hpk C1 C2 C3
    · exact absurd h2 (by omega)
  · have hpk := gpk_any db B g a6 _ c5 c6 _ P l now o w hd hdB ho hg hl hun n m hn hft hml G hG NL hNL (fun h => absurd h hc) (fun _ => ⟨rfl, rfl⟩)
    rcases hix with hi | ⟨i, hi, h1, h2⟩
    · rw [hi] at hpk
      exact gwalk_new w B db g a6 c5 c6 P.length l.length now o.n o.who n _ m _ _ _ _ _ _ _ _ _ _ _ _ _ _ _ _ _ _ o.k o.p.v o.p.hi o.p.lo o.p.b o.a.v o.a.hi o.a.lo _ _ _ _ hd hdB hn (by omega) hc hpk C1 C2 C3
    · rw [hi] at hpk
      exact gwalk_again w B db g a6 c5 c6 P.length l.length now o.n o.who n _ m _ _ _ _ _ _ _ _ _ _ _ _ _ _ _ _ _ _ o.k o.p.v o.p.hi o.p.lo o.p.b o.a.v o.a.hi o.a.lo _ _ _ _ hd hdB hn (by omega) hc i h1 h2 hpk C1 C2 C3
end Go.Proofs.YtclnfkohlklbpaaGreat
