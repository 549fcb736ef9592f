/- The closures of doer.pool and doer.keep; doer.pool. -/
import Derived.Test.YtjainfehlbfiaaaGreatQ16
import Derived.Test.YtjainfehlbfiaaaGreatQ17
import Derived.Test.YtjainfehlbfiaaaGreatQ18
set_option linter.unusedVariables false
set_option linter.unusedSimpArgs false
namespace Go.Proofs.YtjainfehlbfiaaaGreat
open Go.RowKit

set_option maxRecDepth 100000 in
theorem enters_pool1 : ∀ args w, (callFunc 67 args).run Tryz.prog w = .ok (.enter 67 args) w := by intro args w; rfl
set_option maxHeartbeats 4000000 in
set_option maxRecDepth 100000 in
theorem pool1_any (q : Nat) (p : Pf) (y : Pl) (hp : p.Ok) (cp : p.chk = 0) (cy : y.p.chk = 0) (w : World) (hq : Blk w q 31 [.bool p.v, .int .u64 p.hi, .int .u64 p.lo, .int .i64 p.b]) :
    Calls Tryz.prog 67 #[.agg #[.bool y.p.v, .int .u64 y.p.hi, .int .u64 y.p.lo, .int .i64 y.p.b, .slice y.s y.kept.length y.c], .pointer (some ⟨q, 0, none⟩)] w fun e w' => e = .returned (.bool (p.com y.p)) ∧ Below w.heap.size w w' := by
  have H1 : Hid (∀ w : World, Calls Tryz.prog 61 #[.agg #[.bool p.v, .int .u64 p.hi, .int .u64 p.lo, .int .i64 p.b], .agg #[.bool y.p.v, .int .u64 y.p.hi, .int .u64 y.p.lo, .int .i64 y.p.b]] w fun e w' => e = .returned (.bool (p.com y.p)) ∧ Below w.heap.size w w') := fun w => common_any p y.p hp y.pok cp cy w
  have HB0 := Lib.hid (bal (Below.refl w.heap.size w) (.cells #[.bool y.p.v, .int .u64 y.p.hi, .int .u64 y.p.lo, .int .i64 y.p.b, .slice y.s y.kept.length y.c] 87))
  obtain ⟨⟨c0, c1, c2, c3⟩, -⟩ := (hq.below (bal (Below.refl w.heap.size w) (.cells #[.bool y.p.v, .int .u64 y.p.hi, .int .u64 y.p.lo, .int .i64 y.p.b, .slice y.s y.kept.length y.c] 87))).four
  have hlt := hq.lt
  generalize p.com y.p = R at *
  generalize p.v = x0 at *
  generalize p.hi = x1 at *
  generalize p.lo = x2 at *
  generalize p.b = x3 at *
  generalize y.p.v = y0 at *
  generalize y.p.hi = y1 at *
  generalize y.p.lo = y2 at *
  generalize y.p.b = y3 at *
  generalize y.kept.length = y5 at *
  clear hq cy cp hp
  go_enter Tryz.func67, Tryz.ntmps67
  go_wp2_with fail
  refine (H1.out _).mono ?_
  rintro e w3 ⟨rfl, hb3⟩
  have HB3 := Lib.hid (btr HB0.out hb3)
  clear hb3 HB0
  go_wp2
  go_ret
  exact ⟨rfl, HB3.out⟩
set_option maxRecDepth 100000 in
theorem enters_pool2 : ∀ args w, (callFunc 69 args).run Tryz.prog w = .ok (.enter 69 args) w := by intro args w; rfl
set_option maxHeartbeats 4000000 in
set_option maxRecDepth 100000 in
theorem pool2_any (q : Nat) (p : Pf) (y : Pl) (hp : p.Ok) (cp : p.chk = 0) (cy : y.p.chk = 0) (w : World) (hq : Blk w q 31 [.bool p.v, .int .u64 p.hi, .int .u64 p.lo, .int .i64 p.b]) :
    Calls Tryz.prog 69 #[.agg #[.bool y.p.v, .int .u64 y.p.hi, .int .u64 y.p.lo, .int .i64 y.p.b, .slice y.s y.kept.length y.c], .pointer (some ⟨q, 0, none⟩)] w fun e w' => e = .returned (.bool (decide (p.cmpP y.p < 0))) ∧ Below w.heap.size w w' := by
  have H1 : Hid (∀ w : World, Calls Tryz.prog 60 #[.agg #[.bool p.v, .int .u64 p.hi, .int .u64 p.lo, .int .i64 p.b], .agg #[.bool y.p.v, .int .u64 y.p.hi, .int .u64 y.p.lo, .int .i64 y.p.b]] w fun e w' => e = .returned (.int .i64 (p.cmpP y.p)) ∧ Below w.heap.size w w') := fun w => compare_any _ _ _ _ _ _ _ _ w hp.1 hp.2.2.1 y.pok.1 y.pok.2.2.1
  have HB0 := Lib.hid (bal (Below.refl w.heap.size w) (.cells #[.bool y.p.v, .int .u64 y.p.hi, .int .u64 y.p.lo, .int .i64 y.p.b, .slice y.s y.kept.length y.c] 87))
  obtain ⟨⟨c0, c1, c2, c3⟩, -⟩ := (hq.below (bal (Below.refl w.heap.size w) (.cells #[.bool y.p.v, .int .u64 y.p.hi, .int .u64 y.p.lo, .int .i64 y.p.b, .slice y.s y.kept.length y.c] 87))).four
  have hlt := hq.lt
  generalize p.cmpP y.p = R at *
  generalize p.v = x0 at *
  generalize p.hi = x1 at *
  generalize p.lo = x2 at *
  generalize p.b = x3 at *
  generalize y.p.v = y0 at *
  generalize y.p.hi = y1 at *
  generalize y.p.lo = y2 at *
  generalize y.p.b = y3 at *
  generalize y.kept.length = y5 at *
  clear hq cy cp hp
  go_enter Tryz.func69, Tryz.ntmps69
  go_wp2_with fail
  refine (H1.out _).mono ?_
  rintro e w3 ⟨rfl, hb3⟩
  have HB3 := Lib.hid (btr HB0.out hb3)
  clear hb3 HB0
  go_wp2
  go_ret
  exact ⟨rfl, HB3.out⟩
theorem own_ne_blk {w : World} {B t t' k n b : Nat} {v : Value} {R cs : List Value} (h : w.ownsRow B t k v n R) (hb : Blk w b t' cs) (ht : t ≠ t') : v.ownBlock ≠ some b := by
  intro e
  rcases h.2 with ⟨rfl, _⟩ | ⟨g, c, cur, rfl, _, hg, _⟩
  · simp [Value.ownBlock] at e
  · have : g = b := by simpa [Value.ownBlock] using e
    subst this
    unfold Blk at hb
    rw [hg] at hb
    simp at hb
    exact ht hb.2
/-- A state whose lists are the call's own. -/
structure OwnR (w : World) (B : Nat) (vP vL : Value) (P : List Pl) (l : List Ls) : Prop where
  pools : w.ownsRow B 87 plE.k vP P.length (rowOf plE P)
  leases : w.ownsRow B 106 lsE.k vL l.length (rowOf lsE l)
  kept : ∀ x ∈ P, w.ownsRow B 29 adE.k x.v x.kept.length (rowOf adE x.kept)
/-- What comes of a pool more. -/
def poolC (P : List Pl) (p : Pf) : Int := if (P.any fun y => p.com y.p) = true then 6 else if 3 ≤ P.length then 2 else 0
def spotP (P : List Pl) (p : Pf) : Nat := firstN (fun y => decide (p.cmpP y.p < 0)) P
def insP (P : List Pl) (p : Pf) (hp : p.Ok) : List Pl := P.take (spotP P p) ++ ⟨p, [], none, 0, hp⟩ :: P.drop (spotP P p)
theorem firstN_le {α : Type} (f : α → Bool) (l : List α) : firstN f l ≤ l.length := by
  unfold firstN
  cases h : l.findIdx? f with
  | none => exact Nat.le_refl _
  | some i =>
    obtain ⟨hi, _⟩ := List.findIdx?_eq_some_iff_getElem.1 h
    exact Nat.le_of_lt hi
set_option maxHeartbeats 16000000 in
set_option maxRecDepth 100000 in
theorem dpool_bad (db B : Nat) (a5 a6 : Option Addr) (c5 c6 : Nat) (P : List Pl) (l : List Ls) (now : Int) (p : Pf) (hp : p.Ok) (cp : p.chk = 0) (w : World) (hd : Blk w db 94 [.slice a5 P.length c5, .slice a6 l.length c6, .int .i64 now]) (hdB : B ≤ db) (ho : OwnS w B (.slice a5 P.length c5) (.slice a6 l.length c6) P l) (hg : ∀ y ∈ P, y.p.chk = 0) (hP3 : P.length ≤ 3) (h0 : ¬ poolC P p = 0) :
    Calls Tryz.prog 51 #[.pointer (some ⟨db, 0, none⟩), .agg #[.bool p.v, .int .u64 p.hi, .int .u64 p.lo, .int .i64 p.b]] w fun e w' => e = .returned (.int .i64 (poolC P p)) ∧ Below w.heap.size w w' := by
  have hBw : B ≤ w.heap.size := Nat.le_trans hdB (Nat.le_of_lt hd.lt)
  have hlie : Lies plE w a5 P := by obtain ⟨a', c', e, h1, h2, h3⟩ := own_open ho.pools; injection e with e1 e2 e3; rw [e1]; exact h2
  have HB0 := Lib.hid (bal (Below.refl w.heap.size w) (.cells #[.bool p.v, .int .u64 p.hi, .int .u64 p.lo, .int .i64 p.b] 31))
  have HX0 := Lib.hid (Blk.new w [.bool p.v, .int .u64 p.hi, .int .u64 p.lo, .int .i64 p.b] 31)
  have HD0 := Lib.hid (hd.below (bal (Below.refl w.heap.size w) (.cells #[.bool p.v, .int .u64 p.hi, .int .u64 p.lo, .int .i64 p.b] 31)))
  have hC : Hid (∀ W : World, Below w.heap.size w W → Blk W w.heap.size 31 [.bool p.v, .int .u64 p.hi, .int .u64 p.lo, .int .i64 p.b] → Calls Tryz.prog 63 #[.slice a5 P.length c5, .func (.func 67) #[] #[.pointer (some ⟨w.heap.size, 0, none⟩)]] W fun e w' => e = .returned (.bool (P.any fun y => p.com y.p)) ∧ Below W.heap.size W w') := fun W hW hq =>
    conPl_any a5 c5 P W _ #[.pointer (some ⟨w.heap.size, 0, none⟩)] (fun y => p.com y.p) (by omega) (hlie.below hW) enters_pool1 fun W' y hy hb => (pool1_any w.heap.size p y hp cp (hg y hy) W' (hq.below hb)).mono fun e w' ⟨h1, h2⟩ => ⟨h1, btr hb h2⟩
  unfold poolC at *
  generalize (P.any fun y => p.com y.p) = b at *
  generalize P.length = PN at *
  generalize l.length = LN at *
  clear ho hg hd hlie cp hp
  generalize p.v = x0 at *
  generalize p.hi = x1 at *
  generalize p.lo = x2 at *
  generalize p.b = x3 at *
  obtain ⟨⟨p0, p1, p2⟩, -⟩ := HD0.out.three
  cases b
  · rw [if_neg (by decide)] at h0 ⊢
    have hP : PN = 3 := by apply Classical.byContradiction; intro h; exact h0 (if_neg (by omega))
    subst hP
    rw [if_pos (by decide)]
    clear h0
    go_enter Tryz.func51, Tryz.ntmps51
    go_wp2_with fail
    refine (hC.out _ HB0.out HX0.out).mono ?_
    rintro e w1 ⟨rfl, hb1⟩
    have HB1 := Lib.hid (btr HB0.out hb1)
    have HX1 := Lib.hid (HX0.out.below hb1)
    have HD1 := Lib.hid (HD0.out.below hb1)
    clear hb1 HB0 HX0 HD0 hC p0 p1 p2
    obtain ⟨⟨p0, p1, p2⟩, p3, p4, p5⟩ := HD1.out.three
    obtain ⟨⟨q0, q1, q2, q3⟩, -⟩ := HX1.out.four
    go_wp2_with fail
    go_ret
    exact ⟨rfl, HB1.out⟩
  · rw [if_pos rfl] at h0 ⊢
    clear h0
    go_enter Tryz.func51, Tryz.ntmps51
    go_wp2_with fail
    refine (hC.out _ HB0.out HX0.out).mono ?_
    rintro e w1 ⟨rfl, hb1⟩
    have HB1 := Lib.hid (btr HB0.out hb1)
    have HX1 := Lib.hid (HX0.out.below hb1)
    have HD1 := Lib.hid (HD0.out.below hb1)
    clear hb1 HB0 HX0 HD0 hC p0 p1 p2
    obtain ⟨⟨p0, p1, p2⟩, p3, p4, p5⟩ := HD1.out.three
    obtain ⟨⟨q0, q1, q2, q3⟩, -⟩ := HX1.out.four
    go_wp2_with fail
    go_ret
    exact ⟨rfl, HB1.out⟩
set_option maxHeartbeats 16000000 in
set_option maxRecDepth 100000 in
theorem dpool_ok (db B : Nat) (a5 a6 : Option Addr) (c5 c6 : Nat) (P : List Pl) (l : List Ls) (now : Int) (p : Pf) (hp : p.Ok) (cp : p.chk = 0) (w : World) (hd : Blk w db 94 [.slice a5 P.length c5, .slice a6 l.length c6, .int .i64 now]) (hdB : B ≤ db) (ho : OwnS w B (.slice a5 P.length c5) (.slice a6 l.length c6) P l) (hg : ∀ y ∈ P, y.p.chk = 0) (hP3 : P.length ≤ 3) (h0 : poolC P p = 0) :
    Calls Tryz.prog 51 #[.pointer (some ⟨db, 0, none⟩), .agg #[.bool p.v, .int .u64 p.hi, .int .u64 p.lo, .int .i64 p.b]] w fun e w' => e = .returned (.int .i64 0) ∧ ∃ vP, Blk w' db 94 [vP, .slice a6 l.length c6, .int .i64 now] ∧ OwnR w' B vP (.slice a6 l.length c6) (insP P p hp) l ∧ Below B w w' ∧ Fr w w' db (.slice a5 P.length c5) (.slice a6 l.length c6) P := by
  have hBw : B ≤ w.heap.size := Nat.le_trans hdB (Nat.le_of_lt hd.lt)
  have hlie : Lies plE w a5 P := by obtain ⟨a', c', e, h1, h2, h3⟩ := own_open ho.pools; injection e with e1 e2 e3; rw [e1]; exact h2
  have HB0 := Lib.hid (bal (Below.refl w.heap.size w) (.cells #[.bool p.v, .int .u64 p.hi, .int .u64 p.lo, .int .i64 p.b] 31))
  have HX0 := Lib.hid (Blk.new w [.bool p.v, .int .u64 p.hi, .int .u64 p.lo, .int .i64 p.b] 31)
  have HD0 := Lib.hid (hd.below (bal (Below.refl w.heap.size w) (.cells #[.bool p.v, .int .u64 p.hi, .int .u64 p.lo, .int .i64 p.b] 31)))
  have hC : Hid (∀ W : World, Below w.heap.size w W → Blk W w.heap.size 31 [.bool p.v, .int .u64 p.hi, .int .u64 p.lo, .int .i64 p.b] → Calls Tryz.prog 63 #[.slice a5 P.length c5, .func (.func 67) #[] #[.pointer (some ⟨w.heap.size, 0, none⟩)]] W fun e w' => e = .returned (.bool (P.any fun y => p.com y.p)) ∧ Below W.heap.size W w') := fun W hW hq =>
    conPl_any a5 c5 P W _ #[.pointer (some ⟨w.heap.size, 0, none⟩)] (fun y => p.com y.p) (by omega) (hlie.below hW) enters_pool1 fun W' y hy hb => (pool1_any w.heap.size p y hp cp (hg y hy) W' (hq.below hb)).mono fun e w' ⟨h1, h2⟩ => ⟨h1, btr hb h2⟩
  have hb : (P.any fun y => p.com y.p) = false := by
    unfold poolC at h0
    cases h : (P.any fun y => p.com y.p)
    · rfl
    · rw [h, if_pos rfl] at h0; exact absurd h0 (by decide)
  have hPN : P.length < 3 := by
    unfold poolC at h0
    rw [hb, if_neg (by decide)] at h0
    apply Classical.byContradiction
    intro h
    rw [if_pos (by omega)] at h0
    exact absurd h0 (by decide)
  rw [hb] at hC
  have hF : Hid (∀ W : World, Below w.heap.size w W → Blk W w.heap.size 31 [.bool p.v, .int .u64 p.hi, .int .u64 p.lo, .int .i64 p.b] → Calls Tryz.prog 68 #[.slice a5 P.length c5, .func (.func 69) #[] #[.pointer (some ⟨w.heap.size, 0, none⟩)]] W fun e w' => e = .returned (.int .i64 (spotP P p)) ∧ Below W.heap.size W w') := fun W hW hq =>
    firstPl_any a5 c5 P W _ #[.pointer (some ⟨w.heap.size, 0, none⟩)] (fun y => decide (p.cmpP y.p < 0)) (by omega) (hlie.below hW) enters_pool2 fun W' y hy hb => (pool2_any w.heap.size p y hp cp (hg y hy) W' (hq.below hb)).mono fun e w' ⟨h1, h2⟩ => ⟨h1, btr hb h2⟩
  have hI : Hid (∀ (vb : Nat) (W : World), Below w.heap.size w W → w.heap.size ≤ vb → W.heap[vb]? = some (.cells #[.bool p.v, .int .u64 p.hi, .int .u64 p.lo, .int .i64 p.b, .slice none 0 0] 87 (0, 0)) → Calls Tryz.prog 70 #[.slice a5 P.length c5, .int .i64 (spotP P p), .slice (some ⟨vb, 0, none⟩) 1 1] W fun e w' => ∃ g' c', e = .returned (.slice (some ⟨g', 0, none⟩) (P.length + 1) c') ∧ w'.ownsRow B 87 plE.k (.slice (some ⟨g', 0, none⟩) (P.length + 1) c') (P.length + 1) (rowOf plE (insP P p hp)) ∧ W.grownBy w' (Value.slice a5 P.length c5).ownBlock) := fun vb W hW hvb hx =>
    insPl_any B (spotP P p) vb (.slice a5 P.length c5) P ⟨p, [], none, 0, hp⟩ W (own_keep ho.pools hW) (by omega) (firstN_le _ _) (Nat.le_trans hBw hW.size) hx (fun e => by have := (ho.pools.lt vb e).2; omega)
  have hFin : Hid (∀ (W w3 : World) (g' c' : Nat), Below w.heap.size w W → Blk W db 94 [.slice a5 P.length c5, .slice a6 l.length c6, .int .i64 now] → w3.ownsRow B 87 plE.k (.slice (some ⟨g', 0, none⟩) (P.length + 1) c') (P.length + 1) (rowOf plE (insP P p hp)) → W.grownBy w3 (Value.slice a5 P.length c5).ownBlock → Blk w3 db 94 [.slice a5 P.length c5, .slice a6 l.length c6, .int .i64 now] ∧ Blk (w3.setCell ⟨db, 0, none⟩ (.slice (some ⟨g', 0, none⟩) (P.length + 1) c')) db 94 [.slice (some ⟨g', 0, none⟩) (P.length + 1) c', .slice a6 l.length c6, .int .i64 now] ∧ OwnR (w3.setCell ⟨db, 0, none⟩ (.slice (some ⟨g', 0, none⟩) (P.length + 1) c')) B (.slice (some ⟨g', 0, none⟩) (P.length + 1) c') (.slice a6 l.length c6) (insP P p hp) l ∧ Below B w (w3.setCell ⟨db, 0, none⟩ (.slice (some ⟨g', 0, none⟩) (P.length + 1) c')) ∧ Fr w (w3.setCell ⟨db, 0, none⟩ (.slice (some ⟨g', 0, none⟩) (P.length + 1) c')) db (.slice a5 P.length c5) (.slice a6 l.length c6) P) := by
    intro W w3 g' c' hW hD h3 hgr
    have hne : (Value.slice a5 P.length c5).ownBlock ≠ some db := own_ne_blk ho.pools hd (by decide)
    have hD3 : Blk w3 db 94 [.slice a5 P.length c5, .slice a6 l.length c6, .int .i64 now] := (hgr.block db hD.lt hne.symm).trans hD
    have hlen : (insP P p hp).length = P.length + 1 := by unfold insP; have := firstN_le (fun y : Pl => decide (p.cmpP y.p < 0)) P; simp [spotP]; omega
    have hL3 : w3.ownsRow B 106 lsE.k (.slice a6 l.length c6) l.length (rowOf lsE l) := (own_keep ho.leases hW).kept hgr (by
      cases h : (Value.slice a6 l.length c6).ownBlock with
      | none => exact .inl rfl
      | some b => exact .inr (fun e => ho.pl b e.symm h))
    have hK3 : ∀ x ∈ P, w3.ownsRow B 29 adE.k x.v x.kept.length (rowOf adE x.kept) := fun x hx => (own_keep (ho.kept x hx) hW).kept hgr (by
      cases h : x.v.ownBlock with
      | none => exact .inl rfl
      | some b => exact .inr (fun e => (ho.pk x hx b h).1 e.symm))
    refine ⟨hD3, hD3.set 0 _, ⟨?_, own_cell hL3 0 (own_ne_blk hL3 hD3 (by decide)) _, fun x hx => ?_⟩, ?_, (Fr.grown hW hgr (.inl rfl)).set (.inl rfl) 0 _⟩
    · rw [hlen]; exact own_cell h3 0 (own_ne_blk h3 hD3 (by decide)) _
    · unfold insP at hx
      rcases List.mem_append.1 hx with hx | hx
      · have := hK3 x (List.mem_of_mem_take hx)
        exact own_cell this 0 (own_ne_blk this hD3 (by decide)) _
      · rcases List.mem_cons.1 hx with rfl | hx
        · exact World.ownsRow_nil _ _ _ _
        · have := hK3 x (List.mem_of_mem_drop hx)
          exact own_cell this 0 (own_ne_blk this hD3 (by decide)) _
    · exact ((hW.mono hBw).grown hgr (Nat.le_trans hBw hW.size) (fun k hk => (ho.pools.lt k hk).1)).setCell (by exact hdB) _
  have hs0 : ((spotP P p : Nat) : Int) ≤ (P.length : Int) := by have := firstN_le (fun y : Pl => decide (p.cmpP y.p < 0)) P; show ((firstN (fun y : Pl => decide (p.cmpP y.p < 0)) P : Nat) : Int) ≤ _; omega
  generalize (Value.slice a5 P.length c5).ownBlock = ob at *
  generalize insP P p hp = IP at *
  generalize rowOf plE IP = row at *
  generalize spotP P p = sp at *
  generalize P.length = PN at *
  generalize l.length = LN at *
  clear ho hg hd hlie cp h0 hb
  generalize p.v = x0 at *
  generalize p.hi = x1 at *
  generalize p.lo = x2 at *
  generalize p.b = x3 at *
  obtain ⟨⟨p0, p1, p2⟩, -⟩ := HD0.out.three
  have hP3' : ¬ (3 : Int) ≤ (PN : Int) := by omega
  go_enter Tryz.func51, Tryz.ntmps51
  go_wp2_with fail
  refine (hC.out _ HB0.out HX0.out).mono ?_
  rintro e w1 ⟨rfl, hb1⟩
  have HB1 := Lib.hid (btr HB0.out hb1)
  have HX1 := Lib.hid (HX0.out.below hb1)
  have HD1 := Lib.hid (HD0.out.below hb1)
  clear hb1 HB0 HX0 HD0 hC p0 p1 p2
  obtain ⟨⟨p0, p1, p2⟩, p3, p4, p5⟩ := HD1.out.three
  obtain ⟨⟨q0, q1, q2, q3⟩, -⟩ := HX1.out.four
  go_wp2_with fail
  refine (hF.out _ HB1.out HX1.out).mono ?_
  rintro e w2 ⟨rfl, hb2⟩
  have HB2 := Lib.hid (btr HB1.out hb2)
  have HX2 := Lib.hid (HX1.out.below hb2)
  have HD2 := Lib.hid (HD1.out.below hb2)
  clear hb2 HB1 HX1 HD1 hF p0 p1 p2 p3 p4 p5 q0 q1 q2 q3
  obtain ⟨⟨p0, p1, p2⟩, p3, p4, p5⟩ := HD2.out.three
  obtain ⟨⟨q0, q1, q2, q3⟩, -⟩ := HX2.out.four
  have HBe := Lib.hid (bal HB2.out (.cells #[.bool x0, .int .u64 x1, .int .u64 x2, .int .i64 x3, .slice none 0 0] 87)).drew
  have HDe := Lib.hid (HD2.out.below (bal (Below.refl w2.heap.size w2) (.cells #[.bool x0, .int .u64 x1, .int .u64 x2, .int .i64 x3, .slice none 0 0] 87)).drew)
  have HVe : Hid ((w2.alloc (.cells #[.bool x0, .int .u64 x1, .int .u64 x2, .int .i64 x3, .slice none 0 0] 87)).drew.heap[w2.heap.size]? = some (.cells #[.bool x0, .int .u64 x1, .int .u64 x2, .int .i64 x3, .slice none 0 0] 87 (0, 0))) := heap_alloc_new w2 _
  obtain ⟨⟨r0, r1, r2⟩, -⟩ := HDe.out.three
  obtain ⟨⟨u0, u1, u2, u3⟩, -⟩ := (HX2.out.below (bal (Below.refl w2.heap.size w2) (.cells #[.bool x0, .int .u64 x1, .int .u64 x2, .int .i64 x3, .slice none 0 0] 87)).drew).four
  have hz2 := HB2.out.size
  go_wp2_with fail
  go_cut [4] from 6 to 40 (fun v4 wc => ∃ (g' c' : Nat), v4 = .int .i64 0 ∧ Hid (Blk wc db 94 [.slice (some ⟨g', 0, none⟩) (PN + 1) c', .slice a6 LN c6, .int .i64 now] ∧ OwnR wc B (.slice (some ⟨g', 0, none⟩) (PN + 1) c') (.slice a6 LN c6) IP l ∧ Below B w wc ∧ Fr w wc db (.slice a5 PN c5) (.slice a6 LN c6) P))
  case first =>
    go_wp2_with fail
    go_region_with
      (go_at_call 70; (refine (hI.out _ _ HBe.out hz2 HVe.out).mono ?_); rintro e w3 ⟨g', c', rfl, h3, hgr⟩; have HF := Lib.hid (hFin.out _ _ _ _ HBe.out HDe.out h3 hgr); obtain ⟨⟨t0, t1, t2⟩, t3, t4, t5⟩ := HF.out.1.three; clear h3 hgr)
    all_goals go_wp2_with fail
    all_goals go_meet
    all_goals exact ⟨g', c', rfl, HF.out.2⟩
  case rest =>
    obtain ⟨g', c', rfl, hK⟩ := hcut
    go_wp2
    go_ret
    exact ⟨rfl, _, hK.out.1, hK.out.2.1, hK.out.2.2⟩
end Go.Proofs.YtjainfehlbfiaaaGreat
