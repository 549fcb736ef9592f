/- doer.keep. -/
import Derived.Test.YtclnfkohlklbpaaGreatQ18
set_option linter.unusedVariables false
set_option linter.unusedSimpArgs false
namespace Go.Proofs.YtclnfkohlklbpaaGreat
open Go.RowKit

set_option maxRecDepth 100000 in
theorem enters_keep1 : ∀ args w, (callFunc 66 args).run Tryz.prog w = .ok (.enter 66 args) w := by intro args w; rfl
set_option maxHeartbeats 4000000 in
set_option maxRecDepth 100000 in
theorem keep1_any (q : Nat) (x y : Ad) (w : World) (hq : Blk w q 38 [.bool x.v, .int .u64 x.hi, .int .u64 x.lo]) :
    Calls Tryz.prog 66 #[.agg #[.bool y.v, .int .u64 y.hi, .int .u64 y.lo], .pointer (some ⟨q, 0, none⟩)] w fun e w' => e = .returned (.bool (x.less y)) ∧ Below w.heap.size w w' := by
  have H1 : Hid (∀ w : World, Calls Tryz.prog 37 #[.agg #[.bool x.v, .int .u64 x.hi, .int .u64 x.lo], .agg #[.bool y.v, .int .u64 y.hi, .int .u64 y.lo]] w fun e w' => e = .returned (.bool (x.less y)) ∧ Below w.heap.size w w') := fun w => oless_any _ _ _ _ _ _ w x.ok.1.1 x.ok.2.1 y.ok.1.1 y.ok.2.1
  have HB0 := Lib.hid (bal (Below.refl w.heap.size w) (.cells #[.bool y.v, .int .u64 y.hi, .int .u64 y.lo] 38))
  obtain ⟨⟨c0, c1, c2⟩, -⟩ := (hq.below (bal (Below.refl w.heap.size w) (.cells #[.bool y.v, .int .u64 y.hi, .int .u64 y.lo] 38))).three
  have hlt := hq.lt
  generalize x.less y = R at *
  generalize x.v = x0 at *
  generalize x.hi = x1 at *
  generalize x.lo = x2 at *
  generalize y.v = y0 at *
  generalize y.hi = y1 at *
  generalize y.lo = y2 at *
  clear hq
  go_enter Tryz.func66, Tryz.ntmps66
  go_wp2_with fail
  refine (H1.out _).mono ?_
  rintro e w3 ⟨rfl, hb3⟩
  have HB3 := Lib.hid (btr HB0.out hb3)
  clear hb3 HB0
  go_wp2
  go_ret
  exact ⟨rfl, HB3.out⟩
/-- Where an address belongs among those that are kept back. -/
def spotA (k : List Ad) (x : Ad) : Nat := firstN (fun y => x.less y) k
def insA (k : List Ad) (x : Ad) : List Ad := k.take (spotA k x) ++ x :: k.drop (spotA k x)
/-- Which pool has an address? -/
def poolAt (P : List Pl) (x : Ad) : Option Nat := P.findIdx? fun y => y.p.ina x
def keptC (k : List Ad) (x : Ad) : Int := if (k.any (sameA x)) = true then 6 else if 6 ≤ k.length then 2 else 0
set_option maxHeartbeats 16000000 in
set_option maxRecDepth 100000 in
theorem dkeep_none (db B : Nat) (a5 a6 : Option Addr) (c5 c6 : Nat) (P : List Pl) (l : List Ls) (now : Int) (x : Ad) (w : World) (hd : Blk w db 78 [.slice a5 P.length c5, .slice a6 l.length c6, .int .i64 now]) (hdB : B ≤ db) (ho : OwnS w B (.slice a5 P.length c5) (.slice a6 l.length c6) P l) (hg : ∀ y ∈ P, y.p.chk = 0) (hP3 : P.length ≤ 3) (h0 : poolAt P x = none) :
    Calls Tryz.prog 44 #[.pointer (some ⟨db, 0, none⟩), .agg #[.bool x.v, .int .u64 x.hi, .int .u64 x.lo]] w fun e w' => e = .returned (.int .i64 5) ∧ Below w.heap.size w w' := by
  have hBw : B ≤ w.heap.size := Nat.le_trans hdB (Nat.le_of_lt hd.lt)
  have hlie : Lies plE w a5 P := by obtain ⟨a', c', e, h1, h2, h3⟩ := own_open ho.pools; injection e with e1 e2 e3; rw [e1]; exact h2
  have HB0 := Lib.hid (bal (Below.refl w.heap.size w) (.cells #[.bool x.v, .int .u64 x.hi, .int .u64 x.lo] 38))
  have HX0 := Lib.hid (Blk.new w [.bool x.v, .int .u64 x.hi, .int .u64 x.lo] 38)
  have HD0 := Lib.hid (hd.below (bal (Below.refl w.heap.size w) (.cells #[.bool x.v, .int .u64 x.hi, .int .u64 x.lo] 38)))
  have hHas : Hid (∀ W : World, Calls Tryz.prog 56 #[.agg #[.bool x.v, .int .u64 x.hi, .int .u64 x.lo]] W fun e w' => e = .returned (.func (.func 80) #[] #[.pointer (some ⟨W.heap.size, 0, none⟩)]) ∧ w' = W.alloc (.cells #[.bool x.v, .int .u64 x.hi, .int .u64 x.lo] 38)) := fun W => has_ctor x W
  have hCon : Hid (∀ (q : Nat) (W : World), Below w.heap.size w W → Blk W q 38 [.bool x.v, .int .u64 x.hi, .int .u64 x.lo] → Calls Tryz.prog 63 #[.slice a5 P.length c5, .func (.func 80) #[] #[.pointer (some ⟨q, 0, none⟩)]] W fun e w' => e = .returned (.int .i64 (idxI (poolAt P x))) ∧ Below W.heap.size W w') := fun q W hW hq => ifnHas a5 c5 P x q W (by omega) hg (hlie.below hW) hq
  rw [h0] at hCon
  rw [show (idxI (none : Option Nat)) = -1 from rfl] at hCon
  generalize P.length = PN at *
  generalize l.length = LN at *
  clear ho hg hd hlie h0
  generalize x.v = x0 at *
  generalize x.hi = x1 at *
  generalize x.lo = x2 at *
  have KB := Lib.hid (bal HB0.out (.cells #[.bool x0, .int .u64 x1, .int .u64 x2] 38)).drew
  have KW : Hid (Below (w.alloc (.cells #[.bool x0, .int .u64 x1, .int .u64 x2] 38)).heap.size (w.alloc (.cells #[.bool x0, .int .u64 x1, .int .u64 x2] 38)) ((w.alloc (.cells #[.bool x0, .int .u64 x1, .int .u64 x2] 38)).alloc (.cells #[.bool x0, .int .u64 x1, .int .u64 x2] 38)).drew) := (bal (Below.refl _ _) _).drew
  have KV : Hid (Blk ((w.alloc (.cells #[.bool x0, .int .u64 x1, .int .u64 x2] 38)).alloc (.cells #[.bool x0, .int .u64 x1, .int .u64 x2] 38)).drew (w.heap.size + 1) 38 [.bool x0, .int .u64 x1, .int .u64 x2]) := by
    have := Blk.new (w.alloc (.cells #[.bool x0, .int .u64 x1, .int .u64 x2] 38)) [.bool x0, .int .u64 x1, .int .u64 x2] 38
    rw [show (w.alloc (.cells #[.bool x0, .int .u64 x1, .int .u64 x2] 38)).heap.size = w.heap.size + 1 by simp] at this
    exact this
  obtain ⟨⟨p0, p1, p2⟩, -⟩ := HD0.out.three
  obtain ⟨⟨q0, q1, q2⟩, -⟩ := HX0.out.three
  obtain ⟨⟨t0, t1, t2⟩, -⟩ := (HD0.out.below KW.out).three
  obtain ⟨⟨t3, t4, t5⟩, -⟩ := (HX0.out.below KW.out).three
  go_enter Tryz.func44, Tryz.ntmps44
  go_wp2_with fail
  go_cut [5] from 8 to 48 (fun v wc => v = .int .i64 (-1) ∧ Hid (Below (w.alloc (.cells #[.bool x0, .int .u64 x1, .int .u64 x2] 38)).heap.size (w.alloc (.cells #[.bool x0, .int .u64 x1, .int .u64 x2] 38)) wc))
  case first =>
    go_wp2_with fail
    go_region_with
      (first
        | (go_at_call 56; (refine (hHas.out _).mono ?_); rintro e wq ⟨rfl, rfl⟩)
        | (go_at_call 63; (refine (hCon.out _ _ KB.out KV.out).mono ?_); rintro e wz ⟨rfl, hbz⟩; have KZ := Lib.hid (btr KW.out hbz); clear hbz))
    all_goals go_wp2_with fail
    all_goals go_meet
    all_goals exact ⟨rfl, KZ⟩
  case rest =>
    obtain ⟨rfl, KC⟩ := hcut
    obtain ⟨w1, hw1⟩ : ∃ W, W = wc := ⟨_, rfl⟩
    subst hw1
    have HB1 := Lib.hid (btr HB0.out KC.out)
    have HX1 := Lib.hid (HX0.out.below KC.out)
    have HD1 := Lib.hid (HD0.out.below KC.out)
    clear KB KW KV KC HB0 HX0 HD0 hHas hCon p0 p1 p2 q0 q1 q2 t0 t1 t2 t3 t4 t5
    obtain ⟨⟨p0, p1, p2⟩, p3, p4, p5⟩ := HD1.out.three
    obtain ⟨⟨q0, q1, q2⟩, -⟩ := HX1.out.three
    go_wp2_with fail
    go_ret
    exact ⟨rfl, HB1.out⟩
set_option maxHeartbeats 16000000 in
set_option maxRecDepth 100000 in
theorem dkeep_bad (db B : Nat) (a5 a6 : Option Addr) (c5 c6 : Nat) (P : List Pl) (l : List Ls) (now : Int) (x : Ad) (w : World) (hd : Blk w db 78 [.slice a5 P.length c5, .slice a6 l.length c6, .int .i64 now]) (hdB : B ≤ db) (ho : OwnS w B (.slice a5 P.length c5) (.slice a6 l.length c6) P l) (hg : ∀ y ∈ P, y.p.chk = 0) (hP3 : P.length ≤ 3) (hK : ∀ y ∈ P, y.kept.length ≤ 6) (n : Nat) (hn : n < P.length) (h0 : poolAt P x = some n) (hbad : ¬ keptC P[n].kept x = 0) :
    Calls Tryz.prog 44 #[.pointer (some ⟨db, 0, none⟩), .agg #[.bool x.v, .int .u64 x.hi, .int .u64 x.lo]] w fun e w' => e = .returned (.int .i64 (keptC P[n].kept x)) ∧ Below w.heap.size w w' := by
  have hBw : B ≤ w.heap.size := Nat.le_trans hdB (Nat.le_of_lt hd.lt)
  have hlie : Lies plE w a5 P := by obtain ⟨a', c', e, h1, h2, h3⟩ := own_open ho.pools; injection e with e1 e2 e3; rw [e1]; exact h2
  have HB0 := Lib.hid (bal (Below.refl w.heap.size w) (.cells #[.bool x.v, .int .u64 x.hi, .int .u64 x.lo] 38))
  have HX0 := Lib.hid (Blk.new w [.bool x.v, .int .u64 x.hi, .int .u64 x.lo] 38)
  have HD0 := Lib.hid (hd.below (bal (Below.refl w.heap.size w) (.cells #[.bool x.v, .int .u64 x.hi, .int .u64 x.lo] 38)))
  have hHas : Hid (∀ W : World, Calls Tryz.prog 56 #[.agg #[.bool x.v, .int .u64 x.hi, .int .u64 x.lo]] W fun e w' => e = .returned (.func (.func 80) #[] #[.pointer (some ⟨W.heap.size, 0, none⟩)]) ∧ w' = W.alloc (.cells #[.bool x.v, .int .u64 x.hi, .int .u64 x.lo] 38)) := fun W => has_ctor x W
  have hCon : Hid (∀ (q : Nat) (W : World), Below w.heap.size w W → Blk W q 38 [.bool x.v, .int .u64 x.hi, .int .u64 x.lo] → Calls Tryz.prog 63 #[.slice a5 P.length c5, .func (.func 80) #[] #[.pointer (some ⟨q, 0, none⟩)]] W fun e w' => e = .returned (.int .i64 (idxI (poolAt P x))) ∧ Below W.heap.size W w') := fun q W hW hq => ifnHas a5 c5 P x q W (by omega) hg (hlie.below hW) hq
  rw [h0] at hCon
  rw [show (idxI (some n)) = (n : Int) from rfl] at hCon
  obtain ⟨g, hga⟩ : ∃ g, a5 = some ⟨g, 0, none⟩ := by
    rcases own_form ho.pools with ⟨e, e2⟩ | ⟨g, c', e, _⟩
    · rw [e2] at hn; exact absurd hn (Nat.not_lt_zero _)
    · injection e with e1 e2 e3; exact ⟨g, e1⟩
  subst hga
  have HAt := Lib.hid (own_at ho.pools).2
  obtain ⟨g', o', hgo, hgw, -, -, -, -, cc⟩ := HAt.out.lies.pl n hn
  obtain ⟨rfl, rfl⟩ : g = g' ∧ 0 = o' := by simpa using hgo
  rw [Nat.zero_add] at cc
  have HKo := Lib.hid (ho.kept P[n] (List.getElem_mem hn))
  have hkl : Lies adE w P[n].s P[n].kept := by
    obtain ⟨a', c', e, h1, h2, h3⟩ := own_open HKo.out
    unfold Pl.v at e
    injection e with e1 e2 e3; rw [e1]; exact h2
  have hk6 := hK P[n] (List.getElem_mem hn)
  have hCA : Hid (∀ W : World, Below w.heap.size w W → Calls Tryz.prog 64 #[.slice P[n].s P[n].kept.length P[n].c, .agg #[.bool x.v, .int .u64 x.hi, .int .u64 x.lo]] W fun e w' => e = .returned (.bool (P[n].kept.any (sameA x))) ∧ Below W.heap.size W w') := fun W hW => conA_any P[n].s P[n].c P[n].kept x W (by omega) (hkl.below hW)
  have HCc : Hid (∀ W : World, Below w.heap.size w W → W.cell? ⟨g, n * 5 + 4, none⟩ = some (.slice P[n].s P[n].kept.length P[n].c)) := fun W hW => by rw [(bcell hW).1 _ _ hgw]; exact cc
  clear hgo cc
  unfold keptC at *
  generalize (P[n].kept.any (sameA x)) = b at *
  generalize P[n].kept.length = kn at *
  generalize P[n].s = ks at *
  generalize P[n].c = kc at *
  clear HAt HKo hkl ho hg hd hlie h0 hK hgw
  generalize P.length = PN at *
  generalize l.length = LN at *
  have hn0 : (0 : Int) ≤ (n : Int) := by omega
  have hnz : (n : Int) < (PN : Int) := by omega
  generalize x.v = x0 at *
  generalize x.hi = x1 at *
  generalize x.lo = x2 at *
  cases b
  · rw [if_neg (by decide)] at hbad ⊢
    have hkn : kn = 6 := by apply Classical.byContradiction; intro h; exact hbad (if_neg (by omega))
    subst hkn
    rw [if_pos (by decide)]
    clear hbad
    have KB := Lib.hid (bal HB0.out (.cells #[.bool x0, .int .u64 x1, .int .u64 x2] 38)).drew
    have KW : Hid (Below (w.alloc (.cells #[.bool x0, .int .u64 x1, .int .u64 x2] 38)).heap.size (w.alloc (.cells #[.bool x0, .int .u64 x1, .int .u64 x2] 38)) ((w.alloc (.cells #[.bool x0, .int .u64 x1, .int .u64 x2] 38)).alloc (.cells #[.bool x0, .int .u64 x1, .int .u64 x2] 38)).drew) := (bal (Below.refl _ _) _).drew
    have KV : Hid (Blk ((w.alloc (.cells #[.bool x0, .int .u64 x1, .int .u64 x2] 38)).alloc (.cells #[.bool x0, .int .u64 x1, .int .u64 x2] 38)).drew (w.heap.size + 1) 38 [.bool x0, .int .u64 x1, .int .u64 x2]) := by
      have := Blk.new (w.alloc (.cells #[.bool x0, .int .u64 x1, .int .u64 x2] 38)) [.bool x0, .int .u64 x1, .int .u64 x2] 38
      rw [show (w.alloc (.cells #[.bool x0, .int .u64 x1, .int .u64 x2] 38)).heap.size = w.heap.size + 1 by simp] at this
      exact this
    obtain ⟨⟨p0, p1, p2⟩, -⟩ := HD0.out.three
    obtain ⟨⟨q0, q1, q2⟩, -⟩ := HX0.out.three
    obtain ⟨⟨t0, t1, t2⟩, -⟩ := (HD0.out.below KW.out).three
    obtain ⟨⟨t3, t4, t5⟩, -⟩ := (HX0.out.below KW.out).three
    go_enter Tryz.func44, Tryz.ntmps44
    go_wp2_with fail
    go_cut [5] from 8 to 48 (fun v wc => v = .int .i64 ((n : Int)) ∧ Hid (Below (w.alloc (.cells #[.bool x0, .int .u64 x1, .int .u64 x2] 38)).heap.size (w.alloc (.cells #[.bool x0, .int .u64 x1, .int .u64 x2] 38)) wc))
    case first =>
      go_wp2_with fail
      go_region_with
        (first
          | (go_at_call 56; (refine (hHas.out _).mono ?_); rintro e wq ⟨rfl, rfl⟩)
          | (go_at_call 63; (refine (hCon.out _ _ KB.out KV.out).mono ?_); rintro e wz ⟨rfl, hbz⟩; have KZ := Lib.hid (btr KW.out hbz); clear hbz))
      all_goals go_wp2_with fail
      all_goals go_meet
      all_goals exact ⟨rfl, KZ⟩
    case rest =>
      obtain ⟨rfl, KC⟩ := hcut
      obtain ⟨w1, hw1⟩ : ∃ W, W = wc := ⟨_, rfl⟩
      subst hw1
      have HB1 := Lib.hid (btr HB0.out KC.out)
      have HX1 := Lib.hid (HX0.out.below KC.out)
      have HD1 := Lib.hid (HD0.out.below KC.out)
      clear KB KW KV KC HB0 HX0 HD0 hHas hCon p0 p1 p2 q0 q1 q2 t0 t1 t2 t3 t4 t5
      obtain ⟨⟨p0, p1, p2⟩, p3, p4, p5⟩ := HD1.out.three
      obtain ⟨⟨q0, q1, q2⟩, -⟩ := HX1.out.three
      have z4 := HCc.out _ HB1.out
      go_wp2_with fail
      refine (hCA.out _ HB1.out).mono ?_
      rintro e w2 ⟨rfl, hb2⟩
      have HB2 := Lib.hid (btr HB1.out hb2)
      clear hb2
      go_wp2_with fail
      go_ret
      exact ⟨rfl, HB2.out⟩
  · rw [if_pos rfl] at hbad ⊢
    clear hbad
    have KB := Lib.hid (bal HB0.out (.cells #[.bool x0, .int .u64 x1, .int .u64 x2] 38)).drew
    have KW : Hid (Below (w.alloc (.cells #[.bool x0, .int .u64 x1, .int .u64 x2] 38)).heap.size (w.alloc (.cells #[.bool x0, .int .u64 x1, .int .u64 x2] 38)) ((w.alloc (.cells #[.bool x0, .int .u64 x1, .int .u64 x2] 38)).alloc (.cells #[.bool x0, .int .u64 x1, .int .u64 x2] 38)).drew) := (bal (Below.refl _ _) _).drew
    have KV : Hid (Blk ((w.alloc (.cells #[.bool x0, .int .u64 x1, .int .u64 x2] 38)).alloc (.cells #[.bool x0, .int .u64 x1, .int .u64 x2] 38)).drew (w.heap.size + 1) 38 [.bool x0, .int .u64 x1, .int .u64 x2]) := by
      have := Blk.new (w.alloc (.cells #[.bool x0, .int .u64 x1, .int .u64 x2] 38)) [.bool x0, .int .u64 x1, .int .u64 x2] 38
      rw [show (w.alloc (.cells #[.bool x0, .int .u64 x1, .int .u64 x2] 38)).heap.size = w.heap.size + 1 by simp] at this
      exact this
    obtain ⟨⟨p0, p1, p2⟩, -⟩ := HD0.out.three
    obtain ⟨⟨q0, q1, q2⟩, -⟩ := HX0.out.three
    obtain ⟨⟨t0, t1, t2⟩, -⟩ := (HD0.out.below KW.out).three
    obtain ⟨⟨t3, t4, t5⟩, -⟩ := (HX0.out.below KW.out).three
    go_enter Tryz.func44, Tryz.ntmps44
    go_wp2_with fail
    go_cut [5] from 8 to 48 (fun v wc => v = .int .i64 ((n : Int)) ∧ Hid (Below (w.alloc (.cells #[.bool x0, .int .u64 x1, .int .u64 x2] 38)).heap.size (w.alloc (.cells #[.bool x0, .int .u64 x1, .int .u64 x2] 38)) wc))
    case first =>
      go_wp2_with fail
      go_region_with
        (first
          | (go_at_call 56; (refine (hHas.out _).mono ?_); rintro e wq ⟨rfl, rfl⟩)
          | (go_at_call 63; (refine (hCon.out _ _ KB.out KV.out).mono ?_); rintro e wz ⟨rfl, hbz⟩; have KZ := Lib.hid (btr KW.out hbz); clear hbz))
      all_goals go_wp2_with fail
      all_goals go_meet
      all_goals exact ⟨rfl, KZ⟩
    case rest =>
      obtain ⟨rfl, KC⟩ := hcut
      obtain ⟨w1, hw1⟩ : ∃ W, W = wc := ⟨_, rfl⟩
      subst hw1
      have HB1 := Lib.hid (btr HB0.out KC.out)
      have HX1 := Lib.hid (HX0.out.below KC.out)
      have HD1 := Lib.hid (HD0.out.below KC.out)
      clear KB KW KV KC HB0 HX0 HD0 hHas hCon p0 p1 p2 q0 q1 q2 t0 t1 t2 t3 t4 t5
      obtain ⟨⟨p0, p1, p2⟩, p3, p4, p5⟩ := HD1.out.three
      obtain ⟨⟨q0, q1, q2⟩, -⟩ := HX1.out.three
      have z4 := HCc.out _ HB1.out
      go_wp2_with fail
      refine (hCA.out _ HB1.out).mono ?_
      rintro e w2 ⟨rfl, hb2⟩
      have HB2 := Lib.hid (btr HB1.out hb2)
      clear hb2
      go_wp2_with fail
      go_ret
      exact ⟨rfl, HB2.out⟩
set_option maxHeartbeats 16000000 in
set_option maxRecDepth 100000 in
theorem dkeep_ok (db B : Nat) (a5 a6 : Option Addr) (c5 c6 : Nat) (P : List Pl) (l : List Ls) (now : Int) (x : Ad) (w : World) (hd : Blk w db 78 [.slice a5 P.length c5, .slice a6 l.length c6, .int .i64 now]) (hdB : B ≤ db) (ho : OwnS w B (.slice a5 P.length c5) (.slice a6 l.length c6) P l) (hg : ∀ y ∈ P, y.p.chk = 0) (hP3 : P.length ≤ 3) (hK : ∀ y ∈ P, y.kept.length ≤ 6) (n : Nat) (hn : n < P.length) (h0 : poolAt P x = some n) (hok : keptC P[n].kept x = 0) :
    Calls Tryz.prog 44 #[.pointer (some ⟨db, 0, none⟩), .agg #[.bool x.v, .int .u64 x.hi, .int .u64 x.lo]] w fun e w' => e = .returned (.int .i64 0) ∧ ∃ s' c', Blk w' db 78 [.slice a5 P.length c5, .slice a6 l.length c6, .int .i64 now] ∧ OwnR w' B (.slice a5 P.length c5) (.slice a6 l.length c6) (P.set n ⟨P[n].p, insA P[n].kept x, s', c', P[n].pok⟩) l ∧ Below B w w' ∧ Fr w w' db (.slice a5 P.length c5) (.slice a6 l.length c6) P := by
  have hBw : B ≤ w.heap.size := Nat.le_trans hdB (Nat.le_of_lt hd.lt)
  have hlie : Lies plE w a5 P := by obtain ⟨a', c', e, h1, h2, h3⟩ := own_open ho.pools; injection e with e1 e2 e3; rw [e1]; exact h2
  have HB0 := Lib.hid (bal (Below.refl w.heap.size w) (.cells #[.bool x.v, .int .u64 x.hi, .int .u64 x.lo] 38))
  have HX0 := Lib.hid (Blk.new w [.bool x.v, .int .u64 x.hi, .int .u64 x.lo] 38)
  have HD0 := Lib.hid (hd.below (bal (Below.refl w.heap.size w) (.cells #[.bool x.v, .int .u64 x.hi, .int .u64 x.lo] 38)))
  have hHas : Hid (∀ W : World, Calls Tryz.prog 56 #[.agg #[.bool x.v, .int .u64 x.hi, .int .u64 x.lo]] W fun e w' => e = .returned (.func (.func 80) #[] #[.pointer (some ⟨W.heap.size, 0, none⟩)]) ∧ w' = W.alloc (.cells #[.bool x.v, .int .u64 x.hi, .int .u64 x.lo] 38)) := fun W => has_ctor x W
  have hCon : Hid (∀ (q : Nat) (W : World), Below w.heap.size w W → Blk W q 38 [.bool x.v, .int .u64 x.hi, .int .u64 x.lo] → Calls Tryz.prog 63 #[.slice a5 P.length c5, .func (.func 80) #[] #[.pointer (some ⟨q, 0, none⟩)]] W fun e w' => e = .returned (.int .i64 (idxI (poolAt P x))) ∧ Below W.heap.size W w') := fun q W hW hq => ifnHas a5 c5 P x q W (by omega) hg (hlie.below hW) hq
  rw [h0] at hCon
  rw [show (idxI (some n)) = (n : Int) from rfl] at hCon
  obtain ⟨g, hga⟩ : ∃ g, a5 = some ⟨g, 0, none⟩ := by
    rcases own_form ho.pools with ⟨e, e2⟩ | ⟨g, c', e, _⟩
    · rw [e2] at hn; exact absurd hn (Nat.not_lt_zero _)
    · injection e with e1 e2 e3; exact ⟨g, e1⟩
  subst hga
  have HAt := Lib.hid (own_at ho.pools).2
  obtain ⟨g', o', hgo, hgw, -, -, -, -, cc⟩ := HAt.out.lies.pl n hn
  obtain ⟨rfl, rfl⟩ : g = g' ∧ 0 = o' := by simpa using hgo
  rw [Nat.zero_add] at cc
  have HKo := Lib.hid (ho.kept P[n] (List.getElem_mem hn))
  have hkl : Lies adE w P[n].s P[n].kept := by
    obtain ⟨a', c', e, h1, h2, h3⟩ := own_open HKo.out
    unfold Pl.v at e
    injection e with e1 e2 e3; rw [e1]; exact h2
  have hk6 := hK P[n] (List.getElem_mem hn)
  have hCA : Hid (∀ W : World, Below w.heap.size w W → Calls Tryz.prog 64 #[.slice P[n].s P[n].kept.length P[n].c, .agg #[.bool x.v, .int .u64 x.hi, .int .u64 x.lo]] W fun e w' => e = .returned (.bool (P[n].kept.any (sameA x))) ∧ Below W.heap.size W w') := fun W hW => conA_any P[n].s P[n].c P[n].kept x W (by omega) (hkl.below hW)
  have HCc : Hid (∀ W : World, Below w.heap.size w W → W.cell? ⟨g, n * 5 + 4, none⟩ = some (.slice P[n].s P[n].kept.length P[n].c)) := fun W hW => by rw [(bcell hW).1 _ _ hgw]; exact cc
  clear hgo cc
  have hbn : (P[n].kept.any (sameA x)) = false := by
    unfold keptC at hok
    cases h : (P[n].kept.any (sameA x))
    · rfl
    · rw [h, if_pos rfl] at hok; exact absurd hok (by decide)
  have hk5 : P[n].kept.length < 6 := by
    unfold keptC at hok
    rw [hbn, if_neg (by decide)] at hok
    apply Classical.byContradiction
    intro h
    rw [if_pos (by omega)] at hok
    exact absurd hok (by decide)
  rw [hbn] at hCA
  have hF : Hid (∀ W : World, Below w.heap.size w W → Blk W w.heap.size 38 [.bool x.v, .int .u64 x.hi, .int .u64 x.lo] → Calls Tryz.prog 65 #[.slice P[n].s P[n].kept.length P[n].c, .func (.func 66) #[] #[.pointer (some ⟨w.heap.size, 0, none⟩)]] W fun e w' => e = .returned (.int .i64 (spotA P[n].kept x)) ∧ Below W.heap.size W w') := fun W hW hq =>
    firstAd_any P[n].s P[n].c P[n].kept W _ #[.pointer (some ⟨w.heap.size, 0, none⟩)] (fun y => x.less y) (by omega) (hkl.below hW) enters_keep1 fun W' y hy hb => (keep1_any w.heap.size x y W' (hq.below hb)).mono fun e w' ⟨h1, h2⟩ => ⟨h1, btr hb h2⟩
  have hI : Hid (∀ (vb : Nat) (W : World), Below w.heap.size w W → w.heap.size ≤ vb → W.heap[vb]? = some (.cells #[.bool x.v, .int .u64 x.hi, .int .u64 x.lo] 38 (0, 0)) → Calls Tryz.prog 67 #[.slice P[n].s P[n].kept.length P[n].c, .int .i64 (spotA P[n].kept x), .slice (some ⟨vb, 0, none⟩) 1 1] W fun e w' => ∃ g' c', e = .returned (.slice (some ⟨g', 0, none⟩) (P[n].kept.length + 1) c') ∧ w'.ownsRow B 38 adE.k (.slice (some ⟨g', 0, none⟩) (P[n].kept.length + 1) c') (P[n].kept.length + 1) (rowOf adE (insA P[n].kept x)) ∧ W.grownBy w' P[n].v.ownBlock) := fun vb W hW hvb hx =>
    insAd_any B (spotA P[n].kept x) vb P[n].v P[n].kept x W (own_keep HKo.out hW) (by omega) (firstN_le _ _) (Nat.le_trans hBw hW.size) hx (fun e => by have := (HKo.out.lt vb e).2; omega)
  have hFin : Hid (∀ (W w3 : World) (g' c' : Nat), Below w.heap.size w W → Blk W db 78 [.slice (some ⟨g, 0, none⟩) P.length c5, .slice a6 l.length c6, .int .i64 now] → w3.ownsRow B 38 adE.k (.slice (some ⟨g', 0, none⟩) (P[n].kept.length + 1) c') (P[n].kept.length + 1) (rowOf adE (insA P[n].kept x)) → W.grownBy w3 P[n].v.ownBlock →
      (w3.cell? ⟨g, n * 5 + 4, none⟩ = some (.slice P[n].s P[n].kept.length P[n].c) ∧ w3.frozen? ⟨g, n * 5 + 4, none⟩ = false ∧ Blk w3 db 78 [.slice (some ⟨g, 0, none⟩) P.length c5, .slice a6 l.length c6, .int .i64 now]) ∧ Blk (w3.setCell ⟨g, n * 5 + 4, none⟩ (.slice (some ⟨g', 0, none⟩) (P[n].kept.length + 1) c')) db 78 [.slice (some ⟨g, 0, none⟩) P.length c5, .slice a6 l.length c6, .int .i64 now] ∧ OwnR (w3.setCell ⟨g, n * 5 + 4, none⟩ (.slice (some ⟨g', 0, none⟩) (P[n].kept.length + 1) c')) B (.slice (some ⟨g, 0, none⟩) P.length c5) (.slice a6 l.length c6) (P.set n ⟨P[n].p, insA P[n].kept x, some ⟨g', 0, none⟩, c', P[n].pok⟩) l ∧ Below B w (w3.setCell ⟨g, n * 5 + 4, none⟩ (.slice (some ⟨g', 0, none⟩) (P[n].kept.length + 1) c')) ∧ Fr w (w3.setCell ⟨g, n * 5 + 4, none⟩ (.slice (some ⟨g', 0, none⟩) (P[n].kept.length + 1) c')) db (.slice (some ⟨g, 0, none⟩) P.length c5) (.slice a6 l.length c6) P) := by
    intro W w3 g' c' hW hD h3 hgr
    have hgd : g ≠ db := fun e => own_ne_blk ho.pools hd (by decide) (by rw [e]; rfl)
    have hnk : ∀ b, P[n].v.ownBlock = some b → b ≠ g ∧ (Value.slice a6 l.length c6).ownBlock ≠ some b := fun b hb => ⟨fun e => (ho.pk _ (List.getElem_mem hn) b hb).1 (by rw [e]; rfl), (ho.pk _ (List.getElem_mem hn) b hb).2⟩
    have hne : P[n].v.ownBlock ≠ some db := own_ne_blk HKo.out hd (by decide)
    have hneg : P[n].v.ownBlock ≠ some g := fun e => (hnk g e).1 rfl
    have hD3 : Blk w3 db 78 [.slice (some ⟨g, 0, none⟩) P.length c5, .slice a6 l.length c6, .int .i64 now] := (hgr.block db hD.lt hne.symm).trans hD
    have hA3 : OwnAt plE w3 B 71 g c5 P := (own_at ((own_keep ho.pools hW).kept hgr (.inr (fun e => hneg (by rw [← e]; rfl))))).2
    have hL3 : w3.ownsRow B 90 lsE.k (.slice a6 l.length c6) l.length (rowOf lsE l) := (own_keep ho.leases hW).kept hgr (by
      cases h : (Value.slice a6 l.length c6).ownBlock with
      | none => exact .inl rfl
      | some b => exact .inr (fun e => (hnk b e.symm).2 h))
    have hlen : (insA P[n].kept x).length = P[n].kept.length + 1 := by unfold insA; have := firstN_le (fun y : Ad => x.less y) P[n].kept; simp [spotA]; omega
    have hLg : (Value.slice a6 l.length c6).ownBlock ≠ some g := ho.pl g rfl
    have h3g : (Value.slice (some (⟨g', 0, none⟩ : Addr)) (P[n].kept.length + 1) c').ownBlock ≠ some g := fun e => by
      obtain ⟨rest, hr, _⟩ := hA3.row
      have hb : Blk w3 g 71 (rowOf plE P ++ rest) := hr
      exact own_ne_blk h3 hb (by decide) e
    have hnew := hA3.setK n hn ⟨P[n].p, insA P[n].kept x, some ⟨g', 0, none⟩, c', P[n].pok⟩ rfl
    rw [hlen] at hnew
    have hoc := hA3.lies.pl n hn
    obtain ⟨g2, o2, hgo2, -, -, -, -, -, c9⟩ := hoc
    obtain ⟨rfl, rfl⟩ : g = g2 ∧ 0 = o2 := by simpa using hgo2
    rw [Nat.zero_add] at c9
    refine ⟨⟨c9, hA3.free _, hD3⟩, hD3.other hgd.symm _, ⟨?_, own_cell hL3 _ hLg _, fun y hy => ?_⟩, ?_, (Fr.grown hW hgr (.inr (.inr ⟨P[n], List.getElem_mem hn, rfl⟩))).set (.inr (.inr rfl)) _ _⟩
    · have := hnew.own
      rw [List.length_set] at this ⊢
      exact this
    · obtain ⟨j, hj, rfl⟩ := List.getElem_of_mem hy
      rw [List.length_set] at hj
      by_cases hjn : j = n
      · subst hjn
        rw [List.getElem_set_self]
        show World.ownsRow _ _ _ _ (.slice (some ⟨g', 0, none⟩) (insA P[j].kept x).length c') (insA P[j].kept x).length _
        rw [hlen]
        exact own_cell h3 _ h3g _
      · rw [List.getElem_set_ne (Ne.symm hjn)]
        have hoj := (own_keep (ho.kept P[j] (List.getElem_mem hj)) hW).kept hgr (by
          cases h : P[j].v.ownBlock with
          | none => exact .inl rfl
          | some b => exact .inr (fun e => ho.kk n j hn hj (Ne.symm hjn) b e.symm h))
        exact own_cell hoj _ (fun e => (ho.pk _ (List.getElem_mem hj) g e).1 rfl) _
    · exact ((hW.mono hBw).grown hgr (Nat.le_trans hBw hW.size) (fun k hk => (HKo.out.lt k hk).1)).setCell (by exact hA3.base) _
  have hs0 : ((spotA P[n].kept x : Nat) : Int) ≤ (P[n].kept.length : Int) := by have := firstN_le (fun y : Ad => x.less y) P[n].kept; show ((firstN (fun y : Ad => x.less y) P[n].kept : Nat) : Int) ≤ _; omega
  generalize hset : (fun (s' : Option Addr) (c' : Nat) => P.set n ⟨P[n].p, insA P[n].kept x, s', c', P[n].pok⟩) = SP
  have hSP : ∀ s' c', P.set n ⟨P[n].p, insA P[n].kept x, s', c', P[n].pok⟩ = SP s' c' := fun s' c' => by rw [← hset]
  simp only [hSP] at hFin ⊢
  clear hset hSP
  generalize P[n].v.ownBlock = ob at *
  generalize rowOf adE (insA P[n].kept x) = row at *
  generalize spotA P[n].kept x = sp at *
  generalize P[n].kept.length = kn at *
  generalize P[n].s = ks at *
  generalize P[n].c = kc at *
  clear HAt HKo hkl hg hd hlie h0 hK hgw ho hok hbn
  generalize P.length = PN at *
  generalize l.length = LN at *
  have hn0 : (0 : Int) ≤ (n : Int) := by omega
  have hnz : (n : Int) < (PN : Int) := by omega
  generalize x.v = x0 at *
  generalize x.hi = x1 at *
  generalize x.lo = x2 at *
  have hP6' : ¬ (6 : Int) ≤ (kn : Int) := by omega
  have KB := Lib.hid (bal HB0.out (.cells #[.bool x0, .int .u64 x1, .int .u64 x2] 38)).drew
  have KW : Hid (Below (w.alloc (.cells #[.bool x0, .int .u64 x1, .int .u64 x2] 38)).heap.size (w.alloc (.cells #[.bool x0, .int .u64 x1, .int .u64 x2] 38)) ((w.alloc (.cells #[.bool x0, .int .u64 x1, .int .u64 x2] 38)).alloc (.cells #[.bool x0, .int .u64 x1, .int .u64 x2] 38)).drew) := (bal (Below.refl _ _) _).drew
  have KV : Hid (Blk ((w.alloc (.cells #[.bool x0, .int .u64 x1, .int .u64 x2] 38)).alloc (.cells #[.bool x0, .int .u64 x1, .int .u64 x2] 38)).drew (w.heap.size + 1) 38 [.bool x0, .int .u64 x1, .int .u64 x2]) := by
    have := Blk.new (w.alloc (.cells #[.bool x0, .int .u64 x1, .int .u64 x2] 38)) [.bool x0, .int .u64 x1, .int .u64 x2] 38
    rw [show (w.alloc (.cells #[.bool x0, .int .u64 x1, .int .u64 x2] 38)).heap.size = w.heap.size + 1 by simp] at this
    exact this
  obtain ⟨⟨p0, p1, p2⟩, -⟩ := HD0.out.three
  obtain ⟨⟨q0, q1, q2⟩, -⟩ := HX0.out.three
  obtain ⟨⟨t0, t1, t2⟩, -⟩ := (HD0.out.below KW.out).three
  obtain ⟨⟨t3, t4, t5⟩, -⟩ := (HX0.out.below KW.out).three
  go_enter Tryz.func44, Tryz.ntmps44
  go_wp2_with fail
  go_cut [5] from 8 to 48 (fun v wc => v = .int .i64 ((n : Int)) ∧ Hid (Below (w.alloc (.cells #[.bool x0, .int .u64 x1, .int .u64 x2] 38)).heap.size (w.alloc (.cells #[.bool x0, .int .u64 x1, .int .u64 x2] 38)) wc))
  case first =>
    go_wp2_with fail
    go_region_with
      (first
        | (go_at_call 56; (refine (hHas.out _).mono ?_); rintro e wq ⟨rfl, rfl⟩)
        | (go_at_call 63; (refine (hCon.out _ _ KB.out KV.out).mono ?_); rintro e wz ⟨rfl, hbz⟩; have KZ := Lib.hid (btr KW.out hbz); clear hbz))
    all_goals go_wp2_with fail
    all_goals go_meet
    all_goals exact ⟨rfl, KZ⟩
  case rest =>
    obtain ⟨rfl, KC⟩ := hcut
    obtain ⟨w1, hw1⟩ : ∃ W, W = wc := ⟨_, rfl⟩
    subst hw1
    have HB1 := Lib.hid (btr HB0.out KC.out)
    have HX1 := Lib.hid (HX0.out.below KC.out)
    have HD1 := Lib.hid (HD0.out.below KC.out)
    clear KB KW KV KC HB0 HX0 HD0 hHas hCon p0 p1 p2 q0 q1 q2 t0 t1 t2 t3 t4 t5
    obtain ⟨⟨p0, p1, p2⟩, p3, p4, p5⟩ := HD1.out.three
    obtain ⟨⟨q0, q1, q2⟩, -⟩ := HX1.out.three
    have z4 := HCc.out _ HB1.out
    go_wp2_with fail
    refine (hCA.out _ HB1.out).mono ?_
    rintro e w2 ⟨rfl, hb2⟩
    have HB2 := Lib.hid (btr HB1.out hb2)
    have HX2 := Lib.hid (HX1.out.below hb2)
    have HD2 := Lib.hid (HD1.out.below hb2)
    clear hb2 HB1 HX1 HD1 p0 p1 p2 p3 p4 p5 q0 q1 q2 z4 hCA
    go_wp2_with fail
    refine (hF.out _ HB2.out HX2.out).mono ?_
    rintro e w3 ⟨rfl, hb3⟩
    have HB3 := Lib.hid (btr HB2.out hb3)
    have HX3 := Lib.hid (HX2.out.below hb3)
    have HD3 := Lib.hid (HD2.out.below hb3)
    clear hb3 HB2 HX2 HD2 hF
    obtain ⟨⟨p0, p1, p2⟩, p3, p4, p5⟩ := HD3.out.three
    obtain ⟨⟨q0, q1, q2⟩, -⟩ := HX3.out.three
    have z4 := HCc.out _ HB3.out
    have HBe := Lib.hid (bal HB3.out (.cells #[.bool x0, .int .u64 x1, .int .u64 x2] 38)).drew
    have HDe := Lib.hid (HD3.out.below (bal (Below.refl w3.heap.size w3) (.cells #[.bool x0, .int .u64 x1, .int .u64 x2] 38)).drew)
    have HVe : Hid ((w3.alloc (.cells #[.bool x0, .int .u64 x1, .int .u64 x2] 38)).drew.heap[w3.heap.size]? = some (.cells #[.bool x0, .int .u64 x1, .int .u64 x2] 38 (0, 0))) := heap_alloc_new w3 _
    obtain ⟨⟨r0, r1, r2⟩, -⟩ := HDe.out.three
    obtain ⟨⟨u0, u1, u2⟩, -⟩ := (HX3.out.below (bal (Below.refl w3.heap.size w3) (.cells #[.bool x0, .int .u64 x1, .int .u64 x2] 38)).drew).three
    have hz3 := HB3.out.size
    go_wp2_with fail
    go_cut [4] from 8 to 48 (fun v4 wc => ∃ (g' c' : Nat), v4 = .int .i64 0 ∧ Hid (Blk wc db 78 [.slice (some ⟨g, 0, none⟩) PN c5, .slice a6 LN c6, .int .i64 now] ∧ OwnR wc B (.slice (some ⟨g, 0, none⟩) PN c5) (.slice a6 LN c6) (SP (some ⟨g', 0, none⟩) c') l ∧ Below B w wc ∧ Fr w wc db (.slice (some ⟨g, 0, none⟩) PN c5) (.slice a6 LN c6) P))
    case first =>
      go_wp2_with fail
      go_region_with
        (go_at_call 67; (refine (hI.out _ _ HBe.out hz3 HVe.out).mono ?_); rintro e w4 ⟨g', c', rfl, h3, hgr⟩; have HF := Lib.hid (hFin.out _ _ _ _ HBe.out HDe.out h3 hgr); have v0 := HF.out.1.1; have v1 := HF.out.1.2.1; obtain ⟨⟨t0, t1, t2⟩, -⟩ := HF.out.1.2.2.three; clear h3 hgr)
      all_goals go_wp2_with fail
      all_goals go_meet
      all_goals exact ⟨g', c', rfl, HF.out.2⟩
    case rest =>
      obtain ⟨g', c', rfl, hK9⟩ := hcut
      go_wp2
      go_ret
      exact ⟨rfl, _, _, hK9.out.1, hK9.out.2.1, hK9.out.2.2⟩
end Go.Proofs.YtclnfkohlklbpaaGreat
