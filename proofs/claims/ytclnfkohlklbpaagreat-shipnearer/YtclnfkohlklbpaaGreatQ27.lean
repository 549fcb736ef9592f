/- doer.grant, where lease.Grant is asked: the walk over letters, where nobody's lease is in the pool and the slice is cut at its end. -/
import Derived.Test.YtclnfkohlklbpaaGreatQ25
set_option linter.unusedVariables false
set_option linter.unusedSimpArgs false
namespace Go.Proofs.YtclnfkohlklbpaaGreat
open Go.RowKit

set_option maxHeartbeats 32000000 in
set_option maxRecDepth 100000 in
theorem gwalk_end (w : World) (B db g : Nat) (a6 : Option Addr) (c5 PN LN : Nat) (now y10 : Int) (y8 : ByteArray) (n f m : Nat) (x0 : Bool) (x1 x2 x3 : Int) (ks : Option Addr) (kn kc : Nat) (ge : Int) (gn : Nat) (gv : Bool) (gh gl : Int) (grow nrow : List Value) (NN : Nat) (ob : Option Nat) (Q : World → Value → Prop) (R : World → Prop) (y0 : Int) (y1 : Bool) (y2 y3 y4 : Int) (y5 : Bool) (y6 y7 : Int) (cd : Int) (ov : Bool) (oh ol : Int) (hd : Blk w db 78 [.slice (some ⟨g, 0, none⟩) PN c5, .slice a6 LN f, .int .i64 now]) (hdB : B ≤ db) (hn : n < PN) (hfm : f + m ≤ f)
    (hp : GPk w B db g a6 a6 c5 f 0 PN LN now y10 y8 n f m (-1) x0 x1 x2 x3 ks kn kc ge gn gv gh gl grow nrow NN ob Q R)
    (C1 : ¬ ge = 0 → cd = ge ∧ ov = false ∧ oh = 0 ∧ ol = 0) (C2 : ge = 0 → 20 < NN → cd = 2 ∧ ov = false ∧ oh = 0 ∧ ol = 0) (C3 : ge = 0 → ¬ 20 < NN → cd = 0 ∧ ov = gv ∧ oh = gh ∧ ol = gl) :
    Calls Tryz.prog 45 #[.pointer (some ⟨db, 0, none⟩), .agg #[.int .i64 y0, .bool y1, .int .u64 y2, .int .u64 y3, .int .i64 y4, .bool y5, .int .u64 y6, .int .u64 y7, .string y8, .int .i64 (n : Int), .int .i64 y10]] w fun e w' => e = .returned (.tuple #[.agg #[.bool ov, .int .u64 oh, .int .u64 ol], .int .i64 cd]) ∧ (cd = 0 → ∃ vL, Q w' vL) ∧ R w' ∧ Below B w w' := by
  have HC1 := Lib.hid C1
  have HC2 := Lib.hid C2
  have HC3 := Lib.hid C3
  clear C1 C2 C3
  have hBw : B ≤ w.heap.size := Nat.le_trans hdB (Nat.le_of_lt hd.lt)
  have Hdw := Lib.hid hd.lt
  obtain ⟨W1, hW1⟩ : ∃ W1, W1 = ((w.alloc (.cells #[.int .i64 y0, .bool y1, .int .u64 y2, .int .u64 y3, .int .i64 y4, .bool y5, .int .u64 y6, .int .u64 y7, .string y8, .int .i64 (n : Int), .int .i64 y10] 42)).alloc (.cells #[.bool false, .int .u64 0, .int .u64 0] 38)) := ⟨_, rfl⟩
  have hb1 : Below w.heap.size w W1 := by rw [hW1]; exact bal (bal (Below.refl w.heap.size w) _) _
  have hOp : Blk W1 w.heap.size 42 [.int .i64 y0, .bool y1, .int .u64 y2, .int .u64 y3, .int .i64 y4, .bool y5, .int .u64 y6, .int .u64 y7, .string y8, .int .i64 (n : Int), .int .i64 y10] := by rw [hW1]; exact (Blk.new w _ _).below (bal (Below.refl _ _) _)
  have hX : Blk W1 (w.heap.size + 1) 38 [.bool false, .int .u64 0, .int .u64 0] := by
    rw [hW1]
    have := Blk.new (w.alloc (.cells #[.int .i64 y0, .bool y1, .int .u64 y2, .int .u64 y3, .int .i64 y4, .bool y5, .int .u64 y6, .int .u64 y7, .string y8, .int .i64 (n : Int), .int .i64 y10] 42)) [.bool false, .int .u64 0, .int .u64 0] 38
    rw [show (w.alloc (.cells #[.int .i64 y0, .bool y1, .int .u64 y2, .int .u64 y3, .int .i64 y4, .bool y5, .int .u64 y6, .int .u64 y7, .string y8, .int .i64 (n : Int), .int .i64 y10] 42)).heap.size = w.heap.size + 1 by simp] at this
    exact this
  have HB0 := Lib.hid hb1
  have HO0 := Lib.hid hOp
  have HX0 := Lib.hid hX
  have HD0 := Lib.hid (hd.below hb1)
  rw [hW1] at HB0 HO0 HX0 HD0
  clear hb1 hOp hX hW1 W1 hd
  have hnz : (n : Int) < (PN : Int) := by omega
  have hn0 : (0 : Int) ≤ (n : Int) := by omega
  have hnle : ¬ (PN : Int) ≤ (n : Int) := by omega
  have e1 : (f : Int) ≤ (f : Int) + (m : Int) := by omega
  have e2 : (f : Int) + (m : Int) ≤ (f : Int) := by omega
  have e3 : (0 : Int) ≤ (f : Int) + (m : Int) := by omega
  have e4 := Lib.hid (show ((f : Int) + (m : Int)).toNat = f + m by omega)
  have e5 : (0 : Int) ≤ (f : Int) := by omega
  clear hn hfm hdB
  have d1 : ¬ (0 : Int) ≤ -1 := by decide
  obtain ⟨⟨p0, p1, p2⟩, p3, p4, p5⟩ := HD0.out.three
  obtain ⟨⟨x0_, x1_, x2_⟩, x3_, x4_, x5_⟩ := HX0.out.three
  have o8 := HO0.out.cell 8 _ rfl
  have o9 := HO0.out.cell 9 _ rfl
  have o10 := HO0.out.cell 10 _ rfl
  obtain ⟨z0, z1, z2, z3, z4⟩ := hp.pool _ HB0.out
  have HBdd := Lib.hid HB0.out.drew.drew
  have HDdd := Lib.hid (HD0.out.below (Below.refl ((w.alloc (.cells #[.int .i64 y0, .bool y1, .int .u64 y2, .int .u64 y3, .int .i64 y4, .bool y5, .int .u64 y6, .int .u64 y7, .string y8, .int .i64 (n : Int), .int .i64 y10] 42)).alloc (.cells #[.bool false, .int .u64 0, .int .u64 0] 38)).heap.size ((w.alloc (.cells #[.int .i64 y0, .bool y1, .int .u64 y2, .int .u64 y3, .int .i64 y4, .bool y5, .int .u64 y6, .int .u64 y7, .string y8, .int .i64 (n : Int), .int .i64 y10] 42)).alloc (.cells #[.bool false, .int .u64 0, .int .u64 0] 38))).drew.drew)
  go_enter Tryz.func45, Tryz.ntmps45
  go_wp2_with fail
  go_region
  go_wp2_with fail
  go_cut [6, 7] from 12 to 115 (fun v6 v7 wc => v6 = .int .i64 f ∧ v7 = .int .i64 ((f : Int) + (m : Int)) ∧ Hid (Below ((w.alloc (.cells #[.int .i64 y0, .bool y1, .int .u64 y2, .int .u64 y3, .int .i64 y4, .bool y5, .int .u64 y6, .int .u64 y7, .string y8, .int .i64 (n : Int), .int .i64 y10] 42)).alloc (.cells #[.bool false, .int .u64 0, .int .u64 0] 38)).heap.size ((w.alloc (.cells #[.int .i64 y0, .bool y1, .int .u64 y2, .int .u64 y3, .int .i64 y4, .bool y5, .int .u64 y6, .int .u64 y7, .string y8, .int .i64 (n : Int), .int .i64 y10] 42)).alloc (.cells #[.bool false, .int .u64 0, .int .u64 0] 38)) wc))
  case first =>
    go_wp2_with fail
    go_region_with
      (go_at_call 68; (refine (hp.stretch _ HBdd.out HDdd.out).mono ?_); rintro e wz ⟨rfl, hbz⟩; have KZ := Lib.hid (btr (Below.refl ((w.alloc (.cells #[.int .i64 y0, .bool y1, .int .u64 y2, .int .u64 y3, .int .i64 y4, .bool y5, .int .u64 y6, .int .u64 y7, .string y8, .int .i64 (n : Int), .int .i64 y10] 42)).alloc (.cells #[.bool false, .int .u64 0, .int .u64 0] 38)).heap.size ((w.alloc (.cells #[.int .i64 y0, .bool y1, .int .u64 y2, .int .u64 y3, .int .i64 y4, .bool y5, .int .u64 y6, .int .u64 y7, .string y8, .int .i64 (n : Int), .int .i64 y10] 42)).alloc (.cells #[.bool false, .int .u64 0, .int .u64 0] 38))).drew.drew hbz); clear hbz)
    all_goals go_wp2_with fail
    all_goals go_meet
    all_goals exact ⟨rfl, rfl, KZ⟩
  case rest =>
    obtain ⟨rfl, rfl, KC⟩ := hcut
    obtain ⟨w1, hw1⟩ : ∃ W, W = wc := ⟨_, rfl⟩
    subst hw1
    have HB1 := Lib.hid (btr HB0.out KC.out)
    have HO1 := Lib.hid (HO0.out.below KC.out)
    have HX1 := Lib.hid (HX0.out.below KC.out)
    have HD1 := Lib.hid (HD0.out.below KC.out)
    clear KC HBdd HDdd HB0 HO0 HX0 HD0 p0 p1 p2 p3 p4 p5 x0_ x1_ x2_ x3_ x4_ x5_ o8 o9 o10 z0 z1 z2 z3 z4
    have KB := Lib.hid (bal HB1.out (.cells #[.string y8] 9)).drew
    have KW : Hid (Below w1.heap.size w1 (w1.alloc (.cells #[.string y8] 9)).drew) := (bal (Below.refl _ _) _).drew
    have KV : Hid (Blk (w1.alloc (.cells #[.string y8] 9)).drew w1.heap.size 9 [.string y8]) := Blk.new w1 _ _
    obtain ⟨⟨p0, p1, p2⟩, -⟩ := HD1.out.three
    have o8 := HO1.out.cell 8 _ rfl
    obtain ⟨⟨t0, t1, t2⟩, -⟩ := (HD1.out.below KW.out).three
    have t8 := (HO1.out.below KW.out).cell 8 _ rfl
    go_wp2_with fail
    go_cut [8] from 12 to 115 (fun v8 wc => v8 = .int .i64 (-1) ∧ Hid (Below w1.heap.size w1 wc))
    case first =>
      go_wp2_with fail
      go_region_with
        (first
          | (go_at_call 58; (refine (hp.by_ _).mono ?_); rintro e wq ⟨rfl, rfl⟩)
          | (go_at_call 69; (refine (hp.con _ _ KB.out KV.out).mono ?_); rintro e wz ⟨rfl, hbz⟩; have KZ := Lib.hid (btr KW.out hbz); clear hbz))
      all_goals go_wp2_with fail
      all_goals go_meet
      all_goals exact ⟨rfl, KZ⟩
    case rest =>
      obtain ⟨rfl, KC⟩ := hcut
      obtain ⟨w2, hw2⟩ : ∃ W, W = wc := ⟨_, rfl⟩
      subst hw2
      have HB2 := Lib.hid (btr HB1.out KC.out)
      have HO2 := Lib.hid (HO1.out.below KC.out)
      have HX2 := Lib.hid (HX1.out.below KC.out)
      have HD2 := Lib.hid (HD1.out.below KC.out)
      clear KB KW KV KC HB1 HO1 HX1 HD1 p0 p1 p2 o8 t0 t1 t2 t8
      obtain ⟨⟨p0, p1, p2⟩, p3, p4, p5⟩ := HD2.out.three
      obtain ⟨⟨x0_, x1_, x2_⟩, x3_, x4_, x5_⟩ := HX2.out.three
      have e4' := e4.out
      have o8 := HO2.out.cell 8 _ rfl
      have o9 := HO2.out.cell 9 _ rfl
      have o10 := HO2.out.cell 10 _ rfl
      obtain ⟨z0, z1, z2, z3, z4⟩ := hp.pool _ HB2.out
      have KZ1 := Lib.hid HB2.out.drew
      have KZ2 := Lib.hid (bal HB2.out (.cells #[.bool false, .int .u64 0, .int .u64 0] 38)).drew
      have KY2 : Hid (Below w2.heap.size w2 (w2.alloc (.cells #[.bool false, .int .u64 0, .int .u64 0] 38)).drew) := (bal (Below.refl _ _) _).drew
      have VZ : Hid (Blk (w2.alloc (.cells #[.bool false, .int .u64 0, .int .u64 0] 38)).drew w2.heap.size 38 [.bool false, .int .u64 0, .int .u64 0]) := Blk.new w2 _ _
      obtain ⟨⟨j0, j1, j2⟩, -⟩ := (HD2.out.below KY2.out).three
      have j8 := (HO2.out.below KY2.out).cell 8 _ rfl
      have j9 := (HO2.out.below KY2.out).cell 9 _ rfl
      have j10 := (HO2.out.below KY2.out).cell 10 _ rfl
      obtain ⟨y0_, y1_, y2_, y3_, y4_⟩ := hp.pool _ KZ2.out
      have hSS : Hid (∀ W : World, Below w2.heap.size w2 W → (W.cell? ⟨db, 0, none⟩ = some (.slice (some ⟨g, 0, none⟩) PN c5) ∧ W.cell? ⟨db, 1, none⟩ = some (.slice a6 LN f) ∧ W.cell? ⟨db, 2, none⟩ = some (.int .i64 now) ∧ W.cell? ⟨w.heap.size, 8, none⟩ = some (.string y8) ∧ W.cell? ⟨w.heap.size, 9, none⟩ = some (.int .i64 (n : Int)) ∧ W.cell? ⟨w.heap.size, 10, none⟩ = some (.int .i64 y10) ∧ W.cell? ⟨g, n * 5, none⟩ = some (.bool x0) ∧ W.cell? ⟨g, n * 5 + 1, none⟩ = some (.int .u64 x1) ∧ W.cell? ⟨g, n * 5 + 2, none⟩ = some (.int .u64 x2) ∧ W.cell? ⟨g, n * 5 + 3, none⟩ = some (.int .i64 x3) ∧ W.cell? ⟨g, n * 5 + 4, none⟩ = some (.slice ks kn kc)) ∧ Below w2.heap.size w2 W) := fun W hW => ⟨⟨(HD2.out.below hW).cell 0 _ rfl, (HD2.out.below hW).cell 1 _ rfl, (HD2.out.below hW).cell 2 _ rfl, (HO2.out.below hW).cell 8 _ rfl, (HO2.out.below hW).cell 9 _ rfl, (HO2.out.below hW).cell 10 _ rfl, hp.pool W (btr HB2.out hW)⟩, hW⟩
      have T0 := Lib.hid (hSS.out w2 (Below.refl _ _))
      have TD := Lib.hid (hSS.out w2.drew (Below.refl w2.heap.size w2).drew)
      have TA := Lib.hid (hSS.out _ KY2.out)
      go_wp2_with fail
      go_cut [9, 10, 11] from 12 to 115 (fun v9 v10 v11 wc => ∃ (q : Nat) (a4 : Option Addr) (c4 : Nat), v9 = .slice a4 gn c4 ∧ v10 = .pointer (some ⟨q, 0, none⟩) ∧ v11 = .int .i64 ge ∧ Hid (Blk wc q 38 [.bool gv, .int .u64 gh, .int .u64 gl] ∧ w2.heap.size ≤ q ∧ wc.ownsRow w2.heap.size 90 lsE.k (.slice a4 gn c4) gn grow ∧ Below w2.heap.size w2 wc))
      case first =>
        go_wp2_with fail
        go_region_held3 (fun w' => (w'.cell? ⟨db, 0, none⟩ = some (.slice (some ⟨g, 0, none⟩) PN c5) ∧ w'.cell? ⟨db, 1, none⟩ = some (.slice a6 LN f) ∧ w'.cell? ⟨db, 2, none⟩ = some (.int .i64 now) ∧ w'.cell? ⟨w.heap.size, 8, none⟩ = some (.string y8) ∧ w'.cell? ⟨w.heap.size, 9, none⟩ = some (.int .i64 (n : Int)) ∧ w'.cell? ⟨w.heap.size, 10, none⟩ = some (.int .i64 y10) ∧ w'.cell? ⟨g, n * 5, none⟩ = some (.bool x0) ∧ w'.cell? ⟨g, n * 5 + 1, none⟩ = some (.int .u64 x1) ∧ w'.cell? ⟨g, n * 5 + 2, none⟩ = some (.int .u64 x2) ∧ w'.cell? ⟨g, n * 5 + 3, none⟩ = some (.int .i64 x3) ∧ w'.cell? ⟨g, n * 5 + 4, none⟩ = some (.slice ks kn kc)) ∧ Below w2.heap.size w2 w')
          (first | with_reducible exact T0.out | with_reducible exact TD.out | with_reducible exact TA.out | with_reducible exact T3.out | with_reducible exact T3z.out | with_reducible exact T3x.out | with_reducible exact T3s.out)
          (first
            | (go_at_call 70; (refine (hp.grant w2.drew KZ1.out).mono ?_); rintro e w3 ⟨a4, c4, rfl, h3, hb3⟩; have HF3 := Lib.hid (g7a (gv := gv) (gh := gh) (gl := gl) h3 hb3); have T3 := Lib.hid (hSS.out w3 (btr (Below.refl w2.heap.size w2).drew hb3)); have T3z := Lib.hid (hSS.out (w3.alloc (.cells #[.bool false, .int .u64 0, .int .u64 0] 38)) (bal (btr (Below.refl w2.heap.size w2).drew hb3) _)); have T3x := Lib.hid (hSS.out (w3.alloc (.cells #[.bool gv, .int .u64 gh, .int .u64 gl] 38)) (bal (btr (Below.refl w2.heap.size w2).drew hb3) _)); clear h3 hb3)
            | (go_at_call 70; (refine (hp.grant (w2.alloc (.cells #[.bool false, .int .u64 0, .int .u64 0] 38)).drew KZ2.out).mono ?_); rintro e w3 ⟨a4, c4, rfl, h3, hb3⟩; have HF4 := Lib.hid (g7b (gv := gv) (gh := gh) (gl := gl) h3 hb3); have HF3 := Lib.hid HF4.out.2; have T3 := Lib.hid (hSS.out w3 (btr KY2.out hb3)); have T3s := Lib.hid (hSS.out _ HF4.out.2.2.2.2); obtain ⟨⟨k0, k1, k2⟩, k3, k4, k5⟩ := HF4.out.1.three; clear h3 hb3))
        all_goals go_wp2_with fail
        all_goals go_meet
        all_goals exact ⟨_, a4, c4, rfl, rfl, rfl, HF3⟩
      case rest =>
        obtain ⟨q, a4, c4, rfl, rfl, rfl, hK⟩ := hcut
        obtain ⟨w4, hw4⟩ : ∃ W, W = wc := ⟨_, rfl⟩
        subst hw4
        have HB4 := Lib.hid (btr HB2.out hK.out.2.2.2)
        have HX4 := Lib.hid (HX2.out.below hK.out.2.2.2)
        have HD4 := Lib.hid (HD2.out.below hK.out.2.2.2)
        have HQ4 := Lib.hid hK.out.1
        have hq2 := hK.out.2.1
        have HG4 := Lib.hid (row_base hK.out.2.2.1 HB2.out.size)
        have HB2s := Lib.hid (Nat.lt_of_lt_of_le HX2.out.lt hq2)
        clear e4' hSS T0 TD TA hK KZ1 KZ2 KY2 VZ HB2 HO2 HX2 HD2 p0 p1 p2 p3 p4 p5 x0_ x1_ x2_ x3_ x4_ x5_ o8 o9 o10 z0 z1 z2 z3 z4 j0 j1 j2 j8 j9 j10 y0_ y1_ y2_ y3_ y4_
        obtain ⟨⟨p0, p1, p2⟩, p3, p4, p5⟩ := HD4.out.three
        obtain ⟨⟨x0_, x1_, x2_⟩, x3_, x4_, x5_⟩ := HX4.out.three
        have HBB := Lib.hid (HB4.out.mono hBw)
        have hdw := Hdw.out
        have hdx : db ≠ w.heap.size + 1 := by omega
        have hdx' : ¬ w.heap.size + 1 = db := by omega
        by_cases hE : ge = 0
        · have HRe := Lib.hid (hp.rep hE)
          have HC2' := Lib.hid (HC2.out hE)
          have HC3' := Lib.hid (HC3.out hE)
          clear HC1 HC2 HC3
          subst hE
          go_wp2_with fail
          refine (HRe.out w4 a4 c4 HB4.out HG4.out).mono ?_
          rintro e w5 ⟨a7, c7, rfl, h5, hgr⟩
          have HF := Lib.hid (hp.fin w4 w5 a7 c7 _ HB4.out HD4.out HX4.out h5 hgr)
          have HX5 : Hid (Blk w5 (w.heap.size + 1) 38 [.bool false, .int .u64 0, .int .u64 0]) := (HF.out.2.1 (w.heap.size + 1) (by omega) HX4.out.lt).trans HX4.out
          have HQ5 : Hid (Blk w5 q 38 [.bool gv, .int .u64 gh, .int .u64 gl]) := (HF.out.2.1 q (by have := HB2s.out; omega) HQ4.out.lt).trans HQ4.out
          obtain ⟨⟨v0, v1, v2⟩, v3, v4, v5⟩ := HF.out.1.three
          obtain ⟨⟨m0, m1, m2⟩, m3, m4, m5⟩ := HX5.out.three
          have hq3 : db ≠ q := by have := HB2s.out; omega
          have hq4 : ¬ q = db := fun e => hq3 e.symm
          obtain ⟨i0, i1, i2⟩ : w5.cell? ⟨q, 0, none⟩ = some (.bool gv) ∧ w5.cell? ⟨q, 1, none⟩ = some (.int .u64 gh) ∧ w5.cell? ⟨q, 2, none⟩ = some (.int .u64 gl) := ⟨HQ5.out.cell 0 _ rfl, HQ5.out.cell 1 _ rfl, HQ5.out.cell 2 _ rfl⟩
          clear h5 hgr HRe p0 p1 p2 p3 p4 p5 x0_ x1_ x2_ x3_ x4_ x5_ hp HX4 HD4 HQ4 HB4 HG4
          by_cases h20 : 20 < NN
          · have h20' : (20 : Int) < (NN : Int) := by omega
            go_wp2_with fail
            refine bodyPost_ret (v := .tuple #[.agg #[.bool false, .int .u64 0, .int .u64 0], .int .i64 2]) ?_ rfl ⟨?_, ?_, ?_, ?_⟩
            · simp [results, Tryz.results45, go_sem, m0, m1, m2, hdx, hdx']
            · obtain ⟨e1, e2, e3, e4⟩ := HC2'.out h20
              rw [e1, e2, e3, e4]
            · intro hc
              rw [(HC2'.out h20).1] at hc
              exact absurd hc (by decide)
            · exact (HF.out.2.2.1 _ _ _).2
            · (repeat' (first | with_reducible exact HF.out.2.2.2 | (refine Below.setCell ?_ (by show B ≤ w.heap.size + 1; omega) _)))
          · have h20' : ¬ (20 : Int) < (NN : Int) := by omega
            go_wp2_with fail
            refine bodyPost_ret (v := .tuple #[.agg #[.bool gv, .int .u64 gh, .int .u64 gl], .int .i64 0]) ?_ rfl ⟨?_, ?_, ?_, ?_⟩
            · simp [results, Tryz.results45, go_sem, m0, m1, m2, hdx, hdx']
            · obtain ⟨e1, e2, e3, e4⟩ := HC3'.out h20
              rw [e1, e2, e3, e4]
            · intro _
              exact ⟨_, (HF.out.2.2.1 _ _ _).1⟩
            · exact (HF.out.2.2.1 _ _ _).2
            · (repeat' (first | with_reducible exact HF.out.2.2.2 | (refine Below.setCell ?_ (by show B ≤ w.heap.size + 1; omega) _)))
        · have hI : (ge != 0) = true := by rw [bne_iff_ne]; exact hE
          have HC1' := Lib.hid (HC1.out hE)
          have HE := Lib.hid hE
          clear HC1 HC2 HC3 hE
          go_wp2_with fail
          refine bodyPost_ret (v := .tuple #[.agg #[.bool false, .int .u64 0, .int .u64 0], .int .i64 ge]) ?_ rfl ⟨?_, ?_, ?_, ?_⟩
          · simp [results, Tryz.results45, go_sem, x0_, x1_, x2_]
          · obtain ⟨e1, e2, e3, e4⟩ := HC1'.out
            rw [e1, e2, e3, e4]
          · intro hc
            exact absurd (HC1'.out.1.symm.trans hc) HE.out
          · refine hp.rbel _ ?_
            (repeat' (first | with_reducible exact HB4.out | with_reducible refine bse ?_ (by show w.heap.size ≤ w.heap.size + 1; omega) _))
          · (repeat' (first | with_reducible exact HBB.out | (refine Below.setCell ?_ (by show B ≤ w.heap.size + 1; omega) _)))
end Go.Proofs.YtclnfkohlklbpaaGreat
