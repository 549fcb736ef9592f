/- doer.grant. -/
import Derived.Test.YtjainfehlbfiaaaGreatQ24
set_option linter.unusedVariables false
set_option linter.unusedSimpArgs false
namespace Go.Proofs.YtjainfehlbfiaaaGreat
open Go.RowKit

theorem lgrant_own (p : Pf) (hp : p.Ok) (ka : Option Addr) (kc : Nat) (kept : List Ad) (la : Option Addr) (lc : Nat) (l : List Ls) (who : ByteArray) (now ttl : Int) (w : World) (hk : Lies adE w ka kept) (hs : Lies lsE w la l) :
    Calls Tryz.prog 78 #[.agg #[.bool p.v, .int .u64 p.hi, .int .u64 p.lo, .int .i64 p.b, .slice ka kept.length kc], .slice la l.length lc, .string who, .int .i64 now, .int .i64 ttl] w fun e w' => ∃ a4 c4, e = .returned (.tuple #[.slice a4 (gOut p kept l who now ttl).2.1.length c4, .agg #[.bool (gOut p kept l who now ttl).2.2.v, .int .u64 (gOut p kept l who now ttl).2.2.hi, .int .u64 (gOut p kept l who now ttl).2.2.lo], .int .i64 (gOut p kept l who now ttl).1]) ∧ w'.ownsRow w.heap.size 106 lsE.k (.slice a4 (gOut p kept l who now ttl).2.1.length c4) (gOut p kept l who now ttl).2.1.length (rowOf lsE (gOut p kept l who now ttl).2.1) ∧ Below w.heap.size w w' := by
  by_cases h0 : grantE p kept l who now ttl = 0
  · refine (lgrant_ok p hp ka kc kept la lc l who now ttl w hk hs h0).mono ?_
    rintro e w' ⟨⟨m, x, v', hr, rfl, ho⟩ | ⟨hr, rfl⟩, hb⟩
    · rw [gOut_some h0 hr]
      obtain ⟨a', c', rfl⟩ := own_slice ho
      exact ⟨a', c', rfl, ho, hb⟩
    · rw [gOut_none h0 hr]
      exact ⟨none, 0, rfl, World.ownsRow_nil _ _ _ _, hb⟩
  · refine (lgrant_bad p hp ka kc kept la lc l who now ttl w hk hs h0).mono ?_
    rintro e w' ⟨rfl, hb⟩
    rw [gOut_bad h0]
    exact ⟨none, 0, rfl, World.ownsRow_nil _ _ _ _, hb⟩
theorem lies_mid {w : World} {a : Option Addr} {c f m : Nat} {l : List Ls} (h : Lies lsE w a l) (hf : f + m ≤ l.length) (hc : l.length ≤ c) : Lies lsE w (if c = f then a else Option.map (fun x => x.add (f * 5)) a) ((l.drop f).take m) := by
  by_cases hm : m = 0
  · subst hm; rw [List.take_zero]; exact Lies.nil _ _ _
  · rw [if_neg (by omega)]
    obtain ⟨g, o, rfl, -, -⟩ := h 0 (by omega)
    refine Lies.take ?_ m
    show Lies lsE w (some ((⟨g, o, none⟩ : Addr).add (f * 5))) _
    rw [add_addr]
    exact h.drop f
set_option maxHeartbeats 32000000 in
set_option maxRecDepth 100000 in
theorem dgrant_none (db B : Nat) (a5 a6 : Option Addr) (c5 c6 : Nat) (P : List Pl) (l : List Ls) (now : Int) (o : Opd) (w : World) (hd : Blk w db 94 [.slice a5 P.length c5, .slice a6 l.length c6, .int .i64 now]) (hdB : B ≤ db) (ho : OwnS w B (.slice a5 P.length c5) (.slice a6 l.length c6) P l) (hg : ∀ y ∈ P, y.p.chk = 0) (hP3 : P.length ≤ 3) (hl : l.length ≤ 20) (h0 : (P.length : Int) ≤ o.pof) :
    Calls Tryz.prog 53 #[.pointer (some ⟨db, 0, none⟩), .agg #[.int .i64 o.k, .bool o.p.v, .int .u64 o.p.hi, .int .u64 o.p.lo, .int .i64 o.p.b, .bool o.a.v, .int .u64 o.a.hi, .int .u64 o.a.lo, .string o.who, .int .i64 o.pof, .int .i64 o.n]] w fun e w' => e = .returned (.tuple #[.agg #[.bool false, .int .u64 0, .int .u64 0], .int .i64 5]) ∧ Below w.heap.size w w' := by
  have hBw : B ≤ w.heap.size := Nat.le_trans hdB (Nat.le_of_lt hd.lt)
  have hlie : Lies lsE w a6 l := by obtain ⟨a', c', e, h1, h2, h3⟩ := own_open ho.leases; injection e with e1 e2 e3; rw [e1]; exact h2
  have hliP : Lies plE w a5 P := by obtain ⟨a', c', e, h1, h2, h3⟩ := own_open ho.pools; injection e with e1 e2 e3; rw [e1]; exact h2
  have hlc : l.length ≤ c6 := by obtain ⟨a', c', e, h1, h2, h3⟩ := own_open ho.leases; injection e with e1 e2 e3; omega
  obtain ⟨W1, hW1⟩ : ∃ W1, W1 = ((w.alloc (.cells #[.int .i64 o.k, .bool o.p.v, .int .u64 o.p.hi, .int .u64 o.p.lo, .int .i64 o.p.b, .bool o.a.v, .int .u64 o.a.hi, .int .u64 o.a.lo, .string o.who, .int .i64 o.pof, .int .i64 o.n] 33)).alloc (.cells #[.bool false, .int .u64 0, .int .u64 0] 29)) := ⟨_, rfl⟩
  have hb1 : Below w.heap.size w W1 := by rw [hW1]; exact bal (bal (Below.refl w.heap.size w) _) _
  have hOp : Blk W1 w.heap.size 33 [.int .i64 o.k, .bool o.p.v, .int .u64 o.p.hi, .int .u64 o.p.lo, .int .i64 o.p.b, .bool o.a.v, .int .u64 o.a.hi, .int .u64 o.a.lo, .string o.who, .int .i64 o.pof, .int .i64 o.n] := by rw [hW1]; exact (Blk.new w _ _).below (bal (Below.refl _ _) _)
  have hX : Blk W1 (w.heap.size + 1) 29 [.bool false, .int .u64 0, .int .u64 0] := by
    rw [hW1]
    have := Blk.new (w.alloc (.cells #[.int .i64 o.k, .bool o.p.v, .int .u64 o.p.hi, .int .u64 o.p.lo, .int .i64 o.p.b, .bool o.a.v, .int .u64 o.a.hi, .int .u64 o.a.lo, .string o.who, .int .i64 o.pof, .int .i64 o.n] 33)) [.bool false, .int .u64 0, .int .u64 0] 29
    rw [show (w.alloc (.cells #[.int .i64 o.k, .bool o.p.v, .int .u64 o.p.hi, .int .u64 o.p.lo, .int .i64 o.p.b, .bool o.a.v, .int .u64 o.a.hi, .int .u64 o.a.lo, .string o.who, .int .i64 o.pof, .int .i64 o.n] 33)).heap.size = w.heap.size + 1 by simp] at this
    exact this
  have HB0 := Lib.hid hb1
  have HO0 := Lib.hid hOp
  have HX0 := Lib.hid hX
  have HD0 := Lib.hid (hd.below hb1)
  rw [hW1] at HB0 HO0 HX0 HD0
  clear hb1 hOp hX hW1 W1
  generalize P.length = PN at *
  generalize l.length = LN at *
  generalize o.k = y0 at *
  generalize o.p.v = y1 at *
  generalize o.p.hi = y2 at *
  generalize o.p.lo = y3 at *
  generalize o.p.b = y4 at *
  generalize o.a.v = y5 at *
  generalize o.a.hi = y6 at *
  generalize o.a.lo = y7 at *
  generalize o.who = y8 at *
  generalize o.pof = y9 at *
  generalize o.n = y10 at *
  have d0 : decide ((PN : Int) ≤ y9) = true := decide_eq_true h0
  clear ho hg hd hdB hlie hliP
  obtain ⟨⟨p0, p1, p2⟩, p3, p4, p5⟩ := HD0.out.three
  obtain ⟨⟨x0_, x1_, x2_⟩, x3_, x4_, x5_⟩ := HX0.out.three
  have o8 := (HO0.out).cell 8 _ rfl
  have o9 := (HO0.out).cell 9 _ rfl
  have o10 := (HO0.out).cell 10 _ rfl
  go_enter Tryz.func53, Tryz.ntmps53
  go_wp2_with fail
  go_region
  go_wp2_with fail
  refine bodyPost_ret (v := .tuple #[.agg #[.bool false, .int .u64 0, .int .u64 0], .int .i64 5]) ?_ rfl ⟨rfl, ?_⟩
  · simp [results, Tryz.results53, go_sem, x0_, x1_, x2_]
  · (repeat' (first | exact HB0.out.drew | with_reducible refine bse ?_ (by first | (simp; done) | (simp; omega) | (show _ ≤ _; omega)) _))
set_option maxHeartbeats 32000000 in
set_option maxRecDepth 100000 in
theorem dgrant_other (db B : Nat) (a5 a6 : Option Addr) (c5 c6 : Nat) (P : List Pl) (l : List Ls) (now : Int) (o : Opd) (w : World) (hd : Blk w db 94 [.slice a5 P.length c5, .slice a6 l.length c6, .int .i64 now]) (hdB : B ≤ db) (ho : OwnS w B (.slice a5 P.length c5) (.slice a6 l.length c6) P l) (hg : ∀ y ∈ P, y.p.chk = 0) (hP3 : P.length ≤ 3) (hl : l.length ≤ 20) (n m : Nat) (hn : n < P.length) (hof : o.pof = (n : Int)) (hft : toL P[n].p l = fromL P[n].p l + m) (hml : fromL P[n].p l + m ≤ l.length) (i : Nat) (hi : l.findIdx? (whoIs o.who) = some i) (hbad : i < fromL P[n].p l ∨ fromL P[n].p l + m ≤ i) :
    Calls Tryz.prog 53 #[.pointer (some ⟨db, 0, none⟩), .agg #[.int .i64 o.k, .bool o.p.v, .int .u64 o.p.hi, .int .u64 o.p.lo, .int .i64 o.p.b, .bool o.a.v, .int .u64 o.a.hi, .int .u64 o.a.lo, .string o.who, .int .i64 o.pof, .int .i64 o.n]] w fun e w' => e = .returned (.tuple #[.agg #[.bool false, .int .u64 0, .int .u64 0], .int .i64 6]) ∧ Below w.heap.size w w' := by
  have hBw : B ≤ w.heap.size := Nat.le_trans hdB (Nat.le_of_lt hd.lt)
  have hlie : Lies lsE w a6 l := by obtain ⟨a', c', e, h1, h2, h3⟩ := own_open ho.leases; injection e with e1 e2 e3; rw [e1]; exact h2
  have hliP : Lies plE w a5 P := by obtain ⟨a', c', e, h1, h2, h3⟩ := own_open ho.pools; injection e with e1 e2 e3; rw [e1]; exact h2
  have hlc : l.length ≤ c6 := by obtain ⟨a', c', e, h1, h2, h3⟩ := own_open ho.leases; injection e with e1 e2 e3; omega
  obtain ⟨W1, hW1⟩ : ∃ W1, W1 = ((w.alloc (.cells #[.int .i64 o.k, .bool o.p.v, .int .u64 o.p.hi, .int .u64 o.p.lo, .int .i64 o.p.b, .bool o.a.v, .int .u64 o.a.hi, .int .u64 o.a.lo, .string o.who, .int .i64 o.pof, .int .i64 o.n] 33)).alloc (.cells #[.bool false, .int .u64 0, .int .u64 0] 29)) := ⟨_, rfl⟩
  have hb1 : Below w.heap.size w W1 := by rw [hW1]; exact bal (bal (Below.refl w.heap.size w) _) _
  have hOp : Blk W1 w.heap.size 33 [.int .i64 o.k, .bool o.p.v, .int .u64 o.p.hi, .int .u64 o.p.lo, .int .i64 o.p.b, .bool o.a.v, .int .u64 o.a.hi, .int .u64 o.a.lo, .string o.who, .int .i64 o.pof, .int .i64 o.n] := by rw [hW1]; exact (Blk.new w _ _).below (bal (Below.refl _ _) _)
  have hX : Blk W1 (w.heap.size + 1) 29 [.bool false, .int .u64 0, .int .u64 0] := by
    rw [hW1]
    have := Blk.new (w.alloc (.cells #[.int .i64 o.k, .bool o.p.v, .int .u64 o.p.hi, .int .u64 o.p.lo, .int .i64 o.p.b, .bool o.a.v, .int .u64 o.a.hi, .int .u64 o.a.lo, .string o.who, .int .i64 o.pof, .int .i64 o.n] 33)) [.bool false, .int .u64 0, .int .u64 0] 29
    rw [show (w.alloc (.cells #[.int .i64 o.k, .bool o.p.v, .int .u64 o.p.hi, .int .u64 o.p.lo, .int .i64 o.p.b, .bool o.a.v, .int .u64 o.a.hi, .int .u64 o.a.lo, .string o.who, .int .i64 o.pof, .int .i64 o.n] 33)).heap.size = w.heap.size + 1 by simp] at this
    exact this
  have HB0 := Lib.hid hb1
  have HO0 := Lib.hid hOp
  have HX0 := Lib.hid hX
  have HD0 := Lib.hid (hd.below hb1)
  rw [hW1] at HB0 HO0 HX0 HD0
  clear hb1 hOp hX hW1 W1
  obtain ⟨g, hga⟩ : ∃ g, a5 = some ⟨g, 0, none⟩ := by
    rcases own_form ho.pools with ⟨e, e2⟩ | ⟨g, c', e, _⟩
    · rw [e2] at hn; exact absurd hn (Nat.not_lt_zero _)
    · injection e with e1 e2 e3; exact ⟨g, e1⟩
  subst hga
  obtain ⟨g', o', hgo, hgw, r0, r1, r2, r3, r4⟩ := hliP.pl n hn
  obtain ⟨rfl, rfl⟩ : g = g' ∧ 0 = o' := by simpa using hgo
  rw [Nat.zero_add] at r0 r1 r2 r3 r4
  have HPc : Hid (∀ W : World, Below w.heap.size w W → W.cell? ⟨g, n * 5, none⟩ = some (.bool P[n].p.v) ∧ W.cell? ⟨g, n * 5 + 1, none⟩ = some (.int .u64 P[n].p.hi) ∧ W.cell? ⟨g, n * 5 + 2, none⟩ = some (.int .u64 P[n].p.lo) ∧ W.cell? ⟨g, n * 5 + 3, none⟩ = some (.int .i64 P[n].p.b) ∧ W.cell? ⟨g, n * 5 + 4, none⟩ = some (.slice P[n].s P[n].kept.length P[n].c)) := fun W hW => ⟨by rw [(bcell hW).1 _ _ hgw]; exact r0, by rw [(bcell hW).1 _ _ hgw]; exact r1, by rw [(bcell hW).1 _ _ hgw]; exact r2, by rw [(bcell hW).1 _ _ hgw]; exact r3, by rw [(bcell hW).1 _ _ hgw]; exact r4⟩
  have hS : Hid (∀ W : World, Below w.heap.size w W → Blk W db 94 [.slice (some ⟨g, 0, none⟩) P.length c5, .slice a6 l.length c6, .int .i64 now] → Calls Tryz.prog 76 #[.pointer (some ⟨db, 0, none⟩), .agg #[.bool P[n].p.v, .int .u64 P[n].p.hi, .int .u64 P[n].p.lo, .int .i64 P[n].p.b]] W fun e w' => e = .returned (.tuple #[.int .i64 (fromL P[n].p l), .int .i64 ((fromL P[n].p l : Int) + (m : Int))]) ∧ Below W.heap.size W w') := fun W hW hD => by
    have := stretch_any db (some ⟨g, 0, none⟩) a6 P.length c5 c6 l now P[n].p P[n].pok (hg _ (List.getElem_mem hn)) W hD (by omega) (hlie.below hW)
    rw [hft] at this
    rw [show ((fromL P[n].p l : Int) + (m : Int)) = ((fromL P[n].p l + m : Nat) : Int) by omega]
    exact this
  have hBy : Hid (∀ W : World, Calls Tryz.prog 66 #[.string o.who] W fun e w' => e = .returned (.func (.func 89) #[] #[.pointer (some ⟨W.heap.size, 0, none⟩)]) ∧ w' = W.alloc (.cells #[.string o.who] 9)) := fun W => by_ctor o.who W
  have hCon : Hid (∀ (q : Nat) (W : World), Below w.heap.size w W → Blk W q 9 [.string o.who] → Calls Tryz.prog 77 #[.slice a6 l.length c6, .func (.func 89) #[] #[.pointer (some ⟨q, 0, none⟩)]] W fun e w' => e = .returned (.int .i64 (idxI (l.findIdx? (whoIs o.who)))) ∧ Below W.heap.size W w') := fun q W hW hq => ifnBy a6 c6 l o.who q W (by omega) (hlie.below hW) hq
  have hnz : (n : Int) < (P.length : Int) := by omega
  have hn0 : (0 : Int) ≤ (n : Int) := by omega
  have hnle : ¬ (P.length : Int) ≤ (n : Int) := by omega
  clear hgo r0 r1 r2 r3 r4
  rw [hi, show (idxI (some i)) = (i : Int) from rfl] at hCon
  clear hft
  generalize fromL P[n].p l = f at *
  generalize P[n].p.v = x0 at *
  generalize P[n].p.hi = x1 at *
  generalize P[n].p.lo = x2 at *
  generalize P[n].p.b = x3 at *
  generalize P[n].kept.length = kn at *
  generalize P[n].s = ks at *
  generalize P[n].c = kc at *
  clear ho hg hd hdB hlie hliP hi hn hml hlc hgw
  generalize P.length = PN at *
  generalize l.length = LN at *
  generalize o.k = y0 at *
  generalize o.p.v = y1 at *
  generalize o.p.hi = y2 at *
  generalize o.p.lo = y3 at *
  generalize o.p.b = y4 at *
  generalize o.a.v = y5 at *
  generalize o.a.hi = y6 at *
  generalize o.a.lo = y7 at *
  generalize o.who = y8 at *
  generalize o.pof = y9 at *
  generalize o.n = y10 at *
  subst hof
  have hi0 : (0 : Int) ≤ (i : Int) := by omega
  rcases hbad with hbad | hbad
  · have d1 : (i : Int) < (f : Int) := by omega
    obtain ⟨⟨p0, p1, p2⟩, p3, p4, p5⟩ := HD0.out.three
    obtain ⟨⟨x0_, x1_, x2_⟩, x3_, x4_, x5_⟩ := HX0.out.three
    have o8 := (HO0.out).cell 8 _ rfl
    have o9 := (HO0.out).cell 9 _ rfl
    have o10 := (HO0.out).cell 10 _ rfl
    obtain ⟨z0, z1, z2, z3, z4⟩ := HPc.out _ HB0.out
    have HBdd := Lib.hid HB0.out.drew.drew
    have HDdd := Lib.hid (HD0.out.below (Below.refl ((w.alloc (.cells #[.int .i64 y0, .bool y1, .int .u64 y2, .int .u64 y3, .int .i64 y4, .bool y5, .int .u64 y6, .int .u64 y7, .string y8, .int .i64 (n : Int), .int .i64 y10] 33)).alloc (.cells #[.bool false, .int .u64 0, .int .u64 0] 29)).heap.size ((w.alloc (.cells #[.int .i64 y0, .bool y1, .int .u64 y2, .int .u64 y3, .int .i64 y4, .bool y5, .int .u64 y6, .int .u64 y7, .string y8, .int .i64 (n : Int), .int .i64 y10] 33)).alloc (.cells #[.bool false, .int .u64 0, .int .u64 0] 29))).drew.drew)
    go_enter Tryz.func53, Tryz.ntmps53
    go_wp2_with fail
    go_region
    go_wp2_with fail
    go_cut [6, 7] from 12 to 115 (fun v6 v7 wc => v6 = .int .i64 f ∧ v7 = .int .i64 ((f : Int) + (m : Int)) ∧ Hid (Below ((w.alloc (.cells #[.int .i64 y0, .bool y1, .int .u64 y2, .int .u64 y3, .int .i64 y4, .bool y5, .int .u64 y6, .int .u64 y7, .string y8, .int .i64 (n : Int), .int .i64 y10] 33)).alloc (.cells #[.bool false, .int .u64 0, .int .u64 0] 29)).heap.size ((w.alloc (.cells #[.int .i64 y0, .bool y1, .int .u64 y2, .int .u64 y3, .int .i64 y4, .bool y5, .int .u64 y6, .int .u64 y7, .string y8, .int .i64 (n : Int), .int .i64 y10] 33)).alloc (.cells #[.bool false, .int .u64 0, .int .u64 0] 29)) wc))
    case first =>
      go_wp2_with fail
      go_region_with
        (go_at_call 76; (refine (hS.out _ HBdd.out HDdd.out).mono ?_); rintro e wz ⟨rfl, hbz⟩; have KZ := Lib.hid (btr (Below.refl ((w.alloc (.cells #[.int .i64 y0, .bool y1, .int .u64 y2, .int .u64 y3, .int .i64 y4, .bool y5, .int .u64 y6, .int .u64 y7, .string y8, .int .i64 (n : Int), .int .i64 y10] 33)).alloc (.cells #[.bool false, .int .u64 0, .int .u64 0] 29)).heap.size ((w.alloc (.cells #[.int .i64 y0, .bool y1, .int .u64 y2, .int .u64 y3, .int .i64 y4, .bool y5, .int .u64 y6, .int .u64 y7, .string y8, .int .i64 (n : Int), .int .i64 y10] 33)).alloc (.cells #[.bool false, .int .u64 0, .int .u64 0] 29))).drew.drew hbz); clear hbz)
      all_goals go_wp2_with fail
      all_goals go_meet
      all_goals exact ⟨rfl, rfl, KZ⟩
    case rest =>
      obtain ⟨rfl, rfl, KC⟩ := hcut
      obtain ⟨w1, hw1⟩ : ∃ W, W = wc := ⟨_, rfl⟩
      subst hw1
      have HB1 := Lib.hid (btr HB0.out KC.out)
      have HO1 := Lib.hid (HO0.out.below KC.out)
      have HX1 := Lib.hid (HX0.out.below KC.out)
      have HD1 := Lib.hid (HD0.out.below KC.out)
      clear KC HBdd HDdd HB0 HO0 HX0 HD0 hS p0 p1 p2 p3 p4 p5 x0_ x1_ x2_ x3_ x4_ x5_ o8 o9 o10 z0 z1 z2 z3 z4
      have KB := Lib.hid (bal HB1.out (.cells #[.string y8] 9)).drew
      have KW : Hid (Below w1.heap.size w1 (w1.alloc (.cells #[.string y8] 9)).drew) := (bal (Below.refl _ _) _).drew
      have KV : Hid (Blk (w1.alloc (.cells #[.string y8] 9)).drew w1.heap.size 9 [.string y8]) := Blk.new w1 _ _
      obtain ⟨⟨p0, p1, p2⟩, -⟩ := HD1.out.three
      have o8 := HO1.out.cell 8 _ rfl
      obtain ⟨⟨t0, t1, t2⟩, -⟩ := (HD1.out.below KW.out).three
      have t8 := (HO1.out.below KW.out).cell 8 _ rfl
      go_wp2_with fail
      go_cut [8] from 12 to 115 (fun v8 wc => v8 = .int .i64 (i : Int) ∧ Hid (Below w1.heap.size w1 wc))
      case first =>
        go_wp2_with fail
        go_region_with
          (first
            | (go_at_call 66; (refine (hBy.out _).mono ?_); rintro e wq ⟨rfl, rfl⟩)
            | (go_at_call 77; (refine (hCon.out _ _ KB.out KV.out).mono ?_); rintro e wz ⟨rfl, hbz⟩; have KZ := Lib.hid (btr KW.out hbz); clear hbz))
        all_goals go_wp2_with fail
        all_goals go_meet
        all_goals exact ⟨rfl, KZ⟩
      case rest =>
        obtain ⟨rfl, KC⟩ := hcut
        obtain ⟨w2, hw2⟩ : ∃ W, W = wc := ⟨_, rfl⟩
        subst hw2
        have HB2 := Lib.hid (btr HB1.out KC.out)
        have HO2 := Lib.hid (HO1.out.below KC.out)
        have HX2 := Lib.hid (HX1.out.below KC.out)
        have HD2 := Lib.hid (HD1.out.below KC.out)
        clear KB KW KV KC HB1 HO1 HX1 HD1 hBy hCon p0 p1 p2 o8 t0 t1 t2 t8
        obtain ⟨⟨p0, p1, p2⟩, p3, p4, p5⟩ := HD2.out.three
        obtain ⟨⟨x0_, x1_, x2_⟩, x3_, x4_, x5_⟩ := HX2.out.three
        go_wp2_with fail
        refine bodyPost_ret (v := .tuple #[.agg #[.bool false, .int .u64 0, .int .u64 0], .int .i64 6]) ?_ rfl ⟨rfl, ?_⟩
        · simp [results, Tryz.results53, go_sem, x0_, x1_, x2_]
        · (repeat' (first | exact HB2.out | with_reducible refine bse ?_ (by first | (simp; done) | (simp; omega) | (show _ ≤ _; omega)) _))
  · have d1 : ¬ (i : Int) < (f : Int) := by omega
    have d2 : (f : Int) + (m : Int) ≤ (i : Int) := by omega
    obtain ⟨⟨p0, p1, p2⟩, p3, p4, p5⟩ := HD0.out.three
    obtain ⟨⟨x0_, x1_, x2_⟩, x3_, x4_, x5_⟩ := HX0.out.three
    have o8 := (HO0.out).cell 8 _ rfl
    have o9 := (HO0.out).cell 9 _ rfl
    have o10 := (HO0.out).cell 10 _ rfl
    obtain ⟨z0, z1, z2, z3, z4⟩ := HPc.out _ HB0.out
    have HBdd := Lib.hid HB0.out.drew.drew
    have HDdd := Lib.hid (HD0.out.below (Below.refl ((w.alloc (.cells #[.int .i64 y0, .bool y1, .int .u64 y2, .int .u64 y3, .int .i64 y4, .bool y5, .int .u64 y6, .int .u64 y7, .string y8, .int .i64 (n : Int), .int .i64 y10] 33)).alloc (.cells #[.bool false, .int .u64 0, .int .u64 0] 29)).heap.size ((w.alloc (.cells #[.int .i64 y0, .bool y1, .int .u64 y2, .int .u64 y3, .int .i64 y4, .bool y5, .int .u64 y6, .int .u64 y7, .string y8, .int .i64 (n : Int), .int .i64 y10] 33)).alloc (.cells #[.bool false, .int .u64 0, .int .u64 0] 29))).drew.drew)
    go_enter Tryz.func53, Tryz.ntmps53
    go_wp2_with fail
    go_region
    go_wp2_with fail
    go_cut [6, 7] from 12 to 115 (fun v6 v7 wc => v6 = .int .i64 f ∧ v7 = .int .i64 ((f : Int) + (m : Int)) ∧ Hid (Below ((w.alloc (.cells #[.int .i64 y0, .bool y1, .int .u64 y2, .int .u64 y3, .int .i64 y4, .bool y5, .int .u64 y6, .int .u64 y7, .string y8, .int .i64 (n : Int), .int .i64 y10] 33)).alloc (.cells #[.bool false, .int .u64 0, .int .u64 0] 29)).heap.size ((w.alloc (.cells #[.int .i64 y0, .bool y1, .int .u64 y2, .int .u64 y3, .int .i64 y4, .bool y5, .int .u64 y6, .int .u64 y7, .string y8, .int .i64 (n : Int), .int .i64 y10] 33)).alloc (.cells #[.bool false, .int .u64 0, .int .u64 0] 29)) wc))
    case first =>
      go_wp2_with fail
      go_region_with
        (go_at_call 76; (refine (hS.out _ HBdd.out HDdd.out).mono ?_); rintro e wz ⟨rfl, hbz⟩; have KZ := Lib.hid (btr (Below.refl ((w.alloc (.cells #[.int .i64 y0, .bool y1, .int .u64 y2, .int .u64 y3, .int .i64 y4, .bool y5, .int .u64 y6, .int .u64 y7, .string y8, .int .i64 (n : Int), .int .i64 y10] 33)).alloc (.cells #[.bool false, .int .u64 0, .int .u64 0] 29)).heap.size ((w.alloc (.cells #[.int .i64 y0, .bool y1, .int .u64 y2, .int .u64 y3, .int .i64 y4, .bool y5, .int .u64 y6, .int .u64 y7, .string y8, .int .i64 (n : Int), .int .i64 y10] 33)).alloc (.cells #[.bool false, .int .u64 0, .int .u64 0] 29))).drew.drew hbz); clear hbz)
      all_goals go_wp2_with fail
      all_goals go_meet
      all_goals exact ⟨rfl, rfl, KZ⟩
    case rest =>
      obtain ⟨rfl, rfl, KC⟩ := hcut
      obtain ⟨w1, hw1⟩ : ∃ W, W = wc := ⟨_, rfl⟩
      subst hw1
      have HB1 := Lib.hid (btr HB0.out KC.out)
      have HO1 := Lib.hid (HO0.out.below KC.out)
      have HX1 := Lib.hid (HX0.out.below KC.out)
      have HD1 := Lib.hid (HD0.out.below KC.out)
      clear KC HBdd HDdd HB0 HO0 HX0 HD0 hS p0 p1 p2 p3 p4 p5 x0_ x1_ x2_ x3_ x4_ x5_ o8 o9 o10 z0 z1 z2 z3 z4
      have KB := Lib.hid (bal HB1.out (.cells #[.string y8] 9)).drew
      have KW : Hid (Below w1.heap.size w1 (w1.alloc (.cells #[.string y8] 9)).drew) := (bal (Below.refl _ _) _).drew
      have KV : Hid (Blk (w1.alloc (.cells #[.string y8] 9)).drew w1.heap.size 9 [.string y8]) := Blk.new w1 _ _
      obtain ⟨⟨p0, p1, p2⟩, -⟩ := HD1.out.three
      have o8 := HO1.out.cell 8 _ rfl
      obtain ⟨⟨t0, t1, t2⟩, -⟩ := (HD1.out.below KW.out).three
      have t8 := (HO1.out.below KW.out).cell 8 _ rfl
      go_wp2_with fail
      go_cut [8] from 12 to 115 (fun v8 wc => v8 = .int .i64 (i : Int) ∧ Hid (Below w1.heap.size w1 wc))
      case first =>
        go_wp2_with fail
        go_region_with
          (first
            | (go_at_call 66; (refine (hBy.out _).mono ?_); rintro e wq ⟨rfl, rfl⟩)
            | (go_at_call 77; (refine (hCon.out _ _ KB.out KV.out).mono ?_); rintro e wz ⟨rfl, hbz⟩; have KZ := Lib.hid (btr KW.out hbz); clear hbz))
        all_goals go_wp2_with fail
        all_goals go_meet
        all_goals exact ⟨rfl, KZ⟩
      case rest =>
        obtain ⟨rfl, KC⟩ := hcut
        obtain ⟨w2, hw2⟩ : ∃ W, W = wc := ⟨_, rfl⟩
        subst hw2
        have HB2 := Lib.hid (btr HB1.out KC.out)
        have HO2 := Lib.hid (HO1.out.below KC.out)
        have HX2 := Lib.hid (HX1.out.below KC.out)
        have HD2 := Lib.hid (HD1.out.below KC.out)
        clear KB KW KV KC HB1 HO1 HX1 HD1 hBy hCon p0 p1 p2 o8 t0 t1 t2 t8
        obtain ⟨⟨p0, p1, p2⟩, p3, p4, p5⟩ := HD2.out.three
        obtain ⟨⟨x0_, x1_, x2_⟩, x3_, x4_, x5_⟩ := HX2.out.three
        go_wp2_with fail
        refine bodyPost_ret (v := .tuple #[.agg #[.bool false, .int .u64 0, .int .u64 0], .int .i64 6]) ?_ rfl ⟨rfl, ?_⟩
        · simp [results, Tryz.results53, go_sem, x0_, x1_, x2_]
        · (repeat' (first | exact HB2.out | with_reducible refine bse ?_ (by first | (simp; done) | (simp; omega) | (show _ ≤ _; omega)) _))
end Go.Proofs.YtjainfehlbfiaaaGreat
