/- FenceTells: its walk, path by path. -/
import Derived.Test.YtjainfehlbfiaaaFbA
import Derived.Test.YtjainfehlbfiaaaFrB
import Derived.Test.YtjainfehlbfiaaaFrC
set_option linter.unusedVariables false
set_option linter.unusedSimpArgs false
namespace Go.Proofs.Ytjainfehlbfiaaa
open Go.RowKit

theorem acq_none {d : Dk} {who now : Int} (h : ¬ acqE d who now = 0) : acqD d who now = noDk := by unfold acqD; rw [if_neg h]
theorem acq_len {d : Dk} {who now : Int} (hd : d.bad = 0) : (acqD d who now).l.length ≤ 1000 := by
  have h := disk_len (show diskE d.ep d.h d.u d.l = 0 from hd)
  unfold acqD
  split
  · show d.l.length ≤ 1000; omega
  · show 0 ≤ 1000; omega
theorem write_none {d : Dk} {epoch : Int} {o : Opd} (h : ¬ writeE d epoch o = 0) : writeD d epoch o = noDk := by unfold writeD; rw [if_neg h]
theorem write_len {d : Dk} {epoch : Int} {o : Opd} (hd : d.bad = 0) : (writeD d epoch o).l.length ≤ 1000 := by
  have h := disk_len (show diskE d.ep d.h d.u d.l = 0 from hd)
  unfold writeD
  split
  · show (d.l ++ [newE d.l epoch o]).length ≤ 1000; simp; omega
  · show 0 ≤ 1000; omega
set_option maxHeartbeats 32000000 in
set_option maxRecDepth 100000 in
theorem ftells_good (d : Dk) (a : Option Addr) (c : Nat) (who now epoch : Int) (o : Opd) (w : World) (hc : d.l.length ≤ c) (hs : Lies enE w a d.l) (hws : ∀ x ∈ d.l, x.o.who.size ≤ maxLen) (hw : o.who.size ≤ maxLen) (hd : d.bad = 0) (h1 : 1 ≤ who) (h2 : who ≤ 2) (n0 : 0 ≤ now) (n1 : now ≤ 9999) :
    Calls Try.prog 3 #[.agg #[.int .i64 d.ep, .int .i64 d.h, .int .i64 d.u, .slice a d.l.length c], .int .i64 who, .int .i64 now, .int .i64 epoch, .agg #[.int .i64 o.k, .bool o.p.v, .int .u64 o.p.hi, .int .u64 o.p.lo, .int .i64 o.p.b, .bool o.a.v, .int .u64 o.a.hi, .int .u64 o.a.lo, .string o.who, .int .i64 o.pof, .int .i64 o.n]] w fun e w' => e = .returned (.bool true) ∧ Below w.heap.size w w' := by
  have hA : Hid (∀ W : World, Lies enE W a d.l → Calls Try.prog 5 #[.agg #[.int .i64 d.ep, .int .i64 d.h, .int .i64 d.u, .slice a d.l.length c], .int .i64 who, .int .i64 now] W fun e w' => ∃ a' c', e = .returned (.tuple #[.agg #[.int .i64 (acqD d who now).ep, .int .i64 (acqD d who now).h, .int .i64 (acqD d who now).u, .slice a' (acqD d who now).l.length c'], .int .i64 (acqD d who now).ep, .int .i64 (acqE d who now)]) ∧ Lies enE w' a' (acqD d who now).l ∧ Below W.heap.size W w') := fun W h => (acq_any d a c who now W hc h).mono fun e w' ⟨a', c', h1, h2, h3, h4, h5⟩ => ⟨a', c', h1, h3, h5⟩
  have hW : Hid (∀ W : World, Lies enE W a d.l → Calls Try.prog 6 #[.agg #[.int .i64 d.ep, .int .i64 d.h, .int .i64 d.u, .slice a d.l.length c], .int .i64 epoch, .agg #[.int .i64 o.k, .bool o.p.v, .int .u64 o.p.hi, .int .u64 o.p.lo, .int .i64 o.p.b, .bool o.a.v, .int .u64 o.a.hi, .int .u64 o.a.lo, .string o.who, .int .i64 o.pof, .int .i64 o.n]] W fun e w' => ∃ a' c', e = .returned (.tuple #[.agg #[.int .i64 (writeD d epoch o).ep, .int .i64 (writeD d epoch o).h, .int .i64 (writeD d epoch o).u, .slice a' (writeD d epoch o).l.length c'], .int .i64 (writeE d epoch o)]) ∧ Lies enE w' a' (writeD d epoch o).l ∧ Below W.heap.size W w') := fun W h => (fwrite_any d a c epoch o W hc h).mono fun e w' ⟨a', c', h1, h2, h3, h4, h5⟩ => ⟨a', c', h1, h3, h5⟩
  have hR : Hid (∀ W : World, Lies enE W a d.l → Calls Try.prog 7 #[.agg #[.int .i64 d.ep, .int .i64 d.h, .int .i64 d.u, .slice a d.l.length c]] W fun e w' => e = .returned (.int .i64 d.bad) ∧ Below W.heap.size W w') := fun W h => rdisk_any d a c W h hws
  have hK : Hid (∀ W : World, Lies enE W a d.l → Calls Try.prog 11 #[.agg #[.int .i64 d.ep, .int .i64 d.h, .int .i64 d.u, .slice a d.l.length c]] W fun e w' => e = .returned (.int .i64 d.bad) ∧ Below W.heap.size W w') := fun W h => fcheck_any d.ep d.h d.u a c d.l W hc h
  have hBg : Hid (∀ W : World, Calls Try.prog 10 #[] W fun e w' => e = .returned (.bool true) ∧ Below W.heap.size W w') := fbegun_any
  have hRA : Hid (∀ W : World, Calls Try.prog 8 #[.agg #[.int .i64 d.ep, .int .i64 d.h, .int .i64 d.u, .slice a d.l.length c], .int .i64 who, .int .i64 now] W fun e w' => ∃ a' c', e = .returned (.tuple #[.agg #[.int .i64 (acqD d who now).ep, .int .i64 (acqD d who now).h, .int .i64 (acqD d who now).u, .slice a' (acqD d who now).l.length c'], .int .i64 (acqE d who now)]) ∧ (∀ W : World, Lies enE W a d.l → Lies enE W a' (acqD d who now).l) ∧ Below W.heap.size W w') := fun W => racq_any d a c who now W hd h1 h2 n0 n1
  have hRW : Hid (∀ W : World, Lies enE W a d.l → Calls Try.prog 9 #[.agg #[.int .i64 d.ep, .int .i64 d.h, .int .i64 d.u, .slice a d.l.length c], .int .i64 epoch, .agg #[.int .i64 o.k, .bool o.p.v, .int .u64 o.p.hi, .int .u64 o.p.lo, .int .i64 o.p.b, .bool o.a.v, .int .u64 o.a.hi, .int .u64 o.a.lo, .string o.who, .int .i64 o.pof, .int .i64 o.n]] W fun e w' => ∃ a' c', e = .returned (.tuple #[.agg #[.int .i64 (writeD d epoch o).ep, .int .i64 (writeD d epoch o).h, .int .i64 (writeD d epoch o).u, .slice a' (writeD d epoch o).l.length c'], .int .i64 (writeE d epoch o)]) ∧ Lies enE w' a' (writeD d epoch o).l ∧ (∀ g o, a' = some ⟨g, o, none⟩ → W.heap.size ≤ g) ∧ Below W.heap.size W w') := fun W h => rwrite_any d a c epoch o W h hw hd
  have hIA : Hid (∀ (a' a'' : Option Addr) (c' c'' : Nat) (W : World), Lies enE W a' (acqD d who now).l → Lies enE W a'' (acqD d who now).l → Calls Try.prog 12 #[.agg #[.int .i64 (acqD d who now).ep, .int .i64 (acqD d who now).h, .int .i64 (acqD d who now).u, .slice a' (acqD d who now).l.length c'], .int .i64 (acqE d who now), .int .i64 (acqE d who now), .agg #[.int .i64 (acqD d who now).ep, .int .i64 (acqD d who now).h, .int .i64 (acqD d who now).u, .slice a'' (acqD d who now).l.length c'']] W fun e w' => e = .returned (.bool true) ∧ Below W.heap.size W w') := fun a' a'' c' c'' W h h' => diskis_any (acqD d who now) (acqE d who now) a' a'' c' c'' W (acq_none) (acq_len hd) h h'
  have hIB : Hid (∀ (a' a'' : Option Addr) (c' c'' : Nat) (W : World), Lies enE W a' (writeD d epoch o).l → Lies enE W a'' (writeD d epoch o).l → Calls Try.prog 12 #[.agg #[.int .i64 (writeD d epoch o).ep, .int .i64 (writeD d epoch o).h, .int .i64 (writeD d epoch o).u, .slice a' (writeD d epoch o).l.length c'], .int .i64 (writeE d epoch o), .int .i64 (writeE d epoch o), .agg #[.int .i64 (writeD d epoch o).ep, .int .i64 (writeD d epoch o).h, .int .i64 (writeD d epoch o).u, .slice a'' (writeD d epoch o).l.length c'']] W fun e w' => e = .returned (.bool true) ∧ Below W.heap.size W w') := fun a' a'' c' c'' W h h' => diskis_any (writeD d epoch o) (writeE d epoch o) a' a'' c' c'' W (write_none) (write_len hd) h h'
  obtain ⟨W1, hW1⟩ : ∃ W1, W1 = (w.alloc (.cells #[.int .i64 d.ep, .int .i64 d.h, .int .i64 d.u, .slice a d.l.length c] 26)).alloc (.cells #[.int .i64 o.k, .bool o.p.v, .int .u64 o.p.hi, .int .u64 o.p.lo, .int .i64 o.p.b, .bool o.a.v, .int .u64 o.a.hi, .int .u64 o.a.lo, .string o.who, .int .i64 o.pof, .int .i64 o.n] 33) := ⟨_, rfl⟩
  have hb1 : Below w.heap.size w W1 := by rw [hW1]; exact bal (bal (Below.refl w.heap.size w) _) _
  have hD : Blk W1 w.heap.size 26 [.int .i64 d.ep, .int .i64 d.h, .int .i64 d.u, .slice a d.l.length c] := by rw [hW1]; exact (Blk.new w _ _).below (bal (Below.refl _ _) _)
  have hO : Blk W1 (w.heap.size + 1) 33 [.int .i64 o.k, .bool o.p.v, .int .u64 o.p.hi, .int .u64 o.p.lo, .int .i64 o.p.b, .bool o.a.v, .int .u64 o.a.hi, .int .u64 o.a.lo, .string o.who, .int .i64 o.pof, .int .i64 o.n] := by
    rw [hW1]
    have := Blk.new (w.alloc (.cells #[.int .i64 d.ep, .int .i64 d.h, .int .i64 d.u, .slice a d.l.length c] 26)) [.int .i64 o.k, .bool o.p.v, .int .u64 o.p.hi, .int .u64 o.p.lo, .int .i64 o.p.b, .bool o.a.v, .int .u64 o.a.hi, .int .u64 o.a.lo, .string o.who, .int .i64 o.pof, .int .i64 o.n] 33
    rw [show (w.alloc (.cells #[.int .i64 d.ep, .int .i64 d.h, .int .i64 d.u, .slice a d.l.length c] 26)).heap.size = w.heap.size + 1 by simp] at this
    exact this
  have HL1 := Lib.hid (hs.below hb1)
  have HB1 := Lib.hid hb1
  have HD1 := Lib.hid hD
  have HO1 := Lib.hid hO
  rw [hW1] at HL1 HB1 HD1 HO1
  clear hb1 hD hO hs hc hW1 W1
  rw [hd] at hR hK
  have k1 : decide (who < 1) = false := decide_eq_false (by omega)
  have k2 : decide (2 < who) = false := decide_eq_false (by omega)
  have k3 : decide (now < 0) = false := decide_eq_false (by omega)
  have k4 : decide (9999 < now) = false := decide_eq_false (by omega)
  clear hd hws hw h1 h2 n0 n1
  generalize acqE d who now = ra at *
  generalize acqD d who now = A at *
  generalize A.ep = A0 at *
  generalize A.h = A1 at *
  generalize A.u = A2 at *
  generalize A.l.length = AN at *
  generalize A.l = Al at *
  generalize writeE d epoch o = rb at *
  generalize writeD d epoch o = B at *
  generalize B.ep = B0 at *
  generalize B.h = B1 at *
  generalize B.u = B2 at *
  generalize B.l.length = BN at *
  generalize B.l = Bl at *
  generalize d.ep = d0 at *
  generalize d.h = d1 at *
  generalize d.u = d2 at *
  generalize d.l.length = dN at *
  generalize d.l = dl at *
  generalize o.k = y0 at *
  generalize o.p.v = y1 at *
  generalize o.p.hi = y2 at *
  generalize o.p.lo = y3 at *
  generalize o.p.b = y4 at *
  generalize o.a.v = y5 at *
  generalize o.a.hi = y6 at *
  generalize o.a.lo = y7 at *
  generalize o.who = y8 at *
  generalize o.pof = y9 at *
  generalize o.n = y10 at *
  go_enter Try.func3, Try.ntmps3
  go_wp2_with fail
  refine (hA.out _ HL1.out).mono ?_
  rintro e w2 ⟨a2, c2, rfl, hl2, hb2⟩
  obtain ⟨W2, hW2⟩ : ∃ W2, W2 = w2.alloc (.cells #[.int .i64 A0, .int .i64 A1, .int .i64 A2, .slice a2 AN c2] 26) := ⟨_, rfl⟩
  have hb2' : Below w2.heap.size w2 W2 := by rw [hW2]; exact bal (Below.refl _ _) _
  have hb2'' := btr hb2 hb2'
  have HB2 := Lib.hid (btr HB1.out hb2'')
  have HD2 := Lib.hid (HD1.out.below hb2'')
  have HO2 := Lib.hid (HO1.out.below hb2'')
  have HL2 := Lib.hid (HL1.out.below hb2'')
  have HA2 : Hid (Blk W2 w2.heap.size 26 [.int .i64 A0, .int .i64 A1, .int .i64 A2, .slice a2 AN c2]) := by rw [hW2]; exact Lib.hid (Blk.new w2 _ _)
  have HM2 := Lib.hid (hl2.below hb2')
  clear hl2
  obtain ⟨⟨p0, p1, p2, p3⟩, -⟩ := (HD2.out).four
  obtain ⟨q0, q1, q2, q3, q4, q5, q6, q7, q8, q9, q10⟩ : W2.cell? ⟨w.heap.size + 1, 0, none⟩ = some (.int .i64 y0) ∧ W2.cell? ⟨w.heap.size + 1, 1, none⟩ = some (.bool y1) ∧ W2.cell? ⟨w.heap.size + 1, 2, none⟩ = some (.int .u64 y2) ∧ W2.cell? ⟨w.heap.size + 1, 3, none⟩ = some (.int .u64 y3) ∧ W2.cell? ⟨w.heap.size + 1, 4, none⟩ = some (.int .i64 y4) ∧ W2.cell? ⟨w.heap.size + 1, 5, none⟩ = some (.bool y5) ∧ W2.cell? ⟨w.heap.size + 1, 6, none⟩ = some (.int .u64 y6) ∧ W2.cell? ⟨w.heap.size + 1, 7, none⟩ = some (.int .u64 y7) ∧ W2.cell? ⟨w.heap.size + 1, 8, none⟩ = some (.string y8) ∧ W2.cell? ⟨w.heap.size + 1, 9, none⟩ = some (.int .i64 y9) ∧ W2.cell? ⟨w.heap.size + 1, 10, none⟩ = some (.int .i64 y10) := by have hq := HO2.out; exact ⟨hq.cell 0 _ rfl, hq.cell 1 _ rfl, hq.cell 2 _ rfl, hq.cell 3 _ rfl, hq.cell 4 _ rfl, hq.cell 5 _ rfl, hq.cell 6 _ rfl, hq.cell 7 _ rfl, hq.cell 8 _ rfl, hq.cell 9 _ rfl, hq.cell 10 _ rfl⟩
  rw [hW2] at HB2 HD2 HO2 HL2 HA2 HM2 p0 p1 p2 p3 q0 q1 q2 q3 q4 q5 q6 q7 q8 q9 q10
  clear hb2 hb2' hb2'' hW2 W2 HB1 HD1 HO1 HL1 hA
  go_wp2_with fail
  refine (hW.out _ HL2.out).mono ?_
  rintro e w3 ⟨a3, c3, rfl, hl3, hb3⟩
  obtain ⟨W3, hW3⟩ : ∃ W3, W3 = w3.alloc (.cells #[.int .i64 B0, .int .i64 B1, .int .i64 B2, .slice a3 BN c3] 26) := ⟨_, rfl⟩
  have hb3' : Below w3.heap.size w3 W3 := by rw [hW3]; exact bal (Below.refl _ _) _
  have hb3'' := btr hb3 hb3'
  have HB3 := Lib.hid (btr HB2.out hb3'')
  have HD3 := Lib.hid (HD2.out.below hb3'')
  have HO3 := Lib.hid (HO2.out.below hb3'')
  have HL3 := Lib.hid (HL2.out.below hb3'')
  have HA3 := Lib.hid (HA2.out.below hb3'')
  have HM3 := Lib.hid (HM2.out.below hb3'')
  have HQ3 : Hid (Blk W3 w3.heap.size 26 [.int .i64 B0, .int .i64 B1, .int .i64 B2, .slice a3 BN c3]) := by rw [hW3]; exact Lib.hid (Blk.new w3 _ _)
  have HN3 := Lib.hid (hl3.below hb3')
  clear hl3
  clear p0 p1 p2 p3 q0 q1 q2 q3 q4 q5 q6 q7 q8 q9 q10
  obtain ⟨⟨p0, p1, p2, p3⟩, -⟩ := (HD3.out).four
  rw [hW3] at HB3 HD3 HO3 HL3 HA3 HM3 HQ3 HN3 p0 p1 p2 p3
  clear hb3 hb3' hb3'' hW3 W3 HB2 HD2 HO2 HL2 HA2 HM2 hW
  go_wp2_with fail
  refine (hR.out _ HL3.out).mono ?_
  rintro e w4 ⟨rfl, hb4⟩
  have HB4 := Lib.hid (btr HB3.out hb4)
  have HD4 := Lib.hid (HD3.out.below hb4)
  have HO4 := Lib.hid (HO3.out.below hb4)
  have HL4 := Lib.hid (HL3.out.below hb4)
  have HA4 := Lib.hid (HA3.out.below hb4)
  have HM4 := Lib.hid (HM3.out.below hb4)
  have HQ4 := Lib.hid (HQ3.out.below hb4)
  have HN4 := Lib.hid (HN3.out.below hb4)
  clear p0 p1 p2 p3 hb4 HB3 HD3 HO3 HL3 HA3 HM3 HQ3 HN3 hR
  obtain ⟨W4, hW4⟩ : ∃ W4, W4 = (w4.alloc (.cells #[.int .i64 0, .int .i64 0, .int .i64 0, .slice none 0 0] 26)).alloc (.cells #[.int .i64 0, .int .i64 0, .int .i64 0, .slice none 0 0] 26) := ⟨_, rfl⟩
  have HZ4 : Hid (Below w4.heap.size w4 W4) := by rw [hW4]; exact Lib.hid (bal (bal (Below.refl _ _) _) _)
  have HG4 : Hid (Blk W4 w4.heap.size 26 [.int .i64 0, .int .i64 0, .int .i64 0, .slice none 0 0]) := by rw [hW4]; exact Lib.hid ((Blk.new w4 _ _).below (bal (Below.refl _ _) _))
  have HP4 : Hid (Blk W4 (w4.heap.size + 1) 26 [.int .i64 0, .int .i64 0, .int .i64 0, .slice none 0 0]) := by
    rw [hW4]
    have := Blk.new (w4.alloc (.cells #[.int .i64 0, .int .i64 0, .int .i64 0, .slice none 0 0] 26)) [.int .i64 0, .int .i64 0, .int .i64 0, .slice none 0 0] 26
    rw [show (w4.alloc (.cells #[.int .i64 0, .int .i64 0, .int .i64 0, .slice none 0 0] 26)).heap.size = w4.heap.size + 1 by simp] at this
    exact Lib.hid this
  obtain ⟨⟨p0, p1, p2, p3⟩, -⟩ := (HD4.out.below HZ4.out).four
  rw [hW4] at HZ4 HG4 HP4 p0 p1 p2 p3
  clear hW4 W4
  go_wp2_with fail
  refine (hRA.out _).mono ?_
  rintro e w5 ⟨a5, c5, rfl, hU, hb5⟩
  have HU := Lib.hid hU
  have HZ5 := Lib.hid (btr HZ4.out hb5)
  have HG5 := Lib.hid (HG4.out.below hb5)
  have HP5 := Lib.hid (HP4.out.below hb5)
  clear p0 p1 p2 p3 hU hb5 HZ4 HG4 HP4 hRA
  obtain ⟨W5, hW5⟩ : ∃ W, W = (((w5.setCell ⟨w4.heap.size, 0, none⟩ (.int .i64 A0)).setCell ⟨w4.heap.size, 1, none⟩ (.int .i64 A1)).setCell ⟨w4.heap.size, 2, none⟩ (.int .i64 A2)).setCell ⟨w4.heap.size, 3, none⟩ (.slice a5 AN c5) := ⟨_, rfl⟩
  have HZ5b : Hid (Below w4.heap.size w4 W5) := by rw [hW5]; exact Lib.hid (bse (bse (bse (bse HZ5.out (by dsimp only; omega) _) (by dsimp only; omega) _) (by dsimp only; omega) _) (by dsimp only; omega) _)
  have HG5b : Hid (Blk W5 (w4.heap.size) 26 [.int .i64 A0, .int .i64 A1, .int .i64 A2, .slice a5 AN c5]) := by rw [hW5]; exact Lib.hid (HG5.out.put4 (.int .i64 A0) (.int .i64 A1) (.int .i64 A2) (.slice a5 AN c5))
  have HP5b : Hid (Blk W5 (w4.heap.size + 1) 26 [.int .i64 0, .int .i64 0, .int .i64 0, .slice none 0 0]) := by rw [hW5]; exact Lib.hid ((((HP5.out.other (by omega) _).other (by omega) _).other (by omega) _).other (by omega) _)
  obtain ⟨⟨g0, g1, g2, g3⟩, f0, f1, f2, f3⟩ := HG5.out.four
  obtain ⟨⟨p0, p1, p2, p3⟩, -⟩ := (HD4.out.below HZ5b.out).four
  obtain ⟨q0, q1, q2, q3, q4, q5, q6, q7, q8, q9, q10⟩ : W5.cell? ⟨w.heap.size + 1, 0, none⟩ = some (.int .i64 y0) ∧ W5.cell? ⟨w.heap.size + 1, 1, none⟩ = some (.bool y1) ∧ W5.cell? ⟨w.heap.size + 1, 2, none⟩ = some (.int .u64 y2) ∧ W5.cell? ⟨w.heap.size + 1, 3, none⟩ = some (.int .u64 y3) ∧ W5.cell? ⟨w.heap.size + 1, 4, none⟩ = some (.int .i64 y4) ∧ W5.cell? ⟨w.heap.size + 1, 5, none⟩ = some (.bool y5) ∧ W5.cell? ⟨w.heap.size + 1, 6, none⟩ = some (.int .u64 y6) ∧ W5.cell? ⟨w.heap.size + 1, 7, none⟩ = some (.int .u64 y7) ∧ W5.cell? ⟨w.heap.size + 1, 8, none⟩ = some (.string y8) ∧ W5.cell? ⟨w.heap.size + 1, 9, none⟩ = some (.int .i64 y9) ∧ W5.cell? ⟨w.heap.size + 1, 10, none⟩ = some (.int .i64 y10) := by have hq := HO4.out.below HZ5b.out; exact ⟨hq.cell 0 _ rfl, hq.cell 1 _ rfl, hq.cell 2 _ rfl, hq.cell 3 _ rfl, hq.cell 4 _ rfl, hq.cell 5 _ rfl, hq.cell 6 _ rfl, hq.cell 7 _ rfl, hq.cell 8 _ rfl, hq.cell 9 _ rfl, hq.cell 10 _ rfl⟩
  rw [hW5] at HZ5b HG5b HP5b p0 p1 p2 p3 q0 q1 q2 q3 q4 q5 q6 q7 q8 q9 q10
  clear hW5 W5 HZ5 HG5 HP5
  go_wp2_with fail
  refine (hRW.out _ (HL4.out.below HZ5b.out)).mono ?_
  rintro e w6 ⟨a6, c6, rfl, hl6, hg6, hb6⟩
  have HZ6 := Lib.hid (btr HZ5b.out hb6)
  have HG6 := Lib.hid (HG5b.out.below hb6)
  have HP6 := Lib.hid (HP5b.out.below hb6)
  have hg6' : ∀ g o, a6 = some ⟨g, o, none⟩ → w4.heap.size + 1 < g := fun g o e => by have h1 := hg6 g o e; have h2 := HP5b.out.lt; omega
  clear p0 p1 p2 p3 q0 q1 q2 q3 q4 q5 q6 q7 q8 q9 q10 g0 g1 g2 g3 f0 f1 f2 f3
  obtain ⟨W6, hW6⟩ : ∃ W, W = (((w6.setCell ⟨w4.heap.size + 1, 0, none⟩ (.int .i64 B0)).setCell ⟨w4.heap.size + 1, 1, none⟩ (.int .i64 B1)).setCell ⟨w4.heap.size + 1, 2, none⟩ (.int .i64 B2)).setCell ⟨w4.heap.size + 1, 3, none⟩ (.slice a6 BN c6) := ⟨_, rfl⟩
  have HZ6b : Hid (Below w4.heap.size w4 W6) := by rw [hW6]; exact Lib.hid (bse (bse (bse (bse HZ6.out (by dsimp only; omega) _) (by dsimp only; omega) _) (by dsimp only; omega) _) (by dsimp only; omega) _)
  have HP6b : Hid (Blk W6 (w4.heap.size + 1) 26 [.int .i64 B0, .int .i64 B1, .int .i64 B2, .slice a6 BN c6]) := by rw [hW6]; exact Lib.hid (HP6.out.put4 (.int .i64 B0) (.int .i64 B1) (.int .i64 B2) (.slice a6 BN c6))
  have HG6b : Hid (Blk W6 (w4.heap.size) 26 [.int .i64 A0, .int .i64 A1, .int .i64 A2, .slice a5 AN c5]) := by rw [hW6]; exact Lib.hid ((((HG6.out.other (by omega) _).other (by omega) _).other (by omega) _).other (by omega) _)
  have HV6b : Hid (Lies enE W6 a6 Bl) := by rw [hW6]; exact Lib.hid (lies_put (lies_put (lies_put (lies_put hl6 hg6' _ _) hg6' _ _) hg6' _ _) hg6' _ _)
  obtain ⟨⟨g0, g1, g2, g3⟩, f0, f1, f2, f3⟩ := HP6.out.four
  rw [hW6] at HZ6b HG6b HP6b HV6b
  clear hW6 W6 HZ6 HG6 hl6 hg6 hg6' hb6 HZ5b HG5b HP5b hRW HP6
  go_wp2_with fail
  refine (hBg.out _).mono ?_
  rintro e w7 ⟨rfl, hb7⟩
  have HZ7 := Lib.hid (btr HZ6b.out hb7)
  have HG7 := Lib.hid (HG6b.out.below hb7)
  have HP7 := Lib.hid (HP6b.out.below hb7)
  have HV7 := Lib.hid (HV6b.out.below hb7)
  clear hb7 HZ6b HG6b HP6b HV6b
  clear g0 g1 g2 g3 f0 f1 f2 f3
  obtain ⟨⟨p0, p1, p2, p3⟩, -⟩ := (HD4.out.below HZ7.out).four
  clear hBg
  go_wp2_with fail
  refine (hK.out _ (HL4.out.below HZ7.out)).mono ?_
  rintro e w8 ⟨rfl, hb8⟩
  clear p0 p1 p2 p3
  have HZ8 := Lib.hid (btr HZ7.out hb8)
  have HG8 := Lib.hid (HG7.out.below hb8)
  have HP8 := Lib.hid (HP7.out.below hb8)
  have HV8 := Lib.hid (HV7.out.below hb8)
  clear hb8 HZ7 HG7 HP7 HV7
  obtain ⟨⟨p0, p1, p2, p3⟩, -⟩ := (HA4.out.below HZ8.out).four
  obtain ⟨⟨g0, g1, g2, g3⟩, -⟩ := HG8.out.four
  clear hK
  go_wp2_with fail
  refine (hIA.out _ _ _ _ _ (HM4.out.below HZ8.out) (HU.out _ (HL4.out.below HZ8.out))).mono ?_
  rintro e w9 ⟨rfl, hb9⟩
  clear p0 p1 p2 p3 g0 g1 g2 g3
  have HZ9 := Lib.hid (btr HZ8.out hb9)
  have HG9 := Lib.hid (HG8.out.below hb9)
  have HP9 := Lib.hid (HP8.out.below hb9)
  have HV9 := Lib.hid (HV8.out.below hb9)
  clear hb9 HZ8 HG8 HP8 HV8
  obtain ⟨⟨p0, p1, p2, p3⟩, -⟩ := (HQ4.out.below HZ9.out).four
  obtain ⟨⟨g0, g1, g2, g3⟩, -⟩ := HP9.out.four
  obtain ⟨⟨u0, u1, u2, u3⟩, -⟩ := HG9.out.four
  go_wp2_with fail
  refine (hIB.out _ _ _ _ _ (HN4.out.below HZ9.out) HV9.out).mono ?_
  rintro e w10 ⟨rfl, hb10⟩
  have HB10 := Lib.hid (btr (btr HB4.out HZ9.out) hb10)
  clear p0 p1 p2 p3 g0 g1 g2 g3 u0 u1 u2 u3
  go_wp2
  go_ret
  exact ⟨rfl, HB10.out⟩
set_option maxHeartbeats 32000000 in
set_option maxRecDepth 100000 in
theorem ftells_bad (d : Dk) (a : Option Addr) (c : Nat) (who now epoch : Int) (o : Opd) (w : World) (hc : d.l.length ≤ c) (hs : Lies enE w a d.l) (hws : ∀ x ∈ d.l, x.o.who.size ≤ maxLen) (hw : o.who.size ≤ maxLen) (hd : ¬ d.bad = 0) :
    Calls Try.prog 3 #[.agg #[.int .i64 d.ep, .int .i64 d.h, .int .i64 d.u, .slice a d.l.length c], .int .i64 who, .int .i64 now, .int .i64 epoch, .agg #[.int .i64 o.k, .bool o.p.v, .int .u64 o.p.hi, .int .u64 o.p.lo, .int .i64 o.p.b, .bool o.a.v, .int .u64 o.a.hi, .int .u64 o.a.lo, .string o.who, .int .i64 o.pof, .int .i64 o.n]] w fun e w' => e = .returned (.bool true) ∧ Below w.heap.size w w' := by
  have ea : acqE d who now = d.bad := by unfold acqE; rw [if_neg hd]
  have eb : writeE d epoch o = d.bad := by unfold writeE; rw [if_neg hd]
  have ha : ¬ acqE d who now = 0 := by rw [ea]; exact hd
  have hb : ¬ writeE d epoch o = 0 := by rw [eb]; exact hd
  have hA : Hid (∀ W : World, Lies enE W a d.l → Calls Try.prog 5 #[.agg #[.int .i64 d.ep, .int .i64 d.h, .int .i64 d.u, .slice a d.l.length c], .int .i64 who, .int .i64 now] W fun e w' => e = .returned (.tuple #[.agg #[.int .i64 0, .int .i64 0, .int .i64 0, .slice none 0 0], .int .i64 0, .int .i64 (acqE d who now)]) ∧ Below W.heap.size W w') := fun W h => acq_bad d a c who now W hc h ha
  have hW : Hid (∀ W : World, Lies enE W a d.l → Calls Try.prog 6 #[.agg #[.int .i64 d.ep, .int .i64 d.h, .int .i64 d.u, .slice a d.l.length c], .int .i64 epoch, .agg #[.int .i64 o.k, .bool o.p.v, .int .u64 o.p.hi, .int .u64 o.p.lo, .int .i64 o.p.b, .bool o.a.v, .int .u64 o.a.hi, .int .u64 o.a.lo, .string o.who, .int .i64 o.pof, .int .i64 o.n]] W fun e w' => e = .returned (.tuple #[.agg #[.int .i64 0, .int .i64 0, .int .i64 0, .slice none 0 0], .int .i64 (writeE d epoch o)]) ∧ Below W.heap.size W w') := fun W h => fwrite_bad d a c epoch o W hc h hb
  have hR : Hid (∀ W : World, Lies enE W a d.l → Calls Try.prog 7 #[.agg #[.int .i64 d.ep, .int .i64 d.h, .int .i64 d.u, .slice a d.l.length c]] W fun e w' => e = .returned (.int .i64 d.bad) ∧ Below W.heap.size W w') := fun W h => rdisk_any d a c W h hws
  have hK : Hid (∀ W : World, Lies enE W a d.l → Calls Try.prog 11 #[.agg #[.int .i64 d.ep, .int .i64 d.h, .int .i64 d.u, .slice a d.l.length c]] W fun e w' => e = .returned (.int .i64 d.bad) ∧ Below W.heap.size W w') := fun W h => fcheck_any d.ep d.h d.u a c d.l W hc h
  have hBg : Hid (∀ W : World, Calls Try.prog 10 #[] W fun e w' => e = .returned (.bool true) ∧ Below W.heap.size W w') := fbegun_any
  have hIZ : Hid (∀ W : World, Calls Try.prog 12 #[.agg #[.int .i64 0, .int .i64 0, .int .i64 0, .slice none 0 0], .int .i64 d.bad, .int .i64 d.bad, .agg #[.int .i64 0, .int .i64 0, .int .i64 0, .slice none 0 0]] W fun e w' => e = .returned (.bool true) ∧ Below W.heap.size W w') := fun W => diskis_bad d.bad 0 0 0 none none 0 0 0 W hd
  rw [ea] at hA
  rw [eb] at hW
  obtain ⟨W1, hW1⟩ : ∃ W1, W1 = (w.alloc (.cells #[.int .i64 d.ep, .int .i64 d.h, .int .i64 d.u, .slice a d.l.length c] 26)).alloc (.cells #[.int .i64 o.k, .bool o.p.v, .int .u64 o.p.hi, .int .u64 o.p.lo, .int .i64 o.p.b, .bool o.a.v, .int .u64 o.a.hi, .int .u64 o.a.lo, .string o.who, .int .i64 o.pof, .int .i64 o.n] 33) := ⟨_, rfl⟩
  have hb1 : Below w.heap.size w W1 := by rw [hW1]; exact bal (bal (Below.refl w.heap.size w) _) _
  have hD : Blk W1 w.heap.size 26 [.int .i64 d.ep, .int .i64 d.h, .int .i64 d.u, .slice a d.l.length c] := by rw [hW1]; exact (Blk.new w _ _).below (bal (Below.refl _ _) _)
  have hO : Blk W1 (w.heap.size + 1) 33 [.int .i64 o.k, .bool o.p.v, .int .u64 o.p.hi, .int .u64 o.p.lo, .int .i64 o.p.b, .bool o.a.v, .int .u64 o.a.hi, .int .u64 o.a.lo, .string o.who, .int .i64 o.pof, .int .i64 o.n] := by
    rw [hW1]
    have := Blk.new (w.alloc (.cells #[.int .i64 d.ep, .int .i64 d.h, .int .i64 d.u, .slice a d.l.length c] 26)) [.int .i64 o.k, .bool o.p.v, .int .u64 o.p.hi, .int .u64 o.p.lo, .int .i64 o.p.b, .bool o.a.v, .int .u64 o.a.hi, .int .u64 o.a.lo, .string o.who, .int .i64 o.pof, .int .i64 o.n] 33
    rw [show (w.alloc (.cells #[.int .i64 d.ep, .int .i64 d.h, .int .i64 d.u, .slice a d.l.length c] 26)).heap.size = w.heap.size + 1 by simp] at this
    exact this
  have HL1 := Lib.hid (hs.below hb1)
  have HB1 := Lib.hid hb1
  have HD1 := Lib.hid hD
  have HO1 := Lib.hid hO
  rw [hW1] at HL1 HB1 HD1 HO1
  clear hb1 hD hO hs hc hW1 W1
  have hI : (d.bad == 0) = false := by rw [beq_eq_false_iff_ne]; exact hd
  clear ha hb ea eb hd hws hw
  generalize d.bad = rd at *
  generalize d.ep = d0 at *
  generalize d.h = d1 at *
  generalize d.u = d2 at *
  generalize d.l.length = dN at *
  generalize d.l = dl at *
  generalize o.k = y0 at *
  generalize o.p.v = y1 at *
  generalize o.p.hi = y2 at *
  generalize o.p.lo = y3 at *
  generalize o.p.b = y4 at *
  generalize o.a.v = y5 at *
  generalize o.a.hi = y6 at *
  generalize o.a.lo = y7 at *
  generalize o.who = y8 at *
  generalize o.pof = y9 at *
  generalize o.n = y10 at *
  go_enter Try.func3, Try.ntmps3
  go_wp2_with fail
  refine (hA.out _ HL1.out).mono ?_
  rintro e w2 ⟨rfl, hb2⟩
  obtain ⟨W2, hW2⟩ : ∃ W2, W2 = w2.alloc (.cells #[.int .i64 0, .int .i64 0, .int .i64 0, .slice none 0 0] 26) := ⟨_, rfl⟩
  have hb2' : Below w2.heap.size w2 W2 := by rw [hW2]; exact bal (Below.refl _ _) _
  have hb2'' := btr hb2 hb2'
  have HB2 := Lib.hid (btr HB1.out hb2'')
  have HD2 := Lib.hid (HD1.out.below hb2'')
  have HO2 := Lib.hid (HO1.out.below hb2'')
  have HL2 := Lib.hid (HL1.out.below hb2'')
  have HA2 : Hid (Blk W2 w2.heap.size 26 [.int .i64 0, .int .i64 0, .int .i64 0, .slice none 0 0]) := by rw [hW2]; exact Lib.hid (Blk.new w2 _ _)
  obtain ⟨⟨p0, p1, p2, p3⟩, -⟩ := (HD2.out).four
  obtain ⟨q0, q1, q2, q3, q4, q5, q6, q7, q8, q9, q10⟩ : W2.cell? ⟨w.heap.size + 1, 0, none⟩ = some (.int .i64 y0) ∧ W2.cell? ⟨w.heap.size + 1, 1, none⟩ = some (.bool y1) ∧ W2.cell? ⟨w.heap.size + 1, 2, none⟩ = some (.int .u64 y2) ∧ W2.cell? ⟨w.heap.size + 1, 3, none⟩ = some (.int .u64 y3) ∧ W2.cell? ⟨w.heap.size + 1, 4, none⟩ = some (.int .i64 y4) ∧ W2.cell? ⟨w.heap.size + 1, 5, none⟩ = some (.bool y5) ∧ W2.cell? ⟨w.heap.size + 1, 6, none⟩ = some (.int .u64 y6) ∧ W2.cell? ⟨w.heap.size + 1, 7, none⟩ = some (.int .u64 y7) ∧ W2.cell? ⟨w.heap.size + 1, 8, none⟩ = some (.string y8) ∧ W2.cell? ⟨w.heap.size + 1, 9, none⟩ = some (.int .i64 y9) ∧ W2.cell? ⟨w.heap.size + 1, 10, none⟩ = some (.int .i64 y10) := by have hq := HO2.out; exact ⟨hq.cell 0 _ rfl, hq.cell 1 _ rfl, hq.cell 2 _ rfl, hq.cell 3 _ rfl, hq.cell 4 _ rfl, hq.cell 5 _ rfl, hq.cell 6 _ rfl, hq.cell 7 _ rfl, hq.cell 8 _ rfl, hq.cell 9 _ rfl, hq.cell 10 _ rfl⟩
  rw [hW2] at HB2 HD2 HO2 HL2 HA2 p0 p1 p2 p3 q0 q1 q2 q3 q4 q5 q6 q7 q8 q9 q10
  clear hb2 hb2' hb2'' hW2 W2 HB1 HD1 HO1 HL1 hA
  go_wp2_with fail
  refine (hW.out _ HL2.out).mono ?_
  rintro e w3 ⟨rfl, hb3⟩
  obtain ⟨W3, hW3⟩ : ∃ W3, W3 = w3.alloc (.cells #[.int .i64 0, .int .i64 0, .int .i64 0, .slice none 0 0] 26) := ⟨_, rfl⟩
  have hb3' : Below w3.heap.size w3 W3 := by rw [hW3]; exact bal (Below.refl _ _) _
  have hb3'' := btr hb3 hb3'
  have HB3 := Lib.hid (btr HB2.out hb3'')
  have HD3 := Lib.hid (HD2.out.below hb3'')
  have HO3 := Lib.hid (HO2.out.below hb3'')
  have HL3 := Lib.hid (HL2.out.below hb3'')
  have HA3 := Lib.hid (HA2.out.below hb3'')
  have HQ3 : Hid (Blk W3 w3.heap.size 26 [.int .i64 0, .int .i64 0, .int .i64 0, .slice none 0 0]) := by rw [hW3]; exact Lib.hid (Blk.new w3 _ _)
  clear p0 p1 p2 p3 q0 q1 q2 q3 q4 q5 q6 q7 q8 q9 q10
  obtain ⟨⟨p0, p1, p2, p3⟩, -⟩ := (HD3.out).four
  rw [hW3] at HB3 HD3 HO3 HL3 HA3 HQ3 p0 p1 p2 p3
  clear hb3 hb3' hb3'' hW3 W3 HB2 HD2 HO2 HL2 HA2 hW
  go_wp2_with fail
  refine (hR.out _ HL3.out).mono ?_
  rintro e w4 ⟨rfl, hb4⟩
  have HB4 := Lib.hid (btr HB3.out hb4)
  have HD4 := Lib.hid (HD3.out.below hb4)
  have HO4 := Lib.hid (HO3.out.below hb4)
  have HL4 := Lib.hid (HL3.out.below hb4)
  have HA4 := Lib.hid (HA3.out.below hb4)
  have HQ4 := Lib.hid (HQ3.out.below hb4)
  clear p0 p1 p2 p3 hb4 HB3 HD3 HO3 HL3 HA3 HQ3 hR
  obtain ⟨W4, hW4⟩ : ∃ W4, W4 = (w4.alloc (.cells #[.int .i64 0, .int .i64 0, .int .i64 0, .slice none 0 0] 26)).alloc (.cells #[.int .i64 0, .int .i64 0, .int .i64 0, .slice none 0 0] 26) := ⟨_, rfl⟩
  have HZ4 : Hid (Below w4.heap.size w4 W4) := by rw [hW4]; exact Lib.hid (bal (bal (Below.refl _ _) _) _)
  have HG4 : Hid (Blk W4 w4.heap.size 26 [.int .i64 0, .int .i64 0, .int .i64 0, .slice none 0 0]) := by rw [hW4]; exact Lib.hid ((Blk.new w4 _ _).below (bal (Below.refl _ _) _))
  have HP4 : Hid (Blk W4 (w4.heap.size + 1) 26 [.int .i64 0, .int .i64 0, .int .i64 0, .slice none 0 0]) := by
    rw [hW4]
    have := Blk.new (w4.alloc (.cells #[.int .i64 0, .int .i64 0, .int .i64 0, .slice none 0 0] 26)) [.int .i64 0, .int .i64 0, .int .i64 0, .slice none 0 0] 26
    rw [show (w4.alloc (.cells #[.int .i64 0, .int .i64 0, .int .i64 0, .slice none 0 0] 26)).heap.size = w4.heap.size + 1 by simp] at this
    exact Lib.hid this
  rw [hW4] at HZ4 HG4 HP4
  clear hW4 W4
  go_wp2_with fail
  refine (hBg.out _).mono ?_
  rintro e w7 ⟨rfl, hb7⟩
  have HZ7 := Lib.hid (btr HZ4.out hb7)
  have HG7 := Lib.hid (HG4.out.below hb7)
  have HP7 := Lib.hid (HP4.out.below hb7)
  clear hb7 HZ4 HG4 HP4
  obtain ⟨⟨p0, p1, p2, p3⟩, -⟩ := (HD4.out.below HZ7.out).four
  clear hBg
  go_wp2_with fail
  refine (hK.out _ (HL4.out.below HZ7.out)).mono ?_
  rintro e w8 ⟨rfl, hb8⟩
  clear p0 p1 p2 p3
  have HZ8 := Lib.hid (btr HZ7.out hb8)
  have HG8 := Lib.hid (HG7.out.below hb8)
  have HP8 := Lib.hid (HP7.out.below hb8)
  clear hb8 HZ7 HG7 HP7
  obtain ⟨⟨p0, p1, p2, p3⟩, -⟩ := (HA4.out.below HZ8.out).four
  obtain ⟨⟨g0, g1, g2, g3⟩, -⟩ := HG8.out.four
  clear hK
  go_wp2_with fail
  refine (hIZ.out _).mono ?_
  rintro e w9 ⟨rfl, hb9⟩
  clear p0 p1 p2 p3 g0 g1 g2 g3
  have HZ9 := Lib.hid (btr HZ8.out hb9)
  have HG9 := Lib.hid (HG8.out.below hb9)
  have HP9 := Lib.hid (HP8.out.below hb9)
  clear hb9 HZ8 HG8 HP8
  obtain ⟨⟨p0, p1, p2, p3⟩, -⟩ := (HQ4.out.below HZ9.out).four
  obtain ⟨⟨g0, g1, g2, g3⟩, -⟩ := HP9.out.four
  obtain ⟨⟨u0, u1, u2, u3⟩, -⟩ := HG9.out.four
  go_wp2_with fail
  refine (hIZ.out _).mono ?_
  rintro e w10 ⟨rfl, hb10⟩
  have HB10 := Lib.hid (btr (btr HB4.out HZ9.out) hb10)
  clear p0 p1 p2 p3 g0 g1 g2 g3 u0 u1 u2 u3
  go_wp2
  go_ret
  exact ⟨rfl, HB10.out⟩
set_option maxHeartbeats 32000000 in
set_option maxRecDepth 100000 in
theorem ftells_rng0 (d : Dk) (a : Option Addr) (c : Nat) (who now epoch : Int) (o : Opd) (w : World) (hc : d.l.length ≤ c) (hs : Lies enE w a d.l) (hws : ∀ x ∈ d.l, x.o.who.size ≤ maxLen) (hw : o.who.size ≤ maxLen) (hd : d.bad = 0) (h0 : who < 1) :
    Calls Try.prog 3 #[.agg #[.int .i64 d.ep, .int .i64 d.h, .int .i64 d.u, .slice a d.l.length c], .int .i64 who, .int .i64 now, .int .i64 epoch, .agg #[.int .i64 o.k, .bool o.p.v, .int .u64 o.p.hi, .int .u64 o.p.lo, .int .i64 o.p.b, .bool o.a.v, .int .u64 o.a.hi, .int .u64 o.a.lo, .string o.who, .int .i64 o.pof, .int .i64 o.n]] w fun e w' => e = .returned (.bool true) ∧ Below w.heap.size w w' := by
  have ea : acqE d who now = 3 := by unfold acqE; rw [if_pos hd, if_pos]; exact .inl h0
  have ha : ¬ acqE d who now = 0 := by rw [ea]; decide
  have hA : Hid (∀ W : World, Lies enE W a d.l → Calls Try.prog 5 #[.agg #[.int .i64 d.ep, .int .i64 d.h, .int .i64 d.u, .slice a d.l.length c], .int .i64 who, .int .i64 now] W fun e w' => e = .returned (.tuple #[.agg #[.int .i64 0, .int .i64 0, .int .i64 0, .slice none 0 0], .int .i64 0, .int .i64 (acqE d who now)]) ∧ Below W.heap.size W w') := fun W h => acq_bad d a c who now W hc h ha
  have hW : Hid (∀ W : World, Lies enE W a d.l → Calls Try.prog 6 #[.agg #[.int .i64 d.ep, .int .i64 d.h, .int .i64 d.u, .slice a d.l.length c], .int .i64 epoch, .agg #[.int .i64 o.k, .bool o.p.v, .int .u64 o.p.hi, .int .u64 o.p.lo, .int .i64 o.p.b, .bool o.a.v, .int .u64 o.a.hi, .int .u64 o.a.lo, .string o.who, .int .i64 o.pof, .int .i64 o.n]] W fun e w' => ∃ a' c', e = .returned (.tuple #[.agg #[.int .i64 (writeD d epoch o).ep, .int .i64 (writeD d epoch o).h, .int .i64 (writeD d epoch o).u, .slice a' (writeD d epoch o).l.length c'], .int .i64 (writeE d epoch o)]) ∧ Lies enE w' a' (writeD d epoch o).l ∧ Below W.heap.size W w') := fun W h => (fwrite_any d a c epoch o W hc h).mono fun e w' ⟨a', c', h1, h2, h3, h4, h5⟩ => ⟨a', c', h1, h3, h5⟩
  have hR : Hid (∀ W : World, Lies enE W a d.l → Calls Try.prog 7 #[.agg #[.int .i64 d.ep, .int .i64 d.h, .int .i64 d.u, .slice a d.l.length c]] W fun e w' => e = .returned (.int .i64 d.bad) ∧ Below W.heap.size W w') := fun W h => rdisk_any d a c W h hws
  have hK : Hid (∀ W : World, Lies enE W a d.l → Calls Try.prog 11 #[.agg #[.int .i64 d.ep, .int .i64 d.h, .int .i64 d.u, .slice a d.l.length c]] W fun e w' => e = .returned (.int .i64 d.bad) ∧ Below W.heap.size W w') := fun W h => fcheck_any d.ep d.h d.u a c d.l W hc h
  have hBg : Hid (∀ W : World, Calls Try.prog 10 #[] W fun e w' => e = .returned (.bool true) ∧ Below W.heap.size W w') := fbegun_any
  have hRW : Hid (∀ W : World, Lies enE W a d.l → Calls Try.prog 9 #[.agg #[.int .i64 d.ep, .int .i64 d.h, .int .i64 d.u, .slice a d.l.length c], .int .i64 epoch, .agg #[.int .i64 o.k, .bool o.p.v, .int .u64 o.p.hi, .int .u64 o.p.lo, .int .i64 o.p.b, .bool o.a.v, .int .u64 o.a.hi, .int .u64 o.a.lo, .string o.who, .int .i64 o.pof, .int .i64 o.n]] W fun e w' => ∃ a' c', e = .returned (.tuple #[.agg #[.int .i64 (writeD d epoch o).ep, .int .i64 (writeD d epoch o).h, .int .i64 (writeD d epoch o).u, .slice a' (writeD d epoch o).l.length c'], .int .i64 (writeE d epoch o)]) ∧ Lies enE w' a' (writeD d epoch o).l ∧ (∀ g o, a' = some ⟨g, o, none⟩ → W.heap.size ≤ g) ∧ Below W.heap.size W w') := fun W h => rwrite_any d a c epoch o W h hw hd
  have hIZ : Hid (∀ W : World, Calls Try.prog 12 #[.agg #[.int .i64 0, .int .i64 0, .int .i64 0, .slice none 0 0], .int .i64 3, .int .i64 3, .agg #[.int .i64 0, .int .i64 0, .int .i64 0, .slice none 0 0]] W fun e w' => e = .returned (.bool true) ∧ Below W.heap.size W w') := fun W => diskis_bad 3 0 0 0 none none 0 0 0 W (by decide)
  have hIB : Hid (∀ (a' a'' : Option Addr) (c' c'' : Nat) (W : World), Lies enE W a' (writeD d epoch o).l → Lies enE W a'' (writeD d epoch o).l → Calls Try.prog 12 #[.agg #[.int .i64 (writeD d epoch o).ep, .int .i64 (writeD d epoch o).h, .int .i64 (writeD d epoch o).u, .slice a' (writeD d epoch o).l.length c'], .int .i64 (writeE d epoch o), .int .i64 (writeE d epoch o), .agg #[.int .i64 (writeD d epoch o).ep, .int .i64 (writeD d epoch o).h, .int .i64 (writeD d epoch o).u, .slice a'' (writeD d epoch o).l.length c'']] W fun e w' => e = .returned (.bool true) ∧ Below W.heap.size W w') := fun a' a'' c' c'' W h h' => diskis_any (writeD d epoch o) (writeE d epoch o) a' a'' c' c'' W (write_none) (write_len hd) h h'
  rw [ea] at hA
  obtain ⟨W1, hW1⟩ : ∃ W1, W1 = (w.alloc (.cells #[.int .i64 d.ep, .int .i64 d.h, .int .i64 d.u, .slice a d.l.length c] 26)).alloc (.cells #[.int .i64 o.k, .bool o.p.v, .int .u64 o.p.hi, .int .u64 o.p.lo, .int .i64 o.p.b, .bool o.a.v, .int .u64 o.a.hi, .int .u64 o.a.lo, .string o.who, .int .i64 o.pof, .int .i64 o.n] 33) := ⟨_, rfl⟩
  have hb1 : Below w.heap.size w W1 := by rw [hW1]; exact bal (bal (Below.refl w.heap.size w) _) _
  have hD : Blk W1 w.heap.size 26 [.int .i64 d.ep, .int .i64 d.h, .int .i64 d.u, .slice a d.l.length c] := by rw [hW1]; exact (Blk.new w _ _).below (bal (Below.refl _ _) _)
  have hO : Blk W1 (w.heap.size + 1) 33 [.int .i64 o.k, .bool o.p.v, .int .u64 o.p.hi, .int .u64 o.p.lo, .int .i64 o.p.b, .bool o.a.v, .int .u64 o.a.hi, .int .u64 o.a.lo, .string o.who, .int .i64 o.pof, .int .i64 o.n] := by
    rw [hW1]
    have := Blk.new (w.alloc (.cells #[.int .i64 d.ep, .int .i64 d.h, .int .i64 d.u, .slice a d.l.length c] 26)) [.int .i64 o.k, .bool o.p.v, .int .u64 o.p.hi, .int .u64 o.p.lo, .int .i64 o.p.b, .bool o.a.v, .int .u64 o.a.hi, .int .u64 o.a.lo, .string o.who, .int .i64 o.pof, .int .i64 o.n] 33
    rw [show (w.alloc (.cells #[.int .i64 d.ep, .int .i64 d.h, .int .i64 d.u, .slice a d.l.length c] 26)).heap.size = w.heap.size + 1 by simp] at this
    exact this
  have HL1 := Lib.hid (hs.below hb1)
  have HB1 := Lib.hid hb1
  have HD1 := Lib.hid hD
  have HO1 := Lib.hid hO
  rw [hW1] at HL1 HB1 HD1 HO1
  clear hb1 hD hO hs hc hW1 W1
  rw [hd] at hR hK
  have k1 : decide (who < 1) = true := decide_eq_true h0
  clear ha ea hd hws hw h0
  generalize writeE d epoch o = rb at *
  generalize writeD d epoch o = B at *
  generalize B.ep = B0 at *
  generalize B.h = B1 at *
  generalize B.u = B2 at *
  generalize B.l.length = BN at *
  generalize B.l = Bl at *
  generalize d.ep = d0 at *
  generalize d.h = d1 at *
  generalize d.u = d2 at *
  generalize d.l.length = dN at *
  generalize d.l = dl at *
  generalize o.k = y0 at *
  generalize o.p.v = y1 at *
  generalize o.p.hi = y2 at *
  generalize o.p.lo = y3 at *
  generalize o.p.b = y4 at *
  generalize o.a.v = y5 at *
  generalize o.a.hi = y6 at *
  generalize o.a.lo = y7 at *
  generalize o.who = y8 at *
  generalize o.pof = y9 at *
  generalize o.n = y10 at *
  go_enter Try.func3, Try.ntmps3
  go_wp2_with fail
  refine (hA.out _ HL1.out).mono ?_
  rintro e w2 ⟨rfl, hb2⟩
  obtain ⟨W2, hW2⟩ : ∃ W2, W2 = w2.alloc (.cells #[.int .i64 0, .int .i64 0, .int .i64 0, .slice none 0 0] 26) := ⟨_, rfl⟩
  have hb2' : Below w2.heap.size w2 W2 := by rw [hW2]; exact bal (Below.refl _ _) _
  have hb2'' := btr hb2 hb2'
  have HB2 := Lib.hid (btr HB1.out hb2'')
  have HD2 := Lib.hid (HD1.out.below hb2'')
  have HO2 := Lib.hid (HO1.out.below hb2'')
  have HL2 := Lib.hid (HL1.out.below hb2'')
  have HA2 : Hid (Blk W2 w2.heap.size 26 [.int .i64 0, .int .i64 0, .int .i64 0, .slice none 0 0]) := by rw [hW2]; exact Lib.hid (Blk.new w2 _ _)
  obtain ⟨⟨p0, p1, p2, p3⟩, -⟩ := (HD2.out).four
  obtain ⟨q0, q1, q2, q3, q4, q5, q6, q7, q8, q9, q10⟩ : W2.cell? ⟨w.heap.size + 1, 0, none⟩ = some (.int .i64 y0) ∧ W2.cell? ⟨w.heap.size + 1, 1, none⟩ = some (.bool y1) ∧ W2.cell? ⟨w.heap.size + 1, 2, none⟩ = some (.int .u64 y2) ∧ W2.cell? ⟨w.heap.size + 1, 3, none⟩ = some (.int .u64 y3) ∧ W2.cell? ⟨w.heap.size + 1, 4, none⟩ = some (.int .i64 y4) ∧ W2.cell? ⟨w.heap.size + 1, 5, none⟩ = some (.bool y5) ∧ W2.cell? ⟨w.heap.size + 1, 6, none⟩ = some (.int .u64 y6) ∧ W2.cell? ⟨w.heap.size + 1, 7, none⟩ = some (.int .u64 y7) ∧ W2.cell? ⟨w.heap.size + 1, 8, none⟩ = some (.string y8) ∧ W2.cell? ⟨w.heap.size + 1, 9, none⟩ = some (.int .i64 y9) ∧ W2.cell? ⟨w.heap.size + 1, 10, none⟩ = some (.int .i64 y10) := by have hq := HO2.out; exact ⟨hq.cell 0 _ rfl, hq.cell 1 _ rfl, hq.cell 2 _ rfl, hq.cell 3 _ rfl, hq.cell 4 _ rfl, hq.cell 5 _ rfl, hq.cell 6 _ rfl, hq.cell 7 _ rfl, hq.cell 8 _ rfl, hq.cell 9 _ rfl, hq.cell 10 _ rfl⟩
  rw [hW2] at HB2 HD2 HO2 HL2 HA2 p0 p1 p2 p3 q0 q1 q2 q3 q4 q5 q6 q7 q8 q9 q10
  clear hb2 hb2' hb2'' hW2 W2 HB1 HD1 HO1 HL1 hA
  go_wp2_with fail
  refine (hW.out _ HL2.out).mono ?_
  rintro e w3 ⟨a3, c3, rfl, hl3, hb3⟩
  obtain ⟨W3, hW3⟩ : ∃ W3, W3 = w3.alloc (.cells #[.int .i64 B0, .int .i64 B1, .int .i64 B2, .slice a3 BN c3] 26) := ⟨_, rfl⟩
  have hb3' : Below w3.heap.size w3 W3 := by rw [hW3]; exact bal (Below.refl _ _) _
  have hb3'' := btr hb3 hb3'
  have HB3 := Lib.hid (btr HB2.out hb3'')
  have HD3 := Lib.hid (HD2.out.below hb3'')
  have HO3 := Lib.hid (HO2.out.below hb3'')
  have HL3 := Lib.hid (HL2.out.below hb3'')
  have HA3 := Lib.hid (HA2.out.below hb3'')
  have HQ3 : Hid (Blk W3 w3.heap.size 26 [.int .i64 B0, .int .i64 B1, .int .i64 B2, .slice a3 BN c3]) := by rw [hW3]; exact Lib.hid (Blk.new w3 _ _)
  have HN3 := Lib.hid (hl3.below hb3')
  clear hl3
  clear p0 p1 p2 p3 q0 q1 q2 q3 q4 q5 q6 q7 q8 q9 q10
  obtain ⟨⟨p0, p1, p2, p3⟩, -⟩ := (HD3.out).four
  rw [hW3] at HB3 HD3 HO3 HL3 HA3 HQ3 HN3 p0 p1 p2 p3
  clear hb3 hb3' hb3'' hW3 W3 HB2 HD2 HO2 HL2 HA2 hW
  go_wp2_with fail
  refine (hR.out _ HL3.out).mono ?_
  rintro e w4 ⟨rfl, hb4⟩
  have HB4 := Lib.hid (btr HB3.out hb4)
  have HD4 := Lib.hid (HD3.out.below hb4)
  have HO4 := Lib.hid (HO3.out.below hb4)
  have HL4 := Lib.hid (HL3.out.below hb4)
  have HA4 := Lib.hid (HA3.out.below hb4)
  have HQ4 := Lib.hid (HQ3.out.below hb4)
  have HN4 := Lib.hid (HN3.out.below hb4)
  clear p0 p1 p2 p3 hb4 HB3 HD3 HO3 HL3 HA3 HQ3 HN3 hR
  obtain ⟨W4, hW4⟩ : ∃ W4, W4 = (w4.alloc (.cells #[.int .i64 0, .int .i64 0, .int .i64 0, .slice none 0 0] 26)).alloc (.cells #[.int .i64 0, .int .i64 0, .int .i64 0, .slice none 0 0] 26) := ⟨_, rfl⟩
  have HZ4 : Hid (Below w4.heap.size w4 W4) := by rw [hW4]; exact Lib.hid (bal (bal (Below.refl _ _) _) _)
  have HG4 : Hid (Blk W4 w4.heap.size 26 [.int .i64 0, .int .i64 0, .int .i64 0, .slice none 0 0]) := by rw [hW4]; exact Lib.hid ((Blk.new w4 _ _).below (bal (Below.refl _ _) _))
  have HP4 : Hid (Blk W4 (w4.heap.size + 1) 26 [.int .i64 0, .int .i64 0, .int .i64 0, .slice none 0 0]) := by
    rw [hW4]
    have := Blk.new (w4.alloc (.cells #[.int .i64 0, .int .i64 0, .int .i64 0, .slice none 0 0] 26)) [.int .i64 0, .int .i64 0, .int .i64 0, .slice none 0 0] 26
    rw [show (w4.alloc (.cells #[.int .i64 0, .int .i64 0, .int .i64 0, .slice none 0 0] 26)).heap.size = w4.heap.size + 1 by simp] at this
    exact Lib.hid this
  obtain ⟨⟨p0, p1, p2, p3⟩, -⟩ := (HD4.out.below HZ4.out).four
  obtain ⟨q0, q1, q2, q3, q4, q5, q6, q7, q8, q9, q10⟩ : W4.cell? ⟨w.heap.size + 1, 0, none⟩ = some (.int .i64 y0) ∧ W4.cell? ⟨w.heap.size + 1, 1, none⟩ = some (.bool y1) ∧ W4.cell? ⟨w.heap.size + 1, 2, none⟩ = some (.int .u64 y2) ∧ W4.cell? ⟨w.heap.size + 1, 3, none⟩ = some (.int .u64 y3) ∧ W4.cell? ⟨w.heap.size + 1, 4, none⟩ = some (.int .i64 y4) ∧ W4.cell? ⟨w.heap.size + 1, 5, none⟩ = some (.bool y5) ∧ W4.cell? ⟨w.heap.size + 1, 6, none⟩ = some (.int .u64 y6) ∧ W4.cell? ⟨w.heap.size + 1, 7, none⟩ = some (.int .u64 y7) ∧ W4.cell? ⟨w.heap.size + 1, 8, none⟩ = some (.string y8) ∧ W4.cell? ⟨w.heap.size + 1, 9, none⟩ = some (.int .i64 y9) ∧ W4.cell? ⟨w.heap.size + 1, 10, none⟩ = some (.int .i64 y10) := by have hq := HO4.out.below HZ4.out; exact ⟨hq.cell 0 _ rfl, hq.cell 1 _ rfl, hq.cell 2 _ rfl, hq.cell 3 _ rfl, hq.cell 4 _ rfl, hq.cell 5 _ rfl, hq.cell 6 _ rfl, hq.cell 7 _ rfl, hq.cell 8 _ rfl, hq.cell 9 _ rfl, hq.cell 10 _ rfl⟩
  rw [hW4] at HZ4 HG4 HP4 p0 p1 p2 p3 q0 q1 q2 q3 q4 q5 q6 q7 q8 q9 q10
  clear hW4 W4
  go_wp2_with fail
  refine (hRW.out _ (HL4.out.below HZ4.out)).mono ?_
  rintro e w6 ⟨a6, c6, rfl, hl6, hg6, hb6⟩
  have HZ6 := Lib.hid (btr HZ4.out hb6)
  have HG6 := Lib.hid (HG4.out.below hb6)
  have HP6 := Lib.hid (HP4.out.below hb6)
  have hg6' : ∀ g o, a6 = some ⟨g, o, none⟩ → w4.heap.size + 1 < g := fun g o e => by have h1 := hg6 g o e; have h2 := HP4.out.lt; omega
  clear p0 p1 p2 p3 q0 q1 q2 q3 q4 q5 q6 q7 q8 q9 q10
  obtain ⟨W6, hW6⟩ : ∃ W, W = (((w6.setCell ⟨w4.heap.size + 1, 0, none⟩ (.int .i64 B0)).setCell ⟨w4.heap.size + 1, 1, none⟩ (.int .i64 B1)).setCell ⟨w4.heap.size + 1, 2, none⟩ (.int .i64 B2)).setCell ⟨w4.heap.size + 1, 3, none⟩ (.slice a6 BN c6) := ⟨_, rfl⟩
  have HZ6b : Hid (Below w4.heap.size w4 W6) := by rw [hW6]; exact Lib.hid (bse (bse (bse (bse HZ6.out (by dsimp only; omega) _) (by dsimp only; omega) _) (by dsimp only; omega) _) (by dsimp only; omega) _)
  have HP6b : Hid (Blk W6 (w4.heap.size + 1) 26 [.int .i64 B0, .int .i64 B1, .int .i64 B2, .slice a6 BN c6]) := by rw [hW6]; exact Lib.hid (HP6.out.put4 (.int .i64 B0) (.int .i64 B1) (.int .i64 B2) (.slice a6 BN c6))
  have HG6b : Hid (Blk W6 (w4.heap.size) 26 [.int .i64 0, .int .i64 0, .int .i64 0, .slice none 0 0]) := by rw [hW6]; exact Lib.hid ((((HG6.out.other (by omega) _).other (by omega) _).other (by omega) _).other (by omega) _)
  have HV6b : Hid (Lies enE W6 a6 Bl) := by rw [hW6]; exact Lib.hid (lies_put (lies_put (lies_put (lies_put hl6 hg6' _ _) hg6' _ _) hg6' _ _) hg6' _ _)
  obtain ⟨⟨g0, g1, g2, g3⟩, f0, f1, f2, f3⟩ := HP6.out.four
  rw [hW6] at HZ6b HG6b HP6b HV6b
  clear hW6 W6 HZ6 HG6 hl6 hg6 hg6' hb6 HZ4 HG4 HP4 hRW HP6
  go_wp2_with fail
  refine (hBg.out _).mono ?_
  rintro e w7 ⟨rfl, hb7⟩
  have HZ7 := Lib.hid (btr HZ6b.out hb7)
  have HG7 := Lib.hid (HG6b.out.below hb7)
  have HP7 := Lib.hid (HP6b.out.below hb7)
  have HV7 := Lib.hid (HV6b.out.below hb7)
  clear hb7 HZ6b HG6b HP6b HV6b
  clear g0 g1 g2 g3 f0 f1 f2 f3
  obtain ⟨⟨p0, p1, p2, p3⟩, -⟩ := (HD4.out.below HZ7.out).four
  clear hBg
  go_wp2_with fail
  refine (hK.out _ (HL4.out.below HZ7.out)).mono ?_
  rintro e w8 ⟨rfl, hb8⟩
  clear p0 p1 p2 p3
  have HZ8 := Lib.hid (btr HZ7.out hb8)
  have HG8 := Lib.hid (HG7.out.below hb8)
  have HP8 := Lib.hid (HP7.out.below hb8)
  have HV8 := Lib.hid (HV7.out.below hb8)
  clear hb8 HZ7 HG7 HP7 HV7
  obtain ⟨⟨p0, p1, p2, p3⟩, -⟩ := (HA4.out.below HZ8.out).four
  obtain ⟨⟨g0, g1, g2, g3⟩, -⟩ := HG8.out.four
  clear hK
  go_wp2_with fail
  refine (hIZ.out _).mono ?_
  rintro e w9 ⟨rfl, hb9⟩
  clear p0 p1 p2 p3 g0 g1 g2 g3
  have HZ9 := Lib.hid (btr HZ8.out hb9)
  have HG9 := Lib.hid (HG8.out.below hb9)
  have HP9 := Lib.hid (HP8.out.below hb9)
  have HV9 := Lib.hid (HV8.out.below hb9)
  clear hb9 HZ8 HG8 HP8 HV8
  obtain ⟨⟨p0, p1, p2, p3⟩, -⟩ := (HQ4.out.below HZ9.out).four
  obtain ⟨⟨g0, g1, g2, g3⟩, -⟩ := HP9.out.four
  obtain ⟨⟨u0, u1, u2, u3⟩, -⟩ := HG9.out.four
  go_wp2_with fail
  refine (hIB.out _ _ _ _ _ (HN4.out.below HZ9.out) HV9.out).mono ?_
  rintro e w10 ⟨rfl, hb10⟩
  have HB10 := Lib.hid (btr (btr HB4.out HZ9.out) hb10)
  clear p0 p1 p2 p3 g0 g1 g2 g3 u0 u1 u2 u3
  go_wp2
  go_ret
  exact ⟨rfl, HB10.out⟩
set_option maxHeartbeats 32000000 in
set_option maxRecDepth 100000 in
theorem ftells_rng1 (d : Dk) (a : Option Addr) (c : Nat) (who now epoch : Int) (o : Opd) (w : World) (hc : d.l.length ≤ c) (hs : Lies enE w a d.l) (hws : ∀ x ∈ d.l, x.o.who.size ≤ maxLen) (hw : o.who.size ≤ maxLen) (hd : d.bad = 0) (h0 : ¬ who < 1) (h1 : 2 < who) :
    Calls Try.prog 3 #[.agg #[.int .i64 d.ep, .int .i64 d.h, .int .i64 d.u, .slice a d.l.length c], .int .i64 who, .int .i64 now, .int .i64 epoch, .agg #[.int .i64 o.k, .bool o.p.v, .int .u64 o.p.hi, .int .u64 o.p.lo, .int .i64 o.p.b, .bool o.a.v, .int .u64 o.a.hi, .int .u64 o.a.lo, .string o.who, .int .i64 o.pof, .int .i64 o.n]] w fun e w' => e = .returned (.bool true) ∧ Below w.heap.size w w' := by
  have ea : acqE d who now = 3 := by unfold acqE; rw [if_pos hd, if_pos]; exact .inr (.inl h1)
  have ha : ¬ acqE d who now = 0 := by rw [ea]; decide
  have hA : Hid (∀ W : World, Lies enE W a d.l → Calls Try.prog 5 #[.agg #[.int .i64 d.ep, .int .i64 d.h, .int .i64 d.u, .slice a d.l.length c], .int .i64 who, .int .i64 now] W fun e w' => e = .returned (.tuple #[.agg #[.int .i64 0, .int .i64 0, .int .i64 0, .slice none 0 0], .int .i64 0, .int .i64 (acqE d who now)]) ∧ Below W.heap.size W w') := fun W h => acq_bad d a c who now W hc h ha
  have hW : Hid (∀ W : World, Lies enE W a d.l → Calls Try.prog 6 #[.agg #[.int .i64 d.ep, .int .i64 d.h, .int .i64 d.u, .slice a d.l.length c], .int .i64 epoch, .agg #[.int .i64 o.k, .bool o.p.v, .int .u64 o.p.hi, .int .u64 o.p.lo, .int .i64 o.p.b, .bool o.a.v, .int .u64 o.a.hi, .int .u64 o.a.lo, .string o.who, .int .i64 o.pof, .int .i64 o.n]] W fun e w' => ∃ a' c', e = .returned (.tuple #[.agg #[.int .i64 (writeD d epoch o).ep, .int .i64 (writeD d epoch o).h, .int .i64 (writeD d epoch o).u, .slice a' (writeD d epoch o).l.length c'], .int .i64 (writeE d epoch o)]) ∧ Lies enE w' a' (writeD d epoch o).l ∧ Below W.heap.size W w') := fun W h => (fwrite_any d a c epoch o W hc h).mono fun e w' ⟨a', c', h1, h2, h3, h4, h5⟩ => ⟨a', c', h1, h3, h5⟩
  have hR : Hid (∀ W : World, Lies enE W a d.l → Calls Try.prog 7 #[.agg #[.int .i64 d.ep, .int .i64 d.h, .int .i64 d.u, .slice a d.l.length c]] W fun e w' => e = .returned (.int .i64 d.bad) ∧ Below W.heap.size W w') := fun W h => rdisk_any d a c W h hws
  have hK : Hid (∀ W : World, Lies enE W a d.l → Calls Try.prog 11 #[.agg #[.int .i64 d.ep, .int .i64 d.h, .int .i64 d.u, .slice a d.l.length c]] W fun e w' => e = .returned (.int .i64 d.bad) ∧ Below W.heap.size W w') := fun W h => fcheck_any d.ep d.h d.u a c d.l W hc h
  have hBg : Hid (∀ W : World, Calls Try.prog 10 #[] W fun e w' => e = .returned (.bool true) ∧ Below W.heap.size W w') := fbegun_any
  have hRW : Hid (∀ W : World, Lies enE W a d.l → Calls Try.prog 9 #[.agg #[.int .i64 d.ep, .int .i64 d.h, .int .i64 d.u, .slice a d.l.length c], .int .i64 epoch, .agg #[.int .i64 o.k, .bool o.p.v, .int .u64 o.p.hi, .int .u64 o.p.lo, .int .i64 o.p.b, .bool o.a.v, .int .u64 o.a.hi, .int .u64 o.a.lo, .string o.who, .int .i64 o.pof, .int .i64 o.n]] W fun e w' => ∃ a' c', e = .returned (.tuple #[.agg #[.int .i64 (writeD d epoch o).ep, .int .i64 (writeD d epoch o).h, .int .i64 (writeD d epoch o).u, .slice a' (writeD d epoch o).l.length c'], .int .i64 (writeE d epoch o)]) ∧ Lies enE w' a' (writeD d epoch o).l ∧ (∀ g o, a' = some ⟨g, o, none⟩ → W.heap.size ≤ g) ∧ Below W.heap.size W w') := fun W h => rwrite_any d a c epoch o W h hw hd
  have hIZ : Hid (∀ W : World, Calls Try.prog 12 #[.agg #[.int .i64 0, .int .i64 0, .int .i64 0, .slice none 0 0], .int .i64 3, .int .i64 3, .agg #[.int .i64 0, .int .i64 0, .int .i64 0, .slice none 0 0]] W fun e w' => e = .returned (.bool true) ∧ Below W.heap.size W w') := fun W => diskis_bad 3 0 0 0 none none 0 0 0 W (by decide)
  have hIB : Hid (∀ (a' a'' : Option Addr) (c' c'' : Nat) (W : World), Lies enE W a' (writeD d epoch o).l → Lies enE W a'' (writeD d epoch o).l → Calls Try.prog 12 #[.agg #[.int .i64 (writeD d epoch o).ep, .int .i64 (writeD d epoch o).h, .int .i64 (writeD d epoch o).u, .slice a' (writeD d epoch o).l.length c'], .int .i64 (writeE d epoch o), .int .i64 (writeE d epoch o), .agg #[.int .i64 (writeD d epoch o).ep, .int .i64 (writeD d epoch o).h, .int .i64 (writeD d epoch o).u, .slice a'' (writeD d epoch o).l.length c'']] W fun e w' => e = .returned (.bool true) ∧ Below W.heap.size W w') := fun a' a'' c' c'' W h h' => diskis_any (writeD d epoch o) (writeE d epoch o) a' a'' c' c'' W (write_none) (write_len hd) h h'
  rw [ea] at hA
  obtain ⟨W1, hW1⟩ : ∃ W1, W1 = (w.alloc (.cells #[.int .i64 d.ep, .int .i64 d.h, .int .i64 d.u, .slice a d.l.length c] 26)).alloc (.cells #[.int .i64 o.k, .bool o.p.v, .int .u64 o.p.hi, .int .u64 o.p.lo, .int .i64 o.p.b, .bool o.a.v, .int .u64 o.a.hi, .int .u64 o.a.lo, .string o.who, .int .i64 o.pof, .int .i64 o.n] 33) := ⟨_, rfl⟩
  have hb1 : Below w.heap.size w W1 := by rw [hW1]; exact bal (bal (Below.refl w.heap.size w) _) _
  have hD : Blk W1 w.heap.size 26 [.int .i64 d.ep, .int .i64 d.h, .int .i64 d.u, .slice a d.l.length c] := by rw [hW1]; exact (Blk.new w _ _).below (bal (Below.refl _ _) _)
  have hO : Blk W1 (w.heap.size + 1) 33 [.int .i64 o.k, .bool o.p.v, .int .u64 o.p.hi, .int .u64 o.p.lo, .int .i64 o.p.b, .bool o.a.v, .int .u64 o.a.hi, .int .u64 o.a.lo, .string o.who, .int .i64 o.pof, .int .i64 o.n] := by
    rw [hW1]
    have := Blk.new (w.alloc (.cells #[.int .i64 d.ep, .int .i64 d.h, .int .i64 d.u, .slice a d.l.length c] 26)) [.int .i64 o.k, .bool o.p.v, .int .u64 o.p.hi, .int .u64 o.p.lo, .int .i64 o.p.b, .bool o.a.v, .int .u64 o.a.hi, .int .u64 o.a.lo, .string o.who, .int .i64 o.pof, .int .i64 o.n] 33
    rw [show (w.alloc (.cells #[.int .i64 d.ep, .int .i64 d.h, .int .i64 d.u, .slice a d.l.length c] 26)).heap.size = w.heap.size + 1 by simp] at this
    exact this
  have HL1 := Lib.hid (hs.below hb1)
  have HB1 := Lib.hid hb1
  have HD1 := Lib.hid hD
  have HO1 := Lib.hid hO
  rw [hW1] at HL1 HB1 HD1 HO1
  clear hb1 hD hO hs hc hW1 W1
  rw [hd] at hR hK
  have k1 : decide (who < 1) = false := decide_eq_false h0
  have k2 : decide (2 < who) = true := decide_eq_true h1
  clear ha ea hd hws hw h0 h1
  generalize writeE d epoch o = rb at *
  generalize writeD d epoch o = B at *
  generalize B.ep = B0 at *
  generalize B.h = B1 at *
  generalize B.u = B2 at *
  generalize B.l.length = BN at *
  generalize B.l = Bl at *
  generalize d.ep = d0 at *
  generalize d.h = d1 at *
  generalize d.u = d2 at *
  generalize d.l.length = dN at *
  generalize d.l = dl at *
  generalize o.k = y0 at *
  generalize o.p.v = y1 at *
  generalize o.p.hi = y2 at *
  generalize o.p.lo = y3 at *
  generalize o.p.b = y4 at *
  generalize o.a.v = y5 at *
  generalize o.a.hi = y6 at *
  generalize o.a.lo = y7 at *
  generalize o.who = y8 at *
  generalize o.pof = y9 at *
  generalize o.n = y10 at *
  go_enter Try.func3, Try.ntmps3
  go_wp2_with fail
  refine (hA.out _ HL1.out).mono ?_
  rintro e w2 ⟨rfl, hb2⟩
  obtain ⟨W2, hW2⟩ : ∃ W2, W2 = w2.alloc (.cells #[.int .i64 0, .int .i64 0, .int .i64 0, .slice none 0 0] 26) := ⟨_, rfl⟩
  have hb2' : Below w2.heap.size w2 W2 := by rw [hW2]; exact bal (Below.refl _ _) _
  have hb2'' := btr hb2 hb2'
  have HB2 := Lib.hid (btr HB1.out hb2'')
  have HD2 := Lib.hid (HD1.out.below hb2'')
  have HO2 := Lib.hid (HO1.out.below hb2'')
  have HL2 := Lib.hid (HL1.out.below hb2'')
  have HA2 : Hid (Blk W2 w2.heap.size 26 [.int .i64 0, .int .i64 0, .int .i64 0, .slice none 0 0]) := by rw [hW2]; exact Lib.hid (Blk.new w2 _ _)
  obtain ⟨⟨p0, p1, p2, p3⟩, -⟩ := (HD2.out).four
  obtain ⟨q0, q1, q2, q3, q4, q5, q6, q7, q8, q9, q10⟩ : W2.cell? ⟨w.heap.size + 1, 0, none⟩ = some (.int .i64 y0) ∧ W2.cell? ⟨w.heap.size + 1, 1, none⟩ = some (.bool y1) ∧ W2.cell? ⟨w.heap.size + 1, 2, none⟩ = some (.int .u64 y2) ∧ W2.cell? ⟨w.heap.size + 1, 3, none⟩ = some (.int .u64 y3) ∧ W2.cell? ⟨w.heap.size + 1, 4, none⟩ = some (.int .i64 y4) ∧ W2.cell? ⟨w.heap.size + 1, 5, none⟩ = some (.bool y5) ∧ W2.cell? ⟨w.heap.size + 1, 6, none⟩ = some (.int .u64 y6) ∧ W2.cell? ⟨w.heap.size + 1, 7, none⟩ = some (.int .u64 y7) ∧ W2.cell? ⟨w.heap.size + 1, 8, none⟩ = some (.string y8) ∧ W2.cell? ⟨w.heap.size + 1, 9, none⟩ = some (.int .i64 y9) ∧ W2.cell? ⟨w.heap.size + 1, 10, none⟩ = some (.int .i64 y10) := by have hq := HO2.out; exact ⟨hq.cell 0 _ rfl, hq.cell 1 _ rfl, hq.cell 2 _ rfl, hq.cell 3 _ rfl, hq.cell 4 _ rfl, hq.cell 5 _ rfl, hq.cell 6 _ rfl, hq.cell 7 _ rfl, hq.cell 8 _ rfl, hq.cell 9 _ rfl, hq.cell 10 _ rfl⟩
  rw [hW2] at HB2 HD2 HO2 HL2 HA2 p0 p1 p2 p3 q0 q1 q2 q3 q4 q5 q6 q7 q8 q9 q10
  clear hb2 hb2' hb2'' hW2 W2 HB1 HD1 HO1 HL1 hA
  go_wp2_with fail
  refine (hW.out _ HL2.out).mono ?_
  rintro e w3 ⟨a3, c3, rfl, hl3, hb3⟩
  obtain ⟨W3, hW3⟩ : ∃ W3, W3 = w3.alloc (.cells #[.int .i64 B0, .int .i64 B1, .int .i64 B2, .slice a3 BN c3] 26) := ⟨_, rfl⟩
  have hb3' : Below w3.heap.size w3 W3 := by rw [hW3]; exact bal (Below.refl _ _) _
  have hb3'' := btr hb3 hb3'
  have HB3 := Lib.hid (btr HB2.out hb3'')
  have HD3 := Lib.hid (HD2.out.below hb3'')
  have HO3 := Lib.hid (HO2.out.below hb3'')
  have HL3 := Lib.hid (HL2.out.below hb3'')
  have HA3 := Lib.hid (HA2.out.below hb3'')
  have HQ3 : Hid (Blk W3 w3.heap.size 26 [.int .i64 B0, .int .i64 B1, .int .i64 B2, .slice a3 BN c3]) := by rw [hW3]; exact Lib.hid (Blk.new w3 _ _)
  have HN3 := Lib.hid (hl3.below hb3')
  clear hl3
  clear p0 p1 p2 p3 q0 q1 q2 q3 q4 q5 q6 q7 q8 q9 q10
  obtain ⟨⟨p0, p1, p2, p3⟩, -⟩ := (HD3.out).four
  rw [hW3] at HB3 HD3 HO3 HL3 HA3 HQ3 HN3 p0 p1 p2 p3
  clear hb3 hb3' hb3'' hW3 W3 HB2 HD2 HO2 HL2 HA2 hW
  go_wp2_with fail
  refine (hR.out _ HL3.out).mono ?_
  rintro e w4 ⟨rfl, hb4⟩
  have HB4 := Lib.hid (btr HB3.out hb4)
  have HD4 := Lib.hid (HD3.out.below hb4)
  have HO4 := Lib.hid (HO3.out.below hb4)
  have HL4 := Lib.hid (HL3.out.below hb4)
  have HA4 := Lib.hid (HA3.out.below hb4)
  have HQ4 := Lib.hid (HQ3.out.below hb4)
  have HN4 := Lib.hid (HN3.out.below hb4)
  clear p0 p1 p2 p3 hb4 HB3 HD3 HO3 HL3 HA3 HQ3 HN3 hR
  obtain ⟨W4, hW4⟩ : ∃ W4, W4 = (w4.alloc (.cells #[.int .i64 0, .int .i64 0, .int .i64 0, .slice none 0 0] 26)).alloc (.cells #[.int .i64 0, .int .i64 0, .int .i64 0, .slice none 0 0] 26) := ⟨_, rfl⟩
  have HZ4 : Hid (Below w4.heap.size w4 W4) := by rw [hW4]; exact Lib.hid (bal (bal (Below.refl _ _) _) _)
  have HG4 : Hid (Blk W4 w4.heap.size 26 [.int .i64 0, .int .i64 0, .int .i64 0, .slice none 0 0]) := by rw [hW4]; exact Lib.hid ((Blk.new w4 _ _).below (bal (Below.refl _ _) _))
  have HP4 : Hid (Blk W4 (w4.heap.size + 1) 26 [.int .i64 0, .int .i64 0, .int .i64 0, .slice none 0 0]) := by
    rw [hW4]
    have := Blk.new (w4.alloc (.cells #[.int .i64 0, .int .i64 0, .int .i64 0, .slice none 0 0] 26)) [.int .i64 0, .int .i64 0, .int .i64 0, .slice none 0 0] 26
    rw [show (w4.alloc (.cells #[.int .i64 0, .int .i64 0, .int .i64 0, .slice none 0 0] 26)).heap.size = w4.heap.size + 1 by simp] at this
    exact Lib.hid this
  obtain ⟨⟨p0, p1, p2, p3⟩, -⟩ := (HD4.out.below HZ4.out).four
  obtain ⟨q0, q1, q2, q3, q4, q5, q6, q7, q8, q9, q10⟩ : W4.cell? ⟨w.heap.size + 1, 0, none⟩ = some (.int .i64 y0) ∧ W4.cell? ⟨w.heap.size + 1, 1, none⟩ = some (.bool y1) ∧ W4.cell? ⟨w.heap.size + 1, 2, none⟩ = some (.int .u64 y2) ∧ W4.cell? ⟨w.heap.size + 1, 3, none⟩ = some (.int .u64 y3) ∧ W4.cell? ⟨w.heap.size + 1, 4, none⟩ = some (.int .i64 y4) ∧ W4.cell? ⟨w.heap.size + 1, 5, none⟩ = some (.bool y5) ∧ W4.cell? ⟨w.heap.size + 1, 6, none⟩ = some (.int .u64 y6) ∧ W4.cell? ⟨w.heap.size + 1, 7, none⟩ = some (.int .u64 y7) ∧ W4.cell? ⟨w.heap.size + 1, 8, none⟩ = some (.string y8) ∧ W4.cell? ⟨w.heap.size + 1, 9, none⟩ = some (.int .i64 y9) ∧ W4.cell? ⟨w.heap.size + 1, 10, none⟩ = some (.int .i64 y10) := by have hq := HO4.out.below HZ4.out; exact ⟨hq.cell 0 _ rfl, hq.cell 1 _ rfl, hq.cell 2 _ rfl, hq.cell 3 _ rfl, hq.cell 4 _ rfl, hq.cell 5 _ rfl, hq.cell 6 _ rfl, hq.cell 7 _ rfl, hq.cell 8 _ rfl, hq.cell 9 _ rfl, hq.cell 10 _ rfl⟩
  rw [hW4] at HZ4 HG4 HP4 p0 p1 p2 p3 q0 q1 q2 q3 q4 q5 q6 q7 q8 q9 q10
  clear hW4 W4
  go_wp2_with fail
  refine (hRW.out _ (HL4.out.below HZ4.out)).mono ?_
  rintro e w6 ⟨a6, c6, rfl, hl6, hg6, hb6⟩
  have HZ6 := Lib.hid (btr HZ4.out hb6)
  have HG6 := Lib.hid (HG4.out.below hb6)
  have HP6 := Lib.hid (HP4.out.below hb6)
  have hg6' : ∀ g o, a6 = some ⟨g, o, none⟩ → w4.heap.size + 1 < g := fun g o e => by have h1 := hg6 g o e; have h2 := HP4.out.lt; omega
  clear p0 p1 p2 p3 q0 q1 q2 q3 q4 q5 q6 q7 q8 q9 q10
  obtain ⟨W6, hW6⟩ : ∃ W, W = (((w6.setCell ⟨w4.heap.size + 1, 0, none⟩ (.int .i64 B0)).setCell ⟨w4.heap.size + 1, 1, none⟩ (.int .i64 B1)).setCell ⟨w4.heap.size + 1, 2, none⟩ (.int .i64 B2)).setCell ⟨w4.heap.size + 1, 3, none⟩ (.slice a6 BN c6) := ⟨_, rfl⟩
  have HZ6b : Hid (Below w4.heap.size w4 W6) := by rw [hW6]; exact Lib.hid (bse (bse (bse (bse HZ6.out (by dsimp only; omega) _) (by dsimp only; omega) _) (by dsimp only; omega) _) (by dsimp only; omega) _)
  have HP6b : Hid (Blk W6 (w4.heap.size + 1) 26 [.int .i64 B0, .int .i64 B1, .int .i64 B2, .slice a6 BN c6]) := by rw [hW6]; exact Lib.hid (HP6.out.put4 (.int .i64 B0) (.int .i64 B1) (.int .i64 B2) (.slice a6 BN c6))
  have HG6b : Hid (Blk W6 (w4.heap.size) 26 [.int .i64 0, .int .i64 0, .int .i64 0, .slice none 0 0]) := by rw [hW6]; exact Lib.hid ((((HG6.out.other (by omega) _).other (by omega) _).other (by omega) _).other (by omega) _)
  have HV6b : Hid (Lies enE W6 a6 Bl) := by rw [hW6]; exact Lib.hid (lies_put (lies_put (lies_put (lies_put hl6 hg6' _ _) hg6' _ _) hg6' _ _) hg6' _ _)
  obtain ⟨⟨g0, g1, g2, g3⟩, f0, f1, f2, f3⟩ := HP6.out.four
  rw [hW6] at HZ6b HG6b HP6b HV6b
  clear hW6 W6 HZ6 HG6 hl6 hg6 hg6' hb6 HZ4 HG4 HP4 hRW HP6
  go_wp2_with fail
  refine (hBg.out _).mono ?_
  rintro e w7 ⟨rfl, hb7⟩
  have HZ7 := Lib.hid (btr HZ6b.out hb7)
  have HG7 := Lib.hid (HG6b.out.below hb7)
  have HP7 := Lib.hid (HP6b.out.below hb7)
  have HV7 := Lib.hid (HV6b.out.below hb7)
  clear hb7 HZ6b HG6b HP6b HV6b
  clear g0 g1 g2 g3 f0 f1 f2 f3
  obtain ⟨⟨p0, p1, p2, p3⟩, -⟩ := (HD4.out.below HZ7.out).four
  clear hBg
  go_wp2_with fail
  refine (hK.out _ (HL4.out.below HZ7.out)).mono ?_
  rintro e w8 ⟨rfl, hb8⟩
  clear p0 p1 p2 p3
  have HZ8 := Lib.hid (btr HZ7.out hb8)
  have HG8 := Lib.hid (HG7.out.below hb8)
  have HP8 := Lib.hid (HP7.out.below hb8)
  have HV8 := Lib.hid (HV7.out.below hb8)
  clear hb8 HZ7 HG7 HP7 HV7
  obtain ⟨⟨p0, p1, p2, p3⟩, -⟩ := (HA4.out.below HZ8.out).four
  obtain ⟨⟨g0, g1, g2, g3⟩, -⟩ := HG8.out.four
  clear hK
  go_wp2_with fail
  refine (hIZ.out _).mono ?_
  rintro e w9 ⟨rfl, hb9⟩
  clear p0 p1 p2 p3 g0 g1 g2 g3
  have HZ9 := Lib.hid (btr HZ8.out hb9)
  have HG9 := Lib.hid (HG8.out.below hb9)
  have HP9 := Lib.hid (HP8.out.below hb9)
  have HV9 := Lib.hid (HV8.out.below hb9)
  clear hb9 HZ8 HG8 HP8 HV8
  obtain ⟨⟨p0, p1, p2, p3⟩, -⟩ := (HQ4.out.below HZ9.out).four
  obtain ⟨⟨g0, g1, g2, g3⟩, -⟩ := HP9.out.four
  obtain ⟨⟨u0, u1, u2, u3⟩, -⟩ := HG9.out.four
  go_wp2_with fail
  refine (hIB.out _ _ _ _ _ (HN4.out.below HZ9.out) HV9.out).mono ?_
  rintro e w10 ⟨rfl, hb10⟩
  have HB10 := Lib.hid (btr (btr HB4.out HZ9.out) hb10)
  clear p0 p1 p2 p3 g0 g1 g2 g3 u0 u1 u2 u3
  go_wp2
  go_ret
  exact ⟨rfl, HB10.out⟩
set_option maxHeartbeats 32000000 in
set_option maxRecDepth 100000 in
theorem ftells_rng2 (d : Dk) (a : Option Addr) (c : Nat) (who now epoch : Int) (o : Opd) (w : World) (hc : d.l.length ≤ c) (hs : Lies enE w a d.l) (hws : ∀ x ∈ d.l, x.o.who.size ≤ maxLen) (hw : o.who.size ≤ maxLen) (hd : d.bad = 0) (h0 : ¬ who < 1) (h1 : ¬ 2 < who) (h2 : now < 0) :
    Calls Try.prog 3 #[.agg #[.int .i64 d.ep, .int .i64 d.h, .int .i64 d.u, .slice a d.l.length c], .int .i64 who, .int .i64 now, .int .i64 epoch, .agg #[.int .i64 o.k, .bool o.p.v, .int .u64 o.p.hi, .int .u64 o.p.lo, .int .i64 o.p.b, .bool o.a.v, .int .u64 o.a.hi, .int .u64 o.a.lo, .string o.who, .int .i64 o.pof, .int .i64 o.n]] w fun e w' => e = .returned (.bool true) ∧ Below w.heap.size w w' := by
  have ea : acqE d who now = 3 := by unfold acqE; rw [if_pos hd, if_pos]; exact .inr (.inr (by unfold outB; simp; omega))
  have ha : ¬ acqE d who now = 0 := by rw [ea]; decide
  have hA : Hid (∀ W : World, Lies enE W a d.l → Calls Try.prog 5 #[.agg #[.int .i64 d.ep, .int .i64 d.h, .int .i64 d.u, .slice a d.l.length c], .int .i64 who, .int .i64 now] W fun e w' => e = .returned (.tuple #[.agg #[.int .i64 0, .int .i64 0, .int .i64 0, .slice none 0 0], .int .i64 0, .int .i64 (acqE d who now)]) ∧ Below W.heap.size W w') := fun W h => acq_bad d a c who now W hc h ha
  have hW : Hid (∀ W : World, Lies enE W a d.l → Calls Try.prog 6 #[.agg #[.int .i64 d.ep, .int .i64 d.h, .int .i64 d.u, .slice a d.l.length c], .int .i64 epoch, .agg #[.int .i64 o.k, .bool o.p.v, .int .u64 o.p.hi, .int .u64 o.p.lo, .int .i64 o.p.b, .bool o.a.v, .int .u64 o.a.hi, .int .u64 o.a.lo, .string o.who, .int .i64 o.pof, .int .i64 o.n]] W fun e w' => ∃ a' c', e = .returned (.tuple #[.agg #[.int .i64 (writeD d epoch o).ep, .int .i64 (writeD d epoch o).h, .int .i64 (writeD d epoch o).u, .slice a' (writeD d epoch o).l.length c'], .int .i64 (writeE d epoch o)]) ∧ Lies enE w' a' (writeD d epoch o).l ∧ Below W.heap.size W w') := fun W h => (fwrite_any d a c epoch o W hc h).mono fun e w' ⟨a', c', h1, h2, h3, h4, h5⟩ => ⟨a', c', h1, h3, h5⟩
  have hR : Hid (∀ W : World, Lies enE W a d.l → Calls Try.prog 7 #[.agg #[.int .i64 d.ep, .int .i64 d.h, .int .i64 d.u, .slice a d.l.length c]] W fun e w' => e = .returned (.int .i64 d.bad) ∧ Below W.heap.size W w') := fun W h => rdisk_any d a c W h hws
  have hK : Hid (∀ W : World, Lies enE W a d.l → Calls Try.prog 11 #[.agg #[.int .i64 d.ep, .int .i64 d.h, .int .i64 d.u, .slice a d.l.length c]] W fun e w' => e = .returned (.int .i64 d.bad) ∧ Below W.heap.size W w') := fun W h => fcheck_any d.ep d.h d.u a c d.l W hc h
  have hBg : Hid (∀ W : World, Calls Try.prog 10 #[] W fun e w' => e = .returned (.bool true) ∧ Below W.heap.size W w') := fbegun_any
  have hRW : Hid (∀ W : World, Lies enE W a d.l → Calls Try.prog 9 #[.agg #[.int .i64 d.ep, .int .i64 d.h, .int .i64 d.u, .slice a d.l.length c], .int .i64 epoch, .agg #[.int .i64 o.k, .bool o.p.v, .int .u64 o.p.hi, .int .u64 o.p.lo, .int .i64 o.p.b, .bool o.a.v, .int .u64 o.a.hi, .int .u64 o.a.lo, .string o.who, .int .i64 o.pof, .int .i64 o.n]] W fun e w' => ∃ a' c', e = .returned (.tuple #[.agg #[.int .i64 (writeD d epoch o).ep, .int .i64 (writeD d epoch o).h, .int .i64 (writeD d epoch o).u, .slice a' (writeD d epoch o).l.length c'], .int .i64 (writeE d epoch o)]) ∧ Lies enE w' a' (writeD d epoch o).l ∧ (∀ g o, a' = some ⟨g, o, none⟩ → W.heap.size ≤ g) ∧ Below W.heap.size W w') := fun W h => rwrite_any d a c epoch o W h hw hd
  have hIZ : Hid (∀ W : World, Calls Try.prog 12 #[.agg #[.int .i64 0, .int .i64 0, .int .i64 0, .slice none 0 0], .int .i64 3, .int .i64 3, .agg #[.int .i64 0, .int .i64 0, .int .i64 0, .slice none 0 0]] W fun e w' => e = .returned (.bool true) ∧ Below W.heap.size W w') := fun W => diskis_bad 3 0 0 0 none none 0 0 0 W (by decide)
  have hIB : Hid (∀ (a' a'' : Option Addr) (c' c'' : Nat) (W : World), Lies enE W a' (writeD d epoch o).l → Lies enE W a'' (writeD d epoch o).l → Calls Try.prog 12 #[.agg #[.int .i64 (writeD d epoch o).ep, .int .i64 (writeD d epoch o).h, .int .i64 (writeD d epoch o).u, .slice a' (writeD d epoch o).l.length c'], .int .i64 (writeE d epoch o), .int .i64 (writeE d epoch o), .agg #[.int .i64 (writeD d epoch o).ep, .int .i64 (writeD d epoch o).h, .int .i64 (writeD d epoch o).u, .slice a'' (writeD d epoch o).l.length c'']] W fun e w' => e = .returned (.bool true) ∧ Below W.heap.size W w') := fun a' a'' c' c'' W h h' => diskis_any (writeD d epoch o) (writeE d epoch o) a' a'' c' c'' W (write_none) (write_len hd) h h'
  rw [ea] at hA
  obtain ⟨W1, hW1⟩ : ∃ W1, W1 = (w.alloc (.cells #[.int .i64 d.ep, .int .i64 d.h, .int .i64 d.u, .slice a d.l.length c] 26)).alloc (.cells #[.int .i64 o.k, .bool o.p.v, .int .u64 o.p.hi, .int .u64 o.p.lo, .int .i64 o.p.b, .bool o.a.v, .int .u64 o.a.hi, .int .u64 o.a.lo, .string o.who, .int .i64 o.pof, .int .i64 o.n] 33) := ⟨_, rfl⟩
  have hb1 : Below w.heap.size w W1 := by rw [hW1]; exact bal (bal (Below.refl w.heap.size w) _) _
  have hD : Blk W1 w.heap.size 26 [.int .i64 d.ep, .int .i64 d.h, .int .i64 d.u, .slice a d.l.length c] := by rw [hW1]; exact (Blk.new w _ _).below (bal (Below.refl _ _) _)
  have hO : Blk W1 (w.heap.size + 1) 33 [.int .i64 o.k, .bool o.p.v, .int .u64 o.p.hi, .int .u64 o.p.lo, .int .i64 o.p.b, .bool o.a.v, .int .u64 o.a.hi, .int .u64 o.a.lo, .string o.who, .int .i64 o.pof, .int .i64 o.n] := by
    rw [hW1]
    have := Blk.new (w.alloc (.cells #[.int .i64 d.ep, .int .i64 d.h, .int .i64 d.u, .slice a d.l.length c] 26)) [.int .i64 o.k, .bool o.p.v, .int .u64 o.p.hi, .int .u64 o.p.lo, .int .i64 o.p.b, .bool o.a.v, .int .u64 o.a.hi, .int .u64 o.a.lo, .string o.who, .int .i64 o.pof, .int .i64 o.n] 33
    rw [show (w.alloc (.cells #[.int .i64 d.ep, .int .i64 d.h, .int .i64 d.u, .slice a d.l.length c] 26)).heap.size = w.heap.size + 1 by simp] at this
    exact this
  have HL1 := Lib.hid (hs.below hb1)
  have HB1 := Lib.hid hb1
  have HD1 := Lib.hid hD
  have HO1 := Lib.hid hO
  rw [hW1] at HL1 HB1 HD1 HO1
  clear hb1 hD hO hs hc hW1 W1
  rw [hd] at hR hK
  have k1 : decide (who < 1) = false := decide_eq_false h0
  have k2 : decide (2 < who) = false := decide_eq_false h1
  have k3 : decide (now < 0) = true := decide_eq_true h2
  clear ha ea hd hws hw h0 h1 h2
  generalize writeE d epoch o = rb at *
  generalize writeD d epoch o = B at *
  generalize B.ep = B0 at *
  generalize B.h = B1 at *
  generalize B.u = B2 at *
  generalize B.l.length = BN at *
  generalize B.l = Bl at *
  generalize d.ep = d0 at *
  generalize d.h = d1 at *
  generalize d.u = d2 at *
  generalize d.l.length = dN at *
  generalize d.l = dl at *
  generalize o.k = y0 at *
  generalize o.p.v = y1 at *
  generalize o.p.hi = y2 at *
  generalize o.p.lo = y3 at *
  generalize o.p.b = y4 at *
  generalize o.a.v = y5 at *
  generalize o.a.hi = y6 at *
  generalize o.a.lo = y7 at *
  generalize o.who = y8 at *
  generalize o.pof = y9 at *
  generalize o.n = y10 at *
  go_enter Try.func3, Try.ntmps3
  go_wp2_with fail
  refine (hA.out _ HL1.out).mono ?_
  rintro e w2 ⟨rfl, hb2⟩
  obtain ⟨W2, hW2⟩ : ∃ W2, W2 = w2.alloc (.cells #[.int .i64 0, .int .i64 0, .int .i64 0, .slice none 0 0] 26) := ⟨_, rfl⟩
  have hb2' : Below w2.heap.size w2 W2 := by rw [hW2]; exact bal (Below.refl _ _) _
  have hb2'' := btr hb2 hb2'
  have HB2 := Lib.hid (btr HB1.out hb2'')
  have HD2 := Lib.hid (HD1.out.below hb2'')
  have HO2 := Lib.hid (HO1.out.below hb2'')
  have HL2 := Lib.hid (HL1.out.below hb2'')
  have HA2 : Hid (Blk W2 w2.heap.size 26 [.int .i64 0, .int .i64 0, .int .i64 0, .slice none 0 0]) := by rw [hW2]; exact Lib.hid (Blk.new w2 _ _)
  obtain ⟨⟨p0, p1, p2, p3⟩, -⟩ := (HD2.out).four
  obtain ⟨q0, q1, q2, q3, q4, q5, q6, q7, q8, q9, q10⟩ : W2.cell? ⟨w.heap.size + 1, 0, none⟩ = some (.int .i64 y0) ∧ W2.cell? ⟨w.heap.size + 1, 1, none⟩ = some (.bool y1) ∧ W2.cell? ⟨w.heap.size + 1, 2, none⟩ = some (.int .u64 y2) ∧ W2.cell? ⟨w.heap.size + 1, 3, none⟩ = some (.int .u64 y3) ∧ W2.cell? ⟨w.heap.size + 1, 4, none⟩ = some (.int .i64 y4) ∧ W2.cell? ⟨w.heap.size + 1, 5, none⟩ = some (.bool y5) ∧ W2.cell? ⟨w.heap.size + 1, 6, none⟩ = some (.int .u64 y6) ∧ W2.cell? ⟨w.heap.size + 1, 7, none⟩ = some (.int .u64 y7) ∧ W2.cell? ⟨w.heap.size + 1, 8, none⟩ = some (.string y8) ∧ W2.cell? ⟨w.heap.size + 1, 9, none⟩ = some (.int .i64 y9) ∧ W2.cell? ⟨w.heap.size + 1, 10, none⟩ = some (.int .i64 y10) := by have hq := HO2.out; exact ⟨hq.cell 0 _ rfl, hq.cell 1 _ rfl, hq.cell 2 _ rfl, hq.cell 3 _ rfl, hq.cell 4 _ rfl, hq.cell 5 _ rfl, hq.cell 6 _ rfl, hq.cell 7 _ rfl, hq.cell 8 _ rfl, hq.cell 9 _ rfl, hq.cell 10 _ rfl⟩
  rw [hW2] at HB2 HD2 HO2 HL2 HA2 p0 p1 p2 p3 q0 q1 q2 q3 q4 q5 q6 q7 q8 q9 q10
  clear hb2 hb2' hb2'' hW2 W2 HB1 HD1 HO1 HL1 hA
  go_wp2_with fail
  refine (hW.out _ HL2.out).mono ?_
  rintro e w3 ⟨a3, c3, rfl, hl3, hb3⟩
  obtain ⟨W3, hW3⟩ : ∃ W3, W3 = w3.alloc (.cells #[.int .i64 B0, .int .i64 B1, .int .i64 B2, .slice a3 BN c3] 26) := ⟨_, rfl⟩
  have hb3' : Below w3.heap.size w3 W3 := by rw [hW3]; exact bal (Below.refl _ _) _
  have hb3'' := btr hb3 hb3'
  have HB3 := Lib.hid (btr HB2.out hb3'')
  have HD3 := Lib.hid (HD2.out.below hb3'')
  have HO3 := Lib.hid (HO2.out.below hb3'')
  have HL3 := Lib.hid (HL2.out.below hb3'')
  have HA3 := Lib.hid (HA2.out.below hb3'')
  have HQ3 : Hid (Blk W3 w3.heap.size 26 [.int .i64 B0, .int .i64 B1, .int .i64 B2, .slice a3 BN c3]) := by rw [hW3]; exact Lib.hid (Blk.new w3 _ _)
  have HN3 := Lib.hid (hl3.below hb3')
  clear hl3
  clear p0 p1 p2 p3 q0 q1 q2 q3 q4 q5 q6 q7 q8 q9 q10
  obtain ⟨⟨p0, p1, p2, p3⟩, -⟩ := (HD3.out).four
  rw [hW3] at HB3 HD3 HO3 HL3 HA3 HQ3 HN3 p0 p1 p2 p3
  clear hb3 hb3' hb3'' hW3 W3 HB2 HD2 HO2 HL2 HA2 hW
  go_wp2_with fail
  refine (hR.out _ HL3.out).mono ?_
  rintro e w4 ⟨rfl, hb4⟩
  have HB4 := Lib.hid (btr HB3.out hb4)
  have HD4 := Lib.hid (HD3.out.below hb4)
  have HO4 := Lib.hid (HO3.out.below hb4)
  have HL4 := Lib.hid (HL3.out.below hb4)
  have HA4 := Lib.hid (HA3.out.below hb4)
  have HQ4 := Lib.hid (HQ3.out.below hb4)
  have HN4 := Lib.hid (HN3.out.below hb4)
  clear p0 p1 p2 p3 hb4 HB3 HD3 HO3 HL3 HA3 HQ3 HN3 hR
  obtain ⟨W4, hW4⟩ : ∃ W4, W4 = (w4.alloc (.cells #[.int .i64 0, .int .i64 0, .int .i64 0, .slice none 0 0] 26)).alloc (.cells #[.int .i64 0, .int .i64 0, .int .i64 0, .slice none 0 0] 26) := ⟨_, rfl⟩
  have HZ4 : Hid (Below w4.heap.size w4 W4) := by rw [hW4]; exact Lib.hid (bal (bal (Below.refl _ _) _) _)
  have HG4 : Hid (Blk W4 w4.heap.size 26 [.int .i64 0, .int .i64 0, .int .i64 0, .slice none 0 0]) := by rw [hW4]; exact Lib.hid ((Blk.new w4 _ _).below (bal (Below.refl _ _) _))
  have HP4 : Hid (Blk W4 (w4.heap.size + 1) 26 [.int .i64 0, .int .i64 0, .int .i64 0, .slice none 0 0]) := by
    rw [hW4]
    have := Blk.new (w4.alloc (.cells #[.int .i64 0, .int .i64 0, .int .i64 0, .slice none 0 0] 26)) [.int .i64 0, .int .i64 0, .int .i64 0, .slice none 0 0] 26
    rw [show (w4.alloc (.cells #[.int .i64 0, .int .i64 0, .int .i64 0, .slice none 0 0] 26)).heap.size = w4.heap.size + 1 by simp] at this
    exact Lib.hid this
  obtain ⟨⟨p0, p1, p2, p3⟩, -⟩ := (HD4.out.below HZ4.out).four
  obtain ⟨q0, q1, q2, q3, q4, q5, q6, q7, q8, q9, q10⟩ : W4.cell? ⟨w.heap.size + 1, 0, none⟩ = some (.int .i64 y0) ∧ W4.cell? ⟨w.heap.size + 1, 1, none⟩ = some (.bool y1) ∧ W4.cell? ⟨w.heap.size + 1, 2, none⟩ = some (.int .u64 y2) ∧ W4.cell? ⟨w.heap.size + 1, 3, none⟩ = some (.int .u64 y3) ∧ W4.cell? ⟨w.heap.size + 1, 4, none⟩ = some (.int .i64 y4) ∧ W4.cell? ⟨w.heap.size + 1, 5, none⟩ = some (.bool y5) ∧ W4.cell? ⟨w.heap.size + 1, 6, none⟩ = some (.int .u64 y6) ∧ W4.cell? ⟨w.heap.size + 1, 7, none⟩ = some (.int .u64 y7) ∧ W4.cell? ⟨w.heap.size + 1, 8, none⟩ = some (.string y8) ∧ W4.cell? ⟨w.heap.size + 1, 9, none⟩ = some (.int .i64 y9) ∧ W4.cell? ⟨w.heap.size + 1, 10, none⟩ = some (.int .i64 y10) := by have hq := HO4.out.below HZ4.out; exact ⟨hq.cell 0 _ rfl, hq.cell 1 _ rfl, hq.cell 2 _ rfl, hq.cell 3 _ rfl, hq.cell 4 _ rfl, hq.cell 5 _ rfl, hq.cell 6 _ rfl, hq.cell 7 _ rfl, hq.cell 8 _ rfl, hq.cell 9 _ rfl, hq.cell 10 _ rfl⟩
  rw [hW4] at HZ4 HG4 HP4 p0 p1 p2 p3 q0 q1 q2 q3 q4 q5 q6 q7 q8 q9 q10
  clear hW4 W4
  go_wp2_with fail
  refine (hRW.out _ (HL4.out.below HZ4.out)).mono ?_
  rintro e w6 ⟨a6, c6, rfl, hl6, hg6, hb6⟩
  have HZ6 := Lib.hid (btr HZ4.out hb6)
  have HG6 := Lib.hid (HG4.out.below hb6)
  have HP6 := Lib.hid (HP4.out.below hb6)
  have hg6' : ∀ g o, a6 = some ⟨g, o, none⟩ → w4.heap.size + 1 < g := fun g o e => by have h1 := hg6 g o e; have h2 := HP4.out.lt; omega
  clear p0 p1 p2 p3 q0 q1 q2 q3 q4 q5 q6 q7 q8 q9 q10
  obtain ⟨W6, hW6⟩ : ∃ W, W = (((w6.setCell ⟨w4.heap.size + 1, 0, none⟩ (.int .i64 B0)).setCell ⟨w4.heap.size + 1, 1, none⟩ (.int .i64 B1)).setCell ⟨w4.heap.size + 1, 2, none⟩ (.int .i64 B2)).setCell ⟨w4.heap.size + 1, 3, none⟩ (.slice a6 BN c6) := ⟨_, rfl⟩
  have HZ6b : Hid (Below w4.heap.size w4 W6) := by rw [hW6]; exact Lib.hid (bse (bse (bse (bse HZ6.out (by dsimp only; omega) _) (by dsimp only; omega) _) (by dsimp only; omega) _) (by dsimp only; omega) _)
  have HP6b : Hid (Blk W6 (w4.heap.size + 1) 26 [.int .i64 B0, .int .i64 B1, .int .i64 B2, .slice a6 BN c6]) := by rw [hW6]; exact Lib.hid (HP6.out.put4 (.int .i64 B0) (.int .i64 B1) (.int .i64 B2) (.slice a6 BN c6))
  have HG6b : Hid (Blk W6 (w4.heap.size) 26 [.int .i64 0, .int .i64 0, .int .i64 0, .slice none 0 0]) := by rw [hW6]; exact Lib.hid ((((HG6.out.other (by omega) _).other (by omega) _).other (by omega) _).other (by omega) _)
  have HV6b : Hid (Lies enE W6 a6 Bl) := by rw [hW6]; exact Lib.hid (lies_put (lies_put (lies_put (lies_put hl6 hg6' _ _) hg6' _ _) hg6' _ _) hg6' _ _)
  obtain ⟨⟨g0, g1, g2, g3⟩, f0, f1, f2, f3⟩ := HP6.out.four
  rw [hW6] at HZ6b HG6b HP6b HV6b
  clear hW6 W6 HZ6 HG6 hl6 hg6 hg6' hb6 HZ4 HG4 HP4 hRW HP6
  go_wp2_with fail
  refine (hBg.out _).mono ?_
  rintro e w7 ⟨rfl, hb7⟩
  have HZ7 := Lib.hid (btr HZ6b.out hb7)
  have HG7 := Lib.hid (HG6b.out.below hb7)
  have HP7 := Lib.hid (HP6b.out.below hb7)
  have HV7 := Lib.hid (HV6b.out.below hb7)
  clear hb7 HZ6b HG6b HP6b HV6b
  clear g0 g1 g2 g3 f0 f1 f2 f3
  obtain ⟨⟨p0, p1, p2, p3⟩, -⟩ := (HD4.out.below HZ7.out).four
  clear hBg
  go_wp2_with fail
  refine (hK.out _ (HL4.out.below HZ7.out)).mono ?_
  rintro e w8 ⟨rfl, hb8⟩
  clear p0 p1 p2 p3
  have HZ8 := Lib.hid (btr HZ7.out hb8)
  have HG8 := Lib.hid (HG7.out.below hb8)
  have HP8 := Lib.hid (HP7.out.below hb8)
  have HV8 := Lib.hid (HV7.out.below hb8)
  clear hb8 HZ7 HG7 HP7 HV7
  obtain ⟨⟨p0, p1, p2, p3⟩, -⟩ := (HA4.out.below HZ8.out).four
  obtain ⟨⟨g0, g1, g2, g3⟩, -⟩ := HG8.out.four
  clear hK
  go_wp2_with fail
  refine (hIZ.out _).mono ?_
  rintro e w9 ⟨rfl, hb9⟩
  clear p0 p1 p2 p3 g0 g1 g2 g3
  have HZ9 := Lib.hid (btr HZ8.out hb9)
  have HG9 := Lib.hid (HG8.out.below hb9)
  have HP9 := Lib.hid (HP8.out.below hb9)
  have HV9 := Lib.hid (HV8.out.below hb9)
  clear hb9 HZ8 HG8 HP8 HV8
  obtain ⟨⟨p0, p1, p2, p3⟩, -⟩ := (HQ4.out.below HZ9.out).four
  obtain ⟨⟨g0, g1, g2, g3⟩, -⟩ := HP9.out.four
  obtain ⟨⟨u0, u1, u2, u3⟩, -⟩ := HG9.out.four
  go_wp2_with fail
  refine (hIB.out _ _ _ _ _ (HN4.out.below HZ9.out) HV9.out).mono ?_
  rintro e w10 ⟨rfl, hb10⟩
  have HB10 := Lib.hid (btr (btr HB4.out HZ9.out) hb10)
  clear p0 p1 p2 p3 g0 g1 g2 g3 u0 u1 u2 u3
  go_wp2
  go_ret
  exact ⟨rfl, HB10.out⟩
set_option maxHeartbeats 32000000 in
set_option maxRecDepth 100000 in
theorem ftells_rng3 (d : Dk) (a : Option Addr) (c : Nat) (who now epoch : Int) (o : Opd) (w : World) (hc : d.l.length ≤ c) (hs : Lies enE w a d.l) (hws : ∀ x ∈ d.l, x.o.who.size ≤ maxLen) (hw : o.who.size ≤ maxLen) (hd : d.bad = 0) (h0 : ¬ who < 1) (h1 : ¬ 2 < who) (h2 : ¬ now < 0) (h3 : 9999 < now) :
    Calls Try.prog 3 #[.agg #[.int .i64 d.ep, .int .i64 d.h, .int .i64 d.u, .slice a d.l.length c], .int .i64 who, .int .i64 now, .int .i64 epoch, .agg #[.int .i64 o.k, .bool o.p.v, .int .u64 o.p.hi, .int .u64 o.p.lo, .int .i64 o.p.b, .bool o.a.v, .int .u64 o.a.hi, .int .u64 o.a.lo, .string o.who, .int .i64 o.pof, .int .i64 o.n]] w fun e w' => e = .returned (.bool true) ∧ Below w.heap.size w w' := by
  have ea : acqE d who now = 3 := by unfold acqE; rw [if_pos hd, if_pos]; exact .inr (.inr (by unfold outB; simp; omega))
  have ha : ¬ acqE d who now = 0 := by rw [ea]; decide
  have hA : Hid (∀ W : World, Lies enE W a d.l → Calls Try.prog 5 #[.agg #[.int .i64 d.ep, .int .i64 d.h, .int .i64 d.u, .slice a d.l.length c], .int .i64 who, .int .i64 now] W fun e w' => e = .returned (.tuple #[.agg #[.int .i64 0, .int .i64 0, .int .i64 0, .slice none 0 0], .int .i64 0, .int .i64 (acqE d who now)]) ∧ Below W.heap.size W w') := fun W h => acq_bad d a c who now W hc h ha
  have hW : Hid (∀ W : World, Lies enE W a d.l → Calls Try.prog 6 #[.agg #[.int .i64 d.ep, .int .i64 d.h, .int .i64 d.u, .slice a d.l.length c], .int .i64 epoch, .agg #[.int .i64 o.k, .bool o.p.v, .int .u64 o.p.hi, .int .u64 o.p.lo, .int .i64 o.p.b, .bool o.a.v, .int .u64 o.a.hi, .int .u64 o.a.lo, .string o.who, .int .i64 o.pof, .int .i64 o.n]] W fun e w' => ∃ a' c', e = .returned (.tuple #[.agg #[.int .i64 (writeD d epoch o).ep, .int .i64 (writeD d epoch o).h, .int .i64 (writeD d epoch o).u, .slice a' (writeD d epoch o).l.length c'], .int .i64 (writeE d epoch o)]) ∧ Lies enE w' a' (writeD d epoch o).l ∧ Below W.heap.size W w') := fun W h => (fwrite_any d a c epoch o W hc h).mono fun e w' ⟨a', c', h1, h2, h3, h4, h5⟩ => ⟨a', c', h1, h3, h5⟩
  have hR : Hid (∀ W : World, Lies enE W a d.l → Calls Try.prog 7 #[.agg #[.int .i64 d.ep, .int .i64 d.h, .int .i64 d.u, .slice a d.l.length c]] W fun e w' => e = .returned (.int .i64 d.bad) ∧ Below W.heap.size W w') := fun W h => rdisk_any d a c W h hws
  have hK : Hid (∀ W : World, Lies enE W a d.l → Calls Try.prog 11 #[.agg #[.int .i64 d.ep, .int .i64 d.h, .int .i64 d.u, .slice a d.l.length c]] W fun e w' => e = .returned (.int .i64 d.bad) ∧ Below W.heap.size W w') := fun W h => fcheck_any d.ep d.h d.u a c d.l W hc h
  have hBg : Hid (∀ W : World, Calls Try.prog 10 #[] W fun e w' => e = .returned (.bool true) ∧ Below W.heap.size W w') := fbegun_any
  have hRW : Hid (∀ W : World, Lies enE W a d.l → Calls Try.prog 9 #[.agg #[.int .i64 d.ep, .int .i64 d.h, .int .i64 d.u, .slice a d.l.length c], .int .i64 epoch, .agg #[.int .i64 o.k, .bool o.p.v, .int .u64 o.p.hi, .int .u64 o.p.lo, .int .i64 o.p.b, .bool o.a.v, .int .u64 o.a.hi, .int .u64 o.a.lo, .string o.who, .int .i64 o.pof, .int .i64 o.n]] W fun e w' => ∃ a' c', e = .returned (.tuple #[.agg #[.int .i64 (writeD d epoch o).ep, .int .i64 (writeD d epoch o).h, .int .i64 (writeD d epoch o).u, .slice a' (writeD d epoch o).l.length c'], .int .i64 (writeE d epoch o)]) ∧ Lies enE w' a' (writeD d epoch o).l ∧ (∀ g o, a' = some ⟨g, o, none⟩ → W.heap.size ≤ g) ∧ Below W.heap.size W w') := fun W h => rwrite_any d a c epoch o W h hw hd
  have hIZ : Hid (∀ W : World, Calls Try.prog 12 #[.agg #[.int .i64 0, .int .i64 0, .int .i64 0, .slice none 0 0], .int .i64 3, .int .i64 3, .agg #[.int .i64 0, .int .i64 0, .int .i64 0, .slice none 0 0]] W fun e w' => e = .returned (.bool true) ∧ Below W.heap.size W w') := fun W => diskis_bad 3 0 0 0 none none 0 0 0 W (by decide)
  have hIB : Hid (∀ (a' a'' : Option Addr) (c' c'' : Nat) (W : World), Lies enE W a' (writeD d epoch o).l → Lies enE W a'' (writeD d epoch o).l → Calls Try.prog 12 #[.agg #[.int .i64 (writeD d epoch o).ep, .int .i64 (writeD d epoch o).h, .int .i64 (writeD d epoch o).u, .slice a' (writeD d epoch o).l.length c'], .int .i64 (writeE d epoch o), .int .i64 (writeE d epoch o), .agg #[.int .i64 (writeD d epoch o).ep, .int .i64 (writeD d epoch o).h, .int .i64 (writeD d epoch o).u, .slice a'' (writeD d epoch o).l.length c'']] W fun e w' => e = .returned (.bool true) ∧ Below W.heap.size W w') := fun a' a'' c' c'' W h h' => diskis_any (writeD d epoch o) (writeE d epoch o) a' a'' c' c'' W (write_none) (write_len hd) h h'
  rw [ea] at hA
  obtain ⟨W1, hW1⟩ : ∃ W1, W1 = (w.alloc (.cells #[.int .i64 d.ep, .int .i64 d.h, .int .i64 d.u, .slice a d.l.length c] 26)).alloc (.cells #[.int .i64 o.k, .bool o.p.v, .int .u64 o.p.hi, .int .u64 o.p.lo, .int .i64 o.p.b, .bool o.a.v, .int .u64 o.a.hi, .int .u64 o.a.lo, .string o.who, .int .i64 o.pof, .int .i64 o.n] 33) := ⟨_, rfl⟩
  have hb1 : Below w.heap.size w W1 := by rw [hW1]; exact bal (bal (Below.refl w.heap.size w) _) _
  have hD : Blk W1 w.heap.size 26 [.int .i64 d.ep, .int .i64 d.h, .int .i64 d.u, .slice a d.l.length c] := by rw [hW1]; exact (Blk.new w _ _).below (bal (Below.refl _ _) _)
  have hO : Blk W1 (w.heap.size + 1) 33 [.int .i64 o.k, .bool o.p.v, .int .u64 o.p.hi, .int .u64 o.p.lo, .int .i64 o.p.b, .bool o.a.v, .int .u64 o.a.hi, .int .u64 o.a.lo, .string o.who, .int .i64 o.pof, .int .i64 o.n] := by
    rw [hW1]
    have := Blk.new (w.alloc (.cells #[.int .i64 d.ep, .int .i64 d.h, .int .i64 d.u, .slice a d.l.length c] 26)) [.int .i64 o.k, .bool o.p.v, .int .u64 o.p.hi, .int .u64 o.p.lo, .int .i64 o.p.b, .bool o.a.v, .int .u64 o.a.hi, .int .u64 o.a.lo, .string o.who, .int .i64 o.pof, .int .i64 o.n] 33
    rw [show (w.alloc (.cells #[.int .i64 d.ep, .int .i64 d.h, .int .i64 d.u, .slice a d.l.length c] 26)).heap.size = w.heap.size + 1 by simp] at this
    exact this
  have HL1 := Lib.hid (hs.below hb1)
  have HB1 := Lib.hid hb1
  have HD1 := Lib.hid hD
  have HO1 := Lib.hid hO
  rw [hW1] at HL1 HB1 HD1 HO1
  clear hb1 hD hO hs hc hW1 W1
  rw [hd] at hR hK
  have k1 : decide (who < 1) = false := decide_eq_false h0
  have k2 : decide (2 < who) = false := decide_eq_false h1
  have k3 : decide (now < 0) = false := decide_eq_false h2
  have k4 : decide (9999 < now) = true := decide_eq_true h3
  clear ha ea hd hws hw h0 h1 h2 h3
  generalize writeE d epoch o = rb at *
  generalize writeD d epoch o = B at *
  generalize B.ep = B0 at *
  generalize B.h = B1 at *
  generalize B.u = B2 at *
  generalize B.l.length = BN at *
  generalize B.l = Bl at *
  generalize d.ep = d0 at *
  generalize d.h = d1 at *
  generalize d.u = d2 at *
  generalize d.l.length = dN at *
  generalize d.l = dl at *
  generalize o.k = y0 at *
  generalize o.p.v = y1 at *
  generalize o.p.hi = y2 at *
  generalize o.p.lo = y3 at *
  generalize o.p.b = y4 at *
  generalize o.a.v = y5 at *
  generalize o.a.hi = y6 at *
  generalize o.a.lo = y7 at *
  generalize o.who = y8 at *
  generalize o.pof = y9 at *
  generalize o.n = y10 at *
  go_enter Try.func3, Try.ntmps3
  go_wp2_with fail
  refine (hA.out _ HL1.out).mono ?_
  rintro e w2 ⟨rfl, hb2⟩
  obtain ⟨W2, hW2⟩ : ∃ W2, W2 = w2.alloc (.cells #[.int .i64 0, .int .i64 0, .int .i64 0, .slice none 0 0] 26) := ⟨_, rfl⟩
  have hb2' : Below w2.heap.size w2 W2 := by rw [hW2]; exact bal (Below.refl _ _) _
  have hb2'' := btr hb2 hb2'
  have HB2 := Lib.hid (btr HB1.out hb2'')
  have HD2 := Lib.hid (HD1.out.below hb2'')
  have HO2 := Lib.hid (HO1.out.below hb2'')
  have HL2 := Lib.hid (HL1.out.below hb2'')
  have HA2 : Hid (Blk W2 w2.heap.size 26 [.int .i64 0, .int .i64 0, .int .i64 0, .slice none 0 0]) := by rw [hW2]; exact Lib.hid (Blk.new w2 _ _)
  obtain ⟨⟨p0, p1, p2, p3⟩, -⟩ := (HD2.out).four
  obtain ⟨q0, q1, q2, q3, q4, q5, q6, q7, q8, q9, q10⟩ : W2.cell? ⟨w.heap.size + 1, 0, none⟩ = some (.int .i64 y0) ∧ W2.cell? ⟨w.heap.size + 1, 1, none⟩ = some (.bool y1) ∧ W2.cell? ⟨w.heap.size + 1, 2, none⟩ = some (.int .u64 y2) ∧ W2.cell? ⟨w.heap.size + 1, 3, none⟩ = some (.int .u64 y3) ∧ W2.cell? ⟨w.heap.size + 1, 4, none⟩ = some (.int .i64 y4) ∧ W2.cell? ⟨w.heap.size + 1, 5, none⟩ = some (.bool y5) ∧ W2.cell? ⟨w.heap.size + 1, 6, none⟩ = some (.int .u64 y6) ∧ W2.cell? ⟨w.heap.size + 1, 7, none⟩ = some (.int .u64 y7) ∧ W2.cell? ⟨w.heap.size + 1, 8, none⟩ = some (.string y8) ∧ W2.cell? ⟨w.heap.size + 1, 9, none⟩ = some (.int .i64 y9) ∧ W2.cell? ⟨w.heap.size + 1, 10, none⟩ = some (.int .i64 y10) := by have hq := HO2.out; exact ⟨hq.cell 0 _ rfl, hq.cell 1 _ rfl, hq.cell 2 _ rfl, hq.cell 3 _ rfl, hq.cell 4 _ rfl, hq.cell 5 _ rfl, hq.cell 6 _ rfl, hq.cell 7 _ rfl, hq.cell 8 _ rfl, hq.cell 9 _ rfl, hq.cell 10 _ rfl⟩
  rw [hW2] at HB2 HD2 HO2 HL2 HA2 p0 p1 p2 p3 q0 q1 q2 q3 q4 q5 q6 q7 q8 q9 q10
  clear hb2 hb2' hb2'' hW2 W2 HB1 HD1 HO1 HL1 hA
  go_wp2_with fail
  refine (hW.out _ HL2.out).mono ?_
  rintro e w3 ⟨a3, c3, rfl, hl3, hb3⟩
  obtain ⟨W3, hW3⟩ : ∃ W3, W3 = w3.alloc (.cells #[.int .i64 B0, .int .i64 B1, .int .i64 B2, .slice a3 BN c3] 26) := ⟨_, rfl⟩
  have hb3' : Below w3.heap.size w3 W3 := by rw [hW3]; exact bal (Below.refl _ _) _
  have hb3'' := btr hb3 hb3'
  have HB3 := Lib.hid (btr HB2.out hb3'')
  have HD3 := Lib.hid (HD2.out.below hb3'')
  have HO3 := Lib.hid (HO2.out.below hb3'')
  have HL3 := Lib.hid (HL2.out.below hb3'')
  have HA3 := Lib.hid (HA2.out.below hb3'')
  have HQ3 : Hid (Blk W3 w3.heap.size 26 [.int .i64 B0, .int .i64 B1, .int .i64 B2, .slice a3 BN c3]) := by rw [hW3]; exact Lib.hid (Blk.new w3 _ _)
  have HN3 := Lib.hid (hl3.below hb3')
  clear hl3
  clear p0 p1 p2 p3 q0 q1 q2 q3 q4 q5 q6 q7 q8 q9 q10
  obtain ⟨⟨p0, p1, p2, p3⟩, -⟩ := (HD3.out).four
  rw [hW3] at HB3 HD3 HO3 HL3 HA3 HQ3 HN3 p0 p1 p2 p3
  clear hb3 hb3' hb3'' hW3 W3 HB2 HD2 HO2 HL2 HA2 hW
  go_wp2_with fail
  refine (hR.out _ HL3.out).mono ?_
  rintro e w4 ⟨rfl, hb4⟩
  have HB4 := Lib.hid (btr HB3.out hb4)
  have HD4 := Lib.hid (HD3.out.below hb4)
  have HO4 := Lib.hid (HO3.out.below hb4)
  have HL4 := Lib.hid (HL3.out.below hb4)
  have HA4 := Lib.hid (HA3.out.below hb4)
  have HQ4 := Lib.hid (HQ3.out.below hb4)
  have HN4 := Lib.hid (HN3.out.below hb4)
  clear p0 p1 p2 p3 hb4 HB3 HD3 HO3 HL3 HA3 HQ3 HN3 hR
  obtain ⟨W4, hW4⟩ : ∃ W4, W4 = (w4.alloc (.cells #[.int .i64 0, .int .i64 0, .int .i64 0, .slice none 0 0] 26)).alloc (.cells #[.int .i64 0, .int .i64 0, .int .i64 0, .slice none 0 0] 26) := ⟨_, rfl⟩
  have HZ4 : Hid (Below w4.heap.size w4 W4) := by rw [hW4]; exact Lib.hid (bal (bal (Below.refl _ _) _) _)
  have HG4 : Hid (Blk W4 w4.heap.size 26 [.int .i64 0, .int .i64 0, .int .i64 0, .slice none 0 0]) := by rw [hW4]; exact Lib.hid ((Blk.new w4 _ _).below (bal (Below.refl _ _) _))
  have HP4 : Hid (Blk W4 (w4.heap.size + 1) 26 [.int .i64 0, .int .i64 0, .int .i64 0, .slice none 0 0]) := by
    rw [hW4]
    have := Blk.new (w4.alloc (.cells #[.int .i64 0, .int .i64 0, .int .i64 0, .slice none 0 0] 26)) [.int .i64 0, .int .i64 0, .int .i64 0, .slice none 0 0] 26
    rw [show (w4.alloc (.cells #[.int .i64 0, .int .i64 0, .int .i64 0, .slice none 0 0] 26)).heap.size = w4.heap.size + 1 by simp] at this
    exact Lib.hid this
  obtain ⟨⟨p0, p1, p2, p3⟩, -⟩ := (HD4.out.below HZ4.out).four
  obtain ⟨q0, q1, q2, q3, q4, q5, q6, q7, q8, q9, q10⟩ : W4.cell? ⟨w.heap.size + 1, 0, none⟩ = some (.int .i64 y0) ∧ W4.cell? ⟨w.heap.size + 1, 1, none⟩ = some (.bool y1) ∧ W4.cell? ⟨w.heap.size + 1, 2, none⟩ = some (.int .u64 y2) ∧ W4.cell? ⟨w.heap.size + 1, 3, none⟩ = some (.int .u64 y3) ∧ W4.cell? ⟨w.heap.size + 1, 4, none⟩ = some (.int .i64 y4) ∧ W4.cell? ⟨w.heap.size + 1, 5, none⟩ = some (.bool y5) ∧ W4.cell? ⟨w.heap.size + 1, 6, none⟩ = some (.int .u64 y6) ∧ W4.cell? ⟨w.heap.size + 1, 7, none⟩ = some (.int .u64 y7) ∧ W4.cell? ⟨w.heap.size + 1, 8, none⟩ = some (.string y8) ∧ W4.cell? ⟨w.heap.size + 1, 9, none⟩ = some (.int .i64 y9) ∧ W4.cell? ⟨w.heap.size + 1, 10, none⟩ = some (.int .i64 y10) := by have hq := HO4.out.below HZ4.out; exact ⟨hq.cell 0 _ rfl, hq.cell 1 _ rfl, hq.cell 2 _ rfl, hq.cell 3 _ rfl, hq.cell 4 _ rfl, hq.cell 5 _ rfl, hq.cell 6 _ rfl, hq.cell 7 _ rfl, hq.cell 8 _ rfl, hq.cell 9 _ rfl, hq.cell 10 _ rfl⟩
  rw [hW4] at HZ4 HG4 HP4 p0 p1 p2 p3 q0 q1 q2 q3 q4 q5 q6 q7 q8 q9 q10
  clear hW4 W4
  go_wp2_with fail
  refine (hRW.out _ (HL4.out.below HZ4.out)).mono ?_
  rintro e w6 ⟨a6, c6, rfl, hl6, hg6, hb6⟩
  have HZ6 := Lib.hid (btr HZ4.out hb6)
  have HG6 := Lib.hid (HG4.out.below hb6)
  have HP6 := Lib.hid (HP4.out.below hb6)
  have hg6' : ∀ g o, a6 = some ⟨g, o, none⟩ → w4.heap.size + 1 < g := fun g o e => by have h1 := hg6 g o e; have h2 := HP4.out.lt; omega
  clear p0 p1 p2 p3 q0 q1 q2 q3 q4 q5 q6 q7 q8 q9 q10
  obtain ⟨W6, hW6⟩ : ∃ W, W = (((w6.setCell ⟨w4.heap.size + 1, 0, none⟩ (.int .i64 B0)).setCell ⟨w4.heap.size + 1, 1, none⟩ (.int .i64 B1)).setCell ⟨w4.heap.size + 1, 2, none⟩ (.int .i64 B2)).setCell ⟨w4.heap.size + 1, 3, none⟩ (.slice a6 BN c6) := ⟨_, rfl⟩
  have HZ6b : Hid (Below w4.heap.size w4 W6) := by rw [hW6]; exact Lib.hid (bse (bse (bse (bse HZ6.out (by dsimp only; omega) _) (by dsimp only; omega) _) (by dsimp only; omega) _) (by dsimp only; omega) _)
  have HP6b : Hid (Blk W6 (w4.heap.size + 1) 26 [.int .i64 B0, .int .i64 B1, .int .i64 B2, .slice a6 BN c6]) := by rw [hW6]; exact Lib.hid (HP6.out.put4 (.int .i64 B0) (.int .i64 B1) (.int .i64 B2) (.slice a6 BN c6))
  have HG6b : Hid (Blk W6 (w4.heap.size) 26 [.int .i64 0, .int .i64 0, .int .i64 0, .slice none 0 0]) := by rw [hW6]; exact Lib.hid ((((HG6.out.other (by omega) _).other (by omega) _).other (by omega) _).other (by omega) _)
  have HV6b : Hid (Lies enE W6 a6 Bl) := by rw [hW6]; exact Lib.hid (lies_put (lies_put (lies_put (lies_put hl6 hg6' _ _) hg6' _ _) hg6' _ _) hg6' _ _)
  obtain ⟨⟨g0, g1, g2, g3⟩, f0, f1, f2, f3⟩ := HP6.out.four
  rw [hW6] at HZ6b HG6b HP6b HV6b
  clear hW6 W6 HZ6 HG6 hl6 hg6 hg6' hb6 HZ4 HG4 HP4 hRW HP6
  go_wp2_with fail
  refine (hBg.out _).mono ?_
  rintro e w7 ⟨rfl, hb7⟩
  have HZ7 := Lib.hid (btr HZ6b.out hb7)
  have HG7 := Lib.hid (HG6b.out.below hb7)
  have HP7 := Lib.hid (HP6b.out.below hb7)
  have HV7 := Lib.hid (HV6b.out.below hb7)
  clear hb7 HZ6b HG6b HP6b HV6b
  clear g0 g1 g2 g3 f0 f1 f2 f3
  obtain ⟨⟨p0, p1, p2, p3⟩, -⟩ := (HD4.out.below HZ7.out).four
  clear hBg
  go_wp2_with fail
  refine (hK.out _ (HL4.out.below HZ7.out)).mono ?_
  rintro e w8 ⟨rfl, hb8⟩
  clear p0 p1 p2 p3
  have HZ8 := Lib.hid (btr HZ7.out hb8)
  have HG8 := Lib.hid (HG7.out.below hb8)
  have HP8 := Lib.hid (HP7.out.below hb8)
  have HV8 := Lib.hid (HV7.out.below hb8)
  clear hb8 HZ7 HG7 HP7 HV7
  obtain ⟨⟨p0, p1, p2, p3⟩, -⟩ := (HA4.out.below HZ8.out).four
  obtain ⟨⟨g0, g1, g2, g3⟩, -⟩ := HG8.out.four
  clear hK
  go_wp2_with fail
  refine (hIZ.out _).mono ?_
  rintro e w9 ⟨rfl, hb9⟩
  clear p0 p1 p2 p3 g0 g1 g2 g3
  have HZ9 := Lib.hid (btr HZ8.out hb9)
  have HG9 := Lib.hid (HG8.out.below hb9)
  have HP9 := Lib.hid (HP8.out.below hb9)
  have HV9 := Lib.hid (HV8.out.below hb9)
  clear hb9 HZ8 HG8 HP8 HV8
  obtain ⟨⟨p0, p1, p2, p3⟩, -⟩ := (HQ4.out.below HZ9.out).four
  obtain ⟨⟨g0, g1, g2, g3⟩, -⟩ := HP9.out.four
  obtain ⟨⟨u0, u1, u2, u3⟩, -⟩ := HG9.out.four
  go_wp2_with fail
  refine (hIB.out _ _ _ _ _ (HN4.out.below HZ9.out) HV9.out).mono ?_
  rintro e w10 ⟨rfl, hb10⟩
  have HB10 := Lib.hid (btr (btr HB4.out HZ9.out) hb10)
  clear p0 p1 p2 p3 g0 g1 g2 g3 u0 u1 u2 u3
  go_wp2
  go_ret
  exact ⟨rfl, HB10.out⟩
set_option maxHeartbeats 32000000 in
set_option maxRecDepth 100000 in
theorem ftells_any (d : Dk) (a : Option Addr) (c : Nat) (who now epoch : Int) (o : Opd) (w : World) (hc : d.l.length ≤ c) (hs : Lies enE w a d.l) (hws : ∀ x ∈ d.l, x.o.who.size ≤ maxLen) (hw : o.who.size ≤ maxLen) :
    Calls Try.prog 3 #[.agg #[.int .i64 d.ep, .int .i64 d.h, .int .i64 d.u, .slice a d.l.length c], .int .i64 who, .int .i64 now, .int .i64 epoch, .agg #[.int .i64 o.k, .bool o.p.v, .int .u64 o.p.hi, .int .u64 o.p.lo, .int .i64 o.p.b, .bool o.a.v, .int .u64 o.a.hi, .int .u64 o.a.lo, .string o.who, .int .i64 o.pof, .int .i64 o.n]] w fun e w' => e = .returned (.bool true) ∧ Below w.heap.size w w' := by
  by_cases hd : d.bad = 0
  · by_cases h0 : who < 1
    · exact ftells_rng0 d a c who now epoch o w hc hs hws hw hd h0
    · by_cases h1 : 2 < who
      · exact ftells_rng1 d a c who now epoch o w hc hs hws hw hd h0 h1
      · by_cases h2 : now < 0
        · exact ftells_rng2 d a c who now epoch o w hc hs hws hw hd h0 h1 h2
        · by_cases h3 : 9999 < now
          · exact ftells_rng3 d a c who now epoch o w hc hs hws hw hd h0 h1 h2 h3
          · exact ftells_good d a c who now epoch o w hc hs hws hw hd (by omega) (by omega) (by omega) (by omega)
  · exact ftells_bad d a c who now epoch o w hc hs hws hw hd
end Go.Proofs.Ytjainfehlbfiaaa
