/- FenceElder: its walk. -/
import Derived.Test.YtjainfehlbfiaaaGreatQ41
set_option linter.unusedVariables false
set_option linter.unusedSimpArgs false
namespace Go.Proofs.YtjainfehlbfiaaaGreat
open Go.RowKit

/-- The boxes of FenceElder. -/
structure FeAt (w W : World) (dv ov : List Value) : Prop where
  below : Below w.heap.size w W
  d : Blk W w.heap.size 26 dv
  o : Blk W (w.heap.size + 1) 33 ov
theorem FeAt.keep {w W W' : World} {dv ov : List Value} (h : FeAt w W dv ov) (hb : Below W.heap.size W W') : FeAt w W' dv ov := ⟨btr h.below hb, h.d.below hb, h.o.below hb⟩
theorem feAt (w : World) (dv ov : List Value) : FeAt w ((w.alloc (.cells dv.toArray 26)).alloc (.cells ov.toArray 33)) dv ov := by
  have h2 := Blk.new (w.alloc (.cells dv.toArray 26)) ov 33
  rw [show (w.alloc (.cells dv.toArray 26)).heap.size = w.heap.size + 1 by simp] at h2
  exact ⟨bal (bal (Below.refl _ _) _) _, (Blk.new w dv 26).below (bal (Below.refl _ _) _), h2⟩
theorem Blk.four4 {w : World} {b t : Nat} {x0 x1 x2 x3 : Value} (h : Blk w b t [x0, x1, x2, x3]) : w.cell? ⟨b, 0, none⟩ = some x0 ∧ w.cell? ⟨b, 1, none⟩ = some x1 ∧ w.cell? ⟨b, 2, none⟩ = some x2 ∧ w.cell? ⟨b, 3, none⟩ = some x3 := ⟨h.cell 0 _ rfl, h.cell 1 _ rfl, h.cell 2 _ rfl, h.cell 3 _ rfl⟩
set_option maxHeartbeats 32000000 in
set_option maxRecDepth 100000 in
theorem fe_wrong (d : Dk) (a : Option Addr) (c : Nat) (who now epoch : Int) (o : Opd) (w : World) (hc : d.l.length ≤ c) (hs : Lies enE w a d.l) (h0 : ¬ d.bad = 0) :
    Calls Tryz.prog 3 #[.agg #[.int .i64 d.ep, .int .i64 d.h, .int .i64 d.u, .slice a d.l.length c], .int .i64 who, .int .i64 now, .int .i64 epoch, .agg #[.int .i64 o.k, .bool o.p.v, .int .u64 o.p.hi, .int .u64 o.p.lo, .int .i64 o.p.b, .bool o.a.v, .int .u64 o.a.hi, .int .u64 o.a.lo, .string o.who, .int .i64 o.pof, .int .i64 o.n]] w fun e w' => e = .returned (.bool true) ∧ Below w.heap.size w w' := by
  have hF : Hid (∀ W : World, Calls Tryz.prog 4 #[] W fun e w' => e = .returned (.bool true) ∧ Below W.heap.size W w') := fbegun_any
  have hG : Hid (∀ W : World, Calls Tryz.prog 5 #[] W fun e w' => e = .returned (.bool true) ∧ Below W.heap.size W w') := logbegun_any
  have hC : Hid (∀ W : World, Below w.heap.size w W → Calls Tryz.prog 6 #[.agg #[.int .i64 d.ep, .int .i64 d.h, .int .i64 d.u, .slice a d.l.length c]] W fun e w' => e = .returned (.int .i64 d.bad) ∧ Below W.heap.size W w') := fun W hW => fcheck_any d.ep d.h d.u a c d.l W hc (hs.below hW)
  have hI : (d.bad != 0) = true := by rw [bne_iff_ne]; exact h0
  generalize d.bad = r at *
  generalize d.ep = d0 at *
  generalize d.h = d1 at *
  generalize d.u = d2 at *
  generalize d.l.length = dN at *
  generalize d.l = dl at *
  generalize o.k = y0 at *
  generalize o.p.v = y1 at *
  generalize o.p.hi = y2 at *
  generalize o.p.lo = y3 at *
  generalize o.p.b = y4 at *
  generalize o.a.v = y5 at *
  generalize o.a.hi = y6 at *
  generalize o.a.lo = y7 at *
  generalize o.who = y8 at *
  generalize o.pof = y9 at *
  generalize o.n = y10 at *
  clear hs hc h0
  have HB0 : Hid (FeAt w ((w.alloc (.cells #[.int .i64 d0, .int .i64 d1, .int .i64 d2, .slice a dN c] 26)).alloc (.cells #[.int .i64 y0, .bool y1, .int .u64 y2, .int .u64 y3, .int .i64 y4, .bool y5, .int .u64 y6, .int .u64 y7, .string y8, .int .i64 y9, .int .i64 y10] 33)) [.int .i64 d0, .int .i64 d1, .int .i64 d2, .slice a dN c] [.int .i64 y0, .bool y1, .int .u64 y2, .int .u64 y3, .int .i64 y4, .bool y5, .int .u64 y6, .int .u64 y7, .string y8, .int .i64 y9, .int .i64 y10]) := feAt w _ _
  go_enter Tryz.func3, Tryz.ntmps3
  go_wp2_with fail
  refine (hF.out _).mono ?_
  rintro e w1 ⟨rfl, hb1⟩
  go_wp2_with fail
  refine (hG.out _).mono ?_
  rintro e w2 ⟨rfl, hb2⟩
  have HB2 := Lib.hid ((HB0.out.keep hb1).keep hb2)
  clear hb1 hb2 HB0 hF hG
  obtain ⟨p0, p1, p2, p3⟩ := HB2.out.d.four4
  go_wp2_with fail
  refine (hC.out _ HB2.out.below).mono ?_
  rintro e w3 ⟨rfl, hb3⟩
  have HB3 := Lib.hid (HB2.out.keep hb3)
  clear hb3 HB2 hC p0 p1 p2 p3
  go_wp2_with fail
  go_ret
  exact ⟨rfl, HB3.out.below⟩
set_option maxHeartbeats 32000000 in
set_option maxRecDepth 100000 in
theorem fe_nn (d : Dk) (a : Option Addr) (c : Nat) (who now epoch : Int) (o : Opd) (w : World) (hc : d.l.length ≤ c) (hs : Lies enE w a d.l) (hb : d.bad = 0) (ha : ¬ acqE d who now = 0) (hw : ¬ writeE d epoch o = 0) :
    Calls Tryz.prog 3 #[.agg #[.int .i64 d.ep, .int .i64 d.h, .int .i64 d.u, .slice a d.l.length c], .int .i64 who, .int .i64 now, .int .i64 epoch, .agg #[.int .i64 o.k, .bool o.p.v, .int .u64 o.p.hi, .int .u64 o.p.lo, .int .i64 o.p.b, .bool o.a.v, .int .u64 o.a.hi, .int .u64 o.a.lo, .string o.who, .int .i64 o.pof, .int .i64 o.n]] w fun e w' => e = .returned (.bool true) ∧ Below w.heap.size w w' := by
  have hF : Hid (∀ W : World, Calls Tryz.prog 4 #[] W fun e w' => e = .returned (.bool true) ∧ Below W.heap.size W w') := fbegun_any
  have hG : Hid (∀ W : World, Calls Tryz.prog 5 #[] W fun e w' => e = .returned (.bool true) ∧ Below W.heap.size W w') := logbegun_any
  have hC : Hid (∀ W : World, Below w.heap.size w W → Calls Tryz.prog 6 #[.agg #[.int .i64 d.ep, .int .i64 d.h, .int .i64 d.u, .slice a d.l.length c]] W fun e w' => e = .returned (.int .i64 d.bad) ∧ Below W.heap.size W w') := fun W hW => fcheck_any d.ep d.h d.u a c d.l W hc (hs.below hW)
  rw [hb] at hC
  have hA : Hid (∀ W : World, Below w.heap.size w W → Calls Tryz.prog 7 #[.agg #[.int .i64 d.ep, .int .i64 d.h, .int .i64 d.u, .slice a d.l.length c], .int .i64 who, .int .i64 now] W fun e w' => ∃ a' c', e = .returned (.tuple #[.agg #[.int .i64 (acqD d who now).ep, .int .i64 (acqD d who now).h, .int .i64 (acqD d who now).u, .slice a' (acqD d who now).l.length c'], .int .i64 (acqD d who now).ep, .int .i64 (acqE d who now)]) ∧ (acqD d who now).l.length ≤ c' ∧ Lies enE w' a' (acqD d who now).l ∧ Below W.heap.size W w') := fun W hW => (acq_any d a c who now W hc (hs.below hW)).mono fun e w' ⟨a', c', q1, q2, q3, q4, q5⟩ => ⟨a', c', q1, q2, q3, q5⟩
  have hI : (acqE d who now == 0) = false := by rw [beq_eq_false_iff_ne]; exact ha
  generalize acqE d who now = r at *
  have hW : Hid (∀ W : World, Below w.heap.size w W → Calls Tryz.prog 8 #[.agg #[.int .i64 d.ep, .int .i64 d.h, .int .i64 d.u, .slice a d.l.length c], .int .i64 epoch, .agg #[.int .i64 o.k, .bool o.p.v, .int .u64 o.p.hi, .int .u64 o.p.lo, .int .i64 o.p.b, .bool o.a.v, .int .u64 o.a.hi, .int .u64 o.a.lo, .string o.who, .int .i64 o.pof, .int .i64 o.n]] W fun e w' => ∃ a' c', e = .returned (.tuple #[.agg #[.int .i64 0, .int .i64 0, .int .i64 0, .slice a' 0 c'], .int .i64 (writeE d epoch o)]) ∧ Below W.heap.size W w') := fun W hW => by
    have := fwrite_any d a c epoch o W hc (hs.below hW)
    rw [show writeD d epoch o = noDk by rw [writeD, if_neg hw]] at this
    exact this.mono fun e w' ⟨a5, c5, q1, q2, q3, q5⟩ => ⟨a5, c5, q1, q5⟩
  have hJ : (writeE d epoch o != 0) = true := by rw [bne_iff_ne]; exact hw
  generalize writeE d epoch o = q at *
  generalize (acqD d who now).ep = r0 at *
  generalize (acqD d who now).h = r1 at *
  generalize (acqD d who now).u = r2 at *
  generalize (acqD d who now).l.length = rN at *
  generalize (acqD d who now).l = rl at *
  generalize d.ep = d0 at *
  generalize d.h = d1 at *
  generalize d.u = d2 at *
  generalize d.l.length = dN at *
  generalize d.l = dl at *
  generalize o.k = y0 at *
  generalize o.p.v = y1 at *
  generalize o.p.hi = y2 at *
  generalize o.p.lo = y3 at *
  generalize o.p.b = y4 at *
  generalize o.a.v = y5 at *
  generalize o.a.hi = y6 at *
  generalize o.a.lo = y7 at *
  generalize o.who = y8 at *
  generalize o.pof = y9 at *
  generalize o.n = y10 at *
  clear hs hc ha hw hb
  have HB0 : Hid (FeAt w ((w.alloc (.cells #[.int .i64 d0, .int .i64 d1, .int .i64 d2, .slice a dN c] 26)).alloc (.cells #[.int .i64 y0, .bool y1, .int .u64 y2, .int .u64 y3, .int .i64 y4, .bool y5, .int .u64 y6, .int .u64 y7, .string y8, .int .i64 y9, .int .i64 y10] 33)) [.int .i64 d0, .int .i64 d1, .int .i64 d2, .slice a dN c] [.int .i64 y0, .bool y1, .int .u64 y2, .int .u64 y3, .int .i64 y4, .bool y5, .int .u64 y6, .int .u64 y7, .string y8, .int .i64 y9, .int .i64 y10]) := feAt w _ _
  go_enter Tryz.func3, Tryz.ntmps3
  go_wp2_with fail
  refine (hF.out _).mono ?_
  rintro e w1 ⟨rfl, hb1⟩
  go_wp2_with fail
  refine (hG.out _).mono ?_
  rintro e w2 ⟨rfl, hb2⟩
  have HB2 := Lib.hid ((HB0.out.keep hb1).keep hb2)
  clear hb1 hb2 HB0 hF hG
  obtain ⟨p0, p1, p2, p3⟩ := HB2.out.d.four4
  go_wp2_with fail
  refine (hC.out _ HB2.out.below).mono ?_
  rintro e w3 ⟨rfl, hb3⟩
  have HB3 := Lib.hid (HB2.out.keep hb3)
  clear hb3 HB2 hC p0 p1 p2 p3
  obtain ⟨p0, p1, p2, p3⟩ := HB3.out.d.four4
  go_wp2_with fail
  refine (hA.out _ HB3.out.below).mono ?_
  rintro e w4 ⟨a4, c4, rfl, hc4, hl4, hb4⟩
  have kb : Below w4.heap.size w4 (w4.alloc (.cells #[.int .i64 r0, .int .i64 r1, .int .i64 r2, .slice a4 rN c4] 26)) := bal (Below.refl _ _) _
  have HB4 := Lib.hid ((HB3.out.keep hb4).keep kb)
  have HX4 : Hid (Blk (w4.alloc (.cells #[.int .i64 r0, .int .i64 r1, .int .i64 r2, .slice a4 rN c4] 26)) w4.heap.size 26 [.int .i64 r0, .int .i64 r1, .int .i64 r2, .slice a4 rN c4]) := Blk.new w4 _ _
  have HL4 := Lib.hid (hl4.below kb)
  have HC4 := Lib.hid hc4
  obtain ⟨xb, hxb⟩ : ∃ xb, xb = w4.heap.size := ⟨_, rfl⟩
  rw [← hxb] at HX4
  clear hb4 hl4 hc4 kb HB3 hA p0 p1 p2 p3
  clear hxb HX4 HL4 HC4
  have HBp := HB4
  clear HB4
  obtain ⟨p0, p1, p2, p3⟩ := HBp.out.d.four4
  have o0 := HBp.out.o.cell 0 _ rfl
  have o1 := HBp.out.o.cell 1 _ rfl
  have o2 := HBp.out.o.cell 2 _ rfl
  have o3 := HBp.out.o.cell 3 _ rfl
  have o4 := HBp.out.o.cell 4 _ rfl
  have o5 := HBp.out.o.cell 5 _ rfl
  have o6 := HBp.out.o.cell 6 _ rfl
  have o7 := HBp.out.o.cell 7 _ rfl
  have o8 := HBp.out.o.cell 8 _ rfl
  have o9 := HBp.out.o.cell 9 _ rfl
  have o10 := HBp.out.o.cell 10 _ rfl
  go_wp2_with fail
  refine (hW.out _ HBp.out.below).mono ?_
  rintro e w20 ⟨a20, c20, rfl, hb20⟩
  have HB20 := Lib.hid (HBp.out.keep (btr hb20 (bal (Below.refl _ _) (.cells #[.int .i64 0, .int .i64 0, .int .i64 0, .slice a20 0 c20] 26))))
  clear hb20 HBp hW p0 p1 p2 p3 o0 o1 o2 o3 o4 o5 o6 o7 o8 o9 o10
  go_wp2_with fail
  go_ret
  exact ⟨rfl, HB20.out.below⟩
set_option maxHeartbeats 32000000 in
set_option maxRecDepth 100000 in
theorem fe_ny (d : Dk) (a : Option Addr) (c : Nat) (who now epoch : Int) (o : Opd) (w : World) (hc : d.l.length ≤ c) (hs : Lies enE w a d.l) (hb : d.bad = 0) (ha : ¬ acqE d who now = 0) (hw : writeE d epoch o = 0) :
    Calls Tryz.prog 3 #[.agg #[.int .i64 d.ep, .int .i64 d.h, .int .i64 d.u, .slice a d.l.length c], .int .i64 who, .int .i64 now, .int .i64 epoch, .agg #[.int .i64 o.k, .bool o.p.v, .int .u64 o.p.hi, .int .u64 o.p.lo, .int .i64 o.p.b, .bool o.a.v, .int .u64 o.a.hi, .int .u64 o.a.lo, .string o.who, .int .i64 o.pof, .int .i64 o.n]] w fun e w' => e = .returned (.bool true) ∧ Below w.heap.size w w' := by
  have hF : Hid (∀ W : World, Calls Tryz.prog 4 #[] W fun e w' => e = .returned (.bool true) ∧ Below W.heap.size W w') := fbegun_any
  have hG : Hid (∀ W : World, Calls Tryz.prog 5 #[] W fun e w' => e = .returned (.bool true) ∧ Below W.heap.size W w') := logbegun_any
  have hC : Hid (∀ W : World, Below w.heap.size w W → Calls Tryz.prog 6 #[.agg #[.int .i64 d.ep, .int .i64 d.h, .int .i64 d.u, .slice a d.l.length c]] W fun e w' => e = .returned (.int .i64 d.bad) ∧ Below W.heap.size W w') := fun W hW => fcheck_any d.ep d.h d.u a c d.l W hc (hs.below hW)
  rw [hb] at hC
  have hA : Hid (∀ W : World, Below w.heap.size w W → Calls Tryz.prog 7 #[.agg #[.int .i64 d.ep, .int .i64 d.h, .int .i64 d.u, .slice a d.l.length c], .int .i64 who, .int .i64 now] W fun e w' => ∃ a' c', e = .returned (.tuple #[.agg #[.int .i64 (acqD d who now).ep, .int .i64 (acqD d who now).h, .int .i64 (acqD d who now).u, .slice a' (acqD d who now).l.length c'], .int .i64 (acqD d who now).ep, .int .i64 (acqE d who now)]) ∧ (acqD d who now).l.length ≤ c' ∧ Lies enE w' a' (acqD d who now).l ∧ Below W.heap.size W w') := fun W hW => (acq_any d a c who now W hc (hs.below hW)).mono fun e w' ⟨a', c', q1, q2, q3, q4, q5⟩ => ⟨a', c', q1, q2, q3, q5⟩
  have hI : (acqE d who now == 0) = false := by rw [beq_eq_false_iff_ne]; exact ha
  generalize acqE d who now = r at *
  have wz := write_zero hw
  have wb := write_beg hw
  have wg := write_good hw
  have hln : (d.l ++ [newE d.l epoch o]).length = d.l.length + 1 := by simp
  have hW : Hid (∀ W : World, Below w.heap.size w W → Calls Tryz.prog 8 #[.agg #[.int .i64 d.ep, .int .i64 d.h, .int .i64 d.u, .slice a d.l.length c], .int .i64 epoch, .agg #[.int .i64 o.k, .bool o.p.v, .int .u64 o.p.hi, .int .u64 o.p.lo, .int .i64 o.p.b, .bool o.a.v, .int .u64 o.a.hi, .int .u64 o.a.lo, .string o.who, .int .i64 o.pof, .int .i64 o.n]] W fun e w' => ∃ a' c', e = .returned (.tuple #[.agg #[.int .i64 d.ep, .int .i64 d.h, .int .i64 d.u, .slice a' (d.l.length + 1) c'], .int .i64 0]) ∧ d.l.length + 1 ≤ c' ∧ Lies enE w' a' (d.l ++ [newE d.l epoch o]) ∧ Below W.heap.size W w') := fun W hW => by
    have := fwrite_any d a c epoch o W hc (hs.below hW)
    rw [wz.2.2.2, hw] at this
    simp only [hln] at this
    exact this
  have hX : Hid (∀ (a' : Option Addr) (c' : Nat) (W : World), Below w.heap.size w W → d.l.length + 1 ≤ c' → Lies enE W a' (d.l ++ [newE d.l epoch o]) → Calls Tryz.prog 11 #[.slice a d.l.length c, .slice a' (d.l.length + 1) c'] W fun e w' => e = .returned (.tuple #[.bool true, .int .i64 0]) ∧ Below W.heap.size W w') := fun a' c' W hW hc' hs' => by
    have := begins_any a a' c c' d.l (d.l ++ [newE d.l epoch o]) W hc (by omega) (hs.below hW) hs'
    rw [wb.1, wb.2, hln] at this
    exact this
  have hY : Hid (∀ (a' : Option Addr) (c' : Nat) (W : World), d.l.length + 1 ≤ c' → Lies enE W a' (d.l ++ [newE d.l epoch o]) → Calls Tryz.prog 6 #[.agg #[.int .i64 d.ep, .int .i64 d.h, .int .i64 d.u, .slice a' (d.l.length + 1) c']] W fun e w' => e = .returned (.int .i64 0) ∧ Below W.heap.size W w') := fun a' c' W hc' hs' => by
    have := fcheck_any d.ep d.h d.u a' c' (d.l ++ [newE d.l epoch o]) W (by omega) hs'
    rw [wg, hln] at this
    exact this
  have hQ : ∀ W : World, (binOp .eql 23 (.agg #[.int .i64 d.h, .int .i64 d.u]) (.agg #[.int .i64 d.h, .int .i64 d.u])).run Tryz.prog W = .ok (.bool true) W := fun W => eql_lock d.h d.u W
  have f8 : IntKind.i64.wrap ((d.l.length : Int) + 1) = (d.l.length : Int) + 1 := by rw [IntKind.wrap_i64]; have := logE_len wz.1.log; omega
  have f9 : (((d.l.length + 1 : Nat) : Int) == (d.l.length : Int) + 1) = true := by rw [beq_iff_eq]; omega
  have hep : epoch = d.ep := wz.2.1
  clear wz wb wg hln
  generalize d.l ++ [newE d.l epoch o] = xl at *
  subst hep
  generalize (acqD d who now).ep = r0 at *
  generalize (acqD d who now).h = r1 at *
  generalize (acqD d who now).u = r2 at *
  generalize (acqD d who now).l.length = rN at *
  generalize (acqD d who now).l = rl at *
  generalize d.ep = d0 at *
  generalize d.h = d1 at *
  generalize d.u = d2 at *
  generalize d.l.length = dN at *
  generalize d.l = dl at *
  generalize o.k = y0 at *
  generalize o.p.v = y1 at *
  generalize o.p.hi = y2 at *
  generalize o.p.lo = y3 at *
  generalize o.p.b = y4 at *
  generalize o.a.v = y5 at *
  generalize o.a.hi = y6 at *
  generalize o.a.lo = y7 at *
  generalize o.who = y8 at *
  generalize o.pof = y9 at *
  generalize o.n = y10 at *
  clear hs hc ha hw hb
  have HB0 : Hid (FeAt w ((w.alloc (.cells #[.int .i64 d0, .int .i64 d1, .int .i64 d2, .slice a dN c] 26)).alloc (.cells #[.int .i64 y0, .bool y1, .int .u64 y2, .int .u64 y3, .int .i64 y4, .bool y5, .int .u64 y6, .int .u64 y7, .string y8, .int .i64 y9, .int .i64 y10] 33)) [.int .i64 d0, .int .i64 d1, .int .i64 d2, .slice a dN c] [.int .i64 y0, .bool y1, .int .u64 y2, .int .u64 y3, .int .i64 y4, .bool y5, .int .u64 y6, .int .u64 y7, .string y8, .int .i64 y9, .int .i64 y10]) := feAt w _ _
  go_enter Tryz.func3, Tryz.ntmps3
  go_wp2_with fail
  refine (hF.out _).mono ?_
  rintro e w1 ⟨rfl, hb1⟩
  go_wp2_with fail
  refine (hG.out _).mono ?_
  rintro e w2 ⟨rfl, hb2⟩
  have HB2 := Lib.hid ((HB0.out.keep hb1).keep hb2)
  clear hb1 hb2 HB0 hF hG
  obtain ⟨p0, p1, p2, p3⟩ := HB2.out.d.four4
  go_wp2_with fail
  refine (hC.out _ HB2.out.below).mono ?_
  rintro e w3 ⟨rfl, hb3⟩
  have HB3 := Lib.hid (HB2.out.keep hb3)
  clear hb3 HB2 hC p0 p1 p2 p3
  obtain ⟨p0, p1, p2, p3⟩ := HB3.out.d.four4
  go_wp2_with fail
  refine (hA.out _ HB3.out.below).mono ?_
  rintro e w4 ⟨a4, c4, rfl, hc4, hl4, hb4⟩
  have kb : Below w4.heap.size w4 (w4.alloc (.cells #[.int .i64 r0, .int .i64 r1, .int .i64 r2, .slice a4 rN c4] 26)) := bal (Below.refl _ _) _
  have HB4 := Lib.hid ((HB3.out.keep hb4).keep kb)
  have HX4 : Hid (Blk (w4.alloc (.cells #[.int .i64 r0, .int .i64 r1, .int .i64 r2, .slice a4 rN c4] 26)) w4.heap.size 26 [.int .i64 r0, .int .i64 r1, .int .i64 r2, .slice a4 rN c4]) := Blk.new w4 _ _
  have HL4 := Lib.hid (hl4.below kb)
  have HC4 := Lib.hid hc4
  obtain ⟨xb, hxb⟩ : ∃ xb, xb = w4.heap.size := ⟨_, rfl⟩
  rw [← hxb] at HX4
  clear hb4 hl4 hc4 kb HB3 hA p0 p1 p2 p3
  clear hxb HX4 HL4 HC4
  have HBp := HB4
  clear HB4
  obtain ⟨p0, p1, p2, p3⟩ := HBp.out.d.four4
  have o0 := HBp.out.o.cell 0 _ rfl
  have o1 := HBp.out.o.cell 1 _ rfl
  have o2 := HBp.out.o.cell 2 _ rfl
  have o3 := HBp.out.o.cell 3 _ rfl
  have o4 := HBp.out.o.cell 4 _ rfl
  have o5 := HBp.out.o.cell 5 _ rfl
  have o6 := HBp.out.o.cell 6 _ rfl
  have o7 := HBp.out.o.cell 7 _ rfl
  have o8 := HBp.out.o.cell 8 _ rfl
  have o9 := HBp.out.o.cell 9 _ rfl
  have o10 := HBp.out.o.cell 10 _ rfl
  go_wp2_with fail
  refine (hW.out _ HBp.out.below).mono ?_
  rintro e w20 ⟨a20, c20, rfl, hc20, hl20, hb20⟩
  have kb : Below w20.heap.size w20 (w20.alloc (.cells #[.int .i64 d0, .int .i64 d1, .int .i64 d2, .slice a20 (dN + 1) c20] 26)) := bal (Below.refl _ _) _
  have HB20 := Lib.hid ((HBp.out.keep hb20).keep kb)
  have HX20 : Hid (Blk (w20.alloc (.cells #[.int .i64 d0, .int .i64 d1, .int .i64 d2, .slice a20 (dN + 1) c20] 26)) w20.heap.size 26 [.int .i64 d0, .int .i64 d1, .int .i64 d2, .slice a20 (dN + 1) c20]) := Blk.new w20 _ _
  have HL20 := Lib.hid (hl20.below kb)
  have HC20 := Lib.hid hc20
  clear hb20 hl20 hc20 kb HBp hW p0 p1 p2 p3 o0 o1 o2 o3 o4 o5 o6 o7 o8 o9 o10
  obtain ⟨w21, hw21⟩ : ∃ W, W = w20.alloc (.cells #[.int .i64 d0, .int .i64 d1, .int .i64 d2, .slice a20 (dN + 1) c20] 26) := ⟨_, rfl⟩
  obtain ⟨yb, hyb⟩ : ∃ yb, yb = w20.heap.size := ⟨_, rfl⟩
  rw [← hw21] at HB20 HX20 HL20
  obtain ⟨p0, p1, p2, p3⟩ := HB20.out.d.four4
  obtain ⟨s0, s1, s2, s3⟩ := HX20.out.four4
  rw [hw21] at p0 p1 p2 p3 s0 s1 s2 s3
  go_wp2_with fail
  rw [← hw21, ← hyb]
  rw [← hyb] at HX20
  clear hw21 hyb p0 p1 p2 p3 s0 s1 s2 s3
  refine (hX.out _ _ _ HB20.out.below HC20.out HL20.out).mono ?_
  rintro e w22 ⟨rfl, hb22⟩
  have HB22 := Lib.hid (HB20.out.keep hb22)
  have HX22 := Lib.hid (HX20.out.below hb22)
  have HL22 := Lib.hid (HL20.out.below hb22)
  clear hb22 HB20 HX20 HL20 hX
  obtain ⟨p0, p1, p2, p3⟩ := HB22.out.d.four4
  obtain ⟨s0, s1, s2, s3⟩ := HX22.out.four4
  go_wp2_with fail
  refine (hY.out _ _ _ HC20.out HL22.out).mono ?_
  rintro e w23 ⟨rfl, hb23⟩
  have HB23 := Lib.hid (HB22.out.keep hb23)
  clear hb23 HB22 HX22 HL22 hY p0 p1 p2 p3 s0 s1 s2 s3
  go_wp2_with fail
  go_ret
  exact ⟨rfl, HB23.out.below⟩
set_option maxHeartbeats 32000000 in
set_option maxRecDepth 100000 in
theorem fe_yn (d : Dk) (a : Option Addr) (c : Nat) (who now epoch : Int) (o : Opd) (w : World) (hc : d.l.length ≤ c) (hs : Lies enE w a d.l) (hb : d.bad = 0) (ha : acqE d who now = 0) (hw : ¬ writeE d epoch o = 0) :
    Calls Tryz.prog 3 #[.agg #[.int .i64 d.ep, .int .i64 d.h, .int .i64 d.u, .slice a d.l.length c], .int .i64 who, .int .i64 now, .int .i64 epoch, .agg #[.int .i64 o.k, .bool o.p.v, .int .u64 o.p.hi, .int .u64 o.p.lo, .int .i64 o.p.b, .bool o.a.v, .int .u64 o.a.hi, .int .u64 o.a.lo, .string o.who, .int .i64 o.pof, .int .i64 o.n]] w fun e w' => e = .returned (.bool true) ∧ Below w.heap.size w w' := by
  have hF : Hid (∀ W : World, Calls Tryz.prog 4 #[] W fun e w' => e = .returned (.bool true) ∧ Below W.heap.size W w') := fbegun_any
  have hG : Hid (∀ W : World, Calls Tryz.prog 5 #[] W fun e w' => e = .returned (.bool true) ∧ Below W.heap.size W w') := logbegun_any
  have hC : Hid (∀ W : World, Below w.heap.size w W → Calls Tryz.prog 6 #[.agg #[.int .i64 d.ep, .int .i64 d.h, .int .i64 d.u, .slice a d.l.length c]] W fun e w' => e = .returned (.int .i64 d.bad) ∧ Below W.heap.size W w') := fun W hW => fcheck_any d.ep d.h d.u a c d.l W hc (hs.below hW)
  rw [hb] at hC
  have hA : Hid (∀ W : World, Below w.heap.size w W → Calls Tryz.prog 7 #[.agg #[.int .i64 d.ep, .int .i64 d.h, .int .i64 d.u, .slice a d.l.length c], .int .i64 who, .int .i64 now] W fun e w' => ∃ a' c', e = .returned (.tuple #[.agg #[.int .i64 (acqD d who now).ep, .int .i64 (acqD d who now).h, .int .i64 (acqD d who now).u, .slice a' (acqD d who now).l.length c'], .int .i64 (acqD d who now).ep, .int .i64 (acqE d who now)]) ∧ (acqD d who now).l.length ≤ c' ∧ Lies enE w' a' (acqD d who now).l ∧ Below W.heap.size W w') := fun W hW => (acq_any d a c who now W hc (hs.below hW)).mono fun e w' ⟨a', c', q1, q2, q3, q4, q5⟩ => ⟨a', c', q1, q2, q3, q5⟩
  have g := acq_good ha
  have z := acq_zero ha
  have hO : Hid (∀ (a' : Option Addr) (c' : Nat) (W : World), (acqD d who now).l.length ≤ c' → Lies enE W a' (acqD d who now).l → Calls Tryz.prog 7 #[.agg #[.int .i64 (acqD d who now).ep, .int .i64 (acqD d who now).h, .int .i64 (acqD d who now).u, .slice a' (acqD d who now).l.length c'], .int .i64 (3 - who), .int .i64 now] W fun e w' => ∃ a5 c5, e = .returned (.tuple #[.agg #[.int .i64 0, .int .i64 0, .int .i64 0, .slice a5 0 c5], .int .i64 0, .int .i64 4]) ∧ Below W.heap.size W w') := fun a' c' W hc' hs' => by
    have := acq_any (acqD d who now) a' c' (3 - who) now W hc' hs'
    rw [show acqD (acqD d who now) (3 - who) now = noDk by rw [acqD, if_neg (by rw [fe_other ha]; decide)], fe_other ha] at this
    exact this.mono fun e w' ⟨a5, c5, q1, q2, q3, q4, q5⟩ => ⟨a5, c5, q1, q5⟩
  have hE : Hid (∀ (a' : Option Addr) (c' : Nat) (W : World), (acqD d who now).l.length ≤ c' → Lies enE W a' (acqD d who now).l → Calls Tryz.prog 8 #[.agg #[.int .i64 (acqD d who now).ep, .int .i64 (acqD d who now).h, .int .i64 (acqD d who now).u, .slice a' (acqD d who now).l.length c'], .int .i64 ((acqD d who now).ep - 1), .agg #[.int .i64 o.k, .bool o.p.v, .int .u64 o.p.hi, .int .u64 o.p.lo, .int .i64 o.p.b, .bool o.a.v, .int .u64 o.a.hi, .int .u64 o.a.lo, .string o.who, .int .i64 o.pof, .int .i64 o.n]] W fun e w' => ∃ a5 c5, e = .returned (.tuple #[.agg #[.int .i64 0, .int .i64 0, .int .i64 0, .slice a5 0 c5], .int .i64 4]) ∧ Below W.heap.size W w') := fun a' c' W hc' hs' => by
    have := fwrite_any (acqD d who now) a' c' ((acqD d who now).ep - 1) o W hc' hs'
    rw [show writeD (acqD d who now) ((acqD d who now).ep - 1) o = noDk by rw [writeD, if_neg (by rw [fe_elder o ha]; decide)], fe_elder o ha] at this
    exact this.mono fun e w' ⟨a5, c5, q1, q2, q3, q5⟩ => ⟨a5, c5, q1, q5⟩
  have hS : Hid (∀ (a' : Option Addr) (c' : Nat) (W : World), Below w.heap.size w W → Lies enE W a' (acqD d who now).l → Calls Tryz.prog 9 #[.slice a' (acqD d who now).l.length c', .slice a d.l.length c] W fun e w' => e = .returned (.bool true) ∧ Below W.heap.size W w') := fun a' c' W hW hs' => by
    rw [g.2.2.2.2.1] at hs' ⊢
    exact rsame_log a' a c' c d.l W (by have := logE_len ((bad_iff d).1 z.1).log; omega) hs' (hs.below hW)
  have hK : Hid (∀ (a' : Option Addr) (c' : Nat) (W : World), (acqD d who now).l.length ≤ c' → Lies enE W a' (acqD d who now).l → Calls Tryz.prog 6 #[.agg #[.int .i64 (acqD d who now).ep, .int .i64 (acqD d who now).h, .int .i64 (acqD d who now).u, .slice a' (acqD d who now).l.length c']] W fun e w' => e = .returned (.int .i64 0) ∧ Below W.heap.size W w') := fun a' c' W hc' hs' => by
    have := fcheck_any (acqD d who now).ep (acqD d who now).h (acqD d who now).u a' c' (acqD d who now).l W hc' hs'
    rw [show diskE (acqD d who now).ep (acqD d who now).h (acqD d who now).u (acqD d who now).l = 0 from (bad_iff _).2 g.1] at this
    exact this
  have hN : Hid (∀ (a' : Option Addr) (c' : Nat) (W : World), (acqD d who now).l.length ≤ c' → Lies enE W a' (acqD d who now).l → Calls Tryz.prog 7 #[.agg #[.int .i64 (acqD d who now).ep, .int .i64 (acqD d who now).h, .int .i64 (acqD d who now).u, .slice a' (acqD d who now).l.length c'], .int .i64 who, .int .i64 now] W fun e w' => ∃ a5 c5, e = .returned (.tuple #[.agg #[.int .i64 (acqD d who now).ep, .int .i64 (acqD d who now).h, .int .i64 (acqD d who now).u, .slice a5 (acqD d who now).l.length c5], .int .i64 (acqD d who now).ep, .int .i64 0]) ∧ Lies enE w' a5 (acqD d who now).l ∧ Below W.heap.size W w') := fun a' c' W hc' hs' => by
    have := acq_any (acqD d who now) a' c' who now W hc' hs'
    rw [(fe_same ha).1, (fe_same ha).2] at this
    exact this.mono fun e w' ⟨a5, c5, q1, q2, q3, q4, q5⟩ => ⟨a5, c5, q1, q3, q5⟩
  have hM : Hid (∀ (a' a5 : Option Addr) (c' c5 : Nat) (W : World), Lies enE W a' (acqD d who now).l → Lies enE W a5 (acqD d who now).l → Calls Tryz.prog 10 #[.agg #[.int .i64 (acqD d who now).ep, .int .i64 (acqD d who now).h, .int .i64 (acqD d who now).u, .slice a' (acqD d who now).l.length c'], .agg #[.int .i64 (acqD d who now).ep, .int .i64 (acqD d who now).h, .int .i64 (acqD d who now).u, .slice a5 (acqD d who now).l.length c5]] W fun e w' => e = .returned (.bool true) ∧ Below W.heap.size W w') := fun a' a5 c' c5 W h1 h2 => rsame_disk (acqD d who now) a' a5 c' c5 W (by have := logE_len g.1.log; omega) h1 h2
  have f1 : decide ((acqD d who now).ep < d.ep) = false := decide_eq_false (by have := g.2.2.2.2.2.1; omega)
  have f2 : decide (d.ep + 1 < (acqD d who now).ep) = false := decide_eq_false (by have := g.2.2.2.2.2.2; omega)
  have f3 : IntKind.i64.wrap (3 - who) = 3 - who := by rw [IntKind.wrap_i64]; have := z.2.1; omega
  have f4 : IntKind.i64.wrap ((acqD d who now).ep - 1) = (acqD d who now).ep - 1 := by rw [IntKind.wrap_i64]; have := g.1.ep; omega
  have f5 : IntKind.i64.wrap (d.ep + 1) = d.ep + 1 := by rw [IntKind.wrap_i64]; have := ((bad_iff d).1 z.1).ep; omega
  have f6 : ¬ (acqD d who now).ep < d.ep := by have := g.2.2.2.2.2.1; omega
  have f7 : ¬ d.ep + 1 < (acqD d who now).ep := by have := g.2.2.2.2.2.2; omega
  rw [ha] at hA
  clear g z
  have hW : Hid (∀ W : World, Below w.heap.size w W → Calls Tryz.prog 8 #[.agg #[.int .i64 d.ep, .int .i64 d.h, .int .i64 d.u, .slice a d.l.length c], .int .i64 epoch, .agg #[.int .i64 o.k, .bool o.p.v, .int .u64 o.p.hi, .int .u64 o.p.lo, .int .i64 o.p.b, .bool o.a.v, .int .u64 o.a.hi, .int .u64 o.a.lo, .string o.who, .int .i64 o.pof, .int .i64 o.n]] W fun e w' => ∃ a' c', e = .returned (.tuple #[.agg #[.int .i64 0, .int .i64 0, .int .i64 0, .slice a' 0 c'], .int .i64 (writeE d epoch o)]) ∧ Below W.heap.size W w') := fun W hW => by
    have := fwrite_any d a c epoch o W hc (hs.below hW)
    rw [show writeD d epoch o = noDk by rw [writeD, if_neg hw]] at this
    exact this.mono fun e w' ⟨a5, c5, q1, q2, q3, q5⟩ => ⟨a5, c5, q1, q5⟩
  have hJ : (writeE d epoch o != 0) = true := by rw [bne_iff_ne]; exact hw
  generalize writeE d epoch o = q at *
  generalize (acqD d who now).ep = r0 at *
  generalize (acqD d who now).h = r1 at *
  generalize (acqD d who now).u = r2 at *
  generalize (acqD d who now).l.length = rN at *
  generalize (acqD d who now).l = rl at *
  generalize d.ep = d0 at *
  generalize d.h = d1 at *
  generalize d.u = d2 at *
  generalize d.l.length = dN at *
  generalize d.l = dl at *
  generalize o.k = y0 at *
  generalize o.p.v = y1 at *
  generalize o.p.hi = y2 at *
  generalize o.p.lo = y3 at *
  generalize o.p.b = y4 at *
  generalize o.a.v = y5 at *
  generalize o.a.hi = y6 at *
  generalize o.a.lo = y7 at *
  generalize o.who = y8 at *
  generalize o.pof = y9 at *
  generalize o.n = y10 at *
  clear hs hc ha hw hb
  have HB0 : Hid (FeAt w ((w.alloc (.cells #[.int .i64 d0, .int .i64 d1, .int .i64 d2, .slice a dN c] 26)).alloc (.cells #[.int .i64 y0, .bool y1, .int .u64 y2, .int .u64 y3, .int .i64 y4, .bool y5, .int .u64 y6, .int .u64 y7, .string y8, .int .i64 y9, .int .i64 y10] 33)) [.int .i64 d0, .int .i64 d1, .int .i64 d2, .slice a dN c] [.int .i64 y0, .bool y1, .int .u64 y2, .int .u64 y3, .int .i64 y4, .bool y5, .int .u64 y6, .int .u64 y7, .string y8, .int .i64 y9, .int .i64 y10]) := feAt w _ _
  go_enter Tryz.func3, Tryz.ntmps3
  go_wp2_with fail
  refine (hF.out _).mono ?_
  rintro e w1 ⟨rfl, hb1⟩
  go_wp2_with fail
  refine (hG.out _).mono ?_
  rintro e w2 ⟨rfl, hb2⟩
  have HB2 := Lib.hid ((HB0.out.keep hb1).keep hb2)
  clear hb1 hb2 HB0 hF hG
  obtain ⟨p0, p1, p2, p3⟩ := HB2.out.d.four4
  go_wp2_with fail
  refine (hC.out _ HB2.out.below).mono ?_
  rintro e w3 ⟨rfl, hb3⟩
  have HB3 := Lib.hid (HB2.out.keep hb3)
  clear hb3 HB2 hC p0 p1 p2 p3
  obtain ⟨p0, p1, p2, p3⟩ := HB3.out.d.four4
  go_wp2_with fail
  refine (hA.out _ HB3.out.below).mono ?_
  rintro e w4 ⟨a4, c4, rfl, hc4, hl4, hb4⟩
  have kb : Below w4.heap.size w4 (w4.alloc (.cells #[.int .i64 r0, .int .i64 r1, .int .i64 r2, .slice a4 rN c4] 26)) := bal (Below.refl _ _) _
  have HB4 := Lib.hid ((HB3.out.keep hb4).keep kb)
  have HX4 : Hid (Blk (w4.alloc (.cells #[.int .i64 r0, .int .i64 r1, .int .i64 r2, .slice a4 rN c4] 26)) w4.heap.size 26 [.int .i64 r0, .int .i64 r1, .int .i64 r2, .slice a4 rN c4]) := Blk.new w4 _ _
  have HL4 := Lib.hid (hl4.below kb)
  have HC4 := Lib.hid hc4
  obtain ⟨xb, hxb⟩ : ∃ xb, xb = w4.heap.size := ⟨_, rfl⟩
  rw [← hxb] at HX4
  clear hb4 hl4 hc4 kb HB3 hA p0 p1 p2 p3
  obtain ⟨p0, p1, p2, p3⟩ := HX4.out.four4
  rw [hxb] at p0 p1 p2 p3
  obtain ⟨w5, hw5⟩ : ∃ W, W = w4.alloc (.cells #[.int .i64 r0, .int .i64 r1, .int .i64 r2, .slice a4 rN c4] 26) := ⟨_, rfl⟩
  go_wp2_with fail
  rw [← hxb]
  rw [← hw5] at HB4 HX4 HL4 ⊢
  clear hw5 hxb
  refine (hO.out _ _ _ HC4.out HL4.out).mono ?_
  rintro e w6 ⟨a6, c6, rfl, hb6⟩
  have k6 := btr hb6 (bal (Below.refl _ _) (.cells #[.int .i64 0, .int .i64 0, .int .i64 0, .slice a6 0 c6] 26))
  have HB6 := Lib.hid (HB4.out.keep k6)
  have HX6 := Lib.hid (HX4.out.below k6)
  have HL6 := Lib.hid (HL4.out.below k6)
  clear hb6 k6 HB4 HX4 HL4 hO p0 p1 p2 p3
  obtain ⟨w7, hw7⟩ : ∃ W, W = w6.alloc (.cells #[.int .i64 0, .int .i64 0, .int .i64 0, .slice a6 0 c6] 26) := ⟨_, rfl⟩
  rw [← hw7] at HB6 HX6 HL6
  obtain ⟨p0, p1, p2, p3⟩ := HX6.out.four4
  have o0 := HB6.out.o.cell 0 _ rfl
  have o1 := HB6.out.o.cell 1 _ rfl
  have o2 := HB6.out.o.cell 2 _ rfl
  have o3 := HB6.out.o.cell 3 _ rfl
  have o4 := HB6.out.o.cell 4 _ rfl
  have o5 := HB6.out.o.cell 5 _ rfl
  have o6 := HB6.out.o.cell 6 _ rfl
  have o7 := HB6.out.o.cell 7 _ rfl
  have o8 := HB6.out.o.cell 8 _ rfl
  have o9 := HB6.out.o.cell 9 _ rfl
  have o10 := HB6.out.o.cell 10 _ rfl
  rw [hw7] at p0 p1 p2 p3 o0 o1 o2 o3 o4 o5 o6 o7 o8 o9 o10
  go_wp2_with fail
  rw [← hw7]
  clear hw7 p0 p1 p2 p3 o0 o1 o2 o3 o4 o5 o6 o7 o8 o9 o10
  refine (hE.out _ _ _ HC4.out HL6.out).mono ?_
  rintro e w8 ⟨a8, c8, rfl, hb8⟩
  have k8 := btr hb8 (bal (Below.refl _ _) (.cells #[.int .i64 0, .int .i64 0, .int .i64 0, .slice a8 0 c8] 26))
  have HB8 := Lib.hid (HB6.out.keep k8)
  have HX8 := Lib.hid (HX6.out.below k8)
  have HL8 := Lib.hid (HL6.out.below k8)
  clear hb8 k8 HB6 HX6 HL6 hE
  obtain ⟨w9, hw9⟩ : ∃ W, W = w8.alloc (.cells #[.int .i64 0, .int .i64 0, .int .i64 0, .slice a8 0 c8] 26) := ⟨_, rfl⟩
  rw [← hw9] at HB8 HX8 HL8
  obtain ⟨p0, p1, p2, p3⟩ := HX8.out.four4
  obtain ⟨s0, s1, s2, s3⟩ := HB8.out.d.four4
  rw [hw9] at p0 p1 p2 p3 s0 s1 s2 s3
  go_wp2_with fail
  rw [← hw9]
  clear hw9 p0 p1 p2 p3 s0 s1 s2 s3
  refine (hS.out _ _ _ HB8.out.below HL8.out).mono ?_
  rintro e w10 ⟨rfl, hb10⟩
  have HB10 := Lib.hid (HB8.out.keep hb10)
  have HX10 := Lib.hid (HX8.out.below hb10)
  have HL10 := Lib.hid (HL8.out.below hb10)
  clear hb10 HB8 HX8 HL8 hS
  obtain ⟨p0, p1, p2, p3⟩ := HX10.out.four4
  go_wp2_with fail
  refine (hK.out _ _ _ HC4.out HL10.out).mono ?_
  rintro e w11 ⟨rfl, hb11⟩
  have HB11 := Lib.hid (HB10.out.keep hb11)
  have HX11 := Lib.hid (HX10.out.below hb11)
  have HL11 := Lib.hid (HL10.out.below hb11)
  clear hb11 HB10 HX10 HL10 hK p0 p1 p2 p3
  obtain ⟨p0, p1, p2, p3⟩ := HX11.out.four4
  go_wp2_with fail
  refine (hN.out _ _ _ HC4.out HL11.out).mono ?_
  rintro e w12 ⟨a12, c12, rfl, hl12, hb12⟩
  have kb : Below w12.heap.size w12 (w12.alloc (.cells #[.int .i64 r0, .int .i64 r1, .int .i64 r2, .slice a12 rN c12] 26)) := bal (Below.refl _ _) _
  have HB12 := Lib.hid ((HB11.out.keep hb12).keep kb)
  have HX12 := Lib.hid ((HX11.out.below hb12).below kb)
  have HY12 : Hid (Blk (w12.alloc (.cells #[.int .i64 r0, .int .i64 r1, .int .i64 r2, .slice a12 rN c12] 26)) w12.heap.size 26 [.int .i64 r0, .int .i64 r1, .int .i64 r2, .slice a12 rN c12]) := Blk.new w12 _ _
  have HL12 := Lib.hid ((HL11.out.below hb12).below kb)
  have HM12 := Lib.hid (hl12.below kb)
  clear hb12 hl12 kb HB11 HX11 HL11 hN p0 p1 p2 p3
  obtain ⟨w13, hw13⟩ : ∃ W, W = w12.alloc (.cells #[.int .i64 r0, .int .i64 r1, .int .i64 r2, .slice a12 rN c12] 26) := ⟨_, rfl⟩
  rw [← hw13] at HB12 HX12 HY12 HL12 HM12
  obtain ⟨p0, p1, p2, p3⟩ := HX12.out.four4
  obtain ⟨s0, s1, s2, s3⟩ := HY12.out.four4
  rw [hw13] at p0 p1 p2 p3 s0 s1 s2 s3
  go_wp2_with fail
  rw [← hw13]
  clear hw13 p0 p1 p2 p3 s0 s1 s2 s3
  refine (hM.out _ _ _ _ _ HL12.out HM12.out).mono ?_
  rintro e w14 ⟨rfl, hb14⟩
  have HBp := Lib.hid (HB12.out.keep hb14)
  clear hb14 HB12 HX12 HY12 HL12 HM12 hM
  obtain ⟨p0, p1, p2, p3⟩ := HBp.out.d.four4
  have o0 := HBp.out.o.cell 0 _ rfl
  have o1 := HBp.out.o.cell 1 _ rfl
  have o2 := HBp.out.o.cell 2 _ rfl
  have o3 := HBp.out.o.cell 3 _ rfl
  have o4 := HBp.out.o.cell 4 _ rfl
  have o5 := HBp.out.o.cell 5 _ rfl
  have o6 := HBp.out.o.cell 6 _ rfl
  have o7 := HBp.out.o.cell 7 _ rfl
  have o8 := HBp.out.o.cell 8 _ rfl
  have o9 := HBp.out.o.cell 9 _ rfl
  have o10 := HBp.out.o.cell 10 _ rfl
  go_wp2_with fail
  refine (hW.out _ HBp.out.below).mono ?_
  rintro e w20 ⟨a20, c20, rfl, hb20⟩
  have HB20 := Lib.hid (HBp.out.keep (btr hb20 (bal (Below.refl _ _) (.cells #[.int .i64 0, .int .i64 0, .int .i64 0, .slice a20 0 c20] 26))))
  clear hb20 HBp hW p0 p1 p2 p3 o0 o1 o2 o3 o4 o5 o6 o7 o8 o9 o10
  go_wp2_with fail
  go_ret
  exact ⟨rfl, HB20.out.below⟩
set_option maxHeartbeats 32000000 in
set_option maxRecDepth 100000 in
theorem fe_yy (d : Dk) (a : Option Addr) (c : Nat) (who now epoch : Int) (o : Opd) (w : World) (hc : d.l.length ≤ c) (hs : Lies enE w a d.l) (hb : d.bad = 0) (ha : acqE d who now = 0) (hw : writeE d epoch o = 0) :
    Calls Tryz.prog 3 #[.agg #[.int .i64 d.ep, .int .i64 d.h, .int .i64 d.u, .slice a d.l.length c], .int .i64 who, .int .i64 now, .int .i64 epoch, .agg #[.int .i64 o.k, .bool o.p.v, .int .u64 o.p.hi, .int .u64 o.p.lo, .int .i64 o.p.b, .bool o.a.v, .int .u64 o.a.hi, .int .u64 o.a.lo, .string o.who, .int .i64 o.pof, .int .i64 o.n]] w fun e w' => e = .returned (.bool true) ∧ Below w.heap.size w w' := by
  have hF : Hid (∀ W : World, Calls Tryz.prog 4 #[] W fun e w' => e = .returned (.bool true) ∧ Below W.heap.size W w') := fbegun_any
  have hG : Hid (∀ W : World, Calls Tryz.prog 5 #[] W fun e w' => e = .returned (.bool true) ∧ Below W.heap.size W w') := logbegun_any
  have hC : Hid (∀ W : World, Below w.heap.size w W → Calls Tryz.prog 6 #[.agg #[.int .i64 d.ep, .int .i64 d.h, .int .i64 d.u, .slice a d.l.length c]] W fun e w' => e = .returned (.int .i64 d.bad) ∧ Below W.heap.size W w') := fun W hW => fcheck_any d.ep d.h d.u a c d.l W hc (hs.below hW)
  rw [hb] at hC
  have hA : Hid (∀ W : World, Below w.heap.size w W → Calls Tryz.prog 7 #[.agg #[.int .i64 d.ep, .int .i64 d.h, .int .i64 d.u, .slice a d.l.length c], .int .i64 who, .int .i64 now] W fun e w' => ∃ a' c', e = .returned (.tuple #[.agg #[.int .i64 (acqD d who now).ep, .int .i64 (acqD d who now).h, .int .i64 (acqD d who now).u, .slice a' (acqD d who now).l.length c'], .int .i64 (acqD d who now).ep, .int .i64 (acqE d who now)]) ∧ (acqD d who now).l.length ≤ c' ∧ Lies enE w' a' (acqD d who now).l ∧ Below W.heap.size W w') := fun W hW => (acq_any d a c who now W hc (hs.below hW)).mono fun e w' ⟨a', c', q1, q2, q3, q4, q5⟩ => ⟨a', c', q1, q2, q3, q5⟩
  have g := acq_good ha
  have z := acq_zero ha
  have hO : Hid (∀ (a' : Option Addr) (c' : Nat) (W : World), (acqD d who now).l.length ≤ c' → Lies enE W a' (acqD d who now).l → Calls Tryz.prog 7 #[.agg #[.int .i64 (acqD d who now).ep, .int .i64 (acqD d who now).h, .int .i64 (acqD d who now).u, .slice a' (acqD d who now).l.length c'], .int .i64 (3 - who), .int .i64 now] W fun e w' => ∃ a5 c5, e = .returned (.tuple #[.agg #[.int .i64 0, .int .i64 0, .int .i64 0, .slice a5 0 c5], .int .i64 0, .int .i64 4]) ∧ Below W.heap.size W w') := fun a' c' W hc' hs' => by
    have := acq_any (acqD d who now) a' c' (3 - who) now W hc' hs'
    rw [show acqD (acqD d who now) (3 - who) now = noDk by rw [acqD, if_neg (by rw [fe_other ha]; decide)], fe_other ha] at this
    exact this.mono fun e w' ⟨a5, c5, q1, q2, q3, q4, q5⟩ => ⟨a5, c5, q1, q5⟩
  have hE : Hid (∀ (a' : Option Addr) (c' : Nat) (W : World), (acqD d who now).l.length ≤ c' → Lies enE W a' (acqD d who now).l → Calls Tryz.prog 8 #[.agg #[.int .i64 (acqD d who now).ep, .int .i64 (acqD d who now).h, .int .i64 (acqD d who now).u, .slice a' (acqD d who now).l.length c'], .int .i64 ((acqD d who now).ep - 1), .agg #[.int .i64 o.k, .bool o.p.v, .int .u64 o.p.hi, .int .u64 o.p.lo, .int .i64 o.p.b, .bool o.a.v, .int .u64 o.a.hi, .int .u64 o.a.lo, .string o.who, .int .i64 o.pof, .int .i64 o.n]] W fun e w' => ∃ a5 c5, e = .returned (.tuple #[.agg #[.int .i64 0, .int .i64 0, .int .i64 0, .slice a5 0 c5], .int .i64 4]) ∧ Below W.heap.size W w') := fun a' c' W hc' hs' => by
    have := fwrite_any (acqD d who now) a' c' ((acqD d who now).ep - 1) o W hc' hs'
    rw [show writeD (acqD d who now) ((acqD d who now).ep - 1) o = noDk by rw [writeD, if_neg (by rw [fe_elder o ha]; decide)], fe_elder o ha] at this
    exact this.mono fun e w' ⟨a5, c5, q1, q2, q3, q5⟩ => ⟨a5, c5, q1, q5⟩
  have hS : Hid (∀ (a' : Option Addr) (c' : Nat) (W : World), Below w.heap.size w W → Lies enE W a' (acqD d who now).l → Calls Tryz.prog 9 #[.slice a' (acqD d who now).l.length c', .slice a d.l.length c] W fun e w' => e = .returned (.bool true) ∧ Below W.heap.size W w') := fun a' c' W hW hs' => by
    rw [g.2.2.2.2.1] at hs' ⊢
    exact rsame_log a' a c' c d.l W (by have := logE_len ((bad_iff d).1 z.1).log; omega) hs' (hs.below hW)
  have hK : Hid (∀ (a' : Option Addr) (c' : Nat) (W : World), (acqD d who now).l.length ≤ c' → Lies enE W a' (acqD d who now).l → Calls Tryz.prog 6 #[.agg #[.int .i64 (acqD d who now).ep, .int .i64 (acqD d who now).h, .int .i64 (acqD d who now).u, .slice a' (acqD d who now).l.length c']] W fun e w' => e = .returned (.int .i64 0) ∧ Below W.heap.size W w') := fun a' c' W hc' hs' => by
    have := fcheck_any (acqD d who now).ep (acqD d who now).h (acqD d who now).u a' c' (acqD d who now).l W hc' hs'
    rw [show diskE (acqD d who now).ep (acqD d who now).h (acqD d who now).u (acqD d who now).l = 0 from (bad_iff _).2 g.1] at this
    exact this
  have hN : Hid (∀ (a' : Option Addr) (c' : Nat) (W : World), (acqD d who now).l.length ≤ c' → Lies enE W a' (acqD d who now).l → Calls Tryz.prog 7 #[.agg #[.int .i64 (acqD d who now).ep, .int .i64 (acqD d who now).h, .int .i64 (acqD d who now).u, .slice a' (acqD d who now).l.length c'], .int .i64 who, .int .i64 now] W fun e w' => ∃ a5 c5, e = .returned (.tuple #[.agg #[.int .i64 (acqD d who now).ep, .int .i64 (acqD d who now).h, .int .i64 (acqD d who now).u, .slice a5 (acqD d who now).l.length c5], .int .i64 (acqD d who now).ep, .int .i64 0]) ∧ Lies enE w' a5 (acqD d who now).l ∧ Below W.heap.size W w') := fun a' c' W hc' hs' => by
    have := acq_any (acqD d who now) a' c' who now W hc' hs'
    rw [(fe_same ha).1, (fe_same ha).2] at this
    exact this.mono fun e w' ⟨a5, c5, q1, q2, q3, q4, q5⟩ => ⟨a5, c5, q1, q3, q5⟩
  have hM : Hid (∀ (a' a5 : Option Addr) (c' c5 : Nat) (W : World), Lies enE W a' (acqD d who now).l → Lies enE W a5 (acqD d who now).l → Calls Tryz.prog 10 #[.agg #[.int .i64 (acqD d who now).ep, .int .i64 (acqD d who now).h, .int .i64 (acqD d who now).u, .slice a' (acqD d who now).l.length c'], .agg #[.int .i64 (acqD d who now).ep, .int .i64 (acqD d who now).h, .int .i64 (acqD d who now).u, .slice a5 (acqD d who now).l.length c5]] W fun e w' => e = .returned (.bool true) ∧ Below W.heap.size W w') := fun a' a5 c' c5 W h1 h2 => rsame_disk (acqD d who now) a' a5 c' c5 W (by have := logE_len g.1.log; omega) h1 h2
  have f1 : decide ((acqD d who now).ep < d.ep) = false := decide_eq_false (by have := g.2.2.2.2.2.1; omega)
  have f2 : decide (d.ep + 1 < (acqD d who now).ep) = false := decide_eq_false (by have := g.2.2.2.2.2.2; omega)
  have f3 : IntKind.i64.wrap (3 - who) = 3 - who := by rw [IntKind.wrap_i64]; have := z.2.1; omega
  have f4 : IntKind.i64.wrap ((acqD d who now).ep - 1) = (acqD d who now).ep - 1 := by rw [IntKind.wrap_i64]; have := g.1.ep; omega
  have f5 : IntKind.i64.wrap (d.ep + 1) = d.ep + 1 := by rw [IntKind.wrap_i64]; have := ((bad_iff d).1 z.1).ep; omega
  have f6 : ¬ (acqD d who now).ep < d.ep := by have := g.2.2.2.2.2.1; omega
  have f7 : ¬ d.ep + 1 < (acqD d who now).ep := by have := g.2.2.2.2.2.2; omega
  rw [ha] at hA
  clear g z
  have wz := write_zero hw
  have wb := write_beg hw
  have wg := write_good hw
  have hln : (d.l ++ [newE d.l epoch o]).length = d.l.length + 1 := by simp
  have hW : Hid (∀ W : World, Below w.heap.size w W → Calls Tryz.prog 8 #[.agg #[.int .i64 d.ep, .int .i64 d.h, .int .i64 d.u, .slice a d.l.length c], .int .i64 epoch, .agg #[.int .i64 o.k, .bool o.p.v, .int .u64 o.p.hi, .int .u64 o.p.lo, .int .i64 o.p.b, .bool o.a.v, .int .u64 o.a.hi, .int .u64 o.a.lo, .string o.who, .int .i64 o.pof, .int .i64 o.n]] W fun e w' => ∃ a' c', e = .returned (.tuple #[.agg #[.int .i64 d.ep, .int .i64 d.h, .int .i64 d.u, .slice a' (d.l.length + 1) c'], .int .i64 0]) ∧ d.l.length + 1 ≤ c' ∧ Lies enE w' a' (d.l ++ [newE d.l epoch o]) ∧ Below W.heap.size W w') := fun W hW => by
    have := fwrite_any d a c epoch o W hc (hs.below hW)
    rw [wz.2.2.2, hw] at this
    simp only [hln] at this
    exact this
  have hX : Hid (∀ (a' : Option Addr) (c' : Nat) (W : World), Below w.heap.size w W → d.l.length + 1 ≤ c' → Lies enE W a' (d.l ++ [newE d.l epoch o]) → Calls Tryz.prog 11 #[.slice a d.l.length c, .slice a' (d.l.length + 1) c'] W fun e w' => e = .returned (.tuple #[.bool true, .int .i64 0]) ∧ Below W.heap.size W w') := fun a' c' W hW hc' hs' => by
    have := begins_any a a' c c' d.l (d.l ++ [newE d.l epoch o]) W hc (by omega) (hs.below hW) hs'
    rw [wb.1, wb.2, hln] at this
    exact this
  have hY : Hid (∀ (a' : Option Addr) (c' : Nat) (W : World), d.l.length + 1 ≤ c' → Lies enE W a' (d.l ++ [newE d.l epoch o]) → Calls Tryz.prog 6 #[.agg #[.int .i64 d.ep, .int .i64 d.h, .int .i64 d.u, .slice a' (d.l.length + 1) c']] W fun e w' => e = .returned (.int .i64 0) ∧ Below W.heap.size W w') := fun a' c' W hc' hs' => by
    have := fcheck_any d.ep d.h d.u a' c' (d.l ++ [newE d.l epoch o]) W (by omega) hs'
    rw [wg, hln] at this
    exact this
  have hQ : ∀ W : World, (binOp .eql 23 (.agg #[.int .i64 d.h, .int .i64 d.u]) (.agg #[.int .i64 d.h, .int .i64 d.u])).run Tryz.prog W = .ok (.bool true) W := fun W => eql_lock d.h d.u W
  have f8 : IntKind.i64.wrap ((d.l.length : Int) + 1) = (d.l.length : Int) + 1 := by rw [IntKind.wrap_i64]; have := logE_len wz.1.log; omega
  have f9 : (((d.l.length + 1 : Nat) : Int) == (d.l.length : Int) + 1) = true := by rw [beq_iff_eq]; omega
  have hep : epoch = d.ep := wz.2.1
  clear wz wb wg hln
  generalize d.l ++ [newE d.l epoch o] = xl at *
  subst hep
  generalize (acqD d who now).ep = r0 at *
  generalize (acqD d who now).h = r1 at *
  generalize (acqD d who now).u = r2 at *
  generalize (acqD d who now).l.length = rN at *
  generalize (acqD d who now).l = rl at *
  generalize d.ep = d0 at *
  generalize d.h = d1 at *
  generalize d.u = d2 at *
  generalize d.l.length = dN at *
  generalize d.l = dl at *
  generalize o.k = y0 at *
  generalize o.p.v = y1 at *
  generalize o.p.hi = y2 at *
  generalize o.p.lo = y3 at *
  generalize o.p.b = y4 at *
  generalize o.a.v = y5 at *
  generalize o.a.hi = y6 at *
  generalize o.a.lo = y7 at *
  generalize o.who = y8 at *
  generalize o.pof = y9 at *
  generalize o.n = y10 at *
  clear hs hc ha hw hb
  have HB0 : Hid (FeAt w ((w.alloc (.cells #[.int .i64 d0, .int .i64 d1, .int .i64 d2, .slice a dN c] 26)).alloc (.cells #[.int .i64 y0, .bool y1, .int .u64 y2, .int .u64 y3, .int .i64 y4, .bool y5, .int .u64 y6, .int .u64 y7, .string y8, .int .i64 y9, .int .i64 y10] 33)) [.int .i64 d0, .int .i64 d1, .int .i64 d2, .slice a dN c] [.int .i64 y0, .bool y1, .int .u64 y2, .int .u64 y3, .int .i64 y4, .bool y5, .int .u64 y6, .int .u64 y7, .string y8, .int .i64 y9, .int .i64 y10]) := feAt w _ _
  go_enter Tryz.func3, Tryz.ntmps3
  go_wp2_with fail
  refine (hF.out _).mono ?_
  rintro e w1 ⟨rfl, hb1⟩
  go_wp2_with fail
  refine (hG.out _).mono ?_
  rintro e w2 ⟨rfl, hb2⟩
  have HB2 := Lib.hid ((HB0.out.keep hb1).keep hb2)
  clear hb1 hb2 HB0 hF hG
  obtain ⟨p0, p1, p2, p3⟩ := HB2.out.d.four4
  go_wp2_with fail
  refine (hC.out _ HB2.out.below).mono ?_
  rintro e w3 ⟨rfl, hb3⟩
  have HB3 := Lib.hid (HB2.out.keep hb3)
  clear hb3 HB2 hC p0 p1 p2 p3
  obtain ⟨p0, p1, p2, p3⟩ := HB3.out.d.four4
  go_wp2_with fail
  refine (hA.out _ HB3.out.below).mono ?_
  rintro e w4 ⟨a4, c4, rfl, hc4, hl4, hb4⟩
  have kb : Below w4.heap.size w4 (w4.alloc (.cells #[.int .i64 r0, .int .i64 r1, .int .i64 r2, .slice a4 rN c4] 26)) := bal (Below.refl _ _) _
  have HB4 := Lib.hid ((HB3.out.keep hb4).keep kb)
  have HX4 : Hid (Blk (w4.alloc (.cells #[.int .i64 r0, .int .i64 r1, .int .i64 r2, .slice a4 rN c4] 26)) w4.heap.size 26 [.int .i64 r0, .int .i64 r1, .int .i64 r2, .slice a4 rN c4]) := Blk.new w4 _ _
  have HL4 := Lib.hid (hl4.below kb)
  have HC4 := Lib.hid hc4
  obtain ⟨xb, hxb⟩ : ∃ xb, xb = w4.heap.size := ⟨_, rfl⟩
  rw [← hxb] at HX4
  clear hb4 hl4 hc4 kb HB3 hA p0 p1 p2 p3
  obtain ⟨p0, p1, p2, p3⟩ := HX4.out.four4
  rw [hxb] at p0 p1 p2 p3
  obtain ⟨w5, hw5⟩ : ∃ W, W = w4.alloc (.cells #[.int .i64 r0, .int .i64 r1, .int .i64 r2, .slice a4 rN c4] 26) := ⟨_, rfl⟩
  go_wp2_with fail
  rw [← hxb]
  rw [← hw5] at HB4 HX4 HL4 ⊢
  clear hw5 hxb
  refine (hO.out _ _ _ HC4.out HL4.out).mono ?_
  rintro e w6 ⟨a6, c6, rfl, hb6⟩
  have k6 := btr hb6 (bal (Below.refl _ _) (.cells #[.int .i64 0, .int .i64 0, .int .i64 0, .slice a6 0 c6] 26))
  have HB6 := Lib.hid (HB4.out.keep k6)
  have HX6 := Lib.hid (HX4.out.below k6)
  have HL6 := Lib.hid (HL4.out.below k6)
  clear hb6 k6 HB4 HX4 HL4 hO p0 p1 p2 p3
  obtain ⟨w7, hw7⟩ : ∃ W, W = w6.alloc (.cells #[.int .i64 0, .int .i64 0, .int .i64 0, .slice a6 0 c6] 26) := ⟨_, rfl⟩
  rw [← hw7] at HB6 HX6 HL6
  obtain ⟨p0, p1, p2, p3⟩ := HX6.out.four4
  have o0 := HB6.out.o.cell 0 _ rfl
  have o1 := HB6.out.o.cell 1 _ rfl
  have o2 := HB6.out.o.cell 2 _ rfl
  have o3 := HB6.out.o.cell 3 _ rfl
  have o4 := HB6.out.o.cell 4 _ rfl
  have o5 := HB6.out.o.cell 5 _ rfl
  have o6 := HB6.out.o.cell 6 _ rfl
  have o7 := HB6.out.o.cell 7 _ rfl
  have o8 := HB6.out.o.cell 8 _ rfl
  have o9 := HB6.out.o.cell 9 _ rfl
  have o10 := HB6.out.o.cell 10 _ rfl
  rw [hw7] at p0 p1 p2 p3 o0 o1 o2 o3 o4 o5 o6 o7 o8 o9 o10
  go_wp2_with fail
  rw [← hw7]
  clear hw7 p0 p1 p2 p3 o0 o1 o2 o3 o4 o5 o6 o7 o8 o9 o10
  refine (hE.out _ _ _ HC4.out HL6.out).mono ?_
  rintro e w8 ⟨a8, c8, rfl, hb8⟩
  have k8 := btr hb8 (bal (Below.refl _ _) (.cells #[.int .i64 0, .int .i64 0, .int .i64 0, .slice a8 0 c8] 26))
  have HB8 := Lib.hid (HB6.out.keep k8)
  have HX8 := Lib.hid (HX6.out.below k8)
  have HL8 := Lib.hid (HL6.out.below k8)
  clear hb8 k8 HB6 HX6 HL6 hE
  obtain ⟨w9, hw9⟩ : ∃ W, W = w8.alloc (.cells #[.int .i64 0, .int .i64 0, .int .i64 0, .slice a8 0 c8] 26) := ⟨_, rfl⟩
  rw [← hw9] at HB8 HX8 HL8
  obtain ⟨p0, p1, p2, p3⟩ := HX8.out.four4
  obtain ⟨s0, s1, s2, s3⟩ := HB8.out.d.four4
  rw [hw9] at p0 p1 p2 p3 s0 s1 s2 s3
  go_wp2_with fail
  rw [← hw9]
  clear hw9 p0 p1 p2 p3 s0 s1 s2 s3
  refine (hS.out _ _ _ HB8.out.below HL8.out).mono ?_
  rintro e w10 ⟨rfl, hb10⟩
  have HB10 := Lib.hid (HB8.out.keep hb10)
  have HX10 := Lib.hid (HX8.out.below hb10)
  have HL10 := Lib.hid (HL8.out.below hb10)
  clear hb10 HB8 HX8 HL8 hS
  obtain ⟨p0, p1, p2, p3⟩ := HX10.out.four4
  go_wp2_with fail
  refine (hK.out _ _ _ HC4.out HL10.out).mono ?_
  rintro e w11 ⟨rfl, hb11⟩
  have HB11 := Lib.hid (HB10.out.keep hb11)
  have HX11 := Lib.hid (HX10.out.below hb11)
  have HL11 := Lib.hid (HL10.out.below hb11)
  clear hb11 HB10 HX10 HL10 hK p0 p1 p2 p3
  obtain ⟨p0, p1, p2, p3⟩ := HX11.out.four4
  go_wp2_with fail
  refine (hN.out _ _ _ HC4.out HL11.out).mono ?_
  rintro e w12 ⟨a12, c12, rfl, hl12, hb12⟩
  have kb : Below w12.heap.size w12 (w12.alloc (.cells #[.int .i64 r0, .int .i64 r1, .int .i64 r2, .slice a12 rN c12] 26)) := bal (Below.refl _ _) _
  have HB12 := Lib.hid ((HB11.out.keep hb12).keep kb)
  have HX12 := Lib.hid ((HX11.out.below hb12).below kb)
  have HY12 : Hid (Blk (w12.alloc (.cells #[.int .i64 r0, .int .i64 r1, .int .i64 r2, .slice a12 rN c12] 26)) w12.heap.size 26 [.int .i64 r0, .int .i64 r1, .int .i64 r2, .slice a12 rN c12]) := Blk.new w12 _ _
  have HL12 := Lib.hid ((HL11.out.below hb12).below kb)
  have HM12 := Lib.hid (hl12.below kb)
  clear hb12 hl12 kb HB11 HX11 HL11 hN p0 p1 p2 p3
  obtain ⟨w13, hw13⟩ : ∃ W, W = w12.alloc (.cells #[.int .i64 r0, .int .i64 r1, .int .i64 r2, .slice a12 rN c12] 26) := ⟨_, rfl⟩
  rw [← hw13] at HB12 HX12 HY12 HL12 HM12
  obtain ⟨p0, p1, p2, p3⟩ := HX12.out.four4
  obtain ⟨s0, s1, s2, s3⟩ := HY12.out.four4
  rw [hw13] at p0 p1 p2 p3 s0 s1 s2 s3
  go_wp2_with fail
  rw [← hw13]
  clear hw13 p0 p1 p2 p3 s0 s1 s2 s3
  refine (hM.out _ _ _ _ _ HL12.out HM12.out).mono ?_
  rintro e w14 ⟨rfl, hb14⟩
  have HBp := Lib.hid (HB12.out.keep hb14)
  clear hb14 HB12 HX12 HY12 HL12 HM12 hM
  obtain ⟨p0, p1, p2, p3⟩ := HBp.out.d.four4
  have o0 := HBp.out.o.cell 0 _ rfl
  have o1 := HBp.out.o.cell 1 _ rfl
  have o2 := HBp.out.o.cell 2 _ rfl
  have o3 := HBp.out.o.cell 3 _ rfl
  have o4 := HBp.out.o.cell 4 _ rfl
  have o5 := HBp.out.o.cell 5 _ rfl
  have o6 := HBp.out.o.cell 6 _ rfl
  have o7 := HBp.out.o.cell 7 _ rfl
  have o8 := HBp.out.o.cell 8 _ rfl
  have o9 := HBp.out.o.cell 9 _ rfl
  have o10 := HBp.out.o.cell 10 _ rfl
  go_wp2_with fail
  refine (hW.out _ HBp.out.below).mono ?_
  rintro e w20 ⟨a20, c20, rfl, hc20, hl20, hb20⟩
  have kb : Below w20.heap.size w20 (w20.alloc (.cells #[.int .i64 d0, .int .i64 d1, .int .i64 d2, .slice a20 (dN + 1) c20] 26)) := bal (Below.refl _ _) _
  have HB20 := Lib.hid ((HBp.out.keep hb20).keep kb)
  have HX20 : Hid (Blk (w20.alloc (.cells #[.int .i64 d0, .int .i64 d1, .int .i64 d2, .slice a20 (dN + 1) c20] 26)) w20.heap.size 26 [.int .i64 d0, .int .i64 d1, .int .i64 d2, .slice a20 (dN + 1) c20]) := Blk.new w20 _ _
  have HL20 := Lib.hid (hl20.below kb)
  have HC20 := Lib.hid hc20
  clear hb20 hl20 hc20 kb HBp hW p0 p1 p2 p3 o0 o1 o2 o3 o4 o5 o6 o7 o8 o9 o10
  obtain ⟨w21, hw21⟩ : ∃ W, W = w20.alloc (.cells #[.int .i64 d0, .int .i64 d1, .int .i64 d2, .slice a20 (dN + 1) c20] 26) := ⟨_, rfl⟩
  obtain ⟨yb, hyb⟩ : ∃ yb, yb = w20.heap.size := ⟨_, rfl⟩
  rw [← hw21] at HB20 HX20 HL20
  obtain ⟨p0, p1, p2, p3⟩ := HB20.out.d.four4
  obtain ⟨s0, s1, s2, s3⟩ := HX20.out.four4
  rw [hw21] at p0 p1 p2 p3 s0 s1 s2 s3
  go_wp2_with fail
  rw [← hw21, ← hyb]
  rw [← hyb] at HX20
  clear hw21 hyb p0 p1 p2 p3 s0 s1 s2 s3
  refine (hX.out _ _ _ HB20.out.below HC20.out HL20.out).mono ?_
  rintro e w22 ⟨rfl, hb22⟩
  have HB22 := Lib.hid (HB20.out.keep hb22)
  have HX22 := Lib.hid (HX20.out.below hb22)
  have HL22 := Lib.hid (HL20.out.below hb22)
  clear hb22 HB20 HX20 HL20 hX
  obtain ⟨p0, p1, p2, p3⟩ := HB22.out.d.four4
  obtain ⟨s0, s1, s2, s3⟩ := HX22.out.four4
  go_wp2_with fail
  refine (hY.out _ _ _ HC20.out HL22.out).mono ?_
  rintro e w23 ⟨rfl, hb23⟩
  have HB23 := Lib.hid (HB22.out.keep hb23)
  clear hb23 HB22 HX22 HL22 hY p0 p1 p2 p3 s0 s1 s2 s3
  go_wp2_with fail
  go_ret
  exact ⟨rfl, HB23.out.below⟩
theorem felder_any (d : Dk) (a : Option Addr) (c : Nat) (who now epoch : Int) (o : Opd) (w : World) (hc : d.l.length ≤ c) (hs : Lies enE w a d.l) :
    Calls Tryz.prog 3 #[.agg #[.int .i64 d.ep, .int .i64 d.h, .int .i64 d.u, .slice a d.l.length c], .int .i64 who, .int .i64 now, .int .i64 epoch, .agg #[.int .i64 o.k, .bool o.p.v, .int .u64 o.p.hi, .int .u64 o.p.lo, .int .i64 o.p.b, .bool o.a.v, .int .u64 o.a.hi, .int .u64 o.a.lo, .string o.who, .int .i64 o.pof, .int .i64 o.n]] w fun e w' => e = .returned (.bool true) ∧ Below w.heap.size w w' := by
  by_cases hb : d.bad = 0
  · by_cases ha : acqE d who now = 0
    · by_cases hw : writeE d epoch o = 0
      · exact fe_yy d a c who now epoch o w hc hs hb ha hw
      · exact fe_yn d a c who now epoch o w hc hs hb ha hw
    · by_cases hw : writeE d epoch o = 0
      · exact fe_ny d a c who now epoch o w hc hs hb ha hw
      · exact fe_nn d a c who now epoch o w hc hs hb ha hw
  · exact fe_wrong d a c who now epoch o w hc hs hb
end Go.Proofs.YtjainfehlbfiaaaGreat
