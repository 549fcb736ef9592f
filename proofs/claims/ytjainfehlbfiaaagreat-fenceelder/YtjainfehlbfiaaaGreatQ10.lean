/- Pools as elements of a list; state.common, state.has, state.by. -/
import Derived.Test.YtjainfehlbfiaaaGreatQ09
import Derived.Test.YtjainfehlbfiaaaGreatQ06
set_option linter.unusedVariables false
set_option linter.unusedSimpArgs false
namespace Go.Proofs.YtjainfehlbfiaaaGreat
open Go.RowKit

/-- A pool of a list: its prefix, what is kept back, and where that lies. -/
structure Pl where
  p : Pf
  kept : List Ad
  s : Option Addr
  c : Nat
  pok : p.Ok
def plE : Enc Pl := ⟨5, fun x => [.bool x.p.v, .int .u64 x.p.hi, .int .u64 x.p.lo, .int .i64 x.p.b, .slice x.s x.kept.length x.c], by decide, fun _ => rfl, fun x u hu => by simp at hu; rcases hu with rfl | rfl | rfl | rfl | rfl <;> rfl⟩
/-- Each one's own list lies where it says. -/
def KeptAt (w : World) (ps : List Pl) : Prop := ∀ x ∈ ps, Lies adE w x.s x.kept ∧ x.kept.length ≤ x.c ∧ (x.s = none → x.c = 0)
theorem KeptAt.below {w w' : World} {ps : List Pl} (h : KeptAt w ps) (hb : Below w.heap.size w w') : KeptAt w' ps := fun x hx => ⟨(h x hx).1.below hb, (h x hx).2⟩
theorem Lies.pl {w : World} {a : Option Addr} {l : List Pl} (h : Lies plE w a l) (j : Nat) (hj : j < l.length) : ∃ g o : Nat, a = some ⟨g, o, none⟩ ∧ g < w.heap.size ∧ w.cell? ⟨g, o + j * 5, none⟩ = some (.bool l[j].p.v) ∧ w.cell? ⟨g, o + j * 5 + 1, none⟩ = some (.int .u64 l[j].p.hi) ∧ w.cell? ⟨g, o + j * 5 + 2, none⟩ = some (.int .u64 l[j].p.lo) ∧ w.cell? ⟨g, o + j * 5 + 3, none⟩ = some (.int .i64 l[j].p.b) ∧ w.cell? ⟨g, o + j * 5 + 4, none⟩ = some (.slice l[j].s l[j].kept.length l[j].c) := by
  obtain ⟨g, o, e, hg, ch⟩ := h j hj
  exact ⟨g, o, e, hg, ch 0 _ rfl, ch 1 _ rfl, ch 2 _ rfl, ch 3 _ rfl, ch 4 _ rfl⟩
/-- Have two prefixes that are right an address in common, as the program asks it? -/
def Pf.com (p q : Pf) : Bool := inB p.v p.hi p.lo q.v q.hi q.lo q.b || inB q.v q.hi q.lo p.v p.hi p.lo p.b
set_option maxHeartbeats 4000000 in
set_option maxRecDepth 100000 in
theorem common_any (p q : Pf) (hp : p.Ok) (hq : q.Ok) (cp : p.chk = 0) (cq : q.chk = 0) (w : World) :
    Calls Tryz.prog 61 #[.agg #[.bool p.v, .int .u64 p.hi, .int .u64 p.lo, .int .i64 p.b], .agg #[.bool q.v, .int .u64 q.hi, .int .u64 q.lo, .int .i64 q.b]] w fun e w' => e = .returned (.bool (p.com q)) ∧ Below w.heap.size w w' := by
  have H1 : Hid (∀ w : World, Calls Tryz.prog 44 #[.agg #[.bool p.v, .int .u64 p.hi, .int .u64 p.lo], .agg #[.bool q.v, .int .u64 q.hi, .int .u64 q.lo, .int .i64 q.b]] w fun e w' => e = .returned (.bool (inB p.v p.hi p.lo q.v q.hi q.lo q.b)) ∧ Below w.heap.size w w') := fun w => within_any p.v p.hi p.lo q.v q.hi q.lo q.b w hp.1 hp.2.2.1 hq.1 hq.2.1 hq.2.2.1 hq.2.2.2 cq
  have H2 : Hid (∀ w : World, Calls Tryz.prog 44 #[.agg #[.bool q.v, .int .u64 q.hi, .int .u64 q.lo], .agg #[.bool p.v, .int .u64 p.hi, .int .u64 p.lo, .int .i64 p.b]] w fun e w' => e = .returned (.bool (inB q.v q.hi q.lo p.v p.hi p.lo p.b)) ∧ Below w.heap.size w w') := fun w => within_any q.v q.hi q.lo p.v p.hi p.lo p.b w hq.1 hq.2.2.1 hp.1 hp.2.1 hp.2.2.1 hp.2.2.2 cp
  unfold Pf.com
  generalize inB p.v p.hi p.lo q.v q.hi q.lo q.b = b1 at *
  generalize inB q.v q.hi q.lo p.v p.hi p.lo p.b = b2 at *
  obtain ⟨W1, hW1⟩ : ∃ W1, W1 = (w.alloc (.cells #[.bool p.v, .int .u64 p.hi, .int .u64 p.lo, .int .i64 p.b] 31)).alloc (.cells #[.bool q.v, .int .u64 q.hi, .int .u64 q.lo, .int .i64 q.b] 31) := ⟨_, rfl⟩
  have hb1 : Below w.heap.size w W1 := by rw [hW1]; exact bal (bal (Below.refl w.heap.size w) _) _
  have hP : Blk W1 w.heap.size 31 [.bool p.v, .int .u64 p.hi, .int .u64 p.lo, .int .i64 p.b] := by rw [hW1]; exact (Blk.new w _ _).below (bal (Below.refl _ _) _)
  have hQ : Blk W1 (w.heap.size + 1) 31 [.bool q.v, .int .u64 q.hi, .int .u64 q.lo, .int .i64 q.b] := by
    rw [hW1]
    have := Blk.new (w.alloc (.cells #[.bool p.v, .int .u64 p.hi, .int .u64 p.lo, .int .i64 p.b] 31)) [.bool q.v, .int .u64 q.hi, .int .u64 q.lo, .int .i64 q.b] 31
    rw [show (w.alloc (.cells #[.bool p.v, .int .u64 p.hi, .int .u64 p.lo, .int .i64 p.b] 31)).heap.size = w.heap.size + 1 by simp] at this
    exact this
  have HB1 := Lib.hid hb1
  have HP1 := Lib.hid hP
  have HQ1 := Lib.hid hQ
  obtain ⟨⟨p0, p1, p2, p3⟩, -⟩ := hP.four
  obtain ⟨⟨q0, q1, q2, q3⟩, -⟩ := hQ.four
  rw [hW1] at HB1 HP1 HQ1 p0 p1 p2 p3 q0 q1 q2 q3
  clear hb1 hP hQ hW1 W1 hp hq cp cq
  generalize p.v = x0 at *
  generalize p.hi = x1 at *
  generalize p.lo = x2 at *
  generalize p.b = x3 at *
  generalize q.v = y0 at *
  generalize q.hi = y1 at *
  generalize q.lo = y2 at *
  generalize q.b = y3 at *
  cases b1
  · go_enter Tryz.func61, Tryz.ntmps61
    go_wp2_with fail
    refine (H1.out _).mono ?_
    rintro e w2 ⟨rfl, hb2⟩
    have HB2 := Lib.hid (btr HB1.out hb2)
    obtain ⟨⟨r0, r1, r2, r3⟩, -⟩ := (HP1.out.below hb2).four
    obtain ⟨⟨s0, s1, s2, s3⟩, -⟩ := (HQ1.out.below hb2).four
    clear hb2 HB1 HP1 HQ1 p0 p1 p2 p3 q0 q1 q2 q3 H1
    go_wp2_with fail
    refine (H2.out _).mono ?_
    rintro e w3 ⟨rfl, hb3⟩
    have HB3 := Lib.hid (btr HB2.out hb3)
    clear hb3 HB2
    go_wp2
    go_ret
    exact ⟨rfl, HB3.out⟩
  · go_enter Tryz.func61, Tryz.ntmps61
    go_wp2_with fail
    refine (H1.out _).mono ?_
    rintro e w2 ⟨rfl, hb2⟩
    have HB2 := Lib.hid (btr HB1.out hb2)
    clear hb2 HB1 HP1 HQ1 p0 p1 p2 p3 q0 q1 q2 q3 H1 H2
    go_wp2
    go_ret
    exact ⟨rfl, HB2.out⟩
/-- Has a prefix an address, as the program asks it? -/
def Pf.ina (p : Pf) (x : Ad) : Bool := inB x.v x.hi x.lo p.v p.hi p.lo p.b
set_option maxRecDepth 100000 in
theorem enters_has1 : ∀ args w, (callFunc 88 args).run Tryz.prog w = .ok (.enter 88 args) w := by intro args w; rfl
set_option maxRecDepth 100000 in
theorem enters_by1 : ∀ args w, (callFunc 89 args).run Tryz.prog w = .ok (.enter 89 args) w := by intro args w; rfl
set_option maxHeartbeats 4000000 in
set_option maxRecDepth 100000 in
theorem has_ctor (x : Ad) (w : World) : Calls Tryz.prog 64 #[.agg #[.bool x.v, .int .u64 x.hi, .int .u64 x.lo]] w fun e w' => e = .returned (.func (.func 88) #[] #[.pointer (some ⟨w.heap.size, 0, none⟩)]) ∧ w' = w.alloc (.cells #[.bool x.v, .int .u64 x.hi, .int .u64 x.lo] 29) := by
  generalize x.v = x0 at *
  generalize x.hi = x1 at *
  generalize x.lo = x2 at *
  go_enter Tryz.func64, Tryz.ntmps64
  go_wp2
  go_ret
  exact ⟨rfl, rfl⟩
theorem by_ctor (s : ByteArray) (w : World) : Calls Tryz.prog 66 #[.string s] w fun e w' => e = .returned (.func (.func 89) #[] #[.pointer (some ⟨w.heap.size, 0, none⟩)]) ∧ w' = w.alloc (.cells #[.string s] 9) := by
  go_enter Tryz.func66, Tryz.ntmps66
  go_wp2
  go_ret
  exact ⟨rfl, rfl⟩
set_option maxHeartbeats 4000000 in
set_option maxRecDepth 100000 in
theorem has1_any (q : Nat) (x : Ad) (y : Pl) (cy : y.p.chk = 0) (w : World) (hq : Blk w q 29 [.bool x.v, .int .u64 x.hi, .int .u64 x.lo]) :
    Calls Tryz.prog 88 #[.agg #[.bool y.p.v, .int .u64 y.p.hi, .int .u64 y.p.lo, .int .i64 y.p.b, .slice y.s y.kept.length y.c], .pointer (some ⟨q, 0, none⟩)] w fun e w' => e = .returned (.bool (y.p.ina x)) ∧ Below w.heap.size w w' := by
  have H1 : Hid (∀ w : World, Calls Tryz.prog 44 #[.agg #[.bool x.v, .int .u64 x.hi, .int .u64 x.lo], .agg #[.bool y.p.v, .int .u64 y.p.hi, .int .u64 y.p.lo, .int .i64 y.p.b]] w fun e w' => e = .returned (.bool (y.p.ina x)) ∧ Below w.heap.size w w') := fun w => within_any x.v x.hi x.lo y.p.v y.p.hi y.p.lo y.p.b w x.ok.1.1 x.ok.2.1 y.pok.1 y.pok.2.1 y.pok.2.2.1 y.pok.2.2.2 cy
  have HB0 := Lib.hid (bal (Below.refl w.heap.size w) (.cells #[.bool y.p.v, .int .u64 y.p.hi, .int .u64 y.p.lo, .int .i64 y.p.b, .slice y.s y.kept.length y.c] 87))
  obtain ⟨⟨c0, c1, c2⟩, -⟩ := (hq.below (bal (Below.refl w.heap.size w) (.cells #[.bool y.p.v, .int .u64 y.p.hi, .int .u64 y.p.lo, .int .i64 y.p.b, .slice y.s y.kept.length y.c] 87))).three
  have hlt := hq.lt
  generalize y.p.ina x = R at *
  generalize x.v = x0 at *
  generalize x.hi = x1 at *
  generalize x.lo = x2 at *
  generalize y.p.v = y0 at *
  generalize y.p.hi = y1 at *
  generalize y.p.lo = y2 at *
  generalize y.p.b = y3 at *
  generalize y.kept.length = y5 at *
  clear hq cy
  go_enter Tryz.func88, Tryz.ntmps88
  go_wp2_with fail
  refine (H1.out _).mono ?_
  rintro e w3 ⟨rfl, hb3⟩
  have HB3 := Lib.hid (btr HB0.out hb3)
  clear hb3 HB0
  go_wp2
  go_ret
  exact ⟨rfl, HB3.out⟩
set_option maxHeartbeats 4000000 in
set_option maxRecDepth 100000 in
theorem by1_any (q : Nat) (s : ByteArray) (y : Ls) (w : World) (hq : w.cell? ⟨q, 0, none⟩ = some (.string s)) (hlt : q < w.heap.size) :
    Calls Tryz.prog 89 #[.agg #[.bool y.a.v, .int .u64 y.a.hi, .int .u64 y.a.lo, .string y.who, .int .i64 y.un], .pointer (some ⟨q, 0, none⟩)] w fun e w' => e = .returned (.bool (y.who.toList == s.toList)) ∧ Below w.heap.size w w' := by
  generalize y.a.v = y0 at *
  generalize y.a.hi = y1 at *
  generalize y.a.lo = y2 at *
  generalize y.who = y3 at *
  generalize y.un = y4 at *
  have HB := Lib.hid (bal (Below.refl w.heap.size w) (.cells #[.bool y0, .int .u64 y1, .int .u64 y2, .string y3, .int .i64 y4] 106))
  have q1 : (w.alloc (.cells #[.bool y0, .int .u64 y1, .int .u64 y2, .string y3, .int .i64 y4] 106)).cell? ⟨q, 0, none⟩ = some (.string s) := by rw [(bcell (bal (Below.refl w.heap.size w) _)).1 _ _ hlt]; exact hq
  go_enter Tryz.func89, Tryz.ntmps89
  go_wp2
  all_goals go_ret
  all_goals exact ⟨rfl, HB.out⟩
end Go.Proofs.YtjainfehlbfiaaaGreat
