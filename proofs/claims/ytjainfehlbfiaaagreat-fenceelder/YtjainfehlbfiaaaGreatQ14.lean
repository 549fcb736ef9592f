/- Package lease: the addresses of a pool, the first one, grant, Grant. -/
import Derived.Test.YtjainfehlbfiaaaGreatQ09
import Derived.RangeFuncNested
import Derived.RangeFuncBound
import Derived.LoopIn
import Derived.TacticsInMore
import Derived.Test.YtjainfehlbfiaaaGreatQ13
import Derived.Shelf.RegionOpen
import Derived.Test.YtjainfehlbfiaaaGreatQ02
set_option linter.unusedVariables false
set_option linter.unusedSimpArgs false
namespace Go.Proofs.YtjainfehlbfiaaaGreat
open Go.RowKit Go.Shelf

/-- What a round leaves of what lay: all but the loop's record. -/
structure RKeep (l : Nat) (W W' : World) : Prop where
  os : W'.os = W.os
  tape : W'.tape = W.tape
  output : W'.output = W.output
  size : W.heap.size ≤ W'.heap.size
  same : ∀ k, k < W.heap.size → k ≠ l → W'.heap[k]? = W.heap[k]?
/-- An address in a block of its own. -/
def Box3 (W : World) (b : Nat) (x : Ad) : Prop := W.heap[b]? = some (.cells #[.bool x.v, .int .u64 x.hi, .int .u64 x.lo] 29 (0, 0))
theorem Box3.lt {W : World} {b : Nat} {x : Ad} (h : Box3 W b x) : b < W.heap.size := (Array.getElem?_eq_some_iff.1 h).1
theorem Box3.cells {W : World} {b : Nat} {x : Ad} (h : Box3 W b x) : (W.cell? ⟨b, 0, none⟩ = some (.bool x.v) ∧ W.cell? ⟨b, 1, none⟩ = some (.int .u64 x.hi) ∧ W.cell? ⟨b, 2, none⟩ = some (.int .u64 x.lo)) ∧ (W.frozen? ⟨b, 0, none⟩ = false ∧ W.frozen? ⟨b, 1, none⟩ = false ∧ W.frozen? ⟨b, 2, none⟩ = false) := by
  unfold Box3 at h
  simp [World.cell?, World.frozen?, h]
theorem Box3.has {W : World} {b : Nat} {x : Ad} (h : Box3 W b x) : Has3 W b (.bool x.v) (.int .u64 x.hi) (.int .u64 x.lo) := ⟨h.cells.1.1, h.cells.1.2.1, h.cells.1.2.2, h.lt⟩
theorem Box3.keep {W W' : World} {l b : Nat} {x : Ad} (h : Box3 W b x) (hk : RKeep l W W') (hne : b ≠ l) : Box3 W' b x := (hk.same b h.lt hne).trans h
theorem Box3.below {W W' : World} {b : Nat} {x : Ad} (h : Box3 W b x) (hb : Below W.heap.size W W') : Box3 W' b x := (hb.block b h.lt).trans h
theorem Box3.upto {W W' : World} {b B : Nat} {x : Ad} (h : Box3 W b x) (hb : Below B W W') (hlt : b < B) : Box3 W' b x := (hb.block b hlt).trans h
theorem Box3.new (W : World) (x : Ad) : Box3 (W.alloc (.cells #[.bool x.v, .int .u64 x.hi, .int .u64 x.lo] 29)) W.heap.size x := heap_alloc_new W _
theorem Box3.put {W : World} {b : Nat} {x : Ad} (h : Box3 W b x) (y : Ad) : Box3 (((W.setCell ⟨b, 0, none⟩ (.bool y.v)).setCell ⟨b, 1, none⟩ (.int .u64 y.hi)).setCell ⟨b, 2, none⟩ (.int .u64 y.lo)) b y := by
  unfold Box3 at *
  have h1 := heap_setCell_same W b 0 _ _ (.bool y.v) h
  have h2 := heap_setCell_same (W.setCell ⟨b, 0, none⟩ (.bool y.v)) b 1 _ _ (.int .u64 y.hi) h1
  have h3 := heap_setCell_same ((W.setCell ⟨b, 0, none⟩ (.bool y.v)).setCell ⟨b, 1, none⟩ (.int .u64 y.hi)) b 2 _ _ (.int .u64 y.lo) h2
  rw [h3]
  rfl
theorem Box3.far {W : World} {b c : Nat} {x : Ad} (h : Box3 W b x) (hne : b ≠ c) (u0 u1 u2 : Value) : Box3 (((W.setCell ⟨c, 0, none⟩ u0).setCell ⟨c, 1, none⟩ u1).setCell ⟨c, 2, none⟩ u2) b x := by
  unfold Box3 at *
  rw [heap_setCell_other _ ⟨c, 2, none⟩ b u2 hne, heap_setCell_other _ ⟨c, 1, none⟩ b u1 hne, heap_setCell_other _ ⟨c, 0, none⟩ b u0 hne]
  exact h
/-- Where the walk is: the number of the address that lies in a block. -/
def numAt (W : World) (b : Nat) : Int := match W.heap[b]? with
  | some (.cells cs _ _) => num (intOf (cs[1]?.getD undef)) (intOf (cs[2]?.getD undef))
  | _ => 0
theorem Box3.num {W : World} {b : Nat} {x : Ad} (h : Box3 W b x) : numAt W b = x.n := by
  unfold Box3 at h
  simp [numAt, h, intOf, Ad.n]
/-- How many are left. -/
def leftAt (p : Pf) (W : World) (b : Nat) : Nat := (p.n + p.many - numAt W b).toNat
theorem neqAd_run (w : World) (x y : Ad) : (binOp .neq 29 (.agg #[.bool x.v, .int .u64 x.hi, .int .u64 x.lo]) (.agg #[.bool y.v, .int .u64 y.hi, .int .u64 y.lo])).run Tryz.prog w = .ok (.bool (!sameA x y)) w := by
  unfold sameA
  generalize x.v = v
  generalize x.hi = hi
  generalize x.lo = lo
  generalize y.v = v'
  generalize y.hi = hi'
  generalize y.lo = lo'
  cases h1 : v == v' <;> cases h2 : hi == hi' <;> cases h3 : lo == lo' <;> simp [go_sem, h1, h2, h3]
/-- The k-th address of a prefix. -/
def adK (p : Pf) (k : Nat) : Ad := adOf p.v (p.n + k)
theorem adK_ok {p : Pf} (r : p.R) {k : Nat} (h : k < p.many) : 0 ≤ p.n + k ∧ p.n + k < top p.v := by
  obtain ⟨h0, h1⟩ := Pf.n_top r
  have := Pf.many_amt (p := p)
  omega
theorem adK_n {p : Pf} (r : p.R) {k : Nat} (h : k < p.many) : (adK p k).n = p.n + k := adOf_n (adK_ok r h).1 (adK_ok r h).2
theorem adK_last {p : Pf} (r : p.R) {k : Nat} (h : k < p.many) : sameA (adK p k) (adK p (p.many - 1)) = decide (k + 1 = p.many) := by
  have hp := many_pos p
  by_cases e : k + 1 = p.many
  · rw [decide_eq_true e, sameA_iff, show p.many - 1 = k by omega]
  · rw [decide_eq_false e, Bool.eq_false_iff]
    intro hs
    rw [sameA_iff] at hs
    have := congrArg Ad.n hs
    rw [adK_n r h, adK_n r (by omega)] at this
    omega

set_option maxHeartbeats 8000000 in
set_option maxRecDepth 100000 in
theorem addresses_in (m l gb : Nat) (p : Pf) (r : p.R) (ks lv : Value) (J Jx : Nat → World → Prop) (W : World) (hg : GrAt W gb p ks lv) (hl : l < W.heap.size)
    (hJ : ∀ k A B, J k A → Below W.heap.size A B → J k B) (hJx : ∀ k A B, Jx k A → Below W.heap.size A B → Jx k B)
    (hY : ∀ k A, k < p.many → W.heap.size ≤ A.heap.size → J k A → YieldAt Fence.wide m Tryz.prog l #[.agg #[.bool (adK p k).v, .int .u64 (adK p k).hi, .int .u64 (adK p k).lo]] A fun e A' => (e = .returned (.bool true) ∧ J (k + 1) A' ∧ RKeep l A A') ∨ (e = .returned (.bool false) ∧ Jx k A')) (h0 : J 0 W) :
    CallsIn Fence.wide (m + 1) Tryz.prog 117 #[.pointer (some ⟨gb, 0, none⟩), .func (.yield l) #[] #[]] W fun e W' => (∃ v, e = .returned v) ∧ (J p.many W' ∨ ∃ k, k < p.many ∧ Jx k W') := by
  have HE := Lib.hid (ends_ok p.v p.hi p.lo p.b W r.h0 r.h1 r.l0 r.l1 ((right_iff p.v p.hi p.lo p.b r.h0 r.h1 r.l0 r.l1).2 r))
  obtain ⟨⟨g0, g1, g2, g3, _, _⟩, _⟩ := hg.cells
  have hgl := hg.lt
  obtain ⟨e1, e2, e3⟩ := first_ad r
  obtain ⟨e4, e5⟩ := last_ad r
  have HA0 : Hid (adK p 0 = adOf p.v p.n) := by unfold Hid adK; simp
  have HAL : Hid (adK p (p.many - 1) = adOf p.v (p.n + amt p.v p.b - 1)) := by
    unfold Hid adK
    have h1 := Pf.many_amt (p := p)
    have h2 := many_pos p
    rw [show p.n + ((p.many - 1 : Nat) : Int) = p.n + amt p.v p.b - 1 by omega]
  have HF : Hid (p.hi = (adK p 0).hi ∧ p.lo = (adK p 0).lo ∧ laH p.v p.hi p.b = (adK p (p.many - 1)).hi ∧ laL p.v p.lo p.b = (adK p (p.many - 1)).lo) := by rw [Hid, HA0.out, HAL.out]; exact ⟨e2.symm, e3.symm, e4.symm, e5.symm⟩
  rw [HF.out.2.2.1, HF.out.2.2.2] at HE
  have HJ := Lib.hid hJ
  have HJx := Lib.hid hJx
  have HY := Lib.hid hY
  have H0 := Lib.hid h0
  clear hJ hJx hY h0 e1 e2 e3 e4 e5
  refine callsIn_of_wp Tryz.func117 rfl trivial ?_ rfl
  simp only [Tryz.ntmps117, List.size_toArray, List.length_cons, List.length_nil, Nat.reduceAdd, Nat.reduceSub, Array.replicate_succ, Array.replicate_zero, List.push_toArray, List.append_toArray, List.nil_append, List.cons_append]
  gi_wp2_with fail
  refine ⟨trivial, ?_⟩
  refine (callsIn_wide.2 HE.out).mono ?_
  rintro e W1 ⟨rfl, hb1⟩
  clear HE g0 g1 g2 g3
  gi_wp2_with fail
  obtain ⟨ab, hab⟩ : ∃ ab, ab = W1.heap.size := ⟨_, rfl⟩
  have hB2 : Below W.heap.size W ((W1.alloc (.cells #[.bool p.v, .int .u64 p.hi, .int .u64 p.lo] 29)).alloc (.cells #[.bool p.v, .int .u64 (adK p (p.many - 1)).hi, .int .u64 (adK p (p.many - 1)).lo] 29)) := bal (bal hb1 _) _
  have hba : Box3 ((W1.alloc (.cells #[.bool p.v, .int .u64 p.hi, .int .u64 p.lo] 29)).alloc (.cells #[.bool p.v, .int .u64 (adK p (p.many - 1)).hi, .int .u64 (adK p (p.many - 1)).lo] 29)) ab (adK p 0) := by
    refine Box3.below ?_ (bal (Below.refl _ _) _)
    rw [hab, HF.out.1, HF.out.2.1]
    exact Box3.new W1 (adK p 0)
  have hbl : Box3 ((W1.alloc (.cells #[.bool p.v, .int .u64 p.hi, .int .u64 p.lo] 29)).alloc (.cells #[.bool p.v, .int .u64 (adK p (p.many - 1)).hi, .int .u64 (adK p (p.many - 1)).lo] 29)) (ab + 1) (adK p (p.many - 1)) := by
    have := Box3.new (W1.alloc (.cells #[.bool p.v, .int .u64 p.hi, .int .u64 p.lo] 29)) (adK p (p.many - 1))
    rw [World.size_alloc, ← hab] at this
    exact this
  have hsz : W.heap.size ≤ ab := by rw [hab]; exact hb1.size
  rw [← hab]
  have HJ2 := Lib.hid (HJ.out 0 _ _ H0.out hB2)
  have Hba := Lib.hid hba
  have Hbl := Lib.hid hbl
  have HB2 := Lib.hid hB2
  clear hb1 hB2 hba hbl H0 hab hg
  generalize (W1.alloc (.cells #[.bool p.v, .int .u64 p.hi, .int .u64 p.lo] 29)).alloc (.cells #[.bool p.v, .int .u64 (adK p (p.many - 1)).hi, .int .u64 (adK p (p.many - 1)).lo] 29) = W2 at *
  gi_loopw [] (fun wr => ∃ k : Nat, k < p.many ∧ Hid (J k wr) ∧ Hid (Box3 wr ab (adK p k)) ∧ Hid (Box3 wr (ab + 1) (adK p (p.many - 1)))) (fun wr => leftAt p wr ab)
  case atStart => exact ⟨0, many_pos p, HJ2, Hba, Hbl⟩
  case round =>
    clear HJ2 Hba Hbl HB2
    obtain ⟨k, hk, HJk, Ha, Hl⟩ := hrel
    have hlt := Ha.out.lt
    obtain ⟨fn, tmps, assign, body, hy, hR⟩ := HY.out k wr hk (by omega) HJk.out
    have HR := Lib.hid hR
    obtain ⟨⟨a0, a1, a2⟩, _⟩ := Ha.out.cells
    clear hR
    have hne : ab ≠ l := by omega
    have hne1 : ab + 1 ≠ l := by omega
    have HL := Lib.hid (adK_last r hk)
    gi_wp2_with fail
    refine HR.out.mono ?_
    rintro e W3 (⟨rfl, hJ3, hk3⟩ | ⟨rfl, hJx3⟩)
    · have HJ3 := Lib.hid hJ3
      have Ha3 := Lib.hid (Ha.out.keep hk3 hne)
      have Hl3 := Lib.hid (Hl.out.keep hk3 hne1)
      have hs3 := hk3.size
      obtain ⟨⟨b0, b1, b2⟩, f0, f1, f2⟩ := Ha3.out.cells
      obtain ⟨⟨d0, d1, d2⟩, _⟩ := Hl3.out.cells
      have hE := fun w => neqAd_run w (adK p k) (adK p (p.many - 1))
      clear hJ3 hk3 HR hy HJk a0 a1 a2
      by_cases hkN : k + 1 = p.many
      · rw [HL.out, decide_eq_true hkN] at hE
        gi_wp2_with fail
        go_end0
        rw [hkN] at HJ3
        exact ⟨⟨_, rfl⟩, .inl HJ3.out⟩
      · rw [HL.out, decide_eq_false hkN] at hE
        have hkok := adK_ok r (show k + 1 < p.many by omega)
        have hk0 := adK_ok r hk
        have HN := Lib.hid (next_any (adK p k).v (adK p k).hi (adK p k).lo W3 (adK p k).ok.1.1 (adK p k).ok.2.1 (adK p k).ok.1.2 (adK p k).ok.2.2)
        obtain ⟨n1, n2, n3, _⟩ := next_ad (v := p.v) (n := p.n + k) hk0.1 (by omega)
        have HN2 : Hid (nxV (adK p k).v (adK p k).hi (adK p k).lo = (adK p (k + 1)).v ∧ nxH (adK p k).v (adK p k).hi (adK p k).lo = (adK p (k + 1)).hi ∧ nxL (adK p k).v (adK p k).hi (adK p k).lo = (adK p (k + 1)).lo) := by
          unfold adK
          rw [show p.n + ((k + 1 : Nat) : Int) = p.n + k + 1 by omega]
          exact ⟨n1, n2, n3⟩
        rw [HN2.out.1, HN2.out.2.1, HN2.out.2.2] at HN
        clear n1 n2 n3 HN2 hkok hk0
        gi_wp2_with fail
        refine ⟨trivial, ?_⟩
        refine (callsIn_wide.2 HN.out).mono ?_
        rintro e W4 ⟨rfl, hb4⟩
        have HJ4 := Lib.hid (HJ.out _ _ _ HJ3.out (hb4.mono (by omega)))
        have Ha4 := Lib.hid (Ha3.out.below hb4)
        have Hl4 := Lib.hid (Hl3.out.below hb4)
        have Hm : Hid (leftAt p (((W4.setCell ⟨ab, 0, none⟩ (.bool (adK p (k + 1)).v)).setCell ⟨ab, 1, none⟩ (.int .u64 (adK p (k + 1)).hi)).setCell ⟨ab, 2, none⟩ (.int .u64 (adK p (k + 1)).lo)) ab < leftAt p wr ab) := by
          unfold Hid leftAt
          rw [(Ha4.out.put (adK p (k + 1))).num, Ha.out.num, adK_n r hk, adK_n r (by omega)]
          omega
        obtain ⟨⟨q0, q1, q2⟩, f0, f1, f2⟩ := Ha4.out.cells
        clear hb4 HN b0 b1 b2 d0 d1 d2 Ha3 Hl3 HJ3 hE
        gi_wp2_with fail
        go_roundw
        case rel => exact ⟨k + 1, by omega, HJ.out _ _ _ HJ4.out ((((Below.refl _ _).setCell (p := ⟨ab, 0, none⟩) hsz _).setCell (p := ⟨ab, 1, none⟩) hsz _).setCell (p := ⟨ab, 2, none⟩) hsz _), Ha4.out.put _, Hl4.out.far (by omega) _ _ _⟩
        case measure => exact Hm.out
    · have HJ3 := Lib.hid hJx3
      clear hJx3 HR hy
      gi_wp2_with fail
      go_end0
      exact ⟨⟨_, rfl⟩, .inr ⟨k, hk, HJ3.out⟩⟩
end Go.Proofs.YtjainfehlbfiaaaGreat

namespace Go.Proofs.YtjainfehlbfiaaaGreat
open Go.RowKit Go.Shelf

/-- May an address be granted? -/
def freeA (kept : List Ad) (l : List Ls) (x : Ad) : Bool := !(kept.any (sameA x)) && !(l.any (fun y => sameA y.a x))
theorem enters_addresses : ∀ args w, (callFunc 117 args).run Tryz.prog w = .ok (.enter 117 args) w := enters_of Tryz.func117 (by kernel_rfl) rfl
theorem enters_first1 : ∀ args w, (callFunc 118 args).run Tryz.prog w = .ok (.enter 118 args) w := enters_of Tryz.func118 (by kernel_rfl) rfl
theorem enters_con : ∀ args w, (callFunc 72 args).run Tryz.prog w = .ok (.enter 72 args) w := enters_of Tryz.func72 (by kernel_rfl) rfl
theorem enters_conF : ∀ args w, (callFunc 65 args).run Tryz.prog w = .ok (.enter 65 args) w := enters_of Tryz.func65 (by kernel_rfl) rfl
theorem mixed_ok : Tryz.prog.follows .mixedOrders = true := by kernel_rfl
/-- What holds between two rounds: b the first block of the call's own. -/
structure FirstAt (w : World) (b gb : Nat) (rec : Loop) (y : Ad) (ok : Bool) (W : World) : Prop where
  box : W.heap[b]? = some (.cells #[.pointer (some ⟨gb, 0, none⟩)] 165 (0, 0))
  res : Box3 W (b + 1) y
  got : W.heap[b + 2]? = some (.cells #[.bool ok] 4 (0, 0))
  dfr : W.heap[b + 3]? = some (.deferred (some []))
  rc : W.heap[b + 4]? = some (.loop rec)
  low : Below w.heap.size w W
theorem FirstAt.upto {w W W' : World} {b gb : Nat} {rec : Loop} {y : Ad} {ok : Bool} (h : FirstAt w b gb rec y ok W) (hb : Below (b + 5) W W') (hw : w.heap.size ≤ b + 5) : FirstAt w b gb rec y ok W' :=
  ⟨(hb.block b (by omega)).trans h.box, h.res.upto hb (by omega), (hb.block _ (by omega)).trans h.got, (hb.block _ (by omega)).trans h.dfr, (hb.block _ (by omega)).trans h.rc, h.low.trans (hb.mono hw)⟩

theorem FirstAt.setRec {w W : World} {b gb : Nat} {rec : Loop} {y : Ad} {ok : Bool} (h : FirstAt w b gb rec y ok W) (rec' : Loop) (hw : w.heap.size ≤ b) : FirstAt w b gb rec' y ok (W.putObj (b + 4) (.loop rec')) := by
  have hlt : b + 4 < W.heap.size := (Array.getElem?_eq_some_iff.1 h.rc).1
  refine ⟨(World.putObj_heap_other (by omega)).trans h.box, (World.putObj_heap_other (by omega)).trans h.res, (World.putObj_heap_other (by omega)).trans h.got, (World.putObj_heap_other (by omega)).trans h.dfr, World.putObj_heap_same hlt, ?_⟩
  exact h.low.trans ⟨rfl, rfl, rfl, by simp, fun k hk => World.putObj_heap_other (by omega)⟩
theorem FirstAt.put {w W : World} {b gb : Nat} {rec : Loop} {y : Ad} {ok : Bool} (h : FirstAt w b gb rec y ok W) (y' : Ad) (ok' : Bool) (hw : w.heap.size ≤ b) : FirstAt w b gb rec y' ok' ((((W.setCell ⟨b + 1, 0, none⟩ (.bool y'.v)).setCell ⟨b + 1, 1, none⟩ (.int .u64 y'.hi)).setCell ⟨b + 1, 2, none⟩ (.int .u64 y'.lo)).setCell ⟨b + 1 + 1, 0, none⟩ (.bool ok')) := by
  have o1 : ∀ k, k ≠ b + 1 → k ≠ b + 1 + 1 → ((((W.setCell ⟨b + 1, 0, none⟩ (.bool y'.v)).setCell ⟨b + 1, 1, none⟩ (.int .u64 y'.hi)).setCell ⟨b + 1, 2, none⟩ (.int .u64 y'.lo)).setCell ⟨b + 1 + 1, 0, none⟩ (.bool ok')).heap[k]? = W.heap[k]? := fun k h1 h2 => by
    rw [heap_setCell_other _ ⟨b + 1 + 1, 0, none⟩ k _ h2, heap_setCell_other _ ⟨b + 1, 2, none⟩ k _ h1, heap_setCell_other _ ⟨b + 1, 1, none⟩ k _ h1, heap_setCell_other _ ⟨b + 1, 0, none⟩ k _ h1]
  refine ⟨(o1 b (by omega) (by omega)).trans h.box, ?_, ?_, (o1 (b + 3) (by omega) (by omega)).trans h.dfr, (o1 (b + 4) (by omega) (by omega)).trans h.rc, ?_⟩
  · exact (heap_setCell_other _ ⟨b + 1 + 1, 0, none⟩ (b + 1) _ (by show b + 1 ≠ b + 1 + 1; omega)).trans (h.res.put y')
  · have h1 : (((W.setCell ⟨b + 1, 0, none⟩ (.bool y'.v)).setCell ⟨b + 1, 1, none⟩ (.int .u64 y'.hi)).setCell ⟨b + 1, 2, none⟩ (.int .u64 y'.lo)).heap[b + 1 + 1]? = some (.cells #[.bool ok] 4 (0, 0)) := by
      rw [heap_setCell_other _ ⟨b + 1, 2, none⟩ _ _ (show b + 1 + 1 ≠ b + 1 by omega), heap_setCell_other _ ⟨b + 1, 1, none⟩ _ _ (show b + 1 + 1 ≠ b + 1 by omega), heap_setCell_other _ ⟨b + 1, 0, none⟩ _ _ (show b + 1 + 1 ≠ b + 1 by omega)]
      exact h.got
    have h2 := heap_setCell_same _ (b + 1 + 1) 0 _ _ (.bool ok') h1
    refine h2.trans ?_
    rfl
  · refine h.low.trans ?_
    exact ((((Below.refl _ _).setCell (p := ⟨b + 1, 0, none⟩) (by show _ ≤ b + 1; omega) _).setCell (p := ⟨b + 1, 1, none⟩) (by show _ ≤ b + 1; omega) _).setCell (p := ⟨b + 1, 2, none⟩) (by show _ ≤ b + 1; omega) _).setCell (p := ⟨b + 1 + 1, 0, none⟩) (by show _ ≤ b + 1 + 1; omega) _
theorem FirstAt.cells {w W : World} {b gb : Nat} {rec : Loop} {y : Ad} {ok : Bool} (h : FirstAt w b gb rec y ok W) : W.cell? ⟨b, 0, none⟩ = some (.pointer (some ⟨gb, 0, none⟩)) ∧ (W.cell? ⟨b + 1 + 1, 0, none⟩ = some (.bool ok) ∧ W.frozen? ⟨b + 1 + 1, 0, none⟩ = false) := by
  have h1 := h.box
  have h2 := h.got
  rw [show b + 2 = b + 1 + 1 from rfl] at h2
  refine ⟨?_, ?_, ?_⟩
  · simp [World.cell?, h1]
  · simp [World.cell?, h2]
  · simp [World.frozen?, h2]
theorem RKeep.below {l : Nat} {A W W' : World} (h : RKeep l A W) (hb : Below W.heap.size W W') : RKeep l A W' :=
  ⟨hb.os.trans h.os, hb.tape.trans h.tape, hb.output.trans h.output, Nat.le_trans h.size hb.size, fun k hk hn => (hb.block k (Nat.lt_of_lt_of_le hk h.size)).trans (h.same k hk hn)⟩
theorem RKeep.put {l : Nat} {A W : World} (h : RKeep l A W) (o : Obj) : RKeep l A (W.putObj l o) := ⟨h.os, h.tape, h.output, by simpa using h.size, fun k hk hn => (World.putObj_heap_other hn).trans (h.same k hk hn)⟩
theorem RKeep.refl (l : Nat) (A : World) : RKeep l A A := ⟨rfl, rfl, rfl, Nat.le_refl _, fun _ _ _ => rfl⟩

theorem FirstAt.leave {w W : World} {b gb : Nat} {rec : Loop} {y : Ad} {ok : Bool} (h : FirstAt w b gb rec y ok W) (hw : w.heap.size ≤ b) : (W.putObj (b + 3) (.deferred none)).cell? ⟨b + 1, 0, none⟩ = some (.bool y.v) ∧ (W.putObj (b + 3) (.deferred none)).cell? ⟨b + 1, 1, none⟩ = some (.int .u64 y.hi) ∧ (W.putObj (b + 3) (.deferred none)).cell? ⟨b + 1, 2, none⟩ = some (.int .u64 y.lo) ∧ (W.putObj (b + 3) (.deferred none)).cell? ⟨b + 1 + 1, 0, none⟩ = some (.bool ok) ∧ Below w.heap.size w (W.putObj (b + 3) (.deferred none)) := by
  have h1 : Box3 (W.putObj (b + 3) (.deferred none)) (b + 1) y := (World.putObj_heap_other (by omega)).trans h.res
  have h2 : (W.putObj (b + 3) (.deferred none)).heap[b + 1 + 1]? = some (.cells #[.bool ok] 4 (0, 0)) := (World.putObj_heap_other (by omega)).trans h.got
  refine ⟨h1.cells.1.1, h1.cells.1.2.1, h1.cells.1.2.2, ?_, h.low.trans ⟨rfl, rfl, rfl, by simp, fun k hk => World.putObj_heap_other (by omega)⟩⟩
  simp [World.cell?, h2]

attribute [local go_sem] Oper.semAt_some
def zeroAd : Ad := ⟨false, 0, 0, by decide⟩
set_option maxHeartbeats 8000000 in
set_option maxRecDepth 100000 in
theorem gfirst_any (gb : Nat) (p : Pf) (r : p.R) (ka : Option Addr) (kc : Nat) (kept : List Ad) (la : Option Addr) (lc : Nat) (l : List Ls) (w : World) (hg : GrAt w gb p (.slice ka kept.length kc) (.slice la l.length lc)) (hk : Lies adE w ka kept) (hs : Lies lsE w la l) (hkl : kept.length ≤ 1000) (hll : l.length ≤ 1000) :
    Calls Tryz.prog 112 #[.pointer (some ⟨gb, 0, none⟩)] w fun e w' => ((∃ k, k < p.many ∧ (∀ j, j < k → freeA kept l (adK p j) = false) ∧ freeA kept l (adK p k) = true ∧ e = .returned (.tuple #[.agg #[.bool (adK p k).v, .int .u64 (adK p k).hi, .int .u64 (adK p k).lo], .bool true])) ∨ ((∀ j, j < p.many → freeA kept l (adK p j) = false) ∧ e = .returned (.tuple #[.agg #[.bool false, .int .u64 0, .int .u64 0], .bool false]))) ∧ Below w.heap.size w w' := by
  refine (callsIn_wide (n := 9)).1 ?_
  have HG := Lib.hid hg
  have HK := Lib.hid hk
  have HS := Lib.hid hs
  clear hg hk hs
  refine callsIn_of_wp_marks Tryz.func112 rfl trivial ?_ rfl
  simp only [Tryz.ntmps112, List.size_toArray, List.length_cons, List.length_nil, Nat.reduceAdd, Nat.reduceSub, Array.replicate_succ, Array.replicate_zero, List.push_toArray, List.append_toArray, List.nil_append, List.cons_append]
  gi_wp2_with fail
  obtain ⟨W0, hW0⟩ : ∃ W0, W0 = ((w.alloc (.cells #[.pointer (some ⟨gb, 0, none⟩)] 165)).alloc (.cells #[.bool false, .int .u64 0, .int .u64 0] 29)).alloc (.cells #[.bool false] 4) := ⟨_, rfl⟩
  have hz0 : W0.heap.size = w.heap.size + 3 := by rw [hW0]; simp
  have hB0 : Below w.heap.size w W0 := by rw [hW0]; exact bal (bal (bal (Below.refl _ _) _) _) _
  have hx0 : W0.heap[w.heap.size]? = some (.cells #[.pointer (some ⟨gb, 0, none⟩)] 165 (0, 0)) := by
    rw [hW0]
    exact ((bal (bal (Below.refl _ _) _) _).block _ (by simp)).trans (heap_alloc_new w _)
  have hx1 : Box3 W0 (w.heap.size + 1) zeroAd := by
    rw [hW0]
    refine Box3.below ?_ (bal (Below.refl _ _) _)
    have := Box3.new (w.alloc (.cells #[.pointer (some ⟨gb, 0, none⟩)] 165)) zeroAd
    rw [World.size_alloc] at this
    exact this
  have hx2 : W0.heap[w.heap.size + 2]? = some (.cells #[.bool false] 4 (0, 0)) := by
    rw [hW0]
    have := heap_alloc_new ((w.alloc (.cells #[.pointer (some ⟨gb, 0, none⟩)] 165)).alloc (.cells #[.bool false, .int .u64 0, .int .u64 0] 29)) (.cells #[.bool false] 4)
    rw [World.size_alloc, World.size_alloc] at this
    exact this
  rw [← hW0]
  have HB0 := Lib.hid hB0
  have HX0 := Lib.hid hx0
  have HX1 := Lib.hid hx1
  have HX2 := Lib.hid hx2
  have HZ0 := Lib.hid hz0
  clear hB0 hx0 hx1 hx2 hW0 hz0
  refine wpIn_rangeMethod (gf := 117) (recv := .pointer (some ⟨gb, 0, none⟩)) rfl enters_addresses ?_
  intro rec hlaw
  have HLaw := Lib.hid hlaw
  clear hlaw
  rw [HZ0.out]
  obtain ⟨W1, hW1⟩ : ∃ W1, W1 = (W0.alloc (.deferred (some []))).alloc (.loop (rec .ready none)) := ⟨_, rfl⟩
  have hz1 : W1.heap.size = w.heap.size + 5 := by rw [hW1]; simp [HZ0.out]
  have hF1 : FirstAt w w.heap.size gb (rec .ready none) zeroAd false W1 := by
    have hb : Below W0.heap.size W0 W1 := by rw [hW1]; exact bal (bal (Below.refl _ _) _) _
    have e0 := HZ0.out
    refine ⟨(hb.block _ (by omega)).trans HX0.out, HX1.out.below hb, (hb.block _ (by omega)).trans HX2.out, ?_, ?_, btr HB0.out hb⟩
    · rw [hW1]
      have := heap_alloc_new W0 (.deferred (some []))
      rw [e0] at this
      exact ((bal (Below.refl _ _) _).block _ (by simp; omega)).trans this
    · rw [hW1]
      have := heap_alloc_new (W0.alloc (.deferred (some []))) (.loop (rec .ready none))
      rw [World.size_alloc, e0] at this
      exact this
  rw [← hW1]
  have HF1 := Lib.hid hF1
  have HZ1 := Lib.hid hz1
  clear hW1 hF1 hz1 HX0 HX1 HX2 HB0
  refine (addresses_in 7 (w.heap.size + 3 + 1) gb p r _ _ (fun k W => FirstAt w w.heap.size gb (rec .ready none) zeroAd false W ∧ ∀ j, j < k → freeA kept l (adK p j) = false)
    (fun k W => FirstAt w w.heap.size gb (rec .done (some .ret)) (adK p k) true W ∧ (∀ j, j < k → freeA kept l (adK p j) = false) ∧ freeA kept l (adK p k) = true) W1 (HG.out.below HF1.out.low) (by have := HZ1.out; omega)
    (fun k A B h hb => ⟨h.1.upto (by rw [← HZ1.out]; exact hb) (by omega), h.2⟩) (fun k A B h hb => ⟨h.1.upto (by rw [← HZ1.out]; exact hb) (by omega), h.2⟩) ?_ ⟨HF1.out, fun j hj => absurd hj (Nat.not_lt_zero _)⟩).mono ?_
  · rintro k A hk hsz ⟨hA, hfr⟩
    refine HLaw.out _ _ _ _ _ hA.rc rfl ?_
    have HA := Lib.hid hA
    have HFr := Lib.hid hfr
    clear hA hfr
    gi_wp2_with fail
    obtain ⟨A1, hA1⟩ : ∃ A1, A1 = A.alloc (.cells #[.bool (adK p k).v, .int .u64 (adK p k).hi, .int .u64 (adK p k).lo] 29) := ⟨_, rfl⟩
    have hbA : Below A.heap.size A A1 := by rw [hA1]; exact bal (Below.refl _ _) _
    have hF2 : FirstAt w w.heap.size gb (rec .ready none) zeroAd false A1 := HA.out.upto (hbA.mono (by have := HZ1.out; omega)) (by omega)
    have hbx : Box3 A1 A.heap.size (adK p k) := by rw [hA1]; exact Box3.new A (adK p k)
    have hlA : w.heap.size + 4 < A.heap.size := (Array.getElem?_eq_some_iff.1 HA.out.rc).1
    rw [← hA1]
    refine ⟨hF2.rc, ?_⟩
    obtain ⟨W3, hW3⟩ : ∃ W3, W3 = A1.putObj (w.heap.size + 3 + 1) (.loop (rec .busy none)) := ⟨_, rfl⟩
    have HF3 : Hid (FirstAt w w.heap.size gb (rec .busy none) zeroAd false W3) := by rw [hW3]; exact hF2.setRec _ (Nat.le_refl _)
    have HBx : Hid (Box3 W3 A.heap.size (adK p k)) := by rw [hW3]; exact (World.putObj_heap_other (by omega)).trans hbx
    have HRk : Hid (RKeep (w.heap.size + 3 + 1) A W3) := by rw [hW3]; exact ((RKeep.refl _ A).below hbA).put _
    rw [← hW3]
    clear hW3 hA1 hF2 hbx hbA
    obtain ⟨qb, hqb⟩ : ∃ qb, qb = A.heap.size := ⟨_, rfl⟩
    rw [← hqb] at HBx hlA ⊢
    have HQb := Lib.hid hqb
    clear hqb
    have hmix := mixed_ok
    have HC : Hid (∀ W4, Below W3.heap.size W3 W4 → Calls Tryz.prog 72 #[.slice ka kept.length kc, .agg #[.bool (adK p k).v, .int .u64 (adK p k).hi, .int .u64 (adK p k).lo]] W4 fun e w' => e = .returned (.bool (kept.any (sameA (adK p k)))) ∧ Below W3.heap.size W3 w') := by
      intro W4 hb4
      exact (conA_any ka kc kept (adK p k) W4 hkl (HK.out.below (btr HF3.out.low hb4))).mono fun e w' h => ⟨h.1, btr hb4 h.2⟩
    have HD : Hid (∀ W4, Below W3.heap.size W3 W4 → Calls Tryz.prog 65 #[.slice la l.length lc, .func (.func 118) #[] #[.pointer (some ⟨qb, 0, none⟩)]] W4 fun e w' => e = .returned (.bool (l.any (fun y => sameA y.a (adK p k)))) ∧ Below W3.heap.size W3 w') := by
      intro W4 hb4
      have hlow := btr HF3.out.low hb4
      exact (conL_any la lc l W4 118 #[.pointer (some ⟨qb, 0, none⟩)] (fun y => sameA y.a (adK p k)) hll (HS.out.below hlow) enters_first1 (fun W y hy hb => (first1_any qb (adK p k) y W ((HBx.out.below (btr hb4 hb)).has)).mono fun e w' h => ⟨h.1, btr hb h.2⟩)).mono fun e w' h => ⟨h.1, btr hb4 h.2⟩
    obtain ⟨⟨_, _, _, _, g4, g5⟩, _⟩ := (HG.out.below HF3.out.low).cells
    have hgl : gb < W3.heap.size := Nat.lt_of_lt_of_le HG.out.lt HF3.out.low.size
    obtain ⟨b0, _, _⟩ := HF3.out.cells
    have hbl : w.heap.size < W3.heap.size := (Array.getElem?_eq_some_iff.1 HF3.out.box).1
    obtain ⟨⟨q0, q1, q2⟩, _⟩ := HBx.out.cells
    have Hfree : Hid (freeA kept l (adK p k) = (!(kept.any (sameA (adK p k))) && !(l.any (fun y => sameA y.a (adK p k))))) := rfl
    have HEnd : Hid (∀ (ac : Act) (W4 : World), Below W3.heap.size W3 W4 → freeA kept l (adK p k) = false → roundQ rec (w.heap.size + 3 + 1) (fun e A' => (e = .returned (.bool true) ∧ (FirstAt w w.heap.size gb (rec .ready none) zeroAd false A' ∧ ∀ j, j < k + 1 → freeA kept l (adK p j) = false) ∧ RKeep (w.heap.size + 3 + 1) A A') ∨ (e = .returned (.bool false) ∧ FirstAt w w.heap.size gb (rec .done (some .ret)) (adK p k) true A' ∧ (∀ j, j < k → freeA kept l (adK p j) = false) ∧ freeA kept l (adK p k) = true)) .normal ac W4) := by
      intro ac W4 hb4 hfk
      have hl4 : w.heap.size + 4 < W3.heap.size := (Array.getElem?_eq_some_iff.1 HF3.out.rc).1
      have hF4 := HF3.out.upto (hb4.mono (by omega)) (by omega)
      refine ⟨hF4.rc, .inl ⟨rfl, ⟨hF4.setRec _ (Nat.le_refl _), fun j hj => ?_⟩, (HRk.out.below hb4).put _⟩⟩
      by_cases e : j = k
      · rw [e]; exact hfk
      · exact HFr.out j (by omega)
    generalize freeA kept l (adK p k) = fk at *
    generalize kept.any (sameA (adK p k)) = kb at *
    generalize l.any (fun y => sameA y.a (adK p k)) = lb at *
    generalize kept.length = KN at *
    generalize l.length = LN at *
    have HCe : Hid (∀ w', Below W3.heap.size W3 w' → w'.cell? ⟨w.heap.size, 0, none⟩ = some (.pointer (some ⟨gb, 0, none⟩)) ∧ w'.cell? ⟨gb, 4, none⟩ = some (.slice ka KN kc) ∧ w'.cell? ⟨gb, 5, none⟩ = some (.slice la LN lc) ∧ w'.cell? ⟨qb, 0, none⟩ = some (.bool (adK p k).v) ∧ w'.cell? ⟨qb, 1, none⟩ = some (.int .u64 (adK p k).hi) ∧ w'.cell? ⟨qb, 2, none⟩ = some (.int .u64 (adK p k).lo)) := by
      intro w' hb
      have hq := HBx.out.lt
      exact ⟨(hb.cell (p := ⟨w.heap.size, 0, none⟩) hbl).trans b0, (hb.cell (p := ⟨gb, 4, none⟩) hgl).trans g4, (hb.cell (p := ⟨gb, 5, none⟩) hgl).trans g5, (hb.cell (p := ⟨qb, 0, none⟩) hq).trans q0, (hb.cell (p := ⟨qb, 1, none⟩) hq).trans q1, (hb.cell (p := ⟨qb, 2, none⟩) hq).trans q2⟩
    clear b0 g4 g5 q0 q1 q2
    cases kb
    · cases lb
      · gi_wp2_with fail
        refine quietR (C := fun W' => Below W3.heap.size W3 W') mixed_ok (by kernel_rfl) (by kernel_rfl) (fun _ _ h => h) (Below.refl W3.heap.size W3).drew ?_
        refine BigFrame.wpQuiet_want rfl fun K hK => quiet_val (.pointer (some ⟨gb, 0, none⟩)) (fun w' hw' => by obtain ⟨c0, c4, c5, c6, c7, c8⟩ := HCe.out w' hw'; simp [go_sem, c0, c4, c5, c6, c7, c8]) (hK _ ?_)
        simp only [Act.put, List.setIfInBounds_toArray, List.set_cons_zero, List.set_cons_succ]
        refine BigFrame.wpQuiet_want rfl fun K hK => quiet_val (.pointer (some ⟨gb, 0, none⟩)) (fun w' hw' => by obtain ⟨c0, c4, c5, c6, c7, c8⟩ := HCe.out w' hw'; simp [go_sem, c0, c4, c5, c6, c7, c8]) (hK _ ?_)
        simp only [Act.put, List.setIfInBounds_toArray, List.set_cons_zero, List.set_cons_succ]
        refine BigFrame.wpQuiet_want rfl fun K hK => quiet_val (.pointer (some ⟨gb, 0, none⟩)) (fun w' hw' => by obtain ⟨c0, c4, c5, c6, c7, c8⟩ := HCe.out w' hw'; simp [go_sem, c0, c4, c5, c6, c7, c8]) (hK _ ?_)
        simp only [Act.put, List.setIfInBounds_toArray, List.set_cons_zero, List.set_cons_succ]
        refine BigFrame.wpQuiet_want rfl fun K hK => quiet_val (.pointer (some ⟨gb, 4, none⟩)) (fun w' hw' => by obtain ⟨c0, c4, c5, c6, c7, c8⟩ := HCe.out w' hw'; simp [go_sem, c0, c4, c5, c6, c7, c8]) (hK _ ?_)
        simp only [Act.put, List.setIfInBounds_toArray, List.set_cons_zero, List.set_cons_succ]
        refine BigFrame.wpQuiet_want rfl fun K hK => quiet_val (.slice ka KN kc) (fun w' hw' => by obtain ⟨c0, c4, c5, c6, c7, c8⟩ := HCe.out w' hw'; simp [go_sem, c0, c4, c5, c6, c7, c8]) (hK _ ?_)
        simp only [Act.put, List.setIfInBounds_toArray, List.set_cons_zero, List.set_cons_succ]
        refine BigFrame.wpQuiet_want rfl fun K hK => quiet_val (.agg #[.bool (adK p k).v, .int .u64 (adK p k).hi, .int .u64 (adK p k).lo]) (fun w' hw' => by obtain ⟨c0, c4, c5, c6, c7, c8⟩ := HCe.out w' hw'; simp [go_sem, c0, c4, c5, c6, c7, c8]) (hK _ ?_)
        simp only [Act.put, List.setIfInBounds_toArray, List.set_cons_zero, List.set_cons_succ]
        refine BigFrame.wpQuiet_want rfl fun K hK => quiet_fn (.bool false) 72 #[.slice ka KN kc, .agg #[.bool (adK p k).v, .int .u64 (adK p k).hi, .int .u64 (adK p k).lo]] (fun w' hw' => by simp [go_sem, enters_con]) (fun w' hw' => HC.out w' hw') (hK _ ?_)
        simp only [Act.put, List.setIfInBounds_toArray, List.set_cons_zero, List.set_cons_succ]
        refine BigFrame.wpQuiet_want rfl fun K hK => quiet_val (.bool true) (fun w' hw' => by obtain ⟨c0, c4, c5, c6, c7, c8⟩ := HCe.out w' hw'; simp [go_sem, c0, c4, c5, c6, c7, c8]) (hK _ ?_)
        simp only [Act.put, List.setIfInBounds_toArray, List.set_cons_zero, List.set_cons_succ]
        refine BigFrame.wpQuiet_want rfl fun K hK => quiet_val (.bool true) (fun w' hw' => by obtain ⟨c0, c4, c5, c6, c7, c8⟩ := HCe.out w' hw'; simp [go_sem, c0, c4, c5, c6, c7, c8]) (hK _ ?_)
        simp only [Act.put, List.setIfInBounds_toArray, List.set_cons_zero, List.set_cons_succ]
        refine BigFrame.wpQuiet_want rfl fun K hK => quiet_val (.pointer (some ⟨gb, 0, none⟩)) (fun w' hw' => by obtain ⟨c0, c4, c5, c6, c7, c8⟩ := HCe.out w' hw'; simp [go_sem, c0, c4, c5, c6, c7, c8]) (hK _ ?_)
        simp only [Act.put, List.setIfInBounds_toArray, List.set_cons_zero, List.set_cons_succ]
        refine BigFrame.wpQuiet_want rfl fun K hK => quiet_val (.pointer (some ⟨gb, 0, none⟩)) (fun w' hw' => by obtain ⟨c0, c4, c5, c6, c7, c8⟩ := HCe.out w' hw'; simp [go_sem, c0, c4, c5, c6, c7, c8]) (hK _ ?_)
        simp only [Act.put, List.setIfInBounds_toArray, List.set_cons_zero, List.set_cons_succ]
        refine BigFrame.wpQuiet_want rfl fun K hK => quiet_val (.pointer (some ⟨gb, 5, none⟩)) (fun w' hw' => by obtain ⟨c0, c4, c5, c6, c7, c8⟩ := HCe.out w' hw'; simp [go_sem, c0, c4, c5, c6, c7, c8]) (hK _ ?_)
        simp only [Act.put, List.setIfInBounds_toArray, List.set_cons_zero, List.set_cons_succ]
        refine BigFrame.wpQuiet_want rfl fun K hK => quiet_val (.slice la LN lc) (fun w' hw' => by obtain ⟨c0, c4, c5, c6, c7, c8⟩ := HCe.out w' hw'; simp [go_sem, c0, c4, c5, c6, c7, c8]) (hK _ ?_)
        simp only [Act.put, List.setIfInBounds_toArray, List.set_cons_zero, List.set_cons_succ]
        refine BigFrame.wpQuiet_want rfl fun K hK => quiet_val (.func (.func 118) #[] #[.pointer (some ⟨qb, 0, none⟩)]) (fun w' hw' => by obtain ⟨c0, c4, c5, c6, c7, c8⟩ := HCe.out w' hw'; simp [go_sem, c0, c4, c5, c6, c7, c8]) (hK _ ?_)
        simp only [Act.put, List.setIfInBounds_toArray, List.set_cons_zero, List.set_cons_succ]
        refine BigFrame.wpQuiet_want rfl fun K hK => quiet_fn (.bool false) 65 #[.slice la LN lc, .func (.func 118) #[] #[.pointer (some ⟨qb, 0, none⟩)]] (fun w' hw' => by simp [go_sem, enters_conF]) (fun w' hw' => HD.out w' hw') (hK _ ?_)
        simp only [Act.put, List.setIfInBounds_toArray, List.set_cons_zero, List.set_cons_succ]
        refine BigFrame.wpQuiet_want rfl fun K hK => quiet_val (.bool true) (fun w' hw' => by obtain ⟨c0, c4, c5, c6, c7, c8⟩ := HCe.out w' hw'; simp [go_sem, c0, c4, c5, c6, c7, c8]) (hK _ ?_)
        simp only [Act.put, List.setIfInBounds_toArray, List.set_cons_zero, List.set_cons_succ]
        refine BigFrame.wpQuiet_want rfl fun K hK => quiet_val (.bool true) (fun w' hw' => by obtain ⟨c0, c4, c5, c6, c7, c8⟩ := HCe.out w' hw'; simp [go_sem, c0, c4, c5, c6, c7, c8]) (hK _ ?_)
        simp only [Act.put, List.setIfInBounds_toArray, List.set_cons_zero, List.set_cons_succ]
        refine wpQuiet_nil ?_
        intro W4 hb4
        have HB4 := Lib.hid hb4
        clear hb4
        have hl4 : w.heap.size + 4 < W3.heap.size := (Array.getElem?_eq_some_iff.1 HF3.out.rc).1
        have HF4 := Lib.hid (HF3.out.upto (HB4.out.mono (by omega)) (by omega))
        obtain ⟨⟨z0, z1, z2⟩, y0, y1, y2⟩ := HF4.out.res.cells
        obtain ⟨_, x0, x1⟩ := HF4.out.cells
        obtain ⟨_, _, _, v0, v1, v2⟩ := HCe.out _ HB4.out
        have HF5 := Lib.hid (HF4.out.put (adK p k) true (Nat.le_refl _))
        have HFin : Hid (fk = true) := by rw [Hid, Hfree.out]; rfl
        clear HEnd
        gi_wp2_with fail
        exact ⟨HF5.out.rc, .inr ⟨rfl, HF5.out.setRec _ (Nat.le_refl _), HFr.out, HFin.out⟩⟩
      · gi_wp2_with fail
        refine quietR (C := fun W' => Below W3.heap.size W3 W') mixed_ok (by kernel_rfl) (by kernel_rfl) (fun _ _ h => h) (Below.refl W3.heap.size W3).drew ?_
        refine BigFrame.wpQuiet_want rfl fun K hK => quiet_val (.pointer (some ⟨gb, 0, none⟩)) (fun w' hw' => by obtain ⟨c0, c4, c5, c6, c7, c8⟩ := HCe.out w' hw'; simp [go_sem, c0, c4, c5, c6, c7, c8]) (hK _ ?_)
        simp only [Act.put, List.setIfInBounds_toArray, List.set_cons_zero, List.set_cons_succ]
        refine BigFrame.wpQuiet_want rfl fun K hK => quiet_val (.pointer (some ⟨gb, 0, none⟩)) (fun w' hw' => by obtain ⟨c0, c4, c5, c6, c7, c8⟩ := HCe.out w' hw'; simp [go_sem, c0, c4, c5, c6, c7, c8]) (hK _ ?_)
        simp only [Act.put, List.setIfInBounds_toArray, List.set_cons_zero, List.set_cons_succ]
        refine BigFrame.wpQuiet_want rfl fun K hK => quiet_val (.pointer (some ⟨gb, 0, none⟩)) (fun w' hw' => by obtain ⟨c0, c4, c5, c6, c7, c8⟩ := HCe.out w' hw'; simp [go_sem, c0, c4, c5, c6, c7, c8]) (hK _ ?_)
        simp only [Act.put, List.setIfInBounds_toArray, List.set_cons_zero, List.set_cons_succ]
        refine BigFrame.wpQuiet_want rfl fun K hK => quiet_val (.pointer (some ⟨gb, 4, none⟩)) (fun w' hw' => by obtain ⟨c0, c4, c5, c6, c7, c8⟩ := HCe.out w' hw'; simp [go_sem, c0, c4, c5, c6, c7, c8]) (hK _ ?_)
        simp only [Act.put, List.setIfInBounds_toArray, List.set_cons_zero, List.set_cons_succ]
        refine BigFrame.wpQuiet_want rfl fun K hK => quiet_val (.slice ka KN kc) (fun w' hw' => by obtain ⟨c0, c4, c5, c6, c7, c8⟩ := HCe.out w' hw'; simp [go_sem, c0, c4, c5, c6, c7, c8]) (hK _ ?_)
        simp only [Act.put, List.setIfInBounds_toArray, List.set_cons_zero, List.set_cons_succ]
        refine BigFrame.wpQuiet_want rfl fun K hK => quiet_val (.agg #[.bool (adK p k).v, .int .u64 (adK p k).hi, .int .u64 (adK p k).lo]) (fun w' hw' => by obtain ⟨c0, c4, c5, c6, c7, c8⟩ := HCe.out w' hw'; simp [go_sem, c0, c4, c5, c6, c7, c8]) (hK _ ?_)
        simp only [Act.put, List.setIfInBounds_toArray, List.set_cons_zero, List.set_cons_succ]
        refine BigFrame.wpQuiet_want rfl fun K hK => quiet_fn (.bool false) 72 #[.slice ka KN kc, .agg #[.bool (adK p k).v, .int .u64 (adK p k).hi, .int .u64 (adK p k).lo]] (fun w' hw' => by simp [go_sem, enters_con]) (fun w' hw' => HC.out w' hw') (hK _ ?_)
        simp only [Act.put, List.setIfInBounds_toArray, List.set_cons_zero, List.set_cons_succ]
        refine BigFrame.wpQuiet_want rfl fun K hK => quiet_val (.bool true) (fun w' hw' => by obtain ⟨c0, c4, c5, c6, c7, c8⟩ := HCe.out w' hw'; simp [go_sem, c0, c4, c5, c6, c7, c8]) (hK _ ?_)
        simp only [Act.put, List.setIfInBounds_toArray, List.set_cons_zero, List.set_cons_succ]
        refine BigFrame.wpQuiet_want rfl fun K hK => quiet_val (.bool true) (fun w' hw' => by obtain ⟨c0, c4, c5, c6, c7, c8⟩ := HCe.out w' hw'; simp [go_sem, c0, c4, c5, c6, c7, c8]) (hK _ ?_)
        simp only [Act.put, List.setIfInBounds_toArray, List.set_cons_zero, List.set_cons_succ]
        refine BigFrame.wpQuiet_want rfl fun K hK => quiet_val (.pointer (some ⟨gb, 0, none⟩)) (fun w' hw' => by obtain ⟨c0, c4, c5, c6, c7, c8⟩ := HCe.out w' hw'; simp [go_sem, c0, c4, c5, c6, c7, c8]) (hK _ ?_)
        simp only [Act.put, List.setIfInBounds_toArray, List.set_cons_zero, List.set_cons_succ]
        refine BigFrame.wpQuiet_want rfl fun K hK => quiet_val (.pointer (some ⟨gb, 0, none⟩)) (fun w' hw' => by obtain ⟨c0, c4, c5, c6, c7, c8⟩ := HCe.out w' hw'; simp [go_sem, c0, c4, c5, c6, c7, c8]) (hK _ ?_)
        simp only [Act.put, List.setIfInBounds_toArray, List.set_cons_zero, List.set_cons_succ]
        refine BigFrame.wpQuiet_want rfl fun K hK => quiet_val (.pointer (some ⟨gb, 5, none⟩)) (fun w' hw' => by obtain ⟨c0, c4, c5, c6, c7, c8⟩ := HCe.out w' hw'; simp [go_sem, c0, c4, c5, c6, c7, c8]) (hK _ ?_)
        simp only [Act.put, List.setIfInBounds_toArray, List.set_cons_zero, List.set_cons_succ]
        refine BigFrame.wpQuiet_want rfl fun K hK => quiet_val (.slice la LN lc) (fun w' hw' => by obtain ⟨c0, c4, c5, c6, c7, c8⟩ := HCe.out w' hw'; simp [go_sem, c0, c4, c5, c6, c7, c8]) (hK _ ?_)
        simp only [Act.put, List.setIfInBounds_toArray, List.set_cons_zero, List.set_cons_succ]
        refine BigFrame.wpQuiet_want rfl fun K hK => quiet_val (.func (.func 118) #[] #[.pointer (some ⟨qb, 0, none⟩)]) (fun w' hw' => by obtain ⟨c0, c4, c5, c6, c7, c8⟩ := HCe.out w' hw'; simp [go_sem, c0, c4, c5, c6, c7, c8]) (hK _ ?_)
        simp only [Act.put, List.setIfInBounds_toArray, List.set_cons_zero, List.set_cons_succ]
        refine BigFrame.wpQuiet_want rfl fun K hK => quiet_fn (.bool true) 65 #[.slice la LN lc, .func (.func 118) #[] #[.pointer (some ⟨qb, 0, none⟩)]] (fun w' hw' => by simp [go_sem, enters_conF]) (fun w' hw' => HD.out w' hw') (hK _ ?_)
        simp only [Act.put, List.setIfInBounds_toArray, List.set_cons_zero, List.set_cons_succ]
        refine BigFrame.wpQuiet_want rfl fun K hK => quiet_val (.bool false) (fun w' hw' => by obtain ⟨c0, c4, c5, c6, c7, c8⟩ := HCe.out w' hw'; simp [go_sem, c0, c4, c5, c6, c7, c8]) (hK _ ?_)
        simp only [Act.put, List.setIfInBounds_toArray, List.set_cons_zero, List.set_cons_succ]
        refine BigFrame.wpQuiet_want rfl fun K hK => quiet_val (.bool false) (fun w' hw' => by obtain ⟨c0, c4, c5, c6, c7, c8⟩ := HCe.out w' hw'; simp [go_sem, c0, c4, c5, c6, c7, c8]) (hK _ ?_)
        simp only [Act.put, List.setIfInBounds_toArray, List.set_cons_zero, List.set_cons_succ]
        refine wpQuiet_nil ?_
        intro W4 hb4
        have HB4 := Lib.hid hb4
        clear hb4
        gi_wp2_with fail
        exact HEnd.out _ _ HB4.out Hfree.out
    · gi_wp2_with fail
      refine quietR (C := fun W' => Below W3.heap.size W3 W') mixed_ok (by kernel_rfl) (by kernel_rfl) (fun _ _ h => h) (Below.refl W3.heap.size W3).drew ?_
      refine BigFrame.wpQuiet_want rfl fun K hK => quiet_val (.pointer (some ⟨gb, 0, none⟩)) (fun w' hw' => by obtain ⟨c0, c4, c5, c6, c7, c8⟩ := HCe.out w' hw'; simp [go_sem, c0, c4, c5, c6, c7, c8]) (hK _ ?_)
      simp only [Act.put, List.setIfInBounds_toArray, List.set_cons_zero, List.set_cons_succ]
      refine BigFrame.wpQuiet_want rfl fun K hK => quiet_val (.pointer (some ⟨gb, 0, none⟩)) (fun w' hw' => by obtain ⟨c0, c4, c5, c6, c7, c8⟩ := HCe.out w' hw'; simp [go_sem, c0, c4, c5, c6, c7, c8]) (hK _ ?_)
      simp only [Act.put, List.setIfInBounds_toArray, List.set_cons_zero, List.set_cons_succ]
      refine BigFrame.wpQuiet_want rfl fun K hK => quiet_val (.pointer (some ⟨gb, 0, none⟩)) (fun w' hw' => by obtain ⟨c0, c4, c5, c6, c7, c8⟩ := HCe.out w' hw'; simp [go_sem, c0, c4, c5, c6, c7, c8]) (hK _ ?_)
      simp only [Act.put, List.setIfInBounds_toArray, List.set_cons_zero, List.set_cons_succ]
      refine BigFrame.wpQuiet_want rfl fun K hK => quiet_val (.pointer (some ⟨gb, 4, none⟩)) (fun w' hw' => by obtain ⟨c0, c4, c5, c6, c7, c8⟩ := HCe.out w' hw'; simp [go_sem, c0, c4, c5, c6, c7, c8]) (hK _ ?_)
      simp only [Act.put, List.setIfInBounds_toArray, List.set_cons_zero, List.set_cons_succ]
      refine BigFrame.wpQuiet_want rfl fun K hK => quiet_val (.slice ka KN kc) (fun w' hw' => by obtain ⟨c0, c4, c5, c6, c7, c8⟩ := HCe.out w' hw'; simp [go_sem, c0, c4, c5, c6, c7, c8]) (hK _ ?_)
      simp only [Act.put, List.setIfInBounds_toArray, List.set_cons_zero, List.set_cons_succ]
      refine BigFrame.wpQuiet_want rfl fun K hK => quiet_val (.agg #[.bool (adK p k).v, .int .u64 (adK p k).hi, .int .u64 (adK p k).lo]) (fun w' hw' => by obtain ⟨c0, c4, c5, c6, c7, c8⟩ := HCe.out w' hw'; simp [go_sem, c0, c4, c5, c6, c7, c8]) (hK _ ?_)
      simp only [Act.put, List.setIfInBounds_toArray, List.set_cons_zero, List.set_cons_succ]
      refine BigFrame.wpQuiet_want rfl fun K hK => quiet_fn (.bool true) 72 #[.slice ka KN kc, .agg #[.bool (adK p k).v, .int .u64 (adK p k).hi, .int .u64 (adK p k).lo]] (fun w' hw' => by simp [go_sem, enters_con]) (fun w' hw' => HC.out w' hw') (hK _ ?_)
      simp only [Act.put, List.setIfInBounds_toArray, List.set_cons_zero, List.set_cons_succ]
      refine BigFrame.wpQuiet_want rfl fun K hK => quiet_val (.bool false) (fun w' hw' => by obtain ⟨c0, c4, c5, c6, c7, c8⟩ := HCe.out w' hw'; simp [go_sem, c0, c4, c5, c6, c7, c8]) (hK _ ?_)
      simp only [Act.put, List.setIfInBounds_toArray, List.set_cons_zero, List.set_cons_succ]
      refine BigFrame.wpQuiet_want rfl fun K hK => quiet_val (.bool false) (fun w' hw' => by obtain ⟨c0, c4, c5, c6, c7, c8⟩ := HCe.out w' hw'; simp [go_sem, c0, c4, c5, c6, c7, c8]) (hK _ ?_)
      simp only [Act.put, List.setIfInBounds_toArray, List.set_cons_zero, List.set_cons_succ]
      refine BigFrame.wpQuiet_skip rfl ?_
      simp only [Act.put, List.setIfInBounds_toArray, List.set_cons_zero, List.set_cons_succ]
      refine BigFrame.wpQuiet_skip rfl ?_
      simp only [Act.put, List.setIfInBounds_toArray, List.set_cons_zero, List.set_cons_succ]
      refine BigFrame.wpQuiet_skip rfl ?_
      simp only [Act.put, List.setIfInBounds_toArray, List.set_cons_zero, List.set_cons_succ]
      refine BigFrame.wpQuiet_skip rfl ?_
      simp only [Act.put, List.setIfInBounds_toArray, List.set_cons_zero, List.set_cons_succ]
      refine BigFrame.wpQuiet_skip rfl ?_
      simp only [Act.put, List.setIfInBounds_toArray, List.set_cons_zero, List.set_cons_succ]
      refine BigFrame.wpQuiet_skip rfl ?_
      simp only [Act.put, List.setIfInBounds_toArray, List.set_cons_zero, List.set_cons_succ]
      refine BigFrame.wpQuiet_skip rfl ?_
      simp only [Act.put, List.setIfInBounds_toArray, List.set_cons_zero, List.set_cons_succ]
      refine BigFrame.wpQuiet_want rfl fun K hK => quiet_val (.bool false) (fun w' hw' => by obtain ⟨c0, c4, c5, c6, c7, c8⟩ := HCe.out w' hw'; simp [go_sem, c0, c4, c5, c6, c7, c8]) (hK _ ?_)
      simp only [Act.put, List.setIfInBounds_toArray, List.set_cons_zero, List.set_cons_succ]
      refine wpQuiet_nil ?_
      intro W4 hb4
      have HB4 := Lib.hid hb4
      clear hb4
      gi_wp2_with fail
      exact HEnd.out _ _ HB4.out Hfree.out
  · rintro e W2 ⟨⟨v, rfl⟩, (⟨hA, hfr⟩ | ⟨k, hk, hA, hfr, hok⟩)⟩
    · refine ⟨⟨_, rfl⟩, .inl ⟨hA.rc, ?_⟩⟩
      have HF4 := Lib.hid (hA.setRec (rec .exhausted none) (Nat.le_refl _))
      have HFr := Lib.hid hfr
      clear hA hfr
      generalize W2.putObj (w.heap.size + 3 + 1) (.loop (rec .exhausted none)) = W3 at *
      obtain ⟨⟨z0, z1, z2⟩, y0, y1, y2⟩ := HF4.out.res.cells
      obtain ⟨_, x0, x1⟩ := HF4.out.cells
      have HF5 := Lib.hid (HF4.out.put zeroAd false (Nat.le_refl _))
      gi_wp2_with fail
      obtain ⟨WX, hWX⟩ : ∃ WX, WX = (((W3.setCell ⟨w.heap.size + 1, 0, none⟩ (.bool false)).setCell ⟨w.heap.size + 1, 1, none⟩ (.int .u64 0)).setCell ⟨w.heap.size + 1, 2, none⟩ (.int .u64 0)).setCell ⟨w.heap.size + 1 + 1, 0, none⟩ (.bool false) := ⟨_, rfl⟩
      have hF6 : FirstAt w w.heap.size gb (rec .exhausted none) zeroAd false WX := by rw [hWX]; exact HF5.out
      rw [← hWX]
      clear hWX HF5 HF4 z0 z1 z2 y0 y1 y2 x0 x1
      obtain ⟨c0, c1, c2, c3, hlow⟩ := hF6.leave (Nat.le_refl _)
      refine ⟨by simp, .inl ⟨_, _, rfl, run_takeDeferred hF6.dfr, ?_⟩⟩
      refine ⟨.tuple #[.agg #[.bool false, .int .u64 0, .int .u64 0], .bool false], ?_, .inr ⟨HFr.out, rfl⟩, hlow⟩
      simp [results, Tryz.f112, go_sem, c0, c1, c2, c3]
      simp [zeroAd]
    · refine ⟨⟨_, rfl⟩, .inr ⟨hA.rc, ?_⟩⟩
      have HF4 := Lib.hid (hA.setRec (rec .exhausted (some .ret)) (Nat.le_refl _))
      have HFr := Lib.hid hfr
      have HOk := Lib.hid hok
      clear hA hfr hok
      generalize W2.putObj (w.heap.size + 3 + 1) (.loop (rec .exhausted (some .ret))) = W3 at *
      gi_wp2_with fail
      obtain ⟨c0, c1, c2, c3, hlow⟩ := HF4.out.leave (Nat.le_refl _)
      refine ⟨by simp, .inl ⟨_, _, rfl, run_takeDeferred HF4.out.dfr, ?_⟩⟩
      refine ⟨.tuple #[.agg #[.bool (adK p k).v, .int .u64 (adK p k).hi, .int .u64 (adK p k).lo], .bool true], ?_, .inl ⟨k, hk, HFr.out, HOk.out, rfl⟩, hlow⟩
      simp [results, Tryz.f112, go_sem, c0, c1, c2, c3]
end Go.Proofs.YtjainfehlbfiaaaGreat

namespace Go.Proofs.YtjainfehlbfiaaaGreat
open Go.RowKit Go.Shelf

/-- The number of the first address that may be granted. -/
def firstK (p : Pf) (kept : List Ad) (l : List Ls) : Option Nat := (List.range p.many).find? fun k => freeA kept l (adK p k)
theorem firstK_some {p : Pf} {kept : List Ad} {l : List Ls} {k : Nat} (hk : k < p.many) (ha : ∀ j, j < k → freeA kept l (adK p j) = false) (hf : freeA kept l (adK p k) = true) : firstK p kept l = some k := by
  unfold firstK
  rw [List.find?_eq_some_iff_append]
  refine ⟨hf, List.range k, (List.range (p.many - (k + 1))).map (fun i => k + 1 + i), ?_, ?_⟩
  · have e : p.many = k + (1 + (p.many - (k + 1))) := by omega
    conv => lhs; rw [e]
    rw [List.range_add, List.range_add]
    simp [List.range_succ, Nat.add_assoc, Function.comp_def]
  · intro j hj
    rw [ha j (List.mem_range.1 hj)]; rfl
theorem firstK_none {p : Pf} {kept : List Ad} {l : List Ls} (ha : ∀ j, j < p.many → freeA kept l (adK p j) = false) : firstK p kept l = none := by
  unfold firstK
  rw [List.find?_eq_none]
  intro j hj
  rw [ha j (List.mem_range.1 hj)]; simp
/-- What is granted: the leases then, and the address. -/
def grantR (p : Pf) (kept : List Ad) (l : List Ls) (who : ByteArray) (un : Int) : Option (List Ls × Ad) :=
  match l.findIdx? (fun y => y.who.toList == who.toList) with
  | some i => (l[i]?).map fun y => (l.set i ⟨y.a, y.who, un⟩, y.a)
  | none => (firstK p kept l).map fun k => (insOf ⟨adK p k, who, un⟩ l, adK p k)
theorem rowOf_setUn : ∀ (l : List Ls) (j : Nat) (h : j < l.length) (un : Int), (rowOf lsE l).set (j * 5 + 4) (.int .i64 un) = rowOf lsE (l.set j ⟨l[j].a, l[j].who, un⟩)
  | x :: r, 0, h, un => by simp [rowOf, lsE]
  | x :: r, j + 1, h, un => by
    have ih := rowOf_setUn r j (by simpa using h) un
    rw [List.set_cons_succ, rowOf, rowOf, show (j + 1) * 5 + 4 = 5 + (j * 5 + 4) by omega]
    rw [List.set_append_right _ _ (by rw [lsE.len x]; show 5 ≤ _; omega), lsE.len x]
    rw [show 5 + (j * 5 + 4) - lsE.k = j * 5 + 4 by show 5 + (j * 5 + 4) - 5 = _; omega, ih]
    rfl
theorem OwnAt.setUn {w : World} {B t g c : Nat} {l : List Ls} (h : OwnAt lsE w B t g c l) (j : Nat) (hj : j < l.length) (un : Int) : OwnAt lsE (w.setCell ⟨g, j * 5 + 4, none⟩ (.int .i64 un)) B t g c (l.set j ⟨l[j].a, l[j].who, un⟩) := by
  obtain ⟨rest, hr, hlen⟩ := h.row
  refine ⟨h.base, by simpa using h.le, h.max, rest, ?_, ?_⟩
  · have h1 := heap_setCell_same w g (j * 5 + 4) _ _ (.int .i64 un) hr
    rw [h1]
    have hlt : j * 5 + 4 < (rowOf lsE l).length := by rw [rowOf_len]; show _ < l.length * 5; omega
    have h2 : (rowOf lsE l ++ rest).set (j * 5 + 4) (.int .i64 un) = rowOf lsE (l.set j ⟨l[j].a, l[j].who, un⟩) ++ rest := by rw [List.set_append_left _ _ hlt, rowOf_setUn l j hj un]
    rw [← h2]
    simp
  · rw [← hlen, List.length_append, List.length_append, rowOf_len, rowOf_len, List.length_set]
theorem heap_put3 (W : World) (c k : Nat) (u0 u1 u2 : Value) (hne : k ≠ c) : (((W.setCell ⟨c, 0, none⟩ u0).setCell ⟨c, 1, none⟩ u1).setCell ⟨c, 2, none⟩ u2).heap[k]? = W.heap[k]? := by
  rw [heap_setCell_other _ ⟨c, 2, none⟩ k _ hne, heap_setCell_other _ ⟨c, 1, none⟩ k _ hne, heap_setCell_other _ ⟨c, 0, none⟩ k _ hne]
theorem enters_grant1 : ∀ args w, (callFunc 111 args).run Tryz.prog w = .ok (.enter 111 args) w := enters_of Tryz.func111 (by kernel_rfl) rfl

set_option maxHeartbeats 8000000 in
set_option maxRecDepth 100000 in
theorem grant_has (gb g c B : Nat) (p : Pf) (ks : Value) (l : List Ls) (who : ByteArray) (un : Int) (i : Nat) (w : World) (hg : GrAt w gb p ks (.slice (some ⟨g, 0, none⟩) l.length c)) (ho : OwnAt lsE w B 106 g c l) (hl : l.length ≤ 20) (hfi : l.findIdx? (fun y => y.who.toList == who.toList) = some i) (hil : i < l.length) :
    Calls Tryz.prog 100 #[.pointer (some ⟨gb, 0, none⟩), .string who, .int .i64 un] w fun e w' => e = .returned (.tuple #[.agg #[.bool l[i].a.v, .int .u64 l[i].a.hi, .int .u64 l[i].a.lo], .bool true]) ∧ GrAt w' gb p ks (.slice (some ⟨g, 0, none⟩) l.length c) ∧ OwnAt lsE w' B 106 g c (l.set i ⟨l[i].a, l[i].who, un⟩) ∧ Far w w' gb (some g) := by
  obtain ⟨W0, hW0⟩ : ∃ W0, W0 = (w.alloc (.cells #[.string who] 9)).alloc (.cells #[.bool false, .int .u64 0, .int .u64 0] 29) := ⟨_, rfl⟩
  have hb0 : Below w.heap.size w W0 := by rw [hW0]; exact bal (bal (Below.refl _ _) _) _
  have hz0 : W0.heap.size = w.heap.size + 2 := by rw [hW0]; simp
  have hq : W0.cell? ⟨w.heap.size, 0, none⟩ = some (.string who) := by rw [hW0]; simp [go_sem]
  have hx : Box3 W0 (w.heap.size + 1) zeroAd := by
    rw [hW0]
    have := Box3.new (w.alloc (.cells #[.string who] 9)) zeroAd
    rw [World.size_alloc] at this
    exact this
  have HI := Lib.hid (ifnL_any (some ⟨g, 0, none⟩) c l W0 111 #[.pointer (some ⟨w.heap.size, 0, none⟩)] (fun y => y.who.toList == who.toList) (by omega) (ho.lies.below hb0) enters_grant1 (fun W y hy hb => (grant1_any w.heap.size who y W (by rw [(bcell hb).1 _ _ (by omega)]; exact hq) (by have := hb.size; omega)).mono fun e w' h => ⟨h.1, btr hb h.2⟩))
  rw [hfi] at HI
  have hglt := ho.lt
  have hgw := hg.lt
  have hne : g ≠ gb := fun e => hg.apart ho.own (by rw [e]; rfl)
  have HG := Lib.hid (hg.below hb0)
  have HO := Lib.hid (ho.keep hb0)
  have HX := Lib.hid hx
  have HB0 := Lib.hid hb0
  obtain ⟨⟨_, _, _, _, _, g5⟩, _⟩ := HG.out.cells
  rw [show idxI (some i) = (i : Int) from rfl] at HI
  rw [hW0] at HI g5
  have HW0 := Lib.hid hW0
  have hI0 : ¬ (i : Int) < 0 := by omega
  obtain ⟨y, hy⟩ : ∃ y, y = l[i] := ⟨_, rfl⟩
  rw [← hy]
  obtain ⟨l', hl'⟩ : ∃ l', l' = l.set i ⟨y.a, y.who, un⟩ := ⟨_, rfl⟩
  rw [← hl']
  obtain ⟨v, hv⟩ : ∃ v, y.a.v = v := ⟨_, rfl⟩
  obtain ⟨hi, hhi⟩ : ∃ hi, y.a.hi = hi := ⟨_, rfl⟩
  obtain ⟨lo, hlo⟩ : ∃ lo, y.a.lo = lo := ⟨_, rfl⟩
  rw [hv, hhi, hlo]
  have Hy : Hid (y = l[i] ∧ l' = l.set i ⟨y.a, y.who, un⟩ ∧ y.a.v = v ∧ y.a.hi = hi ∧ y.a.lo = lo) := ⟨hy, hl', hv, hhi, hlo⟩
  clear hg ho hb0 hq hx hfi hy hl' hv hhi hlo
  go_enter Tryz.func100, Tryz.ntmps100
  go_wp2_with fail
  refine HI.out.mono ?_
  rintro e W1 ⟨rfl, hb1⟩
  rw [← HW0.out] at hb1
  have HB1 := Lib.hid (btr HB0.out hb1)
  have HG1 := Lib.hid (HG.out.below hb1)
  have HO1 := Lib.hid (HO.out.keep hb1)
  have HX1 := Lib.hid (HX.out.below hb1)
  clear HI HG HO HX hb1 g5 HW0 hW0
  obtain ⟨⟨_, _, _, _, _, g5⟩, _⟩ := HG1.out.cells
  obtain ⟨g', o', e', hgl, r0, r1, r2, r3, r4⟩ := HO1.out.lies.ls i hil
  obtain ⟨rfl, rfl⟩ : g = g' ∧ 0 = o' := by simpa using e'
  simp only [Nat.zero_add] at r0 r1 r2 r3 r4
  have hfr : W1.frozen? ⟨g, i * 5 + 4, none⟩ = false := by
    obtain ⟨rest, hr, _⟩ := HO1.out.row
    simp [World.frozen?, hr]
  have hiz : (i : Int) < (l.length : Int) := by omega
  have hi0 : (0 : Int) ≤ (i : Int) := by omega
  have HO2 := Lib.hid (HO1.out.setUn i hil un)
  rw [← Hy.out.1] at r0 r1 r2 r3 r4 HO2
  rw [← Hy.out.2.1] at HO2
  rw [Hy.out.2.2.1] at r0
  rw [Hy.out.2.2.2.1] at r1
  rw [Hy.out.2.2.2.2] at r2
  clear e'
  have HX2 : Hid (Box3 (W1.setCell ⟨g, i * 5 + 4, none⟩ (.int .i64 un)) (w.heap.size + 1) zeroAd) := (heap_setCell_other W1 ⟨g, i * 5 + 4, none⟩ (w.heap.size + 1) _ (by show w.heap.size + 1 ≠ g; omega)).trans HX1.out
  have HG2 : Hid (GrAt (W1.setCell ⟨g, i * 5 + 4, none⟩ (.int .i64 un)) gb p ks (.slice (some ⟨g, 0, none⟩) l.length c)) := (heap_setCell_other W1 ⟨g, i * 5 + 4, none⟩ gb _ (by show gb ≠ g; omega)).trans HG1.out
  obtain ⟨⟨z0, z1, z2⟩, y0, y1, y2⟩ := HX2.out.cells
  have HX3 := Lib.hid (HX2.out.put ⟨v, hi, lo, by rw [← Hy.out.2.2.2.1, ← Hy.out.2.2.2.2]; exact y.a.ok⟩)
  have HF : Hid (Far w ((((W1.setCell ⟨g, i * 5 + 4, none⟩ (.int .i64 un)).setCell ⟨w.heap.size + 1, 0, none⟩ (.bool v)).setCell ⟨w.heap.size + 1, 1, none⟩ (.int .u64 hi)).setCell ⟨w.heap.size + 1, 2, none⟩ (.int .u64 lo)) gb (some g)) := by
    refine ⟨HB1.out.os, HB1.out.tape, HB1.out.output, by simpa using HB1.out.size, fun k hk h1 h2 => ?_⟩
    rw [heap_put3 _ (w.heap.size + 1) k _ _ _ (by omega), heap_setCell_other _ ⟨g, i * 5 + 4, none⟩ k _ (fun e => h2 (by rw [e]))]
    exact HB1.out.block k hk
  have HO3 : Hid (OwnAt lsE ((((W1.setCell ⟨g, i * 5 + 4, none⟩ (.int .i64 un)).setCell ⟨w.heap.size + 1, 0, none⟩ (.bool v)).setCell ⟨w.heap.size + 1, 1, none⟩ (.int .u64 hi)).setCell ⟨w.heap.size + 1, 2, none⟩ (.int .u64 lo)) B 106 g c l') := by
    obtain ⟨rest, hr, hlen⟩ := HO2.out.row
    refine ⟨HO2.out.base, HO2.out.le, HO2.out.max, rest, ?_, hlen⟩
    rw [heap_put3 _ (w.heap.size + 1) g _ _ _ (by omega)]
    exact hr
  have HG3 : Hid (GrAt ((((W1.setCell ⟨g, i * 5 + 4, none⟩ (.int .i64 un)).setCell ⟨w.heap.size + 1, 0, none⟩ (.bool v)).setCell ⟨w.heap.size + 1, 1, none⟩ (.int .u64 hi)).setCell ⟨w.heap.size + 1, 2, none⟩ (.int .u64 lo)) gb p ks (.slice (some ⟨g, 0, none⟩) l.length c)) := by
    unfold Hid GrAt
    rw [heap_put3 _ (w.heap.size + 1) gb _ _ _ (by omega)]
    exact HG2.out
  obtain ⟨⟨u0, u1, u2⟩, _⟩ := HX3.out.cells
  simp only at u0 u1 u2
  obtain ⟨⟨_, _, _, _, _, g52⟩, _⟩ := HG2.out.cells
  clear HX1 HX2 HG1 HG2 HO1 HO2 HX3
  go_wp2_with fail
  exact ⟨rfl, .tuple #[.agg #[.bool v, .int .u64 hi, .int .u64 lo], .bool true], by simp [results, Tryz.f100, go_sem, u0, u1, u2], rfl, HG3.out, HO3.out, HF.out⟩

set_option maxHeartbeats 8000000 in
set_option maxRecDepth 100000 in
/-- Who has none: the first address that may be, or none. -/
theorem grant_new (gb B : Nat) (p : Pf) (r : p.R) (ka : Option Addr) (kc : Nat) (kept : List Ad) (lv : Value) (l : List Ls) (who : ByteArray) (un : Int) (w : World) (hg : GrAt w gb p (.slice ka kept.length kc) lv) (hk : Lies adE w ka kept) (hown : w.ownsRow B 106 lsE.k lv l.length (rowOf lsE l)) (hkl : kept.length ≤ 1000) (hl : l.length ≤ 20) (hB : B ≤ w.heap.size) (hfi : l.findIdx? (fun y => y.who.toList == who.toList) = none) :
    Calls Tryz.prog 100 #[.pointer (some ⟨gb, 0, none⟩), .string who, .int .i64 un] w fun e w' => (∃ k, firstK p kept l = some k ∧ k < p.many ∧ e = .returned (.tuple #[.agg #[.bool (adK p k).v, .int .u64 (adK p k).hi, .int .u64 (adK p k).lo], .bool true]) ∧ (∃ lv', GrAt w' gb p (.slice ka kept.length kc) lv' ∧ w'.ownsRow B 106 lsE.k lv' (l.length + 1) (rowOf lsE (insOf ⟨adK p k, who, un⟩ l))) ∧ Far w w' gb lv.ownBlock) ∨ (firstK p kept l = none ∧ e = .returned (.tuple #[.agg #[.bool false, .int .u64 0, .int .u64 0], .bool false]) ∧ Below w.heap.size w w') := by
  obtain ⟨la, lc, rfl, hlies⟩ := own_lies hown
  obtain ⟨W0, hW0⟩ : ∃ W0, W0 = (w.alloc (.cells #[.string who] 9)).alloc (.cells #[.bool false, .int .u64 0, .int .u64 0] 29) := ⟨_, rfl⟩
  have hb0 : Below w.heap.size w W0 := by rw [hW0]; exact bal (bal (Below.refl _ _) _) _
  have hz0 : W0.heap.size = w.heap.size + 2 := by rw [hW0]; simp
  have hq : W0.cell? ⟨w.heap.size, 0, none⟩ = some (.string who) := by rw [hW0]; simp [go_sem]
  have hx : Box3 W0 (w.heap.size + 1) zeroAd := by
    rw [hW0]
    have := Box3.new (w.alloc (.cells #[.string who] 9)) zeroAd
    rw [World.size_alloc] at this
    exact this
  have HI := Lib.hid (ifnL_any la lc l W0 111 #[.pointer (some ⟨w.heap.size, 0, none⟩)] (fun y => y.who.toList == who.toList) (by omega) (hlies.below hb0) enters_grant1 (fun W y hy hb => (grant1_any w.heap.size who y W (by rw [(bcell hb).1 _ _ (by omega)]; exact hq) (by have := hb.size; omega)).mono fun e w' h => ⟨h.1, btr hb h.2⟩))
  rw [hfi] at HI
  rw [show idxI none = (-1 : Int) from rfl] at HI
  have HG := Lib.hid (hg.below hb0)
  have HOw := Lib.hid hown
  have HX := Lib.hid hx
  have HB0 := Lib.hid hb0
  have HQ := Lib.hid hq
  have HK := Lib.hid hk
  have HLi := Lib.hid hlies
  have hgw := hg.lt
  obtain ⟨⟨_, _, _, _, _, g5⟩, _⟩ := HG.out.cells
  rw [hW0] at HI g5
  have HW0 := Lib.hid hW0
  clear hg hown hb0 hq hx hfi hk hlies
  obtain ⟨KN, hKN⟩ : ∃ KN, KN = kept.length := ⟨_, rfl⟩
  obtain ⟨LN, hLN⟩ : ∃ LN, LN = l.length := ⟨_, rfl⟩
  go_enter Tryz.func100, Tryz.ntmps100
  go_wp2_with fail
  refine HI.out.mono ?_
  rintro e W1 ⟨rfl, hb1⟩
  rw [← HW0.out] at hb1
  have HB1 := Lib.hid (btr HB0.out hb1)
  have HG1 := Lib.hid (HG.out.below hb1)
  have HX1 := Lib.hid (HX.out.below hb1)
  have HQ1 : Hid (W1.cell? ⟨w.heap.size, 0, none⟩ = some (.string who)) := by rw [Hid, (bcell hb1).1 _ _ (by omega)]; exact HQ.out
  have hz1 : w.heap.size + 2 ≤ W1.heap.size := by have := hb1.size; omega
  have HFst := Lib.hid (gfirst_any gb p r ka kc kept la lc l W1 HG1.out (HK.out.below HB1.out) (HLi.out.below HB1.out) hkl (by omega))
  clear HI HG HX HQ hb1 g5 HW0 hW0
  go_wp2_with fail
  refine HFst.out.mono ?_
  rintro e W2 ⟨(⟨k, hk, ha, hf, rfl⟩ | ⟨ha, rfl⟩), hb2⟩
  · have HFK := Lib.hid (firstK_some hk ha hf)
    have HB2 := Lib.hid (btr HB1.out hb2)
    have HG2 := Lib.hid (HG1.out.below hb2)
    have HX2 := Lib.hid (HX1.out.below hb2)
    have q2 : W2.cell? ⟨w.heap.size, 0, none⟩ = some (.string who) := by rw [(bcell hb2).1 _ _ (by omega)]; exact HQ1.out
    have hz2 : w.heap.size + 2 ≤ W2.heap.size := by have := hb2.size; omega
    clear ha hf hb2 HG1 HX1 HQ1 HFst
    obtain ⟨W3, hW3⟩ : ∃ W3, W3 = W2.alloc (.cells #[.bool (adK p k).v, .int .u64 (adK p k).hi, .int .u64 (adK p k).lo] 29) := ⟨_, rfl⟩
    have hb3 : Below W2.heap.size W2 W3 := by rw [hW3]; exact bal (Below.refl _ _) _
    have hA3 : Box3 W3 W2.heap.size (adK p k) := by rw [hW3]; exact Box3.new W2 _
    have hX3 := HX2.out.below hb3
    have hG3 := HG2.out.below hb3
    have hO3 := own_keep HOw.out (btr HB2.out hb3)
    have q3 : W3.cell? ⟨w.heap.size, 0, none⟩ = some (.string who) := by rw [(bcell hb3).1 _ _ (by omega)]; exact q2
    have hz3 : W3.heap.size = W2.heap.size + 1 := by rw [hW3]; simp
    obtain ⟨x, hx⟩ : ∃ x : Ls, x = ⟨adK p k, who, un⟩ := ⟨_, rfl⟩
    have HP := Lib.hid (put_any gb p (.slice ka kept.length kc) (.slice la l.length lc) x l W3 B hG3 hO3 hl (by omega))
    have hrow : ∀ j, (Value.slice la l.length lc).ownBlock = some j → j < w.heap.size := fun j e => (HOw.out.lt j e).2
    have Hrow := Lib.hid hrow
    have Hx := Lib.hid hx
    have HA3 := Lib.hid hA3
    have HX3 := Lib.hid hX3
    have HB3 := Lib.hid (btr HB2.out hb3)
    obtain ⟨⟨a0, a1, a2⟩, _⟩ := hA3.cells
    rw [hx] at HP
    simp only at HP
    rw [hW3] at HP a0 a1 a2 q3
    have HW3 := Lib.hid hW3
    clear hb3 hX3 hG3 hO3 hx hA3 HX2 HG2 q2 hrow hW3
    go_wp2_with fail
    refine HP.out.mono ?_
    rintro e W4 ⟨⟨v, rfl⟩, lv', hG4, hO4, hF4⟩
    rw [← HW3.out] at hF4
    have hA4 : Box3 W4 W2.heap.size (adK p k) := (hF4.block _ (by omega) (by omega) (fun e => by have := Hrow.out _ e.symm; omega)).trans HA3.out
    have hX4 : Box3 W4 (w.heap.size + 1) zeroAd := (hF4.block _ (by omega) (by omega) (fun e => by have := Hrow.out _ e.symm; omega)).trans HX3.out
    obtain ⟨⟨a0', a1', a2'⟩, _⟩ := hA4.cells
    obtain ⟨⟨z0, z1, z2⟩, y0, y1, y2⟩ := hX4.cells
    have hX5 := hX4.put (adK p k)
    obtain ⟨⟨u0, u1, u2⟩, _⟩ := hX5.cells
    have HF5 : Hid (Far w (((W4.setCell ⟨w.heap.size + 1, 0, none⟩ (.bool (adK p k).v)).setCell ⟨w.heap.size + 1, 1, none⟩ (.int .u64 (adK p k).hi)).setCell ⟨w.heap.size + 1, 2, none⟩ (.int .u64 (adK p k).lo)) gb (Value.slice la l.length lc).ownBlock) := by
      refine ⟨hF4.os.trans HB3.out.os, hF4.tape.trans HB3.out.tape, hF4.output.trans HB3.out.output, by have h1 := hF4.size; have h2 := HB3.out.size; simp; omega, fun j hj h1 h2 => ?_⟩
      rw [heap_put3 _ (w.heap.size + 1) j _ _ _ (by omega), hF4.block j (by have := HB3.out.size; omega) h1 h2]
      exact HB3.out.block j hj
    have HG5 : Hid (GrAt (((W4.setCell ⟨w.heap.size + 1, 0, none⟩ (.bool (adK p k).v)).setCell ⟨w.heap.size + 1, 1, none⟩ (.int .u64 (adK p k).hi)).setCell ⟨w.heap.size + 1, 2, none⟩ (.int .u64 (adK p k).lo)) gb p (.slice ka kept.length kc) lv') := (heap_put3 _ (w.heap.size + 1) gb _ _ _ (by omega)).trans hG4
    have HO5 : Hid ((((W4.setCell ⟨w.heap.size + 1, 0, none⟩ (.bool (adK p k).v)).setCell ⟨w.heap.size + 1, 1, none⟩ (.int .u64 (adK p k).hi)).setCell ⟨w.heap.size + 1, 2, none⟩ (.int .u64 (adK p k).lo)).ownsRow B 106 lsE.k lv' (l.length + 1) (rowOf lsE (insOf ⟨adK p k, who, un⟩ l))) := by
      have hne : lv'.ownBlock ≠ some (w.heap.size + 1) := by
        intro e
        rcases hO4.2 with ⟨rfl, _⟩ | ⟨g, cc, cur, rfl, _, hg, _⟩
        · simp [Value.ownBlock] at e
        · simp [Value.ownBlock] at e
          subst e
          unfold Box3 at hX4
          rw [hg] at hX4
          simp at hX4
      exact own_far (E := lsE) (own_far (E := lsE) (own_far (E := lsE) hO4 ⟨w.heap.size + 1, 0, none⟩ hne _) ⟨w.heap.size + 1, 1, none⟩ hne _) ⟨w.heap.size + 1, 2, none⟩ hne _
    clear hG4 hO4 hF4 hA4 hX4 hX5 HP a0 a1 a2 q3 HA3 HX3 HB3 HW3
    go_wp2_with fail
    exact ⟨rfl, .tuple #[.agg #[.bool (adK p k).v, .int .u64 (adK p k).hi, .int .u64 (adK p k).lo], .bool true], by simp [results, Tryz.f100, go_sem, u0, u1, u2], .inl ⟨k, HFK.out, hk, rfl, ⟨lv', HG5.out, HO5.out⟩, HF5.out⟩⟩
  · have HFK := Lib.hid (firstK_none ha)
    have HB2 := Lib.hid (btr HB1.out hb2)
    have HX2 := Lib.hid (HX1.out.below hb2)
    have hz2 : w.heap.size + 2 ≤ W2.heap.size := by have := hb2.size; omega
    clear ha hb2 HG1 HX1 HQ1 HFst
    obtain ⟨W3, hW3⟩ : ∃ W3, W3 = W2.alloc (.cells #[.bool false, .int .u64 0, .int .u64 0] 29) := ⟨_, rfl⟩
    have hb3 : Below W2.heap.size W2 W3 := by rw [hW3]; exact bal (Below.refl _ _) _
    have hX3 := HX2.out.below hb3
    have hA3 : Box3 W3 W2.heap.size zeroAd := by rw [hW3]; exact Box3.new W2 zeroAd
    have HB3 := Lib.hid (btr HB2.out hb3)
    obtain ⟨⟨z0, z1, z2⟩, y0, y1, y2⟩ := hX3.cells
    obtain ⟨⟨a0, a1, a2⟩, _⟩ := hA3.cells
    have HX5 := Lib.hid (hX3.put zeroAd)
    have HB5 : Hid (Below w.heap.size w (((W3.setCell ⟨w.heap.size + 1, 0, none⟩ (.bool false)).setCell ⟨w.heap.size + 1, 1, none⟩ (.int .u64 0)).setCell ⟨w.heap.size + 1, 2, none⟩ (.int .u64 0))) := bse (bse (bse HB3.out (by show _ ≤ w.heap.size + 1; omega) _) (by show _ ≤ w.heap.size + 1; omega) _) (by show _ ≤ w.heap.size + 1; omega) _
    obtain ⟨⟨u0, u1, u2⟩, _⟩ := HX5.out.cells
    simp only [zeroAd] at u0 u1 u2 a0 a1 a2 z0 z1 z2
    rw [hW3] at HB5 u0 u1 u2 a0 a1 a2 z0 z1 z2 y0 y1 y2
    clear hb3 hX3 hA3 HX5 HX2 hW3 HB3
    go_wp2_with fail
    exact ⟨rfl, .tuple #[.agg #[.bool false, .int .u64 0, .int .u64 0], .bool false], by simp [results, Tryz.f100, go_sem, u0, u1, u2], .inr ⟨HFK.out, rfl, HB5.out⟩⟩
end Go.Proofs.YtjainfehlbfiaaaGreat

namespace Go.Proofs.YtjainfehlbfiaaaGreat
open Go.RowKit Go.Shelf

/-- What Grant says ahead of granting. -/
def grantE (p : Pf) (kept : List Ad) (l : List Ls) (who : ByteArray) (now ttl : Int) : Int :=
  if checkE p kept l now = 0 then (if whoB who = true then (if ttl < 1 ∨ 500 < ttl then 3 else 0) else 1) else checkE p kept l now
/-- A pool in a block of its own. -/
def Box5 (W : World) (b : Nat) (p : Pf) (ks : Value) : Prop := W.heap[b]? = some (.cells #[.bool p.v, .int .u64 p.hi, .int .u64 p.lo, .int .i64 p.b, ks] 87 (0, 0))
theorem Box5.lt {W : World} {b : Nat} {p : Pf} {ks : Value} (h : Box5 W b p ks) : b < W.heap.size := (Array.getElem?_eq_some_iff.1 h).1
theorem Box5.cells {W : World} {b : Nat} {p : Pf} {ks : Value} (h : Box5 W b p ks) : W.cell? ⟨b, 0, none⟩ = some (.bool p.v) ∧ W.cell? ⟨b, 1, none⟩ = some (.int .u64 p.hi) ∧ W.cell? ⟨b, 2, none⟩ = some (.int .u64 p.lo) ∧ W.cell? ⟨b, 3, none⟩ = some (.int .i64 p.b) ∧ W.cell? ⟨b, 4, none⟩ = some ks := by
  unfold Box5 at h
  simp [World.cell?, h]
theorem Box5.below {W W' : World} {b : Nat} {p : Pf} {ks : Value} (h : Box5 W b p ks) (hb : Below W.heap.size W W') : Box5 W' b p ks := (hb.block b h.lt).trans h
theorem Box5.new (W : World) (p : Pf) (ks : Value) : Box5 (W.alloc (.cells #[.bool p.v, .int .u64 p.hi, .int .u64 p.lo, .int .i64 p.b, ks] 87)) W.heap.size p ks := heap_alloc_new W _

set_option maxHeartbeats 8000000 in
set_option maxRecDepth 100000 in
theorem lgrant_bad (p : Pf) (hp : p.Ok) (ka : Option Addr) (kc : Nat) (kept : List Ad) (la : Option Addr) (lc : Nat) (l : List Ls) (who : ByteArray) (now ttl : Int) (w : World) (hk : Lies adE w ka kept) (hs : Lies lsE w la l) (h0 : ¬ grantE p kept l who now ttl = 0) :
    Calls Tryz.prog 78 #[.agg #[.bool p.v, .int .u64 p.hi, .int .u64 p.lo, .int .i64 p.b, .slice ka kept.length kc], .slice la l.length lc, .string who, .int .i64 now, .int .i64 ttl] w fun e w' => e = .returned (.tuple #[.slice none 0 0, .agg #[.bool false, .int .u64 0, .int .u64 0], .int .i64 (grantE p kept l who now ttl)]) ∧ Below w.heap.size w w' := by
  obtain ⟨W0, hW0⟩ : ∃ W0, W0 = (w.alloc (.cells #[.bool p.v, .int .u64 p.hi, .int .u64 p.lo, .int .i64 p.b, .slice ka kept.length kc] 87)).alloc (.cells #[.bool false, .int .u64 0, .int .u64 0] 29) := ⟨_, rfl⟩
  have hb0 : Below w.heap.size w W0 := by rw [hW0]; exact bal (bal (Below.refl _ _) _) _
  have hz0 : W0.heap.size = w.heap.size + 2 := by rw [hW0]; simp
  have hx5 : Box5 W0 w.heap.size p (.slice ka kept.length kc) := by rw [hW0]; exact (Box5.new w p _).below (bal (Below.refl _ _) _)
  have hx : Box3 W0 (w.heap.size + 1) zeroAd := by
    rw [hW0]
    have := Box3.new (w.alloc (.cells #[.bool p.v, .int .u64 p.hi, .int .u64 p.lo, .int .i64 p.b, .slice ka kept.length kc] 87)) zeroAd
    rw [World.size_alloc] at this
    exact this
  obtain ⟨x0, x1, x2, x3, x4⟩ := hx5.cells
  have HC := Lib.hid (check_ls p hp ka kc kept la lc l now W0 (hk.below hb0) (hs.below hb0))
  have HX := Lib.hid hx
  have HB0 := Lib.hid hb0
  rw [hW0] at HC x0 x1 x2 x3 x4
  have HW0 := Lib.hid hW0
  have HE : Hid (grantE p kept l who now ttl = if checkE p kept l now = 0 then (if whoB who = true then (if ttl < 1 ∨ 500 < ttl then 3 else 0) else 1) else checkE p kept l now) := rfl
  obtain ⟨g, hg⟩ : ∃ g, g = grantE p kept l who now ttl := ⟨_, rfl⟩
  rw [← hg] at HE h0 ⊢
  obtain ⟨ce, hce⟩ : ∃ ce, ce = checkE p kept l now := ⟨_, rfl⟩
  rw [← hce] at HE HC
  clear hg hce hx hb0 hx5 hk hs hW0
  have hEnd : Hid (∀ W1 : World, Below W0.heap.size W0 W1 → (W1.cell? ⟨w.heap.size + 1, 0, none⟩ = some (.bool false) ∧ W1.cell? ⟨w.heap.size + 1, 1, none⟩ = some (.int .u64 0) ∧ W1.cell? ⟨w.heap.size + 1, 2, none⟩ = some (.int .u64 0)) ∧ (W1.frozen? ⟨w.heap.size + 1, 0, none⟩ = false ∧ W1.frozen? ⟨w.heap.size + 1, 1, none⟩ = false ∧ W1.frozen? ⟨w.heap.size + 1, 2, none⟩ = false) ∧ Below w.heap.size w (((W1.setCell ⟨w.heap.size + 1, 0, none⟩ (.bool false)).setCell ⟨w.heap.size + 1, 1, none⟩ (.int .u64 0)).setCell ⟨w.heap.size + 1, 2, none⟩ (.int .u64 0)) ∧ Has3 (((W1.setCell ⟨w.heap.size + 1, 0, none⟩ (.bool false)).setCell ⟨w.heap.size + 1, 1, none⟩ (.int .u64 0)).setCell ⟨w.heap.size + 1, 2, none⟩ (.int .u64 0)) (w.heap.size + 1) (.bool false) (.int .u64 0) (.int .u64 0)) := by
    intro W1 hb1
    have h3 := HX.out.below hb1
    exact ⟨h3.cells.1, h3.cells.2, bse (bse (bse (btr HB0.out hb1) (by show _ ≤ w.heap.size + 1; omega) _) (by show _ ≤ w.heap.size + 1; omega) _) (by show _ ≤ w.heap.size + 1; omega) _, (h3.put zeroAd).has⟩
  by_cases hce0 : ce = 0
  · subst hce0
    by_cases hwb : whoB who = true
    · have htt : ttl < 1 ∨ 500 < ttl := by
        apply Classical.byContradiction
        intro hn
        apply h0
        rw [HE.out, if_pos rfl, if_pos hwb, if_neg hn]
      have hg3 : g = 3 := by rw [HE.out, if_pos rfl, if_pos hwb, if_pos htt]
      have HN := Lib.hid (nright_any who)
      rw [hwb] at HN
      clear hwb h0 HE
      subst hg3
      have hd : (decide (ttl < 1) = true) ∨ (decide (ttl < 1) = false ∧ decide (500 < ttl) = true) := by
        by_cases h1 : ttl < 1
        · exact .inl (decide_eq_true h1)
        · exact .inr ⟨decide_eq_false h1, decide_eq_true (by omega)⟩
      clear htt
      rcases hd with hd | ⟨hd, hd'⟩
      all_goals
        go_enter Tryz.func78, Tryz.ntmps78
        go_wp2_with fail
        refine HC.out.mono ?_
        rintro e W1 ⟨rfl, hb1⟩
        rw [← HW0.out] at hb1
        obtain ⟨⟨z0, z1, z2⟩, ⟨y0, y1, y2⟩, hlow, h3⟩ := hEnd.out W1 hb1
        have HL := Lib.hid hlow
        obtain ⟨u0, u1, u2, _⟩ := h3
        clear hb1 hlow HC x0 x1 x2 x3 x4
        go_wp2_with fail
        refine (HN.out _).mono ?_
        rintro e W2 ⟨rfl, rfl⟩
        go_wp2_with fail
        exact ⟨rfl, .tuple #[.slice none 0 0, .agg #[.bool false, .int .u64 0, .int .u64 0], .int .i64 3], by simp [results, Tryz.f78, go_sem, u0, u1, u2], rfl, HL.out⟩
    · have hg1 : g = 1 := by rw [HE.out, if_pos rfl, if_neg hwb]
      have hwf : whoB who = false := by simpa using hwb
      have HN := Lib.hid (nright_any who)
      rw [hwf] at HN
      clear hwb hwf h0 HE
      subst hg1
      go_enter Tryz.func78, Tryz.ntmps78
      go_wp2_with fail
      refine HC.out.mono ?_
      rintro e W1 ⟨rfl, hb1⟩
      rw [← HW0.out] at hb1
      obtain ⟨⟨z0, z1, z2⟩, ⟨y0, y1, y2⟩, hlow, h3⟩ := hEnd.out W1 hb1
      have HL := Lib.hid hlow
      obtain ⟨u0, u1, u2, _⟩ := h3
      clear hb1 hlow HC x0 x1 x2 x3 x4
      go_wp2_with fail
      refine (HN.out _).mono ?_
      rintro e W2 ⟨rfl, rfl⟩
      go_wp2_with fail
      exact ⟨rfl, .tuple #[.slice none 0 0, .agg #[.bool false, .int .u64 0, .int .u64 0], .int .i64 1], by simp [results, Tryz.f78, go_sem, u0, u1, u2], rfl, HL.out⟩
  · have hgc : g = ce := by rw [HE.out, if_neg hce0]
    have hbq : (ce == 0) = false := by simpa using hce0
    clear h0 HE
    subst hgc
    go_enter Tryz.func78, Tryz.ntmps78
    go_wp2_with fail
    refine HC.out.mono ?_
    rintro e W1 ⟨rfl, hb1⟩
    rw [← HW0.out] at hb1
    obtain ⟨⟨z0, z1, z2⟩, ⟨y0, y1, y2⟩, hlow, h3⟩ := hEnd.out W1 hb1
    have HL := Lib.hid hlow
    obtain ⟨u0, u1, u2, _⟩ := h3
    clear hb1 hlow HC x0 x1 x2 x3 x4
    go_wp2_with fail
    exact ⟨rfl, .tuple #[.slice none 0 0, .agg #[.bool false, .int .u64 0, .int .u64 0], .int .i64 g], by simp [results, Tryz.f78, go_sem, u0, u1, u2], rfl, HL.out⟩

/-- granter.grant, in both its cases. -/
theorem ggrant_any (gb B : Nat) (p : Pf) (r : p.R) (ka : Option Addr) (kc : Nat) (kept : List Ad) (lv : Value) (l : List Ls) (who : ByteArray) (un : Int) (w : World) (hg : GrAt w gb p (.slice ka kept.length kc) lv) (hk : Lies adE w ka kept) (hown : w.ownsRow B 106 lsE.k lv l.length (rowOf lsE l)) (hkl : kept.length ≤ 1000) (hl : l.length ≤ 20) (hB : B ≤ w.heap.size) :
    Calls Tryz.prog 100 #[.pointer (some ⟨gb, 0, none⟩), .string who, .int .i64 un] w fun e w' => (∃ l' x lv', grantR p kept l who un = some (l', x) ∧ e = .returned (.tuple #[.agg #[.bool x.v, .int .u64 x.hi, .int .u64 x.lo], .bool true]) ∧ GrAt w' gb p (.slice ka kept.length kc) lv' ∧ w'.ownsRow B 106 lsE.k lv' l'.length (rowOf lsE l') ∧ Far w w' gb lv.ownBlock) ∨ (grantR p kept l who un = none ∧ e = .returned (.tuple #[.agg #[.bool false, .int .u64 0, .int .u64 0], .bool false]) ∧ Below w.heap.size w w') := by
  cases hfi : l.findIdx? (fun y => y.who.toList == who.toList) with
  | some i =>
    obtain ⟨hil, _, _⟩ := List.findIdx?_eq_some_iff_getElem.1 hfi
    rcases own_form hown with ⟨rfl, rfl⟩ | ⟨g, c, rfl, ho⟩
    · simp at hil
    · refine (grant_has gb g c B p _ l who un i w hg ho hl hfi hil).mono ?_
      rintro e w' ⟨rfl, h1, h2, h3⟩
      refine .inl ⟨l.set i ⟨l[i].a, l[i].who, un⟩, l[i].a, _, ?_, rfl, h1, ?_, h3⟩
      · unfold grantR
        rw [hfi]
        simp [hil]
      · have := h2.own
        rw [List.length_set] at this ⊢
        exact this
  | none =>
    refine (grant_new gb B p r ka kc kept lv l who un w hg hk hown hkl hl hB hfi).mono ?_
    rintro e w' (⟨k, h1, h2, rfl, ⟨lv', h3, h4⟩, h5⟩ | ⟨h1, rfl, h2⟩)
    · refine .inl ⟨insOf ⟨adK p k, who, un⟩ l, adK p k, lv', ?_, rfl, h3, ?_, h5⟩
      · unfold grantR
        rw [hfi, h1]
        rfl
      · have : (insOf ⟨adK p k, who, un⟩ l).length = l.length + 1 := by unfold insOf; have := spot_le ⟨adK p k, who, un⟩ l; simp; omega
        rw [this]
        exact h4
    · refine .inr ⟨?_, rfl, h2⟩
      unfold grantR
      rw [hfi, h1]
      rfl
theorem GrAt.new (W : World) (p : Pf) (ks lv : Value) : GrAt (W.alloc (.cells #[.bool p.v, .int .u64 p.hi, .int .u64 p.lo, .int .i64 p.b, ks, lv] 152)) W.heap.size p ks lv := heap_alloc_new W _
/-- The granter's block whose cells are written one by one. -/
theorem GrAt.fill {W : World} {b : Nat} {p : Pf} {ks lv : Value} {p0 : Pf} {k0 l0 : Value} (h : GrAt W b p0 k0 l0) : GrAt ((((((W.setCell ⟨b, 0, none⟩ (.bool p.v)).setCell ⟨b, 1, none⟩ (.int .u64 p.hi)).setCell ⟨b, 2, none⟩ (.int .u64 p.lo)).setCell ⟨b, 3, none⟩ (.int .i64 p.b)).setCell ⟨b, 4, none⟩ ks).setCell ⟨b, 5, none⟩ lv) b p ks lv := by
  unfold GrAt at *
  have h1 := heap_setCell_same W b 0 _ _ (.bool p.v) h
  have h2 := heap_setCell_same _ b 1 _ _ (.int .u64 p.hi) h1
  have h3 := heap_setCell_same _ b 2 _ _ (.int .u64 p.lo) h2
  have h4 := heap_setCell_same _ b 3 _ _ (.int .i64 p.b) h3
  have h5 := heap_setCell_same _ b 4 _ _ ks h4
  have h6 := heap_setCell_same _ b 5 _ _ lv h5
  rw [h6]
  rfl
theorem GrAt.allcells {W : World} {b : Nat} {p : Pf} {ks lv : Value} (h : GrAt W b p ks lv) : (W.cell? ⟨b, 0, none⟩ = some (.bool p.v) ∧ W.cell? ⟨b, 1, none⟩ = some (.int .u64 p.hi) ∧ W.cell? ⟨b, 2, none⟩ = some (.int .u64 p.lo) ∧ W.cell? ⟨b, 3, none⟩ = some (.int .i64 p.b) ∧ W.cell? ⟨b, 4, none⟩ = some ks ∧ W.cell? ⟨b, 5, none⟩ = some lv) ∧ (W.frozen? ⟨b, 0, none⟩ = false ∧ W.frozen? ⟨b, 1, none⟩ = false ∧ W.frozen? ⟨b, 2, none⟩ = false ∧ W.frozen? ⟨b, 3, none⟩ = false ∧ W.frozen? ⟨b, 4, none⟩ = false ∧ W.frozen? ⟨b, 5, none⟩ = false) := by
  unfold GrAt at h
  simp [World.cell?, World.frozen?, h]
theorem check_zero {p : Pf} {kept : List Ad} {l : List Ls} {now : Int} (h : checkE p kept l now = 0) : poolE p kept = 0 ∧ lookL l now = 0 ∧ chkOf p [] l = 0 := by
  unfold checkE at h
  by_cases h1 : poolE p kept = 0
  · rw [if_pos h1] at h
    by_cases h2 : lookL l now = 0
    · rw [if_pos h2] at h; exact ⟨h1, h2, h⟩
    · rw [if_neg h2] at h; exact absurd h h2
  · rw [if_neg h1] at h; exact absurd h h1
theorem pool_zero {p : Pf} {kept : List Ad} (h : poolE p kept = 0) : p.chk = 0 ∧ wideB p.v p.b = false ∧ kept.length ≤ 6 ∧ keptE p none kept = 0 := by
  unfold poolE at h
  by_cases h1 : p.chk = 0
  · rw [if_pos h1] at h
    by_cases h2 : wideB p.v p.b = true ∨ 6 < kept.length
    · rw [if_pos h2] at h; simp at h
    · rw [if_neg h2] at h
      refine ⟨h1, ?_, ?_, h⟩
      · have : ¬ wideB p.v p.b = true := fun e => h2 (.inl e)
        simpa using this
      · have : ¬ 6 < kept.length := fun e => h2 (.inr e)
        omega
  · rw [if_neg h1] at h; exact absurd h h1
theorem grant_zero {p : Pf} {kept : List Ad} {l : List Ls} {who : ByteArray} {now ttl : Int} (h : grantE p kept l who now ttl = 0) : checkE p kept l now = 0 ∧ whoB who = true ∧ 1 ≤ ttl ∧ ttl ≤ 500 := by
  unfold grantE at h
  by_cases h1 : checkE p kept l now = 0
  · rw [if_pos h1] at h
    by_cases h2 : whoB who = true
    · rw [if_pos h2] at h
      by_cases h3 : ttl < 1 ∨ 500 < ttl
      · rw [if_pos h3] at h; simp at h
      · exact ⟨h1, h2, by omega, by omega⟩
    · rw [if_neg h2] at h; simp at h
  · rw [if_neg h1] at h; exact absurd h h1
end Go.Proofs.YtjainfehlbfiaaaGreat

namespace Go.Proofs.YtjainfehlbfiaaaGreat
open Go.RowKit Go.Shelf

def zeroPf : Pf := ⟨false, 0, 0, 0⟩
theorem look_now {l : List Ls} {now : Int} (h : lookL l now = 0) : 0 ≤ now ∧ now ≤ 9999 := by
  unfold lookL at h
  by_cases h1 : 20 < l.length
  · rw [if_pos h1] at h; simp at h
  · rw [if_neg h1] at h
    by_cases h2 : rgtAll l = 0
    · rw [if_pos h2] at h
      by_cases h3 : rises l = true
      · rw [if_pos h3] at h
        by_cases h4 : now < 0 ∨ 9999 < now
        · rw [if_pos h4] at h; simp at h
        · omega
      · rw [if_neg h3] at h; simp at h
    · rw [if_neg h2] at h; exact absurd h h2
theorem Box5.fill {W : World} {b c : Nat} {p : Pf} {ks : Value} (h : Box5 W b p ks) (hne : b ≠ c) (u0 u1 u2 u3 u4 u5 : Value) : Box5 ((((((W.setCell ⟨c, 0, none⟩ u0).setCell ⟨c, 1, none⟩ u1).setCell ⟨c, 2, none⟩ u2).setCell ⟨c, 3, none⟩ u3).setCell ⟨c, 4, none⟩ u4).setCell ⟨c, 5, none⟩ u5) b p ks := by
  unfold Box5 at *
  rw [heap_setCell_other _ ⟨c, 5, none⟩ b _ hne, heap_setCell_other _ ⟨c, 4, none⟩ b _ hne, heap_setCell_other _ ⟨c, 3, none⟩ b _ hne, heap_setCell_other _ ⟨c, 2, none⟩ b _ hne, heap_setCell_other _ ⟨c, 1, none⟩ b _ hne, heap_setCell_other _ ⟨c, 0, none⟩ b _ hne]
  exact h
theorem fill_other {W : World} {c k : Nat} (hne : k ≠ c) (u0 u1 u2 u3 u4 u5 : Value) : ((((((W.setCell ⟨c, 0, none⟩ u0).setCell ⟨c, 1, none⟩ u1).setCell ⟨c, 2, none⟩ u2).setCell ⟨c, 3, none⟩ u3).setCell ⟨c, 4, none⟩ u4).setCell ⟨c, 5, none⟩ u5).heap[k]? = W.heap[k]? := by
  rw [heap_setCell_other _ ⟨c, 5, none⟩ k _ hne, heap_setCell_other _ ⟨c, 4, none⟩ k _ hne, heap_setCell_other _ ⟨c, 3, none⟩ k _ hne, heap_setCell_other _ ⟨c, 2, none⟩ k _ hne, heap_setCell_other _ ⟨c, 1, none⟩ k _ hne, heap_setCell_other _ ⟨c, 0, none⟩ k _ hne]
theorem fill_below {W w : World} {c : Nat} (h : Below w.heap.size w W) (hc : w.heap.size ≤ c) (u0 u1 u2 u3 u4 u5 : Value) : Below w.heap.size w ((((((W.setCell ⟨c, 0, none⟩ u0).setCell ⟨c, 1, none⟩ u1).setCell ⟨c, 2, none⟩ u2).setCell ⟨c, 3, none⟩ u3).setCell ⟨c, 4, none⟩ u4).setCell ⟨c, 5, none⟩ u5) :=
  bse (bse (bse (bse (bse (bse h hc _) hc _) hc _) hc _) hc _) hc _

/-- What the grant stands on: the granter's block, its leases, the slot of the answer. -/
structure GrOn (w W : World) (B gb : Nat) (p : Pf) (ks lv : Value) (l : List Ls) : Prop where
  gr : GrAt W gb p ks lv
  own : W.ownsRow B 106 lsE.k lv l.length (rowOf lsE l)
  box : Box3 W (w.heap.size + 1) zeroAd
  low : Below w.heap.size w W
  szB : B ≤ W.heap.size
  hgb : B ≤ gb
  hB : w.heap.size + 2 ≤ B
theorem own_mono {w : World} {B B' t n k : Nat} {v : Value} {R : List Value} (h : w.ownsRow B t k v n R) (hb : B' ≤ B) : w.ownsRow B' t k v n R := ⟨h.1, h.2.imp id fun ⟨g, c, cur, e, hg, r⟩ => ⟨g, c, cur, e, Nat.le_trans hb hg, r⟩⟩
theorem own_far3 {α : Type} {E : Enc α} {w : World} {B t n : Nat} {v : Value} {R : List Value} (h : w.ownsRow B t E.k v n R) {c : Nat} (hc : c < B) (u0 u1 u2 : Value) : (((w.setCell ⟨c, 0, none⟩ u0).setCell ⟨c, 1, none⟩ u1).setCell ⟨c, 2, none⟩ u2).ownsRow B t E.k v n R := by
  have hne : v.ownBlock ≠ some c := fun e => by have := (h.lt c e).1; omega
  exact own_far (own_far (own_far h ⟨c, 0, none⟩ hne u0) ⟨c, 1, none⟩ hne u1) ⟨c, 2, none⟩ hne u2
theorem own_fill {α : Type} {E : Enc α} {w : World} {B t n : Nat} {v : Value} {R : List Value} (h : w.ownsRow B t E.k v n R) {c : Nat} (hne : v.ownBlock ≠ some c) (u0 u1 u2 u3 u4 u5 : Value) : ((((((w.setCell ⟨c, 0, none⟩ u0).setCell ⟨c, 1, none⟩ u1).setCell ⟨c, 2, none⟩ u2).setCell ⟨c, 3, none⟩ u3).setCell ⟨c, 4, none⟩ u4).setCell ⟨c, 5, none⟩ u5).ownsRow B t E.k v n R :=
  own_far (own_far (own_far (own_far (own_far (own_far h ⟨c, 0, none⟩ hne u0) ⟨c, 1, none⟩ hne u1) ⟨c, 2, none⟩ hne u2) ⟨c, 3, none⟩ hne u3) ⟨c, 4, none⟩ hne u4) ⟨c, 5, none⟩ hne u5

set_option maxHeartbeats 8000000 in
set_option maxRecDepth 100000 in
theorem lgrant_ok (p : Pf) (hp : p.Ok) (ka : Option Addr) (kc : Nat) (kept : List Ad) (la : Option Addr) (lc : Nat) (l : List Ls) (who : ByteArray) (now ttl : Int) (w : World) (hk : Lies adE w ka kept) (hs : Lies lsE w la l) (h0 : grantE p kept l who now ttl = 0) :
    Calls Tryz.prog 78 #[.agg #[.bool p.v, .int .u64 p.hi, .int .u64 p.lo, .int .i64 p.b, .slice ka kept.length kc], .slice la l.length lc, .string who, .int .i64 now, .int .i64 ttl] w fun e w' => ((∃ l' x v', grantR p kept (live l now) who (now + ttl) = some (l', x) ∧ e = .returned (.tuple #[v', .agg #[.bool x.v, .int .u64 x.hi, .int .u64 x.lo], .int .i64 0]) ∧ w'.ownsRow w.heap.size 106 lsE.k v' l'.length (rowOf lsE l')) ∨ (grantR p kept (live l now) who (now + ttl) = none ∧ e = .returned (.tuple #[.slice none 0 0, .agg #[.bool false, .int .u64 0, .int .u64 0], .int .i64 8]))) ∧ Below w.heap.size w w' := by
  obtain ⟨hc0, hwb, ht1, ht2⟩ := grant_zero h0
  obtain ⟨hp0, hl0, _⟩ := check_zero hc0
  obtain ⟨hpc, hwd, hkl, _⟩ := pool_zero hp0
  have hn := look_now hl0
  have hll := look_len hl0
  have r : p.R := (right_iff p.v p.hi p.lo p.b hp.1 hp.2.1 hp.2.2.1 hp.2.2.2).1 hpc
  obtain ⟨W0, hW0⟩ : ∃ W0, W0 = (w.alloc (.cells #[.bool p.v, .int .u64 p.hi, .int .u64 p.lo, .int .i64 p.b, .slice ka kept.length kc] 87)).alloc (.cells #[.bool false, .int .u64 0, .int .u64 0] 29) := ⟨_, rfl⟩
  have hb0 : Below w.heap.size w W0 := by rw [hW0]; exact bal (bal (Below.refl _ _) _) _
  have hz0 : W0.heap.size = w.heap.size + 2 := by rw [hW0]; simp
  have hx5 : Box5 W0 w.heap.size p (.slice ka kept.length kc) := by rw [hW0]; exact (Box5.new w p _).below (bal (Below.refl _ _) _)
  have hx : Box3 W0 (w.heap.size + 1) zeroAd := by
    rw [hW0]
    have := Box3.new (w.alloc (.cells #[.bool p.v, .int .u64 p.hi, .int .u64 p.lo, .int .i64 p.b, .slice ka kept.length kc] 87)) zeroAd
    rw [World.size_alloc] at this
    exact this
  obtain ⟨x0, x1, x2, x3, x4⟩ := hx5.cells
  have HC := Lib.hid (check_ls p hp ka kc kept la lc l now W0 (hk.below hb0) (hs.below hb0))
  rw [hc0] at HC
  have HN := Lib.hid (nright_any who)
  rw [hwb] at HN
  have HX := Lib.hid hx
  have HX5 := Lib.hid hx5
  have HB0 := Lib.hid hb0
  have HK := Lib.hid hk
  have HS := Lib.hid hs
  have HR : Hid (∀ W, Below w.heap.size w W → Calls Tryz.prog 87 #[.slice la l.length lc, .int .i64 now] W fun e w' => ∃ a4 c4, e = .returned (.slice a4 (live l now).length c4) ∧ w'.ownsRow W.heap.size 106 lsE.k (.slice a4 (live l now).length c4) (live l now).length (rowOf lsE (live l now)) ∧ Below W.heap.size W w') := by
    intro W hb
    refine (running_any la lc l now W hll (hs.below hb)).mono ?_
    rintro e w' ⟨v', rfl, h1, h2⟩
    obtain ⟨a4, c4, rfl, _⟩ := own_lies h1
    exact ⟨a4, c4, rfl, h1, h2⟩
  have hlv : (live l now).length ≤ 20 := Nat.le_trans (live_len l now) hll
  rw [hW0] at HC x0 x1 x2 x3 x4
  have HW0 := Lib.hid hW0
  have hwr : IntKind.i64.wrap (now + ttl) = now + ttl := by rw [IntKind.wrap_i64]; omega
  have hd1 : decide (ttl < 1) = false := decide_eq_false (by omega)
  have hd2 : decide (500 < ttl) = false := decide_eq_false (by omega)
  have HLv := Lib.hid hlv
  obtain ⟨LV, hLV⟩ : ∃ LV, LV = live l now := ⟨_, rfl⟩
  rw [← hLV] at HR HLv ⊢
  have HKl := Lib.hid hkl
  clear hb0 hx5 hx hW0 hc0 hwb hp0 hl0 hpc hwd h0 hk hs hlv hLV
  go_enter Tryz.func78, Tryz.ntmps78
  go_wp2_with fail
  refine HC.out.mono ?_
  rintro e W1 ⟨rfl, hb1⟩
  rw [← HW0.out] at hb1
  have HB1 := Lib.hid (btr HB0.out hb1)
  have HX1 := Lib.hid (HX.out.below hb1)
  have HX51 := Lib.hid (HX5.out.below hb1)
  have hz1 : w.heap.size + 2 ≤ W1.heap.size := by have := hb1.size; omega
  clear hb1 HC x0 x1 x2 x3 x4 HX HX5 HW0
  go_wp2_with fail
  refine (HN.out _).mono ?_
  rintro e W2 ⟨rfl, rfl⟩
  clear HN
  have HS1 := Lib.hid (HX51.out.below (Below.refl W2.heap.size W2).drew).cells
  have HS2 := Lib.hid (HX51.out.below (bal (Below.refl W2.heap.size W2) (.cells #[.bool false, .int .u64 0, .int .u64 0, .int .i64 0, .slice none 0 0, .slice none 0 0] 152)).drew).cells
  have HZ : Hid (GrAt (W2.alloc (.cells #[.bool false, .int .u64 0, .int .u64 0, .int .i64 0, .slice none 0 0, .slice none 0 0] 152)).drew W2.heap.size zeroPf (.slice none 0 0) (.slice none 0 0)) := GrAt.new W2 zeroPf _ _
  have HBz : Hid (Below W2.heap.size W2 (W2.alloc (.cells #[.bool false, .int .u64 0, .int .u64 0, .int .i64 0, .slice none 0 0, .slice none 0 0] 152)).drew) := (bal (Below.refl W2.heap.size W2) _).drew
  have HBd : Hid (Below W2.heap.size W2 W2.drew) := (Below.refl W2.heap.size W2).drew
  go_wp2_with fail
  go_region_held3 (fun w' => w'.cell? ⟨w.heap.size, 0, none⟩ = some (.bool p.v) ∧ w'.cell? ⟨w.heap.size, 1, none⟩ = some (.int .u64 p.hi) ∧ w'.cell? ⟨w.heap.size, 2, none⟩ = some (.int .u64 p.lo) ∧ w'.cell? ⟨w.heap.size, 3, none⟩ = some (.int .i64 p.b) ∧ w'.cell? ⟨w.heap.size, 4, none⟩ = some (.slice ka kept.length kc))
    (first | with_reducible exact HS1.out | with_reducible exact HS2.out | with_reducible exact HS4.out | with_reducible exact HS5.out | with_reducible exact HS6.out | fail)
    ((go_at_call 87; first | ((with_reducible refine (HR.out _ (btr HB1.out HBd.out)).mono ?_); rintro e W4 ⟨a4, c4, rfl, hown, hb⟩; have HB4 := Lib.hid (btr HBd.out hb); have HS4 := Lib.hid (HX51.out.below HB4.out).cells; have HS5 := Lib.hid (HX51.out.below (btr HB4.out (bal (Below.refl W4.heap.size W4) (.cells #[.bool false, .int .u64 0, .int .u64 0, .int .i64 0, .slice none 0 0, .slice none 0 0] 152)))).cells; have HS6 := Lib.hid (HX51.out.below (btr HB4.out (bal (Below.refl W4.heap.size W4) (.cells #[.bool p.v, .int .u64 p.hi, .int .u64 p.lo, .int .i64 p.b, .slice ka kept.length kc, .slice a4 LV.length c4] 152)))).cells; have HOw := Lib.hid hown; clear hown hb) | ((with_reducible refine (HR.out _ (btr HB1.out HBz.out)).mono ?_); rintro e W4 ⟨a4, c4, rfl, hown, hb⟩; have HB4 := Lib.hid (btr HBz.out hb); have HS4 := Lib.hid (HX51.out.below HB4.out).cells; have HS5 := Lib.hid ((HX51.out.below HB4.out).fill (show w.heap.size ≠ W2.heap.size by omega) (.bool p.v) (.int .u64 p.hi) (.int .u64 p.lo) (.int .i64 p.b) (.slice ka kept.length kc) (.slice a4 LV.length c4)).cells; have HZ4 := Lib.hid (HZ.out.below hb); obtain ⟨⟨q0, q1, q2, q3, q4, q5⟩, ⟨f0, f1, f2, f3, f4, f5⟩⟩ := HZ4.out.allcells; have HOw := Lib.hid hown; clear hown hb)))
  · have HOn : Hid (GrOn w (W4.alloc (.cells #[.bool p.v, .int .u64 p.hi, .int .u64 p.lo, .int .i64 p.b, .slice ka kept.length kc, .slice a4 LV.length c4] 152)) W2.heap.size W4.heap.size p (.slice ka kept.length kc) (.slice a4 LV.length c4) LV) :=
      ⟨GrAt.new W4 p _ _, own_mono (HOw.out.alloc _) (by simp), ((HX1.out.below HB4.out).below (bal (Below.refl _ _) _)), bal (btr HB1.out HB4.out) _, Nat.le_trans HB4.out.size (by simp), HB4.out.size, hz1⟩
    have hgbs : W2.heap.size ≤ W4.heap.size := HB4.out.size
    have HRow : Hid (∀ j, (Value.slice a4 LV.length c4).ownBlock = some j → W2.heap.size ≤ j) := fun j e => (HOn.out.own.lt j e).1
    have HGr := Lib.hid (ggrant_any W4.heap.size W2.heap.size p r ka kc kept (.slice a4 LV.length c4) LV who (now + ttl) _ HOn.out.gr (HK.out.below HOn.out.low) HOn.out.own (by have := HKl.out; omega) HLv.out HOn.out.szB)
    have hwsz : w.heap.size + 1 < (W4.alloc (.cells #[.bool p.v, .int .u64 p.hi, .int .u64 p.lo, .int .i64 p.b, .slice ka kept.length kc, .slice a4 LV.length c4] 152)).heap.size := HOn.out.box.lt
    clear HS1 HS2 HS4 HS5 HS6 HZ HBz HBd HX1 HX51 HR HB4 HOw
    go_wp2_with fail
    refine HGr.out.mono ?_
    rintro e W5 (⟨l', x, lv', hgr, rfl, hG5, hO5, hF5⟩ | ⟨hgr, rfl, hb5⟩)
    · have hX5 : Box3 W5 (w.heap.size + 1) zeroAd := (hF5.block _ hwsz (by omega) (fun e => by have := HRow.out _ e.symm; omega)).trans HOn.out.box
      have hB5 : Below w.heap.size w W5 := HOn.out.low.trans (hF5.upto (by omega) (fun k e => by have := HRow.out _ e; omega) HOn.out.low.size)
      have hs5 : w.heap.size + 1 < W5.heap.size := hX5.lt
      obtain ⟨W6, hW6⟩ : ∃ W6, W6 = W5.alloc (.cells #[.bool x.v, .int .u64 x.hi, .int .u64 x.lo] 29) := ⟨_, rfl⟩
      have hb6 : Below W5.heap.size W5 W6 := by rw [hW6]; exact bal (Below.refl _ _) _
      have hA6 : Box3 W6 W5.heap.size x := by rw [hW6]; exact Box3.new W5 x
      have hG6 := hG5.below hb6
      have hX6 := hX5.below hb6
      have hO6 := own_keep hO5 hb6
      have HFin : Hid (Below w.heap.size w (((W6.setCell ⟨w.heap.size + 1, 0, none⟩ (.bool x.v)).setCell ⟨w.heap.size + 1, 1, none⟩ (.int .u64 x.hi)).setCell ⟨w.heap.size + 1, 2, none⟩ (.int .u64 x.lo)).drew) :=
        (bse (bse (bse (btr hB5 hb6) (by show _ ≤ w.heap.size + 1; omega) _) (by show _ ≤ w.heap.size + 1; omega) _) (by show _ ≤ w.heap.size + 1; omega) _).drew
      have HOf : Hid ((((W6.setCell ⟨w.heap.size + 1, 0, none⟩ (.bool x.v)).setCell ⟨w.heap.size + 1, 1, none⟩ (.int .u64 x.hi)).setCell ⟨w.heap.size + 1, 2, none⟩ (.int .u64 x.lo)).ownsRow w.heap.size 106 lsE.k lv' l'.length (rowOf lsE l')) :=
        own_mono (own_far3 hO6 (c := w.heap.size + 1) (by omega) _ _ _) (by omega)
      have Hgr := Lib.hid hgr
      have HA6 := Lib.hid hA6
      have HG6 := Lib.hid hG6
      have HX6 := Lib.hid hX6
      have HW6 := Lib.hid hW6
      clear hgr hG5 hO5 hF5 hX5 hB5 hb6 hA6 hG6 hX6 hO6 hW6 HGr
      go_wp2_with fail
      rw [← HW6.out]
      obtain ⟨⟨_, _, _, _, _, g5⟩, _⟩ := HG6.out.cells
      obtain ⟨⟨a0, a1, a2⟩, _⟩ := HA6.out.cells
      obtain ⟨⟨z0, z1, z2⟩, y0, y1, y2⟩ := HX6.out.cells
      obtain ⟨⟨u0, u1, u2⟩, _⟩ := (HX6.out.put x).cells
      clear HW6
      go_region
      go_wp2_with fail
      refine ⟨rfl, .tuple #[lv', .agg #[.bool x.v, .int .u64 x.hi, .int .u64 x.lo], .int .i64 0], by simp [results, Tryz.f78, go_sem, u0, u1, u2], .inl ⟨l', x, lv', Hgr.out, rfl, HOf.out.drew⟩, HFin.out⟩
    · have hX5 : Box3 W5 (w.heap.size + 1) zeroAd := HOn.out.box.below hb5
      have hB5 : Below w.heap.size w W5 := btr HOn.out.low hb5
      obtain ⟨W6, hW6⟩ : ∃ W6, W6 = W5.alloc (.cells #[.bool false, .int .u64 0, .int .u64 0] 29) := ⟨_, rfl⟩
      have hb6 : Below W5.heap.size W5 W6 := by rw [hW6]; exact bal (Below.refl _ _) _
      have hX6 := hX5.below hb6
      obtain ⟨⟨z0, z1, z2⟩, y0, y1, y2⟩ := hX6.cells
      obtain ⟨⟨u0, u1, u2⟩, _⟩ := (hX6.put zeroAd).cells
      have HFin : Hid (Below w.heap.size w (((W6.setCell ⟨w.heap.size + 1, 0, none⟩ (.bool false)).setCell ⟨w.heap.size + 1, 1, none⟩ (.int .u64 0)).setCell ⟨w.heap.size + 1, 2, none⟩ (.int .u64 0))) :=
        bse (bse (bse (btr hB5 hb6) (by show _ ≤ w.heap.size + 1; omega) _) (by show _ ≤ w.heap.size + 1; omega) _) (by show _ ≤ w.heap.size + 1; omega) _
      have Hgr := Lib.hid hgr
      rw [hW6] at z0 z1 z2 y0 y1 y2
      have HW6 := Lib.hid hW6
      clear hgr hb5 hX5 hB5 hb6 hX6 hW6 HGr
      simp only [zeroAd] at u0 u1 u2
      go_wp2_with fail
      rw [← HW6.out]
      refine ⟨rfl, .tuple #[.slice none 0 0, .agg #[.bool false, .int .u64 0, .int .u64 0], .int .i64 8], by simp [results, Tryz.f78, go_sem, u0, u1, u2], .inr ⟨Hgr.out, rfl⟩, HFin.out⟩
  · have hneB : w.heap.size + 1 ≠ W2.heap.size := by omega
    have HOn : Hid (GrOn w ((((((W4.setCell ⟨W2.heap.size, 0, none⟩ (.bool p.v)).setCell ⟨W2.heap.size, 1, none⟩ (.int .u64 p.hi)).setCell ⟨W2.heap.size, 2, none⟩ (.int .u64 p.lo)).setCell ⟨W2.heap.size, 3, none⟩ (.int .i64 p.b)).setCell ⟨W2.heap.size, 4, none⟩ (.slice ka kept.length kc)).setCell ⟨W2.heap.size, 5, none⟩ (.slice a4 LV.length c4)) W2.heap.size W2.heap.size p (.slice ka kept.length kc) (.slice a4 LV.length c4) LV) :=
      ⟨HZ4.out.fill, own_mono (own_fill HOw.out (HZ4.out.apart HOw.out) _ _ _ _ _ _) (by simp), (fill_other hneB _ _ _ _ _ _).trans (HX1.out.below HB4.out), fill_below (btr HB1.out HB4.out) (by omega) _ _ _ _ _ _, by simpa using HB4.out.size, Nat.le_refl _, hz1⟩
    have hgbs : W2.heap.size ≤ W2.heap.size := Nat.le_refl _
    have HRow : Hid (∀ j, (Value.slice a4 LV.length c4).ownBlock = some j → W2.heap.size ≤ j) := fun j e => (HOn.out.own.lt j e).1
    have HGr := Lib.hid (ggrant_any W2.heap.size W2.heap.size p r ka kc kept (.slice a4 LV.length c4) LV who (now + ttl) _ HOn.out.gr (HK.out.below HOn.out.low) HOn.out.own (by have := HKl.out; omega) HLv.out HOn.out.szB)
    have hwsz : w.heap.size + 1 < ((((((W4.setCell ⟨W2.heap.size, 0, none⟩ (.bool p.v)).setCell ⟨W2.heap.size, 1, none⟩ (.int .u64 p.hi)).setCell ⟨W2.heap.size, 2, none⟩ (.int .u64 p.lo)).setCell ⟨W2.heap.size, 3, none⟩ (.int .i64 p.b)).setCell ⟨W2.heap.size, 4, none⟩ (.slice ka kept.length kc)).setCell ⟨W2.heap.size, 5, none⟩ (.slice a4 LV.length c4)).heap.size := HOn.out.box.lt
    clear HS1 HS2 HS4 HS5 HZ HBz HBd HX1 HX51 HR HB4 HOw HZ4 q0 q1 q2 q3 q4 q5 f0 f1 f2 f3 f4 f5
    go_wp2_with fail
    refine HGr.out.mono ?_
    rintro e W5 (⟨l', x, lv', hgr, rfl, hG5, hO5, hF5⟩ | ⟨hgr, rfl, hb5⟩)
    · have hX5 : Box3 W5 (w.heap.size + 1) zeroAd := (hF5.block _ hwsz (by omega) (fun e => by have := HRow.out _ e.symm; omega)).trans HOn.out.box
      have hB5 : Below w.heap.size w W5 := HOn.out.low.trans (hF5.upto (by omega) (fun k e => by have := HRow.out _ e; omega) HOn.out.low.size)
      have hs5 : w.heap.size + 1 < W5.heap.size := hX5.lt
      obtain ⟨W6, hW6⟩ : ∃ W6, W6 = W5.alloc (.cells #[.bool x.v, .int .u64 x.hi, .int .u64 x.lo] 29) := ⟨_, rfl⟩
      have hb6 : Below W5.heap.size W5 W6 := by rw [hW6]; exact bal (Below.refl _ _) _
      have hA6 : Box3 W6 W5.heap.size x := by rw [hW6]; exact Box3.new W5 x
      have hG6 := hG5.below hb6
      have hX6 := hX5.below hb6
      have hO6 := own_keep hO5 hb6
      have HFin : Hid (Below w.heap.size w (((W6.setCell ⟨w.heap.size + 1, 0, none⟩ (.bool x.v)).setCell ⟨w.heap.size + 1, 1, none⟩ (.int .u64 x.hi)).setCell ⟨w.heap.size + 1, 2, none⟩ (.int .u64 x.lo)).drew) :=
        (bse (bse (bse (btr hB5 hb6) (by show _ ≤ w.heap.size + 1; omega) _) (by show _ ≤ w.heap.size + 1; omega) _) (by show _ ≤ w.heap.size + 1; omega) _).drew
      have HOf : Hid ((((W6.setCell ⟨w.heap.size + 1, 0, none⟩ (.bool x.v)).setCell ⟨w.heap.size + 1, 1, none⟩ (.int .u64 x.hi)).setCell ⟨w.heap.size + 1, 2, none⟩ (.int .u64 x.lo)).ownsRow w.heap.size 106 lsE.k lv' l'.length (rowOf lsE l')) :=
        own_mono (own_far3 hO6 (c := w.heap.size + 1) (by omega) _ _ _) (by omega)
      have Hgr := Lib.hid hgr
      have HA6 := Lib.hid hA6
      have HG6 := Lib.hid hG6
      have HX6 := Lib.hid hX6
      have HW6 := Lib.hid hW6
      clear hgr hG5 hO5 hF5 hX5 hB5 hb6 hA6 hG6 hX6 hO6 hW6 HGr
      go_wp2_with fail
      rw [← HW6.out]
      obtain ⟨⟨_, _, _, _, _, g5⟩, _⟩ := HG6.out.cells
      obtain ⟨⟨a0, a1, a2⟩, _⟩ := HA6.out.cells
      obtain ⟨⟨z0, z1, z2⟩, y0, y1, y2⟩ := HX6.out.cells
      obtain ⟨⟨u0, u1, u2⟩, _⟩ := (HX6.out.put x).cells
      clear HW6
      go_region
      go_wp2_with fail
      refine ⟨rfl, .tuple #[lv', .agg #[.bool x.v, .int .u64 x.hi, .int .u64 x.lo], .int .i64 0], by simp [results, Tryz.f78, go_sem, u0, u1, u2], .inl ⟨l', x, lv', Hgr.out, rfl, HOf.out.drew⟩, HFin.out⟩
    · have hX5 : Box3 W5 (w.heap.size + 1) zeroAd := HOn.out.box.below hb5
      have hB5 : Below w.heap.size w W5 := btr HOn.out.low hb5
      obtain ⟨W6, hW6⟩ : ∃ W6, W6 = W5.alloc (.cells #[.bool false, .int .u64 0, .int .u64 0] 29) := ⟨_, rfl⟩
      have hb6 : Below W5.heap.size W5 W6 := by rw [hW6]; exact bal (Below.refl _ _) _
      have hX6 := hX5.below hb6
      obtain ⟨⟨z0, z1, z2⟩, y0, y1, y2⟩ := hX6.cells
      obtain ⟨⟨u0, u1, u2⟩, _⟩ := (hX6.put zeroAd).cells
      have HFin : Hid (Below w.heap.size w (((W6.setCell ⟨w.heap.size + 1, 0, none⟩ (.bool false)).setCell ⟨w.heap.size + 1, 1, none⟩ (.int .u64 0)).setCell ⟨w.heap.size + 1, 2, none⟩ (.int .u64 0))) :=
        bse (bse (bse (btr hB5 hb6) (by show _ ≤ w.heap.size + 1; omega) _) (by show _ ≤ w.heap.size + 1; omega) _) (by show _ ≤ w.heap.size + 1; omega) _
      have Hgr := Lib.hid hgr
      rw [hW6] at z0 z1 z2 y0 y1 y2
      have HW6 := Lib.hid hW6
      clear hgr hb5 hX5 hB5 hb6 hX6 hW6 HGr
      simp only [zeroAd] at u0 u1 u2
      go_wp2_with fail
      rw [← HW6.out]
      refine ⟨rfl, .tuple #[.slice none 0 0, .agg #[.bool false, .int .u64 0, .int .u64 0], .int .i64 8], by simp [results, Tryz.f78, go_sem, u0, u1, u2], .inr ⟨Hgr.out, rfl⟩, HFin.out⟩
end Go.Proofs.YtjainfehlbfiaaaGreat

namespace Go.Proofs.YtjainfehlbfiaaaGreat
open Go.RowKit Go.Shelf

/-- A row of the call's own lies behind what lay. -/
theorem own_after {α : Type} {E : Enc α} {w : World} {B t : Nat} {a : Option Addr} {n c : Nat} {l : List α} (h : w.ownsRow B t E.k (.slice a n c) l.length (rowOf E l)) : ∀ g o, a = some ⟨g, o, none⟩ → B ≤ g := fun g o e => by
  subst e
  rcases h.2 with ⟨e, _⟩ | ⟨g', c', cur, e, hb, _⟩
  · simp at e
  · simp at e
    obtain ⟨⟨rfl, _⟩, _⟩ := e
    exact hb
/-- What a grant answers: the errno, the leases, the address. -/
def gOut (p : Pf) (kept : List Ad) (l : List Ls) (who : ByteArray) (now ttl : Int) : Int × List Ls × Ad :=
  if grantE p kept l who now ttl = 0 then (match grantR p kept (live l now) who (now + ttl) with | some (m, x) => (0, m, x) | none => (8, [], zeroAd)) else (grantE p kept l who now ttl, [], zeroAd)
theorem gOut_bad {p : Pf} {kept : List Ad} {l : List Ls} {who : ByteArray} {now ttl : Int} (h : ¬ grantE p kept l who now ttl = 0) : gOut p kept l who now ttl = (grantE p kept l who now ttl, [], zeroAd) := by unfold gOut; rw [if_neg h]
theorem gOut_some {p : Pf} {kept : List Ad} {l : List Ls} {who : ByteArray} {now ttl : Int} {m : List Ls} {x : Ad} (h : grantE p kept l who now ttl = 0) (hr : grantR p kept (live l now) who (now + ttl) = some (m, x)) : gOut p kept l who now ttl = (0, m, x) := by unfold gOut; rw [if_pos h, hr]
theorem gOut_none {p : Pf} {kept : List Ad} {l : List Ls} {who : ByteArray} {now ttl : Int} (h : grantE p kept l who now ttl = 0) (hr : grantR p kept (live l now) who (now + ttl) = none) : gOut p kept l who now ttl = (8, [], zeroAd) := by unfold gOut; rw [if_pos h, hr]
theorem lgrant_any (p : Pf) (hp : p.Ok) (ka : Option Addr) (kc : Nat) (kept : List Ad) (la : Option Addr) (lc : Nat) (l : List Ls) (who : ByteArray) (now ttl : Int) (w : World) (hk : Lies adE w ka kept) (hs : Lies lsE w la l) :
    Calls Tryz.prog 78 #[.agg #[.bool p.v, .int .u64 p.hi, .int .u64 p.lo, .int .i64 p.b, .slice ka kept.length kc], .slice la l.length lc, .string who, .int .i64 now, .int .i64 ttl] w fun e w' => ∃ a4 c4, e = .returned (.tuple #[.slice a4 (gOut p kept l who now ttl).2.1.length c4, .agg #[.bool (gOut p kept l who now ttl).2.2.v, .int .u64 (gOut p kept l who now ttl).2.2.hi, .int .u64 (gOut p kept l who now ttl).2.2.lo], .int .i64 (gOut p kept l who now ttl).1]) ∧ Lies lsE w' a4 (gOut p kept l who now ttl).2.1 ∧ Below w.heap.size w w' := by
  by_cases h0 : grantE p kept l who now ttl = 0
  · refine (lgrant_ok p hp ka kc kept la lc l who now ttl w hk hs h0).mono ?_
    rintro e w' ⟨(⟨m, x, v', hr, rfl, ho⟩ | ⟨hr, rfl⟩), hb⟩
    · obtain ⟨a4, c4, rfl, hl⟩ := own_lies ho
      rw [gOut_some h0 hr]
      exact ⟨a4, c4, rfl, hl, hb⟩
    · rw [gOut_none h0 hr]
      exact ⟨none, 0, rfl, Lies.nil _ _ _, hb⟩
  · refine (lgrant_bad p hp ka kc kept la lc l who now ttl w hk hs h0).mono ?_
    rintro e w' ⟨rfl, hb⟩
    rw [gOut_bad h0]
    exact ⟨none, 0, rfl, Lies.nil _ _ _, hb⟩
/-- What Drop answers. -/
def dropL (l : List Ls) (now : Int) : List Ls := if lookL l now = 0 then live l now else []
def dropN (l : List Ls) (now : Int) : Int := if lookL l now = 0 then (l.length : Int) - ((live l now).length : Int) else 0
theorem ldrop_any (a : Option Addr) (c : Nat) (l : List Ls) (now : Int) (w : World) (hs : Lies lsE w a l) :
    Calls Tryz.prog 62 #[.slice a l.length c, .int .i64 now] w fun e w' => ∃ a4 c4, e = .returned (.tuple #[.slice a4 (dropL l now).length c4, .int .i64 (dropN l now), .int .i64 (lookL l now)]) ∧ Lies lsE w' a4 (dropL l now) ∧ Below w.heap.size w w' := by
  unfold dropL dropN
  by_cases h0 : lookL l now = 0
  · rw [if_pos h0, if_pos h0]
    refine (drop_ok a c l now w hs h0).mono ?_
    rintro e w' ⟨v', rfl, ho, hb⟩
    obtain ⟨a4, c4, rfl, hl⟩ := own_lies ho
    rw [h0]
    exact ⟨a4, c4, rfl, hl, hb⟩
  · rw [if_neg h0, if_neg h0]
    refine (drop_bad a c l now w hs h0).mono ?_
    rintro e w' ⟨rfl, hb⟩
    exact ⟨none, 0, rfl, Lies.nil _ _ _, hb⟩
theorem live_sub {l : List Ls} {now : Int} {x : Ls} (h : x ∈ live l now) : x ∈ l := (List.mem_filter.1 h).1
end Go.Proofs.YtjainfehlbfiaaaGreat
