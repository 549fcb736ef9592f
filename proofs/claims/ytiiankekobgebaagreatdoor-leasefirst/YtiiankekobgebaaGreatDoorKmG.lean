/- LeaseFirst: its walk where who has none. -/
import Derived.Test.YtiiankekobgebaaGreatDoorKmF
set_option linter.unusedVariables false
set_option linter.unusedSimpArgs false
namespace Go.Proofs.YtiiankekobgebaaGreatDoor
open Go.RowKit Go.Shelf

/-- Where the first address and the last one lie. -/
def LfOn (w7 wc : World) (pb qb : Nat) (p : Pf) (L : Ad) : Prop := Box3 wc pb (adK p 0) ∧ Box3 wc qb L ∧ pb ≠ qb ∧ w7.heap.size ≤ pb ∧ w7.heap.size ≤ qb ∧ Below w7.heap.size w7 wc
theorem Box3.newA {p : Pf} (hA : p.v = (adK p 0).v ∧ p.hi = (adK p 0).hi ∧ p.lo = (adK p 0).lo) (W : World) : Box3 (W.alloc (.cells #[.bool p.v, .int .u64 p.hi, .int .u64 p.lo] 24)) W.heap.size (adK p 0) := by
  rw [hA.1, hA.2.1, hA.2.2]
  exact Box3.new W _
theorem Box3.putA {p : Pf} (hA : p.v = (adK p 0).v ∧ p.hi = (adK p 0).hi ∧ p.lo = (adK p 0).lo) {W : World} {b : Nat} {x : Ad} (h : Box3 W b x) : Box3 (((W.setCell ⟨b, 0, none⟩ (.bool p.v)).setCell ⟨b, 1, none⟩ (.int .u64 p.hi)).setCell ⟨b, 2, none⟩ (.int .u64 p.lo)) b (adK p 0) := by
  rw [hA.1, hA.2.1, hA.2.2]
  exact h.put _
theorem size3 (W : World) (b : Nat) (u0 u1 u2 : Value) : (((W.setCell ⟨b, 0, none⟩ u0).setCell ⟨b, 1, none⟩ u1).setCell ⟨b, 2, none⟩ u2).heap.size = W.heap.size := by simp
theorem keep6 {W W' : World} {g i q pb : Nat} {x0 x1 x2 y0 y1 y2 z : Value} (h : (W.cell? ⟨g, i, none⟩ = some x0 ∧ W.cell? ⟨g, i + 1, none⟩ = some x1 ∧ W.cell? ⟨g, i + 2, none⟩ = some x2) ∧ (W.cell? ⟨q, 0, none⟩ = some y0 ∧ W.cell? ⟨q, 1, none⟩ = some y1 ∧ W.cell? ⟨q, 2, none⟩ = some y2) ∧ W.cell? ⟨pb, 4, none⟩ = some z) (e : W' = W.drew) :
    (W'.cell? ⟨g, i, none⟩ = some x0 ∧ W'.cell? ⟨g, i + 1, none⟩ = some x1 ∧ W'.cell? ⟨g, i + 2, none⟩ = some x2) ∧ (W'.cell? ⟨q, 0, none⟩ = some y0 ∧ W'.cell? ⟨q, 1, none⟩ = some y1 ∧ W'.cell? ⟨q, 2, none⟩ = some y2) ∧ W'.cell? ⟨pb, 4, none⟩ = some z := by
  subst e
  exact h
/-- Where the law's walk stands: at the n-th address. -/
structure LfAt (w W : World) (pb qb xb : Nat) (p : Pf) (ks : Value) (L X : Ad) (n : Nat) : Prop where
  a : Box3 W pb (adK p n)
  l : Box3 W qb L
  x : Box3 W xb X
  p5 : Box5 W w.heap.size p ks
  low : Below w.heap.size w W
theorem LfAt.below {w W W' : World} {pb qb xb n : Nat} {p : Pf} {ks : Value} {L X : Ad} (h : LfAt w W pb qb xb p ks L X n) (hb : Below W.heap.size W W') : LfAt w W' pb qb xb p ks L X n :=
  ⟨h.a.below hb, h.l.below hb, h.x.below hb, h.p5.below hb, btr h.low hb⟩
theorem LfAt.next {w W : World} {pb qb xb n : Nat} {p : Pf} {ks : Value} {L X : Ad} (h : LfAt w W pb qb xb p ks L X n) (hq : pb ≠ qb) (hx : pb ≠ xb) (hw : w.heap.size < pb) : LfAt w (((W.setCell ⟨pb, 0, none⟩ (.bool (adK p (n + 1)).v)).setCell ⟨pb, 1, none⟩ (.int .u64 (adK p (n + 1)).hi)).setCell ⟨pb, 2, none⟩ (.int .u64 (adK p (n + 1)).lo)) pb qb xb p ks L X (n + 1) :=
  ⟨h.a.put _, h.l.far hq.symm _ _ _, h.x.far hx.symm _ _ _, (heap_put3 W pb w.heap.size _ _ _ (by omega)).trans h.p5, bse (bse (bse h.low (by show _ ≤ pb; omega) _) (by show _ ≤ pb; omega) _) (by show _ ≤ pb; omega) _⟩
theorem adK_eq {p : Pf} (r : p.R) {n k : Nat} (hn : n < p.many) (hk : k < p.many) (h : ¬ n = k) : eqAd (adK p n) (adK p k) = false := by
  rw [Bool.eq_false_iff]
  intro he
  have := congrArg Ad.n ((eqAd_iff _ _).1 he)
  rw [adK_n r hn, adK_n r hk] at this
  omega
theorem next_adK {p : Pf} (r : p.R) {n : Nat} (hn : n + 1 < p.many) (w : World) : Calls Tryz.prog 14 #[.agg #[.bool (adK p n).v, .int .u64 (adK p n).hi, .int .u64 (adK p n).lo]] w fun e w' => e = .returned (.tuple #[.agg #[.bool (adK p (n + 1)).v, .int .u64 (adK p (n + 1)).hi, .int .u64 (adK p (n + 1)).lo], .bool true]) ∧ Below w.heap.size w w' := by
  have hk := adK_ok r (show n < p.many by omega)
  have hk1 := adK_ok r hn
  have h := next_ad (v := p.v) (n := p.n + n) hk.1 (by omega)
  have e : adK p (n + 1) = adOf p.v (p.n + n + 1) := by
    unfold adK
    rw [show p.n + ((n + 1 : Nat) : Int) = p.n + n + 1 by omega]
  have hc := nextOf_ad (adK p n) w (adOf_chk hk.1 hk.2)
  rw [show (adK p n).v = p.v from rfl] at hc
  have e2 : adK p n = adOf p.v (p.n + n) := rfl
  rw [e]
  rw [e2] at hc ⊢
  rw [h.1, h.2.1, h.2.2.1, h.2.2.2] at hc
  exact hc
theorem grant_none_who {l : List Ls} {now : Int} {who : ByteArray} (hf : l.findIdx? (Ls.hasWho who) = none) : (live l now).findIdx? (fun y => y.who.toList == who.toList) = none := by
  rw [List.findIdx?_eq_none_iff] at hf ⊢
  intro y hy
  have := hf y (live_sub hy)
  rw [text_eq]
  simpa [Ls.hasWho] using this

theorem lf_p0 {w w7 wx : World} {p : Pf} {L : Ad} (hA : p.v = (adK p 0).v ∧ p.hi = (adK p 0).hi ∧ p.lo = (adK p 0).lo) (hq : ((w7.cell? ⟨w.heap.size, 0, none⟩ = some (.bool p.v) ∧ w7.cell? ⟨w.heap.size, 1, none⟩ = some (.int .u64 p.hi) ∧ w7.cell? ⟨w.heap.size, 2, none⟩ = some (.int .u64 p.lo) ∧ w7.cell? ⟨w.heap.size, 3, none⟩ = some (.int .i64 p.b) ∧ w.heap.size < w7.heap.size) ∧ Below w7.heap.size w7 w7)) (hb : Below w7.heap.size w7 wx) : Hid ((wx.cell? ⟨w.heap.size, 0, none⟩ = some (.bool p.v) ∧ wx.cell? ⟨w.heap.size, 1, none⟩ = some (.int .u64 p.hi) ∧ wx.cell? ⟨w.heap.size, 2, none⟩ = some (.int .u64 p.lo) ∧ wx.cell? ⟨w.heap.size, 3, none⟩ = some (.int .i64 p.b) ∧ w.heap.size < w7.heap.size) ∧ Below w7.heap.size w7 wx) ∧ Hid (((wx.alloc (.cells #[.bool false, .int .u64 0, .int .u64 0] 24)).cell? ⟨w.heap.size, 0, none⟩ = some (.bool p.v) ∧ (wx.alloc (.cells #[.bool false, .int .u64 0, .int .u64 0] 24)).cell? ⟨w.heap.size, 1, none⟩ = some (.int .u64 p.hi) ∧ (wx.alloc (.cells #[.bool false, .int .u64 0, .int .u64 0] 24)).cell? ⟨w.heap.size, 2, none⟩ = some (.int .u64 p.lo) ∧ (wx.alloc (.cells #[.bool false, .int .u64 0, .int .u64 0] 24)).cell? ⟨w.heap.size, 3, none⟩ = some (.int .i64 p.b) ∧ w.heap.size < w7.heap.size) ∧ Below w7.heap.size w7 (wx.alloc (.cells #[.bool false, .int .u64 0, .int .u64 0] 24))) ∧ Hid ((((wx.alloc (.cells #[.bool false, .int .u64 0, .int .u64 0] 24)).alloc (.cells #[.bool false, .int .u64 0, .int .u64 0] 24)).cell? ⟨w.heap.size, 0, none⟩ = some (.bool p.v) ∧ ((wx.alloc (.cells #[.bool false, .int .u64 0, .int .u64 0] 24)).alloc (.cells #[.bool false, .int .u64 0, .int .u64 0] 24)).cell? ⟨w.heap.size, 1, none⟩ = some (.int .u64 p.hi) ∧ ((wx.alloc (.cells #[.bool false, .int .u64 0, .int .u64 0] 24)).alloc (.cells #[.bool false, .int .u64 0, .int .u64 0] 24)).cell? ⟨w.heap.size, 2, none⟩ = some (.int .u64 p.lo) ∧ ((wx.alloc (.cells #[.bool false, .int .u64 0, .int .u64 0] 24)).alloc (.cells #[.bool false, .int .u64 0, .int .u64 0] 24)).cell? ⟨w.heap.size, 3, none⟩ = some (.int .i64 p.b) ∧ w.heap.size < w7.heap.size) ∧ Below w7.heap.size w7 ((wx.alloc (.cells #[.bool false, .int .u64 0, .int .u64 0] 24)).alloc (.cells #[.bool false, .int .u64 0, .int .u64 0] 24))) ∧ Hid (((wx.alloc (.cells #[.bool p.v, .int .u64 p.hi, .int .u64 p.lo] 24)).cell? ⟨w.heap.size, 0, none⟩ = some (.bool p.v) ∧ (wx.alloc (.cells #[.bool p.v, .int .u64 p.hi, .int .u64 p.lo] 24)).cell? ⟨w.heap.size, 1, none⟩ = some (.int .u64 p.hi) ∧ (wx.alloc (.cells #[.bool p.v, .int .u64 p.hi, .int .u64 p.lo] 24)).cell? ⟨w.heap.size, 2, none⟩ = some (.int .u64 p.lo) ∧ (wx.alloc (.cells #[.bool p.v, .int .u64 p.hi, .int .u64 p.lo] 24)).cell? ⟨w.heap.size, 3, none⟩ = some (.int .i64 p.b) ∧ w.heap.size < w7.heap.size) ∧ Below w7.heap.size w7 (wx.alloc (.cells #[.bool p.v, .int .u64 p.hi, .int .u64 p.lo] 24))) ∧ Hid ((((wx.alloc (.cells #[.bool p.v, .int .u64 p.hi, .int .u64 p.lo] 24)).alloc (.cells #[.bool false, .int .u64 0, .int .u64 0] 24)).cell? ⟨w.heap.size, 0, none⟩ = some (.bool p.v) ∧ ((wx.alloc (.cells #[.bool p.v, .int .u64 p.hi, .int .u64 p.lo] 24)).alloc (.cells #[.bool false, .int .u64 0, .int .u64 0] 24)).cell? ⟨w.heap.size, 1, none⟩ = some (.int .u64 p.hi) ∧ ((wx.alloc (.cells #[.bool p.v, .int .u64 p.hi, .int .u64 p.lo] 24)).alloc (.cells #[.bool false, .int .u64 0, .int .u64 0] 24)).cell? ⟨w.heap.size, 2, none⟩ = some (.int .u64 p.lo) ∧ ((wx.alloc (.cells #[.bool p.v, .int .u64 p.hi, .int .u64 p.lo] 24)).alloc (.cells #[.bool false, .int .u64 0, .int .u64 0] 24)).cell? ⟨w.heap.size, 3, none⟩ = some (.int .i64 p.b) ∧ w.heap.size < w7.heap.size) ∧ Below w7.heap.size w7 ((wx.alloc (.cells #[.bool p.v, .int .u64 p.hi, .int .u64 p.lo] 24)).alloc (.cells #[.bool false, .int .u64 0, .int .u64 0] 24))) ∧ Hid ((((wx.alloc (.cells #[.bool p.v, .int .u64 p.hi, .int .u64 p.lo] 24)).alloc (.cells #[.bool L.v, .int .u64 L.hi, .int .u64 L.lo] 24)).cell? ⟨w.heap.size, 0, none⟩ = some (.bool p.v) ∧ ((wx.alloc (.cells #[.bool p.v, .int .u64 p.hi, .int .u64 p.lo] 24)).alloc (.cells #[.bool L.v, .int .u64 L.hi, .int .u64 L.lo] 24)).cell? ⟨w.heap.size, 1, none⟩ = some (.int .u64 p.hi) ∧ ((wx.alloc (.cells #[.bool p.v, .int .u64 p.hi, .int .u64 p.lo] 24)).alloc (.cells #[.bool L.v, .int .u64 L.hi, .int .u64 L.lo] 24)).cell? ⟨w.heap.size, 2, none⟩ = some (.int .u64 p.lo) ∧ ((wx.alloc (.cells #[.bool p.v, .int .u64 p.hi, .int .u64 p.lo] 24)).alloc (.cells #[.bool L.v, .int .u64 L.hi, .int .u64 L.lo] 24)).cell? ⟨w.heap.size, 3, none⟩ = some (.int .i64 p.b) ∧ w.heap.size < w7.heap.size) ∧ Below w7.heap.size w7 ((wx.alloc (.cells #[.bool p.v, .int .u64 p.hi, .int .u64 p.lo] 24)).alloc (.cells #[.bool L.v, .int .u64 L.hi, .int .u64 L.lo] 24))) ∧ Hid ((((wx.alloc (.cells #[.bool false, .int .u64 0, .int .u64 0] 24)).alloc (.cells #[.bool p.v, .int .u64 p.hi, .int .u64 p.lo] 24)).cell? ⟨w.heap.size, 0, none⟩ = some (.bool p.v) ∧ ((wx.alloc (.cells #[.bool false, .int .u64 0, .int .u64 0] 24)).alloc (.cells #[.bool p.v, .int .u64 p.hi, .int .u64 p.lo] 24)).cell? ⟨w.heap.size, 1, none⟩ = some (.int .u64 p.hi) ∧ ((wx.alloc (.cells #[.bool false, .int .u64 0, .int .u64 0] 24)).alloc (.cells #[.bool p.v, .int .u64 p.hi, .int .u64 p.lo] 24)).cell? ⟨w.heap.size, 2, none⟩ = some (.int .u64 p.lo) ∧ ((wx.alloc (.cells #[.bool false, .int .u64 0, .int .u64 0] 24)).alloc (.cells #[.bool p.v, .int .u64 p.hi, .int .u64 p.lo] 24)).cell? ⟨w.heap.size, 3, none⟩ = some (.int .i64 p.b) ∧ w.heap.size < w7.heap.size) ∧ Below w7.heap.size w7 ((wx.alloc (.cells #[.bool false, .int .u64 0, .int .u64 0] 24)).alloc (.cells #[.bool p.v, .int .u64 p.hi, .int .u64 p.lo] 24))) ∧ Hid ((((wx.alloc (.cells #[.bool L.v, .int .u64 L.hi, .int .u64 L.lo] 24)).alloc (.cells #[.bool p.v, .int .u64 p.hi, .int .u64 p.lo] 24)).cell? ⟨w.heap.size, 0, none⟩ = some (.bool p.v) ∧ ((wx.alloc (.cells #[.bool L.v, .int .u64 L.hi, .int .u64 L.lo] 24)).alloc (.cells #[.bool p.v, .int .u64 p.hi, .int .u64 p.lo] 24)).cell? ⟨w.heap.size, 1, none⟩ = some (.int .u64 p.hi) ∧ ((wx.alloc (.cells #[.bool L.v, .int .u64 L.hi, .int .u64 L.lo] 24)).alloc (.cells #[.bool p.v, .int .u64 p.hi, .int .u64 p.lo] 24)).cell? ⟨w.heap.size, 2, none⟩ = some (.int .u64 p.lo) ∧ ((wx.alloc (.cells #[.bool L.v, .int .u64 L.hi, .int .u64 L.lo] 24)).alloc (.cells #[.bool p.v, .int .u64 p.hi, .int .u64 p.lo] 24)).cell? ⟨w.heap.size, 3, none⟩ = some (.int .i64 p.b) ∧ w.heap.size < w7.heap.size) ∧ Below w7.heap.size w7 ((wx.alloc (.cells #[.bool L.v, .int .u64 L.hi, .int .u64 L.lo] 24)).alloc (.cells #[.bool p.v, .int .u64 p.hi, .int .u64 p.lo] 24))) ∧ Hid ((((wx.alloc (.cells #[.bool L.v, .int .u64 L.hi, .int .u64 L.lo] 24)).alloc (.cells #[.bool false, .int .u64 0, .int .u64 0] 24)).cell? ⟨w.heap.size, 0, none⟩ = some (.bool p.v) ∧ ((wx.alloc (.cells #[.bool L.v, .int .u64 L.hi, .int .u64 L.lo] 24)).alloc (.cells #[.bool false, .int .u64 0, .int .u64 0] 24)).cell? ⟨w.heap.size, 1, none⟩ = some (.int .u64 p.hi) ∧ ((wx.alloc (.cells #[.bool L.v, .int .u64 L.hi, .int .u64 L.lo] 24)).alloc (.cells #[.bool false, .int .u64 0, .int .u64 0] 24)).cell? ⟨w.heap.size, 2, none⟩ = some (.int .u64 p.lo) ∧ ((wx.alloc (.cells #[.bool L.v, .int .u64 L.hi, .int .u64 L.lo] 24)).alloc (.cells #[.bool false, .int .u64 0, .int .u64 0] 24)).cell? ⟨w.heap.size, 3, none⟩ = some (.int .i64 p.b) ∧ w.heap.size < w7.heap.size) ∧ Below w7.heap.size w7 ((wx.alloc (.cells #[.bool L.v, .int .u64 L.hi, .int .u64 L.lo] 24)).alloc (.cells #[.bool false, .int .u64 0, .int .u64 0] 24))) ∧ Hid ((((wx.alloc (.cells #[.bool false, .int .u64 0, .int .u64 0] 24)).alloc (.cells #[.bool L.v, .int .u64 L.hi, .int .u64 L.lo] 24)).cell? ⟨w.heap.size, 0, none⟩ = some (.bool p.v) ∧ ((wx.alloc (.cells #[.bool false, .int .u64 0, .int .u64 0] 24)).alloc (.cells #[.bool L.v, .int .u64 L.hi, .int .u64 L.lo] 24)).cell? ⟨w.heap.size, 1, none⟩ = some (.int .u64 p.hi) ∧ ((wx.alloc (.cells #[.bool false, .int .u64 0, .int .u64 0] 24)).alloc (.cells #[.bool L.v, .int .u64 L.hi, .int .u64 L.lo] 24)).cell? ⟨w.heap.size, 2, none⟩ = some (.int .u64 p.lo) ∧ ((wx.alloc (.cells #[.bool false, .int .u64 0, .int .u64 0] 24)).alloc (.cells #[.bool L.v, .int .u64 L.hi, .int .u64 L.lo] 24)).cell? ⟨w.heap.size, 3, none⟩ = some (.int .i64 p.b) ∧ w.heap.size < w7.heap.size) ∧ Below w7.heap.size w7 ((wx.alloc (.cells #[.bool false, .int .u64 0, .int .u64 0] 24)).alloc (.cells #[.bool L.v, .int .u64 L.hi, .int .u64 L.lo] 24))) ∧ Hid (((wx.alloc (.cells #[.bool L.v, .int .u64 L.hi, .int .u64 L.lo] 24)).cell? ⟨w.heap.size, 0, none⟩ = some (.bool p.v) ∧ (wx.alloc (.cells #[.bool L.v, .int .u64 L.hi, .int .u64 L.lo] 24)).cell? ⟨w.heap.size, 1, none⟩ = some (.int .u64 p.hi) ∧ (wx.alloc (.cells #[.bool L.v, .int .u64 L.hi, .int .u64 L.lo] 24)).cell? ⟨w.heap.size, 2, none⟩ = some (.int .u64 p.lo) ∧ (wx.alloc (.cells #[.bool L.v, .int .u64 L.hi, .int .u64 L.lo] 24)).cell? ⟨w.heap.size, 3, none⟩ = some (.int .i64 p.b) ∧ w.heap.size < w7.heap.size) ∧ Below w7.heap.size w7 (wx.alloc (.cells #[.bool L.v, .int .u64 L.hi, .int .u64 L.lo] 24))) ∧ Hid (LfOn w7 ((wx.alloc (.cells #[.bool p.v, .int .u64 p.hi, .int .u64 p.lo] 24)).alloc (.cells #[.bool L.v, .int .u64 L.hi, .int .u64 L.lo] 24)) wx.heap.size (wx.heap.size + 1) p L) ∧ Hid (LfOn w7 ((wx.alloc (.cells #[.bool L.v, .int .u64 L.hi, .int .u64 L.lo] 24)).alloc (.cells #[.bool p.v, .int .u64 p.hi, .int .u64 p.lo] 24)) (wx.heap.size + 1) wx.heap.size p L) := by
  have hs7 : w7.heap.size ≤ wx.heap.size := hb.size
  refine ⟨keepQ hq hb, keepQ hq ?_, keepQ hq ?_, keepQ hq ?_, keepQ hq ?_, keepQ hq ?_, keepQ hq ?_, keepQ hq ?_, keepQ hq ?_, keepQ hq ?_, keepQ hq ?_, ?_, ?_⟩
  · exact (hb).alloc hs7 (.cells #[.bool false, .int .u64 0, .int .u64 0] 24)
  · exact ((hb).alloc hs7 (.cells #[.bool false, .int .u64 0, .int .u64 0] 24)).alloc (by simp; omega) (.cells #[.bool false, .int .u64 0, .int .u64 0] 24)
  · exact (hb).alloc hs7 (.cells #[.bool p.v, .int .u64 p.hi, .int .u64 p.lo] 24)
  · exact ((hb).alloc hs7 (.cells #[.bool p.v, .int .u64 p.hi, .int .u64 p.lo] 24)).alloc (by simp; omega) (.cells #[.bool false, .int .u64 0, .int .u64 0] 24)
  · exact ((hb).alloc hs7 (.cells #[.bool p.v, .int .u64 p.hi, .int .u64 p.lo] 24)).alloc (by simp; omega) (.cells #[.bool L.v, .int .u64 L.hi, .int .u64 L.lo] 24)
  · exact ((hb).alloc hs7 (.cells #[.bool false, .int .u64 0, .int .u64 0] 24)).alloc (by simp; omega) (.cells #[.bool p.v, .int .u64 p.hi, .int .u64 p.lo] 24)
  · exact ((hb).alloc hs7 (.cells #[.bool L.v, .int .u64 L.hi, .int .u64 L.lo] 24)).alloc (by simp; omega) (.cells #[.bool p.v, .int .u64 p.hi, .int .u64 p.lo] 24)
  · exact ((hb).alloc hs7 (.cells #[.bool L.v, .int .u64 L.hi, .int .u64 L.lo] 24)).alloc (by simp; omega) (.cells #[.bool false, .int .u64 0, .int .u64 0] 24)
  · exact ((hb).alloc hs7 (.cells #[.bool false, .int .u64 0, .int .u64 0] 24)).alloc (by simp; omega) (.cells #[.bool L.v, .int .u64 L.hi, .int .u64 L.lo] 24)
  · exact (hb).alloc hs7 (.cells #[.bool L.v, .int .u64 L.hi, .int .u64 L.lo] 24)
  · refine ⟨(Box3.newA hA wx).below (bal (Below.refl _ _) _), ?_, by omega, by omega, by omega, (hb.alloc hs7 (.cells #[.bool p.v, .int .u64 p.hi, .int .u64 p.lo] 24)).alloc (by simp; omega) (.cells #[.bool L.v, .int .u64 L.hi, .int .u64 L.lo] 24)⟩
    have := Box3.new (wx.alloc (.cells #[.bool p.v, .int .u64 p.hi, .int .u64 p.lo] 24)) L
    rw [World.size_alloc] at this
    exact this
  · refine ⟨?_, (Box3.new wx L).below (bal (Below.refl _ _) _), by omega, by omega, by omega, (hb.alloc hs7 (.cells #[.bool L.v, .int .u64 L.hi, .int .u64 L.lo] 24)).alloc (by simp; omega) (.cells #[.bool p.v, .int .u64 p.hi, .int .u64 p.lo] 24)⟩
    have := Box3.newA hA (wx.alloc (.cells #[.bool L.v, .int .u64 L.hi, .int .u64 L.lo] 24))
    rw [World.size_alloc] at this
    exact this
theorem lf_p1 {w w7 wx : World} {p : Pf} {L : Ad} (hA : p.v = (adK p 0).v ∧ p.hi = (adK p 0).hi ∧ p.lo = (adK p 0).lo) (hq : ((w7.cell? ⟨w.heap.size, 0, none⟩ = some (.bool p.v) ∧ w7.cell? ⟨w.heap.size, 1, none⟩ = some (.int .u64 p.hi) ∧ w7.cell? ⟨w.heap.size, 2, none⟩ = some (.int .u64 p.lo) ∧ w7.cell? ⟨w.heap.size, 3, none⟩ = some (.int .i64 p.b) ∧ w.heap.size < w7.heap.size) ∧ Below w7.heap.size w7 w7)) (hb : Below w7.heap.size w7 wx) (hs : w7.heap.size < wx.heap.size) (hz : Box3 wx w7.heap.size zeroAd) : Hid ((wx.cell? ⟨w.heap.size, 0, none⟩ = some (.bool p.v) ∧ wx.cell? ⟨w.heap.size, 1, none⟩ = some (.int .u64 p.hi) ∧ wx.cell? ⟨w.heap.size, 2, none⟩ = some (.int .u64 p.lo) ∧ wx.cell? ⟨w.heap.size, 3, none⟩ = some (.int .i64 p.b) ∧ w.heap.size < w7.heap.size) ∧ Below w7.heap.size w7 wx) ∧ Hid (((wx.alloc (.cells #[.bool false, .int .u64 0, .int .u64 0] 24)).cell? ⟨w.heap.size, 0, none⟩ = some (.bool p.v) ∧ (wx.alloc (.cells #[.bool false, .int .u64 0, .int .u64 0] 24)).cell? ⟨w.heap.size, 1, none⟩ = some (.int .u64 p.hi) ∧ (wx.alloc (.cells #[.bool false, .int .u64 0, .int .u64 0] 24)).cell? ⟨w.heap.size, 2, none⟩ = some (.int .u64 p.lo) ∧ (wx.alloc (.cells #[.bool false, .int .u64 0, .int .u64 0] 24)).cell? ⟨w.heap.size, 3, none⟩ = some (.int .i64 p.b) ∧ w.heap.size < w7.heap.size) ∧ Below w7.heap.size w7 (wx.alloc (.cells #[.bool false, .int .u64 0, .int .u64 0] 24))) ∧ Hid (((wx.alloc (.cells #[.bool p.v, .int .u64 p.hi, .int .u64 p.lo] 24)).cell? ⟨w.heap.size, 0, none⟩ = some (.bool p.v) ∧ (wx.alloc (.cells #[.bool p.v, .int .u64 p.hi, .int .u64 p.lo] 24)).cell? ⟨w.heap.size, 1, none⟩ = some (.int .u64 p.hi) ∧ (wx.alloc (.cells #[.bool p.v, .int .u64 p.hi, .int .u64 p.lo] 24)).cell? ⟨w.heap.size, 2, none⟩ = some (.int .u64 p.lo) ∧ (wx.alloc (.cells #[.bool p.v, .int .u64 p.hi, .int .u64 p.lo] 24)).cell? ⟨w.heap.size, 3, none⟩ = some (.int .i64 p.b) ∧ w.heap.size < w7.heap.size) ∧ Below w7.heap.size w7 (wx.alloc (.cells #[.bool p.v, .int .u64 p.hi, .int .u64 p.lo] 24))) ∧ Hid (((wx.alloc (.cells #[.bool L.v, .int .u64 L.hi, .int .u64 L.lo] 24)).cell? ⟨w.heap.size, 0, none⟩ = some (.bool p.v) ∧ (wx.alloc (.cells #[.bool L.v, .int .u64 L.hi, .int .u64 L.lo] 24)).cell? ⟨w.heap.size, 1, none⟩ = some (.int .u64 p.hi) ∧ (wx.alloc (.cells #[.bool L.v, .int .u64 L.hi, .int .u64 L.lo] 24)).cell? ⟨w.heap.size, 2, none⟩ = some (.int .u64 p.lo) ∧ (wx.alloc (.cells #[.bool L.v, .int .u64 L.hi, .int .u64 L.lo] 24)).cell? ⟨w.heap.size, 3, none⟩ = some (.int .i64 p.b) ∧ w.heap.size < w7.heap.size) ∧ Below w7.heap.size w7 (wx.alloc (.cells #[.bool L.v, .int .u64 L.hi, .int .u64 L.lo] 24))) ∧ Hid (((((wx.setCell ⟨w7.heap.size, 0, none⟩ (.bool p.v)).setCell ⟨w7.heap.size, 1, none⟩ (.int .u64 p.hi)).setCell ⟨w7.heap.size, 2, none⟩ (.int .u64 p.lo)).cell? ⟨w.heap.size, 0, none⟩ = some (.bool p.v) ∧ (((wx.setCell ⟨w7.heap.size, 0, none⟩ (.bool p.v)).setCell ⟨w7.heap.size, 1, none⟩ (.int .u64 p.hi)).setCell ⟨w7.heap.size, 2, none⟩ (.int .u64 p.lo)).cell? ⟨w.heap.size, 1, none⟩ = some (.int .u64 p.hi) ∧ (((wx.setCell ⟨w7.heap.size, 0, none⟩ (.bool p.v)).setCell ⟨w7.heap.size, 1, none⟩ (.int .u64 p.hi)).setCell ⟨w7.heap.size, 2, none⟩ (.int .u64 p.lo)).cell? ⟨w.heap.size, 2, none⟩ = some (.int .u64 p.lo) ∧ (((wx.setCell ⟨w7.heap.size, 0, none⟩ (.bool p.v)).setCell ⟨w7.heap.size, 1, none⟩ (.int .u64 p.hi)).setCell ⟨w7.heap.size, 2, none⟩ (.int .u64 p.lo)).cell? ⟨w.heap.size, 3, none⟩ = some (.int .i64 p.b) ∧ w.heap.size < w7.heap.size) ∧ Below w7.heap.size w7 (((wx.setCell ⟨w7.heap.size, 0, none⟩ (.bool p.v)).setCell ⟨w7.heap.size, 1, none⟩ (.int .u64 p.hi)).setCell ⟨w7.heap.size, 2, none⟩ (.int .u64 p.lo))) ∧ Hid (((((wx.setCell ⟨w7.heap.size, 0, none⟩ (.bool L.v)).setCell ⟨w7.heap.size, 1, none⟩ (.int .u64 L.hi)).setCell ⟨w7.heap.size, 2, none⟩ (.int .u64 L.lo)).cell? ⟨w.heap.size, 0, none⟩ = some (.bool p.v) ∧ (((wx.setCell ⟨w7.heap.size, 0, none⟩ (.bool L.v)).setCell ⟨w7.heap.size, 1, none⟩ (.int .u64 L.hi)).setCell ⟨w7.heap.size, 2, none⟩ (.int .u64 L.lo)).cell? ⟨w.heap.size, 1, none⟩ = some (.int .u64 p.hi) ∧ (((wx.setCell ⟨w7.heap.size, 0, none⟩ (.bool L.v)).setCell ⟨w7.heap.size, 1, none⟩ (.int .u64 L.hi)).setCell ⟨w7.heap.size, 2, none⟩ (.int .u64 L.lo)).cell? ⟨w.heap.size, 2, none⟩ = some (.int .u64 p.lo) ∧ (((wx.setCell ⟨w7.heap.size, 0, none⟩ (.bool L.v)).setCell ⟨w7.heap.size, 1, none⟩ (.int .u64 L.hi)).setCell ⟨w7.heap.size, 2, none⟩ (.int .u64 L.lo)).cell? ⟨w.heap.size, 3, none⟩ = some (.int .i64 p.b) ∧ w.heap.size < w7.heap.size) ∧ Below w7.heap.size w7 (((wx.setCell ⟨w7.heap.size, 0, none⟩ (.bool L.v)).setCell ⟨w7.heap.size, 1, none⟩ (.int .u64 L.hi)).setCell ⟨w7.heap.size, 2, none⟩ (.int .u64 L.lo))) ∧ Hid ((((((wx.setCell ⟨w7.heap.size, 0, none⟩ (.bool p.v)).setCell ⟨w7.heap.size, 1, none⟩ (.int .u64 p.hi)).setCell ⟨w7.heap.size, 2, none⟩ (.int .u64 p.lo)).alloc (.cells #[.bool false, .int .u64 0, .int .u64 0] 24)).cell? ⟨w.heap.size, 0, none⟩ = some (.bool p.v) ∧ ((((wx.setCell ⟨w7.heap.size, 0, none⟩ (.bool p.v)).setCell ⟨w7.heap.size, 1, none⟩ (.int .u64 p.hi)).setCell ⟨w7.heap.size, 2, none⟩ (.int .u64 p.lo)).alloc (.cells #[.bool false, .int .u64 0, .int .u64 0] 24)).cell? ⟨w.heap.size, 1, none⟩ = some (.int .u64 p.hi) ∧ ((((wx.setCell ⟨w7.heap.size, 0, none⟩ (.bool p.v)).setCell ⟨w7.heap.size, 1, none⟩ (.int .u64 p.hi)).setCell ⟨w7.heap.size, 2, none⟩ (.int .u64 p.lo)).alloc (.cells #[.bool false, .int .u64 0, .int .u64 0] 24)).cell? ⟨w.heap.size, 2, none⟩ = some (.int .u64 p.lo) ∧ ((((wx.setCell ⟨w7.heap.size, 0, none⟩ (.bool p.v)).setCell ⟨w7.heap.size, 1, none⟩ (.int .u64 p.hi)).setCell ⟨w7.heap.size, 2, none⟩ (.int .u64 p.lo)).alloc (.cells #[.bool false, .int .u64 0, .int .u64 0] 24)).cell? ⟨w.heap.size, 3, none⟩ = some (.int .i64 p.b) ∧ w.heap.size < w7.heap.size) ∧ Below w7.heap.size w7 ((((wx.setCell ⟨w7.heap.size, 0, none⟩ (.bool p.v)).setCell ⟨w7.heap.size, 1, none⟩ (.int .u64 p.hi)).setCell ⟨w7.heap.size, 2, none⟩ (.int .u64 p.lo)).alloc (.cells #[.bool false, .int .u64 0, .int .u64 0] 24))) ∧ Hid ((((((wx.setCell ⟨w7.heap.size, 0, none⟩ (.bool p.v)).setCell ⟨w7.heap.size, 1, none⟩ (.int .u64 p.hi)).setCell ⟨w7.heap.size, 2, none⟩ (.int .u64 p.lo)).alloc (.cells #[.bool L.v, .int .u64 L.hi, .int .u64 L.lo] 24)).cell? ⟨w.heap.size, 0, none⟩ = some (.bool p.v) ∧ ((((wx.setCell ⟨w7.heap.size, 0, none⟩ (.bool p.v)).setCell ⟨w7.heap.size, 1, none⟩ (.int .u64 p.hi)).setCell ⟨w7.heap.size, 2, none⟩ (.int .u64 p.lo)).alloc (.cells #[.bool L.v, .int .u64 L.hi, .int .u64 L.lo] 24)).cell? ⟨w.heap.size, 1, none⟩ = some (.int .u64 p.hi) ∧ ((((wx.setCell ⟨w7.heap.size, 0, none⟩ (.bool p.v)).setCell ⟨w7.heap.size, 1, none⟩ (.int .u64 p.hi)).setCell ⟨w7.heap.size, 2, none⟩ (.int .u64 p.lo)).alloc (.cells #[.bool L.v, .int .u64 L.hi, .int .u64 L.lo] 24)).cell? ⟨w.heap.size, 2, none⟩ = some (.int .u64 p.lo) ∧ ((((wx.setCell ⟨w7.heap.size, 0, none⟩ (.bool p.v)).setCell ⟨w7.heap.size, 1, none⟩ (.int .u64 p.hi)).setCell ⟨w7.heap.size, 2, none⟩ (.int .u64 p.lo)).alloc (.cells #[.bool L.v, .int .u64 L.hi, .int .u64 L.lo] 24)).cell? ⟨w.heap.size, 3, none⟩ = some (.int .i64 p.b) ∧ w.heap.size < w7.heap.size) ∧ Below w7.heap.size w7 ((((wx.setCell ⟨w7.heap.size, 0, none⟩ (.bool p.v)).setCell ⟨w7.heap.size, 1, none⟩ (.int .u64 p.hi)).setCell ⟨w7.heap.size, 2, none⟩ (.int .u64 p.lo)).alloc (.cells #[.bool L.v, .int .u64 L.hi, .int .u64 L.lo] 24))) ∧ Hid ((((((wx.setCell ⟨w7.heap.size, 0, none⟩ (.bool L.v)).setCell ⟨w7.heap.size, 1, none⟩ (.int .u64 L.hi)).setCell ⟨w7.heap.size, 2, none⟩ (.int .u64 L.lo)).alloc (.cells #[.bool p.v, .int .u64 p.hi, .int .u64 p.lo] 24)).cell? ⟨w.heap.size, 0, none⟩ = some (.bool p.v) ∧ ((((wx.setCell ⟨w7.heap.size, 0, none⟩ (.bool L.v)).setCell ⟨w7.heap.size, 1, none⟩ (.int .u64 L.hi)).setCell ⟨w7.heap.size, 2, none⟩ (.int .u64 L.lo)).alloc (.cells #[.bool p.v, .int .u64 p.hi, .int .u64 p.lo] 24)).cell? ⟨w.heap.size, 1, none⟩ = some (.int .u64 p.hi) ∧ ((((wx.setCell ⟨w7.heap.size, 0, none⟩ (.bool L.v)).setCell ⟨w7.heap.size, 1, none⟩ (.int .u64 L.hi)).setCell ⟨w7.heap.size, 2, none⟩ (.int .u64 L.lo)).alloc (.cells #[.bool p.v, .int .u64 p.hi, .int .u64 p.lo] 24)).cell? ⟨w.heap.size, 2, none⟩ = some (.int .u64 p.lo) ∧ ((((wx.setCell ⟨w7.heap.size, 0, none⟩ (.bool L.v)).setCell ⟨w7.heap.size, 1, none⟩ (.int .u64 L.hi)).setCell ⟨w7.heap.size, 2, none⟩ (.int .u64 L.lo)).alloc (.cells #[.bool p.v, .int .u64 p.hi, .int .u64 p.lo] 24)).cell? ⟨w.heap.size, 3, none⟩ = some (.int .i64 p.b) ∧ w.heap.size < w7.heap.size) ∧ Below w7.heap.size w7 ((((wx.setCell ⟨w7.heap.size, 0, none⟩ (.bool L.v)).setCell ⟨w7.heap.size, 1, none⟩ (.int .u64 L.hi)).setCell ⟨w7.heap.size, 2, none⟩ (.int .u64 L.lo)).alloc (.cells #[.bool p.v, .int .u64 p.hi, .int .u64 p.lo] 24))) ∧ Hid ((((((wx.setCell ⟨w7.heap.size, 0, none⟩ (.bool L.v)).setCell ⟨w7.heap.size, 1, none⟩ (.int .u64 L.hi)).setCell ⟨w7.heap.size, 2, none⟩ (.int .u64 L.lo)).alloc (.cells #[.bool false, .int .u64 0, .int .u64 0] 24)).cell? ⟨w.heap.size, 0, none⟩ = some (.bool p.v) ∧ ((((wx.setCell ⟨w7.heap.size, 0, none⟩ (.bool L.v)).setCell ⟨w7.heap.size, 1, none⟩ (.int .u64 L.hi)).setCell ⟨w7.heap.size, 2, none⟩ (.int .u64 L.lo)).alloc (.cells #[.bool false, .int .u64 0, .int .u64 0] 24)).cell? ⟨w.heap.size, 1, none⟩ = some (.int .u64 p.hi) ∧ ((((wx.setCell ⟨w7.heap.size, 0, none⟩ (.bool L.v)).setCell ⟨w7.heap.size, 1, none⟩ (.int .u64 L.hi)).setCell ⟨w7.heap.size, 2, none⟩ (.int .u64 L.lo)).alloc (.cells #[.bool false, .int .u64 0, .int .u64 0] 24)).cell? ⟨w.heap.size, 2, none⟩ = some (.int .u64 p.lo) ∧ ((((wx.setCell ⟨w7.heap.size, 0, none⟩ (.bool L.v)).setCell ⟨w7.heap.size, 1, none⟩ (.int .u64 L.hi)).setCell ⟨w7.heap.size, 2, none⟩ (.int .u64 L.lo)).alloc (.cells #[.bool false, .int .u64 0, .int .u64 0] 24)).cell? ⟨w.heap.size, 3, none⟩ = some (.int .i64 p.b) ∧ w.heap.size < w7.heap.size) ∧ Below w7.heap.size w7 ((((wx.setCell ⟨w7.heap.size, 0, none⟩ (.bool L.v)).setCell ⟨w7.heap.size, 1, none⟩ (.int .u64 L.hi)).setCell ⟨w7.heap.size, 2, none⟩ (.int .u64 L.lo)).alloc (.cells #[.bool false, .int .u64 0, .int .u64 0] 24))) ∧ Hid (LfOn w7 ((((wx.setCell ⟨w7.heap.size, 0, none⟩ (.bool p.v)).setCell ⟨w7.heap.size, 1, none⟩ (.int .u64 p.hi)).setCell ⟨w7.heap.size, 2, none⟩ (.int .u64 p.lo)).alloc (.cells #[.bool L.v, .int .u64 L.hi, .int .u64 L.lo] 24)) w7.heap.size wx.heap.size p L) ∧ Hid (LfOn w7 ((((wx.setCell ⟨w7.heap.size, 0, none⟩ (.bool L.v)).setCell ⟨w7.heap.size, 1, none⟩ (.int .u64 L.hi)).setCell ⟨w7.heap.size, 2, none⟩ (.int .u64 L.lo)).alloc (.cells #[.bool p.v, .int .u64 p.hi, .int .u64 p.lo] 24)) wx.heap.size w7.heap.size p L) := by
  have hs7 : w7.heap.size ≤ wx.heap.size := hb.size
  have gA := hb.trans (put3_below (W := wx) (Nat.le_refl w7.heap.size) (.bool p.v) (.int .u64 p.hi) (.int .u64 p.lo))
  have gL := hb.trans (put3_below (W := wx) (Nat.le_refl w7.heap.size) (.bool L.v) (.int .u64 L.hi) (.int .u64 L.lo))
  refine ⟨keepQ hq hb, keepQ hq ?_, keepQ hq ?_, keepQ hq ?_, keepQ hq ?_, keepQ hq ?_, keepQ hq ?_, keepQ hq ?_, keepQ hq ?_, keepQ hq ?_, ?_, ?_⟩
  · exact hb.alloc hs7 (.cells #[.bool false, .int .u64 0, .int .u64 0] 24)
  · exact hb.alloc hs7 (.cells #[.bool p.v, .int .u64 p.hi, .int .u64 p.lo] 24)
  · exact hb.alloc hs7 (.cells #[.bool L.v, .int .u64 L.hi, .int .u64 L.lo] 24)
  · exact gA
  · exact gL
  · exact gA.alloc (by rw [size3]; omega) (.cells #[.bool false, .int .u64 0, .int .u64 0] 24)
  · exact gA.alloc (by rw [size3]; omega) (.cells #[.bool L.v, .int .u64 L.hi, .int .u64 L.lo] 24)
  · exact gL.alloc (by rw [size3]; omega) (.cells #[.bool p.v, .int .u64 p.hi, .int .u64 p.lo] 24)
  · exact gL.alloc (by rw [size3]; omega) (.cells #[.bool false, .int .u64 0, .int .u64 0] 24)
  · refine ⟨(Box3.putA hA hz).below (bal (Below.refl _ _) _), ?_, by omega, by omega, by omega, gA.alloc (by rw [size3]; omega) (.cells #[.bool L.v, .int .u64 L.hi, .int .u64 L.lo] 24)⟩
    have := Box3.new (((wx.setCell ⟨w7.heap.size, 0, none⟩ (.bool p.v)).setCell ⟨w7.heap.size, 1, none⟩ (.int .u64 p.hi)).setCell ⟨w7.heap.size, 2, none⟩ (.int .u64 p.lo)) L
    rw [size3] at this
    exact this
  · refine ⟨?_, (hz.put L).below (bal (Below.refl _ _) _), by omega, by omega, by omega, gL.alloc (by rw [size3]; omega) (.cells #[.bool p.v, .int .u64 p.hi, .int .u64 p.lo] 24)⟩
    have := Box3.newA hA (((wx.setCell ⟨w7.heap.size, 0, none⟩ (.bool L.v)).setCell ⟨w7.heap.size, 1, none⟩ (.int .u64 L.hi)).setCell ⟨w7.heap.size, 2, none⟩ (.int .u64 L.lo))
    rw [size3] at this
    exact this
theorem lf_p2 {w w7 wx : World} {p : Pf} {L : Ad} (hA : p.v = (adK p 0).v ∧ p.hi = (adK p 0).hi ∧ p.lo = (adK p 0).lo) (hq : ((w7.cell? ⟨w.heap.size, 0, none⟩ = some (.bool p.v) ∧ w7.cell? ⟨w.heap.size, 1, none⟩ = some (.int .u64 p.hi) ∧ w7.cell? ⟨w.heap.size, 2, none⟩ = some (.int .u64 p.lo) ∧ w7.cell? ⟨w.heap.size, 3, none⟩ = some (.int .i64 p.b) ∧ w.heap.size < w7.heap.size) ∧ Below w7.heap.size w7 w7)) (hb : Below w7.heap.size w7 wx) (hz : Box3 wx w7.heap.size zeroAd) (hz' : Box3 wx (w7.heap.size + 1) zeroAd) : Hid ((wx.cell? ⟨w.heap.size, 0, none⟩ = some (.bool p.v) ∧ wx.cell? ⟨w.heap.size, 1, none⟩ = some (.int .u64 p.hi) ∧ wx.cell? ⟨w.heap.size, 2, none⟩ = some (.int .u64 p.lo) ∧ wx.cell? ⟨w.heap.size, 3, none⟩ = some (.int .i64 p.b) ∧ w.heap.size < w7.heap.size) ∧ Below w7.heap.size w7 wx) ∧ Hid (((((wx.setCell ⟨w7.heap.size, 0, none⟩ (.bool p.v)).setCell ⟨w7.heap.size, 1, none⟩ (.int .u64 p.hi)).setCell ⟨w7.heap.size, 2, none⟩ (.int .u64 p.lo)).cell? ⟨w.heap.size, 0, none⟩ = some (.bool p.v) ∧ (((wx.setCell ⟨w7.heap.size, 0, none⟩ (.bool p.v)).setCell ⟨w7.heap.size, 1, none⟩ (.int .u64 p.hi)).setCell ⟨w7.heap.size, 2, none⟩ (.int .u64 p.lo)).cell? ⟨w.heap.size, 1, none⟩ = some (.int .u64 p.hi) ∧ (((wx.setCell ⟨w7.heap.size, 0, none⟩ (.bool p.v)).setCell ⟨w7.heap.size, 1, none⟩ (.int .u64 p.hi)).setCell ⟨w7.heap.size, 2, none⟩ (.int .u64 p.lo)).cell? ⟨w.heap.size, 2, none⟩ = some (.int .u64 p.lo) ∧ (((wx.setCell ⟨w7.heap.size, 0, none⟩ (.bool p.v)).setCell ⟨w7.heap.size, 1, none⟩ (.int .u64 p.hi)).setCell ⟨w7.heap.size, 2, none⟩ (.int .u64 p.lo)).cell? ⟨w.heap.size, 3, none⟩ = some (.int .i64 p.b) ∧ w.heap.size < w7.heap.size) ∧ Below w7.heap.size w7 (((wx.setCell ⟨w7.heap.size, 0, none⟩ (.bool p.v)).setCell ⟨w7.heap.size, 1, none⟩ (.int .u64 p.hi)).setCell ⟨w7.heap.size, 2, none⟩ (.int .u64 p.lo))) ∧ Hid (((((wx.setCell ⟨(w7.heap.size + 1), 0, none⟩ (.bool p.v)).setCell ⟨(w7.heap.size + 1), 1, none⟩ (.int .u64 p.hi)).setCell ⟨(w7.heap.size + 1), 2, none⟩ (.int .u64 p.lo)).cell? ⟨w.heap.size, 0, none⟩ = some (.bool p.v) ∧ (((wx.setCell ⟨(w7.heap.size + 1), 0, none⟩ (.bool p.v)).setCell ⟨(w7.heap.size + 1), 1, none⟩ (.int .u64 p.hi)).setCell ⟨(w7.heap.size + 1), 2, none⟩ (.int .u64 p.lo)).cell? ⟨w.heap.size, 1, none⟩ = some (.int .u64 p.hi) ∧ (((wx.setCell ⟨(w7.heap.size + 1), 0, none⟩ (.bool p.v)).setCell ⟨(w7.heap.size + 1), 1, none⟩ (.int .u64 p.hi)).setCell ⟨(w7.heap.size + 1), 2, none⟩ (.int .u64 p.lo)).cell? ⟨w.heap.size, 2, none⟩ = some (.int .u64 p.lo) ∧ (((wx.setCell ⟨(w7.heap.size + 1), 0, none⟩ (.bool p.v)).setCell ⟨(w7.heap.size + 1), 1, none⟩ (.int .u64 p.hi)).setCell ⟨(w7.heap.size + 1), 2, none⟩ (.int .u64 p.lo)).cell? ⟨w.heap.size, 3, none⟩ = some (.int .i64 p.b) ∧ w.heap.size < w7.heap.size) ∧ Below w7.heap.size w7 (((wx.setCell ⟨(w7.heap.size + 1), 0, none⟩ (.bool p.v)).setCell ⟨(w7.heap.size + 1), 1, none⟩ (.int .u64 p.hi)).setCell ⟨(w7.heap.size + 1), 2, none⟩ (.int .u64 p.lo))) ∧ Hid ((((((((wx.setCell ⟨w7.heap.size, 0, none⟩ (.bool p.v)).setCell ⟨w7.heap.size, 1, none⟩ (.int .u64 p.hi)).setCell ⟨w7.heap.size, 2, none⟩ (.int .u64 p.lo)).setCell ⟨(w7.heap.size + 1), 0, none⟩ (.bool L.v)).setCell ⟨(w7.heap.size + 1), 1, none⟩ (.int .u64 L.hi)).setCell ⟨(w7.heap.size + 1), 2, none⟩ (.int .u64 L.lo)).cell? ⟨w.heap.size, 0, none⟩ = some (.bool p.v) ∧ ((((((wx.setCell ⟨w7.heap.size, 0, none⟩ (.bool p.v)).setCell ⟨w7.heap.size, 1, none⟩ (.int .u64 p.hi)).setCell ⟨w7.heap.size, 2, none⟩ (.int .u64 p.lo)).setCell ⟨(w7.heap.size + 1), 0, none⟩ (.bool L.v)).setCell ⟨(w7.heap.size + 1), 1, none⟩ (.int .u64 L.hi)).setCell ⟨(w7.heap.size + 1), 2, none⟩ (.int .u64 L.lo)).cell? ⟨w.heap.size, 1, none⟩ = some (.int .u64 p.hi) ∧ ((((((wx.setCell ⟨w7.heap.size, 0, none⟩ (.bool p.v)).setCell ⟨w7.heap.size, 1, none⟩ (.int .u64 p.hi)).setCell ⟨w7.heap.size, 2, none⟩ (.int .u64 p.lo)).setCell ⟨(w7.heap.size + 1), 0, none⟩ (.bool L.v)).setCell ⟨(w7.heap.size + 1), 1, none⟩ (.int .u64 L.hi)).setCell ⟨(w7.heap.size + 1), 2, none⟩ (.int .u64 L.lo)).cell? ⟨w.heap.size, 2, none⟩ = some (.int .u64 p.lo) ∧ ((((((wx.setCell ⟨w7.heap.size, 0, none⟩ (.bool p.v)).setCell ⟨w7.heap.size, 1, none⟩ (.int .u64 p.hi)).setCell ⟨w7.heap.size, 2, none⟩ (.int .u64 p.lo)).setCell ⟨(w7.heap.size + 1), 0, none⟩ (.bool L.v)).setCell ⟨(w7.heap.size + 1), 1, none⟩ (.int .u64 L.hi)).setCell ⟨(w7.heap.size + 1), 2, none⟩ (.int .u64 L.lo)).cell? ⟨w.heap.size, 3, none⟩ = some (.int .i64 p.b) ∧ w.heap.size < w7.heap.size) ∧ Below w7.heap.size w7 ((((((wx.setCell ⟨w7.heap.size, 0, none⟩ (.bool p.v)).setCell ⟨w7.heap.size, 1, none⟩ (.int .u64 p.hi)).setCell ⟨w7.heap.size, 2, none⟩ (.int .u64 p.lo)).setCell ⟨(w7.heap.size + 1), 0, none⟩ (.bool L.v)).setCell ⟨(w7.heap.size + 1), 1, none⟩ (.int .u64 L.hi)).setCell ⟨(w7.heap.size + 1), 2, none⟩ (.int .u64 L.lo))) ∧ Hid ((((((((wx.setCell ⟨(w7.heap.size + 1), 0, none⟩ (.bool p.v)).setCell ⟨(w7.heap.size + 1), 1, none⟩ (.int .u64 p.hi)).setCell ⟨(w7.heap.size + 1), 2, none⟩ (.int .u64 p.lo)).setCell ⟨w7.heap.size, 0, none⟩ (.bool L.v)).setCell ⟨w7.heap.size, 1, none⟩ (.int .u64 L.hi)).setCell ⟨w7.heap.size, 2, none⟩ (.int .u64 L.lo)).cell? ⟨w.heap.size, 0, none⟩ = some (.bool p.v) ∧ ((((((wx.setCell ⟨(w7.heap.size + 1), 0, none⟩ (.bool p.v)).setCell ⟨(w7.heap.size + 1), 1, none⟩ (.int .u64 p.hi)).setCell ⟨(w7.heap.size + 1), 2, none⟩ (.int .u64 p.lo)).setCell ⟨w7.heap.size, 0, none⟩ (.bool L.v)).setCell ⟨w7.heap.size, 1, none⟩ (.int .u64 L.hi)).setCell ⟨w7.heap.size, 2, none⟩ (.int .u64 L.lo)).cell? ⟨w.heap.size, 1, none⟩ = some (.int .u64 p.hi) ∧ ((((((wx.setCell ⟨(w7.heap.size + 1), 0, none⟩ (.bool p.v)).setCell ⟨(w7.heap.size + 1), 1, none⟩ (.int .u64 p.hi)).setCell ⟨(w7.heap.size + 1), 2, none⟩ (.int .u64 p.lo)).setCell ⟨w7.heap.size, 0, none⟩ (.bool L.v)).setCell ⟨w7.heap.size, 1, none⟩ (.int .u64 L.hi)).setCell ⟨w7.heap.size, 2, none⟩ (.int .u64 L.lo)).cell? ⟨w.heap.size, 2, none⟩ = some (.int .u64 p.lo) ∧ ((((((wx.setCell ⟨(w7.heap.size + 1), 0, none⟩ (.bool p.v)).setCell ⟨(w7.heap.size + 1), 1, none⟩ (.int .u64 p.hi)).setCell ⟨(w7.heap.size + 1), 2, none⟩ (.int .u64 p.lo)).setCell ⟨w7.heap.size, 0, none⟩ (.bool L.v)).setCell ⟨w7.heap.size, 1, none⟩ (.int .u64 L.hi)).setCell ⟨w7.heap.size, 2, none⟩ (.int .u64 L.lo)).cell? ⟨w.heap.size, 3, none⟩ = some (.int .i64 p.b) ∧ w.heap.size < w7.heap.size) ∧ Below w7.heap.size w7 ((((((wx.setCell ⟨(w7.heap.size + 1), 0, none⟩ (.bool p.v)).setCell ⟨(w7.heap.size + 1), 1, none⟩ (.int .u64 p.hi)).setCell ⟨(w7.heap.size + 1), 2, none⟩ (.int .u64 p.lo)).setCell ⟨w7.heap.size, 0, none⟩ (.bool L.v)).setCell ⟨w7.heap.size, 1, none⟩ (.int .u64 L.hi)).setCell ⟨w7.heap.size, 2, none⟩ (.int .u64 L.lo))) ∧ Hid (LfOn w7 ((((((wx.setCell ⟨w7.heap.size, 0, none⟩ (.bool p.v)).setCell ⟨w7.heap.size, 1, none⟩ (.int .u64 p.hi)).setCell ⟨w7.heap.size, 2, none⟩ (.int .u64 p.lo)).setCell ⟨(w7.heap.size + 1), 0, none⟩ (.bool L.v)).setCell ⟨(w7.heap.size + 1), 1, none⟩ (.int .u64 L.hi)).setCell ⟨(w7.heap.size + 1), 2, none⟩ (.int .u64 L.lo)) w7.heap.size (w7.heap.size + 1) p L) ∧ Hid (LfOn w7 ((((((wx.setCell ⟨(w7.heap.size + 1), 0, none⟩ (.bool p.v)).setCell ⟨(w7.heap.size + 1), 1, none⟩ (.int .u64 p.hi)).setCell ⟨(w7.heap.size + 1), 2, none⟩ (.int .u64 p.lo)).setCell ⟨w7.heap.size, 0, none⟩ (.bool L.v)).setCell ⟨w7.heap.size, 1, none⟩ (.int .u64 L.hi)).setCell ⟨w7.heap.size, 2, none⟩ (.int .u64 L.lo)) (w7.heap.size + 1) w7.heap.size p L) := by
  have gA := hb.trans (put3_below (W := wx) (Nat.le_refl w7.heap.size) (.bool p.v) (.int .u64 p.hi) (.int .u64 p.lo))
  have gB := hb.trans (put3_below (W := wx) (Nat.le_succ w7.heap.size) (.bool p.v) (.int .u64 p.hi) (.int .u64 p.lo))
  have gAL := gA.trans (put3_below (W := (((wx.setCell ⟨w7.heap.size, 0, none⟩ (.bool p.v)).setCell ⟨w7.heap.size, 1, none⟩ (.int .u64 p.hi)).setCell ⟨w7.heap.size, 2, none⟩ (.int .u64 p.lo))) (Nat.le_succ w7.heap.size) (.bool L.v) (.int .u64 L.hi) (.int .u64 L.lo))
  have gBL := gB.trans (put3_below (W := (((wx.setCell ⟨(w7.heap.size + 1), 0, none⟩ (.bool p.v)).setCell ⟨(w7.heap.size + 1), 1, none⟩ (.int .u64 p.hi)).setCell ⟨(w7.heap.size + 1), 2, none⟩ (.int .u64 p.lo))) (Nat.le_refl w7.heap.size) (.bool L.v) (.int .u64 L.hi) (.int .u64 L.lo))
  refine ⟨keepQ hq hb, keepQ hq gA, keepQ hq gB, keepQ hq gAL, keepQ hq gBL, ?_, ?_⟩
  · exact ⟨(Box3.putA hA hz).far (by omega) _ _ _, Box3.put (hz'.far (by omega) _ _ _) L, by omega, by omega, by omega, gAL⟩
  · exact ⟨(Box3.putA hA hz').far (by omega) _ _ _, Box3.put (hz.far (by omega) _ _ _) L, by omega, by omega, by omega, gBL⟩

set_option maxHeartbeats 32000000 in
set_option maxRecDepth 100000 in
theorem lf_go (p : Pf) (hp : p.Ok) (ka : Option Addr) (kc : Nat) (kept : List Ad) (a : Option Addr) (c : Nat) (l : List Ls) (who : ByteArray) (now : Int) (w : World) (hg : Good w) (hk : Lies adE w ka kept) (hs : Lies lsE w a l) (hwho : who.size ≤ maxLen) (r : p.R) (hwd : wideB p.v p.b = false) (hv : checkE p kept l now = 0) (hwb : whoB who = true) (hf : l.findIdx? (Ls.hasWho who) = none) (X : Ad) (K : Nat) (hK : K < p.many) (hX : X = adK p K) (hgo : ∃ M, gOut p kept l who now 1 = (0, M, X)) (hfr : ∀ j, j < K → freeA kept (live l now) (adK p j) = false) :
    Calls Tryz.prog 4 #[.agg #[.bool p.v, .int .u64 p.hi, .int .u64 p.lo, .int .i64 p.b, .slice ka kept.length kc], .slice a l.length c, .string who, .int .i64 now] w fun e w' => e = .returned (.bool true) ∧ Below w.heap.size w w' := by
  have HBe : Hid (∀ W, Calls Tryz.prog 5 #[] W fun e w' => e = .returned (.bool true) ∧ Below W.heap.size W w') := lbegun_any
  have HAb : Hid (∀ W, Below w.heap.size w W → Calls Tryz.prog 11 #[] W fun e w' => e = .returned (.bool true) ∧ Below W.heap.size W w') := fun W hb => begun_any W (hg.below hb)
  have HCk : Hid (∀ W, Below w.heap.size w W → Calls Tryz.prog 8 #[.agg #[.bool p.v, .int .u64 p.hi, .int .u64 p.lo, .int .i64 p.b, .slice ka kept.length kc], .slice a l.length c, .int .i64 now] W fun e w' => e = .returned (.int .i64 (checkE p kept l now)) ∧ Below W.heap.size W w') := fun W hb => check_ls p hp ka kc kept a c l now W (hk.below hb) (hs.below hb)
  have HWb : Hid (∀ W, Calls Tryz.prog 12 #[.string who] W fun e w' => e = .returned (.bool (whoB who)) ∧ w' = W) := fun W => rwho_any who W hwho
  have HX5 : Hid (Box5 (w.alloc (.cells #[.bool p.v, .int .u64 p.hi, .int .u64 p.lo, .int .i64 p.b, .slice ka kept.length kc] 29)) w.heap.size p (.slice ka kept.length kc)) := Box5.new w p _
  have HB0 := Lib.hid (bal (Below.refl w.heap.size w) (.cells #[.bool p.v, .int .u64 p.hi, .int .u64 p.lo, .int .i64 p.b, .slice ka kept.length kc] 29))
  have hl20 := lookL_len20 (check_zero hv).2.1
  have hkl := (pool_zero (check_zero hv).1).2.2.1
  have HWh : Hid (∀ W, Below w.heap.size w W → Calls Tryz.prog 10 #[.slice a l.length c, .string who] W fun e w' => e = .returned (.int .i64 (-1)) ∧ w' = W) := fun W hb => by
    have := whoAt_any a c l who W (by omega) (hs.below hb)
    rw [hf] at this
    exact this
  obtain ⟨M, hgo⟩ := hgo
  have HG : Hid (∀ W, Below w.heap.size w W → Calls Tryz.prog 7 #[.agg #[.bool p.v, .int .u64 p.hi, .int .u64 p.lo, .int .i64 p.b, .slice ka kept.length kc], .slice a l.length c, .string who, .int .i64 now, .int .i64 1] W fun e w' => ∃ a4 n4 c4, e = .returned (.tuple #[.slice a4 n4 c4, .agg #[.bool X.v, .int .u64 X.hi, .int .u64 X.lo], .int .i64 0]) ∧ Below W.heap.size W w') := fun W hb => by
    have := lgrant_any p hp ka kc kept a c l who now 1 W (hk.below hb) (hs.below hb)
    rw [hgo] at this
    exact this.mono fun e w' ⟨a4, c4, h1, h2, h3⟩ => ⟨a4, _, c4, h1, h3⟩
  obtain ⟨L, hL⟩ : ∃ L, L = adK p (p.many - 1) := ⟨_, rfl⟩
  have HLa : Hid (∀ W, Calls Tryz.prog 13 #[.agg #[.bool p.v, .int .u64 p.hi, .int .u64 p.lo, .int .i64 p.b]] W fun e w' => e = .returned (.agg #[.bool L.v, .int .u64 L.hi, .int .u64 L.lo]) ∧ Below W.heap.size W w') := fun W => by rw [hL]; exact lastOf_pf r W
  have HL := Lib.hid hL
  have HFr := Lib.hid hfr
  have hmany := many_narrow r hwd
  have HA : Hid (p.v = (adK p 0).v ∧ p.hi = (adK p 0).hi ∧ p.lo = (adK p 0).lo) := by
    have h := first_ad r
    have e : adK p 0 = adOf p.v p.n := by unfold adK; simp
    rw [Hid, e]
    exact ⟨h.1.symm, h.2.1.symm, h.2.2.symm⟩
  have HKe := Lib.hid hk
  have HSe := Lib.hid hs
  rw [hv] at HCk
  rw [hwb] at HWb
  have HXe := Lib.hid hX
  obtain ⟨KN, hKN⟩ : ∃ KN, KN = kept.length := ⟨_, rfl⟩
  rw [← hKN] at HCk HX5 HB0 HG hkl ⊢
  obtain ⟨N, hN⟩ : ∃ N, N = l.length := ⟨_, rfl⟩
  rw [← hN] at HCk HWh HG hl20 ⊢
  have HKN := Lib.hid hKN
  have HN := Lib.hid hN
  clear hg hk hs hwho hv hwb hKN hN hf hgo hL hfr hwd hX
  go_enter Tryz.func4, Tryz.ntmps4
  go_wp2_with fail
  refine (HBe.out _).mono ?_
  rintro e w1 ⟨rfl, hb1⟩
  replace HX5 := Lib.hid (HX5.out.below hb1)
  replace HB0 := Lib.hid (btr HB0.out hb1)
  clear hb1
  go_wp2_with fail
  refine (HAb.out _ HB0.out).mono ?_
  rintro e w2 ⟨rfl, hb2⟩
  replace HX5 := Lib.hid (HX5.out.below hb2)
  replace HB0 := Lib.hid (btr HB0.out hb2)
  clear hb2
  obtain ⟨x0, x1, x2, x3, x4⟩ := HX5.out.cells
  go_wp2_with fail
  refine (HCk.out _ HB0.out).mono ?_
  rintro e w3 ⟨rfl, hb3⟩
  replace HX5 := Lib.hid (HX5.out.below hb3)
  replace HB0 := Lib.hid (btr HB0.out hb3)
  clear hb3 x0 x1 x2 x3 x4
  go_wp2_with fail
  refine (HWb.out _).mono ?_
  rintro e w4 ⟨rfl, rfl⟩
  go_wp2_with fail
  refine (HWh.out _ HB0.out).mono ?_
  rintro e w5 ⟨rfl, rfl⟩
  obtain ⟨x0, x1, x2, x3, x4⟩ := HX5.out.cells
  go_wp2_with fail
  refine (HG.out _ HB0.out).mono ?_
  rintro e w6 ⟨a6, n6, c6, rfl, hb6⟩
  have HBX : Hid (Box3 (w6.alloc (.cells #[.bool X.v, .int .u64 X.hi, .int .u64 X.lo] 24)) w6.heap.size X) := Box3.new w6 X
  replace HX5 := Lib.hid ((HX5.out.below hb6).below (bal (Below.refl _ _) (.cells #[.bool X.v, .int .u64 X.hi, .int .u64 X.lo] 24)))
  replace HB0 := Lib.hid (bal (btr HB0.out hb6) (.cells #[.bool X.v, .int .u64 X.hi, .int .u64 X.lo] 24))
  clear hb6 x0 x1 x2 x3 x4 HG HWh HWb HCk HAb HBe
  obtain ⟨xb, hxb⟩ : ∃ xb, xb = w6.heap.size := ⟨_, rfl⟩
  go_upto_region 8 with fail
  rw [← hxb] at HBX ⊢
  generalize w6.alloc (.cells #[.bool X.v, .int .u64 X.hi, .int .u64 X.lo] 24) = w7 at *
  clear hxb
  obtain ⟨x0, x1, x2, x3, x4⟩ := HX5.out.cells
  have HQ := Lib.hid (show ((w7.cell? ⟨w.heap.size, 0, none⟩ = some (.bool p.v) ∧ w7.cell? ⟨w.heap.size, 1, none⟩ = some (.int .u64 p.hi) ∧ w7.cell? ⟨w.heap.size, 2, none⟩ = some (.int .u64 p.lo) ∧ w7.cell? ⟨w.heap.size, 3, none⟩ = some (.int .i64 p.b) ∧ w.heap.size < w7.heap.size) ∧ Below w7.heap.size w7 w7) from ⟨⟨x0, x1, x2, x3, HX5.out.lt⟩, Below.refl _ _⟩)
  clear x0 x1 x2 x3 x4
  have HS0 := Lib.hid (keepQ HQ.out (Below.refl w7.heap.size w7).drew)
  have HS1 := Lib.hid (keepQ HQ.out ((Below.refl w7.heap.size w7).alloc (Nat.le_refl _) (.cells #[.bool false, .int .u64 0, .int .u64 0] 24)).drew)
  have HS2 := Lib.hid (keepQ HQ.out (((Below.refl w7.heap.size w7).alloc (Nat.le_refl _) (.cells #[.bool false, .int .u64 0, .int .u64 0] 24)).alloc (by simp) (.cells #[.bool false, .int .u64 0, .int .u64 0] 24)).drew)
  have HZ1 : Hid (Box3 (w7.alloc (.cells #[.bool false, .int .u64 0, .int .u64 0] 24)).drew w7.heap.size zeroAd) := Box3.new w7 zeroAd
  have HZ2 : Hid (Box3 ((w7.alloc (.cells #[.bool false, .int .u64 0, .int .u64 0] 24)).alloc (.cells #[.bool false, .int .u64 0, .int .u64 0] 24)).drew w7.heap.size zeroAd) := by
    have h : Box3 ((w7.alloc (.cells #[.bool false, .int .u64 0, .int .u64 0] 24)).alloc (.cells #[.bool false, .int .u64 0, .int .u64 0] 24)) w7.heap.size zeroAd := (show Box3 (w7.alloc (.cells #[.bool false, .int .u64 0, .int .u64 0] 24)) w7.heap.size zeroAd from Box3.new w7 zeroAd).below (bal (Below.refl _ _) (.cells #[.bool false, .int .u64 0, .int .u64 0] 24))
    exact h
  have HZ3 : Hid (Box3 ((w7.alloc (.cells #[.bool false, .int .u64 0, .int .u64 0] 24)).alloc (.cells #[.bool false, .int .u64 0, .int .u64 0] 24)).drew (w7.heap.size + 1) zeroAd) := by
    have := Box3.new (w7.alloc (.cells #[.bool false, .int .u64 0, .int .u64 0] 24)) zeroAd
    rw [World.size_alloc] at this
    exact this
  have H0 : Hid (Below w7.heap.size w7 w7.drew) := HS0.out.2
  have H1 : Hid (Below w7.heap.size w7 (w7.alloc (.cells #[.bool false, .int .u64 0, .int .u64 0] 24)).drew) := HS1.out.2
  have H2 : Hid (Below w7.heap.size w7 ((w7.alloc (.cells #[.bool false, .int .u64 0, .int .u64 0] 24)).alloc (.cells #[.bool false, .int .u64 0, .int .u64 0] 24)).drew) := HS2.out.2
  have Hz1 : Hid (w7.heap.size < ((w7.alloc (.cells #[.bool false, .int .u64 0, .int .u64 0] 24)).drew).heap.size) := HZ1.out.lt
  have Hz2 : Hid (w7.heap.size + 1 < (((w7.alloc (.cells #[.bool false, .int .u64 0, .int .u64 0] 24)).alloc (.cells #[.bool false, .int .u64 0, .int .u64 0] 24)).drew).heap.size) := HZ3.out.lt
  go_cut [12, 13] from 57 (fun s12 s13 wc => ∃ pb qb : Nat, s12 = .pointer (some ⟨pb, 0, none⟩) ∧ s13 = .pointer (some ⟨qb, 0, none⟩) ∧ Hid (LfOn w7 wc pb qb p L))
  case first =>
    go_wp2_with fail
    go_region_held3 (fun w' => ((w'.cell? ⟨w.heap.size, 0, none⟩ = some (.bool p.v) ∧ w'.cell? ⟨w.heap.size, 1, none⟩ = some (.int .u64 p.hi) ∧ w'.cell? ⟨w.heap.size, 2, none⟩ = some (.int .u64 p.lo) ∧ w'.cell? ⟨w.heap.size, 3, none⟩ = some (.int .i64 p.b) ∧ w.heap.size < w7.heap.size) ∧ Below w7.heap.size w7 w'))
      (first | with_reducible exact HS0.out | with_reducible exact HS1.out | with_reducible exact HS2.out | with_reducible exact T0.out | with_reducible exact T1.out | with_reducible exact T2.out | with_reducible exact T3.out | with_reducible exact T4.out | with_reducible exact T5.out | with_reducible exact T6.out | with_reducible exact T7.out | with_reducible exact T8.out | with_reducible exact T9.out | with_reducible exact TL.out | with_reducible exact V1.out | with_reducible exact V1L.out | with_reducible exact U1.out | with_reducible exact U2.out | with_reducible exact U3.out | with_reducible exact U4.out | with_reducible exact V2.out | with_reducible exact V3.out | with_reducible exact V4.out | fail)
      (first
        | (go_at_call 13; (with_reducible refine (HLa.out w7.drew).mono ?_); rintro e wx ⟨rfl, hb⟩; obtain ⟨T0, T1, T2, T3, T4, T5, T6, T7, T8, T9, TL, R1, R2⟩ := lf_p0 (L := L) HA.out HQ.out (H0.out.trans hb); clear hb)
        | (go_at_call 13; (with_reducible refine (HLa.out (w7.alloc (.cells #[.bool false, .int .u64 0, .int .u64 0] 24)).drew).mono ?_); rintro e wx ⟨rfl, hb⟩; have HZx := Lib.hid (HZ1.out.below hb); obtain ⟨T0, T1, T3, TL, V1, V1L, U1, U2, U3, U4, R1, R2⟩ := lf_p1 (L := L) HA.out HQ.out (H1.out.trans (hb.mono (Nat.le_of_lt Hz1.out))) (Nat.lt_of_lt_of_le Hz1.out hb.size) HZx.out; obtain ⟨⟨z0, z1, z2⟩, f0, f1, f2⟩ := HZx.out.cells; simp only [zeroAd] at z0 z1 z2; have hs7 := HZx.out.lt; clear hb)
        | (go_at_call 13; (with_reducible refine (HLa.out ((w7.alloc (.cells #[.bool false, .int .u64 0, .int .u64 0] 24)).alloc (.cells #[.bool false, .int .u64 0, .int .u64 0] 24)).drew).mono ?_); rintro e wx ⟨rfl, hb⟩; have HZx := Lib.hid (HZ2.out.below hb); have HZy := Lib.hid (HZ3.out.below hb); obtain ⟨T0, V1, V3, V2, V4, R1, R2⟩ := lf_p2 (L := L) HA.out HQ.out (H2.out.trans (hb.mono (Nat.le_of_lt (Nat.lt_of_succ_lt Hz2.out)))) HZx.out HZy.out; obtain ⟨⟨z0, z1, z2⟩, f0, f1, f2⟩ := HZx.out.cells; obtain ⟨⟨z3, z4, z5⟩, f3, f4, f5⟩ := HZy.out.cells; simp only [zeroAd] at z0 z1 z2 z3 z4 z5; have hs7 := HZx.out.lt; have hs8 := HZy.out.lt; clear hb))
    all_goals (go_wp2_with fail)
    all_goals go_meet
    all_goals (first | with_reducible exact ⟨_, _, rfl, rfl, R1⟩ | with_reducible exact ⟨_, _, rfl, rfl, R2⟩)
  case rest =>
    clear HS0 HS1 HS2 HZ1 HZ2 HZ3 H0 H1 H2 Hz1 Hz2 HQ
    obtain ⟨pb, qb, rfl, rfl, hon⟩ := hcut
    obtain ⟨hA0, hLq, hne, hp7, hq7, hbw⟩ := hon.out
    have hw7 : w.heap.size < w7.heap.size := HX5.out.lt
    have hx7 : xb < w7.heap.size := HBX.out.lt
    have HAt : Hid (LfAt w wc pb qb xb p (.slice ka KN kc) L X 0) := ⟨hA0, hLq, HBX.out.below hbw, HX5.out.below hbw, btr HB0.out hbw⟩
    have hnx : pb ≠ xb := by omega
    have hwp : w.heap.size < pb := by omega
    clear hon hA0 hLq hbw HBX HX5 HB0 HLa HA hp7 hq7 hw7 hx7
    go_wp2_with fail
    go_loopw [14] (fun vn wr => ∃ n : Nat, vn = .int .i64 n ∧ n ≤ K ∧ n < p.many ∧ Hid (LfAt w wr pb qb xb p (.slice ka KN kc) L X n)) (fun vn _ => 16 - (intOf vn).toNat)
    case atStart => exact ⟨0, rfl, Nat.zero_le _, many_pos p, HAt⟩
    case round =>
      clear HAt
      obtain ⟨n, rfl, hnK, hnm, HA⟩ := hrel
      have hn16 : n < 16 := by omega
      have hnz : (n : Int) < 16 := by omega
      obtain ⟨A, hA⟩ : ∃ A, A = adK p n := ⟨_, rfl⟩
      have HEA := Lib.hid hA
      obtain ⟨wo, hwo⟩ : ∃ wo, wo = wr := ⟨_, rfl⟩
      subst hwo
      obtain ⟨⟨a0, a1, a2⟩, _⟩ := HA.out.a.cells
      obtain ⟨⟨b0, b1, b2⟩, _⟩ := HA.out.x.cells
      rw [← hA] at a0 a1 a2
      by_cases hnk : n = K
      · have hAX : A = X := by rw [hA, HXe.out, hnk]
        rw [hAX] at a0 a1 a2
        have hEq := fun W => eqA_self W X
        go_wp2_with fail
        go_ret
        exact ⟨rfl, HA.out.low⟩
      · have hnlt : n < K := by omega
        have hEq := fun W => eql_ad W A X
        have hAX : eqAd A X = false := by rw [hA, HXe.out]; exact adK_eq r hnm hK hnk
        rw [hAX] at hEq
        obtain ⟨F, hF⟩ : ∃ F : Ls → Bool, F = fun y => eqAd y.a A && decide (now ≤ y.un) := ⟨_, rfl⟩
        obtain ⟨G, hG⟩ : ∃ G : Ad → Bool, G = fun y => eqAd y A := ⟨_, rfl⟩
        have HBusy : Hid ((l.any F || kept.any G) = true) := by
          rw [Hid, hF, hG, hA]
          exact busy_any kept l now (adK p n) (HFr.out n hnlt)
        have HF := Lib.hid hF
        have HGd := Lib.hid hG
        clear hF hG hA
        go_wp2_with fail
        clear a0 a1 a2 b0 b1 b2
        go_loopw [15, 16] (fun vb vj wr => ∃ j : Nat, vb = .bool ((l.take j).any F) ∧ vj = .int .i64 j ∧ j ≤ N ∧ Hid (Below wo.heap.size wo wr)) (fun _ vj _ => N - (intOf vj).toNat)
        case atStart => exact ⟨0, rfl, rfl, Nat.zero_le _, Below.refl _ _⟩
        case round =>
          obtain ⟨j, rfl, rfl, hj, HBj⟩ := hrel
          by_cases hjN : j < N
          · have hjl : j < l.length := by have := HN.out; omega
            obtain ⟨g, o, rfl, hg', c0, c1, c2, c3, c4⟩ := (HSe.out.below (btr HA.out.low HBj.out)).ls j hjl
            obtain ⟨⟨a0, a1, a2⟩, _⟩ := (HA.out.a.below HBj.out).cells
            rw [← HEA.out] at a0 a1 a2
            have HAny := Lib.hid (take_any F l j hjl)
            obtain ⟨y, hy⟩ : ∃ y, y = l[j] := ⟨_, rfl⟩
            rw [← hy] at c0 c1 c2 c3 c4 HAny
            have HFy : Hid (F y = (eqAd y.a A && decide (now ≤ y.un))) := by rw [HF.out]; exact rfl
            have hE := fun W => eql_ad W y.a A
            have HSd := Lib.hid (keep9 (W := wr) ⟨⟨c0, c1, c2, c4⟩, a0, a1, a2⟩ rfl)
            have HBd := Lib.hid HBj.out.drew
            have hjz : (j : Int) < (N : Int) := by omega
            have hj0 : (0 : Int) ≤ (j : Int) := by omega
            have HCf := Lib.hid (And.intro c0 (And.intro c1 (And.intro c2 (And.intro c4 (And.intro a0 (And.intro a1 a2))))))
            clear hy hg' c0 c1 c2 c3 c4 a0 a1 a2
            generalize (l.take j).any F = b at *
            generalize eqAd y.a A = b1 at *
            cases b
            · cases b1
              · obtain ⟨c0, c1, c2, c4, a0, a1, a2⟩ := HCf.out
                clear HSd
                go_wp2_with fail
                go_region
                go_wp2_with fail
                go_roundw
                case rel => exact ⟨j + 1, by rw [HAny.out, HFy.out]; rfl, by go_num, by omega, HBd⟩
                case measure => simp [intOf]; omega
              · cases hb2 : decide (now ≤ y.un)
                · rw [hb2] at HFy
                  go_wp2_with fail
                  go_region_held3 (fun w' => (w'.cell? ⟨g, o + j * 5, none⟩ = some (.bool y.a.v) ∧ w'.cell? ⟨g, o + j * 5 + 1, none⟩ = some (.int .u64 y.a.hi) ∧ w'.cell? ⟨g, o + j * 5 + 2, none⟩ = some (.int .u64 y.a.lo) ∧ w'.cell? ⟨g, o + j * 5 + 4, none⟩ = some (.int .i64 y.un)) ∧ (w'.cell? ⟨pb, 0, none⟩ = some (.bool A.v) ∧ w'.cell? ⟨pb, 1, none⟩ = some (.int .u64 A.hi) ∧ w'.cell? ⟨pb, 2, none⟩ = some (.int .u64 A.lo)))
                    (first | with_reducible exact HSd.out | fail) (fail)
                  go_wp2_with fail
                  go_roundw
                  case rel => exact ⟨j + 1, by rw [HAny.out, HFy.out]; rfl, by go_num, by omega, HBd⟩
                  case measure => simp [intOf]; omega
                · rw [hb2] at HFy
                  go_wp2_with fail
                  go_region_held3 (fun w' => (w'.cell? ⟨g, o + j * 5, none⟩ = some (.bool y.a.v) ∧ w'.cell? ⟨g, o + j * 5 + 1, none⟩ = some (.int .u64 y.a.hi) ∧ w'.cell? ⟨g, o + j * 5 + 2, none⟩ = some (.int .u64 y.a.lo) ∧ w'.cell? ⟨g, o + j * 5 + 4, none⟩ = some (.int .i64 y.un)) ∧ (w'.cell? ⟨pb, 0, none⟩ = some (.bool A.v) ∧ w'.cell? ⟨pb, 1, none⟩ = some (.int .u64 A.hi) ∧ w'.cell? ⟨pb, 2, none⟩ = some (.int .u64 A.lo)))
                    (first | with_reducible exact HSd.out | fail) (fail)
                  go_wp2_with fail
                  go_roundw
                  case rel => exact ⟨j + 1, by rw [HAny.out, HFy.out]; rfl, by go_num, by omega, HBd⟩
                  case measure => simp [intOf]; omega
            · have HFy2 : Hid (true || F y) := by rw [Hid]; rfl
              clear HSd
              go_wp2_with fail
              go_region
              go_wp2_with fail
              go_roundw
              case rel => exact ⟨j + 1, by rw [HAny.out]; rfl, by go_num, by omega, HBd⟩
              case measure => simp [intOf]; omega
          · have ejN : N = j := by omega
            subst ejN
            have hkk : ¬ (N : Int) < (N : Int) := by omega
            have hT : l.take N = l := List.take_of_length_le (by have := HN.out; omega)
            rw [hT]
            obtain ⟨wp, hwp'⟩ : ∃ wp, wp = wr := ⟨_, rfl⟩
            subst hwp'
            have HAp0 := Lib.hid (HA.out.below HBj.out)
            clear HA HBj hT
            go_wp2_with fail
            go_loopw [15, 17] (fun vb vj wr => ∃ j : Nat, vb = .bool (l.any F || (kept.take j).any G) ∧ vj = .int .i64 j ∧ j ≤ KN ∧ Hid (Below wp.heap.size wp wr)) (fun _ vj _ => KN - (intOf vj).toNat)
            case atStart => exact ⟨0, by simp, rfl, Nat.zero_le _, Below.refl _ _⟩
            case round =>
              obtain ⟨j, rfl, rfl, hj, HBj⟩ := hrel
              have HAp := Lib.hid (HAp0.out.below HBj.out)
              obtain ⟨x0, x1, x2, x3, x4⟩ := HAp.out.p5.cells
              by_cases hjN : j < KN
              · have hjl : j < kept.length := by have := HKN.out; omega
                obtain ⟨g, o, rfl, hg', c0, c1, c2⟩ := (HKe.out.below HAp.out.low).ad j hjl
                obtain ⟨⟨a0, a1, a2⟩, _⟩ := HAp.out.a.cells
                rw [← HEA.out] at a0 a1 a2
                have HAny := Lib.hid (take_any G kept j hjl)
                obtain ⟨y, hy⟩ : ∃ y, y = kept[j] := ⟨_, rfl⟩
                rw [← hy] at c0 c1 c2 HAny
                have hE := fun W => eql_ad W y A
                have HSd := Lib.hid (keep6 (W := wr) ⟨⟨c0, c1, c2⟩, ⟨a0, a1, a2⟩, x4⟩ rfl)
                have HBd := Lib.hid HBj.out.drew
                have hjz : (j : Int) < (KN : Int) := by omega
                have hj0 : (0 : Int) ≤ (j : Int) := by omega
                have hGy : G y = eqAd y A := by rw [HGd.out]
                rw [hGy] at HAny
                obtain ⟨b, hb⟩ : ∃ b, b = (l.any F || (kept.take j).any G) := ⟨_, rfl⟩
                rw [← hb]
                have Hb : Hid ((l.any F || (kept.take j).any G) = b) := hb.symm
                clear hy hg' c0 c1 c2 a0 a1 a2 hb hGy
                generalize eqAd y A = b1 at *
                cases b
                · cases b1
                  · go_wp2_with fail
                    go_region_held3 (fun w' => (w'.cell? ⟨g, o + j * 3, none⟩ = some (.bool y.v) ∧ w'.cell? ⟨g, o + j * 3 + 1, none⟩ = some (.int .u64 y.hi) ∧ w'.cell? ⟨g, o + j * 3 + 2, none⟩ = some (.int .u64 y.lo)) ∧ (w'.cell? ⟨pb, 0, none⟩ = some (.bool A.v) ∧ w'.cell? ⟨pb, 1, none⟩ = some (.int .u64 A.hi) ∧ w'.cell? ⟨pb, 2, none⟩ = some (.int .u64 A.lo)) ∧ w'.cell? ⟨w.heap.size, 4, none⟩ = some (.slice (some ⟨g, o, none⟩) KN kc))
                      (first | with_reducible exact HSd.out | fail) (fail)
                    go_wp2_with fail
                    go_roundw
                    case rel => exact ⟨j + 1, by rw [HAny.out, ← Bool.or_assoc, Hb.out]; rfl, by go_num, by omega, HBd⟩
                    case measure => simp [intOf]; omega
                  · go_wp2_with fail
                    go_region_held3 (fun w' => (w'.cell? ⟨g, o + j * 3, none⟩ = some (.bool y.v) ∧ w'.cell? ⟨g, o + j * 3 + 1, none⟩ = some (.int .u64 y.hi) ∧ w'.cell? ⟨g, o + j * 3 + 2, none⟩ = some (.int .u64 y.lo)) ∧ (w'.cell? ⟨pb, 0, none⟩ = some (.bool A.v) ∧ w'.cell? ⟨pb, 1, none⟩ = some (.int .u64 A.hi) ∧ w'.cell? ⟨pb, 2, none⟩ = some (.int .u64 A.lo)) ∧ w'.cell? ⟨w.heap.size, 4, none⟩ = some (.slice (some ⟨g, o, none⟩) KN kc))
                      (first | with_reducible exact HSd.out | fail) (fail)
                    go_wp2_with fail
                    go_roundw
                    case rel => exact ⟨j + 1, by rw [HAny.out, ← Bool.or_assoc, Hb.out]; rfl, by go_num, by omega, HBd⟩
                    case measure => simp [intOf]; omega
                · clear HSd
                  go_wp2_with fail
                  go_region
                  go_wp2_with fail
                  go_roundw
                  case rel => exact ⟨j + 1, by rw [HAny.out, ← Bool.or_assoc, Hb.out]; rfl, by go_num, by omega, HBd⟩
                  case measure => simp [intOf]; omega
              · have ejN : KN = j := by omega
                subst ejN
                have hkk2 : ¬ (KN : Int) < (KN : Int) := by omega
                have hT : kept.take KN = kept := List.take_of_length_le (by have := HKN.out; omega)
                rw [hT, HBusy.out]
                clear HAp0 HBj hT HBusy HF HGd
                obtain ⟨⟨a0, a1, a2⟩, _⟩ := HAp.out.a.cells
                obtain ⟨⟨l0, l1, l2⟩, _⟩ := HAp.out.l.cells
                rw [← HEA.out] at a0 a1 a2
                have hE := fun W => eql_ad W A L
                have hne2 : eqAd A L = false := by rw [HEA.out, HL.out]; exact adK_eq r hnm (by omega) (by omega)
                rw [hne2] at hE
                have hn1 : n + 1 < p.many := by omega
                have HNx := Lib.hid (next_adK r hn1 wr)
                rw [← HEA.out] at HNx
                obtain ⟨A', hA'⟩ : ∃ A', A' = adK p (n + 1) := ⟨_, rfl⟩
                rw [← hA'] at HNx
                have HEA' := Lib.hid hA'
                clear hA'
                go_wp2_with fail
                refine HNx.out.mono ?_
                rintro e wy ⟨rfl, hby⟩
                have hAt := HAp.out.below hby
                have hnxt := hAt.next hne hnx hwp
                obtain ⟨⟨q0, q1, q2⟩, f0, f1, f2⟩ := hAt.a.cells
                obtain ⟨⟨n0, n1, n2⟩, _⟩ := (Box3.new wy A').cells
                have hplt : pb < wy.heap.size := hAt.a.lt
                rw [← HEA'.out] at hnxt
                have HG' := Lib.hid (hnxt.below (bal (Below.refl _ _) (.cells #[.bool A'.v, .int .u64 A'.hi, .int .u64 A'.lo] 24)))
                clear hAt hnxt hby HNx
                go_wp2_with fail
                go_roundw
                case rel => exact ⟨n + 1, by go_num, by omega, by omega, HG'⟩
                case measure => simp [intOf]; omega
set_option maxHeartbeats 32000000 in
set_option maxRecDepth 100000 in
theorem lf_full (p : Pf) (hp : p.Ok) (ka : Option Addr) (kc : Nat) (kept : List Ad) (a : Option Addr) (c : Nat) (l : List Ls) (who : ByteArray) (now : Int) (w : World) (hg : Good w) (hk : Lies adE w ka kept) (hs : Lies lsE w a l) (hwho : who.size ≤ maxLen) (r : p.R) (hwd : wideB p.v p.b = false) (hv : checkE p kept l now = 0) (hwb : whoB who = true) (hf : l.findIdx? (Ls.hasWho who) = none) (K : Nat) (hK : K = p.many) (hgo : gOut p kept l who now 1 = (8, [], zeroAd)) (hfr : ∀ j, j < K → freeA kept (live l now) (adK p j) = false) :
    Calls Tryz.prog 4 #[.agg #[.bool p.v, .int .u64 p.hi, .int .u64 p.lo, .int .i64 p.b, .slice ka kept.length kc], .slice a l.length c, .string who, .int .i64 now] w fun e w' => e = .returned (.bool true) ∧ Below w.heap.size w w' := by
  have HBe : Hid (∀ W, Calls Tryz.prog 5 #[] W fun e w' => e = .returned (.bool true) ∧ Below W.heap.size W w') := lbegun_any
  have HAb : Hid (∀ W, Below w.heap.size w W → Calls Tryz.prog 11 #[] W fun e w' => e = .returned (.bool true) ∧ Below W.heap.size W w') := fun W hb => begun_any W (hg.below hb)
  have HCk : Hid (∀ W, Below w.heap.size w W → Calls Tryz.prog 8 #[.agg #[.bool p.v, .int .u64 p.hi, .int .u64 p.lo, .int .i64 p.b, .slice ka kept.length kc], .slice a l.length c, .int .i64 now] W fun e w' => e = .returned (.int .i64 (checkE p kept l now)) ∧ Below W.heap.size W w') := fun W hb => check_ls p hp ka kc kept a c l now W (hk.below hb) (hs.below hb)
  have HWb : Hid (∀ W, Calls Tryz.prog 12 #[.string who] W fun e w' => e = .returned (.bool (whoB who)) ∧ w' = W) := fun W => rwho_any who W hwho
  have HX5 : Hid (Box5 (w.alloc (.cells #[.bool p.v, .int .u64 p.hi, .int .u64 p.lo, .int .i64 p.b, .slice ka kept.length kc] 29)) w.heap.size p (.slice ka kept.length kc)) := Box5.new w p _
  have HB0 := Lib.hid (bal (Below.refl w.heap.size w) (.cells #[.bool p.v, .int .u64 p.hi, .int .u64 p.lo, .int .i64 p.b, .slice ka kept.length kc] 29))
  have hl20 := lookL_len20 (check_zero hv).2.1
  have hkl := (pool_zero (check_zero hv).1).2.2.1
  have HWh : Hid (∀ W, Below w.heap.size w W → Calls Tryz.prog 10 #[.slice a l.length c, .string who] W fun e w' => e = .returned (.int .i64 (-1)) ∧ w' = W) := fun W hb => by
    have := whoAt_any a c l who W (by omega) (hs.below hb)
    rw [hf] at this
    exact this
  have HG : Hid (∀ W, Below w.heap.size w W → Calls Tryz.prog 7 #[.agg #[.bool p.v, .int .u64 p.hi, .int .u64 p.lo, .int .i64 p.b, .slice ka kept.length kc], .slice a l.length c, .string who, .int .i64 now, .int .i64 1] W fun e w' => ∃ a4 n4 c4, e = .returned (.tuple #[.slice a4 n4 c4, .agg #[.bool false, .int .u64 0, .int .u64 0], .int .i64 8]) ∧ Below W.heap.size W w') := fun W hb => by
    have := lgrant_any p hp ka kc kept a c l who now 1 W (hk.below hb) (hs.below hb)
    rw [hgo] at this
    exact this.mono fun e w' ⟨a4, c4, h1, h2, h3⟩ => ⟨a4, _, c4, h1, h3⟩
  obtain ⟨L, hL⟩ : ∃ L, L = adK p (p.many - 1) := ⟨_, rfl⟩
  have HLa : Hid (∀ W, Calls Tryz.prog 13 #[.agg #[.bool p.v, .int .u64 p.hi, .int .u64 p.lo, .int .i64 p.b]] W fun e w' => e = .returned (.agg #[.bool L.v, .int .u64 L.hi, .int .u64 L.lo]) ∧ Below W.heap.size W w') := fun W => by rw [hL]; exact lastOf_pf r W
  have HL := Lib.hid hL
  have HFr := Lib.hid hfr
  have hmany := many_narrow r hwd
  have HA : Hid (p.v = (adK p 0).v ∧ p.hi = (adK p 0).hi ∧ p.lo = (adK p 0).lo) := by
    have h := first_ad r
    have e : adK p 0 = adOf p.v p.n := by unfold adK; simp
    rw [Hid, e]
    exact ⟨h.1.symm, h.2.1.symm, h.2.2.symm⟩
  have HKe := Lib.hid hk
  have HSe := Lib.hid hs
  rw [hv] at HCk
  rw [hwb] at HWb
  obtain ⟨KN, hKN⟩ : ∃ KN, KN = kept.length := ⟨_, rfl⟩
  rw [← hKN] at HCk HX5 HB0 HG hkl ⊢
  obtain ⟨N, hN⟩ : ∃ N, N = l.length := ⟨_, rfl⟩
  rw [← hN] at HCk HWh HG hl20 ⊢
  have HKN := Lib.hid hKN
  have HN := Lib.hid hN
  clear hg hk hs hwho hv hwb hKN hN hf hgo hL hfr hwd
  go_enter Tryz.func4, Tryz.ntmps4
  go_wp2_with fail
  refine (HBe.out _).mono ?_
  rintro e w1 ⟨rfl, hb1⟩
  replace HX5 := Lib.hid (HX5.out.below hb1)
  replace HB0 := Lib.hid (btr HB0.out hb1)
  clear hb1
  go_wp2_with fail
  refine (HAb.out _ HB0.out).mono ?_
  rintro e w2 ⟨rfl, hb2⟩
  replace HX5 := Lib.hid (HX5.out.below hb2)
  replace HB0 := Lib.hid (btr HB0.out hb2)
  clear hb2
  obtain ⟨x0, x1, x2, x3, x4⟩ := HX5.out.cells
  go_wp2_with fail
  refine (HCk.out _ HB0.out).mono ?_
  rintro e w3 ⟨rfl, hb3⟩
  replace HX5 := Lib.hid (HX5.out.below hb3)
  replace HB0 := Lib.hid (btr HB0.out hb3)
  clear hb3 x0 x1 x2 x3 x4
  go_wp2_with fail
  refine (HWb.out _).mono ?_
  rintro e w4 ⟨rfl, rfl⟩
  go_wp2_with fail
  refine (HWh.out _ HB0.out).mono ?_
  rintro e w5 ⟨rfl, rfl⟩
  obtain ⟨x0, x1, x2, x3, x4⟩ := HX5.out.cells
  go_wp2_with fail
  refine (HG.out _ HB0.out).mono ?_
  rintro e w6 ⟨a6, n6, c6, rfl, hb6⟩
  have HBX : Hid (Box3 (w6.alloc (.cells #[.bool false, .int .u64 0, .int .u64 0] 24)) w6.heap.size zeroAd) := Box3.new w6 zeroAd
  replace HX5 := Lib.hid ((HX5.out.below hb6).below (bal (Below.refl _ _) (.cells #[.bool false, .int .u64 0, .int .u64 0] 24)))
  replace HB0 := Lib.hid (bal (btr HB0.out hb6) (.cells #[.bool false, .int .u64 0, .int .u64 0] 24))
  clear hb6 x0 x1 x2 x3 x4 HG HWh HWb HCk HAb HBe
  obtain ⟨xb, hxb⟩ : ∃ xb, xb = w6.heap.size := ⟨_, rfl⟩
  go_upto_region 8 with fail
  rw [← hxb] at HBX ⊢
  generalize w6.alloc (.cells #[.bool false, .int .u64 0, .int .u64 0] 24) = w7 at *
  clear hxb
  obtain ⟨x0, x1, x2, x3, x4⟩ := HX5.out.cells
  have HQ := Lib.hid (show ((w7.cell? ⟨w.heap.size, 0, none⟩ = some (.bool p.v) ∧ w7.cell? ⟨w.heap.size, 1, none⟩ = some (.int .u64 p.hi) ∧ w7.cell? ⟨w.heap.size, 2, none⟩ = some (.int .u64 p.lo) ∧ w7.cell? ⟨w.heap.size, 3, none⟩ = some (.int .i64 p.b) ∧ w.heap.size < w7.heap.size) ∧ Below w7.heap.size w7 w7) from ⟨⟨x0, x1, x2, x3, HX5.out.lt⟩, Below.refl _ _⟩)
  clear x0 x1 x2 x3 x4
  have HS0 := Lib.hid (keepQ HQ.out (Below.refl w7.heap.size w7).drew)
  have HS1 := Lib.hid (keepQ HQ.out ((Below.refl w7.heap.size w7).alloc (Nat.le_refl _) (.cells #[.bool false, .int .u64 0, .int .u64 0] 24)).drew)
  have HS2 := Lib.hid (keepQ HQ.out (((Below.refl w7.heap.size w7).alloc (Nat.le_refl _) (.cells #[.bool false, .int .u64 0, .int .u64 0] 24)).alloc (by simp) (.cells #[.bool false, .int .u64 0, .int .u64 0] 24)).drew)
  have HZ1 : Hid (Box3 (w7.alloc (.cells #[.bool false, .int .u64 0, .int .u64 0] 24)).drew w7.heap.size zeroAd) := Box3.new w7 zeroAd
  have HZ2 : Hid (Box3 ((w7.alloc (.cells #[.bool false, .int .u64 0, .int .u64 0] 24)).alloc (.cells #[.bool false, .int .u64 0, .int .u64 0] 24)).drew w7.heap.size zeroAd) := by
    have h : Box3 ((w7.alloc (.cells #[.bool false, .int .u64 0, .int .u64 0] 24)).alloc (.cells #[.bool false, .int .u64 0, .int .u64 0] 24)) w7.heap.size zeroAd := (show Box3 (w7.alloc (.cells #[.bool false, .int .u64 0, .int .u64 0] 24)) w7.heap.size zeroAd from Box3.new w7 zeroAd).below (bal (Below.refl _ _) (.cells #[.bool false, .int .u64 0, .int .u64 0] 24))
    exact h
  have HZ3 : Hid (Box3 ((w7.alloc (.cells #[.bool false, .int .u64 0, .int .u64 0] 24)).alloc (.cells #[.bool false, .int .u64 0, .int .u64 0] 24)).drew (w7.heap.size + 1) zeroAd) := by
    have := Box3.new (w7.alloc (.cells #[.bool false, .int .u64 0, .int .u64 0] 24)) zeroAd
    rw [World.size_alloc] at this
    exact this
  have H0 : Hid (Below w7.heap.size w7 w7.drew) := HS0.out.2
  have H1 : Hid (Below w7.heap.size w7 (w7.alloc (.cells #[.bool false, .int .u64 0, .int .u64 0] 24)).drew) := HS1.out.2
  have H2 : Hid (Below w7.heap.size w7 ((w7.alloc (.cells #[.bool false, .int .u64 0, .int .u64 0] 24)).alloc (.cells #[.bool false, .int .u64 0, .int .u64 0] 24)).drew) := HS2.out.2
  have Hz1 : Hid (w7.heap.size < ((w7.alloc (.cells #[.bool false, .int .u64 0, .int .u64 0] 24)).drew).heap.size) := HZ1.out.lt
  have Hz2 : Hid (w7.heap.size + 1 < (((w7.alloc (.cells #[.bool false, .int .u64 0, .int .u64 0] 24)).alloc (.cells #[.bool false, .int .u64 0, .int .u64 0] 24)).drew).heap.size) := HZ3.out.lt
  go_cut [12, 13] from 57 (fun s12 s13 wc => ∃ pb qb : Nat, s12 = .pointer (some ⟨pb, 0, none⟩) ∧ s13 = .pointer (some ⟨qb, 0, none⟩) ∧ Hid (LfOn w7 wc pb qb p L))
  case first =>
    go_wp2_with fail
    go_region_held3 (fun w' => ((w'.cell? ⟨w.heap.size, 0, none⟩ = some (.bool p.v) ∧ w'.cell? ⟨w.heap.size, 1, none⟩ = some (.int .u64 p.hi) ∧ w'.cell? ⟨w.heap.size, 2, none⟩ = some (.int .u64 p.lo) ∧ w'.cell? ⟨w.heap.size, 3, none⟩ = some (.int .i64 p.b) ∧ w.heap.size < w7.heap.size) ∧ Below w7.heap.size w7 w'))
      (first | with_reducible exact HS0.out | with_reducible exact HS1.out | with_reducible exact HS2.out | with_reducible exact T0.out | with_reducible exact T1.out | with_reducible exact T2.out | with_reducible exact T3.out | with_reducible exact T4.out | with_reducible exact T5.out | with_reducible exact T6.out | with_reducible exact T7.out | with_reducible exact T8.out | with_reducible exact T9.out | with_reducible exact TL.out | with_reducible exact V1.out | with_reducible exact V1L.out | with_reducible exact U1.out | with_reducible exact U2.out | with_reducible exact U3.out | with_reducible exact U4.out | with_reducible exact V2.out | with_reducible exact V3.out | with_reducible exact V4.out | fail)
      (first
        | (go_at_call 13; (with_reducible refine (HLa.out w7.drew).mono ?_); rintro e wx ⟨rfl, hb⟩; obtain ⟨T0, T1, T2, T3, T4, T5, T6, T7, T8, T9, TL, R1, R2⟩ := lf_p0 (L := L) HA.out HQ.out (H0.out.trans hb); clear hb)
        | (go_at_call 13; (with_reducible refine (HLa.out (w7.alloc (.cells #[.bool false, .int .u64 0, .int .u64 0] 24)).drew).mono ?_); rintro e wx ⟨rfl, hb⟩; have HZx := Lib.hid (HZ1.out.below hb); obtain ⟨T0, T1, T3, TL, V1, V1L, U1, U2, U3, U4, R1, R2⟩ := lf_p1 (L := L) HA.out HQ.out (H1.out.trans (hb.mono (Nat.le_of_lt Hz1.out))) (Nat.lt_of_lt_of_le Hz1.out hb.size) HZx.out; obtain ⟨⟨z0, z1, z2⟩, f0, f1, f2⟩ := HZx.out.cells; simp only [zeroAd] at z0 z1 z2; have hs7 := HZx.out.lt; clear hb)
        | (go_at_call 13; (with_reducible refine (HLa.out ((w7.alloc (.cells #[.bool false, .int .u64 0, .int .u64 0] 24)).alloc (.cells #[.bool false, .int .u64 0, .int .u64 0] 24)).drew).mono ?_); rintro e wx ⟨rfl, hb⟩; have HZx := Lib.hid (HZ2.out.below hb); have HZy := Lib.hid (HZ3.out.below hb); obtain ⟨T0, V1, V3, V2, V4, R1, R2⟩ := lf_p2 (L := L) HA.out HQ.out (H2.out.trans (hb.mono (Nat.le_of_lt (Nat.lt_of_succ_lt Hz2.out)))) HZx.out HZy.out; obtain ⟨⟨z0, z1, z2⟩, f0, f1, f2⟩ := HZx.out.cells; obtain ⟨⟨z3, z4, z5⟩, f3, f4, f5⟩ := HZy.out.cells; simp only [zeroAd] at z0 z1 z2 z3 z4 z5; have hs7 := HZx.out.lt; have hs8 := HZy.out.lt; clear hb))
    all_goals (go_wp2_with fail)
    all_goals go_meet
    all_goals (first | with_reducible exact ⟨_, _, rfl, rfl, R1⟩ | with_reducible exact ⟨_, _, rfl, rfl, R2⟩)
  case rest =>
    clear HS0 HS1 HS2 HZ1 HZ2 HZ3 H0 H1 H2 Hz1 Hz2 HQ
    obtain ⟨pb, qb, rfl, rfl, hon⟩ := hcut
    obtain ⟨hA0, hLq, hne, hp7, hq7, hbw⟩ := hon.out
    have hw7 : w.heap.size < w7.heap.size := HX5.out.lt
    have hx7 : xb < w7.heap.size := HBX.out.lt
    have HAt : Hid (LfAt w wc pb qb xb p (.slice ka KN kc) L zeroAd 0) := ⟨hA0, hLq, HBX.out.below hbw, HX5.out.below hbw, btr HB0.out hbw⟩
    have hnx : pb ≠ xb := by omega
    have hwp : w.heap.size < pb := by omega
    clear hon hA0 hLq hbw HBX HX5 HB0 HLa HA hp7 hq7 hw7 hx7
    go_wp2_with fail
    go_loopw [14] (fun vn wr => ∃ n : Nat, vn = .int .i64 n ∧ n ≤ K ∧ n < p.many ∧ Hid (LfAt w wr pb qb xb p (.slice ka KN kc) L zeroAd n)) (fun vn _ => 16 - (intOf vn).toNat)
    case atStart => exact ⟨0, rfl, Nat.zero_le _, many_pos p, HAt⟩
    case round =>
      clear HAt
      obtain ⟨n, rfl, hnK, hnm, HA⟩ := hrel
      have hn16 : n < 16 := by omega
      have hnz : (n : Int) < 16 := by omega
      obtain ⟨A, hA⟩ : ∃ A, A = adK p n := ⟨_, rfl⟩
      have HEA := Lib.hid hA
      obtain ⟨wo, hwo⟩ : ∃ wo, wo = wr := ⟨_, rfl⟩
      subst hwo
      obtain ⟨⟨a0, a1, a2⟩, _⟩ := HA.out.a.cells
      obtain ⟨⟨b0, b1, b2⟩, _⟩ := HA.out.x.cells
      rw [← hA] at a0 a1 a2
      have hnlt : n < K := by omega
      obtain ⟨F, hF⟩ : ∃ F : Ls → Bool, F = fun y => eqAd y.a A && decide (now ≤ y.un) := ⟨_, rfl⟩
      obtain ⟨G, hG⟩ : ∃ G : Ad → Bool, G = fun y => eqAd y A := ⟨_, rfl⟩
      have HBusy : Hid ((l.any F || kept.any G) = true) := by
        rw [Hid, hF, hG, hA]
        exact busy_any kept l now (adK p n) (HFr.out n hnlt)
      have HF := Lib.hid hF
      have HGd := Lib.hid hG
      clear hF hG hA
      go_wp2_with fail
      clear a0 a1 a2 b0 b1 b2
      go_loopw [15, 16] (fun vb vj wr => ∃ j : Nat, vb = .bool ((l.take j).any F) ∧ vj = .int .i64 j ∧ j ≤ N ∧ Hid (Below wo.heap.size wo wr)) (fun _ vj _ => N - (intOf vj).toNat)
      case atStart => exact ⟨0, rfl, rfl, Nat.zero_le _, Below.refl _ _⟩
      case round =>
        obtain ⟨j, rfl, rfl, hj, HBj⟩ := hrel
        by_cases hjN : j < N
        · have hjl : j < l.length := by have := HN.out; omega
          obtain ⟨g, o, rfl, hg', c0, c1, c2, c3, c4⟩ := (HSe.out.below (btr HA.out.low HBj.out)).ls j hjl
          obtain ⟨⟨a0, a1, a2⟩, _⟩ := (HA.out.a.below HBj.out).cells
          rw [← HEA.out] at a0 a1 a2
          have HAny := Lib.hid (take_any F l j hjl)
          obtain ⟨y, hy⟩ : ∃ y, y = l[j] := ⟨_, rfl⟩
          rw [← hy] at c0 c1 c2 c3 c4 HAny
          have HFy : Hid (F y = (eqAd y.a A && decide (now ≤ y.un))) := by rw [HF.out]; exact rfl
          have hE := fun W => eql_ad W y.a A
          have HSd := Lib.hid (keep9 (W := wr) ⟨⟨c0, c1, c2, c4⟩, a0, a1, a2⟩ rfl)
          have HBd := Lib.hid HBj.out.drew
          have hjz : (j : Int) < (N : Int) := by omega
          have hj0 : (0 : Int) ≤ (j : Int) := by omega
          have HCf := Lib.hid (And.intro c0 (And.intro c1 (And.intro c2 (And.intro c4 (And.intro a0 (And.intro a1 a2))))))
          clear hy hg' c0 c1 c2 c3 c4 a0 a1 a2
          generalize (l.take j).any F = b at *
          generalize eqAd y.a A = b1 at *
          cases b
          · cases b1
            · obtain ⟨c0, c1, c2, c4, a0, a1, a2⟩ := HCf.out
              clear HSd
              go_wp2_with fail
              go_region
              go_wp2_with fail
              go_roundw
              case rel => exact ⟨j + 1, by rw [HAny.out, HFy.out]; rfl, by go_num, by omega, HBd⟩
              case measure => simp [intOf]; omega
            · cases hb2 : decide (now ≤ y.un)
              · rw [hb2] at HFy
                go_wp2_with fail
                go_region_held3 (fun w' => (w'.cell? ⟨g, o + j * 5, none⟩ = some (.bool y.a.v) ∧ w'.cell? ⟨g, o + j * 5 + 1, none⟩ = some (.int .u64 y.a.hi) ∧ w'.cell? ⟨g, o + j * 5 + 2, none⟩ = some (.int .u64 y.a.lo) ∧ w'.cell? ⟨g, o + j * 5 + 4, none⟩ = some (.int .i64 y.un)) ∧ (w'.cell? ⟨pb, 0, none⟩ = some (.bool A.v) ∧ w'.cell? ⟨pb, 1, none⟩ = some (.int .u64 A.hi) ∧ w'.cell? ⟨pb, 2, none⟩ = some (.int .u64 A.lo)))
                  (first | with_reducible exact HSd.out | fail) (fail)
                go_wp2_with fail
                go_roundw
                case rel => exact ⟨j + 1, by rw [HAny.out, HFy.out]; rfl, by go_num, by omega, HBd⟩
                case measure => simp [intOf]; omega
              · rw [hb2] at HFy
                go_wp2_with fail
                go_region_held3 (fun w' => (w'.cell? ⟨g, o + j * 5, none⟩ = some (.bool y.a.v) ∧ w'.cell? ⟨g, o + j * 5 + 1, none⟩ = some (.int .u64 y.a.hi) ∧ w'.cell? ⟨g, o + j * 5 + 2, none⟩ = some (.int .u64 y.a.lo) ∧ w'.cell? ⟨g, o + j * 5 + 4, none⟩ = some (.int .i64 y.un)) ∧ (w'.cell? ⟨pb, 0, none⟩ = some (.bool A.v) ∧ w'.cell? ⟨pb, 1, none⟩ = some (.int .u64 A.hi) ∧ w'.cell? ⟨pb, 2, none⟩ = some (.int .u64 A.lo)))
                  (first | with_reducible exact HSd.out | fail) (fail)
                go_wp2_with fail
                go_roundw
                case rel => exact ⟨j + 1, by rw [HAny.out, HFy.out]; rfl, by go_num, by omega, HBd⟩
                case measure => simp [intOf]; omega
          · have HFy2 : Hid (true || F y) := by rw [Hid]; rfl
            clear HSd
            go_wp2_with fail
            go_region
            go_wp2_with fail
            go_roundw
            case rel => exact ⟨j + 1, by rw [HAny.out]; rfl, by go_num, by omega, HBd⟩
            case measure => simp [intOf]; omega
        · have ejN : N = j := by omega
          subst ejN
          have hkk : ¬ (N : Int) < (N : Int) := by omega
          have hT : l.take N = l := List.take_of_length_le (by have := HN.out; omega)
          rw [hT]
          obtain ⟨wp, hwp'⟩ : ∃ wp, wp = wr := ⟨_, rfl⟩
          subst hwp'
          have HAp0 := Lib.hid (HA.out.below HBj.out)
          clear HA HBj hT
          go_wp2_with fail
          go_loopw [15, 17] (fun vb vj wr => ∃ j : Nat, vb = .bool (l.any F || (kept.take j).any G) ∧ vj = .int .i64 j ∧ j ≤ KN ∧ Hid (Below wp.heap.size wp wr)) (fun _ vj _ => KN - (intOf vj).toNat)
          case atStart => exact ⟨0, by simp, rfl, Nat.zero_le _, Below.refl _ _⟩
          case round =>
            obtain ⟨j, rfl, rfl, hj, HBj⟩ := hrel
            have HAp := Lib.hid (HAp0.out.below HBj.out)
            obtain ⟨x0, x1, x2, x3, x4⟩ := HAp.out.p5.cells
            by_cases hjN : j < KN
            · have hjl : j < kept.length := by have := HKN.out; omega
              obtain ⟨g, o, rfl, hg', c0, c1, c2⟩ := (HKe.out.below HAp.out.low).ad j hjl
              obtain ⟨⟨a0, a1, a2⟩, _⟩ := HAp.out.a.cells
              rw [← HEA.out] at a0 a1 a2
              have HAny := Lib.hid (take_any G kept j hjl)
              obtain ⟨y, hy⟩ : ∃ y, y = kept[j] := ⟨_, rfl⟩
              rw [← hy] at c0 c1 c2 HAny
              have hE := fun W => eql_ad W y A
              have HSd := Lib.hid (keep6 (W := wr) ⟨⟨c0, c1, c2⟩, ⟨a0, a1, a2⟩, x4⟩ rfl)
              have HBd := Lib.hid HBj.out.drew
              have hjz : (j : Int) < (KN : Int) := by omega
              have hj0 : (0 : Int) ≤ (j : Int) := by omega
              have hGy : G y = eqAd y A := by rw [HGd.out]
              rw [hGy] at HAny
              obtain ⟨b, hb⟩ : ∃ b, b = (l.any F || (kept.take j).any G) := ⟨_, rfl⟩
              rw [← hb]
              have Hb : Hid ((l.any F || (kept.take j).any G) = b) := hb.symm
              clear hy hg' c0 c1 c2 a0 a1 a2 hb hGy
              generalize eqAd y A = b1 at *
              cases b
              · cases b1
                · go_wp2_with fail
                  go_region_held3 (fun w' => (w'.cell? ⟨g, o + j * 3, none⟩ = some (.bool y.v) ∧ w'.cell? ⟨g, o + j * 3 + 1, none⟩ = some (.int .u64 y.hi) ∧ w'.cell? ⟨g, o + j * 3 + 2, none⟩ = some (.int .u64 y.lo)) ∧ (w'.cell? ⟨pb, 0, none⟩ = some (.bool A.v) ∧ w'.cell? ⟨pb, 1, none⟩ = some (.int .u64 A.hi) ∧ w'.cell? ⟨pb, 2, none⟩ = some (.int .u64 A.lo)) ∧ w'.cell? ⟨w.heap.size, 4, none⟩ = some (.slice (some ⟨g, o, none⟩) KN kc))
                    (first | with_reducible exact HSd.out | fail) (fail)
                  go_wp2_with fail
                  go_roundw
                  case rel => exact ⟨j + 1, by rw [HAny.out, ← Bool.or_assoc, Hb.out]; rfl, by go_num, by omega, HBd⟩
                  case measure => simp [intOf]; omega
                · go_wp2_with fail
                  go_region_held3 (fun w' => (w'.cell? ⟨g, o + j * 3, none⟩ = some (.bool y.v) ∧ w'.cell? ⟨g, o + j * 3 + 1, none⟩ = some (.int .u64 y.hi) ∧ w'.cell? ⟨g, o + j * 3 + 2, none⟩ = some (.int .u64 y.lo)) ∧ (w'.cell? ⟨pb, 0, none⟩ = some (.bool A.v) ∧ w'.cell? ⟨pb, 1, none⟩ = some (.int .u64 A.hi) ∧ w'.cell? ⟨pb, 2, none⟩ = some (.int .u64 A.lo)) ∧ w'.cell? ⟨w.heap.size, 4, none⟩ = some (.slice (some ⟨g, o, none⟩) KN kc))
                    (first | with_reducible exact HSd.out | fail) (fail)
                  go_wp2_with fail
                  go_roundw
                  case rel => exact ⟨j + 1, by rw [HAny.out, ← Bool.or_assoc, Hb.out]; rfl, by go_num, by omega, HBd⟩
                  case measure => simp [intOf]; omega
              · clear HSd
                go_wp2_with fail
                go_region
                go_wp2_with fail
                go_roundw
                case rel => exact ⟨j + 1, by rw [HAny.out, ← Bool.or_assoc, Hb.out]; rfl, by go_num, by omega, HBd⟩
                case measure => simp [intOf]; omega
            · have ejN : KN = j := by omega
              subst ejN
              have hkk2 : ¬ (KN : Int) < (KN : Int) := by omega
              have hT : kept.take KN = kept := List.take_of_length_le (by have := HKN.out; omega)
              rw [hT, HBusy.out]
              clear HAp0 HBj hT HBusy HF HGd
              obtain ⟨⟨a0, a1, a2⟩, _⟩ := HAp.out.a.cells
              obtain ⟨⟨l0, l1, l2⟩, _⟩ := HAp.out.l.cells
              rw [← HEA.out] at a0 a1 a2
              have hE := fun W => eql_ad W A L
              by_cases hlast : n + 1 = p.many
              · have heq : eqAd A L = true := by rw [HEA.out, HL.out, eqAd_iff, show p.many - 1 = n by omega]
                rw [heq] at hE
                go_wp2_with fail
                go_ret
                exact ⟨rfl, HAp.out.low⟩
              · have hne2 : eqAd A L = false := by rw [HEA.out, HL.out]; exact adK_eq r hnm (by omega) (by omega)
                rw [hne2] at hE
                have hn1 : n + 1 < p.many := by omega
                have HNx := Lib.hid (next_adK r hn1 wr)
                rw [← HEA.out] at HNx
                obtain ⟨A', hA'⟩ : ∃ A', A' = adK p (n + 1) := ⟨_, rfl⟩
                rw [← hA'] at HNx
                have HEA' := Lib.hid hA'
                clear hA'
                go_wp2_with fail
                refine HNx.out.mono ?_
                rintro e wy ⟨rfl, hby⟩
                have hAt := HAp.out.below hby
                have hnxt := hAt.next hne hnx hwp
                obtain ⟨⟨q0, q1, q2⟩, f0, f1, f2⟩ := hAt.a.cells
                obtain ⟨⟨n0, n1, n2⟩, _⟩ := (Box3.new wy A').cells
                have hplt : pb < wy.heap.size := hAt.a.lt
                rw [← HEA'.out] at hnxt
                have HG' := Lib.hid (hnxt.below (bal (Below.refl _ _) (.cells #[.bool A'.v, .int .u64 A'.hi, .int .u64 A'.lo] 24)))
                clear hAt hnxt hby HNx
                go_wp2_with fail
                go_roundw
                case rel => exact ⟨n + 1, by go_num, by omega, by omega, HG'⟩
                case measure => simp [intOf]; omega
end Go.Proofs.YtiiankekobgebaaGreatDoor
