/- The document: the halves of a prefix: without texts of addresses. -/
import Derived.Test.YtlgdkdplkdkkdaaSlC
import Derived.Test.YtlgdkdplkdkkdaaHvN
import Derived.Lib.SmallJoins
import Derived.Lib.Strings
import Derived.Lib.Walk
import Derived.Lib.Hide
import Derived.BigCall
import Derived.BigGuard
import Derived.BigRegion
import Derived.Laws.AppendOwnNone
import Derived.Lib.AppendZeros
import Derived.Laws.Strings3
import Derived.Laws.Closers25
import Derived.Laws.Closers25b
import Derived.Lib.ConvBytes
import Derived.Lib.LaidTab
import Derived.Lib.ItoaMem
set_option linter.unusedVariables false
set_option linter.unusedSimpArgs false
namespace Go.Proofs.Ytlgdkdplkdkkdaa
open Go.RowKit

/-- The greater half: the first bit behind the prefix is a one. -/
theorem great_parts {v : Bool} {hi lo b : Nat} (r : Right v hi lo b) (hlt : (b : Int) < wid v) : ∀ R, R = (bitsT v hi lo).set b 49 →
    IsBin R ∧ (R.length : Int) = wid v ∧ decide (R.length = 128) = v ∧ fsH v (laH v hi b) (b + 1) = ((vbin 0 (R.take (R.length - 64)) : Nat) : Int) ∧ fsL v (laL v lo b) (b + 1) = ((vbin 0 (R.drop (R.length - 64)) : Nat) : Int) := by
  intro R hR
  have h1 := r.h1
  have l1 := r.l1
  have hlen := bits_wid v hi lo
  have hbl : b < (bitsT v hi lo).length := by omega
  have hl : (R.length : Int) = wid v := by rw [hR, List.length_set]; exact hlen
  obtain ⟨n1, rr⟩ := great_num r hlt
  have hbin : IsBin R := by
    intro c hc
    rw [hR] at hc
    rcases List.mem_or_eq_of_mem_set hc with h | h
    · exact bitsT_bin v hi lo c h
    · exact .inr h
  refine ⟨hbin, hl, parts_addr hl rr.h0 rr.l0 rr.l1 ?_⟩
  have h0 : (bitsT v hi lo)[b] = 48 := right_bits r _ (by rw [List.drop_eq_getElem_cons hbl]; exact List.mem_cons_self ..)
  rw [n1, ← bits_num r.c (by omega) (by omega), hR, vbin_set _ b hbl h0, amt, show (wid v - ((b : Int) + 1)).toNat = (bitsT v hi lo).length - b - 1 by omega]
  simp

theorem Has4.oth {W : World} {p : Nat} {v : Bool} {hi lo b : Int} (h : Has4 W p v hi lo b) {a : Addr} (hn : ∀ i : Nat, a ≠ ⟨p, i, none⟩) (x : Value) : Has4 (W.setCell a x) p v hi lo b := by
  obtain ⟨h0, h1, h2, h3, h4⟩ := h
  exact ⟨by rw [World.cell?_setCell_other (h := hn 0)]; exact h0, by rw [World.cell?_setCell_other (h := hn 1)]; exact h1, by rw [World.cell?_setCell_other (h := hn 2)]; exact h2, by rw [World.cell?_setCell_other (h := hn 3)]; exact h3, by simpa using h4⟩

theorem Own4.oth {W : World} {p : Nat} {x y z t : Value} (h : Own4 W p x y z t) {a : Addr} (hn : ∀ i : Nat, a ≠ ⟨p, i, none⟩) (u : Value) : Own4 (W.setCell a u) p x y z t := by
  obtain ⟨⟨h0, h1, h2, h3⟩, ⟨f0, f1, f2, f3⟩, h4⟩ := h
  exact ⟨⟨by rw [World.cell?_setCell_other (h := hn 0)]; exact h0, by rw [World.cell?_setCell_other (h := hn 1)]; exact h1, by rw [World.cell?_setCell_other (h := hn 2)]; exact h2, by rw [World.cell?_setCell_other (h := hn 3)]; exact h3⟩,
    ⟨by rw [World.frozen?_setCell]; exact f0, by rw [World.frozen?_setCell]; exact f1, by rw [World.frozen?_setCell]; exact f2, by rw [World.frozen?_setCell]; exact f3⟩, by simpa using h4⟩

theorem RowU.oth {W : World} {B q i : Nat} {R : List UInt8} (h : RowU W B R) (hn : q ≠ B) (x : Value) : RowU (W.setCell ⟨q, i, none⟩ x) B R := by
  intro j d hj
  obtain ⟨h1, h2⟩ := h j d hj
  refine ⟨?_, by rw [World.frozen?_setCell]; exact h2⟩
  rw [World.cell?_setCell_other (h := by intro e; injection e with e; exact hn e)]
  exact h1

theorem conv_of {W : World} {B N c : Nat} {R : List UInt8} {X : ByteArray} (h : RowU W B R) (hX : X = ⟨R.toArray⟩) (hN : N = R.length) : ((convert 66 9 (.slice (some ⟨B, 0, none⟩) N c)).run Try.prog W = .ok (.string X) W) := by
  rw [hX]
  exact cvt W B 0 c R N hN (fun j hj => by rw [Nat.zero_add]; exact (h j _ (List.getElem?_eq_getElem hj)).1)

theorem keepE {w W W' : World} {p B N c : Nat} {v : Bool} {hi lo b : Int} {R : List UInt8} {X : ByteArray} (hX : X = ⟨R.toArray⟩) (hN : N = R.length) (h : (W.cell? ⟨p, 0, none⟩ = some (.bool v) ∧ W.cell? ⟨p, 1, none⟩ = some (.int .u64 hi) ∧ W.cell? ⟨p, 2, none⟩ = some (.int .u64 lo) ∧ W.cell? ⟨p, 3, none⟩ = some (.int .i64 b) ∧ p < W.heap.size) ∧ ((convert 66 9 (.slice (some ⟨B, 0, none⟩) N c)).run Try.prog W = .ok (.string X) W) ∧ (RowU W B R ∧ B < W.heap.size) ∧ Below w.heap.size w W) (hb : Below W.heap.size W W') : (W'.cell? ⟨p, 0, none⟩ = some (.bool v) ∧ W'.cell? ⟨p, 1, none⟩ = some (.int .u64 hi) ∧ W'.cell? ⟨p, 2, none⟩ = some (.int .u64 lo) ∧ W'.cell? ⟨p, 3, none⟩ = some (.int .i64 b) ∧ p < W'.heap.size) ∧ ((convert 66 9 (.slice (some ⟨B, 0, none⟩) N c)).run Try.prog W' = .ok (.string X) W') ∧ (RowU W' B R ∧ B < W'.heap.size) ∧ Below w.heap.size w W' := by
  have h1 : Has4 W p v hi lo b := h.1
  have hr := h.2.2.1.1.below h.2.2.1.2 hb
  exact ⟨h1.below hb, conv_of hr hX hN, ⟨hr, Nat.lt_of_lt_of_le h.2.2.1.2 hb.size⟩, btr h.2.2.2 hb⟩

theorem keepEs {w W : World} {p q B N c : Nat} {v : Bool} {hi lo b : Int} {R : List UInt8} {X : ByteArray} {x y z t : Value} (hX : X = ⟨R.toArray⟩) (hN : N = R.length) (h : (W.cell? ⟨p, 0, none⟩ = some (.bool v) ∧ W.cell? ⟨p, 1, none⟩ = some (.int .u64 hi) ∧ W.cell? ⟨p, 2, none⟩ = some (.int .u64 lo) ∧ W.cell? ⟨p, 3, none⟩ = some (.int .i64 b) ∧ p < W.heap.size) ∧ ((convert 66 9 (.slice (some ⟨B, 0, none⟩) N c)).run Try.prog W = .ok (.string X) W) ∧ (RowU W B R ∧ B < W.heap.size) ∧ Below w.heap.size w W) (hn : q ≠ p) (hq : w.heap.size ≤ q) (hB : q ≠ B) : (((((W.setCell ⟨q, 0, none⟩ x).setCell ⟨q, 1, none⟩ y).setCell ⟨q, 2, none⟩ z).setCell ⟨q, 3, none⟩ t).cell? ⟨p, 0, none⟩ = some (.bool v) ∧ ((((W.setCell ⟨q, 0, none⟩ x).setCell ⟨q, 1, none⟩ y).setCell ⟨q, 2, none⟩ z).setCell ⟨q, 3, none⟩ t).cell? ⟨p, 1, none⟩ = some (.int .u64 hi) ∧ ((((W.setCell ⟨q, 0, none⟩ x).setCell ⟨q, 1, none⟩ y).setCell ⟨q, 2, none⟩ z).setCell ⟨q, 3, none⟩ t).cell? ⟨p, 2, none⟩ = some (.int .u64 lo) ∧ ((((W.setCell ⟨q, 0, none⟩ x).setCell ⟨q, 1, none⟩ y).setCell ⟨q, 2, none⟩ z).setCell ⟨q, 3, none⟩ t).cell? ⟨p, 3, none⟩ = some (.int .i64 b) ∧ p < ((((W.setCell ⟨q, 0, none⟩ x).setCell ⟨q, 1, none⟩ y).setCell ⟨q, 2, none⟩ z).setCell ⟨q, 3, none⟩ t).heap.size) ∧ ((convert 66 9 (.slice (some ⟨B, 0, none⟩) N c)).run Try.prog ((((W.setCell ⟨q, 0, none⟩ x).setCell ⟨q, 1, none⟩ y).setCell ⟨q, 2, none⟩ z).setCell ⟨q, 3, none⟩ t) = .ok (.string X) ((((W.setCell ⟨q, 0, none⟩ x).setCell ⟨q, 1, none⟩ y).setCell ⟨q, 2, none⟩ z).setCell ⟨q, 3, none⟩ t)) ∧ (RowU ((((W.setCell ⟨q, 0, none⟩ x).setCell ⟨q, 1, none⟩ y).setCell ⟨q, 2, none⟩ z).setCell ⟨q, 3, none⟩ t) B R ∧ B < ((((W.setCell ⟨q, 0, none⟩ x).setCell ⟨q, 1, none⟩ y).setCell ⟨q, 2, none⟩ z).setCell ⟨q, 3, none⟩ t).heap.size) ∧ Below w.heap.size w ((((W.setCell ⟨q, 0, none⟩ x).setCell ⟨q, 1, none⟩ y).setCell ⟨q, 2, none⟩ z).setCell ⟨q, 3, none⟩ t) := by
  have ne : ∀ i j : Nat, (⟨q, i, none⟩ : Addr) ≠ ⟨p, j, none⟩ := by intro i j e; injection e with e; exact hn e
  have h1 : Has4 W p v hi lo b := h.1
  have hr := (((h.2.2.1.1.oth (i := 0) hB x).oth (i := 1) hB y).oth (i := 2) hB z).oth (i := 3) hB t
  exact ⟨(((h1.oth (ne 0) x).oth (ne 1) y).oth (ne 2) z).oth (ne 3) t, conv_of hr hX hN, ⟨hr, by simpa using h.2.2.1.2⟩, bse (bse (bse (bse h.2.2.2 (p := ⟨q, 0, none⟩) hq _) (p := ⟨q, 1, none⟩) hq _) (p := ⟨q, 2, none⟩) hq _) (p := ⟨q, 3, none⟩) hq _⟩

theorem lastR {w W : World} {a b c : Prop} (h : a ∧ b ∧ c ∧ Below w.heap.size w W) : Below w.heap.size w W := h.2.2.2

set_option maxHeartbeats 8000000 in
set_option maxRecDepth 100000 in
theorem halvesOf_any (v : Bool) (hi lo b : Nat) (w : World) (r : Right v hi lo b) (hlt : (b : Int) < wid v) :
    Calls Try.prog 43 #[.agg #[.bool v, .int .u64 hi, .int .u64 lo, .int .i64 (b : Int)]] w fun e w' => e = .returned (.tuple #[.agg #[.bool v, .int .u64 hi, .int .u64 lo, .int .i64 ((b : Int) + 1)], .agg #[.bool v, .int .u64 (fsH v (laH v hi b) (b + 1)), .int .u64 (fsL v (laL v lo b) (b + 1)), .int .i64 ((b : Int) + 1)]]) ∧ Below w.heap.size w w' := by
  have h1 := r.h1
  have l1 := r.l1
  have hw128 : wid v ≤ 128 := by unfold wid; split <;> omega
  have hlen := bits_wid v hi lo
  have HX : Hid (∀ w : World, Calls Try.prog 24 #[.agg #[.bool v, .int .u64 hi, .int .u64 lo]] w fun e w' => e = .returned (.string ⟨(bitsT v hi lo).toArray⟩) ∧ Below w.heap.size w w') := fun w => bits_any v hi lo w (by omega) (by omega)
  obtain ⟨g1, g2, g3, g4, g5⟩ := great_parts r hlt _ rfl
  have HA : Hid (∀ w : World, Calls Try.prog 55 #[.string ⟨((bitsT v hi lo).set b 49).toArray⟩] w fun e w' => e = .returned (.agg #[.bool v, .int .u64 (fsH v (laH v hi b) (b + 1)), .int .u64 (fsL v (laL v lo b) (b + 1))]) ∧ Below w.heap.size w w') := by
    intro w
    have hz : (⟨((bitsT v hi lo).set b 49).toArray⟩ : ByteArray).size = ((bitsT v hi lo).set b 49).length := by show (List.toArray _).size = _; rw [List.size_toArray]
    have := addrOf_any ⟨((bitsT v hi lo).set b 49).toArray⟩ w (by omega) g1
    rw [hz] at this
    rw [g4, g5]
    have e3 : Value.bool v = Value.bool (decide (((bitsT v hi lo).set b 49).length = 128)) := by rw [g3]
    rw [e3]
    exact this
  have hs1 : (w.alloc (.cells #[.bool v, .int .u64 hi, .int .u64 lo, .int .i64 (b : Int)] 27)).heap.size = w.heap.size + 1 := by simp
  have hs2 : ((w.alloc (.cells #[.bool v, .int .u64 hi, .int .u64 lo, .int .i64 (b : Int)] 27)).alloc (.cells #[.bool false, .int .u64 0, .int .u64 0, .int .i64 0] 27)).heap.size = w.heap.size + 1 + 1 := by simp
  have P1 : Hid (Has4 (((w.alloc (.cells #[.bool v, .int .u64 hi, .int .u64 lo, .int .i64 (b : Int)] 27)).alloc (.cells #[.bool false, .int .u64 0, .int .u64 0, .int .i64 0] 27)).alloc (.cells #[.bool false, .int .u64 0, .int .u64 0, .int .i64 0] 27)) w.heap.size v hi lo b) := ((Has4.new w _ _ _ _ _).alloc _).alloc _
  have R1 : Hid (Own4 (((w.alloc (.cells #[.bool v, .int .u64 hi, .int .u64 lo, .int .i64 (b : Int)] 27)).alloc (.cells #[.bool false, .int .u64 0, .int .u64 0, .int .i64 0] 27)).alloc (.cells #[.bool false, .int .u64 0, .int .u64 0, .int .i64 0] 27)) (w.heap.size + 1) (.bool false) (.int .u64 0) (.int .u64 0) (.int .i64 0)) := by
    have := (Own4.new (w.alloc (.cells #[.bool v, .int .u64 hi, .int .u64 lo, .int .i64 (b : Int)] 27)) (.bool false) (.int .u64 0) (.int .u64 0) (.int .i64 0) 27).alloc (.cells #[.bool false, .int .u64 0, .int .u64 0, .int .i64 0] 27)
    rw [hs1] at this; exact this
  have R2 : Hid (Own4 (((w.alloc (.cells #[.bool v, .int .u64 hi, .int .u64 lo, .int .i64 (b : Int)] 27)).alloc (.cells #[.bool false, .int .u64 0, .int .u64 0, .int .i64 0] 27)).alloc (.cells #[.bool false, .int .u64 0, .int .u64 0, .int .i64 0] 27)) (w.heap.size + 1 + 1) (.bool false) (.int .u64 0) (.int .u64 0) (.int .i64 0)) := by
    have := Own4.new ((w.alloc (.cells #[.bool v, .int .u64 hi, .int .u64 lo, .int .i64 (b : Int)] 27)).alloc (.cells #[.bool false, .int .u64 0, .int .u64 0, .int .i64 0] 27)) (.bool false) (.int .u64 0) (.int .u64 0) (.int .i64 0) 27
    rw [hs2] at this; exact this
  have HB0 : Hid (Below w.heap.size w (((w.alloc (.cells #[.bool v, .int .u64 hi, .int .u64 lo, .int .i64 (b : Int)] 27)).alloc (.cells #[.bool false, .int .u64 0, .int .u64 0, .int .i64 0] 27)).alloc (.cells #[.bool false, .int .u64 0, .int .u64 0, .int .i64 0] 27))) := bal (bal (bal (Below.refl _ _) _) _) _
  clear hs1 hs2
  have HROWN : Hid (IsBin (bitsT v hi lo)) := bitsT_bin v hi lo
  generalize hbt : bitsT v hi lo = l at *
  generalize fsH v (laH v hi b) (b + 1) = G1 at *
  generalize fsL v (laL v lo b) (b + 1) = G2 at *
  have hbl : b < l.length := by omega
  have hbi : (b : Int) < (l.length : Int) := by omega
  clear g1 g2 g3 g4 g5 r h1 l1 hbt
  obtain ⟨N, hN⟩ : ∃ N, N = l.length := ⟨_, rfl⟩
  have hsN : (⟨l.toArray⟩ : ByteArray).size = N := by rw [hN]; rfl
  have hW3 := R2.out.2.2
  go_enter Try.func43, Try.ntmps43
  go_wp2_with fail
  generalize (((w.alloc (.cells #[.bool v, .int .u64 hi, .int .u64 lo, .int .i64 (b : Int)] 27)).alloc (.cells #[.bool false, .int .u64 0, .int .u64 0, .int .i64 0] 27)).alloc (.cells #[.bool false, .int .u64 0, .int .u64 0, .int .i64 0] 27)) = W at *
  refine (HX.out _).mono ?_
  rintro e w1 ⟨rfl, hb1⟩
  have hB3 : w.heap.size + 1 + 1 < w1.heap.size := Nat.lt_of_lt_of_le hW3 hb1.size
  obtain ⟨c, W2, hcv, hrow, hb2, hsz2⟩ := conv_bytes w1 ⟨l.toArray⟩
  have hb12 := btr hb1 hb2
  replace P1 : Hid (Has4 W2 w.heap.size v hi lo b) := P1.out.below hb12
  replace R1 : Hid (Own4 W2 (w.heap.size + 1) (.bool false) (.int .u64 0) (.int .u64 0) (.int .i64 0)) := R1.out.below hb12
  replace R2 : Hid (Own4 W2 (w.heap.size + 1 + 1) (.bool false) (.int .u64 0) (.int .u64 0) (.int .i64 0)) := R2.out.below hb12
  replace HB0 : Hid (Below w.heap.size w W2) := btr HB0.out hb12
  have hrow' : RowU W2 w1.heap.size l := hrow
  rw [hsN] at hcv
  generalize w1.heap.size = B at *
  obtain ⟨hcm, hfm⟩ := hrow' b l[b] (List.getElem?_eq_getElem hbl)
  have hset := hrow'.set b hbl 49
  have ne0 : ∀ i : Nat, (⟨B, b, none⟩ : Addr) ≠ ⟨w.heap.size, i, none⟩ := by intro i e; injection e with e; omega
  have ne1 : ∀ i : Nat, (⟨B, b, none⟩ : Addr) ≠ ⟨w.heap.size + 1, i, none⟩ := by intro i e; injection e with e; omega
  have ne2 : ∀ i : Nat, (⟨B, b, none⟩ : Addr) ≠ ⟨w.heap.size + 1 + 1, i, none⟩ := by intro i e; injection e with e; omega
  have P3 : Hid (Has4 (W2.setCell ⟨B, b, none⟩ (.int .u8 49)) w.heap.size v hi lo b) := P1.out.oth ne0 _
  have R3 : Hid (Own4 (W2.setCell ⟨B, b, none⟩ (.int .u8 49)) (w.heap.size + 1) (.bool false) (.int .u64 0) (.int .u64 0) (.int .i64 0)) := R1.out.oth ne1 _
  have R4 : Hid (Own4 (W2.setCell ⟨B, b, none⟩ (.int .u8 49)) (w.heap.size + 1 + 1) (.bool false) (.int .u64 0) (.int .u64 0) (.int .i64 0)) := R2.out.oth ne2 _
  have HB3 : Hid (Below w.heap.size w (W2.setCell ⟨B, b, none⟩ (.int .u8 49))) := bse HB0.out (p := ⟨B, b, none⟩) (by show w.heap.size ≤ B; omega) _
  obtain ⟨X, hX⟩ : ∃ X : ByteArray, X = ⟨(l.set b 49).toArray⟩ := ⟨_, rfl⟩
  rw [← hX] at HA
  have hcv2 : (convert 66 9 (.slice (some ⟨B, 0, none⟩) N c)).run Try.prog (W2.setCell ⟨B, b, none⟩ (.int .u8 49)).drew = .ok (.string X) (W2.setCell ⟨B, b, none⟩ (.int .u8 49)).drew := by
    rw [hX]
    exact cvt _ B 0 c (l.set b 49) N (by rw [List.length_set]; exact hN) (fun j hj => by rw [Nat.zero_add]; exact (hset j _ (List.getElem?_eq_getElem hj)).1)
  have HXR : Hid (X = ⟨(l.set b 49).toArray⟩) := hX
  have HNR : Hid (N = (l.set b 49).length) := by rw [Hid, List.length_set]; exact hN
  have HRW : Hid (RowU (W2.setCell ⟨B, b, none⟩ (.int .u8 49)) B (l.set b 49) ∧ B < (W2.setCell ⟨B, b, none⟩ (.int .u8 49)).heap.size) := ⟨hset, by simp; omega⟩
  have hbN : (b : Int) < (N : Int) := by omega
  have hb0 : (0 : Int) ≤ (b : Int) := by omega
  have hb128 : (b : Int) ≤ 128 := by omega
  obtain ⟨p0, p1, p2, p3, p4⟩ := P1.out
  generalize l[b] = lb at hcm
  have hwr : IntKind.i64.wrap ((b : Int) + 1) = (b : Int) + 1 := by rw [IntKind.wrap_i64]; omega
  clear hset hrow hrow' hb1 hb2 hb12 R1 R2 hX hsz2 HX hN hsN
  go_wp2_with fail
  generalize W2.setCell ⟨B, b, none⟩ (.int .u8 49) = W3 at *
  clear p0 p1 p2 p3 p4
  obtain ⟨p0, p1, p2, p3, p4⟩ : Has4 W3.drew w.heap.size v hi lo b := P3.out
  have R3' : Hid (Own4 W3.drew (w.heap.size + 1) (.bool false) (.int .u64 0) (.int .u64 0) (.int .i64 0)) := R3.out
  have R4' : Hid (Own4 W3.drew (w.heap.size + 1 + 1) (.bool false) (.int .u64 0) (.int .u64 0) (.int .i64 0)) := R4.out
  have P3' : Hid (Has4 W3.drew w.heap.size v hi lo b) := P3.out
  have HB4 : Hid (Below w.heap.size w W3.drew) := HB3.out.drew
  clear P3 R3 R4 HB3 hcm hfm
  have hB3' := hB3
  clear HROWN hW3 hlen hw128 hlt P1 HB0 hcv hb0
  have hBq1 : w.heap.size + 1 ≠ B := by omega
  have hBq2 : w.heap.size + 1 + 1 ≠ B := by omega
  have HS0 : (W3.drew.cell? ⟨w.heap.size, 0, none⟩ = some (.bool v) ∧ W3.drew.cell? ⟨w.heap.size, 1, none⟩ = some (.int .u64 hi) ∧ W3.drew.cell? ⟨w.heap.size, 2, none⟩ = some (.int .u64 lo) ∧ W3.drew.cell? ⟨w.heap.size, 3, none⟩ = some (.int .i64 b) ∧ w.heap.size < W3.drew.heap.size) ∧ ((convert 66 9 (.slice (some ⟨B, 0, none⟩) N c)).run Try.prog W3.drew = .ok (.string X) W3.drew) ∧ (RowU W3.drew B (l.set b 49) ∧ B < W3.drew.heap.size) ∧ Below w.heap.size w W3.drew := ⟨P3'.out, hcv2, HRW.out, HB4.out⟩
  have nq1 : w.heap.size + 1 ≠ w.heap.size := by omega
  have nq2 : w.heap.size + 1 + 1 ≠ w.heap.size := by omega
  have gq1 : w.heap.size ≤ w.heap.size + 1 := by omega
  have gq2 : w.heap.size ≤ w.heap.size + 1 + 1 := by omega
  go_region_held3 (fun w' => (w'.cell? ⟨w.heap.size, 0, none⟩ = some (.bool v) ∧ w'.cell? ⟨w.heap.size, 1, none⟩ = some (.int .u64 hi) ∧ w'.cell? ⟨w.heap.size, 2, none⟩ = some (.int .u64 lo) ∧ w'.cell? ⟨w.heap.size, 3, none⟩ = some (.int .i64 b) ∧ w.heap.size < w'.heap.size) ∧ ((convert 66 9 (.slice (some ⟨B, 0, none⟩) N c)).run Try.prog w' = .ok (.string X) w') ∧ (RowU w' B (l.set b 49) ∧ B < w'.heap.size) ∧ Below w.heap.size w w')
    (first | with_reducible exact HS0 | with_reducible exact keepEs HXR.out HNR.out (by with_reducible assumption) nq1 gq1 hBq1 | with_reducible exact keepEs HXR.out HNR.out (by with_reducible assumption) nq2 gq2 hBq2 | with_reducible exact keepE HXR.out HNR.out (by with_reducible assumption) (by with_reducible assumption))
    ((go_at_call 55; refine (HA.out _).mono ?_; rintro e w5 ⟨rfl, hb5⟩; obtain ⟨⟨r0, r1, r2, r3⟩, ⟨r4, r5, r6, r7⟩, r8⟩ := R3'.out.below hb5; obtain ⟨⟨q0, q1, q2, q3⟩, ⟨q4, q5, q6, q7⟩, q8⟩ := R4'.out.below hb5))
  have HF := lastR (by with_reducible assumption)
  go_wp2_with fail
  refine bodyPost_ret (v := .tuple #[.agg #[.bool v, .int .u64 hi, .int .u64 lo, .int .i64 ((b : Int) + 1)], .agg #[.bool v, .int .u64 G1, .int .u64 G2, .int .i64 ((b : Int) + 1)]]) ?_ rfl ⟨rfl, HF⟩
  simp [results, Try.results43, go_sem, r0, r1, r2, r3, q0, q1, q2, q3]

end Go.Proofs.Ytlgdkdplkdkkdaa
