/- leaseBegun; what a grant makes of leases. -/
import Derived.Test.YtiiankekobgebaaGreatDoorKmA
import Derived.Test.YtiiankekobgebaaGreatDoorKmB
import Derived.Test.YtiiankekobgebaaGreatDoorKmC
import Derived.Test.YtiiankekobgebaaGreatDoorNetV
set_option linter.unusedVariables false
set_option linter.unusedSimpArgs false
namespace Go.Proofs.YtiiankekobgebaaGreatDoor
open Go.RowKit Go.Shelf

theorem text_eq (a b : ByteArray) : (a.toList == b.toList) = decide (a = b) := by
  have h : ∀ x : ByteArray, x.toList = x.data.toList := fun x => ByteArray.toList_eq x
  rw [h, h, Bool.eq_iff_iff]
  simp only [beq_iff_eq, decide_eq_true_eq]
  exact ⟨fun e => bytes_same e, fun e => by rw [e]⟩
set_option maxHeartbeats 8000000 in
theorem whoAt_any (a : Option Addr) (c : Nat) (l : List Ls) (s : ByteArray) (w : World) (hl : l.length ≤ 9223372036854775800) (hs : Lies lsE w a l) :
    Calls Tryz.prog 10 #[.slice a l.length c, .string s] w fun e w' => e = .returned (.int .i64 (idxI (l.findIdx? (Ls.hasWho s)))) ∧ w' = w := by
  obtain ⟨N, hN⟩ : ∃ N, N = l.length := ⟨_, rfl⟩
  rw [← hN] at hl ⊢
  have HN : Hid (N = l.length) := hN
  have HL := Lib.hid hs
  obtain ⟨R, hR⟩ : ∃ R, R = idxI (l.findIdx? (Ls.hasWho s)) := ⟨_, rfl⟩
  rw [← hR]
  have HR := Lib.hid hR
  clear hN hs hR
  go_enter Tryz.func10, Tryz.ntmps10
  go_wp2
  go_loop [5] (fun vi => ∃ k : Nat, vi = .int .i64 k ∧ k ≤ N ∧ Hid (∀ j (hj : j < k) (hl : j < l.length), Ls.hasWho s l[j] = false))
    (fun vi => N - (intOf vi).toNat)
  case atStart => exact ⟨0, rfl, Nat.zero_le _, fun j hj => absurd hj (Nat.not_lt_zero _)⟩
  case round =>
    obtain ⟨k, rfl, hk, hh⟩ := hrel
    by_cases hkN : k < N
    · have hkl : k < l.length := by have := HN.out; omega
      obtain ⟨g, o, rfl, hg, c0, c1, c2, c3, c4⟩ := HL.out.ls k hkl
      have hkz : (k : Int) < (N : Int) := by omega
      have hk0 : (0 : Int) ≤ (k : Int) := by omega
      by_cases hw : l[k].who = s
      · have HE : Hid (R = (k : Int)) := by rw [Hid, HR.out, find_hit hkl (by simp [Ls.hasWho, hw]) (fun j hj => hh.out j hj (by omega))]; rfl
        have hq : (l[k].who.toList == s.toList) = true := by rw [text_eq]; simpa using hw
        generalize l[k].who = t at *
        clear hh hw c0 c1 c2 c4
        go_wp2
        go_ret
        exact ⟨congrArg (fun r => Ending.returned (Value.int .i64 r)) HE.out.symm, rfl⟩
      · have HQ : Hid (∀ j (hj : j < k + 1) (hl : j < l.length), Ls.hasWho s l[j] = false) := fun j hj hl => by
          by_cases hjk : j = k
          · subst hjk; simp [Ls.hasWho, hw]
          · exact hh.out j (by omega) hl
        have hq : (l[k].who.toList == s.toList) = false := by rw [text_eq]; simpa using hw
        generalize l[k].who = t at *
        clear hh hw c0 c1 c2 c4
        go_wp2
        go_round
        case rel => exact ⟨k + 1, by go_num, by omega, HQ⟩
        case measure => simp [intOf]; omega
    · obtain rfl : k = N := by omega
      have hkk : ¬ (k : Int) < (k : Int) := by omega
      have HD : Hid (R = -1) := by
        rw [Hid, HR.out, find_miss (fun j hj => hh.out j (by have := HN.out; omega) hj)]; rfl
      clear hh
      go_wp2
      go_ret
      exact ⟨congrArg (fun r => Ending.returned (Value.int .i64 r)) HD.out.symm, rfl⟩
theorem Ls.same {x y : Ls} (h0 : x.a = y.a) (h1 : x.who = y.who) (h2 : x.un = y.un) : x = y := by
  cases x; cases y; simp at h0 h1 h2; subst h0; subst h1; subst h2; rfl
/-- Are two leases the same? -/
def eqL (x y : Ls) : Bool := (x.a.v == y.a.v) && ((x.a.hi == y.a.hi) && ((x.a.lo == y.a.lo) && ((x.who.toList == y.who.toList) && (x.un == y.un))))
theorem eqL_iff (x y : Ls) : eqL x y = true ↔ x = y := by
  unfold eqL
  simp only [Bool.and_eq_true, beq_iff_eq]
  constructor
  · rintro ⟨a, b, c, d, e⟩
    refine Ls.same (Ad.same a b c) ?_ e
    have := text_eq x.who y.who
    rw [d] at this
    simpa using this
  · rintro rfl
    exact ⟨rfl, rfl, rfl, rfl, rfl⟩
set_option maxHeartbeats 4000000 in
theorem neq_ls (w : World) (x y : Ls) : (binOp .neq 39 (.agg #[.bool x.a.v, .int .u64 x.a.hi, .int .u64 x.a.lo, .string x.who, .int .i64 x.un]) (.agg #[.bool y.a.v, .int .u64 y.a.hi, .int .u64 y.a.lo, .string y.who, .int .i64 y.un])).run Tryz.prog w = .ok (.bool (!eqL x y)) w := by
  unfold eqL
  generalize x.a.v = v
  generalize x.a.hi = hi
  generalize x.a.lo = lo
  generalize x.who = who
  generalize x.un = un
  generalize y.a.v = v'
  generalize y.a.hi = hi'
  generalize y.a.lo = lo'
  generalize y.who = who'
  generalize y.un = un'
  cases h1 : v == v' <;> cases h2 : hi == hi' <;> cases h3 : lo == lo' <;> cases h4 : who.toList == who'.toList <;> cases h5 : un == un' <;> simp [go_sem, h1, h2, h3, h4, h5]
theorem rhas_ad (p : Pf) (x : Ad) (w : World) (r : p.R) (cx : chk x.v x.hi x.lo = 0) :
    Calls Tryz.prog 9 #[.agg #[.bool p.v, .int .u64 p.hi, .int .u64 p.lo, .int .i64 p.b], .agg #[.bool x.v, .int .u64 x.hi, .int .u64 x.lo]] w fun e w' => e = .returned (.bool (p.inA x.v x.hi x.lo)) ∧ Below w.heap.size w w' := by
  have q := host_right cx x.ok.1.1 x.ok.1.2 x.ok.2.1 x.ok.2.2
  obtain ⟨h, l, b, e1, e2, e3⟩ : ∃ h l b : Nat, p.hi = h ∧ p.lo = l ∧ p.b = b := ⟨p.hi.toNat, p.lo.toNat, p.b.toNat, by have := r.h0; omega, by have := r.l0; omega, by have := r.b0; omega⟩
  have r' : Right p.v h l b := by rw [← e1, ← e2, ← e3]; exact r
  have f1 : x.hi = (x.hi.toNat : Int) := by have := q.h0; omega
  have f2 : x.lo = (x.lo.toNat : Int) := by have := q.l0; omega
  have q' : Right x.v x.hi.toNat x.lo.toNat (wid x.v) := by rw [← f1, ← f2]; exact q
  have hb := r'.b1
  have hb' := r.b1
  have h1 := r'.h1
  have h2 := r'.l1
  have h3 := q'.h1
  have h4 := q'.l1
  have := hasAddr_any p.v h l b x.v x.hi.toNat x.lo.toNat w (by omega) (by omega) (by omega) (by omega) hb
  have e : p.inA x.v x.hi x.lo = ((p.v == x.v) && ((bitsT p.v h l).take b == (bitsT x.v x.hi.toNat x.lo.toNat).take b)) := by
    rw [in_has r q]
    unfold Pf.has
    simp only
    rw [e1, e2, e3, f1, f2]
    simp only [Int.toNat_natCast]
    rw [has_bits r' q']
    by_cases hv : p.v = x.v
    · rw [← hv, decide_eq_true hb, Bool.true_and]
    · rw [beq_eq_false_iff_ne.2 hv]; simp
  rw [e, e1, e2, e3]
  rw [← f1, ← f2] at this
  exact this
/-- Are two addresses the same? -/
def eqAd (x y : Ad) : Bool := (x.v == y.v) && ((x.hi == y.hi) && (x.lo == y.lo))
theorem eqAd_iff (x y : Ad) : eqAd x y = true ↔ x = y := by
  unfold eqAd
  simp only [Bool.and_eq_true, beq_iff_eq]
  constructor
  · rintro ⟨a, b, c⟩; exact Ad.same a b c
  · rintro rfl; exact ⟨rfl, rfl, rfl⟩
theorem eql_ad (w : World) (x y : Ad) : (binOp .eql 24 (.agg #[.bool x.v, .int .u64 x.hi, .int .u64 x.lo]) (.agg #[.bool y.v, .int .u64 y.hi, .int .u64 y.lo])).run Tryz.prog w = .ok (.bool (eqAd x y)) w := by
  unfold eqAd
  generalize x.v = v
  generalize x.hi = hi
  generalize x.lo = lo
  generalize y.v = v'
  generalize y.hi = hi'
  generalize y.lo = lo'
  cases h1 : v == v' <;> cases h2 : hi == hi' <;> cases h3 : lo == lo' <;> simp [go_sem, h1, h2, h3]
end Go.Proofs.YtiiankekobgebaaGreatDoor

namespace Go.Proofs.YtiiankekobgebaaGreatDoor
open Go.RowKit Go.Shelf

def qP : Pf := ⟨false, 0, 8, 30⟩
def a8 : Ad := ⟨false, 0, 8, by decide⟩
def a9 : Ad := ⟨false, 0, 9, by decide⟩
def a10 : Ad := ⟨false, 0, 10, by decide⟩
def lx : Ls := ⟨a9, ⟨#[120]⟩, 15⟩
def ly : Ls := ⟨a10, ⟨#[121]⟩, 6⟩
def lz : Ls := ⟨a10, ⟨#[122]⟩, 8⟩
theorem qP_ok : qP.Ok := ⟨by decide, by decide, by decide, by decide⟩
set_option maxRecDepth 100000 in
theorem g_x : gOut qP [a8] [] ⟨#[120]⟩ 5 10 = (0, [lx], a9) := by kernel_rfl
set_option maxRecDepth 100000 in
theorem g_y : gOut qP [a8] [lx] ⟨#[121]⟩ 5 1 = (0, [lx, ly], a10) := by kernel_rfl
set_option maxRecDepth 100000 in
theorem g_z : gOut qP [a8] [lx, ly] ⟨#[122]⟩ 7 1 = (0, [lx, lz], a10) := by kernel_rfl
set_option maxRecDepth 100000 in
theorem d_7 : lookL [lx, ly] 7 = 0 ∧ dropL [lx, ly] 7 = [lx] ∧ dropN [lx, ly] 7 = 1 := ⟨by kernel_rfl, by kernel_rfl, by kernel_rfl⟩
set_option maxRecDepth 100000 in
theorem p_q : poolE qP [a8] = 0 := by kernel_rfl
set_option maxRecDepth 100000 in
theorem c_q : checkE qP [a8] [lx, ly] 5 = 0 := by kernel_rfl

theorem Box5.unfrozen {W : World} {b : Nat} {p : Pf} {ks : Value} (h : Box5 W b p ks) : W.frozen? ⟨b, 0, none⟩ = false ∧ W.frozen? ⟨b, 1, none⟩ = false ∧ W.frozen? ⟨b, 2, none⟩ = false ∧ W.frozen? ⟨b, 3, none⟩ = false ∧ W.frozen? ⟨b, 4, none⟩ = false := by
  unfold Box5 at h
  simp [World.frozen?, h]
theorem Box5.put {W : World} {b : Nat} {p q : Pf} {ks ks' : Value} (h : Box5 W b p ks) : Box5 (((((W.setCell ⟨b, 0, none⟩ (.bool q.v)).setCell ⟨b, 1, none⟩ (.int .u64 q.hi)).setCell ⟨b, 2, none⟩ (.int .u64 q.lo)).setCell ⟨b, 3, none⟩ (.int .i64 q.b)).setCell ⟨b, 4, none⟩ ks') b q ks' := by
  unfold Box5 at *
  have h1 := heap_setCell_same W b 0 _ _ (.bool q.v) h
  have h2 := heap_setCell_same _ b 1 _ _ (.int .u64 q.hi) h1
  have h3 := heap_setCell_same _ b 2 _ _ (.int .u64 q.lo) h2
  have h4 := heap_setCell_same _ b 3 _ _ (.int .i64 q.b) h3
  have h5 := heap_setCell_same _ b 4 _ _ ks' h4
  rw [h5]
  rfl

set_option maxHeartbeats 4000000 in
theorem quad_any (w : World) : Calls Tryz.prog 15 #[] w fun e w' => ∃ g : Nat, e = .returned (.agg #[.bool false, .int .u64 0, .int .u64 8, .int .i64 30, .slice (some ⟨g, 0, none⟩) 1 1]) ∧ Lies adE w' (some ⟨g, 0, none⟩) [a8] ∧ Below w.heap.size w w' := by
  have hN : Hid (∀ (n b : Int) (w : World), Calls Tryz.prog 21 #[.int .u64 n, .int .i64 b] w fun e w' => e = .returned (.agg #[.bool false, .int .u64 0, .int .u64 n, .int .i64 b]) ∧ Below w.heap.size w w') := net_any
  have hV : Hid (∀ (n : Int) (w : World), Calls Tryz.prog 18 #[.int .u64 n] w fun e w' => e = .returned (.agg #[.bool false, .int .u64 0, .int .u64 n]) ∧ Below w.heap.size w w') := fun n w => (v4_any n w).mono fun e w' h => by obtain ⟨h1, c, rfl⟩ := h; exact ⟨h1, bal (Below.refl _ _) _⟩
  have HX : Hid (Box5 (w.alloc (.cells #[.bool false, .int .u64 0, .int .u64 0, .int .i64 0, .slice none 0 0] 29)) w.heap.size zeroPf (.slice none 0 0)) := Box5.new w zeroPf _
  have HB := Lib.hid (bal (Below.refl w.heap.size w) (.cells #[.bool false, .int .u64 0, .int .u64 0, .int .i64 0, .slice none 0 0] 29))
  go_enter Tryz.func15, Tryz.ntmps15
  go_wp2_with fail
  refine (hN.out _ _ _).mono ?_
  rintro e w1 ⟨rfl, hb1⟩
  go_wp2_with fail
  refine (hV.out _ _).mono ?_
  rintro e w2 ⟨rfl, hb2⟩
  have hb := btr hb1 hb2
  have hx := HX.out.below hb
  obtain ⟨x0, x1, x2, x3, x4⟩ := hx.cells
  obtain ⟨f0, f1, f2, f3, f4⟩ := hx.unfrozen
  have hlt := hx.lt
  have hp := hx.put (q := qP) (ks' := .slice (some ⟨w2.heap.size, 0, none⟩) 1 1)
  have hB2 := btr HB.out hb
  have HL : Hid (Box3 ((((((w2.setCell ⟨w.heap.size, 0, none⟩ (.bool qP.v)).setCell ⟨w.heap.size, 1, none⟩ (.int .u64 qP.hi)).setCell ⟨w.heap.size, 2, none⟩ (.int .u64 qP.lo)).setCell ⟨w.heap.size, 3, none⟩ (.int .i64 qP.b)).setCell ⟨w.heap.size, 4, none⟩ (.slice (some ⟨w2.heap.size, 0, none⟩) 1 1)).alloc (.cells #[.bool a8.v, .int .u64 a8.hi, .int .u64 a8.lo] 24)) w2.heap.size a8) := by
    have := Box3.new (((((w2.setCell ⟨w.heap.size, 0, none⟩ (.bool qP.v)).setCell ⟨w.heap.size, 1, none⟩ (.int .u64 qP.hi)).setCell ⟨w.heap.size, 2, none⟩ (.int .u64 qP.lo)).setCell ⟨w.heap.size, 3, none⟩ (.int .i64 qP.b)).setCell ⟨w.heap.size, 4, none⟩ (.slice (some ⟨w2.heap.size, 0, none⟩) 1 1)) a8
    rw [Hid]
    simpa using this
  have HFin : Hid (Below w.heap.size w ((((((w2.setCell ⟨w.heap.size, 0, none⟩ (.bool qP.v)).setCell ⟨w.heap.size, 1, none⟩ (.int .u64 qP.hi)).setCell ⟨w.heap.size, 2, none⟩ (.int .u64 qP.lo)).setCell ⟨w.heap.size, 3, none⟩ (.int .i64 qP.b)).setCell ⟨w.heap.size, 4, none⟩ (.slice (some ⟨w2.heap.size, 0, none⟩) 1 1)).alloc (.cells #[.bool a8.v, .int .u64 a8.hi, .int .u64 a8.lo] 24))) :=
    bal (bse (bse (bse (bse (bse hB2 (Nat.le_refl _) _) (Nat.le_refl _) _) (Nat.le_refl _) _) (Nat.le_refl _) _) (Nat.le_refl _) _) _
  obtain ⟨u0, u1, u2, u3, u4⟩ := (hp.below (bal (Below.refl _ _) (.cells #[.bool a8.v, .int .u64 a8.hi, .int .u64 a8.lo] 24))).cells
  simp only [qP, a8] at u0 u1 u2 u3 u4 HL HFin
  clear hp hx hb hb1 hb2 HX HB hB2
  go_wp2_with fail
  refine ⟨rfl, .agg #[.bool false, .int .u64 0, .int .u64 8, .int .i64 30, .slice (some ⟨w2.heap.size, 0, none⟩) 1 1], by simp [results, Tryz.f15, go_sem, u0, u1, u2, u3, u4], w2.heap.size, rfl, ?_, HFin.out⟩
  intro j hj
  obtain rfl : j = 0 := by simpa using hj
  refine ⟨w2.heap.size, 0, rfl, HL.out.lt, ?_⟩
  obtain ⟨⟨c0, c1, c2⟩, _⟩ := HL.out.cells
  intro i v hv
  match i, hv with
  | 0, hv => simpa [adE, a8] using (c0.trans (by simpa [adE, a8] using hv))
  | 1, hv => simpa [adE, a8] using (c1.trans (by simpa [adE, a8] using hv))
  | 2, hv => simpa [adE, a8] using (c2.trans (by simpa [adE, a8] using hv))
theorem keepB3 {w W W' : World} {p q r : Nat} {x0 x1 x2 y0 y1 y2 z0 z1 z2 : Value} (h : (W.cell? ⟨p, 0, none⟩ = some x0 ∧ W.cell? ⟨p, 1, none⟩ = some x1 ∧ W.cell? ⟨p, 2, none⟩ = some x2 ∧ p < W.heap.size) ∧ (W.cell? ⟨q, 0, none⟩ = some y0 ∧ W.cell? ⟨q, 1, none⟩ = some y1 ∧ W.cell? ⟨q, 2, none⟩ = some y2 ∧ q < W.heap.size) ∧ (W.cell? ⟨r, 0, none⟩ = some z0 ∧ W.cell? ⟨r, 1, none⟩ = some z1 ∧ W.cell? ⟨r, 2, none⟩ = some z2 ∧ r < W.heap.size) ∧ Below w.heap.size w W) (hb : Below W.heap.size W W') :
    (W'.cell? ⟨p, 0, none⟩ = some x0 ∧ W'.cell? ⟨p, 1, none⟩ = some x1 ∧ W'.cell? ⟨p, 2, none⟩ = some x2 ∧ p < W'.heap.size) ∧ (W'.cell? ⟨q, 0, none⟩ = some y0 ∧ W'.cell? ⟨q, 1, none⟩ = some y1 ∧ W'.cell? ⟨q, 2, none⟩ = some y2 ∧ q < W'.heap.size) ∧ (W'.cell? ⟨r, 0, none⟩ = some z0 ∧ W'.cell? ⟨r, 1, none⟩ = some z1 ∧ W'.cell? ⟨r, 2, none⟩ = some z2 ∧ r < W'.heap.size) ∧ Below w.heap.size w W' := by
  obtain ⟨⟨a, b, c, d⟩, ⟨e, f, g, i⟩, ⟨j, k, l, m⟩, n⟩ := h
  obtain ⟨h1, _⟩ := bcell hb
  have hs := hb.size
  refine ⟨⟨?_, ?_, ?_, by omega⟩, ⟨?_, ?_, ?_, by omega⟩, ⟨?_, ?_, ?_, by omega⟩, btr n hb⟩
  · rw [h1 _ _ d]; exact a
  · rw [h1 _ _ d]; exact b
  · rw [h1 _ _ d]; exact c
  · rw [h1 _ _ i]; exact e
  · rw [h1 _ _ i]; exact f
  · rw [h1 _ _ i]; exact g
  · rw [h1 _ _ m]; exact j
  · rw [h1 _ _ m]; exact k
  · rw [h1 _ _ m]; exact l

set_option maxHeartbeats 16000000 in
set_option maxRecDepth 100000 in
theorem lbegun_any (w : World) : Calls Tryz.prog 5 #[] w fun e w' => e = .returned (.bool true) ∧ Below w.heap.size w w' := by
  have hQ : Hid (∀ w : World, Calls Tryz.prog 15 #[] w fun e w' => ∃ g : Nat, e = .returned (.agg #[.bool false, .int .u64 0, .int .u64 8, .int .i64 30, .slice (some ⟨g, 0, none⟩) 1 1]) ∧ Lies adE w' (some ⟨g, 0, none⟩) [a8] ∧ Below w.heap.size w w') := quad_any
  have hV : Hid (∀ (n : Int) (w : World), Calls Tryz.prog 18 #[.int .u64 n] w fun e w' => e = .returned (.agg #[.bool false, .int .u64 0, .int .u64 n]) ∧ Below w.heap.size w w') := fun n w => (v4_any n w).mono fun e w' h => by obtain ⟨h1, c, rfl⟩ := h; exact ⟨h1, bal (Below.refl _ _) _⟩
  have h1 : Hid (∀ (g : Nat) (w : World), Lies adE w (some ⟨g, 0, none⟩) [a8] → Calls Tryz.prog 7 #[.agg #[.bool false, .int .u64 0, .int .u64 8, .int .i64 30, .slice (some ⟨g, 0, none⟩) 1 1], .slice none 0 0, .string ⟨#[120]⟩, .int .i64 5, .int .i64 10] w fun e w' => ∃ a4 c4, e = .returned (.tuple #[.slice a4 1 c4, .agg #[.bool false, .int .u64 0, .int .u64 9], .int .i64 0]) ∧ Lies lsE w' a4 [lx] ∧ Below w.heap.size w w') := fun g w h => by
    have := lgrant_any qP qP_ok (some ⟨g, 0, none⟩) 1 [a8] none 0 [] ⟨#[120]⟩ 5 10 w h (Lies.nil _ _ _)
    rw [g_x] at this
    exact this
  have h2 : Hid (∀ (g : Nat) (a : Option Addr) (c : Nat) (w : World), Lies adE w (some ⟨g, 0, none⟩) [a8] → Lies lsE w a [lx] → Calls Tryz.prog 7 #[.agg #[.bool false, .int .u64 0, .int .u64 8, .int .i64 30, .slice (some ⟨g, 0, none⟩) 1 1], .slice a 1 c, .string ⟨#[121]⟩, .int .i64 5, .int .i64 1] w fun e w' => ∃ a4 c4, e = .returned (.tuple #[.slice a4 2 c4, .agg #[.bool false, .int .u64 0, .int .u64 10], .int .i64 0]) ∧ Lies lsE w' a4 [lx, ly] ∧ Below w.heap.size w w') := fun g a c w h hl => by
    have := lgrant_any qP qP_ok (some ⟨g, 0, none⟩) 1 [a8] a c [lx] ⟨#[121]⟩ 5 1 w h hl
    rw [g_y] at this
    exact this
  have h3 : Hid (∀ (g : Nat) (a : Option Addr) (c : Nat) (w : World), Lies adE w (some ⟨g, 0, none⟩) [a8] → Lies lsE w a [lx, ly] → Calls Tryz.prog 7 #[.agg #[.bool false, .int .u64 0, .int .u64 8, .int .i64 30, .slice (some ⟨g, 0, none⟩) 1 1], .slice a 2 c, .string ⟨#[122]⟩, .int .i64 7, .int .i64 1] w fun e w' => ∃ a4 c4, e = .returned (.tuple #[.slice a4 2 c4, .agg #[.bool false, .int .u64 0, .int .u64 10], .int .i64 0]) ∧ Below w.heap.size w w') := fun g a c w h hl => by
    have := lgrant_any qP qP_ok (some ⟨g, 0, none⟩) 1 [a8] a c [lx, ly] ⟨#[122]⟩ 7 1 w h hl
    rw [g_z] at this
    exact this.mono fun e w' ⟨a4, c4, h1, h2, h3⟩ => ⟨a4, c4, h1, h3⟩
  have h4 : Hid (∀ (a : Option Addr) (c : Nat) (w : World), Lies lsE w a [lx, ly] → Calls Tryz.prog 16 #[.slice a 2 c, .int .i64 7] w fun e w' => ∃ a4 c4, e = .returned (.tuple #[.slice a4 1 c4, .int .i64 1, .int .i64 0]) ∧ Below w.heap.size w w') := fun a c w hl => by
    have := ldrop_any a c [lx, ly] 7 w hl
    rw [d_7.1, d_7.2.1, d_7.2.2] at this
    exact this.mono fun e w' ⟨a4, c4, h1, h2, h3⟩ => ⟨a4, c4, h1, h3⟩
  have h5 : Hid (∀ (g : Nat) (w : World), Lies adE w (some ⟨g, 0, none⟩) [a8] → Calls Tryz.prog 17 #[.agg #[.bool false, .int .u64 0, .int .u64 8, .int .i64 30, .slice (some ⟨g, 0, none⟩) 1 1]] w fun e w' => e = .returned (.int .i64 0) ∧ Below w.heap.size w w') := fun g w h => by
    have := pool_any qP qP_ok (some ⟨g, 0, none⟩) 1 [a8] w h
    rw [p_q] at this
    exact this
  have h6 : Hid (∀ (g : Nat) (a : Option Addr) (c : Nat) (w : World), Lies adE w (some ⟨g, 0, none⟩) [a8] → Lies lsE w a [lx, ly] → Calls Tryz.prog 8 #[.agg #[.bool false, .int .u64 0, .int .u64 8, .int .i64 30, .slice (some ⟨g, 0, none⟩) 1 1], .slice a 2 c, .int .i64 5] w fun e w' => e = .returned (.int .i64 0) ∧ Below w.heap.size w w') := fun g a c w h hl => by
    have := check_ls qP qP_ok (some ⟨g, 0, none⟩) 1 [a8] a c [lx, ly] 5 w h hl
    rw [c_q] at this
    exact this
  go_enter Tryz.func5, Tryz.ntmps5
  go_wp2_with fail
  refine (hQ.out _).mono ?_
  rintro e w1 ⟨g1, rfl, hk1, hb1⟩
  go_wp2_with fail
  refine (h1.out _ _ hk1).mono ?_
  rintro e w2 ⟨a2, c2, rfl, hl2, hb2⟩
  have HB := Lib.hid (bal (btr hb1 hb2) (.cells #[.bool false, .int .u64 0, .int .u64 9] 24))
  have HX := Lib.hid (Box3.new w2 a9)
  have HL := Lib.hid (hl2.below (bal (Below.refl _ _) (.cells #[.bool false, .int .u64 0, .int .u64 9] 24)))
  clear hk1 hb1 hl2 hb2 h1
  obtain ⟨xb, hxb⟩ : ∃ xb, xb = w2.heap.size := ⟨_, rfl⟩
  go_wp2_with fail
  rw [← hxb] at HX ⊢
  rw [show (Box3 (w2.alloc (.cells #[.bool a9.v, .int .u64 a9.hi, .int .u64 a9.lo] 24)) xb a9) = (Box3 (w2.alloc (.cells #[.bool false, .int .u64 0, .int .u64 9] 24)) xb a9) from rfl] at HX
  generalize w2.alloc (.cells #[.bool false, .int .u64 0, .int .u64 9] 24) = w3 at *
  clear hxb
  refine (hQ.out _).mono ?_
  rintro e w4 ⟨g2, rfl, hk4, hb4⟩
  have hl4 := HL.out.below hb4
  go_wp2_with fail
  refine (h2.out _ _ _ _ hk4 hl4).mono ?_
  rintro e w5 ⟨a5, c5, rfl, hl5, hb5⟩
  replace HB := Lib.hid (bal (btr HB.out (btr hb4 hb5)) (.cells #[.bool false, .int .u64 0, .int .u64 10] 24))
  replace HX := Lib.hid ((HX.out.below (btr hb4 hb5)).below (bal (Below.refl _ _) (.cells #[.bool false, .int .u64 0, .int .u64 10] 24)))
  have HY := Lib.hid (Box3.new w5 a10)
  replace HL := Lib.hid (hl5.below (bal (Below.refl _ _) (.cells #[.bool false, .int .u64 0, .int .u64 10] 24)))
  clear hk4 hb4 hl4 hl5 hb5 h2
  obtain ⟨yb, hyb⟩ : ∃ yb, yb = w5.heap.size := ⟨_, rfl⟩
  go_wp2_with fail
  rw [← hyb] at HY ⊢
  rw [show (Box3 (w5.alloc (.cells #[.bool a10.v, .int .u64 a10.hi, .int .u64 a10.lo] 24)) yb a10) = (Box3 (w5.alloc (.cells #[.bool false, .int .u64 0, .int .u64 10] 24)) yb a10) from rfl] at HY
  generalize w5.alloc (.cells #[.bool false, .int .u64 0, .int .u64 10] 24) = w6 at *
  clear hyb
  refine (hQ.out _).mono ?_
  rintro e w7 ⟨g3, rfl, hk7, hb7⟩
  have hl7 := HL.out.below hb7
  go_wp2_with fail
  refine (h3.out _ _ _ _ hk7 hl7).mono ?_
  rintro e w8 ⟨a8', c8, rfl, hb8⟩
  replace HB := Lib.hid (bal (btr HB.out (btr hb7 hb8)) (.cells #[.bool false, .int .u64 0, .int .u64 10] 24))
  replace HX := Lib.hid ((HX.out.below (btr hb7 hb8)).below (bal (Below.refl _ _) (.cells #[.bool false, .int .u64 0, .int .u64 10] 24)))
  replace HY := Lib.hid ((HY.out.below (btr hb7 hb8)).below (bal (Below.refl _ _) (.cells #[.bool false, .int .u64 0, .int .u64 10] 24)))
  have HZ := Lib.hid (Box3.new w8 a10)
  replace HL := Lib.hid ((HL.out.below (btr hb7 hb8)).below (bal (Below.refl _ _) (.cells #[.bool false, .int .u64 0, .int .u64 10] 24)))
  clear hk7 hb7 hl7 hb8 h3
  obtain ⟨zb, hzb⟩ : ∃ zb, zb = w8.heap.size := ⟨_, rfl⟩
  go_wp2_with fail
  rw [← hzb] at HZ ⊢
  rw [show (Box3 (w8.alloc (.cells #[.bool a10.v, .int .u64 a10.hi, .int .u64 a10.lo] 24)) zb a10) = (Box3 (w8.alloc (.cells #[.bool false, .int .u64 0, .int .u64 10] 24)) zb a10) from rfl] at HZ
  generalize w8.alloc (.cells #[.bool false, .int .u64 0, .int .u64 10] 24) = w9 at *
  clear hzb
  refine (h4.out _ _ _ HL.out).mono ?_
  rintro e wb ⟨ad, cd, rfl, hbd⟩
  replace HB := Lib.hid (btr HB.out hbd)
  replace HX := Lib.hid (HX.out.below hbd)
  replace HY := Lib.hid (HY.out.below hbd)
  replace HZ := Lib.hid (HZ.out.below hbd)
  replace HL := Lib.hid (HL.out.below hbd)
  clear hbd h4
  have HSd := Lib.hid (keepB3 (w := wb) ⟨⟨HX.out.cells.1.1, HX.out.cells.1.2.1, HX.out.cells.1.2.2, HX.out.lt⟩, ⟨HY.out.cells.1.1, HY.out.cells.1.2.1, HY.out.cells.1.2.2, HY.out.lt⟩, ⟨HZ.out.cells.1.1, HZ.out.cells.1.2.1, HZ.out.cells.1.2.2, HZ.out.lt⟩, Below.refl _ _⟩ (Below.refl _ _).drew)
  simp only [a9, a10] at HSd
  clear HX HY HZ
  go_wp2_with fail
  go_region_held3 (fun w' => (w'.cell? ⟨xb, 0, none⟩ = some (.bool false) ∧ w'.cell? ⟨xb, 1, none⟩ = some (.int .u64 0) ∧ w'.cell? ⟨xb, 2, none⟩ = some (.int .u64 9) ∧ xb < w'.heap.size) ∧ (w'.cell? ⟨yb, 0, none⟩ = some (.bool false) ∧ w'.cell? ⟨yb, 1, none⟩ = some (.int .u64 0) ∧ w'.cell? ⟨yb, 2, none⟩ = some (.int .u64 10) ∧ yb < w'.heap.size) ∧ (w'.cell? ⟨zb, 0, none⟩ = some (.bool false) ∧ w'.cell? ⟨zb, 1, none⟩ = some (.int .u64 0) ∧ w'.cell? ⟨zb, 2, none⟩ = some (.int .u64 10) ∧ zb < w'.heap.size) ∧ Below wb.heap.size wb w')
    (first | with_reducible exact HSd.out | fail)
    (first
      | (go_at_call 15; refine (hQ.out _).mono ?_; rintro e wx ⟨gq, rfl, hk, hb⟩; replace HSd := Lib.hid (keepB3 HSd.out hb); have HKq := Lib.hid hk; clear hk hb)
      | (go_at_call 17; refine (h5.out _ _ HKq.out).mono ?_; rintro e wx ⟨rfl, hb⟩; replace HSd := Lib.hid (keepB3 HSd.out hb); clear hb HKq)
      | (go_at_call 8; refine (h6.out _ _ _ _ HKq.out (HL.out.below HSd.out.2.2.2)).mono ?_; rintro e wx ⟨rfl, hb⟩; replace HSd := Lib.hid (keepB3 HSd.out hb); clear hb HKq)
      | (go_at_call 18; refine (hV.out _ _).mono ?_; rintro e wx ⟨rfl, hb⟩; replace HSd := Lib.hid (keepB3 HSd.out hb); clear hb))
  have HBz : Hid (Below w.heap.size w wx) := btr HB.out HSd.out.2.2.2
  clear HSd
  go_wp2_with fail
  go_ret
  exact ⟨rfl, HBz.out⟩
end Go.Proofs.YtiiankekobgebaaGreatDoor

namespace Go.Proofs.YtiiankekobgebaaGreatDoor
open Go.RowKit Go.Shelf

/-- Where an address stands among all. -/
def Ad.key (x : Ad) : Int := if x.v = true then 4294967296 + x.n else x.n
theorem less_key {x y : Ad} (cx : chk x.v x.hi x.lo = 0) (cy : chk y.v y.hi y.lo = 0) : x.less y = true ↔ x.key < y.key := by
  unfold Ad.less
  rw [(less_num x.ok.2 y.ok.2 cx cy).2]
  have hx := Ad.n_top cx
  have hy := Ad.n_top cy
  have ht : top false = 4294967296 := by decide
  unfold Ad.key
  unfold Ad.n at *
  cases hv : x.v <;> cases hu : y.v <;> simp [hv, hu] at * <;> omega
/-- All right, and they rise. -/
def Rise (l : List Ls) : Prop := (∀ x ∈ l, x.rgt = 0) ∧ l.Pairwise (fun x y => x.a.key < y.a.key)
theorem rgtAll_iff (l : List Ls) : rgtAll l = 0 ↔ ∀ x ∈ l, x.rgt = 0 := by
  induction l with
  | nil => simp [rgtAll]
  | cons x r ih =>
    rw [rgtAll]
    by_cases h : x.rgt = 0
    · rw [if_pos h, ih]; simp [h]
    · rw [if_neg h]; simp [h]
theorem rgt_chk0 {x : Ls} (h : x.rgt = 0) : chk x.a.v x.a.hi x.a.lo = 0 := by
  unfold Ls.rgt at h
  by_cases hc : chk x.a.v x.a.hi x.a.lo = 0
  · exact hc
  · rw [if_neg hc] at h; exact absurd h hc
theorem rises_iff : ∀ (l : List Ls), (∀ x ∈ l, x.rgt = 0) → (rises l = true ↔ l.Pairwise (fun x y => x.a.key < y.a.key))
  | [], _ => by simp [rises]
  | [x], _ => by simp [rises]
  | x :: y :: r, h => by
    have ih := rises_iff (y :: r) (fun z hz => h z (by simp [hz]))
    rw [rises, Bool.and_eq_true, ih, less_key (rgt_chk0 (h x (by simp))) (rgt_chk0 (h y (by simp))), List.pairwise_cons (a := x)]
    constructor
    · rintro ⟨h1, h2⟩
      refine ⟨fun z hz => ?_, h2⟩
      rcases List.mem_cons.1 hz with rfl | hz
      · exact h1
      · have := (List.pairwise_cons.1 h2).1 z hz
        omega
    · rintro ⟨h1, h2⟩
      exact ⟨h1 y (by simp), h2⟩
theorem look_iff (l : List Ls) (now : Int) : lookL l now = 0 ↔ l.length ≤ 20 ∧ Rise l ∧ 0 ≤ now ∧ now ≤ 9999 := by
  unfold lookL
  by_cases h1 : 20 < l.length
  · rw [if_pos h1]
    constructor
    · intro h; simp at h
    · rintro ⟨h, _⟩; omega
  · rw [if_neg h1]
    by_cases h2 : rgtAll l = 0
    · rw [if_pos h2]
      have hr := (rgtAll_iff l).1 h2
      by_cases h3 : rises l = true
      · rw [if_pos h3]
        have hp := (rises_iff l hr).1 h3
        by_cases h4 : now < 0 ∨ 9999 < now
        · rw [if_pos h4]
          constructor
          · intro h; simp at h
          · rintro ⟨_, _, h, h'⟩; omega
        · rw [if_neg h4]
          exact ⟨fun _ => ⟨by omega, ⟨hr, hp⟩, by omega, by omega⟩, fun _ => rfl⟩
      · rw [if_neg h3]
        constructor
        · intro h; simp at h
        · rintro ⟨_, ⟨_, hp⟩, _⟩
          exact absurd ((rises_iff l hr).2 hp) h3
    · rw [if_neg h2]
      constructor
      · intro h; exact absurd h h2
      · rintro ⟨_, ⟨hr, _⟩, _⟩
        exact absurd ((rgtAll_iff l).2 hr) h2
theorem Rise.live {l : List Ls} (h : Rise l) (now : Int) : Rise (live l now) :=
  ⟨fun x hx => h.1 x (live_sub hx), h.2.sublist List.filter_sublist⟩
theorem look_live {l : List Ls} {now m m' : Int} (h : lookL l now = 0) (h0 : 0 ≤ m') (h1 : m' ≤ 9999) : lookL (live l m) m' = 0 := by
  rw [look_iff] at h ⊢
  exact ⟨Nat.le_trans (List.length_filter_le _ _) h.1, h.2.1.live m, h0, h1⟩
theorem look_at {l : List Ls} {now m : Int} (h : lookL l now = 0) (h0 : 0 ≤ m) (h1 : m ≤ 9999) : lookL l m = 0 := by
  rw [look_iff] at h ⊢
  exact ⟨h.1, h.2.1, h0, h1⟩
theorem live_live (l : List Ls) {now later : Int} (h : now ≤ later) : live (live l now) later = live l later := by
  unfold live
  rw [List.filter_filter]
  congr 1
  funext x
  rw [Bool.eq_iff_iff]
  simp
  omega
theorem live_un {l : List Ls} {now : Int} {x : Ls} (h : x ∈ live l now) : now ≤ x.un := by
  have := (List.mem_filter.1 h).2
  simp at this
  omega
end Go.Proofs.YtiiankekobgebaaGreatDoor

namespace Go.Proofs.YtiiankekobgebaaGreatDoor
open Go.RowKit Go.Shelf

theorem chkOf_iff (p : Pf) : ∀ (l done : List Ls), chkOf p done l = 0 ↔ (∀ x ∈ l, p.inA x.a.v x.a.hi x.a.lo = true) ∧ (∀ x ∈ l, ∀ y ∈ done, y.who ≠ x.who) ∧ l.Pairwise (fun x y => x.who ≠ y.who)
  | [], done => by simp [chkOf]
  | x :: r, done => by
    have ih := chkOf_iff p r (done ++ [x])
    rw [chkOf]
    by_cases h1 : p.inA x.a.v x.a.hi x.a.lo = true
    · rw [if_pos h1]
      by_cases h2 : done.any (Ls.hasWho x.who) = true
      · rw [if_pos h2]
        constructor
        · intro h; simp at h
        · rintro ⟨_, h, _⟩
          rw [List.any_eq_true] at h2
          obtain ⟨y, hy, hw⟩ := h2
          exact absurd (by simpa [Ls.hasWho] using hw) (h x (by simp) y hy)
      · rw [if_neg h2, ih]
        have h2' : ∀ y ∈ done, y.who ≠ x.who := fun y hy e => h2 (List.any_eq_true.2 ⟨y, hy, by simp [Ls.hasWho, e]⟩)
        constructor
        · rintro ⟨a, b, c⟩
          refine ⟨?_, ?_, ?_⟩
          · intro z hz
            rcases List.mem_cons.1 hz with rfl | hz
            · exact h1
            · exact a z hz
          · intro z hz y hy
            rcases List.mem_cons.1 hz with rfl | hz
            · exact h2' y hy
            · exact b z hz y (by simp [hy])
          · rw [List.pairwise_cons]
            exact ⟨fun z hz => b z hz x (by simp), c⟩
        · rintro ⟨a, b, c⟩
          rw [List.pairwise_cons] at c
          refine ⟨fun z hz => a z (by simp [hz]), ?_, c.2⟩
          intro z hz y hy
          rcases List.mem_append.1 hy with hy | hy
          · exact b z (by simp [hz]) y hy
          · obtain rfl : y = x := by simpa using hy
            exact c.1 z hz
    · rw [if_neg h1]
      constructor
      · intro h; simp at h
      · rintro ⟨a, _, _⟩; exact absurd (a x (by simp)) h1
/-- Leases of a pool that are right. -/
structure GoodL (p : Pf) (l : List Ls) : Prop where
  rise : Rise l
  ins : ∀ x ∈ l, p.inA x.a.v x.a.hi x.a.lo = true
  who : l.Pairwise (fun x y => x.who ≠ y.who)
theorem check_iff (p : Pf) (kept : List Ad) (l : List Ls) (now : Int) : checkE p kept l now = 0 ↔ poolE p kept = 0 ∧ l.length ≤ 20 ∧ (0 ≤ now ∧ now ≤ 9999) ∧ GoodL p l := by
  unfold checkE
  by_cases h1 : poolE p kept = 0
  · rw [if_pos h1]
    by_cases h2 : lookL l now = 0
    · rw [if_pos h2, chkOf_iff]
      obtain ⟨a, b, c⟩ := (look_iff l now).1 h2
      constructor
      · rintro ⟨d, _, e⟩; exact ⟨h1, a, c, b, d, e⟩
      · rintro ⟨_, _, _, _, d, e⟩; exact ⟨d, fun _ _ _ h => by simp at h, e⟩
    · rw [if_neg h2]
      constructor
      · intro h; exact absurd h h2
      · rintro ⟨_, a, c, g⟩; exact absurd ((look_iff l now).2 ⟨a, g.rise, c⟩) h2
  · rw [if_neg h1]
    constructor
    · intro h; exact absurd h h1
    · rintro ⟨h, _⟩; exact absurd h h1
theorem GoodL.live {p : Pf} {l : List Ls} (g : GoodL p l) (now : Int) : GoodL p (live l now) := ⟨g.rise.live now, fun x hx => g.ins x (live_sub hx), g.who.sublist List.filter_sublist⟩
theorem key_inj {x y : Ad} (cx : chk x.v x.hi x.lo = 0) (cy : chk y.v y.hi y.lo = 0) (h : x.key = y.key) : x = y := by
  have hx := Ad.n_top cx
  have hy := Ad.n_top cy
  have ht : top false = 4294967296 := by decide
  unfold Ad.key at h
  cases hv : x.v <;> cases hu : y.v <;> simp [hv, hu] at h hx hy
  · exact ad_same (by rw [hv, hu]) h
  · omega
  · omega
  · exact ad_same (by rw [hv, hu]) (by omega)
theorem rise_len : ∀ (l : List Ls) (a b : Int), l.Pairwise (fun x y => x.a.key < y.a.key) → (∀ x ∈ l, a ≤ x.a.key ∧ x.a.key < b) → (l.length : Int) ≤ (b - a).toNat
  | [], a, b, _, _ => by simp only [List.length_nil]; omega
  | x :: r, a, b, hp, h => by
    rw [List.pairwise_cons] at hp
    have ih := rise_len r (x.a.key + 1) b hp.2 (fun y hy => ⟨by have := hp.1 y hy; omega, (h y (by simp [hy])).2⟩)
    have hx := h x (by simp)
    rw [List.length_cons]
    omega
theorem key_in {p : Pf} (r : p.R) {x : Ad} (c : chk x.v x.hi x.lo = 0) (h : p.inA x.v x.hi x.lo = true) : (adK p 0).key ≤ x.key ∧ x.key < (adK p 0).key + p.many := by
  rw [inA_num r c] at h
  have h0 := adK_n r (many_pos p)
  have hm := Pf.many_amt (p := p)
  have hv : (adK p 0).v = p.v := rfl
  unfold Ad.key
  rw [h0, hv, h.1]
  cases p.v <;> simp <;> omega
theorem GoodL.len {p : Pf} (r : p.R) {l : List Ls} (g : GoodL p l) : l.length ≤ p.many := by
  have h := rise_len l (adK p 0).key ((adK p 0).key + p.many) g.rise.2 (fun x hx => key_in r (rgt_chk0 (g.rise.1 x hx)) (g.ins x hx))
  omega
theorem rgt_iff (x : Ls) : x.rgt = 0 ↔ chk x.a.v x.a.hi x.a.lo = 0 ∧ whoB x.who = true ∧ 0 ≤ x.un ∧ x.un ≤ 10499 := by
  unfold Ls.rgt
  by_cases h1 : chk x.a.v x.a.hi x.a.lo = 0
  · rw [if_pos h1]
    by_cases h2 : whoB x.who = true
    · rw [if_pos h2]
      by_cases h3 : x.un < 0 ∨ 10499 < x.un
      · rw [if_pos h3]; constructor
        · intro h; simp at h
        · rintro ⟨_, _, a, b⟩; omega
      · rw [if_neg h3]; exact ⟨fun _ => ⟨h1, h2, by omega, by omega⟩, fun _ => rfl⟩
    · rw [if_neg h2]; constructor
      · intro h; simp at h
      · rintro ⟨_, h, _⟩; exact absurd h h2
  · rw [if_neg h1]; constructor
    · intro h; exact absurd h h1
    · rintro ⟨h, _⟩; exact absurd h h1
/-- What a grant brings: X is who's, till un; nobody else's lease is other. -/
structure Brings (p : Pf) (L M : List Ls) (who : ByteArray) (un : Int) (X : Ad) : Prop where
  good : GoodL p M
  inp : p.inA X.v X.hi X.lo = true
  at' : ∃ i, ∃ h : i < M.length, M.findIdx? (Ls.hasWho who) = some i ∧ M[i].a = X ∧ M[i].un = un
  keep : ∀ y ∈ L, y.who ≠ who → y ∈ M
  from' : ∀ y ∈ M, y.who ≠ who → y ∈ L
  un' : ∀ y ∈ M, y.who = who → y.un = un
theorem idx_who {L : List Ls} {who : ByteArray} {i : Nat} (h : L.findIdx? (Ls.hasWho who) = some i) : ∃ hi : i < L.length, L[i].who = who ∧ ∀ j (hj : j < i), L[j].who ≠ who := by
  obtain ⟨hi, h1, h2⟩ := List.findIdx?_eq_some_iff_getElem.1 h
  exact ⟨hi, by simpa [Ls.hasWho] using h1, fun j hj => by simpa [Ls.hasWho] using h2 j hj⟩
theorem who_idx {M : List Ls} (hw : M.Pairwise (fun x y => x.who ≠ y.who)) {i : Nat} (hi : i < M.length) : M.findIdx? (Ls.hasWho M[i].who) = some i := by
  rw [List.findIdx?_eq_some_iff_getElem]
  refine ⟨hi, by simp [Ls.hasWho], fun j hj => ?_⟩
  have := List.pairwise_iff_getElem.1 hw j i (by omega) hi hj
  simpa [Ls.hasWho] using this
theorem brings_has {p : Pf} {L : List Ls} {who : ByteArray} {un : Int} {i : Nat} (g : GoodL p L) (h0 : 0 ≤ un) (h1 : un ≤ 10499) (hf : L.findIdx? (Ls.hasWho who) = some i) (hi : i < L.length) :
    Brings p L (L.set i ⟨L[i].a, L[i].who, un⟩) who un L[i].a := by
  obtain ⟨_, hwi, _⟩ := idx_who hf
  have hget : ∀ j (hj : j < (L.set i ⟨L[i].a, L[i].who, un⟩).length), (L.set i ⟨L[i].a, L[i].who, un⟩)[j].a = (L[j]'(by simpa using hj)).a ∧ (L.set i ⟨L[i].a, L[i].who, un⟩)[j].who = (L[j]'(by simpa using hj)).who := fun j hj => by
    rw [List.getElem_set]
    by_cases e : i = j
    · rw [if_pos e]; subst e; exact ⟨rfl, rfl⟩
    · rw [if_neg e]; exact ⟨rfl, rfl⟩
  have hlen : (L.set i ⟨L[i].a, L[i].who, un⟩).length = L.length := List.length_set
  have hwho : (L.set i ⟨L[i].a, L[i].who, un⟩).Pairwise (fun x y => x.who ≠ y.who) := by
    rw [List.pairwise_iff_getElem]
    intro a b ha hb hab
    rw [(hget a ha).2, (hget b hb).2]
    exact List.pairwise_iff_getElem.1 g.who a b (by omega) (by omega) hab
  have hmem : ∀ x ∈ L.set i ⟨L[i].a, L[i].who, un⟩, x = ⟨L[i].a, L[i].who, un⟩ ∨ x ∈ L := fun x hx => by
    rcases List.mem_or_eq_of_mem_set hx with h | h
    · exact .inr h
    · exact .inl h
  refine ⟨⟨⟨?_, ?_⟩, ?_, hwho⟩, g.ins _ (List.getElem_mem hi), ⟨i, by omega, ?_, ?_, ?_⟩, ?_, ?_, ?_⟩
  · intro x hx
    rcases hmem x hx with rfl | h
    · have := (rgt_iff L[i]).1 (g.rise.1 _ (List.getElem_mem hi))
      exact (rgt_iff _).2 ⟨this.1, this.2.1, h0, h1⟩
    · exact g.rise.1 x h
  · rw [List.pairwise_iff_getElem]
    intro a b ha hb hab
    rw [(hget a ha).1, (hget b hb).1]
    exact List.pairwise_iff_getElem.1 g.rise.2 a b (by omega) (by omega) hab
  · intro x hx
    rcases hmem x hx with rfl | h
    · show p.inA L[i].a.v L[i].a.hi L[i].a.lo = true
      exact g.ins _ (List.getElem_mem hi)
    · exact g.ins x h
  · have h3 := who_idx hwho (i := i) (by omega)
    have h4 : ((L.set i ⟨L[i].a, L[i].who, un⟩)[i]'(by omega)).who = who := ((hget i (by omega)).2).trans hwi
    rw [h4] at h3
    exact h3
  · simp
  · simp
  · intro y hy hne
    obtain ⟨j, hj, rfl⟩ := List.mem_iff_getElem.1 hy
    have e : i ≠ j := fun e => hne (by subst e; exact hwi)
    have : (L.set i ⟨L[i].a, L[i].who, un⟩)[j]'(by omega) = L[j] := by rw [List.getElem_set, if_neg e]
    rw [← this]
    exact List.getElem_mem _
  · intro y hy hne
    rcases hmem y hy with rfl | h
    · exact absurd hwi hne
    · exact h
  · intro y hy he
    rcases hmem y hy with rfl | h
    · rfl
    · obtain ⟨j, hj, rfl⟩ := List.mem_iff_getElem.1 hy
      rw [List.getElem_set]
      by_cases e : i = j
      · rw [if_pos e]
      · exfalso
        rw [(hget j hj).2] at he
        have hj' : j < L.length := by omega
        rcases Nat.lt_or_gt_of_ne e with h' | h'
        · exact List.pairwise_iff_getElem.1 g.who i j hi hj' h' (by rw [hwi, he])
        · exact List.pairwise_iff_getElem.1 g.who j i hj' hi h' (by rw [hwi, he])
theorem brings_new {p : Pf} (r : p.R) {kept : List Ad} {L : List Ls} {who : ByteArray} {un : Int} {k : Nat} (g : GoodL p L) (hw : whoB who = true) (h0 : 0 ≤ un) (h1 : un ≤ 10499) (hf : L.findIdx? (Ls.hasWho who) = none) (hk : k < p.many) (hfr : freeA kept L (adK p k) = true) :
    Brings p L (insOf ⟨adK p k, who, un⟩ L) who un (adK p k) := by
  obtain ⟨x, hx⟩ : ∃ x : Ls, x = ⟨adK p k, who, un⟩ := ⟨_, rfl⟩
  rw [← hx]
  have cx : chk x.a.v x.a.hi x.a.lo = 0 := by rw [hx]; exact adOf_chk (adK_ok r hk).1 (adK_ok r hk).2
  have hin : p.inA x.a.v x.a.hi x.a.lo = true := by
    rw [inA_num r cx]
    have hn : x.a.n = p.n + k := by rw [hx]; exact adK_n r hk
    have := Pf.many_amt (p := p)
    exact ⟨by rw [hx]; rfl, by omega, by omega⟩
  have hxw : x.who = who := by rw [hx]
  have hxa : x.a = adK p k := by rw [hx]
  have hxu : x.un = un := by rw [hx]
  have hnw : ∀ y ∈ L, y.who ≠ who := fun y hy e => by
    rw [List.findIdx?_eq_none_iff] at hf
    have := hf y hy
    simp [Ls.hasWho, e] at this
  have hna : ∀ y ∈ L, y.a ≠ x.a := fun y hy e => by
    unfold freeA at hfr
    simp only [Bool.and_eq_true, Bool.not_eq_true'] at hfr
    have := hfr.2
    rw [List.any_eq_false] at this
    exact this y hy ((sameA_iff _ _).2 (by rw [← hxa]; exact e))
  have hs := spot_le x L
  have hck : ∀ y ∈ L, chk y.a.v y.a.hi y.a.lo = 0 := fun y hy => rgt_chk0 (g.rise.1 y hy)
  have hbef : ∀ y ∈ L.take (spotOf x L), y.a.key < x.a.key := fun y hy => by
    obtain ⟨j, hj, rfl⟩ := List.mem_iff_getElem.1 hy
    rw [List.length_take] at hj
    rw [List.getElem_take]
    have hj1 : j < spotOf x L := by omega
    have hj2 : j < L.length := by omega
    have hl : x.a.less L[j].a = false := by
      unfold spotOf at hj1
      cases e : L.findIdx? (fun y => x.a.less y.a) with
      | none =>
        rw [List.findIdx?_eq_none_iff] at e
        simpa using e L[j] (List.getElem_mem hj2)
      | some i =>
        rw [e] at hj1
        obtain ⟨hi, h1, h2⟩ := List.findIdx?_eq_some_iff_getElem.1 e
        simpa using h2 j hj1
    have hk1 : ¬ x.a.key < L[j].a.key := fun h => by
      rw [(less_key cx (hck _ (List.getElem_mem hj2))).2 h] at hl
      exact absurd hl (by decide)
    have hk2 : x.a.key ≠ L[j].a.key := fun h => hna _ (List.getElem_mem hj2) (key_inj (hck _ (List.getElem_mem hj2)) cx h.symm)
    omega
  have haft : ∀ y ∈ L.drop (spotOf x L), x.a.key < y.a.key := fun y hy => by
    obtain ⟨j, hj, rfl⟩ := List.mem_iff_getElem.1 hy
    rw [List.length_drop] at hj
    rw [List.getElem_drop]
    have hsl : spotOf x L < L.length := by omega
    have hl : x.a.less (L[spotOf x L]).a = true := by
      cases e : L.findIdx? (fun y => x.a.less y.a) with
      | none =>
        unfold spotOf at hsl
        rw [e] at hsl
        simp at hsl
      | some i =>
        obtain ⟨hi, h1, h2⟩ := List.findIdx?_eq_some_iff_getElem.1 e
        have e2 : spotOf x L = i := by unfold spotOf; rw [e]; rfl
        have : L[spotOf x L] = L[i] := by simp [e2]
        rw [this]
        simpa using h1
    have hk1 := (less_key cx (hck _ (List.getElem_mem hsl))).1 hl
    by_cases hj0 : j = 0
    · subst hj0; exact hk1
    · have := List.pairwise_iff_getElem.1 g.rise.2 (spotOf x L) (spotOf x L + j) hsl (by omega) (by omega)
      omega
  have hmem : ∀ y, y ∈ insOf x L ↔ y = x ∨ y ∈ L := fun y => by
    unfold insOf
    conv => rhs; rw [← List.take_append_drop (spotOf x L) L]
    simp only [List.mem_append, List.mem_cons]
    constructor
    · rintro (h | h | h)
      · exact .inr (.inl h)
      · exact .inl h
      · exact .inr (.inr h)
    · rintro (h | h | h)
      · exact .inr (.inl h)
      · exact .inl h
      · exact .inr (.inr h)
  have hpw : (insOf x L).Pairwise (fun x y => x.a.key < y.a.key) := by
    unfold insOf
    rw [List.pairwise_append, List.pairwise_cons]
    refine ⟨g.rise.2.sublist (List.take_sublist _ _), ⟨haft, g.rise.2.sublist (List.drop_sublist _ _)⟩, ?_⟩
    intro a ha b hb
    rcases List.mem_cons.1 hb with rfl | hb
    · exact hbef a ha
    · have := hbef a ha
      have := haft b hb
      omega
  have hww : (insOf x L).Pairwise (fun x y => x.who ≠ y.who) := by
    unfold insOf
    have hd := g.who
    rw [← List.take_append_drop (spotOf x L) L, List.pairwise_append] at hd
    rw [List.pairwise_append, List.pairwise_cons]
    refine ⟨hd.1, ⟨fun b hb => by rw [hxw]; exact fun e => hnw b (List.mem_of_mem_drop hb) e.symm, hd.2.1⟩, ?_⟩
    intro a ha b hb
    rcases List.mem_cons.1 hb with rfl | hb
    · rw [hxw]; exact hnw a (List.mem_of_mem_take ha)
    · exact hd.2.2 a ha b hb
  have hi : spotOf x L < (insOf x L).length := by unfold insOf; simp; omega
  have hget : (insOf x L)[spotOf x L] = x := by
    have h : (insOf x L)[spotOf x L]? = some x := by
      unfold insOf
      rw [List.getElem?_append_right (by rw [List.length_take]; omega), List.length_take, Nat.min_eq_left hs, Nat.sub_self]
      rfl
    exact (List.getElem?_eq_some_iff.1 h).2
  refine ⟨⟨⟨?_, hpw⟩, ?_, hww⟩, by rw [← hxa]; exact hin, ⟨spotOf x L, hi, ?_, ?_, ?_⟩, ?_, ?_, ?_⟩
  · intro y hy
    rcases (hmem y).1 hy with rfl | h
    · exact (rgt_iff y).2 ⟨cx, by rw [hxw]; exact hw, by omega, by omega⟩
    · exact g.rise.1 y h
  · intro y hy
    rcases (hmem y).1 hy with rfl | h
    · exact hin
    · exact g.ins y h
  · have := who_idx hww hi
    rw [hget, hxw] at this
    exact this
  · rw [hget]; exact hxa
  · rw [hget]; exact hxu
  · intro y hy _; exact (hmem y).2 (.inr hy)
  · intro y hy hne
    rcases (hmem y).1 hy with rfl | h
    · exact absurd hxw hne
    · exact h
  · intro y hy he
    rcases (hmem y).1 hy with rfl | h
    · exact hxu
    · exact absurd he (hnw y h)
end Go.Proofs.YtiiankekobgebaaGreatDoor

namespace Go.Proofs.YtiiankekobgebaaGreatDoor
open Go.RowKit Go.Shelf

/-- A grant that went well, in plain words. -/
structure Granted (p : Pf) (kept : List Ad) (l : List Ls) (who : ByteArray) (now ttl : Int) (M : List Ls) (X : Ad) : Prop where
  out : gOut p kept l who now ttl = (0, M, X)
  chk : checkE p kept M now = 0
  r : p.R
  b : Brings p (live l now) M who (now + ttl) X
  cx : Go.Proofs.YtiiankekobgebaaGreatDoor.chk X.v X.hi X.lo = 0
  len : M.length ≤ 16
  num : 0 ≤ now ∧ now ≤ 9999 ∧ 1 ≤ ttl ∧ ttl ≤ 500
  kl : kept.length ≤ 6
  ll : l.length ≤ 20
  fresh : (∀ y ∈ l, ¬ (y.who = who ∧ now ≤ y.un)) → kept.any (sameA X) = false
theorem gOut_cases (p : Pf) (hp : p.Ok) (kept : List Ad) (l : List Ls) (who : ByteArray) (now ttl : Int) :
    (∃ E, ¬ E = 0 ∧ gOut p kept l who now ttl = (E, [], zeroAd)) ∨ ∃ M X, Granted p kept l who now ttl M X := by
  by_cases h0 : grantE p kept l who now ttl = 0
  · cases hr : grantR p kept (live l now) who (now + ttl) with
    | none => exact .inl ⟨8, by decide, gOut_none h0 hr⟩
    | some q =>
      obtain ⟨M, X⟩ := q
      right
      refine ⟨M, X, ?_⟩
      obtain ⟨hc0, hwb, ht1, ht2⟩ := grant_zero h0
      obtain ⟨hp0, hl0, _⟩ := check_zero hc0
      obtain ⟨hpc, hwd, hkl, _⟩ := pool_zero hp0
      have r : p.R := (right_iff p.v p.hi p.lo p.b hp.1 hp.2.1 hp.2.2.1 hp.2.2.2).1 hpc
      have hn := look_now hl0
      obtain ⟨_, hll, _, g⟩ := (check_iff p kept l now).1 hc0
      have gl := g.live now
      have hb : Brings p (live l now) M who (now + ttl) X ∧ ((∀ y ∈ l, ¬ (y.who = who ∧ now ≤ y.un)) → kept.any (sameA X) = false) := by
        unfold grantR at hr
        have hW : (fun y : Ls => y.who.toList == who.toList) = Ls.hasWho who := by
          funext y
          unfold Ls.hasWho
          rw [Bool.eq_iff_iff]
          simp only [beq_iff_eq, decide_eq_true_eq]
          exact ⟨fun h => by
            have h1 : y.who.data.toList = who.data.toList := by simpa [ByteArray.toList_eq] using h
            exact bytes_same h1, fun h => by rw [h]⟩
        rw [hW] at hr
        cases hf : (live l now).findIdx? (Ls.hasWho who) with
        | some i =>
          rw [hf] at hr
          obtain ⟨hi, hwi, _⟩ := idx_who hf
          simp only [List.getElem?_eq_getElem hi, Option.map_some] at hr
          injection hr with hr
          injection hr with h1 h2
          rw [← h1, ← h2]
          refine ⟨brings_has gl (by omega) (by omega) hf hi, fun h => ?_⟩
          exact absurd ⟨hwi, live_un (List.getElem_mem hi)⟩ (h _ (live_sub (List.getElem_mem hi)))
        | none =>
          rw [hf] at hr
          cases hk : firstK p kept (live l now) with
          | none => rw [hk] at hr; simp at hr
          | some k =>
            rw [hk] at hr
            simp only [Option.map_some] at hr
            injection hr with hr
            injection hr with h1 h2
            rw [← h1, ← h2]
            unfold firstK at hk
            have hfr : freeA kept (live l now) (adK p k) = true := by have := List.find?_some hk; simpa using this
            have hkm : k < p.many := List.mem_range.1 (List.mem_of_find?_eq_some hk)
            refine ⟨brings_new r gl hwb (by omega) (by omega) hf hkm hfr, fun _ => ?_⟩
            unfold freeA at hfr
            simp only [Bool.and_eq_true, Bool.not_eq_true'] at hfr
            exact hfr.1
      have hlen := hb.1.good.len r
      have hmn := many_narrow r hwd
      refine ⟨gOut_some h0 hr, (check_iff p kept M now).2 ⟨hp0, by omega, hn, hb.1.good⟩, r, hb.1, ?_, by omega, ⟨hn.1, hn.2, ht1, ht2⟩, hkl, hll, hb.2⟩
      obtain ⟨i, hi, _, ha, _⟩ := hb.1.at'
      rw [← ha]
      exact rgt_chk0 (hb.1.good.rise.1 _ (List.getElem_mem hi))
  · exact .inl ⟨_, h0, gOut_bad h0⟩
theorem live_all {M : List Ls} {now : Int} (h : ∀ y ∈ M, now ≤ y.un) : live M now = M := by
  unfold live
  rw [List.filter_eq_self]
  intro y hy
  have := h y hy
  simp
  omega
theorem Granted.again {p : Pf} {kept : List Ad} {l : List Ls} {who : ByteArray} {now ttl : Int} {M : List Ls} {X : Ad} (h : Granted p kept l who now ttl M X) (more : Int) :
    ((more < 1 ∨ 500 < more) ∧ gOut p kept M who now more = (3, [], zeroAd)) ∨ (¬ (more < 1 ∨ 500 < more) ∧ ∃ M2, M2.length = M.length ∧ gOut p kept M who now more = (0, M2, X)) := by
  have hwb : whoB who = true := by
    obtain ⟨i, hi, hf, _, _⟩ := h.b.at'
    obtain ⟨_, hw, _⟩ := idx_who hf
    have := ((rgt_iff _).1 (h.b.good.rise.1 _ (List.getElem_mem hi))).2.1
    rw [hw] at this
    exact this
  have hall : live M now = M := live_all fun y hy => by
    by_cases e : y.who = who
    · have := h.b.un' y hy e
      have := h.num.2.2.1
      omega
    · exact live_un (h.b.from' y hy e)
  by_cases hm : more < 1 ∨ 500 < more
  · left
    have hg : grantE p kept M who now more = 3 := by unfold grantE; rw [if_pos h.chk, if_pos hwb, if_pos hm]
    exact ⟨hm, by rw [gOut_bad (by rw [hg]; decide), hg]⟩
  · right
    have hg : grantE p kept M who now more = 0 := by unfold grantE; rw [if_pos h.chk, if_pos hwb, if_neg hm]
    obtain ⟨i, hi, hf, ha, _⟩ := h.b.at'
    refine ⟨hm, M.set i ⟨M[i].a, M[i].who, now + more⟩, by rw [List.length_set], gOut_some hg ?_⟩
    rw [hall]
    unfold grantR
    have hW : (fun y : Ls => y.who.toList == who.toList) = Ls.hasWho who := by
      funext y
      unfold Ls.hasWho
      rw [Bool.eq_iff_iff]
      simp only [beq_iff_eq, decide_eq_true_eq]
      exact ⟨fun h => by
        have h1 : y.who.data.toList = who.data.toList := by simpa [ByteArray.toList_eq] using h
        exact bytes_same h1, fun h => by rw [h]⟩
    rw [hW, hf]
    simp only [List.getElem?_eq_getElem hi, Option.map_some, ha]
/-- Nobody else's lease is other. -/
theorem Granted.kept' {p : Pf} {kept : List Ad} {l : List Ls} {who : ByteArray} {now ttl : Int} {M : List Ls} {X : Ad} (h : Granted p kept l who now ttl M X) {y : Ls} (hy : y ∈ l) (hw : ¬ y.who = who) (hu : ¬ y.un < now) : ∃ n, ∃ hn : n < M.length, M.findIdx? (Ls.hasWho y.who) = some n ∧ M[n] = y := by
  have hl : y ∈ live l now := List.mem_filter.2 ⟨hy, by simp; omega⟩
  have hm := h.b.keep y hl hw
  obtain ⟨n, hn, rfl⟩ := List.mem_iff_getElem.1 hm
  exact ⟨n, hn, who_idx h.b.good.who hn, rfl⟩
end Go.Proofs.YtiiankekobgebaaGreatDoor
