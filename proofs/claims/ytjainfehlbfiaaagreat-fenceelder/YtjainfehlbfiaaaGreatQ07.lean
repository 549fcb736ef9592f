/- fence.outside, lookLock, lookLog, Check; lend, Acquire; write, Write. -/
import Derived.Test.YtjainfehlbfiaaaGreatQ04
import Derived.Test.YtjainfehlbfiaaaGreatQ05
import Derived.Test.YtjainfehlbfiaaaGreatQ06
set_option linter.unusedVariables false
set_option linter.unusedSimpArgs false
namespace Go.Proofs.YtjainfehlbfiaaaGreat
open Go.RowKit

/-- Outside of what may stand there: from 0 to the most. -/
def outB (n m : Int) : Bool := decide (n < 0) || decide (m < n)
theorem outB_false {n m : Int} : outB n m = false ↔ 0 ≤ n ∧ n ≤ m := by unfold outB; simp
theorem outside_any (n m : Int) (w : World) : Calls Tryz.prog 21 #[.int .i64 n, .int .i64 m] w fun e w' => e = .returned (.bool (outB n m)) ∧ w' = w := by
  unfold outB
  by_cases h0 : n < 0
  · have d0 : decide (n < 0) = true := decide_eq_true h0
    rw [d0]
    go_enter Tryz.func21, Tryz.ntmps21
    go_wp2
    go_ret
    exact ⟨rfl, rfl⟩
  · have d0 : decide (n < 0) = false := decide_eq_false h0
    rw [d0]
    go_enter Tryz.func21, Tryz.ntmps21
    go_wp2
    go_ret
    exact ⟨rfl, rfl⟩
/-- A keeper in memory. -/
def KpAt (w : World) (kb : Nat) (ep h u : Int) (lv : Value) : Prop := w.heap[kb]? = some (.cells #[.int .i64 ep, .int .i64 h, .int .i64 u, lv] 62 (0, 0))
theorem KpAt.lt {w : World} {kb : Nat} {ep h u : Int} {lv : Value} (g : KpAt w kb ep h u lv) : kb < w.heap.size := (Array.getElem?_eq_some_iff.1 g).1
theorem KpAt.cells {w : World} {kb : Nat} {ep h u : Int} {lv : Value} (g : KpAt w kb ep h u lv) : (w.cell? ⟨kb, 0, none⟩ = some (.int .i64 ep) ∧ w.cell? ⟨kb, 1, none⟩ = some (.int .i64 h) ∧ w.cell? ⟨kb, 2, none⟩ = some (.int .i64 u) ∧ w.cell? ⟨kb, 3, none⟩ = some lv) ∧ (w.frozen? ⟨kb, 0, none⟩ = false ∧ w.frozen? ⟨kb, 1, none⟩ = false ∧ w.frozen? ⟨kb, 2, none⟩ = false ∧ w.frozen? ⟨kb, 3, none⟩ = false) := by
  unfold KpAt at g
  refine ⟨⟨?_, ?_, ?_, ?_⟩, ?_, ?_, ?_, ?_⟩ <;> simp [World.cell?, World.frozen?, g]
theorem KpAt.below {w w' : World} {kb : Nat} {ep h u : Int} {lv : Value} (g : KpAt w kb ep h u lv) (hb : Below w.heap.size w w') : KpAt w' kb ep h u lv := (hb.block kb g.lt).trans g
theorem KpAt.new (W : World) (ep h u : Int) (lv : Value) : KpAt (W.alloc (.cells #[.int .i64 ep, .int .i64 h, .int .i64 u, lv] 62)) W.heap.size ep h u lv := heap_alloc_new W _

/-- What is wrong with an epoch and a lock. -/
def lockE (ep h u : Int) : Int := if (outB ep 999 || outB h 2 || outB u 10009) = true then 3 else if (((h == 0) != (ep == 0)) || ((h == 0) && (u != 0))) = true then 4 else 0
set_option maxHeartbeats 8000000 in
theorem lookLock_any (kb : Nat) (ep h u : Int) (lv : Value) (w : World) (hk : KpAt w kb ep h u lv) : Calls Tryz.prog 19 #[.pointer (some ⟨kb, 0, none⟩)] w fun e w' => e = .returned (.int .i64 (lockE ep h u)) ∧ w' = w := by
  obtain ⟨⟨c0, c1, c2, c3⟩, _⟩ := hk.cells
  unfold lockE
  clear hk
  cases o1 : outB ep 999
  · cases o2 : outB h 2
    · cases o3 : outB u 10009
      · rw [if_neg (by decide)]
        cases q1 : (h == 0) <;> cases q2 : (ep == 0) <;> cases q3 : (u != 0)
        all_goals
          first | rw [if_pos (by decide)] | rw [if_neg (by decide)]
          go_enter Tryz.func19, Tryz.ntmps19
          go_wp2_with (go_at_call 21; refine (outside_any _ _ _).mono ?_; rintro e w' ⟨rfl, rfl⟩)
          go_ret
          exact ⟨rfl, rfl⟩
      · rw [if_pos (by decide)]
        go_enter Tryz.func19, Tryz.ntmps19
        go_wp2_with (go_at_call 21; refine (outside_any _ _ _).mono ?_; rintro e w' ⟨rfl, rfl⟩)
        go_ret
        exact ⟨rfl, rfl⟩
    · rw [if_pos (by simp)]
      go_enter Tryz.func19, Tryz.ntmps19
      go_wp2_with (go_at_call 21; refine (outside_any _ _ _).mono ?_; rintro e w' ⟨rfl, rfl⟩)
      go_ret
      exact ⟨rfl, rfl⟩
  · rw [if_pos (by simp)]
    go_enter Tryz.func19, Tryz.ntmps19
    go_wp2_with (go_at_call 21; refine (outside_any _ _ _).mono ?_; rintro e w' ⟨rfl, rfl⟩)
    go_ret
    exact ⟨rfl, rfl⟩
end Go.Proofs.YtjainfehlbfiaaaGreat

namespace Go.Proofs.YtjainfehlbfiaaaGreat
open Go.RowKit

set_option maxRecDepth 100000 in
theorem enters_look1 : ∀ args w, (callFunc 30 args).run Tryz.prog w = .ok (.enter 30 args) w := by intro args w; rfl
set_option maxHeartbeats 8000000 in
theorem look1_any (q kb : Nat) (ep h u : Int) (lv : Value) (x : En) (w : World) (hq : w.cell? ⟨q, 0, none⟩ = some (.pointer (some ⟨kb, 0, none⟩))) (hlt : q < w.heap.size) (hk : KpAt w kb ep h u lv) :
    Calls Tryz.prog 30 #[.agg #[.int .i64 x.num, .int .i64 x.ep, .int .i64 x.o.k, .bool x.o.p.v, .int .u64 x.o.p.hi, .int .u64 x.o.p.lo, .int .i64 x.o.p.b, .bool x.o.a.v, .int .u64 x.o.a.hi, .int .u64 x.o.a.lo, .string x.o.who, .int .i64 x.o.pof, .int .i64 x.o.n], .pointer (some ⟨q, 0, none⟩)] w fun e w' => e = .returned (.bool (decide (ep < x.ep))) ∧ Below w.heap.size w w' := by
  have hb := bal (Below.refl w.heap.size w) (.cells #[.int .i64 x.num, .int .i64 x.ep, .int .i64 x.o.k, .bool x.o.p.v, .int .u64 x.o.p.hi, .int .u64 x.o.p.lo, .int .i64 x.o.p.b, .bool x.o.a.v, .int .u64 x.o.a.hi, .int .u64 x.o.a.lo, .string x.o.who, .int .i64 x.o.pof, .int .i64 x.o.n] 68)
  have HB := Lib.hid hb
  obtain ⟨⟨k0, _⟩, _⟩ := hk.cells
  have hkl := hk.lt
  rw [← (bcell hb).1 _ _ hlt] at hq
  rw [← (bcell hb).1 _ _ hkl] at k0
  clear hk hb
  generalize x.num = x0 at *
  generalize x.ep = x1 at *
  generalize x.o.k = x2 at *
  generalize x.o.p.v = x3 at *
  generalize x.o.p.hi = x4 at *
  generalize x.o.p.lo = x5 at *
  generalize x.o.p.b = x6 at *
  generalize x.o.a.v = x7 at *
  generalize x.o.a.hi = x8 at *
  generalize x.o.a.lo = x9 at *
  generalize x.o.who = x10 at *
  generalize x.o.pof = x11 at *
  generalize x.o.n = x12 at *
  go_enter Tryz.func30, Tryz.ntmps30
  go_wp2_with fail
  go_region
  go_wp2
  go_ret
  exact ⟨rfl, HB.out.drew⟩
/-- What is wrong with a disk's log. -/
def dlogE (ep : Int) (l : List En) : Int := if logE l = 0 then (if (l.any fun n => decide (ep < n.ep)) = true then 4 else 0) else logE l
set_option maxHeartbeats 8000000 in
theorem lookLog_any (kb : Nat) (ep h u : Int) (a : Option Addr) (c : Nat) (l : List En) (w : World) (hk : KpAt w kb ep h u (.slice a l.length c)) (hc : l.length ≤ c) (hs : Lies enE w a l) :
    Calls Tryz.prog 20 #[.pointer (some ⟨kb, 0, none⟩)] w fun e w' => e = .returned (.int .i64 (dlogE ep l)) ∧ Below w.heap.size w w' := by
  obtain ⟨W1, hW1⟩ : ∃ W1, W1 = w.alloc (.cells #[.pointer (some ⟨kb, 0, none⟩)] 76) := ⟨_, rfl⟩
  have hb1 : Below w.heap.size w W1 := by rw [hW1]; exact bal (Below.refl w.heap.size w) _
  have hq1 : HasL W1 w.heap.size 0 [.pointer (some ⟨kb, 0, none⟩)] := by rw [hW1]; exact HasL.new w _ _
  obtain ⟨⟨k0, k1, k2, k3⟩, kf⟩ := (hk.below hb1).cells
  clear k1 k2 kf
  have q0 : W1.cell? ⟨w.heap.size, 0, none⟩ = some (.pointer (some ⟨kb, 0, none⟩)) := hq1.1 0 _ rfl
  have HC := Lib.hid (lcheck_any a c l W1 hc (hs.below hb1))
  have HF : Hid (logE l = 0 → ∀ W, Below W1.heap.size W1 W → Calls Tryz.prog 29 #[.slice a l.length c, .func (.func 30) #[] #[.pointer (some ⟨w.heap.size, 0, none⟩)]] W fun e w' => e = .returned (.bool (l.any fun n => decide (ep < n.ep))) ∧ Below W.heap.size W w') := fun h0 W hW => by
    have hwW := btr hb1 hW
    refine conE_any a c l W 30 #[.pointer (some ⟨w.heap.size, 0, none⟩)] _ (by have := logE_len h0; omega) (hs.below hwW) enters_look1 (fun V y hy hV => ?_)
    have hwV := btr hwW hV
    exact (look1_any w.heap.size kb ep h u _ y V (by rw [(bcell (btr hW hV)).1 _ _ hq1.2]; exact q0) (Nat.lt_of_lt_of_le hq1.2 (btr hW hV).size) (hk.below hwV)).mono fun e w' h => ⟨h.1, btr hV h.2⟩
  have hkl := (hk.below hb1).lt
  have hql := hq1.2
  have HB1 := Lib.hid hb1
  unfold dlogE
  rw [hW1] at HC HF k0 k3 q0 HB1 hkl hql
  clear hb1 hq1 hW1 hk hs hc W1
  generalize (l.any fun n => decide (ep < n.ep)) = b at *
  generalize logE l = r at *
  generalize l.length = N at *
  by_cases hr : r = 0
  · subst hr
    rw [if_pos rfl]
    replace HF := Lib.hid (HF.out rfl)
    cases b
    · rw [if_neg (by decide)]
      go_enter Tryz.func20, Tryz.ntmps20
      go_wp2_with fail
      refine HC.out.mono ?_
      rintro e w2 ⟨rfl, hb2⟩
      rw [← (bcell hb2).1 _ _ hkl] at k0 k3
      rw [← (bcell hb2).1 _ _ hql] at q0
      have HB2 := Lib.hid hb2
      clear hb2 HC
      go_wp2_with fail
      refine (HF.out _ HB2.out).mono ?_
      rintro e w3 ⟨rfl, hb3⟩
      go_wp2
      go_ret
      exact ⟨rfl, btr (btr HB1.out HB2.out) hb3⟩
    · rw [if_pos rfl]
      go_enter Tryz.func20, Tryz.ntmps20
      go_wp2_with fail
      refine HC.out.mono ?_
      rintro e w2 ⟨rfl, hb2⟩
      rw [← (bcell hb2).1 _ _ hkl] at k0 k3
      rw [← (bcell hb2).1 _ _ hql] at q0
      have HB2 := Lib.hid hb2
      clear hb2 HC
      go_wp2_with fail
      refine (HF.out _ HB2.out).mono ?_
      rintro e w3 ⟨rfl, hb3⟩
      go_wp2
      go_ret
      exact ⟨rfl, btr (btr HB1.out HB2.out) hb3⟩
  · rw [if_neg hr]
    have hI : (r != 0) = true := by rw [bne_iff_ne]; exact hr
    clear hr HF
    go_enter Tryz.func20, Tryz.ntmps20
    go_wp2_with fail
    refine HC.out.mono ?_
    rintro e w2 ⟨rfl, hb2⟩
    go_wp2
    go_ret
    exact ⟨rfl, btr HB1.out hb2⟩
/-- What is wrong with a disk. -/
def diskE (ep h u : Int) (l : List En) : Int := if lockE ep h u = 0 then dlogE ep l else lockE ep h u
set_option maxHeartbeats 8000000 in
theorem fcheck_any (ep h u : Int) (a : Option Addr) (c : Nat) (l : List En) (w : World) (hc : l.length ≤ c) (hs : Lies enE w a l) :
    Calls Tryz.prog 6 #[.agg #[.int .i64 ep, .int .i64 h, .int .i64 u, .slice a l.length c]] w fun e w' => e = .returned (.int .i64 (diskE ep h u l)) ∧ Below w.heap.size w w' := by
  obtain ⟨W1, hW1⟩ : ∃ W1, W1 = (w.alloc (.cells #[.int .i64 ep, .int .i64 h, .int .i64 u, .slice a l.length c] 26)).alloc (.cells #[.int .i64 ep, .int .i64 h, .int .i64 u, .slice a l.length c] 62) := ⟨_, rfl⟩
  have hb1 : Below w.heap.size w W1 := by rw [hW1]; exact bal (bal (Below.refl w.heap.size w) _) _
  have hk : KpAt W1 (w.heap.size + 1) ep h u (.slice a l.length c) := by
    rw [hW1]
    have := KpAt.new (w.alloc (.cells #[.int .i64 ep, .int .i64 h, .int .i64 u, .slice a l.length c] 26)) ep h u (.slice a l.length c)
    simpa using this
  have HLk := Lib.hid (lookLock_any (w.heap.size + 1) ep h u _ W1 hk)
  have HLl := Lib.hid (lookLog_any (w.heap.size + 1) ep h u a c l W1 hk hc (hs.below hb1))
  have HB1 := Lib.hid hb1
  unfold diskE
  rw [hW1] at HLk HLl HB1
  clear hb1 hk hs hc hW1 W1
  generalize lockE ep h u = r at *
  generalize dlogE ep l = r2 at *
  generalize l.length = N at *
  by_cases hr : r = 0
  · subst hr
    rw [if_pos rfl]
    go_enter Tryz.func6, Tryz.ntmps6
    go_wp2_with fail
    refine HLk.out.mono ?_
    rintro e w2 ⟨rfl, rfl⟩
    go_wp2_with fail
    refine HLl.out.mono ?_
    rintro e w3 ⟨rfl, hb3⟩
    go_wp2
    go_ret
    exact ⟨rfl, btr HB1.out hb3⟩
  · rw [if_neg hr]
    have hI : (r != 0) = true := by rw [bne_iff_ne]; exact hr
    clear hr HLl
    go_enter Tryz.func6, Tryz.ntmps6
    go_wp2_with fail
    refine HLk.out.mono ?_
    rintro e w2 ⟨rfl, rfl⟩
    go_wp2
    go_ret
    exact ⟨rfl, HB1.out⟩
end Go.Proofs.YtjainfehlbfiaaaGreat

namespace Go.Proofs.YtjainfehlbfiaaaGreat
open Go.RowKit

/-- A disk in plain words. -/
structure Dk where
  ep : Int
  h : Int
  u : Int
  l : List En
def noDk : Dk := ⟨0, 0, 0, []⟩
/-- Is the lock held at a time? -/
def heldB (h u now : Int) : Bool := (h != 0) && decide (now ≤ u)
def lendE (ep h u who now : Int) : Int := if (heldB h u now && (h != who)) = true then 4 else if (!heldB h u now && decide (999 ≤ ep)) = true then 2 else 0
def lendP (ep h u now : Int) : Int := if heldB h u now = true then ep else ep + 1
theorem KpAt.put0 {W : World} {kb : Nat} {ep h u : Int} {lv : Value} (g : KpAt W kb ep h u lv) (ep' : Int) : KpAt (W.setCell ⟨kb, 0, none⟩ (.int .i64 ep')) kb ep' h u lv := by
  unfold KpAt at *
  have h1 := heap_setCell_same W kb 0 _ _ (.int .i64 ep') g
  rw [h1]; rfl
theorem KpAt.put2 {W : World} {kb : Nat} {ep h u : Int} {lv : Value} (g : KpAt W kb ep h u lv) (h' u' : Int) : KpAt ((W.setCell ⟨kb, 1, none⟩ (.int .i64 h')).setCell ⟨kb, 2, none⟩ (.int .i64 u')) kb ep h' u' lv := by
  unfold KpAt at *
  have h1 := heap_setCell_same W kb 1 _ _ (.int .i64 h') g
  have h2 := heap_setCell_same _ kb 2 _ _ (.int .i64 u') h1
  rw [h2]; rfl
theorem KpAt.put3 {W : World} {kb : Nat} {ep h u : Int} {lv : Value} (g : KpAt W kb ep h u lv) (lv' : Value) : KpAt (W.setCell ⟨kb, 3, none⟩ lv') kb ep h u lv' := by
  unfold KpAt at *
  have h1 := heap_setCell_same W kb 3 _ _ lv' g
  rw [h1]; rfl
/-- What lend leaves behind. -/
def LendTo (kb : Nat) (ep h u who now : Int) (lv : Value) (w w' : World) : Prop := Below kb w w' ∧ w'.heap.size = w.heap.size ∧ (lendE ep h u who now = 0 → KpAt w' kb (lendP ep h u now) who (now + 10) lv)
theorem lendTo_no {kb : Nat} {ep h u who now k : Int} {lv : Value} {w : World} (hk : lendE ep h u who now = k) (h0 : ¬ k = 0) : LendTo kb ep h u who now lv w w := ⟨Below.refl _ _, rfl, fun e => absurd (hk.symm.trans e) h0⟩
theorem lendTo_yes {kb : Nat} {ep h u who now p : Int} {lv : Value} {w w' : World} (hp : lendP ep h u now = p) (h1 : Below kb w w') (h2 : w'.heap.size = w.heap.size) (h3 : KpAt w' kb p who (now + 10) lv) : LendTo kb ep h u who now lv w w' := ⟨h1, h2, fun _ => by rw [hp]; exact h3⟩
set_option maxHeartbeats 8000000 in
theorem lend_any (kb : Nat) (ep h u who now : Int) (lv : Value) (w : World) (hk : KpAt w kb ep h u lv) (e0 : 0 ≤ ep) (e1 : ep ≤ 999) (n0 : 0 ≤ now) (n1 : now ≤ 9999) :
    Calls Tryz.prog 22 #[.pointer (some ⟨kb, 0, none⟩), .int .i64 who, .int .i64 now] w fun e w' => e = .returned (.int .i64 (lendE ep h u who now)) ∧ LendTo kb ep h u who now lv w w' := by
  obtain ⟨⟨c0, c1, c2, c3⟩, f0, f1, f2, f3⟩ := hk.cells
  have hlt := hk.lt
  have HP := Lib.hid ((hk.put0 (ep + 1)).put2 who (now + 10))
  have HP2 := Lib.hid (hk.put2 who (now + 10))
  have HB0 : Hid (Below kb w w) := Below.refl _ _
  clear hk
  cases b1 : (h != 0)
  · by_cases h9 : 999 ≤ ep
    · have HE : Hid (lendE ep h u who now = 2) := Lib.hid (by simp [lendE, heldB, b1, h9])
      rw [HE.out]
      clear HP HP2
      go_enter Tryz.func22, Tryz.ntmps22
      go_wp2
      go_ret
      exact ⟨rfl, lendTo_no HE.out (by decide)⟩
    · have HE : Hid (lendE ep h u who now = 0) := Lib.hid (by simp [lendE, heldB, b1]; omega)
      have HQ : Hid (lendP ep h u now = ep + 1) := Lib.hid (by simp [lendP, heldB, b1])
      rw [HE.out]
      have d9 : decide (999 ≤ ep) = false := decide_eq_false h9
      clear HP2
      go_enter Tryz.func22, Tryz.ntmps22
      go_wp2
      go_ret
      exact ⟨rfl, lendTo_yes HQ.out (((HB0.out.setCell (Nat.le_refl _) _).setCell (Nat.le_refl _) _).setCell (Nat.le_refl _) _) (by simp) HP.out⟩
  · by_cases hn : now ≤ u
    · have dn : decide (now ≤ u) = true := decide_eq_true hn
      cases b2 : (h != who)
      · have HE : Hid (lendE ep h u who now = 0) := Lib.hid (by simp [lendE, heldB, b1, b2, hn])
        have HQ : Hid (lendP ep h u now = ep) := Lib.hid (by simp [lendP, heldB, b1, hn])
        rw [HE.out]
        clear HP
        go_enter Tryz.func22, Tryz.ntmps22
        go_wp2
        go_ret
        exact ⟨rfl, lendTo_yes HQ.out ((HB0.out.setCell (Nat.le_refl _) _).setCell (Nat.le_refl _) _) (by simp) HP2.out⟩
      · have HE : Hid (lendE ep h u who now = 4) := Lib.hid (by simp [lendE, heldB, b1, b2, hn])
        rw [HE.out]
        clear HP HP2
        go_enter Tryz.func22, Tryz.ntmps22
        go_wp2
        go_ret
        exact ⟨rfl, lendTo_no HE.out (by decide)⟩
    · have dn : decide (now ≤ u) = false := decide_eq_false hn
      by_cases h9 : 999 ≤ ep
      · have HE : Hid (lendE ep h u who now = 2) := Lib.hid (by simp [lendE, heldB, b1, dn, h9])
        rw [HE.out]
        clear HP HP2
        go_enter Tryz.func22, Tryz.ntmps22
        go_wp2
        go_ret
        exact ⟨rfl, lendTo_no HE.out (by decide)⟩
      · have HE : Hid (lendE ep h u who now = 0) := Lib.hid (by simp [lendE, heldB, b1, dn]; omega)
        have HQ : Hid (lendP ep h u now = ep + 1) := Lib.hid (by simp [lendP, heldB, b1, dn])
        rw [HE.out]
        have d9 : decide (999 ≤ ep) = false := decide_eq_false h9
        clear HP2
        go_enter Tryz.func22, Tryz.ntmps22
        go_wp2
        go_ret
        exact ⟨rfl, lendTo_yes HQ.out (((HB0.out.setCell (Nat.le_refl _) _).setCell (Nat.le_refl _) _).setCell (Nat.le_refl _) _) (by simp) HP.out⟩
end Go.Proofs.YtjainfehlbfiaaaGreat

namespace Go.Proofs.YtjainfehlbfiaaaGreat
open Go.RowKit

/-- What is wrong with a disk. -/
def Dk.bad (d : Dk) : Int := diskE d.ep d.h d.u d.l
/-- What Acquire says, and the disk then. -/
def acqE (d : Dk) (who now : Int) : Int := if d.bad = 0 then (if who < 1 ∨ 2 < who ∨ outB now 9999 = true then 3 else lendE d.ep d.h d.u who now) else d.bad
def acqD (d : Dk) (who now : Int) : Dk := if acqE d who now = 0 then ⟨lendP d.ep d.h d.u now, who, now + 10, d.l⟩ else noDk
theorem disk_ep {ep h u : Int} {l : List En} (e : diskE ep h u l = 0) : (0 ≤ ep ∧ ep ≤ 999) ∧ (0 ≤ h ∧ h ≤ 2) ∧ (0 ≤ u ∧ u ≤ 10009) := by
  have hl : lockE ep h u = 0 := by
    unfold diskE at e
    by_cases hh : lockE ep h u = 0
    · exact hh
    · rw [if_neg hh] at e; exact e
  unfold lockE at hl
  by_cases ho : (outB ep 999 || outB h 2 || outB u 10009) = true
  · rw [if_pos ho] at hl; exact absurd hl (by decide)
  · have : (outB ep 999 || outB h 2 || outB u 10009) = false := by simpa using ho
    simp only [Bool.or_eq_false_iff] at this
    exact ⟨outB_false.1 this.1.1, outB_false.1 this.1.2, outB_false.1 this.2⟩
theorem disk_len {ep h u : Int} {l : List En} (e : diskE ep h u l = 0) : l.length ≤ 30 := by
  have hl : dlogE ep l = 0 := by
    unfold diskE at e
    by_cases hh : lockE ep h u = 0
    · rw [if_pos hh] at e; exact e
    · rw [if_neg hh] at e; exact absurd e hh
  unfold dlogE at hl
  by_cases hh : logE l = 0
  · exact logE_len hh
  · rw [if_neg hh] at hl; exact absurd hl hh

set_option maxHeartbeats 16000000 in
set_option maxRecDepth 100000 in
theorem acq_bad (d : Dk) (a : Option Addr) (c : Nat) (who now : Int) (w : World) (hc : d.l.length ≤ c) (hs : Lies enE w a d.l) (h0 : ¬ acqE d who now = 0) :
    Calls Tryz.prog 7 #[.agg #[.int .i64 d.ep, .int .i64 d.h, .int .i64 d.u, .slice a d.l.length c], .int .i64 who, .int .i64 now] w fun e w' => e = .returned (.tuple #[.agg #[.int .i64 0, .int .i64 0, .int .i64 0, .slice none 0 0], .int .i64 0, .int .i64 (acqE d who now)]) ∧ Below w.heap.size w w' := by
  obtain ⟨W1, hW1⟩ : ∃ W1, W1 = (w.alloc (.cells #[.int .i64 d.ep, .int .i64 d.h, .int .i64 d.u, .slice a d.l.length c] 26)).alloc (.cells #[.int .i64 0, .int .i64 0, .int .i64 0, .slice none 0 0] 26) := ⟨_, rfl⟩
  have hb1 : Below w.heap.size w W1 := by rw [hW1]; exact bal (bal (Below.refl w.heap.size w) _) _
  have hD : Blk W1 w.heap.size 26 [.int .i64 d.ep, .int .i64 d.h, .int .i64 d.u, .slice a d.l.length c] := by rw [hW1]; exact (Blk.new w _ _).below (bal (Below.refl _ _) _)
  have hR : Blk W1 (w.heap.size + 1) 26 [.int .i64 0, .int .i64 0, .int .i64 0, .slice none 0 0] := by
    rw [hW1]
    have := Blk.new (w.alloc (.cells #[.int .i64 d.ep, .int .i64 d.h, .int .i64 d.u, .slice a d.l.length c] 26)) [.int .i64 0, .int .i64 0, .int .i64 0, .slice none 0 0] 26
    simpa using this
  have HC := Lib.hid (fcheck_any d.ep d.h d.u a c d.l W1 hc (hs.below hb1))
  have HB1 := Lib.hid hb1
  have HD := Lib.hid hD
  have HR := Lib.hid hR
  have HEp : Hid (diskE d.ep d.h d.u d.l = 0 → 0 ≤ d.ep ∧ d.ep ≤ 999) := fun e => (disk_ep e).1
  rw [hW1] at HC HB1 HD HR
  unfold acqE Dk.bad at *
  clear hb1 hD hR hs hc hW1 W1
  generalize diskE d.ep d.h d.u d.l = r at *
  generalize d.l.length = N at *
  generalize d.ep = ep at *
  generalize d.h = h at *
  generalize d.u = u at *
  by_cases hr : r = 0
  · subst hr
    rw [if_pos rfl] at h0
    rw [if_pos rfl]
    obtain ⟨e0, e1⟩ := HEp.out rfl
    by_cases h1 : who < 1
    · rw [if_pos (.inl h1)]
      clear h0
      go_enter Tryz.func7, Tryz.ntmps7
      go_wp2_with fail
      refine HC.out.mono ?_
      rintro e w2 ⟨rfl, hb2⟩
      have HB2 := Lib.hid (btr HB1.out hb2)
      have HD2 := Lib.hid (HD.out.upto (by simp <;> omega) hb2)
      have HR2 := Lib.hid (HR.out.upto (by simp <;> omega) hb2)
      have hz2 : w.heap.size + 1 < w2.heap.size := by have := HR2.out.lt; omega
      obtain ⟨⟨d0, d1, d2, d3⟩, _⟩ := HD2.out.four
      obtain ⟨⟨r0, r1, r2, r3⟩, s0, s1, s2, s3⟩ := HR2.out.four
      clear hb2 HC HB1 HD HR
      go_wp2_with fail
      refine bodyPost_ret (v := .tuple #[.agg #[.int .i64 0, .int .i64 0, .int .i64 0, .slice none 0 0], .int .i64 0, .int .i64 3]) ?_ rfl ⟨rfl, ?_⟩
      · simp [results, Tryz.results7, go_sem, r0, r1, r2, r3]
      · exact bse (bse (bse (bse HB2.out (by simp) _) (by simp) _) (by simp) _) (by simp) _
    · have d1 : decide (who < 1) = false := decide_eq_false h1
      by_cases h2 : 2 < who
      · rw [if_pos (.inr (.inl h2))]
        clear h0
        go_enter Tryz.func7, Tryz.ntmps7
        go_wp2_with fail
        refine HC.out.mono ?_
        rintro e w2 ⟨rfl, hb2⟩
        have HB2 := Lib.hid (btr HB1.out hb2)
        have HD2 := Lib.hid (HD.out.upto (by simp <;> omega) hb2)
        have HR2 := Lib.hid (HR.out.upto (by simp <;> omega) hb2)
        have hz2 : w.heap.size + 1 < w2.heap.size := by have := HR2.out.lt; omega
        obtain ⟨⟨d0, d1, d2, d3⟩, _⟩ := HD2.out.four
        obtain ⟨⟨r0, r1, r2, r3⟩, s0, s1, s2, s3⟩ := HR2.out.four
        clear hb2 HC HB1 HD HR
        go_wp2_with fail
        refine bodyPost_ret (v := .tuple #[.agg #[.int .i64 0, .int .i64 0, .int .i64 0, .slice none 0 0], .int .i64 0, .int .i64 3]) ?_ rfl ⟨rfl, ?_⟩
        · simp [results, Tryz.results7, go_sem, r0, r1, r2, r3]
        · exact bse (bse (bse (bse HB2.out (by simp) _) (by simp) _) (by simp) _) (by simp) _
      · have d2 : decide (2 < who) = false := decide_eq_false h2
        cases h3 : outB now 9999
        · rw [h3] at h0
          rw [if_neg (by simp; omega)] at h0
          rw [if_neg (by simp; omega)]
          obtain ⟨n0, n1⟩ := outB_false.1 h3
          have HLd : Hid (∀ (W : World) (kb : Nat), KpAt W kb ep h u (.slice a N c) → Calls Tryz.prog 22 #[.pointer (some ⟨kb, 0, none⟩), .int .i64 who, .int .i64 now] W fun e w' => e = .returned (.int .i64 (lendE ep h u who now)) ∧ LendTo kb ep h u who now (.slice a N c) W w') := fun W kb hk => lend_any kb ep h u who now _ W hk e0 e1 n0 n1
          obtain ⟨R, hR⟩ : ∃ R, R = lendE ep h u who now := ⟨_, rfl⟩
          rw [← hR] at h0 HLd ⊢
          have hI : (R != 0) = true := by rw [bne_iff_ne]; exact h0
          clear h0 hR
          go_enter Tryz.func7, Tryz.ntmps7
          go_wp2_with fail
          refine HC.out.mono ?_
          rintro e w2 ⟨rfl, hb2⟩
          have HB2 := Lib.hid (btr HB1.out hb2)
          have HD2 := Lib.hid (HD.out.upto (by simp <;> omega) hb2)
          have HR2 := Lib.hid (HR.out.upto (by simp <;> omega) hb2)
          have hz2 : w.heap.size + 1 < w2.heap.size := by have := HR2.out.lt; omega
          obtain ⟨⟨d0, d1, d2, d3⟩, _⟩ := HD2.out.four
          obtain ⟨⟨r0, r1, r2, r3⟩, s0, s1, s2, s3⟩ := HR2.out.four
          clear hb2 HC HB1 HD HR
          have HK3 : Hid (KpAt (w2.alloc (.cells #[.int .i64 ep, .int .i64 h, .int .i64 u, .slice a N c] 62)) w2.heap.size ep h u (.slice a N c)) := KpAt.new w2 ep h u _
          have HR3 := Lib.hid (HR2.out.below (bal (Below.refl w2.heap.size w2) (.cells #[.int .i64 ep, .int .i64 h, .int .i64 u, .slice a N c] 62)))
          go_wp2_with (go_at_call 21; refine (outside_any _ _ _).mono ?_; rintro e w3 ⟨rfl, hw3⟩; have hw3 := hw3.symm; subst hw3)
          refine (HLd.out _ _ HK3.out).mono ?_
          rintro e w4 ⟨rfl, hto⟩
          obtain ⟨t1, t2, _⟩ := hto
          have hb4 : Below w2.heap.size w2 w4 := (bal (Below.refl w2.heap.size w2) _).trans t1
          have HR4 := Lib.hid (HR3.out.upto hz2 t1)
          obtain ⟨⟨r0, r1, r2, r3⟩, s0, s1, s2, s3⟩ := HR4.out.four
          have HB4 := Lib.hid (btr HB2.out hb4)
          clear hb4 t1 HLd HR3 HR2
          go_wp2
          refine bodyPost_ret (v := .tuple #[.agg #[.int .i64 0, .int .i64 0, .int .i64 0, .slice none 0 0], .int .i64 0, .int .i64 R]) ?_ rfl ⟨rfl, ?_⟩
          · simp [results, Tryz.results7, go_sem, r0, r1, r2, r3]
          · exact bse (bse (bse (bse HB4.out (by simp) _) (by simp) _) (by simp) _) (by simp) _
        · rw [h3] at h0
          rw [if_pos (by simp)]
          clear h0
          go_enter Tryz.func7, Tryz.ntmps7
          go_wp2_with fail
          refine HC.out.mono ?_
          rintro e w2 ⟨rfl, hb2⟩
          have HB2 := Lib.hid (btr HB1.out hb2)
          have HD2 := Lib.hid (HD.out.upto (by simp <;> omega) hb2)
          have HR2 := Lib.hid (HR.out.upto (by simp <;> omega) hb2)
          have hz2 : w.heap.size + 1 < w2.heap.size := by have := HR2.out.lt; omega
          obtain ⟨⟨d0, d1, d2, d3⟩, _⟩ := HD2.out.four
          obtain ⟨⟨r0, r1, r2, r3⟩, s0, s1, s2, s3⟩ := HR2.out.four
          clear hb2 HC HB1 HD HR
          go_wp2_with (go_at_call 21; refine (outside_any _ _ _).mono ?_; rintro e w3 ⟨rfl, hw3⟩; have hw3 := hw3.symm; subst hw3)
          refine bodyPost_ret (v := .tuple #[.agg #[.int .i64 0, .int .i64 0, .int .i64 0, .slice none 0 0], .int .i64 0, .int .i64 3]) ?_ rfl ⟨rfl, ?_⟩
          · simp [results, Tryz.results7, go_sem, r0, r1, r2, r3]
          · exact bse (bse (bse (bse HB2.out (by simp) _) (by simp) _) (by simp) _) (by simp) _
  · rw [if_neg hr]
    have hI : (r != 0) = true := by rw [bne_iff_ne]; exact hr
    clear hr h0
    go_enter Tryz.func7, Tryz.ntmps7
    go_wp2_with fail
    refine HC.out.mono ?_
    rintro e w2 ⟨rfl, hb2⟩
    have HB2 := Lib.hid (btr HB1.out hb2)
    have HD2 := Lib.hid (HD.out.upto (by simp <;> omega) hb2)
    have HR2 := Lib.hid (HR.out.upto (by simp <;> omega) hb2)
    have hz2 : w.heap.size + 1 < w2.heap.size := by have := HR2.out.lt; omega
    obtain ⟨⟨d0, d1, d2, d3⟩, _⟩ := HD2.out.four
    obtain ⟨⟨r0, r1, r2, r3⟩, s0, s1, s2, s3⟩ := HR2.out.four
    clear hb2 HC HB1 HD HR
    go_wp2_with fail
    refine bodyPost_ret (v := .tuple #[.agg #[.int .i64 0, .int .i64 0, .int .i64 0, .slice none 0 0], .int .i64 0, .int .i64 r]) ?_ rfl ⟨rfl, ?_⟩
    · simp [results, Tryz.results7, go_sem, r0, r1, r2, r3]
    · exact bse (bse (bse (bse HB2.out (by simp) _) (by simp) _) (by simp) _) (by simp) _

set_option maxHeartbeats 32000000 in
set_option maxRecDepth 100000 in
theorem acq_ok (d : Dk) (a : Option Addr) (c : Nat) (who now : Int) (w : World) (hc : d.l.length ≤ c) (hs : Lies enE w a d.l) (h0 : acqE d who now = 0) :
    Calls Tryz.prog 7 #[.agg #[.int .i64 d.ep, .int .i64 d.h, .int .i64 d.u, .slice a d.l.length c], .int .i64 who, .int .i64 now] w fun e w' => ∃ v, e = .returned (.tuple #[.agg #[.int .i64 (lendP d.ep d.h d.u now), .int .i64 who, .int .i64 (now + 10), v], .int .i64 (lendP d.ep d.h d.u now), .int .i64 0]) ∧ w'.ownsRow w.heap.size 68 enE.k v d.l.length (rowOf enE d.l) ∧ Below w.heap.size w w' := by
  have hr : diskE d.ep d.h d.u d.l = 0 := by unfold acqE Dk.bad at h0; by_cases h : diskE d.ep d.h d.u d.l = 0; exact h; rw [if_neg h] at h0; exact absurd h0 h
  have h1 : ¬ (who < 1 ∨ 2 < who ∨ outB now 9999 = true) := fun h => by unfold acqE Dk.bad at h0; rw [if_pos hr, if_pos h] at h0; exact absurd h0 (by decide)
  have hR : lendE d.ep d.h d.u who now = 0 := by unfold acqE Dk.bad at h0; rw [if_pos hr, if_neg h1] at h0; exact h0
  clear h0
  obtain ⟨W1, hW1⟩ : ∃ W1, W1 = (w.alloc (.cells #[.int .i64 d.ep, .int .i64 d.h, .int .i64 d.u, .slice a d.l.length c] 26)).alloc (.cells #[.int .i64 0, .int .i64 0, .int .i64 0, .slice none 0 0] 26) := ⟨_, rfl⟩
  have hb1 : Below w.heap.size w W1 := by rw [hW1]; exact bal (bal (Below.refl w.heap.size w) _) _
  have hD : Blk W1 w.heap.size 26 [.int .i64 d.ep, .int .i64 d.h, .int .i64 d.u, .slice a d.l.length c] := by rw [hW1]; exact (Blk.new w _ _).below (bal (Below.refl _ _) _)
  have hR1 : Blk W1 (w.heap.size + 1) 26 [.int .i64 0, .int .i64 0, .int .i64 0, .slice none 0 0] := by
    rw [hW1]
    have := Blk.new (w.alloc (.cells #[.int .i64 d.ep, .int .i64 d.h, .int .i64 d.u, .slice a d.l.length c] 26)) [.int .i64 0, .int .i64 0, .int .i64 0, .slice none 0 0] 26
    simpa using this
  have HC := Lib.hid (fcheck_any d.ep d.h d.u a c d.l W1 hc (hs.below hb1))
  rw [hr] at HC
  have HCl : Hid (∀ W, Below w.heap.size w W → Calls Tryz.prog 23 #[.slice a d.l.length c] W fun e w' => ∃ v', e = .returned v' ∧ w'.ownsRow W.heap.size 68 enE.k v' d.l.length (rowOf enE d.l) ∧ Below W.heap.size W w') := fun W hW => cloneE_any a c d.l W (by have := disk_len hr; omega) (hs.below hW)
  have HB1 := Lib.hid hb1
  have HD := Lib.hid hD
  have HR := Lib.hid hR1
  obtain ⟨⟨e0, e1⟩, _⟩ := disk_ep hr
  rw [hW1] at HC HB1 HD HR
  clear hb1 hD hR1 hs hc hW1 W1 hr
  have h3 : outB now 9999 = false := by cases h : outB now 9999; rfl; exact absurd (.inr (.inr h)) h1
  have d1 : decide (who < 1) = false := decide_eq_false (fun h => h1 (.inl h))
  have d2 : decide (2 < who) = false := decide_eq_false (fun h => h1 (.inr (.inl h)))
  have h1' : ¬ who < 1 := fun h => h1 (.inl h)
  have h2' : ¬ 2 < who := fun h => h1 (.inr (.inl h))
  obtain ⟨n0, n1⟩ := outB_false.1 h3
  clear h1
  have HLd : Hid (∀ (W : World) (kb : Nat), KpAt W kb d.ep d.h d.u (.slice a d.l.length c) → Calls Tryz.prog 22 #[.pointer (some ⟨kb, 0, none⟩), .int .i64 who, .int .i64 now] W fun e w' => e = .returned (.int .i64 0) ∧ Below kb W w' ∧ w'.heap.size = W.heap.size ∧ (lendE d.ep d.h d.u who now = 0 → KpAt w' kb (lendP d.ep d.h d.u now) who (now + 10) (.slice a d.l.length c))) := fun W kb hk => by
    have := lend_any kb d.ep d.h d.u who now _ W hk e0 e1 n0 n1
    rw [hR] at this
    exact this
  generalize rowOf enE d.l = row at *
  generalize d.l.length = N at *
  generalize lendP d.ep d.h d.u now = P at *
  generalize hRR : lendE d.ep d.h d.u who now = R at *
  clear hRR
  generalize d.ep = ep at *
  generalize d.h = h at *
  generalize d.u = u at *
  replace hR := Lib.hid hR
  go_enter Tryz.func7, Tryz.ntmps7
  go_wp2_with fail
  refine HC.out.mono ?_
  rintro e w2 ⟨rfl, hb2⟩
  have HB2 := Lib.hid (btr HB1.out hb2)
  have HD2 := Lib.hid (HD.out.upto (by simp <;> omega) hb2)
  have HR2 := Lib.hid (HR.out.upto (by simp <;> omega) hb2)
  have hz2 : w.heap.size + 1 < w2.heap.size := by have := HR2.out.lt; omega
  obtain ⟨⟨d0, d1, d2, d3⟩, _⟩ := HD2.out.four
  obtain ⟨⟨r0, r1, r2, r3⟩, s0, s1, s2, s3⟩ := HR2.out.four
  clear hb2 HC HB1 HD HR
  have HK3 : Hid (KpAt (w2.alloc (.cells #[.int .i64 ep, .int .i64 h, .int .i64 u, .slice a N c] 62)) w2.heap.size ep h u (.slice a N c)) := KpAt.new w2 ep h u _
  have HR3 := Lib.hid (HR2.out.below (bal (Below.refl w2.heap.size w2) (.cells #[.int .i64 ep, .int .i64 h, .int .i64 u, .slice a N c] 62)))
  go_wp2_with (go_at_call 21; refine (outside_any _ _ _).mono ?_; rintro e w3 ⟨rfl, hw3⟩; have hw3 := hw3.symm; subst hw3)
  refine (HLd.out _ _ HK3.out).mono ?_
  rintro e w4 ⟨rfl, t1, t2, t3⟩
  have hb4 : Below w2.heap.size w2 w4 := (bal (Below.refl w2.heap.size w2) _).trans t1
  have HR4 := Lib.hid (HR3.out.upto hz2 t1)
  have HK4 := Lib.hid (t3 hR.out)
  have HB4 := Lib.hid (btr HB2.out hb4)
  have hz4 : w2.heap.size < w4.heap.size := by rw [t2]; simp
  obtain ⟨⟨k0, k1, k2, k3⟩, g0, g1, g2, g3⟩ := HK4.out.cells
  clear hb4 t1 t2 t3 HLd HR3 HR2 HK3 HD2 d0 d1 d2 d3 r0 r1 r2 r3 s0 s1 s2 s3
  go_wp2_with fail
  refine (HCl.out _ HB4.out).mono ?_
  rintro e w5 ⟨v, rfl, ho, hb5⟩
  obtain ⟨a5, c5, rfl⟩ := own_slice ho
  have HK5 := Lib.hid (HK4.out.below hb5)
  have HR5 := Lib.hid (HR4.out.below hb5)
  have HB5 := Lib.hid (btr HB4.out hb5)
  have HO5 := Lib.hid (own_st (own_st (own_st (own_st (own_st ho (b := w2.heap.size) (j := 3) hz4 (.slice a5 N c5)) (b := w.heap.size + 1) (j := 0) (by omega) (.int .i64 P)) (b := w.heap.size + 1) (j := 1) (by omega) (.int .i64 who)) (b := w.heap.size + 1) (j := 2) (by omega) (.int .i64 (now + 10))) (b := w.heap.size + 1) (j := 3) (by omega) (.slice a5 N c5))
  have hz5 : w2.heap.size < w5.heap.size := HK5.out.lt
  have HK6 := Lib.hid (HK5.out.put3 (.slice a5 N c5))
  have HR6 := Lib.hid (HR5.out.other (c := w2.heap.size) (j := 3) (by omega) (.slice a5 N c5))
  obtain ⟨⟨k0, k1, k2, k3⟩, g0, g1, g2, g3⟩ := HK5.out.cells
  obtain ⟨⟨m0, m1, m2, m3⟩, n0', n1', n2', n3'⟩ := HK6.out.cells
  obtain ⟨⟨r0, r1, r2, r3⟩, s0, s1, s2, s3⟩ := HR6.out.four
  clear ho hb5 HCl HK4 HR4
  go_wp2_with fail
  go_region
  all_goals
    go_wp2
    refine bodyPost_ret (v := .tuple #[.agg #[.int .i64 P, .int .i64 who, .int .i64 (now + 10), .slice a5 N c5], .int .i64 P, .int .i64 0]) ?_ rfl ⟨_, rfl, ?_, ?_⟩
    · simp [results, Tryz.results7, go_sem, r0, r1, r2, r3]
    · exact row_base HO5.out HB4.out.size
    · (repeat' (first | exact HB5.out | with_reducible refine Below.drew ?_ | with_reducible refine bse ?_ (by first | (simp; done) | (simp; omega) | (show _ ≤ _; omega)) _))
end Go.Proofs.YtjainfehlbfiaaaGreat

namespace Go.Proofs.YtjainfehlbfiaaaGreat
open Go.RowKit

def wrE (ep : Int) (l : List En) (epoch : Int) (o : Opd) : Int := if ((epoch != ep) || (epoch == 0)) = true then 4 else addE l epoch o
theorem keepW {w W W' : World} {b kb : Nat} {v0 v1 v2 v3 v4 v5 v6 v7 v8 v9 v10 s : Value} (h : (W.cell? ⟨b, 0, none⟩ = some (v0) ∧ W.cell? ⟨b, 1, none⟩ = some (v1) ∧ W.cell? ⟨b, 2, none⟩ = some (v2) ∧ W.cell? ⟨b, 3, none⟩ = some (v3) ∧ W.cell? ⟨b, 4, none⟩ = some (v4) ∧ W.cell? ⟨b, 5, none⟩ = some (v5) ∧ W.cell? ⟨b, 6, none⟩ = some (v6) ∧ W.cell? ⟨b, 7, none⟩ = some (v7) ∧ W.cell? ⟨b, 8, none⟩ = some (v8) ∧ W.cell? ⟨b, 9, none⟩ = some (v9) ∧ W.cell? ⟨b, 10, none⟩ = some (v10) ∧ b < W.heap.size) ∧ (W.cell? ⟨kb, 3, none⟩ = some s ∧ kb < W.heap.size) ∧ Below w.heap.size w W) (hb : Below W.heap.size W W') : (W'.cell? ⟨b, 0, none⟩ = some (v0) ∧ W'.cell? ⟨b, 1, none⟩ = some (v1) ∧ W'.cell? ⟨b, 2, none⟩ = some (v2) ∧ W'.cell? ⟨b, 3, none⟩ = some (v3) ∧ W'.cell? ⟨b, 4, none⟩ = some (v4) ∧ W'.cell? ⟨b, 5, none⟩ = some (v5) ∧ W'.cell? ⟨b, 6, none⟩ = some (v6) ∧ W'.cell? ⟨b, 7, none⟩ = some (v7) ∧ W'.cell? ⟨b, 8, none⟩ = some (v8) ∧ W'.cell? ⟨b, 9, none⟩ = some (v9) ∧ W'.cell? ⟨b, 10, none⟩ = some (v10) ∧ b < W'.heap.size) ∧ (W'.cell? ⟨kb, 3, none⟩ = some s ∧ kb < W'.heap.size) ∧ Below w.heap.size w W' := by
  obtain ⟨⟨a0, a1, a2, a3, a4, a5, a6, a7, a8, a9, a10, z⟩, ⟨s0, s1⟩, hw⟩ := h
  have k := (bcell hb).1
  exact ⟨⟨by rw [k _ _ z]; exact a0, by rw [k _ _ z]; exact a1, by rw [k _ _ z]; exact a2, by rw [k _ _ z]; exact a3, by rw [k _ _ z]; exact a4, by rw [k _ _ z]; exact a5, by rw [k _ _ z]; exact a6, by rw [k _ _ z]; exact a7, by rw [k _ _ z]; exact a8, by rw [k _ _ z]; exact a9, by rw [k _ _ z]; exact a10, Nat.lt_of_lt_of_le z hb.size⟩, ⟨by rw [k _ _ s1]; exact s0, Nat.lt_of_lt_of_le s1 hb.size⟩, btr hw hb⟩
set_option maxHeartbeats 16000000 in
set_option maxRecDepth 100000 in
theorem write_bad (kb : Nat) (ep h u : Int) (a : Option Addr) (c : Nat) (l : List En) (epoch : Int) (o : Opd) (w : World) (hk : KpAt w kb ep h u (.slice a l.length c)) (hc : l.length ≤ c) (hs : Lies enE w a l) (h0 : ¬ wrE ep l epoch o = 0) :
    Calls Tryz.prog 24 #[.pointer (some ⟨kb, 0, none⟩), .int .i64 epoch, .agg #[.int .i64 o.k, .bool o.p.v, .int .u64 o.p.hi, .int .u64 o.p.lo, .int .i64 o.p.b, .bool o.a.v, .int .u64 o.a.hi, .int .u64 o.a.lo, .string o.who, .int .i64 o.pof, .int .i64 o.n]] w fun e w' => e = .returned (.int .i64 (wrE ep l epoch o)) ∧ Below w.heap.size w w' := by
  have HK1 := Lib.hid (hk.below (bal (Below.refl w.heap.size w) (.cells #[.int .i64 o.k, .bool o.p.v, .int .u64 o.p.hi, .int .u64 o.p.lo, .int .i64 o.p.b, .bool o.a.v, .int .u64 o.a.hi, .int .u64 o.a.lo, .string o.who, .int .i64 o.pof, .int .i64 o.n] 33)))
  have HB1 := Lib.hid (bal (Below.refl w.heap.size w) (.cells #[.int .i64 o.k, .bool o.p.v, .int .u64 o.p.hi, .int .u64 o.p.lo, .int .i64 o.p.b, .bool o.a.v, .int .u64 o.a.hi, .int .u64 o.a.lo, .string o.who, .int .i64 o.pof, .int .i64 o.n] 33))
  have HO1 := Lib.hid (HasL.new w [.int .i64 o.k, .bool o.p.v, .int .u64 o.p.hi, .int .u64 o.p.lo, .int .i64 o.p.b, .bool o.a.v, .int .u64 o.a.hi, .int .u64 o.a.lo, .string o.who, .int .i64 o.pof, .int .i64 o.n] 33)
  have hkl := hk.lt
  have HA : Hid (¬ addE l epoch o = 0 → ∀ W, Below w.heap.size w W → Calls Tryz.prog 14 #[.slice a l.length c, .int .i64 epoch, .agg #[.int .i64 o.k, .bool o.p.v, .int .u64 o.p.hi, .int .u64 o.p.lo, .int .i64 o.p.b, .bool o.a.v, .int .u64 o.a.hi, .int .u64 o.a.lo, .string o.who, .int .i64 o.pof, .int .i64 o.n]] W fun e w' => e = .returned (.tuple #[.slice none 0 0, .int .i64 (addE l epoch o)]) ∧ Below W.heap.size W w') := fun hE W hW => add_bad a c l epoch o W hc (hs.below hW) hE
  unfold wrE at *
  generalize addE l epoch o = r at *
  generalize o.k = y0 at *
  generalize o.p.v = y1 at *
  generalize o.p.hi = y2 at *
  generalize o.p.lo = y3 at *
  generalize o.p.b = y4 at *
  generalize o.a.v = y5 at *
  generalize o.a.hi = y6 at *
  generalize o.a.lo = y7 at *
  generalize o.who = y8 at *
  generalize o.pof = y9 at *
  generalize o.n = y10 at *
  generalize l.length = N at *
  clear hs hc hk
  cases b1 : (epoch != ep)
  · cases b2 : (epoch == 0)
    · rw [b1, b2] at h0
      rw [if_neg (by decide)] at h0
      rw [if_neg (by decide)]
      replace HA := Lib.hid (HA.out h0)
      have hI : (r != 0) = true := by rw [bne_iff_ne]; exact h0
      clear h0
      obtain ⟨⟨k0, k1, k2, k3⟩, g0, g1, g2, g3⟩ := HK1.out.cells
      have S0 : Hid (((w.alloc (.cells #[.int .i64 y0, .bool y1, .int .u64 y2, .int .u64 y3, .int .i64 y4, .bool y5, .int .u64 y6, .int .u64 y7, .string y8, .int .i64 y9, .int .i64 y10] 33)).cell? ⟨w.heap.size, 0, none⟩ = some (.int .i64 y0) ∧ (w.alloc (.cells #[.int .i64 y0, .bool y1, .int .u64 y2, .int .u64 y3, .int .i64 y4, .bool y5, .int .u64 y6, .int .u64 y7, .string y8, .int .i64 y9, .int .i64 y10] 33)).cell? ⟨w.heap.size, 1, none⟩ = some (.bool y1) ∧ (w.alloc (.cells #[.int .i64 y0, .bool y1, .int .u64 y2, .int .u64 y3, .int .i64 y4, .bool y5, .int .u64 y6, .int .u64 y7, .string y8, .int .i64 y9, .int .i64 y10] 33)).cell? ⟨w.heap.size, 2, none⟩ = some (.int .u64 y2) ∧ (w.alloc (.cells #[.int .i64 y0, .bool y1, .int .u64 y2, .int .u64 y3, .int .i64 y4, .bool y5, .int .u64 y6, .int .u64 y7, .string y8, .int .i64 y9, .int .i64 y10] 33)).cell? ⟨w.heap.size, 3, none⟩ = some (.int .u64 y3) ∧ (w.alloc (.cells #[.int .i64 y0, .bool y1, .int .u64 y2, .int .u64 y3, .int .i64 y4, .bool y5, .int .u64 y6, .int .u64 y7, .string y8, .int .i64 y9, .int .i64 y10] 33)).cell? ⟨w.heap.size, 4, none⟩ = some (.int .i64 y4) ∧ (w.alloc (.cells #[.int .i64 y0, .bool y1, .int .u64 y2, .int .u64 y3, .int .i64 y4, .bool y5, .int .u64 y6, .int .u64 y7, .string y8, .int .i64 y9, .int .i64 y10] 33)).cell? ⟨w.heap.size, 5, none⟩ = some (.bool y5) ∧ (w.alloc (.cells #[.int .i64 y0, .bool y1, .int .u64 y2, .int .u64 y3, .int .i64 y4, .bool y5, .int .u64 y6, .int .u64 y7, .string y8, .int .i64 y9, .int .i64 y10] 33)).cell? ⟨w.heap.size, 6, none⟩ = some (.int .u64 y6) ∧ (w.alloc (.cells #[.int .i64 y0, .bool y1, .int .u64 y2, .int .u64 y3, .int .i64 y4, .bool y5, .int .u64 y6, .int .u64 y7, .string y8, .int .i64 y9, .int .i64 y10] 33)).cell? ⟨w.heap.size, 7, none⟩ = some (.int .u64 y7) ∧ (w.alloc (.cells #[.int .i64 y0, .bool y1, .int .u64 y2, .int .u64 y3, .int .i64 y4, .bool y5, .int .u64 y6, .int .u64 y7, .string y8, .int .i64 y9, .int .i64 y10] 33)).cell? ⟨w.heap.size, 8, none⟩ = some (.string y8) ∧ (w.alloc (.cells #[.int .i64 y0, .bool y1, .int .u64 y2, .int .u64 y3, .int .i64 y4, .bool y5, .int .u64 y6, .int .u64 y7, .string y8, .int .i64 y9, .int .i64 y10] 33)).cell? ⟨w.heap.size, 9, none⟩ = some (.int .i64 y9) ∧ (w.alloc (.cells #[.int .i64 y0, .bool y1, .int .u64 y2, .int .u64 y3, .int .i64 y4, .bool y5, .int .u64 y6, .int .u64 y7, .string y8, .int .i64 y9, .int .i64 y10] 33)).cell? ⟨w.heap.size, 10, none⟩ = some (.int .i64 y10) ∧ w.heap.size < (w.alloc (.cells #[.int .i64 y0, .bool y1, .int .u64 y2, .int .u64 y3, .int .i64 y4, .bool y5, .int .u64 y6, .int .u64 y7, .string y8, .int .i64 y9, .int .i64 y10] 33)).heap.size) ∧ ((w.alloc (.cells #[.int .i64 y0, .bool y1, .int .u64 y2, .int .u64 y3, .int .i64 y4, .bool y5, .int .u64 y6, .int .u64 y7, .string y8, .int .i64 y9, .int .i64 y10] 33)).cell? ⟨kb, 3, none⟩ = some (.slice a N c) ∧ kb < (w.alloc (.cells #[.int .i64 y0, .bool y1, .int .u64 y2, .int .u64 y3, .int .i64 y4, .bool y5, .int .u64 y6, .int .u64 y7, .string y8, .int .i64 y9, .int .i64 y10] 33)).heap.size) ∧ Below w.heap.size w (w.alloc (.cells #[.int .i64 y0, .bool y1, .int .u64 y2, .int .u64 y3, .int .i64 y4, .bool y5, .int .u64 y6, .int .u64 y7, .string y8, .int .i64 y9, .int .i64 y10] 33))) := ⟨⟨HO1.out.1 0 _ rfl, HO1.out.1 1 _ rfl, HO1.out.1 2 _ rfl, HO1.out.1 3 _ rfl, HO1.out.1 4 _ rfl, HO1.out.1 5 _ rfl, HO1.out.1 6 _ rfl, HO1.out.1 7 _ rfl, HO1.out.1 8 _ rfl, HO1.out.1 9 _ rfl, HO1.out.1 10 _ rfl, HO1.out.2⟩, ⟨k3, HK1.out.lt⟩, HB1.out⟩
      have S1 : Hid (((w.alloc (.cells #[.int .i64 y0, .bool y1, .int .u64 y2, .int .u64 y3, .int .i64 y4, .bool y5, .int .u64 y6, .int .u64 y7, .string y8, .int .i64 y9, .int .i64 y10] 33)).drew.cell? ⟨w.heap.size, 0, none⟩ = some (.int .i64 y0) ∧ (w.alloc (.cells #[.int .i64 y0, .bool y1, .int .u64 y2, .int .u64 y3, .int .i64 y4, .bool y5, .int .u64 y6, .int .u64 y7, .string y8, .int .i64 y9, .int .i64 y10] 33)).drew.cell? ⟨w.heap.size, 1, none⟩ = some (.bool y1) ∧ (w.alloc (.cells #[.int .i64 y0, .bool y1, .int .u64 y2, .int .u64 y3, .int .i64 y4, .bool y5, .int .u64 y6, .int .u64 y7, .string y8, .int .i64 y9, .int .i64 y10] 33)).drew.cell? ⟨w.heap.size, 2, none⟩ = some (.int .u64 y2) ∧ (w.alloc (.cells #[.int .i64 y0, .bool y1, .int .u64 y2, .int .u64 y3, .int .i64 y4, .bool y5, .int .u64 y6, .int .u64 y7, .string y8, .int .i64 y9, .int .i64 y10] 33)).drew.cell? ⟨w.heap.size, 3, none⟩ = some (.int .u64 y3) ∧ (w.alloc (.cells #[.int .i64 y0, .bool y1, .int .u64 y2, .int .u64 y3, .int .i64 y4, .bool y5, .int .u64 y6, .int .u64 y7, .string y8, .int .i64 y9, .int .i64 y10] 33)).drew.cell? ⟨w.heap.size, 4, none⟩ = some (.int .i64 y4) ∧ (w.alloc (.cells #[.int .i64 y0, .bool y1, .int .u64 y2, .int .u64 y3, .int .i64 y4, .bool y5, .int .u64 y6, .int .u64 y7, .string y8, .int .i64 y9, .int .i64 y10] 33)).drew.cell? ⟨w.heap.size, 5, none⟩ = some (.bool y5) ∧ (w.alloc (.cells #[.int .i64 y0, .bool y1, .int .u64 y2, .int .u64 y3, .int .i64 y4, .bool y5, .int .u64 y6, .int .u64 y7, .string y8, .int .i64 y9, .int .i64 y10] 33)).drew.cell? ⟨w.heap.size, 6, none⟩ = some (.int .u64 y6) ∧ (w.alloc (.cells #[.int .i64 y0, .bool y1, .int .u64 y2, .int .u64 y3, .int .i64 y4, .bool y5, .int .u64 y6, .int .u64 y7, .string y8, .int .i64 y9, .int .i64 y10] 33)).drew.cell? ⟨w.heap.size, 7, none⟩ = some (.int .u64 y7) ∧ (w.alloc (.cells #[.int .i64 y0, .bool y1, .int .u64 y2, .int .u64 y3, .int .i64 y4, .bool y5, .int .u64 y6, .int .u64 y7, .string y8, .int .i64 y9, .int .i64 y10] 33)).drew.cell? ⟨w.heap.size, 8, none⟩ = some (.string y8) ∧ (w.alloc (.cells #[.int .i64 y0, .bool y1, .int .u64 y2, .int .u64 y3, .int .i64 y4, .bool y5, .int .u64 y6, .int .u64 y7, .string y8, .int .i64 y9, .int .i64 y10] 33)).drew.cell? ⟨w.heap.size, 9, none⟩ = some (.int .i64 y9) ∧ (w.alloc (.cells #[.int .i64 y0, .bool y1, .int .u64 y2, .int .u64 y3, .int .i64 y4, .bool y5, .int .u64 y6, .int .u64 y7, .string y8, .int .i64 y9, .int .i64 y10] 33)).drew.cell? ⟨w.heap.size, 10, none⟩ = some (.int .i64 y10) ∧ w.heap.size < (w.alloc (.cells #[.int .i64 y0, .bool y1, .int .u64 y2, .int .u64 y3, .int .i64 y4, .bool y5, .int .u64 y6, .int .u64 y7, .string y8, .int .i64 y9, .int .i64 y10] 33)).drew.heap.size) ∧ ((w.alloc (.cells #[.int .i64 y0, .bool y1, .int .u64 y2, .int .u64 y3, .int .i64 y4, .bool y5, .int .u64 y6, .int .u64 y7, .string y8, .int .i64 y9, .int .i64 y10] 33)).drew.cell? ⟨kb, 3, none⟩ = some (.slice a N c) ∧ kb < (w.alloc (.cells #[.int .i64 y0, .bool y1, .int .u64 y2, .int .u64 y3, .int .i64 y4, .bool y5, .int .u64 y6, .int .u64 y7, .string y8, .int .i64 y9, .int .i64 y10] 33)).drew.heap.size) ∧ Below w.heap.size w (w.alloc (.cells #[.int .i64 y0, .bool y1, .int .u64 y2, .int .u64 y3, .int .i64 y4, .bool y5, .int .u64 y6, .int .u64 y7, .string y8, .int .i64 y9, .int .i64 y10] 33)).drew) := ⟨S0.out.1, S0.out.2.1, S0.out.2.2.drew⟩
      clear HO1
      go_enter Tryz.func24, Tryz.ntmps24
      go_wp2_with fail
      go_region_held3 (fun w' => (w'.cell? ⟨w.heap.size, 0, none⟩ = some (.int .i64 y0) ∧ w'.cell? ⟨w.heap.size, 1, none⟩ = some (.bool y1) ∧ w'.cell? ⟨w.heap.size, 2, none⟩ = some (.int .u64 y2) ∧ w'.cell? ⟨w.heap.size, 3, none⟩ = some (.int .u64 y3) ∧ w'.cell? ⟨w.heap.size, 4, none⟩ = some (.int .i64 y4) ∧ w'.cell? ⟨w.heap.size, 5, none⟩ = some (.bool y5) ∧ w'.cell? ⟨w.heap.size, 6, none⟩ = some (.int .u64 y6) ∧ w'.cell? ⟨w.heap.size, 7, none⟩ = some (.int .u64 y7) ∧ w'.cell? ⟨w.heap.size, 8, none⟩ = some (.string y8) ∧ w'.cell? ⟨w.heap.size, 9, none⟩ = some (.int .i64 y9) ∧ w'.cell? ⟨w.heap.size, 10, none⟩ = some (.int .i64 y10) ∧ w.heap.size < w'.heap.size) ∧ (w'.cell? ⟨kb, 3, none⟩ = some (.slice a N c) ∧ kb < w'.heap.size) ∧ Below w.heap.size w w')
        (first | with_reducible exact S1.out | with_reducible exact S0.out | with_reducible exact S2.out | fail)
        ((go_at_call 14; refine (HA.out _ S1.out.2.2).mono ?_; rintro e w2 ⟨rfl, hb2⟩; have S2 := Lib.hid (keepW S1.out hb2); clear hb2))
      have HB2 := Lib.hid S2.out.2.2
      clear S1 S2 S0
      go_wp2
      go_ret
      exact ⟨rfl, HB2.out⟩
    · rw [if_pos (by simp)]
      obtain ⟨⟨k0, k1, k2, k3⟩, g0, g1, g2, g3⟩ := HK1.out.cells
      clear h0 HA
      go_enter Tryz.func24, Tryz.ntmps24
      go_wp2
      go_ret
      exact ⟨rfl, HB1.out⟩
  · rw [if_pos (by simp)]
    obtain ⟨⟨k0, k1, k2, k3⟩, g0, g1, g2, g3⟩ := HK1.out.cells
    clear h0 HA
    go_enter Tryz.func24, Tryz.ntmps24
    go_wp2
    go_ret
    exact ⟨rfl, HB1.out⟩
set_option maxHeartbeats 16000000 in
set_option maxRecDepth 100000 in
theorem write_ok (kb : Nat) (ep h u : Int) (a : Option Addr) (c : Nat) (l : List En) (epoch : Int) (o : Opd) (w : World) (hk : KpAt w kb ep h u (.slice a l.length c)) (hc : l.length ≤ c) (hs : Lies enE w a l) (h0 : wrE ep l epoch o = 0) :
    Calls Tryz.prog 24 #[.pointer (some ⟨kb, 0, none⟩), .int .i64 epoch, .agg #[.int .i64 o.k, .bool o.p.v, .int .u64 o.p.hi, .int .u64 o.p.lo, .int .i64 o.p.b, .bool o.a.v, .int .u64 o.a.hi, .int .u64 o.a.lo, .string o.who, .int .i64 o.pof, .int .i64 o.n]] w fun e w' => e = .returned (.int .i64 0) ∧ ∃ a' c', KpAt w' kb ep h u (.slice a' (l.length + 1) c') ∧ w'.ownsRow w.heap.size 68 enE.k (.slice a' (l.length + 1) c') (l.length + 1) (rowOf enE (l ++ [newE l epoch o])) ∧ Below kb w w' := by
  have HK1 := Lib.hid (hk.below (bal (Below.refl w.heap.size w) (.cells #[.int .i64 o.k, .bool o.p.v, .int .u64 o.p.hi, .int .u64 o.p.lo, .int .i64 o.p.b, .bool o.a.v, .int .u64 o.a.hi, .int .u64 o.a.lo, .string o.who, .int .i64 o.pof, .int .i64 o.n] 33)))
  have HB1 := Lib.hid (bal (Below.refl w.heap.size w) (.cells #[.int .i64 o.k, .bool o.p.v, .int .u64 o.p.hi, .int .u64 o.p.lo, .int .i64 o.p.b, .bool o.a.v, .int .u64 o.a.hi, .int .u64 o.a.lo, .string o.who, .int .i64 o.pof, .int .i64 o.n] 33))
  have HO1 := Lib.hid (HasL.new w [.int .i64 o.k, .bool o.p.v, .int .u64 o.p.hi, .int .u64 o.p.lo, .int .i64 o.p.b, .bool o.a.v, .int .u64 o.a.hi, .int .u64 o.a.lo, .string o.who, .int .i64 o.pof, .int .i64 o.n] 33)
  have hkl := hk.lt
  have hb : ((epoch != ep) || (epoch == 0)) = false := by
    cases hh : ((epoch != ep) || (epoch == 0))
    · rfl
    · unfold wrE at h0; rw [if_pos hh] at h0; exact absurd h0 (by decide)
  have hE : addE l epoch o = 0 := by unfold wrE at h0; rw [hb, if_neg (by decide)] at h0; exact h0
  rw [Bool.or_eq_false_iff] at hb
  obtain ⟨b1, b2⟩ := hb
  have HA : Hid (∀ W, Below w.heap.size w W → Calls Tryz.prog 14 #[.slice a l.length c, .int .i64 epoch, .agg #[.int .i64 o.k, .bool o.p.v, .int .u64 o.p.hi, .int .u64 o.p.lo, .int .i64 o.p.b, .bool o.a.v, .int .u64 o.a.hi, .int .u64 o.a.lo, .string o.who, .int .i64 o.pof, .int .i64 o.n]] W fun e w' => ∃ a' c', e = .returned (.tuple #[.slice a' (l.length + 1) c', .int .i64 0]) ∧ w'.ownsRow W.heap.size 68 enE.k (.slice a' (l.length + 1) c') (l.length + 1) (rowOf enE (l ++ [newE l epoch o])) ∧ Below W.heap.size W w') := fun W hW => (add_ok a c l epoch o W hc (hs.below hW) hE).mono fun e w' h => by
    obtain ⟨v', h1, h2, h3⟩ := h
    rw [show (l ++ [newE l epoch o]).length = l.length + 1 by simp] at h2
    obtain ⟨a', c', rfl⟩ := own_slice h2
    exact ⟨a', c', h1, h2, h3⟩
  have hkn : ∀ k, k < w.heap.size → k ≠ kb → True := fun _ _ _ => trivial
  generalize rowOf enE (l ++ [newE l epoch o]) = row at *
  clear h0 hE
  generalize o.k = y0 at *
  generalize o.p.v = y1 at *
  generalize o.p.hi = y2 at *
  generalize o.p.lo = y3 at *
  generalize o.p.b = y4 at *
  generalize o.a.v = y5 at *
  generalize o.a.hi = y6 at *
  generalize o.a.lo = y7 at *
  generalize o.who = y8 at *
  generalize o.pof = y9 at *
  generalize o.n = y10 at *
  generalize l.length = N at *
  clear hs hc hk hkn
  obtain ⟨⟨k0, k1, k2, k3⟩, g0, g1, g2, g3⟩ := HK1.out.cells
  have S0 : Hid (((w.alloc (.cells #[.int .i64 y0, .bool y1, .int .u64 y2, .int .u64 y3, .int .i64 y4, .bool y5, .int .u64 y6, .int .u64 y7, .string y8, .int .i64 y9, .int .i64 y10] 33)).cell? ⟨w.heap.size, 0, none⟩ = some (.int .i64 y0) ∧ (w.alloc (.cells #[.int .i64 y0, .bool y1, .int .u64 y2, .int .u64 y3, .int .i64 y4, .bool y5, .int .u64 y6, .int .u64 y7, .string y8, .int .i64 y9, .int .i64 y10] 33)).cell? ⟨w.heap.size, 1, none⟩ = some (.bool y1) ∧ (w.alloc (.cells #[.int .i64 y0, .bool y1, .int .u64 y2, .int .u64 y3, .int .i64 y4, .bool y5, .int .u64 y6, .int .u64 y7, .string y8, .int .i64 y9, .int .i64 y10] 33)).cell? ⟨w.heap.size, 2, none⟩ = some (.int .u64 y2) ∧ (w.alloc (.cells #[.int .i64 y0, .bool y1, .int .u64 y2, .int .u64 y3, .int .i64 y4, .bool y5, .int .u64 y6, .int .u64 y7, .string y8, .int .i64 y9, .int .i64 y10] 33)).cell? ⟨w.heap.size, 3, none⟩ = some (.int .u64 y3) ∧ (w.alloc (.cells #[.int .i64 y0, .bool y1, .int .u64 y2, .int .u64 y3, .int .i64 y4, .bool y5, .int .u64 y6, .int .u64 y7, .string y8, .int .i64 y9, .int .i64 y10] 33)).cell? ⟨w.heap.size, 4, none⟩ = some (.int .i64 y4) ∧ (w.alloc (.cells #[.int .i64 y0, .bool y1, .int .u64 y2, .int .u64 y3, .int .i64 y4, .bool y5, .int .u64 y6, .int .u64 y7, .string y8, .int .i64 y9, .int .i64 y10] 33)).cell? ⟨w.heap.size, 5, none⟩ = some (.bool y5) ∧ (w.alloc (.cells #[.int .i64 y0, .bool y1, .int .u64 y2, .int .u64 y3, .int .i64 y4, .bool y5, .int .u64 y6, .int .u64 y7, .string y8, .int .i64 y9, .int .i64 y10] 33)).cell? ⟨w.heap.size, 6, none⟩ = some (.int .u64 y6) ∧ (w.alloc (.cells #[.int .i64 y0, .bool y1, .int .u64 y2, .int .u64 y3, .int .i64 y4, .bool y5, .int .u64 y6, .int .u64 y7, .string y8, .int .i64 y9, .int .i64 y10] 33)).cell? ⟨w.heap.size, 7, none⟩ = some (.int .u64 y7) ∧ (w.alloc (.cells #[.int .i64 y0, .bool y1, .int .u64 y2, .int .u64 y3, .int .i64 y4, .bool y5, .int .u64 y6, .int .u64 y7, .string y8, .int .i64 y9, .int .i64 y10] 33)).cell? ⟨w.heap.size, 8, none⟩ = some (.string y8) ∧ (w.alloc (.cells #[.int .i64 y0, .bool y1, .int .u64 y2, .int .u64 y3, .int .i64 y4, .bool y5, .int .u64 y6, .int .u64 y7, .string y8, .int .i64 y9, .int .i64 y10] 33)).cell? ⟨w.heap.size, 9, none⟩ = some (.int .i64 y9) ∧ (w.alloc (.cells #[.int .i64 y0, .bool y1, .int .u64 y2, .int .u64 y3, .int .i64 y4, .bool y5, .int .u64 y6, .int .u64 y7, .string y8, .int .i64 y9, .int .i64 y10] 33)).cell? ⟨w.heap.size, 10, none⟩ = some (.int .i64 y10) ∧ w.heap.size < (w.alloc (.cells #[.int .i64 y0, .bool y1, .int .u64 y2, .int .u64 y3, .int .i64 y4, .bool y5, .int .u64 y6, .int .u64 y7, .string y8, .int .i64 y9, .int .i64 y10] 33)).heap.size) ∧ ((w.alloc (.cells #[.int .i64 y0, .bool y1, .int .u64 y2, .int .u64 y3, .int .i64 y4, .bool y5, .int .u64 y6, .int .u64 y7, .string y8, .int .i64 y9, .int .i64 y10] 33)).cell? ⟨kb, 3, none⟩ = some (.slice a N c) ∧ kb < (w.alloc (.cells #[.int .i64 y0, .bool y1, .int .u64 y2, .int .u64 y3, .int .i64 y4, .bool y5, .int .u64 y6, .int .u64 y7, .string y8, .int .i64 y9, .int .i64 y10] 33)).heap.size) ∧ Below w.heap.size w (w.alloc (.cells #[.int .i64 y0, .bool y1, .int .u64 y2, .int .u64 y3, .int .i64 y4, .bool y5, .int .u64 y6, .int .u64 y7, .string y8, .int .i64 y9, .int .i64 y10] 33))) := ⟨⟨HO1.out.1 0 _ rfl, HO1.out.1 1 _ rfl, HO1.out.1 2 _ rfl, HO1.out.1 3 _ rfl, HO1.out.1 4 _ rfl, HO1.out.1 5 _ rfl, HO1.out.1 6 _ rfl, HO1.out.1 7 _ rfl, HO1.out.1 8 _ rfl, HO1.out.1 9 _ rfl, HO1.out.1 10 _ rfl, HO1.out.2⟩, ⟨k3, HK1.out.lt⟩, HB1.out⟩
  have S1 : Hid (((w.alloc (.cells #[.int .i64 y0, .bool y1, .int .u64 y2, .int .u64 y3, .int .i64 y4, .bool y5, .int .u64 y6, .int .u64 y7, .string y8, .int .i64 y9, .int .i64 y10] 33)).drew.cell? ⟨w.heap.size, 0, none⟩ = some (.int .i64 y0) ∧ (w.alloc (.cells #[.int .i64 y0, .bool y1, .int .u64 y2, .int .u64 y3, .int .i64 y4, .bool y5, .int .u64 y6, .int .u64 y7, .string y8, .int .i64 y9, .int .i64 y10] 33)).drew.cell? ⟨w.heap.size, 1, none⟩ = some (.bool y1) ∧ (w.alloc (.cells #[.int .i64 y0, .bool y1, .int .u64 y2, .int .u64 y3, .int .i64 y4, .bool y5, .int .u64 y6, .int .u64 y7, .string y8, .int .i64 y9, .int .i64 y10] 33)).drew.cell? ⟨w.heap.size, 2, none⟩ = some (.int .u64 y2) ∧ (w.alloc (.cells #[.int .i64 y0, .bool y1, .int .u64 y2, .int .u64 y3, .int .i64 y4, .bool y5, .int .u64 y6, .int .u64 y7, .string y8, .int .i64 y9, .int .i64 y10] 33)).drew.cell? ⟨w.heap.size, 3, none⟩ = some (.int .u64 y3) ∧ (w.alloc (.cells #[.int .i64 y0, .bool y1, .int .u64 y2, .int .u64 y3, .int .i64 y4, .bool y5, .int .u64 y6, .int .u64 y7, .string y8, .int .i64 y9, .int .i64 y10] 33)).drew.cell? ⟨w.heap.size, 4, none⟩ = some (.int .i64 y4) ∧ (w.alloc (.cells #[.int .i64 y0, .bool y1, .int .u64 y2, .int .u64 y3, .int .i64 y4, .bool y5, .int .u64 y6, .int .u64 y7, .string y8, .int .i64 y9, .int .i64 y10] 33)).drew.cell? ⟨w.heap.size, 5, none⟩ = some (.bool y5) ∧ (w.alloc (.cells #[.int .i64 y0, .bool y1, .int .u64 y2, .int .u64 y3, .int .i64 y4, .bool y5, .int .u64 y6, .int .u64 y7, .string y8, .int .i64 y9, .int .i64 y10] 33)).drew.cell? ⟨w.heap.size, 6, none⟩ = some (.int .u64 y6) ∧ (w.alloc (.cells #[.int .i64 y0, .bool y1, .int .u64 y2, .int .u64 y3, .int .i64 y4, .bool y5, .int .u64 y6, .int .u64 y7, .string y8, .int .i64 y9, .int .i64 y10] 33)).drew.cell? ⟨w.heap.size, 7, none⟩ = some (.int .u64 y7) ∧ (w.alloc (.cells #[.int .i64 y0, .bool y1, .int .u64 y2, .int .u64 y3, .int .i64 y4, .bool y5, .int .u64 y6, .int .u64 y7, .string y8, .int .i64 y9, .int .i64 y10] 33)).drew.cell? ⟨w.heap.size, 8, none⟩ = some (.string y8) ∧ (w.alloc (.cells #[.int .i64 y0, .bool y1, .int .u64 y2, .int .u64 y3, .int .i64 y4, .bool y5, .int .u64 y6, .int .u64 y7, .string y8, .int .i64 y9, .int .i64 y10] 33)).drew.cell? ⟨w.heap.size, 9, none⟩ = some (.int .i64 y9) ∧ (w.alloc (.cells #[.int .i64 y0, .bool y1, .int .u64 y2, .int .u64 y3, .int .i64 y4, .bool y5, .int .u64 y6, .int .u64 y7, .string y8, .int .i64 y9, .int .i64 y10] 33)).drew.cell? ⟨w.heap.size, 10, none⟩ = some (.int .i64 y10) ∧ w.heap.size < (w.alloc (.cells #[.int .i64 y0, .bool y1, .int .u64 y2, .int .u64 y3, .int .i64 y4, .bool y5, .int .u64 y6, .int .u64 y7, .string y8, .int .i64 y9, .int .i64 y10] 33)).drew.heap.size) ∧ ((w.alloc (.cells #[.int .i64 y0, .bool y1, .int .u64 y2, .int .u64 y3, .int .i64 y4, .bool y5, .int .u64 y6, .int .u64 y7, .string y8, .int .i64 y9, .int .i64 y10] 33)).drew.cell? ⟨kb, 3, none⟩ = some (.slice a N c) ∧ kb < (w.alloc (.cells #[.int .i64 y0, .bool y1, .int .u64 y2, .int .u64 y3, .int .i64 y4, .bool y5, .int .u64 y6, .int .u64 y7, .string y8, .int .i64 y9, .int .i64 y10] 33)).drew.heap.size) ∧ Below w.heap.size w (w.alloc (.cells #[.int .i64 y0, .bool y1, .int .u64 y2, .int .u64 y3, .int .i64 y4, .bool y5, .int .u64 y6, .int .u64 y7, .string y8, .int .i64 y9, .int .i64 y10] 33)).drew) := ⟨S0.out.1, S0.out.2.1, S0.out.2.2.drew⟩
  clear HO1
  go_enter Tryz.func24, Tryz.ntmps24
  go_wp2_with fail
  go_region_held3 (fun w' => (w'.cell? ⟨w.heap.size, 0, none⟩ = some (.int .i64 y0) ∧ w'.cell? ⟨w.heap.size, 1, none⟩ = some (.bool y1) ∧ w'.cell? ⟨w.heap.size, 2, none⟩ = some (.int .u64 y2) ∧ w'.cell? ⟨w.heap.size, 3, none⟩ = some (.int .u64 y3) ∧ w'.cell? ⟨w.heap.size, 4, none⟩ = some (.int .i64 y4) ∧ w'.cell? ⟨w.heap.size, 5, none⟩ = some (.bool y5) ∧ w'.cell? ⟨w.heap.size, 6, none⟩ = some (.int .u64 y6) ∧ w'.cell? ⟨w.heap.size, 7, none⟩ = some (.int .u64 y7) ∧ w'.cell? ⟨w.heap.size, 8, none⟩ = some (.string y8) ∧ w'.cell? ⟨w.heap.size, 9, none⟩ = some (.int .i64 y9) ∧ w'.cell? ⟨w.heap.size, 10, none⟩ = some (.int .i64 y10) ∧ w.heap.size < w'.heap.size) ∧ (w'.cell? ⟨kb, 3, none⟩ = some (.slice a N c) ∧ kb < w'.heap.size) ∧ Below w.heap.size w w')
    (first | with_reducible exact S1.out | with_reducible exact S0.out | with_reducible exact S2.out | fail)
    ((go_at_call 14; refine (HA.out _ S1.out.2.2).mono ?_; rintro e w2 ⟨a', c', rfl, ho, hb2⟩; have S2 := Lib.hid (keepW S1.out hb2); have HO2 := Lib.hid ho; have HK2 := Lib.hid (HK1.out.below ((Below.refl _ _).drew.trans hb2)); clear hb2 ho))
  obtain ⟨⟨k0, k1, k2, k3⟩, g0, g1, g2, g3⟩ := HK2.out.cells
  have HB2 := Lib.hid S2.out.2.2
  clear S1 S2 S0
  go_wp2
  go_ret
  exact ⟨rfl, a', c', HK2.out.put3 _, own_st (row_base HO2.out (by simp)) hkl _, ((HB2.out).mono (Nat.le_of_lt hkl)).setCell (Nat.le_refl _) _⟩
end Go.Proofs.YtjainfehlbfiaaaGreat

namespace Go.Proofs.YtjainfehlbfiaaaGreat
open Go.RowKit

def writeE (d : Dk) (epoch : Int) (o : Opd) : Int := if d.bad = 0 then wrE d.ep d.l epoch o else d.bad
set_option maxHeartbeats 16000000 in
set_option maxRecDepth 100000 in
theorem fwrite_bad (d : Dk) (a : Option Addr) (c : Nat) (epoch : Int) (o : Opd) (w : World) (hc : d.l.length ≤ c) (hs : Lies enE w a d.l) (h0 : ¬ writeE d epoch o = 0) :
    Calls Tryz.prog 8 #[.agg #[.int .i64 d.ep, .int .i64 d.h, .int .i64 d.u, .slice a d.l.length c], .int .i64 epoch, .agg #[.int .i64 o.k, .bool o.p.v, .int .u64 o.p.hi, .int .u64 o.p.lo, .int .i64 o.p.b, .bool o.a.v, .int .u64 o.a.hi, .int .u64 o.a.lo, .string o.who, .int .i64 o.pof, .int .i64 o.n]] w fun e w' => e = .returned (.tuple #[.agg #[.int .i64 0, .int .i64 0, .int .i64 0, .slice none 0 0], .int .i64 (writeE d epoch o)]) ∧ Below w.heap.size w w' := by
  obtain ⟨W1, hW1⟩ : ∃ W1, W1 = ((w.alloc (.cells #[.int .i64 d.ep, .int .i64 d.h, .int .i64 d.u, .slice a d.l.length c] 26)).alloc (.cells #[.int .i64 o.k, .bool o.p.v, .int .u64 o.p.hi, .int .u64 o.p.lo, .int .i64 o.p.b, .bool o.a.v, .int .u64 o.a.hi, .int .u64 o.a.lo, .string o.who, .int .i64 o.pof, .int .i64 o.n] 33)).alloc (.cells #[.int .i64 0, .int .i64 0, .int .i64 0, .slice none 0 0] 26) := ⟨_, rfl⟩
  have hb1 : Below w.heap.size w W1 := by rw [hW1]; exact bal (bal (bal (Below.refl w.heap.size w) _) _) _
  have hD : Blk W1 w.heap.size 26 [.int .i64 d.ep, .int .i64 d.h, .int .i64 d.u, .slice a d.l.length c] := by rw [hW1]; exact ((Blk.new w _ _).below (bal (Below.refl _ _) _)).below (bal (Below.refl _ _) _)
  have hO : Blk W1 (w.heap.size + 1) 33 [.int .i64 o.k, .bool o.p.v, .int .u64 o.p.hi, .int .u64 o.p.lo, .int .i64 o.p.b, .bool o.a.v, .int .u64 o.a.hi, .int .u64 o.a.lo, .string o.who, .int .i64 o.pof, .int .i64 o.n] := by
    rw [hW1]
    have := Blk.new (w.alloc (.cells #[.int .i64 d.ep, .int .i64 d.h, .int .i64 d.u, .slice a d.l.length c] 26)) [.int .i64 o.k, .bool o.p.v, .int .u64 o.p.hi, .int .u64 o.p.lo, .int .i64 o.p.b, .bool o.a.v, .int .u64 o.a.hi, .int .u64 o.a.lo, .string o.who, .int .i64 o.pof, .int .i64 o.n] 33
    rw [show (w.alloc (.cells #[.int .i64 d.ep, .int .i64 d.h, .int .i64 d.u, .slice a d.l.length c] 26)).heap.size = w.heap.size + 1 by simp] at this
    exact this.below (bal (Below.refl _ _) _)
  have hR : Blk W1 (w.heap.size + 1 + 1) 26 [.int .i64 0, .int .i64 0, .int .i64 0, .slice none 0 0] := by
    rw [hW1]
    have := Blk.new ((w.alloc (.cells #[.int .i64 d.ep, .int .i64 d.h, .int .i64 d.u, .slice a d.l.length c] 26)).alloc (.cells #[.int .i64 o.k, .bool o.p.v, .int .u64 o.p.hi, .int .u64 o.p.lo, .int .i64 o.p.b, .bool o.a.v, .int .u64 o.a.hi, .int .u64 o.a.lo, .string o.who, .int .i64 o.pof, .int .i64 o.n] 33)) [.int .i64 0, .int .i64 0, .int .i64 0, .slice none 0 0] 26
    rw [show ((w.alloc (.cells #[.int .i64 d.ep, .int .i64 d.h, .int .i64 d.u, .slice a d.l.length c] 26)).alloc (.cells #[.int .i64 o.k, .bool o.p.v, .int .u64 o.p.hi, .int .u64 o.p.lo, .int .i64 o.p.b, .bool o.a.v, .int .u64 o.a.hi, .int .u64 o.a.lo, .string o.who, .int .i64 o.pof, .int .i64 o.n] 33)).heap.size = w.heap.size + 1 + 1 by simp] at this
    exact this
  have HC := Lib.hid (fcheck_any d.ep d.h d.u a c d.l W1 hc (hs.below hb1))
  have HB1 := Lib.hid hb1
  have HD := Lib.hid hD
  have HO := Lib.hid hO
  have HR := Lib.hid hR
  rw [hW1] at HC HB1 HD HR HO
  clear hb1 hD hR hO hW1 W1
  have HWr : Hid (¬ wrE d.ep d.l epoch o = 0 → ∀ (W : World) (kb : Nat), Below w.heap.size w W → KpAt W kb d.ep d.h d.u (.slice a d.l.length c) → Calls Tryz.prog 24 #[.pointer (some ⟨kb, 0, none⟩), .int .i64 epoch, .agg #[.int .i64 o.k, .bool o.p.v, .int .u64 o.p.hi, .int .u64 o.p.lo, .int .i64 o.p.b, .bool o.a.v, .int .u64 o.a.hi, .int .u64 o.a.lo, .string o.who, .int .i64 o.pof, .int .i64 o.n]] W fun e w' => e = .returned (.int .i64 (wrE d.ep d.l epoch o)) ∧ Below W.heap.size W w') := fun he W kb hW hk => write_bad kb d.ep d.h d.u a c d.l epoch o W hk hc (hs.below hW) he
  unfold writeE Dk.bad at *
  generalize diskE d.ep d.h d.u d.l = r at *
  generalize wrE d.ep d.l epoch o = rr at *
  clear hs hc
  generalize d.l.length = N at *
  generalize d.ep = ep at *
  generalize d.h = h at *
  generalize d.u = u at *
  generalize o.k = y0 at *
  generalize o.p.v = y1 at *
  generalize o.p.hi = y2 at *
  generalize o.p.lo = y3 at *
  generalize o.p.b = y4 at *
  generalize o.a.v = y5 at *
  generalize o.a.hi = y6 at *
  generalize o.a.lo = y7 at *
  generalize o.who = y8 at *
  generalize o.pof = y9 at *
  generalize o.n = y10 at *
  by_cases hr : r = 0
  · subst hr
    rw [if_pos rfl] at h0
    rw [if_pos rfl]
    have hI : (rr != 0) = true := by rw [bne_iff_ne]; exact h0
    replace HWr := Lib.hid (HWr.out h0)
    clear h0
    go_enter Tryz.func8, Tryz.ntmps8
    go_wp2_with fail
    refine HC.out.mono ?_
    rintro e w2 ⟨rfl, hb2⟩
    have HB2 := Lib.hid (btr HB1.out hb2)
    have HD2 := Lib.hid (HD.out.upto (by simp <;> omega) hb2)
    have HO2 := Lib.hid (HO.out.upto (by simp <;> omega) hb2)
    have HR2 := Lib.hid (HR.out.upto (by simp <;> omega) hb2)
    have hz2 : w.heap.size + 1 + 1 < w2.heap.size := by have := HR2.out.lt; omega
    have hz1 : w.heap.size + 1 < w2.heap.size := by omega
    obtain ⟨⟨d0, d1, d2, d3⟩, _⟩ := HD2.out.four
    obtain ⟨⟨r0, r1, r2, r3⟩, s0, s1, s2, s3⟩ := HR2.out.four
    obtain ⟨q0, q1, q2, q3, q4, q5, q6, q7, q8, q9, q10⟩ : w2.cell? ⟨w.heap.size + 1, 0, none⟩ = some (.int .i64 y0) ∧ w2.cell? ⟨w.heap.size + 1, 1, none⟩ = some (.bool y1) ∧ w2.cell? ⟨w.heap.size + 1, 2, none⟩ = some (.int .u64 y2) ∧ w2.cell? ⟨w.heap.size + 1, 3, none⟩ = some (.int .u64 y3) ∧ w2.cell? ⟨w.heap.size + 1, 4, none⟩ = some (.int .i64 y4) ∧ w2.cell? ⟨w.heap.size + 1, 5, none⟩ = some (.bool y5) ∧ w2.cell? ⟨w.heap.size + 1, 6, none⟩ = some (.int .u64 y6) ∧ w2.cell? ⟨w.heap.size + 1, 7, none⟩ = some (.int .u64 y7) ∧ w2.cell? ⟨w.heap.size + 1, 8, none⟩ = some (.string y8) ∧ w2.cell? ⟨w.heap.size + 1, 9, none⟩ = some (.int .i64 y9) ∧ w2.cell? ⟨w.heap.size + 1, 10, none⟩ = some (.int .i64 y10) := ⟨HO2.out.cell 0 _ rfl, HO2.out.cell 1 _ rfl, HO2.out.cell 2 _ rfl, HO2.out.cell 3 _ rfl, HO2.out.cell 4 _ rfl, HO2.out.cell 5 _ rfl, HO2.out.cell 6 _ rfl, HO2.out.cell 7 _ rfl, HO2.out.cell 8 _ rfl, HO2.out.cell 9 _ rfl, HO2.out.cell 10 _ rfl⟩
    clear hb2 HC HB1 HD HR HO
    have HK3 : Hid (KpAt (w2.alloc (.cells #[.int .i64 ep, .int .i64 h, .int .i64 u, .slice a N c] 62)) w2.heap.size ep h u (.slice a N c)) := KpAt.new w2 ep h u _
    have HR3 := Lib.hid (HR2.out.below (bal (Below.refl w2.heap.size w2) (.cells #[.int .i64 ep, .int .i64 h, .int .i64 u, .slice a N c] 62)))
    have HB3 := Lib.hid (bal HB2.out (.cells #[.int .i64 ep, .int .i64 h, .int .i64 u, .slice a N c] 62))
    go_wp2_with fail
    refine (HWr.out _ _ HB3.out HK3.out).mono ?_
    rintro e w4 ⟨rfl, hb4⟩
    have HR4 := Lib.hid (HR3.out.below hb4)
    have HB4 := Lib.hid (btr HB3.out hb4)
    obtain ⟨⟨r0, r1, r2, r3⟩, s0, s1, s2, s3⟩ := HR4.out.four
    clear hb4 HR3 HR2 HB3 HB2
    go_wp2
    refine bodyPost_ret (v := .tuple #[.agg #[.int .i64 0, .int .i64 0, .int .i64 0, .slice none 0 0], .int .i64 rr]) ?_ rfl ⟨rfl, ?_⟩
    · simp [results, Tryz.results8, go_sem, r0, r1, r2, r3]
    · (repeat' (first | exact HB4.out | with_reducible refine Below.drew ?_ | with_reducible refine bse ?_ (by first | (simp; done) | (simp; omega) | (show _ ≤ _; omega)) _))
  · rw [if_neg hr]
    have hI : (r != 0) = true := by rw [bne_iff_ne]; exact hr
    clear hr h0 HWr
    go_enter Tryz.func8, Tryz.ntmps8
    go_wp2_with fail
    refine HC.out.mono ?_
    rintro e w2 ⟨rfl, hb2⟩
    have HB2 := Lib.hid (btr HB1.out hb2)
    have HD2 := Lib.hid (HD.out.upto (by simp <;> omega) hb2)
    have HO2 := Lib.hid (HO.out.upto (by simp <;> omega) hb2)
    have HR2 := Lib.hid (HR.out.upto (by simp <;> omega) hb2)
    have hz2 : w.heap.size + 1 + 1 < w2.heap.size := by have := HR2.out.lt; omega
    have hz1 : w.heap.size + 1 < w2.heap.size := by omega
    obtain ⟨⟨d0, d1, d2, d3⟩, _⟩ := HD2.out.four
    obtain ⟨⟨r0, r1, r2, r3⟩, s0, s1, s2, s3⟩ := HR2.out.four
    obtain ⟨q0, q1, q2, q3, q4, q5, q6, q7, q8, q9, q10⟩ : w2.cell? ⟨w.heap.size + 1, 0, none⟩ = some (.int .i64 y0) ∧ w2.cell? ⟨w.heap.size + 1, 1, none⟩ = some (.bool y1) ∧ w2.cell? ⟨w.heap.size + 1, 2, none⟩ = some (.int .u64 y2) ∧ w2.cell? ⟨w.heap.size + 1, 3, none⟩ = some (.int .u64 y3) ∧ w2.cell? ⟨w.heap.size + 1, 4, none⟩ = some (.int .i64 y4) ∧ w2.cell? ⟨w.heap.size + 1, 5, none⟩ = some (.bool y5) ∧ w2.cell? ⟨w.heap.size + 1, 6, none⟩ = some (.int .u64 y6) ∧ w2.cell? ⟨w.heap.size + 1, 7, none⟩ = some (.int .u64 y7) ∧ w2.cell? ⟨w.heap.size + 1, 8, none⟩ = some (.string y8) ∧ w2.cell? ⟨w.heap.size + 1, 9, none⟩ = some (.int .i64 y9) ∧ w2.cell? ⟨w.heap.size + 1, 10, none⟩ = some (.int .i64 y10) := ⟨HO2.out.cell 0 _ rfl, HO2.out.cell 1 _ rfl, HO2.out.cell 2 _ rfl, HO2.out.cell 3 _ rfl, HO2.out.cell 4 _ rfl, HO2.out.cell 5 _ rfl, HO2.out.cell 6 _ rfl, HO2.out.cell 7 _ rfl, HO2.out.cell 8 _ rfl, HO2.out.cell 9 _ rfl, HO2.out.cell 10 _ rfl⟩
    clear hb2 HC HB1 HD HR HO
    go_wp2_with fail
    refine bodyPost_ret (v := .tuple #[.agg #[.int .i64 0, .int .i64 0, .int .i64 0, .slice none 0 0], .int .i64 r]) ?_ rfl ⟨rfl, ?_⟩
    · simp [results, Tryz.results8, go_sem, r0, r1, r2, r3]
    · (repeat' (first | exact HB2.out | with_reducible refine Below.drew ?_ | with_reducible refine bse ?_ (by first | (simp; done) | (simp; omega) | (show _ ≤ _; omega)) _))

set_option maxHeartbeats 16000000 in
set_option maxRecDepth 100000 in
theorem fwrite_ok (d : Dk) (a : Option Addr) (c : Nat) (epoch : Int) (o : Opd) (w : World) (hc : d.l.length ≤ c) (hs : Lies enE w a d.l) (h0 : writeE d epoch o = 0) :
    Calls Tryz.prog 8 #[.agg #[.int .i64 d.ep, .int .i64 d.h, .int .i64 d.u, .slice a d.l.length c], .int .i64 epoch, .agg #[.int .i64 o.k, .bool o.p.v, .int .u64 o.p.hi, .int .u64 o.p.lo, .int .i64 o.p.b, .bool o.a.v, .int .u64 o.a.hi, .int .u64 o.a.lo, .string o.who, .int .i64 o.pof, .int .i64 o.n]] w fun e w' => ∃ v, e = .returned (.tuple #[.agg #[.int .i64 d.ep, .int .i64 d.h, .int .i64 d.u, v], .int .i64 0]) ∧ w'.ownsRow w.heap.size 68 enE.k v (d.l.length + 1) (rowOf enE (d.l ++ [newE d.l epoch o])) ∧ Below w.heap.size w w' := by
  have hr : diskE d.ep d.h d.u d.l = 0 := by unfold writeE Dk.bad at h0; by_cases h : diskE d.ep d.h d.u d.l = 0; exact h; rw [if_neg h] at h0; exact absurd h0 h
  have hw0 : wrE d.ep d.l epoch o = 0 := by unfold writeE Dk.bad at h0; rw [if_pos hr] at h0; exact h0
  obtain ⟨W1, hW1⟩ : ∃ W1, W1 = ((w.alloc (.cells #[.int .i64 d.ep, .int .i64 d.h, .int .i64 d.u, .slice a d.l.length c] 26)).alloc (.cells #[.int .i64 o.k, .bool o.p.v, .int .u64 o.p.hi, .int .u64 o.p.lo, .int .i64 o.p.b, .bool o.a.v, .int .u64 o.a.hi, .int .u64 o.a.lo, .string o.who, .int .i64 o.pof, .int .i64 o.n] 33)).alloc (.cells #[.int .i64 0, .int .i64 0, .int .i64 0, .slice none 0 0] 26) := ⟨_, rfl⟩
  have hb1 : Below w.heap.size w W1 := by rw [hW1]; exact bal (bal (bal (Below.refl w.heap.size w) _) _) _
  have hD : Blk W1 w.heap.size 26 [.int .i64 d.ep, .int .i64 d.h, .int .i64 d.u, .slice a d.l.length c] := by rw [hW1]; exact ((Blk.new w _ _).below (bal (Below.refl _ _) _)).below (bal (Below.refl _ _) _)
  have hO : Blk W1 (w.heap.size + 1) 33 [.int .i64 o.k, .bool o.p.v, .int .u64 o.p.hi, .int .u64 o.p.lo, .int .i64 o.p.b, .bool o.a.v, .int .u64 o.a.hi, .int .u64 o.a.lo, .string o.who, .int .i64 o.pof, .int .i64 o.n] := by
    rw [hW1]
    have := Blk.new (w.alloc (.cells #[.int .i64 d.ep, .int .i64 d.h, .int .i64 d.u, .slice a d.l.length c] 26)) [.int .i64 o.k, .bool o.p.v, .int .u64 o.p.hi, .int .u64 o.p.lo, .int .i64 o.p.b, .bool o.a.v, .int .u64 o.a.hi, .int .u64 o.a.lo, .string o.who, .int .i64 o.pof, .int .i64 o.n] 33
    rw [show (w.alloc (.cells #[.int .i64 d.ep, .int .i64 d.h, .int .i64 d.u, .slice a d.l.length c] 26)).heap.size = w.heap.size + 1 by simp] at this
    exact this.below (bal (Below.refl _ _) _)
  have hR : Blk W1 (w.heap.size + 1 + 1) 26 [.int .i64 0, .int .i64 0, .int .i64 0, .slice none 0 0] := by
    rw [hW1]
    have := Blk.new ((w.alloc (.cells #[.int .i64 d.ep, .int .i64 d.h, .int .i64 d.u, .slice a d.l.length c] 26)).alloc (.cells #[.int .i64 o.k, .bool o.p.v, .int .u64 o.p.hi, .int .u64 o.p.lo, .int .i64 o.p.b, .bool o.a.v, .int .u64 o.a.hi, .int .u64 o.a.lo, .string o.who, .int .i64 o.pof, .int .i64 o.n] 33)) [.int .i64 0, .int .i64 0, .int .i64 0, .slice none 0 0] 26
    rw [show ((w.alloc (.cells #[.int .i64 d.ep, .int .i64 d.h, .int .i64 d.u, .slice a d.l.length c] 26)).alloc (.cells #[.int .i64 o.k, .bool o.p.v, .int .u64 o.p.hi, .int .u64 o.p.lo, .int .i64 o.p.b, .bool o.a.v, .int .u64 o.a.hi, .int .u64 o.a.lo, .string o.who, .int .i64 o.pof, .int .i64 o.n] 33)).heap.size = w.heap.size + 1 + 1 by simp] at this
    exact this
  have HC := Lib.hid (fcheck_any d.ep d.h d.u a c d.l W1 hc (hs.below hb1))
  have HB1 := Lib.hid hb1
  have HD := Lib.hid hD
  have HO := Lib.hid hO
  have HR := Lib.hid hR
  rw [hW1] at HC HB1 HD HR HO
  clear hb1 hD hR hO hW1 W1
  rw [hr] at HC
  have HWr : Hid (∀ (W : World) (kb : Nat), Below w.heap.size w W → KpAt W kb d.ep d.h d.u (.slice a d.l.length c) → Calls Tryz.prog 24 #[.pointer (some ⟨kb, 0, none⟩), .int .i64 epoch, .agg #[.int .i64 o.k, .bool o.p.v, .int .u64 o.p.hi, .int .u64 o.p.lo, .int .i64 o.p.b, .bool o.a.v, .int .u64 o.a.hi, .int .u64 o.a.lo, .string o.who, .int .i64 o.pof, .int .i64 o.n]] W fun e w' => e = .returned (.int .i64 0) ∧ ∃ a' c', KpAt w' kb d.ep d.h d.u (.slice a' (d.l.length + 1) c') ∧ w'.ownsRow W.heap.size 68 enE.k (.slice a' (d.l.length + 1) c') (d.l.length + 1) (rowOf enE (d.l ++ [newE d.l epoch o])) ∧ Below kb W w') := fun W kb hW hk => write_ok kb d.ep d.h d.u a c d.l epoch o W hk hc (hs.below hW) hw0
  generalize rowOf enE (d.l ++ [newE d.l epoch o]) = row at *
  clear h0 hr hw0 hs hc
  generalize d.l.length = N at *
  generalize d.ep = ep at *
  generalize d.h = h at *
  generalize d.u = u at *
  generalize o.k = y0 at *
  generalize o.p.v = y1 at *
  generalize o.p.hi = y2 at *
  generalize o.p.lo = y3 at *
  generalize o.p.b = y4 at *
  generalize o.a.v = y5 at *
  generalize o.a.hi = y6 at *
  generalize o.a.lo = y7 at *
  generalize o.who = y8 at *
  generalize o.pof = y9 at *
  generalize o.n = y10 at *
  go_enter Tryz.func8, Tryz.ntmps8
  go_wp2_with fail
  refine HC.out.mono ?_
  rintro e w2 ⟨rfl, hb2⟩
  have HB2 := Lib.hid (btr HB1.out hb2)
  have HD2 := Lib.hid (HD.out.upto (by simp <;> omega) hb2)
  have HO2 := Lib.hid (HO.out.upto (by simp <;> omega) hb2)
  have HR2 := Lib.hid (HR.out.upto (by simp <;> omega) hb2)
  have hz2 : w.heap.size + 1 + 1 < w2.heap.size := by have := HR2.out.lt; omega
  have hz1 : w.heap.size + 1 < w2.heap.size := by omega
  obtain ⟨⟨d0, d1, d2, d3⟩, _⟩ := HD2.out.four
  obtain ⟨⟨r0, r1, r2, r3⟩, s0, s1, s2, s3⟩ := HR2.out.four
  obtain ⟨q0, q1, q2, q3, q4, q5, q6, q7, q8, q9, q10⟩ : w2.cell? ⟨w.heap.size + 1, 0, none⟩ = some (.int .i64 y0) ∧ w2.cell? ⟨w.heap.size + 1, 1, none⟩ = some (.bool y1) ∧ w2.cell? ⟨w.heap.size + 1, 2, none⟩ = some (.int .u64 y2) ∧ w2.cell? ⟨w.heap.size + 1, 3, none⟩ = some (.int .u64 y3) ∧ w2.cell? ⟨w.heap.size + 1, 4, none⟩ = some (.int .i64 y4) ∧ w2.cell? ⟨w.heap.size + 1, 5, none⟩ = some (.bool y5) ∧ w2.cell? ⟨w.heap.size + 1, 6, none⟩ = some (.int .u64 y6) ∧ w2.cell? ⟨w.heap.size + 1, 7, none⟩ = some (.int .u64 y7) ∧ w2.cell? ⟨w.heap.size + 1, 8, none⟩ = some (.string y8) ∧ w2.cell? ⟨w.heap.size + 1, 9, none⟩ = some (.int .i64 y9) ∧ w2.cell? ⟨w.heap.size + 1, 10, none⟩ = some (.int .i64 y10) := ⟨HO2.out.cell 0 _ rfl, HO2.out.cell 1 _ rfl, HO2.out.cell 2 _ rfl, HO2.out.cell 3 _ rfl, HO2.out.cell 4 _ rfl, HO2.out.cell 5 _ rfl, HO2.out.cell 6 _ rfl, HO2.out.cell 7 _ rfl, HO2.out.cell 8 _ rfl, HO2.out.cell 9 _ rfl, HO2.out.cell 10 _ rfl⟩
  clear hb2 HC HB1 HD HR HO
  have HK3 : Hid (KpAt (w2.alloc (.cells #[.int .i64 ep, .int .i64 h, .int .i64 u, .slice a N c] 62)) w2.heap.size ep h u (.slice a N c)) := KpAt.new w2 ep h u _
  have HR3 := Lib.hid (HR2.out.below (bal (Below.refl w2.heap.size w2) (.cells #[.int .i64 ep, .int .i64 h, .int .i64 u, .slice a N c] 62)))
  have HB3 := Lib.hid (bal HB2.out (.cells #[.int .i64 ep, .int .i64 h, .int .i64 u, .slice a N c] 62))
  go_wp2_with fail
  refine (HWr.out _ _ HB3.out HK3.out).mono ?_
  rintro e w4 ⟨rfl, a5, c5, hk4, ho4, hb4⟩
  have HR4 := Lib.hid (HR2.out.upto hz2 ((bal (Below.refl w2.heap.size w2) _).trans hb4))
  have HB4 := Lib.hid (btr HB2.out ((bal (Below.refl w2.heap.size w2) _).trans hb4))
  have HO5 := Lib.hid (own_st (own_st (own_st (own_st ho4 (b := w.heap.size + 1 + 1) (j := 0) (by simp; omega) (.int .i64 ep)) (b := w.heap.size + 1 + 1) (j := 1) (by simp; omega) (.int .i64 h)) (b := w.heap.size + 1 + 1) (j := 2) (by simp; omega) (.int .i64 u)) (b := w.heap.size + 1 + 1) (j := 3) (by simp; omega) (.slice a5 (N + 1) c5))
  obtain ⟨⟨r0, r1, r2, r3⟩, s0, s1, s2, s3⟩ := HR4.out.four
  obtain ⟨⟨k0, k1, k2, k3⟩, g0, g1, g2, g3⟩ := hk4.cells
  clear hb4 HR3 HR2 ho4 hk4
  go_wp2
  refine bodyPost_ret (v := .tuple #[.agg #[.int .i64 ep, .int .i64 h, .int .i64 u, .slice a5 (N + 1) c5], .int .i64 0]) ?_ rfl ⟨_, rfl, ?_, ?_⟩
  · simp [results, Tryz.results8, go_sem, r0, r1, r2, r3]
  · exact row_base HO5.out HB3.out.size
  · (repeat' (first | exact HB4.out | with_reducible refine Below.drew ?_ | with_reducible refine bse ?_ (by first | (simp; done) | (simp; omega) | (show _ ≤ _; omega)) _))
end Go.Proofs.YtjainfehlbfiaaaGreat
