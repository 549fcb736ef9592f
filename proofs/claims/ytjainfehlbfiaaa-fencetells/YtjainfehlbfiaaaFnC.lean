/- keeper.lend: who gets the lock. -/
import Derived.Test.YtjainfehlbfiaaaLgE
set_option linter.unusedVariables false
set_option linter.unusedSimpArgs false
namespace Go.Proofs.Ytjainfehlbfiaaa
open Go.RowKit

/-- A disk in plain words. -/
structure Dk where
  ep : Int
  h : Int
  u : Int
  l : List En
def noDk : Dk := ⟨0, 0, 0, []⟩
/-- Is the lock held at a time? -/
def heldB (h u now : Int) : Bool := (h != 0) && decide (now ≤ u)
def lendE (ep h u who now : Int) : Int := if (heldB h u now && (h != who)) = true then 4 else if (!heldB h u now && decide (999 ≤ ep)) = true then 2 else 0
def lendP (ep h u now : Int) : Int := if heldB h u now = true then ep else ep + 1
theorem KpAt.put0 {W : World} {kb : Nat} {ep h u : Int} {lv : Value} (g : KpAt W kb ep h u lv) (ep' : Int) : KpAt (W.setCell ⟨kb, 0, none⟩ (.int .i64 ep')) kb ep' h u lv := by
  unfold KpAt at *
  have h1 := heap_setCell_same W kb 0 _ _ (.int .i64 ep') g
  rw [h1]; rfl
theorem KpAt.put2 {W : World} {kb : Nat} {ep h u : Int} {lv : Value} (g : KpAt W kb ep h u lv) (h' u' : Int) : KpAt ((W.setCell ⟨kb, 1, none⟩ (.int .i64 h')).setCell ⟨kb, 2, none⟩ (.int .i64 u')) kb ep h' u' lv := by
  unfold KpAt at *
  have h1 := heap_setCell_same W kb 1 _ _ (.int .i64 h') g
  have h2 := heap_setCell_same _ kb 2 _ _ (.int .i64 u') h1
  rw [h2]; rfl
theorem KpAt.put3 {W : World} {kb : Nat} {ep h u : Int} {lv : Value} (g : KpAt W kb ep h u lv) (lv' : Value) : KpAt (W.setCell ⟨kb, 3, none⟩ lv') kb ep h u lv' := by
  unfold KpAt at *
  have h1 := heap_setCell_same W kb 3 _ _ lv' g
  rw [h1]; rfl
/-- What lend leaves behind. -/
def LendTo (kb : Nat) (ep h u who now : Int) (lv : Value) (w w' : World) : Prop := Below kb w w' ∧ w'.heap.size = w.heap.size ∧ (lendE ep h u who now = 0 → KpAt w' kb (lendP ep h u now) who (now + 10) lv)
theorem lendTo_no {kb : Nat} {ep h u who now k : Int} {lv : Value} {w : World} (hk : lendE ep h u who now = k) (h0 : ¬ k = 0) : LendTo kb ep h u who now lv w w := ⟨Below.refl _ _, rfl, fun e => absurd (hk.symm.trans e) h0⟩
theorem lendTo_yes {kb : Nat} {ep h u who now p : Int} {lv : Value} {w w' : World} (hp : lendP ep h u now = p) (h1 : Below kb w w') (h2 : w'.heap.size = w.heap.size) (h3 : KpAt w' kb p who (now + 10) lv) : LendTo kb ep h u who now lv w w' := ⟨h1, h2, fun _ => by rw [hp]; exact h3⟩
set_option maxHeartbeats 8000000 in
theorem lend_any (kb : Nat) (ep h u who now : Int) (lv : Value) (w : World) (hk : KpAt w kb ep h u lv) (e0 : 0 ≤ ep) (e1 : ep ≤ 999) (n0 : 0 ≤ now) (n1 : now ≤ 9999) :
    Calls Try.prog 14 #[.pointer (some ⟨kb, 0, none⟩), .int .i64 who, .int .i64 now] w fun e w' => e = .returned (.int .i64 (lendE ep h u who now)) ∧ LendTo kb ep h u who now lv w w' := by
  obtain ⟨⟨c0, c1, c2, c3⟩, f0, f1, f2, f3⟩ := hk.cells
  have hlt := hk.lt
  have HP := Lib.hid ((hk.put0 (ep + 1)).put2 who (now + 10))
  have HP2 := Lib.hid (hk.put2 who (now + 10))
  have HB0 : Hid (Below kb w w) := Below.refl _ _
  clear hk
  cases b1 : (h != 0)
  · by_cases h9 : 999 ≤ ep
    · have HE : Hid (lendE ep h u who now = 2) := Lib.hid (by simp [lendE, heldB, b1, h9])
      rw [HE.out]
      clear HP HP2
      go_enter Try.func14, Try.ntmps14
      go_wp2
      go_ret
      exact ⟨rfl, lendTo_no HE.out (by decide)⟩
    · have HE : Hid (lendE ep h u who now = 0) := Lib.hid (by simp [lendE, heldB, b1]; omega)
      have HQ : Hid (lendP ep h u now = ep + 1) := Lib.hid (by simp [lendP, heldB, b1])
      rw [HE.out]
      have d9 : decide (999 ≤ ep) = false := decide_eq_false h9
      clear HP2
      go_enter Try.func14, Try.ntmps14
      go_wp2
      go_ret
      exact ⟨rfl, lendTo_yes HQ.out (((HB0.out.setCell (Nat.le_refl _) _).setCell (Nat.le_refl _) _).setCell (Nat.le_refl _) _) (by simp) HP.out⟩
  · by_cases hn : now ≤ u
    · have dn : decide (now ≤ u) = true := decide_eq_true hn
      cases b2 : (h != who)
      · have HE : Hid (lendE ep h u who now = 0) := Lib.hid (by simp [lendE, heldB, b1, b2, hn])
        have HQ : Hid (lendP ep h u now = ep) := Lib.hid (by simp [lendP, heldB, b1, hn])
        rw [HE.out]
        clear HP
        go_enter Try.func14, Try.ntmps14
        go_wp2
        go_ret
        exact ⟨rfl, lendTo_yes HQ.out ((HB0.out.setCell (Nat.le_refl _) _).setCell (Nat.le_refl _) _) (by simp) HP2.out⟩
      · have HE : Hid (lendE ep h u who now = 4) := Lib.hid (by simp [lendE, heldB, b1, b2, hn])
        rw [HE.out]
        clear HP HP2
        go_enter Try.func14, Try.ntmps14
        go_wp2
        go_ret
        exact ⟨rfl, lendTo_no HE.out (by decide)⟩
    · have dn : decide (now ≤ u) = false := decide_eq_false hn
      by_cases h9 : 999 ≤ ep
      · have HE : Hid (lendE ep h u who now = 2) := Lib.hid (by simp [lendE, heldB, b1, dn, h9])
        rw [HE.out]
        clear HP HP2
        go_enter Try.func14, Try.ntmps14
        go_wp2
        go_ret
        exact ⟨rfl, lendTo_no HE.out (by decide)⟩
      · have HE : Hid (lendE ep h u who now = 0) := Lib.hid (by simp [lendE, heldB, b1, dn]; omega)
        have HQ : Hid (lendP ep h u now = ep + 1) := Lib.hid (by simp [lendP, heldB, b1, dn])
        rw [HE.out]
        have d9 : decide (999 ≤ ep) = false := decide_eq_false h9
        clear HP2
        go_enter Try.func14, Try.ntmps14
        go_wp2
        go_ret
        exact ⟨rfl, lendTo_yes HQ.out (((HB0.out.setCell (Nat.le_refl _) _).setCell (Nat.le_refl _) _).setCell (Nat.le_refl _) _) (by simp) HP.out⟩
end Go.Proofs.Ytjainfehlbfiaaa
