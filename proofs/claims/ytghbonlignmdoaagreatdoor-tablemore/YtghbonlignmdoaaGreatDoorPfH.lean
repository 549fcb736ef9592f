/- prefix.readForm, prefix.read, prefix.Parse. -/
import Derived.Test.YtghbonlignmdoaaGreatDoorH3
import Derived.Test.YtghbonlignmdoaaGreatDoorPfG
import Derived.Test.YtghbonlignmdoaaGreatDoorParse
set_option linter.unusedVariables false
set_option linter.unusedSimpArgs false
namespace Go.Proofs.YtghbonlignmdoaaGreatDoor
open Go.RowKit

/-- What readForm reads of a text. -/
def rform (l : List UInt8) : Option (Bool × Nat × Nat × Nat) :=
  if (Lib.cut l [47]).2.2 = false then none else
    (rparse (Lib.cut l [47]).1).bind fun a => (nread (Lib.cut l [47]).2.1 4).map fun n => (a.1, a.2.1, a.2.2, n)

def noPf (k : Int) : List PanicEntry := [{ v := .iface 77 (.agg #[.int .i64 k]), recovered := false }]
def rfEnd (o : Option (Bool × Nat × Nat × Nat)) : Ending := match o with
  | some (v, h, l, n) => .returned (.agg #[.bool v, .int .u64 (h : Int), .int .u64 (l : Int), .int .i64 (n : Int)])
  | none => .panicked (noPf 1)

set_option maxHeartbeats 8000000 in
set_option maxRecDepth 100000 in
theorem form_noslash (s f t : ByteArray) (x : Bool) (y z k n : Int) (ok : Bool) (w : World) (hg : Good w)
    (hC : Hid (∀ w : World, Good w → Calls Tryz.prog 49 #[.string s, .string ⟨#[47]⟩] w fun e w' => e = .returned (.tuple #[.string f, .string t, .bool false]) ∧ Below w.heap.size w w'))
    (hP : Hid (∀ w : World, Good w → Calls Tryz.prog 50 #[.string f] w fun e w' => e = .returned (.tuple #[.agg #[.bool x, .int .u64 y, .int .u64 z], .int .i64 k]) ∧ Below w.heap.size w w'))
    (hN : Hid (∀ w : World, Good w → Calls Tryz.prog 51 #[.string t, .int .i64 4] w fun e w' => e = .returned (.tuple #[.int .i64 n, .bool ok]) ∧ Below w.heap.size w w'))  :
    Calls Tryz.prog 43 #[.string s] w fun e w' => e = .panicked (noPf 1) ∧ Below w.heap.size w w' := by
  have HG : Hid (Good w) := hg
  clear hg
  have hpn : ∀ t v w, (Instr.panic (.iface t v)).run Tryz.prog w = .halt (.panic (.iface t v)) w := fun _ _ _ => rfl
  have Z0 : Own4 (w.alloc (.cells #[.bool false, .int .u64 0, .int .u64 0, .int .i64 0] 37)) w.heap.size (.bool false) (.int .u64 0) (.int .u64 0) (.int .i64 0) := Own4.new _ _ _ _ _ _
  have B0 : Below w.heap.size w (w.alloc (.cells #[.bool false, .int .u64 0, .int .u64 0, .int .i64 0] 37)) := bal (Below.refl _ _) _
  go_enter Tryz.func43, Tryz.ntmps43
  go_wp2_with fail
  refine (hC.out _ (HG.out.below B0)).mono ?_
  rintro e w1 ⟨rfl, hb⟩
  replace B0 : Below w.heap.size w w1 := btr B0 hb
  replace Z0 := Z0.below hb
  clear hb
  go_wp2_with fail
  refine (hP.out _ (HG.out.below B0)).mono ?_
  rintro e w2 ⟨rfl, hb⟩
  replace B0 : Below w.heap.size w (w2.alloc (.cells #[.bool x, .int .u64 y, .int .u64 z] 25)) := bal (btr B0 hb) _
  replace Z0 := (Z0.below hb).alloc (.cells #[.bool x, .int .u64 y, .int .u64 z] 25)
  have QA : Has3 _ _ _ _ _ := Has3.new w2 (.bool x) (.int .u64 y) (.int .u64 z) 25
  clear hb
  go_wp2_with fail
  generalize w2.alloc (.cells #[.bool x, .int .u64 y, .int .u64 z] 25) = W2 at *
  generalize w2.heap.size = m at *
  refine (hN.out _ (HG.out.below B0)).mono ?_
  rintro e w3 ⟨rfl, hb⟩
  replace B0 : Below w.heap.size w w3 := btr B0 hb
  replace Z0 := Z0.below hb
  replace QA := QA.below hb
  obtain ⟨q0, q1, q2, q3⟩ := QA
  obtain ⟨⟨r0, r1, r2, r3⟩, ⟨r4, r5, r6, r7⟩, r8⟩ := Z0
  have HB : Hid (Below w.heap.size w w3) := B0
  clear hb HG B0 hC hP hN
  go_wp2
  exact ⟨rfl, rfl, HB.out⟩

set_option maxHeartbeats 8000000 in
set_option maxRecDepth 100000 in
theorem form_noaddr (s f t : ByteArray) (x : Bool) (y z k n : Int) (ok : Bool) (w : World) (hg : Good w)
    (hC : Hid (∀ w : World, Good w → Calls Tryz.prog 49 #[.string s, .string ⟨#[47]⟩] w fun e w' => e = .returned (.tuple #[.string f, .string t, .bool true]) ∧ Below w.heap.size w w'))
    (hP : Hid (∀ w : World, Good w → Calls Tryz.prog 50 #[.string f] w fun e w' => e = .returned (.tuple #[.agg #[.bool x, .int .u64 y, .int .u64 z], .int .i64 k]) ∧ Below w.heap.size w w'))
    (hN : Hid (∀ w : World, Good w → Calls Tryz.prog 51 #[.string t, .int .i64 4] w fun e w' => e = .returned (.tuple #[.int .i64 n, .bool ok]) ∧ Below w.heap.size w w')) (hk : (k != 0) = true) :
    Calls Tryz.prog 43 #[.string s] w fun e w' => e = .panicked (noPf 1) ∧ Below w.heap.size w w' := by
  have HG : Hid (Good w) := hg
  clear hg
  have hpn : ∀ t v w, (Instr.panic (.iface t v)).run Tryz.prog w = .halt (.panic (.iface t v)) w := fun _ _ _ => rfl
  have Z0 : Own4 (w.alloc (.cells #[.bool false, .int .u64 0, .int .u64 0, .int .i64 0] 37)) w.heap.size (.bool false) (.int .u64 0) (.int .u64 0) (.int .i64 0) := Own4.new _ _ _ _ _ _
  have B0 : Below w.heap.size w (w.alloc (.cells #[.bool false, .int .u64 0, .int .u64 0, .int .i64 0] 37)) := bal (Below.refl _ _) _
  go_enter Tryz.func43, Tryz.ntmps43
  go_wp2_with fail
  refine (hC.out _ (HG.out.below B0)).mono ?_
  rintro e w1 ⟨rfl, hb⟩
  replace B0 : Below w.heap.size w w1 := btr B0 hb
  replace Z0 := Z0.below hb
  clear hb
  go_wp2_with fail
  refine (hP.out _ (HG.out.below B0)).mono ?_
  rintro e w2 ⟨rfl, hb⟩
  replace B0 : Below w.heap.size w (w2.alloc (.cells #[.bool x, .int .u64 y, .int .u64 z] 25)) := bal (btr B0 hb) _
  replace Z0 := (Z0.below hb).alloc (.cells #[.bool x, .int .u64 y, .int .u64 z] 25)
  have QA : Has3 _ _ _ _ _ := Has3.new w2 (.bool x) (.int .u64 y) (.int .u64 z) 25
  clear hb
  go_wp2_with fail
  generalize w2.alloc (.cells #[.bool x, .int .u64 y, .int .u64 z] 25) = W2 at *
  generalize w2.heap.size = m at *
  refine (hN.out _ (HG.out.below B0)).mono ?_
  rintro e w3 ⟨rfl, hb⟩
  replace B0 : Below w.heap.size w w3 := btr B0 hb
  replace Z0 := Z0.below hb
  replace QA := QA.below hb
  obtain ⟨q0, q1, q2, q3⟩ := QA
  obtain ⟨⟨r0, r1, r2, r3⟩, ⟨r4, r5, r6, r7⟩, r8⟩ := Z0
  have HB : Hid (Below w.heap.size w w3) := B0
  clear hb HG B0 hC hP hN
  go_wp2
  exact ⟨rfl, rfl, HB.out⟩

set_option maxHeartbeats 8000000 in
set_option maxRecDepth 100000 in
theorem form_nonum (s f t : ByteArray) (x : Bool) (y z k n : Int) (ok : Bool) (w : World) (hg : Good w)
    (hC : Hid (∀ w : World, Good w → Calls Tryz.prog 49 #[.string s, .string ⟨#[47]⟩] w fun e w' => e = .returned (.tuple #[.string f, .string t, .bool true]) ∧ Below w.heap.size w w'))
    (hP : Hid (∀ w : World, Good w → Calls Tryz.prog 50 #[.string f] w fun e w' => e = .returned (.tuple #[.agg #[.bool x, .int .u64 y, .int .u64 z], .int .i64 0]) ∧ Below w.heap.size w w'))
    (hN : Hid (∀ w : World, Good w → Calls Tryz.prog 51 #[.string t, .int .i64 4] w fun e w' => e = .returned (.tuple #[.int .i64 n, .bool false]) ∧ Below w.heap.size w w'))  :
    Calls Tryz.prog 43 #[.string s] w fun e w' => e = .panicked (noPf 1) ∧ Below w.heap.size w w' := by
  have HG : Hid (Good w) := hg
  clear hg
  have hpn : ∀ t v w, (Instr.panic (.iface t v)).run Tryz.prog w = .halt (.panic (.iface t v)) w := fun _ _ _ => rfl
  have Z0 : Own4 (w.alloc (.cells #[.bool false, .int .u64 0, .int .u64 0, .int .i64 0] 37)) w.heap.size (.bool false) (.int .u64 0) (.int .u64 0) (.int .i64 0) := Own4.new _ _ _ _ _ _
  have B0 : Below w.heap.size w (w.alloc (.cells #[.bool false, .int .u64 0, .int .u64 0, .int .i64 0] 37)) := bal (Below.refl _ _) _
  go_enter Tryz.func43, Tryz.ntmps43
  go_wp2_with fail
  refine (hC.out _ (HG.out.below B0)).mono ?_
  rintro e w1 ⟨rfl, hb⟩
  replace B0 : Below w.heap.size w w1 := btr B0 hb
  replace Z0 := Z0.below hb
  clear hb
  go_wp2_with fail
  refine (hP.out _ (HG.out.below B0)).mono ?_
  rintro e w2 ⟨rfl, hb⟩
  replace B0 : Below w.heap.size w (w2.alloc (.cells #[.bool x, .int .u64 y, .int .u64 z] 25)) := bal (btr B0 hb) _
  replace Z0 := (Z0.below hb).alloc (.cells #[.bool x, .int .u64 y, .int .u64 z] 25)
  have QA : Has3 _ _ _ _ _ := Has3.new w2 (.bool x) (.int .u64 y) (.int .u64 z) 25
  clear hb
  go_wp2_with fail
  generalize w2.alloc (.cells #[.bool x, .int .u64 y, .int .u64 z] 25) = W2 at *
  generalize w2.heap.size = m at *
  refine (hN.out _ (HG.out.below B0)).mono ?_
  rintro e w3 ⟨rfl, hb⟩
  replace B0 : Below w.heap.size w w3 := btr B0 hb
  replace Z0 := Z0.below hb
  replace QA := QA.below hb
  obtain ⟨q0, q1, q2, q3⟩ := QA
  obtain ⟨⟨r0, r1, r2, r3⟩, ⟨r4, r5, r6, r7⟩, r8⟩ := Z0
  have HB : Hid (Below w.heap.size w w3) := B0
  clear hb HG B0 hC hP hN
  go_wp2
  exact ⟨rfl, rfl, HB.out⟩

set_option maxHeartbeats 8000000 in
set_option maxRecDepth 100000 in
theorem form_ok (s f t : ByteArray) (x : Bool) (y z k n : Int) (ok : Bool) (w : World) (hg : Good w)
    (hC : Hid (∀ w : World, Good w → Calls Tryz.prog 49 #[.string s, .string ⟨#[47]⟩] w fun e w' => e = .returned (.tuple #[.string f, .string t, .bool true]) ∧ Below w.heap.size w w'))
    (hP : Hid (∀ w : World, Good w → Calls Tryz.prog 50 #[.string f] w fun e w' => e = .returned (.tuple #[.agg #[.bool x, .int .u64 y, .int .u64 z], .int .i64 0]) ∧ Below w.heap.size w w'))
    (hN : Hid (∀ w : World, Good w → Calls Tryz.prog 51 #[.string t, .int .i64 4] w fun e w' => e = .returned (.tuple #[.int .i64 n, .bool true]) ∧ Below w.heap.size w w'))  :
    Calls Tryz.prog 43 #[.string s] w fun e w' => e = .returned (.agg #[.bool x, .int .u64 y, .int .u64 z, .int .i64 n]) ∧ Below w.heap.size w w' := by
  have HG : Hid (Good w) := hg
  clear hg
  have hpn : ∀ t v w, (Instr.panic (.iface t v)).run Tryz.prog w = .halt (.panic (.iface t v)) w := fun _ _ _ => rfl
  have Z0 : Own4 (w.alloc (.cells #[.bool false, .int .u64 0, .int .u64 0, .int .i64 0] 37)) w.heap.size (.bool false) (.int .u64 0) (.int .u64 0) (.int .i64 0) := Own4.new _ _ _ _ _ _
  have B0 : Below w.heap.size w (w.alloc (.cells #[.bool false, .int .u64 0, .int .u64 0, .int .i64 0] 37)) := bal (Below.refl _ _) _
  go_enter Tryz.func43, Tryz.ntmps43
  go_wp2_with fail
  refine (hC.out _ (HG.out.below B0)).mono ?_
  rintro e w1 ⟨rfl, hb⟩
  replace B0 : Below w.heap.size w w1 := btr B0 hb
  replace Z0 := Z0.below hb
  clear hb
  go_wp2_with fail
  refine (hP.out _ (HG.out.below B0)).mono ?_
  rintro e w2 ⟨rfl, hb⟩
  replace B0 : Below w.heap.size w (w2.alloc (.cells #[.bool x, .int .u64 y, .int .u64 z] 25)) := bal (btr B0 hb) _
  replace Z0 := (Z0.below hb).alloc (.cells #[.bool x, .int .u64 y, .int .u64 z] 25)
  have QA : Has3 _ _ _ _ _ := Has3.new w2 (.bool x) (.int .u64 y) (.int .u64 z) 25
  clear hb
  go_wp2_with fail
  generalize w2.alloc (.cells #[.bool x, .int .u64 y, .int .u64 z] 25) = W2 at *
  generalize w2.heap.size = m at *
  refine (hN.out _ (HG.out.below B0)).mono ?_
  rintro e w3 ⟨rfl, hb⟩
  replace B0 : Below w.heap.size w w3 := btr B0 hb
  replace Z0 := Z0.below hb
  replace QA := QA.below hb
  obtain ⟨q0, q1, q2, q3⟩ := QA
  obtain ⟨⟨r0, r1, r2, r3⟩, ⟨r4, r5, r6, r7⟩, r8⟩ := Z0
  have HB : Hid (Below w.heap.size w w3) := B0
  clear hb HG B0 hC hP hN
  go_wp2
  refine bodyPost_ret (v := .agg #[.bool x, .int .u64 y, .int .u64 z, .int .i64 n]) ?_ rfl ⟨rfl, ?_⟩
  · simp [results, Tryz.results43, go_sem, r0, r1, r2, r3]
  · exact bse (bse (bse (bse HB.out (by first | (simp; done) | (simp; omega)) _) (by first | (simp; done) | (simp; omega)) _) (by first | (simp; done) | (simp; omega)) _) (by first | (simp; done) | (simp; omega)) _

theorem cut_len (l : List UInt8) (c : List UInt8) : (Lib.cut l c).2.1.length ≤ l.length ∧ (Lib.cut l c).1.length ≤ l.length := by
  unfold Lib.cut
  split
  · simp; omega
  · simp

theorem readForm_any (s : ByteArray) (w : World) (hg : Good w) (hs : s.size < 4294967281) :
    Calls Tryz.prog 43 #[.string s] w fun e w' => e = rfEnd (rform s.data.toList) ∧ Below w.heap.size w w' := by
  obtain ⟨hl, _⟩ := cut_len s.data.toList [47]
  rw [size_list] at hl
  have hC : ∀ r, (Lib.cut s.data.toList [47]).2.2 = r → Hid (∀ w : World, Good w → Calls Tryz.prog 49 #[.string s, .string ⟨#[47]⟩] w fun e w' => e = .returned (.tuple #[.string ⟨(Lib.cut s.data.toList [47]).1.toArray⟩, .string ⟨(Lib.cut s.data.toList [47]).2.1.toArray⟩, .bool r]) ∧ Below w.heap.size w w') := by
    intro r hr w hg
    obtain ⟨m, hm⟩ := hg.maxlen
    refine (Tryz.strings_Cut s ⟨#[47]⟩ m w hs hm).mono ?_
    rintro e w' ⟨rfl, n, rfl⟩
    rw [show (⟨#[47]⟩ : ByteArray).data.toList = [47] from rfl, hr]
    exact ⟨rfl, below_drewN (Below.refl _ _) _⟩
  have hP : Hid (∀ w : World, Good w → Calls Tryz.prog 50 #[.string ⟨(Lib.cut s.data.toList [47]).1.toArray⟩] w fun e w' => e = .returned (.tuple #[prV (rparse (Lib.cut s.data.toList [47]).1), .int .i64 (prE (rparse (Lib.cut s.data.toList [47]).1))]) ∧ Below w.heap.size w w') :=
    fun w hg => parse_any ⟨(Lib.cut s.data.toList [47]).1.toArray⟩ w hg
  have hN : Hid (∀ w : World, Good w → Calls Tryz.prog 51 #[.string ⟨(Lib.cut s.data.toList [47]).2.1.toArray⟩, .int .i64 4] w fun e w' => e = .returned (nrT (nread (Lib.cut s.data.toList [47]).2.1 4)) ∧ Below w.heap.size w w') :=
    fun w hg => read_any ⟨(Lib.cut s.data.toList [47]).2.1.toArray⟩ 4 w hg (by rw [Lib.size_eq]; show (Lib.cut s.data.toList [47]).2.1.length ≤ _; omega) (by omega)
  have hN' : ∃ (n : Int) (ok : Bool), nrT (nread (Lib.cut s.data.toList [47]).2.1 4) = .tuple #[.int .i64 n, .bool ok] := by
    cases nread (Lib.cut s.data.toList [47]).2.1 4 with
    | none => exact ⟨_, _, rfl⟩
    | some n => exact ⟨_, _, rfl⟩
  unfold rform
  cases hr : (Lib.cut s.data.toList [47]).2.2 with
  | false =>
    rw [if_pos rfl]
    obtain ⟨n, ok, hn⟩ := hN'
    rw [hn] at hN
    cases hp : rparse (Lib.cut s.data.toList [47]).1 with
    | none => rw [hp] at hP; exact form_noslash s _ _ false 0 0 1 n ok w hg (hC _ hr) hP hN
    | some a => obtain ⟨v, h, l⟩ := a; rw [hp] at hP; exact form_noslash s _ _ v h l 0 n ok w hg (hC _ hr) hP hN
  | true =>
    rw [if_neg (by simp)]
    cases hp : rparse (Lib.cut s.data.toList [47]).1 with
    | none =>
      rw [hp] at hP
      obtain ⟨n, ok, hn⟩ := hN'
      rw [hn] at hN
      exact form_noaddr s _ _ false 0 0 1 n ok w hg (hC _ hr) hP hN (by decide)
    | some a =>
      obtain ⟨v, h, l⟩ := a
      rw [hp] at hP
      cases hn : nread (Lib.cut s.data.toList [47]).2.1 4 with
      | none => rw [hn] at hN; exact form_nonum s _ _ v h l 0 0 false w hg (hC _ hr) hP hN
      | some n => rw [hn] at hN; exact form_ok s _ _ v h l 0 n true w hg (hC _ hr) hP hN

/-- Four cells of one variable and the one of another are laid anew. -/
theorem set5 {w : World} (W : World) {pa pe : Nat} {x y z u t x' y' z' u' t' : Value} (hne : pa ≠ pe) (ha : W.cell? ⟨pa, 0, none⟩ = some x) (hb : W.cell? ⟨pa, 1, none⟩ = some y) (hc : W.cell? ⟨pa, 2, none⟩ = some z) (hd : W.cell? ⟨pa, 3, none⟩ = some u) (he : W.cell? ⟨pe, 0, none⟩ = some t) (hB : Below (min pa pe) w W) :
    (((((W.setCell ⟨pa, 0, none⟩ x').setCell ⟨pa, 1, none⟩ y').setCell ⟨pa, 2, none⟩ z').setCell ⟨pa, 3, none⟩ u').setCell ⟨pe, 0, none⟩ t').cell? ⟨pa, 0, none⟩ = some x' ∧
    (((((W.setCell ⟨pa, 0, none⟩ x').setCell ⟨pa, 1, none⟩ y').setCell ⟨pa, 2, none⟩ z').setCell ⟨pa, 3, none⟩ u').setCell ⟨pe, 0, none⟩ t').cell? ⟨pa, 1, none⟩ = some y' ∧
    (((((W.setCell ⟨pa, 0, none⟩ x').setCell ⟨pa, 1, none⟩ y').setCell ⟨pa, 2, none⟩ z').setCell ⟨pa, 3, none⟩ u').setCell ⟨pe, 0, none⟩ t').cell? ⟨pa, 2, none⟩ = some z' ∧
    (((((W.setCell ⟨pa, 0, none⟩ x').setCell ⟨pa, 1, none⟩ y').setCell ⟨pa, 2, none⟩ z').setCell ⟨pa, 3, none⟩ u').setCell ⟨pe, 0, none⟩ t').cell? ⟨pa, 3, none⟩ = some u' ∧
    (((((W.setCell ⟨pa, 0, none⟩ x').setCell ⟨pa, 1, none⟩ y').setCell ⟨pa, 2, none⟩ z').setCell ⟨pa, 3, none⟩ u').setCell ⟨pe, 0, none⟩ t').cell? ⟨pe, 0, none⟩ = some t' ∧
    Below (min pa pe) w (((((W.setCell ⟨pa, 0, none⟩ x').setCell ⟨pa, 1, none⟩ y').setCell ⟨pa, 2, none⟩ z').setCell ⟨pa, 3, none⟩ u').setCell ⟨pe, 0, none⟩ t') := by
  have hne' : pe ≠ pa := Ne.symm hne
  refine ⟨?_, ?_, ?_, ?_, ?_, ?_⟩
  · simp [go_sem, ha, hb, hc, hd, he, hne, hne']
  · simp [go_sem, ha, hb, hc, hd, he, hne, hne']
  · simp [go_sem, ha, hb, hc, hd, he, hne, hne']
  · simp [go_sem, ha, hb, hc, hd, he, hne, hne']
  · simp [go_sem, ha, hb, hc, hd, he, hne, hne']
  · exact ((((hB.setCell (by simp; omega) _).setCell (by simp; omega) _).setCell (by simp; omega) _).setCell (by simp; omega) _).setCell (by simp; omega) _

set_option maxRecDepth 100000 in
theorem pcatch_panicking (k : Int) (pa pe : Nat) (x y z u t : Value) (older : List PanicEntry) (w : World) (ha : w.cell? ⟨pa, 0, none⟩ = some x) (hb : w.cell? ⟨pa, 1, none⟩ = some y) (hc : w.cell? ⟨pa, 2, none⟩ = some z) (hd : w.cell? ⟨pa, 3, none⟩ = some u) (he : w.cell? ⟨pe, 0, none⟩ = some t)
    (fa : w.frozen? ⟨pa, 0, none⟩ = false) (fb : w.frozen? ⟨pa, 1, none⟩ = false) (fc : w.frozen? ⟨pa, 2, none⟩ = false) (fd : w.frozen? ⟨pa, 3, none⟩ = false) (fe : w.frozen? ⟨pe, 0, none⟩ = false) (hne : pa ≠ pe) (ga : pa < w.heap.size) (ge : pe < w.heap.size) :
    CallsD Tryz.prog 42 #[.pointer (some ⟨pa, 0, none⟩), .pointer (some ⟨pe, 0, none⟩)] (.panicking ({ v := .iface 77 (.agg #[.int .i64 k]), recovered := false } :: older)) w fun e u' w' =>
      e = .returned (.tuple #[]) ∧ u' = .panicking ({ v := .iface 77 (.agg #[.int .i64 k]), recovered := true } :: older) ∧
      w'.cell? ⟨pa, 0, none⟩ = some (.bool false) ∧ w'.cell? ⟨pa, 1, none⟩ = some (.int .u64 0) ∧ w'.cell? ⟨pa, 2, none⟩ = some (.int .u64 0) ∧ w'.cell? ⟨pa, 3, none⟩ = some (.int .i64 0) ∧ w'.cell? ⟨pe, 0, none⟩ = some (.int .i64 k) ∧ Below (min pa pe) w w' := by
  have hta : ∀ w, (Instr.typeAssert (.iface 77 (.agg #[.int .i64 k])) 20 77 true).run Tryz.prog w = .ok (.tuple #[.agg #[.int .i64 k], .bool true]) w := by intro w; kernel_rfl
  refine callsD_of_wpS Tryz.func42 rfl fun c₀ cs hu => ?_
  simp only [Tryz.ntmps42, List.size_toArray, List.length_cons, List.length_nil, Nat.reduceAdd, Nat.reduceSub, Array.replicate_succ, Array.replicate_zero, List.push_toArray, List.append_toArray, List.nil_append, List.cons_append]
  apply wpS_seq
  apply wpS_region
  simp [wpOpsS, go_sem, recoverD, hu, hta, Exit.thenS]
  have ha' : (w.alloc (.cells #[.int .i64 k] 77)).cell? ⟨pa, 0, none⟩ = some x := by rw [World.cell?_alloc_past _ _ _ ga]; exact ha
  have hb' : (w.alloc (.cells #[.int .i64 k] 77)).cell? ⟨pa, 1, none⟩ = some y := by rw [World.cell?_alloc_past _ _ _ ga]; exact hb
  have hc' : (w.alloc (.cells #[.int .i64 k] 77)).cell? ⟨pa, 2, none⟩ = some z := by rw [World.cell?_alloc_past _ _ _ ga]; exact hc
  have hd' : (w.alloc (.cells #[.int .i64 k] 77)).cell? ⟨pa, 3, none⟩ = some u := by rw [World.cell?_alloc_past _ _ _ ga]; exact hd
  have he' : (w.alloc (.cells #[.int .i64 k] 77)).cell? ⟨pe, 0, none⟩ = some t := by rw [World.cell?_alloc_past _ _ _ ge]; exact he
  have fa' : (w.alloc (.cells #[.int .i64 k] 77)).frozen? ⟨pa, 0, none⟩ = false := by rw [World.frozen?_alloc_past _ _ _ ga]; exact fa
  have fb' : (w.alloc (.cells #[.int .i64 k] 77)).frozen? ⟨pa, 1, none⟩ = false := by rw [World.frozen?_alloc_past _ _ _ ga]; exact fb
  have fc' : (w.alloc (.cells #[.int .i64 k] 77)).frozen? ⟨pa, 2, none⟩ = false := by rw [World.frozen?_alloc_past _ _ _ ga]; exact fc
  have fd' : (w.alloc (.cells #[.int .i64 k] 77)).frozen? ⟨pa, 3, none⟩ = false := by rw [World.frozen?_alloc_past _ _ _ ga]; exact fd
  have fe' : (w.alloc (.cells #[.int .i64 k] 77)).frozen? ⟨pe, 0, none⟩ = false := by rw [World.frozen?_alloc_past _ _ _ ge]; exact fe
  have hm : (w.alloc (.cells #[.int .i64 k] 77)).cell? ⟨w.heap.size, 0, none⟩ = some (.int .i64 k) := by simp [go_sem]
  have hB : Below (min pa pe) w (w.alloc (.cells #[.int .i64 k] 77)) := (Below.refl _ _).alloc (by omega) _
  have hx : w.heap.size ≠ pa := by omega
  have hy : w.heap.size ≠ pe := by omega
  generalize w.alloc (.cells #[.int .i64 k] 77) = W at ha' hb' hc' hd' he' fa' fb' fc' fd' fe' hm hB ⊢
  generalize w.heap.size = m at hm hx hy ⊢
  clear ha hb hc hd he fa fb fc fd fe ga ge hta
  refine wpS_of_wp ?_
  go_wp2
  go_region
  refine ⟨rfl, _, rfl, .tuple #[], by simp [results, Tryz.results42], rfl, rfl, ?_⟩
  obtain ⟨d0, d1, d2, d3, d4, d5⟩ := set5 (x' := .bool false) (y' := .int .u64 0) (z' := .int .u64 0) (u' := .int .i64 0) (t' := .int .i64 k) W hne ha' hb' hc' hd' he' hB
  generalize ((((W.setCell ⟨pa, 0, none⟩ (.bool false)).setCell ⟨pa, 1, none⟩ (.int .u64 0)).setCell ⟨pa, 2, none⟩ (.int .u64 0)).setCell ⟨pa, 3, none⟩ (.int .i64 0)).setCell ⟨pe, 0, none⟩ (.int .i64 k) = W2 at d0 d1 d2 d3 d4 d5 ⊢
  exact ⟨d0, d1, d2, d3, d4, d5.drew⟩

set_option maxRecDepth 100000 in
theorem pcatch_idle (pa pe : Nat) (w : World) :
    CallsD Tryz.prog 42 #[.pointer (some ⟨pa, 0, none⟩), .pointer (some ⟨pe, 0, none⟩)] .returning w fun e u' w' =>
      e = .returned (.tuple #[]) ∧ u' = .returning ∧ w' = w.alloc (.cells #[.int .i64 0] 77) := by
  have hta : ∀ w, (Instr.typeAssert .nilIface 20 77 true).run Tryz.prog w = .ok (.tuple #[.agg #[.int .i64 0], .bool false]) w := by intro w; kernel_rfl
  refine callsD_of_wpS Tryz.func42 rfl fun c₀ cs hu => ?_
  simp only [Tryz.ntmps42, List.size_toArray, List.length_cons, List.length_nil, Nat.reduceAdd, Nat.reduceSub, Array.replicate_succ, Array.replicate_zero, List.push_toArray, List.append_toArray, List.nil_append, List.cons_append]
  apply wpS_seq
  apply wpS_region
  simp [wpOpsS, go_sem, recoverD, hu, hta, Exit.thenS]
  refine wpS_of_wp ?_
  go_wp2
  refine ⟨rfl, .returning, ?_, .tuple #[], by simp [results, Tryz.results42], rfl, rfl, rfl⟩
  cases c₀
  simp at hu
  simp [hu]

/-- The world in which a reader begins: the two results lie in variables of their own. -/
def rp0 (w : World) : World := (w.alloc (.cells #[.bool false, .int .u64 0, .int .u64 0, .int .i64 0] 37)).alloc (.cells #[.int .i64 0] 27)
theorem rp0_size (w : World) : (rp0 w).heap.size = w.heap.size + 2 := by simp [rp0]
theorem rp0_below (w : World) : Below w.heap.size w (rp0 w) := bal (bal (Below.refl _ _) _) _

theorem pread_results {w' : World} {m : Nat} {tmps : Array Value} {x y z u t : Value} (h2 : tmps.getD 2 undef = .pointer (some ⟨m, 0, none⟩)) (h3 : tmps.getD 3 undef = .pointer (some ⟨m + 1, 0, none⟩))
    (c0 : w'.cell? ⟨m, 0, none⟩ = some x) (c1 : w'.cell? ⟨m, 1, none⟩ = some y) (c2 : w'.cell? ⟨m, 2, none⟩ = some z) (c4 : w'.cell? ⟨m, 3, none⟩ = some u) (c3 : w'.cell? ⟨m + 1, 0, none⟩ = some t) :
    (results Tryz.f32 tmps).run Tryz.prog w' = .ok (.tuple #[.agg #[x, y, z, u], t]) w' := by
  have h2' : tmps[2]?.getD undef = .pointer (some ⟨m, 0, none⟩) := by simpa using h2
  have h3' : tmps[3]?.getD undef = .pointer (some ⟨m + 1, 0, none⟩) := by simpa using h3
  simp [results, Tryz.results32, go_sem, h2', h3', c0, c1, c2, c3, c4]

/-- The two results' variables, whatever they hold. -/
def Res5 (w2 : World) (m : Nat) (x y z u t : Value) : Prop := Own4 w2 m x y z u ∧ (w2.cell? ⟨m + 1, 0, none⟩ = some t ∧ w2.frozen? ⟨m + 1, 0, none⟩ = false ∧ m + 1 < w2.heap.size)
theorem Res5.below {W w' : World} {m : Nat} {x y z u t : Value} (h : Res5 W m x y z u t) (hb : Below W.heap.size W w') : Res5 w' m x y z u t := by
  obtain ⟨h1, h2, h3, h4⟩ := h
  obtain ⟨k1, k2⟩ := bcell hb
  exact ⟨h1.below hb, by rw [k1 _ _ h4]; exact h2, by rw [k2 _ _ h4]; exact h3, Nat.lt_of_lt_of_le h4 hb.size⟩
theorem Res5.start (w : World) : Res5 (rp0 w) w.heap.size (.bool false) (.int .u64 0) (.int .u64 0) (.int .i64 0) (.int .i64 0) := by
  refine ⟨(Own4.new w _ _ _ _ _).alloc _, ?_, ?_, ?_⟩
  · simp [rp0, go_sem]
  · simp [rp0, go_sem]
  · simp [rp0]

theorem Res5.set {w2 : World} {m : Nat} {x y z u t : Value} (h : Res5 w2 m x y z u t) (x' y' z' u' : Value) :
    Res5 ((((w2.setCell ⟨m, 0, none⟩ x').setCell ⟨m, 1, none⟩ y').setCell ⟨m, 2, none⟩ z').setCell ⟨m, 3, none⟩ u') m x' y' z' u' t := by
  obtain ⟨⟨⟨c0, c1, c2, c4⟩, ⟨f0, f1, f2, f4⟩, h5⟩, c3, f3, h6⟩ := h
  refine ⟨⟨⟨?_, ?_, ?_, ?_⟩, ⟨?_, ?_, ?_, ?_⟩, ?_⟩, ?_, ?_, ?_⟩
  · simp [go_sem, c0, c1, c2, c4]
  · simp [go_sem, c0, c1, c2, c4]
  · simp [go_sem, c0, c1, c2, c4]
  · simp [go_sem, c0, c1, c2, c4]
  · simp [go_sem, f0, f1, f2, f4]
  · simp [go_sem, f0, f1, f2, f4]
  · simp [go_sem, f0, f1, f2, f4]
  · simp [go_sem, f0, f1, f2, f4]
  · simp [World.setCell]; omega
  · simp [go_sem, c0, c1, c2, c3, c4]
  · simp [go_sem, f0, f1, f2, f3, f4]
  · simp [World.setCell]; omega

/-- A panic comes to the door: it ends there, and the error is told. -/
theorem pdoor_panic (k : Int) (w w2 : World) (tmps : Array Value) {x y z u t : Value} (h2 : tmps.getD 2 undef = .pointer (some ⟨w.heap.size, 0, none⟩)) (h3 : tmps.getD 3 undef = .pointer (some ⟨w.heap.size + 1, 0, none⟩)) (hr : Res5 w2 w.heap.size x y z u t) (hb : Below w.heap.size w w2) :
    bodyPostD Tryz.prog Tryz.f32 (fun e w' => e = .returned (.tuple #[.agg #[.bool false, .int .u64 0, .int .u64 0, .int .i64 0], .int .i64 k]) ∧ Below w.heap.size w w') (Exit.panic (noPf k))
      { tmps := tmps, defers := [{ target := .fn (.func 42) #[.pointer (some ⟨w.heap.size, 0, none⟩), .pointer (some ⟨w.heap.size + 1, 0, none⟩)], args := #[] }] } w2 := by
  obtain ⟨⟨⟨c0, c1, c2, c4⟩, ⟨f0, f1, f2, f4⟩, h5⟩, c3, f3, h6⟩ := hr
  refine leaves_cons (f := 42) (args := #[.pointer (some ⟨w.heap.size, 0, none⟩), .pointer (some ⟨w.heap.size + 1, 0, none⟩)]) (by simp) (by simp [go_sem]) ?_
  refine (pcatch_panicking k w.heap.size (w.heap.size + 1) _ _ _ _ _ [] w2 c0 c1 c2 c4 c3 f0 f1 f2 f4 f3 (by omega) (by omega) (by omega)).mono ?_
  rintro e u' w'' ⟨rfl, rfl, d0, d1, d2, d4, d3, hB⟩
  have hm : min w.heap.size (w.heap.size + 1) = w.heap.size := by omega
  rw [hm] at hB
  refine ⟨_, pread_results h2 h3 d0 d1 d2 d4 d3, rfl, ?_⟩
  exact hb.trans hB

/-- A return comes to the door. -/
theorem pdoor_return (w w2 : World) (tmps : Array Value) (x y z u t : Value) (h2 : tmps.getD 2 undef = .pointer (some ⟨w.heap.size, 0, none⟩)) (h3 : tmps.getD 3 undef = .pointer (some ⟨w.heap.size + 1, 0, none⟩))
    (c0 : w2.cell? ⟨w.heap.size, 0, none⟩ = some x) (c1 : w2.cell? ⟨w.heap.size, 1, none⟩ = some y) (c2 : w2.cell? ⟨w.heap.size, 2, none⟩ = some z) (c4 : w2.cell? ⟨w.heap.size, 3, none⟩ = some u) (c3 : w2.cell? ⟨w.heap.size + 1, 0, none⟩ = some t) (hlt : w.heap.size + 1 < w2.heap.size) (hb : Below w.heap.size w w2) :
    bodyPostD Tryz.prog Tryz.f32 (fun e w' => e = .returned (.tuple #[.agg #[x, y, z, u], t]) ∧ Below w.heap.size w w') Exit.ret
      { tmps := tmps, defers := [{ target := .fn (.func 42) #[.pointer (some ⟨w.heap.size, 0, none⟩), .pointer (some ⟨w.heap.size + 1, 0, none⟩)], args := #[] }] } w2 := by
  refine leaves_cons (f := 42) (args := #[.pointer (some ⟨w.heap.size, 0, none⟩), .pointer (some ⟨w.heap.size + 1, 0, none⟩)]) (by simp) (by simp [go_sem]) ?_
  refine (pcatch_idle w.heap.size (w.heap.size + 1) w2).mono ?_
  rintro e u' w'' ⟨rfl, rfl, rfl⟩
  refine ⟨_, pread_results h2 h3 ?_ ?_ ?_ ?_ ?_, rfl, bal hb _⟩
  · rw [World.cell?_alloc_past _ _ _ (by omega)]; exact c0
  · rw [World.cell?_alloc_past _ _ _ (by omega)]; exact c1
  · rw [World.cell?_alloc_past _ _ _ (by omega)]; exact c2
  · rw [World.cell?_alloc_past _ _ _ (by omega)]; exact c4
  · rw [World.cell?_alloc_past _ _ _ (by omega)]; exact c3

theorem pdoor_store (w w2 : World) (tmps : Array Value) {x y z u t x' y' z' u' t' : Value} (h2 : tmps.getD 2 undef = .pointer (some ⟨w.heap.size, 0, none⟩)) (h3 : tmps.getD 3 undef = .pointer (some ⟨w.heap.size + 1, 0, none⟩))
    (hr : Res5 w2 w.heap.size x' y' z' u' t') (hb : Below w.heap.size w w2) :
    bodyPostD Tryz.prog Tryz.f32 (fun e w' => e = .returned (.tuple #[.agg #[x, y, z, u], t]) ∧ Below w.heap.size w w') Exit.ret
      { tmps := tmps, defers := [{ target := .fn (.func 42) #[.pointer (some ⟨w.heap.size, 0, none⟩), .pointer (some ⟨w.heap.size + 1, 0, none⟩)], args := #[] }] }
      (((((w2.setCell ⟨w.heap.size, 0, none⟩ x).setCell ⟨w.heap.size, 1, none⟩ y).setCell ⟨w.heap.size, 2, none⟩ z).setCell ⟨w.heap.size, 3, none⟩ u).setCell ⟨w.heap.size + 1, 0, none⟩ t) := by
  obtain ⟨⟨⟨c0, c1, c2, c4⟩, ⟨f0, f1, f2, f4⟩, h5⟩, c3, f3, h6⟩ := hr
  have hm : min w.heap.size (w.heap.size + 1) = w.heap.size := by omega
  have hb' : Below (min w.heap.size (w.heap.size + 1)) w w2 := by rw [hm]; exact hb
  obtain ⟨d0, d1, d2, d4, d3, hB⟩ := set5 (x' := x) (y' := y) (z' := z) (u' := u) (t' := t) w2 (show w.heap.size ≠ w.heap.size + 1 by omega) c0 c1 c2 c4 c3 hb'
  rw [hm] at hB
  refine pdoor_return w _ tmps x y z u t h2 h3 d0 d1 d2 d4 d3 ?_ hB
  simp [World.setCell]; omega

/-- What Parse reads of a text: the prefix and 0, or the zero one and the error. -/
def ppV (o : Option (Bool × Nat × Nat × Nat)) : Value := match o with
  | some (v, h, l, n) => if pchk v h l n = 0 then .agg #[.bool v, .int .u64 (h : Int), .int .u64 (l : Int), .int .i64 (n : Int)] else .agg #[.bool false, .int .u64 0, .int .u64 0, .int .i64 0]
  | none => .agg #[.bool false, .int .u64 0, .int .u64 0, .int .i64 0]
def ppE (o : Option (Bool × Nat × Nat × Nat)) : Int := match o with | some (v, h, l, n) => pchk v h l n | none => 1

theorem rform_lt {l : List UInt8} {v : Bool} {h lo n : Nat} (e : rform l = some (v, h, lo, n)) : h < 18446744073709551616 ∧ lo < 18446744073709551616 := by
  unfold rform at e
  split at e
  · cases e
  · cases hp : rparse (Lib.cut l [47]).1 with
    | none => rw [hp] at e; cases e
    | some a =>
      rw [hp] at e
      obtain ⟨v', h', l'⟩ := a
      cases hn : nread (Lib.cut l [47]).2.1 4 with
      | none => rw [hn] at e; cases e
      | some n' =>
        rw [hn] at e
        simp only [Option.bind_some, Option.map_some, Option.some.injEq, Prod.mk.injEq] at e
        obtain ⟨rfl, rfl, rfl, rfl⟩ := e
        exact (rparse_ok hp).2

set_option maxHeartbeats 4000000 in
set_option maxRecDepth 100000 in
theorem pread_any (s : ByteArray) (w : World) (hg : Good w) (hs : s.size < 4294967281) :
    Calls Tryz.prog 32 #[.string s] w fun e w' => e = .returned (.tuple #[ppV (rform s.data.toList), .int .i64 (ppE (rform s.data.toList))]) ∧ Below w.heap.size w w' := by
  have hmf : ∀ (fn : Fn) (first cap : Array Value) (w : World), (Instr.makeFunc fn first cap).run Tryz.prog w = .ok (.func fn first cap) w := fun _ _ _ _ => rfl
  have hpn : ∀ t v w, (Instr.panic (.iface t v)).run Tryz.prog w = .halt (.panic (.iface t v)) w := fun _ _ _ => rfl
  have hg0 : Good (rp0 w) := hg.below (rp0_below w)
  have HR : Hid (Calls Tryz.prog 43 #[.string s] (rp0 w) fun e w' => e = rfEnd (rform s.data.toList) ∧ Below (rp0 w).heap.size (rp0 w) w') := readForm_any s (rp0 w) hg0 hs
  clear hg hg0
  cases hr : rform s.data.toList with
  | none =>
    rw [hr] at HR
    clear hr
    go_enter_defers Tryz.func32, Tryz.ntmps32
    go_wp2_with fail
    refine HR.out.mono ?_
    rintro e w2 ⟨he, hb⟩
    obtain rfl : e = .panicked (noPf 1) := he
    go_wp2
    exact pdoor_panic 1 w w2 _ rfl rfl ((Res5.start w).below hb) (btr (rp0_below w) hb)
  | some a =>
    obtain ⟨v, h, lo, n⟩ := a
    obtain ⟨k1, k2⟩ := rform_lt hr
    rw [hr] at HR
    clear hr
    have hC : Hid (∀ w : World, Calls Tryz.prog 21 #[.agg #[.bool v, .int .u64 (h : Int), .int .u64 (lo : Int), .int .i64 (n : Int)]] w fun e w' => e = .returned (.int .i64 (pchk v h lo n)) ∧ Below w.heap.size w w') := fun w => pcheck_any v h lo n w (by omega) (by omega) (by omega) (by omega)
    have eE : ppE (some (v, h, lo, n)) = pchk v h lo n := rfl
    have eV : ppV (some (v, h, lo, n)) = if pchk v h lo n = 0 then .agg #[.bool v, .int .u64 (h : Int), .int .u64 (lo : Int), .int .i64 (n : Int)] else .agg #[.bool false, .int .u64 0, .int .u64 0, .int .i64 0] := rfl
    rw [eE, eV]
    clear eE eV k1 k2
    generalize pchk v h lo n = k at *
    by_cases hk : k = 0
    · subst hk
      rw [if_pos rfl]
      go_enter_defers Tryz.func32, Tryz.ntmps32
      go_wp2_with fail
      refine HR.out.mono ?_
      rintro e w2 ⟨he, hb⟩
      obtain rfl : e = .returned (.agg #[.bool v, .int .u64 (h : Int), .int .u64 (lo : Int), .int .i64 (n : Int)]) := he
      obtain ⟨⟨⟨c0, c1, c2, c4⟩, ⟨f0, f1, f2, f4⟩, h5⟩, c3, f3, h6⟩ := (Res5.start w).below hb
      have HS : Hid (Res5 _ w.heap.size _ _ _ _ _) := ((Res5.start w).below hb).set (.bool v) (.int .u64 (h : Int)) (.int .u64 (lo : Int)) (.int .i64 (n : Int))
      have HB : Hid (Below w.heap.size w ((((w2.setCell ⟨w.heap.size, 0, none⟩ (.bool v)).setCell ⟨w.heap.size, 1, none⟩ (.int .u64 (h : Int))).setCell ⟨w.heap.size, 2, none⟩ (.int .u64 (lo : Int))).setCell ⟨w.heap.size, 3, none⟩ (.int .i64 (n : Int)))) :=
        bse (bse (bse (bse (btr (rp0_below w) hb) (Nat.le_refl _) _) (Nat.le_refl _) _) (Nat.le_refl _) _) (Nat.le_refl _) _
      clear hb HR
      go_wp2_with fail
      generalize (((w2.setCell ⟨w.heap.size, 0, none⟩ (.bool v)).setCell ⟨w.heap.size, 1, none⟩ (.int .u64 (h : Int))).setCell ⟨w.heap.size, 2, none⟩ (.int .u64 (lo : Int))).setCell ⟨w.heap.size, 3, none⟩ (.int .i64 (n : Int)) = W2 at *
      clear c0 c1 c2 c4 f0 f1 f2 f4 h5 c3 f3 h6
      refine (hC.out _).mono ?_
      rintro e w3 ⟨rfl, hb⟩
      have HS3 : Hid (Res5 _ w.heap.size _ _ _ _ _) := HS.out.below hb
      have HB3 : Hid (Below w.heap.size w w3) := btr HB.out hb
      clear hb HS HB hC
      obtain ⟨⟨⟨c0, c1, c2, c4⟩, ⟨f0, f1, f2, f4⟩, h5⟩, c3, f3, h6⟩ := HS3.out
      go_wp2
      exact pdoor_store w w3 _ rfl rfl HS3.out HB3.out
    · rw [if_neg hk]
      have hkn : (k != 0) = true := by rw [bne_iff_ne]; exact hk
      clear hk
      go_enter_defers Tryz.func32, Tryz.ntmps32
      go_wp2_with fail
      refine HR.out.mono ?_
      rintro e w2 ⟨he, hb⟩
      obtain rfl : e = .returned (.agg #[.bool v, .int .u64 (h : Int), .int .u64 (lo : Int), .int .i64 (n : Int)]) := he
      obtain ⟨⟨⟨c0, c1, c2, c4⟩, ⟨f0, f1, f2, f4⟩, h5⟩, c3, f3, h6⟩ := (Res5.start w).below hb
      have HS : Hid (Res5 _ w.heap.size _ _ _ _ _) := ((Res5.start w).below hb).set (.bool v) (.int .u64 (h : Int)) (.int .u64 (lo : Int)) (.int .i64 (n : Int))
      have HB : Hid (Below w.heap.size w ((((w2.setCell ⟨w.heap.size, 0, none⟩ (.bool v)).setCell ⟨w.heap.size, 1, none⟩ (.int .u64 (h : Int))).setCell ⟨w.heap.size, 2, none⟩ (.int .u64 (lo : Int))).setCell ⟨w.heap.size, 3, none⟩ (.int .i64 (n : Int)))) :=
        bse (bse (bse (bse (btr (rp0_below w) hb) (Nat.le_refl _) _) (Nat.le_refl _) _) (Nat.le_refl _) _) (Nat.le_refl _) _
      clear hb HR
      go_wp2_with fail
      generalize (((w2.setCell ⟨w.heap.size, 0, none⟩ (.bool v)).setCell ⟨w.heap.size, 1, none⟩ (.int .u64 (h : Int))).setCell ⟨w.heap.size, 2, none⟩ (.int .u64 (lo : Int))).setCell ⟨w.heap.size, 3, none⟩ (.int .i64 (n : Int)) = W2 at *
      clear c0 c1 c2 c4 f0 f1 f2 f4 h5 c3 f3 h6
      refine (hC.out _).mono ?_
      rintro e w3 ⟨rfl, hb⟩
      have HS3 : Hid (Res5 _ w.heap.size _ _ _ _ _) := HS.out.below hb
      have HB3 : Hid (Below w.heap.size w w3) := btr HB.out hb
      clear hb HS HB hC
      go_wp2
      exact pdoor_panic k w w3 _ rfl rfl HS3.out HB3.out

/-- prefix.Parse: whatever text it is handed that is not too long for any machine. -/
theorem pparse_any (s : ByteArray) (w : World) (hg : Good w) (hs : s.size < 4294967281) :
    Calls Tryz.prog 15 #[.string s] w fun e w' => e = .returned (.tuple #[ppV (rform s.data.toList), .int .i64 (ppE (rform s.data.toList))]) ∧ Below w.heap.size w w' := by
  have hR : Hid (∀ w : World, Good w → Calls Tryz.prog 32 #[.string s] w fun e w' => e = .returned (.tuple #[ppV (rform s.data.toList), .int .i64 (ppE (rform s.data.toList))]) ∧ Below w.heap.size w w') := fun w hg => pread_any s w hg hs
  obtain ⟨x, y, z, u, hv⟩ : ∃ (x : Bool) (y z u : Int), ppV (rform s.data.toList) = .agg #[.bool x, .int .u64 y, .int .u64 z, .int .i64 u] := by
    cases rform s.data.toList with
    | none => exact ⟨_, _, _, _, rfl⟩
    | some p =>
      obtain ⟨a, b, c, d⟩ := p
      unfold ppV
      simp only
      split
      · exact ⟨_, _, _, _, rfl⟩
      · exact ⟨_, _, _, _, rfl⟩
  rw [hv] at hR ⊢
  clear hv
  generalize ppE (rform s.data.toList) = k at hR ⊢
  go_enter Tryz.func15, Tryz.ntmps15
  go_wp2_with fail
  refine (hR.out _ (hg.below (bal (Below.refl _ _) _))).mono ?_
  rintro e w2 ⟨rfl, hb⟩
  obtain ⟨⟨q0, q1, q2, q3⟩, ⟨f0, f1, f2, f3⟩, q4⟩ := (Own4.new w (.bool false) (.int .u64 0) (.int .u64 0) (.int .i64 0) 37).below hb
  have HB : Hid (Below w.heap.size w w2) := btr (bal (Below.refl _ _) _) hb
  clear hb hR
  go_wp2
  refine bodyPost_ret (v := .tuple #[.agg #[.bool x, .int .u64 y, .int .u64 z, .int .i64 u], .int .i64 k]) ?_ rfl ⟨rfl, ?_⟩
  · simp [results, Tryz.results15, go_sem, q0, q1, q2, q3]
  · exact bse (bse (bse (bse HB.out (by simp) _) (by simp) _) (by simp) _) (by simp) _
end Go.Proofs.YtghbonlignmdoaaGreatDoor
