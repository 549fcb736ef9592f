/- yardarmlaw.addrBegun: the closed part of the laws on addresses: it is true. -/
import Derived.Test.YtiiankekobgebaaGreatDoorPr16
import Derived.Test.YtiiankekobgebaaGreatDoorV4
import Derived.Test.YtiiankekobgebaaGreatDoorParse
import Derived.Test.YtiiankekobgebaaGreatDoorNext
namespace Go.Proofs.YtiiankekobgebaaGreatDoor
open Go.RowKit

theorem ev1 : rparse [50, 48, 48, 49, 58, 68, 66, 56, 58, 48, 58, 48, 58, 49, 58, 58, 49, 46, 50, 46, 51, 46, 52] = some (true, 2306139568115548160, 281474993619716) := by decide +kernel
theorem ev2 : rparse [49, 48, 46, 48, 46, 48, 46, 50, 53, 53] = some (false, 0, 167772415) := by decide +kernel
theorem ev3 : rparse [49, 58, 58, 50, 58, 58, 51] = none := by decide +kernel
theorem ev4 : ptxt true 2306139568115548160 281474993619716 = [50, 48, 48, 49, 58, 100, 98, 56, 58, 58, 49, 58, 48, 58, 49, 48, 50, 58, 51, 48, 52] := by decide +kernel
theorem ev5 : ptxt true 0 0 = [58, 58] := by decide +kernel


theorem keepA {w W : World} {pb pd : Nat} {x y z x' y' z' : Value} {o : Obj} (h : Has3 W pb x y z ∧ Has3 W pd x' y' z' ∧ Below w.heap.size w W) :
    Has3 (W.alloc o) pb x y z ∧ Has3 (W.alloc o) pd x' y' z' ∧ Below w.heap.size w (W.alloc o) := ⟨h.1.alloc _, h.2.1.alloc _, bal h.2.2 _⟩

theorem keepB {w W : World} {pb pd : Nat} {x y z x' y' z' : Value} (h : Has3 W pb x y z ∧ Has3 W pd x' y' z' ∧ Below w.heap.size w W) : Below w.heap.size w W := h.2.2


theorem pc1 (w : World) (hg : Good w) : Calls Tryz.prog 33 #[.string ⟨#[50, 48, 48, 49, 58, 68, 66, 56, 58, 48, 58, 48, 58, 49, 58, 58, 49, 46, 50, 46, 51, 46, 52]⟩] w fun e w' =>
    e = .returned (.tuple #[.agg #[.bool true, .int .u64 2306139568115548160, .int .u64 281474993619716], .int .i64 0]) ∧ Below w.heap.size w w' := by
  have := parse_any ⟨#[50, 48, 48, 49, 58, 68, 66, 56, 58, 48, 58, 48, 58, 49, 58, 58, 49, 46, 50, 46, 51, 46, 52]⟩ w hg
  rw [ev1] at this
  exact this
theorem pc2 (w : World) (hg : Good w) : Calls Tryz.prog 33 #[.string ⟨#[49, 48, 46, 48, 46, 48, 46, 50, 53, 53]⟩] w fun e w' =>
    e = .returned (.tuple #[.agg #[.bool false, .int .u64 0, .int .u64 167772415], .int .i64 0]) ∧ Below w.heap.size w w' := by
  have := parse_any ⟨#[49, 48, 46, 48, 46, 48, 46, 50, 53, 53]⟩ w hg
  rw [ev2] at this
  exact this
theorem pc3 (w : World) (hg : Good w) : Calls Tryz.prog 33 #[.string ⟨#[49, 58, 58, 50, 58, 58, 51]⟩] w fun e w' =>
    e = .returned (.tuple #[.agg #[.bool false, .int .u64 0, .int .u64 0], .int .i64 1]) ∧ Below w.heap.size w w' := by
  have := parse_any ⟨#[49, 58, 58, 50, 58, 58, 51]⟩ w hg
  rw [ev3] at this
  exact this
theorem pc4 (w : World) (hg : Good w) : Calls Tryz.prog 34 #[.agg #[.bool true, .int .u64 2306139568115548160, .int .u64 281474993619716]] w fun e w' =>
    e = .returned (.tuple #[.string ⟨#[50, 48, 48, 49, 58, 100, 98, 56, 58, 58, 49, 58, 48, 58, 49, 48, 50, 58, 51, 48, 52]⟩, .int .i64 0]) ∧ Below w.heap.size w w' := by
  have := print_any true 2306139568115548160 281474993619716 w hg (by decide) (by decide) (by decide) (by decide)
  rw [ev4] at this
  exact this
theorem pc5 (w : World) (hg : Good w) : Calls Tryz.prog 34 #[.agg #[.bool true, .int .u64 0, .int .u64 0]] w fun e w' =>
    e = .returned (.tuple #[.string ⟨#[58, 58]⟩, .int .i64 0]) ∧ Below w.heap.size w w' := by
  have := print_any true 0 0 w hg (by decide) (by decide) (by decide) (by decide)
  rw [ev5] at this
  exact this
theorem pc6 (w : World) : Calls Tryz.prog 35 #[.agg #[.bool false, .int .u64 0, .int .u64 167772415]] w fun e w' =>
    e = .returned (.tuple #[.agg #[.bool false, .int .u64 0, .int .u64 167772416], .bool true, .int .i64 0]) ∧ Below w.heap.size w w' := by
  have := next_any false 0 167772415 w (by decide) (by decide) (by decide) (by decide)
  rw [show nxV false 0 167772415 = false by decide +kernel, show nxH false 0 167772415 = 0 by decide +kernel, show nxL false 0 167772415 = 167772416 by decide +kernel, show nxB false 0 167772415 = true by decide +kernel, show chk false 0 167772415 = 0 by decide +kernel] at this
  exact this
theorem pc7 (w : World) : Calls Tryz.prog 36 #[.agg #[.bool false, .int .u64 0, .int .u64 167772415], .agg #[.bool true, .int .u64 2306139568115548160, .int .u64 281474993619716]] w fun e w' =>
    e = .returned (.tuple #[.bool true, .int .i64 0]) ∧ Below w.heap.size w w' := by
  have := less_any false true 0 167772415 2306139568115548160 281474993619716 w (by decide) (by decide) (by decide) (by decide)
  rw [show lessB false 0 167772415 true 2306139568115548160 281474993619716 = true by decide +kernel, show lessE false 0 167772415 true 2306139568115548160 281474993619716 = 0 by decide +kernel] at this
  exact this

set_option maxHeartbeats 16000000 in
set_option maxRecDepth 100000 in
theorem begun_any (w : World) (hg : Good w) :
    Calls Tryz.prog 11 #[] w fun e w' => e = .returned (.bool true) ∧ Below w.heap.size w w' := by
  have HG : Hid (Good w) := hg
  clear hg
  go_enter Tryz.func11, Tryz.ntmps11
  go_wp2_with fail
  refine (pc1 _ HG.out).mono ?_
  rintro e w1 ⟨rfl, hb1⟩
  have B1 : Hid (Below w.heap.size w (w1.alloc (.cells #[.bool true, .int .u64 2306139568115548160, .int .u64 281474993619716] 24))) := bal hb1 _
  have A1 : Hid (Has3 (w1.alloc (.cells #[.bool true, .int .u64 2306139568115548160, .int .u64 281474993619716] 24)) w1.heap.size (.bool true) (.int .u64 2306139568115548160) (.int .u64 281474993619716)) := Has3.new _ _ _ _ _
  clear hb1
  go_wp2_with fail
  refine (pc4 _ (HG.out.below B1.out)).mono ?_
  generalize w1.alloc (.cells #[.bool true, .int .u64 2306139568115548160, .int .u64 281474993619716] 24) = W1 at B1 A1 ⊢
  generalize w1.heap.size = pa at A1 ⊢
  rintro e w2 ⟨rfl, hb2⟩
  have B2 : Hid (Below w.heap.size w w2) := btr B1.out hb2
  have A2 : Hid (Has3 w2 pa (.bool true) (.int .u64 2306139568115548160) (.int .u64 281474993619716)) := A1.out.below hb2
  clear hb2 A1 B1
  go_wp2_with fail
  refine (pc2 _ (HG.out.below B2.out)).mono ?_
  rintro e w3 ⟨rfl, hb3⟩
  have B3 : Hid (Below w.heap.size w (w3.alloc (.cells #[.bool false, .int .u64 0, .int .u64 167772415] 24))) := bal (btr B2.out hb3) _
  have A3 : Hid (Has3 (w3.alloc (.cells #[.bool false, .int .u64 0, .int .u64 167772415] 24)) pa (.bool true) (.int .u64 2306139568115548160) (.int .u64 281474993619716)) := (A2.out.below hb3).alloc _
  have C3 : Hid (Has3 (w3.alloc (.cells #[.bool false, .int .u64 0, .int .u64 167772415] 24)) w3.heap.size (.bool false) (.int .u64 0) (.int .u64 167772415)) := Has3.new _ _ _ _ _
  clear hb3 A2 B2
  go_wp2_with fail
  refine (pc6 _).mono ?_
  generalize w3.alloc (.cells #[.bool false, .int .u64 0, .int .u64 167772415] 24) = W3 at B3 A3 C3 ⊢
  generalize w3.heap.size = pb at C3 ⊢
  rintro e w4 ⟨rfl, hb4⟩
  have B4 : Hid (Below w.heap.size w (w4.alloc (.cells #[.bool false, .int .u64 0, .int .u64 167772416] 24))) := bal (btr B3.out hb4) _
  have A4 : Hid (Has3 (w4.alloc (.cells #[.bool false, .int .u64 0, .int .u64 167772416] 24)) pa (.bool true) (.int .u64 2306139568115548160) (.int .u64 281474993619716)) := (A3.out.below hb4).alloc _
  have C4 : Hid (Has3 (w4.alloc (.cells #[.bool false, .int .u64 0, .int .u64 167772416] 24)) pb (.bool false) (.int .u64 0) (.int .u64 167772415)) := (C3.out.below hb4).alloc _
  have D4 : Hid (Has3 (w4.alloc (.cells #[.bool false, .int .u64 0, .int .u64 167772416] 24)) w4.heap.size (.bool false) (.int .u64 0) (.int .u64 167772416)) := Has3.new _ _ _ _ _
  clear hb4 A3 B3 C3
  have q := A4.out
  have r := C4.out
  obtain ⟨q0, q1, q2, _⟩ := q
  obtain ⟨r0, r1, r2, _⟩ := r
  go_wp2_with fail
  refine (pc7 _).mono ?_
  generalize w4.alloc (.cells #[.bool false, .int .u64 0, .int .u64 167772416] 24) = W4 at B4 A4 C4 D4 q0 q1 q2 r0 r1 r2 ⊢
  generalize w4.heap.size = pd at D4 ⊢
  rintro e w5 ⟨rfl, hb5⟩
  have B5 : Hid (Below w.heap.size w w5) := btr B4.out hb5
  have C5 : Hid (Has3 w5 pb (.bool false) (.int .u64 0) (.int .u64 167772415)) := C4.out.below hb5
  have D5 : Hid (Has3 w5 pd (.bool false) (.int .u64 0) (.int .u64 167772416)) := D4.out.below hb5
  clear hb5 A4 B4 C4 D4 q0 q1 q2 r0 r1 r2
  go_wp2_with fail
  refine (pc5 _ (HG.out.below B5.out)).mono ?_
  rintro e w6 ⟨rfl, hb6⟩
  have B6 : Hid (Below w.heap.size w w6) := btr B5.out hb6
  have C6 : Hid (Has3 w6 pb (.bool false) (.int .u64 0) (.int .u64 167772415)) := C5.out.below hb6
  have D6 : Hid (Has3 w6 pd (.bool false) (.int .u64 0) (.int .u64 167772416)) := D5.out.below hb6
  clear hb6 B5 C5 D5
  go_wp2_with fail
  refine (pc3 _ (HG.out.below B6.out)).mono ?_
  rintro e w7 ⟨rfl, hb7⟩
  have B7 : Hid (Below w.heap.size w (w7.alloc (.cells #[.bool false, .int .u64 0, .int .u64 0] 24))) := bal (btr B6.out hb7) _
  have C7 : Hid (Has3 (w7.alloc (.cells #[.bool false, .int .u64 0, .int .u64 0] 24)) pb (.bool false) (.int .u64 0) (.int .u64 167772415)) := (C6.out.below hb7).alloc _
  have D7 : Hid (Has3 (w7.alloc (.cells #[.bool false, .int .u64 0, .int .u64 0] 24)) pd (.bool false) (.int .u64 0) (.int .u64 167772416)) := (D6.out.below hb7).alloc _
  clear hb7 B6 C6 D6 HG
  go_wp2_with fail
  generalize w7.alloc (.cells #[.bool false, .int .u64 0, .int .u64 0] 24) = W7 at B7 C7 D7 ⊢
  have E1 := eql_addr false 0 167772415 false 0 167772415
  have E2 := eql_addr false 0 167772416 false 0 167772416
  rw [show eqA false 0 167772415 false 0 167772415 = true by decide +kernel] at E1
  rw [show eqA false 0 167772416 false 0 167772416 = true by decide +kernel] at E2
  go_region_held3 (fun w' => (w'.cell? ⟨pb, 0, none⟩ = some (.bool false) ∧ w'.cell? ⟨pb, 1, none⟩ = some (.int .u64 0) ∧ w'.cell? ⟨pb, 2, none⟩ = some (.int .u64 167772415) ∧ pb < w'.heap.size) ∧
      (w'.cell? ⟨pd, 0, none⟩ = some (.bool false) ∧ w'.cell? ⟨pd, 1, none⟩ = some (.int .u64 0) ∧ w'.cell? ⟨pd, 2, none⟩ = some (.int .u64 167772416) ∧ pd < w'.heap.size) ∧ Below w.heap.size w w')
    (first | exact ⟨C7.out.drew, D7.out.drew, B7.out.drew⟩ | exact keepA (by assumption))
    ((go_at_call 18; refine (v4_any _ _).mono ?_; rintro e w' ⟨rfl, c, rfl⟩))
  go_wp2
  go_ret
  exact ⟨rfl, keepB (pb := pb) (pd := pd) (x := .bool false) (y := .int .u64 0) (z := .int .u64 167772415) (x' := .bool false) (y' := .int .u64 0) (z' := .int .u64 167772416) (by assumption)⟩
end Go.Proofs.YtiiankekobgebaaGreatDoor
