/- prefix.Print: whatever it is handed. -/
import Derived.Test.YtghbonlignmdoaaGreatDoorPfF
import Derived.Test.YtghbonlignmdoaaGreatDoorPr16
import Derived.Test.YtghbonlignmdoaaGreatDoorBack1
set_option linter.unusedVariables false
set_option linter.unusedSimpArgs false
namespace Go.Proofs.YtghbonlignmdoaaGreatDoor
open Go.RowKit

/-- The text of a prefix that is right. -/
def pfTxt (v : Bool) (hi lo b : Int) : List UInt8 := ptxt v hi lo ++ [47] ++ Lib.decDigits b.toNat

theorem below_grow (w : World) (k : Nat) (os : Array Obj) : Below w.heap.size w (Go.Sort.grow (w.drewN k) os) := by
  refine ⟨rfl, rfl, rfl, ?_, ?_⟩
  · simp [Go.Sort.grow, World.drewN]
  · intro j hj
    show (w.heap ++ os)[j]? = w.heap[j]?
    rw [Array.getElem?_append_left hj]

theorem itoa_any (b : Int) (w : World) (hg : Good w) (h0 : 0 ≤ b) (h1 : b ≤ 128) :
    Calls Tryz.prog 37 #[.int .i64 b] w fun e w' => e = .returned (.string ⟨(Lib.decDigits b.toNat).toArray⟩) ∧ Below w.heap.size w w' := by
  refine (Tryz.strconv_Itoa b (by omega) (by omega) w hg.pow).mono ?_
  rintro e w' ⟨rfl, k, os, rfl⟩
  refine ⟨?_, ?_⟩
  · unfold Lib.itoa; rw [if_neg (by omega)]
  · exact below_grow w k os

set_option maxHeartbeats 4000000 in
set_option maxRecDepth 100000 in
theorem pprint_ok (v : Bool) (hi lo b : Int) (w : World) (hg : Good w) (i0 : 0 ≤ hi) (i1 : hi < 18446744073709551616) (i2 : 0 ≤ lo) (i3 : lo < 18446744073709551616) (c0 : pchk v hi lo b = 0) :
    Calls Tryz.prog 20 #[.agg #[.bool v, .int .u64 hi, .int .u64 lo, .int .i64 b]] w fun e w' => e = .returned (.tuple #[.string ⟨(pfTxt v hi lo b).toArray⟩, .int .i64 0]) ∧ Below w.heap.size w w' := by
  obtain ⟨b0, b1⟩ := pchk_rng c0
  have hv : wid v ≤ 128 := by unfold wid; split <;> omega
  have hb128 : b ≤ 128 := by omega
  have hck : chk v hi lo = 0 := by
    rcases pchk_cases v hi lo b with ⟨_, h, _⟩ | h | h
    · exact h
    · omega
    · omega
  have hL : Hid (∀ (g c : Nat) (w : World), Has4 w g v hi lo b → Calls Tryz.prog 25 #[.slice (some ⟨g, 0, none⟩) 1 c] w fun e w' => e = .returned (.int .i64 0) ∧ Below w.heap.size w w') := by
    intro g c w h
    have := look1 v hi lo b g c w i0 i1 i2 i3 h
    rw [c0] at this; exact this
  have hA : Hid (∀ w : World, Good w → Calls Tryz.prog 36 #[.agg #[.bool v, .int .u64 hi, .int .u64 lo]] w fun e w' => e = .returned (.tuple #[.string ⟨(ptxt v hi lo).toArray⟩, .int .i64 0]) ∧ Below w.heap.size w w') := by
    intro w hg
    have := print_any v hi lo w hg i0 i1 i2 i3
    rw [hck] at this; exact this
  have hI : Hid (∀ w : World, Good w → Calls Tryz.prog 37 #[.int .i64 b] w fun e w' => e = .returned (.string ⟨(Lib.decDigits b.toNat).toArray⟩) ∧ Below w.heap.size w w') := fun w hg => itoa_any b w hg b0 hb128
  have hl1 : (ptxt v hi lo).length ≤ 39 := (back_any v hi lo i0 i1 i2 i3 hck).2
  have hl2 : (Lib.decDigits b.toNat).length ≤ 20 := decDigits_le _ (by omega)
  obtain ⟨t, ht⟩ : ∃ t, t = ptxt v hi lo ++ [47] := ⟨_, rfl⟩
  have hp1 : ∀ W : World, (Op.stringOp .add ⟨(ptxt v hi lo).toArray⟩ ⟨#[47]⟩).run Tryz.prog W = .ok (.string ⟨t.toArray⟩) W := fun W => by
    rw [ht]; exact run_string_add_lists (P := Tryz.prog) W (ptxt v hi lo) [47] (by omega) (by simp)
  have hp2 : ∀ W : World, (Op.stringOp .add ⟨t.toArray⟩ ⟨(Lib.decDigits b.toNat).toArray⟩).run Tryz.prog W = .ok (.string ⟨(pfTxt v hi lo b).toArray⟩) W := fun W => by
    unfold pfTxt; rw [← ht]; exact run_string_add_lists (P := Tryz.prog) W t _ (by rw [ht]; simp; omega) (by omega)
  have HG : Hid (Good w) := hg
  clear c0 b1 hv hck hl1 hl2 ht hg
  generalize ptxt v hi lo = s at *
  generalize Lib.decDigits b.toNat = s2 at *
  generalize pfTxt v hi lo b = s3 at *
  go_enter Tryz.func20, Tryz.ntmps20
  go_wp2_with fail
  have hs1 : (w.alloc (.cells #[.bool v, .int .u64 hi, .int .u64 lo, .int .i64 b] 37)).heap.size = w.heap.size + 1 := by simp
  have B1 : Below w.heap.size w ((w.alloc (.cells #[.bool v, .int .u64 hi, .int .u64 lo, .int .i64 b] 37)).alloc (.cells #[.bool v, .int .u64 hi, .int .u64 lo, .int .i64 b] 37)) := bal (bal (Below.refl _ _) _) _
  have P0 := (Has4.new w v hi lo b 37).alloc (.cells #[.bool v, .int .u64 hi, .int .u64 lo, .int .i64 b] 37)
  have G1 := Has4.new (w.alloc (.cells #[.bool v, .int .u64 hi, .int .u64 lo, .int .i64 b] 37)) v hi lo b 37
  rw [hs1] at G1
  refine (hL.out _ _ _ G1).mono ?_
  clear G1
  generalize (w.alloc (.cells #[.bool v, .int .u64 hi, .int .u64 lo, .int .i64 b] 37)).alloc (.cells #[.bool v, .int .u64 hi, .int .u64 lo, .int .i64 b] 37) = W at B1 P0 ⊢
  clear hs1 hL
  rintro e w2 ⟨rfl, hb⟩
  replace P0 := P0.below hb
  replace B1 := btr B1 hb
  clear hb
  obtain ⟨p0, p1, p2, p3, p4⟩ := P0
  go_wp2_with fail
  refine (hA.out _ (HG.out.below B1)).mono ?_
  have P1 : Has4 w2 w.heap.size v hi lo b := ⟨p0, p1, p2, p3, p4⟩
  clear p0 p1 p2 p3 p4
  rintro e w3 ⟨rfl, hb⟩
  replace P1 := P1.below hb
  replace B1 : Below w.heap.size w w3 := btr B1 hb
  have HG3 : Hid (Good w3) := HG.out.below B1
  obtain ⟨p0, p1, p2, p3, p4⟩ := P1
  clear hb HG hA
  go_wp2_with fail
  refine (hI.out _ HG3.out).mono ?_
  rintro e w4 ⟨rfl, hb⟩
  replace B1 : Below w.heap.size w w4 := btr B1 hb
  clear hb p0 p1 p2 p3 p4
  go_wp2
  go_ret2
  exact ⟨rfl, B1⟩

set_option maxHeartbeats 8000000 in
set_option maxRecDepth 100000 in
theorem pprint_bad (v : Bool) (hi lo b : Int) (k : Int) (w : World) (i0 : 0 ≤ hi) (i1 : hi < 18446744073709551616) (i2 : 0 ≤ lo) (i3 : lo < 18446744073709551616) (c0 : pchk v hi lo b = k) (hk : (k != 0) = true) :
    Calls Tryz.prog 20 #[.agg #[.bool v, .int .u64 hi, .int .u64 lo, .int .i64 b]] w fun e w' => e = .returned (.tuple #[.string ⟨#[]⟩, .int .i64 k]) ∧ Below w.heap.size w w' := by
  have hL : Hid (∀ (g c : Nat) (w : World), Has4 w g v hi lo b → Calls Tryz.prog 25 #[.slice (some ⟨g, 0, none⟩) 1 c] w fun e w' => e = .returned (.int .i64 k) ∧ Below w.heap.size w w') := by
    intro g c w h
    have := look1 v hi lo b g c w i0 i1 i2 i3 h
    rw [c0] at this; exact this
  clear c0
  go_enter Tryz.func20, Tryz.ntmps20
  go_wp2_with fail
  have hs1 : (w.alloc (.cells #[.bool v, .int .u64 hi, .int .u64 lo, .int .i64 b] 37)).heap.size = w.heap.size + 1 := by simp
  have B1 : Below w.heap.size w ((w.alloc (.cells #[.bool v, .int .u64 hi, .int .u64 lo, .int .i64 b] 37)).alloc (.cells #[.bool v, .int .u64 hi, .int .u64 lo, .int .i64 b] 37)) := bal (bal (Below.refl _ _) _) _
  have P0 := (Has4.new w v hi lo b 37).alloc (.cells #[.bool v, .int .u64 hi, .int .u64 lo, .int .i64 b] 37)
  have G1 := Has4.new (w.alloc (.cells #[.bool v, .int .u64 hi, .int .u64 lo, .int .i64 b] 37)) v hi lo b 37
  rw [hs1] at G1
  refine (hL.out _ _ _ G1).mono ?_
  clear G1
  generalize (w.alloc (.cells #[.bool v, .int .u64 hi, .int .u64 lo, .int .i64 b] 37)).alloc (.cells #[.bool v, .int .u64 hi, .int .u64 lo, .int .i64 b] 37) = W at B1 P0 ⊢
  clear hs1 hL
  rintro e w2 ⟨rfl, hb⟩
  replace P0 := P0.below hb
  replace B1 := btr B1 hb
  clear hb
  have HB : Hid (Below w.heap.size w w2) := B1
  clear B1
  go_wp2
  refine bodyPost_ret (v := .tuple #[.string ⟨#[]⟩, .int .i64 k]) ?_ rfl ⟨rfl, ?_⟩
  · simp [results, Tryz.results20, go_sem]
  · exact HB.out

end Go.Proofs.YtghbonlignmdoaaGreatDoor
