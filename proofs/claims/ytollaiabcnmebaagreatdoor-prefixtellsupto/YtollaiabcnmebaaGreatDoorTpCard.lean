/- PrefixTells, where what it is handed is of bulk at most 1048576 (a text of at most 1048575 bytes): whatever prefixes and whatever text it is handed, it answers true, and all three read as they did. Under the row's own conditions alone: the listed variables of Go's library start as its text lays them (the card ties them to that text). -/
import Derived.Test.YtollaiabcnmebaaGreatDoorTpA
import Derived.Test.YtollaiabcnmebaaGreatDoorTpB
import Derived.Test.YtollaiabcnmebaaGreatDoorTpC
import Derived.Test.YtollaiabcnmebaaGreatDoorOpenP
import Derived.Test.YtollaiabcnmebaaGreatDoorTie
import Derived.Test.YtollaiabcnmebaaGreatDoorCards
import Derived.SevenTiedAt
import Derived.ChangeMaps5
import Derived.Deep.DeepHandedRow
set_option linter.unusedVariables false
set_option linter.unusedSimpArgs false
namespace Go.Proofs.YtollaiabcnmebaaGreatDoor
open Go.ChangeShapes Go.WideShapes Go.ChangeAt Go.WideMaps Go.WideElems Go.RowKit

theorem two_zero (k : Int) : two 0 k = k := by rw [two, if_pos rfl]
theorem two_bad {x : Int} (y : Int) (h : x ≠ 0) : two x y = x := by rw [two, if_neg h]

theorem ptells_law (v : Bool) (hi lo : Nat) (b : Int) (u : Bool) (yi yo : Nat) (c : Int) (s : ByteArray) (w : World) (hg : Good w) (h1 : hi < 18446744073709551616) (l1 : lo < 18446744073709551616) (h2 : yi < 18446744073709551616) (l2 : yo < 18446744073709551616) (hs : s.size ≤ 1048576) :
    Calls Tryz.prog 3 #[.agg #[.bool v, .int .u64 (hi : Int), .int .u64 (lo : Int), .int .i64 b], .agg #[.bool u, .int .u64 (yi : Int), .int .u64 (yo : Int), .int .i64 c], .string s] w fun e w' => e = .returned (.bool true) ∧ Below w.heap.size w w' := by
  have a0 : (0 : Int) ≤ (hi : Int) := by omega
  have a1 : (hi : Int) < 18446744073709551616 := by omega
  have a2 : (0 : Int) ≤ (lo : Int) := by omega
  have a3 : (lo : Int) < 18446744073709551616 := by omega
  have d0 : (0 : Int) ≤ (yi : Int) := by omega
  have d1 : (yi : Int) < 18446744073709551616 := by omega
  have d2 : (0 : Int) ≤ (yo : Int) := by omega
  have d3 : (yo : Int) < 18446744073709551616 := by omega
  obtain ⟨xv, xh, xl, xb, hx⟩ : ∃ (x : Bool) (y z u : Int), ppV (rform s.data.toList) = .agg #[.bool x, .int .u64 y, .int .u64 z, .int .i64 u] := by
    cases rform s.data.toList with
    | none => exact ⟨_, _, _, _, rfl⟩
    | some p =>
      obtain ⟨x, y, z, n⟩ := p
      unfold ppV
      simp only []
      split
      · exact ⟨_, _, _, _, rfl⟩
      · exact ⟨_, _, _, _, rfl⟩
  have g2 : Hid (∀ w : World, Good w → Calls Tryz.prog 5 #[.string s] w fun e w' => e = .returned (.tuple #[.agg #[.bool xv, .int .u64 xh, .int .u64 xl, .int .i64 xb], .int .i64 (ppE (rform s.data.toList))]) ∧ Below w.heap.size w w') := fun w hg => by
    have := pparse_any s w hg (by omega); rw [hx] at this; exact this
  have g14 : Hid (∀ w : World, Calls Tryz.prog 16 #[.string s] w fun e w' => e = .returned (.tuple #[.agg #[.bool xv, .int .u64 xh, .int .u64 xl, .int .i64 xb], .int .i64 (ppE (rform s.data.toList))]) ∧ Below w.heap.size w w') := fun w => by
    have := prefixOf_any s w hs; rw [hx] at this; exact this
  have g7 : Hid (∀ w : World, Calls Tryz.prog 10 #[.agg #[.bool v, .int .u64 (hi : Int), .int .u64 (lo : Int), .int .i64 b]] w fun e w' => e = .returned (.int .i64 (pchk v hi lo b)) ∧ Below w.heap.size w w') := fun w => rpcheck_nat v hi lo b w h1 l1
  have g8 : Hid (∀ w : World, Calls Tryz.prog 10 #[.agg #[.bool u, .int .u64 (yi : Int), .int .u64 (yo : Int), .int .i64 c]] w fun e w' => e = .returned (.int .i64 (pchk u yi yo c)) ∧ Below w.heap.size w w') := fun w => rpcheck_nat u yi yo c w h2 l2
  have g15 : Hid (∀ w : World, Calls Tryz.prog 18 #[.agg #[.bool v, .int .u64 (hi : Int), .int .u64 (lo : Int), .int .i64 b]] w fun e w' => e = .returned (.int .i64 (pchk v hi lo b)) ∧ Below w.heap.size w w') := fun w => pcheck_any v hi lo b w a0 a1 a2 a3
  by_cases cp : pchk v hi lo b = 0
  · have rp := (right_iff v hi lo b a0 a1 a2 a3).1 cp
    obtain ⟨bN, hbN⟩ := Int.eq_ofNat_of_zero_le rp.b0
    have hw128 : wid v ≤ 128 := by unfold wid; split <;> omega
    have hb1 := rp.b1
    have hlen := bits_wid v hi lo
    have hBT : ((⟨(bitsT v hi lo).toArray⟩ : ByteArray).size : Int) = wid v := by
      show (((bitsT v hi lo).toArray.size : Nat) : Int) = wid v
      rw [List.size_toArray]; exact hlen
    have g1 : Hid (∀ w : World, Good w → Calls Tryz.prog 4 #[.agg #[.bool v, .int .u64 (hi : Int), .int .u64 (lo : Int), .int .i64 b]] w fun e w' => e = .returned (.tuple #[.string ⟨(pfTxt v hi lo b).toArray⟩, .int .i64 0]) ∧ Below w.heap.size w w') := fun w hg => pprint_ok v hi lo b w hg a0 a1 a2 a3 cp
    have g4 : Hid (∀ w : World, Calls Tryz.prog 7 #[.agg #[.bool v, .int .u64 (hi : Int), .int .u64 (lo : Int), .int .i64 b]] w fun e w' => e = .returned (.tuple #[.agg #[.bool v, .int .u64 (hi : Int), .int .u64 (lo : Int)], .agg #[.bool v, .int .u64 (laH v hi b), .int .u64 (laL v lo b)], .int .i64 0]) ∧ Below w.heap.size w w') := fun w => ends_ok v hi lo b w a0 a1 a2 a3 cp
    have g9 : Hid (∀ w : World, Calls Tryz.prog 11 #[.agg #[.bool v, .int .u64 (hi : Int), .int .u64 (lo : Int), .int .i64 b]] w fun e w' => e = .returned (.string ⟨(pfTxt v hi lo b).toArray⟩) ∧ Below w.heap.size w w') := fun w => by
      rw [hbN]; exact prefixText_any v hi lo bN w (hbN ▸ rp)
    have g10 : Hid (∀ w : World, Calls Tryz.prog 12 #[.agg #[.bool v, .int .u64 (hi : Int), .int .u64 (lo : Int), .int .i64 b]] w fun e w' => e = .returned (.agg #[.bool v, .int .u64 (laH v hi b), .int .u64 (laL v lo b)]) ∧ Below w.heap.size w w') := fun w => by
      rw [hbN]; exact lastOf_any v hi lo bN w (hbN ▸ rp)
    have g11 : Hid (∀ w : World, Calls Tryz.prog 13 #[.agg #[.bool v, .int .u64 (hi : Int), .int .u64 (lo : Int)]] w fun e w' => e = .returned (.string ⟨(bitsT v hi lo).toArray⟩) ∧ Below w.heap.size w w') := fun w => bits_any v hi lo w h1 l1
    have g5n : b < wid v → Hid (∀ w : World, Calls Tryz.prog 8 #[.agg #[.bool v, .int .u64 (hi : Int), .int .u64 (lo : Int), .int .i64 b]] w fun e w' => e = .returned (.tuple #[.agg #[.bool v, .int .u64 (hi : Int), .int .u64 (lo : Int), .int .i64 (b + 1)], .agg #[.bool v, .int .u64 (fsH v (laH v hi b) (b + 1)), .int .u64 (fsL v (laL v lo b) (b + 1)), .int .i64 (b + 1)], .int .i64 0]) ∧ Below w.heap.size w w') := fun hlt w => halves_ok v hi lo b w a0 a1 a2 a3 cp hlt
    have g5f : b = wid v → Hid (∀ w : World, Calls Tryz.prog 8 #[.agg #[.bool v, .int .u64 (hi : Int), .int .u64 (lo : Int), .int .i64 b]] w fun e w' => e = .returned (.tuple #[.agg #[.bool false, .int .u64 0, .int .u64 0, .int .i64 0], .agg #[.bool false, .int .u64 0, .int .u64 0, .int .i64 0], .int .i64 5]) ∧ Below w.heap.size w w') := fun hlt w => halves_none v hi lo b w a0 a1 a2 a3 cp hlt
    have g12 : b < wid v → Hid (∀ w : World, Calls Tryz.prog 14 #[.agg #[.bool v, .int .u64 (hi : Int), .int .u64 (lo : Int), .int .i64 b]] w fun e w' => e = .returned (.tuple #[.agg #[.bool v, .int .u64 (hi : Int), .int .u64 (lo : Int), .int .i64 (b + 1)], .agg #[.bool v, .int .u64 (fsH v (laH v hi b) (b + 1)), .int .u64 (fsL v (laL v lo b) (b + 1)), .int .i64 (b + 1)]]) ∧ Below w.heap.size w w') := fun hlt w => by
      have := halvesOf_any v hi lo bN w (hbN ▸ rp) (by omega)
      rw [← hbN] at this; exact this
    rw [cp] at g7 g15
    have eF : b = wid v → (b == ((⟨(bitsT v hi lo).toArray⟩ : ByteArray).size : Int)) = true := fun h => by rw [hBT, beq_iff_eq]; exact h
    have eN : b < wid v → (b == ((⟨(bitsT v hi lo).toArray⟩ : ByteArray).size : Int)) = false := fun h => by rw [hBT, beq_eq_false_iff_ne]; omega
    by_cases cq : pchk u yi yo c = 0
    · have rq := (right_iff u yi yo c d0 d1 d2 d3).1 cq
      rw [cq] at g8
      have c0 : two (pchk v hi lo b) (pchk u yi yo c) = 0 := by rw [cp, cq]; rfl
      have g3 : Hid (∀ w : World, Calls Tryz.prog 6 #[.agg #[.bool v, .int .u64 (hi : Int), .int .u64 (lo : Int), .int .i64 b], .agg #[.bool u, .int .u64 (yi : Int), .int .u64 (yo : Int), .int .i64 c]] w fun e w' => e = .returned (.tuple #[.bool (hasB v hi lo b u yi yo c), .int .i64 0]) ∧ Below w.heap.size w w') := fun w => has_ok v hi lo b u yi yo c w a0 a1 a2 a3 d0 d1 d2 d3 c0
      have g16 : Hid (∀ w : World, Calls Tryz.prog 19 #[.agg #[.bool v, .int .u64 (hi : Int), .int .u64 (lo : Int), .int .i64 b], .agg #[.bool u, .int .u64 (yi : Int), .int .u64 (yo : Int), .int .i64 c]] w fun e w' => e = .returned (.bool (hasB v hi lo b u yi yo c)) ∧ Below w.heap.size w w') := fun w => by
        rw [hbN]; exact hasPrefix_any v hi lo bN u yi yo c w (hbN ▸ rp) rq
      -- whole, or not
      have gW : (∃ (_ : True), Hid (∀ w : World, Calls Tryz.prog 9 #[.agg #[.bool v, .int .u64 (hi : Int), .int .u64 (lo : Int), .int .i64 b], .agg #[.bool u, .int .u64 (yi : Int), .int .u64 (yo : Int), .int .i64 c]] w fun e w' => e = .returned (.tuple #[.agg #[.bool v, .int .u64 (hi : Int), .int .u64 (lo : Int), .int .i64 (b - 1)], .int .i64 0]) ∧ Below w.heap.size w w') ∧
            Hid (∀ w : World, Calls Tryz.prog 15 #[.agg #[.bool v, .int .u64 (hi : Int), .int .u64 (lo : Int), .int .i64 b], .agg #[.bool u, .int .u64 (yi : Int), .int .u64 (yo : Int), .int .i64 c]] w fun e w' => e = .returned (.tuple #[.agg #[.bool v, .int .u64 (hi : Int), .int .u64 (lo : Int), .int .i64 (b - 1)], .bool true]) ∧ Below w.heap.size w w')) ∨
          (∃ (zv : Bool) (zh zl zb : Int), Hid (∀ w : World, Calls Tryz.prog 9 #[.agg #[.bool v, .int .u64 (hi : Int), .int .u64 (lo : Int), .int .i64 b], .agg #[.bool u, .int .u64 (yi : Int), .int .u64 (yo : Int), .int .i64 c]] w fun e w' => e = .returned (.tuple #[.agg #[.bool false, .int .u64 0, .int .u64 0, .int .i64 0], .int .i64 4]) ∧ Below w.heap.size w w') ∧
            Hid (∀ w : World, Calls Tryz.prog 15 #[.agg #[.bool v, .int .u64 (hi : Int), .int .u64 (lo : Int), .int .i64 b], .agg #[.bool u, .int .u64 (yi : Int), .int .u64 (yo : Int), .int .i64 c]] w fun e w' => e = .returned (.tuple #[.agg #[.bool zv, .int .u64 zh, .int .u64 zl, .int .i64 zb], .bool false]) ∧ Below w.heap.size w w')) := by
        by_cases ck : pchk v hi lo (b - 1) = 0
        · have r1 := (right_iff v hi lo (b - 1) a0 a1 a2 a3).1 ck
          obtain ⟨n, hn⟩ := Int.eq_ofNat_of_zero_le r1.b0
          have hb0 : 0 < b := by omega
          have hC : Hid (∀ w : World, Calls Tryz.prog 10 #[.agg #[.bool v, .int .u64 (hi : Int), .int .u64 (lo : Int), .int .i64 (b - 1)]] w fun e w' => e = .returned (.int .i64 0) ∧ Below w.heap.size w w') := fun w => by
            have := rpcheck_nat v hi lo (b - 1) w h1 l1; rw [ck] at this; exact this
          have hH : Hid (∀ w : World, Calls Tryz.prog 14 #[.agg #[.bool v, .int .u64 (hi : Int), .int .u64 (lo : Int), .int .i64 (b - 1)]] w fun e w' => e = .returned (.tuple #[.agg #[.bool v, .int .u64 (hi : Int), .int .u64 (lo : Int), .int .i64 b], .agg #[.bool v, .int .u64 (fsH v (laH v hi (b - 1)) b), .int .u64 (fsL v (laL v lo (b - 1)) b), .int .i64 b]]) ∧ Below w.heap.size w w') := fun w => by
            have := halvesOf_any v hi lo n w (hn ▸ r1) (by omega)
            rw [← hn, Int.sub_add_cancel] at this; exact this
          have hT := fun w => wholeOf_two v hi lo b u yi yo c w hb0 (by omega) _ _ hC hH
          cases hq : eqP v (fsH v (laH v hi (b - 1)) b) (fsL v (laL v lo (b - 1)) b) b u yi yo c with
          | true =>
            refine .inl ⟨trivial, fun w => whole_ok v hi lo b u yi yo c w a0 a1 a2 a3 d0 d1 d2 d3 c0 ck (by rw [Int.sub_add_cancel]; exact hq), fun w => ?_⟩
            have := hT w; rw [hq] at this; exact this
          | false =>
            refine .inr ⟨v, (hi : Int), (lo : Int), b - 1, fun w => whole_neq v hi lo b u yi yo c w a0 a1 a2 a3 d0 d1 d2 d3 c0 ck (by rw [Int.sub_add_cancel]; exact hq), fun w => ?_⟩
            have := hT w; rw [hq] at this; exact this
        · have gk : Hid (∀ w : World, Calls Tryz.prog 9 #[.agg #[.bool v, .int .u64 (hi : Int), .int .u64 (lo : Int), .int .i64 b], .agg #[.bool u, .int .u64 (yi : Int), .int .u64 (yo : Int), .int .i64 c]] w fun e w' => e = .returned (.tuple #[.agg #[.bool false, .int .u64 0, .int .u64 0, .int .i64 0], .int .i64 4]) ∧ Below w.heap.size w w') := fun w => whole_chk v hi lo b u yi yo c w a0 a1 a2 a3 d0 d1 d2 d3 c0 ck
          by_cases hb0 : b = 0
          · exact .inr ⟨false, 0, 0, 0, gk, fun w => wholeOf_zero v hi lo b u yi yo c w hb0⟩
          · refine .inr ⟨false, 0, 0, 0, gk, fun w => wholeOf_chk v hi lo b u yi yo c w (by have := rp.b0; omega) (by omega) (pchk v hi lo (b - 1)) (by rw [bne_iff_ne]; exact ck) (by rw [beq_eq_false_iff_ne]; exact ck) (fun w => rpcheck_nat v hi lo (b - 1) w h1 l1)⟩
      rcases gW with ⟨_, g6, g13⟩ | ⟨zv, zh, zl, zb, g6, g13⟩
      · by_cases hf : b = wid v
        · exact ptells_f1 v hi lo b u yi yo c s _ _ xv xh xl xb _ 0 _ _ 0 0 false 0 0 0 _ w hg g1 g2 g3 g4 (g5f hf) g6 g7 g8 g9 g10 g11 g13 g16 g14 g15 (eF hf) rp.b0 (by omega)
        · exact ptells_n1 v hi lo b u yi yo c s _ _ xv xh xl xb _ 0 _ _ _ _ false 0 0 0 _ w hg g1 g2 g3 g4 (g5n (by omega)) g6 g7 g8 g9 g10 g11 (g12 (by omega)) g13 g16 g14 g15 (eN (by omega)) rp.b0 (by omega)
      · by_cases hf : b = wid v
        · exact ptells_f0 v hi lo b u yi yo c s _ _ xv xh xl xb _ 0 _ _ 0 0 zv zh zl zb _ w hg g1 g2 g3 g4 (g5f hf) g6 g7 g8 g9 g10 g11 g13 g16 g14 g15 (eF hf) rp.b0 (by omega)
        · exact ptells_n0 v hi lo b u yi yo c s _ _ xv xh xl xb _ 0 _ _ _ _ zv zh zl zb _ w hg g1 g2 g3 g4 (g5n (by omega)) g6 g7 g8 g9 g10 g11 (g12 (by omega)) g13 g16 g14 g15 (eN (by omega)) rp.b0 (by omega)
    · have hk : (pchk u yi yo c == 0) = false := by rw [beq_eq_false_iff_ne]; exact cq
      have hk' : (pchk u yi yo c != 0) = true := by rw [bne_iff_ne]; exact cq
      have c0 : two (pchk v hi lo b) (pchk u yi yo c) = pchk u yi yo c := by rw [cp]; exact two_zero _
      have g3 : Hid (∀ w : World, Calls Tryz.prog 6 #[.agg #[.bool v, .int .u64 (hi : Int), .int .u64 (lo : Int), .int .i64 b], .agg #[.bool u, .int .u64 (yi : Int), .int .u64 (yo : Int), .int .i64 c]] w fun e w' => e = .returned (.tuple #[.bool false, .int .i64 (pchk u yi yo c)]) ∧ Below w.heap.size w w') := fun w => has_bad v hi lo b u yi yo c _ w a0 a1 a2 a3 d0 d1 d2 d3 c0 hk'
      have g6 : Hid (∀ w : World, Calls Tryz.prog 9 #[.agg #[.bool v, .int .u64 (hi : Int), .int .u64 (lo : Int), .int .i64 b], .agg #[.bool u, .int .u64 (yi : Int), .int .u64 (yo : Int), .int .i64 c]] w fun e w' => e = .returned (.tuple #[.agg #[.bool false, .int .u64 0, .int .u64 0, .int .i64 0], .int .i64 (pchk u yi yo c)]) ∧ Below w.heap.size w w') := fun w => whole_bad v hi lo b u yi yo c _ w a0 a1 a2 a3 d0 d1 d2 d3 c0 hk'
      by_cases hf : b = wid v
      · exact ptells_vf v hi lo b u yi yo c s _ _ xv xh xl xb _ _ _ _ 0 0 false 0 0 0 false w hg g1 g2 g3 g4 (g5f hf) g6 g7 g8 g9 g10 g11 g14 g15 (eF hf) rp.b0 (by omega) hk
      · exact ptells_vn v hi lo b u yi yo c s _ _ xv xh xl xb _ _ _ _ _ _ false 0 0 0 false w hg g1 g2 g3 g4 (g5n (by omega)) g6 g7 g8 g9 g10 g11 (g12 (by omega)) g14 g15 (eN (by omega)) rp.b0 (by omega) hk
  · have hk : (pchk v hi lo b == 0) = false := by rw [beq_eq_false_iff_ne]; exact cp
    have hk' : (pchk v hi lo b != 0) = true := by rw [bne_iff_ne]; exact cp
    have c0 : two (pchk v hi lo b) (pchk u yi yo c) = pchk v hi lo b := two_bad _ cp
    exact ptells_bad v hi lo b u yi yo c s ⟨#[]⟩ ⟨#[]⟩ xv xh xl xb _ _ 0 0 0 0 false 0 0 0 false w hg
      (fun w _ => pprint_bad v hi lo b _ w a0 a1 a2 a3 rfl hk') g2 (fun w => has_bad v hi lo b u yi yo c _ w a0 a1 a2 a3 d0 d1 d2 d3 c0 hk') (fun w => ends_bad v hi lo b _ w a0 a1 a2 a3 rfl hk')
      (fun w => halves_bad v hi lo b _ w a0 a1 a2 a3 rfl hk') (fun w => whole_bad v hi lo b u yi yo c _ w a0 a1 a2 a3 d0 d1 d2 d3 c0 hk') g7 g14 g15 hk
/-- There is an input that fits, at a world that is shaped. -/
theorem witness_row_shaped {H : Type} {enc : TypeId × Value → H} {C : Checked} {os : Os} {f : FuncId} {fn : Func} {s : OpenSpec} {conds : List PathCond} {apart : Bool} {laid : List (String × DataW Unit)} (w0 : World) (args : Array Value) (hos : w0.os = os)
    (hsh : (w0.forCall (fun _ _ => 0) ⟨#[], args, []⟩).Shaped C.prog) (hok : Input.okWideB C.prog (w0.forCall (fun _ _ => 0) ⟨#[], args, []⟩) f ⟨#[], args, []⟩ = true)
    (hrow : s.preRow enc C.prog fn conds apart laid (w0.forCall (fun _ _ => 0) ⟨#[], args, []⟩).memory args) :
    ∃ (w : World) (tape : Tape) (i : Input), w.os = os ∧ (w.forCall tape i).Shaped C.prog ∧ i.vars = [] ∧ Input.okWide C.prog (w.forCall tape i) .any w.heap.size f i ∧
      s.preRow enc C.prog fn conds apart laid (w.forCall tape i).memory i.args ∧ ({} : Assume).holds C.prog (lone (Frame.enter C.prog f i.args .normal) [] (w.forCall tape i)) :=
  ⟨w0, fun _ _ => 0, ⟨#[], args, []⟩, hos, hsh, (Input.okWide_of_okWideB (base := 0) hok).1, (Input.okWide_of_okWideB hok).2, hrow, by
    simp only [Assume.holds]
    exact ⟨by simp, by simp, fun _ => Modest.zero, by simp, by simp⟩⟩

/-- A text is no longer than what is read. -/
theorem bulk_string {H : Type} (a b : DataW H) (l : List UInt8) (h : Rows.uptoSmall H ([a, b, .lit (.string l)] ++ []) = true) : l.length ≤ 1048576 := by
  have h2 := of_decide_eq_true h
  simp only [List.append_nil, Rows.uptoBulkAll, Rows.uptoBulk] at h2
  omega

theorem ptells_reads (os : Os) {H : Type} (enc : TypeId × Value → H) : ∃ places, DataW.whole enc Tryz.prog ((World.laidAll Tryz.prog os laidAllVars).forCall (fun _ _ => 0) ⟨#[], #[.agg #[.bool false, .int .u64 0, .int .u64 0, .int .i64 0], .agg #[.bool false, .int .u64 0, .int .u64 0, .int .i64 0], .string ⟨#[]⟩], []⟩).memory
    Tryz.f3.params.toList Rows.prefixTellsSpec.vars false #[Value.agg #[.bool false, .int .u64 0, .int .u64 0, .int .i64 0], .agg #[.bool false, .int .u64 0, .int .u64 0, .int .i64 0], .string ⟨#[]⟩].toList 8 =
      some ([.agg [.agg [.lit (.bool false), .lit (.int .u64 0), .lit (.int .u64 0)], .lit (.int .i64 0)], .agg [.agg [.lit (.bool false), .lit (.int .u64 0), .lit (.int .u64 0)], .lit (.int .i64 0)], .lit (.string [])], [], places) :=
  ⟨[], by kernel_rfl⟩

set_option maxRecDepth 100000 in
theorem ptells_lifted (os : Os) (started : os.Started) (H : Type) (enc : TypeId × Value → H) (F : Stop.Interp) :
    ReturnsInHanded {} Tryz.checked os 3 .any ((Rows.OpenSpec.upto Rows.prefixTellsSpec).preRow enc Tryz.prog Tryz.f3 Rows.prefixTellsUptoRow.domain false Rows.prefixTellsUptoRow.laid)
      (((Rows.OpenSpec.upto Rows.prefixTellsSpec).at F).post enc Tryz.prog Tryz.f3 false true false false) := by
  obtain ⟨places, hx⟩ := ptells_reads os enc
  have hlaid : Rows.prefixTellsUptoRow.laid = laidAllVars := rfl
  refine returnsInHanded_of_row (C := Tryz.checked) (s := Rows.OpenSpec.upto Rows.prefixTellsSpec) own started (by kernel_rfl) Tryz.func3
    (witness_row_shaped (enc := enc) (C := Tryz.checked) (World.laidAll Tryz.prog os laidAllVars) #[.agg #[.bool false, .int .u64 0, .int .u64 0, .int .i64 0], .agg #[.bool false, .int .u64 0, .int .u64 0, .int .i64 0], .string ⟨#[]⟩] (World.laidAll_os _ _ _)
      (World.shaped_of_ZipB (by kernel_rfl) (by kernel_rfl)) (by kernel_rfl)
      (OpenSpec.preRow_of_cond 8 hx (by kernel_rfl) (fun k hk => by cases hk; kernel_rfl) (by kernel_rfl)
        (by rw [hlaid, MakeChecks.laidMetH_plain _ _ _ (by kernel_rfl)]; exact laidMet_laidAll _ (by kernel_rfl) (by kernel_rfl)))) ?_
  intro W base args ds gs before hval0 hW _ hcond _ hL hsh _
  rw [hlaid] at hL
  have hval : ∀ (j : Nat) t v, Tryz.f3.params[j]? = some t → args[j]? = some v → Value.okWide Tryz.prog W .any base t v := hval0
  have hW' := hW
  obtain ⟨p, q, hA0, hV, rfl, _, _⟩ := hW
  have hA : DataW.TrodAll enc Tryz.prog W 0 (fun _ => true) true Tryz.f3.params.toList args.toList ds p := hA0
  rw [Tryz.params3] at hA hval
  obtain ⟨v0, v1, v2, d0, d1, d2, p0, p1, p2, rfl, rfl, rfl, h0, h1, h2⟩ := trodAll_three hA
  obtain ⟨rfl, rfl⟩ := trodVars_none hV
  obtain ⟨v, hi, lo, b, rfl, rfl, rfl, a1, a2, a3, a4, a5⟩ := open_pf (hval 0 26 v0 rfl rfl) h0
  obtain ⟨u, yi, yo, e, rfl, rfl, rfl, b1, b2, b3, b4, b5⟩ := open_pf (hval 1 26 v1 rfl rfl) h1
  obtain ⟨s, rfl, rfl, rfl, hs⟩ := Go.ChangeMaps.open_string Tryz.underlying9 (hval 2 9 v2 rfl rfl) h2
  have hk := bulk_string _ _ _ (hcond _ rfl)
  simp only [List.append_nil] at hW'
  obtain ⟨hiN, rfl⟩ := Int.eq_ofNat_of_zero_le a1.1
  obtain ⟨loN, rfl⟩ := Int.eq_ofNat_of_zero_le a2.1
  obtain ⟨yiN, rfl⟩ := Int.eq_ofNat_of_zero_le b1.1
  obtain ⟨yoN, rfl⟩ := Int.eq_ofNat_of_zero_le b2.1
  refine (ptells_law v hiN loN b u yiN yoN e s W (good_of hL hsh) (by have := a1.2; omega) (by have := a2.2; omega) (by have := b1.2; omega) (by have := b2.2; omega) (by rw [← size_list]; exact hk)).mono fun e W' ⟨he, hb⟩ => ?_
  subst he
  exact ⟨_, rfl, _, _, _, [], [], [], hW', trodAll_mk1 (shut_bool Tryz.underlying4 _), trodAll_mk3 (shut_pf v hiN loN b a3 a4 a5) (shut_pf u yiN yoN _ b3 b4 b5) (Go.ChangeMaps.shut_string Tryz.underlying9 hs), rfl, hb.frame _, fun h => by cases h⟩

theorem ptells_holds : Rows.PrefixTellsUptoSaid :=
  OpenClaim.holds_of_cond 3 Tryz.f3 rfl rfl rfl rfl rfl rfl rfl ⟨rfl, rfl, rfl, rfl, rfl⟩ rfl rfl rfl rfl rfl (by kernel_rfl) Tryz.func3 (by kernel_rfl)
    (of_decide_eq_true (by kernel_rfl)) (by unfold Func.isWrapper; first | (rw [if_pos (by decide +kernel)]; kernel_rfl) | (rw [if_neg (by decide +kernel)]; exact ⟨rfl, rfl⟩))
    (fun os started H enc _ F => by rw [OpenClaim.pre_eq_preRow]; exact ptells_lifted os started H enc F)

theorem ptells_card : Rows.PrefixTellsUptoCardSaid :=
  Claim7.holds_tied_plain_at .later [] [.data, .data, .data, .data, .sentinel, .sentinel, .pinned] true Rows.prefixTellsUptoCard.stood.harness true
    ptells_holds (fun _ h => by cases h) (by kernel_rfl) (fun _ h => by cases h) prefixTellsUpto_row_tie rfl ⟨rfl, rfl⟩ (by kernel_rfl) rfl
    (fun f fn hf hfn => by
      obtain rfl : f = 3 := Option.some.inj ((show Tryz.prog.funcNamed "yardarm/yardarmlaw.PrefixTells" = some 3 by kernel_rfl).symm.trans hf) |>.symm
      obtain rfl : fn = Tryz.f3 := (Option.some.inj (Tryz.func3.symm.trans hfn)).symm
      exact ⟨by kernel_rfl, fun j t ht => by
        rw [Tryz.params3] at ht
        rcases j with _ | _ | _ | j
        · obtain rfl : 26 = t := by simpa using ht
          exact (show Tryz.prog.wantsStandIn 26 = false by kernel_rfl)
        · obtain rfl : 26 = t := by simpa using ht
          exact (show Tryz.prog.wantsStandIn 26 = false by kernel_rfl)
        · obtain rfl : 9 = t := by simpa using ht
          exact (show Tryz.prog.wantsStandIn 9 = false by kernel_rfl)
        · simp at ht⟩)
    (by kernel_rfl)
end Go.Proofs.YtollaiabcnmebaaGreatDoor
