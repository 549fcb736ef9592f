/- The document's addresses, prefixes, names and pools. -/
import Derived.Test.YtclnfkohlklbpaaFsB
import Derived.Test.YtclnfkohlklbpaaFsA
set_option linter.unusedVariables false
set_option linter.unusedSimpArgs false
namespace Go.Proofs.Ytclnfkohlklbpaa
open Go.RowKit Go.Shelf

set_option maxHeartbeats 8000000 in
theorem rwho_any (s : ByteArray) (w : World) (hs : s.size ≤ maxLen) : Calls Try.prog 25 #[.string s] w fun e w' => e = .returned (.bool (whoB s)) ∧ w' = w := by
  unfold maxLen at hs
  obtain ⟨R, hR⟩ : ∃ R, R = whoB s := ⟨_, rfl⟩
  rw [← hR]
  have HR := Lib.hid hR
  clear hR
  have HBt : Hid (∀ (n a b : Int) (w : World), Calls Try.prog 15 #[.int .i64 n, .int .i64 a, .int .i64 b] w fun e w' => e = .returned (.bool (decide (a ≤ n) && decide (n ≤ b))) ∧ w' = w) := between_any
  go_enter Try.func25, Try.ntmps25
  go_wp2
  go_loop [3] (fun i => ∃ k : Nat, i = .int .i64 k ∧ k ≤ s.size ∧ Hid ((s.data.toList.take k).all whoC = true)) (fun i => s.size - (intOf i).toNat)
  case atStart => exact ⟨0, rfl, Nat.zero_le _, by simp [Hid]⟩
  case round =>
    obtain ⟨k, rfl, hk, hh⟩ := hrel
    by_cases hlt : k < s.size
    · have hltz : (k : Int) < (s.size : Int) := by omega
      have hsn := who_snoc s k hlt
      rw [hh.out, Bool.true_and] at hsn
      have HS : Hid ((s.data.toList.take (k + 1)).all whoC = whoC s[k]) := hsn
      have HBad : Hid (whoC s[k] = false → R = false) := fun h => by rw [HR.out, whoB, who_bad s k hlt h]; simp
      have HW : Hid (whoC s[k] = ((decide ((97 : Int) ≤ (s[k].toNat : Int)) && decide ((s[k].toNat : Int) ≤ 122)) || (decide ((48 : Int) ≤ (s[k].toNat : Int)) && decide ((s[k].toNat : Int) ≤ 57)))) := by
        show whoC s[k] = _
        unfold whoC
        congr 1 <;> congr 1 <;> exact decide_eq_decide.2 (by omega)
      clear hsn hh
      obtain ⟨bw, hbw⟩ : ∃ bw : Int → Int → Bool, bw = fun a b => decide (a ≤ (s[k].toNat : Int)) && decide ((s[k].toNat : Int) ≤ b) := ⟨_, rfl⟩
      have HB2 : Hid (∀ (a b : Int) (w : World), Calls Try.prog 15 #[.int .i64 (wrap64 (s[k].toNat : Int)), .int .i64 a, .int .i64 b] w fun e w' => e = .returned (.bool (bw a b)) ∧ w' = w) := fun a b w => by
        have hx : wrap64 (s[k].toNat : Int) = (s[k].toNat : Int) := by have := s[k].toNat_lt; unfold wrap64; omega
        rw [hbw, hx]; exact between_any _ a b w
      have HW2 : Hid (whoC s[k] = (bw 97 122 || bw 48 57)) := by rw [Hid, HW.out, hbw]
      clear hbw HW
      cases h1 : bw 97 122
      · cases h2 : bw 48 57
        · have H1 := Lib.hid h1
          have H2 := Lib.hid h2
          go_wp2_with (go_at_call 15; refine (HB2.out _ _ _).mono ?_; rintro e w' ⟨rfl, rfl⟩)
          go_ret
          exact ⟨congrArg (fun r => Ending.returned (Value.bool r)) (HBad.out (by rw [HW2.out, H1.out, H2.out]; rfl)).symm, rfl⟩
        · have H1 := Lib.hid h1
          have H2 := Lib.hid h2
          go_wp2_with (go_at_call 15; refine (HB2.out _ _ _).mono ?_; rintro e w' ⟨rfl, rfl⟩)
          go_round
          case rel => exact ⟨k + 1, by go_num, by omega, by rw [Hid, HS.out, HW2.out, H1.out, H2.out]; rfl⟩
          case measure => simp [intOf]; omega
      · have H1 := Lib.hid h1
        have H2 : Hid (bw 48 57 = bw 48 57) := rfl
        go_wp2_with (go_at_call 15; refine (HB2.out _ _ _).mono ?_; rintro e w' ⟨rfl, rfl⟩)
        go_round
        case rel => exact ⟨k + 1, by go_num, by omega, by rw [Hid, HS.out, HW2.out, H1.out]; rfl⟩
        case measure => simp [intOf]; omega
    · have hltz : ¬ (k : Int) < (s.size : Int) := by omega
      have hd := hh.out
      rw [List.take_of_length_le (by simp; omega)] at hd
      have HD : Hid _ := hd
      clear hd hh
      have HB3 : Hid (∀ w : World, Calls Try.prog 15 #[.int .i64 (s.size : Int), .int .i64 1, .int .i64 8] w fun e w' => e = .returned (.bool R) ∧ w' = w) := fun w => by
        have e : R = (decide ((1 : Int) ≤ (s.size : Int)) && decide ((s.size : Int) ≤ 8)) := by
          rw [HR.out, whoB, HD.out, Bool.and_true]
          congr 1 <;> exact decide_eq_decide.2 (by omega)
        rw [e]
        exact between_any _ 1 8 w
      go_wp2_with (go_at_call 15; refine (HB3.out _).mono ?_; rintro e w' ⟨rfl, rfl⟩)
      go_ret
      exact ⟨rfl, rfl⟩

theorem text_eq (a b : ByteArray) : (a.toList == b.toList) = decide (a = b) := by
  have h : ∀ x : ByteArray, x.toList = x.data.toList := fun x => ByteArray.toList_eq x
  rw [h, h, Bool.eq_iff_iff]
  simp only [beq_iff_eq, decide_eq_true_eq]
  exact ⟨fun e => bytes_same e, fun e => by rw [e]⟩
end Go.Proofs.Ytclnfkohlklbpaa

namespace Go.Proofs.Ytclnfkohlklbpaa
open Go.RowKit Go.Shelf

theorem rgt_chk {x : Ls} (h : x.rgt = 0) : chk x.a.v x.a.hi x.a.lo = 0 := by
  unfold Ls.rgt at h
  by_cases h1 : chk x.a.v x.a.hi x.a.lo = 0
  · exact h1
  · rw [if_neg h1] at h; exact absurd h h1

end Go.Proofs.Ytclnfkohlklbpaa

namespace Go.Proofs.Ytclnfkohlklbpaa
open Go.RowKit Go.Shelf

theorem live_snoc (l : List Ls) (now : Int) (k : Nat) (h : k < l.length) : live (l.take (k + 1)) now = if now ≤ l[k].un then live (l.take k) now ++ [l[k]] else live (l.take k) now := by
  rw [List.take_succ_eq_append_getElem h]
  unfold live
  rw [List.filter_append]
  by_cases hu : now ≤ l[k].un
  · rw [if_pos hu]
    simp
    omega
  · rw [if_neg hu]
    simp
    omega

theorem Ls.same {x y : Ls} (h0 : x.a = y.a) (h1 : x.who = y.who) (h2 : x.un = y.un) : x = y := by
  cases x; cases y; simp at h0 h1 h2; subst h0; subst h1; subst h2; rfl
/-- Are two leases the same? -/
def eqL (x y : Ls) : Bool := (x.a.v == y.a.v) && ((x.a.hi == y.a.hi) && ((x.a.lo == y.a.lo) && ((x.who.toList == y.who.toList) && (x.un == y.un))))
theorem eqL_iff (x y : Ls) : eqL x y = true ↔ x = y := by
  unfold eqL
  simp only [Bool.and_eq_true, beq_iff_eq]
  constructor
  · rintro ⟨a, b, c, d, e⟩
    refine Ls.same (Ad.same a b c) ?_ e
    have := text_eq x.who y.who
    rw [d] at this
    simpa using this
  · rintro rfl
    exact ⟨rfl, rfl, rfl, rfl, rfl⟩
/-- Are two lists of leases the same? -/
def sameL : List Ls → List Ls → Bool
  | [], [] => true
  | x :: l, y :: r => eqL x y && sameL l r
  | _, _ => false
theorem sameL_iff : ∀ l r : List Ls, sameL l r = true ↔ l = r
  | [], [] => by simp [sameL]
  | [], y :: r => by simp [sameL]
  | x :: l, [] => by simp [sameL]
  | x :: l, y :: r => by
    rw [sameL, Bool.and_eq_true, eqL_iff, sameL_iff l r]
    simp
theorem sameL_len {l r : List Ls} (h : ¬ l.length = r.length) : sameL l r = false := by
  rw [Bool.eq_false_iff, ne_eq, sameL_iff]
  intro e
  exact h (by rw [e])
theorem keep55 {W W' : World} {g o g' o' : Nat} {x0 x1 x2 x3 x4 y0 y1 y2 y3 y4 : Value}
    (h : (W.cell? ⟨g, o, none⟩ = some x0 ∧ W.cell? ⟨g, o + 1, none⟩ = some x1 ∧ W.cell? ⟨g, o + 2, none⟩ = some x2 ∧ W.cell? ⟨g, o + 3, none⟩ = some x3 ∧ W.cell? ⟨g, o + 4, none⟩ = some x4) ∧ (W.cell? ⟨g', o', none⟩ = some y0 ∧ W.cell? ⟨g', o' + 1, none⟩ = some y1 ∧ W.cell? ⟨g', o' + 2, none⟩ = some y2 ∧ W.cell? ⟨g', o' + 3, none⟩ = some y3 ∧ W.cell? ⟨g', o' + 4, none⟩ = some y4)) (e : W' = W.drew) :
    (W'.cell? ⟨g, o, none⟩ = some x0 ∧ W'.cell? ⟨g, o + 1, none⟩ = some x1 ∧ W'.cell? ⟨g, o + 2, none⟩ = some x2 ∧ W'.cell? ⟨g, o + 3, none⟩ = some x3 ∧ W'.cell? ⟨g, o + 4, none⟩ = some x4) ∧ (W'.cell? ⟨g', o', none⟩ = some y0 ∧ W'.cell? ⟨g', o' + 1, none⟩ = some y1 ∧ W'.cell? ⟨g', o' + 2, none⟩ = some y2 ∧ W'.cell? ⟨g', o' + 3, none⟩ = some y3 ∧ W'.cell? ⟨g', o' + 4, none⟩ = some y4) := by
  subst e
  exact h

end Go.Proofs.Ytclnfkohlklbpaa

namespace Go.Proofs.Ytclnfkohlklbpaa
open Go.RowKit Go.Shelf

/-- Are two addresses the same? -/
def eqAd (x y : Ad) : Bool := (x.v == y.v) && ((x.hi == y.hi) && (x.lo == y.lo))
theorem eqAd_iff (x y : Ad) : eqAd x y = true ↔ x = y := by
  unfold eqAd
  simp only [Bool.and_eq_true, beq_iff_eq]
  constructor
  · rintro ⟨a, b, c⟩; exact Ad.same a b c
  · rintro rfl; exact ⟨rfl, rfl, rfl⟩
theorem eql_ad (w : World) (x y : Ad) : (binOp .eql 38 (.agg #[.bool x.v, .int .u64 x.hi, .int .u64 x.lo]) (.agg #[.bool y.v, .int .u64 y.hi, .int .u64 y.lo])).run Try.prog w = .ok (.bool (eqAd x y)) w := by
  unfold eqAd
  generalize x.v = v
  generalize x.hi = hi
  generalize x.lo = lo
  generalize y.v = v'
  generalize y.hi = hi'
  generalize y.lo = lo'
  cases h1 : v == v' <;> cases h2 : hi == hi' <;> cases h3 : lo == lo' <;> simp [go_sem, h1, h2, h3]
theorem keep3b {w W W' : World} {g o q : Nat} {x0 x1 x2 y0 y1 y2 : Value}
    (h : (W.cell? ⟨g, o, none⟩ = some x0 ∧ W.cell? ⟨g, o + 1, none⟩ = some x1 ∧ W.cell? ⟨g, o + 2, none⟩ = some x2) ∧ (W.cell? ⟨q, 0, none⟩ = some y0 ∧ W.cell? ⟨q, 1, none⟩ = some y1 ∧ W.cell? ⟨q, 2, none⟩ = some y2)) (e : W' = W.drew) :
    (W'.cell? ⟨g, o, none⟩ = some x0 ∧ W'.cell? ⟨g, o + 1, none⟩ = some x1 ∧ W'.cell? ⟨g, o + 2, none⟩ = some x2) ∧ (W'.cell? ⟨q, 0, none⟩ = some y0 ∧ W'.cell? ⟨q, 1, none⟩ = some y1 ∧ W'.cell? ⟨q, 2, none⟩ = some y2) := by
  subst e
  exact h

end Go.Proofs.Ytclnfkohlklbpaa

namespace Go.Proofs.Ytclnfkohlklbpaa
open Go.RowKit Go.Shelf

theorem keepN4 {w W W' : World} {q : Nat} {y0 y1 y2 y3 : Value}
    (h : (W.cell? ⟨q, 0, none⟩ = some y0 ∧ W.cell? ⟨q, 1, none⟩ = some y1 ∧ W.cell? ⟨q, 2, none⟩ = some y2 ∧ W.cell? ⟨q, 3, none⟩ = some y3 ∧ q < W.heap.size) ∧ Below w.heap.size w W) (hb : Below W.heap.size W W') :
    (W'.cell? ⟨q, 0, none⟩ = some y0 ∧ W'.cell? ⟨q, 1, none⟩ = some y1 ∧ W'.cell? ⟨q, 2, none⟩ = some y2 ∧ W'.cell? ⟨q, 3, none⟩ = some y3 ∧ q < W'.heap.size) ∧ Below w.heap.size w W' := by
  obtain ⟨⟨a, b, c, d, e⟩, hw⟩ := h
  have k := (bcell hb).1
  exact ⟨⟨by rw [k _ _ e]; exact a, by rw [k _ _ e]; exact b, by rw [k _ _ e]; exact c, by rw [k _ _ e]; exact d, Nat.lt_of_lt_of_le e hb.size⟩, btr hw hb⟩
set_option maxHeartbeats 8000000 in
theorem narrow_any (v : Bool) (hi lo b : Int) (w : World) (b0 : 0 ≤ b) (b1 : b ≤ wid v) :
    Calls Try.prog 23 #[.agg #[.bool v, .int .u64 hi, .int .u64 lo, .int .i64 b]] w fun e w' => e = .returned (.bool (!wideB v b)) ∧ Below w.heap.size w w' := by
  have hW : Hid (∀ w : World, Calls Try.prog 28 #[.agg #[.bool v, .int .u64 hi, .int .u64 lo]] w fun e w' => e = .returned (.int .i64 (wid v)) ∧ Below w.heap.size w w') := fun w => rwide_any v hi lo w
  have hw : wid v ≤ 128 := by unfold wid; split <;> omega
  have HE : Hid ((!wideB v b) = decide (wid v - b ≤ 4)) := by
    unfold wideB
    rw [Hid, ← decide_not]
    exact decide_eq_decide.2 (by omega)
  generalize (!wideB v b) = R at *
  generalize wid v = W at *
  have hwr : IntKind.i64.wrap (W - b) = W - b := by rw [IntKind.wrap_i64]; omega
  have HSd := Lib.hid (keepN4 (w := w) ⟨Has4.new w v hi lo b 40, bal (Below.refl w.heap.size w) _⟩ (Below.refl _ _).drew)
  go_enter Try.func23, Try.ntmps23
  go_wp2_with fail
  go_region_held3 (fun w' => (w'.cell? ⟨w.heap.size, 0, none⟩ = some (.bool v) ∧ w'.cell? ⟨w.heap.size, 1, none⟩ = some (.int .u64 hi) ∧ w'.cell? ⟨w.heap.size, 2, none⟩ = some (.int .u64 lo) ∧ w'.cell? ⟨w.heap.size, 3, none⟩ = some (.int .i64 b) ∧ w.heap.size < w'.heap.size) ∧ Below w.heap.size w w')
    (first | with_reducible exact HSd.out | with_reducible exact HSe.out | fail)
    ((go_at_call 28; refine (hW.out _).mono ?_; rintro e wx ⟨rfl, hb⟩; have HSe := Lib.hid (keepN4 HSd.out hb); clear hb))
  have HB2 := Lib.hid HSe.out.2
  clear HSe HSd
  go_wp2_with fail
  go_ret
  exact ⟨congrArg (fun r => Ending.returned (Value.bool r)) HE.out.symm, HB2.out⟩
theorem keepC5 {w W W' : World} {pb g o : Nat} {y0 y1 y2 y3 y4 x0 x1 x2 : Value}
    (h : (W.cell? ⟨pb, 0, none⟩ = some y0 ∧ W.cell? ⟨pb, 1, none⟩ = some y1 ∧ W.cell? ⟨pb, 2, none⟩ = some y2 ∧ W.cell? ⟨pb, 3, none⟩ = some y3 ∧ W.cell? ⟨pb, 4, none⟩ = some y4 ∧ pb < W.heap.size) ∧ (W.cell? ⟨g, o, none⟩ = some x0 ∧ W.cell? ⟨g, o + 1, none⟩ = some x1 ∧ W.cell? ⟨g, o + 2, none⟩ = some x2 ∧ g < W.heap.size) ∧ Below w.heap.size w W) (hb : Below W.heap.size W W') :
    (W'.cell? ⟨pb, 0, none⟩ = some y0 ∧ W'.cell? ⟨pb, 1, none⟩ = some y1 ∧ W'.cell? ⟨pb, 2, none⟩ = some y2 ∧ W'.cell? ⟨pb, 3, none⟩ = some y3 ∧ W'.cell? ⟨pb, 4, none⟩ = some y4 ∧ pb < W'.heap.size) ∧ (W'.cell? ⟨g, o, none⟩ = some x0 ∧ W'.cell? ⟨g, o + 1, none⟩ = some x1 ∧ W'.cell? ⟨g, o + 2, none⟩ = some x2 ∧ g < W'.heap.size) ∧ Below w.heap.size w W' := by
  obtain ⟨h1, ⟨b0, b1, b2, b3⟩, hw⟩ := h
  have k := (bcell hb).1
  exact ⟨Has5.below h1 hb, ⟨by rw [k _ _ b3]; exact b0, by rw [k _ _ b3]; exact b1, by rw [k _ _ b3]; exact b2, Nat.lt_of_lt_of_le b3 hb.size⟩, btr hw hb⟩
theorem keepC6 {w W W' : World} {pb g o g' o' : Nat} {y0 y1 y2 y3 y4 x0 x1 x2 z0 z1 z2 : Value}
    (h : (W.cell? ⟨pb, 0, none⟩ = some y0 ∧ W.cell? ⟨pb, 1, none⟩ = some y1 ∧ W.cell? ⟨pb, 2, none⟩ = some y2 ∧ W.cell? ⟨pb, 3, none⟩ = some y3 ∧ W.cell? ⟨pb, 4, none⟩ = some y4 ∧ pb < W.heap.size) ∧ ((W.cell? ⟨g, o, none⟩ = some x0 ∧ W.cell? ⟨g, o + 1, none⟩ = some x1 ∧ W.cell? ⟨g, o + 2, none⟩ = some x2 ∧ g < W.heap.size) ∧ (W.cell? ⟨g', o', none⟩ = some z0 ∧ W.cell? ⟨g', o' + 1, none⟩ = some z1 ∧ W.cell? ⟨g', o' + 2, none⟩ = some z2 ∧ g' < W.heap.size)) ∧ Below w.heap.size w W) (hb : Below W.heap.size W W') :
    (W'.cell? ⟨pb, 0, none⟩ = some y0 ∧ W'.cell? ⟨pb, 1, none⟩ = some y1 ∧ W'.cell? ⟨pb, 2, none⟩ = some y2 ∧ W'.cell? ⟨pb, 3, none⟩ = some y3 ∧ W'.cell? ⟨pb, 4, none⟩ = some y4 ∧ pb < W'.heap.size) ∧ ((W'.cell? ⟨g, o, none⟩ = some x0 ∧ W'.cell? ⟨g, o + 1, none⟩ = some x1 ∧ W'.cell? ⟨g, o + 2, none⟩ = some x2 ∧ g < W'.heap.size) ∧ (W'.cell? ⟨g', o', none⟩ = some z0 ∧ W'.cell? ⟨g', o' + 1, none⟩ = some z1 ∧ W'.cell? ⟨g', o' + 2, none⟩ = some z2 ∧ g' < W'.heap.size)) ∧ Below w.heap.size w W' := by
  obtain ⟨h1, ⟨h2, h3⟩, hw⟩ := h
  have A := keepC5 ⟨h1, h2, hw⟩ hb
  have B := keepC5 ⟨h1, h3, hw⟩ hb
  exact ⟨A.1, ⟨A.2.1, B.2.1⟩, A.2.2⟩

end Go.Proofs.Ytclnfkohlklbpaa
