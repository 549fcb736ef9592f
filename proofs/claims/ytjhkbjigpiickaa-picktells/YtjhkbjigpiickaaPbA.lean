/- yardarmlaw.pickBegun: the closed part of the laws on room: it is true. -/
import Derived.Test.YtjhkbjigpiickaaPkB
import Derived.Test.YtjhkbjigpiickaaSaA
import Derived.Test.YtjhkbjigpiickaaNetV
set_option linter.unusedVariables false
set_option linter.unusedSimpArgs false
namespace Go.Proofs.Ytjhkbjigpiickaa
open Go.RowKit

def ntP (n b : Int) : Pf := ⟨false, 0, n, b⟩
def pbU : List Pf := [ntP 1 32, ntP 4 31]
def pbM : List Pf := [ntP 0 32, ntP 2 31, ntP 6 31]
theorem ntP_R {n b : Int} (h : 0 ≤ n) (h1 : n < 18446744073709551616) (hp : pchk false 0 n b = 0) : (ntP n b).R := (right_iff false 0 n b (by decide) (by decide) h h1).1 hp
theorem ntP_ok {n b : Int} (h : 0 ≤ n) (h1 : n < 18446744073709551616) : (ntP n b).Ok := ⟨Int.le_refl 0, (by show (0 : Int) < 18446744073709551616; decide), h, h1⟩
theorem pbU_ok : ∀ p ∈ pbU, p.Ok := by
  intro p hp
  simp [pbU] at hp
  rcases hp with rfl | rfl <;> exact ntP_ok (by decide) (by decide)
theorem pbM_R : ∀ p ∈ pbM, p.R := by
  intro p hp
  simp [pbM] at hp
  rcases hp with rfl | rfl | rfl <;> exact ntP_R (by decide) (by decide) (by decide +kernel)
theorem pb29 : (ntP 0 29).R := ntP_R (by decide) (by decide) (by decide +kernel)
theorem pb1 : (ntP 1 32).R := ntP_R (by decide) (by decide) (by decide +kernel)
theorem pb4 : (ntP 4 31).R := ntP_R (by decide) (by decide) (by decide +kernel)
theorem pb_chk : pkE (ntP 0 29) pbU = 0 := by decide +kernel
theorem pb_room : IsRoom (ntP 0 29) pbU pbM := by
  have h := foldP_norm pbM_R (by decide +kernel)
  rw [show foldP pbM = pbM by rfl] at h
  obtain ⟨a1, a2, _⟩ := cutAll_ok pb1 (l := [ntP 0 29]) (fun q hq => by simp at hq; subst hq; exact pb29)
  obtain ⟨_, b2, _⟩ := cutAll_ok pb4 (l := cutAll (ntP 1 32) [ntP 0 29]) a1
  rw [show cutAll (ntP 4 31) (cutAll (ntP 1 32) [ntP 0 29]) = pbM by rfl] at b2
  refine h.of fun v x => ?_
  rw [b2, a2, adr_one', show pbU = [ntP 1 32] ++ [ntP 4 31] by rfl, adr_snoc, adr_one']
  constructor
  · rintro ⟨⟨a, b⟩, c⟩; exact ⟨a, fun h => h.elim b c⟩
  · rintro ⟨a, b⟩; exact ⟨⟨a, fun h => b (.inl h)⟩, fun h => b (.inr h)⟩
theorem pb_31 : wideP 31 pbM = some (ntP 2 31) := by rfl
theorem pb_30 : wideP 30 pbM = none := by rfl
theorem sl_lit2 (w : World) (p q : Pf) : Sl (w.alloc (.cells #[.bool p.v, .int .u64 p.hi, .int .u64 p.lo, .int .i64 p.b, .bool q.v, .int .u64 q.hi, .int .u64 q.lo, .int .i64 q.b] 26)) (some ⟨w.heap.size, 0, none⟩) [p, q] := by
  intro j hj
  refine ⟨_, _, rfl, by simp, ?_⟩
  have : j = 0 ∨ j = 1 := by simp at hj; omega
  rcases this with rfl | rfl
  · simp [go_sem]
  · simp [go_sem]
theorem sl_lit3 (w : World) (p q r : Pf) : Sl (w.alloc (.cells #[.bool p.v, .int .u64 p.hi, .int .u64 p.lo, .int .i64 p.b, .bool q.v, .int .u64 q.hi, .int .u64 q.lo, .int .i64 q.b, .bool r.v, .int .u64 r.hi, .int .u64 r.lo, .int .i64 r.b] 26)) (some ⟨w.heap.size, 0, none⟩) [p, q, r] := by
  intro j hj
  refine ⟨_, _, rfl, by simp, ?_⟩
  have : j = 0 ∨ j = 1 ∨ j = 2 := by simp at hj; omega
  rcases this with rfl | rfl | rfl
  · simp [go_sem]
  · simp [go_sem]
  · simp [go_sem]

theorem keepB {b0 W W' : World} {m : Nat} (h : (W.cell? ⟨m, 0, none⟩ = some (.bool false) ∧ W.cell? ⟨m, 1, none⟩ = some (.int .u64 0) ∧ W.cell? ⟨m, 2, none⟩ = some (.int .u64 2) ∧ W.cell? ⟨m, 3, none⟩ = some (.int .i64 31) ∧ m < W.heap.size) ∧ Below b0.heap.size b0 W) (hb : Below W.heap.size W W') : (W'.cell? ⟨m, 0, none⟩ = some (.bool false) ∧ W'.cell? ⟨m, 1, none⟩ = some (.int .u64 0) ∧ W'.cell? ⟨m, 2, none⟩ = some (.int .u64 2) ∧ W'.cell? ⟨m, 3, none⟩ = some (.int .i64 31) ∧ m < W'.heap.size) ∧ Below b0.heap.size b0 W' :=
  ⟨(show Has4 W m false 0 2 31 from h.1).below hb, btr h.2 hb⟩

set_option maxHeartbeats 16000000 in
set_option maxRecDepth 100000 in
theorem pkbegun_any (w : World) : Calls Try.prog 11 #[] w fun e w' => e = .returned (.bool true) ∧ Below w.heap.size w w' := by
  have hN : Hid (∀ (n b : Int) (w : World), Calls Try.prog 25 #[.int .u64 n, .int .i64 b] w fun e w' => e = .returned (.agg #[.bool false, .int .u64 0, .int .u64 n, .int .i64 b]) ∧ Below w.heap.size w w') := net_any
  have hF : Hid (∀ (g : Nat) (w : World), Sl w (some ⟨g, 0, none⟩) pbU → Calls Try.prog 4 #[.agg #[.bool false, .int .u64 0, .int .u64 0, .int .i64 29], .slice (some ⟨g, 0, none⟩) 2 2] w fun e w' => ∃ a c, e = .returned (.tuple #[.slice a 3 c, .int .i64 0]) ∧ Sl w' a pbM ∧ Below w.heap.size w w') := fun g w h =>
    (pFree_ok (ntP 0 29) (some ⟨g, 0, none⟩) 2 pbU w (ntP_ok (by decide) (by decide)) pbU_ok h pb_chk).mono fun e w' ⟨v, M, he, ho, hn, hb⟩ => by
      have := hn.uniq pb_room
      subst this
      obtain ⟨a, c, rfl, _, hs⟩ := own_sl ho
      exact ⟨a, c, he, hs, hb⟩
  have h1 : Hid (∀ (g : Nat) (w : World), Sl w (some ⟨g, 0, none⟩) pbU → Calls Try.prog 5 #[.agg #[.bool false, .int .u64 0, .int .u64 0, .int .i64 29], .slice (some ⟨g, 0, none⟩) 2 2, .int .i64 31] w fun e w' => e = .returned (.tuple #[.agg #[.bool false, .int .u64 0, .int .u64 2, .int .i64 31], .int .i64 0]) ∧ Below w.heap.size w w') := fun g w h =>
    (pFirst_ok (ntP 0 29) (some ⟨g, 0, none⟩) 2 pbU 31 w (ntP_ok (by decide) (by decide)) pbU_ok h pb_chk (by decide) (by decide)).mono fun e w' ⟨M, hn, hb, hx⟩ => by
      have := hn.uniq pb_room
      subst this
      rw [pb_31] at hx
      rcases hx with ⟨h, _⟩ | ⟨x, h, he⟩
      · exact absurd h (by simp)
      · injection h with h; subst h; exact ⟨he, hb⟩
  have h2 : Hid (∀ (g : Nat) (w : World), Sl w (some ⟨g, 0, none⟩) pbU → Calls Try.prog 5 #[.agg #[.bool false, .int .u64 0, .int .u64 0, .int .i64 29], .slice (some ⟨g, 0, none⟩) 2 2, .int .i64 30] w fun e w' => e = .returned (.tuple #[.agg #[.bool false, .int .u64 0, .int .u64 0, .int .i64 0], .int .i64 8]) ∧ Below w.heap.size w w') := fun g w h =>
    (pFirst_ok (ntP 0 29) (some ⟨g, 0, none⟩) 2 pbU 30 w (ntP_ok (by decide) (by decide)) pbU_ok h pb_chk (by decide) (by decide)).mono fun e w' ⟨M, hn, hb, hx⟩ => by
      have := hn.uniq pb_room
      subst this
      rw [pb_30] at hx
      rcases hx with ⟨_, he⟩ | ⟨x, h, he⟩
      · exact ⟨he, hb⟩
      · exact absurd h (by simp)
  have hS : Hid (∀ (a b : Option Addr) (c d : Nat) (w : World), Sl w a pbM → Sl w b pbM → Calls Try.prog 26 #[.slice a 3 c, .slice b 3 d] w fun e w' => e = .returned (.bool true) ∧ Below w.heap.size w w') := fun a b c d w h1 h2 => same_any a b c d pbM w (by decide) h1 h2
  go_enter Try.func11, Try.ntmps11
  go_wp2_with fail
  refine (hN.out _ _ _).mono ?_
  rintro e w1 ⟨rfl, b1⟩
  go_wp2_with fail
  refine (hN.out _ _ _).mono ?_
  rintro e w2 ⟨rfl, b2⟩
  go_wp2_with fail
  refine (hN.out _ _ _).mono ?_
  rintro e w3 ⟨rfl, b3⟩
  have HB := Lib.hid (btr (btr b1 b2) b3)
  clear b1 b2 b3
  go_wp2_with fail
  refine (hF.out _ _ (sl_lit2 w3 (ntP 1 32) (ntP 4 31))).mono ?_
  rintro e w4 ⟨a4, c4, rfl, s4, b4⟩
  replace HB := Lib.hid (btr (bal HB.out _) b4)
  have HL := Lib.hid s4
  clear s4 b4 hF
  go_wp2_with fail
  refine (hN.out _ _ _).mono ?_
  rintro e w5 ⟨rfl, hb⟩
  replace HB := Lib.hid (btr HB.out hb)
  replace HL := Lib.hid (HL.out.below hb)
  clear hb
  go_wp2_with fail
  refine (hN.out _ _ _).mono ?_
  rintro e w6 ⟨rfl, hb⟩
  replace HB := Lib.hid (btr HB.out hb)
  replace HL := Lib.hid (HL.out.below hb)
  clear hb
  go_wp2_with fail
  refine (hN.out _ _ _).mono ?_
  rintro e w7 ⟨rfl, hb⟩
  replace HB := Lib.hid (btr HB.out hb)
  replace HL := Lib.hid (HL.out.below hb)
  clear hb
  go_wp2_with fail
  refine (h1.out _ _ (sl_lit2 w7 (ntP 1 32) (ntP 4 31))).mono ?_
  rintro e w8 ⟨rfl, hb⟩
  replace HB := Lib.hid (bal (btr (bal HB.out _) hb) (.cells #[.bool false, .int .u64 0, .int .u64 2, .int .i64 31] 26))
  replace HL := Lib.hid (((HL.out.below (bal (Below.refl _ _) _)).below hb).below (bal (Below.refl _ _) (.cells #[.bool false, .int .u64 0, .int .u64 2, .int .i64 31] 26)))
  have HP := Lib.hid (Has4.new w8 false 0 2 31 26)
  clear hb h1
  go_wp2_with fail
  generalize w8.heap.size = pb at *
  generalize w8.alloc (.cells #[.bool false, .int .u64 0, .int .u64 2, .int .i64 31] 26) = w8 at *
  refine (hN.out _ _ _).mono ?_
  rintro e w9 ⟨rfl, hb⟩
  replace HB := Lib.hid (btr HB.out hb)
  replace HL := Lib.hid (HL.out.below hb)
  replace HP := Lib.hid (HP.out.below hb)
  clear hb
  go_wp2_with fail
  refine (hN.out _ _ _).mono ?_
  rintro e w10 ⟨rfl, hb⟩
  replace HB := Lib.hid (btr HB.out hb)
  replace HL := Lib.hid (HL.out.below hb)
  replace HP := Lib.hid (HP.out.below hb)
  clear hb
  go_wp2_with fail
  refine (hN.out _ _ _).mono ?_
  rintro e w11 ⟨rfl, hb⟩
  replace HB := Lib.hid (btr HB.out hb)
  replace HL := Lib.hid (HL.out.below hb)
  replace HP := Lib.hid (HP.out.below hb)
  clear hb
  go_wp2_with fail
  refine (h2.out _ _ (sl_lit2 w11 (ntP 1 32) (ntP 4 31))).mono ?_
  rintro e w12 ⟨rfl, hb⟩
  replace HB := Lib.hid (btr (bal HB.out _) hb)
  replace HL := Lib.hid ((HL.out.below (bal (Below.refl _ _) _)).below hb)
  replace HP := Lib.hid ((HP.out.alloc _).below hb)
  clear hb h2
  have hS2 : Hid (∀ W : World, ((W.cell? ⟨pb, 0, none⟩ = some (.bool false) ∧ W.cell? ⟨pb, 1, none⟩ = some (.int .u64 0) ∧ W.cell? ⟨pb, 2, none⟩ = some (.int .u64 2) ∧ W.cell? ⟨pb, 3, none⟩ = some (.int .i64 31) ∧ pb < W.heap.size) ∧ Below w12.heap.size w12 W) → Calls Try.prog 26 #[.slice a4 3 c4, .slice (some ⟨W.heap.size, 0, none⟩) 3 3] (W.alloc (.cells #[.bool false, .int .u64 0, .int .u64 0, .int .i64 32, .bool false, .int .u64 0, .int .u64 2, .int .i64 31, .bool false, .int .u64 0, .int .u64 6, .int .i64 31] 26)) fun e w' => e = .returned (.bool true) ∧ Below W.heap.size W w') := fun W h =>
    (hS.out a4 (some ⟨W.heap.size, 0, none⟩) c4 3 _ (HL.out.below (bal h.2 _)) (sl_lit3 W (ntP 0 32) (ntP 2 31) (ntP 6 31))).mono fun e w' ⟨h1, h2⟩ => ⟨h1, btr (bal (Below.refl _ _) _) h2⟩
  have HSd : Hid (((w12.alloc (.cells #[.bool false, .int .u64 0, .int .u64 0, .int .i64 0] 26)).drew.cell? ⟨pb, 0, none⟩ = some (.bool false) ∧ (w12.alloc (.cells #[.bool false, .int .u64 0, .int .u64 0, .int .i64 0] 26)).drew.cell? ⟨pb, 1, none⟩ = some (.int .u64 0) ∧ (w12.alloc (.cells #[.bool false, .int .u64 0, .int .u64 0, .int .i64 0] 26)).drew.cell? ⟨pb, 2, none⟩ = some (.int .u64 2) ∧ (w12.alloc (.cells #[.bool false, .int .u64 0, .int .u64 0, .int .i64 0] 26)).drew.cell? ⟨pb, 3, none⟩ = some (.int .i64 31) ∧ pb < (w12.alloc (.cells #[.bool false, .int .u64 0, .int .u64 0, .int .i64 0] 26)).drew.heap.size) ∧ Below w12.heap.size w12 (w12.alloc (.cells #[.bool false, .int .u64 0, .int .u64 0, .int .i64 0] 26)).drew) := ⟨HP.out.alloc _, (bal (Below.refl _ _) _).drew⟩
  clear HP HL hS
  go_wp2_with fail
  go_region_held3 (fun w' => (w'.cell? ⟨pb, 0, none⟩ = some (.bool false) ∧ w'.cell? ⟨pb, 1, none⟩ = some (.int .u64 0) ∧ w'.cell? ⟨pb, 2, none⟩ = some (.int .u64 2) ∧ w'.cell? ⟨pb, 3, none⟩ = some (.int .i64 31) ∧ pb < w'.heap.size) ∧ Below w12.heap.size w12 w')
    (first | with_reducible exact HSd.out | exact keepB HSd.out (bal (Below.refl _ _) _))
    (first
      | (go_at_call 25; refine (hN.out _ _ _).mono ?_; rintro e wx ⟨rfl, hb⟩; replace HSd := Lib.hid (keepB HSd.out hb); clear hb)
      | (go_at_call 26; refine (hS2.out _ HSd.out).mono ?_; rintro e wx ⟨rfl, hb⟩; replace HSd := Lib.hid (keepB HSd.out hb); clear hb))
  have HBz : Hid (Below w.heap.size w wx) := HB.out.trans (below_le HSd.out.2 HB.out.size)
  clear HSd HB hS2 hN
  go_wp2
  go_ret
  exact ⟨rfl, HBz.out⟩
end Go.Proofs.Ytjhkbjigpiickaa
