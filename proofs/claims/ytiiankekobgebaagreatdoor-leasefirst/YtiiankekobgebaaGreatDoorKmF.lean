/- LeaseFirst: its walk where nothing is asked. -/
import Derived.Test.YtiiankekobgebaaGreatDoorKmE
import Derived.Test.YtiiankekobgebaaGreatDoorKmH
import Derived.Test.YtiiankekobgebaaGreatDoorBegun
import Derived.Deep.Cut
set_option linter.unusedVariables false
set_option linter.unusedSimpArgs false
namespace Go.Proofs.YtiiankekobgebaaGreatDoor
open Go.RowKit Go.Shelf

theorem keepQ {w W W' : World} {q : Nat} {y0 y1 y2 y3 : Value} (h : (W.cell? ⟨q, 0, none⟩ = some y0 ∧ W.cell? ⟨q, 1, none⟩ = some y1 ∧ W.cell? ⟨q, 2, none⟩ = some y2 ∧ W.cell? ⟨q, 3, none⟩ = some y3 ∧ q < w.heap.size) ∧ Below w.heap.size w W) (hb : Below w.heap.size W W') :
    (W'.cell? ⟨q, 0, none⟩ = some y0 ∧ W'.cell? ⟨q, 1, none⟩ = some y1 ∧ W'.cell? ⟨q, 2, none⟩ = some y2 ∧ W'.cell? ⟨q, 3, none⟩ = some y3 ∧ q < w.heap.size) ∧ Below w.heap.size w W' := by
  obtain ⟨⟨a, b, c, d, e⟩, n⟩ := h
  exact ⟨⟨by rw [hb.cell (p := ⟨q, 0, none⟩) e]; exact a, by rw [hb.cell (p := ⟨q, 1, none⟩) e]; exact b, by rw [hb.cell (p := ⟨q, 2, none⟩) e]; exact c, by rw [hb.cell (p := ⟨q, 3, none⟩) e]; exact d, e⟩, n.trans hb⟩
theorem put3_below {B : Nat} {W : World} {b : Nat} (hb : B ≤ b) (u0 u1 u2 : Value) : Below B W (((W.setCell ⟨b, 0, none⟩ u0).setCell ⟨b, 1, none⟩ u1).setCell ⟨b, 2, none⟩ u2) :=
  (((Below.refl B W).setCell (p := ⟨b, 0, none⟩) hb _).setCell (p := ⟨b, 1, none⟩) hb _).setCell (p := ⟨b, 2, none⟩) hb _
theorem al_below {B : Nat} {W W' : World} (h : Below B W W') (hB : B ≤ W'.heap.size) (o : Obj) : Below B W (W'.alloc o) := h.alloc hB o
theorem lastOf_pf {p : Pf} (r : p.R) (w : World) : Calls Tryz.prog 13 #[.agg #[.bool p.v, .int .u64 p.hi, .int .u64 p.lo, .int .i64 p.b]] w fun e w' => e = .returned (.agg #[.bool (adK p (p.many - 1)).v, .int .u64 (adK p (p.many - 1)).hi, .int .u64 (adK p (p.many - 1)).lo]) ∧ Below w.heap.size w w' := by
  have hl := last_ad r
  have h1 := Pf.many_amt (p := p)
  have h2 := many_pos p
  have e : adK p (p.many - 1) = adOf p.v (p.n + amt p.v p.b - 1) := by
    unfold adK
    rw [show p.n + ((p.many - 1 : Nat) : Int) = p.n + amt p.v p.b - 1 by omega]
  rw [e, hl.1, hl.2]
  show Calls Tryz.prog 13 _ w fun e w' => e = .returned (.agg #[.bool p.v, .int .u64 (laH p.v p.hi p.b), .int .u64 (laL p.v p.lo p.b)]) ∧ Below w.heap.size w w'
  clear hl e h1 h2
  obtain ⟨v, hi, lo, b⟩ := p
  have r' : Right v hi lo b := (right_iff v hi lo b r.h0 r.h1 r.l0 r.l1).1 ((right_iff v hi lo b r.h0 r.h1 r.l0 r.l1).2 r)
  simp only at *
  obtain ⟨x, rfl⟩ := Int.eq_ofNat_of_zero_le r.h0
  obtain ⟨y, rfl⟩ := Int.eq_ofNat_of_zero_le r.l0
  obtain ⟨z, rfl⟩ := Int.eq_ofNat_of_zero_le r.b0
  exact lastOf_any v x y z w r'
/-- Is an address busy? -/
theorem busy_any (kept : List Ad) (l : List Ls) (now : Int) (x : Ad) (h : freeA kept (live l now) x = false) : (l.any (fun y => eqAd y.a x && decide (now ≤ y.un)) || kept.any (fun y => eqAd y x)) = true := by
  unfold freeA at h
  have e1 : kept.any (sameA x) = kept.any (fun y => eqAd y x) := by
    congr 1
    funext y
    rw [Bool.eq_iff_iff, eqAd_iff, sameA_iff]
    exact ⟨fun h => h.symm, fun h => h.symm⟩
  have e2 : (live l now).any (fun y => sameA y.a x) = l.any (fun y => eqAd y.a x && decide (now ≤ y.un)) := by
    rw [Bool.eq_iff_iff, List.any_eq_true, List.any_eq_true]
    constructor
    · rintro ⟨y, hy, hs⟩
      exact ⟨y, live_sub hy, by rw [(eqAd_iff _ _).2 ((sameA_iff _ _).1 hs), decide_eq_true (live_un hy)]; rfl⟩
    · rintro ⟨y, hy, hs⟩
      rw [Bool.and_eq_true, eqAd_iff, decide_eq_true_eq] at hs
      exact ⟨y, List.mem_filter.2 ⟨hy, by simp; omega⟩, (sameA_iff _ _).2 hs.1⟩
  rw [e1, e2] at h
  cases h1 : l.any (fun y => eqAd y.a x && decide (now ≤ y.un)) <;> cases h2 : kept.any (fun y => eqAd y x) <;> simp [h1, h2] at h ⊢

set_option maxHeartbeats 16000000 in
set_option maxRecDepth 100000 in
theorem lf_chk (p : Pf) (hp : p.Ok) (ka : Option Addr) (kc : Nat) (kept : List Ad) (a : Option Addr) (c : Nat) (l : List Ls) (who : ByteArray) (now : Int) (w : World) (hg : Good w) (hk : Lies adE w ka kept) (hs : Lies lsE w a l) (hwho : who.size ≤ maxLen) (hv : ¬ checkE p kept l now = 0) :
    Calls Tryz.prog 4 #[.agg #[.bool p.v, .int .u64 p.hi, .int .u64 p.lo, .int .i64 p.b, .slice ka kept.length kc], .slice a l.length c, .string who, .int .i64 now] w fun e w' => e = .returned (.bool true) ∧ Below w.heap.size w w' := by
  have HBe : Hid (∀ W, Calls Tryz.prog 5 #[] W fun e w' => e = .returned (.bool true) ∧ Below W.heap.size W w') := lbegun_any
  have HAb : Hid (∀ W, Below w.heap.size w W → Calls Tryz.prog 11 #[] W fun e w' => e = .returned (.bool true) ∧ Below W.heap.size W w') := fun W hb => begun_any W (hg.below hb)
  have HCk : Hid (∀ W, Below w.heap.size w W → Calls Tryz.prog 8 #[.agg #[.bool p.v, .int .u64 p.hi, .int .u64 p.lo, .int .i64 p.b, .slice ka kept.length kc], .slice a l.length c, .int .i64 now] W fun e w' => e = .returned (.int .i64 (checkE p kept l now)) ∧ Below W.heap.size W w') := fun W hb => check_ls p hp ka kc kept a c l now W (hk.below hb) (hs.below hb)
  have HWb : Hid (∀ W, Calls Tryz.prog 12 #[.string who] W fun e w' => e = .returned (.bool (whoB who)) ∧ w' = W) := fun W => rwho_any who W hwho
  have HX5 : Hid (Box5 (w.alloc (.cells #[.bool p.v, .int .u64 p.hi, .int .u64 p.lo, .int .i64 p.b, .slice ka kept.length kc] 29)) w.heap.size p (.slice ka kept.length kc)) := Box5.new w p _
  have HB0 := Lib.hid (bal (Below.refl w.heap.size w) (.cells #[.bool p.v, .int .u64 p.hi, .int .u64 p.lo, .int .i64 p.b, .slice ka kept.length kc] 29))
  obtain ⟨v, hv'⟩ : ∃ v, v = checkE p kept l now := ⟨_, rfl⟩
  rw [← hv'] at HCk hv
  have hvb : (v != 0) = true := by rw [bne_iff_ne]; exact hv
  obtain ⟨KN, hKN⟩ : ∃ KN, KN = kept.length := ⟨_, rfl⟩
  rw [← hKN] at HCk HX5 HB0 ⊢
  obtain ⟨N, hN⟩ : ∃ N, N = l.length := ⟨_, rfl⟩
  rw [← hN] at HCk ⊢
  clear hg hk hs hwho hv hv' hKN hN
  go_enter Tryz.func4, Tryz.ntmps4
  go_wp2_with fail
  refine (HBe.out _).mono ?_
  rintro e w1 ⟨rfl, hb1⟩
  replace HX5 := Lib.hid (HX5.out.below hb1)
  replace HB0 := Lib.hid (btr HB0.out hb1)
  clear hb1
  go_wp2_with fail
  refine (HAb.out _ HB0.out).mono ?_
  rintro e w2 ⟨rfl, hb2⟩
  replace HX5 := Lib.hid (HX5.out.below hb2)
  replace HB0 := Lib.hid (btr HB0.out hb2)
  clear hb2
  obtain ⟨x0, x1, x2, x3, x4⟩ := HX5.out.cells
  go_wp2_with fail
  refine (HCk.out _ HB0.out).mono ?_
  rintro e w3 ⟨rfl, hb3⟩
  replace HX5 := Lib.hid (HX5.out.below hb3)
  replace HB0 := Lib.hid (btr HB0.out hb3)
  clear hb3 x0 x1 x2 x3 x4
  go_wp2_with fail
  go_ret
  exact ⟨rfl, HB0.out⟩

set_option maxHeartbeats 16000000 in
set_option maxRecDepth 100000 in
theorem lf_who (p : Pf) (hp : p.Ok) (ka : Option Addr) (kc : Nat) (kept : List Ad) (a : Option Addr) (c : Nat) (l : List Ls) (who : ByteArray) (now : Int) (w : World) (hg : Good w) (hk : Lies adE w ka kept) (hs : Lies lsE w a l) (hwho : who.size ≤ maxLen) (hv : checkE p kept l now = 0) (hwb : whoB who = false) :
    Calls Tryz.prog 4 #[.agg #[.bool p.v, .int .u64 p.hi, .int .u64 p.lo, .int .i64 p.b, .slice ka kept.length kc], .slice a l.length c, .string who, .int .i64 now] w fun e w' => e = .returned (.bool true) ∧ Below w.heap.size w w' := by
  have HBe : Hid (∀ W, Calls Tryz.prog 5 #[] W fun e w' => e = .returned (.bool true) ∧ Below W.heap.size W w') := lbegun_any
  have HAb : Hid (∀ W, Below w.heap.size w W → Calls Tryz.prog 11 #[] W fun e w' => e = .returned (.bool true) ∧ Below W.heap.size W w') := fun W hb => begun_any W (hg.below hb)
  have HCk : Hid (∀ W, Below w.heap.size w W → Calls Tryz.prog 8 #[.agg #[.bool p.v, .int .u64 p.hi, .int .u64 p.lo, .int .i64 p.b, .slice ka kept.length kc], .slice a l.length c, .int .i64 now] W fun e w' => e = .returned (.int .i64 (checkE p kept l now)) ∧ Below W.heap.size W w') := fun W hb => check_ls p hp ka kc kept a c l now W (hk.below hb) (hs.below hb)
  have HWb : Hid (∀ W, Calls Tryz.prog 12 #[.string who] W fun e w' => e = .returned (.bool (whoB who)) ∧ w' = W) := fun W => rwho_any who W hwho
  have HX5 : Hid (Box5 (w.alloc (.cells #[.bool p.v, .int .u64 p.hi, .int .u64 p.lo, .int .i64 p.b, .slice ka kept.length kc] 29)) w.heap.size p (.slice ka kept.length kc)) := Box5.new w p _
  have HB0 := Lib.hid (bal (Below.refl w.heap.size w) (.cells #[.bool p.v, .int .u64 p.hi, .int .u64 p.lo, .int .i64 p.b, .slice ka kept.length kc] 29))
  rw [hv] at HCk
  rw [hwb] at HWb
  obtain ⟨KN, hKN⟩ : ∃ KN, KN = kept.length := ⟨_, rfl⟩
  rw [← hKN] at HCk HX5 HB0 ⊢
  obtain ⟨N, hN⟩ : ∃ N, N = l.length := ⟨_, rfl⟩
  rw [← hN] at HCk ⊢
  clear hg hk hs hwho hv hwb hKN hN
  go_enter Tryz.func4, Tryz.ntmps4
  go_wp2_with fail
  refine (HBe.out _).mono ?_
  rintro e w1 ⟨rfl, hb1⟩
  replace HX5 := Lib.hid (HX5.out.below hb1)
  replace HB0 := Lib.hid (btr HB0.out hb1)
  clear hb1
  go_wp2_with fail
  refine (HAb.out _ HB0.out).mono ?_
  rintro e w2 ⟨rfl, hb2⟩
  replace HX5 := Lib.hid (HX5.out.below hb2)
  replace HB0 := Lib.hid (btr HB0.out hb2)
  clear hb2
  obtain ⟨x0, x1, x2, x3, x4⟩ := HX5.out.cells
  go_wp2_with fail
  refine (HCk.out _ HB0.out).mono ?_
  rintro e w3 ⟨rfl, hb3⟩
  replace HX5 := Lib.hid (HX5.out.below hb3)
  replace HB0 := Lib.hid (btr HB0.out hb3)
  clear hb3 x0 x1 x2 x3 x4
  go_wp2_with fail
  refine (HWb.out _).mono ?_
  rintro e w4 ⟨rfl, rfl⟩
  go_wp2_with fail
  go_ret
  exact ⟨rfl, HB0.out⟩

set_option maxHeartbeats 16000000 in
set_option maxRecDepth 100000 in
theorem lf_has (p : Pf) (hp : p.Ok) (ka : Option Addr) (kc : Nat) (kept : List Ad) (a : Option Addr) (c : Nat) (l : List Ls) (who : ByteArray) (now : Int) (w : World) (hg : Good w) (hk : Lies adE w ka kept) (hs : Lies lsE w a l) (hwho : who.size ≤ maxLen) (hv : checkE p kept l now = 0) (hwb : whoB who = true) (i : Nat) (hf : l.findIdx? (Ls.hasWho who) = some i) :
    Calls Tryz.prog 4 #[.agg #[.bool p.v, .int .u64 p.hi, .int .u64 p.lo, .int .i64 p.b, .slice ka kept.length kc], .slice a l.length c, .string who, .int .i64 now] w fun e w' => e = .returned (.bool true) ∧ Below w.heap.size w w' := by
  have HBe : Hid (∀ W, Calls Tryz.prog 5 #[] W fun e w' => e = .returned (.bool true) ∧ Below W.heap.size W w') := lbegun_any
  have HAb : Hid (∀ W, Below w.heap.size w W → Calls Tryz.prog 11 #[] W fun e w' => e = .returned (.bool true) ∧ Below W.heap.size W w') := fun W hb => begun_any W (hg.below hb)
  have HCk : Hid (∀ W, Below w.heap.size w W → Calls Tryz.prog 8 #[.agg #[.bool p.v, .int .u64 p.hi, .int .u64 p.lo, .int .i64 p.b, .slice ka kept.length kc], .slice a l.length c, .int .i64 now] W fun e w' => e = .returned (.int .i64 (checkE p kept l now)) ∧ Below W.heap.size W w') := fun W hb => check_ls p hp ka kc kept a c l now W (hk.below hb) (hs.below hb)
  have HWb : Hid (∀ W, Calls Tryz.prog 12 #[.string who] W fun e w' => e = .returned (.bool (whoB who)) ∧ w' = W) := fun W => rwho_any who W hwho
  have HX5 : Hid (Box5 (w.alloc (.cells #[.bool p.v, .int .u64 p.hi, .int .u64 p.lo, .int .i64 p.b, .slice ka kept.length kc] 29)) w.heap.size p (.slice ka kept.length kc)) := Box5.new w p _
  have HB0 := Lib.hid (bal (Below.refl w.heap.size w) (.cells #[.bool p.v, .int .u64 p.hi, .int .u64 p.lo, .int .i64 p.b, .slice ka kept.length kc] 29))
  have hl20 := lookL_len20 (check_zero hv).2.1
  have HWh : Hid (∀ W, Below w.heap.size w W → Calls Tryz.prog 10 #[.slice a l.length c, .string who] W fun e w' => e = .returned (.int .i64 (i : Int)) ∧ w' = W) := fun W hb => by
    have := whoAt_any a c l who W (by omega) (hs.below hb)
    rw [hf] at this
    exact this
  have hi0 : (0 : Int) ≤ (i : Int) := by omega
  rw [hv] at HCk
  rw [hwb] at HWb
  obtain ⟨KN, hKN⟩ : ∃ KN, KN = kept.length := ⟨_, rfl⟩
  rw [← hKN] at HCk HX5 HB0 ⊢
  obtain ⟨N, hN⟩ : ∃ N, N = l.length := ⟨_, rfl⟩
  rw [← hN] at HCk HWh hl20 ⊢
  clear hg hk hs hwho hv hwb hKN hN hf
  go_enter Tryz.func4, Tryz.ntmps4
  go_wp2_with fail
  refine (HBe.out _).mono ?_
  rintro e w1 ⟨rfl, hb1⟩
  replace HX5 := Lib.hid (HX5.out.below hb1)
  replace HB0 := Lib.hid (btr HB0.out hb1)
  clear hb1
  go_wp2_with fail
  refine (HAb.out _ HB0.out).mono ?_
  rintro e w2 ⟨rfl, hb2⟩
  replace HX5 := Lib.hid (HX5.out.below hb2)
  replace HB0 := Lib.hid (btr HB0.out hb2)
  clear hb2
  obtain ⟨x0, x1, x2, x3, x4⟩ := HX5.out.cells
  go_wp2_with fail
  refine (HCk.out _ HB0.out).mono ?_
  rintro e w3 ⟨rfl, hb3⟩
  replace HX5 := Lib.hid (HX5.out.below hb3)
  replace HB0 := Lib.hid (btr HB0.out hb3)
  clear hb3 x0 x1 x2 x3 x4
  go_wp2_with fail
  refine (HWb.out _).mono ?_
  rintro e w4 ⟨rfl, rfl⟩
  go_wp2_with fail
  refine (HWh.out _ HB0.out).mono ?_
  rintro e w5 ⟨rfl, rfl⟩
  go_wp2_with fail
  go_ret
  exact ⟨rfl, HB0.out⟩

end Go.Proofs.YtiiankekobgebaaGreatDoor
