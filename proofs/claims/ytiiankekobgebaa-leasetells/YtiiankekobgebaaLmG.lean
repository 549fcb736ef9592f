/- LeaseTells: its paths without a grant. -/
import Derived.Test.YtiiankekobgebaaLmE
import Derived.Test.YtiiankekobgebaaLmF
import Derived.Test.YtiiankekobgebaaLmD
set_option linter.unusedVariables false
set_option linter.unusedSimpArgs false
namespace Go.Proofs.Ytiiankekobgebaa
open Go.RowKit Go.Shelf

theorem keep5 {w W W' : World} {pb : Nat} {y0 y1 y2 y3 y4 : Value} (h : (W.cell? ⟨pb, 0, none⟩ = some y0 ∧ W.cell? ⟨pb, 1, none⟩ = some y1 ∧ W.cell? ⟨pb, 2, none⟩ = some y2 ∧ W.cell? ⟨pb, 3, none⟩ = some y3 ∧ W.cell? ⟨pb, 4, none⟩ = some y4 ∧ pb < W.heap.size) ∧ Below w.heap.size w W) (hb : Below W.heap.size W W') :
    (W'.cell? ⟨pb, 0, none⟩ = some y0 ∧ W'.cell? ⟨pb, 1, none⟩ = some y1 ∧ W'.cell? ⟨pb, 2, none⟩ = some y2 ∧ W'.cell? ⟨pb, 3, none⟩ = some y3 ∧ W'.cell? ⟨pb, 4, none⟩ = some y4 ∧ pb < W'.heap.size) ∧ Below w.heap.size w W' := by
  obtain ⟨⟨a, b, c, d, e, f⟩, n⟩ := h
  obtain ⟨h1, _⟩ := bcell hb
  exact ⟨⟨by rw [h1 _ _ f]; exact a, by rw [h1 _ _ f]; exact b, by rw [h1 _ _ f]; exact c, by rw [h1 _ _ f]; exact d, by rw [h1 _ _ f]; exact e, Nat.lt_of_lt_of_le f hb.size⟩, btr n hb⟩
theorem keepT {w W W' : World} {pb q r : Nat} {v0 v1 v2 v3 v4 y0 y1 y2 z0 z1 z2 : Value} (h : (W.cell? ⟨pb, 0, none⟩ = some v0 ∧ W.cell? ⟨pb, 1, none⟩ = some v1 ∧ W.cell? ⟨pb, 2, none⟩ = some v2 ∧ W.cell? ⟨pb, 3, none⟩ = some v3 ∧ W.cell? ⟨pb, 4, none⟩ = some v4 ∧ pb < W.heap.size) ∧ (W.cell? ⟨q, 0, none⟩ = some y0 ∧ W.cell? ⟨q, 1, none⟩ = some y1 ∧ W.cell? ⟨q, 2, none⟩ = some y2 ∧ q < W.heap.size) ∧ (W.cell? ⟨r, 0, none⟩ = some z0 ∧ W.cell? ⟨r, 1, none⟩ = some z1 ∧ W.cell? ⟨r, 2, none⟩ = some z2 ∧ r < W.heap.size) ∧ Below w.heap.size w W) (hb : Below W.heap.size W W') :
    (W'.cell? ⟨pb, 0, none⟩ = some v0 ∧ W'.cell? ⟨pb, 1, none⟩ = some v1 ∧ W'.cell? ⟨pb, 2, none⟩ = some v2 ∧ W'.cell? ⟨pb, 3, none⟩ = some v3 ∧ W'.cell? ⟨pb, 4, none⟩ = some v4 ∧ pb < W'.heap.size) ∧ (W'.cell? ⟨q, 0, none⟩ = some y0 ∧ W'.cell? ⟨q, 1, none⟩ = some y1 ∧ W'.cell? ⟨q, 2, none⟩ = some y2 ∧ q < W'.heap.size) ∧ (W'.cell? ⟨r, 0, none⟩ = some z0 ∧ W'.cell? ⟨r, 1, none⟩ = some z1 ∧ W'.cell? ⟨r, 2, none⟩ = some z2 ∧ r < W'.heap.size) ∧ Below w.heap.size w W' := by
  obtain ⟨h5, ⟨e, f, g, i⟩, ⟨j, k, l, m⟩, n⟩ := h
  obtain ⟨h5', n'⟩ := keep5 ⟨h5, n⟩ hb
  obtain ⟨h1, _⟩ := bcell hb
  have hs := hb.size
  refine ⟨h5', ⟨?_, ?_, ?_, by omega⟩, ⟨?_, ?_, ?_, by omega⟩, n'⟩
  · rw [h1 _ _ i]; exact e
  · rw [h1 _ _ i]; exact f
  · rw [h1 _ _ i]; exact g
  · rw [h1 _ _ m]; exact j
  · rw [h1 _ _ m]; exact k
  · rw [h1 _ _ m]; exact l
theorem eqA_ad (w : World) (x y : Ad) : (binOp .eql 24 (.agg #[.bool x.v, .int .u64 x.hi, .int .u64 x.lo]) (.agg #[.bool x.v, .int .u64 x.hi, .int .u64 x.lo])).run Try.prog w = .ok (.bool true) w := by
  have := eql_ad w x x
  rw [(eqAd_iff x x).2 rfl] at this
  exact this

theorem Lies.off {α : Type} {E : Enc α} {W W' : World} {a : Option Addr} {l : List α} {b : Nat} (h : Lies E W a l) (hne : ∀ g o, a = some ⟨g, o, none⟩ → 0 < l.length → g ≠ b) (hW : ∀ k, k ≠ b → W'.heap[k]? = W.heap[k]?) : Lies E W' a l := by
  intro j hj
  obtain ⟨g, o, e, hg, c⟩ := h j hj
  have hk := hW g (hne g o e (by omega))
  refine ⟨g, o, e, ?_, fun i v hv => ?_⟩
  · have h1 : W.heap[g]? = some W.heap[g] := Array.getElem?_eq_getElem hg
    rw [h1] at hk
    exact (Array.getElem?_eq_some_iff.1 hk).1
  · have := c i v hv
    simp only [World.cell?, hk] at this ⊢
    exact this
theorem Lies.before {α : Type} {E : Enc α} {W : World} {a : Option Addr} {l : List α} (h : Lies E W a l) : ∀ g o, a = some ⟨g, o, none⟩ → 0 < l.length → g < W.heap.size := fun g o e hl => by
  obtain ⟨g', o', e', hg, _⟩ := h 0 hl
  rw [e] at e'
  injection e' with e'
  injection e' with e1 _
  rw [e1]; exact hg
theorem grantR_len {p : Pf} {kept : List Ad} {l m : List Ls} {who : ByteArray} {un : Int} {x : Ad} (h : grantR p kept l who un = some (m, x)) : m.length ≤ l.length + 1 := by
  unfold grantR at h
  cases hf : l.findIdx? (fun y => y.who.toList == who.toList) with
  | some i =>
    rw [hf] at h
    simp only [Option.map_eq_some_iff] at h
    obtain ⟨y, _, h⟩ := h
    injection h with h1 h2
    rw [← h1, List.length_set]
    omega
  | none =>
    rw [hf] at h
    simp only [Option.map_eq_some_iff] at h
    obtain ⟨k, _, h⟩ := h
    injection h with h1 h2
    rw [← h1]
    unfold insOf
    have := spot_le ⟨adK p k, who, un⟩ l
    simp
    omega

set_option maxHeartbeats 16000000 in
set_option maxRecDepth 100000 in
theorem lt_u (p : Pf) (hp : p.Ok) (ka : Option Addr) (kc : Nat) (kept : List Ad) (a : Option Addr) (c : Nat) (l : List Ls) (who : ByteArray) (now ttl : Int) (w : World) (hk : Lies adE w ka kept) (hs : Lies lsE w a l) (hws : ∀ x ∈ l, x.who.size ≤ maxLen) (hwho : who.size ≤ maxLen) (hc : l.length ≤ c) (hu : ¬ lookL l now = 0) :
    Calls Try.prog 3 #[.agg #[.bool p.v, .int .u64 p.hi, .int .u64 p.lo, .int .i64 p.b, .slice ka kept.length kc], .slice a l.length c, .string who, .int .i64 now, .int .i64 ttl] w fun e w' => e = .returned (.bool true) ∧ Below w.heap.size w w' := by
  have hv : ¬ checkE p kept l now = 0 := fun h => hu (check_zero h).2.1
  have hge : grantE p kept l who now ttl = checkE p kept l now := by unfold grantE; rw [if_neg hv]
  have hgo : gOut p kept l who now ttl = (checkE p kept l now, [], zeroAd) := by rw [gOut_bad (by rw [hge]; exact hv), hge]
  obtain ⟨W0, hW0⟩ : ∃ W0, W0 = w.alloc (.cells #[.bool p.v, .int .u64 p.hi, .int .u64 p.lo, .int .i64 p.b, .slice ka kept.length kc] 29) := ⟨_, rfl⟩
  have hb0 : Below w.heap.size w W0 := by rw [hW0]; exact bal (Below.refl _ _) _
  have hx5 : Box5 W0 w.heap.size p (.slice ka kept.length kc) := by rw [hW0]; exact Box5.new w p _
  have HG := Lib.hid (lgrant_any p hp ka kc kept a c l who now ttl W0 (hk.below hb0) (hs.below hb0))
  rw [hgo] at HG
  have HD : Hid (∀ W, Below w.heap.size w W → Calls Try.prog 6 #[.slice a l.length c, .int .i64 now] W fun e w' => ∃ a4 c4, e = .returned (.tuple #[.slice a4 (dropL l now).length c4, .int .i64 (dropN l now), .int .i64 (lookL l now)]) ∧ Lies lsE w' a4 (dropL l now) ∧ Below W.heap.size W w') := fun W hb => ldrop_any a c l now W (hs.below hb)
  have HCl : Hid (∀ W, Below w.heap.size w W → Calls Try.prog 7 #[.slice a l.length c, .int .i64 now] W fun e w' => e = .returned (.int .i64 (lookL l now)) ∧ Below W.heap.size W w') := fun W hb => rleases_any a c l now W (hs.below hb) hws
  have HCo : Hid (∀ W, Below w.heap.size w W → Calls Try.prog 8 #[.agg #[.bool p.v, .int .u64 p.hi, .int .u64 p.lo, .int .i64 p.b, .slice ka kept.length kc], .slice a l.length c, .int .i64 now] W fun e w' => e = .returned (.int .i64 (checkE p kept l now)) ∧ Below W.heap.size W w') := fun W hb => rcheck_of p hp ka kc kept a c l now W (hk.below hb) (hs.below hb) hws hc
  have HPl : Hid (∀ W, Below w.heap.size w W → Calls Try.prog 13 #[.agg #[.bool p.v, .int .u64 p.hi, .int .u64 p.lo, .int .i64 p.b, .slice ka kept.length kc]] W fun e w' => e = .returned (.int .i64 (poolE p kept)) ∧ Below W.heap.size W w') := fun W hb => pool_any p hp ka kc kept W (hk.below hb)
  have HCp : Hid (∀ W, Below w.heap.size w W → Calls Try.prog 14 #[.agg #[.bool p.v, .int .u64 p.hi, .int .u64 p.lo, .int .i64 p.b, .slice ka kept.length kc]] W fun e w' => e = .returned (.int .i64 (poolE p kept)) ∧ Below W.heap.size W w') := fun W hb => rpool_any p hp ka kc kept W (hk.below hb)
  have HCk : Hid (∀ W, Below w.heap.size w W → Calls Try.prog 15 #[.agg #[.bool p.v, .int .u64 p.hi, .int .u64 p.lo, .int .i64 p.b, .slice ka kept.length kc], .slice a l.length c, .int .i64 now] W fun e w' => e = .returned (.int .i64 (checkE p kept l now)) ∧ Below W.heap.size W w') := fun W hb => check_ls p hp ka kc kept a c l now W (hk.below hb) (hs.below hb)
  have HBe : Hid (∀ W, Calls Try.prog 12 #[] W fun e w' => e = .returned (.bool true) ∧ Below W.heap.size W w') := lbegun_any
  have HLa : Hid (∀ (a b : Option Addr) (c d : Nat) (l r : List Ls) (e : Int) (w : World), l.length ≤ 1000 → Lies lsE w a l → Lies lsE w b r → (e = 0 → r = l) → (¬ e = 0 → l = []) → Calls Try.prog 16 #[.slice a l.length c, .int .i64 e, .int .i64 e, .slice b r.length d] w fun x w' => x = .returned (.bool true) ∧ Below w.heap.size w w') := fun a b c d l r e w => lare_any a b c d l r e w
  have hdl : dropL l now = [] := by unfold dropL; rw [if_neg hu]
  have hdn : dropN l now = 0 := by unfold dropN; rw [if_neg hu]
  rw [hdl, hdn] at HD
  obtain ⟨u, hu'⟩ : ∃ u, u = lookL l now := ⟨_, rfl⟩
  rw [← hu'] at HD HCl hu
  have hub : (u == 0) = false := by simpa using hu
  have HU := Lib.hid hu
  obtain ⟨v, hv'⟩ : ∃ v, v = checkE p kept l now := ⟨_, rfl⟩
  rw [← hv'] at HCo HCk HG hv
  have hvb : (v == 0) = false := by simpa using hv
  have HV := Lib.hid hv
  generalize poolE p kept = pe at *
  have HX5 := Lib.hid hx5
  have HB0 := Lib.hid hb0
  rw [hW0] at HG
  have HW0 := Lib.hid hW0
  obtain ⟨KN, hKN⟩ : ∃ KN, KN = kept.length := ⟨_, rfl⟩
  rw [← hKN] at HX5 HG HW0 HCo HPl HCp HCk ⊢
  obtain ⟨x0, x1, x2, x3, x4⟩ := HX5.out.cells
  rw [HW0.out] at x0 x1 x2 x3 x4
  obtain ⟨N, hN⟩ : ∃ N, N = l.length := ⟨_, rfl⟩
  rw [← hN] at HG HD HCl HCo HCk ⊢
  simp only [List.length_nil, zeroAd] at HG
  simp only [List.length_nil] at HD
  clear hk hs hws hwho hc hgo hge hx5 hb0 hW0 hKN hN hdl hdn hp hu hu' hv hv'
  go_enter Try.func3, Try.ntmps3
  go_wp2_with fail
  refine HG.out.mono ?_
  rintro e w1 ⟨a1, c1, rfl, hm1, hb1⟩
  rw [← HW0.out] at hb1
  have HX1 := Lib.hid ((HX5.out.below hb1).below (bal (Below.refl _ _) (.cells #[.bool false, .int .u64 0, .int .u64 0] 24)))
  have HB1 := Lib.hid (bal (btr HB0.out hb1) (.cells #[.bool false, .int .u64 0, .int .u64 0] 24))
  have HM := Lib.hid (hm1.below (bal (Below.refl _ _) (.cells #[.bool false, .int .u64 0, .int .u64 0] 24)))
  have HXb : Hid (Box3 (w1.alloc (.cells #[.bool false, .int .u64 0, .int .u64 0] 24)) w1.heap.size zeroAd) := Box3.new w1 zeroAd
  clear x0 x1 x2 x3 x4 HX5 HB0 hm1 hb1 HG HW0
  obtain ⟨xb, hxb⟩ : ∃ xb, xb = w1.heap.size := ⟨_, rfl⟩
  go_wp2_with fail
  rw [← hxb] at HXb ⊢
  generalize w1.alloc (.cells #[.bool false, .int .u64 0, .int .u64 0] 24) = w2 at *
  clear hxb
  refine (HD.out _ HB1.out).mono ?_
  rintro e w3 ⟨a3, c3, rfl, hd3, hb3⟩
  have HX3 := Lib.hid (HX1.out.below hb3)
  have HB3 := Lib.hid (btr HB1.out hb3)
  have HM3 := Lib.hid (HM.out.below hb3)
  have HXb3 := Lib.hid (HXb.out.below hb3)
  have HD3 := Lib.hid hd3
  clear HX1 HB1 HM HXb HD hd3 hb3
  obtain ⟨x0, x1, x2, x3, x4⟩ := HX3.out.cells
  have HSd := Lib.hid (keep5 (w := w3) ⟨⟨x0, x1, x2, x3, x4, HX3.out.lt⟩, Below.refl _ _⟩ (Below.refl _ _).drew)
  clear x0 x1 x2 x3 x4
  go_wp2_with fail
  go_region_held3 (fun w' => (w'.cell? ⟨w.heap.size, 0, none⟩ = some (.bool p.v) ∧ w'.cell? ⟨w.heap.size, 1, none⟩ = some (.int .u64 p.hi) ∧ w'.cell? ⟨w.heap.size, 2, none⟩ = some (.int .u64 p.lo) ∧ w'.cell? ⟨w.heap.size, 3, none⟩ = some (.int .i64 p.b) ∧ w'.cell? ⟨w.heap.size, 4, none⟩ = some (.slice ka KN kc) ∧ w.heap.size < w'.heap.size) ∧ Below w3.heap.size w3 w')
    (first | with_reducible exact HSd.out | fail)
    (first
      | (go_at_call 7; refine (HCl.out _ (btr HB3.out HSd.out.2)).mono ?_; rintro e wx ⟨rfl, hb⟩; replace HSd := Lib.hid (keep5 HSd.out hb); clear hb)
      | (go_at_call 8; refine (HCo.out _ (btr HB3.out HSd.out.2)).mono ?_; rintro e wx ⟨rfl, hb⟩; replace HSd := Lib.hid (keep5 HSd.out hb); clear hb))
  have HB4 := Lib.hid (btr HB3.out HSd.out.2)
  have HX4 := Lib.hid (HX3.out.below HSd.out.2)
  have HM4 := Lib.hid (HM3.out.below HSd.out.2)
  have HXb4 := Lib.hid (HXb3.out.below HSd.out.2)
  have HD4 := Lib.hid (HD3.out.below HSd.out.2)
  clear HX3 HB3 HM3 HXb3 HD3 HSd HCl HCo
  have HXt : Hid (Box3 (wx.alloc (.cells #[.bool false, .int .u64 0, .int .u64 0] 24)) wx.heap.size zeroAd) := Box3.new wx zeroAd
  have HB5 := Lib.hid (bal HB4.out (.cells #[.bool false, .int .u64 0, .int .u64 0] 24))
  have HX5 := Lib.hid (HX4.out.below (bal (Below.refl _ _) (.cells #[.bool false, .int .u64 0, .int .u64 0] 24)))
  have HM5 := Lib.hid (HM4.out.below (bal (Below.refl _ _) (.cells #[.bool false, .int .u64 0, .int .u64 0] 24)))
  have HXb5 := Lib.hid (HXb4.out.below (bal (Below.refl _ _) (.cells #[.bool false, .int .u64 0, .int .u64 0] 24)))
  have HD5 := Lib.hid (HD4.out.below (bal (Below.refl _ _) (.cells #[.bool false, .int .u64 0, .int .u64 0] 24)))
  have HTm := Lib.hid HM4.out.before
  have HTd := Lib.hid HD4.out.before
  have HTx := Lib.hid HX4.out.lt
  have HTb := Lib.hid HXb4.out.lt
  have HTs : Hid (wx.heap.size < (wx.alloc (.cells #[.bool false, .int .u64 0, .int .u64 0] 24)).heap.size) := by rw [Hid]; simp
  clear HB4 HX4 HM4 HXb4 HD4
  obtain ⟨tb, htb⟩ : ∃ tb, tb = wx.heap.size := ⟨_, rfl⟩
  go_wp2_with fail
  rw [← htb] at HXt HTm HTd HTx HTb HTs ⊢
  generalize wx.alloc (.cells #[.bool false, .int .u64 0, .int .u64 0] 24) = w6 at *
  clear htb
  have HSd := Lib.hid (keepT (w := w6) ⟨⟨HX5.out.cells.1, HX5.out.cells.2.1, HX5.out.cells.2.2.1, HX5.out.cells.2.2.2.1, HX5.out.cells.2.2.2.2, HX5.out.lt⟩, ⟨HXb5.out.cells.1.1, HXb5.out.cells.1.2.1, HXb5.out.cells.1.2.2, HXb5.out.lt⟩, ⟨HXt.out.cells.1.1, HXt.out.cells.1.2.1, HXt.out.cells.1.2.2, HXt.out.lt⟩, Below.refl _ _⟩ (Below.refl _ _).drew)
  simp only [zeroAd] at HSd
  have HL1 : Hid (∀ W, Below w6.heap.size w6 W → Calls Try.prog 16 #[.slice a1 0 c1, .int .i64 v, .int .i64 v, .slice none 0 0] W fun x w' => x = .returned (.bool true) ∧ Below W.heap.size W w') := fun W hb => HLa.out a1 none c1 0 [] [] v W (by simp) (HM5.out.below hb) (Lies.nil _ _ _) (fun _ => rfl) (fun _ => rfl)
  have HL2 : Hid (∀ W, Below w6.heap.size w6 W → Calls Try.prog 16 #[.slice a3 0 c3, .int .i64 u, .int .i64 u, .slice none 0 0] W fun x w' => x = .returned (.bool true) ∧ Below W.heap.size W w') := fun W hb => HLa.out a3 none c3 0 [] [] u W (by simp) (HD5.out.below hb) (Lies.nil _ _ _) (fun _ => rfl) (fun _ => rfl)
  clear HX5 HXb5 HXt HLa
  go_wp2_with fail
  go_region_held3 (fun w' => (w'.cell? ⟨w.heap.size, 0, none⟩ = some (.bool p.v) ∧ w'.cell? ⟨w.heap.size, 1, none⟩ = some (.int .u64 p.hi) ∧ w'.cell? ⟨w.heap.size, 2, none⟩ = some (.int .u64 p.lo) ∧ w'.cell? ⟨w.heap.size, 3, none⟩ = some (.int .i64 p.b) ∧ w'.cell? ⟨w.heap.size, 4, none⟩ = some (.slice ka KN kc) ∧ w.heap.size < w'.heap.size) ∧ (w'.cell? ⟨xb, 0, none⟩ = some (.bool false) ∧ w'.cell? ⟨xb, 1, none⟩ = some (.int .u64 0) ∧ w'.cell? ⟨xb, 2, none⟩ = some (.int .u64 0) ∧ xb < w'.heap.size) ∧ (w'.cell? ⟨tb, 0, none⟩ = some (.bool false) ∧ w'.cell? ⟨tb, 1, none⟩ = some (.int .u64 0) ∧ w'.cell? ⟨tb, 2, none⟩ = some (.int .u64 0) ∧ tb < w'.heap.size) ∧ Below w6.heap.size w6 w')
    (first | with_reducible exact HSd.out | fail)
    (first
      | (go_at_call 12; refine (HBe.out _).mono ?_; rintro e wx ⟨rfl, hb⟩; replace HSd := Lib.hid (keepT HSd.out hb); clear hb)
      | (go_at_call 13; refine (HPl.out _ (btr HB5.out HSd.out.2.2.2)).mono ?_; rintro e wx ⟨rfl, hb⟩; replace HSd := Lib.hid (keepT HSd.out hb); clear hb)
      | (go_at_call 14; refine (HCp.out _ (btr HB5.out HSd.out.2.2.2)).mono ?_; rintro e wx ⟨rfl, hb⟩; replace HSd := Lib.hid (keepT HSd.out hb); clear hb)
      | (go_at_call 15; refine (HCk.out _ (btr HB5.out HSd.out.2.2.2)).mono ?_; rintro e wx ⟨rfl, hb⟩; replace HSd := Lib.hid (keepT HSd.out hb); clear hb)
      | (go_at_call 16; (with_reducible refine (HL1.out _ HSd.out.2.2.2).mono ?_); rintro e wx ⟨rfl, hb⟩; replace HSd := Lib.hid (keepT HSd.out hb); clear hb)
      | (go_at_call 16; (with_reducible refine (HL2.out _ HSd.out.2.2.2).mono ?_); rintro e wx ⟨rfl, hb⟩; replace HSd := Lib.hid (keepT HSd.out hb); clear hb))
  have HBz : Hid (Below w.heap.size w wx) := btr HB5.out HSd.out.2.2.2
  clear HSd
  go_wp2_with fail
  go_ret
  exact ⟨rfl, HBz.out⟩
set_option maxHeartbeats 16000000 in
set_option maxRecDepth 100000 in
theorem lt_v (p : Pf) (hp : p.Ok) (ka : Option Addr) (kc : Nat) (kept : List Ad) (a : Option Addr) (c : Nat) (l : List Ls) (who : ByteArray) (now ttl : Int) (w : World) (hk : Lies adE w ka kept) (hs : Lies lsE w a l) (hws : ∀ x ∈ l, x.who.size ≤ maxLen) (hwho : who.size ≤ maxLen) (hc : l.length ≤ c) (hu : lookL l now = 0) (hv : ¬ checkE p kept l now = 0) :
    Calls Try.prog 3 #[.agg #[.bool p.v, .int .u64 p.hi, .int .u64 p.lo, .int .i64 p.b, .slice ka kept.length kc], .slice a l.length c, .string who, .int .i64 now, .int .i64 ttl] w fun e w' => e = .returned (.bool true) ∧ Below w.heap.size w w' := by
  have hge : grantE p kept l who now ttl = checkE p kept l now := by unfold grantE; rw [if_neg hv]
  have hgo : gOut p kept l who now ttl = (checkE p kept l now, [], zeroAd) := by rw [gOut_bad (by rw [hge]; exact hv), hge]
  obtain ⟨W0, hW0⟩ : ∃ W0, W0 = w.alloc (.cells #[.bool p.v, .int .u64 p.hi, .int .u64 p.lo, .int .i64 p.b, .slice ka kept.length kc] 29) := ⟨_, rfl⟩
  have hb0 : Below w.heap.size w W0 := by rw [hW0]; exact bal (Below.refl _ _) _
  have hx5 : Box5 W0 w.heap.size p (.slice ka kept.length kc) := by rw [hW0]; exact Box5.new w p _
  have HG := Lib.hid (lgrant_any p hp ka kc kept a c l who now ttl W0 (hk.below hb0) (hs.below hb0))
  rw [hgo] at HG
  have HD : Hid (∀ W, Below w.heap.size w W → Calls Try.prog 6 #[.slice a l.length c, .int .i64 now] W fun e w' => ∃ a4 c4, e = .returned (.tuple #[.slice a4 (dropL l now).length c4, .int .i64 (dropN l now), .int .i64 (lookL l now)]) ∧ Lies lsE w' a4 (dropL l now) ∧ Below W.heap.size W w') := fun W hb => ldrop_any a c l now W (hs.below hb)
  have HCl : Hid (∀ W, Below w.heap.size w W → Calls Try.prog 7 #[.slice a l.length c, .int .i64 now] W fun e w' => e = .returned (.int .i64 (lookL l now)) ∧ Below W.heap.size W w') := fun W hb => rleases_any a c l now W (hs.below hb) hws
  have HCo : Hid (∀ W, Below w.heap.size w W → Calls Try.prog 8 #[.agg #[.bool p.v, .int .u64 p.hi, .int .u64 p.lo, .int .i64 p.b, .slice ka kept.length kc], .slice a l.length c, .int .i64 now] W fun e w' => e = .returned (.int .i64 (checkE p kept l now)) ∧ Below W.heap.size W w') := fun W hb => rcheck_of p hp ka kc kept a c l now W (hk.below hb) (hs.below hb) hws hc
  have HPl : Hid (∀ W, Below w.heap.size w W → Calls Try.prog 13 #[.agg #[.bool p.v, .int .u64 p.hi, .int .u64 p.lo, .int .i64 p.b, .slice ka kept.length kc]] W fun e w' => e = .returned (.int .i64 (poolE p kept)) ∧ Below W.heap.size W w') := fun W hb => pool_any p hp ka kc kept W (hk.below hb)
  have HCp : Hid (∀ W, Below w.heap.size w W → Calls Try.prog 14 #[.agg #[.bool p.v, .int .u64 p.hi, .int .u64 p.lo, .int .i64 p.b, .slice ka kept.length kc]] W fun e w' => e = .returned (.int .i64 (poolE p kept)) ∧ Below W.heap.size W w') := fun W hb => rpool_any p hp ka kc kept W (hk.below hb)
  have HCk : Hid (∀ W, Below w.heap.size w W → Calls Try.prog 15 #[.agg #[.bool p.v, .int .u64 p.hi, .int .u64 p.lo, .int .i64 p.b, .slice ka kept.length kc], .slice a l.length c, .int .i64 now] W fun e w' => e = .returned (.int .i64 (checkE p kept l now)) ∧ Below W.heap.size W w') := fun W hb => check_ls p hp ka kc kept a c l now W (hk.below hb) (hs.below hb)
  have HBe : Hid (∀ W, Calls Try.prog 12 #[] W fun e w' => e = .returned (.bool true) ∧ Below W.heap.size W w') := lbegun_any
  have HLa : Hid (∀ (a b : Option Addr) (c d : Nat) (l r : List Ls) (e : Int) (w : World), l.length ≤ 1000 → Lies lsE w a l → Lies lsE w b r → (e = 0 → r = l) → (¬ e = 0 → l = []) → Calls Try.prog 16 #[.slice a l.length c, .int .i64 e, .int .i64 e, .slice b r.length d] w fun x w' => x = .returned (.bool true) ∧ Below w.heap.size w w') := fun a b c d l r e w => lare_any a b c d l r e w
  have hl20 := look_len hu
  have hlv : (live l now).length ≤ l.length := List.length_filter_le _ _
  have HLv : Hid (∀ W, Below w.heap.size w W → Calls Try.prog 10 #[.slice a l.length c, .int .i64 now] W fun e w' => ∃ a4 c4, e = .returned (.slice a4 (live l now).length c4) ∧ Lies lsE w' a4 (live l now) ∧ (∀ g o, a4 = some ⟨g, o, none⟩ → W.heap.size ≤ g) ∧ Below W.heap.size W w') := fun W hb => (rlive_any a c l now W hl20 (hs.below hb)).mono fun e w' ⟨v', he, ho, hb⟩ => by
    obtain ⟨a4, c4, rfl, hl⟩ := own_lies ho
    exact ⟨a4, c4, he, hl, own_after ho, hb⟩
  have hdl : dropL l now = live l now := by unfold dropL; rw [if_pos hu]
  have hdn : dropN l now = (l.length : Int) - ((live l now).length : Int) := by unfold dropN; rw [if_pos hu]
  rw [hdl, hdn] at HD
  rw [hu] at HD HCl
  obtain ⟨LV, hLV⟩ : ∃ LV, LV = live l now := ⟨_, rfl⟩
  rw [← hLV] at HD HLv hlv
  have hwr : IntKind.i64.wrap ((l.length : Int) - (LV.length : Int)) = (l.length : Int) - (LV.length : Int) := by rw [IntKind.wrap_i64]; omega
  have HLVn := Lib.hid (show LV.length ≤ 1000 by omega)
  obtain ⟨v, hv'⟩ : ∃ v, v = checkE p kept l now := ⟨_, rfl⟩
  rw [← hv'] at HCo HCk HG hv
  have hvb : (v == 0) = false := by simpa using hv
  have HV := Lib.hid hv
  generalize poolE p kept = pe at *
  have HX5 := Lib.hid hx5
  have HB0 := Lib.hid hb0
  rw [hW0] at HG
  have HW0 := Lib.hid hW0
  obtain ⟨KN, hKN⟩ : ∃ KN, KN = kept.length := ⟨_, rfl⟩
  rw [← hKN] at HX5 HG HW0 HCo HPl HCp HCk ⊢
  obtain ⟨x0, x1, x2, x3, x4⟩ := HX5.out.cells
  rw [HW0.out] at x0 x1 x2 x3 x4
  obtain ⟨N, hN⟩ : ∃ N, N = l.length := ⟨_, rfl⟩
  rw [← hN] at HG HD HCl HCo HCk HLv hl20 hwr ⊢
  obtain ⟨LN, hLN⟩ : ∃ LN, LN = LV.length := ⟨_, rfl⟩
  rw [← hLN] at HD HLv hwr
  have HLN := Lib.hid hLN
  clear hLN
  simp only [List.length_nil, zeroAd] at HG
  clear hk hs hws hwho hc hgo hge hx5 hb0 hW0 hKN hN hdl hdn hp hLV hl20 hlv hu hv hv'
  go_enter Try.func3, Try.ntmps3
  go_wp2_with fail
  refine HG.out.mono ?_
  rintro e w1 ⟨a1, c1, rfl, hm1, hb1⟩
  rw [← HW0.out] at hb1
  have HX1 := Lib.hid ((HX5.out.below hb1).below (bal (Below.refl _ _) (.cells #[.bool false, .int .u64 0, .int .u64 0] 24)))
  have HB1 := Lib.hid (bal (btr HB0.out hb1) (.cells #[.bool false, .int .u64 0, .int .u64 0] 24))
  have HM := Lib.hid (hm1.below (bal (Below.refl _ _) (.cells #[.bool false, .int .u64 0, .int .u64 0] 24)))
  have HXb : Hid (Box3 (w1.alloc (.cells #[.bool false, .int .u64 0, .int .u64 0] 24)) w1.heap.size zeroAd) := Box3.new w1 zeroAd
  clear x0 x1 x2 x3 x4 HX5 HB0 hm1 hb1 HG HW0
  obtain ⟨xb, hxb⟩ : ∃ xb, xb = w1.heap.size := ⟨_, rfl⟩
  go_wp2_with fail
  rw [← hxb] at HXb ⊢
  generalize w1.alloc (.cells #[.bool false, .int .u64 0, .int .u64 0] 24) = w2 at *
  clear hxb
  refine (HD.out _ HB1.out).mono ?_
  rintro e w3 ⟨a3, c3, rfl, hd3, hb3⟩
  have HX3 := Lib.hid (HX1.out.below hb3)
  have HB3 := Lib.hid (btr HB1.out hb3)
  have HM3 := Lib.hid (HM.out.below hb3)
  have HXb3 := Lib.hid (HXb.out.below hb3)
  have HD3 := Lib.hid hd3
  clear HX1 HB1 HM HXb HD hd3 hb3
  obtain ⟨x0, x1, x2, x3, x4⟩ := HX3.out.cells
  have HSd := Lib.hid (keep5 (w := w3) ⟨⟨x0, x1, x2, x3, x4, HX3.out.lt⟩, Below.refl _ _⟩ (Below.refl _ _).drew)
  clear x0 x1 x2 x3 x4
  go_wp2_with fail
  go_region_held3 (fun w' => (w'.cell? ⟨w.heap.size, 0, none⟩ = some (.bool p.v) ∧ w'.cell? ⟨w.heap.size, 1, none⟩ = some (.int .u64 p.hi) ∧ w'.cell? ⟨w.heap.size, 2, none⟩ = some (.int .u64 p.lo) ∧ w'.cell? ⟨w.heap.size, 3, none⟩ = some (.int .i64 p.b) ∧ w'.cell? ⟨w.heap.size, 4, none⟩ = some (.slice ka KN kc) ∧ w.heap.size < w'.heap.size) ∧ Below w3.heap.size w3 w')
    (first | with_reducible exact HSd.out | fail)
    (first
      | (go_at_call 7; refine (HCl.out _ (btr HB3.out HSd.out.2)).mono ?_; rintro e wx ⟨rfl, hb⟩; replace HSd := Lib.hid (keep5 HSd.out hb); clear hb)
      | (go_at_call 8; refine (HCo.out _ (btr HB3.out HSd.out.2)).mono ?_; rintro e wx ⟨rfl, hb⟩; replace HSd := Lib.hid (keep5 HSd.out hb); clear hb))
  have HB4 := Lib.hid (btr HB3.out HSd.out.2)
  have HX4 := Lib.hid (HX3.out.below HSd.out.2)
  have HM4 := Lib.hid (HM3.out.below HSd.out.2)
  have HXb4 := Lib.hid (HXb3.out.below HSd.out.2)
  have HD4 := Lib.hid (HD3.out.below HSd.out.2)
  clear HX3 HB3 HM3 HXb3 HD3 HSd HCl HCo
  have HXt : Hid (Box3 (wx.alloc (.cells #[.bool false, .int .u64 0, .int .u64 0] 24)) wx.heap.size zeroAd) := Box3.new wx zeroAd
  have HB5 := Lib.hid (bal HB4.out (.cells #[.bool false, .int .u64 0, .int .u64 0] 24))
  have HX5 := Lib.hid (HX4.out.below (bal (Below.refl _ _) (.cells #[.bool false, .int .u64 0, .int .u64 0] 24)))
  have HM5 := Lib.hid (HM4.out.below (bal (Below.refl _ _) (.cells #[.bool false, .int .u64 0, .int .u64 0] 24)))
  have HXb5 := Lib.hid (HXb4.out.below (bal (Below.refl _ _) (.cells #[.bool false, .int .u64 0, .int .u64 0] 24)))
  have HD5 := Lib.hid (HD4.out.below (bal (Below.refl _ _) (.cells #[.bool false, .int .u64 0, .int .u64 0] 24)))
  have HTm := Lib.hid HM4.out.before
  have HTd := Lib.hid HD4.out.before
  have HTx := Lib.hid HX4.out.lt
  have HTb := Lib.hid HXb4.out.lt
  have HTs : Hid (wx.heap.size < (wx.alloc (.cells #[.bool false, .int .u64 0, .int .u64 0] 24)).heap.size) := by rw [Hid]; simp
  clear HB4 HX4 HM4 HXb4 HD4
  obtain ⟨tb, htb⟩ : ∃ tb, tb = wx.heap.size := ⟨_, rfl⟩
  go_wp2_with fail
  rw [← htb] at HXt HTm HTd HTx HTb HTs ⊢
  generalize wx.alloc (.cells #[.bool false, .int .u64 0, .int .u64 0] 24) = w6 at *
  clear htb
  refine (HLv.out _ HB5.out).mono ?_
  rintro e w7 ⟨a7, c7, rfl, hl7, hn7, hb7⟩
  replace HB5 := Lib.hid (btr HB5.out hb7)
  replace HX5 := Lib.hid (HX5.out.below hb7)
  replace HM5 := Lib.hid (HM5.out.below hb7)
  replace HXb5 := Lib.hid (HXb5.out.below hb7)
  replace HD5 := Lib.hid (HD5.out.below hb7)
  replace HXt := Lib.hid (HXt.out.below hb7)
  have HL7 := Lib.hid hl7
  have HN7 := Lib.hid hn7
  have HGt : Hid (w6.heap.size ≤ w7.heap.size) := hb7.size
  clear hl7 hn7 hb7 HLv
  have HSd := Lib.hid (keepT (w := w7) ⟨⟨HX5.out.cells.1, HX5.out.cells.2.1, HX5.out.cells.2.2.1, HX5.out.cells.2.2.2.1, HX5.out.cells.2.2.2.2, HX5.out.lt⟩, ⟨HXb5.out.cells.1.1, HXb5.out.cells.1.2.1, HXb5.out.cells.1.2.2, HXb5.out.lt⟩, ⟨HXt.out.cells.1.1, HXt.out.cells.1.2.1, HXt.out.cells.1.2.2, HXt.out.lt⟩, Below.refl _ _⟩ (Below.refl _ _).drew)
  simp only [zeroAd] at HSd
  have HL1 : Hid (∀ W, Below w7.heap.size w7 W → Calls Try.prog 16 #[.slice a1 0 c1, .int .i64 v, .int .i64 v, .slice none 0 0] W fun x w' => x = .returned (.bool true) ∧ Below W.heap.size W w') := fun W hb => HLa.out a1 none c1 0 [] [] v W (by simp) (HM5.out.below hb) (Lies.nil _ _ _) (fun _ => rfl) (fun _ => rfl)
  have HL2 : Hid (∀ W, Below w7.heap.size w7 W → Calls Try.prog 16 #[.slice a3 LN c3, .int .i64 0, .int .i64 0, .slice a7 LN c7] W fun x w' => x = .returned (.bool true) ∧ Below W.heap.size W w') := fun W hb => by
    rw [HLN.out]
    exact HLa.out a3 a7 c3 c7 LV LV 0 W HLVn.out (HD5.out.below hb) (HL7.out.below hb) (fun _ => rfl) (fun h => absurd rfl h)
  clear HX5 HXb5 HXt HLa
  go_wp2_with fail
  go_region_held3 (fun w' => (w'.cell? ⟨w.heap.size, 0, none⟩ = some (.bool p.v) ∧ w'.cell? ⟨w.heap.size, 1, none⟩ = some (.int .u64 p.hi) ∧ w'.cell? ⟨w.heap.size, 2, none⟩ = some (.int .u64 p.lo) ∧ w'.cell? ⟨w.heap.size, 3, none⟩ = some (.int .i64 p.b) ∧ w'.cell? ⟨w.heap.size, 4, none⟩ = some (.slice ka KN kc) ∧ w.heap.size < w'.heap.size) ∧ (w'.cell? ⟨xb, 0, none⟩ = some (.bool false) ∧ w'.cell? ⟨xb, 1, none⟩ = some (.int .u64 0) ∧ w'.cell? ⟨xb, 2, none⟩ = some (.int .u64 0) ∧ xb < w'.heap.size) ∧ (w'.cell? ⟨tb, 0, none⟩ = some (.bool false) ∧ w'.cell? ⟨tb, 1, none⟩ = some (.int .u64 0) ∧ w'.cell? ⟨tb, 2, none⟩ = some (.int .u64 0) ∧ tb < w'.heap.size) ∧ Below w7.heap.size w7 w')
    (first | with_reducible exact HSd.out | fail)
    (first
      | (go_at_call 12; refine (HBe.out _).mono ?_; rintro e wx ⟨rfl, hb⟩; replace HSd := Lib.hid (keepT HSd.out hb); clear hb)
      | (go_at_call 13; refine (HPl.out _ (btr HB5.out HSd.out.2.2.2)).mono ?_; rintro e wx ⟨rfl, hb⟩; replace HSd := Lib.hid (keepT HSd.out hb); clear hb)
      | (go_at_call 14; refine (HCp.out _ (btr HB5.out HSd.out.2.2.2)).mono ?_; rintro e wx ⟨rfl, hb⟩; replace HSd := Lib.hid (keepT HSd.out hb); clear hb)
      | (go_at_call 15; refine (HCk.out _ (btr HB5.out HSd.out.2.2.2)).mono ?_; rintro e wx ⟨rfl, hb⟩; replace HSd := Lib.hid (keepT HSd.out hb); clear hb)
      | (go_at_call 16; (with_reducible refine (HL1.out _ HSd.out.2.2.2).mono ?_); rintro e wx ⟨rfl, hb⟩; replace HSd := Lib.hid (keepT HSd.out hb); clear hb)
      | (go_at_call 16; (with_reducible refine (HL2.out _ HSd.out.2.2.2).mono ?_); rintro e wx ⟨rfl, hb⟩; replace HSd := Lib.hid (keepT HSd.out hb); clear hb))
  have HBz : Hid (Below w.heap.size w wx) := btr HB5.out HSd.out.2.2.2
  clear HSd
  go_wp2_with fail
  go_ret
  exact ⟨rfl, HBz.out⟩
set_option maxHeartbeats 16000000 in
set_option maxRecDepth 100000 in
theorem lt_who (p : Pf) (hp : p.Ok) (ka : Option Addr) (kc : Nat) (kept : List Ad) (a : Option Addr) (c : Nat) (l : List Ls) (who : ByteArray) (now ttl : Int) (w : World) (hk : Lies adE w ka kept) (hs : Lies lsE w a l) (hws : ∀ x ∈ l, x.who.size ≤ maxLen) (hwho : who.size ≤ maxLen) (hc : l.length ≤ c) (hu : lookL l now = 0) (hv : checkE p kept l now = 0) (hwb : whoB who = false) :
    Calls Try.prog 3 #[.agg #[.bool p.v, .int .u64 p.hi, .int .u64 p.lo, .int .i64 p.b, .slice ka kept.length kc], .slice a l.length c, .string who, .int .i64 now, .int .i64 ttl] w fun e w' => e = .returned (.bool true) ∧ Below w.heap.size w w' := by
  have hge : grantE p kept l who now ttl = 1 := by unfold grantE; rw [if_pos hv, if_neg (by rw [hwb]; decide)]
  have hgo : gOut p kept l who now ttl = (1, [], zeroAd) := by rw [gOut_bad (by rw [hge]; decide), hge]
  obtain ⟨W0, hW0⟩ : ∃ W0, W0 = w.alloc (.cells #[.bool p.v, .int .u64 p.hi, .int .u64 p.lo, .int .i64 p.b, .slice ka kept.length kc] 29) := ⟨_, rfl⟩
  have hb0 : Below w.heap.size w W0 := by rw [hW0]; exact bal (Below.refl _ _) _
  have hx5 : Box5 W0 w.heap.size p (.slice ka kept.length kc) := by rw [hW0]; exact Box5.new w p _
  have HG := Lib.hid (lgrant_any p hp ka kc kept a c l who now ttl W0 (hk.below hb0) (hs.below hb0))
  rw [hgo] at HG
  have HD : Hid (∀ W, Below w.heap.size w W → Calls Try.prog 6 #[.slice a l.length c, .int .i64 now] W fun e w' => ∃ a4 c4, e = .returned (.tuple #[.slice a4 (dropL l now).length c4, .int .i64 (dropN l now), .int .i64 (lookL l now)]) ∧ Lies lsE w' a4 (dropL l now) ∧ Below W.heap.size W w') := fun W hb => ldrop_any a c l now W (hs.below hb)
  have HCl : Hid (∀ W, Below w.heap.size w W → Calls Try.prog 7 #[.slice a l.length c, .int .i64 now] W fun e w' => e = .returned (.int .i64 (lookL l now)) ∧ Below W.heap.size W w') := fun W hb => rleases_any a c l now W (hs.below hb) hws
  have HCo : Hid (∀ W, Below w.heap.size w W → Calls Try.prog 8 #[.agg #[.bool p.v, .int .u64 p.hi, .int .u64 p.lo, .int .i64 p.b, .slice ka kept.length kc], .slice a l.length c, .int .i64 now] W fun e w' => e = .returned (.int .i64 (checkE p kept l now)) ∧ Below W.heap.size W w') := fun W hb => rcheck_of p hp ka kc kept a c l now W (hk.below hb) (hs.below hb) hws hc
  have HPl : Hid (∀ W, Below w.heap.size w W → Calls Try.prog 13 #[.agg #[.bool p.v, .int .u64 p.hi, .int .u64 p.lo, .int .i64 p.b, .slice ka kept.length kc]] W fun e w' => e = .returned (.int .i64 (poolE p kept)) ∧ Below W.heap.size W w') := fun W hb => pool_any p hp ka kc kept W (hk.below hb)
  have HCp : Hid (∀ W, Below w.heap.size w W → Calls Try.prog 14 #[.agg #[.bool p.v, .int .u64 p.hi, .int .u64 p.lo, .int .i64 p.b, .slice ka kept.length kc]] W fun e w' => e = .returned (.int .i64 (poolE p kept)) ∧ Below W.heap.size W w') := fun W hb => rpool_any p hp ka kc kept W (hk.below hb)
  have HCk : Hid (∀ W, Below w.heap.size w W → Calls Try.prog 15 #[.agg #[.bool p.v, .int .u64 p.hi, .int .u64 p.lo, .int .i64 p.b, .slice ka kept.length kc], .slice a l.length c, .int .i64 now] W fun e w' => e = .returned (.int .i64 (checkE p kept l now)) ∧ Below W.heap.size W w') := fun W hb => check_ls p hp ka kc kept a c l now W (hk.below hb) (hs.below hb)
  have HBe : Hid (∀ W, Calls Try.prog 12 #[] W fun e w' => e = .returned (.bool true) ∧ Below W.heap.size W w') := lbegun_any
  have HLa : Hid (∀ (a b : Option Addr) (c d : Nat) (l r : List Ls) (e : Int) (w : World), l.length ≤ 1000 → Lies lsE w a l → Lies lsE w b r → (e = 0 → r = l) → (¬ e = 0 → l = []) → Calls Try.prog 16 #[.slice a l.length c, .int .i64 e, .int .i64 e, .slice b r.length d] w fun x w' => x = .returned (.bool true) ∧ Below w.heap.size w w') := fun a b c d l r e w => lare_any a b c d l r e w
  have HWh : Hid (∀ W, Calls Try.prog 9 #[.string who] W fun e w' => e = .returned (.bool (whoB who)) ∧ w' = W) := fun W => rwho_any who W hwho
  rw [hwb] at HWh
  have hl20 := look_len hu
  have hlv : (live l now).length ≤ l.length := List.length_filter_le _ _
  have HLv : Hid (∀ W, Below w.heap.size w W → Calls Try.prog 10 #[.slice a l.length c, .int .i64 now] W fun e w' => ∃ a4 c4, e = .returned (.slice a4 (live l now).length c4) ∧ Lies lsE w' a4 (live l now) ∧ (∀ g o, a4 = some ⟨g, o, none⟩ → W.heap.size ≤ g) ∧ Below W.heap.size W w') := fun W hb => (rlive_any a c l now W hl20 (hs.below hb)).mono fun e w' ⟨v', he, ho, hb⟩ => by
    obtain ⟨a4, c4, rfl, hl⟩ := own_lies ho
    exact ⟨a4, c4, he, hl, own_after ho, hb⟩
  have hdl : dropL l now = live l now := by unfold dropL; rw [if_pos hu]
  have hdn : dropN l now = (l.length : Int) - ((live l now).length : Int) := by unfold dropN; rw [if_pos hu]
  rw [hdl, hdn] at HD
  rw [hu] at HD HCl
  obtain ⟨LV, hLV⟩ : ∃ LV, LV = live l now := ⟨_, rfl⟩
  rw [← hLV] at HD HLv hlv
  have hwr : IntKind.i64.wrap ((l.length : Int) - (LV.length : Int)) = (l.length : Int) - (LV.length : Int) := by rw [IntKind.wrap_i64]; omega
  have HLVn := Lib.hid (show LV.length ≤ 1000 by omega)
  rw [hv] at HCo HCk
  generalize poolE p kept = pe at *
  have HX5 := Lib.hid hx5
  have HB0 := Lib.hid hb0
  rw [hW0] at HG
  have HW0 := Lib.hid hW0
  obtain ⟨KN, hKN⟩ : ∃ KN, KN = kept.length := ⟨_, rfl⟩
  rw [← hKN] at HX5 HG HW0 HCo HPl HCp HCk ⊢
  obtain ⟨x0, x1, x2, x3, x4⟩ := HX5.out.cells
  rw [HW0.out] at x0 x1 x2 x3 x4
  obtain ⟨N, hN⟩ : ∃ N, N = l.length := ⟨_, rfl⟩
  rw [← hN] at HG HD HCl HCo HCk HLv hl20 hwr ⊢
  obtain ⟨LN, hLN⟩ : ∃ LN, LN = LV.length := ⟨_, rfl⟩
  rw [← hLN] at HD HLv hwr
  have HLN := Lib.hid hLN
  clear hLN
  simp only [List.length_nil, zeroAd] at HG
  clear hk hs hws hwho hc hgo hge hx5 hb0 hW0 hKN hN hdl hdn hp hLV hl20 hlv hu hv hwb
  go_enter Try.func3, Try.ntmps3
  go_wp2_with fail
  refine HG.out.mono ?_
  rintro e w1 ⟨a1, c1, rfl, hm1, hb1⟩
  rw [← HW0.out] at hb1
  have HX1 := Lib.hid ((HX5.out.below hb1).below (bal (Below.refl _ _) (.cells #[.bool false, .int .u64 0, .int .u64 0] 24)))
  have HB1 := Lib.hid (bal (btr HB0.out hb1) (.cells #[.bool false, .int .u64 0, .int .u64 0] 24))
  have HM := Lib.hid (hm1.below (bal (Below.refl _ _) (.cells #[.bool false, .int .u64 0, .int .u64 0] 24)))
  have HXb : Hid (Box3 (w1.alloc (.cells #[.bool false, .int .u64 0, .int .u64 0] 24)) w1.heap.size zeroAd) := Box3.new w1 zeroAd
  clear x0 x1 x2 x3 x4 HX5 HB0 hm1 hb1 HG HW0
  obtain ⟨xb, hxb⟩ : ∃ xb, xb = w1.heap.size := ⟨_, rfl⟩
  go_wp2_with fail
  rw [← hxb] at HXb ⊢
  generalize w1.alloc (.cells #[.bool false, .int .u64 0, .int .u64 0] 24) = w2 at *
  clear hxb
  refine (HD.out _ HB1.out).mono ?_
  rintro e w3 ⟨a3, c3, rfl, hd3, hb3⟩
  have HX3 := Lib.hid (HX1.out.below hb3)
  have HB3 := Lib.hid (btr HB1.out hb3)
  have HM3 := Lib.hid (HM.out.below hb3)
  have HXb3 := Lib.hid (HXb.out.below hb3)
  have HD3 := Lib.hid hd3
  clear HX1 HB1 HM HXb HD hd3 hb3
  obtain ⟨x0, x1, x2, x3, x4⟩ := HX3.out.cells
  have HSd := Lib.hid (keep5 (w := w3) ⟨⟨x0, x1, x2, x3, x4, HX3.out.lt⟩, Below.refl _ _⟩ (Below.refl _ _).drew)
  clear x0 x1 x2 x3 x4
  go_wp2_with fail
  go_region_held3 (fun w' => (w'.cell? ⟨w.heap.size, 0, none⟩ = some (.bool p.v) ∧ w'.cell? ⟨w.heap.size, 1, none⟩ = some (.int .u64 p.hi) ∧ w'.cell? ⟨w.heap.size, 2, none⟩ = some (.int .u64 p.lo) ∧ w'.cell? ⟨w.heap.size, 3, none⟩ = some (.int .i64 p.b) ∧ w'.cell? ⟨w.heap.size, 4, none⟩ = some (.slice ka KN kc) ∧ w.heap.size < w'.heap.size) ∧ Below w3.heap.size w3 w')
    (first | with_reducible exact HSd.out | fail)
    (first
      | (go_at_call 7; refine (HCl.out _ (btr HB3.out HSd.out.2)).mono ?_; rintro e wx ⟨rfl, hb⟩; replace HSd := Lib.hid (keep5 HSd.out hb); clear hb)
      | (go_at_call 8; refine (HCo.out _ (btr HB3.out HSd.out.2)).mono ?_; rintro e wx ⟨rfl, hb⟩; replace HSd := Lib.hid (keep5 HSd.out hb); clear hb))
  have HB4 := Lib.hid (btr HB3.out HSd.out.2)
  have HX4 := Lib.hid (HX3.out.below HSd.out.2)
  have HM4 := Lib.hid (HM3.out.below HSd.out.2)
  have HXb4 := Lib.hid (HXb3.out.below HSd.out.2)
  have HD4 := Lib.hid (HD3.out.below HSd.out.2)
  clear HX3 HB3 HM3 HXb3 HD3 HSd HCl HCo
  go_wp2_with fail
  refine (HWh.out _).mono ?_
  rintro e w5 ⟨rfl, rfl⟩
  have HXt : Hid (Box3 (w5.alloc (.cells #[.bool false, .int .u64 0, .int .u64 0] 24)) w5.heap.size zeroAd) := Box3.new w5 zeroAd
  have HB5 := Lib.hid (bal HB4.out (.cells #[.bool false, .int .u64 0, .int .u64 0] 24))
  have HX5 := Lib.hid (HX4.out.below (bal (Below.refl _ _) (.cells #[.bool false, .int .u64 0, .int .u64 0] 24)))
  have HM5 := Lib.hid (HM4.out.below (bal (Below.refl _ _) (.cells #[.bool false, .int .u64 0, .int .u64 0] 24)))
  have HXb5 := Lib.hid (HXb4.out.below (bal (Below.refl _ _) (.cells #[.bool false, .int .u64 0, .int .u64 0] 24)))
  have HD5 := Lib.hid (HD4.out.below (bal (Below.refl _ _) (.cells #[.bool false, .int .u64 0, .int .u64 0] 24)))
  have HTm := Lib.hid HM4.out.before
  have HTd := Lib.hid HD4.out.before
  have HTx := Lib.hid HX4.out.lt
  have HTb := Lib.hid HXb4.out.lt
  have HTs : Hid (w5.heap.size < (w5.alloc (.cells #[.bool false, .int .u64 0, .int .u64 0] 24)).heap.size) := by rw [Hid]; simp
  clear HB4 HX4 HM4 HXb4 HD4
  obtain ⟨tb, htb⟩ : ∃ tb, tb = w5.heap.size := ⟨_, rfl⟩
  go_wp2_with fail
  rw [← htb] at HXt HTm HTd HTx HTb HTs ⊢
  generalize w5.alloc (.cells #[.bool false, .int .u64 0, .int .u64 0] 24) = w6 at *
  clear htb
  refine (HLv.out _ HB5.out).mono ?_
  rintro e w7 ⟨a7, c7, rfl, hl7, hn7, hb7⟩
  replace HB5 := Lib.hid (btr HB5.out hb7)
  replace HX5 := Lib.hid (HX5.out.below hb7)
  replace HM5 := Lib.hid (HM5.out.below hb7)
  replace HXb5 := Lib.hid (HXb5.out.below hb7)
  replace HD5 := Lib.hid (HD5.out.below hb7)
  replace HXt := Lib.hid (HXt.out.below hb7)
  have HL7 := Lib.hid hl7
  have HN7 := Lib.hid hn7
  have HGt : Hid (w6.heap.size ≤ w7.heap.size) := hb7.size
  clear hl7 hn7 hb7 HLv
  have HSd := Lib.hid (keepT (w := w7) ⟨⟨HX5.out.cells.1, HX5.out.cells.2.1, HX5.out.cells.2.2.1, HX5.out.cells.2.2.2.1, HX5.out.cells.2.2.2.2, HX5.out.lt⟩, ⟨HXb5.out.cells.1.1, HXb5.out.cells.1.2.1, HXb5.out.cells.1.2.2, HXb5.out.lt⟩, ⟨HXt.out.cells.1.1, HXt.out.cells.1.2.1, HXt.out.cells.1.2.2, HXt.out.lt⟩, Below.refl _ _⟩ (Below.refl _ _).drew)
  simp only [zeroAd] at HSd
  have HL1 : Hid (∀ W, Below w7.heap.size w7 W → Calls Try.prog 16 #[.slice a1 0 c1, .int .i64 1, .int .i64 1, .slice none 0 0] W fun x w' => x = .returned (.bool true) ∧ Below W.heap.size W w') := fun W hb => HLa.out a1 none c1 0 [] [] 1 W (by simp) (HM5.out.below hb) (Lies.nil _ _ _) (fun _ => rfl) (fun _ => rfl)
  have HL2 : Hid (∀ W, Below w7.heap.size w7 W → Calls Try.prog 16 #[.slice a3 LN c3, .int .i64 0, .int .i64 0, .slice a7 LN c7] W fun x w' => x = .returned (.bool true) ∧ Below W.heap.size W w') := fun W hb => by
    rw [HLN.out]
    exact HLa.out a3 a7 c3 c7 LV LV 0 W HLVn.out (HD5.out.below hb) (HL7.out.below hb) (fun _ => rfl) (fun h => absurd rfl h)
  clear HX5 HXb5 HXt HLa
  go_wp2_with fail
  go_region_held3 (fun w' => (w'.cell? ⟨w.heap.size, 0, none⟩ = some (.bool p.v) ∧ w'.cell? ⟨w.heap.size, 1, none⟩ = some (.int .u64 p.hi) ∧ w'.cell? ⟨w.heap.size, 2, none⟩ = some (.int .u64 p.lo) ∧ w'.cell? ⟨w.heap.size, 3, none⟩ = some (.int .i64 p.b) ∧ w'.cell? ⟨w.heap.size, 4, none⟩ = some (.slice ka KN kc) ∧ w.heap.size < w'.heap.size) ∧ (w'.cell? ⟨xb, 0, none⟩ = some (.bool false) ∧ w'.cell? ⟨xb, 1, none⟩ = some (.int .u64 0) ∧ w'.cell? ⟨xb, 2, none⟩ = some (.int .u64 0) ∧ xb < w'.heap.size) ∧ (w'.cell? ⟨tb, 0, none⟩ = some (.bool false) ∧ w'.cell? ⟨tb, 1, none⟩ = some (.int .u64 0) ∧ w'.cell? ⟨tb, 2, none⟩ = some (.int .u64 0) ∧ tb < w'.heap.size) ∧ Below w7.heap.size w7 w')
    (first | with_reducible exact HSd.out | fail)
    (first
      | (go_at_call 12; refine (HBe.out _).mono ?_; rintro e wx ⟨rfl, hb⟩; replace HSd := Lib.hid (keepT HSd.out hb); clear hb)
      | (go_at_call 13; refine (HPl.out _ (btr HB5.out HSd.out.2.2.2)).mono ?_; rintro e wx ⟨rfl, hb⟩; replace HSd := Lib.hid (keepT HSd.out hb); clear hb)
      | (go_at_call 14; refine (HCp.out _ (btr HB5.out HSd.out.2.2.2)).mono ?_; rintro e wx ⟨rfl, hb⟩; replace HSd := Lib.hid (keepT HSd.out hb); clear hb)
      | (go_at_call 15; refine (HCk.out _ (btr HB5.out HSd.out.2.2.2)).mono ?_; rintro e wx ⟨rfl, hb⟩; replace HSd := Lib.hid (keepT HSd.out hb); clear hb)
      | (go_at_call 16; (with_reducible refine (HL1.out _ HSd.out.2.2.2).mono ?_); rintro e wx ⟨rfl, hb⟩; replace HSd := Lib.hid (keepT HSd.out hb); clear hb)
      | (go_at_call 16; (with_reducible refine (HL2.out _ HSd.out.2.2.2).mono ?_); rintro e wx ⟨rfl, hb⟩; replace HSd := Lib.hid (keepT HSd.out hb); clear hb))
  have HBz : Hid (Below w.heap.size w wx) := btr HB5.out HSd.out.2.2.2
  clear HSd
  go_wp2_with fail
  go_ret
  exact ⟨rfl, HBz.out⟩
set_option maxHeartbeats 16000000 in
set_option maxRecDepth 100000 in
theorem lt_t1 (p : Pf) (hp : p.Ok) (ka : Option Addr) (kc : Nat) (kept : List Ad) (a : Option Addr) (c : Nat) (l : List Ls) (who : ByteArray) (now ttl : Int) (w : World) (hk : Lies adE w ka kept) (hs : Lies lsE w a l) (hws : ∀ x ∈ l, x.who.size ≤ maxLen) (hwho : who.size ≤ maxLen) (hc : l.length ≤ c) (hu : lookL l now = 0) (hv : checkE p kept l now = 0) (hwb : whoB who = true) (ht : ttl < 1) :
    Calls Try.prog 3 #[.agg #[.bool p.v, .int .u64 p.hi, .int .u64 p.lo, .int .i64 p.b, .slice ka kept.length kc], .slice a l.length c, .string who, .int .i64 now, .int .i64 ttl] w fun e w' => e = .returned (.bool true) ∧ Below w.heap.size w w' := by
  have hge : grantE p kept l who now ttl = 3 := by unfold grantE; rw [if_pos hv, if_pos hwb, if_pos (.inl ht)]
  have hgo : gOut p kept l who now ttl = (3, [], zeroAd) := by rw [gOut_bad (by rw [hge]; decide), hge]
  obtain ⟨W0, hW0⟩ : ∃ W0, W0 = w.alloc (.cells #[.bool p.v, .int .u64 p.hi, .int .u64 p.lo, .int .i64 p.b, .slice ka kept.length kc] 29) := ⟨_, rfl⟩
  have hb0 : Below w.heap.size w W0 := by rw [hW0]; exact bal (Below.refl _ _) _
  have hx5 : Box5 W0 w.heap.size p (.slice ka kept.length kc) := by rw [hW0]; exact Box5.new w p _
  have HG := Lib.hid (lgrant_any p hp ka kc kept a c l who now ttl W0 (hk.below hb0) (hs.below hb0))
  rw [hgo] at HG
  have HD : Hid (∀ W, Below w.heap.size w W → Calls Try.prog 6 #[.slice a l.length c, .int .i64 now] W fun e w' => ∃ a4 c4, e = .returned (.tuple #[.slice a4 (dropL l now).length c4, .int .i64 (dropN l now), .int .i64 (lookL l now)]) ∧ Lies lsE w' a4 (dropL l now) ∧ Below W.heap.size W w') := fun W hb => ldrop_any a c l now W (hs.below hb)
  have HCl : Hid (∀ W, Below w.heap.size w W → Calls Try.prog 7 #[.slice a l.length c, .int .i64 now] W fun e w' => e = .returned (.int .i64 (lookL l now)) ∧ Below W.heap.size W w') := fun W hb => rleases_any a c l now W (hs.below hb) hws
  have HCo : Hid (∀ W, Below w.heap.size w W → Calls Try.prog 8 #[.agg #[.bool p.v, .int .u64 p.hi, .int .u64 p.lo, .int .i64 p.b, .slice ka kept.length kc], .slice a l.length c, .int .i64 now] W fun e w' => e = .returned (.int .i64 (checkE p kept l now)) ∧ Below W.heap.size W w') := fun W hb => rcheck_of p hp ka kc kept a c l now W (hk.below hb) (hs.below hb) hws hc
  have HPl : Hid (∀ W, Below w.heap.size w W → Calls Try.prog 13 #[.agg #[.bool p.v, .int .u64 p.hi, .int .u64 p.lo, .int .i64 p.b, .slice ka kept.length kc]] W fun e w' => e = .returned (.int .i64 (poolE p kept)) ∧ Below W.heap.size W w') := fun W hb => pool_any p hp ka kc kept W (hk.below hb)
  have HCp : Hid (∀ W, Below w.heap.size w W → Calls Try.prog 14 #[.agg #[.bool p.v, .int .u64 p.hi, .int .u64 p.lo, .int .i64 p.b, .slice ka kept.length kc]] W fun e w' => e = .returned (.int .i64 (poolE p kept)) ∧ Below W.heap.size W w') := fun W hb => rpool_any p hp ka kc kept W (hk.below hb)
  have HCk : Hid (∀ W, Below w.heap.size w W → Calls Try.prog 15 #[.agg #[.bool p.v, .int .u64 p.hi, .int .u64 p.lo, .int .i64 p.b, .slice ka kept.length kc], .slice a l.length c, .int .i64 now] W fun e w' => e = .returned (.int .i64 (checkE p kept l now)) ∧ Below W.heap.size W w') := fun W hb => check_ls p hp ka kc kept a c l now W (hk.below hb) (hs.below hb)
  have HBe : Hid (∀ W, Calls Try.prog 12 #[] W fun e w' => e = .returned (.bool true) ∧ Below W.heap.size W w') := lbegun_any
  have HLa : Hid (∀ (a b : Option Addr) (c d : Nat) (l r : List Ls) (e : Int) (w : World), l.length ≤ 1000 → Lies lsE w a l → Lies lsE w b r → (e = 0 → r = l) → (¬ e = 0 → l = []) → Calls Try.prog 16 #[.slice a l.length c, .int .i64 e, .int .i64 e, .slice b r.length d] w fun x w' => x = .returned (.bool true) ∧ Below w.heap.size w w') := fun a b c d l r e w => lare_any a b c d l r e w
  have HWh : Hid (∀ W, Calls Try.prog 9 #[.string who] W fun e w' => e = .returned (.bool (whoB who)) ∧ w' = W) := fun W => rwho_any who W hwho
  rw [hwb] at HWh
  have hl20 := look_len hu
  have hlv : (live l now).length ≤ l.length := List.length_filter_le _ _
  have HLv : Hid (∀ W, Below w.heap.size w W → Calls Try.prog 10 #[.slice a l.length c, .int .i64 now] W fun e w' => ∃ a4 c4, e = .returned (.slice a4 (live l now).length c4) ∧ Lies lsE w' a4 (live l now) ∧ (∀ g o, a4 = some ⟨g, o, none⟩ → W.heap.size ≤ g) ∧ Below W.heap.size W w') := fun W hb => (rlive_any a c l now W hl20 (hs.below hb)).mono fun e w' ⟨v', he, ho, hb⟩ => by
    obtain ⟨a4, c4, rfl, hl⟩ := own_lies ho
    exact ⟨a4, c4, he, hl, own_after ho, hb⟩
  have hdl : dropL l now = live l now := by unfold dropL; rw [if_pos hu]
  have hdn : dropN l now = (l.length : Int) - ((live l now).length : Int) := by unfold dropN; rw [if_pos hu]
  rw [hdl, hdn] at HD
  rw [hu] at HD HCl
  obtain ⟨LV, hLV⟩ : ∃ LV, LV = live l now := ⟨_, rfl⟩
  rw [← hLV] at HD HLv hlv
  have hwr : IntKind.i64.wrap ((l.length : Int) - (LV.length : Int)) = (l.length : Int) - (LV.length : Int) := by rw [IntKind.wrap_i64]; omega
  have HLVn := Lib.hid (show LV.length ≤ 1000 by omega)
  rw [hv] at HCo HCk
  generalize poolE p kept = pe at *
  have HX5 := Lib.hid hx5
  have HB0 := Lib.hid hb0
  rw [hW0] at HG
  have HW0 := Lib.hid hW0
  obtain ⟨KN, hKN⟩ : ∃ KN, KN = kept.length := ⟨_, rfl⟩
  rw [← hKN] at HX5 HG HW0 HCo HPl HCp HCk ⊢
  obtain ⟨x0, x1, x2, x3, x4⟩ := HX5.out.cells
  rw [HW0.out] at x0 x1 x2 x3 x4
  obtain ⟨N, hN⟩ : ∃ N, N = l.length := ⟨_, rfl⟩
  rw [← hN] at HG HD HCl HCo HCk HLv hl20 hwr ⊢
  obtain ⟨LN, hLN⟩ : ∃ LN, LN = LV.length := ⟨_, rfl⟩
  rw [← hLN] at HD HLv hwr
  have HLN := Lib.hid hLN
  clear hLN
  simp only [List.length_nil, zeroAd] at HG
  clear hk hs hws hwho hc hgo hge hx5 hb0 hW0 hKN hN hdl hdn hp hLV hl20 hlv hu hv hwb
  have hd1 : decide (ttl < 1) = true := decide_eq_true ht
  go_enter Try.func3, Try.ntmps3
  go_wp2_with fail
  refine HG.out.mono ?_
  rintro e w1 ⟨a1, c1, rfl, hm1, hb1⟩
  rw [← HW0.out] at hb1
  have HX1 := Lib.hid ((HX5.out.below hb1).below (bal (Below.refl _ _) (.cells #[.bool false, .int .u64 0, .int .u64 0] 24)))
  have HB1 := Lib.hid (bal (btr HB0.out hb1) (.cells #[.bool false, .int .u64 0, .int .u64 0] 24))
  have HM := Lib.hid (hm1.below (bal (Below.refl _ _) (.cells #[.bool false, .int .u64 0, .int .u64 0] 24)))
  have HXb : Hid (Box3 (w1.alloc (.cells #[.bool false, .int .u64 0, .int .u64 0] 24)) w1.heap.size zeroAd) := Box3.new w1 zeroAd
  clear x0 x1 x2 x3 x4 HX5 HB0 hm1 hb1 HG HW0
  obtain ⟨xb, hxb⟩ : ∃ xb, xb = w1.heap.size := ⟨_, rfl⟩
  go_wp2_with fail
  rw [← hxb] at HXb ⊢
  generalize w1.alloc (.cells #[.bool false, .int .u64 0, .int .u64 0] 24) = w2 at *
  clear hxb
  refine (HD.out _ HB1.out).mono ?_
  rintro e w3 ⟨a3, c3, rfl, hd3, hb3⟩
  have HX3 := Lib.hid (HX1.out.below hb3)
  have HB3 := Lib.hid (btr HB1.out hb3)
  have HM3 := Lib.hid (HM.out.below hb3)
  have HXb3 := Lib.hid (HXb.out.below hb3)
  have HD3 := Lib.hid hd3
  clear HX1 HB1 HM HXb HD hd3 hb3
  obtain ⟨x0, x1, x2, x3, x4⟩ := HX3.out.cells
  have HSd := Lib.hid (keep5 (w := w3) ⟨⟨x0, x1, x2, x3, x4, HX3.out.lt⟩, Below.refl _ _⟩ (Below.refl _ _).drew)
  clear x0 x1 x2 x3 x4
  go_wp2_with fail
  go_region_held3 (fun w' => (w'.cell? ⟨w.heap.size, 0, none⟩ = some (.bool p.v) ∧ w'.cell? ⟨w.heap.size, 1, none⟩ = some (.int .u64 p.hi) ∧ w'.cell? ⟨w.heap.size, 2, none⟩ = some (.int .u64 p.lo) ∧ w'.cell? ⟨w.heap.size, 3, none⟩ = some (.int .i64 p.b) ∧ w'.cell? ⟨w.heap.size, 4, none⟩ = some (.slice ka KN kc) ∧ w.heap.size < w'.heap.size) ∧ Below w3.heap.size w3 w')
    (first | with_reducible exact HSd.out | fail)
    (first
      | (go_at_call 7; refine (HCl.out _ (btr HB3.out HSd.out.2)).mono ?_; rintro e wx ⟨rfl, hb⟩; replace HSd := Lib.hid (keep5 HSd.out hb); clear hb)
      | (go_at_call 8; refine (HCo.out _ (btr HB3.out HSd.out.2)).mono ?_; rintro e wx ⟨rfl, hb⟩; replace HSd := Lib.hid (keep5 HSd.out hb); clear hb))
  have HB4 := Lib.hid (btr HB3.out HSd.out.2)
  have HX4 := Lib.hid (HX3.out.below HSd.out.2)
  have HM4 := Lib.hid (HM3.out.below HSd.out.2)
  have HXb4 := Lib.hid (HXb3.out.below HSd.out.2)
  have HD4 := Lib.hid (HD3.out.below HSd.out.2)
  clear HX3 HB3 HM3 HXb3 HD3 HSd HCl HCo
  go_wp2_with fail
  refine (HWh.out _).mono ?_
  rintro e w5 ⟨rfl, rfl⟩
  have HXt : Hid (Box3 (w5.alloc (.cells #[.bool false, .int .u64 0, .int .u64 0] 24)) w5.heap.size zeroAd) := Box3.new w5 zeroAd
  have HB5 := Lib.hid (bal HB4.out (.cells #[.bool false, .int .u64 0, .int .u64 0] 24))
  have HX5 := Lib.hid (HX4.out.below (bal (Below.refl _ _) (.cells #[.bool false, .int .u64 0, .int .u64 0] 24)))
  have HM5 := Lib.hid (HM4.out.below (bal (Below.refl _ _) (.cells #[.bool false, .int .u64 0, .int .u64 0] 24)))
  have HXb5 := Lib.hid (HXb4.out.below (bal (Below.refl _ _) (.cells #[.bool false, .int .u64 0, .int .u64 0] 24)))
  have HD5 := Lib.hid (HD4.out.below (bal (Below.refl _ _) (.cells #[.bool false, .int .u64 0, .int .u64 0] 24)))
  have HTm := Lib.hid HM4.out.before
  have HTd := Lib.hid HD4.out.before
  have HTx := Lib.hid HX4.out.lt
  have HTb := Lib.hid HXb4.out.lt
  have HTs : Hid (w5.heap.size < (w5.alloc (.cells #[.bool false, .int .u64 0, .int .u64 0] 24)).heap.size) := by rw [Hid]; simp
  clear HB4 HX4 HM4 HXb4 HD4
  obtain ⟨tb, htb⟩ : ∃ tb, tb = w5.heap.size := ⟨_, rfl⟩
  go_wp2_with fail
  rw [← htb] at HXt HTm HTd HTx HTb HTs ⊢
  generalize w5.alloc (.cells #[.bool false, .int .u64 0, .int .u64 0] 24) = w6 at *
  clear htb
  refine (HLv.out _ HB5.out).mono ?_
  rintro e w7 ⟨a7, c7, rfl, hl7, hn7, hb7⟩
  replace HB5 := Lib.hid (btr HB5.out hb7)
  replace HX5 := Lib.hid (HX5.out.below hb7)
  replace HM5 := Lib.hid (HM5.out.below hb7)
  replace HXb5 := Lib.hid (HXb5.out.below hb7)
  replace HD5 := Lib.hid (HD5.out.below hb7)
  replace HXt := Lib.hid (HXt.out.below hb7)
  have HL7 := Lib.hid hl7
  have HN7 := Lib.hid hn7
  have HGt : Hid (w6.heap.size ≤ w7.heap.size) := hb7.size
  clear hl7 hn7 hb7 HLv
  have HSd := Lib.hid (keepT (w := w7) ⟨⟨HX5.out.cells.1, HX5.out.cells.2.1, HX5.out.cells.2.2.1, HX5.out.cells.2.2.2.1, HX5.out.cells.2.2.2.2, HX5.out.lt⟩, ⟨HXb5.out.cells.1.1, HXb5.out.cells.1.2.1, HXb5.out.cells.1.2.2, HXb5.out.lt⟩, ⟨HXt.out.cells.1.1, HXt.out.cells.1.2.1, HXt.out.cells.1.2.2, HXt.out.lt⟩, Below.refl _ _⟩ (Below.refl _ _).drew)
  simp only [zeroAd] at HSd
  have HL1 : Hid (∀ W, Below w7.heap.size w7 W → Calls Try.prog 16 #[.slice a1 0 c1, .int .i64 3, .int .i64 3, .slice none 0 0] W fun x w' => x = .returned (.bool true) ∧ Below W.heap.size W w') := fun W hb => HLa.out a1 none c1 0 [] [] 3 W (by simp) (HM5.out.below hb) (Lies.nil _ _ _) (fun _ => rfl) (fun _ => rfl)
  have HL2 : Hid (∀ W, Below w7.heap.size w7 W → Calls Try.prog 16 #[.slice a3 LN c3, .int .i64 0, .int .i64 0, .slice a7 LN c7] W fun x w' => x = .returned (.bool true) ∧ Below W.heap.size W w') := fun W hb => by
    rw [HLN.out]
    exact HLa.out a3 a7 c3 c7 LV LV 0 W HLVn.out (HD5.out.below hb) (HL7.out.below hb) (fun _ => rfl) (fun h => absurd rfl h)
  clear HX5 HXb5 HXt HLa
  go_wp2_with fail
  go_region_held3 (fun w' => (w'.cell? ⟨w.heap.size, 0, none⟩ = some (.bool p.v) ∧ w'.cell? ⟨w.heap.size, 1, none⟩ = some (.int .u64 p.hi) ∧ w'.cell? ⟨w.heap.size, 2, none⟩ = some (.int .u64 p.lo) ∧ w'.cell? ⟨w.heap.size, 3, none⟩ = some (.int .i64 p.b) ∧ w'.cell? ⟨w.heap.size, 4, none⟩ = some (.slice ka KN kc) ∧ w.heap.size < w'.heap.size) ∧ (w'.cell? ⟨xb, 0, none⟩ = some (.bool false) ∧ w'.cell? ⟨xb, 1, none⟩ = some (.int .u64 0) ∧ w'.cell? ⟨xb, 2, none⟩ = some (.int .u64 0) ∧ xb < w'.heap.size) ∧ (w'.cell? ⟨tb, 0, none⟩ = some (.bool false) ∧ w'.cell? ⟨tb, 1, none⟩ = some (.int .u64 0) ∧ w'.cell? ⟨tb, 2, none⟩ = some (.int .u64 0) ∧ tb < w'.heap.size) ∧ Below w7.heap.size w7 w')
    (first | with_reducible exact HSd.out | fail)
    (first
      | (go_at_call 12; refine (HBe.out _).mono ?_; rintro e wx ⟨rfl, hb⟩; replace HSd := Lib.hid (keepT HSd.out hb); clear hb)
      | (go_at_call 13; refine (HPl.out _ (btr HB5.out HSd.out.2.2.2)).mono ?_; rintro e wx ⟨rfl, hb⟩; replace HSd := Lib.hid (keepT HSd.out hb); clear hb)
      | (go_at_call 14; refine (HCp.out _ (btr HB5.out HSd.out.2.2.2)).mono ?_; rintro e wx ⟨rfl, hb⟩; replace HSd := Lib.hid (keepT HSd.out hb); clear hb)
      | (go_at_call 15; refine (HCk.out _ (btr HB5.out HSd.out.2.2.2)).mono ?_; rintro e wx ⟨rfl, hb⟩; replace HSd := Lib.hid (keepT HSd.out hb); clear hb)
      | (go_at_call 16; (with_reducible refine (HL1.out _ HSd.out.2.2.2).mono ?_); rintro e wx ⟨rfl, hb⟩; replace HSd := Lib.hid (keepT HSd.out hb); clear hb)
      | (go_at_call 16; (with_reducible refine (HL2.out _ HSd.out.2.2.2).mono ?_); rintro e wx ⟨rfl, hb⟩; replace HSd := Lib.hid (keepT HSd.out hb); clear hb))
  have HBz : Hid (Below w.heap.size w wx) := btr HB5.out HSd.out.2.2.2
  clear HSd
  go_wp2_with fail
  go_ret
  exact ⟨rfl, HBz.out⟩
set_option maxHeartbeats 16000000 in
set_option maxRecDepth 100000 in
theorem lt_t2 (p : Pf) (hp : p.Ok) (ka : Option Addr) (kc : Nat) (kept : List Ad) (a : Option Addr) (c : Nat) (l : List Ls) (who : ByteArray) (now ttl : Int) (w : World) (hk : Lies adE w ka kept) (hs : Lies lsE w a l) (hws : ∀ x ∈ l, x.who.size ≤ maxLen) (hwho : who.size ≤ maxLen) (hc : l.length ≤ c) (hu : lookL l now = 0) (hv : checkE p kept l now = 0) (hwb : whoB who = true) (ht : ¬ ttl < 1) (ht2 : 500 < ttl) :
    Calls Try.prog 3 #[.agg #[.bool p.v, .int .u64 p.hi, .int .u64 p.lo, .int .i64 p.b, .slice ka kept.length kc], .slice a l.length c, .string who, .int .i64 now, .int .i64 ttl] w fun e w' => e = .returned (.bool true) ∧ Below w.heap.size w w' := by
  have hge : grantE p kept l who now ttl = 3 := by unfold grantE; rw [if_pos hv, if_pos hwb, if_pos (.inr ht2)]
  have hgo : gOut p kept l who now ttl = (3, [], zeroAd) := by rw [gOut_bad (by rw [hge]; decide), hge]
  obtain ⟨W0, hW0⟩ : ∃ W0, W0 = w.alloc (.cells #[.bool p.v, .int .u64 p.hi, .int .u64 p.lo, .int .i64 p.b, .slice ka kept.length kc] 29) := ⟨_, rfl⟩
  have hb0 : Below w.heap.size w W0 := by rw [hW0]; exact bal (Below.refl _ _) _
  have hx5 : Box5 W0 w.heap.size p (.slice ka kept.length kc) := by rw [hW0]; exact Box5.new w p _
  have HG := Lib.hid (lgrant_any p hp ka kc kept a c l who now ttl W0 (hk.below hb0) (hs.below hb0))
  rw [hgo] at HG
  have HD : Hid (∀ W, Below w.heap.size w W → Calls Try.prog 6 #[.slice a l.length c, .int .i64 now] W fun e w' => ∃ a4 c4, e = .returned (.tuple #[.slice a4 (dropL l now).length c4, .int .i64 (dropN l now), .int .i64 (lookL l now)]) ∧ Lies lsE w' a4 (dropL l now) ∧ Below W.heap.size W w') := fun W hb => ldrop_any a c l now W (hs.below hb)
  have HCl : Hid (∀ W, Below w.heap.size w W → Calls Try.prog 7 #[.slice a l.length c, .int .i64 now] W fun e w' => e = .returned (.int .i64 (lookL l now)) ∧ Below W.heap.size W w') := fun W hb => rleases_any a c l now W (hs.below hb) hws
  have HCo : Hid (∀ W, Below w.heap.size w W → Calls Try.prog 8 #[.agg #[.bool p.v, .int .u64 p.hi, .int .u64 p.lo, .int .i64 p.b, .slice ka kept.length kc], .slice a l.length c, .int .i64 now] W fun e w' => e = .returned (.int .i64 (checkE p kept l now)) ∧ Below W.heap.size W w') := fun W hb => rcheck_of p hp ka kc kept a c l now W (hk.below hb) (hs.below hb) hws hc
  have HPl : Hid (∀ W, Below w.heap.size w W → Calls Try.prog 13 #[.agg #[.bool p.v, .int .u64 p.hi, .int .u64 p.lo, .int .i64 p.b, .slice ka kept.length kc]] W fun e w' => e = .returned (.int .i64 (poolE p kept)) ∧ Below W.heap.size W w') := fun W hb => pool_any p hp ka kc kept W (hk.below hb)
  have HCp : Hid (∀ W, Below w.heap.size w W → Calls Try.prog 14 #[.agg #[.bool p.v, .int .u64 p.hi, .int .u64 p.lo, .int .i64 p.b, .slice ka kept.length kc]] W fun e w' => e = .returned (.int .i64 (poolE p kept)) ∧ Below W.heap.size W w') := fun W hb => rpool_any p hp ka kc kept W (hk.below hb)
  have HCk : Hid (∀ W, Below w.heap.size w W → Calls Try.prog 15 #[.agg #[.bool p.v, .int .u64 p.hi, .int .u64 p.lo, .int .i64 p.b, .slice ka kept.length kc], .slice a l.length c, .int .i64 now] W fun e w' => e = .returned (.int .i64 (checkE p kept l now)) ∧ Below W.heap.size W w') := fun W hb => check_ls p hp ka kc kept a c l now W (hk.below hb) (hs.below hb)
  have HBe : Hid (∀ W, Calls Try.prog 12 #[] W fun e w' => e = .returned (.bool true) ∧ Below W.heap.size W w') := lbegun_any
  have HLa : Hid (∀ (a b : Option Addr) (c d : Nat) (l r : List Ls) (e : Int) (w : World), l.length ≤ 1000 → Lies lsE w a l → Lies lsE w b r → (e = 0 → r = l) → (¬ e = 0 → l = []) → Calls Try.prog 16 #[.slice a l.length c, .int .i64 e, .int .i64 e, .slice b r.length d] w fun x w' => x = .returned (.bool true) ∧ Below w.heap.size w w') := fun a b c d l r e w => lare_any a b c d l r e w
  have HWh : Hid (∀ W, Calls Try.prog 9 #[.string who] W fun e w' => e = .returned (.bool (whoB who)) ∧ w' = W) := fun W => rwho_any who W hwho
  rw [hwb] at HWh
  have hl20 := look_len hu
  have hlv : (live l now).length ≤ l.length := List.length_filter_le _ _
  have HLv : Hid (∀ W, Below w.heap.size w W → Calls Try.prog 10 #[.slice a l.length c, .int .i64 now] W fun e w' => ∃ a4 c4, e = .returned (.slice a4 (live l now).length c4) ∧ Lies lsE w' a4 (live l now) ∧ (∀ g o, a4 = some ⟨g, o, none⟩ → W.heap.size ≤ g) ∧ Below W.heap.size W w') := fun W hb => (rlive_any a c l now W hl20 (hs.below hb)).mono fun e w' ⟨v', he, ho, hb⟩ => by
    obtain ⟨a4, c4, rfl, hl⟩ := own_lies ho
    exact ⟨a4, c4, he, hl, own_after ho, hb⟩
  have hdl : dropL l now = live l now := by unfold dropL; rw [if_pos hu]
  have hdn : dropN l now = (l.length : Int) - ((live l now).length : Int) := by unfold dropN; rw [if_pos hu]
  rw [hdl, hdn] at HD
  rw [hu] at HD HCl
  obtain ⟨LV, hLV⟩ : ∃ LV, LV = live l now := ⟨_, rfl⟩
  rw [← hLV] at HD HLv hlv
  have hwr : IntKind.i64.wrap ((l.length : Int) - (LV.length : Int)) = (l.length : Int) - (LV.length : Int) := by rw [IntKind.wrap_i64]; omega
  have HLVn := Lib.hid (show LV.length ≤ 1000 by omega)
  rw [hv] at HCo HCk
  generalize poolE p kept = pe at *
  have HX5 := Lib.hid hx5
  have HB0 := Lib.hid hb0
  rw [hW0] at HG
  have HW0 := Lib.hid hW0
  obtain ⟨KN, hKN⟩ : ∃ KN, KN = kept.length := ⟨_, rfl⟩
  rw [← hKN] at HX5 HG HW0 HCo HPl HCp HCk ⊢
  obtain ⟨x0, x1, x2, x3, x4⟩ := HX5.out.cells
  rw [HW0.out] at x0 x1 x2 x3 x4
  obtain ⟨N, hN⟩ : ∃ N, N = l.length := ⟨_, rfl⟩
  rw [← hN] at HG HD HCl HCo HCk HLv hl20 hwr ⊢
  obtain ⟨LN, hLN⟩ : ∃ LN, LN = LV.length := ⟨_, rfl⟩
  rw [← hLN] at HD HLv hwr
  have HLN := Lib.hid hLN
  clear hLN
  simp only [List.length_nil, zeroAd] at HG
  clear hk hs hws hwho hc hgo hge hx5 hb0 hW0 hKN hN hdl hdn hp hLV hl20 hlv hu hv hwb
  have hd1 : decide (ttl < 1) = false := decide_eq_false ht
  have hd2 : decide (500 < ttl) = true := decide_eq_true ht2
  go_enter Try.func3, Try.ntmps3
  go_wp2_with fail
  refine HG.out.mono ?_
  rintro e w1 ⟨a1, c1, rfl, hm1, hb1⟩
  rw [← HW0.out] at hb1
  have HX1 := Lib.hid ((HX5.out.below hb1).below (bal (Below.refl _ _) (.cells #[.bool false, .int .u64 0, .int .u64 0] 24)))
  have HB1 := Lib.hid (bal (btr HB0.out hb1) (.cells #[.bool false, .int .u64 0, .int .u64 0] 24))
  have HM := Lib.hid (hm1.below (bal (Below.refl _ _) (.cells #[.bool false, .int .u64 0, .int .u64 0] 24)))
  have HXb : Hid (Box3 (w1.alloc (.cells #[.bool false, .int .u64 0, .int .u64 0] 24)) w1.heap.size zeroAd) := Box3.new w1 zeroAd
  clear x0 x1 x2 x3 x4 HX5 HB0 hm1 hb1 HG HW0
  obtain ⟨xb, hxb⟩ : ∃ xb, xb = w1.heap.size := ⟨_, rfl⟩
  go_wp2_with fail
  rw [← hxb] at HXb ⊢
  generalize w1.alloc (.cells #[.bool false, .int .u64 0, .int .u64 0] 24) = w2 at *
  clear hxb
  refine (HD.out _ HB1.out).mono ?_
  rintro e w3 ⟨a3, c3, rfl, hd3, hb3⟩
  have HX3 := Lib.hid (HX1.out.below hb3)
  have HB3 := Lib.hid (btr HB1.out hb3)
  have HM3 := Lib.hid (HM.out.below hb3)
  have HXb3 := Lib.hid (HXb.out.below hb3)
  have HD3 := Lib.hid hd3
  clear HX1 HB1 HM HXb HD hd3 hb3
  obtain ⟨x0, x1, x2, x3, x4⟩ := HX3.out.cells
  have HSd := Lib.hid (keep5 (w := w3) ⟨⟨x0, x1, x2, x3, x4, HX3.out.lt⟩, Below.refl _ _⟩ (Below.refl _ _).drew)
  clear x0 x1 x2 x3 x4
  go_wp2_with fail
  go_region_held3 (fun w' => (w'.cell? ⟨w.heap.size, 0, none⟩ = some (.bool p.v) ∧ w'.cell? ⟨w.heap.size, 1, none⟩ = some (.int .u64 p.hi) ∧ w'.cell? ⟨w.heap.size, 2, none⟩ = some (.int .u64 p.lo) ∧ w'.cell? ⟨w.heap.size, 3, none⟩ = some (.int .i64 p.b) ∧ w'.cell? ⟨w.heap.size, 4, none⟩ = some (.slice ka KN kc) ∧ w.heap.size < w'.heap.size) ∧ Below w3.heap.size w3 w')
    (first | with_reducible exact HSd.out | fail)
    (first
      | (go_at_call 7; refine (HCl.out _ (btr HB3.out HSd.out.2)).mono ?_; rintro e wx ⟨rfl, hb⟩; replace HSd := Lib.hid (keep5 HSd.out hb); clear hb)
      | (go_at_call 8; refine (HCo.out _ (btr HB3.out HSd.out.2)).mono ?_; rintro e wx ⟨rfl, hb⟩; replace HSd := Lib.hid (keep5 HSd.out hb); clear hb))
  have HB4 := Lib.hid (btr HB3.out HSd.out.2)
  have HX4 := Lib.hid (HX3.out.below HSd.out.2)
  have HM4 := Lib.hid (HM3.out.below HSd.out.2)
  have HXb4 := Lib.hid (HXb3.out.below HSd.out.2)
  have HD4 := Lib.hid (HD3.out.below HSd.out.2)
  clear HX3 HB3 HM3 HXb3 HD3 HSd HCl HCo
  go_wp2_with fail
  refine (HWh.out _).mono ?_
  rintro e w5 ⟨rfl, rfl⟩
  have HXt : Hid (Box3 (w5.alloc (.cells #[.bool false, .int .u64 0, .int .u64 0] 24)) w5.heap.size zeroAd) := Box3.new w5 zeroAd
  have HB5 := Lib.hid (bal HB4.out (.cells #[.bool false, .int .u64 0, .int .u64 0] 24))
  have HX5 := Lib.hid (HX4.out.below (bal (Below.refl _ _) (.cells #[.bool false, .int .u64 0, .int .u64 0] 24)))
  have HM5 := Lib.hid (HM4.out.below (bal (Below.refl _ _) (.cells #[.bool false, .int .u64 0, .int .u64 0] 24)))
  have HXb5 := Lib.hid (HXb4.out.below (bal (Below.refl _ _) (.cells #[.bool false, .int .u64 0, .int .u64 0] 24)))
  have HD5 := Lib.hid (HD4.out.below (bal (Below.refl _ _) (.cells #[.bool false, .int .u64 0, .int .u64 0] 24)))
  have HTm := Lib.hid HM4.out.before
  have HTd := Lib.hid HD4.out.before
  have HTx := Lib.hid HX4.out.lt
  have HTb := Lib.hid HXb4.out.lt
  have HTs : Hid (w5.heap.size < (w5.alloc (.cells #[.bool false, .int .u64 0, .int .u64 0] 24)).heap.size) := by rw [Hid]; simp
  clear HB4 HX4 HM4 HXb4 HD4
  obtain ⟨tb, htb⟩ : ∃ tb, tb = w5.heap.size := ⟨_, rfl⟩
  go_wp2_with fail
  rw [← htb] at HXt HTm HTd HTx HTb HTs ⊢
  generalize w5.alloc (.cells #[.bool false, .int .u64 0, .int .u64 0] 24) = w6 at *
  clear htb
  refine (HLv.out _ HB5.out).mono ?_
  rintro e w7 ⟨a7, c7, rfl, hl7, hn7, hb7⟩
  replace HB5 := Lib.hid (btr HB5.out hb7)
  replace HX5 := Lib.hid (HX5.out.below hb7)
  replace HM5 := Lib.hid (HM5.out.below hb7)
  replace HXb5 := Lib.hid (HXb5.out.below hb7)
  replace HD5 := Lib.hid (HD5.out.below hb7)
  replace HXt := Lib.hid (HXt.out.below hb7)
  have HL7 := Lib.hid hl7
  have HN7 := Lib.hid hn7
  have HGt : Hid (w6.heap.size ≤ w7.heap.size) := hb7.size
  clear hl7 hn7 hb7 HLv
  have HSd := Lib.hid (keepT (w := w7) ⟨⟨HX5.out.cells.1, HX5.out.cells.2.1, HX5.out.cells.2.2.1, HX5.out.cells.2.2.2.1, HX5.out.cells.2.2.2.2, HX5.out.lt⟩, ⟨HXb5.out.cells.1.1, HXb5.out.cells.1.2.1, HXb5.out.cells.1.2.2, HXb5.out.lt⟩, ⟨HXt.out.cells.1.1, HXt.out.cells.1.2.1, HXt.out.cells.1.2.2, HXt.out.lt⟩, Below.refl _ _⟩ (Below.refl _ _).drew)
  simp only [zeroAd] at HSd
  have HL1 : Hid (∀ W, Below w7.heap.size w7 W → Calls Try.prog 16 #[.slice a1 0 c1, .int .i64 3, .int .i64 3, .slice none 0 0] W fun x w' => x = .returned (.bool true) ∧ Below W.heap.size W w') := fun W hb => HLa.out a1 none c1 0 [] [] 3 W (by simp) (HM5.out.below hb) (Lies.nil _ _ _) (fun _ => rfl) (fun _ => rfl)
  have HL2 : Hid (∀ W, Below w7.heap.size w7 W → Calls Try.prog 16 #[.slice a3 LN c3, .int .i64 0, .int .i64 0, .slice a7 LN c7] W fun x w' => x = .returned (.bool true) ∧ Below W.heap.size W w') := fun W hb => by
    rw [HLN.out]
    exact HLa.out a3 a7 c3 c7 LV LV 0 W HLVn.out (HD5.out.below hb) (HL7.out.below hb) (fun _ => rfl) (fun h => absurd rfl h)
  clear HX5 HXb5 HXt HLa
  go_wp2_with fail
  go_region_held3 (fun w' => (w'.cell? ⟨w.heap.size, 0, none⟩ = some (.bool p.v) ∧ w'.cell? ⟨w.heap.size, 1, none⟩ = some (.int .u64 p.hi) ∧ w'.cell? ⟨w.heap.size, 2, none⟩ = some (.int .u64 p.lo) ∧ w'.cell? ⟨w.heap.size, 3, none⟩ = some (.int .i64 p.b) ∧ w'.cell? ⟨w.heap.size, 4, none⟩ = some (.slice ka KN kc) ∧ w.heap.size < w'.heap.size) ∧ (w'.cell? ⟨xb, 0, none⟩ = some (.bool false) ∧ w'.cell? ⟨xb, 1, none⟩ = some (.int .u64 0) ∧ w'.cell? ⟨xb, 2, none⟩ = some (.int .u64 0) ∧ xb < w'.heap.size) ∧ (w'.cell? ⟨tb, 0, none⟩ = some (.bool false) ∧ w'.cell? ⟨tb, 1, none⟩ = some (.int .u64 0) ∧ w'.cell? ⟨tb, 2, none⟩ = some (.int .u64 0) ∧ tb < w'.heap.size) ∧ Below w7.heap.size w7 w')
    (first | with_reducible exact HSd.out | fail)
    (first
      | (go_at_call 12; refine (HBe.out _).mono ?_; rintro e wx ⟨rfl, hb⟩; replace HSd := Lib.hid (keepT HSd.out hb); clear hb)
      | (go_at_call 13; refine (HPl.out _ (btr HB5.out HSd.out.2.2.2)).mono ?_; rintro e wx ⟨rfl, hb⟩; replace HSd := Lib.hid (keepT HSd.out hb); clear hb)
      | (go_at_call 14; refine (HCp.out _ (btr HB5.out HSd.out.2.2.2)).mono ?_; rintro e wx ⟨rfl, hb⟩; replace HSd := Lib.hid (keepT HSd.out hb); clear hb)
      | (go_at_call 15; refine (HCk.out _ (btr HB5.out HSd.out.2.2.2)).mono ?_; rintro e wx ⟨rfl, hb⟩; replace HSd := Lib.hid (keepT HSd.out hb); clear hb)
      | (go_at_call 16; (with_reducible refine (HL1.out _ HSd.out.2.2.2).mono ?_); rintro e wx ⟨rfl, hb⟩; replace HSd := Lib.hid (keepT HSd.out hb); clear hb)
      | (go_at_call 16; (with_reducible refine (HL2.out _ HSd.out.2.2.2).mono ?_); rintro e wx ⟨rfl, hb⟩; replace HSd := Lib.hid (keepT HSd.out hb); clear hb))
  have HBz : Hid (Below w.heap.size w wx) := btr HB5.out HSd.out.2.2.2
  clear HSd
  go_wp2_with fail
  go_ret
  exact ⟨rfl, HBz.out⟩
end Go.Proofs.Ytiiankekobgebaa
