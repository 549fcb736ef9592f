/- LeaseTells: its paths with a grant. -/
import Derived.Test.YtiiankekobgebaaLmG
import Derived.Test.YtiiankekobgebaaLmF
import Derived.Test.YtiiankekobgebaaLmD
set_option linter.unusedVariables false
set_option linter.unusedSimpArgs false
namespace Go.Proofs.Ytiiankekobgebaa
open Go.RowKit Go.Shelf

set_option maxHeartbeats 16000000 in
set_option maxRecDepth 100000 in
theorem lt_some (p : Pf) (hp : p.Ok) (ka : Option Addr) (kc : Nat) (kept : List Ad) (a : Option Addr) (c : Nat) (l : List Ls) (who : ByteArray) (now ttl : Int) (w : World) (hk : Lies adE w ka kept) (hs : Lies lsE w a l) (hws : ∀ x ∈ l, x.who.size ≤ maxLen) (hwho : who.size ≤ maxLen) (hc : l.length ≤ c) (hu : lookL l now = 0) (hv : checkE p kept l now = 0) (hwb : whoB who = true) (ht : ¬ ttl < 1) (ht2 : ¬ 500 < ttl) (M : List Ls) (X : Ad) (hr : grantR p kept (live l now) who (now + ttl) = some (M, X)) :
    Calls Try.prog 3 #[.agg #[.bool p.v, .int .u64 p.hi, .int .u64 p.lo, .int .i64 p.b, .slice ka kept.length kc], .slice a l.length c, .string who, .int .i64 now, .int .i64 ttl] w fun e w' => e = .returned (.bool true) ∧ Below w.heap.size w w' := by
  have hge : grantE p kept l who now ttl = 0 := by unfold grantE; rw [if_pos hv, if_pos hwb, if_neg (by omega)]
  have hgo : gOut p kept l who now ttl = (0, M, X) := gOut_some hge hr
  have hM20 : M.length ≤ 1000 := by
    have hll := look_len hu
    have hv2 : (live l now).length ≤ l.length := List.length_filter_le _ _
    have := grantR_len hr
    omega
  obtain ⟨W0, hW0⟩ : ∃ W0, W0 = w.alloc (.cells #[.bool p.v, .int .u64 p.hi, .int .u64 p.lo, .int .i64 p.b, .slice ka kept.length kc] 29) := ⟨_, rfl⟩
  have hb0 : Below w.heap.size w W0 := by rw [hW0]; exact bal (Below.refl _ _) _
  have hx5 : Box5 W0 w.heap.size p (.slice ka kept.length kc) := by rw [hW0]; exact Box5.new w p _
  have HG := Lib.hid (lgrant_any p hp ka kc kept a c l who now ttl W0 (hk.below hb0) (hs.below hb0))
  rw [hgo] at HG
  have HD : Hid (∀ W, Below w.heap.size w W → Calls Try.prog 6 #[.slice a l.length c, .int .i64 now] W fun e w' => ∃ a4 c4, e = .returned (.tuple #[.slice a4 (dropL l now).length c4, .int .i64 (dropN l now), .int .i64 (lookL l now)]) ∧ Lies lsE w' a4 (dropL l now) ∧ Below W.heap.size W w') := fun W hb => ldrop_any a c l now W (hs.below hb)
  have HCl : Hid (∀ W, Below w.heap.size w W → Calls Try.prog 7 #[.slice a l.length c, .int .i64 now] W fun e w' => e = .returned (.int .i64 (lookL l now)) ∧ Below W.heap.size W w') := fun W hb => rleases_any a c l now W (hs.below hb) hws
  have HCo : Hid (∀ W, Below w.heap.size w W → Calls Try.prog 8 #[.agg #[.bool p.v, .int .u64 p.hi, .int .u64 p.lo, .int .i64 p.b, .slice ka kept.length kc], .slice a l.length c, .int .i64 now] W fun e w' => e = .returned (.int .i64 (checkE p kept l now)) ∧ Below W.heap.size W w') := fun W hb => rcheck_of p hp ka kc kept a c l now W (hk.below hb) (hs.below hb) hws hc
  have HPl : Hid (∀ W, Below w.heap.size w W → Calls Try.prog 13 #[.agg #[.bool p.v, .int .u64 p.hi, .int .u64 p.lo, .int .i64 p.b, .slice ka kept.length kc]] W fun e w' => e = .returned (.int .i64 (poolE p kept)) ∧ Below W.heap.size W w') := fun W hb => pool_any p hp ka kc kept W (hk.below hb)
  have HCp : Hid (∀ W, Below w.heap.size w W → Calls Try.prog 14 #[.agg #[.bool p.v, .int .u64 p.hi, .int .u64 p.lo, .int .i64 p.b, .slice ka kept.length kc]] W fun e w' => e = .returned (.int .i64 (poolE p kept)) ∧ Below W.heap.size W w') := fun W hb => rpool_any p hp ka kc kept W (hk.below hb)
  have HCk : Hid (∀ W, Below w.heap.size w W → Calls Try.prog 15 #[.agg #[.bool p.v, .int .u64 p.hi, .int .u64 p.lo, .int .i64 p.b, .slice ka kept.length kc], .slice a l.length c, .int .i64 now] W fun e w' => e = .returned (.int .i64 (checkE p kept l now)) ∧ Below W.heap.size W w') := fun W hb => check_ls p hp ka kc kept a c l now W (hk.below hb) (hs.below hb)
  have HBe : Hid (∀ W, Calls Try.prog 12 #[] W fun e w' => e = .returned (.bool true) ∧ Below W.heap.size W w') := lbegun_any
  have HLa : Hid (∀ (a b : Option Addr) (c d : Nat) (l r : List Ls) (e : Int) (w : World), l.length ≤ 1000 → Lies lsE w a l → Lies lsE w b r → (e = 0 → r = l) → (¬ e = 0 → l = []) → Calls Try.prog 16 #[.slice a l.length c, .int .i64 e, .int .i64 e, .slice b r.length d] w fun x w' => x = .returned (.bool true) ∧ Below w.heap.size w w') := fun a b c d l r e w => lare_any a b c d l r e w
  have HWh : Hid (∀ W, Calls Try.prog 9 #[.string who] W fun e w' => e = .returned (.bool (whoB who)) ∧ w' = W) := fun W => rwho_any who W hwho
  rw [hwb] at HWh
  have hl20 := look_len hu
  have hlv : (live l now).length ≤ l.length := List.length_filter_le _ _
  have HLv : Hid (∀ W, Below w.heap.size w W → Calls Try.prog 10 #[.slice a l.length c, .int .i64 now] W fun e w' => ∃ a4 c4, e = .returned (.slice a4 (live l now).length c4) ∧ Lies lsE w' a4 (live l now) ∧ (∀ g o, a4 = some ⟨g, o, none⟩ → W.heap.size ≤ g) ∧ Below W.heap.size W w') := fun W hb => (rlive_any a c l now W hl20 (hs.below hb)).mono fun e w' ⟨v', he, ho, hb⟩ => by
    obtain ⟨a4, c4, rfl, hl⟩ := own_lies ho
    exact ⟨a4, c4, he, hl, own_after ho, hb⟩
  have HGo : Hid (∀ W, Below w.heap.size w W → Calls Try.prog 11 #[.agg #[.bool p.v, .int .u64 p.hi, .int .u64 p.lo, .int .i64 p.b, .slice ka kept.length kc], .slice a l.length c, .string who, .int .i64 now, .int .i64 ttl] W fun e w' => (∃ a4 c4, e = .returned (.tuple #[.slice a4 M.length c4, .agg #[.bool X.v, .int .u64 X.hi, .int .u64 X.lo], .bool true]) ∧ Lies lsE w' a4 M ∧ (∀ g o, a4 = some ⟨g, o, none⟩ → W.heap.size ≤ g)) ∧ Below W.heap.size W w') := fun W hb => (rgrant_any p hp ka kc kept a c l who now ttl W (hk.below hb) (hs.below hb) hge).mono fun e w' ⟨h, hb⟩ => by
    rcases h with ⟨m, x, a4, c4, hr', he, hl, hne⟩ | ⟨hr', he⟩
    · rw [hr] at hr'
      obtain ⟨rfl, rfl⟩ : M = m ∧ X = x := by simpa using hr'
      exact ⟨⟨a4, c4, he, hl, hne⟩, hb⟩
    · rw [hr] at hr'
      exact absurd hr' (by simp)
  have hdl : dropL l now = live l now := by unfold dropL; rw [if_pos hu]
  have hdn : dropN l now = (l.length : Int) - ((live l now).length : Int) := by unfold dropN; rw [if_pos hu]
  rw [hdl, hdn] at HD
  rw [hu] at HD HCl
  obtain ⟨LV, hLV⟩ : ∃ LV, LV = live l now := ⟨_, rfl⟩
  rw [← hLV] at HD HLv hlv
  have hwr : IntKind.i64.wrap ((l.length : Int) - (LV.length : Int)) = (l.length : Int) - (LV.length : Int) := by rw [IntKind.wrap_i64]; omega
  have HLVn := Lib.hid (show LV.length ≤ 1000 by omega)
  rw [hv] at HCo HCk
  generalize poolE p kept = pe at *
  have HX5 := Lib.hid hx5
  have HB0 := Lib.hid hb0
  rw [hW0] at HG
  have HW0 := Lib.hid hW0
  obtain ⟨KN, hKN⟩ : ∃ KN, KN = kept.length := ⟨_, rfl⟩
  rw [← hKN] at HX5 HG HW0 HCo HPl HCp HCk HGo ⊢
  obtain ⟨x0, x1, x2, x3, x4⟩ := HX5.out.cells
  rw [HW0.out] at x0 x1 x2 x3 x4
  obtain ⟨N, hN⟩ : ∃ N, N = l.length := ⟨_, rfl⟩
  rw [← hN] at HG HD HCl HCo HCk HLv hl20 hwr HGo ⊢
  obtain ⟨LN, hLN⟩ : ∃ LN, LN = LV.length := ⟨_, rfl⟩
  rw [← hLN] at HD HLv hwr
  have HLN := Lib.hid hLN
  clear hLN
  obtain ⟨MN, hMN⟩ : ∃ MN, MN = M.length := ⟨_, rfl⟩
  simp only [← hMN] at HG HGo
  have HMN := Lib.hid hMN
  have HM20 := Lib.hid hM20
  clear hMN hM20
  clear hk hs hws hwho hc hgo hge hx5 hb0 hW0 hKN hN hdl hdn hp hLV hl20 hlv hu hv hwb hr
  have hd1 : decide (ttl < 1) = false := decide_eq_false ht
  have hd2 : decide (500 < ttl) = false := decide_eq_false ht2
  go_enter Try.func3, Try.ntmps3
  go_wp2_with fail
  refine HG.out.mono ?_
  rintro e w1 ⟨a1, c1, rfl, hm1, hb1⟩
  rw [← HW0.out] at hb1
  have HX1 := Lib.hid ((HX5.out.below hb1).below (bal (Below.refl _ _) (.cells #[.bool X.v, .int .u64 X.hi, .int .u64 X.lo] 24)))
  have HB1 := Lib.hid (bal (btr HB0.out hb1) (.cells #[.bool X.v, .int .u64 X.hi, .int .u64 X.lo] 24))
  have HM := Lib.hid (hm1.below (bal (Below.refl _ _) (.cells #[.bool X.v, .int .u64 X.hi, .int .u64 X.lo] 24)))
  have HXb : Hid (Box3 (w1.alloc (.cells #[.bool X.v, .int .u64 X.hi, .int .u64 X.lo] 24)) w1.heap.size X) := Box3.new w1 X
  clear x0 x1 x2 x3 x4 HX5 HB0 hm1 hb1 HG HW0
  obtain ⟨xb, hxb⟩ : ∃ xb, xb = w1.heap.size := ⟨_, rfl⟩
  go_wp2_with fail
  rw [← hxb] at HXb ⊢
  generalize w1.alloc (.cells #[.bool X.v, .int .u64 X.hi, .int .u64 X.lo] 24) = w2 at *
  clear hxb
  refine (HD.out _ HB1.out).mono ?_
  rintro e w3 ⟨a3, c3, rfl, hd3, hb3⟩
  have HX3 := Lib.hid (HX1.out.below hb3)
  have HB3 := Lib.hid (btr HB1.out hb3)
  have HM3 := Lib.hid (HM.out.below hb3)
  have HXb3 := Lib.hid (HXb.out.below hb3)
  have HD3 := Lib.hid hd3
  clear HX1 HB1 HM HXb HD hd3 hb3
  obtain ⟨x0, x1, x2, x3, x4⟩ := HX3.out.cells
  have HSd := Lib.hid (keep5 (w := w3) ⟨⟨x0, x1, x2, x3, x4, HX3.out.lt⟩, Below.refl _ _⟩ (Below.refl _ _).drew)
  clear x0 x1 x2 x3 x4
  go_wp2_with fail
  go_region_held3 (fun w' => (w'.cell? ⟨w.heap.size, 0, none⟩ = some (.bool p.v) ∧ w'.cell? ⟨w.heap.size, 1, none⟩ = some (.int .u64 p.hi) ∧ w'.cell? ⟨w.heap.size, 2, none⟩ = some (.int .u64 p.lo) ∧ w'.cell? ⟨w.heap.size, 3, none⟩ = some (.int .i64 p.b) ∧ w'.cell? ⟨w.heap.size, 4, none⟩ = some (.slice ka KN kc) ∧ w.heap.size < w'.heap.size) ∧ Below w3.heap.size w3 w')
    (first | with_reducible exact HSd.out | fail)
    (first
      | (go_at_call 7; refine (HCl.out _ (btr HB3.out HSd.out.2)).mono ?_; rintro e wx ⟨rfl, hb⟩; replace HSd := Lib.hid (keep5 HSd.out hb); clear hb)
      | (go_at_call 8; refine (HCo.out _ (btr HB3.out HSd.out.2)).mono ?_; rintro e wx ⟨rfl, hb⟩; replace HSd := Lib.hid (keep5 HSd.out hb); clear hb))
  have HB4 := Lib.hid (btr HB3.out HSd.out.2)
  have HX4 := Lib.hid (HX3.out.below HSd.out.2)
  have HM4 := Lib.hid (HM3.out.below HSd.out.2)
  have HXb4 := Lib.hid (HXb3.out.below HSd.out.2)
  have HD4 := Lib.hid (HD3.out.below HSd.out.2)
  clear HX3 HB3 HM3 HXb3 HD3 HSd HCl HCo
  go_wp2_with fail
  refine (HWh.out _).mono ?_
  rintro e w5 ⟨rfl, rfl⟩
  have HXt : Hid (Box3 (w5.alloc (.cells #[.bool false, .int .u64 0, .int .u64 0] 24)) w5.heap.size zeroAd) := Box3.new w5 zeroAd
  have HB5 := Lib.hid (bal HB4.out (.cells #[.bool false, .int .u64 0, .int .u64 0] 24))
  have HX5 := Lib.hid (HX4.out.below (bal (Below.refl _ _) (.cells #[.bool false, .int .u64 0, .int .u64 0] 24)))
  have HM5 := Lib.hid (HM4.out.below (bal (Below.refl _ _) (.cells #[.bool false, .int .u64 0, .int .u64 0] 24)))
  have HXb5 := Lib.hid (HXb4.out.below (bal (Below.refl _ _) (.cells #[.bool false, .int .u64 0, .int .u64 0] 24)))
  have HD5 := Lib.hid (HD4.out.below (bal (Below.refl _ _) (.cells #[.bool false, .int .u64 0, .int .u64 0] 24)))
  have HTm := Lib.hid HM4.out.before
  have HTd := Lib.hid HD4.out.before
  have HTx := Lib.hid HX4.out.lt
  have HTb := Lib.hid HXb4.out.lt
  have HTs : Hid (w5.heap.size < (w5.alloc (.cells #[.bool false, .int .u64 0, .int .u64 0] 24)).heap.size) := by rw [Hid]; simp
  clear HB4 HX4 HM4 HXb4 HD4
  obtain ⟨tb, htb⟩ : ∃ tb, tb = w5.heap.size := ⟨_, rfl⟩
  go_wp2_with fail
  rw [← htb] at HXt HTm HTd HTx HTb HTs ⊢
  generalize w5.alloc (.cells #[.bool false, .int .u64 0, .int .u64 0] 24) = w6 at *
  clear htb
  refine (HLv.out _ HB5.out).mono ?_
  rintro e w7 ⟨a7, c7, rfl, hl7, hn7, hb7⟩
  replace HB5 := Lib.hid (btr HB5.out hb7)
  replace HX5 := Lib.hid (HX5.out.below hb7)
  replace HM5 := Lib.hid (HM5.out.below hb7)
  replace HXb5 := Lib.hid (HXb5.out.below hb7)
  replace HD5 := Lib.hid (HD5.out.below hb7)
  replace HXt := Lib.hid (HXt.out.below hb7)
  have HL7 := Lib.hid hl7
  have HN7 := Lib.hid hn7
  have HGt : Hid (w6.heap.size ≤ w7.heap.size) := hb7.size
  clear hl7 hn7 hb7 HLv
  obtain ⟨x0, x1, x2, x3, x4⟩ := HX5.out.cells
  go_wp2_with fail
  refine (HGo.out _ HB5.out).mono ?_
  rintro e w8 ⟨⟨a8', c8, rfl, hl8, hn8⟩, hb8⟩
  have HGb : Hid (tb < w8.heap.size) := Nat.lt_of_lt_of_le HXt.out.lt hb8.size
  replace HB5 := Lib.hid (bal (btr HB5.out hb8) (.cells #[.bool X.v, .int .u64 X.hi, .int .u64 X.lo] 24))
  replace HX5 := Lib.hid ((HX5.out.below hb8).below (bal (Below.refl _ _) (.cells #[.bool X.v, .int .u64 X.hi, .int .u64 X.lo] 24)))
  replace HM5 := Lib.hid ((HM5.out.below hb8).below (bal (Below.refl _ _) (.cells #[.bool X.v, .int .u64 X.hi, .int .u64 X.lo] 24)))
  replace HXb5 := Lib.hid ((HXb5.out.below hb8).below (bal (Below.refl _ _) (.cells #[.bool X.v, .int .u64 X.hi, .int .u64 X.lo] 24)))
  replace HD5 := Lib.hid ((HD5.out.below hb8).below (bal (Below.refl _ _) (.cells #[.bool X.v, .int .u64 X.hi, .int .u64 X.lo] 24)))
  replace HXt := Lib.hid ((HXt.out.below hb8).below (bal (Below.refl _ _) (.cells #[.bool X.v, .int .u64 X.hi, .int .u64 X.lo] 24)))
  replace HL7 := Lib.hid ((HL7.out.below hb8).below (bal (Below.refl _ _) (.cells #[.bool X.v, .int .u64 X.hi, .int .u64 X.lo] 24)))
  have HXg : Hid (Box3 (w8.alloc (.cells #[.bool X.v, .int .u64 X.hi, .int .u64 X.lo] 24)) w8.heap.size X) := Box3.new w8 X
  have HR8 := Lib.hid (hl8.below (bal (Below.refl _ _) (.cells #[.bool X.v, .int .u64 X.hi, .int .u64 X.lo] 24)))
  have HN8 := Lib.hid hn8
  clear hl8 hn8
  clear hb8 HGo x0 x1 x2 x3 x4
  obtain ⟨gb, hgb⟩ : ∃ gb, gb = w8.heap.size := ⟨_, rfl⟩
  go_wp2_with fail
  rw [← hgb] at HXg HGb ⊢
  generalize w8.alloc (.cells #[.bool X.v, .int .u64 X.hi, .int .u64 X.lo] 24) = w9 at *
  clear hgb
  have hne1 : tb ≠ gb := by have := HGb.out; omega
  obtain ⟨⟨n0, n1, n2⟩, _⟩ := HXg.out.cells
  obtain ⟨⟨z0, z1, z2⟩, y0, y1, y2⟩ := HXt.out.cells
  simp only [zeroAd] at z0 z1 z2
  go_region
  obtain ⟨wA, hwA⟩ : ∃ wA, wA = (((w9.setCell ⟨tb, 0, none⟩ (.bool X.v)).setCell ⟨tb, 1, none⟩ (.int .u64 X.hi)).setCell ⟨tb, 2, none⟩ (.int .u64 X.lo)).drew := ⟨_, rfl⟩
  rw [← hwA]
  have hFa : ∀ k, k ≠ tb → wA.heap[k]? = w9.heap[k]? := fun k hk => by rw [hwA]; exact heap_put3 w9 tb k _ _ _ hk
  have hTa : Box3 wA tb X := by rw [hwA]; exact HXt.out.put X
  have hBa : Below w.heap.size w wA := by
    rw [hwA]
    have := HTx.out
    exact (bse (bse (bse HB5.out (by show _ ≤ tb; omega) _) (by show _ ≤ tb; omega) _) (by show _ ≤ tb; omega) _).drew
  clear hwA n0 n1 n2 z0 z1 z2 y0 y1 y2 hne1
  have HXe : Hid (Box5 wA w.heap.size p (.slice ka KN kc)) := (hFa _ (by have := HTx.out; omega)).trans HX5.out
  have HXf : Hid (Box3 wA xb X) := (hFa _ (by have := HTb.out; omega)).trans HXb5.out
  have HXh : Hid (Box3 wA tb X) := hTa
  have HMe := Lib.hid (HM5.out.off (b := tb) (fun g o e h => by have := HTm.out g o e h; omega) hFa)
  have HDe := Lib.hid (HD5.out.off (b := tb) (fun g o e h => by have := HTd.out g o e h; omega) hFa)
  have HLe := Lib.hid (HL7.out.off (b := tb) (fun g o e h => by have := HN7.out g o e; have := HTs.out; omega) hFa)
  have HRe := Lib.hid (HR8.out.off (b := tb) (fun g o e h => by have := HN8.out g o e; have := HTs.out; have := HGt.out; omega) hFa)
  have HBe2 := Lib.hid hBa
  clear HX5 HXb5 HXt HM5 HD5 HL7 HXg hFa hTa hBa HB5 HTm HTd HTx HTb HTs HN7
  have HSd := Lib.hid (keepT (w := wA) ⟨⟨HXe.out.cells.1, HXe.out.cells.2.1, HXe.out.cells.2.2.1, HXe.out.cells.2.2.2.1, HXe.out.cells.2.2.2.2, HXe.out.lt⟩, ⟨HXf.out.cells.1.1, HXf.out.cells.1.2.1, HXf.out.cells.1.2.2, HXf.out.lt⟩, ⟨HXh.out.cells.1.1, HXh.out.cells.1.2.1, HXh.out.cells.1.2.2, HXh.out.lt⟩, Below.refl _ _⟩ (Below.refl _ _).drew)
  have HL1 : Hid (∀ W, Below wA.heap.size wA W → Calls Try.prog 16 #[.slice a1 MN c1, .int .i64 0, .int .i64 0, .slice a8' MN c8] W fun x w' => x = .returned (.bool true) ∧ Below W.heap.size W w') := fun W hb => by
    rw [HMN.out]
    exact HLa.out a1 a8' c1 c8 M M 0 W HM20.out (HMe.out.below hb) (HRe.out.below hb) (fun _ => rfl) (fun h => absurd rfl h)
  have HL2 : Hid (∀ W, Below wA.heap.size wA W → Calls Try.prog 16 #[.slice a3 LN c3, .int .i64 0, .int .i64 0, .slice a7 LN c7] W fun x w' => x = .returned (.bool true) ∧ Below W.heap.size W w') := fun W hb => by
    rw [HLN.out]
    exact HLa.out a3 a7 c3 c7 LV LV 0 W HLVn.out (HDe.out.below hb) (HLe.out.below hb) (fun _ => rfl) (fun h => absurd rfl h)
  have hEq := fun W => eqA_ad W X
  clear HXe HXf HXh HLa
  go_wp2_with fail
  go_region_held3 (fun w' => (w'.cell? ⟨w.heap.size, 0, none⟩ = some (.bool p.v) ∧ w'.cell? ⟨w.heap.size, 1, none⟩ = some (.int .u64 p.hi) ∧ w'.cell? ⟨w.heap.size, 2, none⟩ = some (.int .u64 p.lo) ∧ w'.cell? ⟨w.heap.size, 3, none⟩ = some (.int .i64 p.b) ∧ w'.cell? ⟨w.heap.size, 4, none⟩ = some (.slice ka KN kc) ∧ w.heap.size < w'.heap.size) ∧ (w'.cell? ⟨xb, 0, none⟩ = some (.bool X.v) ∧ w'.cell? ⟨xb, 1, none⟩ = some (.int .u64 X.hi) ∧ w'.cell? ⟨xb, 2, none⟩ = some (.int .u64 X.lo) ∧ xb < w'.heap.size) ∧ (w'.cell? ⟨tb, 0, none⟩ = some (.bool X.v) ∧ w'.cell? ⟨tb, 1, none⟩ = some (.int .u64 X.hi) ∧ w'.cell? ⟨tb, 2, none⟩ = some (.int .u64 X.lo) ∧ tb < w'.heap.size) ∧ Below wA.heap.size wA w')
    (first | with_reducible exact HSd.out | fail)
    (first
      | (go_at_call 12; refine (HBe.out _).mono ?_; rintro e wx ⟨rfl, hb⟩; replace HSd := Lib.hid (keepT HSd.out hb); clear hb)
      | (go_at_call 13; refine (HPl.out _ (btr HBe2.out HSd.out.2.2.2)).mono ?_; rintro e wx ⟨rfl, hb⟩; replace HSd := Lib.hid (keepT HSd.out hb); clear hb)
      | (go_at_call 14; refine (HCp.out _ (btr HBe2.out HSd.out.2.2.2)).mono ?_; rintro e wx ⟨rfl, hb⟩; replace HSd := Lib.hid (keepT HSd.out hb); clear hb)
      | (go_at_call 15; refine (HCk.out _ (btr HBe2.out HSd.out.2.2.2)).mono ?_; rintro e wx ⟨rfl, hb⟩; replace HSd := Lib.hid (keepT HSd.out hb); clear hb)
      | (go_at_call 16; (with_reducible refine (HL1.out _ HSd.out.2.2.2).mono ?_); rintro e wx ⟨rfl, hb⟩; replace HSd := Lib.hid (keepT HSd.out hb); clear hb)
      | (go_at_call 16; (with_reducible refine (HL2.out _ HSd.out.2.2.2).mono ?_); rintro e wx ⟨rfl, hb⟩; replace HSd := Lib.hid (keepT HSd.out hb); clear hb))
  have HBz : Hid (Below w.heap.size w wx) := btr HBe2.out HSd.out.2.2.2
  clear HSd
  go_wp2_with fail
  go_ret
  exact ⟨rfl, HBz.out⟩
set_option maxHeartbeats 16000000 in
set_option maxRecDepth 100000 in
theorem lt_none (p : Pf) (hp : p.Ok) (ka : Option Addr) (kc : Nat) (kept : List Ad) (a : Option Addr) (c : Nat) (l : List Ls) (who : ByteArray) (now ttl : Int) (w : World) (hk : Lies adE w ka kept) (hs : Lies lsE w a l) (hws : ∀ x ∈ l, x.who.size ≤ maxLen) (hwho : who.size ≤ maxLen) (hc : l.length ≤ c) (hu : lookL l now = 0) (hv : checkE p kept l now = 0) (hwb : whoB who = true) (ht : ¬ ttl < 1) (ht2 : ¬ 500 < ttl) (hr : grantR p kept (live l now) who (now + ttl) = none) :
    Calls Try.prog 3 #[.agg #[.bool p.v, .int .u64 p.hi, .int .u64 p.lo, .int .i64 p.b, .slice ka kept.length kc], .slice a l.length c, .string who, .int .i64 now, .int .i64 ttl] w fun e w' => e = .returned (.bool true) ∧ Below w.heap.size w w' := by
  have hge : grantE p kept l who now ttl = 0 := by unfold grantE; rw [if_pos hv, if_pos hwb, if_neg (by omega)]
  have hgo : gOut p kept l who now ttl = (8, [], zeroAd) := gOut_none hge hr
  obtain ⟨W0, hW0⟩ : ∃ W0, W0 = w.alloc (.cells #[.bool p.v, .int .u64 p.hi, .int .u64 p.lo, .int .i64 p.b, .slice ka kept.length kc] 29) := ⟨_, rfl⟩
  have hb0 : Below w.heap.size w W0 := by rw [hW0]; exact bal (Below.refl _ _) _
  have hx5 : Box5 W0 w.heap.size p (.slice ka kept.length kc) := by rw [hW0]; exact Box5.new w p _
  have HG := Lib.hid (lgrant_any p hp ka kc kept a c l who now ttl W0 (hk.below hb0) (hs.below hb0))
  rw [hgo] at HG
  have HD : Hid (∀ W, Below w.heap.size w W → Calls Try.prog 6 #[.slice a l.length c, .int .i64 now] W fun e w' => ∃ a4 c4, e = .returned (.tuple #[.slice a4 (dropL l now).length c4, .int .i64 (dropN l now), .int .i64 (lookL l now)]) ∧ Lies lsE w' a4 (dropL l now) ∧ Below W.heap.size W w') := fun W hb => ldrop_any a c l now W (hs.below hb)
  have HCl : Hid (∀ W, Below w.heap.size w W → Calls Try.prog 7 #[.slice a l.length c, .int .i64 now] W fun e w' => e = .returned (.int .i64 (lookL l now)) ∧ Below W.heap.size W w') := fun W hb => rleases_any a c l now W (hs.below hb) hws
  have HCo : Hid (∀ W, Below w.heap.size w W → Calls Try.prog 8 #[.agg #[.bool p.v, .int .u64 p.hi, .int .u64 p.lo, .int .i64 p.b, .slice ka kept.length kc], .slice a l.length c, .int .i64 now] W fun e w' => e = .returned (.int .i64 (checkE p kept l now)) ∧ Below W.heap.size W w') := fun W hb => rcheck_of p hp ka kc kept a c l now W (hk.below hb) (hs.below hb) hws hc
  have HPl : Hid (∀ W, Below w.heap.size w W → Calls Try.prog 13 #[.agg #[.bool p.v, .int .u64 p.hi, .int .u64 p.lo, .int .i64 p.b, .slice ka kept.length kc]] W fun e w' => e = .returned (.int .i64 (poolE p kept)) ∧ Below W.heap.size W w') := fun W hb => pool_any p hp ka kc kept W (hk.below hb)
  have HCp : Hid (∀ W, Below w.heap.size w W → Calls Try.prog 14 #[.agg #[.bool p.v, .int .u64 p.hi, .int .u64 p.lo, .int .i64 p.b, .slice ka kept.length kc]] W fun e w' => e = .returned (.int .i64 (poolE p kept)) ∧ Below W.heap.size W w') := fun W hb => rpool_any p hp ka kc kept W (hk.below hb)
  have HCk : Hid (∀ W, Below w.heap.size w W → Calls Try.prog 15 #[.agg #[.bool p.v, .int .u64 p.hi, .int .u64 p.lo, .int .i64 p.b, .slice ka kept.length kc], .slice a l.length c, .int .i64 now] W fun e w' => e = .returned (.int .i64 (checkE p kept l now)) ∧ Below W.heap.size W w') := fun W hb => check_ls p hp ka kc kept a c l now W (hk.below hb) (hs.below hb)
  have HBe : Hid (∀ W, Calls Try.prog 12 #[] W fun e w' => e = .returned (.bool true) ∧ Below W.heap.size W w') := lbegun_any
  have HLa : Hid (∀ (a b : Option Addr) (c d : Nat) (l r : List Ls) (e : Int) (w : World), l.length ≤ 1000 → Lies lsE w a l → Lies lsE w b r → (e = 0 → r = l) → (¬ e = 0 → l = []) → Calls Try.prog 16 #[.slice a l.length c, .int .i64 e, .int .i64 e, .slice b r.length d] w fun x w' => x = .returned (.bool true) ∧ Below w.heap.size w w') := fun a b c d l r e w => lare_any a b c d l r e w
  have HWh : Hid (∀ W, Calls Try.prog 9 #[.string who] W fun e w' => e = .returned (.bool (whoB who)) ∧ w' = W) := fun W => rwho_any who W hwho
  rw [hwb] at HWh
  have hl20 := look_len hu
  have hlv : (live l now).length ≤ l.length := List.length_filter_le _ _
  have HLv : Hid (∀ W, Below w.heap.size w W → Calls Try.prog 10 #[.slice a l.length c, .int .i64 now] W fun e w' => ∃ a4 c4, e = .returned (.slice a4 (live l now).length c4) ∧ Lies lsE w' a4 (live l now) ∧ (∀ g o, a4 = some ⟨g, o, none⟩ → W.heap.size ≤ g) ∧ Below W.heap.size W w') := fun W hb => (rlive_any a c l now W hl20 (hs.below hb)).mono fun e w' ⟨v', he, ho, hb⟩ => by
    obtain ⟨a4, c4, rfl, hl⟩ := own_lies ho
    exact ⟨a4, c4, he, hl, own_after ho, hb⟩
  have HGo : Hid (∀ W, Below w.heap.size w W → Calls Try.prog 11 #[.agg #[.bool p.v, .int .u64 p.hi, .int .u64 p.lo, .int .i64 p.b, .slice ka kept.length kc], .slice a l.length c, .string who, .int .i64 now, .int .i64 ttl] W fun e w' => e = .returned (.tuple #[.slice none 0 0, .agg #[.bool false, .int .u64 0, .int .u64 0], .bool false]) ∧ Below W.heap.size W w') := fun W hb => (rgrant_any p hp ka kc kept a c l who now ttl W (hk.below hb) (hs.below hb) hge).mono fun e w' ⟨h, hb⟩ => by
    rcases h with ⟨m, x, a4, c4, hr', he, hl, hne⟩ | ⟨hr', he⟩
    · rw [hr] at hr'
      exact absurd hr' (by simp)
    · exact ⟨he, hb⟩
  have hdl : dropL l now = live l now := by unfold dropL; rw [if_pos hu]
  have hdn : dropN l now = (l.length : Int) - ((live l now).length : Int) := by unfold dropN; rw [if_pos hu]
  rw [hdl, hdn] at HD
  rw [hu] at HD HCl
  obtain ⟨LV, hLV⟩ : ∃ LV, LV = live l now := ⟨_, rfl⟩
  rw [← hLV] at HD HLv hlv
  have hwr : IntKind.i64.wrap ((l.length : Int) - (LV.length : Int)) = (l.length : Int) - (LV.length : Int) := by rw [IntKind.wrap_i64]; omega
  have HLVn := Lib.hid (show LV.length ≤ 1000 by omega)
  rw [hv] at HCo HCk
  generalize poolE p kept = pe at *
  have HX5 := Lib.hid hx5
  have HB0 := Lib.hid hb0
  rw [hW0] at HG
  have HW0 := Lib.hid hW0
  obtain ⟨KN, hKN⟩ : ∃ KN, KN = kept.length := ⟨_, rfl⟩
  rw [← hKN] at HX5 HG HW0 HCo HPl HCp HCk HGo ⊢
  obtain ⟨x0, x1, x2, x3, x4⟩ := HX5.out.cells
  rw [HW0.out] at x0 x1 x2 x3 x4
  obtain ⟨N, hN⟩ : ∃ N, N = l.length := ⟨_, rfl⟩
  rw [← hN] at HG HD HCl HCo HCk HLv hl20 hwr HGo ⊢
  obtain ⟨LN, hLN⟩ : ∃ LN, LN = LV.length := ⟨_, rfl⟩
  rw [← hLN] at HD HLv hwr
  have HLN := Lib.hid hLN
  clear hLN
  simp only [List.length_nil, zeroAd] at HG
  clear hk hs hws hwho hc hgo hge hx5 hb0 hW0 hKN hN hdl hdn hp hLV hl20 hlv hu hv hwb hr
  have hd1 : decide (ttl < 1) = false := decide_eq_false ht
  have hd2 : decide (500 < ttl) = false := decide_eq_false ht2
  go_enter Try.func3, Try.ntmps3
  go_wp2_with fail
  refine HG.out.mono ?_
  rintro e w1 ⟨a1, c1, rfl, hm1, hb1⟩
  rw [← HW0.out] at hb1
  have HX1 := Lib.hid ((HX5.out.below hb1).below (bal (Below.refl _ _) (.cells #[.bool false, .int .u64 0, .int .u64 0] 24)))
  have HB1 := Lib.hid (bal (btr HB0.out hb1) (.cells #[.bool false, .int .u64 0, .int .u64 0] 24))
  have HM := Lib.hid (hm1.below (bal (Below.refl _ _) (.cells #[.bool false, .int .u64 0, .int .u64 0] 24)))
  have HXb : Hid (Box3 (w1.alloc (.cells #[.bool false, .int .u64 0, .int .u64 0] 24)) w1.heap.size zeroAd) := Box3.new w1 zeroAd
  clear x0 x1 x2 x3 x4 HX5 HB0 hm1 hb1 HG HW0
  obtain ⟨xb, hxb⟩ : ∃ xb, xb = w1.heap.size := ⟨_, rfl⟩
  go_wp2_with fail
  rw [← hxb] at HXb ⊢
  generalize w1.alloc (.cells #[.bool false, .int .u64 0, .int .u64 0] 24) = w2 at *
  clear hxb
  refine (HD.out _ HB1.out).mono ?_
  rintro e w3 ⟨a3, c3, rfl, hd3, hb3⟩
  have HX3 := Lib.hid (HX1.out.below hb3)
  have HB3 := Lib.hid (btr HB1.out hb3)
  have HM3 := Lib.hid (HM.out.below hb3)
  have HXb3 := Lib.hid (HXb.out.below hb3)
  have HD3 := Lib.hid hd3
  clear HX1 HB1 HM HXb HD hd3 hb3
  obtain ⟨x0, x1, x2, x3, x4⟩ := HX3.out.cells
  have HSd := Lib.hid (keep5 (w := w3) ⟨⟨x0, x1, x2, x3, x4, HX3.out.lt⟩, Below.refl _ _⟩ (Below.refl _ _).drew)
  clear x0 x1 x2 x3 x4
  go_wp2_with fail
  go_region_held3 (fun w' => (w'.cell? ⟨w.heap.size, 0, none⟩ = some (.bool p.v) ∧ w'.cell? ⟨w.heap.size, 1, none⟩ = some (.int .u64 p.hi) ∧ w'.cell? ⟨w.heap.size, 2, none⟩ = some (.int .u64 p.lo) ∧ w'.cell? ⟨w.heap.size, 3, none⟩ = some (.int .i64 p.b) ∧ w'.cell? ⟨w.heap.size, 4, none⟩ = some (.slice ka KN kc) ∧ w.heap.size < w'.heap.size) ∧ Below w3.heap.size w3 w')
    (first | with_reducible exact HSd.out | fail)
    (first
      | (go_at_call 7; refine (HCl.out _ (btr HB3.out HSd.out.2)).mono ?_; rintro e wx ⟨rfl, hb⟩; replace HSd := Lib.hid (keep5 HSd.out hb); clear hb)
      | (go_at_call 8; refine (HCo.out _ (btr HB3.out HSd.out.2)).mono ?_; rintro e wx ⟨rfl, hb⟩; replace HSd := Lib.hid (keep5 HSd.out hb); clear hb))
  have HB4 := Lib.hid (btr HB3.out HSd.out.2)
  have HX4 := Lib.hid (HX3.out.below HSd.out.2)
  have HM4 := Lib.hid (HM3.out.below HSd.out.2)
  have HXb4 := Lib.hid (HXb3.out.below HSd.out.2)
  have HD4 := Lib.hid (HD3.out.below HSd.out.2)
  clear HX3 HB3 HM3 HXb3 HD3 HSd HCl HCo
  go_wp2_with fail
  refine (HWh.out _).mono ?_
  rintro e w5 ⟨rfl, rfl⟩
  have HXt : Hid (Box3 (w5.alloc (.cells #[.bool false, .int .u64 0, .int .u64 0] 24)) w5.heap.size zeroAd) := Box3.new w5 zeroAd
  have HB5 := Lib.hid (bal HB4.out (.cells #[.bool false, .int .u64 0, .int .u64 0] 24))
  have HX5 := Lib.hid (HX4.out.below (bal (Below.refl _ _) (.cells #[.bool false, .int .u64 0, .int .u64 0] 24)))
  have HM5 := Lib.hid (HM4.out.below (bal (Below.refl _ _) (.cells #[.bool false, .int .u64 0, .int .u64 0] 24)))
  have HXb5 := Lib.hid (HXb4.out.below (bal (Below.refl _ _) (.cells #[.bool false, .int .u64 0, .int .u64 0] 24)))
  have HD5 := Lib.hid (HD4.out.below (bal (Below.refl _ _) (.cells #[.bool false, .int .u64 0, .int .u64 0] 24)))
  have HTm := Lib.hid HM4.out.before
  have HTd := Lib.hid HD4.out.before
  have HTx := Lib.hid HX4.out.lt
  have HTb := Lib.hid HXb4.out.lt
  have HTs : Hid (w5.heap.size < (w5.alloc (.cells #[.bool false, .int .u64 0, .int .u64 0] 24)).heap.size) := by rw [Hid]; simp
  clear HB4 HX4 HM4 HXb4 HD4
  obtain ⟨tb, htb⟩ : ∃ tb, tb = w5.heap.size := ⟨_, rfl⟩
  go_wp2_with fail
  rw [← htb] at HXt HTm HTd HTx HTb HTs ⊢
  generalize w5.alloc (.cells #[.bool false, .int .u64 0, .int .u64 0] 24) = w6 at *
  clear htb
  refine (HLv.out _ HB5.out).mono ?_
  rintro e w7 ⟨a7, c7, rfl, hl7, hn7, hb7⟩
  replace HB5 := Lib.hid (btr HB5.out hb7)
  replace HX5 := Lib.hid (HX5.out.below hb7)
  replace HM5 := Lib.hid (HM5.out.below hb7)
  replace HXb5 := Lib.hid (HXb5.out.below hb7)
  replace HD5 := Lib.hid (HD5.out.below hb7)
  replace HXt := Lib.hid (HXt.out.below hb7)
  have HL7 := Lib.hid hl7
  have HN7 := Lib.hid hn7
  have HGt : Hid (w6.heap.size ≤ w7.heap.size) := hb7.size
  clear hl7 hn7 hb7 HLv
  obtain ⟨x0, x1, x2, x3, x4⟩ := HX5.out.cells
  go_wp2_with fail
  refine (HGo.out _ HB5.out).mono ?_
  rintro e w8 ⟨rfl, hb8⟩
  have HGb : Hid (tb < w8.heap.size) := Nat.lt_of_lt_of_le HXt.out.lt hb8.size
  replace HB5 := Lib.hid (bal (btr HB5.out hb8) (.cells #[.bool false, .int .u64 0, .int .u64 0] 24))
  replace HX5 := Lib.hid ((HX5.out.below hb8).below (bal (Below.refl _ _) (.cells #[.bool false, .int .u64 0, .int .u64 0] 24)))
  replace HM5 := Lib.hid ((HM5.out.below hb8).below (bal (Below.refl _ _) (.cells #[.bool false, .int .u64 0, .int .u64 0] 24)))
  replace HXb5 := Lib.hid ((HXb5.out.below hb8).below (bal (Below.refl _ _) (.cells #[.bool false, .int .u64 0, .int .u64 0] 24)))
  replace HD5 := Lib.hid ((HD5.out.below hb8).below (bal (Below.refl _ _) (.cells #[.bool false, .int .u64 0, .int .u64 0] 24)))
  replace HXt := Lib.hid ((HXt.out.below hb8).below (bal (Below.refl _ _) (.cells #[.bool false, .int .u64 0, .int .u64 0] 24)))
  replace HL7 := Lib.hid ((HL7.out.below hb8).below (bal (Below.refl _ _) (.cells #[.bool false, .int .u64 0, .int .u64 0] 24)))
  have HXg : Hid (Box3 (w8.alloc (.cells #[.bool false, .int .u64 0, .int .u64 0] 24)) w8.heap.size zeroAd) := Box3.new w8 zeroAd
  clear hb8 HGo x0 x1 x2 x3 x4
  obtain ⟨gb, hgb⟩ : ∃ gb, gb = w8.heap.size := ⟨_, rfl⟩
  go_wp2_with fail
  rw [← hgb] at HXg HGb ⊢
  generalize w8.alloc (.cells #[.bool false, .int .u64 0, .int .u64 0] 24) = w9 at *
  clear hgb
  have hne1 : tb ≠ gb := by have := HGb.out; omega
  obtain ⟨⟨n0, n1, n2⟩, _⟩ := HXg.out.cells
  obtain ⟨⟨z0, z1, z2⟩, y0, y1, y2⟩ := HXt.out.cells
  simp only [zeroAd] at z0 z1 z2 n0 n1 n2
  go_region
  obtain ⟨wA, hwA⟩ : ∃ wA, wA = (((w9.setCell ⟨tb, 0, none⟩ (.bool false)).setCell ⟨tb, 1, none⟩ (.int .u64 0)).setCell ⟨tb, 2, none⟩ (.int .u64 0)).drew := ⟨_, rfl⟩
  rw [← hwA]
  have hFa : ∀ k, k ≠ tb → wA.heap[k]? = w9.heap[k]? := fun k hk => by rw [hwA]; exact heap_put3 w9 tb k _ _ _ hk
  have hTa : Box3 wA tb zeroAd := by rw [hwA]; exact HXt.out.put zeroAd
  have hBa : Below w.heap.size w wA := by
    rw [hwA]
    have := HTx.out
    exact (bse (bse (bse HB5.out (by show _ ≤ tb; omega) _) (by show _ ≤ tb; omega) _) (by show _ ≤ tb; omega) _).drew
  clear hwA n0 n1 n2 z0 z1 z2 y0 y1 y2 hne1
  obtain ⟨⟨z0, z1, z2⟩, y0, y1, y2⟩ := hTa.cells
  simp only [zeroAd] at z0 z1 z2
  go_wp2_with fail
  obtain ⟨wB, hwB⟩ : ∃ wB, wB = ((wA.setCell ⟨tb, 0, none⟩ (.bool false)).setCell ⟨tb, 1, none⟩ (.int .u64 0)).setCell ⟨tb, 2, none⟩ (.int .u64 0) := ⟨_, rfl⟩
  rw [← hwB]
  replace hFa : ∀ k, k ≠ tb → wB.heap[k]? = w9.heap[k]? := fun k hk => by rw [hwB]; exact (heap_put3 wA tb k _ _ _ hk).trans (hFa k hk)
  replace hTa : Box3 wB tb zeroAd := by rw [hwB]; exact hTa.put zeroAd
  replace hBa : Below w.heap.size w wB := by
    rw [hwB]
    have := HTx.out
    exact bse (bse (bse hBa (by show _ ≤ tb; omega) _) (by show _ ≤ tb; omega) _) (by show _ ≤ tb; omega) _
  clear hwB z0 z1 z2 y0 y1 y2
  have HXe : Hid (Box5 wB w.heap.size p (.slice ka KN kc)) := (hFa _ (by have := HTx.out; omega)).trans HX5.out
  have HXf : Hid (Box3 wB xb zeroAd) := (hFa _ (by have := HTb.out; omega)).trans HXb5.out
  have HXh : Hid (Box3 wB tb zeroAd) := hTa
  have HMe := Lib.hid (HM5.out.off (b := tb) (fun g o e h => by have := HTm.out g o e h; omega) hFa)
  have HDe := Lib.hid (HD5.out.off (b := tb) (fun g o e h => by have := HTd.out g o e h; omega) hFa)
  have HLe := Lib.hid (HL7.out.off (b := tb) (fun g o e h => by have := HN7.out g o e; have := HTs.out; omega) hFa)
  have HBe2 := Lib.hid hBa
  clear HX5 HXb5 HXt HM5 HD5 HL7 HXg hFa hTa hBa HB5 HTm HTd HTx HTb HTs HN7
  have HSd := Lib.hid (keepT (w := wB) ⟨⟨HXe.out.cells.1, HXe.out.cells.2.1, HXe.out.cells.2.2.1, HXe.out.cells.2.2.2.1, HXe.out.cells.2.2.2.2, HXe.out.lt⟩, ⟨HXf.out.cells.1.1, HXf.out.cells.1.2.1, HXf.out.cells.1.2.2, HXf.out.lt⟩, ⟨HXh.out.cells.1.1, HXh.out.cells.1.2.1, HXh.out.cells.1.2.2, HXh.out.lt⟩, Below.refl _ _⟩ (Below.refl _ _).drew)
  simp only [zeroAd] at HSd
  have HL1 : Hid (∀ W, Below wB.heap.size wB W → Calls Try.prog 16 #[.slice a1 0 c1, .int .i64 8, .int .i64 8, .slice none 0 0] W fun x w' => x = .returned (.bool true) ∧ Below W.heap.size W w') := fun W hb => by
    exact HLa.out a1 none c1 0 [] [] 8 W (by simp) (HMe.out.below hb) (Lies.nil _ _ _) (fun _ => rfl) (fun _ => rfl)
  have HL2 : Hid (∀ W, Below wB.heap.size wB W → Calls Try.prog 16 #[.slice a3 LN c3, .int .i64 0, .int .i64 0, .slice a7 LN c7] W fun x w' => x = .returned (.bool true) ∧ Below W.heap.size W w') := fun W hb => by
    rw [HLN.out]
    exact HLa.out a3 a7 c3 c7 LV LV 0 W HLVn.out (HDe.out.below hb) (HLe.out.below hb) (fun _ => rfl) (fun h => absurd rfl h)
  clear HXe HXf HXh HLa
  go_wp2_with fail
  go_region_held3 (fun w' => (w'.cell? ⟨w.heap.size, 0, none⟩ = some (.bool p.v) ∧ w'.cell? ⟨w.heap.size, 1, none⟩ = some (.int .u64 p.hi) ∧ w'.cell? ⟨w.heap.size, 2, none⟩ = some (.int .u64 p.lo) ∧ w'.cell? ⟨w.heap.size, 3, none⟩ = some (.int .i64 p.b) ∧ w'.cell? ⟨w.heap.size, 4, none⟩ = some (.slice ka KN kc) ∧ w.heap.size < w'.heap.size) ∧ (w'.cell? ⟨xb, 0, none⟩ = some (.bool false) ∧ w'.cell? ⟨xb, 1, none⟩ = some (.int .u64 0) ∧ w'.cell? ⟨xb, 2, none⟩ = some (.int .u64 0) ∧ xb < w'.heap.size) ∧ (w'.cell? ⟨tb, 0, none⟩ = some (.bool false) ∧ w'.cell? ⟨tb, 1, none⟩ = some (.int .u64 0) ∧ w'.cell? ⟨tb, 2, none⟩ = some (.int .u64 0) ∧ tb < w'.heap.size) ∧ Below wB.heap.size wB w')
    (first | with_reducible exact HSd.out | fail)
    (first
      | (go_at_call 12; refine (HBe.out _).mono ?_; rintro e wx ⟨rfl, hb⟩; replace HSd := Lib.hid (keepT HSd.out hb); clear hb)
      | (go_at_call 13; refine (HPl.out _ (btr HBe2.out HSd.out.2.2.2)).mono ?_; rintro e wx ⟨rfl, hb⟩; replace HSd := Lib.hid (keepT HSd.out hb); clear hb)
      | (go_at_call 14; refine (HCp.out _ (btr HBe2.out HSd.out.2.2.2)).mono ?_; rintro e wx ⟨rfl, hb⟩; replace HSd := Lib.hid (keepT HSd.out hb); clear hb)
      | (go_at_call 15; refine (HCk.out _ (btr HBe2.out HSd.out.2.2.2)).mono ?_; rintro e wx ⟨rfl, hb⟩; replace HSd := Lib.hid (keepT HSd.out hb); clear hb)
      | (go_at_call 16; (with_reducible refine (HL1.out _ HSd.out.2.2.2).mono ?_); rintro e wx ⟨rfl, hb⟩; replace HSd := Lib.hid (keepT HSd.out hb); clear hb)
      | (go_at_call 16; (with_reducible refine (HL2.out _ HSd.out.2.2.2).mono ?_); rintro e wx ⟨rfl, hb⟩; replace HSd := Lib.hid (keepT HSd.out hb); clear hb))
  have HBz : Hid (Below w.heap.size w wx) := btr HBe2.out HSd.out.2.2.2
  clear HSd
  go_wp2_with fail
  go_ret
  exact ⟨rfl, HBz.out⟩
end Go.Proofs.Ytiiankekobgebaa
