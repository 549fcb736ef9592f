/- LeaseOnce: its walk. -/
import Derived.Test.YtiiankekobgebaaGreatDoorKmD
import Derived.Test.YtiiankekobgebaaGreatDoorPBb
set_option linter.unusedVariables false
set_option linter.unusedSimpArgs false
namespace Go.Proofs.YtiiankekobgebaaGreatDoor
open Go.RowKit Go.Shelf

theorem eqA_self (w : World) (x : Ad) : (binOp .eql 24 (.agg #[.bool x.v, .int .u64 x.hi, .int .u64 x.lo]) (.agg #[.bool x.v, .int .u64 x.hi, .int .u64 x.lo])).run Tryz.prog w = .ok (.bool true) w := by
  have := eql_ad w x x
  rw [(eqAd_iff x x).2 rfl] at this
  exact this
theorem neA_self (w : World) (x : Ad) : (binOp .neq 24 (.agg #[.bool x.v, .int .u64 x.hi, .int .u64 x.lo]) (.agg #[.bool x.v, .int .u64 x.hi, .int .u64 x.lo])).run Tryz.prog w = .ok (.bool false) w := by
  have := neqAd_run w x x
  rw [(sameA_iff x x).2 rfl] at this
  exact this
theorem neL_self (w : World) (x : Ls) : (binOp .neq 39 (.agg #[.bool x.a.v, .int .u64 x.a.hi, .int .u64 x.a.lo, .string x.who, .int .i64 x.un]) (.agg #[.bool x.a.v, .int .u64 x.a.hi, .int .u64 x.a.lo, .string x.who, .int .i64 x.un])).run Tryz.prog w = .ok (.bool false) w := by
  have := neq_ls w x x
  rw [(eqL_iff x x).2 rfl] at this
  exact this
theorem take_any {α : Type} (f : α → Bool) (l : List α) (j : Nat) (h : j < l.length) : (l.take (j + 1)).any f = ((l.take j).any f || f l[j]) := by
  rw [List.take_succ_eq_append_getElem h, List.any_append, List.any_cons, List.any_nil, Bool.or_false]

theorem keep9 {W W' : World} {g i q : Nat} {x0 x1 x2 x4 y0 y1 y2 : Value} (h : (W.cell? ⟨g, i, none⟩ = some x0 ∧ W.cell? ⟨g, i + 1, none⟩ = some x1 ∧ W.cell? ⟨g, i + 2, none⟩ = some x2 ∧ W.cell? ⟨g, i + 4, none⟩ = some x4) ∧ (W.cell? ⟨q, 0, none⟩ = some y0 ∧ W.cell? ⟨q, 1, none⟩ = some y1 ∧ W.cell? ⟨q, 2, none⟩ = some y2)) (e : W' = W.drew) :
    (W'.cell? ⟨g, i, none⟩ = some x0 ∧ W'.cell? ⟨g, i + 1, none⟩ = some x1 ∧ W'.cell? ⟨g, i + 2, none⟩ = some x2 ∧ W'.cell? ⟨g, i + 4, none⟩ = some x4) ∧ (W'.cell? ⟨q, 0, none⟩ = some y0 ∧ W'.cell? ⟨q, 1, none⟩ = some y1 ∧ W'.cell? ⟨q, 2, none⟩ = some y2) := by
  subst e
  exact h
theorem keep55 {W W' : World} {g i g' i' : Nat} {x0 x1 x2 x3 x4 y0 y1 y2 y3 y4 : Value} (h : (W.cell? ⟨g, i, none⟩ = some x0 ∧ W.cell? ⟨g, i + 1, none⟩ = some x1 ∧ W.cell? ⟨g, i + 2, none⟩ = some x2 ∧ W.cell? ⟨g, i + 3, none⟩ = some x3 ∧ W.cell? ⟨g, i + 4, none⟩ = some x4) ∧ (W.cell? ⟨g', i', none⟩ = some y0 ∧ W.cell? ⟨g', i' + 1, none⟩ = some y1 ∧ W.cell? ⟨g', i' + 2, none⟩ = some y2 ∧ W.cell? ⟨g', i' + 3, none⟩ = some y3 ∧ W.cell? ⟨g', i' + 4, none⟩ = some y4)) (e : W' = W.drew) :
    (W'.cell? ⟨g, i, none⟩ = some x0 ∧ W'.cell? ⟨g, i + 1, none⟩ = some x1 ∧ W'.cell? ⟨g, i + 2, none⟩ = some x2 ∧ W'.cell? ⟨g, i + 3, none⟩ = some x3 ∧ W'.cell? ⟨g, i + 4, none⟩ = some x4) ∧ (W'.cell? ⟨g', i', none⟩ = some y0 ∧ W'.cell? ⟨g', i' + 1, none⟩ = some y1 ∧ W'.cell? ⟨g', i' + 2, none⟩ = some y2 ∧ W'.cell? ⟨g', i' + 3, none⟩ = some y3 ∧ W'.cell? ⟨g', i' + 4, none⟩ = some y4) := by
  subst e
  exact h

set_option maxHeartbeats 16000000 in
set_option maxRecDepth 100000 in
theorem lq_bad (p : Pf) (hp : p.Ok) (ka : Option Addr) (kc : Nat) (kept : List Ad) (a : Option Addr) (c : Nat) (l : List Ls) (who : ByteArray) (now ttl more : Int) (w : World) (hg : Good w) (hk : Lies adE w ka kept) (hs : Lies lsE w a l) (E : Int) (hE0 : ¬ E = 0) (hgo : gOut p kept l who now ttl = (E, [], zeroAd)) :
    Calls Tryz.prog 3 #[.agg #[.bool p.v, .int .u64 p.hi, .int .u64 p.lo, .int .i64 p.b, .slice ka kept.length kc], .slice a l.length c, .string who, .int .i64 now, .int .i64 ttl, .int .i64 more] w fun e w' => e = .returned (.bool true) ∧ Below w.heap.size w w' := by
  have HBe : Hid (∀ W, Calls Tryz.prog 5 #[] W fun e w' => e = .returned (.bool true) ∧ Below W.heap.size W w') := lbegun_any
  have HPb : Hid (∀ W, Below w.heap.size w W → Calls Tryz.prog 6 #[] W fun e w' => e = .returned (.bool true) ∧ Below W.heap.size W w') := fun W hb => pbegun_any W (hg.below hb)
  have HG : Hid (∀ W, Below w.heap.size w W → Calls Tryz.prog 7 #[.agg #[.bool p.v, .int .u64 p.hi, .int .u64 p.lo, .int .i64 p.b, .slice ka kept.length kc], .slice a l.length c, .string who, .int .i64 now, .int .i64 ttl] W fun e w' => ∃ a4 c4, e = .returned (.tuple #[.slice a4 0 c4, .agg #[.bool false, .int .u64 0, .int .u64 0], .int .i64 E]) ∧ Below W.heap.size W w') := fun W hb => by
    have := lgrant_any p hp ka kc kept a c l who now ttl W (hk.below hb) (hs.below hb)
    rw [hgo] at this
    exact this.mono fun e w' ⟨a4, c4, h1, h2, h3⟩ => ⟨a4, c4, h1, h3⟩
  have HX5 : Hid (Box5 (w.alloc (.cells #[.bool p.v, .int .u64 p.hi, .int .u64 p.lo, .int .i64 p.b, .slice ka kept.length kc] 29)) w.heap.size p (.slice ka kept.length kc)) := Box5.new w p _
  have HB0 := Lib.hid (bal (Below.refl w.heap.size w) (.cells #[.bool p.v, .int .u64 p.hi, .int .u64 p.lo, .int .i64 p.b, .slice ka kept.length kc] 29))
  have hEb : (E != 0) = true := by rw [bne_iff_ne]; exact hE0
  obtain ⟨KN, hKN⟩ : ∃ KN, KN = kept.length := ⟨_, rfl⟩
  rw [← hKN] at HG HX5 HB0 ⊢
  obtain ⟨N, hN⟩ : ∃ N, N = l.length := ⟨_, rfl⟩
  rw [← hN] at HG ⊢
  clear hg hk hs hgo hKN hN hE0
  go_enter Tryz.func3, Tryz.ntmps3
  go_wp2_with fail
  refine (HBe.out _).mono ?_
  rintro e w1 ⟨rfl, hb1⟩
  replace HX5 := Lib.hid (HX5.out.below hb1)
  replace HB0 := Lib.hid (btr HB0.out hb1)
  clear hb1
  go_wp2_with fail
  refine (HPb.out _ HB0.out).mono ?_
  rintro e w2 ⟨rfl, hb2⟩
  replace HX5 := Lib.hid (HX5.out.below hb2)
  replace HB0 := Lib.hid (btr HB0.out hb2)
  clear hb2
  obtain ⟨x0, x1, x2, x3, x4⟩ := HX5.out.cells
  go_wp2_with fail
  refine (HG.out _ HB0.out).mono ?_
  rintro e w3 ⟨a3, c3, rfl, hb3⟩
  have HBz := Lib.hid (bal (btr HB0.out hb3) (.cells #[.bool false, .int .u64 0, .int .u64 0] 24))
  clear x0 x1 x2 x3 x4 hb3
  go_wp2_with fail
  go_ret
  exact ⟨rfl, HBz.out⟩

set_option maxHeartbeats 32000000 in
set_option maxRecDepth 100000 in
theorem lq_good (p : Pf) (hp : p.Ok) (ka : Option Addr) (kc : Nat) (kept : List Ad) (a : Option Addr) (c : Nat) (l : List Ls) (who : ByteArray) (now ttl more : Int) (w : World) (hg : Good w) (hk : Lies adE w ka kept) (hs : Lies lsE w a l) (M : List Ls) (X : Ad) (h : Granted p kept l who now ttl M X) :
    Calls Tryz.prog 3 #[.agg #[.bool p.v, .int .u64 p.hi, .int .u64 p.lo, .int .i64 p.b, .slice ka kept.length kc], .slice a l.length c, .string who, .int .i64 now, .int .i64 ttl, .int .i64 more] w fun e w' => e = .returned (.bool true) ∧ Below w.heap.size w w' := by
  have HBe : Hid (∀ W, Calls Tryz.prog 5 #[] W fun e w' => e = .returned (.bool true) ∧ Below W.heap.size W w') := lbegun_any
  have HPb : Hid (∀ W, Below w.heap.size w W → Calls Tryz.prog 6 #[] W fun e w' => e = .returned (.bool true) ∧ Below W.heap.size W w') := fun W hb => pbegun_any W (hg.below hb)
  have HG : Hid (∀ W, Below w.heap.size w W → Calls Tryz.prog 7 #[.agg #[.bool p.v, .int .u64 p.hi, .int .u64 p.lo, .int .i64 p.b, .slice ka kept.length kc], .slice a l.length c, .string who, .int .i64 now, .int .i64 ttl] W fun e w' => ∃ a4 c4, e = .returned (.tuple #[.slice a4 M.length c4, .agg #[.bool X.v, .int .u64 X.hi, .int .u64 X.lo], .int .i64 0]) ∧ Lies lsE w' a4 M ∧ Below W.heap.size W w') := fun W hb => by
    have := lgrant_any p hp ka kc kept a c l who now ttl W (hk.below hb) (hs.below hb)
    rw [h.out] at this
    exact this
  have HC : Hid (∀ (W : World) (a4 : Option Addr) (c4 : Nat), Below w.heap.size w W → Lies lsE W a4 M → Calls Tryz.prog 8 #[.agg #[.bool p.v, .int .u64 p.hi, .int .u64 p.lo, .int .i64 p.b, .slice ka kept.length kc], .slice a4 M.length c4, .int .i64 now] W fun e w' => e = .returned (.int .i64 0) ∧ Below W.heap.size W w') := fun W a4 c4 hb hl => by
    have := check_ls p hp ka kc kept a4 c4 M now W (hk.below hb) hl
    rw [h.chk] at this
    exact this
  have HH : Hid (∀ W, Calls Tryz.prog 9 #[.agg #[.bool p.v, .int .u64 p.hi, .int .u64 p.lo, .int .i64 p.b], .agg #[.bool X.v, .int .u64 X.hi, .int .u64 X.lo]] W fun e w' => e = .returned (.bool true) ∧ Below W.heap.size W w') := fun W => by
    have := rhas_ad p X W h.r h.cx
    rw [h.b.inp] at this
    exact this
  have HWh : Hid (∀ (W : World) (a4 : Option Addr) (c4 : Nat) (s : ByteArray), Lies lsE W a4 M → Calls Tryz.prog 10 #[.slice a4 M.length c4, .string s] W fun e w' => e = .returned (.int .i64 (idxI (M.findIdx? (Ls.hasWho s)))) ∧ w' = W) := fun W a4 c4 s hl => whoAt_any a4 c4 M s W (by have := h.len; omega) hl
  have HG2 : Hid (∀ (W : World) (a4 : Option Addr) (c4 : Nat), Below w.heap.size w W → Lies lsE W a4 M → ∃ E2 N2 X2, (((more < 1 ∨ 500 < more) ∧ E2 = 3 ∧ X2 = zeroAd) ∨ (¬ (more < 1 ∨ 500 < more) ∧ E2 = 0 ∧ N2 = M.length ∧ X2 = X)) ∧ Calls Tryz.prog 7 #[.agg #[.bool p.v, .int .u64 p.hi, .int .u64 p.lo, .int .i64 p.b, .slice ka kept.length kc], .slice a4 M.length c4, .string who, .int .i64 now, .int .i64 more] W fun e w' => ∃ a5 c5, e = .returned (.tuple #[.slice a5 N2 c5, .agg #[.bool X2.v, .int .u64 X2.hi, .int .u64 X2.lo], .int .i64 E2]) ∧ Below W.heap.size W w') := fun W a4 c4 hb hl => by
    have hc := lgrant_any p hp ka kc kept a4 c4 M who now more W (hk.below hb) hl
    rcases h.again more with ⟨hm, ho⟩ | ⟨hm, M2, hl2, ho⟩
    · rw [ho] at hc
      exact ⟨3, 0, zeroAd, .inl ⟨hm, rfl, rfl⟩, hc.mono fun e w' ⟨a5, c5, h1, h2, h3⟩ => ⟨a5, c5, h1, h3⟩⟩
    · rw [ho] at hc
      simp only [hl2] at hc
      exact ⟨0, M.length, X, .inr ⟨hm, rfl, rfl, rfl⟩, hc.mono fun e w' ⟨a5, c5, h1, h2, h3⟩ => ⟨a5, c5, h1, h3⟩⟩
  obtain ⟨i, hi, hfi, hMa, hMu⟩ := h.b.at'
  have HFi := Lib.hid hfi
  have hn := h.num
  have hkl := h.kl
  have hll := h.ll
  have hml := h.len
  have HKp : Hid (∀ y ∈ l, ¬ y.who = who → ¬ y.un < now → ∃ n, ∃ hn : n < M.length, M.findIdx? (Ls.hasWho y.who) = some n ∧ M[n] = y) := fun y hy => h.kept' hy
  have HFr := Lib.hid h.fresh
  have hwr : IntKind.i64.wrap (now + ttl) = now + ttl := by rw [IntKind.wrap_i64]; omega
  have HK := Lib.hid hk
  have HS := Lib.hid hs
  have HX5 : Hid (Box5 (w.alloc (.cells #[.bool p.v, .int .u64 p.hi, .int .u64 p.lo, .int .i64 p.b, .slice ka kept.length kc] 29)) w.heap.size p (.slice ka kept.length kc)) := Box5.new w p _
  have HB0 := Lib.hid (bal (Below.refl w.heap.size w) (.cells #[.bool p.v, .int .u64 p.hi, .int .u64 p.lo, .int .i64 p.b, .slice ka kept.length kc] 29))
  obtain ⟨KN, hKN⟩ : ∃ KN, KN = kept.length := ⟨_, rfl⟩
  rw [← hKN] at HG HC HG2 HX5 HB0 hkl ⊢
  have HKN := Lib.hid hKN
  obtain ⟨N, hN⟩ : ∃ N, N = l.length := ⟨_, rfl⟩
  rw [← hN] at HG hll ⊢
  have HN := Lib.hid hN
  obtain ⟨MN, hMN⟩ : ∃ MN, MN = M.length := ⟨_, rfl⟩
  simp only [← hMN] at HG HC HWh HG2
  have HMN := Lib.hid hMN
  have hMa' := Lib.hid hMa
  have hMu' := Lib.hid hMu
  clear hg hk hs h hKN hN hMN hfi hMa hMu
  go_enter Tryz.func3, Tryz.ntmps3
  go_wp2_with fail
  refine (HBe.out _).mono ?_
  rintro e w1 ⟨rfl, hb1⟩
  replace HX5 := Lib.hid (HX5.out.below hb1)
  replace HB0 := Lib.hid (btr HB0.out hb1)
  clear hb1
  go_wp2_with fail
  refine (HPb.out _ HB0.out).mono ?_
  rintro e w2 ⟨rfl, hb2⟩
  replace HX5 := Lib.hid (HX5.out.below hb2)
  replace HB0 := Lib.hid (btr HB0.out hb2)
  clear hb2
  obtain ⟨x0, x1, x2, x3, x4⟩ := HX5.out.cells
  go_wp2_with fail
  refine (HG.out _ HB0.out).mono ?_
  rintro e w3 ⟨a3, c3, rfl, hm3, hb3⟩
  have HBX := Lib.hid (Box3.new w3 X)
  have HM := Lib.hid (hm3.below (bal (Below.refl _ _) (.cells #[.bool X.v, .int .u64 X.hi, .int .u64 X.lo] 24)))
  replace HX5 := Lib.hid ((HX5.out.below hb3).below (bal (Below.refl _ _) (.cells #[.bool X.v, .int .u64 X.hi, .int .u64 X.lo] 24)))
  replace HB0 := Lib.hid (bal (btr HB0.out hb3) (.cells #[.bool X.v, .int .u64 X.hi, .int .u64 X.lo] 24))
  clear x0 x1 x2 x3 x4 hb3 hm3 HG HBe HPb
  obtain ⟨xb, hxb⟩ : ∃ xb, xb = w3.heap.size := ⟨_, rfl⟩
  have HF4 : Hid (w3.heap.size = xb) := hxb.symm
  rw [← hxb] at HBX
  obtain ⟨w4, hw4⟩ : ∃ w4, w4 = w3.alloc (.cells #[.bool X.v, .int .u64 X.hi, .int .u64 X.lo] 24) := ⟨_, rfl⟩
  rw [← hw4] at HBX HM HX5 HB0
  obtain ⟨x0, x1, x2, x3, x4⟩ := HX5.out.cells
  rw [hw4] at x0 x1 x2 x3 x4
  have HC' := Lib.hid (HC.out w4 a3 c3 HB0.out HM.out)
  rw [hw4] at HC'
  have HW4 := Lib.hid hw4
  clear hw4 hxb HC
  go_wp2_with fail
  refine HC'.out.mono ?_
  rintro e w5 ⟨rfl, hb5⟩
  rw [← HW4.out] at hb5
  rw [HF4.out]
  replace HBX := Lib.hid (HBX.out.below hb5)
  replace HM := Lib.hid (HM.out.below hb5)
  replace HX5 := Lib.hid (HX5.out.below hb5)
  replace HB0 := Lib.hid (btr HB0.out hb5)
  clear x0 x1 x2 x3 x4 hb5 HC' HW4 HF4
  obtain ⟨x0, x1, x2, x3, x4⟩ := HX5.out.cells
  obtain ⟨⟨b0, b1, b2⟩, _⟩ := HBX.out.cells
  go_wp2_with fail
  refine (HH.out _).mono ?_
  rintro e w6 ⟨rfl, hb6⟩
  replace HBX := Lib.hid (HBX.out.below hb6)
  replace HM := Lib.hid (HM.out.below hb6)
  replace HX5 := Lib.hid (HX5.out.below hb6)
  replace HB0 := Lib.hid (btr HB0.out hb6)
  clear x0 x1 x2 x3 x4 b0 b1 b2 hb6 HH
  have HW6 := Lib.hid (HWh.out w6 a3 c3 who HM.out)
  rw [HFi.out] at HW6
  go_wp2_with fail
  refine HW6.out.mono ?_
  rintro e w7 ⟨rfl, rfl⟩
  rw [show idxI (some i) = (i : Int) from rfl]
  obtain ⟨g, o, rfl, hgl, c0, c1, c2, c3', c4⟩ := HM.out.ls i hi
  rw [hMa'.out] at c0 c1 c2
  rw [hMu'.out] at c4
  obtain ⟨⟨b0, b1, b2⟩, _⟩ := HBX.out.cells
  have hI0 : ¬ (i : Int) < 0 := by omega
  have hi0 : (0 : Int) ≤ (i : Int) := by omega
  have hiz : (i : Int) < (MN : Int) := by have := HMN.out; omega
  have hNe := fun W => neA_self W X
  have HBd := Lib.hid (HB0.out.drew)
  have HXd := Lib.hid (HBX.out.below (Below.refl _ _).drew)
  have HMd := Lib.hid (HM.out.below (Below.refl _ _).drew)
  have HX5d := Lib.hid (HX5.out.below (Below.refl _ _).drew)
  have HSd := Lib.hid (keep9 (W := w7) ⟨⟨c0, c1, c2, c4⟩, b0, b1, b2⟩ rfl)
  clear HW6 hgl b0 b1 b2 c0 c1 c2 c3' c4 HBX HM HX5 HB0
  go_wp2_with fail
  go_region_held3 (fun w' => (w'.cell? ⟨g, o + i * 5, none⟩ = some (.bool X.v) ∧ w'.cell? ⟨g, o + i * 5 + 1, none⟩ = some (.int .u64 X.hi) ∧ w'.cell? ⟨g, o + i * 5 + 2, none⟩ = some (.int .u64 X.lo) ∧ w'.cell? ⟨g, o + i * 5 + 4, none⟩ = some (.int .i64 (now + ttl))) ∧ (w'.cell? ⟨xb, 0, none⟩ = some (.bool X.v) ∧ w'.cell? ⟨xb, 1, none⟩ = some (.int .u64 X.hi) ∧ w'.cell? ⟨xb, 2, none⟩ = some (.int .u64 X.lo)))
    (first | with_reducible exact HSd.out | fail) (fail)
  clear HSd hNe
  generalize w7.drew = w8 at *
  obtain ⟨F, hF⟩ : ∃ F : Ls → Bool, F = fun y => decide (y.who = who) && decide (now ≤ y.un) := ⟨_, rfl⟩
  have HF := Lib.hid hF
  clear hF
  go_wp2_with fail
  go_loopw [12, 17, 18] (fun vr vf vk wr => ∃ (k : Nat) (f : Bool), vr = .bool false ∧ vf = .bool f ∧ vk = .int .i64 k ∧ k ≤ N ∧ Hid (f = !((l.take k).any F)) ∧ Hid (Below w8.heap.size w8 wr)) (fun _ _ vk _ => N - (intOf vk).toNat)
  case atStart => exact ⟨0, true, rfl, rfl, rfl, Nat.zero_le _, by simp [Hid], Below.refl _ _⟩
  case round =>
    obtain ⟨k, f, rfl, rfl, rfl, hkN', Hf, HB⟩ := hrel
    by_cases hkN : k < N
    · have hkl : k < l.length := by have := HN.out; omega
      obtain ⟨g', o', rfl, hg', d0, d1, d2, d3, d4⟩ := (HS.out.below (btr HBd.out HB.out)).ls k hkl
      have HAny := Lib.hid (take_any F l k hkl)
      have hmem := List.getElem_mem hkl
      have hkz : (k : Int) < (N : Int) := by omega
      have hk0 : (0 : Int) ≤ (k : Int) := by omega
      obtain ⟨y, hy⟩ : ∃ y, y = l[k] := ⟨_, rfl⟩
      rw [← hy] at d0 d1 d2 d3 d4 HAny hmem
      have Hmem := Lib.hid hmem
      have HFy : Hid (F y = (decide (y.who = who) && decide (now ≤ y.un))) := by rw [HF.out]; exact rfl
      clear hy hmem hg'
      by_cases hw : y.who = who
      · have hs1 : (y.who.toList == who.toList) = true := by rw [text_eq]; simp [hw]
        by_cases hu : now ≤ y.un
        · have hd1 : decide (now ≤ y.un) = true := decide_eq_true hu
          have HNw : Hid (false = !((l.take (k + 1)).any F)) := by rw [Hid, HAny.out, HFy.out, hd1]; simp [hw]
          clear hw hu
          go_wp2_with fail
          go_roundw
          case rel => exact ⟨k + 1, false, rfl, rfl, by go_num, by omega, HNw, HB⟩
          case measure => simp [intOf]; omega
        · have hd1 : decide (now ≤ y.un) = false := decide_eq_false hu
          have HNw : Hid (f = !((l.take (k + 1)).any F)) := by rw [Hid, HAny.out, HFy.out, hd1, Hf.out]; simp
          clear hw hu
          go_wp2_with fail
          go_roundw
          case rel => exact ⟨k + 1, f, rfl, rfl, by go_num, by omega, HNw, HB⟩
          case measure => simp [intOf]; omega
      · have hs1 : (y.who.toList == who.toList) = false := by rw [text_eq]; simp [hw]
        have HNw : Hid (f = !((l.take (k + 1)).any F)) := by rw [Hid, HAny.out, HFy.out, Hf.out]; simp [hw]
        by_cases hu : y.un < now
        · have hd1 : decide (y.un < now) = true := decide_eq_true hu
          clear hw hu
          go_wp2_with fail
          go_roundw
          case rel => exact ⟨k + 1, f, rfl, rfl, by go_num, by omega, HNw, HB⟩
          case measure => simp [intOf]; omega
        · have hd1 : decide (y.un < now) = false := decide_eq_false hu
          obtain ⟨n, hnl, hfn, hMn⟩ := HKp.out y Hmem.out hw (by omega)
          have HW := Lib.hid (HWh.out wr _ c3 y.who (HMd.out.below HB.out))
          rw [hfn] at HW
          obtain ⟨g2, o2, ea2, hg2, e0, e1, e2, e3, e4⟩ := (HMd.out.below HB.out).ls n hnl
          injection ea2 with ea2
          injection ea2 with ea3 ea4
          subst ea3 ea4
          rw [hMn] at e0 e1 e2 e3 e4
          have hn0 : ¬ (n : Int) < 0 := by omega
          have hn1 : (0 : Int) ≤ (n : Int) := by omega
          have hnz : (n : Int) < (MN : Int) := by have := HMN.out; omega
          have hNe := fun W => neL_self W y
          have HBdr := Lib.hid HB.out.drew
          have HSd := Lib.hid (keep55 (W := wr) ⟨⟨e0, e1, e2, e3, e4⟩, d0, d1, d2, d3, d4⟩ rfl)
          clear hw hu hfn hMn hg2 e0 e1 e2 e3 e4
          go_wp2_with fail
          refine HW.out.mono ?_
          rintro e wy ⟨rfl, rfl⟩
          rw [show idxI (some n) = (n : Int) from rfl]
          clear HW d0 d1 d2 d3 d4
          go_wp2_with fail
          go_region_held3 (fun w' => (w'.cell? ⟨g, o + n * 5, none⟩ = some (.bool y.a.v) ∧ w'.cell? ⟨g, o + n * 5 + 1, none⟩ = some (.int .u64 y.a.hi) ∧ w'.cell? ⟨g, o + n * 5 + 2, none⟩ = some (.int .u64 y.a.lo) ∧ w'.cell? ⟨g, o + n * 5 + 3, none⟩ = some (.string y.who) ∧ w'.cell? ⟨g, o + n * 5 + 4, none⟩ = some (.int .i64 y.un)) ∧ (w'.cell? ⟨g', o' + k * 5, none⟩ = some (.bool y.a.v) ∧ w'.cell? ⟨g', o' + k * 5 + 1, none⟩ = some (.int .u64 y.a.hi) ∧ w'.cell? ⟨g', o' + k * 5 + 2, none⟩ = some (.int .u64 y.a.lo) ∧ w'.cell? ⟨g', o' + k * 5 + 3, none⟩ = some (.string y.who) ∧ w'.cell? ⟨g', o' + k * 5 + 4, none⟩ = some (.int .i64 y.un)))
            (first | with_reducible exact HSd.out | fail) (fail)
          clear HSd hNe
          go_wp2_with fail
          go_roundw
          case rel => exact ⟨k + 1, f, rfl, rfl, by go_num, by omega, HNw, HBdr⟩
          case measure => simp [intOf]; omega
    · have ekN : N = k := by omega
      subst ekN
      have hkk : ¬ (N : Int) < (N : Int) := by omega
      have HfN : Hid (f = true → kept.any (sameA X) = false) := fun hft => HFr.out fun y hy hyw => by
        have h1 := Hf.out
        rw [List.take_of_length_le (by have := HN.out; omega), hft] at h1
        have h2 : l.any F = false := by simpa using h1.symm
        rw [List.any_eq_false] at h2
        have h3 := h2 y hy
        rw [HF.out] at h3
        exact h3 (by simp [hyw.1, hyw.2])
      obtain ⟨wo, hwo⟩ : ∃ wo, wo = wr := ⟨_, rfl⟩
      subst hwo
      have HBo := Lib.hid (btr HBd.out HB.out)
      have HMo := Lib.hid (HMd.out.below HB.out)
      have HXo := Lib.hid (HXd.out.below HB.out)
      have HX5o := Lib.hid (HX5d.out.below HB.out)
      clear HF HFr Hf HB HBd HMd HXd HX5d HKp HWh HS
      go_wp2_with fail
      go_loopw [12, 20] (fun vr vj wr => ∃ j : Nat, vr = .bool false ∧ vj = .int .i64 j ∧ j ≤ KN ∧ Hid (Below wo.heap.size wo wr)) (fun _ vj _ => KN - (intOf vj).toNat)
      case atStart => exact ⟨0, rfl, rfl, Nat.zero_le _, Below.refl _ _⟩
      case round =>
        obtain ⟨j, rfl, rfl, hjN', HBj⟩ := hrel
        obtain ⟨x0, x1, x2, x3, x4⟩ := (HX5o.out.below HBj.out).cells
        obtain ⟨⟨b0, b1, b2⟩, _⟩ := (HXo.out.below HBj.out).cells
        by_cases hjN : j < KN
        · have hjl : j < kept.length := by have := HKN.out; omega
          obtain ⟨g2, o2, rfl, hg2, e0, e1, e2⟩ := (HK.out.below (btr HBo.out HBj.out)).ad j hjl
          have hjz : (j : Int) < (KN : Int) := by omega
          have hj0 : (0 : Int) ≤ (j : Int) := by omega
          have HBjd := Lib.hid HBj.out.drew
          cases f
          · clear hg2
            go_wp2_with fail
            go_region
            go_wp2_with fail
            go_roundw
            case rel => exact ⟨j + 1, rfl, by go_num, by omega, HBjd⟩
            case measure => simp [intOf]; omega
          · have hne : eqAd kept[j] X = false := by
              have h1 := HfN.out rfl
              rw [List.any_eq_false] at h1
              have h2 := h1 kept[j] (List.getElem_mem hjl)
              rw [Bool.eq_false_iff]
              intro h3
              exact h2 ((sameA_iff _ _).2 ((eqAd_iff _ _).1 h3).symm)
            have hE := fun W => eql_ad W kept[j] X
            rw [hne] at hE
            generalize kept[j].v = z0 at *
            generalize kept[j].hi = z1 at *
            generalize kept[j].lo = z2 at *
            clear hg2 hne
            go_wp2_with fail
            go_region
            go_wp2_with fail
            go_roundw
            case rel => exact ⟨j + 1, rfl, by go_num, by omega, HBjd⟩
            case measure => simp [intOf]; omega
        · have ejN : KN = j := by omega
          subst ejN
          have hjj : ¬ (KN : Int) < (KN : Int) := by omega
          obtain ⟨E2, N2, X2, hcase, hcall⟩ := HG2.out wr _ c3 (btr HBo.out HBj.out) (HMo.out.below HBj.out)
          have HCall := Lib.hid hcall
          have HBr := Lib.hid (btr HBo.out HBj.out)
          have HXr := Lib.hid (HXo.out.below HBj.out)
          clear hcall b0 b1 b2 HfN
          go_wp2_with fail
          refine HCall.out.mono ?_
          rintro e wz ⟨a5, c5, rfl, hbz⟩
          have HXz := Lib.hid ((HXr.out.below hbz).below (bal (Below.refl _ _) (.cells #[.bool X2.v, .int .u64 X2.hi, .int .u64 X2.lo] 24)))
          have HYz := Lib.hid (Box3.new wz X2)
          have HBz := Lib.hid (bal (btr HBr.out hbz) (.cells #[.bool X2.v, .int .u64 X2.hi, .int .u64 X2.lo] 24))
          obtain ⟨⟨b0, b1, b2⟩, _⟩ := HXz.out.cells
          obtain ⟨⟨n0, n1, n2⟩, _⟩ := HYz.out.cells
          have hxlt : xb < wz.heap.size := (HXr.out.below hbz).lt
          obtain ⟨⟨q0, q1, q2⟩, _⟩ := (HXr.out.below hbz).cells
          clear HCall x0 x1 x2 x3 x4 hbz HXz HYz HXr HBr
          rcases hcase with ⟨hm, rfl, rfl⟩ | ⟨hm, rfl, rfl, rfl⟩
          · by_cases h1 : more < 1
            · have hd1 : decide (more < 1) = true := decide_eq_true h1
              clear b0 b1 b2 n0 n1 n2 q0 q1 q2 hm h1
              go_wp2_with fail
              go_ret
              exact ⟨rfl, HBz.out⟩
            · have hd1 : decide (more < 1) = false := decide_eq_false h1
              have hd2 : decide (500 < more) = true := decide_eq_true (by omega)
              clear b0 b1 b2 n0 n1 n2 q0 q1 q2 hm h1
              go_wp2_with fail
              go_ret
              exact ⟨rfl, HBz.out⟩
          · have hEq := fun W => eqA_self W X2
            clear hm
            go_wp2_with fail
            go_ret
            exact ⟨rfl, HBz.out⟩
end Go.Proofs.YtiiankekobgebaaGreatDoor
