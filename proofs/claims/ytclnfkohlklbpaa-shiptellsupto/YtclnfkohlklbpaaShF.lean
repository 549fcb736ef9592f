/- ShipTells: its walk, path by path. -/
import Derived.Test.YtclnfkohlklbpaaShE
import Derived.Test.YtclnfkohlklbpaaFrA
set_option linter.unusedVariables false
set_option linter.unusedSimpArgs false
namespace Go.Proofs.Ytclnfkohlklbpaa
open Go.RowKit

theorem next_nil {h l : List En} {many : Int} (z : ¬ nextE h l many = 0) : nextL h l many = [] := by unfold nextL; rw [if_neg z]
theorem next_len (h l : List En) (many : Int) : (nextL h l many).length ≤ 1000 := by
  by_cases z : nextE h l many = 0
  · have e : begE h l = 0 := by unfold nextE at z; by_cases q : begE h l = 0; exact q; rw [if_neg q] at z; exact z
    have hl : l.length ≤ 30 := logE_len (by unfold begE at e; by_cases q : logE h = 0; rw [if_pos q] at e; exact e; rw [if_neg q] at e; exact absurd e q)
    unfold nextL
    rw [if_pos z, List.length_take, List.length_drop]
    omega
  · rw [next_nil z]; simp
theorem take_nil {h m : List En} (z : ¬ takeE h m = 0) : takeL h m = [] := by unfold takeL; rw [if_neg z]
theorem take_eq {h m : List En} (z : takeE h m = 0) : takeL h m = h ++ m := by unfold takeL; rw [if_pos z]
theorem take_len (h m : List En) : (takeL h m).length ≤ 1000 := by
  by_cases z : takeE h m = 0
  · have e : logE (h ++ m) = 0 := by unfold takeE at z; by_cases q : logE h = 0; rw [if_pos q] at z; exact z; rw [if_neg q] at z; exact absurd z q
    rw [take_eq z]
    exact Nat.le_trans (logE_len e) (by decide)
  · rw [take_nil z]; simp
set_option maxHeartbeats 32000000 in
set_option maxRecDepth 100000 in
theorem stells_bad1 (a a' a'' : Option Addr) (c c' c'' : Nat) (h l m : List En) (many : Int) (w : World) (hc : h.length ≤ c) (hc' : l.length ≤ c') (hc'' : m.length ≤ c'') (hs : Lies enE w a h) (hs' : Lies enE w a' l) (hs'' : Lies enE w a'' m)
    (hn : a = none → c = 0) (hn' : a' = none → c' = 0) (hn'' : a'' = none → c'' = 0) (hw : ∀ x ∈ h, x.o.who.size ≤ maxLen) (hw' : ∀ x ∈ l, x.o.who.size ≤ maxLen) (hw'' : ∀ x ∈ m, x.o.who.size ≤ maxLen) (hb : h.length + m.length ≤ 100000000) (e1 : ¬ logE h = 0) :
    Calls Try.prog 3 #[.slice a h.length c, .slice a' l.length c', .slice a'' m.length c'', .int .i64 many] w fun e w' => e = .returned (.bool true) ∧ Below w.heap.size w w' := by
  have eb : nextE h l many = logE h := by unfold nextE begE; rw [if_neg e1, if_neg e1]
  have et : takeE h m = logE h := by unfold takeE; rw [if_neg e1]
  have en : ¬ nextE h l many = 0 := by rw [eb]; exact e1
  have hN : Hid (∀ (W : World), Lies enE W a h → Lies enE W a' l → Calls Try.prog 4 #[.slice a h.length c, .slice a' l.length c', .int .i64 many] W fun e w' => ∃ a3 c3, e = .returned (.tuple #[.slice a3 (nextL h l many).length c3, .int .i64 (nextE h l many)]) ∧ Lies enE w' a3 (nextL h l many) ∧ Below W.heap.size W w') := fun W p q => (next_any a a' c c' h l many W hc hc' p q hn').mono fun e w' ⟨a3, c3, z1, z2, z3, z4, z5⟩ => ⟨a3, c3, z1, z3, z5⟩
  have hT : Hid (∀ (W : World), Lies enE W a h → Lies enE W a'' m → Calls Try.prog 5 #[.slice a h.length c, .slice a'' m.length c''] W fun e w' => ∃ a3 c3, e = .returned (.tuple #[.slice a3 (takeL h m).length c3, .int .i64 (takeE h m)]) ∧ Lies enE w' a3 (takeL h m) ∧ Below W.heap.size W w') := fun W p q => (take_any a a'' c c'' h m W hc hc'' p q hn hn'').mono fun e w' ⟨a3, c3, z1, z2, z3, z4, z5⟩ => ⟨a3, c3, z1, z3, z5⟩
  have hR : Hid (∀ (W : World), Lies enE W a h → Calls Try.prog 6 #[.slice a h.length c] W fun e w' => e = .returned (.int .i64 (logE h)) ∧ Below W.heap.size W w') := fun W p => rlog_any a c h W p hw
  have hRl : Hid (∀ (W : World), Lies enE W a' l → Calls Try.prog 6 #[.slice a' l.length c'] W fun e w' => e = .returned (.int .i64 (logE l)) ∧ Below W.heap.size W w') := fun W p => rlog_any a' c' l W p hw'
  have hRa : Hid (∀ (b : Option Addr) (d : Nat) (W : World), Lies enE W b (h ++ m) → Calls Try.prog 6 #[.slice b (h ++ m).length d] W fun e w' => e = .returned (.int .i64 (logE (h ++ m))) ∧ Below W.heap.size W w') := fun b d W p => rlog_any b d (h ++ m) W p (fun x hx => (List.mem_append.1 hx).elim (hw x) (hw'' x))
  have hI : Hid (∀ (b b' : Option Addr) (d d' : Nat) (W : World), Lies enE W b (nextL h l many) → Lies enE W b' (([] : List En)) → Calls Try.prog 10 #[.slice b (nextL h l many).length d, .int .i64 (nextE h l many), .int .i64 (nextE h l many), .slice b' (([] : List En)).length d'] W fun e w' => e = .returned (.bool true) ∧ Below W.heap.size W w') := fun b b' d d' W p q => logis_any (nextL h l many) (([] : List En)) (nextE h l many) b b' d d' W (fun z => absurd z en) (fun z => next_nil z) p q
  have hJ : Hid (∀ (b b' : Option Addr) (d d' : Nat) (W : World), Lies enE W b (takeL h m) → Lies enE W b' (h ++ m) → Calls Try.prog 10 #[.slice b (takeL h m).length d, .int .i64 (takeE h m), .int .i64 (takeE h m), .slice b' (h ++ m).length d'] W fun e w' => e = .returned (.bool true) ∧ Below W.heap.size W w') := fun b b' d d' W p q => logis_any (takeL h m) (h ++ m) (takeE h m) b b' d d' W (fun z => ⟨take_eq z, take_len h m⟩) (fun z => take_nil z) p q
  have hBg : Hid (∀ (W : World), Calls Try.prog 9 #[] W fun e w' => e = .returned (.bool true) ∧ Below W.heap.size W w') := sbegun_ship
  rw [eb] at hN hI
  rw [et] at hT hJ
  have hI0 : (logE h == 0) = false := by rw [beq_eq_false_iff_ne]; exact e1
  clear e1 eb et en
  have HL1 := Lib.hid hs
  have HL2 := Lib.hid hs'
  have HL3 := Lib.hid hs''
  have HY1 := Lib.hid hn
  have HY3 := Lib.hid hn''
  have HBB := Lib.hid hb
  have HE1 : Hid (∀ x : List En, x = h → x.length = h.length) := fun x e => by rw [e]
  obtain ⟨i0, hi, hz0, hz1, hz2⟩ := info_parts infoE
  generalize nextE h l many = rn at *
  generalize nextL h l many = NL at *
  generalize takeE h m = rt at *
  generalize takeL h m = TL at *
  generalize logE h = r1 at *
  generalize logE l = r2 at *
  generalize logE (h ++ m) = r3 at *
  generalize begB h l = bb at *
  obtain ⟨N, hN1⟩ : ∃ N, N = h.length := ⟨_, rfl⟩
  obtain ⟨M, hM1⟩ : ∃ N, N = l.length := ⟨_, rfl⟩
  obtain ⟨O, hO1⟩ : ∃ N, N = m.length := ⟨_, rfl⟩
  obtain ⟨A, hA1⟩ : ∃ N, N = (h ++ m).length := ⟨_, rfl⟩
  have HN := Lib.hid hN1
  have HO := Lib.hid hO1
  have HA := Lib.hid hA1
  rw [← hN1] at hN hT hR ⊢
  rw [← hM1] at hN hRl ⊢
  rw [← hO1] at hT ⊢
  rw [← hA1] at hRa hJ
  clear hN1 hM1 hO1 hA1 hs hs' hs'' hc hc' hc'' hn hn' hn'' hw hw' hw'' hb
  go_enter Try.func3, Try.ntmps3
  have HB0 := Lib.hid (Below.refl w.heap.size w)
  have HLa0 := Lib.hid HL1.out
  have HLb0 := Lib.hid HL2.out
  have HLc0 := Lib.hid HL3.out
  clear HL1 HL2 HL3
  go_wp2_with fail
  refine (hN.out _ HLa0.out HLb0.out).mono ?_
  rintro e w1 ⟨a1, c1, rfl, hl1, hb1⟩
  have HB1 := Lib.hid (btr HB0.out hb1)
  have HLa1 := Lib.hid (HLa0.out.below hb1)
  have HLb1 := Lib.hid (HLb0.out.below hb1)
  have HLc1 := Lib.hid (HLc0.out.below hb1)
  clear hb1 HB0 HLa0 HLb0 HLc0
  have HX1 := Lib.hid hl1
  clear hl1 hN
  go_wp2_with fail
  refine (hT.out _ HLa1.out HLc1.out).mono ?_
  rintro e w2 ⟨a2, c2, rfl, hl2, hb2⟩
  have HB2 := Lib.hid (btr HB1.out hb2)
  have HLa2 := Lib.hid (HLa1.out.below hb2)
  have HLb2 := Lib.hid (HLb1.out.below hb2)
  have HLc2 := Lib.hid (HLc1.out.below hb2)
  have HX2 := Lib.hid (HX1.out.below hb2)
  clear hb2 HB1 HLa1 HLb1 HLc1 HX1
  have HT2 := Lib.hid hl2
  clear hl2 hT
  go_wp2_with fail
  refine (hR.out _ HLa2.out).mono ?_
  rintro e w3 ⟨rfl, hb3⟩
  have HB3 := Lib.hid (btr HB2.out hb3)
  have HLa3 := Lib.hid (HLa2.out.below hb3)
  have HLb3 := Lib.hid (HLb2.out.below hb3)
  have HLc3 := Lib.hid (HLc2.out.below hb3)
  have HX3 := Lib.hid (HX2.out.below hb3)
  have HT3 := Lib.hid (HT2.out.below hb3)
  clear hb3 HB2 HLa2 HLb2 HLc2 HX2 HT2 hR
  have OE : Hid (World.ownsRow (w3.alloc (.cells #[] 44)) w3.heap.size 44 enE.k (.slice (some ⟨w3.heap.size, 0, none⟩) 0 0) ([] : List En).length (rowOf enE ([] : List En))) := rowE_empty w3
  have KE : Hid (Below w3.heap.size w3 (w3.alloc (.cells #[] 44))) := bal (Below.refl _ _) _
  have LE : Hid (Lies enE (w3.alloc (.cells #[] 44)) a h) := HLa3.out.below KE.out
  go_wp2_with (first | (at_builtin; refine wp_app_en rfl _ _ 22 rfl w3.heap.size i0 _ Try.underlying22 hi hz0 hz1 hz2 rfl _ ([] ++ h) rfl O1.out a'' c'' m (by rw [← HO.out]; rfl) HY3.out L1.out (by have := HBB.out; simp; omega) K1.out.size ?_; intro vb wb hown hgrow; have K2 : Hid (Below w3.heap.size w3 wb) := K1.out.grown hgrow K1.out.size (fun k hk => (O1.out.lt k hk).1); rw [List.nil_append] at hown; obtain ⟨a9, c9, rfl, -, hl9, -, -⟩ := own_open0 hown; rw [← HA.out]; have HP9 := Lib.hid hl9; clear hown hgrow hl9) | (at_builtin; refine wp_app_en rfl _ _ 22 rfl w3.heap.size i0 _ Try.underlying22 hi hz0 hz1 hz2 rfl _ ([] : List En) rfl OE.out a c h (by rw [← HN.out]; rfl) HY1.out LE.out (by have := HBB.out; simp; omega) KE.out.size ?_; intro va wa hown hgrow; have K1 : Hid (Below w3.heap.size w3 wa) := KE.out.grown hgrow KE.out.size (fun k hk => (OE.out.lt k hk).1); have O1 := Lib.hid hown; have L1 := Lib.hid (HLc3.out.below K1.out); clear hown hgrow))
  have HB9 := Lib.hid (btr HB3.out K2.out)
  have HX9 := Lib.hid (HX3.out.below K2.out)
  have HT9 := Lib.hid (HT3.out.below K2.out)
  clear K2 K1 O1 L1 OE KE LE HB3 HLa3 HLb3 HLc3 HX3 HT3
  refine (hBg.out _).mono ?_
  rintro e w11 ⟨rfl, hb11⟩
  have HB11 := Lib.hid (btr HB9.out hb11)
  have HX11 := Lib.hid (HX9.out.below hb11)
  have HT11 := Lib.hid (HT9.out.below hb11)
  have HP11 := Lib.hid (HP9.out.below hb11)
  clear hb11 HB9 HX9 HT9 HP9 hBg
  go_wp2_with fail
  refine (hI.out _ _ _ _ _ HX11.out (Lies.nil _ _ _)).mono ?_
  rintro e w12 ⟨rfl, hb12⟩
  have HB12 := Lib.hid (btr HB11.out hb12)
  have HX12 := Lib.hid (HX11.out.below hb12)
  have HT12 := Lib.hid (HT11.out.below hb12)
  have HP12 := Lib.hid (HP11.out.below hb12)
  clear hb12 HB11 HX11 HT11 HP11 hI
  go_wp2_with fail
  refine (hJ.out _ _ _ _ _ HT12.out HP12.out).mono ?_
  rintro e w13 ⟨rfl, hb13⟩
  have HB13 := Lib.hid (btr HB12.out hb13)
  clear hb13
  go_wp2
  go_ret
  exact ⟨rfl, HB13.out⟩
set_option maxHeartbeats 32000000 in
set_option maxRecDepth 100000 in
theorem stells_bad2 (a a' a'' : Option Addr) (c c' c'' : Nat) (h l m : List En) (many : Int) (w : World) (hc : h.length ≤ c) (hc' : l.length ≤ c') (hc'' : m.length ≤ c'') (hs : Lies enE w a h) (hs' : Lies enE w a' l) (hs'' : Lies enE w a'' m)
    (hn : a = none → c = 0) (hn' : a' = none → c' = 0) (hn'' : a'' = none → c'' = 0) (hw : ∀ x ∈ h, x.o.who.size ≤ maxLen) (hw' : ∀ x ∈ l, x.o.who.size ≤ maxLen) (hw'' : ∀ x ∈ m, x.o.who.size ≤ maxLen) (hb : h.length + m.length ≤ 100000000) (e1 : logE h = 0) (e2 : ¬ logE l = 0) :
    Calls Try.prog 3 #[.slice a h.length c, .slice a' l.length c', .slice a'' m.length c'', .int .i64 many] w fun e w' => e = .returned (.bool true) ∧ Below w.heap.size w w' := by
  have et : takeE h m = logE (h ++ m) := by unfold takeE; rw [if_pos e1]
  have eb : nextE h l many = logE l := by unfold nextE begE; rw [if_pos e1, if_neg e2]
  have en : ¬ nextE h l many = 0 := by rw [eb]; exact e2
  have hN : Hid (∀ (W : World), Lies enE W a h → Lies enE W a' l → Calls Try.prog 4 #[.slice a h.length c, .slice a' l.length c', .int .i64 many] W fun e w' => ∃ a3 c3, e = .returned (.tuple #[.slice a3 (nextL h l many).length c3, .int .i64 (nextE h l many)]) ∧ Lies enE w' a3 (nextL h l many) ∧ Below W.heap.size W w') := fun W p q => (next_any a a' c c' h l many W hc hc' p q hn').mono fun e w' ⟨a3, c3, z1, z2, z3, z4, z5⟩ => ⟨a3, c3, z1, z3, z5⟩
  have hT : Hid (∀ (W : World), Lies enE W a h → Lies enE W a'' m → Calls Try.prog 5 #[.slice a h.length c, .slice a'' m.length c''] W fun e w' => ∃ a3 c3, e = .returned (.tuple #[.slice a3 (takeL h m).length c3, .int .i64 (takeE h m)]) ∧ Lies enE w' a3 (takeL h m) ∧ Below W.heap.size W w') := fun W p q => (take_any a a'' c c'' h m W hc hc'' p q hn hn'').mono fun e w' ⟨a3, c3, z1, z2, z3, z4, z5⟩ => ⟨a3, c3, z1, z3, z5⟩
  have hR : Hid (∀ (W : World), Lies enE W a h → Calls Try.prog 6 #[.slice a h.length c] W fun e w' => e = .returned (.int .i64 (logE h)) ∧ Below W.heap.size W w') := fun W p => rlog_any a c h W p hw
  have hRl : Hid (∀ (W : World), Lies enE W a' l → Calls Try.prog 6 #[.slice a' l.length c'] W fun e w' => e = .returned (.int .i64 (logE l)) ∧ Below W.heap.size W w') := fun W p => rlog_any a' c' l W p hw'
  have hRa : Hid (∀ (b : Option Addr) (d : Nat) (W : World), Lies enE W b (h ++ m) → Calls Try.prog 6 #[.slice b (h ++ m).length d] W fun e w' => e = .returned (.int .i64 (logE (h ++ m))) ∧ Below W.heap.size W w') := fun b d W p => rlog_any b d (h ++ m) W p (fun x hx => (List.mem_append.1 hx).elim (hw x) (hw'' x))
  have hI : Hid (∀ (b b' : Option Addr) (d d' : Nat) (W : World), Lies enE W b (nextL h l many) → Lies enE W b' (([] : List En)) → Calls Try.prog 10 #[.slice b (nextL h l many).length d, .int .i64 (nextE h l many), .int .i64 (nextE h l many), .slice b' (([] : List En)).length d'] W fun e w' => e = .returned (.bool true) ∧ Below W.heap.size W w') := fun b b' d d' W p q => logis_any (nextL h l many) (([] : List En)) (nextE h l many) b b' d d' W (fun z => absurd z en) (fun z => next_nil z) p q
  have hJ : Hid (∀ (b b' : Option Addr) (d d' : Nat) (W : World), Lies enE W b (takeL h m) → Lies enE W b' (h ++ m) → Calls Try.prog 10 #[.slice b (takeL h m).length d, .int .i64 (takeE h m), .int .i64 (takeE h m), .slice b' (h ++ m).length d'] W fun e w' => e = .returned (.bool true) ∧ Below W.heap.size W w') := fun b b' d d' W p q => logis_any (takeL h m) (h ++ m) (takeE h m) b b' d d' W (fun z => ⟨take_eq z, take_len h m⟩) (fun z => take_nil z) p q
  have hBg : Hid (∀ (W : World), Calls Try.prog 9 #[] W fun e w' => e = .returned (.bool true) ∧ Below W.heap.size W w') := sbegun_ship
  rw [eb] at hN hI
  rw [et] at hT hJ
  rw [e1] at hR
  have hI0 : (logE l == 0) = false := by rw [beq_eq_false_iff_ne]; exact e2
  clear e1 e2 eb et en
  have HL1 := Lib.hid hs
  have HL2 := Lib.hid hs'
  have HL3 := Lib.hid hs''
  have HY1 := Lib.hid hn
  have HY3 := Lib.hid hn''
  have HBB := Lib.hid hb
  have HE1 : Hid (∀ x : List En, x = h → x.length = h.length) := fun x e => by rw [e]
  obtain ⟨i0, hi, hz0, hz1, hz2⟩ := info_parts infoE
  generalize nextE h l many = rn at *
  generalize nextL h l many = NL at *
  generalize takeE h m = rt at *
  generalize takeL h m = TL at *
  generalize logE h = r1 at *
  generalize logE l = r2 at *
  generalize logE (h ++ m) = r3 at *
  generalize begB h l = bb at *
  obtain ⟨N, hN1⟩ : ∃ N, N = h.length := ⟨_, rfl⟩
  obtain ⟨M, hM1⟩ : ∃ N, N = l.length := ⟨_, rfl⟩
  obtain ⟨O, hO1⟩ : ∃ N, N = m.length := ⟨_, rfl⟩
  obtain ⟨A, hA1⟩ : ∃ N, N = (h ++ m).length := ⟨_, rfl⟩
  have HN := Lib.hid hN1
  have HO := Lib.hid hO1
  have HA := Lib.hid hA1
  rw [← hN1] at hN hT hR ⊢
  rw [← hM1] at hN hRl ⊢
  rw [← hO1] at hT ⊢
  rw [← hA1] at hRa hJ
  clear hN1 hM1 hO1 hA1 hs hs' hs'' hc hc' hc'' hn hn' hn'' hw hw' hw'' hb
  go_enter Try.func3, Try.ntmps3
  have HB0 := Lib.hid (Below.refl w.heap.size w)
  have HLa0 := Lib.hid HL1.out
  have HLb0 := Lib.hid HL2.out
  have HLc0 := Lib.hid HL3.out
  clear HL1 HL2 HL3
  go_wp2_with fail
  refine (hN.out _ HLa0.out HLb0.out).mono ?_
  rintro e w1 ⟨a1, c1, rfl, hl1, hb1⟩
  have HB1 := Lib.hid (btr HB0.out hb1)
  have HLa1 := Lib.hid (HLa0.out.below hb1)
  have HLb1 := Lib.hid (HLb0.out.below hb1)
  have HLc1 := Lib.hid (HLc0.out.below hb1)
  clear hb1 HB0 HLa0 HLb0 HLc0
  have HX1 := Lib.hid hl1
  clear hl1 hN
  go_wp2_with fail
  refine (hT.out _ HLa1.out HLc1.out).mono ?_
  rintro e w2 ⟨a2, c2, rfl, hl2, hb2⟩
  have HB2 := Lib.hid (btr HB1.out hb2)
  have HLa2 := Lib.hid (HLa1.out.below hb2)
  have HLb2 := Lib.hid (HLb1.out.below hb2)
  have HLc2 := Lib.hid (HLc1.out.below hb2)
  have HX2 := Lib.hid (HX1.out.below hb2)
  clear hb2 HB1 HLa1 HLb1 HLc1 HX1
  have HT2 := Lib.hid hl2
  clear hl2 hT
  go_wp2_with fail
  refine (hR.out _ HLa2.out).mono ?_
  rintro e w3 ⟨rfl, hb3⟩
  have HB3 := Lib.hid (btr HB2.out hb3)
  have HLa3 := Lib.hid (HLa2.out.below hb3)
  have HLb3 := Lib.hid (HLb2.out.below hb3)
  have HLc3 := Lib.hid (HLc2.out.below hb3)
  have HX3 := Lib.hid (HX2.out.below hb3)
  have HT3 := Lib.hid (HT2.out.below hb3)
  clear hb3 HB2 HLa2 HLb2 HLc2 HX2 HT2 hR
  go_wp2_with fail
  refine (hRl.out _ HLb3.out).mono ?_
  rintro e w4 ⟨rfl, hb4⟩
  have HB4 := Lib.hid (btr HB3.out hb4)
  have HLa4 := Lib.hid (HLa3.out.below hb4)
  have HLb4 := Lib.hid (HLb3.out.below hb4)
  have HLc4 := Lib.hid (HLc3.out.below hb4)
  have HX4 := Lib.hid (HX3.out.below hb4)
  have HT4 := Lib.hid (HT3.out.below hb4)
  clear hb4 HB3 HLa3 HLb3 HLc3 HX3 HT3 hRl
  have OE : Hid (World.ownsRow (w4.alloc (.cells #[] 44)) w4.heap.size 44 enE.k (.slice (some ⟨w4.heap.size, 0, none⟩) 0 0) ([] : List En).length (rowOf enE ([] : List En))) := rowE_empty w4
  have KE : Hid (Below w4.heap.size w4 (w4.alloc (.cells #[] 44))) := bal (Below.refl _ _) _
  have LE : Hid (Lies enE (w4.alloc (.cells #[] 44)) a h) := HLa4.out.below KE.out
  go_wp2_with (first | (at_builtin; refine wp_app_en rfl _ _ 22 rfl w4.heap.size i0 _ Try.underlying22 hi hz0 hz1 hz2 rfl _ ([] ++ h) rfl O1.out a'' c'' m (by rw [← HO.out]; rfl) HY3.out L1.out (by have := HBB.out; simp; omega) K1.out.size ?_; intro vb wb hown hgrow; have K2 : Hid (Below w4.heap.size w4 wb) := K1.out.grown hgrow K1.out.size (fun k hk => (O1.out.lt k hk).1); rw [List.nil_append] at hown; obtain ⟨a9, c9, rfl, -, hl9, -, -⟩ := own_open0 hown; rw [← HA.out]; have HP9 := Lib.hid hl9; clear hown hgrow hl9) | (at_builtin; refine wp_app_en rfl _ _ 22 rfl w4.heap.size i0 _ Try.underlying22 hi hz0 hz1 hz2 rfl _ ([] : List En) rfl OE.out a c h (by rw [← HN.out]; rfl) HY1.out LE.out (by have := HBB.out; simp; omega) KE.out.size ?_; intro va wa hown hgrow; have K1 : Hid (Below w4.heap.size w4 wa) := KE.out.grown hgrow KE.out.size (fun k hk => (OE.out.lt k hk).1); have O1 := Lib.hid hown; have L1 := Lib.hid (HLc4.out.below K1.out); clear hown hgrow))
  have HB9 := Lib.hid (btr HB4.out K2.out)
  have HX9 := Lib.hid (HX4.out.below K2.out)
  have HT9 := Lib.hid (HT4.out.below K2.out)
  clear K2 K1 O1 L1 OE KE LE HB4 HLa4 HLb4 HLc4 HX4 HT4
  refine (hRa.out _ _ _ HP9.out).mono ?_
  rintro e w10 ⟨rfl, hb10⟩
  have HB10 := Lib.hid (btr HB9.out hb10)
  have HX10 := Lib.hid (HX9.out.below hb10)
  have HT10 := Lib.hid (HT9.out.below hb10)
  have HP10 := Lib.hid (HP9.out.below hb10)
  clear hb10 HB9 HX9 HT9 HP9 hRa
  go_wp2_with fail
  refine (hBg.out _).mono ?_
  rintro e w11 ⟨rfl, hb11⟩
  have HB11 := Lib.hid (btr HB10.out hb11)
  have HX11 := Lib.hid (HX10.out.below hb11)
  have HT11 := Lib.hid (HT10.out.below hb11)
  have HP11 := Lib.hid (HP10.out.below hb11)
  clear hb11 HB10 HX10 HT10 HP10 hBg
  go_wp2_with fail
  refine (hI.out _ _ _ _ _ HX11.out (Lies.nil _ _ _)).mono ?_
  rintro e w12 ⟨rfl, hb12⟩
  have HB12 := Lib.hid (btr HB11.out hb12)
  have HX12 := Lib.hid (HX11.out.below hb12)
  have HT12 := Lib.hid (HT11.out.below hb12)
  have HP12 := Lib.hid (HP11.out.below hb12)
  clear hb12 HB11 HX11 HT11 HP11 hI
  go_wp2_with fail
  refine (hJ.out _ _ _ _ _ HT12.out HP12.out).mono ?_
  rintro e w13 ⟨rfl, hb13⟩
  have HB13 := Lib.hid (btr HB12.out hb13)
  clear hb13
  go_wp2
  go_ret
  exact ⟨rfl, HB13.out⟩
set_option maxHeartbeats 32000000 in
set_option maxRecDepth 100000 in
theorem stells_bad3 (a a' a'' : Option Addr) (c c' c'' : Nat) (h l m : List En) (many : Int) (w : World) (hc : h.length ≤ c) (hc' : l.length ≤ c') (hc'' : m.length ≤ c'') (hs : Lies enE w a h) (hs' : Lies enE w a' l) (hs'' : Lies enE w a'' m)
    (hn : a = none → c = 0) (hn' : a' = none → c' = 0) (hn'' : a'' = none → c'' = 0) (hw : ∀ x ∈ h, x.o.who.size ≤ maxLen) (hw' : ∀ x ∈ l, x.o.who.size ≤ maxLen) (hw'' : ∀ x ∈ m, x.o.who.size ≤ maxLen) (hb : h.length + m.length ≤ 100000000) (e1 : logE h = 0) (e2 : logE l = 0) (e3 : begB h l = false) :
    Calls Try.prog 3 #[.slice a h.length c, .slice a' l.length c', .slice a'' m.length c'', .int .i64 many] w fun e w' => e = .returned (.bool true) ∧ Below w.heap.size w w' := by
  have et : takeE h m = logE (h ++ m) := by unfold takeE; rw [if_pos e1]
  have ez : begE h l = 0 := by unfold begE; rw [if_pos e1]; exact e2
  have eb : nextE h l many = 4 := by unfold nextE; rw [if_pos ez, e3]; rfl
  have en : ¬ nextE h l many = 0 := by rw [eb]; decide
  have hD : Hid (∀ (W : World), Lies enE W a h → Lies enE W a' l → Calls Try.prog 7 #[.slice a h.length c, .slice a' l.length c'] W fun e w' => e = .returned (.bool (begB h l)) ∧ Below W.heap.size W w') := fun W p q => rbegin_any a a' c c' h l W hc' (Nat.le_trans (logE_len e1) (by decide)) p q
  have hN : Hid (∀ (W : World), Lies enE W a h → Lies enE W a' l → Calls Try.prog 4 #[.slice a h.length c, .slice a' l.length c', .int .i64 many] W fun e w' => ∃ a3 c3, e = .returned (.tuple #[.slice a3 (nextL h l many).length c3, .int .i64 (nextE h l many)]) ∧ Lies enE w' a3 (nextL h l many) ∧ Below W.heap.size W w') := fun W p q => (next_any a a' c c' h l many W hc hc' p q hn').mono fun e w' ⟨a3, c3, z1, z2, z3, z4, z5⟩ => ⟨a3, c3, z1, z3, z5⟩
  have hT : Hid (∀ (W : World), Lies enE W a h → Lies enE W a'' m → Calls Try.prog 5 #[.slice a h.length c, .slice a'' m.length c''] W fun e w' => ∃ a3 c3, e = .returned (.tuple #[.slice a3 (takeL h m).length c3, .int .i64 (takeE h m)]) ∧ Lies enE w' a3 (takeL h m) ∧ Below W.heap.size W w') := fun W p q => (take_any a a'' c c'' h m W hc hc'' p q hn hn'').mono fun e w' ⟨a3, c3, z1, z2, z3, z4, z5⟩ => ⟨a3, c3, z1, z3, z5⟩
  have hR : Hid (∀ (W : World), Lies enE W a h → Calls Try.prog 6 #[.slice a h.length c] W fun e w' => e = .returned (.int .i64 (logE h)) ∧ Below W.heap.size W w') := fun W p => rlog_any a c h W p hw
  have hRl : Hid (∀ (W : World), Lies enE W a' l → Calls Try.prog 6 #[.slice a' l.length c'] W fun e w' => e = .returned (.int .i64 (logE l)) ∧ Below W.heap.size W w') := fun W p => rlog_any a' c' l W p hw'
  have hRa : Hid (∀ (b : Option Addr) (d : Nat) (W : World), Lies enE W b (h ++ m) → Calls Try.prog 6 #[.slice b (h ++ m).length d] W fun e w' => e = .returned (.int .i64 (logE (h ++ m))) ∧ Below W.heap.size W w') := fun b d W p => rlog_any b d (h ++ m) W p (fun x hx => (List.mem_append.1 hx).elim (hw x) (hw'' x))
  have hI : Hid (∀ (b b' : Option Addr) (d d' : Nat) (W : World), Lies enE W b (nextL h l many) → Lies enE W b' (([] : List En)) → Calls Try.prog 10 #[.slice b (nextL h l many).length d, .int .i64 (nextE h l many), .int .i64 (nextE h l many), .slice b' (([] : List En)).length d'] W fun e w' => e = .returned (.bool true) ∧ Below W.heap.size W w') := fun b b' d d' W p q => logis_any (nextL h l many) (([] : List En)) (nextE h l many) b b' d d' W (fun z => absurd z en) (fun z => next_nil z) p q
  have hJ : Hid (∀ (b b' : Option Addr) (d d' : Nat) (W : World), Lies enE W b (takeL h m) → Lies enE W b' (h ++ m) → Calls Try.prog 10 #[.slice b (takeL h m).length d, .int .i64 (takeE h m), .int .i64 (takeE h m), .slice b' (h ++ m).length d'] W fun e w' => e = .returned (.bool true) ∧ Below W.heap.size W w') := fun b b' d d' W p q => logis_any (takeL h m) (h ++ m) (takeE h m) b b' d d' W (fun z => ⟨take_eq z, take_len h m⟩) (fun z => take_nil z) p q
  have hBg : Hid (∀ (W : World), Calls Try.prog 9 #[] W fun e w' => e = .returned (.bool true) ∧ Below W.heap.size W w') := sbegun_ship
  rw [eb] at hN hI
  rw [et] at hT hJ
  rw [e1] at hR
  rw [e2] at hRl
  rw [e3] at hD
  clear e1 e2 e3 eb et en ez
  have HL1 := Lib.hid hs
  have HL2 := Lib.hid hs'
  have HL3 := Lib.hid hs''
  have HY1 := Lib.hid hn
  have HY3 := Lib.hid hn''
  have HBB := Lib.hid hb
  have HE1 : Hid (∀ x : List En, x = h → x.length = h.length) := fun x e => by rw [e]
  obtain ⟨i0, hi, hz0, hz1, hz2⟩ := info_parts infoE
  generalize nextE h l many = rn at *
  generalize nextL h l many = NL at *
  generalize takeE h m = rt at *
  generalize takeL h m = TL at *
  generalize logE h = r1 at *
  generalize logE l = r2 at *
  generalize logE (h ++ m) = r3 at *
  generalize begB h l = bb at *
  obtain ⟨N, hN1⟩ : ∃ N, N = h.length := ⟨_, rfl⟩
  obtain ⟨M, hM1⟩ : ∃ N, N = l.length := ⟨_, rfl⟩
  obtain ⟨O, hO1⟩ : ∃ N, N = m.length := ⟨_, rfl⟩
  obtain ⟨A, hA1⟩ : ∃ N, N = (h ++ m).length := ⟨_, rfl⟩
  have HN := Lib.hid hN1
  have HO := Lib.hid hO1
  have HA := Lib.hid hA1
  rw [← hN1] at hN hT hR hD ⊢
  rw [← hM1] at hN hRl hD ⊢
  rw [← hO1] at hT ⊢
  rw [← hA1] at hRa hJ
  clear hN1 hM1 hO1 hA1 hs hs' hs'' hc hc' hc'' hn hn' hn'' hw hw' hw'' hb
  go_enter Try.func3, Try.ntmps3
  have HB0 := Lib.hid (Below.refl w.heap.size w)
  have HLa0 := Lib.hid HL1.out
  have HLb0 := Lib.hid HL2.out
  have HLc0 := Lib.hid HL3.out
  clear HL1 HL2 HL3
  go_wp2_with fail
  refine (hN.out _ HLa0.out HLb0.out).mono ?_
  rintro e w1 ⟨a1, c1, rfl, hl1, hb1⟩
  have HB1 := Lib.hid (btr HB0.out hb1)
  have HLa1 := Lib.hid (HLa0.out.below hb1)
  have HLb1 := Lib.hid (HLb0.out.below hb1)
  have HLc1 := Lib.hid (HLc0.out.below hb1)
  clear hb1 HB0 HLa0 HLb0 HLc0
  have HX1 := Lib.hid hl1
  clear hl1 hN
  go_wp2_with fail
  refine (hT.out _ HLa1.out HLc1.out).mono ?_
  rintro e w2 ⟨a2, c2, rfl, hl2, hb2⟩
  have HB2 := Lib.hid (btr HB1.out hb2)
  have HLa2 := Lib.hid (HLa1.out.below hb2)
  have HLb2 := Lib.hid (HLb1.out.below hb2)
  have HLc2 := Lib.hid (HLc1.out.below hb2)
  have HX2 := Lib.hid (HX1.out.below hb2)
  clear hb2 HB1 HLa1 HLb1 HLc1 HX1
  have HT2 := Lib.hid hl2
  clear hl2 hT
  go_wp2_with fail
  refine (hR.out _ HLa2.out).mono ?_
  rintro e w3 ⟨rfl, hb3⟩
  have HB3 := Lib.hid (btr HB2.out hb3)
  have HLa3 := Lib.hid (HLa2.out.below hb3)
  have HLb3 := Lib.hid (HLb2.out.below hb3)
  have HLc3 := Lib.hid (HLc2.out.below hb3)
  have HX3 := Lib.hid (HX2.out.below hb3)
  have HT3 := Lib.hid (HT2.out.below hb3)
  clear hb3 HB2 HLa2 HLb2 HLc2 HX2 HT2 hR
  go_wp2_with fail
  refine (hRl.out _ HLb3.out).mono ?_
  rintro e w4 ⟨rfl, hb4⟩
  have HB4 := Lib.hid (btr HB3.out hb4)
  have HLa4 := Lib.hid (HLa3.out.below hb4)
  have HLb4 := Lib.hid (HLb3.out.below hb4)
  have HLc4 := Lib.hid (HLc3.out.below hb4)
  have HX4 := Lib.hid (HX3.out.below hb4)
  have HT4 := Lib.hid (HT3.out.below hb4)
  clear hb4 HB3 HLa3 HLb3 HLc3 HX3 HT3 hRl
  go_wp2_with fail
  refine (hD.out _ HLa4.out HLb4.out).mono ?_
  rintro e w5 ⟨rfl, hb5⟩
  have HB5 := Lib.hid (btr HB4.out hb5)
  have HLa5 := Lib.hid (HLa4.out.below hb5)
  have HLb5 := Lib.hid (HLb4.out.below hb5)
  have HLc5 := Lib.hid (HLc4.out.below hb5)
  have HX5 := Lib.hid (HX4.out.below hb5)
  have HT5 := Lib.hid (HT4.out.below hb5)
  clear hb5 HB4 HLa4 HLb4 HLc4 HX4 HT4 hD
  have OE : Hid (World.ownsRow (w5.alloc (.cells #[] 44)) w5.heap.size 44 enE.k (.slice (some ⟨w5.heap.size, 0, none⟩) 0 0) ([] : List En).length (rowOf enE ([] : List En))) := rowE_empty w5
  have KE : Hid (Below w5.heap.size w5 (w5.alloc (.cells #[] 44))) := bal (Below.refl _ _) _
  have LE : Hid (Lies enE (w5.alloc (.cells #[] 44)) a h) := HLa5.out.below KE.out
  go_wp2_with (first | (at_builtin; refine wp_app_en rfl _ _ 22 rfl w5.heap.size i0 _ Try.underlying22 hi hz0 hz1 hz2 rfl _ ([] ++ h) rfl O1.out a'' c'' m (by rw [← HO.out]; rfl) HY3.out L1.out (by have := HBB.out; simp; omega) K1.out.size ?_; intro vb wb hown hgrow; have K2 : Hid (Below w5.heap.size w5 wb) := K1.out.grown hgrow K1.out.size (fun k hk => (O1.out.lt k hk).1); rw [List.nil_append] at hown; obtain ⟨a9, c9, rfl, -, hl9, -, -⟩ := own_open0 hown; rw [← HA.out]; have HP9 := Lib.hid hl9; clear hown hgrow hl9) | (at_builtin; refine wp_app_en rfl _ _ 22 rfl w5.heap.size i0 _ Try.underlying22 hi hz0 hz1 hz2 rfl _ ([] : List En) rfl OE.out a c h (by rw [← HN.out]; rfl) HY1.out LE.out (by have := HBB.out; simp; omega) KE.out.size ?_; intro va wa hown hgrow; have K1 : Hid (Below w5.heap.size w5 wa) := KE.out.grown hgrow KE.out.size (fun k hk => (OE.out.lt k hk).1); have O1 := Lib.hid hown; have L1 := Lib.hid (HLc5.out.below K1.out); clear hown hgrow))
  have HB9 := Lib.hid (btr HB5.out K2.out)
  have HX9 := Lib.hid (HX5.out.below K2.out)
  have HT9 := Lib.hid (HT5.out.below K2.out)
  clear K2 K1 O1 L1 OE KE LE HB5 HLa5 HLb5 HLc5 HX5 HT5
  refine (hRa.out _ _ _ HP9.out).mono ?_
  rintro e w10 ⟨rfl, hb10⟩
  have HB10 := Lib.hid (btr HB9.out hb10)
  have HX10 := Lib.hid (HX9.out.below hb10)
  have HT10 := Lib.hid (HT9.out.below hb10)
  have HP10 := Lib.hid (HP9.out.below hb10)
  clear hb10 HB9 HX9 HT9 HP9 hRa
  go_wp2_with fail
  refine (hBg.out _).mono ?_
  rintro e w11 ⟨rfl, hb11⟩
  have HB11 := Lib.hid (btr HB10.out hb11)
  have HX11 := Lib.hid (HX10.out.below hb11)
  have HT11 := Lib.hid (HT10.out.below hb11)
  have HP11 := Lib.hid (HP10.out.below hb11)
  clear hb11 HB10 HX10 HT10 HP10 hBg
  go_wp2_with fail
  refine (hI.out _ _ _ _ _ HX11.out (Lies.nil _ _ _)).mono ?_
  rintro e w12 ⟨rfl, hb12⟩
  have HB12 := Lib.hid (btr HB11.out hb12)
  have HX12 := Lib.hid (HX11.out.below hb12)
  have HT12 := Lib.hid (HT11.out.below hb12)
  have HP12 := Lib.hid (HP11.out.below hb12)
  clear hb12 HB11 HX11 HT11 HP11 hI
  go_wp2_with fail
  refine (hJ.out _ _ _ _ _ HT12.out HP12.out).mono ?_
  rintro e w13 ⟨rfl, hb13⟩
  have HB13 := Lib.hid (btr HB12.out hb13)
  clear hb13
  go_wp2
  go_ret
  exact ⟨rfl, HB13.out⟩
set_option maxHeartbeats 32000000 in
set_option maxRecDepth 100000 in
theorem stells_rng0 (a a' a'' : Option Addr) (c c' c'' : Nat) (h l m : List En) (many : Int) (w : World) (hc : h.length ≤ c) (hc' : l.length ≤ c') (hc'' : m.length ≤ c'') (hs : Lies enE w a h) (hs' : Lies enE w a' l) (hs'' : Lies enE w a'' m)
    (hn : a = none → c = 0) (hn' : a' = none → c' = 0) (hn'' : a'' = none → c'' = 0) (hw : ∀ x ∈ h, x.o.who.size ≤ maxLen) (hw' : ∀ x ∈ l, x.o.who.size ≤ maxLen) (hw'' : ∀ x ∈ m, x.o.who.size ≤ maxLen) (hb : h.length + m.length ≤ 100000000) (e1 : logE h = 0) (e2 : logE l = 0) (e3 : begB h l = true) (e4 : many < 0) :
    Calls Try.prog 3 #[.slice a h.length c, .slice a' l.length c', .slice a'' m.length c'', .int .i64 many] w fun e w' => e = .returned (.bool true) ∧ Below w.heap.size w w' := by
  have et : takeE h m = logE (h ++ m) := by unfold takeE; rw [if_pos e1]
  have ez : begE h l = 0 := by unfold begE; rw [if_pos e1]; exact e2
  have eb : nextE h l many = 3 := by unfold nextE; rw [if_pos ez, if_pos e3, if_pos (by omega)]
  have en : ¬ nextE h l many = 0 := by rw [eb]; decide
  have hD : Hid (∀ (W : World), Lies enE W a h → Lies enE W a' l → Calls Try.prog 7 #[.slice a h.length c, .slice a' l.length c'] W fun e w' => e = .returned (.bool (begB h l)) ∧ Below W.heap.size W w') := fun W p q => rbegin_any a a' c c' h l W hc' (Nat.le_trans (logE_len e1) (by decide)) p q
  have hN : Hid (∀ (W : World), Lies enE W a h → Lies enE W a' l → Calls Try.prog 4 #[.slice a h.length c, .slice a' l.length c', .int .i64 many] W fun e w' => ∃ a3 c3, e = .returned (.tuple #[.slice a3 (nextL h l many).length c3, .int .i64 (nextE h l many)]) ∧ Lies enE w' a3 (nextL h l many) ∧ Below W.heap.size W w') := fun W p q => (next_any a a' c c' h l many W hc hc' p q hn').mono fun e w' ⟨a3, c3, z1, z2, z3, z4, z5⟩ => ⟨a3, c3, z1, z3, z5⟩
  have hT : Hid (∀ (W : World), Lies enE W a h → Lies enE W a'' m → Calls Try.prog 5 #[.slice a h.length c, .slice a'' m.length c''] W fun e w' => ∃ a3 c3, e = .returned (.tuple #[.slice a3 (takeL h m).length c3, .int .i64 (takeE h m)]) ∧ Lies enE w' a3 (takeL h m) ∧ Below W.heap.size W w') := fun W p q => (take_any a a'' c c'' h m W hc hc'' p q hn hn'').mono fun e w' ⟨a3, c3, z1, z2, z3, z4, z5⟩ => ⟨a3, c3, z1, z3, z5⟩
  have hR : Hid (∀ (W : World), Lies enE W a h → Calls Try.prog 6 #[.slice a h.length c] W fun e w' => e = .returned (.int .i64 (logE h)) ∧ Below W.heap.size W w') := fun W p => rlog_any a c h W p hw
  have hRl : Hid (∀ (W : World), Lies enE W a' l → Calls Try.prog 6 #[.slice a' l.length c'] W fun e w' => e = .returned (.int .i64 (logE l)) ∧ Below W.heap.size W w') := fun W p => rlog_any a' c' l W p hw'
  have hRa : Hid (∀ (b : Option Addr) (d : Nat) (W : World), Lies enE W b (h ++ m) → Calls Try.prog 6 #[.slice b (h ++ m).length d] W fun e w' => e = .returned (.int .i64 (logE (h ++ m))) ∧ Below W.heap.size W w') := fun b d W p => rlog_any b d (h ++ m) W p (fun x hx => (List.mem_append.1 hx).elim (hw x) (hw'' x))
  have hI : Hid (∀ (b b' : Option Addr) (d d' : Nat) (W : World), Lies enE W b (nextL h l many) → Lies enE W b' (([] : List En)) → Calls Try.prog 10 #[.slice b (nextL h l many).length d, .int .i64 (nextE h l many), .int .i64 (nextE h l many), .slice b' (([] : List En)).length d'] W fun e w' => e = .returned (.bool true) ∧ Below W.heap.size W w') := fun b b' d d' W p q => logis_any (nextL h l many) (([] : List En)) (nextE h l many) b b' d d' W (fun z => absurd z en) (fun z => next_nil z) p q
  have hJ : Hid (∀ (b b' : Option Addr) (d d' : Nat) (W : World), Lies enE W b (takeL h m) → Lies enE W b' (h ++ m) → Calls Try.prog 10 #[.slice b (takeL h m).length d, .int .i64 (takeE h m), .int .i64 (takeE h m), .slice b' (h ++ m).length d'] W fun e w' => e = .returned (.bool true) ∧ Below W.heap.size W w') := fun b b' d d' W p q => logis_any (takeL h m) (h ++ m) (takeE h m) b b' d d' W (fun z => ⟨take_eq z, take_len h m⟩) (fun z => take_nil z) p q
  have hBg : Hid (∀ (W : World), Calls Try.prog 9 #[] W fun e w' => e = .returned (.bool true) ∧ Below W.heap.size W w') := sbegun_ship
  rw [eb] at hN hI
  rw [et] at hT hJ
  rw [e1] at hR
  rw [e2] at hRl
  rw [e3] at hD
  have k1 : decide (many < 0) = true := decide_eq_true e4
  clear e1 e2 e3 e4 eb et en ez
  have HL1 := Lib.hid hs
  have HL2 := Lib.hid hs'
  have HL3 := Lib.hid hs''
  have HY1 := Lib.hid hn
  have HY3 := Lib.hid hn''
  have HBB := Lib.hid hb
  have HE1 : Hid (∀ x : List En, x = h → x.length = h.length) := fun x e => by rw [e]
  obtain ⟨i0, hi, hz0, hz1, hz2⟩ := info_parts infoE
  generalize nextE h l many = rn at *
  generalize nextL h l many = NL at *
  generalize takeE h m = rt at *
  generalize takeL h m = TL at *
  generalize logE h = r1 at *
  generalize logE l = r2 at *
  generalize logE (h ++ m) = r3 at *
  generalize begB h l = bb at *
  obtain ⟨N, hN1⟩ : ∃ N, N = h.length := ⟨_, rfl⟩
  obtain ⟨M, hM1⟩ : ∃ N, N = l.length := ⟨_, rfl⟩
  obtain ⟨O, hO1⟩ : ∃ N, N = m.length := ⟨_, rfl⟩
  obtain ⟨A, hA1⟩ : ∃ N, N = (h ++ m).length := ⟨_, rfl⟩
  have HN := Lib.hid hN1
  have HO := Lib.hid hO1
  have HA := Lib.hid hA1
  rw [← hN1] at hN hT hR hD ⊢
  rw [← hM1] at hN hRl hD ⊢
  rw [← hO1] at hT ⊢
  rw [← hA1] at hRa hJ
  clear hN1 hM1 hO1 hA1 hs hs' hs'' hc hc' hc'' hn hn' hn'' hw hw' hw'' hb
  go_enter Try.func3, Try.ntmps3
  have HB0 := Lib.hid (Below.refl w.heap.size w)
  have HLa0 := Lib.hid HL1.out
  have HLb0 := Lib.hid HL2.out
  have HLc0 := Lib.hid HL3.out
  clear HL1 HL2 HL3
  go_wp2_with fail
  refine (hN.out _ HLa0.out HLb0.out).mono ?_
  rintro e w1 ⟨a1, c1, rfl, hl1, hb1⟩
  have HB1 := Lib.hid (btr HB0.out hb1)
  have HLa1 := Lib.hid (HLa0.out.below hb1)
  have HLb1 := Lib.hid (HLb0.out.below hb1)
  have HLc1 := Lib.hid (HLc0.out.below hb1)
  clear hb1 HB0 HLa0 HLb0 HLc0
  have HX1 := Lib.hid hl1
  clear hl1 hN
  go_wp2_with fail
  refine (hT.out _ HLa1.out HLc1.out).mono ?_
  rintro e w2 ⟨a2, c2, rfl, hl2, hb2⟩
  have HB2 := Lib.hid (btr HB1.out hb2)
  have HLa2 := Lib.hid (HLa1.out.below hb2)
  have HLb2 := Lib.hid (HLb1.out.below hb2)
  have HLc2 := Lib.hid (HLc1.out.below hb2)
  have HX2 := Lib.hid (HX1.out.below hb2)
  clear hb2 HB1 HLa1 HLb1 HLc1 HX1
  have HT2 := Lib.hid hl2
  clear hl2 hT
  go_wp2_with fail
  refine (hR.out _ HLa2.out).mono ?_
  rintro e w3 ⟨rfl, hb3⟩
  have HB3 := Lib.hid (btr HB2.out hb3)
  have HLa3 := Lib.hid (HLa2.out.below hb3)
  have HLb3 := Lib.hid (HLb2.out.below hb3)
  have HLc3 := Lib.hid (HLc2.out.below hb3)
  have HX3 := Lib.hid (HX2.out.below hb3)
  have HT3 := Lib.hid (HT2.out.below hb3)
  clear hb3 HB2 HLa2 HLb2 HLc2 HX2 HT2 hR
  go_wp2_with fail
  refine (hRl.out _ HLb3.out).mono ?_
  rintro e w4 ⟨rfl, hb4⟩
  have HB4 := Lib.hid (btr HB3.out hb4)
  have HLa4 := Lib.hid (HLa3.out.below hb4)
  have HLb4 := Lib.hid (HLb3.out.below hb4)
  have HLc4 := Lib.hid (HLc3.out.below hb4)
  have HX4 := Lib.hid (HX3.out.below hb4)
  have HT4 := Lib.hid (HT3.out.below hb4)
  clear hb4 HB3 HLa3 HLb3 HLc3 HX3 HT3 hRl
  go_wp2_with fail
  refine (hD.out _ HLa4.out HLb4.out).mono ?_
  rintro e w5 ⟨rfl, hb5⟩
  have HB5 := Lib.hid (btr HB4.out hb5)
  have HLa5 := Lib.hid (HLa4.out.below hb5)
  have HLb5 := Lib.hid (HLb4.out.below hb5)
  have HLc5 := Lib.hid (HLc4.out.below hb5)
  have HX5 := Lib.hid (HX4.out.below hb5)
  have HT5 := Lib.hid (HT4.out.below hb5)
  clear hb5 HB4 HLa4 HLb4 HLc4 HX4 HT4 hD
  have OE : Hid (World.ownsRow (w5.alloc (.cells #[] 44)) w5.heap.size 44 enE.k (.slice (some ⟨w5.heap.size, 0, none⟩) 0 0) ([] : List En).length (rowOf enE ([] : List En))) := rowE_empty w5
  have KE : Hid (Below w5.heap.size w5 (w5.alloc (.cells #[] 44))) := bal (Below.refl _ _) _
  have LE : Hid (Lies enE (w5.alloc (.cells #[] 44)) a h) := HLa5.out.below KE.out
  go_wp2_with (first | (at_builtin; refine wp_app_en rfl _ _ 22 rfl w5.heap.size i0 _ Try.underlying22 hi hz0 hz1 hz2 rfl _ ([] ++ h) rfl O1.out a'' c'' m (by rw [← HO.out]; rfl) HY3.out L1.out (by have := HBB.out; simp; omega) K1.out.size ?_; intro vb wb hown hgrow; have K2 : Hid (Below w5.heap.size w5 wb) := K1.out.grown hgrow K1.out.size (fun k hk => (O1.out.lt k hk).1); rw [List.nil_append] at hown; obtain ⟨a9, c9, rfl, -, hl9, -, -⟩ := own_open0 hown; rw [← HA.out]; have HP9 := Lib.hid hl9; clear hown hgrow hl9) | (at_builtin; refine wp_app_en rfl _ _ 22 rfl w5.heap.size i0 _ Try.underlying22 hi hz0 hz1 hz2 rfl _ ([] : List En) rfl OE.out a c h (by rw [← HN.out]; rfl) HY1.out LE.out (by have := HBB.out; simp; omega) KE.out.size ?_; intro va wa hown hgrow; have K1 : Hid (Below w5.heap.size w5 wa) := KE.out.grown hgrow KE.out.size (fun k hk => (OE.out.lt k hk).1); have O1 := Lib.hid hown; have L1 := Lib.hid (HLc5.out.below K1.out); clear hown hgrow))
  have HB9 := Lib.hid (btr HB5.out K2.out)
  have HX9 := Lib.hid (HX5.out.below K2.out)
  have HT9 := Lib.hid (HT5.out.below K2.out)
  clear K2 K1 O1 L1 OE KE LE HB5 HLa5 HLb5 HLc5 HX5 HT5
  refine (hRa.out _ _ _ HP9.out).mono ?_
  rintro e w10 ⟨rfl, hb10⟩
  have HB10 := Lib.hid (btr HB9.out hb10)
  have HX10 := Lib.hid (HX9.out.below hb10)
  have HT10 := Lib.hid (HT9.out.below hb10)
  have HP10 := Lib.hid (HP9.out.below hb10)
  clear hb10 HB9 HX9 HT9 HP9 hRa
  go_wp2_with fail
  refine (hBg.out _).mono ?_
  rintro e w11 ⟨rfl, hb11⟩
  have HB11 := Lib.hid (btr HB10.out hb11)
  have HX11 := Lib.hid (HX10.out.below hb11)
  have HT11 := Lib.hid (HT10.out.below hb11)
  have HP11 := Lib.hid (HP10.out.below hb11)
  clear hb11 HB10 HX10 HT10 HP10 hBg
  go_wp2_with fail
  refine (hI.out _ _ _ _ _ HX11.out (Lies.nil _ _ _)).mono ?_
  rintro e w12 ⟨rfl, hb12⟩
  have HB12 := Lib.hid (btr HB11.out hb12)
  have HX12 := Lib.hid (HX11.out.below hb12)
  have HT12 := Lib.hid (HT11.out.below hb12)
  have HP12 := Lib.hid (HP11.out.below hb12)
  clear hb12 HB11 HX11 HT11 HP11 hI
  go_wp2_with fail
  refine (hJ.out _ _ _ _ _ HT12.out HP12.out).mono ?_
  rintro e w13 ⟨rfl, hb13⟩
  have HB13 := Lib.hid (btr HB12.out hb13)
  clear hb13
  go_wp2
  go_ret
  exact ⟨rfl, HB13.out⟩
set_option maxHeartbeats 32000000 in
set_option maxRecDepth 100000 in
theorem stells_rng1 (a a' a'' : Option Addr) (c c' c'' : Nat) (h l m : List En) (many : Int) (w : World) (hc : h.length ≤ c) (hc' : l.length ≤ c') (hc'' : m.length ≤ c'') (hs : Lies enE w a h) (hs' : Lies enE w a' l) (hs'' : Lies enE w a'' m)
    (hn : a = none → c = 0) (hn' : a' = none → c' = 0) (hn'' : a'' = none → c'' = 0) (hw : ∀ x ∈ h, x.o.who.size ≤ maxLen) (hw' : ∀ x ∈ l, x.o.who.size ≤ maxLen) (hw'' : ∀ x ∈ m, x.o.who.size ≤ maxLen) (hb : h.length + m.length ≤ 100000000) (e1 : logE h = 0) (e2 : logE l = 0) (e3 : begB h l = true) (e4 : 30 < many) :
    Calls Try.prog 3 #[.slice a h.length c, .slice a' l.length c', .slice a'' m.length c'', .int .i64 many] w fun e w' => e = .returned (.bool true) ∧ Below w.heap.size w w' := by
  have et : takeE h m = logE (h ++ m) := by unfold takeE; rw [if_pos e1]
  have ez : begE h l = 0 := by unfold begE; rw [if_pos e1]; exact e2
  have eb : nextE h l many = 3 := by unfold nextE; rw [if_pos ez, if_pos e3, if_pos (by omega)]
  have en : ¬ nextE h l many = 0 := by rw [eb]; decide
  have hD : Hid (∀ (W : World), Lies enE W a h → Lies enE W a' l → Calls Try.prog 7 #[.slice a h.length c, .slice a' l.length c'] W fun e w' => e = .returned (.bool (begB h l)) ∧ Below W.heap.size W w') := fun W p q => rbegin_any a a' c c' h l W hc' (Nat.le_trans (logE_len e1) (by decide)) p q
  have hN : Hid (∀ (W : World), Lies enE W a h → Lies enE W a' l → Calls Try.prog 4 #[.slice a h.length c, .slice a' l.length c', .int .i64 many] W fun e w' => ∃ a3 c3, e = .returned (.tuple #[.slice a3 (nextL h l many).length c3, .int .i64 (nextE h l many)]) ∧ Lies enE w' a3 (nextL h l many) ∧ Below W.heap.size W w') := fun W p q => (next_any a a' c c' h l many W hc hc' p q hn').mono fun e w' ⟨a3, c3, z1, z2, z3, z4, z5⟩ => ⟨a3, c3, z1, z3, z5⟩
  have hT : Hid (∀ (W : World), Lies enE W a h → Lies enE W a'' m → Calls Try.prog 5 #[.slice a h.length c, .slice a'' m.length c''] W fun e w' => ∃ a3 c3, e = .returned (.tuple #[.slice a3 (takeL h m).length c3, .int .i64 (takeE h m)]) ∧ Lies enE w' a3 (takeL h m) ∧ Below W.heap.size W w') := fun W p q => (take_any a a'' c c'' h m W hc hc'' p q hn hn'').mono fun e w' ⟨a3, c3, z1, z2, z3, z4, z5⟩ => ⟨a3, c3, z1, z3, z5⟩
  have hR : Hid (∀ (W : World), Lies enE W a h → Calls Try.prog 6 #[.slice a h.length c] W fun e w' => e = .returned (.int .i64 (logE h)) ∧ Below W.heap.size W w') := fun W p => rlog_any a c h W p hw
  have hRl : Hid (∀ (W : World), Lies enE W a' l → Calls Try.prog 6 #[.slice a' l.length c'] W fun e w' => e = .returned (.int .i64 (logE l)) ∧ Below W.heap.size W w') := fun W p => rlog_any a' c' l W p hw'
  have hRa : Hid (∀ (b : Option Addr) (d : Nat) (W : World), Lies enE W b (h ++ m) → Calls Try.prog 6 #[.slice b (h ++ m).length d] W fun e w' => e = .returned (.int .i64 (logE (h ++ m))) ∧ Below W.heap.size W w') := fun b d W p => rlog_any b d (h ++ m) W p (fun x hx => (List.mem_append.1 hx).elim (hw x) (hw'' x))
  have hI : Hid (∀ (b b' : Option Addr) (d d' : Nat) (W : World), Lies enE W b (nextL h l many) → Lies enE W b' (([] : List En)) → Calls Try.prog 10 #[.slice b (nextL h l many).length d, .int .i64 (nextE h l many), .int .i64 (nextE h l many), .slice b' (([] : List En)).length d'] W fun e w' => e = .returned (.bool true) ∧ Below W.heap.size W w') := fun b b' d d' W p q => logis_any (nextL h l many) (([] : List En)) (nextE h l many) b b' d d' W (fun z => absurd z en) (fun z => next_nil z) p q
  have hJ : Hid (∀ (b b' : Option Addr) (d d' : Nat) (W : World), Lies enE W b (takeL h m) → Lies enE W b' (h ++ m) → Calls Try.prog 10 #[.slice b (takeL h m).length d, .int .i64 (takeE h m), .int .i64 (takeE h m), .slice b' (h ++ m).length d'] W fun e w' => e = .returned (.bool true) ∧ Below W.heap.size W w') := fun b b' d d' W p q => logis_any (takeL h m) (h ++ m) (takeE h m) b b' d d' W (fun z => ⟨take_eq z, take_len h m⟩) (fun z => take_nil z) p q
  have hBg : Hid (∀ (W : World), Calls Try.prog 9 #[] W fun e w' => e = .returned (.bool true) ∧ Below W.heap.size W w') := sbegun_ship
  rw [eb] at hN hI
  rw [et] at hT hJ
  rw [e1] at hR
  rw [e2] at hRl
  rw [e3] at hD
  have k1 : decide (many < 0) = false := decide_eq_false (by omega)
  have k2 : decide (30 < many) = true := decide_eq_true e4
  clear e1 e2 e3 e4 eb et en ez
  have HL1 := Lib.hid hs
  have HL2 := Lib.hid hs'
  have HL3 := Lib.hid hs''
  have HY1 := Lib.hid hn
  have HY3 := Lib.hid hn''
  have HBB := Lib.hid hb
  have HE1 : Hid (∀ x : List En, x = h → x.length = h.length) := fun x e => by rw [e]
  obtain ⟨i0, hi, hz0, hz1, hz2⟩ := info_parts infoE
  generalize nextE h l many = rn at *
  generalize nextL h l many = NL at *
  generalize takeE h m = rt at *
  generalize takeL h m = TL at *
  generalize logE h = r1 at *
  generalize logE l = r2 at *
  generalize logE (h ++ m) = r3 at *
  generalize begB h l = bb at *
  obtain ⟨N, hN1⟩ : ∃ N, N = h.length := ⟨_, rfl⟩
  obtain ⟨M, hM1⟩ : ∃ N, N = l.length := ⟨_, rfl⟩
  obtain ⟨O, hO1⟩ : ∃ N, N = m.length := ⟨_, rfl⟩
  obtain ⟨A, hA1⟩ : ∃ N, N = (h ++ m).length := ⟨_, rfl⟩
  have HN := Lib.hid hN1
  have HO := Lib.hid hO1
  have HA := Lib.hid hA1
  rw [← hN1] at hN hT hR hD ⊢
  rw [← hM1] at hN hRl hD ⊢
  rw [← hO1] at hT ⊢
  rw [← hA1] at hRa hJ
  clear hN1 hM1 hO1 hA1 hs hs' hs'' hc hc' hc'' hn hn' hn'' hw hw' hw'' hb
  go_enter Try.func3, Try.ntmps3
  have HB0 := Lib.hid (Below.refl w.heap.size w)
  have HLa0 := Lib.hid HL1.out
  have HLb0 := Lib.hid HL2.out
  have HLc0 := Lib.hid HL3.out
  clear HL1 HL2 HL3
  go_wp2_with fail
  refine (hN.out _ HLa0.out HLb0.out).mono ?_
  rintro e w1 ⟨a1, c1, rfl, hl1, hb1⟩
  have HB1 := Lib.hid (btr HB0.out hb1)
  have HLa1 := Lib.hid (HLa0.out.below hb1)
  have HLb1 := Lib.hid (HLb0.out.below hb1)
  have HLc1 := Lib.hid (HLc0.out.below hb1)
  clear hb1 HB0 HLa0 HLb0 HLc0
  have HX1 := Lib.hid hl1
  clear hl1 hN
  go_wp2_with fail
  refine (hT.out _ HLa1.out HLc1.out).mono ?_
  rintro e w2 ⟨a2, c2, rfl, hl2, hb2⟩
  have HB2 := Lib.hid (btr HB1.out hb2)
  have HLa2 := Lib.hid (HLa1.out.below hb2)
  have HLb2 := Lib.hid (HLb1.out.below hb2)
  have HLc2 := Lib.hid (HLc1.out.below hb2)
  have HX2 := Lib.hid (HX1.out.below hb2)
  clear hb2 HB1 HLa1 HLb1 HLc1 HX1
  have HT2 := Lib.hid hl2
  clear hl2 hT
  go_wp2_with fail
  refine (hR.out _ HLa2.out).mono ?_
  rintro e w3 ⟨rfl, hb3⟩
  have HB3 := Lib.hid (btr HB2.out hb3)
  have HLa3 := Lib.hid (HLa2.out.below hb3)
  have HLb3 := Lib.hid (HLb2.out.below hb3)
  have HLc3 := Lib.hid (HLc2.out.below hb3)
  have HX3 := Lib.hid (HX2.out.below hb3)
  have HT3 := Lib.hid (HT2.out.below hb3)
  clear hb3 HB2 HLa2 HLb2 HLc2 HX2 HT2 hR
  go_wp2_with fail
  refine (hRl.out _ HLb3.out).mono ?_
  rintro e w4 ⟨rfl, hb4⟩
  have HB4 := Lib.hid (btr HB3.out hb4)
  have HLa4 := Lib.hid (HLa3.out.below hb4)
  have HLb4 := Lib.hid (HLb3.out.below hb4)
  have HLc4 := Lib.hid (HLc3.out.below hb4)
  have HX4 := Lib.hid (HX3.out.below hb4)
  have HT4 := Lib.hid (HT3.out.below hb4)
  clear hb4 HB3 HLa3 HLb3 HLc3 HX3 HT3 hRl
  go_wp2_with fail
  refine (hD.out _ HLa4.out HLb4.out).mono ?_
  rintro e w5 ⟨rfl, hb5⟩
  have HB5 := Lib.hid (btr HB4.out hb5)
  have HLa5 := Lib.hid (HLa4.out.below hb5)
  have HLb5 := Lib.hid (HLb4.out.below hb5)
  have HLc5 := Lib.hid (HLc4.out.below hb5)
  have HX5 := Lib.hid (HX4.out.below hb5)
  have HT5 := Lib.hid (HT4.out.below hb5)
  clear hb5 HB4 HLa4 HLb4 HLc4 HX4 HT4 hD
  have OE : Hid (World.ownsRow (w5.alloc (.cells #[] 44)) w5.heap.size 44 enE.k (.slice (some ⟨w5.heap.size, 0, none⟩) 0 0) ([] : List En).length (rowOf enE ([] : List En))) := rowE_empty w5
  have KE : Hid (Below w5.heap.size w5 (w5.alloc (.cells #[] 44))) := bal (Below.refl _ _) _
  have LE : Hid (Lies enE (w5.alloc (.cells #[] 44)) a h) := HLa5.out.below KE.out
  go_wp2_with (first | (at_builtin; refine wp_app_en rfl _ _ 22 rfl w5.heap.size i0 _ Try.underlying22 hi hz0 hz1 hz2 rfl _ ([] ++ h) rfl O1.out a'' c'' m (by rw [← HO.out]; rfl) HY3.out L1.out (by have := HBB.out; simp; omega) K1.out.size ?_; intro vb wb hown hgrow; have K2 : Hid (Below w5.heap.size w5 wb) := K1.out.grown hgrow K1.out.size (fun k hk => (O1.out.lt k hk).1); rw [List.nil_append] at hown; obtain ⟨a9, c9, rfl, -, hl9, -, -⟩ := own_open0 hown; rw [← HA.out]; have HP9 := Lib.hid hl9; clear hown hgrow hl9) | (at_builtin; refine wp_app_en rfl _ _ 22 rfl w5.heap.size i0 _ Try.underlying22 hi hz0 hz1 hz2 rfl _ ([] : List En) rfl OE.out a c h (by rw [← HN.out]; rfl) HY1.out LE.out (by have := HBB.out; simp; omega) KE.out.size ?_; intro va wa hown hgrow; have K1 : Hid (Below w5.heap.size w5 wa) := KE.out.grown hgrow KE.out.size (fun k hk => (OE.out.lt k hk).1); have O1 := Lib.hid hown; have L1 := Lib.hid (HLc5.out.below K1.out); clear hown hgrow))
  have HB9 := Lib.hid (btr HB5.out K2.out)
  have HX9 := Lib.hid (HX5.out.below K2.out)
  have HT9 := Lib.hid (HT5.out.below K2.out)
  clear K2 K1 O1 L1 OE KE LE HB5 HLa5 HLb5 HLc5 HX5 HT5
  refine (hRa.out _ _ _ HP9.out).mono ?_
  rintro e w10 ⟨rfl, hb10⟩
  have HB10 := Lib.hid (btr HB9.out hb10)
  have HX10 := Lib.hid (HX9.out.below hb10)
  have HT10 := Lib.hid (HT9.out.below hb10)
  have HP10 := Lib.hid (HP9.out.below hb10)
  clear hb10 HB9 HX9 HT9 HP9 hRa
  go_wp2_with fail
  refine (hBg.out _).mono ?_
  rintro e w11 ⟨rfl, hb11⟩
  have HB11 := Lib.hid (btr HB10.out hb11)
  have HX11 := Lib.hid (HX10.out.below hb11)
  have HT11 := Lib.hid (HT10.out.below hb11)
  have HP11 := Lib.hid (HP10.out.below hb11)
  clear hb11 HB10 HX10 HT10 HP10 hBg
  go_wp2_with fail
  refine (hI.out _ _ _ _ _ HX11.out (Lies.nil _ _ _)).mono ?_
  rintro e w12 ⟨rfl, hb12⟩
  have HB12 := Lib.hid (btr HB11.out hb12)
  have HX12 := Lib.hid (HX11.out.below hb12)
  have HT12 := Lib.hid (HT11.out.below hb12)
  have HP12 := Lib.hid (HP11.out.below hb12)
  clear hb12 HB11 HX11 HT11 HP11 hI
  go_wp2_with fail
  refine (hJ.out _ _ _ _ _ HT12.out HP12.out).mono ?_
  rintro e w13 ⟨rfl, hb13⟩
  have HB13 := Lib.hid (btr HB12.out hb13)
  clear hb13
  go_wp2
  go_ret
  exact ⟨rfl, HB13.out⟩
set_option maxHeartbeats 32000000 in
set_option maxRecDepth 100000 in
theorem stells_good (a a' a'' : Option Addr) (c c' c'' : Nat) (h l m : List En) (many : Int) (w : World) (hc : h.length ≤ c) (hc' : l.length ≤ c') (hc'' : m.length ≤ c'') (hs : Lies enE w a h) (hs' : Lies enE w a' l) (hs'' : Lies enE w a'' m)
    (hn : a = none → c = 0) (hn' : a' = none → c' = 0) (hn'' : a'' = none → c'' = 0) (hw : ∀ x ∈ h, x.o.who.size ≤ maxLen) (hw' : ∀ x ∈ l, x.o.who.size ≤ maxLen) (hw'' : ∀ x ∈ m, x.o.who.size ≤ maxLen) (hb : h.length + m.length ≤ 100000000) (e1 : logE h = 0) (e2 : logE l = 0) (e3 : begB h l = true) (e4 : 0 ≤ many) (e5 : many ≤ 30) :
    Calls Try.prog 3 #[.slice a h.length c, .slice a' l.length c', .slice a'' m.length c'', .int .i64 many] w fun e w' => e = .returned (.bool true) ∧ Below w.heap.size w w' := by
  have et : takeE h m = logE (h ++ m) := by unfold takeE; rw [if_pos e1]
  have ez : begE h l = 0 := by unfold begE; rw [if_pos e1]; exact e2
  have en : nextE h l many = 0 := by unfold nextE; rw [if_pos ez, if_pos e3, if_neg (by omega)]
  have hle : h.length ≤ l.length := by have q := e3; unfold begB at q; rw [Bool.and_eq_true] at q; simpa using q.1
  have hD : Hid (∀ (W : World), Lies enE W a h → Lies enE W a' l → Calls Try.prog 7 #[.slice a h.length c, .slice a' l.length c'] W fun e w' => e = .returned (.bool (begB h l)) ∧ Below W.heap.size W w') := fun W p q => rbegin_any a a' c c' h l W hc' (Nat.le_trans (logE_len e1) (by decide)) p q
  have hH : Hid (∀ (W : World), Lies enE W a' l → Calls Try.prog 8 #[.slice a h.length c, .slice a' l.length c', .int .i64 many] W fun e w' => ∃ a5 c5, e = .returned (.slice a5 (nextL h l many).length c5) ∧ Lies enE w' a5 (nextL h l many) ∧ Below W.heap.size W w') := fun W p => by
    obtain ⟨k, rfl⟩ : ∃ k : Nat, many = k := ⟨many.toNat, by omega⟩
    have z := behind_any a' a h.length c c' l k W hle (Nat.le_trans (logE_len e2) (by decide)) (by omega) p
    rw [show nextL h l (k : Int) = (l.drop h.length).take k by unfold nextL; rw [if_pos en, Int.toNat_natCast]]
    refine z.mono ?_
    rintro e w' ⟨v, rfl, z2, z3⟩
    obtain ⟨a5, c5, rfl, -, z4, -, -⟩ := own_open0 z2
    exact ⟨a5, c5, rfl, z4, z3⟩
  have hN : Hid (∀ (W : World), Lies enE W a h → Lies enE W a' l → Calls Try.prog 4 #[.slice a h.length c, .slice a' l.length c', .int .i64 many] W fun e w' => ∃ a3 c3, e = .returned (.tuple #[.slice a3 (nextL h l many).length c3, .int .i64 (nextE h l many)]) ∧ Lies enE w' a3 (nextL h l many) ∧ Below W.heap.size W w') := fun W p q => (next_any a a' c c' h l many W hc hc' p q hn').mono fun e w' ⟨a3, c3, z1, z2, z3, z4, z5⟩ => ⟨a3, c3, z1, z3, z5⟩
  have hT : Hid (∀ (W : World), Lies enE W a h → Lies enE W a'' m → Calls Try.prog 5 #[.slice a h.length c, .slice a'' m.length c''] W fun e w' => ∃ a3 c3, e = .returned (.tuple #[.slice a3 (takeL h m).length c3, .int .i64 (takeE h m)]) ∧ Lies enE w' a3 (takeL h m) ∧ Below W.heap.size W w') := fun W p q => (take_any a a'' c c'' h m W hc hc'' p q hn hn'').mono fun e w' ⟨a3, c3, z1, z2, z3, z4, z5⟩ => ⟨a3, c3, z1, z3, z5⟩
  have hR : Hid (∀ (W : World), Lies enE W a h → Calls Try.prog 6 #[.slice a h.length c] W fun e w' => e = .returned (.int .i64 (logE h)) ∧ Below W.heap.size W w') := fun W p => rlog_any a c h W p hw
  have hRl : Hid (∀ (W : World), Lies enE W a' l → Calls Try.prog 6 #[.slice a' l.length c'] W fun e w' => e = .returned (.int .i64 (logE l)) ∧ Below W.heap.size W w') := fun W p => rlog_any a' c' l W p hw'
  have hRa : Hid (∀ (b : Option Addr) (d : Nat) (W : World), Lies enE W b (h ++ m) → Calls Try.prog 6 #[.slice b (h ++ m).length d] W fun e w' => e = .returned (.int .i64 (logE (h ++ m))) ∧ Below W.heap.size W w') := fun b d W p => rlog_any b d (h ++ m) W p (fun x hx => (List.mem_append.1 hx).elim (hw x) (hw'' x))
  have hI : Hid (∀ (b b' : Option Addr) (d d' : Nat) (W : World), Lies enE W b (nextL h l many) → Lies enE W b' (nextL h l many) → Calls Try.prog 10 #[.slice b (nextL h l many).length d, .int .i64 (nextE h l many), .int .i64 (nextE h l many), .slice b' (nextL h l many).length d'] W fun e w' => e = .returned (.bool true) ∧ Below W.heap.size W w') := fun b b' d d' W p q => logis_any (nextL h l many) (nextL h l many) (nextE h l many) b b' d d' W (fun _ => ⟨rfl, next_len h l many⟩) (fun z => next_nil z) p q
  have hJ : Hid (∀ (b b' : Option Addr) (d d' : Nat) (W : World), Lies enE W b (takeL h m) → Lies enE W b' (h ++ m) → Calls Try.prog 10 #[.slice b (takeL h m).length d, .int .i64 (takeE h m), .int .i64 (takeE h m), .slice b' (h ++ m).length d'] W fun e w' => e = .returned (.bool true) ∧ Below W.heap.size W w') := fun b b' d d' W p q => logis_any (takeL h m) (h ++ m) (takeE h m) b b' d d' W (fun z => ⟨take_eq z, take_len h m⟩) (fun z => take_nil z) p q
  have hBg : Hid (∀ (W : World), Calls Try.prog 9 #[] W fun e w' => e = .returned (.bool true) ∧ Below W.heap.size W w') := sbegun_ship
  rw [en] at hN hI
  rw [et] at hT hJ
  rw [e1] at hR
  rw [e2] at hRl
  rw [e3] at hD
  have k1 : decide (many < 0) = false := decide_eq_false (by omega)
  have k2 : decide (30 < many) = false := decide_eq_false (by omega)
  clear e1 e2 e3 e4 e5 et en ez hle
  have HL1 := Lib.hid hs
  have HL2 := Lib.hid hs'
  have HL3 := Lib.hid hs''
  have HY1 := Lib.hid hn
  have HY3 := Lib.hid hn''
  have HBB := Lib.hid hb
  have HE1 : Hid (∀ x : List En, x = h → x.length = h.length) := fun x e => by rw [e]
  obtain ⟨i0, hi, hz0, hz1, hz2⟩ := info_parts infoE
  generalize nextE h l many = rn at *
  generalize nextL h l many = NL at *
  generalize takeE h m = rt at *
  generalize takeL h m = TL at *
  generalize logE h = r1 at *
  generalize logE l = r2 at *
  generalize logE (h ++ m) = r3 at *
  generalize begB h l = bb at *
  obtain ⟨N, hN1⟩ : ∃ N, N = h.length := ⟨_, rfl⟩
  obtain ⟨M, hM1⟩ : ∃ N, N = l.length := ⟨_, rfl⟩
  obtain ⟨O, hO1⟩ : ∃ N, N = m.length := ⟨_, rfl⟩
  obtain ⟨A, hA1⟩ : ∃ N, N = (h ++ m).length := ⟨_, rfl⟩
  have HN := Lib.hid hN1
  have HO := Lib.hid hO1
  have HA := Lib.hid hA1
  rw [← hN1] at hN hT hR hD hH ⊢
  rw [← hM1] at hN hRl hD hH ⊢
  rw [← hO1] at hT ⊢
  rw [← hA1] at hRa hJ
  clear hN1 hM1 hO1 hA1 hs hs' hs'' hc hc' hc'' hn hn' hn'' hw hw' hw'' hb
  go_enter Try.func3, Try.ntmps3
  have HB0 := Lib.hid (Below.refl w.heap.size w)
  have HLa0 := Lib.hid HL1.out
  have HLb0 := Lib.hid HL2.out
  have HLc0 := Lib.hid HL3.out
  clear HL1 HL2 HL3
  go_wp2_with fail
  refine (hN.out _ HLa0.out HLb0.out).mono ?_
  rintro e w1 ⟨a1, c1, rfl, hl1, hb1⟩
  have HB1 := Lib.hid (btr HB0.out hb1)
  have HLa1 := Lib.hid (HLa0.out.below hb1)
  have HLb1 := Lib.hid (HLb0.out.below hb1)
  have HLc1 := Lib.hid (HLc0.out.below hb1)
  clear hb1 HB0 HLa0 HLb0 HLc0
  have HX1 := Lib.hid hl1
  clear hl1 hN
  go_wp2_with fail
  refine (hT.out _ HLa1.out HLc1.out).mono ?_
  rintro e w2 ⟨a2, c2, rfl, hl2, hb2⟩
  have HB2 := Lib.hid (btr HB1.out hb2)
  have HLa2 := Lib.hid (HLa1.out.below hb2)
  have HLb2 := Lib.hid (HLb1.out.below hb2)
  have HLc2 := Lib.hid (HLc1.out.below hb2)
  have HX2 := Lib.hid (HX1.out.below hb2)
  clear hb2 HB1 HLa1 HLb1 HLc1 HX1
  have HT2 := Lib.hid hl2
  clear hl2 hT
  go_wp2_with fail
  refine (hR.out _ HLa2.out).mono ?_
  rintro e w3 ⟨rfl, hb3⟩
  have HB3 := Lib.hid (btr HB2.out hb3)
  have HLa3 := Lib.hid (HLa2.out.below hb3)
  have HLb3 := Lib.hid (HLb2.out.below hb3)
  have HLc3 := Lib.hid (HLc2.out.below hb3)
  have HX3 := Lib.hid (HX2.out.below hb3)
  have HT3 := Lib.hid (HT2.out.below hb3)
  clear hb3 HB2 HLa2 HLb2 HLc2 HX2 HT2 hR
  go_wp2_with fail
  refine (hRl.out _ HLb3.out).mono ?_
  rintro e w4 ⟨rfl, hb4⟩
  have HB4 := Lib.hid (btr HB3.out hb4)
  have HLa4 := Lib.hid (HLa3.out.below hb4)
  have HLb4 := Lib.hid (HLb3.out.below hb4)
  have HLc4 := Lib.hid (HLc3.out.below hb4)
  have HX4 := Lib.hid (HX3.out.below hb4)
  have HT4 := Lib.hid (HT3.out.below hb4)
  clear hb4 HB3 HLa3 HLb3 HLc3 HX3 HT3 hRl
  go_wp2_with fail
  refine (hD.out _ HLa4.out HLb4.out).mono ?_
  rintro e w5 ⟨rfl, hb5⟩
  have HB5 := Lib.hid (btr HB4.out hb5)
  have HLa5 := Lib.hid (HLa4.out.below hb5)
  have HLb5 := Lib.hid (HLb4.out.below hb5)
  have HLc5 := Lib.hid (HLc4.out.below hb5)
  have HX5 := Lib.hid (HX4.out.below hb5)
  have HT5 := Lib.hid (HT4.out.below hb5)
  clear hb5 HB4 HLa4 HLb4 HLc4 HX4 HT4 hD
  go_wp2_with fail
  refine (hH.out _ HLb5.out).mono ?_
  rintro e w6 ⟨a6, c6, rfl, hl6, hb6⟩
  have HB6 := Lib.hid (btr HB5.out hb6)
  have HLa6 := Lib.hid (HLa5.out.below hb6)
  have HLb6 := Lib.hid (HLb5.out.below hb6)
  have HLc6 := Lib.hid (HLc5.out.below hb6)
  have HX6 := Lib.hid (HX5.out.below hb6)
  have HT6 := Lib.hid (HT5.out.below hb6)
  clear hb6 HB5 HLa5 HLb5 HLc5 HX5 HT5 hH
  have HV6 := Lib.hid hl6
  clear hl6
  have OE : Hid (World.ownsRow (w6.alloc (.cells #[] 44)) w6.heap.size 44 enE.k (.slice (some ⟨w6.heap.size, 0, none⟩) 0 0) ([] : List En).length (rowOf enE ([] : List En))) := rowE_empty w6
  have KE : Hid (Below w6.heap.size w6 (w6.alloc (.cells #[] 44))) := bal (Below.refl _ _) _
  have LE : Hid (Lies enE (w6.alloc (.cells #[] 44)) a h) := HLa6.out.below KE.out
  go_wp2_with (first | (at_builtin; refine wp_app_en rfl _ _ 22 rfl w6.heap.size i0 _ Try.underlying22 hi hz0 hz1 hz2 rfl _ ([] ++ h) rfl O1.out a'' c'' m (by rw [← HO.out]; rfl) HY3.out L1.out (by have := HBB.out; simp; omega) K1.out.size ?_; intro vb wb hown hgrow; have K2 : Hid (Below w6.heap.size w6 wb) := K1.out.grown hgrow K1.out.size (fun k hk => (O1.out.lt k hk).1); rw [List.nil_append] at hown; obtain ⟨a9, c9, rfl, -, hl9, -, -⟩ := own_open0 hown; rw [← HA.out]; have HP9 := Lib.hid hl9; clear hown hgrow hl9) | (at_builtin; refine wp_app_en rfl _ _ 22 rfl w6.heap.size i0 _ Try.underlying22 hi hz0 hz1 hz2 rfl _ ([] : List En) rfl OE.out a c h (by rw [← HN.out]; rfl) HY1.out LE.out (by have := HBB.out; simp; omega) KE.out.size ?_; intro va wa hown hgrow; have K1 : Hid (Below w6.heap.size w6 wa) := KE.out.grown hgrow KE.out.size (fun k hk => (OE.out.lt k hk).1); have O1 := Lib.hid hown; have L1 := Lib.hid (HLc6.out.below K1.out); clear hown hgrow))
  have HB9 := Lib.hid (btr HB6.out K2.out)
  have HX9 := Lib.hid (HX6.out.below K2.out)
  have HT9 := Lib.hid (HT6.out.below K2.out)
  have HV9 := Lib.hid (HV6.out.below K2.out)
  clear K2 K1 O1 L1 OE KE LE HB6 HLa6 HLb6 HLc6 HX6 HT6 HV6
  refine (hRa.out _ _ _ HP9.out).mono ?_
  rintro e w10 ⟨rfl, hb10⟩
  have HB10 := Lib.hid (btr HB9.out hb10)
  have HX10 := Lib.hid (HX9.out.below hb10)
  have HT10 := Lib.hid (HT9.out.below hb10)
  have HV10 := Lib.hid (HV9.out.below hb10)
  have HP10 := Lib.hid (HP9.out.below hb10)
  clear hb10 HB9 HX9 HT9 HV9 HP9 hRa
  go_wp2_with fail
  refine (hBg.out _).mono ?_
  rintro e w11 ⟨rfl, hb11⟩
  have HB11 := Lib.hid (btr HB10.out hb11)
  have HX11 := Lib.hid (HX10.out.below hb11)
  have HT11 := Lib.hid (HT10.out.below hb11)
  have HV11 := Lib.hid (HV10.out.below hb11)
  have HP11 := Lib.hid (HP10.out.below hb11)
  clear hb11 HB10 HX10 HT10 HV10 HP10 hBg
  go_wp2_with fail
  refine (hI.out _ _ _ _ _ HX11.out HV11.out).mono ?_
  rintro e w12 ⟨rfl, hb12⟩
  have HB12 := Lib.hid (btr HB11.out hb12)
  have HX12 := Lib.hid (HX11.out.below hb12)
  have HT12 := Lib.hid (HT11.out.below hb12)
  have HV12 := Lib.hid (HV11.out.below hb12)
  have HP12 := Lib.hid (HP11.out.below hb12)
  clear hb12 HB11 HX11 HT11 HV11 HP11 hI
  go_wp2_with fail
  refine (hJ.out _ _ _ _ _ HT12.out HP12.out).mono ?_
  rintro e w13 ⟨rfl, hb13⟩
  have HB13 := Lib.hid (btr HB12.out hb13)
  clear hb13
  go_wp2
  go_ret
  exact ⟨rfl, HB13.out⟩
set_option maxHeartbeats 32000000 in
set_option maxRecDepth 100000 in
theorem stells_any (a a' a'' : Option Addr) (c c' c'' : Nat) (h l m : List En) (many : Int) (w : World) (hc : h.length ≤ c) (hc' : l.length ≤ c') (hc'' : m.length ≤ c'') (hs : Lies enE w a h) (hs' : Lies enE w a' l) (hs'' : Lies enE w a'' m)
    (hn : a = none → c = 0) (hn' : a' = none → c' = 0) (hn'' : a'' = none → c'' = 0) (hw : ∀ x ∈ h, x.o.who.size ≤ maxLen) (hw' : ∀ x ∈ l, x.o.who.size ≤ maxLen) (hw'' : ∀ x ∈ m, x.o.who.size ≤ maxLen) (hb : h.length + m.length ≤ 100000000) :
    Calls Try.prog 3 #[.slice a h.length c, .slice a' l.length c', .slice a'' m.length c'', .int .i64 many] w fun e w' => e = .returned (.bool true) ∧ Below w.heap.size w w' := by
  by_cases e1 : logE h = 0
  · by_cases e2 : logE l = 0
    · cases e3 : begB h l
      · exact stells_bad3 a a' a'' c c' c'' h l m many w hc hc' hc'' hs hs' hs'' hn hn' hn'' hw hw' hw'' hb e1 e2 e3
      · by_cases e4 : many < 0
        · exact stells_rng0 a a' a'' c c' c'' h l m many w hc hc' hc'' hs hs' hs'' hn hn' hn'' hw hw' hw'' hb e1 e2 e3 e4
        · by_cases e5 : 30 < many
          · exact stells_rng1 a a' a'' c c' c'' h l m many w hc hc' hc'' hs hs' hs'' hn hn' hn'' hw hw' hw'' hb e1 e2 e3 e5
          · exact stells_good a a' a'' c c' c'' h l m many w hc hc' hc'' hs hs' hs'' hn hn' hn'' hw hw' hw'' hb e1 e2 e3 (by omega) (by omega)
    · exact stells_bad2 a a' a'' c c' c'' h l m many w hc hc' hc'' hs hs' hs'' hn hn' hn'' hw hw' hw'' hb e1 e2
  · exact stells_bad1 a a' a'' c c' c'' h l m many w hc hc' hc'' hs hs' hs'' hn hn' hn'' hw hw' hw'' hb e1
end Go.Proofs.Ytclnfkohlklbpaa
