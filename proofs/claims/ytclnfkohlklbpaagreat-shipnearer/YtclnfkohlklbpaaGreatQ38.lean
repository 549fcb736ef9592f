/- ShipWhole: its walk. -/
import Derived.Test.YtclnfkohlklbpaaGreatQ34
import Derived.Test.YtclnfkohlklbpaaGreatQ37
set_option linter.unusedVariables false
set_option linter.unusedSimpArgs false
namespace Go.Proofs.YtclnfkohlklbpaaGreat
open Go.RowKit

theorem logFrom_take : ∀ (l done : List En) (k : Nat), logFrom done l = 0 → logFrom done (l.take k) = 0
  | [], done, k, h => by rw [List.take_nil]; exact h
  | x :: r, done, 0, h => by rw [List.take_zero]; rfl
  | x :: r, done, k + 1, h => by
    rw [List.take_succ_cons]
    unfold logFrom at h ⊢
    by_cases h0 : follE done x = 0
    · rw [if_pos h0] at h ⊢
      exact logFrom_take r _ k h
    · rw [if_neg h0] at h; exact absurd h h0
theorem logE_take {l : List En} (h : logE l = 0) (k : Nat) : logE (l.take k) = 0 := by
  have h30 := logE_len h
  unfold logE at h ⊢
  rw [if_neg (by omega)] at h
  rw [if_neg (by rw [List.length_take]; omega)]
  exact logFrom_take l [] k h
theorem beg_whole {l : List En} {k : Nat} (h : logE l = 0) (hk : k ≤ l.length) : begE (l.take k) l = 0 ∧ begB (l.take k) l = true := by
  refine ⟨by unfold begE; rw [if_pos (logE_take h k)]; exact h, ?_⟩
  unfold begB
  rw [List.length_take, Nat.min_eq_left hk, (sameEn_iff _ _).2 rfl]
  simp [hk]
theorem next_whole {l : List En} {k : Nat} {many : Nat} (h : logE l = 0) (hk : k ≤ l.length) (hm : many ≤ 30) : nextE (l.take k) l many = 0 ∧ nextL (l.take k) l many = (l.drop k).take many := by
  have e : nextE (l.take k) l many = 0 := by
    unfold nextE
    rw [if_pos (beg_whole h hk).1, if_pos (beg_whole h hk).2, if_neg (by omega)]
  refine ⟨e, ?_⟩
  unfold nextL
  rw [if_pos e, List.length_take, Nat.min_eq_left hk, Int.toNat_natCast]
theorem take_next {l : List En} {k m : Nat} (hm : m ≤ l.length - k) : l.take k ++ (l.drop k).take m = l.take (k + m) := by
  rw [List.take_add]
theorem take_whole {l : List En} {k m : Nat} (h : logE l = 0) : takeE (l.take k) ((l.drop k).take m) = 0 ∧ takeL (l.take k) ((l.drop k).take m) = l.take (k + m) := by
  have e : takeE (l.take k) ((l.drop k).take m) = 0 := by
    unfold takeE
    rw [if_pos (logE_take h k), ← List.take_add]
    exact logE_take h _
  refine ⟨e, ?_⟩
  unfold takeL
  rw [if_pos e, ← List.take_add]
set_option maxHeartbeats 16000000 in
set_option maxRecDepth 100000 in
theorem sw_bad (al : Option Addr) (cl : Nat) (l : List En) (many : Int) (w : World) (hc : l.length ≤ cl) (hl : Lies enE w al l) (h0 : ¬ logE l = 0) :
    Calls Tryz.prog 4 #[.slice al l.length cl, .int .i64 many] w fun e w' => e = .returned (.bool true) ∧ Below w.heap.size w w' := by
  have hB : Hid (∀ W : World, Calls Tryz.prog 5 #[] W fun e w' => e = .returned (.bool true) ∧ Below W.heap.size W w') := sbegun_ship
  have hG : Hid (∀ W : World, Calls Tryz.prog 6 #[] W fun e w' => e = .returned (.bool true) ∧ Below W.heap.size W w') := logbegun_any
  have hC : Hid (∀ W : World, Below w.heap.size w W → Calls Tryz.prog 11 #[.slice al l.length cl] W fun e w' => e = .returned (.int .i64 (logE l)) ∧ Below W.heap.size W w') := fun W hW => lcheck_any al cl l W hc (hl.below hW)
  have hI : (logE l != 0) = true := by rw [bne_iff_ne]; exact h0
  generalize logE l = r at *
  generalize l.length = N at *
  clear hc hl
  go_enter Tryz.func4, Tryz.ntmps4
  go_wp2_with fail
  refine (hB.out _).mono ?_
  rintro e w1 ⟨rfl, hb1⟩
  go_wp2_with fail
  refine (hG.out _).mono ?_
  rintro e w2 ⟨rfl, hb2⟩
  have HB2 := Lib.hid (btr hb1 hb2)
  clear hb1 hb2
  go_wp2_with fail
  refine (hC.out _ HB2.out).mono ?_
  rintro e w3 ⟨rfl, hb3⟩
  have HB3 := Lib.hid (btr HB2.out hb3)
  clear hb3 HB2 hG hC hB
  go_wp2_with fail
  go_ret
  exact ⟨rfl, HB3.out⟩
set_option maxHeartbeats 16000000 in
set_option maxRecDepth 100000 in
theorem sw_low (al : Option Addr) (cl : Nat) (l : List En) (many : Int) (w : World) (hc : l.length ≤ cl) (hl : Lies enE w al l) (h0 : logE l = 0) (h1 : many < 1) :
    Calls Tryz.prog 4 #[.slice al l.length cl, .int .i64 many] w fun e w' => e = .returned (.bool true) ∧ Below w.heap.size w w' := by
  have hB : Hid (∀ W : World, Calls Tryz.prog 5 #[] W fun e w' => e = .returned (.bool true) ∧ Below W.heap.size W w') := sbegun_ship
  have hG : Hid (∀ W : World, Calls Tryz.prog 6 #[] W fun e w' => e = .returned (.bool true) ∧ Below W.heap.size W w') := logbegun_any
  have hC : Hid (∀ W : World, Below w.heap.size w W → Calls Tryz.prog 11 #[.slice al l.length cl] W fun e w' => e = .returned (.int .i64 (logE l)) ∧ Below W.heap.size W w') := fun W hW => lcheck_any al cl l W hc (hl.below hW)
  rw [h0] at hC
  have d1 : decide (many < 1) = true := decide_eq_true h1
  generalize l.length = N at *
  clear hc hl h0
  go_enter Tryz.func4, Tryz.ntmps4
  go_wp2_with fail
  refine (hB.out _).mono ?_
  rintro e w1 ⟨rfl, hb1⟩
  go_wp2_with fail
  refine (hG.out _).mono ?_
  rintro e w2 ⟨rfl, hb2⟩
  have HB2 := Lib.hid (btr hb1 hb2)
  clear hb1 hb2
  go_wp2_with fail
  refine (hC.out _ HB2.out).mono ?_
  rintro e w3 ⟨rfl, hb3⟩
  have HB3 := Lib.hid (btr HB2.out hb3)
  clear hb3 HB2 hG hC hB
  go_wp2_with fail
  go_ret
  exact ⟨rfl, HB3.out⟩
set_option maxHeartbeats 16000000 in
set_option maxRecDepth 100000 in
theorem sw_high (al : Option Addr) (cl : Nat) (l : List En) (many : Int) (w : World) (hc : l.length ≤ cl) (hl : Lies enE w al l) (h0 : logE l = 0) (h1 : ¬ many < 1) (h2 : 30 < many) :
    Calls Tryz.prog 4 #[.slice al l.length cl, .int .i64 many] w fun e w' => e = .returned (.bool true) ∧ Below w.heap.size w w' := by
  have hB : Hid (∀ W : World, Calls Tryz.prog 5 #[] W fun e w' => e = .returned (.bool true) ∧ Below W.heap.size W w') := sbegun_ship
  have hG : Hid (∀ W : World, Calls Tryz.prog 6 #[] W fun e w' => e = .returned (.bool true) ∧ Below W.heap.size W w') := logbegun_any
  have hC : Hid (∀ W : World, Below w.heap.size w W → Calls Tryz.prog 11 #[.slice al l.length cl] W fun e w' => e = .returned (.int .i64 (logE l)) ∧ Below W.heap.size W w') := fun W hW => lcheck_any al cl l W hc (hl.below hW)
  rw [h0] at hC
  have d1 : decide (many < 1) = false := decide_eq_false h1
  have d2 : decide (30 < many) = true := decide_eq_true h2
  generalize l.length = N at *
  clear hc hl h0
  go_enter Tryz.func4, Tryz.ntmps4
  go_wp2_with fail
  refine (hB.out _).mono ?_
  rintro e w1 ⟨rfl, hb1⟩
  go_wp2_with fail
  refine (hG.out _).mono ?_
  rintro e w2 ⟨rfl, hb2⟩
  have HB2 := Lib.hid (btr hb1 hb2)
  clear hb1 hb2
  go_wp2_with fail
  refine (hC.out _ HB2.out).mono ?_
  rintro e w3 ⟨rfl, hb3⟩
  have HB3 := Lib.hid (btr HB2.out hb3)
  clear hb3 HB2 hG hC hB
  go_wp2_with fail
  go_ret
  exact ⟨rfl, HB3.out⟩
set_option maxHeartbeats 32000000 in
set_option maxRecDepth 100000 in
theorem sw_good (al : Option Addr) (cl : Nat) (l : List En) (M : Nat) (w : World) (hc : l.length ≤ cl) (hl : Lies enE w al l) (hn : al = none → cl = 0) (h0 : logE l = 0) (h1 : 1 ≤ M) (h2 : M ≤ 30) :
    Calls Tryz.prog 4 #[.slice al l.length cl, .int .i64 M] w fun e w' => e = .returned (.bool true) ∧ Below w.heap.size w w' := by
  have hB : Hid (∀ W : World, Calls Tryz.prog 5 #[] W fun e w' => e = .returned (.bool true) ∧ Below W.heap.size W w') := sbegun_ship
  have hG : Hid (∀ W : World, Calls Tryz.prog 6 #[] W fun e w' => e = .returned (.bool true) ∧ Below W.heap.size W w') := logbegun_any
  have hC : Hid (∀ W : World, Below w.heap.size w W → Calls Tryz.prog 11 #[.slice al l.length cl] W fun e w' => e = .returned (.int .i64 (logE l)) ∧ Below W.heap.size W w') := fun W hW => lcheck_any al cl l W hc (hl.below hW)
  rw [h0] at hC
  have h30 := logE_len h0
  have hN : Hid (∀ (h k : Nat) (a : Option Addr) (c : Nat) (W : World), h ≤ l.length → k = min M (l.length - h) → h ≤ c → Below w.heap.size w W → Lies enE W a (l.take h) → Calls Tryz.prog 7 #[.slice a h c, .slice al l.length cl, .int .i64 M] W fun e w' => ∃ a3 c3, e = .returned (.tuple #[.slice a3 k c3, .int .i64 0]) ∧ k ≤ c3 ∧ Lies enE w' a3 ((l.drop h).take k) ∧ (a3 = none → c3 = 0) ∧ Below W.heap.size W w') := fun h k a c W hh hk hcc hW hs => by
    have e1 : (l.take h).length = h := by rw [List.length_take]; omega
    have := shnext_any a al c cl (l.take h) l M W (by omega) hc hs (hl.below hW) hn
    have e2 : (l.drop h).take M = (l.drop h).take k := by
      rw [hk, List.take_eq_take_iff, List.length_drop]
      omega
    have e3 : ((l.drop h).take k).length = k := by rw [List.length_take, List.length_drop]; omega
    rw [(next_whole h0 hh h2).1, (next_whole h0 hh h2).2, e1, e2, e3] at this
    exact this
  have hT : Hid (∀ (h k : Nat) (a a3 : Option Addr) (c c3 : Nat) (W : World), h + k ≤ l.length → h ≤ c → k ≤ c3 → Lies enE W a (l.take h) → Lies enE W a3 ((l.drop h).take k) → (a = none → c = 0) → (a3 = none → c3 = 0) → Calls Tryz.prog 8 #[.slice a h c, .slice a3 k c3] W fun e w' => ∃ a5 c5, e = .returned (.tuple #[.slice a5 (h + k) c5, .int .i64 0]) ∧ h + k ≤ c5 ∧ Lies enE w' a5 (l.take (h + k)) ∧ (a5 = none → c5 = 0) ∧ Below W.heap.size W w') := fun h k a a3 c c3 W hh hcc hc3 hs hs3 hn1 hn3 => by
    have e1 : (l.take h).length = h := by rw [List.length_take]; omega
    have e3 : ((l.drop h).take k).length = k := by rw [List.length_take, List.length_drop]; omega
    have e4 : (l.take (h + k)).length = h + k := by rw [List.length_take]; omega
    have := take_any a a3 c c3 (l.take h) ((l.drop h).take k) W (by omega) (by omega) hs hs3 hn1 hn3
    rw [(take_whole h0).1, (take_whole h0).2, e1, e3, e4] at this
    exact this
  have hE : Hid (∀ (a : Option Addr) (c : Nat) (W : World), Below w.heap.size w W → l.length ≤ c → Lies enE W a (l.take l.length) → Calls Tryz.prog 10 #[.slice a l.length c, .slice al l.length cl] W fun e w' => e = .returned (.bool true) ∧ Below W.heap.size W w') := fun a c W hW hcc hs => by
    rw [List.take_length] at hs
    exact rsame_log a al c cl l W (by omega) hs (hl.below hW)
  have d1 : decide ((M : Int) < 1) = false := decide_eq_false (by omega)
  have d2 : decide ((30 : Int) < (M : Int)) = false := decide_eq_false (by omega)
  have d3 : ¬ (M : Int) < 1 := by omega
  have d4 : ¬ (30 : Int) < (M : Int) := by omega
  obtain ⟨L, hL⟩ : ∃ L, L = l.length := ⟨_, rfl⟩
  rw [← hL] at hN hT hE hC ⊢
  rw [← hL] at h30
  have h1' := Lib.hid h1
  clear hc hl hn h0 hL h2 h1
  go_enter Tryz.func4, Tryz.ntmps4
  go_wp2_with fail
  refine (hB.out _).mono ?_
  rintro e w1 ⟨rfl, hb1⟩
  go_wp2_with fail
  refine (hG.out _).mono ?_
  rintro e w2 ⟨rfl, hb2⟩
  have HB2 := Lib.hid (btr hb1 hb2)
  clear hb1 hb2
  go_wp2_with fail
  refine (hC.out _ HB2.out).mono ?_
  rintro e w3 ⟨rfl, hb3⟩
  have HB3 := Lib.hid (btr HB2.out hb3)
  clear hb3 HB2 hG hC hB
  go_wp2_with fail
  go_loopw [5, 6] (fun v5 v6 wr => ∃ (i h : Nat) (a : Option Addr) (c : Nat), v5 = .slice a h c ∧ v6 = .int .i64 i ∧ i ≤ 31 ∧ h ≤ L ∧ (i ≤ h ∨ h = L) ∧ Hid (h ≤ c ∧ (a = none → c = 0) ∧ Lies enE wr a (l.take h) ∧ Below w.heap.size w wr))
    (fun _ v6 _ => 31 - (intOf v6).toNat)
  case atStart => exact ⟨0, 0, none, 0, rfl, rfl, by omega, Nat.zero_le _, .inl (Nat.le_refl _), Nat.le_refl _, fun _ => rfl, by rw [List.take_zero]; exact Lies.nil _ _ _, HB3.out⟩
  case round =>
    obtain ⟨i, h, a, c, rfl, rfl, hi, hh, hor, hI⟩ := hrel
    clear HB3
    obtain ⟨wo, hwo⟩ : ∃ W, W = wr := ⟨_, rfl⟩
    subst hwo
    have HBo := Lib.hid hI.out.2.2.2
    have HL := Lib.hid hI.out.2.2.1
    have hcc := Lib.hid hI.out.1
    have hnn := Lib.hid hI.out.2.1
    clear hI
    by_cases hi31 : i ≤ 30
    · have d5 : (i : Int) ≤ 30 := by omega
      have d6 : IntKind.i64.wrap ((i : Int) + 1) = (i : Int) + 1 := by rw [IntKind.wrap_i64]; omega
      obtain ⟨k, hk⟩ : ∃ k, k = min M (L - h) := ⟨_, rfl⟩
      have HN' := Lib.hid (hN.out h k a c wo hh hk hcc.out HBo.out HL.out)
      by_cases hz : h = L
      · have hk0 : k = 0 := by omega
        subst hk0
        subst hz
        clear hk hor
        go_wp2_with fail
        refine HN'.out.mono ?_
        rintro e w5 ⟨a3, c3, rfl, hc3, hl3, hn3, hb5⟩
        have HB5 := Lib.hid (btr HBo.out hb5)
        have HL5 := Lib.hid (HL.out.below hb5)
        clear hb5 hl3 hn3 hc3 HBo HL HN' hN hT
        go_wp2_with fail
        refine (hE.out _ _ _ HB5.out hcc.out HL5.out).mono ?_
        rintro e w9 ⟨rfl, hb9⟩
        have HB9 := Lib.hid (btr HB5.out hb9)
        clear hb9
        go_wp2_with fail
        go_ret
        exact ⟨rfl, HB9.out⟩
      · have hk1 : 1 ≤ k := by have := h1'.out; omega
        have hk2 : h + k ≤ L := by omega
        have d7 : ((k : Int) == 0) = false := by rw [beq_eq_false_iff_ne]; omega
        have d8 : ¬ (k : Int) = 0 := by omega
        have d9 : ¬ k = 0 := by omega
        clear hk hz
        go_wp2_with fail
        refine HN'.out.mono ?_
        rintro e w5 ⟨a3, c3, rfl, hc3, hl3, hn3, hb5⟩
        have HB5 := Lib.hid (btr HBo.out hb5)
        have HT' := Lib.hid (hT.out h k a a3 c c3 w5 hk2 hcc.out hc3 (HL.out.below hb5) hl3 hnn.out hn3)
        clear hb5 hl3 hn3 hc3 HBo HL HN' hcc hnn
        go_wp2_with fail
        refine HT'.out.mono ?_
        rintro e w6 ⟨a5, c5, rfl, hc5, hl5, hn5, hb6⟩
        have HB6 := Lib.hid (btr HB5.out hb6)
        have HL6 := Lib.hid hl5
        have HC6 := Lib.hid hc5
        have HN6 := Lib.hid hn5
        clear hb6 hl5 hc5 hn5 HB5 HT'
        go_wp2_with fail
        go_roundw
        case rel => exact ⟨i + 1, h + k, a5, c5, rfl, by go_num, by omega, hk2, by omega, HC6.out, HN6.out, HL6.out, HB6.out⟩
        case measure => simp [intOf]; omega
    · have hz : h = L := by omega
      subst hz
      have d5 : ¬ (i : Int) ≤ 30 := by omega
      clear hor hN hT
      go_wp2_with fail
      refine (hE.out _ _ _ HBo.out hcc.out HL.out).mono ?_
      rintro e w9 ⟨rfl, hb9⟩
      have HB9 := Lib.hid (btr HBo.out hb9)
      clear hb9
      go_wp2_with fail
      go_ret
      exact ⟨rfl, HB9.out⟩
theorem swhole_any (al : Option Addr) (cl : Nat) (l : List En) (many : Int) (w : World) (hc : l.length ≤ cl) (hl : Lies enE w al l) (hn : al = none → cl = 0) :
    Calls Tryz.prog 4 #[.slice al l.length cl, .int .i64 many] w fun e w' => e = .returned (.bool true) ∧ Below w.heap.size w w' := by
  by_cases h0 : logE l = 0
  · by_cases h1 : many < 1
    · exact sw_low al cl l many w hc hl h0 h1
    · by_cases h2 : 30 < many
      · exact sw_high al cl l many w hc hl h0 h1 h2
      · obtain ⟨M, rfl⟩ : ∃ k : Nat, many = (k : Int) := ⟨many.toNat, by omega⟩
        exact sw_good al cl l M w hc hl hn h0 (by omega) (by omega)
  · exact sw_bad al cl l many w hc hl h0
end Go.Proofs.YtclnfkohlklbpaaGreat
