/- ShipNearer: its walk. -/
import Derived.Test.YtclnfkohlklbpaaGreatQ38
set_option linter.unusedVariables false
set_option linter.unusedSimpArgs false
namespace Go.Proofs.YtclnfkohlklbpaaGreat
open Go.RowKit

theorem follE_num {l : List En} {x : En} (h : follE l x = 0) : x.num = (l.length : Int) + 1 := by
  unfold follE at h
  by_cases h0 : x.num = (l.length : Int) + 1
  · exact h0
  · rw [if_neg h0] at h; exact absurd h (by decide)
theorem logFrom_num : ∀ (l done : List En), logFrom done l = 0 → ∀ i (hi : i < l.length), l[i].num = (done.length : Int) + (i : Int) + 1
  | [], _, _, i, hi => absurd hi (Nat.not_lt_zero _)
  | x :: r, done, h, i, hi => by
    unfold logFrom at h
    by_cases h0 : follE done x = 0
    · rw [if_pos h0] at h
      cases i with
      | zero => have := follE_num h0; show x.num = _; rw [this]; simp
      | succ j =>
        have := logFrom_num r _ h j (by simpa using hi)
        show (r[j]'(by simpa using hi)).num = _
        rw [this, List.length_append, List.length_singleton]
        omega
    · rw [if_neg h0] at h; exact absurd h h0
theorem logE_num {l : List En} (h : logE l = 0) (i : Nat) (hi : i < l.length) : l[i].num = (i : Int) + 1 := by
  have h30 := logE_len h
  unfold logE at h
  rw [if_neg (by omega)] at h
  have := logFrom_num l [] h i hi
  simpa using this
/-- Taken twice it is refused, if it was something. -/
theorem take_twice {l : List En} {k m : Nat} (h : logE l = 0) (hm : m ≤ l.length - k) : (takeE (l.take (k + m)) ((l.drop k).take m) == 0) = (m == 0) := by
  by_cases hz : m = 0
  · subst hz
    rw [List.take_zero]
    unfold takeE
    rw [if_pos (logE_take h _), List.append_nil, logE_take h]
    rfl
  · rw [show (m == 0) = false from by simpa using hz, beq_eq_false_iff_ne]
    intro he
    unfold takeE at he
    rw [if_pos (logE_take h _)] at he
    have hl1 : (l.take (k + m)).length = k + m := by rw [List.length_take]; omega
    have hl2 : ((l.drop k).take m).length = m := by rw [List.length_take, List.length_drop]; omega
    have hlen : (l.take (k + m) ++ (l.drop k).take m).length = k + m + m := by rw [List.length_append, hl1, hl2]
    have h1 := logE_num he (k + m) (by rw [hlen]; omega)
    rw [List.getElem_append_right (by rw [hl1]; exact Nat.le_refl _)] at h1
    simp only [hl1, Nat.sub_self, List.getElem_take, List.getElem_drop, Nat.add_zero] at h1
    have h2 := logE_num h k (by omega)
    rw [h2] at h1
    omega
theorem drop_two {l : List En} {k M K N : Nat} (hN : N = min M (l.length - k)) : (l.drop k).take (M + K) = (l.drop k).take N ++ (l.drop (k + N)).take K := by
  rw [List.take_add]
  by_cases h : M ≤ l.length - k
  · rw [show N = M by omega, List.drop_drop]
  · have e1 : (l.drop k).take M = l.drop k := List.take_of_length_le (by rw [List.length_drop]; omega)
    have e2 : (l.drop k).take N = l.drop k := List.take_of_length_le (by rw [List.length_drop]; omega)
    have e3 : (l.drop k).drop M = [] := List.drop_eq_nil_of_le (by rw [List.length_drop]; omega)
    have e4 : l.drop (k + N) = [] := List.drop_eq_nil_of_le (by omega)
    rw [e1, e2, e3, e4]
theorem next_rng {l : List En} {k : Nat} {more : Int} (h : logE l = 0) (hk : k ≤ l.length) : nextE (l.take k) l more = if more < 0 ∨ 30 < more then 3 else 0 := by
  unfold nextE
  rw [if_pos (beg_whole h hk).1, if_pos (beg_whole h hk).2]
theorem next_zero {h l : List En} {many : Int} (e : nextE h l many = 0) : logE l = 0 ∧ h = l.take h.length ∧ h.length ≤ l.length ∧ 0 ≤ many ∧ many ≤ 30 := by
  unfold nextE at e
  by_cases h1 : begE h l = 0
  · rw [if_pos h1] at e
    by_cases h2 : begB h l = true
    · rw [if_pos h2] at e
      by_cases h3 : many < 0 ∨ 30 < many
      · rw [if_pos h3] at e; exact absurd e (by decide)
      · have h4 : logE l = 0 := by
          unfold begE at h1
          by_cases h5 : logE h = 0
          · rw [if_pos h5] at h1; exact h1
          · rw [if_neg h5] at h1; exact absurd h1 h5
        unfold begB at h2
        rw [Bool.and_eq_true] at h2
        exact ⟨h4, (sameEn_iff _ _).1 h2.2, by simpa using h2.1, by omega, by omega⟩
    · rw [if_neg h2] at e; exact absurd e (by decide)
  · rw [if_neg h1] at e; exact absurd e h1
set_option maxHeartbeats 16000000 in
set_option maxRecDepth 100000 in
theorem sn_bad (a al : Option Addr) (c cl : Nat) (h l : List En) (many more : Int) (w : World) (hc : h.length ≤ c) (hcl : l.length ≤ cl) (hs : Lies enE w a h) (hl : Lies enE w al l) (hn : al = none → cl = 0) (h0 : ¬ nextE h l many = 0) :
    Calls Tryz.prog 3 #[.slice a h.length c, .slice al l.length cl, .int .i64 many, .int .i64 more] w fun e w' => e = .returned (.bool true) ∧ Below w.heap.size w w' := by
  have hB : Hid (∀ W : World, Calls Tryz.prog 5 #[] W fun e w' => e = .returned (.bool true) ∧ Below W.heap.size W w') := sbegun_ship
  have hG : Hid (∀ W : World, Calls Tryz.prog 6 #[] W fun e w' => e = .returned (.bool true) ∧ Below W.heap.size W w') := logbegun_any
  have hN : Hid (∀ W : World, Below w.heap.size w W → Calls Tryz.prog 7 #[.slice a h.length c, .slice al l.length cl, .int .i64 many] W fun e w' => ∃ a3 c3, e = .returned (.tuple #[.slice a3 0 c3, .int .i64 (nextE h l many)]) ∧ Below W.heap.size W w') := fun W hW => by
    have := shnext_any a al c cl h l many W hc hcl (hs.below hW) (hl.below hW) hn
    rw [show nextL h l many = [] by unfold nextL; rw [if_neg h0]] at this
    exact this.mono fun e w' ⟨a3, c3, q1, q2, q3, q4, q5⟩ => ⟨a3, c3, q1, q5⟩
  have hI : (nextE h l many != 0) = true := by rw [bne_iff_ne]; exact h0
  generalize nextE h l many = r at *
  generalize h.length = HN at *
  generalize l.length = LN at *
  clear hc hcl hs hl hn h0
  go_enter Tryz.func3, Tryz.ntmps3
  go_wp2_with fail
  refine (hB.out _).mono ?_
  rintro e w1 ⟨rfl, hb1⟩
  go_wp2_with fail
  refine (hG.out _).mono ?_
  rintro e w2 ⟨rfl, hb2⟩
  have HB2 := Lib.hid (btr hb1 hb2)
  clear hb1 hb2 hG hB
  go_wp2_with fail
  refine (hN.out _ HB2.out).mono ?_
  rintro e w3 ⟨a3, c3, rfl, hb3⟩
  have HB3 := Lib.hid (btr HB2.out hb3)
  clear hb3 HB2 hN
  go_wp2_with fail
  go_ret
  exact ⟨rfl, HB3.out⟩
set_option maxHeartbeats 32000000 in
set_option maxRecDepth 100000 in
theorem sn_low (a al : Option Addr) (c cl : Nat) (l : List En) (k M N L : Nat) (more : Int) (w : World) (hc : k ≤ c) (hcl : L ≤ cl) (hs : Lies enE w a (l.take k)) (hl : Lies enE w al l) (hna : a = none → c = 0) (hn : al = none → cl = 0) (h0 : logE l = 0) (hL : L = l.length) (hk : k ≤ L) (hM : M ≤ 30) (hN : N = min M (L - k)) (hlo : more < 0) :
    Calls Tryz.prog 3 #[.slice a k c, .slice al L cl, .int .i64 M, .int .i64 more] w fun e w' => e = .returned (.bool true) ∧ Below w.heap.size w w' := by
  have hB : Hid (∀ W : World, Calls Tryz.prog 5 #[] W fun e w' => e = .returned (.bool true) ∧ Below W.heap.size W w') := sbegun_ship
  have hG : Hid (∀ W : World, Calls Tryz.prog 6 #[] W fun e w' => e = .returned (.bool true) ∧ Below W.heap.size W w') := logbegun_any
  have hkN : k + N ≤ L := by omega
  have h30 := logE_len h0
  have e1 : (l.take k).length = k := by rw [List.length_take]; omega
  have e2 : ((l.drop k).take N).length = N := by rw [List.length_take, List.length_drop]; omega
  have e3 : (l.take (k + N)).length = k + N := by rw [List.length_take]; omega
  have e4 : (l.drop k).take M = (l.drop k).take N := by rw [List.take_eq_take_iff, List.length_drop]; omega
  have hX : Hid (∀ W : World, Below w.heap.size w W → Calls Tryz.prog 7 #[.slice a k c, .slice al L cl, .int .i64 M] W fun e w' => ∃ a3 c3, e = .returned (.tuple #[.slice a3 N c3, .int .i64 0]) ∧ N ≤ c3 ∧ Lies enE w' a3 ((l.drop k).take N) ∧ (a3 = none → c3 = 0) ∧ Below W.heap.size W w') := fun W hW => by
    have := shnext_any a al c cl (l.take k) l M W (by omega) (by omega) (hs.below hW) (hl.below hW) hn
    rw [(next_whole h0 (by omega) hM).1, (next_whole h0 (by omega) hM).2, e4, e1, e2, ← hL] at this
    exact this
  have hT : Hid (∀ (a3 : Option Addr) (c3 : Nat) (W : World), Below w.heap.size w W → N ≤ c3 → Lies enE W a3 ((l.drop k).take N) → (a3 = none → c3 = 0) → Calls Tryz.prog 8 #[.slice a k c, .slice a3 N c3] W fun e w' => ∃ a5 c5, e = .returned (.tuple #[.slice a5 (k + N) c5, .int .i64 0]) ∧ k + N ≤ c5 ∧ Lies enE w' a5 (l.take (k + N)) ∧ (a5 = none → c5 = 0) ∧ Below W.heap.size W w') := fun a3 c3 W hW hc3 hs3 hn3 => by
    have := take_any a a3 c c3 (l.take k) ((l.drop k).take N) W (by omega) (by omega) (hs.below hW) hs3 hna hn3
    rw [(take_whole h0).1, (take_whole h0).2, e1, e2, e3] at this
    exact this
  have hBe : Hid (∀ (a5 : Option Addr) (c5 : Nat) (W : World), Below w.heap.size w W → k + N ≤ c5 → Lies enE W a5 (l.take (k + N)) → Calls Tryz.prog 9 #[.slice a5 (k + N) c5, .slice al L cl] W fun e w' => e = .returned (.tuple #[.bool true, .int .i64 0]) ∧ Below W.heap.size W w') := fun a5 c5 W hW hc5 hs5 => by
    have := begins_any a5 al c5 cl (l.take (k + N)) l W (by omega) (by omega) hs5 (hl.below hW)
    rw [(beg_whole h0 (by omega)).1, (beg_whole h0 (by omega)).2, e3, ← hL] at this
    exact this
  obtain ⟨bz, hbz⟩ : ∃ b : Bool, b = (N == 0) := ⟨_, rfl⟩
  obtain ⟨q, hq⟩ : ∃ q, q = takeE (l.take (k + N)) ((l.drop k).take N) := ⟨_, rfl⟩
  have hq0 : (q == 0) = bz := by rw [hq, hbz]; exact take_twice h0 (by omega)
  have hn0 : ((N : Int) == 0) = bz := by
    rw [hbz]
    by_cases h : N = 0
    · subst h; rfl
    · rw [show (N == 0) = false from by simpa using h, beq_eq_false_iff_ne]; omega
  have hU : Hid (∀ (a5 a3 : Option Addr) (c5 c3 : Nat) (W : World), k + N ≤ c5 → Lies enE W a5 (l.take (k + N)) → (a5 = none → c5 = 0) → N ≤ c3 → Lies enE W a3 ((l.drop k).take N) → (a3 = none → c3 = 0) → Calls Tryz.prog 8 #[.slice a5 (k + N) c5, .slice a3 N c3] W fun e w' => ∃ a6 n6 c6, e = .returned (.tuple #[.slice a6 n6 c6, .int .i64 q]) ∧ Below W.heap.size W w') := fun a5 a3 c5 c3 W hc5 hs5 hn5 hc3 hs3 hn3 => by
    have := take_any a5 a3 c5 c3 (l.take (k + N)) ((l.drop k).take N) W (by omega) (by omega) hs5 hs3 hn5 hn3
    rw [← hq, e3, e2] at this
    exact this.mono fun e w' ⟨a6, c6, q1, q2, q3, q4, q5⟩ => ⟨a6, _, c6, q1, q5⟩
  have g1 : IntKind.i64.wrap ((k : Int) + (N : Int)) = (k : Int) + (N : Int) := by rw [IntKind.wrap_i64]; omega
  have g2 : (((k + N : Nat) : Int) != (k : Int) + (N : Int)) = false := by rw [bne_eq_false_iff_eq]; omega
  have g3 : decide ((M : Int) < (N : Int)) = false := decide_eq_false (by omega)
  have g3' : ¬ (M : Int) < (N : Int) := by omega
  have hr : more < 0 ∨ 30 < more := .inl hlo
  have hY : Hid (∀ (a5 : Option Addr) (c5 : Nat) (W : World), Below w.heap.size w W → k + N ≤ c5 → Lies enE W a5 (l.take (k + N)) → Calls Tryz.prog 7 #[.slice a5 (k + N) c5, .slice al L cl, .int .i64 more] W fun e w' => ∃ a7 n7 c7, e = .returned (.tuple #[.slice a7 n7 c7, .int .i64 3]) ∧ Below W.heap.size W w') := fun a5 c5 W hW hc5 hs5 => by
    have := shnext_any a5 al c5 cl (l.take (k + N)) l more W (by omega) (by omega) hs5 (hl.below hW) hn
    rw [next_rng h0 (by omega), if_pos hr, e3, ← hL] at this
    exact this.mono fun e w' ⟨a3, c3, q1, q2, q3, q4, q5⟩ => ⟨a3, _, c3, q1, q5⟩
  have f1 : decide (more < 0) = true := decide_eq_true hlo
  by_cases hNM : N < M
  · have g4 : decide ((N : Int) < (M : Int)) = true := decide_eq_true (by omega)
    have g5 : (((k + N : Nat) : Int) != (L : Int)) = false := by rw [bne_eq_false_iff_eq]; omega
    have g6 : (N : Int) < (M : Int) := by omega
    have g7 : (k : Int) + (N : Int) = (L : Int) := by omega
    have g5' : ((k : Int) + (N : Int) != (L : Int)) = false := by rw [bne_eq_false_iff_eq]; omega
    clear g7 hc hcl hs hl hna hn h0 hL hk hM hN hkN h30 e1 e2 e3 e4 hbz hq hNM hr
    go_enter Tryz.func3, Tryz.ntmps3
    go_wp2_with fail
    refine (hB.out _).mono ?_
    rintro e w1 ⟨rfl, hb1⟩
    go_wp2_with fail
    refine (hG.out _).mono ?_
    rintro e w2 ⟨rfl, hb2⟩
    have HB2 := Lib.hid (btr hb1 hb2)
    clear hb1 hb2 hG hB
    go_wp2_with fail
    refine (hX.out _ HB2.out).mono ?_
    rintro e w3 ⟨a3, c3, rfl, hc3, hl3, hn3, hb3⟩
    have HB3 := Lib.hid (btr HB2.out hb3)
    have HC3 := Lib.hid hc3
    have HL3 := Lib.hid hl3
    have HN3 := Lib.hid hn3
    clear hb3 HB2 hX hc3 hl3 hn3
    go_wp2_with fail
    refine (hT.out _ _ _ HB3.out HC3.out HL3.out HN3.out).mono ?_
    rintro e w4 ⟨a5, c5, rfl, hc5, hl5, hn5, hb4⟩
    have HB4 := Lib.hid (btr HB3.out hb4)
    have HL4 := Lib.hid (HL3.out.below hb4)
    have HC5 := Lib.hid hc5
    have HL5 := Lib.hid hl5
    have HN5 := Lib.hid hn5
    clear hb4 HB3 HL3 hT hc5 hl5 hn5
    go_wp2_with fail
    refine (hBe.out _ _ _ HB4.out HC5.out HL5.out).mono ?_
    rintro e w5 ⟨rfl, hb5⟩
    have HB5 := Lib.hid (btr HB4.out hb5)
    have HL5' := Lib.hid (HL5.out.below hb5)
    have HL4' := Lib.hid (HL4.out.below hb5)
    clear hb5 HB4 HL4 HL5 hBe
    go_wp2_with fail
    refine (hU.out _ _ _ _ _ HC5.out HL5'.out HN5.out HC3.out HL4'.out HN3.out).mono ?_
    rintro e w6 ⟨a6, n6, c6, rfl, hb6⟩
    have HB6 := Lib.hid (btr HB5.out hb6)
    have HL6 := Lib.hid (HL5'.out.below hb6)
    have HM6 := Lib.hid (HL4'.out.below hb6)
    clear hb6 HB5 HL4' HL5' hU
    have hbb : (bz != bz) = false := by simp
    go_wp2_with fail
    refine (hY.out _ _ _ HB6.out HC5.out HL6.out).mono ?_
    rintro e w7 ⟨a7, n7, c7, rfl, hb7⟩
    have HB7 := Lib.hid (btr HB6.out hb7)
    clear hb7 HB6 hY
    go_wp2_with fail
    go_ret
    exact ⟨rfl, HB7.out⟩
  · have g4 : decide ((N : Int) < (M : Int)) = false := decide_eq_false (by omega)
    have g6 : ¬ (N : Int) < (M : Int) := by omega
    clear hc hcl hs hl hna hn h0 hL hk hM hN hkN h30 e1 e2 e3 e4 hbz hq hNM hr
    go_enter Tryz.func3, Tryz.ntmps3
    go_wp2_with fail
    refine (hB.out _).mono ?_
    rintro e w1 ⟨rfl, hb1⟩
    go_wp2_with fail
    refine (hG.out _).mono ?_
    rintro e w2 ⟨rfl, hb2⟩
    have HB2 := Lib.hid (btr hb1 hb2)
    clear hb1 hb2 hG hB
    go_wp2_with fail
    refine (hX.out _ HB2.out).mono ?_
    rintro e w3 ⟨a3, c3, rfl, hc3, hl3, hn3, hb3⟩
    have HB3 := Lib.hid (btr HB2.out hb3)
    have HC3 := Lib.hid hc3
    have HL3 := Lib.hid hl3
    have HN3 := Lib.hid hn3
    clear hb3 HB2 hX hc3 hl3 hn3
    go_wp2_with fail
    refine (hT.out _ _ _ HB3.out HC3.out HL3.out HN3.out).mono ?_
    rintro e w4 ⟨a5, c5, rfl, hc5, hl5, hn5, hb4⟩
    have HB4 := Lib.hid (btr HB3.out hb4)
    have HL4 := Lib.hid (HL3.out.below hb4)
    have HC5 := Lib.hid hc5
    have HL5 := Lib.hid hl5
    have HN5 := Lib.hid hn5
    clear hb4 HB3 HL3 hT hc5 hl5 hn5
    go_wp2_with fail
    refine (hBe.out _ _ _ HB4.out HC5.out HL5.out).mono ?_
    rintro e w5 ⟨rfl, hb5⟩
    have HB5 := Lib.hid (btr HB4.out hb5)
    have HL5' := Lib.hid (HL5.out.below hb5)
    have HL4' := Lib.hid (HL4.out.below hb5)
    clear hb5 HB4 HL4 HL5 hBe
    go_wp2_with fail
    refine (hU.out _ _ _ _ _ HC5.out HL5'.out HN5.out HC3.out HL4'.out HN3.out).mono ?_
    rintro e w6 ⟨a6, n6, c6, rfl, hb6⟩
    have HB6 := Lib.hid (btr HB5.out hb6)
    have HL6 := Lib.hid (HL5'.out.below hb6)
    have HM6 := Lib.hid (HL4'.out.below hb6)
    clear hb6 HB5 HL4' HL5' hU
    have hbb : (bz != bz) = false := by simp
    go_wp2_with fail
    refine (hY.out _ _ _ HB6.out HC5.out HL6.out).mono ?_
    rintro e w7 ⟨a7, n7, c7, rfl, hb7⟩
    have HB7 := Lib.hid (btr HB6.out hb7)
    clear hb7 HB6 hY
    go_wp2_with fail
    go_ret
    exact ⟨rfl, HB7.out⟩
set_option maxHeartbeats 32000000 in
set_option maxRecDepth 100000 in
theorem sn_high (a al : Option Addr) (c cl : Nat) (l : List En) (k M N L : Nat) (more : Int) (w : World) (hc : k ≤ c) (hcl : L ≤ cl) (hs : Lies enE w a (l.take k)) (hl : Lies enE w al l) (hna : a = none → c = 0) (hn : al = none → cl = 0) (h0 : logE l = 0) (hL : L = l.length) (hk : k ≤ L) (hM : M ≤ 30) (hN : N = min M (L - k)) (hlo : ¬ more < 0) (hhi : 30 < more) :
    Calls Tryz.prog 3 #[.slice a k c, .slice al L cl, .int .i64 M, .int .i64 more] w fun e w' => e = .returned (.bool true) ∧ Below w.heap.size w w' := by
  have hB : Hid (∀ W : World, Calls Tryz.prog 5 #[] W fun e w' => e = .returned (.bool true) ∧ Below W.heap.size W w') := sbegun_ship
  have hG : Hid (∀ W : World, Calls Tryz.prog 6 #[] W fun e w' => e = .returned (.bool true) ∧ Below W.heap.size W w') := logbegun_any
  have hkN : k + N ≤ L := by omega
  have h30 := logE_len h0
  have e1 : (l.take k).length = k := by rw [List.length_take]; omega
  have e2 : ((l.drop k).take N).length = N := by rw [List.length_take, List.length_drop]; omega
  have e3 : (l.take (k + N)).length = k + N := by rw [List.length_take]; omega
  have e4 : (l.drop k).take M = (l.drop k).take N := by rw [List.take_eq_take_iff, List.length_drop]; omega
  have hX : Hid (∀ W : World, Below w.heap.size w W → Calls Tryz.prog 7 #[.slice a k c, .slice al L cl, .int .i64 M] W fun e w' => ∃ a3 c3, e = .returned (.tuple #[.slice a3 N c3, .int .i64 0]) ∧ N ≤ c3 ∧ Lies enE w' a3 ((l.drop k).take N) ∧ (a3 = none → c3 = 0) ∧ Below W.heap.size W w') := fun W hW => by
    have := shnext_any a al c cl (l.take k) l M W (by omega) (by omega) (hs.below hW) (hl.below hW) hn
    rw [(next_whole h0 (by omega) hM).1, (next_whole h0 (by omega) hM).2, e4, e1, e2, ← hL] at this
    exact this
  have hT : Hid (∀ (a3 : Option Addr) (c3 : Nat) (W : World), Below w.heap.size w W → N ≤ c3 → Lies enE W a3 ((l.drop k).take N) → (a3 = none → c3 = 0) → Calls Tryz.prog 8 #[.slice a k c, .slice a3 N c3] W fun e w' => ∃ a5 c5, e = .returned (.tuple #[.slice a5 (k + N) c5, .int .i64 0]) ∧ k + N ≤ c5 ∧ Lies enE w' a5 (l.take (k + N)) ∧ (a5 = none → c5 = 0) ∧ Below W.heap.size W w') := fun a3 c3 W hW hc3 hs3 hn3 => by
    have := take_any a a3 c c3 (l.take k) ((l.drop k).take N) W (by omega) (by omega) (hs.below hW) hs3 hna hn3
    rw [(take_whole h0).1, (take_whole h0).2, e1, e2, e3] at this
    exact this
  have hBe : Hid (∀ (a5 : Option Addr) (c5 : Nat) (W : World), Below w.heap.size w W → k + N ≤ c5 → Lies enE W a5 (l.take (k + N)) → Calls Tryz.prog 9 #[.slice a5 (k + N) c5, .slice al L cl] W fun e w' => e = .returned (.tuple #[.bool true, .int .i64 0]) ∧ Below W.heap.size W w') := fun a5 c5 W hW hc5 hs5 => by
    have := begins_any a5 al c5 cl (l.take (k + N)) l W (by omega) (by omega) hs5 (hl.below hW)
    rw [(beg_whole h0 (by omega)).1, (beg_whole h0 (by omega)).2, e3, ← hL] at this
    exact this
  obtain ⟨bz, hbz⟩ : ∃ b : Bool, b = (N == 0) := ⟨_, rfl⟩
  obtain ⟨q, hq⟩ : ∃ q, q = takeE (l.take (k + N)) ((l.drop k).take N) := ⟨_, rfl⟩
  have hq0 : (q == 0) = bz := by rw [hq, hbz]; exact take_twice h0 (by omega)
  have hn0 : ((N : Int) == 0) = bz := by
    rw [hbz]
    by_cases h : N = 0
    · subst h; rfl
    · rw [show (N == 0) = false from by simpa using h, beq_eq_false_iff_ne]; omega
  have hU : Hid (∀ (a5 a3 : Option Addr) (c5 c3 : Nat) (W : World), k + N ≤ c5 → Lies enE W a5 (l.take (k + N)) → (a5 = none → c5 = 0) → N ≤ c3 → Lies enE W a3 ((l.drop k).take N) → (a3 = none → c3 = 0) → Calls Tryz.prog 8 #[.slice a5 (k + N) c5, .slice a3 N c3] W fun e w' => ∃ a6 n6 c6, e = .returned (.tuple #[.slice a6 n6 c6, .int .i64 q]) ∧ Below W.heap.size W w') := fun a5 a3 c5 c3 W hc5 hs5 hn5 hc3 hs3 hn3 => by
    have := take_any a5 a3 c5 c3 (l.take (k + N)) ((l.drop k).take N) W (by omega) (by omega) hs5 hs3 hn5 hn3
    rw [← hq, e3, e2] at this
    exact this.mono fun e w' ⟨a6, c6, q1, q2, q3, q4, q5⟩ => ⟨a6, _, c6, q1, q5⟩
  have g1 : IntKind.i64.wrap ((k : Int) + (N : Int)) = (k : Int) + (N : Int) := by rw [IntKind.wrap_i64]; omega
  have g2 : (((k + N : Nat) : Int) != (k : Int) + (N : Int)) = false := by rw [bne_eq_false_iff_eq]; omega
  have g3 : decide ((M : Int) < (N : Int)) = false := decide_eq_false (by omega)
  have g3' : ¬ (M : Int) < (N : Int) := by omega
  have hr : more < 0 ∨ 30 < more := .inr hhi
  have hY : Hid (∀ (a5 : Option Addr) (c5 : Nat) (W : World), Below w.heap.size w W → k + N ≤ c5 → Lies enE W a5 (l.take (k + N)) → Calls Tryz.prog 7 #[.slice a5 (k + N) c5, .slice al L cl, .int .i64 more] W fun e w' => ∃ a7 n7 c7, e = .returned (.tuple #[.slice a7 n7 c7, .int .i64 3]) ∧ Below W.heap.size W w') := fun a5 c5 W hW hc5 hs5 => by
    have := shnext_any a5 al c5 cl (l.take (k + N)) l more W (by omega) (by omega) hs5 (hl.below hW) hn
    rw [next_rng h0 (by omega), if_pos hr, e3, ← hL] at this
    exact this.mono fun e w' ⟨a3, c3, q1, q2, q3, q4, q5⟩ => ⟨a3, _, c3, q1, q5⟩
  have f1 : decide (more < 0) = false := decide_eq_false hlo
  have f2 : decide (30 < more) = true := decide_eq_true hhi
  by_cases hNM : N < M
  · have g4 : decide ((N : Int) < (M : Int)) = true := decide_eq_true (by omega)
    have g5 : (((k + N : Nat) : Int) != (L : Int)) = false := by rw [bne_eq_false_iff_eq]; omega
    have g6 : (N : Int) < (M : Int) := by omega
    have g7 : (k : Int) + (N : Int) = (L : Int) := by omega
    have g5' : ((k : Int) + (N : Int) != (L : Int)) = false := by rw [bne_eq_false_iff_eq]; omega
    clear g7 hc hcl hs hl hna hn h0 hL hk hM hN hkN h30 e1 e2 e3 e4 hbz hq hNM hr
    go_enter Tryz.func3, Tryz.ntmps3
    go_wp2_with fail
    refine (hB.out _).mono ?_
    rintro e w1 ⟨rfl, hb1⟩
    go_wp2_with fail
    refine (hG.out _).mono ?_
    rintro e w2 ⟨rfl, hb2⟩
    have HB2 := Lib.hid (btr hb1 hb2)
    clear hb1 hb2 hG hB
    go_wp2_with fail
    refine (hX.out _ HB2.out).mono ?_
    rintro e w3 ⟨a3, c3, rfl, hc3, hl3, hn3, hb3⟩
    have HB3 := Lib.hid (btr HB2.out hb3)
    have HC3 := Lib.hid hc3
    have HL3 := Lib.hid hl3
    have HN3 := Lib.hid hn3
    clear hb3 HB2 hX hc3 hl3 hn3
    go_wp2_with fail
    refine (hT.out _ _ _ HB3.out HC3.out HL3.out HN3.out).mono ?_
    rintro e w4 ⟨a5, c5, rfl, hc5, hl5, hn5, hb4⟩
    have HB4 := Lib.hid (btr HB3.out hb4)
    have HL4 := Lib.hid (HL3.out.below hb4)
    have HC5 := Lib.hid hc5
    have HL5 := Lib.hid hl5
    have HN5 := Lib.hid hn5
    clear hb4 HB3 HL3 hT hc5 hl5 hn5
    go_wp2_with fail
    refine (hBe.out _ _ _ HB4.out HC5.out HL5.out).mono ?_
    rintro e w5 ⟨rfl, hb5⟩
    have HB5 := Lib.hid (btr HB4.out hb5)
    have HL5' := Lib.hid (HL5.out.below hb5)
    have HL4' := Lib.hid (HL4.out.below hb5)
    clear hb5 HB4 HL4 HL5 hBe
    go_wp2_with fail
    refine (hU.out _ _ _ _ _ HC5.out HL5'.out HN5.out HC3.out HL4'.out HN3.out).mono ?_
    rintro e w6 ⟨a6, n6, c6, rfl, hb6⟩
    have HB6 := Lib.hid (btr HB5.out hb6)
    have HL6 := Lib.hid (HL5'.out.below hb6)
    have HM6 := Lib.hid (HL4'.out.below hb6)
    clear hb6 HB5 HL4' HL5' hU
    have hbb : (bz != bz) = false := by simp
    go_wp2_with fail
    refine (hY.out _ _ _ HB6.out HC5.out HL6.out).mono ?_
    rintro e w7 ⟨a7, n7, c7, rfl, hb7⟩
    have HB7 := Lib.hid (btr HB6.out hb7)
    clear hb7 HB6 hY
    go_wp2_with fail
    go_ret
    exact ⟨rfl, HB7.out⟩
  · have g4 : decide ((N : Int) < (M : Int)) = false := decide_eq_false (by omega)
    have g6 : ¬ (N : Int) < (M : Int) := by omega
    clear hc hcl hs hl hna hn h0 hL hk hM hN hkN h30 e1 e2 e3 e4 hbz hq hNM hr
    go_enter Tryz.func3, Tryz.ntmps3
    go_wp2_with fail
    refine (hB.out _).mono ?_
    rintro e w1 ⟨rfl, hb1⟩
    go_wp2_with fail
    refine (hG.out _).mono ?_
    rintro e w2 ⟨rfl, hb2⟩
    have HB2 := Lib.hid (btr hb1 hb2)
    clear hb1 hb2 hG hB
    go_wp2_with fail
    refine (hX.out _ HB2.out).mono ?_
    rintro e w3 ⟨a3, c3, rfl, hc3, hl3, hn3, hb3⟩
    have HB3 := Lib.hid (btr HB2.out hb3)
    have HC3 := Lib.hid hc3
    have HL3 := Lib.hid hl3
    have HN3 := Lib.hid hn3
    clear hb3 HB2 hX hc3 hl3 hn3
    go_wp2_with fail
    refine (hT.out _ _ _ HB3.out HC3.out HL3.out HN3.out).mono ?_
    rintro e w4 ⟨a5, c5, rfl, hc5, hl5, hn5, hb4⟩
    have HB4 := Lib.hid (btr HB3.out hb4)
    have HL4 := Lib.hid (HL3.out.below hb4)
    have HC5 := Lib.hid hc5
    have HL5 := Lib.hid hl5
    have HN5 := Lib.hid hn5
    clear hb4 HB3 HL3 hT hc5 hl5 hn5
    go_wp2_with fail
    refine (hBe.out _ _ _ HB4.out HC5.out HL5.out).mono ?_
    rintro e w5 ⟨rfl, hb5⟩
    have HB5 := Lib.hid (btr HB4.out hb5)
    have HL5' := Lib.hid (HL5.out.below hb5)
    have HL4' := Lib.hid (HL4.out.below hb5)
    clear hb5 HB4 HL4 HL5 hBe
    go_wp2_with fail
    refine (hU.out _ _ _ _ _ HC5.out HL5'.out HN5.out HC3.out HL4'.out HN3.out).mono ?_
    rintro e w6 ⟨a6, n6, c6, rfl, hb6⟩
    have HB6 := Lib.hid (btr HB5.out hb6)
    have HL6 := Lib.hid (HL5'.out.below hb6)
    have HM6 := Lib.hid (HL4'.out.below hb6)
    clear hb6 HB5 HL4' HL5' hU
    have hbb : (bz != bz) = false := by simp
    go_wp2_with fail
    refine (hY.out _ _ _ HB6.out HC5.out HL6.out).mono ?_
    rintro e w7 ⟨a7, n7, c7, rfl, hb7⟩
    have HB7 := Lib.hid (btr HB6.out hb7)
    clear hb7 HB6 hY
    go_wp2_with fail
    go_ret
    exact ⟨rfl, HB7.out⟩
end Go.Proofs.YtclnfkohlklbpaaGreat
