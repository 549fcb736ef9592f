/- ShipNearer: its walk, where more is in range. -/
import Derived.Test.YtclnfkohlklbpaaGreatQ39
set_option linter.unusedVariables false
set_option linter.unusedSimpArgs false
namespace Go.Proofs.YtclnfkohlklbpaaGreat
open Go.RowKit

theorem wpList_unguard {P : Program} {ops : Array Oper} {Q : Exit → Act → World → Prop} {a : Act} {w : World} {rest : List Oper} {dst : Option Tmp} {op : Op} {ty : TypeId} {pos : String} {after : Array Edge} {g : Option (Nat × Bool)}
    (hw : Region.wanted ⟨dst, op, ty, pos, after, g⟩ (yielded ops a.tmps) = true) (h : wpList P ops Q (⟨dst, op, ty, pos, after, none⟩ :: rest) a w) : wpList P ops Q (⟨dst, op, ty, pos, after, g⟩ :: rest) a w := by
  unfold wpList at h ⊢
  rw [if_pos hw]
  rw [if_pos (by simp [Region.wanted])] at h
  exact h
set_option maxHeartbeats 32000000 in
set_option maxRecDepth 100000 in
theorem sn_over (a al : Option Addr) (c cl : Nat) (l : List En) (k M N L : Nat) (K P : Nat) (w : World) (hc : k ≤ c) (hcl : L ≤ cl) (hs : Lies enE w a (l.take k)) (hl : Lies enE w al l) (hna : a = none → c = 0) (hn : al = none → cl = 0) (h0 : logE l = 0) (hL : L = l.length) (hk : k ≤ L) (hM : M ≤ 30) (hN : N = min M (L - k)) (hK : K ≤ 30) (hP : P = min K (L - (k + N))) (hov : 30 < M + K) :
    Calls Tryz.prog 3 #[.slice a k c, .slice al L cl, .int .i64 M, .int .i64 K] w fun e w' => e = .returned (.bool true) ∧ Below w.heap.size w w' := by
  have hB : Hid (∀ W : World, Calls Tryz.prog 5 #[] W fun e w' => e = .returned (.bool true) ∧ Below W.heap.size W w') := sbegun_ship
  have hG : Hid (∀ W : World, Calls Tryz.prog 6 #[] W fun e w' => e = .returned (.bool true) ∧ Below W.heap.size W w') := logbegun_any
  have hkN : k + N ≤ L := by omega
  have h30 := logE_len h0
  have e1 : (l.take k).length = k := by rw [List.length_take]; omega
  have e2 : ((l.drop k).take N).length = N := by rw [List.length_take, List.length_drop]; omega
  have e3 : (l.take (k + N)).length = k + N := by rw [List.length_take]; omega
  have e4 : (l.drop k).take M = (l.drop k).take N := by rw [List.take_eq_take_iff, List.length_drop]; omega
  have hX : Hid (∀ W : World, Below w.heap.size w W → Calls Tryz.prog 7 #[.slice a k c, .slice al L cl, .int .i64 M] W fun e w' => ∃ a3 c3, e = .returned (.tuple #[.slice a3 N c3, .int .i64 0]) ∧ N ≤ c3 ∧ Lies enE w' a3 ((l.drop k).take N) ∧ (a3 = none → c3 = 0) ∧ Below W.heap.size W w') := fun W hW => by
    have := shnext_any a al c cl (l.take k) l M W (by omega) (by omega) (hs.below hW) (hl.below hW) hn
    rw [(next_whole h0 (by omega) hM).1, (next_whole h0 (by omega) hM).2, e4, e1, e2, ← hL] at this
    exact this
  have hT : Hid (∀ (a3 : Option Addr) (c3 : Nat) (W : World), Below w.heap.size w W → N ≤ c3 → Lies enE W a3 ((l.drop k).take N) → (a3 = none → c3 = 0) → Calls Tryz.prog 8 #[.slice a k c, .slice a3 N c3] W fun e w' => ∃ a5 c5, e = .returned (.tuple #[.slice a5 (k + N) c5, .int .i64 0]) ∧ k + N ≤ c5 ∧ Lies enE w' a5 (l.take (k + N)) ∧ (a5 = none → c5 = 0) ∧ Below W.heap.size W w') := fun a3 c3 W hW hc3 hs3 hn3 => by
    have := take_any a a3 c c3 (l.take k) ((l.drop k).take N) W (by omega) (by omega) (hs.below hW) hs3 hna hn3
    rw [(take_whole h0).1, (take_whole h0).2, e1, e2, e3] at this
    exact this
  have hBe : Hid (∀ (a5 : Option Addr) (c5 : Nat) (W : World), Below w.heap.size w W → k + N ≤ c5 → Lies enE W a5 (l.take (k + N)) → Calls Tryz.prog 9 #[.slice a5 (k + N) c5, .slice al L cl] W fun e w' => e = .returned (.tuple #[.bool true, .int .i64 0]) ∧ Below W.heap.size W w') := fun a5 c5 W hW hc5 hs5 => by
    have := begins_any a5 al c5 cl (l.take (k + N)) l W (by omega) (by omega) hs5 (hl.below hW)
    rw [(beg_whole h0 (by omega)).1, (beg_whole h0 (by omega)).2, e3, ← hL] at this
    exact this
  obtain ⟨bz, hbz⟩ : ∃ b : Bool, b = (N == 0) := ⟨_, rfl⟩
  obtain ⟨q, hq⟩ : ∃ q, q = takeE (l.take (k + N)) ((l.drop k).take N) := ⟨_, rfl⟩
  have hq0 : (q == 0) = bz := by rw [hq, hbz]; exact take_twice h0 (by omega)
  have hn0 : ((N : Int) == 0) = bz := by
    rw [hbz]
    by_cases h : N = 0
    · subst h; rfl
    · rw [show (N == 0) = false from by simpa using h, beq_eq_false_iff_ne]; omega
  have hU : Hid (∀ (a5 a3 : Option Addr) (c5 c3 : Nat) (W : World), k + N ≤ c5 → Lies enE W a5 (l.take (k + N)) → (a5 = none → c5 = 0) → N ≤ c3 → Lies enE W a3 ((l.drop k).take N) → (a3 = none → c3 = 0) → Calls Tryz.prog 8 #[.slice a5 (k + N) c5, .slice a3 N c3] W fun e w' => ∃ a6 n6 c6, e = .returned (.tuple #[.slice a6 n6 c6, .int .i64 q]) ∧ Below W.heap.size W w') := fun a5 a3 c5 c3 W hc5 hs5 hn5 hc3 hs3 hn3 => by
    have := take_any a5 a3 c5 c3 (l.take (k + N)) ((l.drop k).take N) W (by omega) (by omega) hs5 hs3 hn5 hn3
    rw [← hq, e3, e2] at this
    exact this.mono fun e w' ⟨a6, c6, q1, q2, q3, q4, q5⟩ => ⟨a6, _, c6, q1, q5⟩
  have g1 : IntKind.i64.wrap ((k : Int) + (N : Int)) = (k : Int) + (N : Int) := by rw [IntKind.wrap_i64]; omega
  have g2 : (((k + N : Nat) : Int) != (k : Int) + (N : Int)) = false := by rw [bne_eq_false_iff_eq]; omega
  have g3 : decide ((M : Int) < (N : Int)) = false := decide_eq_false (by omega)
  have g3' : ¬ (M : Int) < (N : Int) := by omega
  have e5 : ((l.drop (k + N)).take K).length = P := by rw [List.length_take, List.length_drop]; omega
  have hY : Hid (∀ (a5 : Option Addr) (c5 : Nat) (W : World), Below w.heap.size w W → k + N ≤ c5 → Lies enE W a5 (l.take (k + N)) → Calls Tryz.prog 7 #[.slice a5 (k + N) c5, .slice al L cl, .int .i64 K] W fun e w' => ∃ a7 c7, e = .returned (.tuple #[.slice a7 P c7, .int .i64 0]) ∧ Lies enE w' a7 ((l.drop (k + N)).take K) ∧ (a7 = none → c7 = 0) ∧ Below W.heap.size W w') := fun a5 c5 W hW hc5 hs5 => by
    have := shnext_any a5 al c5 cl (l.take (k + N)) l K W (by omega) (by omega) hs5 (hl.below hW) hn
    rw [(next_whole h0 (by omega) hK).1, (next_whole h0 (by omega) hK).2, e3, e5, ← hL] at this
    exact this.mono fun e w' ⟨a3, c3, q1, q2, q3, q4, q5⟩ => ⟨a3, c3, q1, q3, q4, q5⟩
  have f1 : IntKind.i64.wrap ((M : Int) + (K : Int)) = (M : Int) + (K : Int) := by rw [IntKind.wrap_i64]; omega
  have f2 : decide ((30 : Int) < (M : Int) + (K : Int)) = true := decide_eq_true (by omega)
  have f3 : (30 : Int) < (M : Int) + (K : Int) := by omega
  by_cases hNM : N < M
  · have g4 : decide ((N : Int) < (M : Int)) = true := decide_eq_true (by omega)
    have g5 : (((k + N : Nat) : Int) != (L : Int)) = false := by rw [bne_eq_false_iff_eq]; omega
    have g6 : (N : Int) < (M : Int) := by omega
    have g7 : (k : Int) + (N : Int) = (L : Int) := by omega
    have g5' : ((k : Int) + (N : Int) != (L : Int)) = false := by rw [bne_eq_false_iff_eq]; omega
    clear g7 hc hcl hs hl hna hn h0 hL hk hM hN hkN h30 e1 e2 e3 e4 hbz hq hNM hK hP hov e5
    go_enter Tryz.func3, Tryz.ntmps3
    go_wp2_with fail
    refine (hB.out _).mono ?_
    rintro e w1 ⟨rfl, hb1⟩
    go_wp2_with fail
    refine (hG.out _).mono ?_
    rintro e w2 ⟨rfl, hb2⟩
    have HB2 := Lib.hid (btr hb1 hb2)
    clear hb1 hb2 hG hB
    go_wp2_with fail
    refine (hX.out _ HB2.out).mono ?_
    rintro e w3 ⟨a3, c3, rfl, hc3, hl3, hn3, hb3⟩
    have HB3 := Lib.hid (btr HB2.out hb3)
    have HC3 := Lib.hid hc3
    have HL3 := Lib.hid hl3
    have HN3 := Lib.hid hn3
    clear hb3 HB2 hX hc3 hl3 hn3
    go_wp2_with fail
    refine (hT.out _ _ _ HB3.out HC3.out HL3.out HN3.out).mono ?_
    rintro e w4 ⟨a5, c5, rfl, hc5, hl5, hn5, hb4⟩
    have HB4 := Lib.hid (btr HB3.out hb4)
    have HL4 := Lib.hid (HL3.out.below hb4)
    have HC5 := Lib.hid hc5
    have HL5 := Lib.hid hl5
    have HN5 := Lib.hid hn5
    clear hb4 HB3 HL3 hT hc5 hl5 hn5
    go_wp2_with fail
    refine (hBe.out _ _ _ HB4.out HC5.out HL5.out).mono ?_
    rintro e w5 ⟨rfl, hb5⟩
    have HB5 := Lib.hid (btr HB4.out hb5)
    have HL5' := Lib.hid (HL5.out.below hb5)
    have HL4' := Lib.hid (HL4.out.below hb5)
    clear hb5 HB4 HL4 HL5 hBe
    go_wp2_with fail
    refine (hU.out _ _ _ _ _ HC5.out HL5'.out HN5.out HC3.out HL4'.out HN3.out).mono ?_
    rintro e w6 ⟨a6, n6, c6, rfl, hb6⟩
    have HB6 := Lib.hid (btr HB5.out hb6)
    have HL6 := Lib.hid (HL5'.out.below hb6)
    have HM6 := Lib.hid (HL4'.out.below hb6)
    clear hb6 HB5 HL4' HL5' hU
    have hbb : (bz != bz) = false := by simp
    go_wp2_with fail
    refine (hY.out _ _ _ HB6.out HC5.out HL6.out).mono ?_
    rintro e w7 ⟨a7, c7, rfl, hl7, hn7, hb7⟩
    have HB7 := Lib.hid (btr HB6.out hb7)
    clear hb7 HB6 hY hl7 hn7
    go_wp2_with fail
    go_ret
    exact ⟨rfl, HB7.out⟩
  · have g4 : decide ((N : Int) < (M : Int)) = false := decide_eq_false (by omega)
    have g6 : ¬ (N : Int) < (M : Int) := by omega
    clear hc hcl hs hl hna hn h0 hL hk hM hN hkN h30 e1 e2 e3 e4 hbz hq hNM hK hP hov e5
    go_enter Tryz.func3, Tryz.ntmps3
    go_wp2_with fail
    refine (hB.out _).mono ?_
    rintro e w1 ⟨rfl, hb1⟩
    go_wp2_with fail
    refine (hG.out _).mono ?_
    rintro e w2 ⟨rfl, hb2⟩
    have HB2 := Lib.hid (btr hb1 hb2)
    clear hb1 hb2 hG hB
    go_wp2_with fail
    refine (hX.out _ HB2.out).mono ?_
    rintro e w3 ⟨a3, c3, rfl, hc3, hl3, hn3, hb3⟩
    have HB3 := Lib.hid (btr HB2.out hb3)
    have HC3 := Lib.hid hc3
    have HL3 := Lib.hid hl3
    have HN3 := Lib.hid hn3
    clear hb3 HB2 hX hc3 hl3 hn3
    go_wp2_with fail
    refine (hT.out _ _ _ HB3.out HC3.out HL3.out HN3.out).mono ?_
    rintro e w4 ⟨a5, c5, rfl, hc5, hl5, hn5, hb4⟩
    have HB4 := Lib.hid (btr HB3.out hb4)
    have HL4 := Lib.hid (HL3.out.below hb4)
    have HC5 := Lib.hid hc5
    have HL5 := Lib.hid hl5
    have HN5 := Lib.hid hn5
    clear hb4 HB3 HL3 hT hc5 hl5 hn5
    go_wp2_with fail
    refine (hBe.out _ _ _ HB4.out HC5.out HL5.out).mono ?_
    rintro e w5 ⟨rfl, hb5⟩
    have HB5 := Lib.hid (btr HB4.out hb5)
    have HL5' := Lib.hid (HL5.out.below hb5)
    have HL4' := Lib.hid (HL4.out.below hb5)
    clear hb5 HB4 HL4 HL5 hBe
    go_wp2_with fail
    refine (hU.out _ _ _ _ _ HC5.out HL5'.out HN5.out HC3.out HL4'.out HN3.out).mono ?_
    rintro e w6 ⟨a6, n6, c6, rfl, hb6⟩
    have HB6 := Lib.hid (btr HB5.out hb6)
    have HL6 := Lib.hid (HL5'.out.below hb6)
    have HM6 := Lib.hid (HL4'.out.below hb6)
    clear hb6 HB5 HL4' HL5' hU
    have hbb : (bz != bz) = false := by simp
    go_wp2_with fail
    refine (hY.out _ _ _ HB6.out HC5.out HL6.out).mono ?_
    rintro e w7 ⟨a7, c7, rfl, hl7, hn7, hb7⟩
    have HB7 := Lib.hid (btr HB6.out hb7)
    clear hb7 HB6 hY hl7 hn7
    go_wp2_with fail
    go_ret
    exact ⟨rfl, HB7.out⟩
set_option maxHeartbeats 32000000 in
set_option maxRecDepth 100000 in
theorem sn_all (a al : Option Addr) (c cl : Nat) (l : List En) (k M N L : Nat) (K P : Nat) (w : World) (hc : k ≤ c) (hcl : L ≤ cl) (hs : Lies enE w a (l.take k)) (hl : Lies enE w al l) (hna : a = none → c = 0) (hn : al = none → cl = 0) (h0 : logE l = 0) (hL : L = l.length) (hk : k ≤ L) (hM : M ≤ 30) (hN : N = min M (L - k)) (hK : K ≤ 30) (hP : P = min K (L - (k + N))) (hov : M + K ≤ 30) :
    Calls Tryz.prog 3 #[.slice a k c, .slice al L cl, .int .i64 M, .int .i64 K] w fun e w' => e = .returned (.bool true) ∧ Below w.heap.size w w' := by
  have hB : Hid (∀ W : World, Calls Tryz.prog 5 #[] W fun e w' => e = .returned (.bool true) ∧ Below W.heap.size W w') := sbegun_ship
  have hG : Hid (∀ W : World, Calls Tryz.prog 6 #[] W fun e w' => e = .returned (.bool true) ∧ Below W.heap.size W w') := logbegun_any
  have hkN : k + N ≤ L := by omega
  have h30 := logE_len h0
  have e1 : (l.take k).length = k := by rw [List.length_take]; omega
  have e2 : ((l.drop k).take N).length = N := by rw [List.length_take, List.length_drop]; omega
  have e3 : (l.take (k + N)).length = k + N := by rw [List.length_take]; omega
  have e4 : (l.drop k).take M = (l.drop k).take N := by rw [List.take_eq_take_iff, List.length_drop]; omega
  have hX : Hid (∀ W : World, Below w.heap.size w W → Calls Tryz.prog 7 #[.slice a k c, .slice al L cl, .int .i64 M] W fun e w' => ∃ a3 c3, e = .returned (.tuple #[.slice a3 N c3, .int .i64 0]) ∧ N ≤ c3 ∧ Lies enE w' a3 ((l.drop k).take N) ∧ (a3 = none → c3 = 0) ∧ Below W.heap.size W w') := fun W hW => by
    have := shnext_any a al c cl (l.take k) l M W (by omega) (by omega) (hs.below hW) (hl.below hW) hn
    rw [(next_whole h0 (by omega) hM).1, (next_whole h0 (by omega) hM).2, e4, e1, e2, ← hL] at this
    exact this
  have hT : Hid (∀ (a3 : Option Addr) (c3 : Nat) (W : World), Below w.heap.size w W → N ≤ c3 → Lies enE W a3 ((l.drop k).take N) → (a3 = none → c3 = 0) → Calls Tryz.prog 8 #[.slice a k c, .slice a3 N c3] W fun e w' => ∃ a5 c5, e = .returned (.tuple #[.slice a5 (k + N) c5, .int .i64 0]) ∧ k + N ≤ c5 ∧ Lies enE w' a5 (l.take (k + N)) ∧ (a5 = none → c5 = 0) ∧ Below W.heap.size W w') := fun a3 c3 W hW hc3 hs3 hn3 => by
    have := take_any a a3 c c3 (l.take k) ((l.drop k).take N) W (by omega) (by omega) (hs.below hW) hs3 hna hn3
    rw [(take_whole h0).1, (take_whole h0).2, e1, e2, e3] at this
    exact this
  have hBe : Hid (∀ (a5 : Option Addr) (c5 : Nat) (W : World), Below w.heap.size w W → k + N ≤ c5 → Lies enE W a5 (l.take (k + N)) → Calls Tryz.prog 9 #[.slice a5 (k + N) c5, .slice al L cl] W fun e w' => e = .returned (.tuple #[.bool true, .int .i64 0]) ∧ Below W.heap.size W w') := fun a5 c5 W hW hc5 hs5 => by
    have := begins_any a5 al c5 cl (l.take (k + N)) l W (by omega) (by omega) hs5 (hl.below hW)
    rw [(beg_whole h0 (by omega)).1, (beg_whole h0 (by omega)).2, e3, ← hL] at this
    exact this
  obtain ⟨bz, hbz⟩ : ∃ b : Bool, b = (N == 0) := ⟨_, rfl⟩
  obtain ⟨q, hq⟩ : ∃ q, q = takeE (l.take (k + N)) ((l.drop k).take N) := ⟨_, rfl⟩
  have hq0 : (q == 0) = bz := by rw [hq, hbz]; exact take_twice h0 (by omega)
  have hn0 : ((N : Int) == 0) = bz := by
    rw [hbz]
    by_cases h : N = 0
    · subst h; rfl
    · rw [show (N == 0) = false from by simpa using h, beq_eq_false_iff_ne]; omega
  have hU : Hid (∀ (a5 a3 : Option Addr) (c5 c3 : Nat) (W : World), k + N ≤ c5 → Lies enE W a5 (l.take (k + N)) → (a5 = none → c5 = 0) → N ≤ c3 → Lies enE W a3 ((l.drop k).take N) → (a3 = none → c3 = 0) → Calls Tryz.prog 8 #[.slice a5 (k + N) c5, .slice a3 N c3] W fun e w' => ∃ a6 n6 c6, e = .returned (.tuple #[.slice a6 n6 c6, .int .i64 q]) ∧ Below W.heap.size W w') := fun a5 a3 c5 c3 W hc5 hs5 hn5 hc3 hs3 hn3 => by
    have := take_any a5 a3 c5 c3 (l.take (k + N)) ((l.drop k).take N) W (by omega) (by omega) hs5 hs3 hn5 hn3
    rw [← hq, e3, e2] at this
    exact this.mono fun e w' ⟨a6, c6, q1, q2, q3, q4, q5⟩ => ⟨a6, _, c6, q1, q5⟩
  have g1 : IntKind.i64.wrap ((k : Int) + (N : Int)) = (k : Int) + (N : Int) := by rw [IntKind.wrap_i64]; omega
  have g2 : (((k + N : Nat) : Int) != (k : Int) + (N : Int)) = false := by rw [bne_eq_false_iff_eq]; omega
  have g3 : decide ((M : Int) < (N : Int)) = false := decide_eq_false (by omega)
  have g3' : ¬ (M : Int) < (N : Int) := by omega
  have e5 : ((l.drop (k + N)).take K).length = P := by rw [List.length_take, List.length_drop]; omega
  have hY : Hid (∀ (a5 : Option Addr) (c5 : Nat) (W : World), Below w.heap.size w W → k + N ≤ c5 → Lies enE W a5 (l.take (k + N)) → Calls Tryz.prog 7 #[.slice a5 (k + N) c5, .slice al L cl, .int .i64 K] W fun e w' => ∃ a7 c7, e = .returned (.tuple #[.slice a7 P c7, .int .i64 0]) ∧ Lies enE w' a7 ((l.drop (k + N)).take K) ∧ (a7 = none → c7 = 0) ∧ Below W.heap.size W w') := fun a5 c5 W hW hc5 hs5 => by
    have := shnext_any a5 al c5 cl (l.take (k + N)) l K W (by omega) (by omega) hs5 (hl.below hW) hn
    rw [(next_whole h0 (by omega) hK).1, (next_whole h0 (by omega) hK).2, e3, e5, ← hL] at this
    exact this.mono fun e w' ⟨a3, c3, q1, q2, q3, q4, q5⟩ => ⟨a3, c3, q1, q3, q4, q5⟩
  have f1 : IntKind.i64.wrap ((M : Int) + (K : Int)) = (M : Int) + (K : Int) := by rw [IntKind.wrap_i64]; omega
  have e6 : ((l.drop k).take (M + K)).length = N + P := by rw [List.length_take, List.length_drop]; omega
  have hZ : Hid (∀ W : World, Below w.heap.size w W → Calls Tryz.prog 7 #[.slice a k c, .slice al L cl, .int .i64 ((M : Int) + (K : Int))] W fun e w' => ∃ a8 c8, e = .returned (.tuple #[.slice a8 (N + P) c8, .int .i64 0]) ∧ Lies enE w' a8 ((l.drop k).take N ++ (l.drop (k + N)).take K) ∧ Below W.heap.size W w') := fun W hW => by
    have := shnext_any a al c cl (l.take k) l ((M + K : Nat) : Int) W (by omega) (by omega) (hs.below hW) (hl.below hW) hn
    rw [(next_whole h0 (by omega) (by omega : M + K ≤ 30)).1, (next_whole h0 (by omega) (by omega : M + K ≤ 30)).2, e1, e6, ← hL, drop_two (K := K) (show N = min M (l.length - k) by omega)] at this
    rw [show ((M : Int) + (K : Int)) = ((M + K : Nat) : Int) by omega]
    exact this.mono fun e w' ⟨a3, c3, q1, q2, q3, q4, q5⟩ => ⟨a3, c3, q1, q3, q5⟩
  have e7 : ((l.drop k).take N ++ (l.drop (k + N)).take K).length = N + P := by rw [List.length_append, e2, e5]
  have hS : Hid (∀ (a8 a9 : Option Addr) (c8 c9 : Nat) (W : World), Lies enE W a8 ((l.drop k).take N ++ (l.drop (k + N)).take K) → Lies enE W a9 ((l.drop k).take N ++ (l.drop (k + N)).take K) → Calls Tryz.prog 10 #[.slice a8 (N + P) c8, .slice a9 (N + P) c9] W fun e w' => e = .returned (.bool true) ∧ Below W.heap.size W w') := fun a8 a9 c8 c9 W h8 h9 => by
    have := rsame_log a8 a9 c8 c9 ((l.drop k).take N ++ (l.drop (k + N)).take K) W (by rw [e7]; omega) h8 h9
    rw [e7] at this
    exact this
  have f2 : decide ((30 : Int) < (M : Int) + (K : Int)) = false := decide_eq_false (by omega)
  have f3 : ¬ (30 : Int) < (M : Int) + (K : Int) := by omega
  have HE2 := Lib.hid e2
  have HE5 := Lib.hid e5
  have HE7 := Lib.hid e7
  have HBB : Hid (N + P ≤ 100000000) := by show _ ≤ _; omega
  obtain ⟨i0, hi, hz0, hz1, hz2⟩ := info_parts infoE
  generalize (l.drop k).take N = NL at *
  generalize (l.drop (k + N)).take K = PL at *
  by_cases hNM : N < M
  · have g4 : decide ((N : Int) < (M : Int)) = true := decide_eq_true (by omega)
    have g5 : (((k + N : Nat) : Int) != (L : Int)) = false := by rw [bne_eq_false_iff_eq]; omega
    have g6 : (N : Int) < (M : Int) := by omega
    have g7 : (k : Int) + (N : Int) = (L : Int) := by omega
    have g5' : ((k : Int) + (N : Int) != (L : Int)) = false := by rw [bne_eq_false_iff_eq]; omega
    clear g7 hc hcl hs hl hna hn h0 hL hk hM hN hkN h30 e1 e2 e3 e4 hbz hq hNM hK hP hov e5 e6 e7
    go_enter Tryz.func3, Tryz.ntmps3
    go_wp2_with fail
    refine (hB.out _).mono ?_
    rintro e w1 ⟨rfl, hb1⟩
    go_wp2_with fail
    refine (hG.out _).mono ?_
    rintro e w2 ⟨rfl, hb2⟩
    have HB2 := Lib.hid (btr hb1 hb2)
    clear hb1 hb2 hG hB
    go_wp2_with fail
    refine (hX.out _ HB2.out).mono ?_
    rintro e w3 ⟨a3, c3, rfl, hc3, hl3, hn3, hb3⟩
    have HB3 := Lib.hid (btr HB2.out hb3)
    have HC3 := Lib.hid hc3
    have HL3 := Lib.hid hl3
    have HN3 := Lib.hid hn3
    clear hb3 HB2 hX hc3 hl3 hn3
    go_wp2_with fail
    refine (hT.out _ _ _ HB3.out HC3.out HL3.out HN3.out).mono ?_
    rintro e w4 ⟨a5, c5, rfl, hc5, hl5, hn5, hb4⟩
    have HB4 := Lib.hid (btr HB3.out hb4)
    have HL4 := Lib.hid (HL3.out.below hb4)
    have HC5 := Lib.hid hc5
    have HL5 := Lib.hid hl5
    have HN5 := Lib.hid hn5
    clear hb4 HB3 HL3 hT hc5 hl5 hn5
    go_wp2_with fail
    refine (hBe.out _ _ _ HB4.out HC5.out HL5.out).mono ?_
    rintro e w5 ⟨rfl, hb5⟩
    have HB5 := Lib.hid (btr HB4.out hb5)
    have HL5' := Lib.hid (HL5.out.below hb5)
    have HL4' := Lib.hid (HL4.out.below hb5)
    clear hb5 HB4 HL4 HL5 hBe
    go_wp2_with fail
    refine (hU.out _ _ _ _ _ HC5.out HL5'.out HN5.out HC3.out HL4'.out HN3.out).mono ?_
    rintro e w6 ⟨a6, n6, c6, rfl, hb6⟩
    have HB6 := Lib.hid (btr HB5.out hb6)
    have HL6 := Lib.hid (HL5'.out.below hb6)
    have HM6 := Lib.hid (HL4'.out.below hb6)
    clear hb6 HB5 HL4' HL5' hU
    have hbb : (bz != bz) = false := by simp
    go_wp2_with fail
    refine (hY.out _ _ _ HB6.out HC5.out HL6.out).mono ?_
    rintro e w7 ⟨a7, c7, rfl, hl7, hn7, hb7⟩
    have HB7 := Lib.hid (btr HB6.out hb7)
    have HL7 := Lib.hid (HM6.out.below hb7)
    have HP7 := Lib.hid hl7
    have HN7 := Lib.hid hn7
    clear hb7 HB6 hY hl7 hn7
    go_wp2_with fail
    refine (hZ.out _ HB7.out).mono ?_
    rintro e w8 ⟨a8, c8, rfl, hl8, hb8⟩
    have HB8 := Lib.hid (btr HB7.out hb8)
    have HL8 := Lib.hid (HL7.out.below hb8)
    have HP8 := Lib.hid (HP7.out.below hb8)
    have HQ8 := Lib.hid hl8
    clear hb8 hl8 HL7 HP7 HB7 hZ
    have OE : Hid (World.ownsRow (w8.alloc (.cells #[] 55)) w8.heap.size 55 enE.k (.slice (some ⟨w8.heap.size, 0, none⟩) 0 0) ([] : List En).length (rowOf enE ([] : List En))) := rowE_empty w8
    have KE : Hid (Below w8.heap.size w8 (w8.alloc (.cells #[] 55))) := bal (Below.refl _ _) _
    have LE : Hid (Lies enE (w8.alloc (.cells #[] 55)) a3 NL) := HL8.out.below KE.out
    go_wp2_with (first | (at_builtin; refine wpList_unguard (by rfl) ?_; refine wp_app_en rfl _ _ 22 rfl w8.heap.size i0 _ Tryz.underlying22 hi hz0 hz1 hz2 rfl _ ([] ++ NL) rfl O1.out a7 c7 PL (by rw [HE5.out]; rfl) HN7.out L1.out (by rw [List.nil_append, HE2.out, HE5.out]; exact HBB.out) K1.out.size ?_; intro vb wb hown hgrow; have K2 : Hid (Below w8.heap.size w8 wb) := K1.out.grown hgrow K1.out.size (fun k hk => (O1.out.lt k hk).1); rw [List.nil_append] at hown; obtain ⟨a9, c9, rfl, -, hl9, -, -⟩ := own_open0 hown; rw [HE7.out]; have HP9 := Lib.hid hl9; clear hown hgrow hl9) | (at_builtin; refine wpList_unguard (by rfl) ?_; refine wp_app_en rfl _ _ 22 rfl w8.heap.size i0 _ Tryz.underlying22 hi hz0 hz1 hz2 rfl _ ([] : List En) rfl OE.out a3 c3 NL (by rw [HE2.out]; rfl) HN3.out LE.out (by rw [HE2.out]; simp; have := HBB.out; omega) KE.out.size ?_; intro va wa hown hgrow; have K1 : Hid (Below w8.heap.size w8 wa) := KE.out.grown hgrow KE.out.size (fun k hk => (OE.out.lt k hk).1); have O1 := Lib.hid hown; have L1 := Lib.hid (HP8.out.below K1.out); clear hown hgrow))
    refine (hS.out _ _ _ _ _ (HQ8.out.below K2.out) HP9.out).mono ?_
    rintro e w9 ⟨rfl, hb9⟩
    have HB9 := Lib.hid (btr (btr HB8.out K2.out) hb9)
    clear hb9 HB8 K2 K1 O1 L1 OE KE LE HQ8 HP8 HL8 HP9
    go_wp2_with fail
    go_ret
    exact ⟨rfl, HB9.out⟩
  · have g4 : decide ((N : Int) < (M : Int)) = false := decide_eq_false (by omega)
    have g6 : ¬ (N : Int) < (M : Int) := by omega
    clear hc hcl hs hl hna hn h0 hL hk hM hN hkN h30 e1 e2 e3 e4 hbz hq hNM hK hP hov e5 e6 e7
    go_enter Tryz.func3, Tryz.ntmps3
    go_wp2_with fail
    refine (hB.out _).mono ?_
    rintro e w1 ⟨rfl, hb1⟩
    go_wp2_with fail
    refine (hG.out _).mono ?_
    rintro e w2 ⟨rfl, hb2⟩
    have HB2 := Lib.hid (btr hb1 hb2)
    clear hb1 hb2 hG hB
    go_wp2_with fail
    refine (hX.out _ HB2.out).mono ?_
    rintro e w3 ⟨a3, c3, rfl, hc3, hl3, hn3, hb3⟩
    have HB3 := Lib.hid (btr HB2.out hb3)
    have HC3 := Lib.hid hc3
    have HL3 := Lib.hid hl3
    have HN3 := Lib.hid hn3
    clear hb3 HB2 hX hc3 hl3 hn3
    go_wp2_with fail
    refine (hT.out _ _ _ HB3.out HC3.out HL3.out HN3.out).mono ?_
    rintro e w4 ⟨a5, c5, rfl, hc5, hl5, hn5, hb4⟩
    have HB4 := Lib.hid (btr HB3.out hb4)
    have HL4 := Lib.hid (HL3.out.below hb4)
    have HC5 := Lib.hid hc5
    have HL5 := Lib.hid hl5
    have HN5 := Lib.hid hn5
    clear hb4 HB3 HL3 hT hc5 hl5 hn5
    go_wp2_with fail
    refine (hBe.out _ _ _ HB4.out HC5.out HL5.out).mono ?_
    rintro e w5 ⟨rfl, hb5⟩
    have HB5 := Lib.hid (btr HB4.out hb5)
    have HL5' := Lib.hid (HL5.out.below hb5)
    have HL4' := Lib.hid (HL4.out.below hb5)
    clear hb5 HB4 HL4 HL5 hBe
    go_wp2_with fail
    refine (hU.out _ _ _ _ _ HC5.out HL5'.out HN5.out HC3.out HL4'.out HN3.out).mono ?_
    rintro e w6 ⟨a6, n6, c6, rfl, hb6⟩
    have HB6 := Lib.hid (btr HB5.out hb6)
    have HL6 := Lib.hid (HL5'.out.below hb6)
    have HM6 := Lib.hid (HL4'.out.below hb6)
    clear hb6 HB5 HL4' HL5' hU
    have hbb : (bz != bz) = false := by simp
    go_wp2_with fail
    refine (hY.out _ _ _ HB6.out HC5.out HL6.out).mono ?_
    rintro e w7 ⟨a7, c7, rfl, hl7, hn7, hb7⟩
    have HB7 := Lib.hid (btr HB6.out hb7)
    have HL7 := Lib.hid (HM6.out.below hb7)
    have HP7 := Lib.hid hl7
    have HN7 := Lib.hid hn7
    clear hb7 HB6 hY hl7 hn7
    go_wp2_with fail
    refine (hZ.out _ HB7.out).mono ?_
    rintro e w8 ⟨a8, c8, rfl, hl8, hb8⟩
    have HB8 := Lib.hid (btr HB7.out hb8)
    have HL8 := Lib.hid (HL7.out.below hb8)
    have HP8 := Lib.hid (HP7.out.below hb8)
    have HQ8 := Lib.hid hl8
    clear hb8 hl8 HL7 HP7 HB7 hZ
    have OE : Hid (World.ownsRow (w8.alloc (.cells #[] 55)) w8.heap.size 55 enE.k (.slice (some ⟨w8.heap.size, 0, none⟩) 0 0) ([] : List En).length (rowOf enE ([] : List En))) := rowE_empty w8
    have KE : Hid (Below w8.heap.size w8 (w8.alloc (.cells #[] 55))) := bal (Below.refl _ _) _
    have LE : Hid (Lies enE (w8.alloc (.cells #[] 55)) a3 NL) := HL8.out.below KE.out
    go_wp2_with (first | (at_builtin; refine wpList_unguard (by rfl) ?_; refine wp_app_en rfl _ _ 22 rfl w8.heap.size i0 _ Tryz.underlying22 hi hz0 hz1 hz2 rfl _ ([] ++ NL) rfl O1.out a7 c7 PL (by rw [HE5.out]; rfl) HN7.out L1.out (by rw [List.nil_append, HE2.out, HE5.out]; exact HBB.out) K1.out.size ?_; intro vb wb hown hgrow; have K2 : Hid (Below w8.heap.size w8 wb) := K1.out.grown hgrow K1.out.size (fun k hk => (O1.out.lt k hk).1); rw [List.nil_append] at hown; obtain ⟨a9, c9, rfl, -, hl9, -, -⟩ := own_open0 hown; rw [HE7.out]; have HP9 := Lib.hid hl9; clear hown hgrow hl9) | (at_builtin; refine wpList_unguard (by rfl) ?_; refine wp_app_en rfl _ _ 22 rfl w8.heap.size i0 _ Tryz.underlying22 hi hz0 hz1 hz2 rfl _ ([] : List En) rfl OE.out a3 c3 NL (by rw [HE2.out]; rfl) HN3.out LE.out (by rw [HE2.out]; simp; have := HBB.out; omega) KE.out.size ?_; intro va wa hown hgrow; have K1 : Hid (Below w8.heap.size w8 wa) := KE.out.grown hgrow KE.out.size (fun k hk => (OE.out.lt k hk).1); have O1 := Lib.hid hown; have L1 := Lib.hid (HP8.out.below K1.out); clear hown hgrow))
    refine (hS.out _ _ _ _ _ (HQ8.out.below K2.out) HP9.out).mono ?_
    rintro e w9 ⟨rfl, hb9⟩
    have HB9 := Lib.hid (btr (btr HB8.out K2.out) hb9)
    clear hb9 HB8 K2 K1 O1 L1 OE KE LE HQ8 HP8 HL8 HP9
    go_wp2_with fail
    go_ret
    exact ⟨rfl, HB9.out⟩
theorem snearer_any (a al : Option Addr) (c cl : Nat) (h l : List En) (many more : Int) (w : World) (hc : h.length ≤ c) (hcl : l.length ≤ cl) (hs : Lies enE w a h) (hl : Lies enE w al l) (hna : a = none → c = 0) (hn : al = none → cl = 0) :
    Calls Tryz.prog 3 #[.slice a h.length c, .slice al l.length cl, .int .i64 many, .int .i64 more] w fun e w' => e = .returned (.bool true) ∧ Below w.heap.size w w' := by
  by_cases h0 : nextE h l many = 0
  · obtain ⟨z1, z2, z3, z4, z5⟩ := next_zero h0
    obtain ⟨k, hk⟩ : ∃ k, k = h.length := ⟨_, rfl⟩
    obtain ⟨M, rfl⟩ : ∃ k : Nat, many = (k : Int) := ⟨many.toNat, by omega⟩
    rw [← hk] at z2 z3 hc ⊢
    rw [z2] at hs
    by_cases h1 : more < 0
    · exact sn_low a al c cl l k M _ l.length more w hc hcl hs hl hna hn z1 rfl z3 (by omega) rfl h1
    · by_cases h2 : 30 < more
      · exact sn_high a al c cl l k M _ l.length more w hc hcl hs hl hna hn z1 rfl z3 (by omega) rfl h1 h2
      · obtain ⟨K, rfl⟩ : ∃ k : Nat, more = (k : Int) := ⟨more.toNat, by omega⟩
        by_cases h3 : 30 < M + K
        · exact sn_over a al c cl l k M _ l.length K _ w hc hcl hs hl hna hn z1 rfl z3 (by omega) rfl (by omega) rfl h3
        · exact sn_all a al c cl l k M _ l.length K _ w hc hcl hs hl hna hn z1 rfl z3 (by omega) rfl (by omega) rfl (by omega)
  · exact sn_bad a al c cl h l many more w hc hcl hs hl hn h0
end Go.Proofs.YtclnfkohlklbpaaGreat
