/- LeaseOver: its walk. -/
import Derived.Test.YtiiankekobgebaaLmI
import Derived.Test.YtiiankekobgebaaLmF
set_option linter.unusedVariables false
set_option linter.unusedSimpArgs false
namespace Go.Proofs.Ytiiankekobgebaa
open Go.RowKit Go.Shelf

set_option maxHeartbeats 16000000 in
set_option maxRecDepth 100000 in
theorem lo_bad (a : Option Addr) (c : Nat) (l : List Ls) (now later : Int) (w : World) (hs : Lies lsE w a l) (h0 : ¬ lookL l now = 0) :
    Calls Try.prog 4 #[.slice a l.length c, .int .i64 now, .int .i64 later] w fun e w' => e = .returned (.bool true) ∧ Below w.heap.size w w' := by
  have HBe : Hid (∀ W, Calls Try.prog 12 #[] W fun e w' => e = .returned (.bool true) ∧ Below W.heap.size W w') := lbegun_any
  have HD : Hid (∀ W, Below w.heap.size w W → Calls Try.prog 6 #[.slice a l.length c, .int .i64 now] W fun e w' => ∃ a4 c4, e = .returned (.tuple #[.slice a4 0 c4, .int .i64 0, .int .i64 (lookL l now)]) ∧ Below W.heap.size W w') := fun W hb => by
    have := ldrop_any a c l now W (hs.below hb)
    unfold dropL dropN at this
    rw [if_neg h0, if_neg h0] at this
    exact this.mono fun e w' ⟨a4, c4, h1, h2, h3⟩ => ⟨a4, c4, h1, h3⟩
  obtain ⟨u, hu⟩ : ∃ u, u = lookL l now := ⟨_, rfl⟩
  rw [← hu] at HD h0
  have hub : (u != 0) = true := by rw [bne_iff_ne]; exact h0
  obtain ⟨N, hN⟩ : ∃ N, N = l.length := ⟨_, rfl⟩
  rw [← hN] at HD ⊢
  clear hs hu hN h0
  go_enter Try.func4, Try.ntmps4
  go_wp2_with fail
  refine (HBe.out _).mono ?_
  rintro e w1 ⟨rfl, hb1⟩
  go_wp2_with fail
  refine (HD.out _ hb1).mono ?_
  rintro e w2 ⟨a2, c2, rfl, hb2⟩
  go_wp2_with fail
  go_ret
  exact ⟨rfl, btr hb1 hb2⟩

set_option maxHeartbeats 16000000 in
set_option maxRecDepth 100000 in
theorem lo_past (a : Option Addr) (c : Nat) (l : List Ls) (now later : Int) (w : World) (hs : Lies lsE w a l) (h0 : lookL l now = 0) (hl : later < now ∨ 9999 < later) :
    Calls Try.prog 4 #[.slice a l.length c, .int .i64 now, .int .i64 later] w fun e w' => e = .returned (.bool true) ∧ Below w.heap.size w w' := by
  have HBe : Hid (∀ W, Calls Try.prog 12 #[] W fun e w' => e = .returned (.bool true) ∧ Below W.heap.size W w') := lbegun_any
  have hn := look_now h0
  have hl20 := look_len h0
  have hlv : (live l now).length ≤ l.length := List.length_filter_le _ _
  have hA := look_live (m := now) h0 hn.1 hn.2
  have hAA := live_live l (Int.le_refl now)
  have HD1 : Hid (∀ W, Below w.heap.size w W → Calls Try.prog 6 #[.slice a l.length c, .int .i64 now] W fun e w' => ∃ a4 c4, e = .returned (.tuple #[.slice a4 (live l now).length c4, .int .i64 ((l.length : Int) - ((live l now).length : Int)), .int .i64 0]) ∧ Lies lsE w' a4 (live l now) ∧ Below W.heap.size W w') := fun W hb => by
    have := ldrop_any a c l now W (hs.below hb)
    unfold dropL dropN at this
    rw [if_pos h0, if_pos h0, h0] at this
    exact this
  have HD2 : Hid (∀ (a : Option Addr) (c : Nat) (W : World), Lies lsE W a (live l now) → Calls Try.prog 6 #[.slice a (live l now).length c, .int .i64 now] W fun e w' => ∃ a4 c4, e = .returned (.tuple #[.slice a4 (live l now).length c4, .int .i64 0, .int .i64 0]) ∧ Lies lsE w' a4 (live l now) ∧ Below W.heap.size W w') := fun a c W hs => by
    have := ldrop_any a c (live l now) now W hs
    unfold dropL dropN at this
    rw [if_pos hA, if_pos hA, hA, hAA, Int.sub_self] at this
    exact this
  have HS : Hid (∀ (a b : Option Addr) (c d : Nat) (W : World), Lies lsE W a (live l now) → Lies lsE W b (live l now) → Calls Try.prog 17 #[.slice a (live l now).length c, .slice b (live l now).length d] W fun e w' => e = .returned (.bool true) ∧ Below W.heap.size W w') := fun a b c d W h1 h2 => by
    have := rsame_any a b c d (live l now) (live l now) W (by omega) (by omega) h1 h2
    rw [sameL_self] at this
    exact this
  generalize live l now = A at *
  obtain ⟨M, hM⟩ : ∃ M, M = A.length := ⟨_, rfl⟩
  rw [← hM] at HD1 HD2 HS hlv
  obtain ⟨N, hN⟩ : ∃ N, N = l.length := ⟨_, rfl⟩
  rw [← hN] at HD1 hlv hl20 ⊢
  have hwr : IntKind.i64.wrap ((M : Int) + ((N : Int) - (M : Int))) = (N : Int) := by rw [IntKind.wrap_i64]; omega
  have hbb : (decide (later < now) || decide (9999 < later)) = true := by simpa using hl
  clear hs h0 hA hAA hM hN
  go_enter Try.func4, Try.ntmps4
  go_wp2_with fail
  refine (HBe.out _).mono ?_
  rintro e w1 ⟨rfl, hb1⟩
  go_wp2_with fail
  refine (HD1.out _ hb1).mono ?_
  rintro e w2 ⟨a2, c2, rfl, hl2, hb2⟩
  have HL2 := Lib.hid hl2
  have HB2 := Lib.hid (btr hb1 hb2)
  clear hl2 hb1 hb2 HD1
  go_wp2_with fail
  refine (HD2.out _ _ _ HL2.out).mono ?_
  rintro e w3 ⟨a3, c3, rfl, hl3, hb3⟩
  have HL3 := Lib.hid hl3
  replace HL2 := Lib.hid (HL2.out.below hb3)
  have HB3 := Lib.hid (btr HB2.out hb3)
  clear hl3 hb3 HD2 HB2
  go_wp2_with fail
  refine (HS.out _ _ _ _ _ HL2.out HL3.out).mono ?_
  rintro e w4 ⟨rfl, hb4⟩
  have HB4 := Lib.hid (btr HB3.out hb4)
  clear hb4 HS
  rcases hl with h | h
  · go_wp2_with fail
    go_ret
    exact ⟨rfl, HB4.out⟩
  · by_cases h' : later < now
    · go_wp2_with fail
      go_ret
      exact ⟨rfl, HB4.out⟩
    · have d1 : decide (later < now) = false := decide_eq_false h'
      go_wp2_with fail
      go_ret
      exact ⟨rfl, HB4.out⟩

set_option maxHeartbeats 16000000 in
set_option maxRecDepth 100000 in
theorem lo_then (a : Option Addr) (c : Nat) (l : List Ls) (now later : Int) (w : World) (hs : Lies lsE w a l) (h0 : lookL l now = 0) (hl : ¬ later < now) (hl2 : ¬ 9999 < later) :
    Calls Try.prog 4 #[.slice a l.length c, .int .i64 now, .int .i64 later] w fun e w' => e = .returned (.bool true) ∧ Below w.heap.size w w' := by
  have HBe : Hid (∀ W, Calls Try.prog 12 #[] W fun e w' => e = .returned (.bool true) ∧ Below W.heap.size W w') := lbegun_any
  have hn := look_now h0
  have hl20 := look_len h0
  have hlv : (live l now).length ≤ l.length := List.length_filter_le _ _
  have hA := look_live (m := now) h0 hn.1 hn.2
  have hAl := look_live (m := now) (m' := later) h0 (by omega) (by omega)
  have hll := look_at (m := later) h0 (by omega) (by omega)
  have hAA := live_live l (Int.le_refl now)
  have hAD := live_live l (show now ≤ later by omega)
  have hdl : (live l later).length ≤ (live l now).length := by rw [← hAD]; exact List.length_filter_le _ _
  have HD1 : Hid (∀ W, Below w.heap.size w W → Calls Try.prog 6 #[.slice a l.length c, .int .i64 now] W fun e w' => ∃ a4 c4, e = .returned (.tuple #[.slice a4 (live l now).length c4, .int .i64 ((l.length : Int) - ((live l now).length : Int)), .int .i64 0]) ∧ Lies lsE w' a4 (live l now) ∧ Below W.heap.size W w') := fun W hb => by
    have := ldrop_any a c l now W (hs.below hb)
    unfold dropL dropN at this
    rw [if_pos h0, if_pos h0, h0] at this
    exact this
  have HD2 : Hid (∀ (a : Option Addr) (c : Nat) (W : World), Lies lsE W a (live l now) → Calls Try.prog 6 #[.slice a (live l now).length c, .int .i64 now] W fun e w' => ∃ a4 c4, e = .returned (.tuple #[.slice a4 (live l now).length c4, .int .i64 0, .int .i64 0]) ∧ Lies lsE w' a4 (live l now) ∧ Below W.heap.size W w') := fun a c W hs => by
    have := ldrop_any a c (live l now) now W hs
    unfold dropL dropN at this
    rw [if_pos hA, if_pos hA, hA, hAA, Int.sub_self] at this
    exact this
  have HD3 : Hid (∀ (a : Option Addr) (c : Nat) (W : World), Lies lsE W a (live l now) → Calls Try.prog 6 #[.slice a (live l now).length c, .int .i64 later] W fun e w' => ∃ a4 c4 n4, e = .returned (.tuple #[.slice a4 (live l later).length c4, .int .i64 n4, .int .i64 0]) ∧ Lies lsE w' a4 (live l later) ∧ Below W.heap.size W w') := fun a c W hs => by
    have := ldrop_any a c (live l now) later W hs
    unfold dropL dropN at this
    rw [if_pos hAl, if_pos hAl, hAl, hAD] at this
    exact this.mono fun e w' ⟨a4, c4, h1, h2, h3⟩ => ⟨a4, c4, _, h1, h2, h3⟩
  have HD4 : Hid (∀ W, Below w.heap.size w W → Calls Try.prog 6 #[.slice a l.length c, .int .i64 later] W fun e w' => ∃ a4 c4 n4, e = .returned (.tuple #[.slice a4 (live l later).length c4, .int .i64 n4, .int .i64 0]) ∧ Lies lsE w' a4 (live l later) ∧ Below W.heap.size W w') := fun W hb => by
    have := ldrop_any a c l later W (hs.below hb)
    unfold dropL dropN at this
    rw [if_pos hll, if_pos hll, hll] at this
    exact this.mono fun e w' ⟨a4, c4, h1, h2, h3⟩ => ⟨a4, c4, _, h1, h2, h3⟩
  have HS : Hid (∀ (a b : Option Addr) (c d : Nat) (W : World), Lies lsE W a (live l now) → Lies lsE W b (live l now) → Calls Try.prog 17 #[.slice a (live l now).length c, .slice b (live l now).length d] W fun e w' => e = .returned (.bool true) ∧ Below W.heap.size W w') := fun a b c d W h1 h2 => by
    have := rsame_any a b c d (live l now) (live l now) W (by omega) (by omega) h1 h2
    rw [sameL_self] at this
    exact this
  have HS2 : Hid (∀ (a b : Option Addr) (c d : Nat) (W : World), Lies lsE W a (live l later) → Lies lsE W b (live l later) → Calls Try.prog 17 #[.slice a (live l later).length c, .slice b (live l later).length d] W fun e w' => e = .returned (.bool true) ∧ Below W.heap.size W w') := fun a b c d W h1 h2 => by
    have := rsame_any a b c d (live l later) (live l later) W (by omega) (by omega) h1 h2
    rw [sameL_self] at this
    exact this
  have HW : Hid (∀ (x : Ls) (W : World), x ∈ live l later → Below w.heap.size w W → ∃ k : Nat, Calls Try.prog 18 #[.slice a l.length c, .string x.who] W fun e w' => e = .returned (.int .i64 (k : Int)) ∧ w' = W) := fun x W hx hb => by
    have h1 := whoAt_any a c l x.who W (by omega) (hs.below hb)
    cases hf : l.findIdx? (Ls.hasWho x.who) with
    | some k =>
      rw [hf] at h1
      exact ⟨k, h1⟩
    | none =>
      rw [List.findIdx?_eq_none_iff] at hf
      have := hf x (live_sub hx)
      simp [Ls.hasWho] at this
  have HU : Hid (∀ x ∈ live l later, later ≤ x.un) := fun x hx => live_un hx
  generalize live l now = A at *
  generalize live l later = D at *
  obtain ⟨M, hM⟩ : ∃ M, M = A.length := ⟨_, rfl⟩
  rw [← hM] at HD1 HD2 HD3 HS hlv hdl
  obtain ⟨K, hK⟩ : ∃ K, K = D.length := ⟨_, rfl⟩
  rw [← hK] at HD3 HD4 HS2 hdl
  obtain ⟨N, hN⟩ : ∃ N, N = l.length := ⟨_, rfl⟩
  rw [← hN] at HD1 HD4 HW hlv hl20 ⊢
  have HK := Lib.hid hK
  have hwr : IntKind.i64.wrap ((M : Int) + ((N : Int) - (M : Int))) = (N : Int) := by rw [IntKind.wrap_i64]; omega
  have d1 : decide (later < now) = false := decide_eq_false hl
  have d2 : decide (9999 < later) = false := decide_eq_false hl2
  have d3 : decide ((M : Int) < (K : Int)) = false := decide_eq_false (by omega)
  have d4 : decide (M < K) = false := decide_eq_false (by omega)
  clear hs h0 hA hAA hAl hAD hll hM hN hK
  go_enter Try.func4, Try.ntmps4
  go_wp2_with fail
  refine (HBe.out _).mono ?_
  rintro e w1 ⟨rfl, hb1⟩
  go_wp2_with fail
  refine (HD1.out _ hb1).mono ?_
  rintro e w2 ⟨a2, c2, rfl, hl2', hb2⟩
  have HL2 := Lib.hid hl2'
  have HB2 := Lib.hid (btr hb1 hb2)
  clear hl2' hb1 hb2 HD1
  go_wp2_with fail
  refine (HD2.out _ _ _ HL2.out).mono ?_
  rintro e w3 ⟨a3, c3, rfl, hl3, hb3⟩
  have HL3 := Lib.hid hl3
  replace HL2 := Lib.hid (HL2.out.below hb3)
  have HB3 := Lib.hid (btr HB2.out hb3)
  clear hl3 hb3 HD2 HB2
  go_wp2_with fail
  refine (HS.out _ _ _ _ _ HL2.out HL3.out).mono ?_
  rintro e w4 ⟨rfl, hb4⟩
  have HB4 := Lib.hid (btr HB3.out hb4)
  replace HL2 := Lib.hid (HL2.out.below hb4)
  clear hb4 HS HL3 HB3
  go_wp2_with fail
  refine (HD3.out _ _ _ HL2.out).mono ?_
  rintro e w5 ⟨a5, c5, n5, rfl, hl5, hb5⟩
  have HB5 := Lib.hid (btr HB4.out hb5)
  have HL5 := Lib.hid hl5
  clear hb5 HL2 HB4 hl5 HD3
  go_wp2_with fail
  refine (HD4.out _ HB5.out).mono ?_
  rintro e w6 ⟨a6, c6, n6, rfl, hl6, hb6⟩
  have HB6 := Lib.hid (btr HB5.out hb6)
  have HL6 := Lib.hid hl6
  replace HL5 := Lib.hid (HL5.out.below hb6)
  clear hb6 HB5 hl6 HD4
  go_wp2_with fail
  refine (HS2.out _ _ _ _ _ HL5.out HL6.out).mono ?_
  rintro e w7 ⟨rfl, hb7⟩
  have HB7 := Lib.hid (btr HB6.out hb7)
  replace HL6 := Lib.hid (HL6.out.below hb7)
  clear hb7 HS2 HL5 HB6
  go_wp2_with fail
  go_loopw [6, 17] (fun vr vi wr => ∃ i : Nat, vr = .bool false ∧ vi = .int .i64 i ∧ i ≤ K ∧ Hid (Below w7.heap.size w7 wr)) (fun _ vi _ => K - (intOf vi).toNat)
  case atStart => exact ⟨0, rfl, rfl, Nat.zero_le _, Below.refl _ _⟩
  case round =>
    obtain ⟨i, rfl, rfl, hi, HBi⟩ := hrel
    by_cases hiK : i < K
    · have hil : i < D.length := by have := HK.out; omega
      obtain ⟨g, o, rfl, hg, c0, c1, c2', c3', c4⟩ := (HL6.out.below HBi.out).ls i hil
      obtain ⟨k, hk⟩ := HW.out D[i] wr (List.getElem_mem hil) (btr HB7.out HBi.out)
      have HWk := Lib.hid hk
      have hun : decide (D[i].un < later) = false := decide_eq_false (by have := HU.out D[i] (List.getElem_mem hil); omega)
      have hiz : (i : Int) < (K : Int) := by omega
      have hi0 : (0 : Int) ≤ (i : Int) := by omega
      have hk0 : decide ((k : Int) < 0) = false := decide_eq_false (by omega)
      generalize D[i] = x at *
      clear hk hg c0 c1 c2'
      go_wp2_with fail
      refine HWk.out.mono ?_
      rintro e wy ⟨rfl, rfl⟩
      go_wp2_with fail
      go_roundw
      case rel =>
        first | exact ⟨i + 1, rfl, by go_num, by omega, HBi⟩ | exact ⟨_, _, _, _, _, _, _, _, _, _, _, _, _, _, _, _, _, _, _, _, _, _, _, _, _, ⟨i + 1, rfl, by go_num, by omega, HBi⟩, rfl⟩
      case measure => simp [intOf]; omega
    · have ei : K = i := by omega
      subst ei
      have hkk : ¬ (K : Int) < (K : Int) := by omega
      go_wp2_with fail
      go_ret
      exact ⟨rfl, btr HB7.out HBi.out⟩
end Go.Proofs.Ytiiankekobgebaa
