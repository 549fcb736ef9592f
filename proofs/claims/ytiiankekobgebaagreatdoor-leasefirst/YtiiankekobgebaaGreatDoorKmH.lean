/- The document's addresses at a great-door seat: IsWho, AddrOf, NextOf, LastOf. -/
import Derived.Test.YtiiankekobgebaaGreatDoorKmD
import Derived.Test.YtiiankekobgebaaGreatDoorNext
import Derived.Test.YtiiankekobgebaaGreatDoorPfH
import Derived.Test.YtiiankekobgebaaGreatDoorKmB
import Derived.Deep.RegionHeld3
set_option linter.unusedVariables false
set_option linter.unusedSimpArgs false
namespace Go.Proofs.YtiiankekobgebaaGreatDoor
open Go.RowKit Go.Shelf

theorem between_any (n a b : Int) (w : World) :
    Calls Tryz.prog 37 #[.int .i64 n, .int .i64 a, .int .i64 b] w fun e w' => e = .returned (.bool (decide (a ≤ n) && decide (n ≤ b))) ∧ w' = w := by
  by_cases h : a ≤ n
  · have hd : decide (a ≤ n) = true := decide_eq_true h
    rw [hd, Bool.true_and]
    go_enter Tryz.func37, Tryz.ntmps37
    go_wp2
    go_ret
    exact ⟨rfl, rfl⟩
  · have hd : decide (a ≤ n) = false := decide_eq_false h
    rw [hd, Bool.false_and]
    go_enter Tryz.func37, Tryz.ntmps37
    go_wp2
    go_ret
    exact ⟨rfl, rfl⟩
theorem btw_in (n a b : Int) (w : World) (h1 : a ≤ n) (h2 : n ≤ b) :
    Calls Tryz.prog 37 #[.int .i64 n, .int .i64 a, .int .i64 b] w fun e w' => e = .returned (.bool true) ∧ w' = w := by
  have := between_any n a b w
  rw [decide_eq_true h1, decide_eq_true h2] at this
  exact this
theorem btw_out (n a b : Int) (w : World) (h : n < a ∨ b < n) :
    Calls Tryz.prog 37 #[.int .i64 n, .int .i64 a, .int .i64 b] w fun e w' => e = .returned (.bool false) ∧ w' = w := by
  have := between_any n a b w
  rcases h with h | h
  · rw [decide_eq_false (show ¬ a ≤ n by omega), Bool.false_and] at this
    exact this
  · rw [decide_eq_false (show ¬ n ≤ b by omega), Bool.and_false] at this
    exact this
theorem rwide_any (v : Bool) (hi lo : Int) (w : World) :
    Calls Tryz.prog 64 #[.agg #[.bool v, .int .u64 hi, .int .u64 lo]] w fun e w' => e = .returned (.int .i64 (wid v)) ∧ Below w.heap.size w w' := by
  have B0 : Hid (Below w.heap.size w (w.alloc (.cells #[.bool v, .int .u64 hi, .int .u64 lo] 24))) := bal (Below.refl _ _) _
  cases v
  all_goals
    go_enter Tryz.func64, Tryz.ntmps64
    go_wp2
    go_ret
    exact ⟨rfl, B0.out⟩
set_option maxHeartbeats 8000000 in
theorem rwho_any (s : ByteArray) (w : World) (hs : s.size ≤ maxLen) : Calls Tryz.prog 12 #[.string s] w fun e w' => e = .returned (.bool (whoB s)) ∧ w' = w := by
  unfold maxLen at hs
  obtain ⟨R, hR⟩ : ∃ R, R = whoB s := ⟨_, rfl⟩
  rw [← hR]
  have HR := Lib.hid hR
  clear hR
  have HBt : Hid (∀ (n a b : Int) (w : World), Calls Tryz.prog 37 #[.int .i64 n, .int .i64 a, .int .i64 b] w fun e w' => e = .returned (.bool (decide (a ≤ n) && decide (n ≤ b))) ∧ w' = w) := between_any
  go_enter Tryz.func12, Tryz.ntmps12
  go_wp2
  go_loop [3] (fun i => ∃ k : Nat, i = .int .i64 k ∧ k ≤ s.size ∧ Hid ((s.data.toList.take k).all whoC = true)) (fun i => s.size - (intOf i).toNat)
  case atStart => exact ⟨0, rfl, Nat.zero_le _, by simp [Hid]⟩
  case round =>
    obtain ⟨k, rfl, hk, hh⟩ := hrel
    by_cases hlt : k < s.size
    · have hltz : (k : Int) < (s.size : Int) := by omega
      have hsn := who_snoc s k hlt
      rw [hh.out, Bool.true_and] at hsn
      have HS : Hid ((s.data.toList.take (k + 1)).all whoC = whoC s[k]) := hsn
      have HBad : Hid (whoC s[k] = false → R = false) := fun h => by rw [HR.out, whoB, who_bad s k hlt h]; simp
      have HW : Hid (whoC s[k] = ((decide ((97 : Int) ≤ (s[k].toNat : Int)) && decide ((s[k].toNat : Int) ≤ 122)) || (decide ((48 : Int) ≤ (s[k].toNat : Int)) && decide ((s[k].toNat : Int) ≤ 57)))) := by
        show whoC s[k] = _
        unfold whoC
        congr 1 <;> congr 1 <;> exact decide_eq_decide.2 (by omega)
      clear hsn hh
      obtain ⟨bw, hbw⟩ : ∃ bw : Int → Int → Bool, bw = fun a b => decide (a ≤ (s[k].toNat : Int)) && decide ((s[k].toNat : Int) ≤ b) := ⟨_, rfl⟩
      have HB2 : Hid (∀ (a b : Int) (w : World), Calls Tryz.prog 37 #[.int .i64 (wrap64 (s[k].toNat : Int)), .int .i64 a, .int .i64 b] w fun e w' => e = .returned (.bool (bw a b)) ∧ w' = w) := fun a b w => by
        have hx : wrap64 (s[k].toNat : Int) = (s[k].toNat : Int) := by have := s[k].toNat_lt; unfold wrap64; omega
        rw [hbw, hx]; exact between_any _ a b w
      have HW2 : Hid (whoC s[k] = (bw 97 122 || bw 48 57)) := by rw [Hid, HW.out, hbw]
      clear hbw HW
      cases h1 : bw 97 122
      · cases h2 : bw 48 57
        · have H1 := Lib.hid h1
          have H2 := Lib.hid h2
          go_wp2_with (go_at_call 37; refine (HB2.out _ _ _).mono ?_; rintro e w' ⟨rfl, rfl⟩)
          go_ret
          exact ⟨congrArg (fun r => Ending.returned (Value.bool r)) (HBad.out (by rw [HW2.out, H1.out, H2.out]; rfl)).symm, rfl⟩
        · have H1 := Lib.hid h1
          have H2 := Lib.hid h2
          go_wp2_with (go_at_call 37; refine (HB2.out _ _ _).mono ?_; rintro e w' ⟨rfl, rfl⟩)
          go_round
          case rel => exact ⟨k + 1, by go_num, by omega, by rw [Hid, HS.out, HW2.out, H1.out, H2.out]; rfl⟩
          case measure => simp [intOf]; omega
      · have H1 := Lib.hid h1
        have H2 : Hid (bw 48 57 = bw 48 57) := rfl
        go_wp2_with (go_at_call 37; refine (HB2.out _ _ _).mono ?_; rintro e w' ⟨rfl, rfl⟩)
        go_round
        case rel => exact ⟨k + 1, by go_num, by omega, by rw [Hid, HS.out, HW2.out, H1.out]; rfl⟩
        case measure => simp [intOf]; omega
    · have hltz : ¬ (k : Int) < (s.size : Int) := by omega
      have hd := hh.out
      rw [List.take_of_length_le (by simp; omega)] at hd
      have HD : Hid _ := hd
      clear hd hh
      have HB3 : Hid (∀ w : World, Calls Tryz.prog 37 #[.int .i64 (s.size : Int), .int .i64 1, .int .i64 8] w fun e w' => e = .returned (.bool R) ∧ w' = w) := fun w => by
        have e : R = (decide ((1 : Int) ≤ (s.size : Int)) && decide ((s.size : Int) ≤ 8)) := by
          rw [HR.out, whoB, HD.out, Bool.and_true]
          congr 1 <;> exact decide_eq_decide.2 (by omega)
        rw [e]
        exact between_any _ 1 8 w
      go_wp2_with (go_at_call 37; refine (HB3.out _).mono ?_; rintro e w' ⟨rfl, rfl⟩)
      go_ret
      exact ⟨rfl, rfl⟩
theorem take_snoc (l : List UInt8) (k : Nat) (h : k < l.length) : l.take (k + 1) = l.take k ++ [l[k]] := List.take_succ_eq_append_getElem h
theorem vbin_snoc (l : List UInt8) (c : UInt8) : vbin 0 (l ++ [c]) = vbin 0 l * 2 + bitv c := by rw [vbin_append, vbin, vbin]
set_option maxHeartbeats 8000000 in
set_option maxRecDepth 100000 in
theorem addrOf_any (s : ByteArray) (w : World) (hs : s.size ≤ 128) (hb : IsBin s.data.toList) :
    Calls Tryz.prog 39 #[.string s] w fun e w' => e = .returned (.agg #[.bool (decide (s.size = 128)), .int .u64 (vbin 0 (s.data.toList.take (s.size - 64))), .int .u64 (vbin 0 (s.data.toList.drop (s.size - 64)))]) ∧ Below w.heap.size w w' := by
  have hl := size_list s
  obtain ⟨b8, hb8⟩ : ∃ b, ((s.size : Int) == 128) = b := ⟨_, rfl⟩
  have HB8 : Hid (decide (s.size = 128) = b8) := by
    rw [Hid, ← hb8]
    by_cases h : s.size = 128
    · simp [h]
    · have : ((s.size : Int) == 128) = false := by rw [beq_eq_false_iff_ne]; omega
      rw [this]; simp [h]
  obtain ⟨N, hN⟩ : ∃ N, N = s.size := ⟨_, rfl⟩
  have HN : Hid (N = s.size) := hN
  go_enter Tryz.func39, Tryz.ntmps39
  go_wp2_with fail
  go_loopw [4] (fun vi wr => ∃ (k : Nat) (h l : Int), vi = .int .i64 k ∧ k ≤ N ∧ 0 ≤ h ∧ h < 18446744073709551616 ∧ 0 ≤ l ∧ l < 18446744073709551616 ∧
      wr = (w.alloc (.cells #[.bool false, .int .u64 0, .int .u64 0] 24)).alloc (.cells #[.bool b8, .int .u64 h, .int .u64 l] 24) ∧
      Hid (h = (vbin 0 (s.data.toList.take (min k (N - 64))) : Nat) ∧ l = (vbin 0 ((s.data.toList.take k).drop (N - 64)) : Nat)))
    (fun vi _ => N - (intOf vi).toNat)
  case atStart => exact ⟨0, 0, 0, rfl, Nat.zero_le _, by omega, by omega, by omega, by omega, rfl, by simp [vbin], by simp [vbin]⟩
  case round =>
    obtain ⟨k, h, l, rfl, hk, h0, h1, l0, l1, rfl, hh⟩ := hrel
    have hN := HN.out
    by_cases hkN : k < N
    · have hks : k < s.size := by omega
      have hmem : s[k] ∈ s.data.toList := by rw [← data_get s k hks]; exact List.getElem_mem _
      have hbit := hb _ hmem
      have hc1 : 48 ≤ (s[k].toNat : Int) ∧ (s[k].toNat : Int) ≤ 49 := by rcases hbit with h | h <;> rw [h] <;> decide
      obtain ⟨hc1, hc2⟩ := hc1
      have hbv : (s[k].toNat : Int) - 48 = (bitv s[k] : Nat) := by rcases hbit with h | h <;> simp [bitv, h]
      have hki : (k : Int) < (s.size : Int) := by omega
      have hk0 : (0 : Int) ≤ (k : Int) := by omega
      have hsk : s[k]? = some s[k] := by simp [hks]
      have hsn := take_snoc s.data.toList k (by omega)
      rw [data_get s k hks] at hsn
      obtain ⟨e1, e2⟩ := hh.out
      by_cases hc : 64 < N - k
      · have hci : 64 < (s.size : Int) - (k : Int) := by omega
        have hlt : h < 9223372036854775808 := by
          rw [e1]
          have h3 := vbin_lt0 (s.data.toList.take (min k (N - 64)))
          have h4 : 2 ^ (s.data.toList.take (min k (N - 64))).length ≤ 2 ^ 63 := Nat.pow_le_pow_right (by decide) (by rw [List.length_take]; omega)
          omega
        have HR : Hid (2 * h + ((s[k].toNat : Int) - 48) = (vbin 0 (s.data.toList.take (min (k + 1) (N - 64))) : Nat) ∧ l = (vbin 0 ((s.data.toList.take (k + 1)).drop (N - 64)) : Nat)) := by
          constructor
          · rw [show min (k + 1) (N - 64) = k + 1 by omega, hsn, vbin_snoc, hbv, e1, show min k (N - 64) = k by omega]; omega
          · rw [e2, List.drop_eq_nil_of_le (by rw [List.length_take]; omega), List.drop_eq_nil_of_le (by rw [List.length_take]; omega)]
        clear hsn e1 e2 hh hbit hbv hmem hc
        go_wp2_with fail
        exact ⟨⟨k + 1, _, _, by go_num, by omega, by omega, by omega, by omega, by omega, rfl, HR⟩, by simp [intOf]; omega⟩
      · have hci : ¬ 64 < (s.size : Int) - (k : Int) := by omega
        have hlt : l < 9223372036854775808 := by
          rw [e2]
          have h3 := vbin_lt0 ((s.data.toList.take k).drop (N - 64))
          have h4 : 2 ^ ((s.data.toList.take k).drop (N - 64)).length ≤ 2 ^ 63 := Nat.pow_le_pow_right (by decide) (by rw [List.length_drop, List.length_take]; omega)
          omega
        have HR : Hid (h = (vbin 0 (s.data.toList.take (min (k + 1) (N - 64))) : Nat) ∧ 2 * l + ((s[k].toNat : Int) - 48) = (vbin 0 ((s.data.toList.take (k + 1)).drop (N - 64)) : Nat)) := by
          constructor
          · rw [show min (k + 1) (N - 64) = N - 64 by omega, e1, show min k (N - 64) = N - 64 by omega]
          · rw [hsn, List.drop_append_of_le_length (by rw [List.length_take]; omega), vbin_snoc, hbv, e2]; omega
        clear hsn e1 e2 hh hbit hbv hmem hc
        go_wp2_with fail
        exact ⟨⟨k + 1, _, _, by go_num, by omega, by omega, by omega, by omega, by omega, rfl, HR⟩, by simp [intOf]; omega⟩
    · have hk2 : k = N := by omega
      have HR : Hid (h = (vbin 0 (s.data.toList.take (s.size - 64)) : Nat) ∧ l = (vbin 0 (s.data.toList.drop (s.size - 64)) : Nat)) := by
        obtain ⟨e1, e2⟩ := hh.out
        rw [hk2, hN] at e1 e2
        rw [show min s.size (s.size - 64) = s.size - 64 by omega] at e1
        rw [List.take_of_length_le (by omega)] at e2
        exact ⟨e1, e2⟩
      have hki : ¬ (k : Int) < (s.size : Int) := by omega
      clear hh hk2
      go_wp2_with fail
      obtain ⟨e1, e2⟩ := HR.out
      rw [HB8.out, ← e1, ← e2]
      refine bodyPost_ret (v := .agg #[.bool b8, .int .u64 h, .int .u64 l]) ?_ rfl ⟨rfl, ?_⟩
      · simp [results, Tryz.results39, go_sem]
      · repeat (first | exact Below.refl _ _ | apply bal | apply Below.drew)
/-- Bytes lie in a row. -/
def RowU (W : World) (B : Nat) (R : List UInt8) : Prop := ∀ (j : Nat) (c : UInt8), R[j]? = some c → W.cell? ⟨B, j, none⟩ = some (.int .u8 (c.toNat : Int)) ∧ W.frozen? ⟨B, j, none⟩ = false
theorem RowU.set {W : World} {B : Nat} {R : List UInt8} (h : RowU W B R) (m : Nat) (hm : m < R.length) (c : UInt8) : RowU (W.setCell ⟨B, m, none⟩ (.int .u8 (c.toNat : Int))) B (R.set m c) := by
  intro j d hj
  by_cases hjm : j = m
  · subst hjm
    rw [List.getElem?_set_self hm] at hj
    injection hj with hj; subst hj
    obtain ⟨h1, h2⟩ := h j R[j] (List.getElem?_eq_getElem hm)
    exact ⟨World.cell?_setCell_same (w := W) (a := ⟨B, j, none⟩) (v := .int .u8 (c.toNat : Int)) (h := h1), by rw [World.frozen?_setCell]; exact h2⟩
  · rw [List.getElem?_set_ne (Ne.symm hjm)] at hj
    obtain ⟨h1, h2⟩ := h j d hj
    refine ⟨?_, by rw [World.frozen?_setCell]; exact h2⟩
    rw [World.cell?_setCell_other (w := W) (a := ⟨B, m, none⟩) (b := ⟨B, j, none⟩) (v := .int .u8 (c.toNat : Int)) (h := by intro e; injection e with _ e; exact hjm e.symm)]
    exact h1
theorem RowU.below {W W' : World} {B : Nat} {R : List UInt8} (h : RowU W B R) (hB : B < W.heap.size) (hb : Below W.heap.size W W') : RowU W' B R := by
  intro j d hj
  obtain ⟨h1, h2⟩ := h j d hj
  exact ⟨by rw [(bcell hb).1 B j hB]; exact h1, by rw [(bcell hb).2 B j hB]; exact h2⟩
theorem Has3.store {W : World} {p : Nat} {x y z : Value} (h : Has3 W p x y z) (x' y' z' : Value) :
    Has3 (((W.setCell ⟨p, 0, none⟩ x').setCell ⟨p, 1, none⟩ y').setCell ⟨p, 2, none⟩ z') p x' y' z' := by
  obtain ⟨h0, h1, h2, h3⟩ := h
  have ne : ∀ a b : Nat, a ≠ b → (⟨p, a, none⟩ : Addr) ≠ ⟨p, b, none⟩ := by intro a b hab e; injection e with _ e; exact hab e
  refine ⟨?_, ?_, ?_, by simpa using h3⟩
  · rw [World.cell?_setCell_other (h := ne 2 0 (by decide)), World.cell?_setCell_other (h := ne 1 0 (by decide))]
    exact World.cell?_setCell_same _ _ _ h0
  · rw [World.cell?_setCell_other (h := ne 2 1 (by decide))]
    exact World.cell?_setCell_same _ _ _ (u := y) (by rw [World.cell?_setCell_other (h := ne 0 1 (by decide))]; exact h1)
  · exact World.cell?_setCell_same _ _ _ (u := z) (by rw [World.cell?_setCell_other (h := ne 1 2 (by decide)), World.cell?_setCell_other (h := ne 0 2 (by decide))]; exact h2)
theorem conv_bytes (W : World) (s : ByteArray) : ∃ (c : Nat) (W2 : World), (convert 9 81 (.string s)).run Tryz.prog W = .ok (.slice (some ⟨W.heap.size, 0, none⟩) s.size c) W2 ∧
    RowU W2 W.heap.size s.data.toList ∧ Below W.heap.size W W2 ∧ W2.heap.size = W.heap.size + 1 := by
  refine ⟨_, _, run_bytes_of_string (P := Tryz.prog) W 9 81 5 s Tryz.underlying9 Tryz.underlying81 Tryz.underlying5, ?_, ?_, by simp⟩
  · intro j c hj
    have hj2 : j < s.data.toList.length := (List.getElem?_eq_some_iff.1 hj).1
    have hj3 : j < s.data.size := by simpa using hj2
    constructor
    · have hc : s.data[j] = c := by have := (List.getElem?_eq_some_iff.1 hj).2; simpa using this
      simp [World.cell?, bytesRow, World.alloc, World.drew, -World.alloc_eq, -World.drew_eq, Array.getElem?_append, hj3, hc]
      rw [if_pos (show j < s.size from hj3), Array.getElem?_eq_getElem hj3, hc]; rfl
    · rw [show W.heap.size = W.drew.heap.size from rfl, World.frozen?_alloc_mark]
      have hz : (bytesRow s (grownCap W s.size 0 5)).size = s.data.size + (grownCap W s.size 0 5 - s.size) := by simp [bytesRow]
      have : ¬ (bytesRow s (grownCap W s.size 0 5)).size ≤ j := by rw [hz]; omega
      simp [this]
  · exact (((Below.refl _ W).drew).alloc (Nat.le_refl _) _)
/-- The next bits: from the end, ones come to be noughts till a nought comes to be a one. -/
def nextR : List UInt8 → Option (List UInt8)
  | [] => none
  | c :: l => if c = 48 then some (49 :: l) else (nextR l).map (48 :: ·)
def vrev : List UInt8 → Nat
  | [] => 0
  | c :: l => bitv c + 2 * vrev l
theorem vrev_vbin (l : List UInt8) : vrev l.reverse = vbin 0 l := by
  suffices ∀ l : List UInt8, vrev l = vbin 0 l.reverse by rw [this, List.reverse_reverse]
  intro l
  induction l with
  | nil => rfl
  | cons c l ih => rw [vrev, List.reverse_cons, vbin_append, vbin, vbin, ih]; omega
theorem nextR_some : ∀ (l r : List UInt8), IsBin l → nextR l = some r → vrev r = vrev l + 1 ∧ r.length = l.length ∧ IsBin r
  | [], r, _, h => by simp [nextR] at h
  | c :: l, r, hb, h => by
    have hb' : IsBin l := fun c hc => hb c (List.mem_cons_of_mem _ hc)
    rw [nextR] at h
    split at h
    · rename_i hc; subst hc; injection h with h; subst h
      refine ⟨by simp [vrev, bitv]; omega, by simp, ?_⟩
      intro c hc
      rcases List.mem_cons.1 hc with rfl | hc
      · exact .inr rfl
      · exact hb' c hc
    · rename_i hc
      have hc : c = 49 := by rcases hb c (by simp) with h | h; exact absurd h hc; exact h
      subst hc
      obtain ⟨r', hr', rfl⟩ := Option.map_eq_some_iff.1 h
      obtain ⟨a, b, d⟩ := nextR_some l r' hb' hr'
      refine ⟨by simp [vrev, bitv, a]; omega, by simp [b], ?_⟩
      intro c hc
      rcases List.mem_cons.1 hc with rfl | hc
      · exact .inl rfl
      · exact d c hc
theorem nextR_none : ∀ (l : List UInt8), IsBin l → nextR l = none → vrev l + 1 = 2 ^ l.length
  | [], _, _ => rfl
  | c :: l, hb, h => by
    rw [nextR] at h
    split at h
    · cases h
    · rename_i hc
      have hc : c = 49 := by rcases hb c (by simp) with h | h; exact absurd h hc; exact h
      subst hc
      have := nextR_none l (fun c hc => hb c (List.mem_cons_of_mem _ hc)) (by simpa using h)
      rw [List.length_cons, Nat.pow_succ, vrev]; simp [bitv]; omega
theorem nextR_end (l : List UInt8) (m : Nat) (hm : m < l.length) : (l.take (m + 1)).reverse = l[m] :: (l.take m).reverse := by
  rw [take_snoc l m hm, List.reverse_append]; rfl
theorem eqA_iff (v : Bool) (hi lo : Int) (u : Bool) (yh yl : Int) : eqA v hi lo u yh yl = true ↔ v = u ∧ hi = yh ∧ lo = yl := by
  unfold eqA; simp [and_assoc]
theorem isLast_num (v : Bool) (hi lo : Nat) (h1 : hi < 18446744073709551616) (l1 : lo < 18446744073709551616) (hv : v = true ∨ (hi = 0 ∧ lo ≤ 4294967295)) :
    isLast v hi lo = true ↔ vbin 0 (bitsT v hi lo) + 1 = 2 ^ (bitsT v hi lo).length := by
  rw [bitsT_num v hi lo h1 l1 hv, bitsT_length, isLast, eqA_iff]
  cases v
  · simp at hv
    simp [mxH, mxL]; omega
  · simp [mxH, mxL]; omega
theorem chk_ok (v : Bool) (hi lo : Nat) (hv : v = true ∨ (hi = 0 ∧ lo ≤ 4294967295)) : chk v hi lo = 0 := by
  unfold chk
  rw [if_neg]
  rintro ⟨rfl, h⟩
  simp at hv; omega
theorem nx_none (v : Bool) (hi lo : Nat) (h1 : hi < 18446744073709551616) (l1 : lo < 18446744073709551616) (hv : v = true ∨ (hi = 0 ∧ lo ≤ 4294967295)) (hn : nextR (bitsT v hi lo).reverse = none) :
    nxV v hi lo = false ∧ nxH v hi lo = 0 ∧ nxL v hi lo = 0 ∧ nxB v hi lo = false := by
  have hr := nextR_none _ (fun c hc => bitsT_bin v hi lo c (List.mem_reverse.1 hc)) hn
  rw [vrev_vbin, List.length_reverse] at hr
  have hl := (isLast_num v hi lo h1 l1 hv).2 hr
  simp [nxV, nxH, nxL, nxB, hl]
theorem nx_some (v : Bool) (hi lo : Nat) (h1 : hi < 18446744073709551616) (l1 : lo < 18446744073709551616) (hv : v = true ∨ (hi = 0 ∧ lo ≤ 4294967295)) (R : List UInt8) (hn : nextR (bitsT v hi lo).reverse = some R.reverse) :
    IsBin R ∧ R.length = (bitsT v hi lo).length ∧ nxV v hi lo = v ∧ nxH v hi lo = (vbin 0 (R.take (R.length - 64)) : Nat) ∧ nxL v hi lo = (vbin 0 (R.drop (R.length - 64)) : Nat) ∧ nxB v hi lo = true ∧ v = decide (R.length = 128) := by
  obtain ⟨a, b, c⟩ := nextR_some _ _ (fun c hc => bitsT_bin v hi lo c (List.mem_reverse.1 hc)) hn
  rw [vrev_vbin, vrev_vbin] at a
  rw [List.length_reverse, List.length_reverse] at b
  have hlt := vbin_lt0 R
  have hbin : IsBin R := fun c' hc => c c' (List.mem_reverse.2 hc)
  have hnl : isLast v hi lo = false := by
    cases h : isLast v hi lo with
    | false => rfl
    | true =>
      have := (isLast_num v hi lo h1 l1 hv).1 h
      rw [b] at hlt; omega
  have hck := chk_ok v hi lo hv
  have hnum := bitsT_num v hi lo h1 l1 hv
  have hlen := bitsT_length v hi lo
  refine ⟨hbin, b, by simp [nxV, hck, hnl], ?_, ?_, by simp [nxB, hck, hnl], ?_⟩
  · rw [nxH, if_pos ⟨hck, hnl⟩]
    cases v
    · rw [b, hlen]
      simp at hv
      simp [vbin]; omega
    · rw [b, hlen]
      have hs := vbin_append (R.take 64) (R.drop 64) 0
      rw [List.take_append_drop, vbin_add (R.drop 64)] at hs
      have h4 := vbin_lt0 (R.drop 64)
      have h5 : (R.drop 64).length = 64 := by rw [List.length_drop, b, hlen]; rfl
      rw [h5] at hs h4
      simp only [if_true, show (128 : Nat) - 64 = 64 from rfl] at *
      omega
  · rw [nxL, if_pos ⟨hck, hnl⟩]
    cases v
    · rw [b, hlen]
      simp at hv
      simp; omega
    · rw [b, hlen]
      have hs := vbin_append (R.take 64) (R.drop 64) 0
      rw [List.take_append_drop, vbin_add (R.drop 64)] at hs
      have h4 := vbin_lt0 (R.drop 64)
      have h5 : (R.drop 64).length = 64 := by rw [List.length_drop, b, hlen]; rfl
      rw [h5] at hs h4
      simp only [if_true, show (128 : Nat) - 64 = 64 from rfl] at *
      omega
  · rw [b, hlen]; cases v <;> rfl
set_option maxHeartbeats 8000000 in
set_option maxRecDepth 100000 in
theorem nextOf_any (v : Bool) (hi lo : Nat) (w : World) (h1 : hi < 18446744073709551616) (l1 : lo < 18446744073709551616) (hv : v = true ∨ (hi = 0 ∧ lo ≤ 4294967295)) :
    Calls Tryz.prog 14 #[.agg #[.bool v, .int .u64 hi, .int .u64 lo]] w fun e w' =>
      e = .returned (.tuple #[.agg #[.bool (nxV v hi lo), .int .u64 (nxH v hi lo), .int .u64 (nxL v hi lo)], .bool (nxB v hi lo)]) ∧ Below w.heap.size w w' := by
  have HX : Hid (∀ w : World, Calls Tryz.prog 32 #[.agg #[.bool v, .int .u64 hi, .int .u64 lo]] w fun e w' => e = .returned (.string ⟨(bitsT v hi lo).toArray⟩) ∧ Below w.heap.size w w') := fun w => bits_any v hi lo w h1 l1
  have q1 : (w.alloc (.cells #[.bool v, .int .u64 hi, .int .u64 lo] 24)).heap.size = w.heap.size + 1 := by simp
  have HB0 : Hid (Below w.heap.size w ((w.alloc (.cells #[.bool v, .int .u64 hi, .int .u64 lo] 24)).alloc (.cells #[.bool false, .int .u64 0, .int .u64 0] 24))) := bal (bal (Below.refl _ _) _) _
  have P1 : Hid (Has3 ((w.alloc (.cells #[.bool v, .int .u64 hi, .int .u64 lo] 24)).alloc (.cells #[.bool false, .int .u64 0, .int .u64 0] 24)) (w.heap.size + 1) (.bool false) (.int .u64 0) (.int .u64 0)) := by
    have := Has3.new (w.alloc (.cells #[.bool v, .int .u64 hi, .int .u64 lo] 24)) (.bool false) (.int .u64 0) (.int .u64 0) 24
    rw [q1] at this; exact this
  have F1 : Hid (∀ o, ((w.alloc (.cells #[.bool v, .int .u64 hi, .int .u64 lo] 24)).alloc (.cells #[.bool false, .int .u64 0, .int .u64 0] 24)).frozen? ⟨w.heap.size + 1, o, none⟩ = false) := by
    intro o
    rw [World.frozen?_alloc_at _ _ _ _ q1.symm]
  clear q1
  have hl32 : (bitsT v hi lo).length ≤ 128 ∧ 0 < (bitsT v hi lo).length := by rw [bitsT_length]; split <;> omega
  go_enter Tryz.func14, Tryz.ntmps14
  go_wp2_with fail
  generalize (w.alloc (.cells #[.bool v, .int .u64 hi, .int .u64 lo] 24)).alloc (.cells #[.bool false, .int .u64 0, .int .u64 0] 24) = W0 at *
  refine (HX.out _).mono ?_
  rintro e w1 ⟨rfl, hb1⟩
  obtain ⟨c, W2, hcv, hrow, hb2, hsz2⟩ := conv_bytes w1 ⟨(bitsT v hi lo).toArray⟩
  have hb12 := btr hb1 hb2
  have P2 := P1.out.below hb12
  have F2 : ∀ o, W2.frozen? ⟨w.heap.size + 1, o, none⟩ = false := fun o => by rw [(bcell hb12).2 _ o P1.out.2.2.2]; exact F1.out o
  have HB2 := btr HB0.out hb12
  have hBlt : w1.heap.size < W2.heap.size := by omega
  have hBne : w.heap.size + 1 < w1.heap.size := Nat.lt_of_lt_of_le P1.out.2.2.2 hb1.size
  generalize hB : w1.heap.size = B at *
  have HNS : Hid (nextR (bitsT v hi lo).reverse = nextR (bitsT v hi lo).reverse) := rfl
  obtain ⟨N, hN⟩ : ∃ N, N = (bitsT v hi lo).length := ⟨_, rfl⟩
  have hsN : (⟨(bitsT v hi lo).toArray⟩ : ByteArray).size = N := by rw [hN]; rfl
  rw [hsN] at hcv
  have HN : Hid (N = (bitsT v hi lo).length) := hN
  have hrow' : RowU W2 B (bitsT v hi lo) := hrow
  have HROW : Hid (RowU W2 B (bitsT v hi lo)) := hrow'
  have HBB : Hid (Below w.heap.size w W2) := HB2
  have HP2 : Hid (Has3 W2 (w.heap.size + 1) (.bool false) (.int .u64 0) (.int .u64 0)) := P2
  have HF2 : Hid (∀ o, W2.frozen? ⟨w.heap.size + 1, o, none⟩ = false) := F2
  clear hrow hrow' hb1 hb2 hb12 P1 F1 P2 F2 HB0 HB2 hsz2 HX hB
  have hN1 : 0 < N := by omega
  have hN128 : N ≤ 128 := by omega
  clear hN hsN hl32
  go_wp2_with fail
  go_loopw [5] (fun vi wr => ∃ (k : Nat) (j : Int), vi = .int .i64 j ∧ Hid (j = (N : Int) - 1 - (k : Int)) ∧ k ≤ N ∧ Hid (Below w.heap.size w wr ∧ B < wr.heap.size ∧ RowU wr B ((bitsT v hi lo).take (N - k) ++ List.replicate k 48) ∧
      Has3 wr (w.heap.size + 1) (.bool false) (.int .u64 0) (.int .u64 0) ∧ (∀ o, wr.frozen? ⟨w.heap.size + 1, o, none⟩ = false) ∧
      nextR (bitsT v hi lo).reverse = (nextR ((bitsT v hi lo).take (N - k)).reverse).map (List.replicate k 48 ++ ·)))
    (fun vi _ => (intOf vi + 1).toNat)
  case atStart => exact ⟨0, _, rfl, (by omega : (N : Int) - 1 = (N : Int) - 1 - ((0 : Nat) : Int)), Nat.zero_le _, HBB.out, hBlt, by
      rw [Nat.sub_zero, List.take_of_length_le (by rw [← HN.out]; exact Nat.le_refl _), List.replicate_zero, List.append_nil]; exact HROW.out, HP2.out, HF2.out, by
      rw [Nat.sub_zero, List.take_of_length_le (by rw [← HN.out]; exact Nat.le_refl _)]; simp⟩
  case round =>
    obtain ⟨k, j, rfl, Hj, hk, HH⟩ := hrel
    obtain ⟨hbr, hBr, hrow, hP, hF, hnx⟩ := HH.out
    have hlen := HN.out
    by_cases hkN : k < N
    · obtain ⟨m, hm⟩ : ∃ m, m = N - 1 - k := ⟨_, rfl⟩
      have hjm : j = (m : Int) := by rw [Hj.out]; omega
      subst hjm
      have hmN : N - k = m + 1 := by omega
      rw [hmN] at hrow hnx
      have hml : m < (bitsT v hi lo).length := by omega
      rw [nextR_end _ m hml, nextR] at hnx
      have hin : ((bitsT v hi lo).take (m + 1) ++ List.replicate k 48)[m]? = some ((bitsT v hi lo)[m]) := by
        rw [List.getElem?_append_left (by rw [List.length_take]; omega), List.getElem?_take_of_lt (by omega), List.getElem?_eq_getElem hml]
      obtain ⟨hcm, hfm⟩ := hrow m _ hin
      have hset : ∀ d : UInt8, ((bitsT v hi lo).take (m + 1) ++ List.replicate k 48).set m d = (bitsT v hi lo).take m ++ d :: List.replicate k 48 := by
        intro d
        rw [take_snoc _ m hml, List.append_assoc, List.set_append_right _ _ (by rw [List.length_take]; omega), List.length_take, Nat.min_eq_left (by omega), Nat.sub_self]
        rfl
      have hrs := fun d => hrow.set m (by rw [List.length_append, List.length_take]; omega) d
      have hbit := bitsT_bin v hi lo _ (List.getElem_mem hml)
      have hmi : (m : Int) < (N : Int) := by omega
      have hm0 : (0 : Int) ≤ (m : Int) := by omega
      by_cases hc : (bitsT v hi lo)[m] = 48
      · rw [if_pos hc] at hnx
        rw [hc] at hcm
        have hrow49 := hrs 49
        rw [hset] at hrow49
        obtain ⟨R, hR⟩ : ∃ R, R = (bitsT v hi lo).take m ++ 49 :: List.replicate k 48 := ⟨_, rfl⟩
        rw [← hR] at hrow49
        have hRr : nextR (bitsT v hi lo).reverse = some R.reverse := by rw [hnx, hR]; simp
        obtain ⟨n1, n2, n3, n4, n5, n6, n7⟩ := nx_some v hi lo h1 l1 hv R hRr
        obtain ⟨X, hX⟩ : ∃ X : ByteArray, X = ⟨R.toArray⟩ := ⟨_, rfl⟩
        have hXR : X.data.toList = R := by rw [hX]
        have hXs : X.size = R.length := by rw [← hXR, size_list]
        have HA : Hid (∀ w : World, Calls Tryz.prog 39 #[.string X] w fun e w' => e = .returned (.agg #[.bool (nxV v hi lo), .int .u64 (nxH v hi lo), .int .u64 (nxL v hi lo)]) ∧ Below w.heap.size w w') := by
          intro w
          have := addrOf_any X w (by omega) (by rw [hXR]; exact n1)
          rw [hXR, hXs, ← n4, ← n5, ← n7] at this
          rw [n3]; exact this
        have hcv2 : (convert 81 9 (.slice (some ⟨B, 0, none⟩) N c)).run Tryz.prog (wr.setCell ⟨B, m, none⟩ (.int .u8 49)) = .ok (.string X) (wr.setCell ⟨B, m, none⟩ (.int .u8 49)) := by
          rw [hX]
          exact cvt _ B 0 c R N (by omega) (fun j hj => by rw [Nat.zero_add]; exact (hrow49 j R[j] (List.getElem?_eq_getElem hj)).1)
        have hP' : Has3 (wr.setCell ⟨B, m, none⟩ (.int .u8 49)) (w.heap.size + 1) (.bool false) (.int .u64 0) (.int .u64 0) := by
          obtain ⟨p0, p1, p2, p3⟩ := hP
          have hne : ∀ o, (⟨B, m, none⟩ : Addr) ≠ ⟨w.heap.size + 1, o, none⟩ := by intro o e; injection e with e; omega
          exact ⟨by rw [World.cell?_setCell_other (h := hne 0)]; exact p0, by rw [World.cell?_setCell_other (h := hne 1)]; exact p1, by rw [World.cell?_setCell_other (h := hne 2)]; exact p2, by simpa using p3⟩
        have HP' : Hid (Has3 (wr.setCell ⟨B, m, none⟩ (.int .u8 49)) (w.heap.size + 1) (.bool false) (.int .u64 0) (.int .u64 0)) := hP'
        have HF' : Hid (∀ o, (wr.setCell ⟨B, m, none⟩ (.int .u8 49)).frozen? ⟨w.heap.size + 1, o, none⟩ = false) := fun o => by rw [World.frozen?_setCell]; exact hF o
        have HB' : Hid (Below w.heap.size w (wr.setCell ⟨B, m, none⟩ (.int .u8 49))) := bse hbr (p := ⟨B, m, none⟩) (by show w.heap.size ≤ B; omega) _
        have HB6 : Hid (nxB v hi lo = true) := n6
        have hcm' : wr.cell? ⟨B, m, none⟩ = some (.int .u8 48) := hcm
        clear hrow49 hP' hrs hset hin hnx hrow HH hP hF hcm Hj hc hbit hml hmN hm hlen hR hRr n1 n2 n3 n4 n5 n6 n7 hX hXR hXs
        go_wp2_with fail
        refine (HA.out _).mono ?_
        rintro e w4 ⟨rfl, hb4⟩
        obtain ⟨p0, p1, p2, p3⟩ := HP'.out.below hb4
        have F4 : ∀ o, w4.frozen? ⟨w.heap.size + 1, o, none⟩ = false := fun o => by rw [(bcell hb4).2 _ o HP'.out.2.2.2]; exact HF'.out o
        have f0 := F4 0
        have f1 := F4 1
        have f2 := F4 2
        have HBr : Hid (Below w.heap.size w w4) := btr HB'.out hb4
        clear F4 hb4
        go_wp2_with fail
        refine bodyPost_ret (v := .tuple #[.agg #[.bool (nxV v hi lo), .int .u64 (nxH v hi lo), .int .u64 (nxL v hi lo)], .bool true]) ?_ rfl ⟨by rw [HB6.out], ?_⟩
        · obtain ⟨a0, a1, a2, _⟩ := Has3.store ⟨p0, p1, p2, p3⟩ (.bool (nxV v hi lo)) (.int .u64 (nxH v hi lo)) (.int .u64 (nxL v hi lo))
          generalize ((w4.setCell _ _).setCell _ _).setCell _ _ = WW at a0 a1 a2 ⊢
          simp [results, Tryz.results14, go_sem, a0, a1, a2]
        · exact bse (bse (bse HBr.out (Nat.le_succ _) _) (Nat.le_succ _) _) (Nat.le_succ _) _
      · have hc49 : (bitsT v hi lo)[m] = 49 := by rcases hbit with h | h; exact absurd h hc; exact h
        rw [if_neg hc] at hnx
        rw [hc49] at hcm
        have hrow48 := hrs 48
        rw [hset] at hrow48
        have hP' : Has3 (wr.setCell ⟨B, m, none⟩ (.int .u8 ((48 : UInt8).toNat : Int))) (w.heap.size + 1) (.bool false) (.int .u64 0) (.int .u64 0) := by
          obtain ⟨p0, p1, p2, p3⟩ := hP
          have hne : ∀ o, (⟨B, m, none⟩ : Addr) ≠ ⟨w.heap.size + 1, o, none⟩ := by intro o e; injection e with e; omega
          exact ⟨by rw [World.cell?_setCell_other (h := hne 0)]; exact p0, by rw [World.cell?_setCell_other (h := hne 1)]; exact p1, by rw [World.cell?_setCell_other (h := hne 2)]; exact p2, by simpa using p3⟩
        have HH2 : Hid (Below w.heap.size w (wr.setCell ⟨B, m, none⟩ (.int .u8 48)) ∧ B < (wr.setCell ⟨B, m, none⟩ (.int .u8 48)).heap.size ∧ RowU (wr.setCell ⟨B, m, none⟩ (.int .u8 48)) B ((bitsT v hi lo).take (N - (k + 1)) ++ List.replicate (k + 1) 48) ∧
            Has3 (wr.setCell ⟨B, m, none⟩ (.int .u8 48)) (w.heap.size + 1) (.bool false) (.int .u64 0) (.int .u64 0) ∧ (∀ o, (wr.setCell ⟨B, m, none⟩ (.int .u8 48)).frozen? ⟨w.heap.size + 1, o, none⟩ = false) ∧
            nextR (bitsT v hi lo).reverse = (nextR ((bitsT v hi lo).take (N - (k + 1))).reverse).map (List.replicate (k + 1) 48 ++ ·)) := by
          rw [show N - (k + 1) = m by omega]
          refine ⟨bse hbr (p := ⟨B, m, none⟩) (by show w.heap.size ≤ B; omega) _, by simpa using hBr, hrow48, hP', fun o => by rw [World.frozen?_setCell]; exact hF o, ?_⟩
          rw [hnx]
          cases nextR ((bitsT v hi lo).take m).reverse with
          | none => rfl
          | some r => simp [List.replicate_succ']
        have Hj2 : Hid ((m : Int) - 1 = (N : Int) - 1 - ((k + 1 : Nat) : Int)) := (by omega : (m : Int) - 1 = (N : Int) - 1 - ((k + 1 : Nat) : Int))
        have hcm' : wr.cell? ⟨B, m, none⟩ = some (.int .u8 49) := hcm
        clear hrow48 hP' hrs hset hin hnx hrow HH hP hF hcm Hj hc hc49 hbit hml hmN hm hlen
        go_wp2_with fail
        exact ⟨⟨k + 1, _, rfl, Hj2, by omega, HH2⟩, by simp [intOf]⟩
    · have hk2 : k = N := by omega
      have hj2 : j = -1 := by rw [Hj.out]; omega
      subst hj2
      have hnone : nextR (bitsT v hi lo).reverse = none := by rw [hnx, hk2, Nat.sub_self, List.take_zero]; rfl
      obtain ⟨e1, e2, e3, e4⟩ := nx_none v hi lo h1 l1 hv hnone
      have HE : Hid (nxV v hi lo = false ∧ nxH v hi lo = 0 ∧ nxL v hi lo = 0 ∧ nxB v hi lo = false) := ⟨e1, e2, e3, e4⟩
      have HBr : Hid (Below w.heap.size w wr) := hbr
      obtain ⟨p0, p1, p2, p3⟩ := hP
      have f0 := hF 0
      have f1 := hF 1
      have f2 := hF 2
      clear hnone hnx hrow HH hF hk2 Hj e1 e2 e3 e4 hbr hlen
      go_wp2_with fail
      obtain ⟨e1, e2, e3, e4⟩ := HE.out
      rw [e1, e2, e3, e4]
      refine bodyPost_ret (v := .tuple #[.agg #[.bool false, .int .u64 0, .int .u64 0], .bool false]) ?_ rfl ⟨rfl, ?_⟩
      · obtain ⟨a0, a1, a2, _⟩ := Has3.store ⟨p0, p1, p2, p3⟩ (.bool false) (.int .u64 0) (.int .u64 0)
        generalize ((wr.setCell _ _).setCell _ _).setCell _ _ = WW at a0 a1 a2 ⊢
        simp [results, Tryz.results14, go_sem, a0, a1, a2]
      · exact bse (bse (bse HBr.out (Nat.le_succ _) _) (Nat.le_succ _) _) (Nat.le_succ _) _
/-- Three cells of a variable that may be written. -/
def HasF (w : World) (p : Nat) (x y z : Value) : Prop := Has3 w p x y z ∧ ∀ o, w.frozen? ⟨p, o, none⟩ = false
theorem HasF.below {W w' : World} {p : Nat} {x y z : Value} (h : HasF W p x y z) (hb : Below W.heap.size W w') : HasF w' p x y z :=
  ⟨h.1.below hb, fun o => by rw [(bcell hb).2 p o h.1.2.2.2]; exact h.2 o⟩
theorem HasF.new (W : World) (x y z : Value) (t : Nat) : HasF (W.alloc (.cells #[x, y, z] t)) W.heap.size x y z :=
  ⟨Has3.new W x y z t, fun o => World.frozen?_alloc_at _ _ _ _ rfl⟩
theorem HasF.alloc {W : World} {p : Nat} {x y z : Value} (h : HasF W p x y z) (o : Obj) : HasF (W.alloc o) p x y z := h.below (bal (Below.refl _ _) _)
theorem HasF.drew {W : World} {p : Nat} {x y z : Value} (h : HasF W p x y z) : HasF W.drew p x y z := h
theorem HasF.other {W : World} {p q : Nat} {x y z : Value} (h : HasF W p x y z) (hn : p ≠ q) (a b c : Value) :
    HasF (((W.setCell ⟨q, 0, none⟩ a).setCell ⟨q, 1, none⟩ b).setCell ⟨q, 2, none⟩ c) p x y z := by
  have ne : ∀ i j : Nat, (⟨q, i, none⟩ : Addr) ≠ ⟨p, j, none⟩ := by intro i j e; injection e with e; exact hn e.symm
  obtain ⟨⟨h0, h1, h2, h3⟩, h4⟩ := h
  refine ⟨⟨?_, ?_, ?_, by simpa using h3⟩, fun o => by rw [World.frozen?_setCell, World.frozen?_setCell, World.frozen?_setCell]; exact h4 o⟩
  · rw [World.cell?_setCell_other (h := ne 2 0), World.cell?_setCell_other (h := ne 1 0), World.cell?_setCell_other (h := ne 0 0)]; exact h0
  · rw [World.cell?_setCell_other (h := ne 2 1), World.cell?_setCell_other (h := ne 1 1), World.cell?_setCell_other (h := ne 0 1)]; exact h1
  · rw [World.cell?_setCell_other (h := ne 2 2), World.cell?_setCell_other (h := ne 1 2), World.cell?_setCell_other (h := ne 0 2)]; exact h2
theorem HasF.store {W : World} {p : Nat} {x y z : Value} (h : HasF W p x y z) (a b c : Value) :
    HasF (((W.setCell ⟨p, 0, none⟩ a).setCell ⟨p, 1, none⟩ b).setCell ⟨p, 2, none⟩ c) p a b c := by
  obtain ⟨⟨h0, h1, h2, h3⟩, h4⟩ := h
  have ne : ∀ i j : Nat, i ≠ j → (⟨p, i, none⟩ : Addr) ≠ ⟨p, j, none⟩ := by intro i j hij e; injection e with _ e; exact hij e
  refine ⟨⟨?_, ?_, ?_, by simpa using h3⟩, fun o => by rw [World.frozen?_setCell, World.frozen?_setCell, World.frozen?_setCell]; exact h4 o⟩
  · rw [World.cell?_setCell_other (h := ne 2 0 (by decide)), World.cell?_setCell_other (h := ne 1 0 (by decide))]
    exact World.cell?_setCell_same _ _ _ h0
  · rw [World.cell?_setCell_other (h := ne 2 1 (by decide))]
    exact World.cell?_setCell_same _ _ _ (u := y) (by rw [World.cell?_setCell_other (h := ne 0 1 (by decide))]; exact h1)
  · exact World.cell?_setCell_same _ _ _ (u := z) (by rw [World.cell?_setCell_other (h := ne 1 2 (by decide)), World.cell?_setCell_other (h := ne 0 2 (by decide))]; exact h2)
def strLen : Value → Nat
  | .string b => b.size
  | _ => 0
theorem add_lists (x y : List UInt8) (W : World) (h : x.length + y.length ≤ 1073741824) : (Op.stringOp .add ⟨x.toArray⟩ ⟨y.toArray⟩).run Tryz.prog W = .ok (.string ⟨(x ++ y).toArray⟩) W := by
  rw [run_string_add_sum W _ _ (by simp [ByteArray.size]; omega), ByteArray.mk_append_mk]
/-- The last bits are all ones. -/
theorem last_parts {v : Bool} {hi lo b : Nat} (r : Right v hi lo b) : ∀ R, R = (bitsT v hi lo).take b ++ List.replicate ((bitsT v hi lo).length - b) 49 →
    IsBin R ∧ (R.length : Int) = wid v ∧ decide (R.length = 128) = v ∧ laH v hi b = ((vbin 0 (R.take (R.length - 64)) : Nat) : Int) ∧ laL v lo b = ((vbin 0 (R.drop (R.length - 64)) : Nat) : Int) := by
  intro R hR
  have h1 := r.h1
  have l1 := r.l1
  have b1 := r.b1
  have hlen := bits_wid v hi lo
  have hl : (R.length : Int) = wid v := by rw [hR, List.length_append, List.length_take, List.length_replicate]; omega
  obtain ⟨n1, _, ⟨i0, i1⟩, j0, j1⟩ := la_num r
  have hbin : IsBin R := by
    intro c hc
    rw [hR] at hc
    rcases List.mem_append.1 hc with h | h
    · exact take_bin v hi lo b c h
    · exact .inr (List.mem_replicate.1 h).2
  refine ⟨hbin, hl, parts_addr hl i0 j0 j1 ?_⟩
  rw [n1, ← bits_num r.c (by omega) (by omega), amt_nat v hi lo b b1]
  have hz := (vbin_zero _ (drop_bin v hi lo b)).2 (right_bits r)
  have hcut := vbin_cut (bitsT v hi lo) b
  have hones := vbin_ones ((bitsT v hi lo).length - b) (vbin 0 ((bitsT v hi lo).take b))
  have hp : 0 < 2 ^ ((bitsT v hi lo).drop b).length := Nat.pow_pos (by decide)
  rw [hR, vbin_append]
  rw [hz, Nat.add_zero] at hcut
  rw [hcut]
  rw [List.length_drop] at hp ⊢
  rw [Nat.add_mul, Nat.one_mul] at hones
  omega
theorem keep4F {w W W' : World} {p q : Nat} {v : Bool} {hi lo b : Int} {x y z : Value}
    (h : Has4 W p v hi lo b ∧ HasF W q x y z ∧ Below w.heap.size w W) (hb : Below W.heap.size W W') : Has4 W' p v hi lo b ∧ HasF W' q x y z ∧ Below w.heap.size w W' :=
  ⟨h.1.below hb, h.2.1.below hb, btr h.2.2 hb⟩
set_option maxHeartbeats 8000000 in
set_option maxRecDepth 100000 in
theorem filled_any (v : Bool) (hi lo b : Nat) (w : World) (r : Right v hi lo b) :
    Calls Tryz.prog 38 #[.agg #[.bool v, .int .u64 hi, .int .u64 lo, .int .i64 (b : Int)], .string ⟨#[49]⟩] w fun e w' => e = .returned (.agg #[.bool v, .int .u64 (laH v hi b), .int .u64 (laL v lo b)]) ∧ Below w.heap.size w w' := by
  have h1 := r.h1
  have l1 := r.l1
  have hb := r.b1
  have hw128 : wid v ≤ 128 := by unfold wid; split <;> omega
  have hlen := bits_wid v hi lo
  obtain ⟨g1, g2, g3, g4, g5⟩ := last_parts r _ rfl
  have HX : Hid (∀ w : World, Calls Tryz.prog 32 #[.agg #[.bool v, .int .u64 hi, .int .u64 lo]] w fun e w' => e = .returned (.string ⟨(bitsT v hi lo).toArray⟩) ∧ Below w.heap.size w w') := fun w => bits_any v hi lo w (by omega) (by omega)
  have hW : Hid (∀ w : World, Calls Tryz.prog 64 #[.agg #[.bool v, .int .u64 (hi : Int), .int .u64 (lo : Int)]] w fun e w' => e = .returned (.int .i64 (wid v)) ∧ Below w.heap.size w w') := fun w => rwide_any v hi lo w
  have s1 : ∀ W : World, (Instr.sliceAt 9 (.string ⟨(bitsT v hi lo).toArray⟩) none (some (.int .i64 (b : Int))) none).run Tryz.prog W = .ok (.string ⟨((bitsT v hi lo).take b).toArray⟩) W := fun W =>
    str_to ⟨(bitsT v hi lo).toArray⟩ b W (by show b ≤ (bitsT v hi lo).toArray.size; rw [List.size_toArray]; omega) (by show (bitsT v hi lo).toArray.size ≤ _; rw [List.size_toArray]; omega)
  have HA : Hid (∀ w : World, Calls Tryz.prog 39 #[.string ⟨((bitsT v hi lo).take b ++ List.replicate ((bitsT v hi lo).length - b) 49).toArray⟩] w fun e w' => e = .returned (.agg #[.bool v, .int .u64 (laH v hi b), .int .u64 (laL v lo b)]) ∧ Below w.heap.size w w') := by
    intro w
    have hz : (⟨((bitsT v hi lo).take b ++ List.replicate ((bitsT v hi lo).length - b) 49).toArray⟩ : ByteArray).size = ((bitsT v hi lo).take b ++ List.replicate ((bitsT v hi lo).length - b) 49).length := by show (List.toArray _).size = _; rw [List.size_toArray]
    have := addrOf_any ⟨((bitsT v hi lo).take b ++ List.replicate ((bitsT v hi lo).length - b) 49).toArray⟩ w (by omega) g1
    rw [hz] at this
    rw [g4, g5]
    have e3 : Value.bool v = Value.bool (decide (((bitsT v hi lo).take b ++ List.replicate ((bitsT v hi lo).length - b) 49).length = 128)) := by rw [g3]
    rw [e3]
    exact this
  obtain ⟨l, hl⟩ : ∃ l, l = bitsT v hi lo := ⟨_, rfl⟩
  obtain ⟨wv, hwv⟩ : ∃ wv, wv = wid v := ⟨_, rfl⟩
  rw [← hl] at HX s1 HA hlen
  rw [← hwv] at hW hb hw128 hlen
  clear g1 g2 g3 g4 g5 r hl hwv h1 l1
  generalize laH v hi b = H1 at *
  generalize laL v lo b = H2 at *
  have P1 : Hid (Has4 (w.alloc (.cells #[.bool v, .int .u64 hi, .int .u64 lo, .int .i64 (b : Int)] 26)) w.heap.size v hi lo b) := Has4.new w _ _ _ _ _
  have HB0 : Hid (Below w.heap.size w (w.alloc (.cells #[.bool v, .int .u64 hi, .int .u64 lo, .int .i64 (b : Int)] 26))) := bal (Below.refl _ _) _
  have HLN : Hid ((l.length : Int) = wv) := hlen
  clear hlen
  have q1 : (w.alloc (.cells #[.bool v, .int .u64 hi, .int .u64 lo, .int .i64 (b : Int)] 26)).heap.size = w.heap.size + 1 := by simp
  have F1 : Hid (HasF ((w.alloc (.cells #[.bool v, .int .u64 hi, .int .u64 lo, .int .i64 (b : Int)] 26)).alloc (.cells #[.bool false, .int .u64 0, .int .u64 0] 24)) (w.heap.size + 1) (.bool false) (.int .u64 0) (.int .u64 0)) := by
    have := HasF.new (w.alloc (.cells #[.bool v, .int .u64 hi, .int .u64 lo, .int .i64 (b : Int)] 26)) (.bool false) (.int .u64 0) (.int .u64 0) 24
    rw [q1] at this; exact this
  replace P1 : Hid (Has4 ((w.alloc (.cells #[.bool v, .int .u64 hi, .int .u64 lo, .int .i64 (b : Int)] 26)).alloc (.cells #[.bool false, .int .u64 0, .int .u64 0] 24)) w.heap.size v hi lo b) := P1.out.alloc _
  replace HB0 : Hid (Below w.heap.size w ((w.alloc (.cells #[.bool v, .int .u64 hi, .int .u64 lo, .int .i64 (b : Int)] 26)).alloc (.cells #[.bool false, .int .u64 0, .int .u64 0] 24))) := bal HB0.out _
  clear q1
  go_enter Tryz.func38, Tryz.ntmps38
  go_wp2_with fail
  generalize (w.alloc (.cells #[.bool v, .int .u64 hi, .int .u64 lo, .int .i64 (b : Int)] 26)).alloc (.cells #[.bool false, .int .u64 0, .int .u64 0] 24) = W at *
  have P1' : Hid (Has4 W.drew w.heap.size v hi lo b) := P1.out.drew
  have F1' : Hid (HasF W.drew (w.heap.size + 1) (.bool false) (.int .u64 0) (.int .u64 0)) := F1.out.drew
  have B' : Hid (Below w.heap.size w W.drew) := HB0.out.drew
  clear P1 F1 HB0
  go_region_held3 (fun w' => (w'.cell? ⟨w.heap.size, 0, none⟩ = some (.bool v) ∧ w'.cell? ⟨w.heap.size, 1, none⟩ = some (.int .u64 hi) ∧ w'.cell? ⟨w.heap.size, 2, none⟩ = some (.int .u64 lo) ∧ w'.cell? ⟨w.heap.size, 3, none⟩ = some (.int .i64 b) ∧ w.heap.size < w'.heap.size) ∧ HasF w' (w.heap.size + 1) (.bool false) (.int .u64 0) (.int .u64 0) ∧ Below w.heap.size w w')
    (first | exact ⟨P1'.out, F1'.out, B'.out⟩ | exact keep4F (by assumption) (by assumption))
    ((go_at_call 32; refine (HX.out _).mono ?_; rintro e w3 ⟨rfl, hb3⟩))
  have HS : Has4 w3 w.heap.size v hi lo b ∧ HasF w3 (w.heap.size + 1) (.bool false) (.int .u64 0) (.int .u64 0) ∧ Below w.heap.size w w3 := by assumption
  have HS' : Hid (Has4 w3 w.heap.size v hi lo b ∧ HasF w3 (w.heap.size + 1) (.bool false) (.int .u64 0) (.int .u64 0) ∧ Below w.heap.size w w3) := HS
  clear HS P1' F1' B' hb3
  go_wp2_with fail
  go_loopw [5] (fun vs wr => ∃ (j : Nat) (Y : ByteArray), vs = .string Y ∧ (Y.size : Int) ≤ 128 ∧ Hid (Y = ⟨(l.take b ++ List.replicate j 49).toArray⟩ ∧ Y.size = b + j ∧ b + j ≤ l.length ∧ Has4 wr w.heap.size v hi lo b ∧ HasF wr (w.heap.size + 1) (.bool false) (.int .u64 0) (.int .u64 0) ∧ Below w.heap.size w wr))
    (fun vs _ => 128 - strLen vs)
  case atStart =>
    have hb' := HLN.out
    have hz : (⟨(l.take b).toArray⟩ : ByteArray).size = b := by show (l.take b).toArray.size = b; rw [List.size_toArray, List.length_take]; omega
    exact ⟨0, ⟨(l.take b).toArray⟩, rfl, by rw [hz]; omega, by rw [List.replicate_zero, List.append_nil], hz, by omega, HS'.out⟩
  case round =>
    obtain ⟨j, Y, rfl, hY8, HY⟩ := hrel
    obtain ⟨y1, y2, y3, hP, hF, hB⟩ := HY.out
    have hln := HLN.out
    obtain ⟨p0, p1, p2, p3, p4⟩ := hP
    by_cases hlt : b + j < l.length
    · have hlti : (Y.size : Int) < wv := by omega
      have hp1 : ∀ W : World, (Op.stringOp .add Y ⟨#[49]⟩).run Tryz.prog W = .ok (.string ⟨(l.take b ++ List.replicate (j + 1) 49).toArray⟩) W := by
        intro W
        rw [y1, List.replicate_succ', ← List.append_assoc]
        exact add_lists _ [49] W (by simp; omega)
      have HZ : Hid ((⟨(l.take b ++ List.replicate (j + 1) 49).toArray⟩ : ByteArray).size = b + (j + 1)) := by
        show (l.take b ++ List.replicate (j + 1) 49).toArray.size = _
        rw [List.size_toArray, List.length_append, List.length_take, List.length_replicate]; omega
      have HH : Hid (Y.size = b + j ∧ Has4 wr w.heap.size v hi lo b ∧ HasF wr (w.heap.size + 1) (.bool false) (.int .u64 0) (.int .u64 0) ∧ Below w.heap.size w wr ∧ b + j < l.length ∧ (l.length : Int) = wv) := ⟨y2, ⟨p0, p1, p2, p3, p4⟩, hF, hB, hlt, hln⟩
      clear y1 y2 y3 hF hB HY hln hlt
      go_wp2_with fail
      refine (hW.out _).mono ?_
      rintro e w4 ⟨rfl, hb4⟩
      have HH2 : Hid (Has4 w4 w.heap.size v hi lo b ∧ HasF w4 (w.heap.size + 1) (.bool false) (.int .u64 0) (.int .u64 0) ∧ Below w.heap.size w w4) := by
        obtain ⟨_, a, b, c, _⟩ := HH.out
        exact ⟨a.below hb4, b.below hb4, btr c hb4⟩
      clear p0 p1 p2 p3 p4 hb4
      go_wp2_with fail
      obtain ⟨y2, _, _, _, hlt, hln⟩ := HH.out
      have hZ := HZ.out
      exact ⟨⟨j + 1, _, rfl, by omega, rfl, hZ, by omega, HH2.out⟩, by simp only [strLen]; omega⟩
    · have hj : j = l.length - b := by omega
      have hlti : ¬ (Y.size : Int) < wv := by omega
      have hYA : Y = ⟨(l.take b ++ List.replicate (l.length - b) 49).toArray⟩ := by rw [y1, hj]
      rw [← hYA] at HA
      have HH : Hid (HasF wr (w.heap.size + 1) (.bool false) (.int .u64 0) (.int .u64 0) ∧ Below w.heap.size w wr) := ⟨hF, hB⟩
      clear y1 y2 y3 hF hB HY hln hlt hj hYA
      go_wp2_with fail
      refine (hW.out _).mono ?_
      rintro e w4 ⟨rfl, hb4⟩
      replace HH : Hid (HasF w4 (w.heap.size + 1) (.bool false) (.int .u64 0) (.int .u64 0) ∧ Below w.heap.size w w4) := ⟨HH.out.1.below hb4, btr HH.out.2 hb4⟩
      clear p0 p1 p2 p3 p4 hb4
      go_wp2_with fail
      refine (HA.out _).mono ?_
      rintro e w5 ⟨rfl, hb5⟩
      obtain ⟨⟨p0, p1, p2, p3⟩, ff⟩ := HH.out.1.below hb5
      have f0 := ff 0
      have f1 := ff 1
      have f2 := ff 2
      have HBr : Hid (Below w.heap.size w w5) := btr HH.out.2 hb5
      clear ff HH hb5
      go_wp2_with fail
      refine bodyPost_ret (v := .agg #[.bool v, .int .u64 H1, .int .u64 H2]) ?_ rfl ⟨rfl, ?_⟩
      · obtain ⟨a0, a1, a2, _⟩ := Has3.store ⟨p0, p1, p2, p3⟩ (.bool v) (.int .u64 H1) (.int .u64 H2)
        generalize ((w5.setCell _ _).setCell _ _).setCell _ _ = WW at a0 a1 a2 ⊢
        simp [results, Tryz.results38, go_sem, a0, a1, a2]
      · exact bse (bse (bse HBr.out (Nat.le_succ _) _) (Nat.le_succ _) _) (Nat.le_succ _) _
set_option maxHeartbeats 8000000 in
set_option maxRecDepth 100000 in
theorem lastOf_any (v : Bool) (hi lo b : Nat) (w : World) (r : Right v hi lo b) :
    Calls Tryz.prog 13 #[.agg #[.bool v, .int .u64 hi, .int .u64 lo, .int .i64 (b : Int)]] w fun e w' => e = .returned (.agg #[.bool v, .int .u64 (laH v hi b), .int .u64 (laL v lo b)]) ∧ Below w.heap.size w w' := by
  have HF : Hid (∀ w : World, Calls Tryz.prog 38 #[.agg #[.bool v, .int .u64 hi, .int .u64 lo, .int .i64 (b : Int)], .string ⟨#[49]⟩] w fun e w' => e = .returned (.agg #[.bool v, .int .u64 (laH v hi b), .int .u64 (laL v lo b)]) ∧ Below w.heap.size w w') := fun w => filled_any v hi lo b w r
  generalize laH v hi b = H1 at *
  generalize laL v lo b = H2 at *
  have q1 : (w.alloc (.cells #[.bool v, .int .u64 hi, .int .u64 lo, .int .i64 (b : Int)] 26)).heap.size = w.heap.size + 1 := by simp
  have F1 : Hid (HasF ((w.alloc (.cells #[.bool v, .int .u64 hi, .int .u64 lo, .int .i64 (b : Int)] 26)).alloc (.cells #[.bool false, .int .u64 0, .int .u64 0] 24)) (w.heap.size + 1) (.bool false) (.int .u64 0) (.int .u64 0)) := by
    have := HasF.new (w.alloc (.cells #[.bool v, .int .u64 hi, .int .u64 lo, .int .i64 (b : Int)] 26)) (.bool false) (.int .u64 0) (.int .u64 0) 24
    rw [q1] at this; exact this
  have HB0 : Hid (Below w.heap.size w ((w.alloc (.cells #[.bool v, .int .u64 hi, .int .u64 lo, .int .i64 (b : Int)] 26)).alloc (.cells #[.bool false, .int .u64 0, .int .u64 0] 24))) := bal (bal (Below.refl _ _) _) _
  clear q1
  go_enter Tryz.func13, Tryz.ntmps13
  go_wp2_with fail
  generalize (w.alloc (.cells #[.bool v, .int .u64 hi, .int .u64 lo, .int .i64 (b : Int)] 26)).alloc (.cells #[.bool false, .int .u64 0, .int .u64 0] 24) = W at *
  refine (HF.out _).mono ?_
  rintro e w1 ⟨rfl, hb⟩
  obtain ⟨⟨p0, p1, p2, p3⟩, ff⟩ := F1.out.below hb
  have f0 := ff 0
  have f1 := ff 1
  have f2 := ff 2
  have HBr : Hid (Below w.heap.size w w1) := btr HB0.out hb
  clear ff F1 hb
  go_wp2_with fail
  refine bodyPost_ret (v := .agg #[.bool v, .int .u64 H1, .int .u64 H2]) ?_ rfl ⟨rfl, ?_⟩
  · obtain ⟨a0, a1, a2, _⟩ := Has3.store ⟨p0, p1, p2, p3⟩ (.bool v) (.int .u64 H1) (.int .u64 H2)
    generalize ((w1.setCell _ _).setCell _ _).setCell _ _ = WW at a0 a1 a2 ⊢
    simp [results, Tryz.results13, go_sem, a0, a1, a2]
  · exact bse (bse (bse HBr.out (Nat.le_succ _) _) (Nat.le_succ _) _) (Nat.le_succ _) _
theorem nextOf_ad (x : Ad) (w : World) (cx : chk x.v x.hi x.lo = 0) : Calls Tryz.prog 14 #[.agg #[.bool x.v, .int .u64 x.hi, .int .u64 x.lo]] w fun e w' => e = .returned (.tuple #[.agg #[.bool (nxV x.v x.hi x.lo), .int .u64 (nxH x.v x.hi x.lo), .int .u64 (nxL x.v x.hi x.lo)], .bool (nxB x.v x.hi x.lo)]) ∧ Below w.heap.size w w' := by
  obtain ⟨v, hi, lo, ⟨⟨h0, h1⟩, l0, l1⟩⟩ := x
  simp only at *
  obtain ⟨a, rfl⟩ := Int.eq_ofNat_of_zero_le h0
  obtain ⟨b, rfl⟩ := Int.eq_ofNat_of_zero_le l0
  exact nextOf_any v a b w (by omega) (by omega) (right_nat cx)
theorem next_end (v : Bool) : nxB v (adOf v (top v - 1)).hi (adOf v (top v - 1)).lo = false := by
  cases v <;> decide
end Go.Proofs.YtiiankekobgebaaGreatDoor
