/- The document's answer: TextOf, of sixteen bytes. -/
import Derived.Test.YtollaiabcnmebaaDoorRfT
import Derived.Test.YtollaiabcnmebaaDoorRfV
set_option linter.unusedVariables false
set_option linter.unusedSimpArgs false
namespace Go.Proofs.YtollaiabcnmebaaDoor
open Go.RowKit

theorem grps_length (hi lo : Int) : (grps hi lo).length = 8 := rfl
theorem bits_grp (hi lo : Nat) (h1 : hi < 18446744073709551616) (l1 : lo < 18446744073709551616) (i : Nat) (h : i < 8) :
    ∃ n : Nat, ((bitsT true hi lo).drop (16 * i)).take 16 = bin 16 n ∧ n % 65536 = (grps hi lo)[i]'(by rw [grps_length]; exact h) := by
  have hb : bitsT true hi lo = bin 64 hi ++ bin 64 lo := rfl
  have l64 : (bin 64 hi).length = 64 := bin_length _ _
  have up : ∀ k, k + 16 ≤ 64 → ((bin 64 hi ++ bin 64 lo).drop k).take 16 = ((bin 64 hi).drop k).take 16 := by
    intro k hk
    rw [List.drop_append_of_le_length (by omega), List.take_append_of_le_length (by rw [List.length_drop]; omega)]
  have dn : ∀ k, ((bin 64 hi ++ bin 64 lo).drop (64 + k)).take 16 = ((bin 64 lo).drop k).take 16 := by
    intro k
    rw [show 64 + k = (bin 64 hi).length + k by rw [l64], List.drop_length_add_append]
  have : i = 0 ∨ i = 1 ∨ i = 2 ∨ i = 3 ∨ i = 4 ∨ i = 5 ∨ i = 6 ∨ i = 7 := by omega
  rw [hb]
  rcases this with rfl | rfl | rfl | rfl | rfl | rfl | rfl | rfl
  · exact ⟨_, (up 0 (by decide)).trans (bin_sub 0 16 48 hi), by simp [grps, eight]; omega⟩
  · exact ⟨_, (up 16 (by decide)).trans (bin_sub 16 16 32 hi), by simp [grps, eight]; omega⟩
  · exact ⟨_, (up 32 (by decide)).trans (bin_sub 32 16 16 hi), by simp [grps, eight]; omega⟩
  · exact ⟨_, (up 48 (by decide)).trans (bin_sub 48 16 0 hi), by simp [grps, eight]; omega⟩
  · exact ⟨_, (dn 0).trans (bin_sub 0 16 48 lo), by simp [grps, eight]; omega⟩
  · exact ⟨_, (dn 16).trans (bin_sub 16 16 32 lo), by simp [grps, eight]; omega⟩
  · exact ⟨_, (dn 32).trans (bin_sub 32 16 16 lo), by simp [grps, eight]; omega⟩
  · exact ⟨_, (dn 48).trans (bin_sub 48 16 0 lo), by simp [grps, eight]; omega⟩

/-- Numbers lie in a row. -/
def RowN (W : World) (B : Nat) (R : List Nat) : Prop := ∀ (j : Nat) (n : Nat), R[j]? = some n → W.cell? ⟨B, j, none⟩ = some (.int .i64 (n : Int)) ∧ W.frozen? ⟨B, j, none⟩ = false
theorem RowN.set {W : World} {B : Nat} {R : List Nat} (h : RowN W B R) (m : Nat) (hm : m < R.length) (c : Nat) : RowN (W.setCell ⟨B, m, none⟩ (.int .i64 (c : Int))) B (R.set m c) := by
  intro j d hj
  by_cases hjm : j = m
  · subst hjm
    rw [List.getElem?_set_self hm] at hj
    injection hj with hj; subst hj
    obtain ⟨h1, h2⟩ := h j R[j] (List.getElem?_eq_getElem hm)
    exact ⟨World.cell?_setCell_same _ _ _ h1, by rw [World.frozen?_setCell]; exact h2⟩
  · rw [List.getElem?_set_ne (Ne.symm hjm)] at hj
    obtain ⟨h1, h2⟩ := h j d hj
    refine ⟨?_, by rw [World.frozen?_setCell]; exact h2⟩
    rw [World.cell?_setCell_other (h := by intro e; injection e with _ e; exact hjm e.symm)]
    exact h1
theorem RowN.below {W W' : World} {B : Nat} {R : List Nat} (h : RowN W B R) (hB : B < W.heap.size) (hb : Below W.heap.size W W') : RowN W' B R := by
  intro j d hj
  obtain ⟨h1, h2⟩ := h j d hj
  exact ⟨by rw [(bcell hb).1 B j hB]; exact h1, by rw [(bcell hb).2 B j hB]; exact h2⟩
theorem RowN.new (W : World) (t : Nat) : RowN (W.alloc (.cells #[.int .i64 0, .int .i64 0, .int .i64 0, .int .i64 0, .int .i64 0, .int .i64 0, .int .i64 0, .int .i64 0] t)) W.heap.size (List.replicate 8 0) := by
  intro j n hj
  have hj8 : j < 8 := by have := (List.getElem?_eq_some_iff.1 hj).1; simpa using this
  have hn : n = 0 := by have := List.mem_of_getElem? hj; exact (List.mem_replicate.1 this).2
  subst hn
  refine ⟨?_, World.frozen?_alloc_at _ _ _ _ rfl⟩
  have : j = 0 ∨ j = 1 ∨ j = 2 ∨ j = 3 ∨ j = 4 ∨ j = 5 ∨ j = 6 ∨ j = 7 := by omega
  rcases this with rfl | rfl | rfl | rfl | rfl | rfl | rfl | rfl <;> simp [go_sem]

set_option maxHeartbeats 16000000 in
set_option maxRecDepth 100000 in
theorem textOf6_any (hi lo : Nat) (w : World) (h1 : hi < 18446744073709551616) (l1 : lo < 18446744073709551616) :
    Calls Tryd.prog 9 #[.agg #[.bool true, .int .u64 hi, .int .u64 lo]] w fun e w' => e = .returned (.string ⟨(psix (grps hi lo)).toArray⟩) ∧ Below w.heap.size w w' := by
  have HX : Hid (∀ w : World, Calls Tryd.prog 21 #[.agg #[.bool true, .int .u64 hi, .int .u64 lo]] w fun e w' => e = .returned (.string ⟨(bitsT true hi lo).toArray⟩) ∧ Below w.heap.size w w') := fun w => bits_any true hi lo w h1 l1
  have HSL : Hid (∀ (i : Nat) (h : i < 8), ∃ X : ByteArray, (∀ W : World, (Instr.sliceAt 9 (.string ⟨(bitsT true hi lo).toArray⟩) (some (.int .i64 (16 * (i : Int)))) (some (.int .i64 (16 * (i : Int) + 16))) none).run Tryd.prog W = .ok (.string X) W) ∧
      ∀ w : World, Calls Tryd.prog 23 #[.string X] w fun e w' => e = .returned (.int .i64 (((grps hi lo).getD i 0 : Nat) : Int)) ∧ w' = w) := by
    intro i h
    obtain ⟨n, hn1, hn2⟩ := bits_grp hi lo h1 l1 i h
    refine ⟨⟨(bin 16 n).toArray⟩, fun W => ?_, fun w => ?_⟩
    · have := bits_slice true hi lo (16 * i) (16 * i + 16) W (by omega) (by rw [bitsT_length, if_pos rfl]; omega)
      rw [Nat.add_sub_cancel_left, hn1, show ((16 * i + 16 : Nat) : Int) = 16 * (i : Int) + 16 by omega, show ((16 * i : Nat) : Int) = 16 * (i : Int) by omega] at this
      exact this
    · have hf := few_bin 16 n (by decide)
      have := numberOf_any ⟨(bin 16 n).toArray⟩ w (by have := hf.1; omega) hf.2
      have h3 : vbin 0 (bin 16 n) = n % 65536 := nv_bin 16 n
      rw [getD_get _ _ (by rw [grps_length]; exact h), ← hn2, ← h3]; exact this
  have hgl : ∀ x ∈ grps hi lo, x < 65536 := grps_lt hi lo (by omega) (by omega)
  have HT : Hid (psix (grps hi lo) = psix (grps hi lo)) := rfl
  have h8 := grps_length hi lo
  obtain ⟨T, hT⟩ : ∃ T, T = psix (grps hi lo) := ⟨_, rfl⟩
  have HTT : Hid (T = psix (grps hi lo)) := hT
  rw [← hT]
  clear HT hT
  generalize grps hi lo = gs at *
  generalize hXX : (⟨(bitsT true hi lo).toArray⟩ : ByteArray) = XX at *
  clear hXX
  have HB0 : Hid (Below w.heap.size w (w.alloc (.cells #[.bool true, .int .u64 hi, .int .u64 lo] 24))) := bal (Below.refl _ _) _
  have c0 : (w.alloc (.cells #[.bool true, .int .u64 hi, .int .u64 lo] 24)).cell? ⟨w.heap.size, 0, none⟩ = some (.bool true) := by simp [go_sem]
  have hsz : w.heap.size < (w.alloc (.cells #[.bool true, .int .u64 hi, .int .u64 lo] 24)).heap.size := by simp
  go_enter Tryd.func9, Tryd.ntmps9
  go_wp2_with fail
  generalize w.alloc (.cells #[.bool true, .int .u64 hi, .int .u64 lo] 24) = W0 at *
  refine (HX.out _).mono ?_
  rintro e w1 ⟨rfl, hb1⟩
  have hc := (bcell hb1).1 w.heap.size 0 hsz
  rw [c0] at hc
  have B : Hid (Below w.heap.size w w1) := btr HB0.out hb1
  clear hb1 c0 hsz
  go_wp2_with fail
  have R1 : RowN (w1.alloc (.cells #[.int .i64 0, .int .i64 0, .int .i64 0, .int .i64 0, .int .i64 0, .int .i64 0, .int .i64 0, .int .i64 0] 47)) w1.heap.size (List.replicate 8 0) := RowN.new w1 _
  have B1 : Below w.heap.size w (w1.alloc (.cells #[.int .i64 0, .int .i64 0, .int .i64 0, .int .i64 0, .int .i64 0, .int .i64 0, .int .i64 0, .int .i64 0] 47)) := bal B.out _
  have hBlt : w1.heap.size < (w1.alloc (.cells #[.int .i64 0, .int .i64 0, .int .i64 0, .int .i64 0, .int .i64 0, .int .i64 0, .int .i64 0, .int .i64 0] 47)).heap.size := by simp
  have hBle : w.heap.size ≤ w1.heap.size := B.out.size
  generalize w1.alloc (.cells #[.int .i64 0, .int .i64 0, .int .i64 0, .int .i64 0, .int .i64 0, .int .i64 0, .int .i64 0, .int .i64 0] 47) = W1 at *
  have HR1 : Hid (RowN W1 w1.heap.size (List.replicate 8 0)) := R1
  have HB1 : Hid (Below w.heap.size w W1) := B1
  clear R1 B1 B hc HB0 HX
  generalize w1.heap.size = Bk at *
  go_loopw [5] (fun vi wr => ∃ (i : Nat), vi = .int .i64 i ∧ i ≤ 8 ∧ Hid (Below w.heap.size w wr ∧ Bk < wr.heap.size ∧ RowN wr Bk (gs.take i ++ List.replicate (8 - i) 0)))
    (fun vi _ => (8 - intOf vi).toNat)
  case atStart => exact ⟨0, rfl, by omega, HB1.out, hBlt, HR1.out⟩
  case round =>
    obtain ⟨i, rfl, hi8, HH⟩ := hrel
    obtain ⟨hbr, hBr, hrow⟩ := HH.out
    by_cases hi : i < 8
    · obtain ⟨Xi, hsl, hnum⟩ := HSL.out i hi
      have HNUM : Hid (∀ w : World, Calls Tryd.prog 23 #[.string Xi] w fun e w' => e = .returned (.int .i64 ((gs.getD i 0 : Nat) : Int)) ∧ w' = w) := hnum
      have hin : (gs.take i ++ List.replicate (8 - i) 0)[i]? = some 0 := by
        rw [List.getElem?_append_right (by rw [List.length_take]; omega), List.length_take, Nat.min_eq_left (by omega), Nat.sub_self, List.getElem?_replicate]; simp; omega
      obtain ⟨hcm, hfm⟩ := hrow i 0 hin
      have hset := hrow.set i (by rw [List.length_append, List.length_take, List.length_replicate]; omega) (gs.getD i 0)
      have hse : (gs.take i ++ List.replicate (8 - i) 0).set i (gs.getD i 0) = gs.take (i + 1) ++ List.replicate (8 - (i + 1)) 0 := by
        rw [getD_get _ _ (show i < gs.length by omega), List.set_append_right _ _ (by rw [List.length_take]; omega), List.length_take, Nat.min_eq_left (by omega), Nat.sub_self, show 8 - i = (8 - (i + 1)) + 1 by omega, List.replicate_succ, List.set_cons_zero, List.take_succ_eq_append_getElem (show i < gs.length by omega), List.append_assoc]
        rfl
      rw [hse] at hset
      have hii : (i : Int) < 8 := by omega
      have hi0 : (0 : Int) ≤ (i : Int) := by omega
      have HH2 : Hid (Below w.heap.size w (wr.setCell ⟨Bk, i, none⟩ (.int .i64 ((gs.getD i 0 : Nat) : Int))) ∧ Bk < (wr.setCell ⟨Bk, i, none⟩ (.int .i64 ((gs.getD i 0 : Nat) : Int))).heap.size ∧ RowN (wr.setCell ⟨Bk, i, none⟩ (.int .i64 ((gs.getD i 0 : Nat) : Int))) Bk (gs.take (i + 1) ++ List.replicate (8 - (i + 1)) 0)) :=
        ⟨bse hbr (p := ⟨Bk, i, none⟩) hBle _, by simpa using hBr, hset⟩
      clear hset hse hin hrow HH hnum
      generalize gs.getD i 0 = gi at *
      go_wp2_with fail
      refine (HNUM.out _).mono ?_
      rintro e w2 ⟨rfl, rfl⟩
      go_wp2_with fail
      exact ⟨⟨i + 1, by go_num, by omega, HH2⟩, by simp [intOf]; omega⟩
    · have hi8' : i = 8 := by omega
      subst hi8'
      have HROW : Hid (RowN wr Bk gs) := by
        have := hrow; rw [List.take_of_length_le (by omega), Nat.sub_self, List.replicate_zero, List.append_nil] at this; exact this
      have HBr : Hid (Below w.heap.size w wr) := hbr
      clear hrow HH hbr HR1 HB1 hBlt HSL
      go_wp2_with fail
      have hrowc : ∀ j (h : j < 8), wr.cell? ⟨Bk, j, none⟩ = some (.int .i64 ((gs.getD j 0 : Nat) : Int)) := fun j h => (HROW.out j _ (by rw [getD_get _ _ (by omega)]; exact List.getElem?_eq_getElem (by omega))).1
      have HROWC : Hid (∀ j (h : j < 8), wr.cell? ⟨Bk, j, none⟩ = some (.int .i64 ((gs.getD j 0 : Nat) : Int))) := hrowc
      clear hrowc HROW
      go_loop [6, 7, 8] (fun va vm vf => ∃ (f : Nat) (a m : Int), vf = .int .i64 f ∧ va = .int .i64 a ∧ vm = .int .i64 m ∧ f ≤ 8 ∧ -1 ≤ a ∧ a ≤ 8 ∧ 1 ≤ m ∧ m ≤ 8 ∧ Hid (drow gs f = (a, m)))
        (fun _ _ vf => (8 - intOf vf).toNat)
      case atStart => exact ⟨0, -1, 1, rfl, rfl, rfl, by omega, by omega, by omega, by omega, by omega, rfl⟩
      case round =>
        obtain ⟨f, a, m, rfl, rfl, rfl, hf8, a0, a1, m0, m1, HD⟩ := hrel
        by_cases hf : f < 8
        · have hfi : (f : Int) < 8 := by omega
          go_wp2_with fail
          go_loop [9] (fun vn => ∃ n : Nat, vn = .int .i64 n ∧ f + n ≤ 8 ∧ Hid (zr (gs.drop f) = n + zr (gs.drop (f + n))))
            (fun vn => (8 - intOf vn).toNat)
          case atStart => exact ⟨0, rfl, by omega, by rw [Hid, Nat.zero_add, Nat.add_zero]⟩
          case round =>
            obtain ⟨n, rfl, hfn, HZ⟩ := hrel
            by_cases hn8 : f + n < 8
            · have hcx := HROWC.out (f + n) hn8
              have hdr := List.drop_eq_getElem_cons (show f + n < gs.length by omega)
              have hgd := getD_get gs (f + n) (by omega)
              have hz := HZ.out
              rw [hdr, zr, ← hgd] at hz
              have hfni : (f : Int) + (n : Int) < 8 := by omega
              have hfn0 : (0 : Int) ≤ (f : Int) + (n : Int) := by omega
              by_cases hg : gs.getD (f + n) 0 = 0
              · rw [if_pos hg] at hz
                rw [hg] at hcx
                have HZ2 : Hid (zr (gs.drop f) = (n + 1) + zr (gs.drop (f + (n + 1)))) := by rw [Hid, hz, ← Nat.add_assoc f n 1]; omega
                clear hz hgd hdr HZ hg
                go_wp2_with fail
                exact ⟨⟨n + 1, by go_num, by omega, HZ2⟩, by simp [intOf]; omega⟩
              · rw [if_neg hg, Nat.add_zero] at hz
                have hgi : ¬ ((gs.getD (f + n) 0 : Nat) : Int) = 0 := by omega
                have hgb : (((gs.getD (f + n) 0 : Nat) : Int) == 0) = false := by rw [beq_eq_false_iff_ne]; exact hgi
                generalize gs.getD (f + n) 0 = gx at hcx hgi hgb
                by_cases hnm : m < (n : Int)
                · have HD2 : Hid (drow gs (f + 1) = ((f : Int), (n : Int))) := by rw [Hid, drow, hz, HD.out, if_pos hnm]
                  clear hz hgd hdr HZ hg
                  go_wp2_with fail
                  exact ⟨⟨.int .i64 (f : Int), .int .i64 (n : Int), .int .i64 ((f : Int) + 1), ⟨f + 1, by go_num, (f : Int), rfl, (n : Int), rfl, by omega, by omega, by omega, by omega, by omega, HD2⟩, rfl, rfl, rfl⟩, by simp [intOf]; omega⟩
                · have HD2 : Hid (drow gs (f + 1) = (a, m)) := by rw [Hid, drow, hz, HD.out, if_neg hnm]
                  clear hz hgd hdr HZ hg
                  go_wp2_with fail
                  exact ⟨⟨.int .i64 a, .int .i64 m, .int .i64 ((f : Int) + 1), ⟨f + 1, by go_num, a, rfl, m, rfl, by omega, by omega, by omega, by omega, by omega, HD2⟩, rfl, rfl, rfl⟩, by simp [intOf]; omega⟩
            · have hz := HZ.out
              rw [List.drop_eq_nil_of_le (show gs.length ≤ f + n by omega), zr, Nat.add_zero] at hz
              have hfni : ¬ (f : Int) + (n : Int) < 8 := by omega
              have hfnb : decide ((f : Int) + (n : Int) < 8) = false := decide_eq_false hfni
              by_cases hnm : m < (n : Int)
              · have HD2 : Hid (drow gs (f + 1) = ((f : Int), (n : Int))) := by rw [Hid, drow, hz, HD.out, if_pos hnm]
                clear hz HZ
                go_wp2_with fail
                exact ⟨⟨.int .i64 (f : Int), .int .i64 (n : Int), .int .i64 ((f : Int) + 1), ⟨f + 1, by go_num, (f : Int), rfl, (n : Int), rfl, by omega, by omega, by omega, by omega, by omega, HD2⟩, rfl, rfl, rfl⟩, by simp [intOf]; omega⟩
              · have HD2 : Hid (drow gs (f + 1) = (a, m)) := by rw [Hid, drow, hz, HD.out, if_neg hnm]
                clear hz HZ
                go_wp2_with fail
                exact ⟨⟨.int .i64 a, .int .i64 m, .int .i64 ((f : Int) + 1), ⟨f + 1, by go_num, a, rfl, m, rfl, by omega, by omega, by omega, by omega, by omega, HD2⟩, rfl, rfl, rfl⟩, by simp [intOf]; omega⟩
        · have hf8' : f = 8 := by omega
          subst hf8'
          go_wp2_with fail
          have HDR : Hid (drow gs 8 = (a, m)) := HD
          have HDG : Hid (∀ (n : Nat) (w : World), n < 65536 → Calls Tryd.prog 22 #[.int .i64 (n : Int), .int .i64 16] w fun e w' => e = .returned (.string ⟨(hexs n).toArray⟩) ∧ Below w.heap.size w w') := fun n w h => by
            have := digits_any 16 (by decide) (by decide) n (by omega) w
            rw [digs16 n h] at this; exact this
          clear HD
          go_loopw [10, 11] (fun vs vi w3 => ∃ (i : Nat) (S : ByteArray) (pre : List UInt8) (q : List Nat), vi = .int .i64 i ∧ vs = .string S ∧ i ≤ 8 ∧ S.size ≤ 5 * i ∧ Below wr.heap.size wr w3 ∧ Hid (S = ⟨(pre ++ ptext q).toArray⟩ ∧ Ph gs i pre q))
            (fun _ vi _ => (8 - intOf vi).toNat)
          case atStart => exact ⟨0, ⟨#[]⟩, [], [], rfl, rfl, by omega, by simp [ByteArray.size], Below.refl _ _, rfl, .inl ⟨rfl, rfl, .inr (Nat.zero_le _)⟩⟩
          case round =>
            obtain ⟨i, S, pre, q, rfl, rfl, hi8, hSz, hb3, HPH⟩ := hrel
            by_cases hi : i < 8
            · obtain ⟨hS, hph⟩ := HPH.out
              have hSl : S.data.toList = pre ++ ptext q := by rw [hS]
              have hii : (i : Int) < 8 := by omega
              have hi0 : (0 : Int) ≤ (i : Int) := by omega
              have hss := size_list S
              rw [hSl] at hss
              by_cases hia : (i : Int) = a
              · obtain ⟨j1, j2, j3⟩ := Ph_jump h8 HDR.out hph hi hia
                have hp1 : ∀ W : World, (Op.stringOp .add S ⟨#[58, 58]⟩).run Tryd.prog W = .ok (.string ⟨(pre ++ ptext q ++ [58, 58]).toArray⟩) W := fun W => by
                  rw [hS]; exact add_lists _ [58, 58] W (by simp at hss ⊢; omega)
                have HJ : Hid ((⟨(pre ++ ptext q ++ [58, 58]).toArray⟩ : ByteArray).size ≤ 5 * (i + m.toNat) ∧ Ph gs (i + m.toNat) (pre ++ ptext q ++ [58, 58]) []) := ⟨by
                  show (pre ++ ptext q ++ [58, 58]).toArray.size ≤ _
                  rw [List.size_toArray, List.length_append, hss]; simp; omega, j3⟩
                have hiab : ((i : Int) == a) = true := by rw [beq_iff_eq]; exact hia
                have HIA : Hid ((i : Int) = a) := hia
                generalize hL : pre ++ ptext q ++ [58, 58] = L at *
                clear hS hph hSl HPH hia hss hL j3
                go_wp2_with fail
                exact ⟨⟨i + m.toNat, _, L, [], congrArg (Value.int .i64) (by omega), rfl, by omega, HJ.out.1, hb3, by rw [show ptext ([] : List Nat) = [] from rfl, List.append_nil], HJ.out.2⟩, by simp [intOf]; omega⟩
              · have hiab : ((i : Int) == a) = false := by rw [beq_eq_false_iff_ne]; exact hia
                have hst := Ph_step h8 HDR.out hph hi hia
                have hcx := (bcell hb3).1 Bk i hBr
                rw [HROWC.out i hi] at hcx
                have hgi : gs.getD i 0 < 65536 := hgl _ (by rw [getD_get _ _ (by omega)]; exact List.getElem_mem _)
                generalize gs.getD i 0 = gi at hst hcx hgi
                have HG := HDG.out gi
                have HGG : Hid (∀ w : World, Calls Tryd.prog 22 #[.int .i64 (gi : Int), .int .i64 16] w fun e w' => e = .returned (.string ⟨(hexs gi).toArray⟩) ∧ Below w.heap.size w w') := fun w => HG w hgi
                clear HG
                have hx4 := hexs_le gi
                by_cases hq : q = []
                · subst hq
                  have hpt : ptext ([] : List Nat) = [] := rfl
                  rw [hpt, List.append_nil] at hSl hss
                  obtain ⟨S2, hS2⟩ : ∃ X : ByteArray, X = ⟨(pre ++ ptext ([] ++ [gi])).toArray⟩ := ⟨_, rfl⟩
                  have hp2 : ∀ W : World, (Op.stringOp .add S ⟨(hexs gi).toArray⟩).run Tryd.prog W = .ok (.string S2) W := fun W => by
                    rw [hS, hS2, hpt, List.append_nil, List.nil_append, ptext_one]; exact add_lists _ _ W (by omega)
                  have HS2 : Hid (S2.size ≤ 5 * (i + 1) ∧ S2 = ⟨(pre ++ ptext ([] ++ [gi])).toArray⟩ ∧ Ph gs (i + 1) pre ([] ++ [gi])) := ⟨by
                    rw [hS2]; show (pre ++ ptext ([] ++ [gi])).toArray.size ≤ _
                    rw [List.size_toArray, List.length_append, hss, List.nil_append, ptext_one]; omega, hS2, hst⟩
                  rcases Ph_pre hph with hpr | ⟨r, hpr⟩
                  · have hemp := str_empty S (by rw [hSl, hpr])
                    clear hS hph hSl HPH hia hss hst hpr hS2 HDR hpt
                    go_wp2_with fail
                    refine (HGG.out _).mono ?_
                    rintro e w4 ⟨rfl, hb4⟩
                    have hb5 := btr hb3 hb4
                    go_wp2_with fail
                    exact ⟨⟨i + 1, S2, pre, [] ++ [gi], by go_num, rfl, by omega, HS2.out.1, hb5, HS2.out.2.1, HS2.out.2.2⟩, by simp [intOf]; omega⟩
                  · have hsome := str_some S (by rw [hSl, hpr]; simp)
                    obtain ⟨M, hM⟩ : ∃ M, M = r.length := ⟨_, rfl⟩
                    have hSM : S.size = M + 1 := by rw [← hss, hpr, List.length_append, hM]; rfl
                    have hMlt : M < S.size := by rw [hSM]; exact Nat.lt_succ_self _
                    have hlast : S[M]'hMlt = 58 := by
                      rw [← data_get S M hMlt]
                      simp only [hSl, hpr, hM]
                      simp
                    have hsk : S[M]? = some (S[M]'hMlt) := by simp [hSM]
                    have hl58 : ((S[M]'hMlt).toNat : Int) = 58 := by rw [hlast]; rfl
                    have hSi : (S.size : Int) = (M : Int) + 1 := by omega
                    have hMs : (M : Int) < (S.size : Int) := by omega
                    clear hS hph hSl HPH hia hss hst hpr hS2 HDR hpt hM hlast hSM
                    go_wp2_with fail
                    refine (HGG.out _).mono ?_
                    rintro e w4 ⟨rfl, hb4⟩
                    have hb5 := btr hb3 hb4
                    go_wp2_with fail
                    exact ⟨⟨i + 1, S2, pre, [] ++ [gi], by go_num, rfl, by omega, HS2.out.1, hb5, HS2.out.2.1, HS2.out.2.2⟩, by simp [intOf]; omega⟩
                · obtain ⟨r, c, hpe, hc58⟩ := ptext_end q hq (Ph_q hph hgl)
                  have hsome := str_some S (by rw [hSl, hpe]; simp)
                  obtain ⟨M, hM⟩ : ∃ M, M = (pre ++ r).length := ⟨_, rfl⟩
                  have hSM : S.size = M + 1 := by rw [← hss, hpe, ← List.append_assoc, List.length_append, hM]; rfl
                  have hMlt : M < S.size := by rw [hSM]; exact Nat.lt_succ_self _
                  have hlast : S[M]'hMlt = c := by
                    rw [← data_get S M hMlt]
                    simp only [hSl, hpe, hM, ← List.append_assoc]
                    simp
                  have hsk : S[M]? = some (S[M]'hMlt) := by simp [hSM]
                  have hl58 : ¬ ((S[M]'hMlt).toNat : Int) = 58 := by
                    rw [hlast]; intro e; exact hc58 (UInt8.toNat_inj.1 (by have : (58 : UInt8).toNat = 58 := rfl; omega))
                  have hl58b : (((S[M]'hMlt).toNat : Int) == 58) = false := by rw [beq_eq_false_iff_ne]; exact hl58
                  have hSi : (S.size : Int) = (M : Int) + 1 := by omega
                  have hMs : (M : Int) < (S.size : Int) := by omega
                  obtain ⟨S1, hS1⟩ : ∃ X : ByteArray, X = ⟨(pre ++ ptext q ++ [58]).toArray⟩ := ⟨_, rfl⟩
                  obtain ⟨S2, hS2⟩ : ∃ X : ByteArray, X = ⟨(pre ++ ptext (q ++ [gi])).toArray⟩ := ⟨_, rfl⟩
                  have hp1 : ∀ W : World, (Op.stringOp .add S ⟨#[58]⟩).run Tryd.prog W = .ok (.string S1) W := fun W => by
                    rw [hS, hS1]; exact add_lists _ [58] W (by rw [hss]; simp; omega)
                  have hp2 : ∀ W : World, (Op.stringOp .add S1 ⟨(hexs gi).toArray⟩).run Tryd.prog W = .ok (.string S2) W := fun W => by
                    rw [hS1, hS2, ptext_snoc q gi hq, ← List.append_assoc, ← List.append_assoc]; exact add_lists _ _ W (by rw [List.length_append, hss]; simp; omega)
                  have HS2 : Hid (S2.size ≤ 5 * (i + 1) ∧ S2 = ⟨(pre ++ ptext (q ++ [gi])).toArray⟩ ∧ Ph gs (i + 1) pre (q ++ [gi])) := ⟨by
                    rw [hS2]; show (pre ++ ptext (q ++ [gi])).toArray.size ≤ _
                    rw [List.size_toArray, ptext_snoc q gi hq, ← List.append_assoc, ← List.append_assoc, List.length_append, List.length_append, hss]; simp; omega, hS2, hst⟩
                  clear hS hph hSl HPH hia hss hst hpe hS2 hS1 HDR hM hlast hSM hc58
                  go_wp2_with fail
                  refine (HGG.out _).mono ?_
                  rintro e w4 ⟨rfl, hb4⟩
                  have hb5 := btr hb3 hb4
                  go_wp2_with fail
                  exact ⟨⟨i + 1, S2, pre, q ++ [gi], by go_num, rfl, by omega, HS2.out.1, hb5, HS2.out.2.1, HS2.out.2.2⟩, by simp [intOf]; omega⟩
            · have hi8' : i = 8 := by omega
              subst hi8'
              obtain ⟨hS, hph⟩ := HPH.out
              have hST : S = ⟨T.toArray⟩ := by rw [hS, Ph_end h8 hph, ← HTT.out]
              subst hST
              clear HPH hS hph
              go_wp2_with fail
              go_ret
              exact ⟨rfl, btr HBr.out hb3⟩
end Go.Proofs.YtollaiabcnmebaaDoor
