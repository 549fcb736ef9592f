/- The document's answer: NextOf: from the end of the bits, ones come to be noughts till a nought comes to be a one. -/
import Derived.Test.YtollaiabcnmebaaDoorRfK
set_option linter.unusedVariables false
set_option linter.unusedSimpArgs false
namespace Go.Proofs.YtollaiabcnmebaaDoor
open Go.RowKit

theorem nextR_end (l : List UInt8) (m : Nat) (hm : m < l.length) : (l.take (m + 1)).reverse = l[m] :: (l.take m).reverse := by
  rw [take_snoc l m hm, List.reverse_append]; rfl

theorem eqA_iff (v : Bool) (hi lo : Int) (u : Bool) (yh yl : Int) : eqA v hi lo u yh yl = true ↔ v = u ∧ hi = yh ∧ lo = yl := by
  unfold eqA; simp [and_assoc]
theorem isLast_num (v : Bool) (hi lo : Nat) (h1 : hi < 18446744073709551616) (l1 : lo < 18446744073709551616) (hv : v = true ∨ (hi = 0 ∧ lo ≤ 4294967295)) :
    isLast v hi lo = true ↔ vbin 0 (bitsT v hi lo) + 1 = 2 ^ (bitsT v hi lo).length := by
  rw [bitsT_num v hi lo h1 l1 hv, bitsT_length, isLast, eqA_iff]
  cases v
  · simp at hv
    simp [mxH, mxL]; omega
  · simp [mxH, mxL]; omega
theorem chk_ok (v : Bool) (hi lo : Nat) (hv : v = true ∨ (hi = 0 ∧ lo ≤ 4294967295)) : chk v hi lo = 0 := by
  unfold chk
  rw [if_neg]
  rintro ⟨rfl, h⟩
  simp at hv; omega
theorem nx_none (v : Bool) (hi lo : Nat) (h1 : hi < 18446744073709551616) (l1 : lo < 18446744073709551616) (hv : v = true ∨ (hi = 0 ∧ lo ≤ 4294967295)) (hn : nextR (bitsT v hi lo).reverse = none) :
    nxV v hi lo = false ∧ nxH v hi lo = 0 ∧ nxL v hi lo = 0 ∧ nxB v hi lo = false := by
  have hr := nextR_none _ (fun c hc => bitsT_bin v hi lo c (List.mem_reverse.1 hc)) hn
  rw [vrev_vbin, List.length_reverse] at hr
  have hl := (isLast_num v hi lo h1 l1 hv).2 hr
  simp [nxV, nxH, nxL, nxB, hl]
theorem nx_some (v : Bool) (hi lo : Nat) (h1 : hi < 18446744073709551616) (l1 : lo < 18446744073709551616) (hv : v = true ∨ (hi = 0 ∧ lo ≤ 4294967295)) (R : List UInt8) (hn : nextR (bitsT v hi lo).reverse = some R.reverse) :
    IsBin R ∧ R.length = (bitsT v hi lo).length ∧ nxV v hi lo = v ∧ nxH v hi lo = (vbin 0 (R.take (R.length - 64)) : Nat) ∧ nxL v hi lo = (vbin 0 (R.drop (R.length - 64)) : Nat) ∧ nxB v hi lo = true ∧ v = decide (R.length = 128) := by
  obtain ⟨a, b, c⟩ := nextR_some _ _ (fun c hc => bitsT_bin v hi lo c (List.mem_reverse.1 hc)) hn
  rw [vrev_vbin, vrev_vbin] at a
  rw [List.length_reverse, List.length_reverse] at b
  have hlt := vbin_lt0 R
  have hbin : IsBin R := fun c' hc => c c' (List.mem_reverse.2 hc)
  have hnl : isLast v hi lo = false := by
    cases h : isLast v hi lo with
    | false => rfl
    | true =>
      have := (isLast_num v hi lo h1 l1 hv).1 h
      rw [b] at hlt; omega
  have hck := chk_ok v hi lo hv
  have hnum := bitsT_num v hi lo h1 l1 hv
  have hlen := bitsT_length v hi lo
  refine ⟨hbin, b, by simp [nxV, hck, hnl], ?_, ?_, by simp [nxB, hck, hnl], ?_⟩
  · rw [nxH, if_pos ⟨hck, hnl⟩]
    cases v
    · rw [b, hlen]
      simp at hv
      simp [vbin]; omega
    · rw [b, hlen]
      have hs := vbin_append (R.take 64) (R.drop 64) 0
      rw [List.take_append_drop, vbin_add (R.drop 64)] at hs
      have h4 := vbin_lt0 (R.drop 64)
      have h5 : (R.drop 64).length = 64 := by rw [List.length_drop, b, hlen]; rfl
      rw [h5] at hs h4
      simp only [if_true, show (128 : Nat) - 64 = 64 from rfl] at *
      omega
  · rw [nxL, if_pos ⟨hck, hnl⟩]
    cases v
    · rw [b, hlen]
      simp at hv
      simp; omega
    · rw [b, hlen]
      have hs := vbin_append (R.take 64) (R.drop 64) 0
      rw [List.take_append_drop, vbin_add (R.drop 64)] at hs
      have h4 := vbin_lt0 (R.drop 64)
      have h5 : (R.drop 64).length = 64 := by rw [List.length_drop, b, hlen]; rfl
      rw [h5] at hs h4
      simp only [if_true, show (128 : Nat) - 64 = 64 from rfl] at *
      omega
  · rw [b, hlen]; cases v <;> rfl

set_option maxHeartbeats 8000000 in
set_option maxRecDepth 100000 in
theorem nextOf_any (v : Bool) (hi lo : Nat) (w : World) (h1 : hi < 18446744073709551616) (l1 : lo < 18446744073709551616) (hv : v = true ∨ (hi = 0 ∧ lo ≤ 4294967295)) :
    Calls Tryd.prog 10 #[.agg #[.bool v, .int .u64 hi, .int .u64 lo]] w fun e w' =>
      e = .returned (.tuple #[.agg #[.bool (nxV v hi lo), .int .u64 (nxH v hi lo), .int .u64 (nxL v hi lo)], .bool (nxB v hi lo)]) ∧ Below w.heap.size w w' := by
  have HX : Hid (∀ w : World, Calls Tryd.prog 21 #[.agg #[.bool v, .int .u64 hi, .int .u64 lo]] w fun e w' => e = .returned (.string ⟨(bitsT v hi lo).toArray⟩) ∧ Below w.heap.size w w') := fun w => bits_any v hi lo w h1 l1
  have q1 : (w.alloc (.cells #[.bool v, .int .u64 hi, .int .u64 lo] 24)).heap.size = w.heap.size + 1 := by simp
  have HB0 : Hid (Below w.heap.size w ((w.alloc (.cells #[.bool v, .int .u64 hi, .int .u64 lo] 24)).alloc (.cells #[.bool false, .int .u64 0, .int .u64 0] 24))) := bal (bal (Below.refl _ _) _) _
  have P1 : Hid (Has3 ((w.alloc (.cells #[.bool v, .int .u64 hi, .int .u64 lo] 24)).alloc (.cells #[.bool false, .int .u64 0, .int .u64 0] 24)) (w.heap.size + 1) (.bool false) (.int .u64 0) (.int .u64 0)) := by
    have := Has3.new (w.alloc (.cells #[.bool v, .int .u64 hi, .int .u64 lo] 24)) (.bool false) (.int .u64 0) (.int .u64 0) 24
    rw [q1] at this; exact this
  have F1 : Hid (∀ o, ((w.alloc (.cells #[.bool v, .int .u64 hi, .int .u64 lo] 24)).alloc (.cells #[.bool false, .int .u64 0, .int .u64 0] 24)).frozen? ⟨w.heap.size + 1, o, none⟩ = false) := by
    intro o
    rw [World.frozen?_alloc_at _ _ _ _ q1.symm]
  clear q1
  have hl32 : (bitsT v hi lo).length ≤ 128 ∧ 0 < (bitsT v hi lo).length := by rw [bitsT_length]; split <;> omega
  go_enter Tryd.func10, Tryd.ntmps10
  go_wp2_with fail
  generalize (w.alloc (.cells #[.bool v, .int .u64 hi, .int .u64 lo] 24)).alloc (.cells #[.bool false, .int .u64 0, .int .u64 0] 24) = W0 at *
  refine (HX.out _).mono ?_
  rintro e w1 ⟨rfl, hb1⟩
  obtain ⟨c, W2, hcv, hrow, hb2, hsz2⟩ := conv_bytes w1 ⟨(bitsT v hi lo).toArray⟩
  have hb12 := btr hb1 hb2
  have P2 := P1.out.below hb12
  have F2 : ∀ o, W2.frozen? ⟨w.heap.size + 1, o, none⟩ = false := fun o => by rw [(bcell hb12).2 _ o P1.out.2.2.2]; exact F1.out o
  have HB2 := btr HB0.out hb12
  have hBlt : w1.heap.size < W2.heap.size := by omega
  have hBne : w.heap.size + 1 < w1.heap.size := Nat.lt_of_lt_of_le P1.out.2.2.2 hb1.size
  generalize hB : w1.heap.size = B at *
  have HNS : Hid (nextR (bitsT v hi lo).reverse = nextR (bitsT v hi lo).reverse) := rfl
  obtain ⟨N, hN⟩ : ∃ N, N = (bitsT v hi lo).length := ⟨_, rfl⟩
  have hsN : (⟨(bitsT v hi lo).toArray⟩ : ByteArray).size = N := by rw [hN]; rfl
  rw [hsN] at hcv
  have HN : Hid (N = (bitsT v hi lo).length) := hN
  have hrow' : RowU W2 B (bitsT v hi lo) := hrow
  have HROW : Hid (RowU W2 B (bitsT v hi lo)) := hrow'
  have HBB : Hid (Below w.heap.size w W2) := HB2
  have HP2 : Hid (Has3 W2 (w.heap.size + 1) (.bool false) (.int .u64 0) (.int .u64 0)) := P2
  have HF2 : Hid (∀ o, W2.frozen? ⟨w.heap.size + 1, o, none⟩ = false) := F2
  clear hrow hrow' hb1 hb2 hb12 P1 F1 P2 F2 HB0 HB2 hsz2 HX hB
  have hN1 : 0 < N := by omega
  have hN128 : N ≤ 128 := by omega
  clear hN hsN hl32
  go_wp2_with fail
  go_loopw [5] (fun vi wr => ∃ (k : Nat) (j : Int), vi = .int .i64 j ∧ Hid (j = (N : Int) - 1 - (k : Int)) ∧ k ≤ N ∧ Hid (Below w.heap.size w wr ∧ B < wr.heap.size ∧ RowU wr B ((bitsT v hi lo).take (N - k) ++ List.replicate k 48) ∧
      Has3 wr (w.heap.size + 1) (.bool false) (.int .u64 0) (.int .u64 0) ∧ (∀ o, wr.frozen? ⟨w.heap.size + 1, o, none⟩ = false) ∧
      nextR (bitsT v hi lo).reverse = (nextR ((bitsT v hi lo).take (N - k)).reverse).map (List.replicate k 48 ++ ·)))
    (fun vi _ => (intOf vi + 1).toNat)
  case atStart => exact ⟨0, _, rfl, (by omega : (N : Int) - 1 = (N : Int) - 1 - ((0 : Nat) : Int)), Nat.zero_le _, HBB.out, hBlt, by
      rw [Nat.sub_zero, List.take_of_length_le (by rw [← HN.out]; exact Nat.le_refl _), List.replicate_zero, List.append_nil]; exact HROW.out, HP2.out, HF2.out, by
      rw [Nat.sub_zero, List.take_of_length_le (by rw [← HN.out]; exact Nat.le_refl _)]; simp⟩
  case round =>
    obtain ⟨k, j, rfl, Hj, hk, HH⟩ := hrel
    obtain ⟨hbr, hBr, hrow, hP, hF, hnx⟩ := HH.out
    have hlen := HN.out
    by_cases hkN : k < N
    · obtain ⟨m, hm⟩ : ∃ m, m = N - 1 - k := ⟨_, rfl⟩
      have hjm : j = (m : Int) := by rw [Hj.out]; omega
      subst hjm
      have hmN : N - k = m + 1 := by omega
      rw [hmN] at hrow hnx
      have hml : m < (bitsT v hi lo).length := by omega
      rw [nextR_end _ m hml, nextR] at hnx
      have hin : ((bitsT v hi lo).take (m + 1) ++ List.replicate k 48)[m]? = some ((bitsT v hi lo)[m]) := by
        rw [List.getElem?_append_left (by rw [List.length_take]; omega), List.getElem?_take_of_lt (by omega), List.getElem?_eq_getElem hml]
      obtain ⟨hcm, hfm⟩ := hrow m _ hin
      have hset : ∀ d : UInt8, ((bitsT v hi lo).take (m + 1) ++ List.replicate k 48).set m d = (bitsT v hi lo).take m ++ d :: List.replicate k 48 := by
        intro d
        rw [take_snoc _ m hml, List.append_assoc, List.set_append_right _ _ (by rw [List.length_take]; omega), List.length_take, Nat.min_eq_left (by omega), Nat.sub_self]
        rfl
      have hrs := fun d => hrow.set m (by rw [List.length_append, List.length_take]; omega) d
      have hbit := bitsT_bin v hi lo _ (List.getElem_mem hml)
      have hmi : (m : Int) < (N : Int) := by omega
      have hm0 : (0 : Int) ≤ (m : Int) := by omega
      by_cases hc : (bitsT v hi lo)[m] = 48
      · rw [if_pos hc] at hnx
        rw [hc] at hcm
        have hrow49 := hrs 49
        rw [hset] at hrow49
        obtain ⟨R, hR⟩ : ∃ R, R = (bitsT v hi lo).take m ++ 49 :: List.replicate k 48 := ⟨_, rfl⟩
        rw [← hR] at hrow49
        have hRr : nextR (bitsT v hi lo).reverse = some R.reverse := by rw [hnx, hR]; simp
        obtain ⟨n1, n2, n3, n4, n5, n6, n7⟩ := nx_some v hi lo h1 l1 hv R hRr
        obtain ⟨X, hX⟩ : ∃ X : ByteArray, X = ⟨R.toArray⟩ := ⟨_, rfl⟩
        have hXR : X.data.toList = R := by rw [hX]
        have hXs : X.size = R.length := by rw [← hXR, size_list]
        have HA : Hid (∀ w : World, Calls Tryd.prog 24 #[.string X] w fun e w' => e = .returned (.agg #[.bool (nxV v hi lo), .int .u64 (nxH v hi lo), .int .u64 (nxL v hi lo)]) ∧ Below w.heap.size w w') := by
          intro w
          have := addrOf_any X w (by omega) (by rw [hXR]; exact n1)
          rw [hXR, hXs, ← n4, ← n5, ← n7] at this
          rw [n3]; exact this
        have hcv2 : (convert 48 9 (.slice (some ⟨B, 0, none⟩) N c)).run Tryd.prog (wr.setCell ⟨B, m, none⟩ (.int .u8 49)) = .ok (.string X) (wr.setCell ⟨B, m, none⟩ (.int .u8 49)) := by
          rw [hX]
          exact cvt _ B 0 c R N (by omega) (fun j hj => by rw [Nat.zero_add]; exact (hrow49 j R[j] (List.getElem?_eq_getElem hj)).1)
        have hP' : Has3 (wr.setCell ⟨B, m, none⟩ (.int .u8 49)) (w.heap.size + 1) (.bool false) (.int .u64 0) (.int .u64 0) := by
          obtain ⟨p0, p1, p2, p3⟩ := hP
          have hne : ∀ o, (⟨B, m, none⟩ : Addr) ≠ ⟨w.heap.size + 1, o, none⟩ := by intro o e; injection e with e; omega
          exact ⟨by rw [World.cell?_setCell_other (h := hne 0)]; exact p0, by rw [World.cell?_setCell_other (h := hne 1)]; exact p1, by rw [World.cell?_setCell_other (h := hne 2)]; exact p2, by simpa using p3⟩
        have HP' : Hid (Has3 (wr.setCell ⟨B, m, none⟩ (.int .u8 49)) (w.heap.size + 1) (.bool false) (.int .u64 0) (.int .u64 0)) := hP'
        have HF' : Hid (∀ o, (wr.setCell ⟨B, m, none⟩ (.int .u8 49)).frozen? ⟨w.heap.size + 1, o, none⟩ = false) := fun o => by rw [World.frozen?_setCell]; exact hF o
        have HB' : Hid (Below w.heap.size w (wr.setCell ⟨B, m, none⟩ (.int .u8 49))) := bse hbr (p := ⟨B, m, none⟩) (by show w.heap.size ≤ B; omega) _
        have HB6 : Hid (nxB v hi lo = true) := n6
        have hcm' : wr.cell? ⟨B, m, none⟩ = some (.int .u8 48) := hcm
        clear hrow49 hP' hrs hset hin hnx hrow HH hP hF hcm Hj hc hbit hml hmN hm hlen hR hRr n1 n2 n3 n4 n5 n6 n7 hX hXR hXs
        go_wp2_with fail
        refine (HA.out _).mono ?_
        rintro e w4 ⟨rfl, hb4⟩
        obtain ⟨p0, p1, p2, p3⟩ := HP'.out.below hb4
        have F4 : ∀ o, w4.frozen? ⟨w.heap.size + 1, o, none⟩ = false := fun o => by rw [(bcell hb4).2 _ o HP'.out.2.2.2]; exact HF'.out o
        have f0 := F4 0
        have f1 := F4 1
        have f2 := F4 2
        have HBr : Hid (Below w.heap.size w w4) := btr HB'.out hb4
        clear F4 hb4
        go_wp2_with fail
        refine bodyPost_ret (v := .tuple #[.agg #[.bool (nxV v hi lo), .int .u64 (nxH v hi lo), .int .u64 (nxL v hi lo)], .bool true]) ?_ rfl ⟨by rw [HB6.out], ?_⟩
        · obtain ⟨a0, a1, a2, _⟩ := Has3.store ⟨p0, p1, p2, p3⟩ (.bool (nxV v hi lo)) (.int .u64 (nxH v hi lo)) (.int .u64 (nxL v hi lo))
          generalize ((w4.setCell _ _).setCell _ _).setCell _ _ = WW at a0 a1 a2 ⊢
          simp [results, Tryd.results10, go_sem, a0, a1, a2]
        · exact bse (bse (bse HBr.out (Nat.le_succ _) _) (Nat.le_succ _) _) (Nat.le_succ _) _
      · have hc49 : (bitsT v hi lo)[m] = 49 := by rcases hbit with h | h; exact absurd h hc; exact h
        rw [if_neg hc] at hnx
        rw [hc49] at hcm
        have hrow48 := hrs 48
        rw [hset] at hrow48
        have hP' : Has3 (wr.setCell ⟨B, m, none⟩ (.int .u8 ((48 : UInt8).toNat : Int))) (w.heap.size + 1) (.bool false) (.int .u64 0) (.int .u64 0) := by
          obtain ⟨p0, p1, p2, p3⟩ := hP
          have hne : ∀ o, (⟨B, m, none⟩ : Addr) ≠ ⟨w.heap.size + 1, o, none⟩ := by intro o e; injection e with e; omega
          exact ⟨by rw [World.cell?_setCell_other (h := hne 0)]; exact p0, by rw [World.cell?_setCell_other (h := hne 1)]; exact p1, by rw [World.cell?_setCell_other (h := hne 2)]; exact p2, by simpa using p3⟩
        have HH2 : Hid (Below w.heap.size w (wr.setCell ⟨B, m, none⟩ (.int .u8 48)) ∧ B < (wr.setCell ⟨B, m, none⟩ (.int .u8 48)).heap.size ∧ RowU (wr.setCell ⟨B, m, none⟩ (.int .u8 48)) B ((bitsT v hi lo).take (N - (k + 1)) ++ List.replicate (k + 1) 48) ∧
            Has3 (wr.setCell ⟨B, m, none⟩ (.int .u8 48)) (w.heap.size + 1) (.bool false) (.int .u64 0) (.int .u64 0) ∧ (∀ o, (wr.setCell ⟨B, m, none⟩ (.int .u8 48)).frozen? ⟨w.heap.size + 1, o, none⟩ = false) ∧
            nextR (bitsT v hi lo).reverse = (nextR ((bitsT v hi lo).take (N - (k + 1))).reverse).map (List.replicate (k + 1) 48 ++ ·)) := by
          rw [show N - (k + 1) = m by omega]
          refine ⟨bse hbr (p := ⟨B, m, none⟩) (by show w.heap.size ≤ B; omega) _, by simpa using hBr, hrow48, hP', fun o => by rw [World.frozen?_setCell]; exact hF o, ?_⟩
          rw [hnx]
          cases nextR ((bitsT v hi lo).take m).reverse with
          | none => rfl
          | some r => simp [List.replicate_succ']
        have Hj2 : Hid ((m : Int) - 1 = (N : Int) - 1 - ((k + 1 : Nat) : Int)) := (by omega : (m : Int) - 1 = (N : Int) - 1 - ((k + 1 : Nat) : Int))
        have hcm' : wr.cell? ⟨B, m, none⟩ = some (.int .u8 49) := hcm
        clear hrow48 hP' hrs hset hin hnx hrow HH hP hF hcm Hj hc hc49 hbit hml hmN hm hlen
        go_wp2_with fail
        exact ⟨⟨k + 1, _, rfl, Hj2, by omega, HH2⟩, by simp [intOf]⟩
    · have hk2 : k = N := by omega
      have hj2 : j = -1 := by rw [Hj.out]; omega
      subst hj2
      have hnone : nextR (bitsT v hi lo).reverse = none := by rw [hnx, hk2, Nat.sub_self, List.take_zero]; rfl
      obtain ⟨e1, e2, e3, e4⟩ := nx_none v hi lo h1 l1 hv hnone
      have HE : Hid (nxV v hi lo = false ∧ nxH v hi lo = 0 ∧ nxL v hi lo = 0 ∧ nxB v hi lo = false) := ⟨e1, e2, e3, e4⟩
      have HBr : Hid (Below w.heap.size w wr) := hbr
      obtain ⟨p0, p1, p2, p3⟩ := hP
      have f0 := hF 0
      have f1 := hF 1
      have f2 := hF 2
      clear hnone hnx hrow HH hF hk2 Hj e1 e2 e3 e4 hbr hlen
      go_wp2_with fail
      obtain ⟨e1, e2, e3, e4⟩ := HE.out
      rw [e1, e2, e3, e4]
      refine bodyPost_ret (v := .tuple #[.agg #[.bool false, .int .u64 0, .int .u64 0], .bool false]) ?_ rfl ⟨rfl, ?_⟩
      · obtain ⟨a0, a1, a2, _⟩ := Has3.store ⟨p0, p1, p2, p3⟩ (.bool false) (.int .u64 0) (.int .u64 0)
        generalize ((wr.setCell _ _).setCell _ _).setCell _ _ = WW at a0 a1 a2 ⊢
        simp [results, Tryd.results10, go_sem, a0, a1, a2]
      · exact bse (bse (bse HBr.out (Nat.le_succ _) _) (Nat.le_succ _) _) (Nat.le_succ _) _
end Go.Proofs.YtollaiabcnmebaaDoor
