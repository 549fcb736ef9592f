/- slices.Replace at leases, where as many come as go, or one more. -/
import Derived.Test.YtclnfkohlklbpaaGreatQ20
set_option linter.unusedVariables false
set_option linter.unusedSimpArgs false
namespace Go.Proofs.YtclnfkohlklbpaaGreat
open Go.RowKit

theorem splice_two {α : Type} (A S X K : List α) (h : X.length + K.length ≤ S.length) : splice (splice (A ++ S) (A.length + X.length) K) A.length X = A ++ X ++ K ++ S.drop (X.length + K.length) := by
  have e1 : (A ++ S).take (A.length + X.length) = A ++ S.take X.length := by rw [List.take_append, List.take_of_length_le (by omega), Nat.add_sub_cancel_left]
  have e2 : (A ++ S).drop (A.length + X.length + K.length) = S.drop (X.length + K.length) := by rw [Nat.add_assoc, ← List.drop_drop, List.drop_left]
  have hX : (S.take X.length).length = X.length := by rw [List.length_take]; omega
  rw [splice, splice, e1, e2]
  rw [List.append_assoc A, List.append_assoc A, List.take_left, ← List.drop_drop, List.drop_left]
  have e3 : (S.take X.length ++ (K ++ S.drop (X.length + K.length))).drop X.length = K ++ S.drop (X.length + K.length) := by
    have := List.drop_left (l₁ := S.take X.length) (l₂ := K ++ S.drop (X.length + K.length))
    rw [hX] at this
    exact this
  rw [e3]
  simp [List.append_assoc]
set_option maxHeartbeats 8000000 in
set_option maxRecDepth 100000 in
/-- Where nothing goes. -/
theorem repL_ins (B i vb vc : Nat) (lv : Value) (l : List Ls) (x : Ls) (B2 : Nat) (w : World) (hown : w.ownsRow B 90 lsE.k lv l.length (rowOf lsE l)) (hl : l.length ≤ 20) (hi : i ≤ l.length) (hB : B ≤ w.heap.size) (hv : OwnAt lsE w B2 90 vb vc [x]) (hne : lv.ownBlock ≠ some vb) :
    Calls Tryz.prog 71 #[lv, .int .i64 i, .int .i64 i, .slice (some ⟨vb, 0, none⟩) 1 vc] w fun e w' => ∃ v', e = .returned v' ∧ w'.ownsRow B 90 lsE.k v' (l.take i ++ [x] ++ l.drop i).length (rowOf lsE (l.take i ++ [x] ++ l.drop i)) ∧ w.grownBy w' lv.ownBlock := by
  obtain ⟨xr, hx, hxl⟩ := hv.row
  have e0 : rowOf lsE [x] = lsE.f x := by rw [rowOf, rowOf, List.append_nil]
  rw [e0] at hx hxl
  have HI := Lib.hid (insV_any B i vb lv l x w hown hl hi hB vc xr hv.le hxl hx hne)
  obtain ⟨al, cl, rfl⟩ := own_slice hown
  have hcl : (l.length : Int) ≤ (cl : Int) := by
    rcases hown.2 with ⟨e, e2⟩ | ⟨g, c, cur, e, _, _, h3, _⟩
    · omega
    · injection e with e1 e2 e3; omega
  have hE : l.take i ++ [x] ++ l.drop i = l.take i ++ x :: l.drop i := by simp
  rw [hE]
  have hlen : (l.take i ++ x :: l.drop i).length = l.length + 1 := by simp; omega
  rw [hlen]
  generalize rowOf lsE (l.take i ++ x :: l.drop i) = row at *
  generalize (Value.slice al l.length cl).ownBlock = ob at *
  have hi' : (i : Int) ≤ (l.length : Int) := by omega
  generalize l.length = N at *
  have b1 : (0 : Int) ≤ (i : Int) := by omega
  have b2 : (i : Int) ≤ (cl : Int) := by omega
  have b3 : (N : Int) ≤ (cl : Int) := hcl
  clear hown hv hx hxl e0 hne hE hlen
  by_cases hci : cl = i
  · subst hci
    go_enter Tryz.func71, Tryz.ntmps71
    go_wp2_with fail
    refine HI.out.mono ?_
    rintro e w1 ⟨g', c', rfl, h1, h2⟩
    have H1 := Lib.hid h1
    have H2 := Lib.hid h2
    clear h1 h2 HI
    go_wp2
    go_ret
    exact ⟨_, rfl, H1.out, H2.out⟩
  · have hci' : ¬ i = cl := fun e => hci e.symm
    go_enter Tryz.func71, Tryz.ntmps71
    go_wp2_with fail
    refine HI.out.mono ?_
    rintro e w1 ⟨g', c', rfl, h1, h2⟩
    have H1 := Lib.hid h1
    have H2 := Lib.hid h2
    clear h1 h2 HI
    go_wp2
    go_ret
    exact ⟨_, rfl, H1.out, H2.out⟩
set_option maxHeartbeats 8000000 in
set_option maxRecDepth 100000 in
/-- Where nothing stands behind what goes. -/
theorem repL_end (B g c i m vb vc : Nat) (l v : List Ls) (B2 : Nat) (w : World) (hown : OwnAt lsE w B 90 g c l) (hl : l.length ≤ 20) (hm : 0 < m) (hN : l.length = i + m) (hB : B ≤ w.heap.size) (hv : OwnAt lsE w B2 90 vb vc v) (hV : m ≤ v.length) (hV2 : v.length ≤ m + 1) :
    Calls Tryz.prog 71 #[.slice (some ⟨g, 0, none⟩) l.length c, .int .i64 i, .int .i64 ((i : Int) + (m : Int)), .slice (some ⟨vb, 0, none⟩) v.length vc] w fun e w' => ∃ v', e = .returned v' ∧ w'.ownsRow B 90 lsE.k v' (l.take i ++ v).length (rowOf lsE (l.take i ++ v)) ∧ w.grownBy w' (some g) := by
  obtain ⟨i0, hi0, hz0, hz1, hz2⟩ := info_parts infoL3
  have hle := hown.le
  have HO : Hid (w.ownsRow B 90 lsE.k (.slice (some ⟨g, 0, none⟩) i c) i (rowOf lsE (l.take i))) := by
    have := (hown.cut i).own
    rw [show (l.take i).length = i by rw [List.length_take]; omega] at this
    exact this
  have HNw := Lib.hid hv.lies.news
  have HRl := Lib.hid (rowOf_len lsE v)
  have HR1 := Lib.hid (rowOf_one lsE v)
  have hE : rowOf lsE (l.take i ++ v) = rowOf lsE (l.take i) ++ rowOf lsE v := rowOf_append _ _ _
  have hlen : (l.take i ++ v).length = i + v.length := by rw [List.length_append, List.length_take]; omega
  rw [hE, hlen]
  generalize rowOf lsE (l.take i) = R at *
  generalize rowOf lsE v = X at *
  generalize v.length = V at *
  rw [hN] at hle hl ⊢
  clear hown hv hE hlen hN
  have b1 : (0 : Int) ≤ (i : Int) := by omega
  have b2 : (i : Int) ≤ (i : Int) + (m : Int) := by omega
  have b3 : (i : Int) + (m : Int) ≤ (c : Int) := by omega
  have b4 : ((i : Int) == (i : Int) + (m : Int)) = false := beq_eq_false_iff_ne.2 (by omega)
  have b5 : ¬ (i : Int) = (i : Int) + (m : Int) := by omega
  have b6 : (i : Int) ≤ (c : Int) := by omega
  have b7 : ¬ (i : Int) + (V : Int) < (i : Int) + (m : Int) := by omega
  have b8 : ¬ m = 0 := by omega
  have b9 : ((i : Int) + (m : Int)).toNat = i + m := by omega
  have b10 : ¬ V < m := by omega
  go_enter Tryz.func71, Tryz.ntmps71
  go_wp2_with (at_builtin; refine wpList_append_own _ rfl _ _ 46 rfl B 90 i0 _ 5 48 Tryz.underlying46 hi0 hz0 hz1 hz2 rfl (by decide) _ _ _ rfl HO.out ⟨vb, 0, none⟩ V vc X rfl HRl.out HNw.out HR1.out (by unfold maxLen; omega) (by omega) hB ?_)
  intro v' w4 hown hgrow _
  have hs := own_slice hown
  obtain ⟨a', c', rfl⟩ := hs
  have HO4 := Lib.hid hown
  have HG := Lib.hid hgrow
  clear hown hgrow
  go_wp2
  go_ret
  exact ⟨_, rfl, HO4.out, HG.out⟩
end Go.Proofs.YtclnfkohlklbpaaGreat
