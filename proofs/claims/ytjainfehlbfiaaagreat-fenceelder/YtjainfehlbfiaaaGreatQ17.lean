/- slices.Insert at pools. -/
import Derived.Test.YtjainfehlbfiaaaGreatQ11
set_option linter.unusedVariables false
set_option linter.unusedSimpArgs false
namespace Go.Proofs.YtjainfehlbfiaaaGreat
open Go.RowKit

theorem sizePl : (Tryz.prog.info? 87).map (·.size) = some 5 := by kernel_rfl
theorem sizeOfPl (w : World) : (Go.sizeOf 87).run Tryz.prog w = .ok 5 w := by kernel_rfl
set_option maxHeartbeats 8000000 in
set_option maxRecDepth 100000 in
theorem insPl_shift (B g c i vb : Nat) (l : List Pl) (x : Pl) (w : World) (hown : OwnAt plE w B 87 g c l) (hl : l.length ≤ 20) (hi : i < l.length) (hroom : l.length + 1 ≤ c) (hx : w.heap[vb]? = some (.cells (plE.f x).toArray 87 (0, 0))) (hne : vb ≠ g) :
    Calls Tryz.prog 70 #[.slice (some ⟨g, 0, none⟩) l.length c, .int .i64 i, .slice (some ⟨vb, 0, none⟩) 1 1] w fun e w' => ∃ v', e = .returned v' ∧ w'.ownsRow B 87 plE.k v' (l.length + 1) (rowOf plE (l.take i ++ x :: l.drop i)) ∧ w.grownBy w' (some g) := by
  obtain ⟨r, hr, hlr⟩ := hown.row
  have hcM : c ≤ maxLen := hown.max
  unfold maxLen at hcM
  have hBg := hown.base
  have hlr' : (rowOf plE l ++ r).length = c * 5 := hlr
  have hrl : (rowOf plE l).length = l.length * 5 := rowOf_len plE l
  have hr5 : plE.k ≤ r.length := by show 5 ≤ _; rw [List.length_append, hrl] at hlr'; omega
  have hov : ∀ lb cb, (callFunc 90 #[.slice (some ⟨vb, 0, none⟩) 1 1, .slice (some ⟨g, (i + 1) * 5, none⟩) lb cb]).run Tryz.prog w = .ok (.value (.bool false)) w := fun lb cb => by
    rw [run_callFunc_extern Tryz.func90 (by kernel_rfl) (by kernel_rfl) (by kernel_rfl) (e := Extern.SlicesOverlaps.overlaps #[52, 52] #[4]) (by kernel_rfl),
      Lib.run_overlaps_apart w 52 4 87 Tryz.underlying52 5 sizeOfPl ⟨vb, 0, none⟩ ⟨g, (i + 1) * 5, none⟩ 1 1 lb cb hne 87 87 5 (c * 5) (by simp [World.shape?, hx]; rfl) (by simp [World.shape?, hr]; simpa using hlr') (by omega) (by simp [World.frozen?, hx]) (by simp [World.frozen?, hx])]
    rfl
  have hfit := ins_fit plE l i x r (by omega) hr5
  have HSrc : Hid (∀ j v, (rowOf plE (l.drop i))[j]? = some v → w.cell? ((⟨g, i * 5, none⟩ : Addr).add j) = some v) := by
    have h := (hown.lies.drop i).news
    rw [show (0 : Nat) + i * plE.k = i * 5 from by rw [Nat.zero_add]; rfl] at h
    exact h
  have HXs : Hid (∀ W : World, w.grownBy W (some g) → ∀ j v, (plE.f x)[j]? = some v → W.cell? ((⟨vb, 0, none⟩ : Addr).add j) = some v) := fun W hW j v hj => by
    rw [add_addr, Nat.zero_add, World.cell?_of_block (a := ⟨vb, j, none⟩) (hW.block vb (Array.getElem?_eq_some_iff.1 hx).1 (by simpa using hne))]
    simp only [World.cell?, hx]
    simpa using hj
  have HDl : Hid ((rowOf plE (l.drop i)).length = (l.length - i) * 5) := by rw [Hid, rowOf_len, List.length_drop]; rfl
  have HD1 := Lib.hid (rowOf_one plE (l.drop i))
  have HX1 := Lib.hid (plE.one x)
  have HXl := Lib.hid (plE.len x)
  have HFin : Hid (∀ W : World, W.heap[g]? = some (.cells (splice (splice (rowOf plE l ++ r) ((i + 1) * 5) (rowOf plE (l.drop i))) (i * 5) (plE.f x)).toArray 87 (0, 0)) → W.ownsRow B 87 plE.k (.slice (some ⟨g, 0, none⟩) (l.length + 1) c) (l.length + 1) (rowOf plE (l.take i ++ x :: l.drop i))) := fun W hW => by
    have hlen : (l.take i ++ x :: l.drop i).length = l.length + 1 := by simp; omega
    have h2 : OwnAt plE W B 87 g c (l.take i ++ x :: l.drop i) := ⟨hBg, by rw [hlen]; exact hroom, hown.max, r.drop plE.k, by
      rw [← hfit]; exact hW, by
      rw [← hfit, length_splice _ _ _ (by rw [length_splice _ _ _ (by rw [HDl.out, hlr']; show (i + 1) * 5 + _ ≤ _; omega), hlr', HXl.out]; show i * 5 + 5 ≤ _; omega), length_splice _ _ _ (by rw [HDl.out, hlr']; show (i + 1) * 5 + _ ≤ _; omega)]; exact hlr⟩
    have := h2.own
    rw [hlen] at this
    exact this
  have HR := Lib.hid hr
  have HLr := Lib.hid hlr'
  obtain ⟨N, hN⟩ : ∃ N, N = l.length := ⟨_, rfl⟩
  rw [← hN] at hl hi hroom HDl HFin ⊢
  obtain ⟨F, hF⟩ : ∃ F, F = rowOf plE (l.take i ++ x :: l.drop i) := ⟨_, rfl⟩
  rw [← hF] at HFin ⊢
  obtain ⟨D, hD⟩ : ∃ D, D = rowOf plE (l.drop i) := ⟨_, rfl⟩
  rw [← hD] at HSrc HDl HD1 HFin
  obtain ⟨X, hX⟩ : ∃ X, X = plE.f x := ⟨_, rfl⟩
  rw [← hX] at HXs HX1 HXl HFin
  obtain ⟨C, hC⟩ : ∃ C, C = rowOf plE l ++ r := ⟨_, rfl⟩
  rw [← hC] at HR HLr HFin
  clear hN hF hD hX hC hfit hr hlr hlr' hrl hr5 hown hx hne
  have b1 : (0 : Int) ≤ (i : Int) := by omega
  have b2 : (i : Int) ≤ (N : Int) := by omega
  have b3 : (N : Int) ≤ (c : Int) := by omega
  have b4 : ((i : Int) == (N : Int)) = false := beq_eq_false_iff_ne.2 (by omega)
  have b5 : ¬ (c : Int) < (N : Int) + 1 := by omega
  have b6 : (N : Int) + 1 ≤ (c : Int) := by omega
  have b7 : IntKind.i64.wrap ((N : Int) + 1) = (N : Int) + 1 := by rw [IntKind.wrap_i64]; omega
  have b8 : IntKind.i64.wrap ((i : Int) + 1) = (i : Int) + 1 := by rw [IntKind.wrap_i64]; omega
  have b9 : (i : Int) + 1 ≤ (N : Int) + 1 := by omega
  have b10 : (0 : Int) ≤ (i : Int) + 1 := by omega
  have b11 : (0 : Int) ≤ (N : Int) + 1 := by omega
  have b12 : (i : Int) ≤ (N : Int) + 1 := by omega
  have b13 : ¬ (c = i + 1) := by omega
  have b14 : ¬ (c = i) := by omega
  go_enter Tryz.func70, Tryz.ntmps70
  go_wp2_with (simp only [hov])
  go_region_held3 (fun w' => True) (trivial)
    ((refine step_copyK (by rfl) _ _ 52 52 (by rfl) 87 5 Tryz.underlying52 sizePl g ((i + 1) * 5) (N - i) (c - (i + 1)) ⟨g, i * 5, none⟩ (N + 1 - i) (c - i) (by simp [Act.eval, Act.put]) (by simp [Act.eval, Act.put]) C 87 HR.out D (by rw [HDl.out]; congr 1; simp only [Nat.min_def]; split <;> omega) HSrc.out (by rw [HDl.out, HLr.out]; omega) HD1.out ?_; intro w1 hh1 hg1))
  replace hg1 := grown_drew hg1
  have HG1 := Lib.hid hg1
  have HXs1 := Lib.hid (HXs.out w1 hg1)
  clear hg1 HXs HSrc
  obtain ⟨w2, hw2⟩ : ∃ w2, w2 = w1.setRow g (splice (splice C ((i + 1) * 5) D) (i * 5) X).toArray := ⟨_, rfl⟩
  have hcp : ∀ ty, (Builtin.copy_ #[52, 52] ty #[.slice (some ⟨g, i * 5, none⟩) (N + 1 - i) (c - i), .slice (some ⟨vb, 0, none⟩) 1 1]).run Tryz.prog w1 = .ok (.int .i64 1) w2 := fun ty => by
    have := run_copyK (P := Tryz.prog) w1 52 52 ty 87 5 g (i * 5) (N + 1 - i) (c - i) ⟨vb, 0, none⟩ 1 1 (splice C ((i + 1) * 5) D) 87 X Tryz.underlying52 sizePl hh1.out (by rw [HXl.out]; show 5 = _; simp only [Nat.min_def]; split <;> omega) HXs1.out (by rw [length_splice _ _ _ (by rw [HDl.out, HLr.out]; omega), HLr.out, HXl.out]; show i * 5 + 5 ≤ _; omega) HX1.out
    rw [this, hw2, show Nat.min 1 (N + 1 - i) = 1 by simp only [Nat.min_def]; split <;> omega]
    rfl
  have hh2 : Hid (w2.heap[g]? = some (.cells (splice (splice C ((i + 1) * 5) D) (i * 5) X).toArray 87 (0, 0))) := by rw [hw2]; exact setRow_heap w1 g _ _ _ _ hh1.out
  have hg2 : Hid (w1.grownBy w2 (some g)) := by rw [hw2]; exact grown_row _ _ _
  clear hw2 HXs1
  go_wp2
  go_ret
  exact ⟨_, rfl, HFin.out _ hh2.out, HG1.out.trans hg2.out⟩
theorem news_ofPl {w : World} {vb : Nat} {x : Pl} (hx : w.heap[vb]? = some (.cells (plE.f x).toArray 87 (0, 0))) : ∀ j v, (plE.f x)[j]? = some v → w.cell? ((⟨vb, 0, none⟩ : Addr).add j) = some v := fun j v hj => by
  rw [add_addr, Nat.zero_add]
  simp only [World.cell?, hx]
  simpa using hj
set_option maxHeartbeats 8000000 in
set_option maxRecDepth 100000 in
theorem insPl_end (B g c vb : Nat) (l : List Pl) (x : Pl) (w : World) (hown : OwnAt plE w B 87 g c l) (hl : l.length ≤ 20) (hB : B ≤ w.heap.size) (hx : w.heap[vb]? = some (.cells (plE.f x).toArray 87 (0, 0))) :
    Calls Tryz.prog 70 #[.slice (some ⟨g, 0, none⟩) l.length c, .int .i64 l.length, .slice (some ⟨vb, 0, none⟩) 1 1] w fun e w' => ∃ v', e = .returned v' ∧ w'.ownsRow B 87 plE.k v' (l.length + 1) (rowOf plE (l ++ [x])) ∧ w.grownBy w' (some g) := by
  obtain ⟨i0, hi0, hz0, hz1, hz2⟩ := info_parts infoPl
  have hcM : c ≤ maxLen := hown.max
  unfold maxLen at hcM
  have hle := hown.le
  have HO := Lib.hid hown.own
  have HX1 := Lib.hid (plE.one x)
  have HXl := Lib.hid (plE.len x)
  have HNw := Lib.hid (news_ofPl hx)
  have hrow : rowOf plE (l ++ [x]) = rowOf plE l ++ plE.f x := by rw [rowOf_append, rowOf, rowOf, List.append_nil]
  rw [hrow]
  obtain ⟨N, hN⟩ : ∃ N, N = l.length := ⟨_, rfl⟩
  rw [← hN] at hl HO hle ⊢
  obtain ⟨X, hX⟩ : ∃ X, X = plE.f x := ⟨_, rfl⟩
  rw [← hX] at HX1 HXl HNw ⊢
  generalize rowOf plE l = R at *
  have b1 : (N : Int) ≤ (c : Int) := by omega
  have b2 : ((N : Int) == (N : Int)) = true := by simp
  clear hown hN hX hrow hx
  by_cases hcN : N = c
  · subst hcN
    go_enter Tryz.func70, Tryz.ntmps70
    go_wp2_with (at_builtin; refine wpList_append_own _ rfl _ _ 52 rfl B 87 i0 _ 5 56 Tryz.underlying52 hi0 hz0 hz1 hz2 rfl (by decide) _ _ _ rfl HO.out ⟨vb, 0, none⟩ 1 1 X rfl HXl.out HNw.out HX1.out (by unfold maxLen; omega) (by omega) hB ?_)
    intro v' w4 hown hgrow _
    have HO4 := Lib.hid hown
    have HG := Lib.hid hgrow
    clear hown hgrow
    go_wp2
    go_ret
    exact ⟨_, rfl, HO4.out, HG.out⟩
  · have hcN' : ¬ (c = N) := fun h => hcN h.symm
    clear hcN
    go_enter Tryz.func70, Tryz.ntmps70
    go_wp2_with (at_builtin; refine wpList_append_own _ rfl _ _ 52 rfl B 87 i0 _ 5 56 Tryz.underlying52 hi0 hz0 hz1 hz2 rfl (by decide) _ _ _ rfl HO.out ⟨vb, 0, none⟩ 1 1 X rfl HXl.out HNw.out HX1.out (by unfold maxLen; omega) (by omega) hB ?_)
    intro v' w4 hown hgrow _
    have HO4 := Lib.hid hown
    have HG := Lib.hid hgrow
    clear hown hgrow
    go_wp2
    go_ret
    exact ⟨_, rfl, HO4.out, HG.out⟩
set_option maxHeartbeats 8000000 in
set_option maxRecDepth 100000 in
theorem insPl_nil (B vb : Nat) (x : Pl) (w : World) (hB : B ≤ w.heap.size) (hx : w.heap[vb]? = some (.cells (plE.f x).toArray 87 (0, 0))) :
    Calls Tryz.prog 70 #[.slice none 0 0, .int .i64 0, .slice (some ⟨vb, 0, none⟩) 1 1] w fun e w' => ∃ v', e = .returned v' ∧ w'.ownsRow B 87 plE.k v' 1 (rowOf plE [x]) ∧ w.grownBy w' none := by
  obtain ⟨i0, hi0, hz0, hz1, hz2⟩ := info_parts infoPl
  have HX1 := Lib.hid (plE.one x)
  have HXl := Lib.hid (plE.len x)
  have HNw := Lib.hid (news_ofPl hx)
  rw [show rowOf plE [x] = plE.f x by rw [rowOf, rowOf, List.append_nil]]
  obtain ⟨X, hX⟩ : ∃ X, X = plE.f x := ⟨_, rfl⟩
  rw [← hX] at HX1 HXl HNw ⊢
  clear hX hx
  go_enter Tryz.func70, Tryz.ntmps70
  go_wp2_with (at_builtin; refine wpList_append_own _ rfl _ _ 52 rfl B 87 i0 _ 5 56 Tryz.underlying52 hi0 hz0 hz1 hz2 rfl (by decide) _ _ _ rfl (World.ownsRow_nil _ _ _ _) ⟨vb, 0, none⟩ 1 1 X rfl HXl.out HNw.out HX1.out (by unfold maxLen; omega) (by omega) hB ?_)
  intro v' w4 hown hgrow _
  have HO4 := Lib.hid hown
  have HG := Lib.hid hgrow
  clear hown hgrow
  go_wp2
  go_ret
  exact ⟨_, rfl, HO4.out, HG.out⟩
set_option maxHeartbeats 8000000 in
set_option maxRecDepth 100000 in
theorem insPl_grow (B g c i vb : Nat) (l : List Pl) (x : Pl) (w : World) (hown : OwnAt plE w B 87 g c l) (hl : l.length ≤ 20) (hi : i < l.length) (hroom : c < l.length + 1) (hB : B ≤ w.heap.size) (hx : w.heap[vb]? = some (.cells (plE.f x).toArray 87 (0, 0))) :
    Calls Tryz.prog 70 #[.slice (some ⟨g, 0, none⟩) l.length c, .int .i64 i, .slice (some ⟨vb, 0, none⟩) 1 1] w fun e w' => ∃ v', e = .returned v' ∧ w'.ownsRow B 87 plE.k v' (l.length + 1) (rowOf plE (l.take i ++ x :: l.drop i)) ∧ w.grownBy w' (some g) := by
  obtain ⟨i0, hi0, hz0, hz1, hz2⟩ := info_parts infoPl
  have hle := hown.le
  have hgw := hown.lt
  have hvw : vb < w.heap.size := (Array.getElem?_eq_some_iff.1 hx).1
  have hA : (rowOf plE (l.take i)).length = i * 5 := by rw [rowOf_len, List.length_take, Nat.min_eq_left (by omega)]; rfl
  have hDl : (rowOf plE (l.drop i)).length = (l.length - i) * 5 := by rw [rowOf_len, List.length_drop]; rfl
  have hXl : (plE.f x).length = 5 := plE.len x
  obtain ⟨G, hG⟩ : ∃ G, G = grownCap w (l.length + 1) c 87 := ⟨_, rfl⟩
  have hGn : l.length + 1 ≤ G := by rw [hG]; exact grownCap_ge w _ _ _
  have hGM : G ≤ maxLen := by rw [hG]; exact grownCap_le_maxLen w _ _ _ (by unfold maxLen; omega)
  obtain ⟨Z, hZ⟩ : ∃ Z : List Value, Z = (Builtin.zeroCells (Value.agg #[.bool false, .int .u64 0, .int .u64 0, .int .i64 0, .slice none 0 0]).cells (l.length + 1 - i)).toList ++ (Builtin.zeroCells (Value.agg #[.bool false, .int .u64 0, .int .u64 0, .int .i64 0, .slice none 0 0]).cells (G - (l.length + 1))).toList := ⟨_, rfl⟩
  have hZl : Z.length = (G - i) * 5 := by
    rw [hZ, List.length_append, zero_len, zero_len]
    show (l.length + 1 - i) * 5 + (G - (l.length + 1)) * 5 = _
    omega
  obtain ⟨W1, hW1⟩ : ∃ W1, W1 = w.drew.alloc (.cells (rowOf plE (l.take i) ++ Z).toArray 87) := ⟨_, rfl⟩
  have hold : (Builtin.firstCells i0.size i (.slice (some ⟨g, 0, none⟩) i c)).run Tryz.prog w.drew = .ok (rowOf plE (l.take i)).toArray w.drew := by
    rw [hz1]
    have h := run_loadCells_list (P := Tryz.prog) w.drew ⟨g, 0, none⟩ (rowOf plE (l.take i)) (hown.lies.take i).news
    rw [hA] at h
    exact h
  have hrz : ∀ ty, (Builtin.append_ #[52, 3] ty #[.slice (some ⟨g, 0, none⟩) i c, .int .i64 ((l.length : Int) + 1 - (i : Int))]).run Tryz.prog w = .ok (.slice (some ⟨w.heap.size, 0, none⟩) (l.length + 1) G) W1 := fun ty => by
    have h := Lib.run_append_grow_zeros (P := Tryz.prog) w 52 3 ty 87 i0 _ .i64 .i64 Tryz.underlying52 Tryz.underlying3 hi0 hz0 (some ⟨g, 0, none⟩) i c (rowOf plE (l.take i)) hold (l.length + 1 - i) (by omega) (by omega) (by omega) (by omega) (by rw [hz2]; omega) (by rw [hz2, show i + (l.length + 1 - i) = l.length + 1 by omega]; have := nextcap_small (l.length + 1) c (by omega) (by omega); omega)
    rw [show i + (l.length + 1 - i) = l.length + 1 by omega, ← hG] at h
    have key : ∀ A1 A2 : Array Value, (rowOf plE (l.take i)).toArray ++ A1 ++ A2 = (rowOf plE (l.take i) ++ (A1.toList ++ A2.toList)).toArray := fun A1 A2 => by apply Array.ext'; simp
    rw [show (l.length : Int) + 1 - (i : Int) = ((l.length + 1 - i : Nat) : Int) by omega, h, hW1, hZ, key]
  have hb1 : W1.heap[w.heap.size]? = some (.cells (rowOf plE (l.take i) ++ Z).toArray 87 (0, 0)) := by rw [hW1]; exact heap_alloc_new w.drew _
  have hbl : Below w.heap.size w W1 := by rw [hW1]; exact bal (Below.refl _ _).drew _
  obtain ⟨W2, hW2⟩ : ∃ W2, W2 = W1.setRow w.heap.size (splice (rowOf plE (l.take i) ++ Z) (i * 5) (plE.f x)).toArray := ⟨_, rfl⟩
  have hcp1 : ∀ ty, (Builtin.copy_ #[52, 52] ty #[.slice (some ⟨w.heap.size, i * 5, none⟩) (l.length + 1 - i) (G - i), .slice (some ⟨vb, 0, none⟩) 1 1]).run Tryz.prog W1 = .ok (.int .i64 1) W2 := fun ty => by
    have := run_copyK (P := Tryz.prog) W1 52 52 ty 87 5 w.heap.size (i * 5) (l.length + 1 - i) (G - i) ⟨vb, 0, none⟩ 1 1 (rowOf plE (l.take i) ++ Z) 87 (plE.f x) Tryz.underlying52 sizePl hb1 (by rw [hXl]; simp only [Nat.min_def]; split <;> omega) (news_ofPl ((hbl.block vb hvw).trans hx)) (by rw [List.length_append, hA, hZl, hXl]; omega) (plE.one x)
    rw [this, hW2, show Nat.min 1 (l.length + 1 - i) = 1 by simp only [Nat.min_def]; split <;> omega]
    rfl
  have hb2 : W2.heap[w.heap.size]? = some (.cells (splice (rowOf plE (l.take i) ++ Z) (i * 5) (plE.f x)).toArray 87 (0, 0)) := by rw [hW2]; exact setRow_heap W1 _ _ _ _ _ hb1
  have hbl2 : Below w.heap.size w W2 := by rw [hW2]; exact below_setRow hbl (Nat.le_refl _) _
  obtain ⟨W3, hW3⟩ : ∃ W3, W3 = W2.drew.setRow w.heap.size (splice (splice (rowOf plE (l.take i) ++ Z) (i * 5) (plE.f x)) ((i + 1) * 5) (rowOf plE (l.drop i))).toArray := ⟨_, rfl⟩
  have hs1 : (splice (rowOf plE (l.take i) ++ Z) (i * 5) (plE.f x)).length = G * 5 := by rw [length_splice _ _ _ (by rw [List.length_append, hA, hZl, hXl]; omega), List.length_append, hA, hZl]; omega
  have hcp2 : ∀ ty, (Builtin.copy_ #[52, 52] ty #[.slice (some ⟨w.heap.size, (i + 1) * 5, none⟩) (l.length - i) (G - (i + 1)), .slice (some ⟨g, i * 5, none⟩) (l.length - i) (c - i)]).run Tryz.prog W2.drew = .ok (.int .i64 ((l.length - i : Nat) : Int)) W3 := fun ty => by
    have h := ((hown.lies.below hbl2.drew).drop i).news
    rw [show (0 : Nat) + i * plE.k = i * 5 from by rw [Nat.zero_add]; rfl] at h
    have := run_copyK (P := Tryz.prog) W2.drew 52 52 ty 87 5 w.heap.size ((i + 1) * 5) (l.length - i) (G - (i + 1)) ⟨g, i * 5, none⟩ (l.length - i) (c - i) (splice (rowOf plE (l.take i) ++ Z) (i * 5) (plE.f x)) 87 (rowOf plE (l.drop i)) Tryz.underlying52 sizePl hb2 (by rw [hDl]; congr 1; simp) h (by rw [hs1, hDl]; omega) (rowOf_one _ _)
    rw [this, hW3, show Nat.min (l.length - i) (l.length - i) = l.length - i by simp]
    rfl
  have HFin : Hid (W3.ownsRow B 87 plE.k (.slice (some ⟨w.heap.size, 0, none⟩) (l.length + 1) G) (l.length + 1) (rowOf plE (l.take i ++ x :: l.drop i)) ∧ w.grownBy W3 (some g)) := by
    have hlen : (l.take i ++ x :: l.drop i).length = l.length + 1 := by simp; omega
    have hf := splice_fill (rowOf plE (l.take i)) Z (plE.f x) (rowOf plE (l.drop i)) (by rw [hXl, hDl, hZl]; omega)
    rw [hA, hXl, show i * 5 + 5 = (i + 1) * 5 by omega] at hf
    have hrw : rowOf plE (l.take i) ++ plE.f x ++ rowOf plE (l.drop i) = rowOf plE (l.take i ++ x :: l.drop i) := by rw [rowOf_append, rowOf, List.append_assoc]
    rw [hrw] at hf
    have h3 : W3.heap[w.heap.size]? = some (.cells (rowOf plE (l.take i ++ x :: l.drop i) ++ Z.drop (5 + (rowOf plE (l.drop i)).length)).toArray 87 (0, 0)) := by
      rw [hW3, ← hf]
      exact setRow_heap W2.drew _ _ _ _ _ hb2
    have h2 : OwnAt plE W3 B 87 w.heap.size G (l.take i ++ x :: l.drop i) := ⟨hB, by rw [hlen]; exact hGn, hGM, _, h3, by
      rw [← hf, length_splice _ _ _ (by rw [hs1, hDl]; omega), hs1]; rfl⟩
    have h4 := h2.own
    rw [hlen] at h4
    refine ⟨h4, grown_below ?_⟩
    rw [hW3]
    exact below_setRow hbl2.drew (Nat.le_refl _) _
  clear hW1 hW2 hW3 hb1 hb2 hbl hbl2 hs1 hold hA hDl hXl hZ hZl hx hown hG
  generalize rowOf plE (l.take i ++ x :: l.drop i) = F at *
  obtain ⟨N, hN⟩ : ∃ N, N = l.length := ⟨_, rfl⟩
  rw [← hN] at hl hi hroom hle hGn hrz hcp1 hcp2 HFin ⊢
  unfold maxLen at hGM
  have b1 : (0 : Int) ≤ (i : Int) := by omega
  have b2 : (i : Int) ≤ (N : Int) := by omega
  have b3 : (N : Int) ≤ (c : Int) := by omega
  have b4 : ((i : Int) == (N : Int)) = false := beq_eq_false_iff_ne.2 (by omega)
  have b5 : (c : Int) < (N : Int) + 1 := by omega
  have b7 : IntKind.i64.wrap ((N : Int) + 1) = (N : Int) + 1 := by rw [IntKind.wrap_i64]; omega
  have b8 : IntKind.i64.wrap ((i : Int) + 1) = (i : Int) + 1 := by rw [IntKind.wrap_i64]; omega
  have b9 : (i : Int) + 1 ≤ (N : Int) + 1 := by omega
  have b10 : (0 : Int) ≤ (i : Int) + 1 := by omega
  have b12 : (i : Int) ≤ (N : Int) + 1 := by omega
  have b13 : ¬ (G = i + 1) := by omega
  have b14 : ¬ (c = i) := by omega
  have b15 : ¬ (G = i) := by omega
  have b16 : (N : Int) + 1 ≤ (G : Int) := by omega
  have b17 : IntKind.i64.wrap ((N : Int) + 1 - (i : Int)) = (N : Int) + 1 - (i : Int) := by rw [IntKind.wrap_i64]; omega
  have b18 : (i : Int) ≤ (c : Int) := by omega
  clear hN
  go_enter Tryz.func70, Tryz.ntmps70
  go_wp2_with (at_builtin; refine Lib.wpList_append_run _ rfl _ _ 52 3 rfl _ _ rfl rfl _ _ (hrz _) ?_)
  go_region_held3 (fun w' => True) (trivial) (fail)
  go_wp2
  go_ret
  exact ⟨_, rfl, HFin.out.1, HFin.out.2⟩
/-- Insert, whatever row it is. -/
theorem insPl_any (B i vb : Nat) (lv : Value) (l : List Pl) (x : Pl) (w : World) (hown : w.ownsRow B 87 plE.k lv l.length (rowOf plE l)) (hl : l.length ≤ 20) (hi : i ≤ l.length) (hB : B ≤ w.heap.size) (hx : w.heap[vb]? = some (.cells (plE.f x).toArray 87 (0, 0))) (hne : lv.ownBlock ≠ some vb) :
    Calls Tryz.prog 70 #[lv, .int .i64 i, .slice (some ⟨vb, 0, none⟩) 1 1] w fun e w' => ∃ g' c', e = .returned (.slice (some ⟨g', 0, none⟩) (l.length + 1) c') ∧ w'.ownsRow B 87 plE.k (.slice (some ⟨g', 0, none⟩) (l.length + 1) c') (l.length + 1) (rowOf plE (l.take i ++ x :: l.drop i)) ∧ w.grownBy w' lv.ownBlock := by
  have fin : ∀ {R : List Value} {w' : World} {v' : Value}, w'.ownsRow B 87 plE.k v' (l.length + 1) R → ∃ g' c', v' = .slice (some ⟨g', 0, none⟩) (l.length + 1) c' := fun h => by
    rcases h.2 with ⟨_, e⟩ | ⟨g, c, cur, e, _⟩
    · omega
    · exact ⟨g, c, e⟩
  rcases own_form hown with ⟨rfl, rfl⟩ | ⟨g, c, rfl, ho⟩
  · obtain rfl : i = 0 := by simpa using hi
    refine (insPl_nil B vb x w hB hx).mono ?_
    rintro e w' ⟨v', rfl, h1, h2⟩
    obtain ⟨g', c', rfl⟩ := fin h1
    exact ⟨g', c', rfl, h1, h2⟩
  · have hvg : vb ≠ g := fun e => hne (by rw [e]; rfl)
    rw [ownBlock_slice]
    by_cases he : i = l.length
    · subst he
      refine (insPl_end B g c vb l x w ho hl hB hx).mono ?_
      rintro e w' ⟨v', rfl, h1, h2⟩
      obtain ⟨g', c', rfl⟩ := fin h1
      rw [List.take_length, List.drop_length]
      exact ⟨g', c', rfl, h1, h2⟩
    · by_cases hr : l.length + 1 ≤ c
      · refine (insPl_shift B g c i vb l x w ho hl (by omega) hr hx hvg).mono ?_
        rintro e w' ⟨v', rfl, h1, h2⟩
        obtain ⟨g', c', rfl⟩ := fin h1
        exact ⟨g', c', rfl, h1, h2⟩
      · refine (insPl_grow B g c i vb l x w ho hl (by omega) (by omega) hB hx).mono ?_
        rintro e w' ⟨v', rfl, h1, h2⟩
        obtain ⟨g', c', rfl⟩ := fin h1
        exact ⟨g', c', rfl, h1, h2⟩
end Go.Proofs.YtjainfehlbfiaaaGreat
