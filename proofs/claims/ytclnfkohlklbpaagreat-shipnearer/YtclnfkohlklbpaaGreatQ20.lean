/- slices.Insert at leases of one that lies at the beginning of any row. -/
import Derived.Test.YtclnfkohlklbpaaGreatQ19
set_option linter.unusedVariables false
set_option linter.unusedSimpArgs false
namespace Go.Proofs.YtclnfkohlklbpaaGreat
open Go.RowKit

theorem news_ofV {w : World} {vb : Nat} {x : Ls} {xr : List Value} (hx : w.heap[vb]? = some (.cells (lsE.f x ++ xr).toArray 90 (0, 0))) : ∀ j v, (lsE.f x)[j]? = some v → w.cell? ((⟨vb, 0, none⟩ : Addr).add j) = some v := fun j v hj => by
  have h9 := (List.getElem?_eq_some_iff.1 hj).1
  have h8 : ((lsE.f x ++ xr).toArray)[j]? = some v := by rw [List.getElem?_toArray, List.getElem?_append_left h9]; exact hj
  rw [add_addr, Nat.zero_add]
  simp only [World.cell?, hx]
  simpa using h8
set_option maxHeartbeats 8000000 in
set_option maxRecDepth 100000 in
theorem insV_shift (B g c i vb : Nat) (l : List Ls) (x : Ls) (w : World) (hown : OwnAt lsE w B 90 g c l) (hl : l.length ≤ 20) (hi : i < l.length) (hroom : l.length + 1 ≤ c) (vc : Nat) (xr : List Value) (hvc : 1 ≤ vc) (hxl : (lsE.f x ++ xr).length = vc * 5) (hx : w.heap[vb]? = some (.cells (lsE.f x ++ xr).toArray 90 (0, 0))) (hne : vb ≠ g) :
    Calls Tryz.prog 93 #[.slice (some ⟨g, 0, none⟩) l.length c, .int .i64 i, .slice (some ⟨vb, 0, none⟩) 1 vc] w fun e w' => ∃ v', e = .returned v' ∧ w'.ownsRow B 90 lsE.k v' (l.length + 1) (rowOf lsE (l.take i ++ x :: l.drop i)) ∧ w.grownBy w' (some g) := by
  obtain ⟨r, hr, hlr⟩ := hown.row
  have hcM : c ≤ maxLen := hown.max
  unfold maxLen at hcM
  have hBg := hown.base
  have hlr' : (rowOf lsE l ++ r).length = c * 5 := hlr
  have hrl : (rowOf lsE l).length = l.length * 5 := rowOf_len lsE l
  have hr5 : lsE.k ≤ r.length := by show 5 ≤ _; rw [List.length_append, hrl] at hlr'; omega
  have hov : ∀ lb cb, (callFunc 94 #[.slice (some ⟨vb, 0, none⟩) 1 vc, .slice (some ⟨g, (i + 1) * 5, none⟩) lb cb]).run Tryz.prog w = .ok (.value (.bool false)) w := fun lb cb => by
    rw [run_callFunc_extern Tryz.func94 (by kernel_rfl) (by kernel_rfl) (by kernel_rfl) (e := Extern.SlicesOverlaps.overlaps #[46, 46] #[4]) (by kernel_rfl),
      Lib.run_overlaps_apart w 46 4 90 Tryz.underlying46 5 sizeOfL ⟨vb, 0, none⟩ ⟨g, (i + 1) * 5, none⟩ 1 vc lb cb hne 90 90 (vc * 5) (c * 5) (by simp [World.shape?, hx]; simpa using hxl) (by simp [World.shape?, hr]; simpa using hlr') (by omega) (by simp [World.frozen?, hx]) (by simp [World.frozen?, hx])]
    rfl
  have hfit := ins_fit lsE l i x r (by omega) hr5
  have HSrc : Hid (∀ j v, (rowOf lsE (l.drop i))[j]? = some v → w.cell? ((⟨g, i * 5, none⟩ : Addr).add j) = some v) := by
    have h := (hown.lies.drop i).news
    rw [show (0 : Nat) + i * lsE.k = i * 5 from by rw [Nat.zero_add]; rfl] at h
    exact h
  have HXs : Hid (∀ W : World, w.grownBy W (some g) → ∀ j v, (lsE.f x)[j]? = some v → W.cell? ((⟨vb, 0, none⟩ : Addr).add j) = some v) := fun W hW j v hj => by
    rw [add_addr, Nat.zero_add, World.cell?_of_block (a := ⟨vb, j, none⟩) (hW.block vb (Array.getElem?_eq_some_iff.1 hx).1 (by simpa using hne))]
    have h9 := (List.getElem?_eq_some_iff.1 hj).1
    have h8 : ((lsE.f x ++ xr).toArray)[j]? = some v := by rw [List.getElem?_toArray, List.getElem?_append_left h9]; exact hj
    simp only [World.cell?, hx]
    simpa using h8
  have HDl : Hid ((rowOf lsE (l.drop i)).length = (l.length - i) * 5) := by rw [Hid, rowOf_len, List.length_drop]; rfl
  have HD1 := Lib.hid (rowOf_one lsE (l.drop i))
  have HX1 := Lib.hid (lsE.one x)
  have HXl := Lib.hid (lsE.len x)
  have HFin : Hid (∀ W : World, W.heap[g]? = some (.cells (splice (splice (rowOf lsE l ++ r) ((i + 1) * 5) (rowOf lsE (l.drop i))) (i * 5) (lsE.f x)).toArray 90 (0, 0)) → W.ownsRow B 90 lsE.k (.slice (some ⟨g, 0, none⟩) (l.length + 1) c) (l.length + 1) (rowOf lsE (l.take i ++ x :: l.drop i))) := fun W hW => by
    have hlen : (l.take i ++ x :: l.drop i).length = l.length + 1 := by simp; omega
    have h2 : OwnAt lsE W B 90 g c (l.take i ++ x :: l.drop i) := ⟨hBg, by rw [hlen]; exact hroom, hown.max, r.drop lsE.k, by
      rw [← hfit]; exact hW, by
      rw [← hfit, length_splice _ _ _ (by rw [length_splice _ _ _ (by rw [HDl.out, hlr']; show (i + 1) * 5 + _ ≤ _; omega), hlr', HXl.out]; show i * 5 + 5 ≤ _; omega), length_splice _ _ _ (by rw [HDl.out, hlr']; show (i + 1) * 5 + _ ≤ _; omega)]; exact hlr⟩
    have := h2.own
    rw [hlen] at this
    exact this
  have HR := Lib.hid hr
  have HLr := Lib.hid hlr'
  obtain ⟨N, hN⟩ : ∃ N, N = l.length := ⟨_, rfl⟩
  rw [← hN] at hl hi hroom HDl HFin ⊢
  obtain ⟨F, hF⟩ : ∃ F, F = rowOf lsE (l.take i ++ x :: l.drop i) := ⟨_, rfl⟩
  rw [← hF] at HFin ⊢
  obtain ⟨D, hD⟩ : ∃ D, D = rowOf lsE (l.drop i) := ⟨_, rfl⟩
  rw [← hD] at HSrc HDl HD1 HFin
  obtain ⟨X, hX⟩ : ∃ X, X = lsE.f x := ⟨_, rfl⟩
  rw [← hX] at HXs HX1 HXl HFin
  obtain ⟨C, hC⟩ : ∃ C, C = rowOf lsE l ++ r := ⟨_, rfl⟩
  rw [← hC] at HR HLr HFin
  clear hN hF hD hX hC hfit hr hlr hlr' hrl hr5 hown hx hne
  have b1 : (0 : Int) ≤ (i : Int) := by omega
  have b2 : (i : Int) ≤ (N : Int) := by omega
  have b3 : (N : Int) ≤ (c : Int) := by omega
  have b4 : ((i : Int) == (N : Int)) = false := beq_eq_false_iff_ne.2 (by omega)
  have b5 : ¬ (c : Int) < (N : Int) + 1 := by omega
  have b6 : (N : Int) + 1 ≤ (c : Int) := by omega
  have b7 : IntKind.i64.wrap ((N : Int) + 1) = (N : Int) + 1 := by rw [IntKind.wrap_i64]; omega
  have b8 : IntKind.i64.wrap ((i : Int) + 1) = (i : Int) + 1 := by rw [IntKind.wrap_i64]; omega
  have b9 : (i : Int) + 1 ≤ (N : Int) + 1 := by omega
  have b10 : (0 : Int) ≤ (i : Int) + 1 := by omega
  have b11 : (0 : Int) ≤ (N : Int) + 1 := by omega
  have b12 : (i : Int) ≤ (N : Int) + 1 := by omega
  have b13 : ¬ (c = i + 1) := by omega
  have b14 : ¬ (c = i) := by omega
  go_enter Tryz.func93, Tryz.ntmps93
  go_wp2_with (simp only [hov])
  go_region_held3 (fun w' => True) (trivial)
    ((refine step_copyK (by rfl) _ _ 46 46 (by rfl) 90 5 Tryz.underlying46 sizeL g ((i + 1) * 5) (N - i) (c - (i + 1)) ⟨g, i * 5, none⟩ (N + 1 - i) (c - i) (by simp [Act.eval, Act.put]) (by simp [Act.eval, Act.put]) C 90 HR.out D (by rw [HDl.out]; congr 1; simp only [Nat.min_def]; split <;> omega) HSrc.out (by rw [HDl.out, HLr.out]; omega) HD1.out ?_; intro w1 hh1 hg1))
  replace hg1 := grown_drew hg1
  have HG1 := Lib.hid hg1
  have HXs1 := Lib.hid (HXs.out w1 hg1)
  clear hg1 HXs HSrc
  obtain ⟨w2, hw2⟩ : ∃ w2, w2 = w1.setRow g (splice (splice C ((i + 1) * 5) D) (i * 5) X).toArray := ⟨_, rfl⟩
  have hcp : ∀ ty, (Builtin.copy_ #[46, 46] ty #[.slice (some ⟨g, i * 5, none⟩) (N + 1 - i) (c - i), .slice (some ⟨vb, 0, none⟩) 1 vc]).run Tryz.prog w1 = .ok (.int .i64 1) w2 := fun ty => by
    have := run_copyK (P := Tryz.prog) w1 46 46 ty 90 5 g (i * 5) (N + 1 - i) (c - i) ⟨vb, 0, none⟩ 1 vc (splice C ((i + 1) * 5) D) 90 X Tryz.underlying46 sizeL hh1.out (by rw [HXl.out]; show 5 = _; simp only [Nat.min_def]; split <;> omega) HXs1.out (by rw [length_splice _ _ _ (by rw [HDl.out, HLr.out]; omega), HLr.out, HXl.out]; show i * 5 + 5 ≤ _; omega) HX1.out
    rw [this, hw2, show Nat.min 1 (N + 1 - i) = 1 by simp only [Nat.min_def]; split <;> omega]
    rfl
  have hh2 : Hid (w2.heap[g]? = some (.cells (splice (splice C ((i + 1) * 5) D) (i * 5) X).toArray 90 (0, 0))) := by rw [hw2]; exact setRow_heap w1 g _ _ _ _ hh1.out
  have hg2 : Hid (w1.grownBy w2 (some g)) := by rw [hw2]; exact grown_row _ _ _
  clear hw2 HXs1
  go_wp2
  go_ret
  exact ⟨_, rfl, HFin.out _ hh2.out, HG1.out.trans hg2.out⟩
set_option maxHeartbeats 8000000 in
set_option maxRecDepth 100000 in
theorem insV_end (B g c vb : Nat) (l : List Ls) (x : Ls) (w : World) (hown : OwnAt lsE w B 90 g c l) (hl : l.length ≤ 20) (hB : B ≤ w.heap.size) (vc : Nat) (xr : List Value) (hvc : 1 ≤ vc) (hxl : (lsE.f x ++ xr).length = vc * 5) (hx : w.heap[vb]? = some (.cells (lsE.f x ++ xr).toArray 90 (0, 0))) :
    Calls Tryz.prog 93 #[.slice (some ⟨g, 0, none⟩) l.length c, .int .i64 l.length, .slice (some ⟨vb, 0, none⟩) 1 vc] w fun e w' => ∃ v', e = .returned v' ∧ w'.ownsRow B 90 lsE.k v' (l.length + 1) (rowOf lsE (l ++ [x])) ∧ w.grownBy w' (some g) := by
  obtain ⟨i0, hi0, hz0, hz1, hz2⟩ := info_parts infoL3
  have hcM : c ≤ maxLen := hown.max
  unfold maxLen at hcM
  have hle := hown.le
  have HO := Lib.hid hown.own
  have HX1 := Lib.hid (lsE.one x)
  have HXl := Lib.hid (lsE.len x)
  have HNw := Lib.hid (news_ofV hx)
  have hrow : rowOf lsE (l ++ [x]) = rowOf lsE l ++ lsE.f x := by rw [rowOf_append, rowOf, rowOf, List.append_nil]
  rw [hrow]
  obtain ⟨N, hN⟩ : ∃ N, N = l.length := ⟨_, rfl⟩
  rw [← hN] at hl HO hle ⊢
  obtain ⟨X, hX⟩ : ∃ X, X = lsE.f x := ⟨_, rfl⟩
  rw [← hX] at HX1 HXl HNw ⊢
  generalize rowOf lsE l = R at *
  have b1 : (N : Int) ≤ (c : Int) := by omega
  have b2 : ((N : Int) == (N : Int)) = true := by simp
  clear hown hN hX hrow hx
  by_cases hcN : N = c
  · subst hcN
    go_enter Tryz.func93, Tryz.ntmps93
    go_wp2_with (at_builtin; refine wpList_append_own _ rfl _ _ 46 rfl B 90 i0 _ 5 48 Tryz.underlying46 hi0 hz0 hz1 hz2 rfl (by decide) _ _ _ rfl HO.out ⟨vb, 0, none⟩ 1 vc X rfl HXl.out HNw.out HX1.out (by unfold maxLen; omega) (by omega) hB ?_)
    intro v' w4 hown hgrow _
    have HO4 := Lib.hid hown
    have HG := Lib.hid hgrow
    clear hown hgrow
    go_wp2
    go_ret
    exact ⟨_, rfl, HO4.out, HG.out⟩
  · have hcN' : ¬ (c = N) := fun h => hcN h.symm
    clear hcN
    go_enter Tryz.func93, Tryz.ntmps93
    go_wp2_with (at_builtin; refine wpList_append_own _ rfl _ _ 46 rfl B 90 i0 _ 5 48 Tryz.underlying46 hi0 hz0 hz1 hz2 rfl (by decide) _ _ _ rfl HO.out ⟨vb, 0, none⟩ 1 vc X rfl HXl.out HNw.out HX1.out (by unfold maxLen; omega) (by omega) hB ?_)
    intro v' w4 hown hgrow _
    have HO4 := Lib.hid hown
    have HG := Lib.hid hgrow
    clear hown hgrow
    go_wp2
    go_ret
    exact ⟨_, rfl, HO4.out, HG.out⟩
set_option maxHeartbeats 8000000 in
set_option maxRecDepth 100000 in
theorem insV_nil (B vb : Nat) (x : Ls) (w : World) (hB : B ≤ w.heap.size) (vc : Nat) (xr : List Value) (hvc : 1 ≤ vc) (hxl : (lsE.f x ++ xr).length = vc * 5) (hx : w.heap[vb]? = some (.cells (lsE.f x ++ xr).toArray 90 (0, 0))) :
    Calls Tryz.prog 93 #[.slice none 0 0, .int .i64 0, .slice (some ⟨vb, 0, none⟩) 1 vc] w fun e w' => ∃ v', e = .returned v' ∧ w'.ownsRow B 90 lsE.k v' 1 (rowOf lsE [x]) ∧ w.grownBy w' none := by
  obtain ⟨i0, hi0, hz0, hz1, hz2⟩ := info_parts infoL3
  have HX1 := Lib.hid (lsE.one x)
  have HXl := Lib.hid (lsE.len x)
  have HNw := Lib.hid (news_ofV hx)
  rw [show rowOf lsE [x] = lsE.f x by rw [rowOf, rowOf, List.append_nil]]
  obtain ⟨X, hX⟩ : ∃ X, X = lsE.f x := ⟨_, rfl⟩
  rw [← hX] at HX1 HXl HNw ⊢
  clear hX hx
  go_enter Tryz.func93, Tryz.ntmps93
  go_wp2_with (at_builtin; refine wpList_append_own _ rfl _ _ 46 rfl B 90 i0 _ 5 48 Tryz.underlying46 hi0 hz0 hz1 hz2 rfl (by decide) _ _ _ rfl (World.ownsRow_nil _ _ _ _) ⟨vb, 0, none⟩ 1 vc X rfl HXl.out HNw.out HX1.out (by unfold maxLen; omega) (by omega) hB ?_)
  intro v' w4 hown hgrow _
  have HO4 := Lib.hid hown
  have HG := Lib.hid hgrow
  clear hown hgrow
  go_wp2
  go_ret
  exact ⟨_, rfl, HO4.out, HG.out⟩
set_option maxHeartbeats 8000000 in
set_option maxRecDepth 100000 in
theorem insV_grow (B g c i vb : Nat) (l : List Ls) (x : Ls) (w : World) (hown : OwnAt lsE w B 90 g c l) (hl : l.length ≤ 20) (hi : i < l.length) (hroom : c < l.length + 1) (hB : B ≤ w.heap.size) (vc : Nat) (xr : List Value) (hvc : 1 ≤ vc) (hxl : (lsE.f x ++ xr).length = vc * 5) (hx : w.heap[vb]? = some (.cells (lsE.f x ++ xr).toArray 90 (0, 0))) :
    Calls Tryz.prog 93 #[.slice (some ⟨g, 0, none⟩) l.length c, .int .i64 i, .slice (some ⟨vb, 0, none⟩) 1 vc] w fun e w' => ∃ v', e = .returned v' ∧ w'.ownsRow B 90 lsE.k v' (l.length + 1) (rowOf lsE (l.take i ++ x :: l.drop i)) ∧ w.grownBy w' (some g) := by
  obtain ⟨i0, hi0, hz0, hz1, hz2⟩ := info_parts infoL3
  have hle := hown.le
  have hgw := hown.lt
  have hvw : vb < w.heap.size := (Array.getElem?_eq_some_iff.1 hx).1
  have hA : (rowOf lsE (l.take i)).length = i * 5 := by rw [rowOf_len, List.length_take, Nat.min_eq_left (by omega)]; rfl
  have hDl : (rowOf lsE (l.drop i)).length = (l.length - i) * 5 := by rw [rowOf_len, List.length_drop]; rfl
  have hXl : (lsE.f x).length = 5 := lsE.len x
  obtain ⟨G, hG⟩ : ∃ G, G = grownCap w (l.length + 1) c 90 := ⟨_, rfl⟩
  have hGn : l.length + 1 ≤ G := by rw [hG]; exact grownCap_ge w _ _ _
  have hGM : G ≤ maxLen := by rw [hG]; exact grownCap_le_maxLen w _ _ _ (by unfold maxLen; omega)
  obtain ⟨Z, hZ⟩ : ∃ Z : List Value, Z = (Builtin.zeroCells (Value.agg #[.bool false, .int .u64 0, .int .u64 0, .string ⟨#[]⟩, .int .i64 0]).cells (l.length + 1 - i)).toList ++ (Builtin.zeroCells (Value.agg #[.bool false, .int .u64 0, .int .u64 0, .string ⟨#[]⟩, .int .i64 0]).cells (G - (l.length + 1))).toList := ⟨_, rfl⟩
  have hZl : Z.length = (G - i) * 5 := by
    rw [hZ, List.length_append, zero_len, zero_len]
    show (l.length + 1 - i) * 5 + (G - (l.length + 1)) * 5 = _
    omega
  obtain ⟨W1, hW1⟩ : ∃ W1, W1 = w.drew.alloc (.cells (rowOf lsE (l.take i) ++ Z).toArray 90) := ⟨_, rfl⟩
  have hold : (Builtin.firstCells i0.size i (.slice (some ⟨g, 0, none⟩) i c)).run Tryz.prog w.drew = .ok (rowOf lsE (l.take i)).toArray w.drew := by
    rw [hz1]
    have h := run_loadCells_list (P := Tryz.prog) w.drew ⟨g, 0, none⟩ (rowOf lsE (l.take i)) (hown.lies.take i).news
    rw [hA] at h
    exact h
  have hrz : ∀ ty, (Builtin.append_ #[46, 3] ty #[.slice (some ⟨g, 0, none⟩) i c, .int .i64 ((l.length : Int) + 1 - (i : Int))]).run Tryz.prog w = .ok (.slice (some ⟨w.heap.size, 0, none⟩) (l.length + 1) G) W1 := fun ty => by
    have h := Lib.run_append_grow_zeros (P := Tryz.prog) w 46 3 ty 90 i0 _ .i64 .i64 Tryz.underlying46 Tryz.underlying3 hi0 hz0 (some ⟨g, 0, none⟩) i c (rowOf lsE (l.take i)) hold (l.length + 1 - i) (by omega) (by omega) (by omega) (by omega) (by rw [hz2]; omega) (by rw [hz2, show i + (l.length + 1 - i) = l.length + 1 by omega]; have := nextcap_small (l.length + 1) c (by omega) (by omega); omega)
    rw [show i + (l.length + 1 - i) = l.length + 1 by omega, ← hG] at h
    have key : ∀ A1 A2 : Array Value, (rowOf lsE (l.take i)).toArray ++ A1 ++ A2 = (rowOf lsE (l.take i) ++ (A1.toList ++ A2.toList)).toArray := fun A1 A2 => by apply Array.ext'; simp
    rw [show (l.length : Int) + 1 - (i : Int) = ((l.length + 1 - i : Nat) : Int) by omega, h, hW1, hZ, key]
  have hb1 : W1.heap[w.heap.size]? = some (.cells (rowOf lsE (l.take i) ++ Z).toArray 90 (0, 0)) := by rw [hW1]; exact heap_alloc_new w.drew _
  have hbl : Below w.heap.size w W1 := by rw [hW1]; exact bal (Below.refl _ _).drew _
  obtain ⟨W2, hW2⟩ : ∃ W2, W2 = W1.setRow w.heap.size (splice (rowOf lsE (l.take i) ++ Z) (i * 5) (lsE.f x)).toArray := ⟨_, rfl⟩
  have hcp1 : ∀ ty, (Builtin.copy_ #[46, 46] ty #[.slice (some ⟨w.heap.size, i * 5, none⟩) (l.length + 1 - i) (G - i), .slice (some ⟨vb, 0, none⟩) 1 vc]).run Tryz.prog W1 = .ok (.int .i64 1) W2 := fun ty => by
    have := run_copyK (P := Tryz.prog) W1 46 46 ty 90 5 w.heap.size (i * 5) (l.length + 1 - i) (G - i) ⟨vb, 0, none⟩ 1 vc (rowOf lsE (l.take i) ++ Z) 90 (lsE.f x) Tryz.underlying46 sizeL hb1 (by rw [hXl]; simp only [Nat.min_def]; split <;> omega) (news_ofV ((hbl.block vb hvw).trans hx)) (by rw [List.length_append, hA, hZl, hXl]; omega) (lsE.one x)
    rw [this, hW2, show Nat.min 1 (l.length + 1 - i) = 1 by simp only [Nat.min_def]; split <;> omega]
    rfl
  have hb2 : W2.heap[w.heap.size]? = some (.cells (splice (rowOf lsE (l.take i) ++ Z) (i * 5) (lsE.f x)).toArray 90 (0, 0)) := by rw [hW2]; exact setRow_heap W1 _ _ _ _ _ hb1
  have hbl2 : Below w.heap.size w W2 := by rw [hW2]; exact below_setRow hbl (Nat.le_refl _) _
  obtain ⟨W3, hW3⟩ : ∃ W3, W3 = W2.drew.setRow w.heap.size (splice (splice (rowOf lsE (l.take i) ++ Z) (i * 5) (lsE.f x)) ((i + 1) * 5) (rowOf lsE (l.drop i))).toArray := ⟨_, rfl⟩
  have hs1 : (splice (rowOf lsE (l.take i) ++ Z) (i * 5) (lsE.f x)).length = G * 5 := by rw [length_splice _ _ _ (by rw [List.length_append, hA, hZl, hXl]; omega), List.length_append, hA, hZl]; omega
  have hcp2 : ∀ ty, (Builtin.copy_ #[46, 46] ty #[.slice (some ⟨w.heap.size, (i + 1) * 5, none⟩) (l.length - i) (G - (i + 1)), .slice (some ⟨g, i * 5, none⟩) (l.length - i) (c - i)]).run Tryz.prog W2.drew = .ok (.int .i64 ((l.length - i : Nat) : Int)) W3 := fun ty => by
    have h := ((hown.lies.below hbl2.drew).drop i).news
    rw [show (0 : Nat) + i * lsE.k = i * 5 from by rw [Nat.zero_add]; rfl] at h
    have := run_copyK (P := Tryz.prog) W2.drew 46 46 ty 90 5 w.heap.size ((i + 1) * 5) (l.length - i) (G - (i + 1)) ⟨g, i * 5, none⟩ (l.length - i) (c - i) (splice (rowOf lsE (l.take i) ++ Z) (i * 5) (lsE.f x)) 90 (rowOf lsE (l.drop i)) Tryz.underlying46 sizeL hb2 (by rw [hDl]; congr 1; simp) h (by rw [hs1, hDl]; omega) (rowOf_one _ _)
    rw [this, hW3, show Nat.min (l.length - i) (l.length - i) = l.length - i by simp]
    rfl
  have HFin : Hid (W3.ownsRow B 90 lsE.k (.slice (some ⟨w.heap.size, 0, none⟩) (l.length + 1) G) (l.length + 1) (rowOf lsE (l.take i ++ x :: l.drop i)) ∧ w.grownBy W3 (some g)) := by
    have hlen : (l.take i ++ x :: l.drop i).length = l.length + 1 := by simp; omega
    have hf := splice_fill (rowOf lsE (l.take i)) Z (lsE.f x) (rowOf lsE (l.drop i)) (by rw [hXl, hDl, hZl]; omega)
    rw [hA, hXl, show i * 5 + 5 = (i + 1) * 5 by omega] at hf
    have hrw : rowOf lsE (l.take i) ++ lsE.f x ++ rowOf lsE (l.drop i) = rowOf lsE (l.take i ++ x :: l.drop i) := by rw [rowOf_append, rowOf, List.append_assoc]
    rw [hrw] at hf
    have h3 : W3.heap[w.heap.size]? = some (.cells (rowOf lsE (l.take i ++ x :: l.drop i) ++ Z.drop (5 + (rowOf lsE (l.drop i)).length)).toArray 90 (0, 0)) := by
      rw [hW3, ← hf]
      exact setRow_heap W2.drew _ _ _ _ _ hb2
    have h2 : OwnAt lsE W3 B 90 w.heap.size G (l.take i ++ x :: l.drop i) := ⟨hB, by rw [hlen]; exact hGn, hGM, _, h3, by
      rw [← hf, length_splice _ _ _ (by rw [hs1, hDl]; omega), hs1]; rfl⟩
    have h4 := h2.own
    rw [hlen] at h4
    refine ⟨h4, grown_below ?_⟩
    rw [hW3]
    exact below_setRow hbl2.drew (Nat.le_refl _) _
  clear hW1 hW2 hW3 hb1 hb2 hbl hbl2 hs1 hold hA hDl hXl hZ hZl hx hown hG
  generalize rowOf lsE (l.take i ++ x :: l.drop i) = F at *
  obtain ⟨N, hN⟩ : ∃ N, N = l.length := ⟨_, rfl⟩
  rw [← hN] at hl hi hroom hle hGn hrz hcp1 hcp2 HFin ⊢
  unfold maxLen at hGM
  have b1 : (0 : Int) ≤ (i : Int) := by omega
  have b2 : (i : Int) ≤ (N : Int) := by omega
  have b3 : (N : Int) ≤ (c : Int) := by omega
  have b4 : ((i : Int) == (N : Int)) = false := beq_eq_false_iff_ne.2 (by omega)
  have b5 : (c : Int) < (N : Int) + 1 := by omega
  have b7 : IntKind.i64.wrap ((N : Int) + 1) = (N : Int) + 1 := by rw [IntKind.wrap_i64]; omega
  have b8 : IntKind.i64.wrap ((i : Int) + 1) = (i : Int) + 1 := by rw [IntKind.wrap_i64]; omega
  have b9 : (i : Int) + 1 ≤ (N : Int) + 1 := by omega
  have b10 : (0 : Int) ≤ (i : Int) + 1 := by omega
  have b12 : (i : Int) ≤ (N : Int) + 1 := by omega
  have b13 : ¬ (G = i + 1) := by omega
  have b14 : ¬ (c = i) := by omega
  have b15 : ¬ (G = i) := by omega
  have b16 : (N : Int) + 1 ≤ (G : Int) := by omega
  have b17 : IntKind.i64.wrap ((N : Int) + 1 - (i : Int)) = (N : Int) + 1 - (i : Int) := by rw [IntKind.wrap_i64]; omega
  have b18 : (i : Int) ≤ (c : Int) := by omega
  clear hN
  go_enter Tryz.func93, Tryz.ntmps93
  go_wp2_with (at_builtin; refine Lib.wpList_append_run _ rfl _ _ 46 3 rfl _ _ rfl rfl _ _ (hrz _) ?_)
  go_region_held3 (fun w' => True) (trivial) (fail)
  go_wp2
  go_ret
  exact ⟨_, rfl, HFin.out.1, HFin.out.2⟩
/-- Insert, whatever row it is. -/
theorem insV_any (B i vb : Nat) (lv : Value) (l : List Ls) (x : Ls) (w : World) (hown : w.ownsRow B 90 lsE.k lv l.length (rowOf lsE l)) (hl : l.length ≤ 20) (hi : i ≤ l.length) (hB : B ≤ w.heap.size) (vc : Nat) (xr : List Value) (hvc : 1 ≤ vc) (hxl : (lsE.f x ++ xr).length = vc * 5) (hx : w.heap[vb]? = some (.cells (lsE.f x ++ xr).toArray 90 (0, 0))) (hne : lv.ownBlock ≠ some vb) :
    Calls Tryz.prog 93 #[lv, .int .i64 i, .slice (some ⟨vb, 0, none⟩) 1 vc] w fun e w' => ∃ g' c', e = .returned (.slice (some ⟨g', 0, none⟩) (l.length + 1) c') ∧ w'.ownsRow B 90 lsE.k (.slice (some ⟨g', 0, none⟩) (l.length + 1) c') (l.length + 1) (rowOf lsE (l.take i ++ x :: l.drop i)) ∧ w.grownBy w' lv.ownBlock := by
  have fin : ∀ {R : List Value} {w' : World} {v' : Value}, w'.ownsRow B 90 lsE.k v' (l.length + 1) R → ∃ g' c', v' = .slice (some ⟨g', 0, none⟩) (l.length + 1) c' := fun h => by
    rcases h.2 with ⟨_, e⟩ | ⟨g, c, cur, e, _⟩
    · omega
    · exact ⟨g, c, e⟩
  rcases own_form hown with ⟨rfl, rfl⟩ | ⟨g, c, rfl, ho⟩
  · obtain rfl : i = 0 := by simpa using hi
    refine (insV_nil B vb x w hB vc xr hvc hxl hx).mono ?_
    rintro e w' ⟨v', rfl, h1, h2⟩
    obtain ⟨g', c', rfl⟩ := fin h1
    exact ⟨g', c', rfl, h1, h2⟩
  · have hvg : vb ≠ g := fun e => hne (by rw [e]; rfl)
    rw [ownBlock_slice]
    by_cases he : i = l.length
    · subst he
      refine (insV_end B g c vb l x w ho hl hB vc xr hvc hxl hx).mono ?_
      rintro e w' ⟨v', rfl, h1, h2⟩
      obtain ⟨g', c', rfl⟩ := fin h1
      rw [List.take_length, List.drop_length]
      exact ⟨g', c', rfl, h1, h2⟩
    · by_cases hr : l.length + 1 ≤ c
      · refine (insV_shift B g c i vb l x w ho hl (by omega) hr vc xr hvc hxl hx hvg).mono ?_
        rintro e w' ⟨v', rfl, h1, h2⟩
        obtain ⟨g', c', rfl⟩ := fin h1
        exact ⟨g', c', rfl, h1, h2⟩
      · refine (insV_grow B g c i vb l x w ho hl (by omega) (by omega) hB vc xr hvc hxl hx).mono ?_
        rintro e w' ⟨v', rfl, h1, h2⟩
        obtain ⟨g', c', rfl⟩ := fin h1
        exact ⟨g', c', rfl, h1, h2⟩
end Go.Proofs.YtclnfkohlklbpaaGreat
