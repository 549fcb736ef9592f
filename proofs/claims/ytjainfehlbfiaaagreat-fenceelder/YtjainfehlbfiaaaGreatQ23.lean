/- slices.Replace at leases, in the midst. -/
import Derived.Test.YtjainfehlbfiaaaGreatQ22
set_option linter.unusedVariables false
set_option linter.unusedSimpArgs false
namespace Go.Proofs.YtjainfehlbfiaaaGreat
open Go.RowKit

theorem clear_none (ty : TypeId) (ad : Addr) (cx : Nat) (W : World) : (Builtin.clear_ #[53] ty #[.slice (some ad) 0 cx]).run Tryz.prog W = .ok (.tuple #[]) W := by
  simp [Builtin.clear_, run_underlying Tryz.underlying53, zeroL]
theorem ov_apart (W : World) (g o vb V vc c lb cb : Nat) (C D : List Value) (h1 : W.heap[g]? = some (.cells C.toArray 106 (0, 0))) (h2 : W.heap[vb]? = some (.cells D.toArray 106 (0, 0))) (hc : C.length = c * 5) (hd : D.length = vc * 5) (h0 : 0 < vc) (hne : g ≠ vb) :
    (callFunc 102 #[.slice (some ⟨g, o, none⟩) lb cb, .slice (some ⟨vb, 0, none⟩) V vc]).run Tryz.prog W = .ok (.value (.bool false)) W := by
  rw [run_callFunc_extern Tryz.func102 (by kernel_rfl) (by kernel_rfl) (by kernel_rfl) (e := Extern.SlicesOverlaps.overlaps #[53, 53] #[4]) (by kernel_rfl),
    Lib.run_overlaps_apart W 53 4 106 Tryz.underlying53 5 sizeOfL ⟨g, o, none⟩ ⟨vb, 0, none⟩ lb cb V vc hne 106 106 (c * 5) (vc * 5) (by simp [World.shape?, h1]; simpa using hc) (by simp [World.shape?, h2]; simpa using hd) (by omega) (by simp [World.frozen?, h1]) (by simp [World.frozen?, h1])]
  rfl
set_option maxHeartbeats 16000000 in
set_option maxRecDepth 100000 in
theorem repL_same (B g c i m k vb vc : Nat) (l v : List Ls) (B2 : Nat) (w : World) (hown : OwnAt lsE w B 106 g c l) (hl : l.length ≤ 20) (hm : 0 < m) (hk : 0 < k) (hN : l.length = i + m + k) (hv : OwnAt lsE w B2 106 vb vc v) (hV : v.length = m) (hne : vb ≠ g) :
    Calls Tryz.prog 79 #[.slice (some ⟨g, 0, none⟩) l.length c, .int .i64 i, .int .i64 ((i : Int) + (m : Int)), .slice (some ⟨vb, 0, none⟩) v.length vc] w fun e w' => ∃ v', e = .returned v' ∧ w'.ownsRow B 106 lsE.k v' (l.take i ++ v ++ l.drop (i + m)).length (rowOf lsE (l.take i ++ v ++ l.drop (i + m))) ∧ w.grownBy w' (some g) := by
  have hle := hown.le
  obtain ⟨r, hr, hlr⟩ := hown.row
  have hlr' : (rowOf lsE l ++ r).length = c * 5 := hlr
  have hA : (rowOf lsE (l.take i)).length = i * 5 := by rw [rowOf_len, List.length_take, Nat.min_eq_left (by omega)]; rfl
  have hS : (rowOf lsE (l.drop i)).length = (m + k) * 5 := by rw [rowOf_len, List.length_drop, show l.length - i = m + k by omega]; rfl
  have hK : (rowOf lsE (l.drop (i + m))).length = k * 5 := by rw [rowOf_len, List.length_drop, show l.length - (i + m) = k by omega]; rfl
  have hX : (rowOf lsE v).length = (m) * 5 := by rw [rowOf_len, hV]; rfl
  have hRow : rowOf lsE l ++ r = rowOf lsE (l.take i) ++ (rowOf lsE (l.drop i) ++ r) := by rw [← List.append_assoc, ← rowOf_append, List.take_append_drop]
  have hDr : (rowOf lsE (l.drop i)).drop (m * 5) = rowOf lsE (l.drop (i + m)) := by
    have := rowOf_drop lsE (l.drop i) m
    rw [List.drop_drop] at this
    exact this.symm
  have hrl : r.length = c * 5 - (i + m + k) * 5 := by rw [hRow, List.length_append, List.length_append, hA, hS] at hlr'; omega
  rw [hRow] at hr
  have HVn : Hid (∀ W : World, w.grownBy W (some g) → ∀ j u, (rowOf lsE v)[j]? = some u → W.cell? ((⟨vb, 0, none⟩ : Addr).add j) = some u) := fun W hW => by
    obtain ⟨rv, hrv, hlv⟩ := hv.row
    have : OwnAt lsE W B2 106 vb vc v := ⟨hv.base, hv.le, hv.max, rv, (hW.block vb hv.lt (fun e => hne (Option.some.inj e))).trans hrv, hlv⟩
    exact this.lies.news
  have HX1 := Lib.hid (rowOf_one lsE v)
  have HK1 := Lib.hid (rowOf_one lsE (l.drop (i + m)))
  have hLn : (l.take i ++ v ++ l.drop (i + m)).length = i + (m) + k := by rw [List.length_append, List.length_append, List.length_take, List.length_drop, hV]; omega
  have hRn : rowOf lsE (l.take i ++ v ++ l.drop (i + m)) = rowOf lsE (l.take i) ++ rowOf lsE v ++ rowOf lsE (l.drop (i + m)) := by rw [rowOf_append, rowOf_append]
  obtain ⟨W1, hW1⟩ : ∃ W1, W1 = w.drew.setRow g (splice (rowOf lsE (l.take i) ++ (rowOf lsE (l.drop i) ++ r)) (i * 5) (rowOf lsE v)).toArray := ⟨_, rfl⟩
  have hc1 : splice (rowOf lsE (l.take i) ++ (rowOf lsE (l.drop i) ++ r)) (i * 5) (rowOf lsE v) = rowOf lsE (l.take i) ++ rowOf lsE v ++ rowOf lsE (l.drop (i + m)) ++ r := by
    rw [← hA, splice_end, List.drop_append_of_le_length (by rw [hX, hS]; omega), hX, hDr]
    simp [List.append_assoc]
  rw [hc1] at hW1
  have hb1 : W1.heap[g]? = some (.cells (rowOf lsE (l.take i) ++ rowOf lsE v ++ rowOf lsE (l.drop (i + m)) ++ r).toArray 106 (0, 0)) := by rw [hW1]; exact setRow_heap w.drew _ _ _ _ _ hr
  have hcp : ∀ ty cx, (Builtin.copy_ #[53, 53] ty #[.slice (some ⟨g, i * 5, none⟩) (m + k) cx, .slice (some ⟨vb, 0, none⟩) m vc]).run Tryz.prog w.drew = .ok (.int .i64 m) W1 := fun ty cx => by
    have := run_copyK (P := Tryz.prog) w.drew 53 53 ty 106 5 g (i * 5) (m + k) cx ⟨vb, 0, none⟩ m vc (rowOf lsE (l.take i) ++ (rowOf lsE (l.drop i) ++ r)) 106 (rowOf lsE v) Tryz.underlying53 sizeL hr (by rw [hX]; congr 1; simp only [Nat.min_def]; split <;> omega) (HVn.out w.drew (grown_below (Below.refl w.heap.size w).drew)) (by rw [List.length_append, List.length_append, hA, hS, hX, hrl]; omega) HX1.out
    rw [this, hc1, hW1, show Nat.min m (m + k) = m by simp only [Nat.min_def]; split <;> omega]
    rfl
  have HG1 : Hid (w.grownBy W1 (some g)) := by rw [hW1]; exact grown_drew (grown_row w.drew g _)
  have hO1 : OwnAt lsE W1 B 106 g c (l.take i ++ v ++ l.drop (i + m)) := ⟨hown.base, by rw [hLn]; omega, hown.max, r, by rw [hRn]; exact hb1, by rw [hRn, List.length_append, List.length_append, List.length_append, hA, hX, hK, hrl]; show _ = c * 5; omega⟩
  have HSrc : Hid (∀ j u, (rowOf lsE (l.drop (i + m)))[j]? = some u → W1.drew.cell? ((⟨g, (i + m) * 5, none⟩ : Addr).add j) = some u) := by
    have h := ((hO1.keep (Below.refl W1.heap.size W1).drew).lies.drop (i + m)).news
    rw [show (0 : Nat) + (i + m) * lsE.k = (i + m) * 5 from by rw [Nat.zero_add]; rfl, show (l.take i ++ v ++ l.drop (i + m)).drop (i + m) = l.drop (i + m) by rw [List.drop_append, List.drop_eq_nil_of_le (by rw [List.length_append, List.length_take, hV]; omega), List.nil_append, show i + m - (l.take i ++ v).length = 0 by rw [List.length_append, List.length_take, hV]; omega, List.drop_zero]] at h
    exact h
  have HFin : Hid (∀ W : World, W.heap[g]? = some (.cells (splice (rowOf lsE (l.take i) ++ rowOf lsE v ++ rowOf lsE (l.drop (i + m)) ++ r) ((i + m) * 5) (rowOf lsE (l.drop (i + m)))).toArray 106 (0, 0)) → W.ownsRow B 106 lsE.k (.slice (some ⟨g, 0, none⟩) (i + m + k) c) (l.take i ++ v ++ l.drop (i + m)).length (rowOf lsE (l.take i ++ v ++ l.drop (i + m)))) := fun W hW => by
    have e : splice (rowOf lsE (l.take i) ++ rowOf lsE v ++ rowOf lsE (l.drop (i + m)) ++ r) ((i + m) * 5) (rowOf lsE (l.drop (i + m))) = rowOf lsE (l.take i) ++ rowOf lsE v ++ rowOf lsE (l.drop (i + m)) ++ r := by
      have := splice_end (rowOf lsE (l.take i) ++ rowOf lsE v) (rowOf lsE (l.drop (i + m)) ++ r) (rowOf lsE (l.drop (i + m)))
      rw [show (rowOf lsE (l.take i) ++ rowOf lsE v).length = (i + m) * 5 by rw [List.length_append, hA, hX]; omega, List.drop_left] at this
      rw [List.append_assoc (rowOf lsE (l.take i) ++ rowOf lsE v), this]
    rw [e] at hW
    have h2 : OwnAt lsE W B 106 g c (l.take i ++ v ++ l.drop (i + m)) := ⟨hown.base, by rw [hLn]; omega, hown.max, r, by rw [hRn]; exact hW, by rw [hRn, List.length_append, List.length_append, List.length_append, hA, hX, hK, hrl]; show _ = c * 5; omega⟩
    have h3 := h2.own
    rw [hLn] at h3 ⊢
    exact h3
  have HCl : Hid ((rowOf lsE (l.take i) ++ rowOf lsE v ++ rowOf lsE (l.drop (i + m)) ++ r).length = c * 5) := by rw [Hid, List.length_append, List.length_append, List.length_append, hA, hX, hK, hrl]; omega
  have HKl := Lib.hid hK
  have HB1 := Lib.hid hb1
  rw [hV, hN]
  rw [hN] at hle hl
  generalize rowOf lsE (l.take i) ++ rowOf lsE v ++ rowOf lsE (l.drop (i + m)) ++ r = C at *
  generalize rowOf lsE (l.drop (i + m)) = KK at *
  generalize rowOf lsE (l.take i ++ v ++ l.drop (i + m)) = RR at *
  generalize (l.take i ++ v ++ l.drop (i + m)).length = RN at *
  clear hr hlr hlr' hA hS hK hX hRow hDr hrl hLn hRn hW1 hc1 hb1 hO1 hown hv hV hN hne HVn HX1
  have b1 : (0 : Int) ≤ (i : Int) := by omega
  have b2 : (i : Int) ≤ (i : Int) + (m : Int) := by omega
  have b3 : (i : Int) + (m : Int) ≤ (c : Int) := by omega
  have b4 : ((i : Int) == (i : Int) + (m : Int)) = false := beq_eq_false_iff_ne.2 (by omega)
  have b5 : ¬ (i : Int) = (i : Int) + (m : Int) := by omega
  have b6 : (i : Int) ≤ (c : Int) := by omega
  have b8 : ¬ m = 0 := by omega
  have b9 : ((i : Int) + (m : Int)).toNat = i + m := by omega
  have b11 : ((i : Int) + (m : Int) == (i : Int) + (m : Int) + (k : Int)) = false := beq_eq_false_iff_ne.2 (by omega)
  have b12 : ¬ k = 0 := by omega
  have b13 : ¬ c = i := by omega
  have b14 : ¬ c = i + m := by omega
  have b15 : (0 : Int) ≤ (i : Int) + (m : Int) := by omega
  have b16 : (i : Int) + (m : Int) ≤ (i : Int) + (m : Int) + (k : Int) := by omega
  have b17 : i + m + k - (i + m) = k := by omega
  have b18 : i + m + k - i = m + k := by omega
  have b19 : i ≤ c := by omega
  have b20 : i + m ≤ c := by omega
  have b21 : (i : Int) ≤ (i : Int) + (m : Int) + (k : Int) := by omega
  have b22 : IntKind.i64.wrap ((i : Int) + (m : Int)) = (i : Int) + (m : Int) := by rw [IntKind.wrap_i64]; omega
  have b23 : IntKind.i64.wrap ((i : Int) + (m : Int) + (k : Int)) = (i : Int) + (m : Int) + (k : Int) := by rw [IntKind.wrap_i64]; omega
  have b24 : ¬ (c : Int) < (i : Int) + (m : Int) + (k : Int) := by omega
  have b25 : (i : Int) + (m : Int) + (k : Int) ≤ (c : Int) := by omega
  have b26 : (0 : Int) ≤ (i : Int) + (m : Int) + (k : Int) := by omega
  have b27 : ((i : Int) + (m : Int) + (k : Int)).toNat = i + m + k := by omega
  by_cases hcN : c = i + m + k
  · subst hcN
    go_enter Tryz.func79, Tryz.ntmps79
    go_wp2_with fail
    go_region
    go_wp2_with fail
    go_region_held3 (fun w' => True) (trivial)
      ((refine step_copyK (by rfl) _ _ 53 53 (by rfl) 106 5 Tryz.underlying53 sizeL g ((i + m) * 5) k k ⟨g, (i + m) * 5, none⟩ k k (by simp [Act.eval, Act.put]) (by simp [Act.eval, Act.put]) C 106 HB1.out KK (by rw [HKl.out]; congr 1; simp only [Nat.min_def]; split <;> omega) HSrc.out (by rw [HKl.out, HCl.out]; omega) HK1.out ?_; intro w2 hh2 hg2))
    have HF := Lib.hid (HFin.out w2 hh2.out)
    have HG2 := Lib.hid (HG1.out.trans (grown_drew hg2))
    have hclr : ∀ (ty : TypeId) (ad : Addr) (cx : Nat) (W : World), (Builtin.clear_ #[53] ty #[.slice (some ad) 0 cx]).run Tryz.prog W = .ok (.tuple #[]) W := clear_none
    clear hcp hh2 hg2
    go_wp2_with fail
    go_ret
    exact ⟨_, rfl, HF.out, HG2.out⟩
  · have hcN' : ¬ i + m + k = c := fun e => hcN e.symm
    go_enter Tryz.func79, Tryz.ntmps79
    go_wp2_with fail
    go_region
    go_wp2_with fail
    go_region_held3 (fun w' => True) (trivial)
      ((refine step_copyK (by rfl) _ _ 53 53 (by rfl) 106 5 Tryz.underlying53 sizeL g ((i + m) * 5) k (c - (i + m)) ⟨g, (i + m) * 5, none⟩ k (c - (i + m)) (by simp [Act.eval, Act.put]) (by simp [Act.eval, Act.put]) C 106 HB1.out KK (by rw [HKl.out]; congr 1; simp only [Nat.min_def]; split <;> omega) HSrc.out (by rw [HKl.out, HCl.out]; omega) HK1.out ?_; intro w2 hh2 hg2))
    have HF := Lib.hid (HFin.out w2 hh2.out)
    have HG2 := Lib.hid (HG1.out.trans (grown_drew hg2))
    have hclr : ∀ (ty : TypeId) (ad : Addr) (cx : Nat) (W : World), (Builtin.clear_ #[53] ty #[.slice (some ad) 0 cx]).run Tryz.prog W = .ok (.tuple #[]) W := clear_none
    clear hcp hh2 hg2
    go_wp2_with fail
    go_ret
    exact ⟨_, rfl, HF.out, HG2.out⟩
set_option maxHeartbeats 16000000 in
set_option maxRecDepth 100000 in
theorem repL_room (B g c i m k vb vc : Nat) (l v : List Ls) (B2 : Nat) (w : World) (hown : OwnAt lsE w B 106 g c l) (hl : l.length ≤ 20) (hm : 0 < m) (hk : 0 < k) (hN : l.length = i + m + k) (hv : OwnAt lsE w B2 106 vb vc v) (hV : v.length = m + 1) (hne : vb ≠ g) (hroom : i + m + 1 + k ≤ c) :
    Calls Tryz.prog 79 #[.slice (some ⟨g, 0, none⟩) l.length c, .int .i64 i, .int .i64 ((i : Int) + (m : Int)), .slice (some ⟨vb, 0, none⟩) v.length vc] w fun e w' => ∃ v', e = .returned v' ∧ w'.ownsRow B 106 lsE.k v' (l.take i ++ v ++ l.drop (i + m)).length (rowOf lsE (l.take i ++ v ++ l.drop (i + m))) ∧ w.grownBy w' (some g) := by
  have hle := hown.le
  obtain ⟨r, hr, hlr⟩ := hown.row
  have hlr' : (rowOf lsE l ++ r).length = c * 5 := hlr
  have hA : (rowOf lsE (l.take i)).length = i * 5 := by rw [rowOf_len, List.length_take, Nat.min_eq_left (by omega)]; rfl
  have hS : (rowOf lsE (l.drop i)).length = (m + k) * 5 := by rw [rowOf_len, List.length_drop, show l.length - i = m + k by omega]; rfl
  have hK : (rowOf lsE (l.drop (i + m))).length = k * 5 := by rw [rowOf_len, List.length_drop, show l.length - (i + m) = k by omega]; rfl
  have hX : (rowOf lsE v).length = (m + 1) * 5 := by rw [rowOf_len, hV]; rfl
  have hRow : rowOf lsE l ++ r = rowOf lsE (l.take i) ++ (rowOf lsE (l.drop i) ++ r) := by rw [← List.append_assoc, ← rowOf_append, List.take_append_drop]
  have hDr : (rowOf lsE (l.drop i)).drop (m * 5) = rowOf lsE (l.drop (i + m)) := by
    have := rowOf_drop lsE (l.drop i) m
    rw [List.drop_drop] at this
    exact this.symm
  have hrl : r.length = c * 5 - (i + m + k) * 5 := by rw [hRow, List.length_append, List.length_append, hA, hS] at hlr'; omega
  rw [hRow] at hr
  have HVn : Hid (∀ W : World, w.grownBy W (some g) → ∀ j u, (rowOf lsE v)[j]? = some u → W.cell? ((⟨vb, 0, none⟩ : Addr).add j) = some u) := fun W hW => by
    obtain ⟨rv, hrv, hlv⟩ := hv.row
    have : OwnAt lsE W B2 106 vb vc v := ⟨hv.base, hv.le, hv.max, rv, (hW.block vb hv.lt (fun e => hne (Option.some.inj e))).trans hrv, hlv⟩
    exact this.lies.news
  have HX1 := Lib.hid (rowOf_one lsE v)
  have HK1 := Lib.hid (rowOf_one lsE (l.drop (i + m)))
  have hLn : (l.take i ++ v ++ l.drop (i + m)).length = i + (m + 1) + k := by rw [List.length_append, List.length_append, List.length_take, List.length_drop, hV]; omega
  have hRn : rowOf lsE (l.take i ++ v ++ l.drop (i + m)) = rowOf lsE (l.take i) ++ rowOf lsE v ++ rowOf lsE (l.drop (i + m)) := by rw [rowOf_append, rowOf_append]
  obtain ⟨V, hVV⟩ : ∃ V, V = m + 1 := ⟨_, rfl⟩
  have hov : ∀ lb cb, (callFunc 102 #[.slice (some ⟨g, (i + V) * 5, none⟩) lb cb, .slice (some ⟨vb, 0, none⟩) V vc]).run Tryz.prog w.drew = .ok (.value (.bool false)) w.drew := fun lb cb => by
    obtain ⟨rv, hrv, hlv⟩ := hv.row
    have hvle := hv.le
    exact ov_apart w.drew g ((i + V) * 5) vb V vc c lb cb _ _ hr hrv (by rw [← hRow]; exact hlr') hlv (by omega) hne.symm
  have hsp : splice (splice (rowOf lsE (l.take i) ++ (rowOf lsE (l.drop i) ++ r)) ((i + V) * 5) (rowOf lsE (l.drop (i + m)))) (i * 5) (rowOf lsE v) = rowOf lsE (l.take i) ++ rowOf lsE v ++ rowOf lsE (l.drop (i + m)) ++ (rowOf lsE (l.drop i) ++ r).drop ((m + 1) * 5 + k * 5) := by
    have := splice_two (rowOf lsE (l.take i)) (rowOf lsE (l.drop i) ++ r) (rowOf lsE v) (rowOf lsE (l.drop (i + m))) (by rw [List.length_append, hS, hX, hK, hrl]; omega)
    rw [hA, hX, hK, show i * 5 + (m + 1) * 5 = (i + V) * 5 by omega] at this
    exact this
  have HSrc : Hid (∀ j u, (rowOf lsE (l.drop (i + m)))[j]? = some u → w.drew.cell? ((⟨g, (i + m) * 5, none⟩ : Addr).add j) = some u) := by
    have h := ((hown.keep (Below.refl w.heap.size w).drew).lies.drop (i + m)).news
    rw [show (0 : Nat) + (i + m) * lsE.k = (i + m) * 5 from by rw [Nat.zero_add]; rfl] at h
    exact h
  have HFin : Hid (∀ W : World, W.heap[g]? = some (.cells (splice (splice (rowOf lsE (l.take i) ++ (rowOf lsE (l.drop i) ++ r)) ((i + V) * 5) (rowOf lsE (l.drop (i + m)))) (i * 5) (rowOf lsE v)).toArray 106 (0, 0)) → W.ownsRow B 106 lsE.k (.slice (some ⟨g, 0, none⟩) (i + V + k) c) (l.take i ++ v ++ l.drop (i + m)).length (rowOf lsE (l.take i ++ v ++ l.drop (i + m)))) := fun W hW => by
    rw [hsp] at hW
    have h2 : OwnAt lsE W B 106 g c (l.take i ++ v ++ l.drop (i + m)) := ⟨hown.base, by rw [hLn]; omega, hown.max, (rowOf lsE (l.drop i) ++ r).drop ((m + 1) * 5 + k * 5), by rw [hRn]; exact hW, by rw [hRn, List.length_append, List.length_append, List.length_append, hA, hX, hK, List.length_drop, List.length_append, hS, hrl]; show _ = c * 5; omega⟩
    have h3 := h2.own
    rw [hLn, show i + (m + 1) + k = i + V + k by omega] at h3
    rw [hLn, show i + (m + 1) + k = i + V + k by omega]
    exact h3
  have HCl : Hid ((rowOf lsE (l.take i) ++ (rowOf lsE (l.drop i) ++ r)).length = c * 5) := by rw [Hid, List.length_append, List.length_append, hA, hS, hrl]; omega
  have HKl := Lib.hid hK
  have HXl : Hid ((rowOf lsE v).length = V * 5) := by rw [Hid, hX, hVV]
  have HR : Hid (w.drew.heap[g]? = some (.cells (rowOf lsE (l.take i) ++ (rowOf lsE (l.drop i) ++ r)).toArray 106 (0, 0))) := hr
  rw [hV, hN, ← hVV]
  rw [hN] at hle hl
  generalize rowOf lsE (l.take i) ++ (rowOf lsE (l.drop i) ++ r) = C at *
  generalize rowOf lsE (l.drop (i + m)) = KK at *
  generalize rowOf lsE v = X at *
  generalize rowOf lsE (l.take i ++ v ++ l.drop (i + m)) = RR at *
  generalize (l.take i ++ v ++ l.drop (i + m)).length = RN at *
  clear hr hlr hlr' hA hS hK hX hRow hDr hrl hLn hRn hown hv hV hN hne hsp
  have b1 : (0 : Int) ≤ (i : Int) := by omega
  have b2 : (i : Int) ≤ (i : Int) + (m : Int) := by omega
  have b3 : (i : Int) + (m : Int) ≤ (c : Int) := by omega
  have b4 : ((i : Int) == (i : Int) + (m : Int)) = false := beq_eq_false_iff_ne.2 (by omega)
  have b5 : ¬ (i : Int) = (i : Int) + (m : Int) := by omega
  have b6 : (i : Int) ≤ (c : Int) := by omega
  have b8 : ¬ m = 0 := by omega
  have b9 : ((i : Int) + (m : Int)).toNat = i + m := by omega
  have b11 : ((i : Int) + (m : Int) == (i : Int) + (m : Int) + (k : Int)) = false := beq_eq_false_iff_ne.2 (by omega)
  have b12 : ¬ k = 0 := by omega
  have b13 : ¬ c = i := by omega
  have b14 : ¬ c = i + m := by omega
  have b15 : (0 : Int) ≤ (i : Int) + (m : Int) := by omega
  have b16 : (i : Int) + (m : Int) ≤ (i : Int) + (m : Int) + (k : Int) := by omega
  have b17 : i + m + k - (i + m) = k := by omega
  have b18 : i + m + k - i = m + k := by omega
  have b19 : i ≤ c := by omega
  have b20 : i + m ≤ c := by omega
  have b21 : (i : Int) ≤ (i : Int) + (m : Int) + (k : Int) := by omega
  have HVV := Lib.hid hVV
  have b22 : IntKind.i64.wrap ((i : Int) + (V : Int)) = (i : Int) + (V : Int) := by rw [IntKind.wrap_i64]; omega
  have b23 : IntKind.i64.wrap ((i : Int) + (V : Int) + (k : Int)) = (i : Int) + (V : Int) + (k : Int) := by rw [IntKind.wrap_i64]; omega
  have b24 : ¬ (c : Int) < (i : Int) + (V : Int) + (k : Int) := by omega
  have b25 : (i : Int) + (V : Int) + (k : Int) ≤ (c : Int) := by omega
  have b26 : (0 : Int) ≤ (i : Int) + (V : Int) + (k : Int) := by omega
  have b27 : ((i : Int) + (V : Int) + (k : Int)).toNat = i + V + k := by omega
  have b28 : ¬ (i : Int) + (V : Int) ≤ (i : Int) + (m : Int) := by omega
  have b29 : (0 : Int) ≤ (i : Int) + (V : Int) := by omega
  have b30 : ((i : Int) + (V : Int)).toNat = i + V := by omega
  have b31 : (i : Int) + (V : Int) ≤ (i : Int) + (V : Int) + (k : Int) := by omega
  have b32 : ¬ c = i + V := by omega
  have b33 : i + V + k - (i + V) = k := by omega
  have b34 : i + V + k - i = V + k := by omega
  have b35 : (i : Int) ≤ (i : Int) + (V : Int) + (k : Int) := by omega
  have b36 : ¬ V ≤ m := by omega
  have b37 : i + V + k ≤ c := by omega
  have hV0 : V ≤ V + k := by omega
  clear hVV hroom
  go_enter Tryz.func79, Tryz.ntmps79
  go_wp2_with fail
  go_region
  go_wp2_with (simp only [hov])
  go_region_held3 (fun w' => True) (trivial)
    ((refine step_copyK (by rfl) _ _ 53 53 (by rfl) 106 5 Tryz.underlying53 sizeL g ((i + V) * 5) k (c - (i + V)) ⟨g, (i + m) * 5, none⟩ k (c - (i + m)) (by simp [Act.eval, Act.put]) (by simp [Act.eval, Act.put]) C 106 HR.out KK (by rw [HKl.out]; congr 1; simp only [Nat.min_def]; split <;> omega) HSrc.out (by rw [HKl.out, HCl.out]; omega) HK1.out ?_; intro w1 hh1 hg1))
  replace hg1 := grown_drew (grown_drew hg1)
  have HG1 := Lib.hid hg1
  have HXs1 := Lib.hid (HVn.out w1 hg1)
  obtain ⟨w2, hw2⟩ : ∃ w2, w2 = w1.setRow g (splice (splice C ((i + V) * 5) KK) (i * 5) X).toArray := ⟨_, rfl⟩
  have hcp : ∀ ty cx, (Builtin.copy_ #[53, 53] ty #[.slice (some ⟨g, i * 5, none⟩) (V + k) cx, .slice (some ⟨vb, 0, none⟩) V vc]).run Tryz.prog w1 = .ok (.int .i64 V) w2 := fun ty cx => by
    have := run_copyK (P := Tryz.prog) w1 53 53 ty 106 5 g (i * 5) (V + k) cx ⟨vb, 0, none⟩ V vc (splice C ((i + V) * 5) KK) 106 X Tryz.underlying53 sizeL hh1.out (by rw [HXl.out]; congr 1; simp only [Nat.min_def]; split <;> omega) HXs1.out (by rw [length_splice _ _ _ (by rw [HKl.out, HCl.out]; omega), HCl.out, HXl.out]; omega) HX1.out
    rw [this, hw2, show Nat.min V (V + k) = V by simp only [Nat.min_def]; split <;> omega]
    rfl
  have HF := Lib.hid (HFin.out w2 (by rw [hw2]; exact setRow_heap w1 g _ _ _ _ hh1.out))
  have HG2 : Hid (w.grownBy w2 (some g)) := by rw [hw2]; exact HG1.out.trans (grown_row _ _ _)
  clear hw2 HXs1 hg1 hh1
  go_wp2_with fail
  go_ret
  exact ⟨_, rfl, HF.out, HG2.out⟩
end Go.Proofs.YtjainfehlbfiaaaGreat
