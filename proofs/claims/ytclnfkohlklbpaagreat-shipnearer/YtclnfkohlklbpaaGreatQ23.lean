/- What the card leans on: StS, StT. -/
import Derived.Test.YtclnfkohlklbpaaGreatQ22
set_option linter.unusedVariables false
set_option linter.unusedSimpArgs false
namespace Go.Proofs.YtclnfkohlklbpaaGreat
open Go.RowKit

set_option maxHeartbeats 16000000 in
set_option maxRecDepth 100000 in
theorem repL_grow (B g c i m k vb vc : Nat) (l v : List Ls) (B2 : Nat) (w : World) (hown : OwnAt lsE w B 90 g c l) (hl : l.length ≤ 20) (hm : 0 < m) (hk : 0 < k) (hN : l.length = i + m + k) (hv : OwnAt lsE w B2 90 vb vc v) (hV : v.length = m + 1) (hne : vb ≠ g) (hroom : c < i + m + 1 + k) (hB : B ≤ w.heap.size) :
    Calls Tryz.prog 71 #[.slice (some ⟨g, 0, none⟩) l.length c, .int .i64 i, .int .i64 ((i : Int) + (m : Int)), .slice (some ⟨vb, 0, none⟩) v.length vc] w fun e w' => ∃ v', e = .returned v' ∧ w'.ownsRow B 90 lsE.k v' (l.take i ++ v ++ l.drop (i + m)).length (rowOf lsE (l.take i ++ v ++ l.drop (i + m))) ∧ w.grownBy w' (some g) := by
  have hle := hown.le
  obtain ⟨r, hr, hlr⟩ := hown.row
  have hlr' : (rowOf lsE l ++ r).length = c * 5 := hlr
  have hA : (rowOf lsE (l.take i)).length = i * 5 := by rw [rowOf_len, List.length_take, Nat.min_eq_left (by omega)]; rfl
  have hS : (rowOf lsE (l.drop i)).length = (m + k) * 5 := by rw [rowOf_len, List.length_drop, show l.length - i = m + k by omega]; rfl
  have hK : (rowOf lsE (l.drop (i + m))).length = k * 5 := by rw [rowOf_len, List.length_drop, show l.length - (i + m) = k by omega]; rfl
  have hX : (rowOf lsE v).length = (m + 1) * 5 := by rw [rowOf_len, hV]; rfl
  have hRow : rowOf lsE l ++ r = rowOf lsE (l.take i) ++ (rowOf lsE (l.drop i) ++ r) := by rw [← List.append_assoc, ← rowOf_append, List.take_append_drop]
  have hDr : (rowOf lsE (l.drop i)).drop (m * 5) = rowOf lsE (l.drop (i + m)) := by
    have := rowOf_drop lsE (l.drop i) m
    rw [List.drop_drop] at this
    exact this.symm
  have hrl : r.length = c * 5 - (i + m + k) * 5 := by rw [hRow, List.length_append, List.length_append, hA, hS] at hlr'; omega
  rw [hRow] at hr
  have HVn : Hid (∀ W : World, w.grownBy W (some g) → ∀ j u, (rowOf lsE v)[j]? = some u → W.cell? ((⟨vb, 0, none⟩ : Addr).add j) = some u) := fun W hW => by
    obtain ⟨rv, hrv, hlv⟩ := hv.row
    have : OwnAt lsE W B2 90 vb vc v := ⟨hv.base, hv.le, hv.max, rv, (hW.block vb hv.lt (fun e => hne (Option.some.inj e))).trans hrv, hlv⟩
    exact this.lies.news
  have HX1 := Lib.hid (rowOf_one lsE v)
  have HK1 := Lib.hid (rowOf_one lsE (l.drop (i + m)))
  have hLn : (l.take i ++ v ++ l.drop (i + m)).length = i + (m + 1) + k := by rw [List.length_append, List.length_append, List.length_take, List.length_drop, hV]; omega
  have hRn : rowOf lsE (l.take i ++ v ++ l.drop (i + m)) = rowOf lsE (l.take i) ++ rowOf lsE v ++ rowOf lsE (l.drop (i + m)) := by rw [rowOf_append, rowOf_append]
  obtain ⟨V, hVV⟩ : ∃ V, V = m + 1 := ⟨_, rfl⟩
  obtain ⟨i0, hi0, hz0, hz1, hz2⟩ := info_parts infoL3
  have hgw := hown.lt
  have hvw := hv.lt
  have hdr : Below w.heap.size w w.drew := (Below.refl _ _).drew
  have hownd := hown.keep hdr
  obtain ⟨G, hG⟩ : ∃ G, G = grownCap w.drew (i + V + k) c 90 := ⟨_, rfl⟩
  have hGn : i + V + k ≤ G := by rw [hG]; exact grownCap_ge w.drew _ _ _
  have hGM : G ≤ maxLen := by rw [hG]; exact grownCap_le_maxLen w.drew _ _ _ (by unfold maxLen; omega)
  obtain ⟨Z, hZ⟩ : ∃ Z : List Value, Z = (Builtin.zeroCells (Value.agg #[.bool false, .int .u64 0, .int .u64 0, .string ⟨#[]⟩, .int .i64 0]).cells (i + V + k - i)).toList ++ (Builtin.zeroCells (Value.agg #[.bool false, .int .u64 0, .int .u64 0, .string ⟨#[]⟩, .int .i64 0]).cells (G - (i + V + k))).toList := ⟨_, rfl⟩
  have hZl : Z.length = (G - i) * 5 := by
    rw [hZ, List.length_append, zero_len, zero_len]
    show (i + V + k - i) * 5 + (G - (i + V + k)) * 5 = _
    omega
  obtain ⟨W1, hW1⟩ : ∃ W1, W1 = w.drew.drew.alloc (.cells (rowOf lsE (l.take i) ++ Z).toArray 90) := ⟨_, rfl⟩
  have hold : (Builtin.firstCells i0.size i (.slice (some ⟨g, 0, none⟩) i c)).run Tryz.prog w.drew.drew = .ok (rowOf lsE (l.take i)).toArray w.drew.drew := by
    rw [hz1]
    have h := run_loadCells_list (P := Tryz.prog) w.drew.drew ⟨g, 0, none⟩ (rowOf lsE (l.take i)) ((hownd.keep (Below.refl _ _).drew).lies.take i).news
    rw [hA] at h
    exact h
  have hrz : ∀ ty, (Builtin.append_ #[46, 3] ty #[.slice (some ⟨g, 0, none⟩) i c, .int .i64 ((i : Int) + (V : Int) + (k : Int) - (i : Int))]).run Tryz.prog w.drew = .ok (.slice (some ⟨w.heap.size, 0, none⟩) (i + V + k) G) W1 := fun ty => by
    have h := Lib.run_append_grow_zeros (P := Tryz.prog) w.drew 46 3 ty 90 i0 _ .i64 .i64 Tryz.underlying46 Tryz.underlying3 hi0 hz0 (some ⟨g, 0, none⟩) i c (rowOf lsE (l.take i)) hold (i + V + k - i) (by omega) (by omega) (by omega) (by omega) (by rw [hz2]; omega) (by rw [hz2, show i + (i + V + k - i) = i + V + k by omega]; have := nextcap_small (i + V + k) c (by omega) (by omega); omega)
    rw [show i + (i + V + k - i) = i + V + k by omega, ← hG] at h
    have key : ∀ A1 A2 : Array Value, (rowOf lsE (l.take i)).toArray ++ A1 ++ A2 = (rowOf lsE (l.take i) ++ (A1.toList ++ A2.toList)).toArray := fun A1 A2 => by apply Array.ext'; simp
    rw [show (i : Int) + (V : Int) + (k : Int) - (i : Int) = ((i + V + k - i : Nat) : Int) by omega, h, hW1, hZ, key]
    rfl
  have hb1 : W1.heap[w.heap.size]? = some (.cells (rowOf lsE (l.take i) ++ Z).toArray 90 (0, 0)) := by rw [hW1]; exact heap_alloc_new w.drew.drew _
  have hbl : Below w.heap.size w W1 := by rw [hW1]; exact bal (Below.refl _ _).drew.drew _
  obtain ⟨W2, hW2⟩ : ∃ W2, W2 = W1.setRow w.heap.size (splice (rowOf lsE (l.take i) ++ Z) (i * 5) (rowOf lsE v)).toArray := ⟨_, rfl⟩
  have hcp1 : ∀ ty, (Builtin.copy_ #[46, 46] ty #[.slice (some ⟨w.heap.size, i * 5, none⟩) (V + k) (G - i), .slice (some ⟨vb, 0, none⟩) V vc]).run Tryz.prog W1 = .ok (.int .i64 V) W2 := fun ty => by
    have := run_copyK (P := Tryz.prog) W1 46 46 ty 90 5 w.heap.size (i * 5) (V + k) (G - i) ⟨vb, 0, none⟩ V vc (rowOf lsE (l.take i) ++ Z) 90 (rowOf lsE v) Tryz.underlying46 sizeL hb1 (by rw [hX, ← hVV]; congr 1; simp only [Nat.min_def]; split <;> omega) (HVn.out W1 (grown_below hbl)) (by rw [List.length_append, hA, hZl, hX]; omega) HX1.out
    rw [this, hW2, show Nat.min V (V + k) = V by simp only [Nat.min_def]; split <;> omega]
    rfl
  have hb2 : W2.heap[w.heap.size]? = some (.cells (splice (rowOf lsE (l.take i) ++ Z) (i * 5) (rowOf lsE v)).toArray 90 (0, 0)) := by rw [hW2]; exact setRow_heap W1 _ _ _ _ _ hb1
  have hbl2 : Below w.heap.size w W2 := by rw [hW2]; exact below_setRow hbl (Nat.le_refl _) _
  obtain ⟨W3, hW3⟩ : ∃ W3, W3 = W2.drew.setRow w.heap.size (splice (splice (rowOf lsE (l.take i) ++ Z) (i * 5) (rowOf lsE v)) ((i + V) * 5) (rowOf lsE (l.drop (i + m)))).toArray := ⟨_, rfl⟩
  have hs1 : (splice (rowOf lsE (l.take i) ++ Z) (i * 5) (rowOf lsE v)).length = G * 5 := by rw [length_splice _ _ _ (by rw [List.length_append, hA, hZl, hX]; omega), List.length_append, hA, hZl]; omega
  have hcp2 : ∀ ty cx, (Builtin.copy_ #[46, 46] ty #[.slice (some ⟨w.heap.size, (i + V) * 5, none⟩) k (G - (i + V)), .slice (some ⟨g, (i + m) * 5, none⟩) k cx]).run Tryz.prog W2.drew = .ok (.int .i64 k) W3 := fun ty cx => by
    have h := ((hown.keep hbl2.drew).lies.drop (i + m)).news
    rw [show (0 : Nat) + (i + m) * lsE.k = (i + m) * 5 from by rw [Nat.zero_add]; rfl] at h
    have := run_copyK (P := Tryz.prog) W2.drew 46 46 ty 90 5 w.heap.size ((i + V) * 5) k (G - (i + V)) ⟨g, (i + m) * 5, none⟩ k cx (splice (rowOf lsE (l.take i) ++ Z) (i * 5) (rowOf lsE v)) 90 (rowOf lsE (l.drop (i + m))) Tryz.underlying46 sizeL hb2 (by rw [hK]; congr 1; simp) h (by rw [hs1, hK]; omega) HK1.out
    rw [this, hW3, show Nat.min k k = k by simp]
    rfl
  have HFin : Hid (W3.ownsRow B 90 lsE.k (.slice (some ⟨w.heap.size, 0, none⟩) (i + V + k) G) (l.take i ++ v ++ l.drop (i + m)).length (rowOf lsE (l.take i ++ v ++ l.drop (i + m))) ∧ w.grownBy W3 (some g)) := by
    have hf := splice_fill (rowOf lsE (l.take i)) Z (rowOf lsE v) (rowOf lsE (l.drop (i + m))) (by rw [hX, hK, hZl]; omega)
    rw [hA, hX, show i * 5 + (m + 1) * 5 = (i + V) * 5 by omega] at hf
    rw [← hRn] at hf
    have h3 : W3.heap[w.heap.size]? = some (.cells (rowOf lsE (l.take i ++ v ++ l.drop (i + m)) ++ Z.drop ((m + 1) * 5 + (rowOf lsE (l.drop (i + m))).length)).toArray 90 (0, 0)) := by
      rw [hW3, ← hf]
      exact setRow_heap W2.drew _ _ _ _ _ hb2
    have h2 : OwnAt lsE W3 B 90 w.heap.size G (l.take i ++ v ++ l.drop (i + m)) := ⟨hB, by rw [hLn]; omega, hGM, _, h3, by
      rw [← hf, length_splice _ _ _ (by rw [hs1, hK]; omega), hs1]; rfl⟩
    have h4 := h2.own
    rw [hLn, show i + (m + 1) + k = i + V + k by omega] at h4
    rw [hLn, show i + (m + 1) + k = i + V + k by omega]
    refine ⟨h4, grown_below ?_⟩
    rw [hW3]
    exact below_setRow hbl2.drew (Nat.le_refl _) _
  rw [hV, hN, ← hVV]
  rw [hN] at hle hl
  generalize rowOf lsE (l.take i ++ v ++ l.drop (i + m)) = RR at *
  generalize (l.take i ++ v ++ l.drop (i + m)).length = RN at *
  clear hr hlr hlr' hA hS hK hX hRow hDr hrl hLn hRn hown hv hV hN hne hW1 hW2 hW3 hb1 hb2 hbl hbl2 hs1 hold hZ hZl hG hownd hdr HVn HX1 HK1 hgw hvw
  unfold maxLen at hGM
  have b1 : (0 : Int) ≤ (i : Int) := by omega
  have b2 : (i : Int) ≤ (i : Int) + (m : Int) := by omega
  have b3 : (i : Int) + (m : Int) ≤ (c : Int) := by omega
  have b4 : ((i : Int) == (i : Int) + (m : Int)) = false := beq_eq_false_iff_ne.2 (by omega)
  have b5 : ¬ (i : Int) = (i : Int) + (m : Int) := by omega
  have b6 : (i : Int) ≤ (c : Int) := by omega
  have b8 : ¬ m = 0 := by omega
  have b9 : ((i : Int) + (m : Int)).toNat = i + m := by omega
  have b11 : ((i : Int) + (m : Int) == (i : Int) + (m : Int) + (k : Int)) = false := beq_eq_false_iff_ne.2 (by omega)
  have b12 : ¬ k = 0 := by omega
  have b13 : ¬ c = i := by omega
  have b13' : ¬ G = i := by omega
  have b14 : ¬ c = i + m := by omega
  have b15 : (0 : Int) ≤ (i : Int) + (m : Int) := by omega
  have b16 : (i : Int) + (m : Int) ≤ (i : Int) + (m : Int) + (k : Int) := by omega
  have b17 : i + m + k - (i + m) = k := by omega
  have b18 : i + m + k - i = m + k := by omega
  have b19 : i ≤ c := by omega
  have b20 : i + m ≤ c := by omega
  have b21 : (i : Int) ≤ (i : Int) + (m : Int) + (k : Int) := by omega
  have b22 : IntKind.i64.wrap ((i : Int) + (V : Int)) = (i : Int) + (V : Int) := by rw [IntKind.wrap_i64]; omega
  have b23 : IntKind.i64.wrap ((i : Int) + (V : Int) + (k : Int)) = (i : Int) + (V : Int) + (k : Int) := by rw [IntKind.wrap_i64]; omega
  have b24 : (c : Int) < (i : Int) + (V : Int) + (k : Int) := by omega
  have b25 : IntKind.i64.wrap ((i : Int) + (V : Int) + (k : Int) - (i : Int)) = (i : Int) + (V : Int) + (k : Int) - (i : Int) := by rw [IntKind.wrap_i64]; omega
  have b29 : (0 : Int) ≤ (i : Int) + (V : Int) := by omega
  have b30 : ((i : Int) + (V : Int)).toNat = i + V := by omega
  have b31 : (i : Int) + (V : Int) ≤ (i : Int) + (V : Int) + (k : Int) := by omega
  have b32 : ¬ G = i + V := by omega
  have b33 : i + V + k - (i + V) = k := by omega
  have b34 : i + V + k - i = V + k := by omega
  have b35 : (i : Int) ≤ (i : Int) + (V : Int) + (k : Int) := by omega
  have b38 : (i : Int) + (V : Int) + (k : Int) ≤ (G : Int) := by omega
  clear hVV hroom
  go_enter Tryz.func71, Tryz.ntmps71
  go_wp2_with fail
  go_region
  go_wp2_with (at_builtin; refine Lib.wpList_append_run _ rfl _ _ 46 3 rfl _ _ rfl rfl _ _ (hrz _) ?_)
  go_region_held3 (fun w' => True) (trivial) (fail)
  go_wp2
  go_ret
  exact ⟨_, rfl, HFin.out.1, HFin.out.2⟩
end Go.Proofs.YtclnfkohlklbpaaGreat

namespace Go.Proofs.YtclnfkohlklbpaaGreat
open Go.RowKit

theorem repL_any (B i m vb vc : Nat) (lv : Value) (l v : List Ls) (B2 : Nat) (w : World) (hown : w.ownsRow B 90 lsE.k lv l.length (rowOf lsE l)) (hl : l.length ≤ 20) (him : i + m ≤ l.length) (hB : B ≤ w.heap.size) (hv : OwnAt lsE w B2 90 vb vc v) (hV : v.length = m ∨ v.length = m + 1) (hv0 : 0 < v.length) (hne : lv.ownBlock ≠ some vb) :
    Calls Tryz.prog 71 #[lv, .int .i64 i, .int .i64 ((i : Int) + (m : Int)), .slice (some ⟨vb, 0, none⟩) v.length vc] w fun e w' => ∃ v', e = .returned v' ∧ w'.ownsRow B 90 lsE.k v' (l.take i ++ v ++ l.drop (i + m)).length (rowOf lsE (l.take i ++ v ++ l.drop (i + m))) ∧ w.grownBy w' lv.ownBlock := by
  by_cases hm : m = 0
  · subst hm
    obtain ⟨x, rfl⟩ : ∃ x, v = [x] := List.length_eq_one_iff.1 (by omega)
    have := repL_ins B i vb vc lv l x B2 w hown hl (by omega) hB hv hne
    rw [Nat.add_zero, show ((i : Int) + ((0 : Nat) : Int)) = (i : Int) by simp]
    exact this
  · rcases own_form hown with ⟨e, e2⟩ | ⟨g, c, rfl, ho⟩
    · rw [e2] at him; simp at him; omega
    · rw [ownBlock_slice]
      have hvg : vb ≠ g := fun e => hne (by rw [e]; rfl)
      obtain ⟨k, hN⟩ : ∃ k, l.length = i + m + k := ⟨l.length - (i + m), by omega⟩
      by_cases hk : k = 0
      · subst hk
        rw [List.drop_eq_nil_of_le (by omega), List.append_nil]
        exact repL_end B g c i m vb vc l v B2 w ho hl (by omega) (by omega) hB hv (by omega) (by omega)
      · rcases hV with hV | hV
        · exact repL_same B g c i m k vb vc l v B2 w ho hl (by omega) (by omega) hN hv hV hvg
        · by_cases hr : i + m + 1 + k ≤ c
          · exact repL_room B g c i m k vb vc l v B2 w ho hl (by omega) (by omega) hN hv hV hvg hr
          · exact repL_grow B g c i m k vb vc l v B2 w ho hl (by omega) (by omega) hN hv hV hvg (by omega) hB
/-- Where the leases of a prefix begin, and where they end. -/
def fromL (p : Pf) (l : List Ls) : Nat := firstN (fun y => !lessB y.a.v y.a.hi y.a.lo p.v p.hi p.lo) l
def toL (p : Pf) (l : List Ls) : Nat := firstN (fun y => lessB p.v (laH p.v p.hi p.b) (laL p.v p.lo p.b) y.a.v y.a.hi y.a.lo) l
set_option maxRecDepth 100000 in
theorem enters_stretch1 : ∀ args w, (callFunc 89 args).run Tryz.prog w = .ok (.enter 89 args) w := by intro args w; rfl
set_option maxHeartbeats 4000000 in
set_option maxRecDepth 100000 in
theorem stretch1_any (q : Nat) (qv : Bool) (qh ql : Int) (h0 : 0 ≤ qh) (h1 : 0 ≤ ql) (y : Ls) (w : World) (hq : Blk w q 38 [.bool qv, .int .u64 qh, .int .u64 ql]) :
    Calls Tryz.prog 89 #[.agg #[.bool y.a.v, .int .u64 y.a.hi, .int .u64 y.a.lo, .string y.who, .int .i64 y.un], .pointer (some ⟨q, 0, none⟩)] w fun e w' => e = .returned (.bool (!lessB y.a.v y.a.hi y.a.lo qv qh ql)) ∧ Below w.heap.size w w' := by
  have H1 : Hid (∀ w : World, Calls Tryz.prog 37 #[.agg #[.bool y.a.v, .int .u64 y.a.hi, .int .u64 y.a.lo], .agg #[.bool qv, .int .u64 qh, .int .u64 ql]] w fun e w' => e = .returned (.bool (lessB y.a.v y.a.hi y.a.lo qv qh ql)) ∧ Below w.heap.size w w') := fun w => oless_any _ _ _ _ _ _ w y.a.ok.1.1 y.a.ok.2.1 h0 h1
  have HB0 := Lib.hid (bal (Below.refl w.heap.size w) (.cells #[.bool y.a.v, .int .u64 y.a.hi, .int .u64 y.a.lo, .string y.who, .int .i64 y.un] 90))
  obtain ⟨⟨c0, c1, c2⟩, -⟩ := (hq.below (bal (Below.refl w.heap.size w) (.cells #[.bool y.a.v, .int .u64 y.a.hi, .int .u64 y.a.lo, .string y.who, .int .i64 y.un] 90))).three
  have hlt := hq.lt
  generalize lessB y.a.v y.a.hi y.a.lo qv qh ql = R at *
  generalize y.a.v = y0 at *
  generalize y.a.hi = y1 at *
  generalize y.a.lo = y2 at *
  generalize y.who = y3 at *
  generalize y.un = y4 at *
  clear hq
  go_enter Tryz.func89, Tryz.ntmps89
  go_wp2_with fail
  refine (H1.out _).mono ?_
  rintro e w3 ⟨rfl, hb3⟩
  have HB3 := Lib.hid (btr HB0.out hb3)
  clear hb3 HB0
  go_wp2
  go_ret
  exact ⟨rfl, HB3.out⟩
set_option maxRecDepth 100000 in
theorem enters_stretch2 : ∀ args w, (callFunc 90 args).run Tryz.prog w = .ok (.enter 90 args) w := by intro args w; rfl
set_option maxHeartbeats 4000000 in
set_option maxRecDepth 100000 in
theorem stretch2_any (q : Nat) (qv : Bool) (qh ql : Int) (h0 : 0 ≤ qh) (h1 : 0 ≤ ql) (y : Ls) (w : World) (hq : Blk w q 38 [.bool qv, .int .u64 qh, .int .u64 ql]) :
    Calls Tryz.prog 90 #[.agg #[.bool y.a.v, .int .u64 y.a.hi, .int .u64 y.a.lo, .string y.who, .int .i64 y.un], .pointer (some ⟨q, 0, none⟩)] w fun e w' => e = .returned (.bool (lessB qv qh ql y.a.v y.a.hi y.a.lo)) ∧ Below w.heap.size w w' := by
  have H1 : Hid (∀ w : World, Calls Tryz.prog 37 #[.agg #[.bool qv, .int .u64 qh, .int .u64 ql], .agg #[.bool y.a.v, .int .u64 y.a.hi, .int .u64 y.a.lo]] w fun e w' => e = .returned (.bool (lessB qv qh ql y.a.v y.a.hi y.a.lo)) ∧ Below w.heap.size w w') := fun w => oless_any _ _ _ _ _ _ w h0 h1 y.a.ok.1.1 y.a.ok.2.1
  have HB0 := Lib.hid (bal (Below.refl w.heap.size w) (.cells #[.bool y.a.v, .int .u64 y.a.hi, .int .u64 y.a.lo, .string y.who, .int .i64 y.un] 90))
  obtain ⟨⟨c0, c1, c2⟩, -⟩ := (hq.below (bal (Below.refl w.heap.size w) (.cells #[.bool y.a.v, .int .u64 y.a.hi, .int .u64 y.a.lo, .string y.who, .int .i64 y.un] 90))).three
  have hlt := hq.lt
  generalize lessB qv qh ql y.a.v y.a.hi y.a.lo = R at *
  generalize y.a.v = y0 at *
  generalize y.a.hi = y1 at *
  generalize y.a.lo = y2 at *
  generalize y.who = y3 at *
  generalize y.un = y4 at *
  clear hq
  go_enter Tryz.func90, Tryz.ntmps90
  go_wp2_with fail
  refine (H1.out _).mono ?_
  rintro e w3 ⟨rfl, hb3⟩
  have HB3 := Lib.hid (btr HB0.out hb3)
  clear hb3 HB0
  go_wp2
  go_ret
  exact ⟨rfl, HB3.out⟩
set_option maxHeartbeats 16000000 in
set_option maxRecDepth 100000 in
theorem stretch_any (db : Nat) (a5 a6 : Option Addr) (PN c5 c6 : Nat) (l : List Ls) (now : Int) (p : Pf) (hp : p.Ok) (cp : p.chk = 0) (w : World) (hd : Blk w db 78 [.slice a5 PN c5, .slice a6 l.length c6, .int .i64 now]) (hl : l.length ≤ 1000) (hs : Lies lsE w a6 l) :
    Calls Tryz.prog 68 #[.pointer (some ⟨db, 0, none⟩), .agg #[.bool p.v, .int .u64 p.hi, .int .u64 p.lo, .int .i64 p.b]] w fun e w' => e = .returned (.tuple #[.int .i64 (fromL p l), .int .i64 (toL p l)]) ∧ Below w.heap.size w w' := by
  have hE : Hid (∀ W : World, Calls Tryz.prog 50 #[.agg #[.bool p.v, .int .u64 p.hi, .int .u64 p.lo, .int .i64 p.b]] W fun e w' => e = .returned (.tuple #[.agg #[.bool p.v, .int .u64 p.hi, .int .u64 p.lo], .agg #[.bool p.v, .int .u64 (laH p.v p.hi p.b), .int .u64 (laL p.v p.lo p.b)], .int .i64 0]) ∧ Below W.heap.size W w') := fun W => ends_ok p.v p.hi p.lo p.b W hp.1 hp.2.1 hp.2.2.1 hp.2.2.2 cp
  have hA1 : 0 ≤ laH p.v p.hi p.b := (laH_lt hp.1 hp.2.1).1
  have hA2 : 0 ≤ laL p.v p.lo p.b := (laL_lt hp.2.2.1 hp.2.2.2).1
  have hF : Hid (∀ (q : Nat) (W : World), Below w.heap.size w W → Blk W q 38 [.bool p.v, .int .u64 p.hi, .int .u64 p.lo] → Calls Tryz.prog 88 #[.slice a6 l.length c6, .func (.func 89) #[] #[.pointer (some ⟨q, 0, none⟩)]] W fun e w' => e = .returned (.int .i64 (fromL p l)) ∧ Below W.heap.size W w') := fun q W hW hq =>
    firstLs_any a6 c6 l W _ #[.pointer (some ⟨q, 0, none⟩)] (fun y => !lessB y.a.v y.a.hi y.a.lo p.v p.hi p.lo) hl (hs.below hW) enters_stretch1 fun W' y hy hb => (stretch1_any q p.v p.hi p.lo hp.1 hp.2.2.1 y W' (hq.below hb)).mono fun e w' ⟨h1, h2⟩ => ⟨h1, btr hb h2⟩
  have hT : Hid (∀ (q : Nat) (W : World), Below w.heap.size w W → Blk W q 38 [.bool p.v, .int .u64 (laH p.v p.hi p.b), .int .u64 (laL p.v p.lo p.b)] → Calls Tryz.prog 88 #[.slice a6 l.length c6, .func (.func 90) #[] #[.pointer (some ⟨q, 0, none⟩)]] W fun e w' => e = .returned (.int .i64 (toL p l)) ∧ Below W.heap.size W w') := fun q W hW hq =>
    firstLs_any a6 c6 l W _ #[.pointer (some ⟨q, 0, none⟩)] (fun y => lessB p.v (laH p.v p.hi p.b) (laL p.v p.lo p.b) y.a.v y.a.hi y.a.lo) hl (hs.below hW) enters_stretch2 fun W' y hy hb => (stretch2_any q p.v _ _ hA1 hA2 y W' (hq.below hb)).mono fun e w' ⟨h1, h2⟩ => ⟨h1, btr hb h2⟩
  have HB0 := Lib.hid (bal (Below.refl w.heap.size w) (.cells #[.bool p.v, .int .u64 p.hi, .int .u64 p.lo, .int .i64 p.b] 40))
  have HD0 := Lib.hid (hd.below (bal (Below.refl w.heap.size w) (.cells #[.bool p.v, .int .u64 p.hi, .int .u64 p.lo, .int .i64 p.b] 40)))
  generalize fromL p l = fr at *
  generalize toL p l = tt at *
  generalize laH p.v p.hi p.b = z1 at *
  generalize laL p.v p.lo p.b = z2 at *
  generalize p.v = x0 at *
  generalize p.hi = x1 at *
  generalize p.lo = x2 at *
  generalize p.b = x3 at *
  generalize l.length = LN at *
  clear hs hd hp cp hA1 hA2 hl
  go_enter Tryz.func68, Tryz.ntmps68
  go_wp2_with fail
  refine (hE.out _).mono ?_
  rintro e w1 ⟨rfl, hb1⟩
  obtain ⟨W3, hW3⟩ : ∃ W3, W3 = ((w1.alloc (.cells #[.bool x0, .int .u64 x1, .int .u64 x2] 38)).alloc (.cells #[.bool x0, .int .u64 z1, .int .u64 z2] 38)) := ⟨_, rfl⟩
  have hb3 : Below w1.heap.size w1 W3 := by rw [hW3]; exact bal (bal (Below.refl _ _) _) _
  have h6 : Blk W3 w1.heap.size 38 [.bool x0, .int .u64 x1, .int .u64 x2] := by rw [hW3]; exact (Blk.new w1 _ _).below (bal (Below.refl _ _) _)
  have h7 : Blk W3 (w1.heap.size + 1) 38 [.bool x0, .int .u64 z1, .int .u64 z2] := by
    rw [hW3]
    have := Blk.new (w1.alloc (.cells #[.bool x0, .int .u64 x1, .int .u64 x2] 38)) [.bool x0, .int .u64 z1, .int .u64 z2] 38
    rw [show (w1.alloc (.cells #[.bool x0, .int .u64 x1, .int .u64 x2] 38)).heap.size = w1.heap.size + 1 by simp] at this
    exact this
  have HB3 := Lib.hid (btr (btr HB0.out hb1) hb3)
  have HD3 := Lib.hid ((HD0.out.below hb1).below hb3)
  have H6 := Lib.hid h6
  have H7 := Lib.hid h7
  obtain ⟨⟨p0, p1, p2⟩, -⟩ := HD3.out.three
  rw [hW3] at HB3 HD3 H6 H7 p0 p1 p2
  clear hb1 hb3 h6 h7 hW3 W3 HB0 HD0 hE
  go_wp2_with fail
  refine (hF.out _ _ HB3.out H6.out).mono ?_
  rintro e w4 ⟨rfl, hb4⟩
  have HB4 := Lib.hid (btr HB3.out hb4)
  obtain ⟨⟨q0, q1, q2⟩, -⟩ := (HD3.out.below hb4).three
  have H74 := Lib.hid (H7.out.below hb4)
  clear hb4 HB3 HD3 H6 H7 p0 p1 p2 hF
  go_wp2_with fail
  refine (hT.out _ _ HB4.out H74.out).mono ?_
  rintro e w5 ⟨rfl, hb5⟩
  have HB5 := Lib.hid (btr HB4.out hb5)
  clear hb5 HB4 H74 q0 q1 q2 hT
  go_wp2
  go_ret2
  exact ⟨rfl, HB5.out⟩
end Go.Proofs.YtclnfkohlklbpaaGreat
