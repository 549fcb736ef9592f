/- The document's AddOf and WriteOf; one contract each. -/
import Derived.Test.YtjainfehlbfiaaaFrA
import Derived.Test.YtjainfehlbfiaaaLgE
import Derived.Test.YtjainfehlbfiaaaFnF
import Derived.Test.YtjainfehlbfiaaaFrB
set_option linter.unusedVariables false
set_option linter.unusedSimpArgs false
namespace Go.Proofs.Ytjainfehlbfiaaa
open Go.RowKit

theorem addE_eq {l : List En} (h : logE l = 0) (ep : Int) (o : Opd) : addE l ep o = if ep < 1 ∨ 999 < ep then 3 else if ep < tailE l then 4 else if formE o = 0 then (if l.length < 30 then 0 else 2) else formE o := by
  unfold addE follE
  rw [if_pos h, if_pos rfl]
  by_cases h1 : ep < 1 ∨ 999 < ep
  · rw [if_pos h1, if_pos h1, if_neg (by decide)]
  · rw [if_neg h1, if_neg h1]
    by_cases h2 : ep < tailE l
    · rw [if_pos h2, if_pos h2, if_neg (by decide)]
    · rw [if_neg h2, if_neg h2]
theorem tailE_last (l : List En) (m : Nat) (h : l.length = m + 1) : tailE l = (l[m]'(by omega)).ep := by
  unfold tailE
  rw [List.getLast?_eq_getElem?, show l.length - 1 = m by omega, List.getElem?_eq_getElem (by omega)]
set_option maxHeartbeats 16000000 in
set_option maxRecDepth 100000 in
theorem radd_bad (a : Option Addr) (c : Nat) (l : List En) (ep : Int) (o : Opd) (w : World) (hs : Lies enE w a l) (hw : o.who.size ≤ maxLen) (hg : logE l = 0) (h0 : ¬ addE l ep o = 0) :
    Calls Try.prog 19 #[.slice a l.length c, .int .i64 ep, .agg #[.int .i64 o.k, .bool o.p.v, .int .u64 o.p.hi, .int .u64 o.p.lo, .int .i64 o.p.b, .bool o.a.v, .int .u64 o.a.hi, .int .u64 o.a.lo, .string o.who, .int .i64 o.pof, .int .i64 o.n]] w fun e w' => e = .returned (.tuple #[.slice none 0 0, .int .i64 (addE l ep o)]) ∧ Below w.heap.size w w' := by
  have hC : Hid (∀ W : World, Calls Try.prog 26 #[.agg #[.int .i64 o.k, .bool o.p.v, .int .u64 o.p.hi, .int .u64 o.p.lo, .int .i64 o.p.b, .bool o.a.v, .int .u64 o.a.hi, .int .u64 o.a.lo, .string o.who, .int .i64 o.pof, .int .i64 o.n]] W fun e w' => e = .returned (.int .i64 (formE o)) ∧ Below W.heap.size W w') := fun W => rcheckop_any o W hw
  have HB := Lib.hid (bal (Below.refl w.heap.size w) (.cells #[.int .i64 o.k, .bool o.p.v, .int .u64 o.p.hi, .int .u64 o.p.lo, .int .i64 o.p.b, .bool o.a.v, .int .u64 o.a.hi, .int .u64 o.a.lo, .string o.who, .int .i64 o.pof, .int .i64 o.n] 33))
  have hN30 := logE_len hg
  rw [addE_eq hg] at h0 ⊢
  have HPv : Hid ((l.length = 0 ∧ tailE l = 0) ∨ ∃ m g o', l.length = m + 1 ∧ a = some ⟨g, o', none⟩ ∧ g < w.heap.size ∧ w.cell? ⟨g, o' + m * 13 + 1, none⟩ = some (.int .i64 (tailE l))) := by
    by_cases hz : l.length = 0
    · left
      have : l = [] := List.length_eq_zero_iff.1 hz
      exact ⟨hz, by rw [this]; rfl⟩
    · right
      obtain ⟨m, hm⟩ : ∃ m, l.length = m + 1 := ⟨l.length - 1, by omega⟩
      obtain ⟨g, o', rfl, hgl, _, q1, _⟩ := hs.en m (by omega)
      exact ⟨m, g, o', hm, rfl, hgl, by rw [tailE_last l m hm]; exact q1⟩
  generalize formE o = r at *
  generalize tailE l = y at *
  generalize o.k = y0 at *
  generalize o.p.v = y1 at *
  generalize o.p.hi = y2 at *
  generalize o.p.lo = y3 at *
  generalize o.p.b = y4 at *
  generalize o.a.v = y5 at *
  generalize o.a.hi = y6 at *
  generalize o.a.lo = y7 at *
  generalize o.who = y8 at *
  generalize o.pof = y9 at *
  generalize o.n = y10 at *
  generalize l.length = N at *
  clear hs hw hg
  by_cases h1 : ep < 1 ∨ 999 < ep
  · rw [if_pos h1]
    have hbt := btw_iff.2 h1
    clear h0 h1 HPv
    go_enter Try.func19, Try.ntmps19
    go_wp2_with (go_at_call 17; refine (between_any _ _ _ _).mono ?_; rintro e w3 ⟨rfl, hw3⟩; have hw3 := hw3.symm; subst hw3; rw [hbt])
    go_ret2
    exact ⟨rfl, HB.out⟩
  rw [if_neg h1] at h0 ⊢
  have hbt := btw_in' h1
  have hN0 : (0 : Int) ≤ (N : Int) := by omega
  have hN3 : (N : Int) ≤ 30 := by omega
  rcases HPv.out with ⟨hz, hy⟩ | ⟨m, g, o', hm, rfl, hgl, q1⟩
  · subst hz hy
    rw [if_neg (show ¬ ep < 0 by omega)] at h0 ⊢
    by_cases hr : r = 0
    · rw [if_pos hr, if_pos (by decide)] at h0; exact absurd rfl h0
    · rw [if_neg hr]
      have hI : (r != 0) = true := by rw [bne_iff_ne]; exact hr
      clear h0 h1 hr HPv
      go_enter Try.func19, Try.ntmps19
      go_wp2_with (first | (go_at_call 17; refine (between_any _ _ _ _).mono ?_; rintro e w3 ⟨rfl, hw3⟩; have hw3 := hw3.symm; subst hw3; rw [hbt]) | (go_at_call 26; refine (hC.out _).mono ?_; rintro e w2 ⟨rfl, hb2⟩; have HB2 := Lib.hid (btr HB.out hb2); clear hb2))
      go_ret2
      exact ⟨rfl, HB2.out⟩
  · have q2 : (w.alloc (.cells #[.int .i64 y0, .bool y1, .int .u64 y2, .int .u64 y3, .int .i64 y4, .bool y5, .int .u64 y6, .int .u64 y7, .string y8, .int .i64 y9, .int .i64 y10] 33)).cell? ⟨g, o' + m * 13 + 1, none⟩ = some (.int .i64 y) := by rw [(bcell (bal (Below.refl w.heap.size w) _)).1 _ _ hgl]; exact q1
    have hwr : IntKind.i64.wrap ((m : Int) + 1 - 1) = (m : Int) := by rw [IntKind.wrap_i64]; omega
    have hwr2 : IntKind.i64.wrap (m : Int) = (m : Int) := by rw [IntKind.wrap_i64]; omega
    have hm0 : (0 : Int) ≤ (m : Int) := by omega
    have hm1 : (m : Int) < (m : Int) + 1 := by omega
    have hmp : (0 : Int) < (m : Int) + 1 := by omega
    have hcast : ((N : Nat) : Int) = (m : Int) + 1 := by omega
    subst hm
    by_cases hy : ep < y
    · rw [if_pos hy]
      clear h0 h1 HPv q1
      go_enter Try.func19, Try.ntmps19
      go_wp2_with (first | (go_at_call 17; refine (between_any _ _ _ _).mono ?_; rintro e w3 ⟨rfl, hw3⟩; have hw3 := hw3.symm; subst hw3; rw [hbt]) | (go_at_call 26; refine (hC.out _).mono ?_; rintro e w2 ⟨rfl, hb2⟩; have HB2 := Lib.hid (btr HB.out hb2); clear hb2))
      go_ret2
      exact ⟨rfl, HB.out⟩
    · rw [if_neg hy] at h0 ⊢
      have d3 : decide (ep < y) = false := decide_eq_false hy
      by_cases hr : r = 0
      · rw [if_pos hr] at h0 ⊢
        by_cases h9 : m + 1 < 30
        · rw [if_pos h9] at h0; exact absurd rfl h0
        · rw [if_neg h9]
          have b9 : (((m : Int) + 1) == 30) = true := by simp; omega
          subst hr
          clear h0 h1 HPv q1 hy h9
          go_enter Try.func19, Try.ntmps19
          go_wp2_with (first | (go_at_call 17; refine (between_any _ _ _ _).mono ?_; rintro e w3 ⟨rfl, hw3⟩; have hw3 := hw3.symm; subst hw3; rw [hbt]) | (go_at_call 26; refine (hC.out _).mono ?_; rintro e w2 ⟨rfl, hb2⟩; have HB2 := Lib.hid (btr HB.out hb2); clear hb2))
          go_ret2
          exact ⟨rfl, HB2.out⟩
      · rw [if_neg hr]
        have hI : (r != 0) = true := by rw [bne_iff_ne]; exact hr
        clear h0 h1 hr HPv q1 hy
        go_enter Try.func19, Try.ntmps19
        go_wp2_with (first | (go_at_call 17; refine (between_any _ _ _ _).mono ?_; rintro e w3 ⟨rfl, hw3⟩; have hw3 := hw3.symm; subst hw3; rw [hbt]) | (go_at_call 26; refine (hC.out _).mono ?_; rintro e w2 ⟨rfl, hb2⟩; have HB2 := Lib.hid (btr HB.out hb2); clear hb2))
        go_ret2
        exact ⟨rfl, HB2.out⟩
end Go.Proofs.Ytjainfehlbfiaaa

namespace Go.Proofs.Ytjainfehlbfiaaa
open Go.RowKit

theorem keepP11 {w W W' : World} {b : Nat} {v0 v1 v2 v3 v4 v5 v6 v7 v8 v9 v10 : Value} (h : (W.cell? ⟨b, 0, none⟩ = some (v0) ∧ W.cell? ⟨b, 1, none⟩ = some (v1) ∧ W.cell? ⟨b, 2, none⟩ = some (v2) ∧ W.cell? ⟨b, 3, none⟩ = some (v3) ∧ W.cell? ⟨b, 4, none⟩ = some (v4) ∧ W.cell? ⟨b, 5, none⟩ = some (v5) ∧ W.cell? ⟨b, 6, none⟩ = some (v6) ∧ W.cell? ⟨b, 7, none⟩ = some (v7) ∧ W.cell? ⟨b, 8, none⟩ = some (v8) ∧ W.cell? ⟨b, 9, none⟩ = some (v9) ∧ W.cell? ⟨b, 10, none⟩ = some (v10) ∧ b < W.heap.size) ∧ Below w.heap.size w W) (hb : Below W.heap.size W W') : (W'.cell? ⟨b, 0, none⟩ = some (v0) ∧ W'.cell? ⟨b, 1, none⟩ = some (v1) ∧ W'.cell? ⟨b, 2, none⟩ = some (v2) ∧ W'.cell? ⟨b, 3, none⟩ = some (v3) ∧ W'.cell? ⟨b, 4, none⟩ = some (v4) ∧ W'.cell? ⟨b, 5, none⟩ = some (v5) ∧ W'.cell? ⟨b, 6, none⟩ = some (v6) ∧ W'.cell? ⟨b, 7, none⟩ = some (v7) ∧ W'.cell? ⟨b, 8, none⟩ = some (v8) ∧ W'.cell? ⟨b, 9, none⟩ = some (v9) ∧ W'.cell? ⟨b, 10, none⟩ = some (v10) ∧ b < W'.heap.size) ∧ Below w.heap.size w W' := by
  obtain ⟨⟨a0, a1, a2, a3, a4, a5, a6, a7, a8, a9, a10, z⟩, hw⟩ := h
  have k := (bcell hb).1
  exact ⟨⟨by rw [k _ _ z]; exact a0, by rw [k _ _ z]; exact a1, by rw [k _ _ z]; exact a2, by rw [k _ _ z]; exact a3, by rw [k _ _ z]; exact a4, by rw [k _ _ z]; exact a5, by rw [k _ _ z]; exact a6, by rw [k _ _ z]; exact a7, by rw [k _ _ z]; exact a8, by rw [k _ _ z]; exact a9, by rw [k _ _ z]; exact a10, Nat.lt_of_lt_of_le z hb.size⟩, btr hw hb⟩
theorem grown_blk {w w' : World} {b t : Nat} {l : List Value} {r : Option Nat} (h : w.heap[b]? = some (.cells l.toArray t (0, 0))) (hg : w.grownBy w' r) (hne : r ≠ some b) : w'.heap[b]? = some (.cells l.toArray t (0, 0)) := by
  have hlt : b < w.heap.size := (Array.getElem?_eq_some_iff.1 h).1
  exact (hg.block b hlt (fun e => hne e.symm)).trans h
set_option maxHeartbeats 32000000 in
set_option maxRecDepth 100000 in
theorem radd_ok (a : Option Addr) (c : Nat) (l : List En) (ep : Int) (o : Opd) (w : World) (hs : Lies enE w a l) (hw : o.who.size ≤ maxLen) (hg : logE l = 0) (h0 : addE l ep o = 0) :
    Calls Try.prog 19 #[.slice a l.length c, .int .i64 ep, .agg #[.int .i64 o.k, .bool o.p.v, .int .u64 o.p.hi, .int .u64 o.p.lo, .int .i64 o.p.b, .bool o.a.v, .int .u64 o.a.hi, .int .u64 o.a.lo, .string o.who, .int .i64 o.pof, .int .i64 o.n]] w fun e w' => ∃ v', e = .returned (.tuple #[v', .int .i64 0]) ∧ w'.ownsRow w.heap.size 51 enE.k v' (l.length + 1) (rowOf enE (l ++ [newE l ep o])) ∧ Below w.heap.size w w' := by
  have hN30 := logE_len hg
  rw [addE_eq hg] at h0
  have h1 : ¬ (ep < 1 ∨ 999 < ep) := fun h => by rw [if_pos h] at h0; exact absurd h0 (by decide)
  rw [if_neg h1] at h0
  have h2 : ¬ ep < tailE l := fun h => by rw [if_pos h] at h0; exact absurd h0 (by decide)
  rw [if_neg h2] at h0
  have h3 : formE o = 0 := by by_cases h : formE o = 0; exact h; rw [if_neg h] at h0; exact h0
  have h4 : l.length < 30 := by rw [if_pos h3] at h0; by_cases h : l.length < 30; exact h; rw [if_neg h] at h0; exact absurd h0 (by decide)
  have hC : Hid (∀ W : World, Calls Try.prog 26 #[.agg #[.int .i64 o.k, .bool o.p.v, .int .u64 o.p.hi, .int .u64 o.p.lo, .int .i64 o.p.b, .bool o.a.v, .int .u64 o.a.hi, .int .u64 o.a.lo, .string o.who, .int .i64 o.pof, .int .i64 o.n]] W fun e w' => e = .returned (.int .i64 0) ∧ Below W.heap.size W w') := fun W => by rw [← h3]; exact rcheckop_any o W hw
  have HB := Lib.hid (bal (Below.refl w.heap.size w) (.cells #[.int .i64 o.k, .bool o.p.v, .int .u64 o.p.hi, .int .u64 o.p.lo, .int .i64 o.p.b, .bool o.a.v, .int .u64 o.a.hi, .int .u64 o.a.lo, .string o.who, .int .i64 o.pof, .int .i64 o.n] 33))
  have HO := Lib.hid (HasL.new w [.int .i64 o.k, .bool o.p.v, .int .u64 o.p.hi, .int .u64 o.p.lo, .int .i64 o.p.b, .bool o.a.v, .int .u64 o.a.hi, .int .u64 o.a.lo, .string o.who, .int .i64 o.pof, .int .i64 o.n] 33)
  obtain ⟨i0, hi0, hz0, hz1, hz2⟩ := info_parts infoE
  have HRow : Hid (rowOf enE (l ++ [newE l ep o]) = rowOf enE l ++ [.int .i64 ((l.length : Int) + 1), .int .i64 ep, .int .i64 o.k, .bool o.p.v, .int .u64 o.p.hi, .int .u64 o.p.lo, .int .i64 o.p.b, .bool o.a.v, .int .u64 o.a.hi, .int .u64 o.a.lo, .string o.who, .int .i64 o.pof, .int .i64 o.n]) := by rw [Hid, rowOf_append]; rfl
  rw [HRow.out]
  have HE1 : Hid (∀ u ∈ ([.int .i64 ((l.length : Int) + 1), .int .i64 ep, .int .i64 o.k, .bool o.p.v, .int .u64 o.p.hi, .int .u64 o.p.lo, .int .i64 o.p.b, .bool o.a.v, .int .u64 o.a.hi, .int .u64 o.a.lo, .string o.who, .int .i64 o.pof, .int .i64 o.n] : List Value), u.oneCell' = true) := enE.one ⟨(l.length : Int) + 1, ep, o⟩
  have HRl := Lib.hid (rowOf_len enE l)
  have HR1 := Lib.hid (rowOf_one enE l)
  have HPv : Hid ((l.length = 0 ∧ tailE l = 0) ∨ ∃ m g o', l.length = m + 1 ∧ a = some ⟨g, o', none⟩ ∧ g < w.heap.size ∧ w.cell? ⟨g, o' + m * 13 + 1, none⟩ = some (.int .i64 (tailE l))) := by
    by_cases hz : l.length = 0
    · left
      have : l = [] := List.length_eq_zero_iff.1 hz
      exact ⟨hz, by rw [this]; rfl⟩
    · right
      obtain ⟨m, hm⟩ : ∃ m, l.length = m + 1 := ⟨l.length - 1, by omega⟩
      obtain ⟨g, o', rfl, hgl, _, q1, _⟩ := hs.en m (by omega)
      exact ⟨m, g, o', hm, rfl, hgl, by rw [tailE_last l m hm]; exact q1⟩
  have HLs := Lib.hid hs
  clear HRow h0 h3 hg
  generalize tailE l = y at *
  generalize o.k = y0 at *
  generalize o.p.v = y1 at *
  generalize o.p.hi = y2 at *
  generalize o.p.lo = y3 at *
  generalize o.p.b = y4 at *
  generalize o.a.v = y5 at *
  generalize o.a.hi = y6 at *
  generalize o.a.lo = y7 at *
  generalize o.who = y8 at *
  generalize o.pof = y9 at *
  generalize o.n = y10 at *
  obtain ⟨N, hN⟩ : ∃ N, N = l.length := ⟨_, rfl⟩
  rw [← hN] at HPv HE1 HRl h4 ⊢
  obtain ⟨row, hrow⟩ : ∃ row, row = rowOf enE l := ⟨_, rfl⟩
  rw [← hrow] at HRl HR1 ⊢
  have HNews : Hid (∀ ad, a = some ad → ∀ W, Below w.heap.size w W → ∀ j u, row[j]? = some u → W.cell? (ad.add j) = some u) := fun ad e W hW => by subst e; rw [hrow]; exact (HLs.out.below hW).news
  have HNil : Hid (a = none → N = 0 ∧ row = []) := fun e => by
    have := HLs.out
    rw [e] at this
    have h := this.none_nil
    rw [hN, hrow, h]
    exact ⟨rfl, rfl⟩
  clear hN hs HLs hN30 hw hrow
  have hbt := btw_in' h1
  have hN0 : (0 : Int) ≤ (N : Int) := by omega
  have hN3 : (N : Int) < 30 := by omega
  have b30 : ((N : Int) == 30) = false := by simp; omega
  have b30n : (N == 30) = false := by simp; omega
  rcases HPv.out with ⟨hz, hy⟩ | ⟨m, g, o', hm, ha, hgl, q1⟩
  · subst hz
    clear HPv h1 h2
    cases a with
    | none =>
      obtain ⟨_, rfl⟩ := HNil.out rfl
      clear HNil HNews
      go_enter Try.func19, Try.ntmps19
      go_wp2_with (first | (go_at_call 17; refine (between_any _ _ _ _).mono ?_; rintro e w3 ⟨rfl, hw3⟩; have hw3 := hw3.symm; subst hw3; rw [hbt]) | (go_at_call 26; refine (hC.out _).mono ?_; rintro e w2 ⟨rfl, hb2⟩; have HB2 := Lib.hid (btr HB.out hb2); have HO2 := Lib.hid (HO.out.below hb2); clear hb2))
      obtain ⟨W, hW⟩ : ∃ W, W = w2 := ⟨_, rfl⟩
      subst hW
      have TW : Hid ((W.cell? ⟨w.heap.size, 0, none⟩ = some (.int .i64 y0) ∧ W.cell? ⟨w.heap.size, 1, none⟩ = some (.bool y1) ∧ W.cell? ⟨w.heap.size, 2, none⟩ = some (.int .u64 y2) ∧ W.cell? ⟨w.heap.size, 3, none⟩ = some (.int .u64 y3) ∧ W.cell? ⟨w.heap.size, 4, none⟩ = some (.int .i64 y4) ∧ W.cell? ⟨w.heap.size, 5, none⟩ = some (.bool y5) ∧ W.cell? ⟨w.heap.size, 6, none⟩ = some (.int .u64 y6) ∧ W.cell? ⟨w.heap.size, 7, none⟩ = some (.int .u64 y7) ∧ W.cell? ⟨w.heap.size, 8, none⟩ = some (.string y8) ∧ W.cell? ⟨w.heap.size, 9, none⟩ = some (.int .i64 y9) ∧ W.cell? ⟨w.heap.size, 10, none⟩ = some (.int .i64 y10) ∧ w.heap.size < W.heap.size) ∧ Below w.heap.size w W) := ⟨⟨HO2.out.1 0 _ rfl, HO2.out.1 1 _ rfl, HO2.out.1 2 _ rfl, HO2.out.1 3 _ rfl, HO2.out.1 4 _ rfl, HO2.out.1 5 _ rfl, HO2.out.1 6 _ rfl, HO2.out.1 7 _ rfl, HO2.out.1 8 _ rfl, HO2.out.1 9 _ rfl, HO2.out.1 10 _ rfl, HO2.out.2⟩, HB2.out⟩
      have T0 : Hid ((W.drew.cell? ⟨w.heap.size, 0, none⟩ = some (.int .i64 y0) ∧ W.drew.cell? ⟨w.heap.size, 1, none⟩ = some (.bool y1) ∧ W.drew.cell? ⟨w.heap.size, 2, none⟩ = some (.int .u64 y2) ∧ W.drew.cell? ⟨w.heap.size, 3, none⟩ = some (.int .u64 y3) ∧ W.drew.cell? ⟨w.heap.size, 4, none⟩ = some (.int .i64 y4) ∧ W.drew.cell? ⟨w.heap.size, 5, none⟩ = some (.bool y5) ∧ W.drew.cell? ⟨w.heap.size, 6, none⟩ = some (.int .u64 y6) ∧ W.drew.cell? ⟨w.heap.size, 7, none⟩ = some (.int .u64 y7) ∧ W.drew.cell? ⟨w.heap.size, 8, none⟩ = some (.string y8) ∧ W.drew.cell? ⟨w.heap.size, 9, none⟩ = some (.int .i64 y9) ∧ W.drew.cell? ⟨w.heap.size, 10, none⟩ = some (.int .i64 y10) ∧ w.heap.size < W.drew.heap.size) ∧ Below w.heap.size w W.drew) := ⟨TW.out.1, TW.out.2.drew⟩
      have KA : Hid (Below W.heap.size W (W.alloc (.cells #[] 51)).drew) := (bal (Below.refl _ _) _).drew
      have TA : Hid (((W.alloc (.cells #[] 51)).drew.cell? ⟨w.heap.size, 0, none⟩ = some (.int .i64 y0) ∧ (W.alloc (.cells #[] 51)).drew.cell? ⟨w.heap.size, 1, none⟩ = some (.bool y1) ∧ (W.alloc (.cells #[] 51)).drew.cell? ⟨w.heap.size, 2, none⟩ = some (.int .u64 y2) ∧ (W.alloc (.cells #[] 51)).drew.cell? ⟨w.heap.size, 3, none⟩ = some (.int .u64 y3) ∧ (W.alloc (.cells #[] 51)).drew.cell? ⟨w.heap.size, 4, none⟩ = some (.int .i64 y4) ∧ (W.alloc (.cells #[] 51)).drew.cell? ⟨w.heap.size, 5, none⟩ = some (.bool y5) ∧ (W.alloc (.cells #[] 51)).drew.cell? ⟨w.heap.size, 6, none⟩ = some (.int .u64 y6) ∧ (W.alloc (.cells #[] 51)).drew.cell? ⟨w.heap.size, 7, none⟩ = some (.int .u64 y7) ∧ (W.alloc (.cells #[] 51)).drew.cell? ⟨w.heap.size, 8, none⟩ = some (.string y8) ∧ (W.alloc (.cells #[] 51)).drew.cell? ⟨w.heap.size, 9, none⟩ = some (.int .i64 y9) ∧ (W.alloc (.cells #[] 51)).drew.cell? ⟨w.heap.size, 10, none⟩ = some (.int .i64 y10) ∧ w.heap.size < (W.alloc (.cells #[] 51)).drew.heap.size) ∧ Below w.heap.size w (W.alloc (.cells #[] 51)).drew) := keepP11 TW.out KA.out
      have KDA : Hid (Below W.heap.size W ((W.alloc (.cells #[] 51)).alloc (.cells #[.int .i64 (IntKind.i64.wrap 1), .int .i64 ep, .int .i64 y0, .bool y1, .int .u64 y2, .int .u64 y3, .int .i64 y4, .bool y5, .int .u64 y6, .int .u64 y7, .string y8, .int .i64 y9, .int .i64 y10] 51)).drew) := (bal (bal (Below.refl _ _) _) _).drew
      have TDA : Hid ((((W.alloc (.cells #[] 51)).alloc (.cells #[.int .i64 (IntKind.i64.wrap 1), .int .i64 ep, .int .i64 y0, .bool y1, .int .u64 y2, .int .u64 y3, .int .i64 y4, .bool y5, .int .u64 y6, .int .u64 y7, .string y8, .int .i64 y9, .int .i64 y10] 51)).drew.cell? ⟨w.heap.size, 0, none⟩ = some (.int .i64 y0) ∧ ((W.alloc (.cells #[] 51)).alloc (.cells #[.int .i64 (IntKind.i64.wrap 1), .int .i64 ep, .int .i64 y0, .bool y1, .int .u64 y2, .int .u64 y3, .int .i64 y4, .bool y5, .int .u64 y6, .int .u64 y7, .string y8, .int .i64 y9, .int .i64 y10] 51)).drew.cell? ⟨w.heap.size, 1, none⟩ = some (.bool y1) ∧ ((W.alloc (.cells #[] 51)).alloc (.cells #[.int .i64 (IntKind.i64.wrap 1), .int .i64 ep, .int .i64 y0, .bool y1, .int .u64 y2, .int .u64 y3, .int .i64 y4, .bool y5, .int .u64 y6, .int .u64 y7, .string y8, .int .i64 y9, .int .i64 y10] 51)).drew.cell? ⟨w.heap.size, 2, none⟩ = some (.int .u64 y2) ∧ ((W.alloc (.cells #[] 51)).alloc (.cells #[.int .i64 (IntKind.i64.wrap 1), .int .i64 ep, .int .i64 y0, .bool y1, .int .u64 y2, .int .u64 y3, .int .i64 y4, .bool y5, .int .u64 y6, .int .u64 y7, .string y8, .int .i64 y9, .int .i64 y10] 51)).drew.cell? ⟨w.heap.size, 3, none⟩ = some (.int .u64 y3) ∧ ((W.alloc (.cells #[] 51)).alloc (.cells #[.int .i64 (IntKind.i64.wrap 1), .int .i64 ep, .int .i64 y0, .bool y1, .int .u64 y2, .int .u64 y3, .int .i64 y4, .bool y5, .int .u64 y6, .int .u64 y7, .string y8, .int .i64 y9, .int .i64 y10] 51)).drew.cell? ⟨w.heap.size, 4, none⟩ = some (.int .i64 y4) ∧ ((W.alloc (.cells #[] 51)).alloc (.cells #[.int .i64 (IntKind.i64.wrap 1), .int .i64 ep, .int .i64 y0, .bool y1, .int .u64 y2, .int .u64 y3, .int .i64 y4, .bool y5, .int .u64 y6, .int .u64 y7, .string y8, .int .i64 y9, .int .i64 y10] 51)).drew.cell? ⟨w.heap.size, 5, none⟩ = some (.bool y5) ∧ ((W.alloc (.cells #[] 51)).alloc (.cells #[.int .i64 (IntKind.i64.wrap 1), .int .i64 ep, .int .i64 y0, .bool y1, .int .u64 y2, .int .u64 y3, .int .i64 y4, .bool y5, .int .u64 y6, .int .u64 y7, .string y8, .int .i64 y9, .int .i64 y10] 51)).drew.cell? ⟨w.heap.size, 6, none⟩ = some (.int .u64 y6) ∧ ((W.alloc (.cells #[] 51)).alloc (.cells #[.int .i64 (IntKind.i64.wrap 1), .int .i64 ep, .int .i64 y0, .bool y1, .int .u64 y2, .int .u64 y3, .int .i64 y4, .bool y5, .int .u64 y6, .int .u64 y7, .string y8, .int .i64 y9, .int .i64 y10] 51)).drew.cell? ⟨w.heap.size, 7, none⟩ = some (.int .u64 y7) ∧ ((W.alloc (.cells #[] 51)).alloc (.cells #[.int .i64 (IntKind.i64.wrap 1), .int .i64 ep, .int .i64 y0, .bool y1, .int .u64 y2, .int .u64 y3, .int .i64 y4, .bool y5, .int .u64 y6, .int .u64 y7, .string y8, .int .i64 y9, .int .i64 y10] 51)).drew.cell? ⟨w.heap.size, 8, none⟩ = some (.string y8) ∧ ((W.alloc (.cells #[] 51)).alloc (.cells #[.int .i64 (IntKind.i64.wrap 1), .int .i64 ep, .int .i64 y0, .bool y1, .int .u64 y2, .int .u64 y3, .int .i64 y4, .bool y5, .int .u64 y6, .int .u64 y7, .string y8, .int .i64 y9, .int .i64 y10] 51)).drew.cell? ⟨w.heap.size, 9, none⟩ = some (.int .i64 y9) ∧ ((W.alloc (.cells #[] 51)).alloc (.cells #[.int .i64 (IntKind.i64.wrap 1), .int .i64 ep, .int .i64 y0, .bool y1, .int .u64 y2, .int .u64 y3, .int .i64 y4, .bool y5, .int .u64 y6, .int .u64 y7, .string y8, .int .i64 y9, .int .i64 y10] 51)).drew.cell? ⟨w.heap.size, 10, none⟩ = some (.int .i64 y10) ∧ w.heap.size < ((W.alloc (.cells #[] 51)).alloc (.cells #[.int .i64 (IntKind.i64.wrap 1), .int .i64 ep, .int .i64 y0, .bool y1, .int .u64 y2, .int .u64 y3, .int .i64 y4, .bool y5, .int .u64 y6, .int .u64 y7, .string y8, .int .i64 y9, .int .i64 y10] 51)).drew.heap.size) ∧ Below w.heap.size w ((W.alloc (.cells #[] 51)).alloc (.cells #[.int .i64 (IntKind.i64.wrap 1), .int .i64 ep, .int .i64 y0, .bool y1, .int .u64 y2, .int .u64 y3, .int .i64 y4, .bool y5, .int .u64 y6, .int .u64 y7, .string y8, .int .i64 y9, .int .i64 y10] 51)).drew) := keepP11 TW.out KDA.out
      have KD : Hid (Below W.heap.size W (W.alloc (.cells #[.int .i64 (IntKind.i64.wrap 1), .int .i64 ep, .int .i64 y0, .bool y1, .int .u64 y2, .int .u64 y3, .int .i64 y4, .bool y5, .int .u64 y6, .int .u64 y7, .string y8, .int .i64 y9, .int .i64 y10] 51)).drew) := (bal (Below.refl _ _) _).drew
      have TD : Hid (((W.alloc (.cells #[.int .i64 (IntKind.i64.wrap 1), .int .i64 ep, .int .i64 y0, .bool y1, .int .u64 y2, .int .u64 y3, .int .i64 y4, .bool y5, .int .u64 y6, .int .u64 y7, .string y8, .int .i64 y9, .int .i64 y10] 51)).drew.cell? ⟨w.heap.size, 0, none⟩ = some (.int .i64 y0) ∧ (W.alloc (.cells #[.int .i64 (IntKind.i64.wrap 1), .int .i64 ep, .int .i64 y0, .bool y1, .int .u64 y2, .int .u64 y3, .int .i64 y4, .bool y5, .int .u64 y6, .int .u64 y7, .string y8, .int .i64 y9, .int .i64 y10] 51)).drew.cell? ⟨w.heap.size, 1, none⟩ = some (.bool y1) ∧ (W.alloc (.cells #[.int .i64 (IntKind.i64.wrap 1), .int .i64 ep, .int .i64 y0, .bool y1, .int .u64 y2, .int .u64 y3, .int .i64 y4, .bool y5, .int .u64 y6, .int .u64 y7, .string y8, .int .i64 y9, .int .i64 y10] 51)).drew.cell? ⟨w.heap.size, 2, none⟩ = some (.int .u64 y2) ∧ (W.alloc (.cells #[.int .i64 (IntKind.i64.wrap 1), .int .i64 ep, .int .i64 y0, .bool y1, .int .u64 y2, .int .u64 y3, .int .i64 y4, .bool y5, .int .u64 y6, .int .u64 y7, .string y8, .int .i64 y9, .int .i64 y10] 51)).drew.cell? ⟨w.heap.size, 3, none⟩ = some (.int .u64 y3) ∧ (W.alloc (.cells #[.int .i64 (IntKind.i64.wrap 1), .int .i64 ep, .int .i64 y0, .bool y1, .int .u64 y2, .int .u64 y3, .int .i64 y4, .bool y5, .int .u64 y6, .int .u64 y7, .string y8, .int .i64 y9, .int .i64 y10] 51)).drew.cell? ⟨w.heap.size, 4, none⟩ = some (.int .i64 y4) ∧ (W.alloc (.cells #[.int .i64 (IntKind.i64.wrap 1), .int .i64 ep, .int .i64 y0, .bool y1, .int .u64 y2, .int .u64 y3, .int .i64 y4, .bool y5, .int .u64 y6, .int .u64 y7, .string y8, .int .i64 y9, .int .i64 y10] 51)).drew.cell? ⟨w.heap.size, 5, none⟩ = some (.bool y5) ∧ (W.alloc (.cells #[.int .i64 (IntKind.i64.wrap 1), .int .i64 ep, .int .i64 y0, .bool y1, .int .u64 y2, .int .u64 y3, .int .i64 y4, .bool y5, .int .u64 y6, .int .u64 y7, .string y8, .int .i64 y9, .int .i64 y10] 51)).drew.cell? ⟨w.heap.size, 6, none⟩ = some (.int .u64 y6) ∧ (W.alloc (.cells #[.int .i64 (IntKind.i64.wrap 1), .int .i64 ep, .int .i64 y0, .bool y1, .int .u64 y2, .int .u64 y3, .int .i64 y4, .bool y5, .int .u64 y6, .int .u64 y7, .string y8, .int .i64 y9, .int .i64 y10] 51)).drew.cell? ⟨w.heap.size, 7, none⟩ = some (.int .u64 y7) ∧ (W.alloc (.cells #[.int .i64 (IntKind.i64.wrap 1), .int .i64 ep, .int .i64 y0, .bool y1, .int .u64 y2, .int .u64 y3, .int .i64 y4, .bool y5, .int .u64 y6, .int .u64 y7, .string y8, .int .i64 y9, .int .i64 y10] 51)).drew.cell? ⟨w.heap.size, 8, none⟩ = some (.string y8) ∧ (W.alloc (.cells #[.int .i64 (IntKind.i64.wrap 1), .int .i64 ep, .int .i64 y0, .bool y1, .int .u64 y2, .int .u64 y3, .int .i64 y4, .bool y5, .int .u64 y6, .int .u64 y7, .string y8, .int .i64 y9, .int .i64 y10] 51)).drew.cell? ⟨w.heap.size, 9, none⟩ = some (.int .i64 y9) ∧ (W.alloc (.cells #[.int .i64 (IntKind.i64.wrap 1), .int .i64 ep, .int .i64 y0, .bool y1, .int .u64 y2, .int .u64 y3, .int .i64 y4, .bool y5, .int .u64 y6, .int .u64 y7, .string y8, .int .i64 y9, .int .i64 y10] 51)).drew.cell? ⟨w.heap.size, 10, none⟩ = some (.int .i64 y10) ∧ w.heap.size < (W.alloc (.cells #[.int .i64 (IntKind.i64.wrap 1), .int .i64 ep, .int .i64 y0, .bool y1, .int .u64 y2, .int .u64 y3, .int .i64 y4, .bool y5, .int .u64 y6, .int .u64 y7, .string y8, .int .i64 y9, .int .i64 y10] 51)).drew.heap.size) ∧ Below w.heap.size w (W.alloc (.cells #[.int .i64 (IntKind.i64.wrap 1), .int .i64 ep, .int .i64 y0, .bool y1, .int .u64 y2, .int .u64 y3, .int .i64 y4, .bool y5, .int .u64 y6, .int .u64 y7, .string y8, .int .i64 y9, .int .i64 y10] 51)).drew) := keepP11 TW.out KD.out
      have KAD : Hid (Below W.heap.size W ((W.alloc (.cells #[.int .i64 (IntKind.i64.wrap 1), .int .i64 ep, .int .i64 y0, .bool y1, .int .u64 y2, .int .u64 y3, .int .i64 y4, .bool y5, .int .u64 y6, .int .u64 y7, .string y8, .int .i64 y9, .int .i64 y10] 51)).alloc (.cells #[] 51)).drew) := (bal (bal (Below.refl _ _) _) _).drew
      have TAD : Hid ((((W.alloc (.cells #[.int .i64 (IntKind.i64.wrap 1), .int .i64 ep, .int .i64 y0, .bool y1, .int .u64 y2, .int .u64 y3, .int .i64 y4, .bool y5, .int .u64 y6, .int .u64 y7, .string y8, .int .i64 y9, .int .i64 y10] 51)).alloc (.cells #[] 51)).drew.cell? ⟨w.heap.size, 0, none⟩ = some (.int .i64 y0) ∧ ((W.alloc (.cells #[.int .i64 (IntKind.i64.wrap 1), .int .i64 ep, .int .i64 y0, .bool y1, .int .u64 y2, .int .u64 y3, .int .i64 y4, .bool y5, .int .u64 y6, .int .u64 y7, .string y8, .int .i64 y9, .int .i64 y10] 51)).alloc (.cells #[] 51)).drew.cell? ⟨w.heap.size, 1, none⟩ = some (.bool y1) ∧ ((W.alloc (.cells #[.int .i64 (IntKind.i64.wrap 1), .int .i64 ep, .int .i64 y0, .bool y1, .int .u64 y2, .int .u64 y3, .int .i64 y4, .bool y5, .int .u64 y6, .int .u64 y7, .string y8, .int .i64 y9, .int .i64 y10] 51)).alloc (.cells #[] 51)).drew.cell? ⟨w.heap.size, 2, none⟩ = some (.int .u64 y2) ∧ ((W.alloc (.cells #[.int .i64 (IntKind.i64.wrap 1), .int .i64 ep, .int .i64 y0, .bool y1, .int .u64 y2, .int .u64 y3, .int .i64 y4, .bool y5, .int .u64 y6, .int .u64 y7, .string y8, .int .i64 y9, .int .i64 y10] 51)).alloc (.cells #[] 51)).drew.cell? ⟨w.heap.size, 3, none⟩ = some (.int .u64 y3) ∧ ((W.alloc (.cells #[.int .i64 (IntKind.i64.wrap 1), .int .i64 ep, .int .i64 y0, .bool y1, .int .u64 y2, .int .u64 y3, .int .i64 y4, .bool y5, .int .u64 y6, .int .u64 y7, .string y8, .int .i64 y9, .int .i64 y10] 51)).alloc (.cells #[] 51)).drew.cell? ⟨w.heap.size, 4, none⟩ = some (.int .i64 y4) ∧ ((W.alloc (.cells #[.int .i64 (IntKind.i64.wrap 1), .int .i64 ep, .int .i64 y0, .bool y1, .int .u64 y2, .int .u64 y3, .int .i64 y4, .bool y5, .int .u64 y6, .int .u64 y7, .string y8, .int .i64 y9, .int .i64 y10] 51)).alloc (.cells #[] 51)).drew.cell? ⟨w.heap.size, 5, none⟩ = some (.bool y5) ∧ ((W.alloc (.cells #[.int .i64 (IntKind.i64.wrap 1), .int .i64 ep, .int .i64 y0, .bool y1, .int .u64 y2, .int .u64 y3, .int .i64 y4, .bool y5, .int .u64 y6, .int .u64 y7, .string y8, .int .i64 y9, .int .i64 y10] 51)).alloc (.cells #[] 51)).drew.cell? ⟨w.heap.size, 6, none⟩ = some (.int .u64 y6) ∧ ((W.alloc (.cells #[.int .i64 (IntKind.i64.wrap 1), .int .i64 ep, .int .i64 y0, .bool y1, .int .u64 y2, .int .u64 y3, .int .i64 y4, .bool y5, .int .u64 y6, .int .u64 y7, .string y8, .int .i64 y9, .int .i64 y10] 51)).alloc (.cells #[] 51)).drew.cell? ⟨w.heap.size, 7, none⟩ = some (.int .u64 y7) ∧ ((W.alloc (.cells #[.int .i64 (IntKind.i64.wrap 1), .int .i64 ep, .int .i64 y0, .bool y1, .int .u64 y2, .int .u64 y3, .int .i64 y4, .bool y5, .int .u64 y6, .int .u64 y7, .string y8, .int .i64 y9, .int .i64 y10] 51)).alloc (.cells #[] 51)).drew.cell? ⟨w.heap.size, 8, none⟩ = some (.string y8) ∧ ((W.alloc (.cells #[.int .i64 (IntKind.i64.wrap 1), .int .i64 ep, .int .i64 y0, .bool y1, .int .u64 y2, .int .u64 y3, .int .i64 y4, .bool y5, .int .u64 y6, .int .u64 y7, .string y8, .int .i64 y9, .int .i64 y10] 51)).alloc (.cells #[] 51)).drew.cell? ⟨w.heap.size, 9, none⟩ = some (.int .i64 y9) ∧ ((W.alloc (.cells #[.int .i64 (IntKind.i64.wrap 1), .int .i64 ep, .int .i64 y0, .bool y1, .int .u64 y2, .int .u64 y3, .int .i64 y4, .bool y5, .int .u64 y6, .int .u64 y7, .string y8, .int .i64 y9, .int .i64 y10] 51)).alloc (.cells #[] 51)).drew.cell? ⟨w.heap.size, 10, none⟩ = some (.int .i64 y10) ∧ w.heap.size < ((W.alloc (.cells #[.int .i64 (IntKind.i64.wrap 1), .int .i64 ep, .int .i64 y0, .bool y1, .int .u64 y2, .int .u64 y3, .int .i64 y4, .bool y5, .int .u64 y6, .int .u64 y7, .string y8, .int .i64 y9, .int .i64 y10] 51)).alloc (.cells #[] 51)).drew.heap.size) ∧ Below w.heap.size w ((W.alloc (.cells #[.int .i64 (IntKind.i64.wrap 1), .int .i64 ep, .int .i64 y0, .bool y1, .int .u64 y2, .int .u64 y3, .int .i64 y4, .bool y5, .int .u64 y6, .int .u64 y7, .string y8, .int .i64 y9, .int .i64 y10] 51)).alloc (.cells #[] 51)).drew) := keepP11 TW.out KAD.out
      have OA : Hid (World.ownsRow (W.alloc (.cells #[] 51)).drew W.heap.size 51 13 (.slice (some ⟨W.heap.size, 0, none⟩) 0 0) 0 []) := rowE_empty W
      have ODA : Hid (World.ownsRow ((W.alloc (.cells #[] 51)).alloc (.cells #[.int .i64 (IntKind.i64.wrap 1), .int .i64 ep, .int .i64 y0, .bool y1, .int .u64 y2, .int .u64 y3, .int .i64 y4, .bool y5, .int .u64 y6, .int .u64 y7, .string y8, .int .i64 y9, .int .i64 y10] 51)).drew W.heap.size 51 13 (.slice (some ⟨W.heap.size, 0, none⟩) 0 0) 0 []) := own_keep (rowE_empty W) (bal (Below.refl _ _) _).drew
      have OAD : Hid (World.ownsRow ((W.alloc (.cells #[.int .i64 (IntKind.i64.wrap 1), .int .i64 ep, .int .i64 y0, .bool y1, .int .u64 y2, .int .u64 y3, .int .i64 y4, .bool y5, .int .u64 y6, .int .u64 y7, .string y8, .int .i64 y9, .int .i64 y10] 51)).alloc (.cells #[] 51)).drew W.heap.size 51 13 (.slice (some ⟨W.heap.size + 1, 0, none⟩) 0 0) 0 []) := by
        have := row_base (rowE_empty (W.alloc (.cells #[.int .i64 (IntKind.i64.wrap 1), .int .i64 ep, .int .i64 y0, .bool y1, .int .u64 y2, .int .u64 y3, .int .i64 y4, .bool y5, .int .u64 y6, .int .u64 y7, .string y8, .int .i64 y9, .int .i64 y10] 51))) (show W.heap.size ≤ (W.alloc (.cells #[.int .i64 (IntKind.i64.wrap 1), .int .i64 ep, .int .i64 y0, .bool y1, .int .u64 y2, .int .u64 y3, .int .i64 y4, .bool y5, .int .u64 y6, .int .u64 y7, .string y8, .int .i64 y9, .int .i64 y10] 51)).heap.size by simp)
        rw [show (W.alloc (.cells #[.int .i64 (IntKind.i64.wrap 1), .int .i64 ep, .int .i64 y0, .bool y1, .int .u64 y2, .int .u64 y3, .int .i64 y4, .bool y5, .int .u64 y6, .int .u64 y7, .string y8, .int .i64 y9, .int .i64 y10] 51)).heap.size = W.heap.size + 1 by simp] at this
        exact this
      have BDA : Hid (((W.alloc (.cells #[] 51)).alloc (.cells #[.int .i64 (IntKind.i64.wrap 1), .int .i64 ep, .int .i64 y0, .bool y1, .int .u64 y2, .int .u64 y3, .int .i64 y4, .bool y5, .int .u64 y6, .int .u64 y7, .string y8, .int .i64 y9, .int .i64 y10] 51)).drew.heap[W.heap.size + 1]? = some (.cells [.int .i64 (IntKind.i64.wrap 1), .int .i64 ep, .int .i64 y0, .bool y1, .int .u64 y2, .int .u64 y3, .int .i64 y4, .bool y5, .int .u64 y6, .int .u64 y7, .string y8, .int .i64 y9, .int .i64 y10].toArray 51 (0, 0))) := by
        have := heap_alloc_new (W.alloc (.cells #[] 51)) (.cells #[.int .i64 (IntKind.i64.wrap 1), .int .i64 ep, .int .i64 y0, .bool y1, .int .u64 y2, .int .u64 y3, .int .i64 y4, .bool y5, .int .u64 y6, .int .u64 y7, .string y8, .int .i64 y9, .int .i64 y10] 51)
        rw [show (W.alloc (.cells #[] 51)).heap.size = W.heap.size + 1 by simp] at this
        exact this
      have BAD : Hid (((W.alloc (.cells #[.int .i64 (IntKind.i64.wrap 1), .int .i64 ep, .int .i64 y0, .bool y1, .int .u64 y2, .int .u64 y3, .int .i64 y4, .bool y5, .int .u64 y6, .int .u64 y7, .string y8, .int .i64 y9, .int .i64 y10] 51)).alloc (.cells #[] 51)).drew.heap[W.heap.size]? = some (.cells [.int .i64 (IntKind.i64.wrap 1), .int .i64 ep, .int .i64 y0, .bool y1, .int .u64 y2, .int .u64 y3, .int .i64 y4, .bool y5, .int .u64 y6, .int .u64 y7, .string y8, .int .i64 y9, .int .i64 y10].toArray 51 (0, 0))) := ((bal (Below.refl (W.alloc (.cells #[.int .i64 (IntKind.i64.wrap 1), .int .i64 ep, .int .i64 y0, .bool y1, .int .u64 y2, .int .u64 y3, .int .i64 y4, .bool y5, .int .u64 y6, .int .u64 y7, .string y8, .int .i64 y9, .int .i64 y10] 51)).heap.size (W.alloc (.cells #[.int .i64 (IntKind.i64.wrap 1), .int .i64 ep, .int .i64 y0, .bool y1, .int .u64 y2, .int .u64 y3, .int .i64 y4, .bool y5, .int .u64 y6, .int .u64 y7, .string y8, .int .i64 y9, .int .i64 y10] 51))) (.cells #[] 51)).block W.heap.size (by simp)).trans (heap_alloc_new W (.cells #[.int .i64 (IntKind.i64.wrap 1), .int .i64 ep, .int .i64 y0, .bool y1, .int .u64 y2, .int .u64 y3, .int .i64 y4, .bool y5, .int .u64 y6, .int .u64 y7, .string y8, .int .i64 y9, .int .i64 y10] 51))
      clear hC HB HO HO2 HB2
      go_region_held3 (fun w' => (w'.cell? ⟨w.heap.size, 0, none⟩ = some (.int .i64 y0) ∧ w'.cell? ⟨w.heap.size, 1, none⟩ = some (.bool y1) ∧ w'.cell? ⟨w.heap.size, 2, none⟩ = some (.int .u64 y2) ∧ w'.cell? ⟨w.heap.size, 3, none⟩ = some (.int .u64 y3) ∧ w'.cell? ⟨w.heap.size, 4, none⟩ = some (.int .i64 y4) ∧ w'.cell? ⟨w.heap.size, 5, none⟩ = some (.bool y5) ∧ w'.cell? ⟨w.heap.size, 6, none⟩ = some (.int .u64 y6) ∧ w'.cell? ⟨w.heap.size, 7, none⟩ = some (.int .u64 y7) ∧ w'.cell? ⟨w.heap.size, 8, none⟩ = some (.string y8) ∧ w'.cell? ⟨w.heap.size, 9, none⟩ = some (.int .i64 y9) ∧ w'.cell? ⟨w.heap.size, 10, none⟩ = some (.int .i64 y10) ∧ w.heap.size < w'.heap.size) ∧ Below w.heap.size w w')
        (first | with_reducible exact T0.out | with_reducible exact TA.out | with_reducible exact TDA.out | with_reducible exact TD.out | with_reducible exact TAD.out | with_reducible exact T4.out | with_reducible exact T4d.out | with_reducible exact T5.out | fail)
        (first
          | (refine at_wld (W.alloc (.cells #[] 51)).drew (by with_reducible rfl) ?_; refine step_append_none (by rfl) _ _ 24 (by rfl) W.heap.size 51 i0 13 Try.underlying24 hi0 _ _ _ (by rfl) OA.out (by rfl) ?_)
          | (refine at_wld ((W.alloc (.cells #[] 51)).alloc (.cells #[.int .i64 (IntKind.i64.wrap 1), .int .i64 ep, .int .i64 y0, .bool y1, .int .u64 y2, .int .u64 y3, .int .i64 y4, .bool y5, .int .u64 y6, .int .u64 y7, .string y8, .int .i64 y9, .int .i64 y10] 51)).drew (by with_reducible rfl) ?_; refine step_append_none (by rfl) _ _ 24 (by rfl) W.heap.size 51 i0 13 Try.underlying24 hi0 _ _ _ (by rfl) ODA.out (by rfl) ?_)
          | (refine at_wld ((W.alloc (.cells #[.int .i64 (IntKind.i64.wrap 1), .int .i64 ep, .int .i64 y0, .bool y1, .int .u64 y2, .int .u64 y3, .int .i64 y4, .bool y5, .int .u64 y6, .int .u64 y7, .string y8, .int .i64 y9, .int .i64 y10] 51)).alloc (.cells #[] 51)).drew (by with_reducible rfl) ?_; refine step_append_none (by rfl) _ _ 24 (by rfl) W.heap.size 51 i0 13 Try.underlying24 hi0 _ _ _ (by rfl) OAD.out (by rfl) ?_)
          | (refine at_wld ((W.alloc (.cells #[] 51)).alloc (.cells #[.int .i64 (IntKind.i64.wrap 1), .int .i64 ep, .int .i64 y0, .bool y1, .int .u64 y2, .int .u64 y3, .int .i64 y4, .bool y5, .int .u64 y6, .int .u64 y7, .string y8, .int .i64 y9, .int .i64 y10] 51)).drew (by with_reducible rfl) ?_; refine step_append_own (by rfl) _ _ 24 (by rfl) W.heap.size 51 i0 _ 13 112 Try.underlying24 hi0 hz0 hz1 hz2 rfl (by decide) _ _ _ (by rfl) ODA.out _ _ _ [.int .i64 (IntKind.i64.wrap 1), .int .i64 ep, .int .i64 y0, .bool y1, .int .u64 y2, .int .u64 y3, .int .i64 y4, .bool y5, .int .u64 y6, .int .u64 y7, .string y8, .int .i64 y9, .int .i64 y10] (by rfl) (by rfl) (news1 BDA.out) HE1.out (by unfold maxLen; omega) (by omega) KDA.out.size ?_; intro v5 w5 hown hgrow hnil; clear hnil; have K5 : Hid (Below W.heap.size W w5) := KDA.out.grown hgrow KDA.out.size (fun k hk => (ODA.out.lt k hk).1); have O5 := Lib.hid hown; have T5 := Lib.hid (keepP11 TW.out K5.out))
          | (refine at_wld ((W.alloc (.cells #[.int .i64 (IntKind.i64.wrap 1), .int .i64 ep, .int .i64 y0, .bool y1, .int .u64 y2, .int .u64 y3, .int .i64 y4, .bool y5, .int .u64 y6, .int .u64 y7, .string y8, .int .i64 y9, .int .i64 y10] 51)).alloc (.cells #[] 51)).drew (by with_reducible rfl) ?_; refine step_append_own (by rfl) _ _ 24 (by rfl) W.heap.size 51 i0 _ 13 112 Try.underlying24 hi0 hz0 hz1 hz2 rfl (by decide) _ _ _ (by rfl) OAD.out _ _ _ [.int .i64 (IntKind.i64.wrap 1), .int .i64 ep, .int .i64 y0, .bool y1, .int .u64 y2, .int .u64 y3, .int .i64 y4, .bool y5, .int .u64 y6, .int .u64 y7, .string y8, .int .i64 y9, .int .i64 y10] (by rfl) (by rfl) (news1 BAD.out) HE1.out (by unfold maxLen; omega) (by omega) KAD.out.size ?_; intro v5 w5 hown hgrow hnil; clear hnil; have K5 : Hid (Below W.heap.size W w5) := KAD.out.grown hgrow KAD.out.size (fun k hk => (OAD.out.lt k hk).1); have O5 := Lib.hid hown; have T5 := Lib.hid (keepP11 TW.out K5.out))
      )
      all_goals
        have HO6 := Lib.hid (row_base O5.out TW.out.2.size)
        have HB6 := Lib.hid T5.out.2
        go_wp2_with fail
        go_ret2
        exact ⟨_, rfl, HO6.out, HB6.out⟩
    | some ad =>
      have HNx : Hid (∀ W, Below w.heap.size w W → ∀ j u, row[j]? = some u → W.cell? (ad.add j) = some u) := HNews.out ad rfl
      clear HNil HNews
      go_enter Try.func19, Try.ntmps19
      go_wp2_with (first | (go_at_call 17; refine (between_any _ _ _ _).mono ?_; rintro e w3 ⟨rfl, hw3⟩; have hw3 := hw3.symm; subst hw3; rw [hbt]) | (go_at_call 26; refine (hC.out _).mono ?_; rintro e w2 ⟨rfl, hb2⟩; have HB2 := Lib.hid (btr HB.out hb2); have HO2 := Lib.hid (HO.out.below hb2); clear hb2))
      obtain ⟨W, hW⟩ : ∃ W, W = w2 := ⟨_, rfl⟩
      subst hW
      have TW : Hid ((W.cell? ⟨w.heap.size, 0, none⟩ = some (.int .i64 y0) ∧ W.cell? ⟨w.heap.size, 1, none⟩ = some (.bool y1) ∧ W.cell? ⟨w.heap.size, 2, none⟩ = some (.int .u64 y2) ∧ W.cell? ⟨w.heap.size, 3, none⟩ = some (.int .u64 y3) ∧ W.cell? ⟨w.heap.size, 4, none⟩ = some (.int .i64 y4) ∧ W.cell? ⟨w.heap.size, 5, none⟩ = some (.bool y5) ∧ W.cell? ⟨w.heap.size, 6, none⟩ = some (.int .u64 y6) ∧ W.cell? ⟨w.heap.size, 7, none⟩ = some (.int .u64 y7) ∧ W.cell? ⟨w.heap.size, 8, none⟩ = some (.string y8) ∧ W.cell? ⟨w.heap.size, 9, none⟩ = some (.int .i64 y9) ∧ W.cell? ⟨w.heap.size, 10, none⟩ = some (.int .i64 y10) ∧ w.heap.size < W.heap.size) ∧ Below w.heap.size w W) := ⟨⟨HO2.out.1 0 _ rfl, HO2.out.1 1 _ rfl, HO2.out.1 2 _ rfl, HO2.out.1 3 _ rfl, HO2.out.1 4 _ rfl, HO2.out.1 5 _ rfl, HO2.out.1 6 _ rfl, HO2.out.1 7 _ rfl, HO2.out.1 8 _ rfl, HO2.out.1 9 _ rfl, HO2.out.1 10 _ rfl, HO2.out.2⟩, HB2.out⟩
      have T0 : Hid ((W.drew.cell? ⟨w.heap.size, 0, none⟩ = some (.int .i64 y0) ∧ W.drew.cell? ⟨w.heap.size, 1, none⟩ = some (.bool y1) ∧ W.drew.cell? ⟨w.heap.size, 2, none⟩ = some (.int .u64 y2) ∧ W.drew.cell? ⟨w.heap.size, 3, none⟩ = some (.int .u64 y3) ∧ W.drew.cell? ⟨w.heap.size, 4, none⟩ = some (.int .i64 y4) ∧ W.drew.cell? ⟨w.heap.size, 5, none⟩ = some (.bool y5) ∧ W.drew.cell? ⟨w.heap.size, 6, none⟩ = some (.int .u64 y6) ∧ W.drew.cell? ⟨w.heap.size, 7, none⟩ = some (.int .u64 y7) ∧ W.drew.cell? ⟨w.heap.size, 8, none⟩ = some (.string y8) ∧ W.drew.cell? ⟨w.heap.size, 9, none⟩ = some (.int .i64 y9) ∧ W.drew.cell? ⟨w.heap.size, 10, none⟩ = some (.int .i64 y10) ∧ w.heap.size < W.drew.heap.size) ∧ Below w.heap.size w W.drew) := ⟨TW.out.1, TW.out.2.drew⟩
      have KA : Hid (Below W.heap.size W (W.alloc (.cells #[] 51)).drew) := (bal (Below.refl _ _) _).drew
      have TA : Hid (((W.alloc (.cells #[] 51)).drew.cell? ⟨w.heap.size, 0, none⟩ = some (.int .i64 y0) ∧ (W.alloc (.cells #[] 51)).drew.cell? ⟨w.heap.size, 1, none⟩ = some (.bool y1) ∧ (W.alloc (.cells #[] 51)).drew.cell? ⟨w.heap.size, 2, none⟩ = some (.int .u64 y2) ∧ (W.alloc (.cells #[] 51)).drew.cell? ⟨w.heap.size, 3, none⟩ = some (.int .u64 y3) ∧ (W.alloc (.cells #[] 51)).drew.cell? ⟨w.heap.size, 4, none⟩ = some (.int .i64 y4) ∧ (W.alloc (.cells #[] 51)).drew.cell? ⟨w.heap.size, 5, none⟩ = some (.bool y5) ∧ (W.alloc (.cells #[] 51)).drew.cell? ⟨w.heap.size, 6, none⟩ = some (.int .u64 y6) ∧ (W.alloc (.cells #[] 51)).drew.cell? ⟨w.heap.size, 7, none⟩ = some (.int .u64 y7) ∧ (W.alloc (.cells #[] 51)).drew.cell? ⟨w.heap.size, 8, none⟩ = some (.string y8) ∧ (W.alloc (.cells #[] 51)).drew.cell? ⟨w.heap.size, 9, none⟩ = some (.int .i64 y9) ∧ (W.alloc (.cells #[] 51)).drew.cell? ⟨w.heap.size, 10, none⟩ = some (.int .i64 y10) ∧ w.heap.size < (W.alloc (.cells #[] 51)).drew.heap.size) ∧ Below w.heap.size w (W.alloc (.cells #[] 51)).drew) := keepP11 TW.out KA.out
      have KDA : Hid (Below W.heap.size W ((W.alloc (.cells #[] 51)).alloc (.cells #[.int .i64 (IntKind.i64.wrap 1), .int .i64 ep, .int .i64 y0, .bool y1, .int .u64 y2, .int .u64 y3, .int .i64 y4, .bool y5, .int .u64 y6, .int .u64 y7, .string y8, .int .i64 y9, .int .i64 y10] 51)).drew) := (bal (bal (Below.refl _ _) _) _).drew
      have TDA : Hid ((((W.alloc (.cells #[] 51)).alloc (.cells #[.int .i64 (IntKind.i64.wrap 1), .int .i64 ep, .int .i64 y0, .bool y1, .int .u64 y2, .int .u64 y3, .int .i64 y4, .bool y5, .int .u64 y6, .int .u64 y7, .string y8, .int .i64 y9, .int .i64 y10] 51)).drew.cell? ⟨w.heap.size, 0, none⟩ = some (.int .i64 y0) ∧ ((W.alloc (.cells #[] 51)).alloc (.cells #[.int .i64 (IntKind.i64.wrap 1), .int .i64 ep, .int .i64 y0, .bool y1, .int .u64 y2, .int .u64 y3, .int .i64 y4, .bool y5, .int .u64 y6, .int .u64 y7, .string y8, .int .i64 y9, .int .i64 y10] 51)).drew.cell? ⟨w.heap.size, 1, none⟩ = some (.bool y1) ∧ ((W.alloc (.cells #[] 51)).alloc (.cells #[.int .i64 (IntKind.i64.wrap 1), .int .i64 ep, .int .i64 y0, .bool y1, .int .u64 y2, .int .u64 y3, .int .i64 y4, .bool y5, .int .u64 y6, .int .u64 y7, .string y8, .int .i64 y9, .int .i64 y10] 51)).drew.cell? ⟨w.heap.size, 2, none⟩ = some (.int .u64 y2) ∧ ((W.alloc (.cells #[] 51)).alloc (.cells #[.int .i64 (IntKind.i64.wrap 1), .int .i64 ep, .int .i64 y0, .bool y1, .int .u64 y2, .int .u64 y3, .int .i64 y4, .bool y5, .int .u64 y6, .int .u64 y7, .string y8, .int .i64 y9, .int .i64 y10] 51)).drew.cell? ⟨w.heap.size, 3, none⟩ = some (.int .u64 y3) ∧ ((W.alloc (.cells #[] 51)).alloc (.cells #[.int .i64 (IntKind.i64.wrap 1), .int .i64 ep, .int .i64 y0, .bool y1, .int .u64 y2, .int .u64 y3, .int .i64 y4, .bool y5, .int .u64 y6, .int .u64 y7, .string y8, .int .i64 y9, .int .i64 y10] 51)).drew.cell? ⟨w.heap.size, 4, none⟩ = some (.int .i64 y4) ∧ ((W.alloc (.cells #[] 51)).alloc (.cells #[.int .i64 (IntKind.i64.wrap 1), .int .i64 ep, .int .i64 y0, .bool y1, .int .u64 y2, .int .u64 y3, .int .i64 y4, .bool y5, .int .u64 y6, .int .u64 y7, .string y8, .int .i64 y9, .int .i64 y10] 51)).drew.cell? ⟨w.heap.size, 5, none⟩ = some (.bool y5) ∧ ((W.alloc (.cells #[] 51)).alloc (.cells #[.int .i64 (IntKind.i64.wrap 1), .int .i64 ep, .int .i64 y0, .bool y1, .int .u64 y2, .int .u64 y3, .int .i64 y4, .bool y5, .int .u64 y6, .int .u64 y7, .string y8, .int .i64 y9, .int .i64 y10] 51)).drew.cell? ⟨w.heap.size, 6, none⟩ = some (.int .u64 y6) ∧ ((W.alloc (.cells #[] 51)).alloc (.cells #[.int .i64 (IntKind.i64.wrap 1), .int .i64 ep, .int .i64 y0, .bool y1, .int .u64 y2, .int .u64 y3, .int .i64 y4, .bool y5, .int .u64 y6, .int .u64 y7, .string y8, .int .i64 y9, .int .i64 y10] 51)).drew.cell? ⟨w.heap.size, 7, none⟩ = some (.int .u64 y7) ∧ ((W.alloc (.cells #[] 51)).alloc (.cells #[.int .i64 (IntKind.i64.wrap 1), .int .i64 ep, .int .i64 y0, .bool y1, .int .u64 y2, .int .u64 y3, .int .i64 y4, .bool y5, .int .u64 y6, .int .u64 y7, .string y8, .int .i64 y9, .int .i64 y10] 51)).drew.cell? ⟨w.heap.size, 8, none⟩ = some (.string y8) ∧ ((W.alloc (.cells #[] 51)).alloc (.cells #[.int .i64 (IntKind.i64.wrap 1), .int .i64 ep, .int .i64 y0, .bool y1, .int .u64 y2, .int .u64 y3, .int .i64 y4, .bool y5, .int .u64 y6, .int .u64 y7, .string y8, .int .i64 y9, .int .i64 y10] 51)).drew.cell? ⟨w.heap.size, 9, none⟩ = some (.int .i64 y9) ∧ ((W.alloc (.cells #[] 51)).alloc (.cells #[.int .i64 (IntKind.i64.wrap 1), .int .i64 ep, .int .i64 y0, .bool y1, .int .u64 y2, .int .u64 y3, .int .i64 y4, .bool y5, .int .u64 y6, .int .u64 y7, .string y8, .int .i64 y9, .int .i64 y10] 51)).drew.cell? ⟨w.heap.size, 10, none⟩ = some (.int .i64 y10) ∧ w.heap.size < ((W.alloc (.cells #[] 51)).alloc (.cells #[.int .i64 (IntKind.i64.wrap 1), .int .i64 ep, .int .i64 y0, .bool y1, .int .u64 y2, .int .u64 y3, .int .i64 y4, .bool y5, .int .u64 y6, .int .u64 y7, .string y8, .int .i64 y9, .int .i64 y10] 51)).drew.heap.size) ∧ Below w.heap.size w ((W.alloc (.cells #[] 51)).alloc (.cells #[.int .i64 (IntKind.i64.wrap 1), .int .i64 ep, .int .i64 y0, .bool y1, .int .u64 y2, .int .u64 y3, .int .i64 y4, .bool y5, .int .u64 y6, .int .u64 y7, .string y8, .int .i64 y9, .int .i64 y10] 51)).drew) := keepP11 TW.out KDA.out
      have KD : Hid (Below W.heap.size W (W.alloc (.cells #[.int .i64 (IntKind.i64.wrap 1), .int .i64 ep, .int .i64 y0, .bool y1, .int .u64 y2, .int .u64 y3, .int .i64 y4, .bool y5, .int .u64 y6, .int .u64 y7, .string y8, .int .i64 y9, .int .i64 y10] 51)).drew) := (bal (Below.refl _ _) _).drew
      have TD : Hid (((W.alloc (.cells #[.int .i64 (IntKind.i64.wrap 1), .int .i64 ep, .int .i64 y0, .bool y1, .int .u64 y2, .int .u64 y3, .int .i64 y4, .bool y5, .int .u64 y6, .int .u64 y7, .string y8, .int .i64 y9, .int .i64 y10] 51)).drew.cell? ⟨w.heap.size, 0, none⟩ = some (.int .i64 y0) ∧ (W.alloc (.cells #[.int .i64 (IntKind.i64.wrap 1), .int .i64 ep, .int .i64 y0, .bool y1, .int .u64 y2, .int .u64 y3, .int .i64 y4, .bool y5, .int .u64 y6, .int .u64 y7, .string y8, .int .i64 y9, .int .i64 y10] 51)).drew.cell? ⟨w.heap.size, 1, none⟩ = some (.bool y1) ∧ (W.alloc (.cells #[.int .i64 (IntKind.i64.wrap 1), .int .i64 ep, .int .i64 y0, .bool y1, .int .u64 y2, .int .u64 y3, .int .i64 y4, .bool y5, .int .u64 y6, .int .u64 y7, .string y8, .int .i64 y9, .int .i64 y10] 51)).drew.cell? ⟨w.heap.size, 2, none⟩ = some (.int .u64 y2) ∧ (W.alloc (.cells #[.int .i64 (IntKind.i64.wrap 1), .int .i64 ep, .int .i64 y0, .bool y1, .int .u64 y2, .int .u64 y3, .int .i64 y4, .bool y5, .int .u64 y6, .int .u64 y7, .string y8, .int .i64 y9, .int .i64 y10] 51)).drew.cell? ⟨w.heap.size, 3, none⟩ = some (.int .u64 y3) ∧ (W.alloc (.cells #[.int .i64 (IntKind.i64.wrap 1), .int .i64 ep, .int .i64 y0, .bool y1, .int .u64 y2, .int .u64 y3, .int .i64 y4, .bool y5, .int .u64 y6, .int .u64 y7, .string y8, .int .i64 y9, .int .i64 y10] 51)).drew.cell? ⟨w.heap.size, 4, none⟩ = some (.int .i64 y4) ∧ (W.alloc (.cells #[.int .i64 (IntKind.i64.wrap 1), .int .i64 ep, .int .i64 y0, .bool y1, .int .u64 y2, .int .u64 y3, .int .i64 y4, .bool y5, .int .u64 y6, .int .u64 y7, .string y8, .int .i64 y9, .int .i64 y10] 51)).drew.cell? ⟨w.heap.size, 5, none⟩ = some (.bool y5) ∧ (W.alloc (.cells #[.int .i64 (IntKind.i64.wrap 1), .int .i64 ep, .int .i64 y0, .bool y1, .int .u64 y2, .int .u64 y3, .int .i64 y4, .bool y5, .int .u64 y6, .int .u64 y7, .string y8, .int .i64 y9, .int .i64 y10] 51)).drew.cell? ⟨w.heap.size, 6, none⟩ = some (.int .u64 y6) ∧ (W.alloc (.cells #[.int .i64 (IntKind.i64.wrap 1), .int .i64 ep, .int .i64 y0, .bool y1, .int .u64 y2, .int .u64 y3, .int .i64 y4, .bool y5, .int .u64 y6, .int .u64 y7, .string y8, .int .i64 y9, .int .i64 y10] 51)).drew.cell? ⟨w.heap.size, 7, none⟩ = some (.int .u64 y7) ∧ (W.alloc (.cells #[.int .i64 (IntKind.i64.wrap 1), .int .i64 ep, .int .i64 y0, .bool y1, .int .u64 y2, .int .u64 y3, .int .i64 y4, .bool y5, .int .u64 y6, .int .u64 y7, .string y8, .int .i64 y9, .int .i64 y10] 51)).drew.cell? ⟨w.heap.size, 8, none⟩ = some (.string y8) ∧ (W.alloc (.cells #[.int .i64 (IntKind.i64.wrap 1), .int .i64 ep, .int .i64 y0, .bool y1, .int .u64 y2, .int .u64 y3, .int .i64 y4, .bool y5, .int .u64 y6, .int .u64 y7, .string y8, .int .i64 y9, .int .i64 y10] 51)).drew.cell? ⟨w.heap.size, 9, none⟩ = some (.int .i64 y9) ∧ (W.alloc (.cells #[.int .i64 (IntKind.i64.wrap 1), .int .i64 ep, .int .i64 y0, .bool y1, .int .u64 y2, .int .u64 y3, .int .i64 y4, .bool y5, .int .u64 y6, .int .u64 y7, .string y8, .int .i64 y9, .int .i64 y10] 51)).drew.cell? ⟨w.heap.size, 10, none⟩ = some (.int .i64 y10) ∧ w.heap.size < (W.alloc (.cells #[.int .i64 (IntKind.i64.wrap 1), .int .i64 ep, .int .i64 y0, .bool y1, .int .u64 y2, .int .u64 y3, .int .i64 y4, .bool y5, .int .u64 y6, .int .u64 y7, .string y8, .int .i64 y9, .int .i64 y10] 51)).drew.heap.size) ∧ Below w.heap.size w (W.alloc (.cells #[.int .i64 (IntKind.i64.wrap 1), .int .i64 ep, .int .i64 y0, .bool y1, .int .u64 y2, .int .u64 y3, .int .i64 y4, .bool y5, .int .u64 y6, .int .u64 y7, .string y8, .int .i64 y9, .int .i64 y10] 51)).drew) := keepP11 TW.out KD.out
      have KAD : Hid (Below W.heap.size W ((W.alloc (.cells #[.int .i64 (IntKind.i64.wrap 1), .int .i64 ep, .int .i64 y0, .bool y1, .int .u64 y2, .int .u64 y3, .int .i64 y4, .bool y5, .int .u64 y6, .int .u64 y7, .string y8, .int .i64 y9, .int .i64 y10] 51)).alloc (.cells #[] 51)).drew) := (bal (bal (Below.refl _ _) _) _).drew
      have TAD : Hid ((((W.alloc (.cells #[.int .i64 (IntKind.i64.wrap 1), .int .i64 ep, .int .i64 y0, .bool y1, .int .u64 y2, .int .u64 y3, .int .i64 y4, .bool y5, .int .u64 y6, .int .u64 y7, .string y8, .int .i64 y9, .int .i64 y10] 51)).alloc (.cells #[] 51)).drew.cell? ⟨w.heap.size, 0, none⟩ = some (.int .i64 y0) ∧ ((W.alloc (.cells #[.int .i64 (IntKind.i64.wrap 1), .int .i64 ep, .int .i64 y0, .bool y1, .int .u64 y2, .int .u64 y3, .int .i64 y4, .bool y5, .int .u64 y6, .int .u64 y7, .string y8, .int .i64 y9, .int .i64 y10] 51)).alloc (.cells #[] 51)).drew.cell? ⟨w.heap.size, 1, none⟩ = some (.bool y1) ∧ ((W.alloc (.cells #[.int .i64 (IntKind.i64.wrap 1), .int .i64 ep, .int .i64 y0, .bool y1, .int .u64 y2, .int .u64 y3, .int .i64 y4, .bool y5, .int .u64 y6, .int .u64 y7, .string y8, .int .i64 y9, .int .i64 y10] 51)).alloc (.cells #[] 51)).drew.cell? ⟨w.heap.size, 2, none⟩ = some (.int .u64 y2) ∧ ((W.alloc (.cells #[.int .i64 (IntKind.i64.wrap 1), .int .i64 ep, .int .i64 y0, .bool y1, .int .u64 y2, .int .u64 y3, .int .i64 y4, .bool y5, .int .u64 y6, .int .u64 y7, .string y8, .int .i64 y9, .int .i64 y10] 51)).alloc (.cells #[] 51)).drew.cell? ⟨w.heap.size, 3, none⟩ = some (.int .u64 y3) ∧ ((W.alloc (.cells #[.int .i64 (IntKind.i64.wrap 1), .int .i64 ep, .int .i64 y0, .bool y1, .int .u64 y2, .int .u64 y3, .int .i64 y4, .bool y5, .int .u64 y6, .int .u64 y7, .string y8, .int .i64 y9, .int .i64 y10] 51)).alloc (.cells #[] 51)).drew.cell? ⟨w.heap.size, 4, none⟩ = some (.int .i64 y4) ∧ ((W.alloc (.cells #[.int .i64 (IntKind.i64.wrap 1), .int .i64 ep, .int .i64 y0, .bool y1, .int .u64 y2, .int .u64 y3, .int .i64 y4, .bool y5, .int .u64 y6, .int .u64 y7, .string y8, .int .i64 y9, .int .i64 y10] 51)).alloc (.cells #[] 51)).drew.cell? ⟨w.heap.size, 5, none⟩ = some (.bool y5) ∧ ((W.alloc (.cells #[.int .i64 (IntKind.i64.wrap 1), .int .i64 ep, .int .i64 y0, .bool y1, .int .u64 y2, .int .u64 y3, .int .i64 y4, .bool y5, .int .u64 y6, .int .u64 y7, .string y8, .int .i64 y9, .int .i64 y10] 51)).alloc (.cells #[] 51)).drew.cell? ⟨w.heap.size, 6, none⟩ = some (.int .u64 y6) ∧ ((W.alloc (.cells #[.int .i64 (IntKind.i64.wrap 1), .int .i64 ep, .int .i64 y0, .bool y1, .int .u64 y2, .int .u64 y3, .int .i64 y4, .bool y5, .int .u64 y6, .int .u64 y7, .string y8, .int .i64 y9, .int .i64 y10] 51)).alloc (.cells #[] 51)).drew.cell? ⟨w.heap.size, 7, none⟩ = some (.int .u64 y7) ∧ ((W.alloc (.cells #[.int .i64 (IntKind.i64.wrap 1), .int .i64 ep, .int .i64 y0, .bool y1, .int .u64 y2, .int .u64 y3, .int .i64 y4, .bool y5, .int .u64 y6, .int .u64 y7, .string y8, .int .i64 y9, .int .i64 y10] 51)).alloc (.cells #[] 51)).drew.cell? ⟨w.heap.size, 8, none⟩ = some (.string y8) ∧ ((W.alloc (.cells #[.int .i64 (IntKind.i64.wrap 1), .int .i64 ep, .int .i64 y0, .bool y1, .int .u64 y2, .int .u64 y3, .int .i64 y4, .bool y5, .int .u64 y6, .int .u64 y7, .string y8, .int .i64 y9, .int .i64 y10] 51)).alloc (.cells #[] 51)).drew.cell? ⟨w.heap.size, 9, none⟩ = some (.int .i64 y9) ∧ ((W.alloc (.cells #[.int .i64 (IntKind.i64.wrap 1), .int .i64 ep, .int .i64 y0, .bool y1, .int .u64 y2, .int .u64 y3, .int .i64 y4, .bool y5, .int .u64 y6, .int .u64 y7, .string y8, .int .i64 y9, .int .i64 y10] 51)).alloc (.cells #[] 51)).drew.cell? ⟨w.heap.size, 10, none⟩ = some (.int .i64 y10) ∧ w.heap.size < ((W.alloc (.cells #[.int .i64 (IntKind.i64.wrap 1), .int .i64 ep, .int .i64 y0, .bool y1, .int .u64 y2, .int .u64 y3, .int .i64 y4, .bool y5, .int .u64 y6, .int .u64 y7, .string y8, .int .i64 y9, .int .i64 y10] 51)).alloc (.cells #[] 51)).drew.heap.size) ∧ Below w.heap.size w ((W.alloc (.cells #[.int .i64 (IntKind.i64.wrap 1), .int .i64 ep, .int .i64 y0, .bool y1, .int .u64 y2, .int .u64 y3, .int .i64 y4, .bool y5, .int .u64 y6, .int .u64 y7, .string y8, .int .i64 y9, .int .i64 y10] 51)).alloc (.cells #[] 51)).drew) := keepP11 TW.out KAD.out
      have OA : Hid (World.ownsRow (W.alloc (.cells #[] 51)).drew W.heap.size 51 13 (.slice (some ⟨W.heap.size, 0, none⟩) 0 0) 0 []) := rowE_empty W
      have ODA : Hid (World.ownsRow ((W.alloc (.cells #[] 51)).alloc (.cells #[.int .i64 (IntKind.i64.wrap 1), .int .i64 ep, .int .i64 y0, .bool y1, .int .u64 y2, .int .u64 y3, .int .i64 y4, .bool y5, .int .u64 y6, .int .u64 y7, .string y8, .int .i64 y9, .int .i64 y10] 51)).drew W.heap.size 51 13 (.slice (some ⟨W.heap.size, 0, none⟩) 0 0) 0 []) := own_keep (rowE_empty W) (bal (Below.refl _ _) _).drew
      have OAD : Hid (World.ownsRow ((W.alloc (.cells #[.int .i64 (IntKind.i64.wrap 1), .int .i64 ep, .int .i64 y0, .bool y1, .int .u64 y2, .int .u64 y3, .int .i64 y4, .bool y5, .int .u64 y6, .int .u64 y7, .string y8, .int .i64 y9, .int .i64 y10] 51)).alloc (.cells #[] 51)).drew W.heap.size 51 13 (.slice (some ⟨W.heap.size + 1, 0, none⟩) 0 0) 0 []) := by
        have := row_base (rowE_empty (W.alloc (.cells #[.int .i64 (IntKind.i64.wrap 1), .int .i64 ep, .int .i64 y0, .bool y1, .int .u64 y2, .int .u64 y3, .int .i64 y4, .bool y5, .int .u64 y6, .int .u64 y7, .string y8, .int .i64 y9, .int .i64 y10] 51))) (show W.heap.size ≤ (W.alloc (.cells #[.int .i64 (IntKind.i64.wrap 1), .int .i64 ep, .int .i64 y0, .bool y1, .int .u64 y2, .int .u64 y3, .int .i64 y4, .bool y5, .int .u64 y6, .int .u64 y7, .string y8, .int .i64 y9, .int .i64 y10] 51)).heap.size by simp)
        rw [show (W.alloc (.cells #[.int .i64 (IntKind.i64.wrap 1), .int .i64 ep, .int .i64 y0, .bool y1, .int .u64 y2, .int .u64 y3, .int .i64 y4, .bool y5, .int .u64 y6, .int .u64 y7, .string y8, .int .i64 y9, .int .i64 y10] 51)).heap.size = W.heap.size + 1 by simp] at this
        exact this
      have BDA : Hid (((W.alloc (.cells #[] 51)).alloc (.cells #[.int .i64 (IntKind.i64.wrap 1), .int .i64 ep, .int .i64 y0, .bool y1, .int .u64 y2, .int .u64 y3, .int .i64 y4, .bool y5, .int .u64 y6, .int .u64 y7, .string y8, .int .i64 y9, .int .i64 y10] 51)).drew.heap[W.heap.size + 1]? = some (.cells [.int .i64 (IntKind.i64.wrap 1), .int .i64 ep, .int .i64 y0, .bool y1, .int .u64 y2, .int .u64 y3, .int .i64 y4, .bool y5, .int .u64 y6, .int .u64 y7, .string y8, .int .i64 y9, .int .i64 y10].toArray 51 (0, 0))) := by
        have := heap_alloc_new (W.alloc (.cells #[] 51)) (.cells #[.int .i64 (IntKind.i64.wrap 1), .int .i64 ep, .int .i64 y0, .bool y1, .int .u64 y2, .int .u64 y3, .int .i64 y4, .bool y5, .int .u64 y6, .int .u64 y7, .string y8, .int .i64 y9, .int .i64 y10] 51)
        rw [show (W.alloc (.cells #[] 51)).heap.size = W.heap.size + 1 by simp] at this
        exact this
      have BAD : Hid (((W.alloc (.cells #[.int .i64 (IntKind.i64.wrap 1), .int .i64 ep, .int .i64 y0, .bool y1, .int .u64 y2, .int .u64 y3, .int .i64 y4, .bool y5, .int .u64 y6, .int .u64 y7, .string y8, .int .i64 y9, .int .i64 y10] 51)).alloc (.cells #[] 51)).drew.heap[W.heap.size]? = some (.cells [.int .i64 (IntKind.i64.wrap 1), .int .i64 ep, .int .i64 y0, .bool y1, .int .u64 y2, .int .u64 y3, .int .i64 y4, .bool y5, .int .u64 y6, .int .u64 y7, .string y8, .int .i64 y9, .int .i64 y10].toArray 51 (0, 0))) := ((bal (Below.refl (W.alloc (.cells #[.int .i64 (IntKind.i64.wrap 1), .int .i64 ep, .int .i64 y0, .bool y1, .int .u64 y2, .int .u64 y3, .int .i64 y4, .bool y5, .int .u64 y6, .int .u64 y7, .string y8, .int .i64 y9, .int .i64 y10] 51)).heap.size (W.alloc (.cells #[.int .i64 (IntKind.i64.wrap 1), .int .i64 ep, .int .i64 y0, .bool y1, .int .u64 y2, .int .u64 y3, .int .i64 y4, .bool y5, .int .u64 y6, .int .u64 y7, .string y8, .int .i64 y9, .int .i64 y10] 51))) (.cells #[] 51)).block W.heap.size (by simp)).trans (heap_alloc_new W (.cells #[.int .i64 (IntKind.i64.wrap 1), .int .i64 ep, .int .i64 y0, .bool y1, .int .u64 y2, .int .u64 y3, .int .i64 y4, .bool y5, .int .u64 y6, .int .u64 y7, .string y8, .int .i64 y9, .int .i64 y10] 51))
      clear hC HB HO HO2 HB2
      go_region_held3 (fun w' => (w'.cell? ⟨w.heap.size, 0, none⟩ = some (.int .i64 y0) ∧ w'.cell? ⟨w.heap.size, 1, none⟩ = some (.bool y1) ∧ w'.cell? ⟨w.heap.size, 2, none⟩ = some (.int .u64 y2) ∧ w'.cell? ⟨w.heap.size, 3, none⟩ = some (.int .u64 y3) ∧ w'.cell? ⟨w.heap.size, 4, none⟩ = some (.int .i64 y4) ∧ w'.cell? ⟨w.heap.size, 5, none⟩ = some (.bool y5) ∧ w'.cell? ⟨w.heap.size, 6, none⟩ = some (.int .u64 y6) ∧ w'.cell? ⟨w.heap.size, 7, none⟩ = some (.int .u64 y7) ∧ w'.cell? ⟨w.heap.size, 8, none⟩ = some (.string y8) ∧ w'.cell? ⟨w.heap.size, 9, none⟩ = some (.int .i64 y9) ∧ w'.cell? ⟨w.heap.size, 10, none⟩ = some (.int .i64 y10) ∧ w.heap.size < w'.heap.size) ∧ Below w.heap.size w w')
        (first | with_reducible exact T0.out | with_reducible exact TA.out | with_reducible exact TDA.out | with_reducible exact TD.out | with_reducible exact TAD.out | with_reducible exact T4.out | with_reducible exact T4d.out | with_reducible exact T5.out | fail)
        (first
          | (refine at_wld (W.alloc (.cells #[] 51)).drew (by with_reducible rfl) ?_; refine step_append_own (by rfl) _ _ 24 (by rfl) W.heap.size 51 i0 _ 13 112 Try.underlying24 hi0 hz0 hz1 hz2 rfl (by decide) _ _ _ (by rfl) OA.out _ _ _ row (by rfl) HRl.out (HNx.out _ (btr TW.out.2 KA.out)) HR1.out (by unfold maxLen; omega) (by omega) KA.out.size ?_; intro v4 w4 hown hgrow hnil; clear hnil; have K4 : Hid (Below W.heap.size W w4) := KA.out.grown hgrow KA.out.size (fun k hk => (OA.out.lt k hk).1); have O4 := Lib.hid hown; have T4 := Lib.hid (keepP11 TW.out K4.out); have K4d := Lib.hid (bal K4.out (.cells #[.int .i64 (IntKind.i64.wrap 1), .int .i64 ep, .int .i64 y0, .bool y1, .int .u64 y2, .int .u64 y3, .int .i64 y4, .bool y5, .int .u64 y6, .int .u64 y7, .string y8, .int .i64 y9, .int .i64 y10] 51)); have T4d := Lib.hid (keepP11 TW.out K4d.out); have O4d := Lib.hid (own_keep O4.out (bal (Below.refl w4.heap.size w4) (.cells #[.int .i64 (IntKind.i64.wrap 1), .int .i64 ep, .int .i64 y0, .bool y1, .int .u64 y2, .int .u64 y3, .int .i64 y4, .bool y5, .int .u64 y6, .int .u64 y7, .string y8, .int .i64 y9, .int .i64 y10] 51))); have Q4d := Lib.hid (news1 (heap_alloc_new w4 (.cells #[.int .i64 (IntKind.i64.wrap 1), .int .i64 ep, .int .i64 y0, .bool y1, .int .u64 y2, .int .u64 y3, .int .i64 y4, .bool y5, .int .u64 y6, .int .u64 y7, .string y8, .int .i64 y9, .int .i64 y10] 51))); clear hown hgrow)
          | (refine at_wld ((W.alloc (.cells #[] 51)).alloc (.cells #[.int .i64 (IntKind.i64.wrap 1), .int .i64 ep, .int .i64 y0, .bool y1, .int .u64 y2, .int .u64 y3, .int .i64 y4, .bool y5, .int .u64 y6, .int .u64 y7, .string y8, .int .i64 y9, .int .i64 y10] 51)).drew (by with_reducible rfl) ?_; refine step_append_own (by rfl) _ _ 24 (by rfl) W.heap.size 51 i0 _ 13 112 Try.underlying24 hi0 hz0 hz1 hz2 rfl (by decide) _ _ _ (by rfl) ODA.out _ _ _ row (by rfl) HRl.out (HNx.out _ (btr TW.out.2 KDA.out)) HR1.out (by unfold maxLen; omega) (by omega) KDA.out.size ?_; intro v4 w4 hown hgrow hnil; clear hnil; have K4 : Hid (Below W.heap.size W w4) := KDA.out.grown hgrow KDA.out.size (fun k hk => (ODA.out.lt k hk).1); have O4 := Lib.hid hown; have T4 := Lib.hid (keepP11 TW.out K4.out); have Q4 := Lib.hid (news1 (grown_blk BDA.out hgrow (by simp [Value.ownBlock]))); clear hown hgrow)
          | (refine at_wld ((W.alloc (.cells #[.int .i64 (IntKind.i64.wrap 1), .int .i64 ep, .int .i64 y0, .bool y1, .int .u64 y2, .int .u64 y3, .int .i64 y4, .bool y5, .int .u64 y6, .int .u64 y7, .string y8, .int .i64 y9, .int .i64 y10] 51)).alloc (.cells #[] 51)).drew (by with_reducible rfl) ?_; refine step_append_own (by rfl) _ _ 24 (by rfl) W.heap.size 51 i0 _ 13 112 Try.underlying24 hi0 hz0 hz1 hz2 rfl (by decide) _ _ _ (by rfl) OAD.out _ _ _ row (by rfl) HRl.out (HNx.out _ (btr TW.out.2 KAD.out)) HR1.out (by unfold maxLen; omega) (by omega) KAD.out.size ?_; intro v4 w4 hown hgrow hnil; clear hnil; have K4 : Hid (Below W.heap.size W w4) := KAD.out.grown hgrow KAD.out.size (fun k hk => (OAD.out.lt k hk).1); have O4 := Lib.hid hown; have T4 := Lib.hid (keepP11 TW.out K4.out); have Q4 := Lib.hid (news1 (grown_blk BAD.out hgrow (by simp [Value.ownBlock]))); clear hown hgrow)
          | (refine at_wld (w4.alloc (.cells #[.int .i64 (IntKind.i64.wrap 1), .int .i64 ep, .int .i64 y0, .bool y1, .int .u64 y2, .int .u64 y3, .int .i64 y4, .bool y5, .int .u64 y6, .int .u64 y7, .string y8, .int .i64 y9, .int .i64 y10] 51)) (by with_reducible rfl) ?_; refine step_append_own (by rfl) _ _ 24 (by rfl) W.heap.size 51 i0 _ 13 112 Try.underlying24 hi0 hz0 hz1 hz2 rfl (by decide) _ _ _ (by rfl) O4d.out _ _ _ [.int .i64 (IntKind.i64.wrap 1), .int .i64 ep, .int .i64 y0, .bool y1, .int .u64 y2, .int .u64 y3, .int .i64 y4, .bool y5, .int .u64 y6, .int .u64 y7, .string y8, .int .i64 y9, .int .i64 y10] (by rfl) (by rfl) Q4d.out HE1.out (by unfold maxLen; omega) (by omega) K4d.out.size ?_; intro v5 w5 hown hgrow hnil; clear hnil; have K5 : Hid (Below W.heap.size W w5) := K4d.out.grown hgrow K4d.out.size (fun k hk => (O4d.out.lt k hk).1); have O5 := Lib.hid hown; have T5 := Lib.hid (keepP11 TW.out K5.out))
          | (refine at_wld w4 (by with_reducible rfl) ?_; refine step_append_own (by rfl) _ _ 24 (by rfl) W.heap.size 51 i0 _ 13 112 Try.underlying24 hi0 hz0 hz1 hz2 rfl (by decide) _ _ _ (by rfl) O4.out _ _ _ [.int .i64 (IntKind.i64.wrap 1), .int .i64 ep, .int .i64 y0, .bool y1, .int .u64 y2, .int .u64 y3, .int .i64 y4, .bool y5, .int .u64 y6, .int .u64 y7, .string y8, .int .i64 y9, .int .i64 y10] (by rfl) (by rfl) Q4.out HE1.out (by unfold maxLen; omega) (by omega) K4.out.size ?_; intro v5 w5 hown hgrow hnil; clear hnil; have K5 : Hid (Below W.heap.size W w5) := K4.out.grown hgrow K4.out.size (fun k hk => (O4.out.lt k hk).1); have O5 := Lib.hid hown; have T5 := Lib.hid (keepP11 TW.out K5.out))
      )
      all_goals
        have HO6 := Lib.hid (row_base O5.out TW.out.2.size)
        have HB6 := Lib.hid T5.out.2
        go_wp2_with fail
        go_ret2
        exact ⟨_, rfl, HO6.out, HB6.out⟩
  · subst ha
    have hzp : (0 : Int) < (N : Int) := by omega
    have hzpn : 0 < N := by omega
    have dzp : decide (0 < N) = true := decide_eq_true hzpn
    have q2 : (w.alloc (.cells #[.int .i64 y0, .bool y1, .int .u64 y2, .int .u64 y3, .int .i64 y4, .bool y5, .int .u64 y6, .int .u64 y7, .string y8, .int .i64 y9, .int .i64 y10] 33)).cell? ⟨g, o' + m * 13 + 1, none⟩ = some (.int .i64 y) := by rw [(bcell (bal (Below.refl w.heap.size w) _)).1 _ _ hgl]; exact q1
    have hwr : IntKind.i64.wrap ((N : Int) - 1) = (m : Int) := by rw [IntKind.wrap_i64]; omega
    have hwN : IntKind.i64.wrap ((N : Int) + 1) = (N : Int) + 1 := by rw [IntKind.wrap_i64]; omega
    have hm0 : (0 : Int) ≤ (m : Int) := by omega
    have hmN : (m : Int) < (N : Int) := by omega
    have hNm : (N : Int) - 1 = (m : Int) := by omega
    have d3 : decide (ep < y) = false := decide_eq_false h2
    obtain ⟨ad, had⟩ : ∃ ad : Addr, ad = ⟨g, o', none⟩ := ⟨_, rfl⟩
    have HN2 : Hid (∀ W, Below w.heap.size w W → ∀ j u, row[j]? = some u → W.cell? ((⟨g, o', none⟩ : Addr).add j) = some u) := HNews.out ⟨g, o', none⟩ rfl
    clear HPv h1 q1 had ad HNil HNews hm
    have HNx := HN2
    clear HN2
    go_enter Try.func19, Try.ntmps19
    go_wp2_with (first | (go_at_call 17; refine (between_any _ _ _ _).mono ?_; rintro e w3 ⟨rfl, hw3⟩; have hw3 := hw3.symm; subst hw3; rw [hbt]) | (go_at_call 26; refine (hC.out _).mono ?_; rintro e w2 ⟨rfl, hb2⟩; have HB2 := Lib.hid (btr HB.out hb2); have HO2 := Lib.hid (HO.out.below hb2); clear hb2))
    obtain ⟨W, hW⟩ : ∃ W, W = w2 := ⟨_, rfl⟩
    subst hW
    have TW : Hid ((W.cell? ⟨w.heap.size, 0, none⟩ = some (.int .i64 y0) ∧ W.cell? ⟨w.heap.size, 1, none⟩ = some (.bool y1) ∧ W.cell? ⟨w.heap.size, 2, none⟩ = some (.int .u64 y2) ∧ W.cell? ⟨w.heap.size, 3, none⟩ = some (.int .u64 y3) ∧ W.cell? ⟨w.heap.size, 4, none⟩ = some (.int .i64 y4) ∧ W.cell? ⟨w.heap.size, 5, none⟩ = some (.bool y5) ∧ W.cell? ⟨w.heap.size, 6, none⟩ = some (.int .u64 y6) ∧ W.cell? ⟨w.heap.size, 7, none⟩ = some (.int .u64 y7) ∧ W.cell? ⟨w.heap.size, 8, none⟩ = some (.string y8) ∧ W.cell? ⟨w.heap.size, 9, none⟩ = some (.int .i64 y9) ∧ W.cell? ⟨w.heap.size, 10, none⟩ = some (.int .i64 y10) ∧ w.heap.size < W.heap.size) ∧ Below w.heap.size w W) := ⟨⟨HO2.out.1 0 _ rfl, HO2.out.1 1 _ rfl, HO2.out.1 2 _ rfl, HO2.out.1 3 _ rfl, HO2.out.1 4 _ rfl, HO2.out.1 5 _ rfl, HO2.out.1 6 _ rfl, HO2.out.1 7 _ rfl, HO2.out.1 8 _ rfl, HO2.out.1 9 _ rfl, HO2.out.1 10 _ rfl, HO2.out.2⟩, HB2.out⟩
    have T0 : Hid ((W.drew.cell? ⟨w.heap.size, 0, none⟩ = some (.int .i64 y0) ∧ W.drew.cell? ⟨w.heap.size, 1, none⟩ = some (.bool y1) ∧ W.drew.cell? ⟨w.heap.size, 2, none⟩ = some (.int .u64 y2) ∧ W.drew.cell? ⟨w.heap.size, 3, none⟩ = some (.int .u64 y3) ∧ W.drew.cell? ⟨w.heap.size, 4, none⟩ = some (.int .i64 y4) ∧ W.drew.cell? ⟨w.heap.size, 5, none⟩ = some (.bool y5) ∧ W.drew.cell? ⟨w.heap.size, 6, none⟩ = some (.int .u64 y6) ∧ W.drew.cell? ⟨w.heap.size, 7, none⟩ = some (.int .u64 y7) ∧ W.drew.cell? ⟨w.heap.size, 8, none⟩ = some (.string y8) ∧ W.drew.cell? ⟨w.heap.size, 9, none⟩ = some (.int .i64 y9) ∧ W.drew.cell? ⟨w.heap.size, 10, none⟩ = some (.int .i64 y10) ∧ w.heap.size < W.drew.heap.size) ∧ Below w.heap.size w W.drew) := ⟨TW.out.1, TW.out.2.drew⟩
    have KA : Hid (Below W.heap.size W (W.alloc (.cells #[] 51)).drew) := (bal (Below.refl _ _) _).drew
    have TA : Hid (((W.alloc (.cells #[] 51)).drew.cell? ⟨w.heap.size, 0, none⟩ = some (.int .i64 y0) ∧ (W.alloc (.cells #[] 51)).drew.cell? ⟨w.heap.size, 1, none⟩ = some (.bool y1) ∧ (W.alloc (.cells #[] 51)).drew.cell? ⟨w.heap.size, 2, none⟩ = some (.int .u64 y2) ∧ (W.alloc (.cells #[] 51)).drew.cell? ⟨w.heap.size, 3, none⟩ = some (.int .u64 y3) ∧ (W.alloc (.cells #[] 51)).drew.cell? ⟨w.heap.size, 4, none⟩ = some (.int .i64 y4) ∧ (W.alloc (.cells #[] 51)).drew.cell? ⟨w.heap.size, 5, none⟩ = some (.bool y5) ∧ (W.alloc (.cells #[] 51)).drew.cell? ⟨w.heap.size, 6, none⟩ = some (.int .u64 y6) ∧ (W.alloc (.cells #[] 51)).drew.cell? ⟨w.heap.size, 7, none⟩ = some (.int .u64 y7) ∧ (W.alloc (.cells #[] 51)).drew.cell? ⟨w.heap.size, 8, none⟩ = some (.string y8) ∧ (W.alloc (.cells #[] 51)).drew.cell? ⟨w.heap.size, 9, none⟩ = some (.int .i64 y9) ∧ (W.alloc (.cells #[] 51)).drew.cell? ⟨w.heap.size, 10, none⟩ = some (.int .i64 y10) ∧ w.heap.size < (W.alloc (.cells #[] 51)).drew.heap.size) ∧ Below w.heap.size w (W.alloc (.cells #[] 51)).drew) := keepP11 TW.out KA.out
    have KDA : Hid (Below W.heap.size W ((W.alloc (.cells #[] 51)).alloc (.cells #[.int .i64 ((N : Int) + 1), .int .i64 ep, .int .i64 y0, .bool y1, .int .u64 y2, .int .u64 y3, .int .i64 y4, .bool y5, .int .u64 y6, .int .u64 y7, .string y8, .int .i64 y9, .int .i64 y10] 51)).drew) := (bal (bal (Below.refl _ _) _) _).drew
    have TDA : Hid ((((W.alloc (.cells #[] 51)).alloc (.cells #[.int .i64 ((N : Int) + 1), .int .i64 ep, .int .i64 y0, .bool y1, .int .u64 y2, .int .u64 y3, .int .i64 y4, .bool y5, .int .u64 y6, .int .u64 y7, .string y8, .int .i64 y9, .int .i64 y10] 51)).drew.cell? ⟨w.heap.size, 0, none⟩ = some (.int .i64 y0) ∧ ((W.alloc (.cells #[] 51)).alloc (.cells #[.int .i64 ((N : Int) + 1), .int .i64 ep, .int .i64 y0, .bool y1, .int .u64 y2, .int .u64 y3, .int .i64 y4, .bool y5, .int .u64 y6, .int .u64 y7, .string y8, .int .i64 y9, .int .i64 y10] 51)).drew.cell? ⟨w.heap.size, 1, none⟩ = some (.bool y1) ∧ ((W.alloc (.cells #[] 51)).alloc (.cells #[.int .i64 ((N : Int) + 1), .int .i64 ep, .int .i64 y0, .bool y1, .int .u64 y2, .int .u64 y3, .int .i64 y4, .bool y5, .int .u64 y6, .int .u64 y7, .string y8, .int .i64 y9, .int .i64 y10] 51)).drew.cell? ⟨w.heap.size, 2, none⟩ = some (.int .u64 y2) ∧ ((W.alloc (.cells #[] 51)).alloc (.cells #[.int .i64 ((N : Int) + 1), .int .i64 ep, .int .i64 y0, .bool y1, .int .u64 y2, .int .u64 y3, .int .i64 y4, .bool y5, .int .u64 y6, .int .u64 y7, .string y8, .int .i64 y9, .int .i64 y10] 51)).drew.cell? ⟨w.heap.size, 3, none⟩ = some (.int .u64 y3) ∧ ((W.alloc (.cells #[] 51)).alloc (.cells #[.int .i64 ((N : Int) + 1), .int .i64 ep, .int .i64 y0, .bool y1, .int .u64 y2, .int .u64 y3, .int .i64 y4, .bool y5, .int .u64 y6, .int .u64 y7, .string y8, .int .i64 y9, .int .i64 y10] 51)).drew.cell? ⟨w.heap.size, 4, none⟩ = some (.int .i64 y4) ∧ ((W.alloc (.cells #[] 51)).alloc (.cells #[.int .i64 ((N : Int) + 1), .int .i64 ep, .int .i64 y0, .bool y1, .int .u64 y2, .int .u64 y3, .int .i64 y4, .bool y5, .int .u64 y6, .int .u64 y7, .string y8, .int .i64 y9, .int .i64 y10] 51)).drew.cell? ⟨w.heap.size, 5, none⟩ = some (.bool y5) ∧ ((W.alloc (.cells #[] 51)).alloc (.cells #[.int .i64 ((N : Int) + 1), .int .i64 ep, .int .i64 y0, .bool y1, .int .u64 y2, .int .u64 y3, .int .i64 y4, .bool y5, .int .u64 y6, .int .u64 y7, .string y8, .int .i64 y9, .int .i64 y10] 51)).drew.cell? ⟨w.heap.size, 6, none⟩ = some (.int .u64 y6) ∧ ((W.alloc (.cells #[] 51)).alloc (.cells #[.int .i64 ((N : Int) + 1), .int .i64 ep, .int .i64 y0, .bool y1, .int .u64 y2, .int .u64 y3, .int .i64 y4, .bool y5, .int .u64 y6, .int .u64 y7, .string y8, .int .i64 y9, .int .i64 y10] 51)).drew.cell? ⟨w.heap.size, 7, none⟩ = some (.int .u64 y7) ∧ ((W.alloc (.cells #[] 51)).alloc (.cells #[.int .i64 ((N : Int) + 1), .int .i64 ep, .int .i64 y0, .bool y1, .int .u64 y2, .int .u64 y3, .int .i64 y4, .bool y5, .int .u64 y6, .int .u64 y7, .string y8, .int .i64 y9, .int .i64 y10] 51)).drew.cell? ⟨w.heap.size, 8, none⟩ = some (.string y8) ∧ ((W.alloc (.cells #[] 51)).alloc (.cells #[.int .i64 ((N : Int) + 1), .int .i64 ep, .int .i64 y0, .bool y1, .int .u64 y2, .int .u64 y3, .int .i64 y4, .bool y5, .int .u64 y6, .int .u64 y7, .string y8, .int .i64 y9, .int .i64 y10] 51)).drew.cell? ⟨w.heap.size, 9, none⟩ = some (.int .i64 y9) ∧ ((W.alloc (.cells #[] 51)).alloc (.cells #[.int .i64 ((N : Int) + 1), .int .i64 ep, .int .i64 y0, .bool y1, .int .u64 y2, .int .u64 y3, .int .i64 y4, .bool y5, .int .u64 y6, .int .u64 y7, .string y8, .int .i64 y9, .int .i64 y10] 51)).drew.cell? ⟨w.heap.size, 10, none⟩ = some (.int .i64 y10) ∧ w.heap.size < ((W.alloc (.cells #[] 51)).alloc (.cells #[.int .i64 ((N : Int) + 1), .int .i64 ep, .int .i64 y0, .bool y1, .int .u64 y2, .int .u64 y3, .int .i64 y4, .bool y5, .int .u64 y6, .int .u64 y7, .string y8, .int .i64 y9, .int .i64 y10] 51)).drew.heap.size) ∧ Below w.heap.size w ((W.alloc (.cells #[] 51)).alloc (.cells #[.int .i64 ((N : Int) + 1), .int .i64 ep, .int .i64 y0, .bool y1, .int .u64 y2, .int .u64 y3, .int .i64 y4, .bool y5, .int .u64 y6, .int .u64 y7, .string y8, .int .i64 y9, .int .i64 y10] 51)).drew) := keepP11 TW.out KDA.out
    have KD : Hid (Below W.heap.size W (W.alloc (.cells #[.int .i64 ((N : Int) + 1), .int .i64 ep, .int .i64 y0, .bool y1, .int .u64 y2, .int .u64 y3, .int .i64 y4, .bool y5, .int .u64 y6, .int .u64 y7, .string y8, .int .i64 y9, .int .i64 y10] 51)).drew) := (bal (Below.refl _ _) _).drew
    have TD : Hid (((W.alloc (.cells #[.int .i64 ((N : Int) + 1), .int .i64 ep, .int .i64 y0, .bool y1, .int .u64 y2, .int .u64 y3, .int .i64 y4, .bool y5, .int .u64 y6, .int .u64 y7, .string y8, .int .i64 y9, .int .i64 y10] 51)).drew.cell? ⟨w.heap.size, 0, none⟩ = some (.int .i64 y0) ∧ (W.alloc (.cells #[.int .i64 ((N : Int) + 1), .int .i64 ep, .int .i64 y0, .bool y1, .int .u64 y2, .int .u64 y3, .int .i64 y4, .bool y5, .int .u64 y6, .int .u64 y7, .string y8, .int .i64 y9, .int .i64 y10] 51)).drew.cell? ⟨w.heap.size, 1, none⟩ = some (.bool y1) ∧ (W.alloc (.cells #[.int .i64 ((N : Int) + 1), .int .i64 ep, .int .i64 y0, .bool y1, .int .u64 y2, .int .u64 y3, .int .i64 y4, .bool y5, .int .u64 y6, .int .u64 y7, .string y8, .int .i64 y9, .int .i64 y10] 51)).drew.cell? ⟨w.heap.size, 2, none⟩ = some (.int .u64 y2) ∧ (W.alloc (.cells #[.int .i64 ((N : Int) + 1), .int .i64 ep, .int .i64 y0, .bool y1, .int .u64 y2, .int .u64 y3, .int .i64 y4, .bool y5, .int .u64 y6, .int .u64 y7, .string y8, .int .i64 y9, .int .i64 y10] 51)).drew.cell? ⟨w.heap.size, 3, none⟩ = some (.int .u64 y3) ∧ (W.alloc (.cells #[.int .i64 ((N : Int) + 1), .int .i64 ep, .int .i64 y0, .bool y1, .int .u64 y2, .int .u64 y3, .int .i64 y4, .bool y5, .int .u64 y6, .int .u64 y7, .string y8, .int .i64 y9, .int .i64 y10] 51)).drew.cell? ⟨w.heap.size, 4, none⟩ = some (.int .i64 y4) ∧ (W.alloc (.cells #[.int .i64 ((N : Int) + 1), .int .i64 ep, .int .i64 y0, .bool y1, .int .u64 y2, .int .u64 y3, .int .i64 y4, .bool y5, .int .u64 y6, .int .u64 y7, .string y8, .int .i64 y9, .int .i64 y10] 51)).drew.cell? ⟨w.heap.size, 5, none⟩ = some (.bool y5) ∧ (W.alloc (.cells #[.int .i64 ((N : Int) + 1), .int .i64 ep, .int .i64 y0, .bool y1, .int .u64 y2, .int .u64 y3, .int .i64 y4, .bool y5, .int .u64 y6, .int .u64 y7, .string y8, .int .i64 y9, .int .i64 y10] 51)).drew.cell? ⟨w.heap.size, 6, none⟩ = some (.int .u64 y6) ∧ (W.alloc (.cells #[.int .i64 ((N : Int) + 1), .int .i64 ep, .int .i64 y0, .bool y1, .int .u64 y2, .int .u64 y3, .int .i64 y4, .bool y5, .int .u64 y6, .int .u64 y7, .string y8, .int .i64 y9, .int .i64 y10] 51)).drew.cell? ⟨w.heap.size, 7, none⟩ = some (.int .u64 y7) ∧ (W.alloc (.cells #[.int .i64 ((N : Int) + 1), .int .i64 ep, .int .i64 y0, .bool y1, .int .u64 y2, .int .u64 y3, .int .i64 y4, .bool y5, .int .u64 y6, .int .u64 y7, .string y8, .int .i64 y9, .int .i64 y10] 51)).drew.cell? ⟨w.heap.size, 8, none⟩ = some (.string y8) ∧ (W.alloc (.cells #[.int .i64 ((N : Int) + 1), .int .i64 ep, .int .i64 y0, .bool y1, .int .u64 y2, .int .u64 y3, .int .i64 y4, .bool y5, .int .u64 y6, .int .u64 y7, .string y8, .int .i64 y9, .int .i64 y10] 51)).drew.cell? ⟨w.heap.size, 9, none⟩ = some (.int .i64 y9) ∧ (W.alloc (.cells #[.int .i64 ((N : Int) + 1), .int .i64 ep, .int .i64 y0, .bool y1, .int .u64 y2, .int .u64 y3, .int .i64 y4, .bool y5, .int .u64 y6, .int .u64 y7, .string y8, .int .i64 y9, .int .i64 y10] 51)).drew.cell? ⟨w.heap.size, 10, none⟩ = some (.int .i64 y10) ∧ w.heap.size < (W.alloc (.cells #[.int .i64 ((N : Int) + 1), .int .i64 ep, .int .i64 y0, .bool y1, .int .u64 y2, .int .u64 y3, .int .i64 y4, .bool y5, .int .u64 y6, .int .u64 y7, .string y8, .int .i64 y9, .int .i64 y10] 51)).drew.heap.size) ∧ Below w.heap.size w (W.alloc (.cells #[.int .i64 ((N : Int) + 1), .int .i64 ep, .int .i64 y0, .bool y1, .int .u64 y2, .int .u64 y3, .int .i64 y4, .bool y5, .int .u64 y6, .int .u64 y7, .string y8, .int .i64 y9, .int .i64 y10] 51)).drew) := keepP11 TW.out KD.out
    have KAD : Hid (Below W.heap.size W ((W.alloc (.cells #[.int .i64 ((N : Int) + 1), .int .i64 ep, .int .i64 y0, .bool y1, .int .u64 y2, .int .u64 y3, .int .i64 y4, .bool y5, .int .u64 y6, .int .u64 y7, .string y8, .int .i64 y9, .int .i64 y10] 51)).alloc (.cells #[] 51)).drew) := (bal (bal (Below.refl _ _) _) _).drew
    have TAD : Hid ((((W.alloc (.cells #[.int .i64 ((N : Int) + 1), .int .i64 ep, .int .i64 y0, .bool y1, .int .u64 y2, .int .u64 y3, .int .i64 y4, .bool y5, .int .u64 y6, .int .u64 y7, .string y8, .int .i64 y9, .int .i64 y10] 51)).alloc (.cells #[] 51)).drew.cell? ⟨w.heap.size, 0, none⟩ = some (.int .i64 y0) ∧ ((W.alloc (.cells #[.int .i64 ((N : Int) + 1), .int .i64 ep, .int .i64 y0, .bool y1, .int .u64 y2, .int .u64 y3, .int .i64 y4, .bool y5, .int .u64 y6, .int .u64 y7, .string y8, .int .i64 y9, .int .i64 y10] 51)).alloc (.cells #[] 51)).drew.cell? ⟨w.heap.size, 1, none⟩ = some (.bool y1) ∧ ((W.alloc (.cells #[.int .i64 ((N : Int) + 1), .int .i64 ep, .int .i64 y0, .bool y1, .int .u64 y2, .int .u64 y3, .int .i64 y4, .bool y5, .int .u64 y6, .int .u64 y7, .string y8, .int .i64 y9, .int .i64 y10] 51)).alloc (.cells #[] 51)).drew.cell? ⟨w.heap.size, 2, none⟩ = some (.int .u64 y2) ∧ ((W.alloc (.cells #[.int .i64 ((N : Int) + 1), .int .i64 ep, .int .i64 y0, .bool y1, .int .u64 y2, .int .u64 y3, .int .i64 y4, .bool y5, .int .u64 y6, .int .u64 y7, .string y8, .int .i64 y9, .int .i64 y10] 51)).alloc (.cells #[] 51)).drew.cell? ⟨w.heap.size, 3, none⟩ = some (.int .u64 y3) ∧ ((W.alloc (.cells #[.int .i64 ((N : Int) + 1), .int .i64 ep, .int .i64 y0, .bool y1, .int .u64 y2, .int .u64 y3, .int .i64 y4, .bool y5, .int .u64 y6, .int .u64 y7, .string y8, .int .i64 y9, .int .i64 y10] 51)).alloc (.cells #[] 51)).drew.cell? ⟨w.heap.size, 4, none⟩ = some (.int .i64 y4) ∧ ((W.alloc (.cells #[.int .i64 ((N : Int) + 1), .int .i64 ep, .int .i64 y0, .bool y1, .int .u64 y2, .int .u64 y3, .int .i64 y4, .bool y5, .int .u64 y6, .int .u64 y7, .string y8, .int .i64 y9, .int .i64 y10] 51)).alloc (.cells #[] 51)).drew.cell? ⟨w.heap.size, 5, none⟩ = some (.bool y5) ∧ ((W.alloc (.cells #[.int .i64 ((N : Int) + 1), .int .i64 ep, .int .i64 y0, .bool y1, .int .u64 y2, .int .u64 y3, .int .i64 y4, .bool y5, .int .u64 y6, .int .u64 y7, .string y8, .int .i64 y9, .int .i64 y10] 51)).alloc (.cells #[] 51)).drew.cell? ⟨w.heap.size, 6, none⟩ = some (.int .u64 y6) ∧ ((W.alloc (.cells #[.int .i64 ((N : Int) + 1), .int .i64 ep, .int .i64 y0, .bool y1, .int .u64 y2, .int .u64 y3, .int .i64 y4, .bool y5, .int .u64 y6, .int .u64 y7, .string y8, .int .i64 y9, .int .i64 y10] 51)).alloc (.cells #[] 51)).drew.cell? ⟨w.heap.size, 7, none⟩ = some (.int .u64 y7) ∧ ((W.alloc (.cells #[.int .i64 ((N : Int) + 1), .int .i64 ep, .int .i64 y0, .bool y1, .int .u64 y2, .int .u64 y3, .int .i64 y4, .bool y5, .int .u64 y6, .int .u64 y7, .string y8, .int .i64 y9, .int .i64 y10] 51)).alloc (.cells #[] 51)).drew.cell? ⟨w.heap.size, 8, none⟩ = some (.string y8) ∧ ((W.alloc (.cells #[.int .i64 ((N : Int) + 1), .int .i64 ep, .int .i64 y0, .bool y1, .int .u64 y2, .int .u64 y3, .int .i64 y4, .bool y5, .int .u64 y6, .int .u64 y7, .string y8, .int .i64 y9, .int .i64 y10] 51)).alloc (.cells #[] 51)).drew.cell? ⟨w.heap.size, 9, none⟩ = some (.int .i64 y9) ∧ ((W.alloc (.cells #[.int .i64 ((N : Int) + 1), .int .i64 ep, .int .i64 y0, .bool y1, .int .u64 y2, .int .u64 y3, .int .i64 y4, .bool y5, .int .u64 y6, .int .u64 y7, .string y8, .int .i64 y9, .int .i64 y10] 51)).alloc (.cells #[] 51)).drew.cell? ⟨w.heap.size, 10, none⟩ = some (.int .i64 y10) ∧ w.heap.size < ((W.alloc (.cells #[.int .i64 ((N : Int) + 1), .int .i64 ep, .int .i64 y0, .bool y1, .int .u64 y2, .int .u64 y3, .int .i64 y4, .bool y5, .int .u64 y6, .int .u64 y7, .string y8, .int .i64 y9, .int .i64 y10] 51)).alloc (.cells #[] 51)).drew.heap.size) ∧ Below w.heap.size w ((W.alloc (.cells #[.int .i64 ((N : Int) + 1), .int .i64 ep, .int .i64 y0, .bool y1, .int .u64 y2, .int .u64 y3, .int .i64 y4, .bool y5, .int .u64 y6, .int .u64 y7, .string y8, .int .i64 y9, .int .i64 y10] 51)).alloc (.cells #[] 51)).drew) := keepP11 TW.out KAD.out
    have OA : Hid (World.ownsRow (W.alloc (.cells #[] 51)).drew W.heap.size 51 13 (.slice (some ⟨W.heap.size, 0, none⟩) 0 0) 0 []) := rowE_empty W
    have ODA : Hid (World.ownsRow ((W.alloc (.cells #[] 51)).alloc (.cells #[.int .i64 ((N : Int) + 1), .int .i64 ep, .int .i64 y0, .bool y1, .int .u64 y2, .int .u64 y3, .int .i64 y4, .bool y5, .int .u64 y6, .int .u64 y7, .string y8, .int .i64 y9, .int .i64 y10] 51)).drew W.heap.size 51 13 (.slice (some ⟨W.heap.size, 0, none⟩) 0 0) 0 []) := own_keep (rowE_empty W) (bal (Below.refl _ _) _).drew
    have OAD : Hid (World.ownsRow ((W.alloc (.cells #[.int .i64 ((N : Int) + 1), .int .i64 ep, .int .i64 y0, .bool y1, .int .u64 y2, .int .u64 y3, .int .i64 y4, .bool y5, .int .u64 y6, .int .u64 y7, .string y8, .int .i64 y9, .int .i64 y10] 51)).alloc (.cells #[] 51)).drew W.heap.size 51 13 (.slice (some ⟨W.heap.size + 1, 0, none⟩) 0 0) 0 []) := by
      have := row_base (rowE_empty (W.alloc (.cells #[.int .i64 ((N : Int) + 1), .int .i64 ep, .int .i64 y0, .bool y1, .int .u64 y2, .int .u64 y3, .int .i64 y4, .bool y5, .int .u64 y6, .int .u64 y7, .string y8, .int .i64 y9, .int .i64 y10] 51))) (show W.heap.size ≤ (W.alloc (.cells #[.int .i64 ((N : Int) + 1), .int .i64 ep, .int .i64 y0, .bool y1, .int .u64 y2, .int .u64 y3, .int .i64 y4, .bool y5, .int .u64 y6, .int .u64 y7, .string y8, .int .i64 y9, .int .i64 y10] 51)).heap.size by simp)
      rw [show (W.alloc (.cells #[.int .i64 ((N : Int) + 1), .int .i64 ep, .int .i64 y0, .bool y1, .int .u64 y2, .int .u64 y3, .int .i64 y4, .bool y5, .int .u64 y6, .int .u64 y7, .string y8, .int .i64 y9, .int .i64 y10] 51)).heap.size = W.heap.size + 1 by simp] at this
      exact this
    have BDA : Hid (((W.alloc (.cells #[] 51)).alloc (.cells #[.int .i64 ((N : Int) + 1), .int .i64 ep, .int .i64 y0, .bool y1, .int .u64 y2, .int .u64 y3, .int .i64 y4, .bool y5, .int .u64 y6, .int .u64 y7, .string y8, .int .i64 y9, .int .i64 y10] 51)).drew.heap[W.heap.size + 1]? = some (.cells [.int .i64 ((N : Int) + 1), .int .i64 ep, .int .i64 y0, .bool y1, .int .u64 y2, .int .u64 y3, .int .i64 y4, .bool y5, .int .u64 y6, .int .u64 y7, .string y8, .int .i64 y9, .int .i64 y10].toArray 51 (0, 0))) := by
      have := heap_alloc_new (W.alloc (.cells #[] 51)) (.cells #[.int .i64 ((N : Int) + 1), .int .i64 ep, .int .i64 y0, .bool y1, .int .u64 y2, .int .u64 y3, .int .i64 y4, .bool y5, .int .u64 y6, .int .u64 y7, .string y8, .int .i64 y9, .int .i64 y10] 51)
      rw [show (W.alloc (.cells #[] 51)).heap.size = W.heap.size + 1 by simp] at this
      exact this
    have BAD : Hid (((W.alloc (.cells #[.int .i64 ((N : Int) + 1), .int .i64 ep, .int .i64 y0, .bool y1, .int .u64 y2, .int .u64 y3, .int .i64 y4, .bool y5, .int .u64 y6, .int .u64 y7, .string y8, .int .i64 y9, .int .i64 y10] 51)).alloc (.cells #[] 51)).drew.heap[W.heap.size]? = some (.cells [.int .i64 ((N : Int) + 1), .int .i64 ep, .int .i64 y0, .bool y1, .int .u64 y2, .int .u64 y3, .int .i64 y4, .bool y5, .int .u64 y6, .int .u64 y7, .string y8, .int .i64 y9, .int .i64 y10].toArray 51 (0, 0))) := ((bal (Below.refl (W.alloc (.cells #[.int .i64 ((N : Int) + 1), .int .i64 ep, .int .i64 y0, .bool y1, .int .u64 y2, .int .u64 y3, .int .i64 y4, .bool y5, .int .u64 y6, .int .u64 y7, .string y8, .int .i64 y9, .int .i64 y10] 51)).heap.size (W.alloc (.cells #[.int .i64 ((N : Int) + 1), .int .i64 ep, .int .i64 y0, .bool y1, .int .u64 y2, .int .u64 y3, .int .i64 y4, .bool y5, .int .u64 y6, .int .u64 y7, .string y8, .int .i64 y9, .int .i64 y10] 51))) (.cells #[] 51)).block W.heap.size (by simp)).trans (heap_alloc_new W (.cells #[.int .i64 ((N : Int) + 1), .int .i64 ep, .int .i64 y0, .bool y1, .int .u64 y2, .int .u64 y3, .int .i64 y4, .bool y5, .int .u64 y6, .int .u64 y7, .string y8, .int .i64 y9, .int .i64 y10] 51))
    clear hC HB HO HO2 HB2
    go_region_held3 (fun w' => (w'.cell? ⟨w.heap.size, 0, none⟩ = some (.int .i64 y0) ∧ w'.cell? ⟨w.heap.size, 1, none⟩ = some (.bool y1) ∧ w'.cell? ⟨w.heap.size, 2, none⟩ = some (.int .u64 y2) ∧ w'.cell? ⟨w.heap.size, 3, none⟩ = some (.int .u64 y3) ∧ w'.cell? ⟨w.heap.size, 4, none⟩ = some (.int .i64 y4) ∧ w'.cell? ⟨w.heap.size, 5, none⟩ = some (.bool y5) ∧ w'.cell? ⟨w.heap.size, 6, none⟩ = some (.int .u64 y6) ∧ w'.cell? ⟨w.heap.size, 7, none⟩ = some (.int .u64 y7) ∧ w'.cell? ⟨w.heap.size, 8, none⟩ = some (.string y8) ∧ w'.cell? ⟨w.heap.size, 9, none⟩ = some (.int .i64 y9) ∧ w'.cell? ⟨w.heap.size, 10, none⟩ = some (.int .i64 y10) ∧ w.heap.size < w'.heap.size) ∧ Below w.heap.size w w')
      (first | with_reducible exact T0.out | with_reducible exact TA.out | with_reducible exact TDA.out | with_reducible exact TD.out | with_reducible exact TAD.out | with_reducible exact T4.out | with_reducible exact T4d.out | with_reducible exact T5.out | fail)
      (first
        | (refine at_wld (W.alloc (.cells #[] 51)).drew (by with_reducible rfl) ?_; refine step_append_own (by rfl) _ _ 24 (by rfl) W.heap.size 51 i0 _ 13 112 Try.underlying24 hi0 hz0 hz1 hz2 rfl (by decide) _ _ _ (by rfl) OA.out _ _ _ row (by rfl) HRl.out (HNx.out _ (btr TW.out.2 KA.out)) HR1.out (by unfold maxLen; omega) (by omega) KA.out.size ?_; intro v4 w4 hown hgrow hnil; clear hnil; have K4 : Hid (Below W.heap.size W w4) := KA.out.grown hgrow KA.out.size (fun k hk => (OA.out.lt k hk).1); have O4 := Lib.hid hown; have T4 := Lib.hid (keepP11 TW.out K4.out); have K4d := Lib.hid (bal K4.out (.cells #[.int .i64 ((N : Int) + 1), .int .i64 ep, .int .i64 y0, .bool y1, .int .u64 y2, .int .u64 y3, .int .i64 y4, .bool y5, .int .u64 y6, .int .u64 y7, .string y8, .int .i64 y9, .int .i64 y10] 51)); have T4d := Lib.hid (keepP11 TW.out K4d.out); have O4d := Lib.hid (own_keep O4.out (bal (Below.refl w4.heap.size w4) (.cells #[.int .i64 ((N : Int) + 1), .int .i64 ep, .int .i64 y0, .bool y1, .int .u64 y2, .int .u64 y3, .int .i64 y4, .bool y5, .int .u64 y6, .int .u64 y7, .string y8, .int .i64 y9, .int .i64 y10] 51))); have Q4d := Lib.hid (news1 (heap_alloc_new w4 (.cells #[.int .i64 ((N : Int) + 1), .int .i64 ep, .int .i64 y0, .bool y1, .int .u64 y2, .int .u64 y3, .int .i64 y4, .bool y5, .int .u64 y6, .int .u64 y7, .string y8, .int .i64 y9, .int .i64 y10] 51))); clear hown hgrow)
        | (refine at_wld ((W.alloc (.cells #[] 51)).alloc (.cells #[.int .i64 ((N : Int) + 1), .int .i64 ep, .int .i64 y0, .bool y1, .int .u64 y2, .int .u64 y3, .int .i64 y4, .bool y5, .int .u64 y6, .int .u64 y7, .string y8, .int .i64 y9, .int .i64 y10] 51)).drew (by with_reducible rfl) ?_; refine step_append_own (by rfl) _ _ 24 (by rfl) W.heap.size 51 i0 _ 13 112 Try.underlying24 hi0 hz0 hz1 hz2 rfl (by decide) _ _ _ (by rfl) ODA.out _ _ _ row (by rfl) HRl.out (HNx.out _ (btr TW.out.2 KDA.out)) HR1.out (by unfold maxLen; omega) (by omega) KDA.out.size ?_; intro v4 w4 hown hgrow hnil; clear hnil; have K4 : Hid (Below W.heap.size W w4) := KDA.out.grown hgrow KDA.out.size (fun k hk => (ODA.out.lt k hk).1); have O4 := Lib.hid hown; have T4 := Lib.hid (keepP11 TW.out K4.out); have Q4 := Lib.hid (news1 (grown_blk BDA.out hgrow (by simp [Value.ownBlock]))); clear hown hgrow)
        | (refine at_wld ((W.alloc (.cells #[.int .i64 ((N : Int) + 1), .int .i64 ep, .int .i64 y0, .bool y1, .int .u64 y2, .int .u64 y3, .int .i64 y4, .bool y5, .int .u64 y6, .int .u64 y7, .string y8, .int .i64 y9, .int .i64 y10] 51)).alloc (.cells #[] 51)).drew (by with_reducible rfl) ?_; refine step_append_own (by rfl) _ _ 24 (by rfl) W.heap.size 51 i0 _ 13 112 Try.underlying24 hi0 hz0 hz1 hz2 rfl (by decide) _ _ _ (by rfl) OAD.out _ _ _ row (by rfl) HRl.out (HNx.out _ (btr TW.out.2 KAD.out)) HR1.out (by unfold maxLen; omega) (by omega) KAD.out.size ?_; intro v4 w4 hown hgrow hnil; clear hnil; have K4 : Hid (Below W.heap.size W w4) := KAD.out.grown hgrow KAD.out.size (fun k hk => (OAD.out.lt k hk).1); have O4 := Lib.hid hown; have T4 := Lib.hid (keepP11 TW.out K4.out); have Q4 := Lib.hid (news1 (grown_blk BAD.out hgrow (by simp [Value.ownBlock]))); clear hown hgrow)
        | (refine at_wld (w4.alloc (.cells #[.int .i64 ((N : Int) + 1), .int .i64 ep, .int .i64 y0, .bool y1, .int .u64 y2, .int .u64 y3, .int .i64 y4, .bool y5, .int .u64 y6, .int .u64 y7, .string y8, .int .i64 y9, .int .i64 y10] 51)) (by with_reducible rfl) ?_; refine step_append_own (by rfl) _ _ 24 (by rfl) W.heap.size 51 i0 _ 13 112 Try.underlying24 hi0 hz0 hz1 hz2 rfl (by decide) _ _ _ (by rfl) O4d.out _ _ _ [.int .i64 ((N : Int) + 1), .int .i64 ep, .int .i64 y0, .bool y1, .int .u64 y2, .int .u64 y3, .int .i64 y4, .bool y5, .int .u64 y6, .int .u64 y7, .string y8, .int .i64 y9, .int .i64 y10] (by rfl) (by rfl) Q4d.out HE1.out (by unfold maxLen; omega) (by omega) K4d.out.size ?_; intro v5 w5 hown hgrow hnil; clear hnil; have K5 : Hid (Below W.heap.size W w5) := K4d.out.grown hgrow K4d.out.size (fun k hk => (O4d.out.lt k hk).1); have O5 := Lib.hid hown; have T5 := Lib.hid (keepP11 TW.out K5.out))
        | (refine at_wld w4 (by with_reducible rfl) ?_; refine step_append_own (by rfl) _ _ 24 (by rfl) W.heap.size 51 i0 _ 13 112 Try.underlying24 hi0 hz0 hz1 hz2 rfl (by decide) _ _ _ (by rfl) O4.out _ _ _ [.int .i64 ((N : Int) + 1), .int .i64 ep, .int .i64 y0, .bool y1, .int .u64 y2, .int .u64 y3, .int .i64 y4, .bool y5, .int .u64 y6, .int .u64 y7, .string y8, .int .i64 y9, .int .i64 y10] (by rfl) (by rfl) Q4.out HE1.out (by unfold maxLen; omega) (by omega) K4.out.size ?_; intro v5 w5 hown hgrow hnil; clear hnil; have K5 : Hid (Below W.heap.size W w5) := K4.out.grown hgrow K4.out.size (fun k hk => (O4.out.lt k hk).1); have O5 := Lib.hid hown; have T5 := Lib.hid (keepP11 TW.out K5.out))
    )
    all_goals
      have HO6 := Lib.hid (row_base O5.out TW.out.2.size)
      have HB6 := Lib.hid T5.out.2
      go_wp2_with fail
      go_ret2
      exact ⟨_, rfl, (by have h6 := HO6.out; rw [Nat.zero_add, List.nil_append] at h6; exact h6), HB6.out⟩
end Go.Proofs.Ytjainfehlbfiaaa

namespace Go.Proofs.Ytjainfehlbfiaaa
open Go.RowKit

set_option maxHeartbeats 16000000 in
set_option maxRecDepth 100000 in
theorem rwrite_bad (ep h u : Int) (a : Option Addr) (c : Nat) (l : List En) (epoch : Int) (o : Opd) (w : World) (hs : Lies enE w a l) (hw : o.who.size ≤ maxLen) (hg : logE l = 0) (h0 : ¬ wrE ep l epoch o = 0) :
    Calls Try.prog 9 #[.agg #[.int .i64 ep, .int .i64 h, .int .i64 u, .slice a l.length c], .int .i64 epoch, .agg #[.int .i64 o.k, .bool o.p.v, .int .u64 o.p.hi, .int .u64 o.p.lo, .int .i64 o.p.b, .bool o.a.v, .int .u64 o.a.hi, .int .u64 o.a.lo, .string o.who, .int .i64 o.pof, .int .i64 o.n]] w fun e w' => e = .returned (.tuple #[.agg #[.int .i64 0, .int .i64 0, .int .i64 0, .slice none 0 0], .int .i64 (wrE ep l epoch o)]) ∧ Below w.heap.size w w' := by
  obtain ⟨W1, hW1⟩ : ∃ W1, W1 = ((w.alloc (.cells #[.int .i64 ep, .int .i64 h, .int .i64 u, .slice a l.length c] 26)).alloc (.cells #[.int .i64 o.k, .bool o.p.v, .int .u64 o.p.hi, .int .u64 o.p.lo, .int .i64 o.p.b, .bool o.a.v, .int .u64 o.a.hi, .int .u64 o.a.lo, .string o.who, .int .i64 o.pof, .int .i64 o.n] 33)).alloc (.cells #[.int .i64 0, .int .i64 0, .int .i64 0, .slice none 0 0] 26) := ⟨_, rfl⟩
  have hb1 : Below w.heap.size w W1 := by rw [hW1]; exact bal (bal (bal (Below.refl w.heap.size w) _) _) _
  have hD : Blk W1 w.heap.size 26 [.int .i64 ep, .int .i64 h, .int .i64 u, .slice a l.length c] := by rw [hW1]; exact ((Blk.new w _ _).below (bal (Below.refl _ _) _)).below (bal (Below.refl _ _) _)
  have hO : Blk W1 (w.heap.size + 1) 33 [.int .i64 o.k, .bool o.p.v, .int .u64 o.p.hi, .int .u64 o.p.lo, .int .i64 o.p.b, .bool o.a.v, .int .u64 o.a.hi, .int .u64 o.a.lo, .string o.who, .int .i64 o.pof, .int .i64 o.n] := by
    rw [hW1]
    have := Blk.new (w.alloc (.cells #[.int .i64 ep, .int .i64 h, .int .i64 u, .slice a l.length c] 26)) [.int .i64 o.k, .bool o.p.v, .int .u64 o.p.hi, .int .u64 o.p.lo, .int .i64 o.p.b, .bool o.a.v, .int .u64 o.a.hi, .int .u64 o.a.lo, .string o.who, .int .i64 o.pof, .int .i64 o.n] 33
    rw [show (w.alloc (.cells #[.int .i64 ep, .int .i64 h, .int .i64 u, .slice a l.length c] 26)).heap.size = w.heap.size + 1 by simp] at this
    exact this.below (bal (Below.refl _ _) _)
  have hR : Blk W1 (w.heap.size + 1 + 1) 26 [.int .i64 0, .int .i64 0, .int .i64 0, .slice none 0 0] := by
    rw [hW1]
    have := Blk.new ((w.alloc (.cells #[.int .i64 ep, .int .i64 h, .int .i64 u, .slice a l.length c] 26)).alloc (.cells #[.int .i64 o.k, .bool o.p.v, .int .u64 o.p.hi, .int .u64 o.p.lo, .int .i64 o.p.b, .bool o.a.v, .int .u64 o.a.hi, .int .u64 o.a.lo, .string o.who, .int .i64 o.pof, .int .i64 o.n] 33)) [.int .i64 0, .int .i64 0, .int .i64 0, .slice none 0 0] 26
    rw [show ((w.alloc (.cells #[.int .i64 ep, .int .i64 h, .int .i64 u, .slice a l.length c] 26)).alloc (.cells #[.int .i64 o.k, .bool o.p.v, .int .u64 o.p.hi, .int .u64 o.p.lo, .int .i64 o.p.b, .bool o.a.v, .int .u64 o.a.hi, .int .u64 o.a.lo, .string o.who, .int .i64 o.pof, .int .i64 o.n] 33)).heap.size = w.heap.size + 1 + 1 by simp] at this
    exact this
  have hz1 : W1.heap.size = w.heap.size + 1 + 1 + 1 := by rw [hW1]; simp
  have HA : Hid (¬ addE l epoch o = 0 → Calls Try.prog 19 #[.slice a l.length c, .int .i64 epoch, .agg #[.int .i64 o.k, .bool o.p.v, .int .u64 o.p.hi, .int .u64 o.p.lo, .int .i64 o.p.b, .bool o.a.v, .int .u64 o.a.hi, .int .u64 o.a.lo, .string o.who, .int .i64 o.pof, .int .i64 o.n]] W1 fun e w' => e = .returned (.tuple #[.slice none 0 0, .int .i64 (addE l epoch o)]) ∧ Below W1.heap.size W1 w') := fun he => radd_bad a c l epoch o W1 (hs.below hb1) hw hg he
  have HB1 := Lib.hid hb1
  have HD1 := Lib.hid hD
  have HR1 := Lib.hid hR
  obtain ⟨⟨d0, d1, d2, d3⟩, f0, f1, f2, f3⟩ := hD.four
  obtain ⟨⟨r0, r1, r2, r3⟩, s0, s1, s2, s3⟩ := hR.four
  obtain ⟨q0, q1, q2, q3, q4, q5, q6, q7, q8, q9, q10⟩ : W1.cell? ⟨w.heap.size + 1, 0, none⟩ = some (.int .i64 o.k) ∧ W1.cell? ⟨w.heap.size + 1, 1, none⟩ = some (.bool o.p.v) ∧ W1.cell? ⟨w.heap.size + 1, 2, none⟩ = some (.int .u64 o.p.hi) ∧ W1.cell? ⟨w.heap.size + 1, 3, none⟩ = some (.int .u64 o.p.lo) ∧ W1.cell? ⟨w.heap.size + 1, 4, none⟩ = some (.int .i64 o.p.b) ∧ W1.cell? ⟨w.heap.size + 1, 5, none⟩ = some (.bool o.a.v) ∧ W1.cell? ⟨w.heap.size + 1, 6, none⟩ = some (.int .u64 o.a.hi) ∧ W1.cell? ⟨w.heap.size + 1, 7, none⟩ = some (.int .u64 o.a.lo) ∧ W1.cell? ⟨w.heap.size + 1, 8, none⟩ = some (.string o.who) ∧ W1.cell? ⟨w.heap.size + 1, 9, none⟩ = some (.int .i64 o.pof) ∧ W1.cell? ⟨w.heap.size + 1, 10, none⟩ = some (.int .i64 o.n) := ⟨hO.cell 0 _ rfl, hO.cell 1 _ rfl, hO.cell 2 _ rfl, hO.cell 3 _ rfl, hO.cell 4 _ rfl, hO.cell 5 _ rfl, hO.cell 6 _ rfl, hO.cell 7 _ rfl, hO.cell 8 _ rfl, hO.cell 9 _ rfl, hO.cell 10 _ rfl⟩
  have Hz1 := Lib.hid hz1
  rw [hW1] at HA HB1 HD1 HR1 d0 d1 d2 d3 f0 f1 f2 f3 r0 r1 r2 r3 s0 s1 s2 s3 q0 q1 q2 q3 q4 q5 q6 q7 q8 q9 q10 Hz1
  clear hb1 hD hO hR hW1 hz1 hs W1
  unfold wrE at *
  generalize addE l epoch o = rr at *
  generalize o.k = y0 at *
  generalize o.p.v = y1 at *
  generalize o.p.hi = y2 at *
  generalize o.p.lo = y3 at *
  generalize o.p.b = y4 at *
  generalize o.a.v = y5 at *
  generalize o.a.hi = y6 at *
  generalize o.a.lo = y7 at *
  generalize o.who = y8 at *
  generalize o.pof = y9 at *
  generalize o.n = y10 at *
  generalize l.length = N at *
  clear hw hg
  cases b1 : (epoch != ep)
  · cases b2 : (epoch == 0)
    · rw [b1, b2, if_neg (by decide)] at h0
      rw [if_neg (by decide)]
      replace HA := Lib.hid (HA.out h0)
      have hI : (rr != 0) = true := by rw [bne_iff_ne]; exact h0
      clear h0
      go_enter Try.func9, Try.ntmps9
      go_wp2_with fail
      refine HA.out.mono ?_
      rintro e w2 ⟨rfl, hb2⟩
      have HB2 := Lib.hid (btr HB1.out hb2)
      have HR2 := Lib.hid (HR1.out.below hb2)
      have HD2 := Lib.hid (HD1.out.below hb2)
      have hz2 : w.heap.size + 1 + 1 < w2.heap.size := HR2.out.lt
      obtain ⟨⟨r0, r1, r2, r3⟩, s0, s1, s2, s3⟩ := HR2.out.four
      obtain ⟨⟨d0, d1, d2, d3⟩, f0, f1, f2, f3⟩ := HD2.out.four
      clear hb2 HA
      go_wp2
      refine bodyPost_ret (v := .tuple #[.agg #[.int .i64 0, .int .i64 0, .int .i64 0, .slice none 0 0], .int .i64 rr]) ?_ rfl ⟨rfl, ?_⟩
      · simp [results, Try.results9, go_sem, r0, r1, r2, r3]
      · (repeat' (first | exact HB2.out | with_reducible refine Below.drew ?_ | with_reducible refine bal ?_ _ | with_reducible refine bse ?_ (by first | (simp; done) | (simp; omega) | (show _ ≤ _; omega)) _))
    · rw [if_pos (by simp)]
      clear h0 HA
      go_enter Try.func9, Try.ntmps9
      go_wp2
      refine bodyPost_ret (v := .tuple #[.agg #[.int .i64 0, .int .i64 0, .int .i64 0, .slice none 0 0], .int .i64 4]) ?_ rfl ⟨rfl, ?_⟩
      · simp [results, Try.results9, go_sem, r0, r1, r2, r3]
      · (repeat' (first | exact HB1.out | with_reducible refine Below.drew ?_ | with_reducible refine bal ?_ _ | with_reducible refine bse ?_ (by first | (simp; done) | (simp; omega) | (show _ ≤ _; omega)) _))
  · rw [if_pos (by simp)]
    clear h0 HA
    go_enter Try.func9, Try.ntmps9
    go_wp2
    refine bodyPost_ret (v := .tuple #[.agg #[.int .i64 0, .int .i64 0, .int .i64 0, .slice none 0 0], .int .i64 4]) ?_ rfl ⟨rfl, ?_⟩
    · simp [results, Try.results9, go_sem, r0, r1, r2, r3]
    · (repeat' (first | exact HB1.out | with_reducible refine Below.drew ?_ | with_reducible refine bal ?_ _ | with_reducible refine bse ?_ (by first | (simp; done) | (simp; omega) | (show _ ≤ _; omega)) _))

set_option maxHeartbeats 16000000 in
set_option maxRecDepth 100000 in
theorem rwrite_ok (ep h u : Int) (a : Option Addr) (c : Nat) (l : List En) (epoch : Int) (o : Opd) (w : World) (hs : Lies enE w a l) (hw : o.who.size ≤ maxLen) (hg : logE l = 0) (h0 : wrE ep l epoch o = 0) :
    Calls Try.prog 9 #[.agg #[.int .i64 ep, .int .i64 h, .int .i64 u, .slice a l.length c], .int .i64 epoch, .agg #[.int .i64 o.k, .bool o.p.v, .int .u64 o.p.hi, .int .u64 o.p.lo, .int .i64 o.p.b, .bool o.a.v, .int .u64 o.a.hi, .int .u64 o.a.lo, .string o.who, .int .i64 o.pof, .int .i64 o.n]] w fun e w' => ∃ v, e = .returned (.tuple #[.agg #[.int .i64 ep, .int .i64 h, .int .i64 u, v], .int .i64 0]) ∧ w'.ownsRow w.heap.size 51 enE.k v (l.length + 1) (rowOf enE (l ++ [newE l epoch o])) ∧ Below w.heap.size w w' := by
  obtain ⟨W1, hW1⟩ : ∃ W1, W1 = ((w.alloc (.cells #[.int .i64 ep, .int .i64 h, .int .i64 u, .slice a l.length c] 26)).alloc (.cells #[.int .i64 o.k, .bool o.p.v, .int .u64 o.p.hi, .int .u64 o.p.lo, .int .i64 o.p.b, .bool o.a.v, .int .u64 o.a.hi, .int .u64 o.a.lo, .string o.who, .int .i64 o.pof, .int .i64 o.n] 33)).alloc (.cells #[.int .i64 0, .int .i64 0, .int .i64 0, .slice none 0 0] 26) := ⟨_, rfl⟩
  have hb1 : Below w.heap.size w W1 := by rw [hW1]; exact bal (bal (bal (Below.refl w.heap.size w) _) _) _
  have hD : Blk W1 w.heap.size 26 [.int .i64 ep, .int .i64 h, .int .i64 u, .slice a l.length c] := by rw [hW1]; exact ((Blk.new w _ _).below (bal (Below.refl _ _) _)).below (bal (Below.refl _ _) _)
  have hO : Blk W1 (w.heap.size + 1) 33 [.int .i64 o.k, .bool o.p.v, .int .u64 o.p.hi, .int .u64 o.p.lo, .int .i64 o.p.b, .bool o.a.v, .int .u64 o.a.hi, .int .u64 o.a.lo, .string o.who, .int .i64 o.pof, .int .i64 o.n] := by
    rw [hW1]
    have := Blk.new (w.alloc (.cells #[.int .i64 ep, .int .i64 h, .int .i64 u, .slice a l.length c] 26)) [.int .i64 o.k, .bool o.p.v, .int .u64 o.p.hi, .int .u64 o.p.lo, .int .i64 o.p.b, .bool o.a.v, .int .u64 o.a.hi, .int .u64 o.a.lo, .string o.who, .int .i64 o.pof, .int .i64 o.n] 33
    rw [show (w.alloc (.cells #[.int .i64 ep, .int .i64 h, .int .i64 u, .slice a l.length c] 26)).heap.size = w.heap.size + 1 by simp] at this
    exact this.below (bal (Below.refl _ _) _)
  have hR : Blk W1 (w.heap.size + 1 + 1) 26 [.int .i64 0, .int .i64 0, .int .i64 0, .slice none 0 0] := by
    rw [hW1]
    have := Blk.new ((w.alloc (.cells #[.int .i64 ep, .int .i64 h, .int .i64 u, .slice a l.length c] 26)).alloc (.cells #[.int .i64 o.k, .bool o.p.v, .int .u64 o.p.hi, .int .u64 o.p.lo, .int .i64 o.p.b, .bool o.a.v, .int .u64 o.a.hi, .int .u64 o.a.lo, .string o.who, .int .i64 o.pof, .int .i64 o.n] 33)) [.int .i64 0, .int .i64 0, .int .i64 0, .slice none 0 0] 26
    rw [show ((w.alloc (.cells #[.int .i64 ep, .int .i64 h, .int .i64 u, .slice a l.length c] 26)).alloc (.cells #[.int .i64 o.k, .bool o.p.v, .int .u64 o.p.hi, .int .u64 o.p.lo, .int .i64 o.p.b, .bool o.a.v, .int .u64 o.a.hi, .int .u64 o.a.lo, .string o.who, .int .i64 o.pof, .int .i64 o.n] 33)).heap.size = w.heap.size + 1 + 1 by simp] at this
    exact this
  have hz1 : W1.heap.size = w.heap.size + 1 + 1 + 1 := by rw [hW1]; simp
  have hb : ((epoch != ep) || (epoch == 0)) = false := by
    cases hh : ((epoch != ep) || (epoch == 0))
    · rfl
    · unfold wrE at h0; rw [if_pos hh] at h0; exact absurd h0 (by decide)
  have hE : addE l epoch o = 0 := by unfold wrE at h0; rw [hb, if_neg (by decide)] at h0; exact h0
  rw [Bool.or_eq_false_iff] at hb
  obtain ⟨b1, b2⟩ := hb
  have HA : Hid (Calls Try.prog 19 #[.slice a l.length c, .int .i64 epoch, .agg #[.int .i64 o.k, .bool o.p.v, .int .u64 o.p.hi, .int .u64 o.p.lo, .int .i64 o.p.b, .bool o.a.v, .int .u64 o.a.hi, .int .u64 o.a.lo, .string o.who, .int .i64 o.pof, .int .i64 o.n]] W1 fun e w' => ∃ a' c', e = .returned (.tuple #[.slice a' (l.length + 1) c', .int .i64 0]) ∧ w'.ownsRow W1.heap.size 51 enE.k (.slice a' (l.length + 1) c') (l.length + 1) (rowOf enE (l ++ [newE l epoch o])) ∧ Below W1.heap.size W1 w') := (radd_ok a c l epoch o W1 (hs.below hb1) hw hg hE).mono fun e w' h => by
    obtain ⟨v', h1, h2, h3⟩ := h
    obtain ⟨a', c', rfl⟩ := own_slice h2
    exact ⟨a', c', h1, h2, h3⟩
  have HB1 := Lib.hid hb1
  have HD1 := Lib.hid hD
  have HR1 := Lib.hid hR
  obtain ⟨⟨d0, d1, d2, d3⟩, f0, f1, f2, f3⟩ := hD.four
  obtain ⟨⟨r0, r1, r2, r3⟩, s0, s1, s2, s3⟩ := hR.four
  obtain ⟨q0, q1, q2, q3, q4, q5, q6, q7, q8, q9, q10⟩ : W1.cell? ⟨w.heap.size + 1, 0, none⟩ = some (.int .i64 o.k) ∧ W1.cell? ⟨w.heap.size + 1, 1, none⟩ = some (.bool o.p.v) ∧ W1.cell? ⟨w.heap.size + 1, 2, none⟩ = some (.int .u64 o.p.hi) ∧ W1.cell? ⟨w.heap.size + 1, 3, none⟩ = some (.int .u64 o.p.lo) ∧ W1.cell? ⟨w.heap.size + 1, 4, none⟩ = some (.int .i64 o.p.b) ∧ W1.cell? ⟨w.heap.size + 1, 5, none⟩ = some (.bool o.a.v) ∧ W1.cell? ⟨w.heap.size + 1, 6, none⟩ = some (.int .u64 o.a.hi) ∧ W1.cell? ⟨w.heap.size + 1, 7, none⟩ = some (.int .u64 o.a.lo) ∧ W1.cell? ⟨w.heap.size + 1, 8, none⟩ = some (.string o.who) ∧ W1.cell? ⟨w.heap.size + 1, 9, none⟩ = some (.int .i64 o.pof) ∧ W1.cell? ⟨w.heap.size + 1, 10, none⟩ = some (.int .i64 o.n) := ⟨hO.cell 0 _ rfl, hO.cell 1 _ rfl, hO.cell 2 _ rfl, hO.cell 3 _ rfl, hO.cell 4 _ rfl, hO.cell 5 _ rfl, hO.cell 6 _ rfl, hO.cell 7 _ rfl, hO.cell 8 _ rfl, hO.cell 9 _ rfl, hO.cell 10 _ rfl⟩
  have Hz1 := Lib.hid hz1
  rw [hW1] at HA HB1 HD1 HR1 d0 d1 d2 d3 f0 f1 f2 f3 r0 r1 r2 r3 s0 s1 s2 s3 q0 q1 q2 q3 q4 q5 q6 q7 q8 q9 q10 Hz1
  clear hb1 hD hO hR hW1 hz1 hs W1
  generalize rowOf enE (l ++ [newE l epoch o]) = row at *
  generalize o.k = y0 at *
  generalize o.p.v = y1 at *
  generalize o.p.hi = y2 at *
  generalize o.p.lo = y3 at *
  generalize o.p.b = y4 at *
  generalize o.a.v = y5 at *
  generalize o.a.hi = y6 at *
  generalize o.a.lo = y7 at *
  generalize o.who = y8 at *
  generalize o.pof = y9 at *
  generalize o.n = y10 at *
  generalize l.length = N at *
  clear hw hg h0 hE
  go_enter Try.func9, Try.ntmps9
  go_wp2_with fail
  refine HA.out.mono ?_
  rintro e w2 ⟨a5, c5, rfl, ho, hb2⟩
  have HB2 := Lib.hid (btr HB1.out hb2)
  have HR2 := Lib.hid (HR1.out.below hb2)
  have HD2 := Lib.hid (HD1.out.below hb2)
  have hz2 : w.heap.size + 1 + 1 < w2.heap.size := HR2.out.lt
  obtain ⟨⟨r0, r1, r2, r3⟩, s0, s1, s2, s3⟩ := HR2.out.four
  obtain ⟨⟨d0, d1, d2, d3⟩, f0, f1, f2, f3⟩ := HD2.out.four
  have ho' := ho
  rw [Hz1.out] at ho'
  have HO5 := Lib.hid (own_st (own_st (own_st (own_st (own_st ho' (b := w.heap.size) (j := 3) (by omega) (.slice a5 (N + 1) c5)) (b := w.heap.size + 1 + 1) (j := 0) (by omega) (.int .i64 ep)) (b := w.heap.size + 1 + 1) (j := 1) (by omega) (.int .i64 h)) (b := w.heap.size + 1 + 1) (j := 2) (by omega) (.int .i64 u)) (b := w.heap.size + 1 + 1) (j := 3) (by omega) (.slice a5 (N + 1) c5))
  clear hb2 HA ho ho'
  go_wp2
  refine bodyPost_ret (v := .tuple #[.agg #[.int .i64 ep, .int .i64 h, .int .i64 u, .slice a5 (N + 1) c5], .int .i64 0]) ?_ rfl ⟨_, rfl, ?_, ?_⟩
  · simp [results, Try.results9, go_sem, r0, r1, r2, r3]
  · exact row_base HO5.out (by omega)
  · (repeat' (first | exact HB2.out | with_reducible refine Below.drew ?_ | with_reducible refine bal ?_ _ | with_reducible refine bse ?_ (by first | (simp; done) | (simp; omega) | (show _ ≤ _; omega)) _))
end Go.Proofs.Ytjainfehlbfiaaa

namespace Go.Proofs.Ytjainfehlbfiaaa
open Go.RowKit

/-- The disk that Write leaves. -/
def writeD (d : Dk) (epoch : Int) (o : Opd) : Dk := if writeE d epoch o = 0 then ⟨d.ep, d.h, d.u, d.l ++ [newE d.l epoch o]⟩ else noDk
theorem fwrite_any (d : Dk) (a : Option Addr) (c : Nat) (epoch : Int) (o : Opd) (w : World) (hc : d.l.length ≤ c) (hs : Lies enE w a d.l) :
    Calls Try.prog 6 #[.agg #[.int .i64 d.ep, .int .i64 d.h, .int .i64 d.u, .slice a d.l.length c], .int .i64 epoch, .agg #[.int .i64 o.k, .bool o.p.v, .int .u64 o.p.hi, .int .u64 o.p.lo, .int .i64 o.p.b, .bool o.a.v, .int .u64 o.a.hi, .int .u64 o.a.lo, .string o.who, .int .i64 o.pof, .int .i64 o.n]] w fun e w' => ∃ a' c', e = .returned (.tuple #[.agg #[.int .i64 (writeD d epoch o).ep, .int .i64 (writeD d epoch o).h, .int .i64 (writeD d epoch o).u, .slice a' (writeD d epoch o).l.length c'], .int .i64 (writeE d epoch o)]) ∧ (writeD d epoch o).l.length ≤ c' ∧ Lies enE w' a' (writeD d epoch o).l ∧ (∀ g o, a' = some ⟨g, o, none⟩ → w.heap.size ≤ g) ∧ Below w.heap.size w w' := by
  by_cases h0 : writeE d epoch o = 0
  · refine (fwrite_ok d a c epoch o w hc hs h0).mono ?_
    rintro e w' ⟨v, rfl, ho, hb⟩
    have hn : (d.l ++ [newE d.l epoch o]).length = d.l.length + 1 := by simp
    rw [← hn] at ho
    obtain ⟨a', c', rfl, hc', hl, hg⟩ := own_open ho
    rw [show writeD d epoch o = ⟨d.ep, d.h, d.u, d.l ++ [newE d.l epoch o]⟩ by unfold writeD; rw [if_pos h0], h0]
    exact ⟨a', c', rfl, hc', hl, hg, hb⟩
  · refine (fwrite_bad d a c epoch o w hc hs h0).mono ?_
    rintro e w' ⟨rfl, hb⟩
    rw [show writeD d epoch o = noDk by unfold writeD; rw [if_neg h0]]
    exact ⟨none, 0, rfl, Nat.le_refl _, Lies.nil _ _ _, fun g o e => by simp at e, hb⟩
theorem lies_put {α : Type} {E : Enc α} {W : World} {a : Option Addr} {l : List α} (h : Lies E W a l) {b : Nat} (hg : ∀ g o, a = some ⟨g, o, none⟩ → b < g) (j : Nat) (u : Value) : Lies E (W.setCell ⟨b, j, none⟩ u) a l := by
  intro i hi
  obtain ⟨g, o, e, hl, c⟩ := h i hi
  refine ⟨g, o, e, by simpa using hl, fun k v hv => ?_⟩
  have hne : g ≠ b := fun h' => by have := hg g o e; omega
  have := heap_setCell_other W ⟨b, j, none⟩ g u hne
  rw [← c k v hv]
  simp [World.cell?, this]
theorem rwrite_any (d : Dk) (a : Option Addr) (c : Nat) (epoch : Int) (o : Opd) (w : World) (hs : Lies enE w a d.l) (hw : o.who.size ≤ maxLen) (hd : d.bad = 0) :
    Calls Try.prog 9 #[.agg #[.int .i64 d.ep, .int .i64 d.h, .int .i64 d.u, .slice a d.l.length c], .int .i64 epoch, .agg #[.int .i64 o.k, .bool o.p.v, .int .u64 o.p.hi, .int .u64 o.p.lo, .int .i64 o.p.b, .bool o.a.v, .int .u64 o.a.hi, .int .u64 o.a.lo, .string o.who, .int .i64 o.pof, .int .i64 o.n]] w fun e w' => ∃ a' c', e = .returned (.tuple #[.agg #[.int .i64 (writeD d epoch o).ep, .int .i64 (writeD d epoch o).h, .int .i64 (writeD d epoch o).u, .slice a' (writeD d epoch o).l.length c'], .int .i64 (writeE d epoch o)]) ∧ Lies enE w' a' (writeD d epoch o).l ∧ (∀ g o, a' = some ⟨g, o, none⟩ → w.heap.size ≤ g) ∧ Below w.heap.size w w' := by
  have hg : logE d.l = 0 := by
    have h1 := ((bad_iff d).1 hd)
    unfold Dk.bad diskE at hd
    by_cases hk : lockE d.ep d.h d.u = 0
    · rw [if_pos hk] at hd; unfold dlogE at hd; by_cases hl : logE d.l = 0; exact hl; rw [if_neg hl] at hd; exact absurd hd hl
    · rw [if_neg hk] at hd; exact absurd hd hk
  have he : writeE d epoch o = wrE d.ep d.l epoch o := by unfold writeE; rw [if_pos hd]
  by_cases h0 : writeE d epoch o = 0
  · refine (rwrite_ok d.ep d.h d.u a c d.l epoch o w hs hw hg (he.symm.trans h0)).mono ?_
    rintro e w' ⟨v, rfl, ho, hb⟩
    have hn : (d.l ++ [newE d.l epoch o]).length = d.l.length + 1 := by simp
    rw [← hn] at ho
    obtain ⟨a', c', rfl, hc', hl, hg⟩ := own_open ho
    rw [show writeD d epoch o = ⟨d.ep, d.h, d.u, d.l ++ [newE d.l epoch o]⟩ by unfold writeD; rw [if_pos h0], h0]
    exact ⟨a', c', rfl, hl, hg, hb⟩
  · refine (rwrite_bad d.ep d.h d.u a c d.l epoch o w hs hw hg (fun h => h0 (he.trans h))).mono ?_
    rintro e w' ⟨rfl, hb⟩
    rw [show writeD d epoch o = noDk by unfold writeD; rw [if_neg h0], he]
    exact ⟨none, 0, rfl, Lies.nil _ _ _, fun g o e => by simp at e, hb⟩
theorem racq_any (d : Dk) (a : Option Addr) (c : Nat) (who now : Int) (w : World) (hd : d.bad = 0) (h1 : 1 ≤ who) (h2 : who ≤ 2) (n0 : 0 ≤ now) (n1 : now ≤ 9999) :
    Calls Try.prog 8 #[.agg #[.int .i64 d.ep, .int .i64 d.h, .int .i64 d.u, .slice a d.l.length c], .int .i64 who, .int .i64 now] w fun e w' => ∃ a' c', e = .returned (.tuple #[.agg #[.int .i64 (acqD d who now).ep, .int .i64 (acqD d who now).h, .int .i64 (acqD d who now).u, .slice a' (acqD d who now).l.length c'], .int .i64 (acqE d who now)]) ∧ (∀ W : World, Lies enE W a d.l → Lies enE W a' (acqD d who now).l) ∧ Below w.heap.size w w' := by
  have he := acq_mk hd h1 h2 n0 n1
  have hp := (disk_ep (show diskE d.ep d.h d.u d.l = 0 from hd)).1
  by_cases h0 : acqE d who now = 0
  · refine (racq_ok d.ep d.h d.u who now a d.l.length c w hp.1 hp.2 n0 n1 (he.symm.trans h0)).mono ?_
    rintro e w' ⟨rfl, hb⟩
    rw [show acqD d who now = ⟨lendP d.ep d.h d.u now, who, now + 10, d.l⟩ by unfold acqD; rw [if_pos h0], h0]
    exact ⟨a, c, rfl, fun _ h => h, hb⟩
  · refine (racq_bad d.ep d.h d.u who now (.slice a d.l.length c) a d.l.length c w hp.1 hp.2 n0 n1 (fun h => h0 (he.trans h))).mono ?_
    rintro e w' ⟨rfl, hb⟩
    rw [show acqD d who now = noDk by unfold acqD; rw [if_neg h0], he]
    exact ⟨none, 0, rfl, fun W _ => Lies.nil _ _ _, hb⟩
end Go.Proofs.Ytjainfehlbfiaaa
