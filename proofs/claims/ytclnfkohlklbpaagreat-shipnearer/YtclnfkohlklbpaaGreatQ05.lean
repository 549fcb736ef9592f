/- log.Add. -/
import Derived.Test.YtclnfkohlklbpaaGreatQ04
set_option linter.unusedVariables false
set_option linter.unusedSimpArgs false
namespace Go.Proofs.YtclnfkohlklbpaaGreat
open Go.RowKit

/-- The entry that comes behind all. -/
def newE (l : List En) (ep : Int) (o : Opd) : En := ⟨(l.length : Int) + 1, ep, o⟩
/-- What Add says. -/
def addE (l : List En) (ep : Int) (o : Opd) : Int := if logE l = 0 then (if follE l ⟨(l.length : Int) + 1, ep, o⟩ = 0 then (if l.length < 30 then 0 else 2) else follE l ⟨(l.length : Int) + 1, ep, o⟩) else logE l
set_option maxHeartbeats 16000000 in
set_option maxRecDepth 100000 in
theorem add_bad (a : Option Addr) (c : Nat) (l : List En) (ep : Int) (o : Opd) (w : World) (hc : l.length ≤ c) (hs : Lies enE w a l) (h0 : ¬ addE l ep o = 0) :
    Calls Tryz.prog 13 #[.slice a l.length c, .int .i64 ep, .agg #[.int .i64 o.k, .bool o.p.v, .int .u64 o.p.hi, .int .u64 o.p.lo, .int .i64 o.p.b, .bool o.a.v, .int .u64 o.a.hi, .int .u64 o.a.lo, .string o.who, .int .i64 o.pof, .int .i64 o.n]] w fun e w' => e = .returned (.tuple #[.slice none 0 0, .int .i64 (addE l ep o)]) ∧ Below w.heap.size w w' := by
  have HC := Lib.hid (lcheck_any a c l (w.alloc (.cells #[.int .i64 o.k, .bool o.p.v, .int .u64 o.p.hi, .int .u64 o.p.lo, .int .i64 o.p.b, .bool o.a.v, .int .u64 o.a.hi, .int .u64 o.a.lo, .string o.who, .int .i64 o.pof, .int .i64 o.n] 42)) hc (hs.below (bal (Below.refl _ _) _)))
  have HF : Hid (∀ W, Below w.heap.size w W → l.length ≤ 30 → Calls Tryz.prog 20 #[.slice a l.length c, .agg #[.int .i64 ((l.length : Int) + 1), .int .i64 ep, .int .i64 o.k, .bool o.p.v, .int .u64 o.p.hi, .int .u64 o.p.lo, .int .i64 o.p.b, .bool o.a.v, .int .u64 o.a.hi, .int .u64 o.a.lo, .string o.who, .int .i64 o.pof, .int .i64 o.n]] W fun e w' => e = .returned (.int .i64 (follE l ⟨(l.length : Int) + 1, ep, o⟩)) ∧ Below W.heap.size W w') := fun W hW hl => follows_any a c l ⟨(l.length : Int) + 1, ep, o⟩ W (by omega) (hs.below hW)
  have HB0 := Lib.hid (bal (Below.refl w.heap.size w) (.cells #[.int .i64 o.k, .bool o.p.v, .int .u64 o.p.hi, .int .u64 o.p.lo, .int .i64 o.p.b, .bool o.a.v, .int .u64 o.a.hi, .int .u64 o.a.lo, .string o.who, .int .i64 o.pof, .int .i64 o.n] 42))
  have HO0 := Lib.hid (HasL.new w [.int .i64 o.k, .bool o.p.v, .int .u64 o.p.hi, .int .u64 o.p.lo, .int .i64 o.p.b, .bool o.a.v, .int .u64 o.a.hi, .int .u64 o.a.lo, .string o.who, .int .i64 o.pof, .int .i64 o.n] 42)
  have HLe : Hid (logE l = 0 → l.length ≤ 30) := logE_len
  unfold addE at h0 ⊢
  generalize follE l ⟨(l.length : Int) + 1, ep, o⟩ = r2 at *
  generalize logE l = r at *
  generalize o.k = y0 at *
  generalize o.p.v = y1 at *
  generalize o.p.hi = y2 at *
  generalize o.p.lo = y3 at *
  generalize o.p.b = y4 at *
  generalize o.a.v = y5 at *
  generalize o.a.hi = y6 at *
  generalize o.a.lo = y7 at *
  generalize o.who = y8 at *
  generalize o.pof = y9 at *
  generalize o.n = y10 at *
  generalize l.length = N at *
  clear hs hc
  by_cases hr : r = 0
  · subst hr
    rw [if_pos rfl] at h0
    rw [if_pos rfl]
    have hN := HLe.out rfl
    have hN0 : (0 : Int) ≤ (N : Int) := by omega
    have hN3 : (N : Int) ≤ 30 := by omega
    by_cases h2 : r2 = 0
    · subst h2
      rw [if_pos rfl] at h0
      by_cases h3 : N < 30
      · rw [if_pos h3] at h0; exact absurd rfl h0
      rw [if_pos rfl, if_neg h3]
      have hg : (30 : Int) ≤ (N : Int) := by omega
      clear h0 h3
      go_enter Tryz.func13, Tryz.ntmps13
      go_wp2_with fail
      refine HC.out.mono ?_
      rintro e w2 ⟨rfl, hb2⟩
      have HB2 := Lib.hid (btr HB0.out hb2)
      obtain ⟨c0, c1, c2, c3, c4, c5, c6, c7, c8, c9, c10⟩ : w2.cell? ⟨w.heap.size, 0, none⟩ = some (.int .i64 y0) ∧ w2.cell? ⟨w.heap.size, 1, none⟩ = some (.bool y1) ∧ w2.cell? ⟨w.heap.size, 2, none⟩ = some (.int .u64 y2) ∧ w2.cell? ⟨w.heap.size, 3, none⟩ = some (.int .u64 y3) ∧ w2.cell? ⟨w.heap.size, 4, none⟩ = some (.int .i64 y4) ∧ w2.cell? ⟨w.heap.size, 5, none⟩ = some (.bool y5) ∧ w2.cell? ⟨w.heap.size, 6, none⟩ = some (.int .u64 y6) ∧ w2.cell? ⟨w.heap.size, 7, none⟩ = some (.int .u64 y7) ∧ w2.cell? ⟨w.heap.size, 8, none⟩ = some (.string y8) ∧ w2.cell? ⟨w.heap.size, 9, none⟩ = some (.int .i64 y9) ∧ w2.cell? ⟨w.heap.size, 10, none⟩ = some (.int .i64 y10) := (fun h => ⟨h 0 _ rfl, h 1 _ rfl, h 2 _ rfl, h 3 _ rfl, h 4 _ rfl, h 5 _ rfl, h 6 _ rfl, h 7 _ rfl, h 8 _ rfl, h 9 _ rfl, h 10 _ rfl⟩) (HO0.out.below hb2).1
      have hz2 := (HO0.out.below hb2).2
      clear hb2 HC HO0
      go_wp2_with fail
      refine (HF.out _ (by exact bal HB2.out _) hN).mono ?_
      rintro e w3 ⟨rfl, hb3⟩
      go_wp2
      go_ret2
      exact ⟨rfl, btr (bal HB2.out _) hb3⟩
    · rw [if_neg h2]
      have hI : (r2 != 0) = true := by rw [bne_iff_ne]; exact h2
      clear h0 h2
      go_enter Tryz.func13, Tryz.ntmps13
      go_wp2_with fail
      refine HC.out.mono ?_
      rintro e w2 ⟨rfl, hb2⟩
      have HB2 := Lib.hid (btr HB0.out hb2)
      obtain ⟨c0, c1, c2, c3, c4, c5, c6, c7, c8, c9, c10⟩ : w2.cell? ⟨w.heap.size, 0, none⟩ = some (.int .i64 y0) ∧ w2.cell? ⟨w.heap.size, 1, none⟩ = some (.bool y1) ∧ w2.cell? ⟨w.heap.size, 2, none⟩ = some (.int .u64 y2) ∧ w2.cell? ⟨w.heap.size, 3, none⟩ = some (.int .u64 y3) ∧ w2.cell? ⟨w.heap.size, 4, none⟩ = some (.int .i64 y4) ∧ w2.cell? ⟨w.heap.size, 5, none⟩ = some (.bool y5) ∧ w2.cell? ⟨w.heap.size, 6, none⟩ = some (.int .u64 y6) ∧ w2.cell? ⟨w.heap.size, 7, none⟩ = some (.int .u64 y7) ∧ w2.cell? ⟨w.heap.size, 8, none⟩ = some (.string y8) ∧ w2.cell? ⟨w.heap.size, 9, none⟩ = some (.int .i64 y9) ∧ w2.cell? ⟨w.heap.size, 10, none⟩ = some (.int .i64 y10) := (fun h => ⟨h 0 _ rfl, h 1 _ rfl, h 2 _ rfl, h 3 _ rfl, h 4 _ rfl, h 5 _ rfl, h 6 _ rfl, h 7 _ rfl, h 8 _ rfl, h 9 _ rfl, h 10 _ rfl⟩) (HO0.out.below hb2).1
      have hz2 := (HO0.out.below hb2).2
      clear hb2 HC HO0
      go_wp2_with fail
      refine (HF.out _ (by exact bal HB2.out _) hN).mono ?_
      rintro e w3 ⟨rfl, hb3⟩
      go_wp2
      go_ret2
      exact ⟨rfl, btr (bal HB2.out _) hb3⟩
  · rw [if_neg hr]
    have hI : (r != 0) = true := by rw [bne_iff_ne]; exact hr
    clear hr h0 HF
    go_enter Tryz.func13, Tryz.ntmps13
    go_wp2_with fail
    refine HC.out.mono ?_
    rintro e w2 ⟨rfl, hb2⟩
    go_wp2
    go_ret2
    exact ⟨rfl, btr HB0.out hb2⟩

theorem keepE2 {w W W' : World} {b : Nat} {l : List Value} (h : HasL W b 0 l ∧ Below w.heap.size w W) (hb : Below W.heap.size W W') : HasL W' b 0 l ∧ Below w.heap.size w W' := ⟨h.1.below hb, btr h.2 hb⟩
theorem at_wld (W : World) {q : Prop} [Decidable q] {P : Program} {o : Oper} {a : Act} {w : World} {K : Act → World → Prop} {Q : Exit → Act → World → Prop} {E : Prop} (hw : w = W) (h : if q then Oper.wp P o a W K Q else E) : if q then Oper.wp P o a w K Q else E := by rw [hw]; exact h
theorem news1 {W : World} {vb t : Nat} {l : List Value} (hx : W.heap[vb]? = some (.cells l.toArray t (0, 0))) : ∀ j u, l[j]? = some u → W.cell? ((⟨vb, 0, none⟩ : Addr).add j) = some u := by
  intro j u hj
  rw [add_addr, Nat.zero_add]
  simp only [World.cell?, hx]
  simpa using hj
set_option maxHeartbeats 32000000 in
set_option maxRecDepth 100000 in
theorem add_ok (a : Option Addr) (c : Nat) (l : List En) (ep : Int) (o : Opd) (w : World) (hc : l.length ≤ c) (hs : Lies enE w a l) (h0 : addE l ep o = 0) :
    Calls Tryz.prog 13 #[.slice a l.length c, .int .i64 ep, .agg #[.int .i64 o.k, .bool o.p.v, .int .u64 o.p.hi, .int .u64 o.p.lo, .int .i64 o.p.b, .bool o.a.v, .int .u64 o.a.hi, .int .u64 o.a.lo, .string o.who, .int .i64 o.pof, .int .i64 o.n]] w fun e w' => ∃ v', e = .returned (.tuple #[v', .int .i64 0]) ∧ w'.ownsRow w.heap.size 55 enE.k v' (l ++ [newE l ep o]).length (rowOf enE (l ++ [newE l ep o])) ∧ Below w.heap.size w w' := by
  have h1 : logE l = 0 := by unfold addE at h0; by_cases h : logE l = 0; exact h; rw [if_neg h] at h0; exact h0
  have h2 : follE l ⟨(l.length : Int) + 1, ep, o⟩ = 0 := by unfold addE at h0; rw [if_pos h1] at h0; by_cases h : follE l ⟨(l.length : Int) + 1, ep, o⟩ = 0; exact h; rw [if_neg h] at h0; exact h0
  have h3 : l.length < 30 := by unfold addE at h0; rw [if_pos h1, if_pos h2] at h0; by_cases h : l.length < 30; exact h; rw [if_neg h] at h0; exact absurd h0 (by decide)
  clear h0
  have HC := Lib.hid (lcheck_any a c l (w.alloc (.cells #[.int .i64 o.k, .bool o.p.v, .int .u64 o.p.hi, .int .u64 o.p.lo, .int .i64 o.p.b, .bool o.a.v, .int .u64 o.a.hi, .int .u64 o.a.lo, .string o.who, .int .i64 o.pof, .int .i64 o.n] 42)) hc (hs.below (bal (Below.refl _ _) _)))
  have HF : Hid (∀ W, Below w.heap.size w W → l.length ≤ 30 → Calls Tryz.prog 20 #[.slice a l.length c, .agg #[.int .i64 ((l.length : Int) + 1), .int .i64 ep, .int .i64 o.k, .bool o.p.v, .int .u64 o.p.hi, .int .u64 o.p.lo, .int .i64 o.p.b, .bool o.a.v, .int .u64 o.a.hi, .int .u64 o.a.lo, .string o.who, .int .i64 o.pof, .int .i64 o.n]] W fun e w' => e = .returned (.int .i64 (follE l ⟨(l.length : Int) + 1, ep, o⟩)) ∧ Below W.heap.size W w') := fun W hW hl => follows_any a c l ⟨(l.length : Int) + 1, ep, o⟩ W (by omega) (hs.below hW)
  have HB0 := Lib.hid (bal (Below.refl w.heap.size w) (.cells #[.int .i64 o.k, .bool o.p.v, .int .u64 o.p.hi, .int .u64 o.p.lo, .int .i64 o.p.b, .bool o.a.v, .int .u64 o.a.hi, .int .u64 o.a.lo, .string o.who, .int .i64 o.pof, .int .i64 o.n] 42))
  have HO0 := Lib.hid (HasL.new w [.int .i64 o.k, .bool o.p.v, .int .u64 o.p.hi, .int .u64 o.p.lo, .int .i64 o.p.b, .bool o.a.v, .int .u64 o.a.hi, .int .u64 o.a.lo, .string o.who, .int .i64 o.pof, .int .i64 o.n] 42)
  rw [h1] at HC
  rw [h2] at HF
  have HCl : Hid (∀ W, Below w.heap.size w W → Calls Tryz.prog 17 #[.slice a l.length c] W fun e w' => ∃ v', e = .returned v' ∧ w'.ownsRow W.heap.size 55 enE.k v' l.length (rowOf enE l) ∧ Below W.heap.size W w') := fun W hW => cloneE_any a c l W (by omega) (hs.below hW)
  obtain ⟨i0, hi0, hz0, hz1, hz2⟩ := info_parts infoE
  have HRow : Hid (rowOf enE (l ++ [newE l ep o]) = rowOf enE l ++ [.int .i64 ((l.length : Int) + 1), .int .i64 ep, .int .i64 o.k, .bool o.p.v, .int .u64 o.p.hi, .int .u64 o.p.lo, .int .i64 o.p.b, .bool o.a.v, .int .u64 o.a.hi, .int .u64 o.a.lo, .string o.who, .int .i64 o.pof, .int .i64 o.n]) := by rw [Hid, rowOf_append]; rfl
  have HLen : Hid ((l ++ [newE l ep o]).length = l.length + 1) := by simp [Hid]
  rw [HRow.out, HLen.out]
  have HE1 : Hid (∀ u ∈ ([.int .i64 ((l.length : Int) + 1), .int .i64 ep, .int .i64 o.k, .bool o.p.v, .int .u64 o.p.hi, .int .u64 o.p.lo, .int .i64 o.p.b, .bool o.a.v, .int .u64 o.a.hi, .int .u64 o.a.lo, .string o.who, .int .i64 o.pof, .int .i64 o.n] : List Value), u.oneCell' = true) := enE.one ⟨(l.length : Int) + 1, ep, o⟩
  generalize rowOf enE l = row at *
  clear HRow HLen h1 h2
  generalize o.k = y0 at *
  generalize o.p.v = y1 at *
  generalize o.p.hi = y2 at *
  generalize o.p.lo = y3 at *
  generalize o.p.b = y4 at *
  generalize o.a.v = y5 at *
  generalize o.a.hi = y6 at *
  generalize o.a.lo = y7 at *
  generalize o.who = y8 at *
  generalize o.pof = y9 at *
  generalize o.n = y10 at *
  obtain ⟨N, hN⟩ : ∃ N, N = l.length := ⟨_, rfl⟩
  rw [← hN] at HC HF HCl hc h3 HE1 ⊢
  clear hN hs hc
  have hN0 : (0 : Int) ≤ (N : Int) := by omega
  have hN3 : (N : Int) ≤ 30 := by omega
  have hN4 : ¬ (30 : Int) ≤ (N : Int) := by omega
  have hN5 : decide ((30 : Int) ≤ (N : Int)) = false := decide_eq_false hN4
  go_enter Tryz.func13, Tryz.ntmps13
  go_wp2_with fail
  refine HC.out.mono ?_
  rintro e w2 ⟨rfl, hb2⟩
  have HB2 := Lib.hid (btr HB0.out hb2)
  obtain ⟨c0, c1, c2, c3, c4, c5, c6, c7, c8, c9, c10⟩ : w2.cell? ⟨w.heap.size, 0, none⟩ = some (.int .i64 y0) ∧ w2.cell? ⟨w.heap.size, 1, none⟩ = some (.bool y1) ∧ w2.cell? ⟨w.heap.size, 2, none⟩ = some (.int .u64 y2) ∧ w2.cell? ⟨w.heap.size, 3, none⟩ = some (.int .u64 y3) ∧ w2.cell? ⟨w.heap.size, 4, none⟩ = some (.int .i64 y4) ∧ w2.cell? ⟨w.heap.size, 5, none⟩ = some (.bool y5) ∧ w2.cell? ⟨w.heap.size, 6, none⟩ = some (.int .u64 y6) ∧ w2.cell? ⟨w.heap.size, 7, none⟩ = some (.int .u64 y7) ∧ w2.cell? ⟨w.heap.size, 8, none⟩ = some (.string y8) ∧ w2.cell? ⟨w.heap.size, 9, none⟩ = some (.int .i64 y9) ∧ w2.cell? ⟨w.heap.size, 10, none⟩ = some (.int .i64 y10) := (fun h => ⟨h 0 _ rfl, h 1 _ rfl, h 2 _ rfl, h 3 _ rfl, h 4 _ rfl, h 5 _ rfl, h 6 _ rfl, h 7 _ rfl, h 8 _ rfl, h 9 _ rfl, h 10 _ rfl⟩) (HO0.out.below hb2).1
  have hz2' := (HO0.out.below hb2).2
  clear hb2 HC HO0
  go_wp2_with fail
  refine (HF.out _ (by exact bal HB2.out _) (by omega)).mono ?_
  rintro e W ⟨rfl, hb3⟩
  have SW := Lib.hid (keepE2 (w := w) (And.intro (HasL.new w2 [.int .i64 ((N : Int) + 1), .int .i64 ep, .int .i64 y0, .bool y1, .int .u64 y2, .int .u64 y3, .int .i64 y4, .bool y5, .int .u64 y6, .int .u64 y7, .string y8, .int .i64 y9, .int .i64 y10] 55) (bal HB2.out _)) hb3)
  clear hb3 HF c0 c1 c2 c3 c4 c5 c6 c7 c8 c9 c10 hz2'
  have TW : Hid ((W.cell? ⟨w2.heap.size, 0, none⟩ = some (.int .i64 ((N : Int) + 1)) ∧ W.cell? ⟨w2.heap.size, 1, none⟩ = some (.int .i64 ep) ∧ W.cell? ⟨w2.heap.size, 2, none⟩ = some (.int .i64 y0) ∧ W.cell? ⟨w2.heap.size, 3, none⟩ = some (.bool y1) ∧ W.cell? ⟨w2.heap.size, 4, none⟩ = some (.int .u64 y2) ∧ W.cell? ⟨w2.heap.size, 5, none⟩ = some (.int .u64 y3) ∧ W.cell? ⟨w2.heap.size, 6, none⟩ = some (.int .i64 y4) ∧ W.cell? ⟨w2.heap.size, 7, none⟩ = some (.bool y5) ∧ W.cell? ⟨w2.heap.size, 8, none⟩ = some (.int .u64 y6) ∧ W.cell? ⟨w2.heap.size, 9, none⟩ = some (.int .u64 y7) ∧ W.cell? ⟨w2.heap.size, 10, none⟩ = some (.string y8) ∧ W.cell? ⟨w2.heap.size, 11, none⟩ = some (.int .i64 y9) ∧ W.cell? ⟨w2.heap.size, 12, none⟩ = some (.int .i64 y10) ∧ w2.heap.size < W.heap.size) ∧ Below w.heap.size w W) := ⟨⟨SW.out.1.1 0 _ rfl, SW.out.1.1 1 _ rfl, SW.out.1.1 2 _ rfl, SW.out.1.1 3 _ rfl, SW.out.1.1 4 _ rfl, SW.out.1.1 5 _ rfl, SW.out.1.1 6 _ rfl, SW.out.1.1 7 _ rfl, SW.out.1.1 8 _ rfl, SW.out.1.1 9 _ rfl, SW.out.1.1 10 _ rfl, SW.out.1.1 11 _ rfl, SW.out.1.1 12 _ rfl, SW.out.1.2⟩, SW.out.2⟩
  have T0 : Hid ((W.drew.cell? ⟨w2.heap.size, 0, none⟩ = some (.int .i64 ((N : Int) + 1)) ∧ W.drew.cell? ⟨w2.heap.size, 1, none⟩ = some (.int .i64 ep) ∧ W.drew.cell? ⟨w2.heap.size, 2, none⟩ = some (.int .i64 y0) ∧ W.drew.cell? ⟨w2.heap.size, 3, none⟩ = some (.bool y1) ∧ W.drew.cell? ⟨w2.heap.size, 4, none⟩ = some (.int .u64 y2) ∧ W.drew.cell? ⟨w2.heap.size, 5, none⟩ = some (.int .u64 y3) ∧ W.drew.cell? ⟨w2.heap.size, 6, none⟩ = some (.int .i64 y4) ∧ W.drew.cell? ⟨w2.heap.size, 7, none⟩ = some (.bool y5) ∧ W.drew.cell? ⟨w2.heap.size, 8, none⟩ = some (.int .u64 y6) ∧ W.drew.cell? ⟨w2.heap.size, 9, none⟩ = some (.int .u64 y7) ∧ W.drew.cell? ⟨w2.heap.size, 10, none⟩ = some (.string y8) ∧ W.drew.cell? ⟨w2.heap.size, 11, none⟩ = some (.int .i64 y9) ∧ W.drew.cell? ⟨w2.heap.size, 12, none⟩ = some (.int .i64 y10) ∧ w2.heap.size < W.drew.heap.size) ∧ Below w.heap.size w W.drew) := ⟨TW.out.1, TW.out.2.drew⟩
  have TB : Hid (((W.alloc (.cells #[.int .i64 ((N : Int) + 1), .int .i64 ep, .int .i64 y0, .bool y1, .int .u64 y2, .int .u64 y3, .int .i64 y4, .bool y5, .int .u64 y6, .int .u64 y7, .string y8, .int .i64 y9, .int .i64 y10] 55)).drew.cell? ⟨w2.heap.size, 0, none⟩ = some (.int .i64 ((N : Int) + 1)) ∧ (W.alloc (.cells #[.int .i64 ((N : Int) + 1), .int .i64 ep, .int .i64 y0, .bool y1, .int .u64 y2, .int .u64 y3, .int .i64 y4, .bool y5, .int .u64 y6, .int .u64 y7, .string y8, .int .i64 y9, .int .i64 y10] 55)).drew.cell? ⟨w2.heap.size, 1, none⟩ = some (.int .i64 ep) ∧ (W.alloc (.cells #[.int .i64 ((N : Int) + 1), .int .i64 ep, .int .i64 y0, .bool y1, .int .u64 y2, .int .u64 y3, .int .i64 y4, .bool y5, .int .u64 y6, .int .u64 y7, .string y8, .int .i64 y9, .int .i64 y10] 55)).drew.cell? ⟨w2.heap.size, 2, none⟩ = some (.int .i64 y0) ∧ (W.alloc (.cells #[.int .i64 ((N : Int) + 1), .int .i64 ep, .int .i64 y0, .bool y1, .int .u64 y2, .int .u64 y3, .int .i64 y4, .bool y5, .int .u64 y6, .int .u64 y7, .string y8, .int .i64 y9, .int .i64 y10] 55)).drew.cell? ⟨w2.heap.size, 3, none⟩ = some (.bool y1) ∧ (W.alloc (.cells #[.int .i64 ((N : Int) + 1), .int .i64 ep, .int .i64 y0, .bool y1, .int .u64 y2, .int .u64 y3, .int .i64 y4, .bool y5, .int .u64 y6, .int .u64 y7, .string y8, .int .i64 y9, .int .i64 y10] 55)).drew.cell? ⟨w2.heap.size, 4, none⟩ = some (.int .u64 y2) ∧ (W.alloc (.cells #[.int .i64 ((N : Int) + 1), .int .i64 ep, .int .i64 y0, .bool y1, .int .u64 y2, .int .u64 y3, .int .i64 y4, .bool y5, .int .u64 y6, .int .u64 y7, .string y8, .int .i64 y9, .int .i64 y10] 55)).drew.cell? ⟨w2.heap.size, 5, none⟩ = some (.int .u64 y3) ∧ (W.alloc (.cells #[.int .i64 ((N : Int) + 1), .int .i64 ep, .int .i64 y0, .bool y1, .int .u64 y2, .int .u64 y3, .int .i64 y4, .bool y5, .int .u64 y6, .int .u64 y7, .string y8, .int .i64 y9, .int .i64 y10] 55)).drew.cell? ⟨w2.heap.size, 6, none⟩ = some (.int .i64 y4) ∧ (W.alloc (.cells #[.int .i64 ((N : Int) + 1), .int .i64 ep, .int .i64 y0, .bool y1, .int .u64 y2, .int .u64 y3, .int .i64 y4, .bool y5, .int .u64 y6, .int .u64 y7, .string y8, .int .i64 y9, .int .i64 y10] 55)).drew.cell? ⟨w2.heap.size, 7, none⟩ = some (.bool y5) ∧ (W.alloc (.cells #[.int .i64 ((N : Int) + 1), .int .i64 ep, .int .i64 y0, .bool y1, .int .u64 y2, .int .u64 y3, .int .i64 y4, .bool y5, .int .u64 y6, .int .u64 y7, .string y8, .int .i64 y9, .int .i64 y10] 55)).drew.cell? ⟨w2.heap.size, 8, none⟩ = some (.int .u64 y6) ∧ (W.alloc (.cells #[.int .i64 ((N : Int) + 1), .int .i64 ep, .int .i64 y0, .bool y1, .int .u64 y2, .int .u64 y3, .int .i64 y4, .bool y5, .int .u64 y6, .int .u64 y7, .string y8, .int .i64 y9, .int .i64 y10] 55)).drew.cell? ⟨w2.heap.size, 9, none⟩ = some (.int .u64 y7) ∧ (W.alloc (.cells #[.int .i64 ((N : Int) + 1), .int .i64 ep, .int .i64 y0, .bool y1, .int .u64 y2, .int .u64 y3, .int .i64 y4, .bool y5, .int .u64 y6, .int .u64 y7, .string y8, .int .i64 y9, .int .i64 y10] 55)).drew.cell? ⟨w2.heap.size, 10, none⟩ = some (.string y8) ∧ (W.alloc (.cells #[.int .i64 ((N : Int) + 1), .int .i64 ep, .int .i64 y0, .bool y1, .int .u64 y2, .int .u64 y3, .int .i64 y4, .bool y5, .int .u64 y6, .int .u64 y7, .string y8, .int .i64 y9, .int .i64 y10] 55)).drew.cell? ⟨w2.heap.size, 11, none⟩ = some (.int .i64 y9) ∧ (W.alloc (.cells #[.int .i64 ((N : Int) + 1), .int .i64 ep, .int .i64 y0, .bool y1, .int .u64 y2, .int .u64 y3, .int .i64 y4, .bool y5, .int .u64 y6, .int .u64 y7, .string y8, .int .i64 y9, .int .i64 y10] 55)).drew.cell? ⟨w2.heap.size, 12, none⟩ = some (.int .i64 y10) ∧ w2.heap.size < (W.alloc (.cells #[.int .i64 ((N : Int) + 1), .int .i64 ep, .int .i64 y0, .bool y1, .int .u64 y2, .int .u64 y3, .int .i64 y4, .bool y5, .int .u64 y6, .int .u64 y7, .string y8, .int .i64 y9, .int .i64 y10] 55)).drew.heap.size) ∧ Below w.heap.size w (W.alloc (.cells #[.int .i64 ((N : Int) + 1), .int .i64 ep, .int .i64 y0, .bool y1, .int .u64 y2, .int .u64 y3, .int .i64 y4, .bool y5, .int .u64 y6, .int .u64 y7, .string y8, .int .i64 y9, .int .i64 y10] 55)).drew) := keepE TW.out (bal (Below.refl W.heap.size W) _).drew
  have HCa := Lib.hid (HCl.out W.drew SW.out.2.drew)
  have HCb := Lib.hid (HCl.out (W.alloc (.cells #[.int .i64 ((N : Int) + 1), .int .i64 ep, .int .i64 y0, .bool y1, .int .u64 y2, .int .u64 y3, .int .i64 y4, .bool y5, .int .u64 y6, .int .u64 y7, .string y8, .int .i64 y9, .int .i64 y10] 55)).drew (bal SW.out.2 _).drew)
  have KB : Hid (Below W.heap.size W (W.alloc (.cells #[.int .i64 ((N : Int) + 1), .int .i64 ep, .int .i64 y0, .bool y1, .int .u64 y2, .int .u64 y3, .int .i64 y4, .bool y5, .int .u64 y6, .int .u64 y7, .string y8, .int .i64 y9, .int .i64 y10] 55)).drew) := (bal (Below.refl W.heap.size W) _).drew
  have QB : Hid ((W.alloc (.cells #[.int .i64 ((N : Int) + 1), .int .i64 ep, .int .i64 y0, .bool y1, .int .u64 y2, .int .u64 y3, .int .i64 y4, .bool y5, .int .u64 y6, .int .u64 y7, .string y8, .int .i64 y9, .int .i64 y10] 55)).drew.heap[W.heap.size]? = some (.cells #[.int .i64 ((N : Int) + 1), .int .i64 ep, .int .i64 y0, .bool y1, .int .u64 y2, .int .u64 y3, .int .i64 y4, .bool y5, .int .u64 y6, .int .u64 y7, .string y8, .int .i64 y9, .int .i64 y10] 55 (0, 0))) := heap_alloc_new W _
  have hWs : W.heap.size < (W.alloc (.cells #[.int .i64 ((N : Int) + 1), .int .i64 ep, .int .i64 y0, .bool y1, .int .u64 y2, .int .u64 y3, .int .i64 y4, .bool y5, .int .u64 y6, .int .u64 y7, .string y8, .int .i64 y9, .int .i64 y10] 55)).drew.heap.size := by simp
  clear HCl SW
  go_wp2_with fail
  go_region_held3 (fun w' => (w'.cell? ⟨w2.heap.size, 0, none⟩ = some (.int .i64 ((N : Int) + 1)) ∧ w'.cell? ⟨w2.heap.size, 1, none⟩ = some (.int .i64 ep) ∧ w'.cell? ⟨w2.heap.size, 2, none⟩ = some (.int .i64 y0) ∧ w'.cell? ⟨w2.heap.size, 3, none⟩ = some (.bool y1) ∧ w'.cell? ⟨w2.heap.size, 4, none⟩ = some (.int .u64 y2) ∧ w'.cell? ⟨w2.heap.size, 5, none⟩ = some (.int .u64 y3) ∧ w'.cell? ⟨w2.heap.size, 6, none⟩ = some (.int .i64 y4) ∧ w'.cell? ⟨w2.heap.size, 7, none⟩ = some (.bool y5) ∧ w'.cell? ⟨w2.heap.size, 8, none⟩ = some (.int .u64 y6) ∧ w'.cell? ⟨w2.heap.size, 9, none⟩ = some (.int .u64 y7) ∧ w'.cell? ⟨w2.heap.size, 10, none⟩ = some (.string y8) ∧ w'.cell? ⟨w2.heap.size, 11, none⟩ = some (.int .i64 y9) ∧ w'.cell? ⟨w2.heap.size, 12, none⟩ = some (.int .i64 y10) ∧ w2.heap.size < w'.heap.size) ∧ Below w.heap.size w w')
    (first | with_reducible exact T0.out | with_reducible exact TB.out | with_reducible exact T1.out | with_reducible exact T2.out | with_reducible exact T5.out | fail)
    (first
      | (go_at_call 17; (with_reducible refine HCa.out.mono ?_); rintro e w1 ⟨v1, rfl, o1, b1⟩; have T1 := Lib.hid (keepE T0.out b1); have T2 := Lib.hid (keepE T1.out (bal (Below.refl w1.heap.size w1) (.cells #[.int .i64 ((N : Int) + 1), .int .i64 ep, .int .i64 y0, .bool y1, .int .u64 y2, .int .u64 y3, .int .i64 y4, .bool y5, .int .u64 y6, .int .u64 y7, .string y8, .int .i64 y9, .int .i64 y10] 55))); have O2 : Hid ((w1.alloc (.cells #[.int .i64 ((N : Int) + 1), .int .i64 ep, .int .i64 y0, .bool y1, .int .u64 y2, .int .u64 y3, .int .i64 y4, .bool y5, .int .u64 y6, .int .u64 y7, .string y8, .int .i64 y9, .int .i64 y10] 55)).ownsRow W.heap.size 55 13 v1 N row) := own_keep o1 (bal (Below.refl w1.heap.size w1) _); have Q2 := Lib.hid (news1 (heap_alloc_new w1 (.cells #[.int .i64 ((N : Int) + 1), .int .i64 ep, .int .i64 y0, .bool y1, .int .u64 y2, .int .u64 y3, .int .i64 y4, .bool y5, .int .u64 y6, .int .u64 y7, .string y8, .int .i64 y9, .int .i64 y10] 55))); have K2 : Hid (Below W.heap.size W (w1.alloc (.cells #[.int .i64 ((N : Int) + 1), .int .i64 ep, .int .i64 y0, .bool y1, .int .u64 y2, .int .u64 y3, .int .i64 y4, .bool y5, .int .u64 y6, .int .u64 y7, .string y8, .int .i64 y9, .int .i64 y10] 55))) := bal (btr (Below.refl W.heap.size W).drew b1) _; clear o1 b1)
      | (go_at_call 17; (with_reducible refine HCb.out.mono ?_); rintro e w1 ⟨v1, rfl, o1, b1⟩; have T1 := Lib.hid (keepE TB.out b1); have O1 : Hid (w1.ownsRow W.heap.size 55 13 v1 N row) := row_base o1 (Nat.le_of_lt hWs); have Q1 := Lib.hid (news1 ((b1.block W.heap.size hWs).trans QB.out)); have K1 : Hid (Below W.heap.size W w1) := btr KB.out b1; clear o1 b1)
      | (refine at_wld (w1.alloc (.cells #[.int .i64 ((N : Int) + 1), .int .i64 ep, .int .i64 y0, .bool y1, .int .u64 y2, .int .u64 y3, .int .i64 y4, .bool y5, .int .u64 y6, .int .u64 y7, .string y8, .int .i64 y9, .int .i64 y10] 55)) (by with_reducible rfl) ?_; refine step_append_own (by rfl) _ _ 22 (by rfl) W.heap.size 55 i0 _ 13 112 Tryz.underlying22 hi0 hz0 hz1 hz2 rfl (by decide) _ _ _ (by rfl) O2.out _ _ _ [.int .i64 ((N : Int) + 1), .int .i64 ep, .int .i64 y0, .bool y1, .int .u64 y2, .int .u64 y3, .int .i64 y4, .bool y5, .int .u64 y6, .int .u64 y7, .string y8, .int .i64 y9, .int .i64 y10] (by rfl) (by rfl) Q2.out HE1.out (by unfold maxLen; omega) (by omega) K2.out.size ?_; intro v5 w5 hown5 hgrow5 hnil5; clear hnil5; have K5 : Hid (Below W.heap.size W w5) := K2.out.grown hgrow5 K2.out.size (fun k hk => (O2.out.lt k hk).1); have HO5 := Lib.hid hown5; have T5 := Lib.hid (keepE TW.out K5.out); clear hown5 hgrow5)
      | (refine at_wld w1 (by with_reducible rfl) ?_; refine step_append_own (by rfl) _ _ 22 (by rfl) W.heap.size 55 i0 _ 13 112 Tryz.underlying22 hi0 hz0 hz1 hz2 rfl (by decide) _ _ _ (by rfl) O1.out _ _ _ [.int .i64 ((N : Int) + 1), .int .i64 ep, .int .i64 y0, .bool y1, .int .u64 y2, .int .u64 y3, .int .i64 y4, .bool y5, .int .u64 y6, .int .u64 y7, .string y8, .int .i64 y9, .int .i64 y10] (by rfl) (by rfl) Q1.out HE1.out (by unfold maxLen; omega) (by omega) K1.out.size ?_; intro v5 w5 hown5 hgrow5 hnil5; clear hnil5; have K5 : Hid (Below W.heap.size W w5) := K1.out.grown hgrow5 K1.out.size (fun k hk => (O1.out.lt k hk).1); have HO5 := Lib.hid hown5; have T5 := Lib.hid (keepE TW.out K5.out); clear hown5 hgrow5))
  all_goals
    have HB5 := Lib.hid T5.out.2
    have HO6 : Hid (w5.ownsRow w.heap.size 55 13 v5 (N + 1) (row ++ [.int .i64 ((N : Int) + 1), .int .i64 ep, .int .i64 y0, .bool y1, .int .u64 y2, .int .u64 y3, .int .i64 y4, .bool y5, .int .u64 y6, .int .u64 y7, .string y8, .int .i64 y9, .int .i64 y10])) := row_base HO5.out (TW.out.2.size)
    clear T0 TB TW T5 HO5 K5 HCa HCb KB QB
    go_wp2_with fail
    go_ret2
    exact ⟨_, rfl, HO6.out, HB5.out⟩
end Go.Proofs.YtclnfkohlklbpaaGreat
