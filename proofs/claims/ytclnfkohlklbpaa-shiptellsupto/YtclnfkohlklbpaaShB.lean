/- slices.Equal at entries; log.Begins; the document's DoesBegin. -/
import Derived.Test.YtclnfkohlklbpaaRqN
import Derived.Test.YtclnfkohlklbpaaGnB
import Derived.Test.YtclnfkohlklbpaaLgE
set_option linter.unusedVariables false
set_option linter.unusedSimpArgs false
namespace Go.Proofs.Ytclnfkohlklbpaa
open Go.RowKit

set_option maxHeartbeats 16000000 in
set_option maxRecDepth 100000 in
theorem equal_any (a a' : Option Addr) (c c' : Nat) (l l' : List En) (w : World) (hl : l.length ≤ 100000) (hs : Lies enE w a l) (hs' : Lies enE w a' l') :
    Calls Try.prog 19 #[.slice a l.length c, .slice a' l'.length c'] w fun e w' => e = .returned (.bool (sameEn l l')) ∧ Below w.heap.size w w' := by
  by_cases hNM : l.length = l'.length
  · obtain ⟨N, hN⟩ : ∃ N, N = l.length := ⟨_, rfl⟩
    rw [← hNM, ← hN]
    rw [← hN] at hl
    have HN : Hid (N = l.length) := hN
    have HM : Hid (N = l'.length) := hN.trans hNM
    have HL := Lib.hid hs
    have HL' := Lib.hid hs'
    have HE : Hid (l.take N = l'.take N → sameEn l l' = true) := fun h => by
      have e1 : l.take N = l := by rw [HN.out]; exact List.take_length
      have e2 : l'.take N = l' := by rw [HM.out]; exact List.take_length
      rw [e1, e2] at h
      exact (sameEn_iff l l').2 h
    have HF : Hid (∀ k (h : k < l.length) (h' : k < l'.length), ¬ l[k] = l'[k] → sameEn l l' = false) := fun k h h' hn => by
      refine sameEn_ne (fun e => hn ?_)
      subst e
      rfl
    generalize sameEn l l' = R at *
    clear hN hs hs' hNM
    go_enter Try.func19, Try.ntmps19
    go_wp2_with fail
    go_loopw [13] (fun vi wr => ∃ k : Nat, vi = .int .i64 k ∧ k ≤ N ∧ Hid (l.take k = l'.take k) ∧ Hid (Below w.heap.size w wr))
      (fun vi _ => N - (intOf vi).toNat)
    case atStart => exact ⟨0, rfl, Nat.zero_le _, (by show _ = _; rw [List.take_zero, List.take_zero]), Below.refl _ _⟩
    case round =>
      obtain ⟨k, rfl, hk, ht, hb⟩ := hrel
      by_cases hkN : k < N
      · have hkl : k < l.length := by have := HN.out; omega
        have hkl' : k < l'.length := by have := HM.out; omega
        obtain ⟨g, o, rfl, hg, hc⟩ := HL.out.en k hkl
        obtain ⟨g', o', rfl, hg', hc'⟩ := HL'.out.en k hkl'
        have hq0 : ∀ w : World, (binOp .neq 44 (.agg #[.int .i64 l[k].num, .int .i64 l[k].ep, .int .i64 l[k].o.k, .bool l[k].o.p.v, .int .u64 l[k].o.p.hi, .int .u64 l[k].o.p.lo, .int .i64 l[k].o.p.b, .bool l[k].o.a.v, .int .u64 l[k].o.a.hi, .int .u64 l[k].o.a.lo, .string l[k].o.who, .int .i64 l[k].o.pof, .int .i64 l[k].o.n]) (.agg #[.int .i64 l'[k].num, .int .i64 l'[k].ep, .int .i64 l'[k].o.k, .bool l'[k].o.p.v, .int .u64 l'[k].o.p.hi, .int .u64 l'[k].o.p.lo, .int .i64 l'[k].o.p.b, .bool l'[k].o.a.v, .int .u64 l'[k].o.a.hi, .int .u64 l'[k].o.a.lo, .string l'[k].o.who, .int .i64 l'[k].o.pof, .int .i64 l'[k].o.n])).run Try.prog w = .ok (.bool (!eqE l[k] l'[k])) w := fun w => neq_en w l[k] l'[k]
        have HT : Hid (eqE l[k] l'[k] = true → l.take (k + 1) = l'.take (k + 1)) := fun h => take_snocE ht.out hkl hkl' ((eqE_iff _ _).1 h)
        have HG : Hid (eqE l[k] l'[k] = false → R = false) := fun h => HF.out k hkl hkl' (fun e => by rw [(eqE_iff _ _).2 e] at h; exact absurd h (by decide))
        generalize hxe : l[k] = x at *
        clear hxe
        generalize hye : l'[k] = y at *
        clear hye
        generalize eqE x y = q at *
        generalize x.num = x0 at *
        generalize x.ep = x1 at *
        generalize x.o.k = x2 at *
        generalize x.o.p.v = x3 at *
        generalize x.o.p.hi = x4 at *
        generalize x.o.p.lo = x5 at *
        generalize x.o.p.b = x6 at *
        generalize x.o.a.v = x7 at *
        generalize x.o.a.hi = x8 at *
        generalize x.o.a.lo = x9 at *
        generalize x.o.who = x10 at *
        generalize x.o.pof = x11 at *
        generalize x.o.n = x12 at *
        generalize y.num = y0 at *
        generalize y.ep = y1 at *
        generalize y.o.k = y2 at *
        generalize y.o.p.v = y3 at *
        generalize y.o.p.hi = y4 at *
        generalize y.o.p.lo = y5 at *
        generalize y.o.p.b = y6 at *
        generalize y.o.a.v = y7 at *
        generalize y.o.a.hi = y8 at *
        generalize y.o.a.lo = y9 at *
        generalize y.o.who = y10 at *
        generalize y.o.pof = y11 at *
        generalize y.o.n = y12 at *
        have S0 : Hid (((wr.cell? ⟨g, o + k * 13, none⟩ = some (.int .i64 x0) ∧ wr.cell? ⟨g, o + k * 13 + 1, none⟩ = some (.int .i64 x1) ∧ wr.cell? ⟨g, o + k * 13 + 2, none⟩ = some (.int .i64 x2) ∧ wr.cell? ⟨g, o + k * 13 + 3, none⟩ = some (.bool x3) ∧ wr.cell? ⟨g, o + k * 13 + 4, none⟩ = some (.int .u64 x4) ∧ wr.cell? ⟨g, o + k * 13 + 5, none⟩ = some (.int .u64 x5) ∧ wr.cell? ⟨g, o + k * 13 + 6, none⟩ = some (.int .i64 x6) ∧ wr.cell? ⟨g, o + k * 13 + 7, none⟩ = some (.bool x7) ∧ wr.cell? ⟨g, o + k * 13 + 8, none⟩ = some (.int .u64 x8) ∧ wr.cell? ⟨g, o + k * 13 + 9, none⟩ = some (.int .u64 x9) ∧ wr.cell? ⟨g, o + k * 13 + 10, none⟩ = some (.string x10) ∧ wr.cell? ⟨g, o + k * 13 + 11, none⟩ = some (.int .i64 x11) ∧ wr.cell? ⟨g, o + k * 13 + 12, none⟩ = some (.int .i64 x12)) ∧ (wr.cell? ⟨g', o' + k * 13, none⟩ = some (.int .i64 y0) ∧ wr.cell? ⟨g', o' + k * 13 + 1, none⟩ = some (.int .i64 y1) ∧ wr.cell? ⟨g', o' + k * 13 + 2, none⟩ = some (.int .i64 y2) ∧ wr.cell? ⟨g', o' + k * 13 + 3, none⟩ = some (.bool y3) ∧ wr.cell? ⟨g', o' + k * 13 + 4, none⟩ = some (.int .u64 y4) ∧ wr.cell? ⟨g', o' + k * 13 + 5, none⟩ = some (.int .u64 y5) ∧ wr.cell? ⟨g', o' + k * 13 + 6, none⟩ = some (.int .i64 y6) ∧ wr.cell? ⟨g', o' + k * 13 + 7, none⟩ = some (.bool y7) ∧ wr.cell? ⟨g', o' + k * 13 + 8, none⟩ = some (.int .u64 y8) ∧ wr.cell? ⟨g', o' + k * 13 + 9, none⟩ = some (.int .u64 y9) ∧ wr.cell? ⟨g', o' + k * 13 + 10, none⟩ = some (.string y10) ∧ wr.cell? ⟨g', o' + k * 13 + 11, none⟩ = some (.int .i64 y11) ∧ wr.cell? ⟨g', o' + k * 13 + 12, none⟩ = some (.int .i64 y12))) ∧ Below w.heap.size w wr) := by
          have kk := (bcell hb.out).1
          refine ⟨⟨?_, ?_⟩, hb.out⟩
          · obtain ⟨c0, c1, c2, c3, c4, c5, c6, c7, c8, c9, c10, c11, c12⟩ := hc
            rw [← kk _ _ hg] at c0 c1 c2 c3 c4 c5 c6 c7 c8 c9 c10 c11 c12
            exact ⟨c0, c1, c2, c3, c4, c5, c6, c7, c8, c9, c10, c11, c12⟩
          · obtain ⟨c0, c1, c2, c3, c4, c5, c6, c7, c8, c9, c10, c11, c12⟩ := hc'
            rw [← kk _ _ hg'] at c0 c1 c2 c3 c4 c5 c6 c7 c8 c9 c10 c11 c12
            exact ⟨c0, c1, c2, c3, c4, c5, c6, c7, c8, c9, c10, c11, c12⟩
        have S1 := Lib.hid (keep2E S0.out rfl)
        have hkz : (k : Int) < (N : Int) := by omega
        have hk0 : (0 : Int) ≤ (k : Int) := by omega
        clear ht
        cases q
        · have hq : ∀ w : World, (binOp .neq 44 (.agg #[.int .i64 x0, .int .i64 x1, .int .i64 x2, .bool x3, .int .u64 x4, .int .u64 x5, .int .i64 x6, .bool x7, .int .u64 x8, .int .u64 x9, .string x10, .int .i64 x11, .int .i64 x12]) (.agg #[.int .i64 y0, .int .i64 y1, .int .i64 y2, .bool y3, .int .u64 y4, .int .u64 y5, .int .i64 y6, .bool y7, .int .u64 y8, .int .u64 y9, .string y10, .int .i64 y11, .int .i64 y12])).run Try.prog w = .ok (.bool true) w := hq0
          have HR := Lib.hid (HG.out rfl)
          clear hq0 HT HG HE HF
          clear hb hc hc'
          go_wp2_with fail
          go_region_held3 (fun w' => ((w'.cell? ⟨g, o + k * 13, none⟩ = some (.int .i64 x0) ∧ w'.cell? ⟨g, o + k * 13 + 1, none⟩ = some (.int .i64 x1) ∧ w'.cell? ⟨g, o + k * 13 + 2, none⟩ = some (.int .i64 x2) ∧ w'.cell? ⟨g, o + k * 13 + 3, none⟩ = some (.bool x3) ∧ w'.cell? ⟨g, o + k * 13 + 4, none⟩ = some (.int .u64 x4) ∧ w'.cell? ⟨g, o + k * 13 + 5, none⟩ = some (.int .u64 x5) ∧ w'.cell? ⟨g, o + k * 13 + 6, none⟩ = some (.int .i64 x6) ∧ w'.cell? ⟨g, o + k * 13 + 7, none⟩ = some (.bool x7) ∧ w'.cell? ⟨g, o + k * 13 + 8, none⟩ = some (.int .u64 x8) ∧ w'.cell? ⟨g, o + k * 13 + 9, none⟩ = some (.int .u64 x9) ∧ w'.cell? ⟨g, o + k * 13 + 10, none⟩ = some (.string x10) ∧ w'.cell? ⟨g, o + k * 13 + 11, none⟩ = some (.int .i64 x11) ∧ w'.cell? ⟨g, o + k * 13 + 12, none⟩ = some (.int .i64 x12)) ∧ (w'.cell? ⟨g', o' + k * 13, none⟩ = some (.int .i64 y0) ∧ w'.cell? ⟨g', o' + k * 13 + 1, none⟩ = some (.int .i64 y1) ∧ w'.cell? ⟨g', o' + k * 13 + 2, none⟩ = some (.int .i64 y2) ∧ w'.cell? ⟨g', o' + k * 13 + 3, none⟩ = some (.bool y3) ∧ w'.cell? ⟨g', o' + k * 13 + 4, none⟩ = some (.int .u64 y4) ∧ w'.cell? ⟨g', o' + k * 13 + 5, none⟩ = some (.int .u64 y5) ∧ w'.cell? ⟨g', o' + k * 13 + 6, none⟩ = some (.int .i64 y6) ∧ w'.cell? ⟨g', o' + k * 13 + 7, none⟩ = some (.bool y7) ∧ w'.cell? ⟨g', o' + k * 13 + 8, none⟩ = some (.int .u64 y8) ∧ w'.cell? ⟨g', o' + k * 13 + 9, none⟩ = some (.int .u64 y9) ∧ w'.cell? ⟨g', o' + k * 13 + 10, none⟩ = some (.string y10) ∧ w'.cell? ⟨g', o' + k * 13 + 11, none⟩ = some (.int .i64 y11) ∧ w'.cell? ⟨g', o' + k * 13 + 12, none⟩ = some (.int .i64 y12))) ∧ Below w.heap.size w w')
            (first | with_reducible exact S1.out | with_reducible exact S0.out)
            (fail)
          have hb2 : Hid (Below w.heap.size w wr.drew) := S1.out.2
          clear S0 S1
          go_wp2_with fail
          go_ret
          exact ⟨by rw [HR.out]; rfl, hb2.out⟩
        · have hq : ∀ w : World, (binOp .neq 44 (.agg #[.int .i64 x0, .int .i64 x1, .int .i64 x2, .bool x3, .int .u64 x4, .int .u64 x5, .int .i64 x6, .bool x7, .int .u64 x8, .int .u64 x9, .string x10, .int .i64 x11, .int .i64 x12]) (.agg #[.int .i64 y0, .int .i64 y1, .int .i64 y2, .bool y3, .int .u64 y4, .int .u64 y5, .int .i64 y6, .bool y7, .int .u64 y8, .int .u64 y9, .string y10, .int .i64 y11, .int .i64 y12])).run Try.prog w = .ok (.bool false) w := hq0
          have HT2 := Lib.hid (HT.out rfl)
          clear hq0 HT HG
          clear hb hc hc'
          go_wp2_with fail
          go_region_held3 (fun w' => ((w'.cell? ⟨g, o + k * 13, none⟩ = some (.int .i64 x0) ∧ w'.cell? ⟨g, o + k * 13 + 1, none⟩ = some (.int .i64 x1) ∧ w'.cell? ⟨g, o + k * 13 + 2, none⟩ = some (.int .i64 x2) ∧ w'.cell? ⟨g, o + k * 13 + 3, none⟩ = some (.bool x3) ∧ w'.cell? ⟨g, o + k * 13 + 4, none⟩ = some (.int .u64 x4) ∧ w'.cell? ⟨g, o + k * 13 + 5, none⟩ = some (.int .u64 x5) ∧ w'.cell? ⟨g, o + k * 13 + 6, none⟩ = some (.int .i64 x6) ∧ w'.cell? ⟨g, o + k * 13 + 7, none⟩ = some (.bool x7) ∧ w'.cell? ⟨g, o + k * 13 + 8, none⟩ = some (.int .u64 x8) ∧ w'.cell? ⟨g, o + k * 13 + 9, none⟩ = some (.int .u64 x9) ∧ w'.cell? ⟨g, o + k * 13 + 10, none⟩ = some (.string x10) ∧ w'.cell? ⟨g, o + k * 13 + 11, none⟩ = some (.int .i64 x11) ∧ w'.cell? ⟨g, o + k * 13 + 12, none⟩ = some (.int .i64 x12)) ∧ (w'.cell? ⟨g', o' + k * 13, none⟩ = some (.int .i64 y0) ∧ w'.cell? ⟨g', o' + k * 13 + 1, none⟩ = some (.int .i64 y1) ∧ w'.cell? ⟨g', o' + k * 13 + 2, none⟩ = some (.int .i64 y2) ∧ w'.cell? ⟨g', o' + k * 13 + 3, none⟩ = some (.bool y3) ∧ w'.cell? ⟨g', o' + k * 13 + 4, none⟩ = some (.int .u64 y4) ∧ w'.cell? ⟨g', o' + k * 13 + 5, none⟩ = some (.int .u64 y5) ∧ w'.cell? ⟨g', o' + k * 13 + 6, none⟩ = some (.int .i64 y6) ∧ w'.cell? ⟨g', o' + k * 13 + 7, none⟩ = some (.bool y7) ∧ w'.cell? ⟨g', o' + k * 13 + 8, none⟩ = some (.int .u64 y8) ∧ w'.cell? ⟨g', o' + k * 13 + 9, none⟩ = some (.int .u64 y9) ∧ w'.cell? ⟨g', o' + k * 13 + 10, none⟩ = some (.string y10) ∧ w'.cell? ⟨g', o' + k * 13 + 11, none⟩ = some (.int .i64 y11) ∧ w'.cell? ⟨g', o' + k * 13 + 12, none⟩ = some (.int .i64 y12))) ∧ Below w.heap.size w w')
            (first | with_reducible exact S1.out | with_reducible exact S0.out)
            (fail)
          have hb2 : Hid (Below w.heap.size w wr.drew) := S1.out.2
          clear S0 S1
          go_wp2_with fail
          go_roundw
          case rel => exact ⟨k + 1, by go_num, by omega, HT2, And.right (by assumption)⟩
          case measure => simp [intOf]; omega
      · obtain rfl : k = N := by omega
        have hkk : ¬ (k : Int) < (k : Int) := by omega
        have HR := Lib.hid (HE.out ht.out)
        clear ht HE HF
        go_wp2_with fail
        go_ret
        exact ⟨by rw [HR.out]; rfl, hb.out⟩
  · rw [sameEn_ne (show ¬ l = l' from fun e => hNM (by rw [e]))]
    have hN : ((l.length : Int) != (l'.length : Int)) = true := by rw [bne_iff_ne]; omega
    generalize l.length = N at *
    generalize l'.length = M at *
    clear hNM hl hs hs'
    go_enter Try.func19, Try.ntmps19
    go_wp2_with fail
    go_ret
    exact ⟨rfl, Below.refl _ _⟩
/-- What Begins says: an errno; is the one the beginning of the other one? -/
def begE (l l' : List En) : Int := if logE l = 0 then logE l' else logE l
def begB (l l' : List En) : Bool := decide (l.length ≤ l'.length) && sameEn l (l'.take l.length)
set_option maxHeartbeats 16000000 in
set_option maxRecDepth 100000 in
theorem begins_any (a a' : Option Addr) (c c' : Nat) (l l' : List En) (w : World) (hc : l.length ≤ c) (hc' : l'.length ≤ c') (hs : Lies enE w a l) (hs' : Lies enE w a' l') :
    Calls Try.prog 11 #[.slice a l.length c, .slice a' l'.length c'] w fun e w' => e = .returned (.tuple #[.bool (if begE l l' = 0 then begB l l' else false), .int .i64 (begE l l')]) ∧ Below w.heap.size w w' := by
  obtain ⟨N, hN⟩ : ∃ N, N = l.length := ⟨_, rfl⟩
  obtain ⟨M, hM⟩ : ∃ M, M = l'.length := ⟨_, rfl⟩
  have hcM : M ≤ c' := by rw [hM]; exact hc'
  obtain ⟨W1, hW1⟩ : ∃ W1, W1 = w.alloc (.cells #[.slice a l.length c, .slice a' l'.length c'] 22) := ⟨_, rfl⟩
  have hb1 : Below w.heap.size w W1 := by rw [hW1]; exact bal (Below.refl w.heap.size w) _
  have hB : Blk W1 w.heap.size 22 [.slice a l.length c, .slice a' l'.length c'] := by rw [hW1]; exact Blk.new w _ _
  have HC : Hid (∀ W : World, Below w.heap.size w W → Calls Try.prog 13 #[.slice a l.length c] W fun e w' => e = .returned (.int .i64 (logE l)) ∧ Below W.heap.size W w') := fun W hW => lcheck_any a c l W hc (hs.below hW)
  have HC' : Hid (∀ W : World, Below w.heap.size w W → Calls Try.prog 13 #[.slice a' l'.length c'] W fun e w' => e = .returned (.int .i64 (logE l')) ∧ Below W.heap.size W w') := fun W hW => lcheck_any a' c' l' W hc' (hs'.below hW)
  have HE : Hid (∀ W : World, Below w.heap.size w W → l.length ≤ l'.length → l.length ≤ 100000 → Calls Try.prog 19 #[.slice a l.length c, .slice a' l.length c'] W fun e w' => e = .returned (.bool (sameEn l (l'.take l.length))) ∧ Below W.heap.size W w') := fun W hW h1 h2 => by
    have h := equal_any a a' c c' l (l'.take l.length) W h2 (hs.below hW) ((hs'.below hW).take _)
    rw [show (l'.take l.length).length = l.length by rw [List.length_take]; omega] at h
    exact h
  have HZ := Lib.hid (fun h => logE_len (l := l) h)
  unfold begE begB
  rw [← hN, ← hM] at *
  generalize sameEn l (l'.take N) = Q at *
  generalize logE l = r at *
  generalize logE l' = r' at *
  have HB1 := Lib.hid hb1
  have HK1 := Lib.hid hB
  rw [hW1] at HB1 HK1
  clear hN hM hb1 hB hW1 W1 hs hs'
  by_cases h1 : r = 0
  · subst h1
    have hN := HZ.out rfl
    rw [if_pos rfl]
    by_cases h2 : r' = 0
    · subst h2
      rw [if_pos rfl]
      clear HZ
      by_cases hNM : N ≤ M
      · rw [decide_eq_true hNM, Bool.true_and]
        have hz : (N : Int) ≤ (M : Int) := by omega
        have hz0 : (0 : Int) ≤ (N : Int) := by omega
        have hzc : (N : Int) ≤ (c' : Int) := by omega
        have hzn : N ≤ c' := by omega
        go_enter Try.func11, Try.ntmps11
        go_wp2_with fail
        go_loopw [13] (fun vi wr => ∃ k : Nat, vi = .int .i64 k ∧ k ≤ 2 ∧ Hid (Blk wr w.heap.size 22 [.slice a N c, .slice a' M c']) ∧ Hid (Below w.heap.size w wr))
          (fun vi _ => 2 - (intOf vi).toNat)
        case atStart => exact ⟨0, rfl, Nat.zero_le _, HK1.out, HB1.out⟩
        case round =>
          obtain ⟨k, rfl, hk, hkk, hb⟩ := hrel
          obtain ⟨⟨p0, p1⟩, -⟩ := hkk.out.two
          by_cases hk0 : k = 0
          · subst hk0
            go_wp2_with fail
            refine (HC.out _ hb.out).mono ?_
            rintro e w2 ⟨rfl, hb2⟩
            have HB2 := Lib.hid (btr hb.out hb2)
            have HK2 := Lib.hid (hkk.out.below hb2)
            clear hb2 hb hkk p0 p1
            go_wp2_with fail
            go_roundw
            case rel => exact ⟨1, by go_num, by omega, HK2, HB2⟩
            case measure => simp [intOf]
          · by_cases hk1 : k = 1
            · subst hk1
              go_wp2_with fail
              refine (HC'.out _ hb.out).mono ?_
              rintro e w2 ⟨rfl, hb2⟩
              have HB2 := Lib.hid (btr hb.out hb2)
              have HK2 := Lib.hid (hkk.out.below hb2)
              clear hb2 hb hkk p0 p1
              go_wp2_with fail
              go_roundw
              case rel => exact ⟨2, by go_num, by omega, HK2, HB2⟩
              case measure => simp [intOf]
            · obtain rfl : k = 2 := by omega
              clear hkk p0 p1
              go_wp2_with fail
              refine (HE.out _ hb.out hNM (Nat.le_trans hN (by decide))).mono ?_
              rintro e w2 ⟨rfl, hb2⟩
              have HB2 := Lib.hid (btr hb.out hb2)
              clear hb2 hb
              go_wp2_with fail
              go_ret2
              exact ⟨rfl, HB2.out⟩
      · rw [decide_eq_false hNM, Bool.false_and]
        have hz : ¬ (N : Int) ≤ (M : Int) := by omega
        go_enter Try.func11, Try.ntmps11
        go_wp2_with fail
        go_loopw [13] (fun vi wr => ∃ k : Nat, vi = .int .i64 k ∧ k ≤ 2 ∧ Hid (Blk wr w.heap.size 22 [.slice a N c, .slice a' M c']) ∧ Hid (Below w.heap.size w wr))
          (fun vi _ => 2 - (intOf vi).toNat)
        case atStart => exact ⟨0, rfl, Nat.zero_le _, HK1.out, HB1.out⟩
        case round =>
          obtain ⟨k, rfl, hk, hkk, hb⟩ := hrel
          obtain ⟨⟨p0, p1⟩, -⟩ := hkk.out.two
          by_cases hk0 : k = 0
          · subst hk0
            go_wp2_with fail
            refine (HC.out _ hb.out).mono ?_
            rintro e w2 ⟨rfl, hb2⟩
            have HB2 := Lib.hid (btr hb.out hb2)
            have HK2 := Lib.hid (hkk.out.below hb2)
            clear hb2 hb hkk p0 p1
            go_wp2_with fail
            go_roundw
            case rel => exact ⟨1, by go_num, by omega, HK2, HB2⟩
            case measure => simp [intOf]
          · by_cases hk1 : k = 1
            · subst hk1
              go_wp2_with fail
              refine (HC'.out _ hb.out).mono ?_
              rintro e w2 ⟨rfl, hb2⟩
              have HB2 := Lib.hid (btr hb.out hb2)
              have HK2 := Lib.hid (hkk.out.below hb2)
              clear hb2 hb hkk p0 p1
              go_wp2_with fail
              go_roundw
              case rel => exact ⟨2, by go_num, by omega, HK2, HB2⟩
              case measure => simp [intOf]
            · obtain rfl : k = 2 := by omega
              clear hkk p0 p1
              go_wp2_with fail
              go_ret2
              exact ⟨rfl, hb.out⟩
    · rw [if_neg h2]
      have hI : (r' != 0) = true := by rw [bne_iff_ne]; exact h2
      clear HZ
      go_enter Try.func11, Try.ntmps11
      go_wp2_with fail
      go_loopw [13] (fun vi wr => ∃ k : Nat, vi = .int .i64 k ∧ k ≤ 1 ∧ Hid (Blk wr w.heap.size 22 [.slice a N c, .slice a' M c']) ∧ Hid (Below w.heap.size w wr))
        (fun vi _ => 2 - (intOf vi).toNat)
      case atStart => exact ⟨0, rfl, Nat.zero_le _, HK1.out, HB1.out⟩
      case round =>
        obtain ⟨k, rfl, hk, hkk, hb⟩ := hrel
        obtain ⟨⟨p0, p1⟩, -⟩ := hkk.out.two
        by_cases hk0 : k = 0
        · subst hk0
          go_wp2_with fail
          refine (HC.out _ hb.out).mono ?_
          rintro e w2 ⟨rfl, hb2⟩
          have HB2 := Lib.hid (btr hb.out hb2)
          have HK2 := Lib.hid (hkk.out.below hb2)
          clear hb2 hb hkk p0 p1
          go_wp2_with fail
          go_roundw
          case rel => exact ⟨1, by go_num, by omega, HK2, HB2⟩
          case measure => simp [intOf]
        · obtain rfl : k = 1 := by omega
          go_wp2_with fail
          refine (HC'.out _ hb.out).mono ?_
          rintro e w2 ⟨rfl, hb2⟩
          have HB2 := Lib.hid (btr hb.out hb2)
          have HK2 := Lib.hid (hkk.out.below hb2)
          clear hb2 hb hkk p0 p1
          go_wp2_with fail
          go_ret2
          exact ⟨rfl, HB2.out⟩
  · rw [if_neg h1, if_neg h1]
    have hI : (r != 0) = true := by rw [bne_iff_ne]; exact h1
    clear HZ
    go_enter Try.func11, Try.ntmps11
    go_wp2_with fail
    go_loopw [13] (fun vi wr => ∃ k : Nat, vi = .int .i64 k ∧ k ≤ 0 ∧ Hid (Blk wr w.heap.size 22 [.slice a N c, .slice a' M c']) ∧ Hid (Below w.heap.size w wr))
      (fun vi _ => 2 - (intOf vi).toNat)
    case atStart => exact ⟨0, rfl, Nat.zero_le _, HK1.out, HB1.out⟩
    case round =>
      obtain ⟨k, rfl, hk, hkk, hb⟩ := hrel
      obtain ⟨⟨p0, p1⟩, -⟩ := hkk.out.two
      obtain rfl : k = 0 := by omega
      go_wp2_with fail
      refine (HC.out _ hb.out).mono ?_
      rintro e w2 ⟨rfl, hb2⟩
      have HB2 := Lib.hid (btr hb.out hb2)
      have HK2 := Lib.hid (hkk.out.below hb2)
      clear hb2 hb hkk p0 p1
      go_wp2_with fail
      go_ret2
      exact ⟨rfl, HB2.out⟩
set_option maxHeartbeats 16000000 in
set_option maxRecDepth 100000 in
theorem rbegin_any (a a' : Option Addr) (c c' : Nat) (l l' : List En) (w : World) (hc' : l'.length ≤ c') (hl : l.length ≤ 100000) (hs : Lies enE w a l) (hs' : Lies enE w a' l') :
    Calls Try.prog 7 #[.slice a l.length c, .slice a' l'.length c'] w fun e w' => e = .returned (.bool (begB l l')) ∧ Below w.heap.size w w' := by
  have HE : Hid (∀ W : World, Below w.heap.size w W → l.length ≤ l'.length → Calls Try.prog 17 #[.slice a l.length c, .slice a' l.length c'] W fun e w' => e = .returned (.bool (sameEn l (l'.take l.length))) ∧ Below W.heap.size W w') := fun W hW h1 => by
    have h := rsameEn_any a a' c c' l (l'.take l.length) W hl (hs.below hW) ((hs'.below hW).take _)
    rw [show (l'.take l.length).length = l.length by rw [List.length_take]; omega] at h
    exact h
  unfold begB
  generalize sameEn l (l'.take l.length) = Q at *
  generalize l.length = N at *
  generalize l'.length = M at *
  clear hs hs'
  by_cases hNM : N ≤ M
  · rw [decide_eq_true hNM, Bool.true_and]
    have hz : ¬ (M : Int) < (N : Int) := by omega
    have hz0 : (0 : Int) ≤ (N : Int) := by omega
    have hzc : (N : Int) ≤ (c' : Int) := by omega
    have hzn : N ≤ c' := by omega
    go_enter Try.func7, Try.ntmps7
    go_wp2_with fail
    refine (HE.out _ (Below.refl _ _) hNM).mono ?_
    rintro e w2 ⟨rfl, hb2⟩
    go_wp2_with fail
    go_ret
    exact ⟨rfl, hb2⟩
  · rw [decide_eq_false hNM, Bool.false_and]
    have hz : (M : Int) < (N : Int) := by omega
    go_enter Try.func7, Try.ntmps7
    go_wp2_with fail
    go_ret
    exact ⟨rfl, Below.refl _ _⟩
end Go.Proofs.Ytclnfkohlklbpaa
