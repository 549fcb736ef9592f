/- keeper.write. -/
import Derived.Test.YtjainfehlbfiaaaFnD
set_option linter.unusedVariables false
set_option linter.unusedSimpArgs false
namespace Go.Proofs.Ytjainfehlbfiaaa
open Go.RowKit

def wrE (ep : Int) (l : List En) (epoch : Int) (o : Opd) : Int := if ((epoch != ep) || (epoch == 0)) = true then 4 else addE l epoch o
theorem keepW {w W W' : World} {b kb : Nat} {v0 v1 v2 v3 v4 v5 v6 v7 v8 v9 v10 s : Value} (h : (W.cell? ⟨b, 0, none⟩ = some (v0) ∧ W.cell? ⟨b, 1, none⟩ = some (v1) ∧ W.cell? ⟨b, 2, none⟩ = some (v2) ∧ W.cell? ⟨b, 3, none⟩ = some (v3) ∧ W.cell? ⟨b, 4, none⟩ = some (v4) ∧ W.cell? ⟨b, 5, none⟩ = some (v5) ∧ W.cell? ⟨b, 6, none⟩ = some (v6) ∧ W.cell? ⟨b, 7, none⟩ = some (v7) ∧ W.cell? ⟨b, 8, none⟩ = some (v8) ∧ W.cell? ⟨b, 9, none⟩ = some (v9) ∧ W.cell? ⟨b, 10, none⟩ = some (v10) ∧ b < W.heap.size) ∧ (W.cell? ⟨kb, 3, none⟩ = some s ∧ kb < W.heap.size) ∧ Below w.heap.size w W) (hb : Below W.heap.size W W') : (W'.cell? ⟨b, 0, none⟩ = some (v0) ∧ W'.cell? ⟨b, 1, none⟩ = some (v1) ∧ W'.cell? ⟨b, 2, none⟩ = some (v2) ∧ W'.cell? ⟨b, 3, none⟩ = some (v3) ∧ W'.cell? ⟨b, 4, none⟩ = some (v4) ∧ W'.cell? ⟨b, 5, none⟩ = some (v5) ∧ W'.cell? ⟨b, 6, none⟩ = some (v6) ∧ W'.cell? ⟨b, 7, none⟩ = some (v7) ∧ W'.cell? ⟨b, 8, none⟩ = some (v8) ∧ W'.cell? ⟨b, 9, none⟩ = some (v9) ∧ W'.cell? ⟨b, 10, none⟩ = some (v10) ∧ b < W'.heap.size) ∧ (W'.cell? ⟨kb, 3, none⟩ = some s ∧ kb < W'.heap.size) ∧ Below w.heap.size w W' := by
  obtain ⟨⟨a0, a1, a2, a3, a4, a5, a6, a7, a8, a9, a10, z⟩, ⟨s0, s1⟩, hw⟩ := h
  have k := (bcell hb).1
  exact ⟨⟨by rw [k _ _ z]; exact a0, by rw [k _ _ z]; exact a1, by rw [k _ _ z]; exact a2, by rw [k _ _ z]; exact a3, by rw [k _ _ z]; exact a4, by rw [k _ _ z]; exact a5, by rw [k _ _ z]; exact a6, by rw [k _ _ z]; exact a7, by rw [k _ _ z]; exact a8, by rw [k _ _ z]; exact a9, by rw [k _ _ z]; exact a10, Nat.lt_of_lt_of_le z hb.size⟩, ⟨by rw [k _ _ s1]; exact s0, Nat.lt_of_lt_of_le s1 hb.size⟩, btr hw hb⟩
set_option maxHeartbeats 16000000 in
set_option maxRecDepth 100000 in
theorem write_bad (kb : Nat) (ep h u : Int) (a : Option Addr) (c : Nat) (l : List En) (epoch : Int) (o : Opd) (w : World) (hk : KpAt w kb ep h u (.slice a l.length c)) (hc : l.length ≤ c) (hs : Lies enE w a l) (h0 : ¬ wrE ep l epoch o = 0) :
    Calls Try.prog 16 #[.pointer (some ⟨kb, 0, none⟩), .int .i64 epoch, .agg #[.int .i64 o.k, .bool o.p.v, .int .u64 o.p.hi, .int .u64 o.p.lo, .int .i64 o.p.b, .bool o.a.v, .int .u64 o.a.hi, .int .u64 o.a.lo, .string o.who, .int .i64 o.pof, .int .i64 o.n]] w fun e w' => e = .returned (.int .i64 (wrE ep l epoch o)) ∧ Below w.heap.size w w' := by
  have HK1 := Lib.hid (hk.below (bal (Below.refl w.heap.size w) (.cells #[.int .i64 o.k, .bool o.p.v, .int .u64 o.p.hi, .int .u64 o.p.lo, .int .i64 o.p.b, .bool o.a.v, .int .u64 o.a.hi, .int .u64 o.a.lo, .string o.who, .int .i64 o.pof, .int .i64 o.n] 33)))
  have HB1 := Lib.hid (bal (Below.refl w.heap.size w) (.cells #[.int .i64 o.k, .bool o.p.v, .int .u64 o.p.hi, .int .u64 o.p.lo, .int .i64 o.p.b, .bool o.a.v, .int .u64 o.a.hi, .int .u64 o.a.lo, .string o.who, .int .i64 o.pof, .int .i64 o.n] 33))
  have HO1 := Lib.hid (HasL.new w [.int .i64 o.k, .bool o.p.v, .int .u64 o.p.hi, .int .u64 o.p.lo, .int .i64 o.p.b, .bool o.a.v, .int .u64 o.a.hi, .int .u64 o.a.lo, .string o.who, .int .i64 o.pof, .int .i64 o.n] 33)
  have hkl := hk.lt
  have HA : Hid (¬ addE l epoch o = 0 → ∀ W, Below w.heap.size w W → Calls Try.prog 25 #[.slice a l.length c, .int .i64 epoch, .agg #[.int .i64 o.k, .bool o.p.v, .int .u64 o.p.hi, .int .u64 o.p.lo, .int .i64 o.p.b, .bool o.a.v, .int .u64 o.a.hi, .int .u64 o.a.lo, .string o.who, .int .i64 o.pof, .int .i64 o.n]] W fun e w' => e = .returned (.tuple #[.slice none 0 0, .int .i64 (addE l epoch o)]) ∧ Below W.heap.size W w') := fun hE W hW => add_bad a c l epoch o W hc (hs.below hW) hE
  unfold wrE at *
  generalize addE l epoch o = r at *
  generalize o.k = y0 at *
  generalize o.p.v = y1 at *
  generalize o.p.hi = y2 at *
  generalize o.p.lo = y3 at *
  generalize o.p.b = y4 at *
  generalize o.a.v = y5 at *
  generalize o.a.hi = y6 at *
  generalize o.a.lo = y7 at *
  generalize o.who = y8 at *
  generalize o.pof = y9 at *
  generalize o.n = y10 at *
  generalize l.length = N at *
  clear hs hc hk
  cases b1 : (epoch != ep)
  · cases b2 : (epoch == 0)
    · rw [b1, b2] at h0
      rw [if_neg (by decide)] at h0
      rw [if_neg (by decide)]
      replace HA := Lib.hid (HA.out h0)
      have hI : (r != 0) = true := by rw [bne_iff_ne]; exact h0
      clear h0
      obtain ⟨⟨k0, k1, k2, k3⟩, g0, g1, g2, g3⟩ := HK1.out.cells
      have S0 : Hid (((w.alloc (.cells #[.int .i64 y0, .bool y1, .int .u64 y2, .int .u64 y3, .int .i64 y4, .bool y5, .int .u64 y6, .int .u64 y7, .string y8, .int .i64 y9, .int .i64 y10] 33)).cell? ⟨w.heap.size, 0, none⟩ = some (.int .i64 y0) ∧ (w.alloc (.cells #[.int .i64 y0, .bool y1, .int .u64 y2, .int .u64 y3, .int .i64 y4, .bool y5, .int .u64 y6, .int .u64 y7, .string y8, .int .i64 y9, .int .i64 y10] 33)).cell? ⟨w.heap.size, 1, none⟩ = some (.bool y1) ∧ (w.alloc (.cells #[.int .i64 y0, .bool y1, .int .u64 y2, .int .u64 y3, .int .i64 y4, .bool y5, .int .u64 y6, .int .u64 y7, .string y8, .int .i64 y9, .int .i64 y10] 33)).cell? ⟨w.heap.size, 2, none⟩ = some (.int .u64 y2) ∧ (w.alloc (.cells #[.int .i64 y0, .bool y1, .int .u64 y2, .int .u64 y3, .int .i64 y4, .bool y5, .int .u64 y6, .int .u64 y7, .string y8, .int .i64 y9, .int .i64 y10] 33)).cell? ⟨w.heap.size, 3, none⟩ = some (.int .u64 y3) ∧ (w.alloc (.cells #[.int .i64 y0, .bool y1, .int .u64 y2, .int .u64 y3, .int .i64 y4, .bool y5, .int .u64 y6, .int .u64 y7, .string y8, .int .i64 y9, .int .i64 y10] 33)).cell? ⟨w.heap.size, 4, none⟩ = some (.int .i64 y4) ∧ (w.alloc (.cells #[.int .i64 y0, .bool y1, .int .u64 y2, .int .u64 y3, .int .i64 y4, .bool y5, .int .u64 y6, .int .u64 y7, .string y8, .int .i64 y9, .int .i64 y10] 33)).cell? ⟨w.heap.size, 5, none⟩ = some (.bool y5) ∧ (w.alloc (.cells #[.int .i64 y0, .bool y1, .int .u64 y2, .int .u64 y3, .int .i64 y4, .bool y5, .int .u64 y6, .int .u64 y7, .string y8, .int .i64 y9, .int .i64 y10] 33)).cell? ⟨w.heap.size, 6, none⟩ = some (.int .u64 y6) ∧ (w.alloc (.cells #[.int .i64 y0, .bool y1, .int .u64 y2, .int .u64 y3, .int .i64 y4, .bool y5, .int .u64 y6, .int .u64 y7, .string y8, .int .i64 y9, .int .i64 y10] 33)).cell? ⟨w.heap.size, 7, none⟩ = some (.int .u64 y7) ∧ (w.alloc (.cells #[.int .i64 y0, .bool y1, .int .u64 y2, .int .u64 y3, .int .i64 y4, .bool y5, .int .u64 y6, .int .u64 y7, .string y8, .int .i64 y9, .int .i64 y10] 33)).cell? ⟨w.heap.size, 8, none⟩ = some (.string y8) ∧ (w.alloc (.cells #[.int .i64 y0, .bool y1, .int .u64 y2, .int .u64 y3, .int .i64 y4, .bool y5, .int .u64 y6, .int .u64 y7, .string y8, .int .i64 y9, .int .i64 y10] 33)).cell? ⟨w.heap.size, 9, none⟩ = some (.int .i64 y9) ∧ (w.alloc (.cells #[.int .i64 y0, .bool y1, .int .u64 y2, .int .u64 y3, .int .i64 y4, .bool y5, .int .u64 y6, .int .u64 y7, .string y8, .int .i64 y9, .int .i64 y10] 33)).cell? ⟨w.heap.size, 10, none⟩ = some (.int .i64 y10) ∧ w.heap.size < (w.alloc (.cells #[.int .i64 y0, .bool y1, .int .u64 y2, .int .u64 y3, .int .i64 y4, .bool y5, .int .u64 y6, .int .u64 y7, .string y8, .int .i64 y9, .int .i64 y10] 33)).heap.size) ∧ ((w.alloc (.cells #[.int .i64 y0, .bool y1, .int .u64 y2, .int .u64 y3, .int .i64 y4, .bool y5, .int .u64 y6, .int .u64 y7, .string y8, .int .i64 y9, .int .i64 y10] 33)).cell? ⟨kb, 3, none⟩ = some (.slice a N c) ∧ kb < (w.alloc (.cells #[.int .i64 y0, .bool y1, .int .u64 y2, .int .u64 y3, .int .i64 y4, .bool y5, .int .u64 y6, .int .u64 y7, .string y8, .int .i64 y9, .int .i64 y10] 33)).heap.size) ∧ Below w.heap.size w (w.alloc (.cells #[.int .i64 y0, .bool y1, .int .u64 y2, .int .u64 y3, .int .i64 y4, .bool y5, .int .u64 y6, .int .u64 y7, .string y8, .int .i64 y9, .int .i64 y10] 33))) := ⟨⟨HO1.out.1 0 _ rfl, HO1.out.1 1 _ rfl, HO1.out.1 2 _ rfl, HO1.out.1 3 _ rfl, HO1.out.1 4 _ rfl, HO1.out.1 5 _ rfl, HO1.out.1 6 _ rfl, HO1.out.1 7 _ rfl, HO1.out.1 8 _ rfl, HO1.out.1 9 _ rfl, HO1.out.1 10 _ rfl, HO1.out.2⟩, ⟨k3, HK1.out.lt⟩, HB1.out⟩
      have S1 : Hid (((w.alloc (.cells #[.int .i64 y0, .bool y1, .int .u64 y2, .int .u64 y3, .int .i64 y4, .bool y5, .int .u64 y6, .int .u64 y7, .string y8, .int .i64 y9, .int .i64 y10] 33)).drew.cell? ⟨w.heap.size, 0, none⟩ = some (.int .i64 y0) ∧ (w.alloc (.cells #[.int .i64 y0, .bool y1, .int .u64 y2, .int .u64 y3, .int .i64 y4, .bool y5, .int .u64 y6, .int .u64 y7, .string y8, .int .i64 y9, .int .i64 y10] 33)).drew.cell? ⟨w.heap.size, 1, none⟩ = some (.bool y1) ∧ (w.alloc (.cells #[.int .i64 y0, .bool y1, .int .u64 y2, .int .u64 y3, .int .i64 y4, .bool y5, .int .u64 y6, .int .u64 y7, .string y8, .int .i64 y9, .int .i64 y10] 33)).drew.cell? ⟨w.heap.size, 2, none⟩ = some (.int .u64 y2) ∧ (w.alloc (.cells #[.int .i64 y0, .bool y1, .int .u64 y2, .int .u64 y3, .int .i64 y4, .bool y5, .int .u64 y6, .int .u64 y7, .string y8, .int .i64 y9, .int .i64 y10] 33)).drew.cell? ⟨w.heap.size, 3, none⟩ = some (.int .u64 y3) ∧ (w.alloc (.cells #[.int .i64 y0, .bool y1, .int .u64 y2, .int .u64 y3, .int .i64 y4, .bool y5, .int .u64 y6, .int .u64 y7, .string y8, .int .i64 y9, .int .i64 y10] 33)).drew.cell? ⟨w.heap.size, 4, none⟩ = some (.int .i64 y4) ∧ (w.alloc (.cells #[.int .i64 y0, .bool y1, .int .u64 y2, .int .u64 y3, .int .i64 y4, .bool y5, .int .u64 y6, .int .u64 y7, .string y8, .int .i64 y9, .int .i64 y10] 33)).drew.cell? ⟨w.heap.size, 5, none⟩ = some (.bool y5) ∧ (w.alloc (.cells #[.int .i64 y0, .bool y1, .int .u64 y2, .int .u64 y3, .int .i64 y4, .bool y5, .int .u64 y6, .int .u64 y7, .string y8, .int .i64 y9, .int .i64 y10] 33)).drew.cell? ⟨w.heap.size, 6, none⟩ = some (.int .u64 y6) ∧ (w.alloc (.cells #[.int .i64 y0, .bool y1, .int .u64 y2, .int .u64 y3, .int .i64 y4, .bool y5, .int .u64 y6, .int .u64 y7, .string y8, .int .i64 y9, .int .i64 y10] 33)).drew.cell? ⟨w.heap.size, 7, none⟩ = some (.int .u64 y7) ∧ (w.alloc (.cells #[.int .i64 y0, .bool y1, .int .u64 y2, .int .u64 y3, .int .i64 y4, .bool y5, .int .u64 y6, .int .u64 y7, .string y8, .int .i64 y9, .int .i64 y10] 33)).drew.cell? ⟨w.heap.size, 8, none⟩ = some (.string y8) ∧ (w.alloc (.cells #[.int .i64 y0, .bool y1, .int .u64 y2, .int .u64 y3, .int .i64 y4, .bool y5, .int .u64 y6, .int .u64 y7, .string y8, .int .i64 y9, .int .i64 y10] 33)).drew.cell? ⟨w.heap.size, 9, none⟩ = some (.int .i64 y9) ∧ (w.alloc (.cells #[.int .i64 y0, .bool y1, .int .u64 y2, .int .u64 y3, .int .i64 y4, .bool y5, .int .u64 y6, .int .u64 y7, .string y8, .int .i64 y9, .int .i64 y10] 33)).drew.cell? ⟨w.heap.size, 10, none⟩ = some (.int .i64 y10) ∧ w.heap.size < (w.alloc (.cells #[.int .i64 y0, .bool y1, .int .u64 y2, .int .u64 y3, .int .i64 y4, .bool y5, .int .u64 y6, .int .u64 y7, .string y8, .int .i64 y9, .int .i64 y10] 33)).drew.heap.size) ∧ ((w.alloc (.cells #[.int .i64 y0, .bool y1, .int .u64 y2, .int .u64 y3, .int .i64 y4, .bool y5, .int .u64 y6, .int .u64 y7, .string y8, .int .i64 y9, .int .i64 y10] 33)).drew.cell? ⟨kb, 3, none⟩ = some (.slice a N c) ∧ kb < (w.alloc (.cells #[.int .i64 y0, .bool y1, .int .u64 y2, .int .u64 y3, .int .i64 y4, .bool y5, .int .u64 y6, .int .u64 y7, .string y8, .int .i64 y9, .int .i64 y10] 33)).drew.heap.size) ∧ Below w.heap.size w (w.alloc (.cells #[.int .i64 y0, .bool y1, .int .u64 y2, .int .u64 y3, .int .i64 y4, .bool y5, .int .u64 y6, .int .u64 y7, .string y8, .int .i64 y9, .int .i64 y10] 33)).drew) := ⟨S0.out.1, S0.out.2.1, S0.out.2.2.drew⟩
      clear HO1
      go_enter Try.func16, Try.ntmps16
      go_wp2_with fail
      go_region_held3 (fun w' => (w'.cell? ⟨w.heap.size, 0, none⟩ = some (.int .i64 y0) ∧ w'.cell? ⟨w.heap.size, 1, none⟩ = some (.bool y1) ∧ w'.cell? ⟨w.heap.size, 2, none⟩ = some (.int .u64 y2) ∧ w'.cell? ⟨w.heap.size, 3, none⟩ = some (.int .u64 y3) ∧ w'.cell? ⟨w.heap.size, 4, none⟩ = some (.int .i64 y4) ∧ w'.cell? ⟨w.heap.size, 5, none⟩ = some (.bool y5) ∧ w'.cell? ⟨w.heap.size, 6, none⟩ = some (.int .u64 y6) ∧ w'.cell? ⟨w.heap.size, 7, none⟩ = some (.int .u64 y7) ∧ w'.cell? ⟨w.heap.size, 8, none⟩ = some (.string y8) ∧ w'.cell? ⟨w.heap.size, 9, none⟩ = some (.int .i64 y9) ∧ w'.cell? ⟨w.heap.size, 10, none⟩ = some (.int .i64 y10) ∧ w.heap.size < w'.heap.size) ∧ (w'.cell? ⟨kb, 3, none⟩ = some (.slice a N c) ∧ kb < w'.heap.size) ∧ Below w.heap.size w w')
        (first | with_reducible exact S1.out | with_reducible exact S0.out | with_reducible exact S2.out | fail)
        ((go_at_call 25; refine (HA.out _ S1.out.2.2).mono ?_; rintro e w2 ⟨rfl, hb2⟩; have S2 := Lib.hid (keepW S1.out hb2); clear hb2))
      have HB2 := Lib.hid S2.out.2.2
      clear S1 S2 S0
      go_wp2
      go_ret
      exact ⟨rfl, HB2.out⟩
    · rw [if_pos (by simp)]
      obtain ⟨⟨k0, k1, k2, k3⟩, g0, g1, g2, g3⟩ := HK1.out.cells
      clear h0 HA
      go_enter Try.func16, Try.ntmps16
      go_wp2
      go_ret
      exact ⟨rfl, HB1.out⟩
  · rw [if_pos (by simp)]
    obtain ⟨⟨k0, k1, k2, k3⟩, g0, g1, g2, g3⟩ := HK1.out.cells
    clear h0 HA
    go_enter Try.func16, Try.ntmps16
    go_wp2
    go_ret
    exact ⟨rfl, HB1.out⟩
set_option maxHeartbeats 16000000 in
set_option maxRecDepth 100000 in
theorem write_ok (kb : Nat) (ep h u : Int) (a : Option Addr) (c : Nat) (l : List En) (epoch : Int) (o : Opd) (w : World) (hk : KpAt w kb ep h u (.slice a l.length c)) (hc : l.length ≤ c) (hs : Lies enE w a l) (h0 : wrE ep l epoch o = 0) :
    Calls Try.prog 16 #[.pointer (some ⟨kb, 0, none⟩), .int .i64 epoch, .agg #[.int .i64 o.k, .bool o.p.v, .int .u64 o.p.hi, .int .u64 o.p.lo, .int .i64 o.p.b, .bool o.a.v, .int .u64 o.a.hi, .int .u64 o.a.lo, .string o.who, .int .i64 o.pof, .int .i64 o.n]] w fun e w' => e = .returned (.int .i64 0) ∧ ∃ a' c', KpAt w' kb ep h u (.slice a' (l.length + 1) c') ∧ w'.ownsRow w.heap.size 51 enE.k (.slice a' (l.length + 1) c') (l.length + 1) (rowOf enE (l ++ [newE l epoch o])) ∧ Below kb w w' := by
  have HK1 := Lib.hid (hk.below (bal (Below.refl w.heap.size w) (.cells #[.int .i64 o.k, .bool o.p.v, .int .u64 o.p.hi, .int .u64 o.p.lo, .int .i64 o.p.b, .bool o.a.v, .int .u64 o.a.hi, .int .u64 o.a.lo, .string o.who, .int .i64 o.pof, .int .i64 o.n] 33)))
  have HB1 := Lib.hid (bal (Below.refl w.heap.size w) (.cells #[.int .i64 o.k, .bool o.p.v, .int .u64 o.p.hi, .int .u64 o.p.lo, .int .i64 o.p.b, .bool o.a.v, .int .u64 o.a.hi, .int .u64 o.a.lo, .string o.who, .int .i64 o.pof, .int .i64 o.n] 33))
  have HO1 := Lib.hid (HasL.new w [.int .i64 o.k, .bool o.p.v, .int .u64 o.p.hi, .int .u64 o.p.lo, .int .i64 o.p.b, .bool o.a.v, .int .u64 o.a.hi, .int .u64 o.a.lo, .string o.who, .int .i64 o.pof, .int .i64 o.n] 33)
  have hkl := hk.lt
  have hb : ((epoch != ep) || (epoch == 0)) = false := by
    cases hh : ((epoch != ep) || (epoch == 0))
    · rfl
    · unfold wrE at h0; rw [if_pos hh] at h0; exact absurd h0 (by decide)
  have hE : addE l epoch o = 0 := by unfold wrE at h0; rw [hb, if_neg (by decide)] at h0; exact h0
  rw [Bool.or_eq_false_iff] at hb
  obtain ⟨b1, b2⟩ := hb
  have HA : Hid (∀ W, Below w.heap.size w W → Calls Try.prog 25 #[.slice a l.length c, .int .i64 epoch, .agg #[.int .i64 o.k, .bool o.p.v, .int .u64 o.p.hi, .int .u64 o.p.lo, .int .i64 o.p.b, .bool o.a.v, .int .u64 o.a.hi, .int .u64 o.a.lo, .string o.who, .int .i64 o.pof, .int .i64 o.n]] W fun e w' => ∃ a' c', e = .returned (.tuple #[.slice a' (l.length + 1) c', .int .i64 0]) ∧ w'.ownsRow W.heap.size 51 enE.k (.slice a' (l.length + 1) c') (l.length + 1) (rowOf enE (l ++ [newE l epoch o])) ∧ Below W.heap.size W w') := fun W hW => (add_ok a c l epoch o W hc (hs.below hW) hE).mono fun e w' h => by
    obtain ⟨v', h1, h2, h3⟩ := h
    rw [show (l ++ [newE l epoch o]).length = l.length + 1 by simp] at h2
    obtain ⟨a', c', rfl⟩ := own_slice h2
    exact ⟨a', c', h1, h2, h3⟩
  have hkn : ∀ k, k < w.heap.size → k ≠ kb → True := fun _ _ _ => trivial
  generalize rowOf enE (l ++ [newE l epoch o]) = row at *
  clear h0 hE
  generalize o.k = y0 at *
  generalize o.p.v = y1 at *
  generalize o.p.hi = y2 at *
  generalize o.p.lo = y3 at *
  generalize o.p.b = y4 at *
  generalize o.a.v = y5 at *
  generalize o.a.hi = y6 at *
  generalize o.a.lo = y7 at *
  generalize o.who = y8 at *
  generalize o.pof = y9 at *
  generalize o.n = y10 at *
  generalize l.length = N at *
  clear hs hc hk hkn
  obtain ⟨⟨k0, k1, k2, k3⟩, g0, g1, g2, g3⟩ := HK1.out.cells
  have S0 : Hid (((w.alloc (.cells #[.int .i64 y0, .bool y1, .int .u64 y2, .int .u64 y3, .int .i64 y4, .bool y5, .int .u64 y6, .int .u64 y7, .string y8, .int .i64 y9, .int .i64 y10] 33)).cell? ⟨w.heap.size, 0, none⟩ = some (.int .i64 y0) ∧ (w.alloc (.cells #[.int .i64 y0, .bool y1, .int .u64 y2, .int .u64 y3, .int .i64 y4, .bool y5, .int .u64 y6, .int .u64 y7, .string y8, .int .i64 y9, .int .i64 y10] 33)).cell? ⟨w.heap.size, 1, none⟩ = some (.bool y1) ∧ (w.alloc (.cells #[.int .i64 y0, .bool y1, .int .u64 y2, .int .u64 y3, .int .i64 y4, .bool y5, .int .u64 y6, .int .u64 y7, .string y8, .int .i64 y9, .int .i64 y10] 33)).cell? ⟨w.heap.size, 2, none⟩ = some (.int .u64 y2) ∧ (w.alloc (.cells #[.int .i64 y0, .bool y1, .int .u64 y2, .int .u64 y3, .int .i64 y4, .bool y5, .int .u64 y6, .int .u64 y7, .string y8, .int .i64 y9, .int .i64 y10] 33)).cell? ⟨w.heap.size, 3, none⟩ = some (.int .u64 y3) ∧ (w.alloc (.cells #[.int .i64 y0, .bool y1, .int .u64 y2, .int .u64 y3, .int .i64 y4, .bool y5, .int .u64 y6, .int .u64 y7, .string y8, .int .i64 y9, .int .i64 y10] 33)).cell? ⟨w.heap.size, 4, none⟩ = some (.int .i64 y4) ∧ (w.alloc (.cells #[.int .i64 y0, .bool y1, .int .u64 y2, .int .u64 y3, .int .i64 y4, .bool y5, .int .u64 y6, .int .u64 y7, .string y8, .int .i64 y9, .int .i64 y10] 33)).cell? ⟨w.heap.size, 5, none⟩ = some (.bool y5) ∧ (w.alloc (.cells #[.int .i64 y0, .bool y1, .int .u64 y2, .int .u64 y3, .int .i64 y4, .bool y5, .int .u64 y6, .int .u64 y7, .string y8, .int .i64 y9, .int .i64 y10] 33)).cell? ⟨w.heap.size, 6, none⟩ = some (.int .u64 y6) ∧ (w.alloc (.cells #[.int .i64 y0, .bool y1, .int .u64 y2, .int .u64 y3, .int .i64 y4, .bool y5, .int .u64 y6, .int .u64 y7, .string y8, .int .i64 y9, .int .i64 y10] 33)).cell? ⟨w.heap.size, 7, none⟩ = some (.int .u64 y7) ∧ (w.alloc (.cells #[.int .i64 y0, .bool y1, .int .u64 y2, .int .u64 y3, .int .i64 y4, .bool y5, .int .u64 y6, .int .u64 y7, .string y8, .int .i64 y9, .int .i64 y10] 33)).cell? ⟨w.heap.size, 8, none⟩ = some (.string y8) ∧ (w.alloc (.cells #[.int .i64 y0, .bool y1, .int .u64 y2, .int .u64 y3, .int .i64 y4, .bool y5, .int .u64 y6, .int .u64 y7, .string y8, .int .i64 y9, .int .i64 y10] 33)).cell? ⟨w.heap.size, 9, none⟩ = some (.int .i64 y9) ∧ (w.alloc (.cells #[.int .i64 y0, .bool y1, .int .u64 y2, .int .u64 y3, .int .i64 y4, .bool y5, .int .u64 y6, .int .u64 y7, .string y8, .int .i64 y9, .int .i64 y10] 33)).cell? ⟨w.heap.size, 10, none⟩ = some (.int .i64 y10) ∧ w.heap.size < (w.alloc (.cells #[.int .i64 y0, .bool y1, .int .u64 y2, .int .u64 y3, .int .i64 y4, .bool y5, .int .u64 y6, .int .u64 y7, .string y8, .int .i64 y9, .int .i64 y10] 33)).heap.size) ∧ ((w.alloc (.cells #[.int .i64 y0, .bool y1, .int .u64 y2, .int .u64 y3, .int .i64 y4, .bool y5, .int .u64 y6, .int .u64 y7, .string y8, .int .i64 y9, .int .i64 y10] 33)).cell? ⟨kb, 3, none⟩ = some (.slice a N c) ∧ kb < (w.alloc (.cells #[.int .i64 y0, .bool y1, .int .u64 y2, .int .u64 y3, .int .i64 y4, .bool y5, .int .u64 y6, .int .u64 y7, .string y8, .int .i64 y9, .int .i64 y10] 33)).heap.size) ∧ Below w.heap.size w (w.alloc (.cells #[.int .i64 y0, .bool y1, .int .u64 y2, .int .u64 y3, .int .i64 y4, .bool y5, .int .u64 y6, .int .u64 y7, .string y8, .int .i64 y9, .int .i64 y10] 33))) := ⟨⟨HO1.out.1 0 _ rfl, HO1.out.1 1 _ rfl, HO1.out.1 2 _ rfl, HO1.out.1 3 _ rfl, HO1.out.1 4 _ rfl, HO1.out.1 5 _ rfl, HO1.out.1 6 _ rfl, HO1.out.1 7 _ rfl, HO1.out.1 8 _ rfl, HO1.out.1 9 _ rfl, HO1.out.1 10 _ rfl, HO1.out.2⟩, ⟨k3, HK1.out.lt⟩, HB1.out⟩
  have S1 : Hid (((w.alloc (.cells #[.int .i64 y0, .bool y1, .int .u64 y2, .int .u64 y3, .int .i64 y4, .bool y5, .int .u64 y6, .int .u64 y7, .string y8, .int .i64 y9, .int .i64 y10] 33)).drew.cell? ⟨w.heap.size, 0, none⟩ = some (.int .i64 y0) ∧ (w.alloc (.cells #[.int .i64 y0, .bool y1, .int .u64 y2, .int .u64 y3, .int .i64 y4, .bool y5, .int .u64 y6, .int .u64 y7, .string y8, .int .i64 y9, .int .i64 y10] 33)).drew.cell? ⟨w.heap.size, 1, none⟩ = some (.bool y1) ∧ (w.alloc (.cells #[.int .i64 y0, .bool y1, .int .u64 y2, .int .u64 y3, .int .i64 y4, .bool y5, .int .u64 y6, .int .u64 y7, .string y8, .int .i64 y9, .int .i64 y10] 33)).drew.cell? ⟨w.heap.size, 2, none⟩ = some (.int .u64 y2) ∧ (w.alloc (.cells #[.int .i64 y0, .bool y1, .int .u64 y2, .int .u64 y3, .int .i64 y4, .bool y5, .int .u64 y6, .int .u64 y7, .string y8, .int .i64 y9, .int .i64 y10] 33)).drew.cell? ⟨w.heap.size, 3, none⟩ = some (.int .u64 y3) ∧ (w.alloc (.cells #[.int .i64 y0, .bool y1, .int .u64 y2, .int .u64 y3, .int .i64 y4, .bool y5, .int .u64 y6, .int .u64 y7, .string y8, .int .i64 y9, .int .i64 y10] 33)).drew.cell? ⟨w.heap.size, 4, none⟩ = some (.int .i64 y4) ∧ (w.alloc (.cells #[.int .i64 y0, .bool y1, .int .u64 y2, .int .u64 y3, .int .i64 y4, .bool y5, .int .u64 y6, .int .u64 y7, .string y8, .int .i64 y9, .int .i64 y10] 33)).drew.cell? ⟨w.heap.size, 5, none⟩ = some (.bool y5) ∧ (w.alloc (.cells #[.int .i64 y0, .bool y1, .int .u64 y2, .int .u64 y3, .int .i64 y4, .bool y5, .int .u64 y6, .int .u64 y7, .string y8, .int .i64 y9, .int .i64 y10] 33)).drew.cell? ⟨w.heap.size, 6, none⟩ = some (.int .u64 y6) ∧ (w.alloc (.cells #[.int .i64 y0, .bool y1, .int .u64 y2, .int .u64 y3, .int .i64 y4, .bool y5, .int .u64 y6, .int .u64 y7, .string y8, .int .i64 y9, .int .i64 y10] 33)).drew.cell? ⟨w.heap.size, 7, none⟩ = some (.int .u64 y7) ∧ (w.alloc (.cells #[.int .i64 y0, .bool y1, .int .u64 y2, .int .u64 y3, .int .i64 y4, .bool y5, .int .u64 y6, .int .u64 y7, .string y8, .int .i64 y9, .int .i64 y10] 33)).drew.cell? ⟨w.heap.size, 8, none⟩ = some (.string y8) ∧ (w.alloc (.cells #[.int .i64 y0, .bool y1, .int .u64 y2, .int .u64 y3, .int .i64 y4, .bool y5, .int .u64 y6, .int .u64 y7, .string y8, .int .i64 y9, .int .i64 y10] 33)).drew.cell? ⟨w.heap.size, 9, none⟩ = some (.int .i64 y9) ∧ (w.alloc (.cells #[.int .i64 y0, .bool y1, .int .u64 y2, .int .u64 y3, .int .i64 y4, .bool y5, .int .u64 y6, .int .u64 y7, .string y8, .int .i64 y9, .int .i64 y10] 33)).drew.cell? ⟨w.heap.size, 10, none⟩ = some (.int .i64 y10) ∧ w.heap.size < (w.alloc (.cells #[.int .i64 y0, .bool y1, .int .u64 y2, .int .u64 y3, .int .i64 y4, .bool y5, .int .u64 y6, .int .u64 y7, .string y8, .int .i64 y9, .int .i64 y10] 33)).drew.heap.size) ∧ ((w.alloc (.cells #[.int .i64 y0, .bool y1, .int .u64 y2, .int .u64 y3, .int .i64 y4, .bool y5, .int .u64 y6, .int .u64 y7, .string y8, .int .i64 y9, .int .i64 y10] 33)).drew.cell? ⟨kb, 3, none⟩ = some (.slice a N c) ∧ kb < (w.alloc (.cells #[.int .i64 y0, .bool y1, .int .u64 y2, .int .u64 y3, .int .i64 y4, .bool y5, .int .u64 y6, .int .u64 y7, .string y8, .int .i64 y9, .int .i64 y10] 33)).drew.heap.size) ∧ Below w.heap.size w (w.alloc (.cells #[.int .i64 y0, .bool y1, .int .u64 y2, .int .u64 y3, .int .i64 y4, .bool y5, .int .u64 y6, .int .u64 y7, .string y8, .int .i64 y9, .int .i64 y10] 33)).drew) := ⟨S0.out.1, S0.out.2.1, S0.out.2.2.drew⟩
  clear HO1
  go_enter Try.func16, Try.ntmps16
  go_wp2_with fail
  go_region_held3 (fun w' => (w'.cell? ⟨w.heap.size, 0, none⟩ = some (.int .i64 y0) ∧ w'.cell? ⟨w.heap.size, 1, none⟩ = some (.bool y1) ∧ w'.cell? ⟨w.heap.size, 2, none⟩ = some (.int .u64 y2) ∧ w'.cell? ⟨w.heap.size, 3, none⟩ = some (.int .u64 y3) ∧ w'.cell? ⟨w.heap.size, 4, none⟩ = some (.int .i64 y4) ∧ w'.cell? ⟨w.heap.size, 5, none⟩ = some (.bool y5) ∧ w'.cell? ⟨w.heap.size, 6, none⟩ = some (.int .u64 y6) ∧ w'.cell? ⟨w.heap.size, 7, none⟩ = some (.int .u64 y7) ∧ w'.cell? ⟨w.heap.size, 8, none⟩ = some (.string y8) ∧ w'.cell? ⟨w.heap.size, 9, none⟩ = some (.int .i64 y9) ∧ w'.cell? ⟨w.heap.size, 10, none⟩ = some (.int .i64 y10) ∧ w.heap.size < w'.heap.size) ∧ (w'.cell? ⟨kb, 3, none⟩ = some (.slice a N c) ∧ kb < w'.heap.size) ∧ Below w.heap.size w w')
    (first | with_reducible exact S1.out | with_reducible exact S0.out | with_reducible exact S2.out | fail)
    ((go_at_call 25; refine (HA.out _ S1.out.2.2).mono ?_; rintro e w2 ⟨a', c', rfl, ho, hb2⟩; have S2 := Lib.hid (keepW S1.out hb2); have HO2 := Lib.hid ho; have HK2 := Lib.hid (HK1.out.below ((Below.refl _ _).drew.trans hb2)); clear hb2 ho))
  obtain ⟨⟨k0, k1, k2, k3⟩, g0, g1, g2, g3⟩ := HK2.out.cells
  have HB2 := Lib.hid S2.out.2.2
  clear S1 S2 S0
  go_wp2
  go_ret
  exact ⟨rfl, a', c', HK2.out.put3 _, own_st (row_base HO2.out (by simp)) hkl _, ((HB2.out).mono (Nat.le_of_lt hkl)).setCell (Nat.le_refl _) _⟩
end Go.Proofs.Ytjainfehlbfiaaa
