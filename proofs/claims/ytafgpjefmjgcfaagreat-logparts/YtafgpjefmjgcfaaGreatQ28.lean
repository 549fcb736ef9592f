/- The law's do: ops, one by one, that are all done. -/
import Derived.Test.YtafgpjefmjgcfaaGreatQ27
set_option linter.unusedVariables false
set_option linter.unusedSimpArgs false
namespace Go.Proofs.YtafgpjefmjgcfaaGreat
open Go.RowKit

def opE : Enc Opd := ⟨11, fun x => [.int .i64 x.k, .bool x.p.v, .int .u64 x.p.hi, .int .u64 x.p.lo, .int .i64 x.p.b, .bool x.a.v, .int .u64 x.a.hi, .int .u64 x.a.lo, .string x.who, .int .i64 x.pof, .int .i64 x.n], by decide, fun _ => rfl, fun x u hu => by simp at hu; rcases hu with rfl | rfl | rfl | rfl | rfl | rfl | rfl | rfl | rfl | rfl | rfl <;> rfl⟩
theorem Lies.op {w : World} {a : Option Addr} {l : List Opd} (h : Lies opE w a l) (j : Nat) (hj : j < l.length) : ∃ g o : Nat, a = some ⟨g, o, none⟩ ∧ g < w.heap.size ∧ w.cell? ⟨g, o + j * 11, none⟩ = some (.int .i64 l[j].k) ∧ w.cell? ⟨g, o + j * 11 + 1, none⟩ = some (.bool l[j].p.v) ∧ w.cell? ⟨g, o + j * 11 + 2, none⟩ = some (.int .u64 l[j].p.hi) ∧ w.cell? ⟨g, o + j * 11 + 3, none⟩ = some (.int .u64 l[j].p.lo) ∧ w.cell? ⟨g, o + j * 11 + 4, none⟩ = some (.int .i64 l[j].p.b) ∧ w.cell? ⟨g, o + j * 11 + 5, none⟩ = some (.bool l[j].a.v) ∧ w.cell? ⟨g, o + j * 11 + 6, none⟩ = some (.int .u64 l[j].a.hi) ∧ w.cell? ⟨g, o + j * 11 + 7, none⟩ = some (.int .u64 l[j].a.lo) ∧ w.cell? ⟨g, o + j * 11 + 8, none⟩ = some (.string l[j].who) ∧ w.cell? ⟨g, o + j * 11 + 9, none⟩ = some (.int .i64 l[j].pof) ∧ w.cell? ⟨g, o + j * 11 + 10, none⟩ = some (.int .i64 l[j].n) := by
  obtain ⟨g, o, e, hg, ch⟩ := h j hj
  exact ⟨g, o, e, hg, ch 0 _ rfl, ch 1 _ rfl, ch 2 _ rfl, ch 3 _ rfl, ch 4 _ rfl, ch 5 _ rfl, ch 6 _ rfl, ch 7 _ rfl, ch 8 _ rfl, ch 9 _ rfl, ch 10 _ rfl⟩
set_option maxHeartbeats 32000000 in
set_option maxRecDepth 100000 in
theorem ldo_ok (l : List Opd) (a : Option Addr) (c : Nat) (w : World) (st : Nat → Sta) (ad : Nat → Ad) (h0 : st 0 = zSta ∧ ad 0 = zeroAd) (hok : ∀ k (h : k < l.length), doAll (st k) l[k] = (0, ad (k + 1), st (k + 1))) (hs : Lies opE w a l) (hl : l.length ≤ 100) :
    Calls Tryz.prog 33 #[.slice a l.length c] w fun e w' => ∃ (a5 a6 : Option Addr) (n5 c5 n6 c6 : Nat), e = .returned (.tuple #[.agg #[.slice a5 n5 c5, .slice a6 n6 c6, .int .i64 (st l.length).now], .agg #[.bool (ad l.length).v, .int .u64 (ad l.length).hi, .int .u64 (ad l.length).lo], .int .i64 0]) ∧ Rd w' w.heap.size (st l.length) a5 n5 c5 a6 n6 c6 (st l.length).now ∧ Below w.heap.size w w' := by
  have HL := Lib.hid hs
  have HK := Lib.hid hok
  have H0 := Lib.hid h0
  obtain ⟨N, hN⟩ : ∃ N, N = l.length := ⟨_, rfl⟩
  have HN : Hid (N = l.length) := hN
  rw [← hN] at hl ⊢
  clear hs hok h0 hN
  have hW0 : Hid (Blk ((((w.alloc (.cells #[.slice none 0 0, .slice none 0 0, .int .i64 0] 36)).alloc (.cells #[.bool false, .int .u64 0, .int .u64 0] 25)).alloc (.cells #[.slice none 0 0, .slice none 0 0, .int .i64 0] 36)).alloc (.cells #[.bool false, .int .u64 0, .int .u64 0] 25)) (w.heap.size + 1 + 1) 36 [.slice none 0 0, .slice none 0 0, .int .i64 0] ∧ Blk ((((w.alloc (.cells #[.slice none 0 0, .slice none 0 0, .int .i64 0] 36)).alloc (.cells #[.bool false, .int .u64 0, .int .u64 0] 25)).alloc (.cells #[.slice none 0 0, .slice none 0 0, .int .i64 0] 36)).alloc (.cells #[.bool false, .int .u64 0, .int .u64 0] 25)) (w.heap.size + 1 + 1 + 1) 25 [.bool false, .int .u64 0, .int .u64 0] ∧ Blk ((((w.alloc (.cells #[.slice none 0 0, .slice none 0 0, .int .i64 0] 36)).alloc (.cells #[.bool false, .int .u64 0, .int .u64 0] 25)).alloc (.cells #[.slice none 0 0, .slice none 0 0, .int .i64 0] 36)).alloc (.cells #[.bool false, .int .u64 0, .int .u64 0] 25)) w.heap.size 36 [.slice none 0 0, .slice none 0 0, .int .i64 0] ∧ Blk ((((w.alloc (.cells #[.slice none 0 0, .slice none 0 0, .int .i64 0] 36)).alloc (.cells #[.bool false, .int .u64 0, .int .u64 0] 25)).alloc (.cells #[.slice none 0 0, .slice none 0 0, .int .i64 0] 36)).alloc (.cells #[.bool false, .int .u64 0, .int .u64 0] 25)) (w.heap.size + 1) 25 [.bool false, .int .u64 0, .int .u64 0] ∧ Below w.heap.size w ((((w.alloc (.cells #[.slice none 0 0, .slice none 0 0, .int .i64 0] 36)).alloc (.cells #[.bool false, .int .u64 0, .int .u64 0] 25)).alloc (.cells #[.slice none 0 0, .slice none 0 0, .int .i64 0] 36)).alloc (.cells #[.bool false, .int .u64 0, .int .u64 0] 25))) := by
    have h1 := Blk.new w [.slice none 0 0, .slice none 0 0, .int .i64 0] 36
    have h2 := Blk.new (w.alloc (.cells [.slice none 0 0, .slice none 0 0, .int .i64 0].toArray 36)) [.bool false, .int .u64 0, .int .u64 0] 25
    have h3 := Blk.new ((w.alloc (.cells [.slice none 0 0, .slice none 0 0, .int .i64 0].toArray 36)).alloc (.cells [.bool false, .int .u64 0, .int .u64 0].toArray 25)) [.slice none 0 0, .slice none 0 0, .int .i64 0] 36
    have h4 := Blk.new (((w.alloc (.cells [.slice none 0 0, .slice none 0 0, .int .i64 0].toArray 36)).alloc (.cells [.bool false, .int .u64 0, .int .u64 0].toArray 25)).alloc (.cells [.slice none 0 0, .slice none 0 0, .int .i64 0].toArray 36)) [.bool false, .int .u64 0, .int .u64 0] 25
    have e1 : (w.alloc (.cells [.slice none 0 0, .slice none 0 0, .int .i64 0].toArray 36)).heap.size = w.heap.size + 1 := by simp
    have e2 : ((w.alloc (.cells [.slice none 0 0, .slice none 0 0, .int .i64 0].toArray 36)).alloc (.cells [.bool false, .int .u64 0, .int .u64 0].toArray 25)).heap.size = w.heap.size + 1 + 1 := by simp
    have e3 : (((w.alloc (.cells [.slice none 0 0, .slice none 0 0, .int .i64 0].toArray 36)).alloc (.cells [.bool false, .int .u64 0, .int .u64 0].toArray 25)).alloc (.cells [.slice none 0 0, .slice none 0 0, .int .i64 0].toArray 36)).heap.size = w.heap.size + 1 + 1 + 1 := by simp
    rw [e1] at h2; rw [e2] at h3; rw [e3] at h4
    exact ⟨h3.al _, h4, ((h1.al _).al _).al _, (h2.al _).al _, bal (bal (bal (bal (Below.refl _ _) _) _) _) _⟩
  go_enter Tryz.func33, Tryz.ntmps33
  go_wp2_with fail
  go_loopw [7] (fun vi wr => ∃ (k : Nat) (a1 : Option Addr) (n1 c1 : Nat) (a2 : Option Addr) (n2 c2 : Nat), vi = .int .i64 k ∧ k ≤ N ∧ Hid (Blk wr (w.heap.size + 1 + 1) 36 [.slice a1 n1 c1, .slice a2 n2 c2, .int .i64 (st k).now] ∧ Blk wr (w.heap.size + 1 + 1 + 1) 25 [.bool (ad k).v, .int .u64 (ad k).hi, .int .u64 (ad k).lo] ∧ Blk wr w.heap.size 36 [.slice none 0 0, .slice none 0 0, .int .i64 0] ∧ Blk wr (w.heap.size + 1) 25 [.bool false, .int .u64 0, .int .u64 0] ∧ Below w.heap.size w wr ∧ Rd wr (w.heap.size + 4) (st k) a1 n1 c1 a2 n2 c2 (st k).now))
    (fun vi _ => N - (intOf vi).toNat)
  case atStart =>
    refine ⟨0, none, 0, 0, none, 0, 0, rfl, Nat.zero_le _, ?_⟩
    rw [H0.out.1, H0.out.2]
    exact ⟨hW0.out.1, hW0.out.2.1, hW0.out.2.2.1, hW0.out.2.2.2.1, hW0.out.2.2.2.2, [], rfl, rfl, rfl, rfl, ownR_nil _ _⟩
  case round =>
    obtain ⟨k, a1, n1, c1, a2, n2, c2, rfl, hk, hI⟩ := hrel
    clear hW0 H0
    obtain ⟨wo, hwo⟩ : ∃ W, W = wr := ⟨_, rfl⟩
    subst hwo
    by_cases hkN : k < N
    · have hkl : k < l.length := by have := HN.out; omega
      obtain ⟨g, o, rfl, hg, o0, o1, o2, o3, o4, o5, o6, o7, o8, o9, o10⟩ := HL.out.op k hkl
      have HR := Lib.hid (HK.out k hkl)
      have hbw := hI.out.2.2.2.2.1
      have hgo := Lib.hid (show g < wo.heap.size from Nat.lt_of_lt_of_le hg hbw.size)
      have HOp : Hid (∀ W : World, Below wo.heap.size wo W → W.cell? ⟨g, o + k * 11, none⟩ = some (.int .i64 l[k].k) ∧ W.cell? ⟨g, o + k * 11 + 1, none⟩ = some (.bool l[k].p.v) ∧ W.cell? ⟨g, o + k * 11 + 2, none⟩ = some (.int .u64 l[k].p.hi) ∧ W.cell? ⟨g, o + k * 11 + 3, none⟩ = some (.int .u64 l[k].p.lo) ∧ W.cell? ⟨g, o + k * 11 + 4, none⟩ = some (.int .i64 l[k].p.b) ∧ W.cell? ⟨g, o + k * 11 + 5, none⟩ = some (.bool l[k].a.v) ∧ W.cell? ⟨g, o + k * 11 + 6, none⟩ = some (.int .u64 l[k].a.hi) ∧ W.cell? ⟨g, o + k * 11 + 7, none⟩ = some (.int .u64 l[k].a.lo) ∧ W.cell? ⟨g, o + k * 11 + 8, none⟩ = some (.string l[k].who) ∧ W.cell? ⟨g, o + k * 11 + 9, none⟩ = some (.int .i64 l[k].pof) ∧ W.cell? ⟨g, o + k * 11 + 10, none⟩ = some (.int .i64 l[k].n)) := fun W hW => by
        have e : ∀ j, W.cell? ⟨g, j, none⟩ = w.cell? ⟨g, j, none⟩ := fun j => ((bcell hW).1 _ _ hgo.out).trans ((bcell hbw).1 _ _ hg)
        exact ⟨(e _).trans o0, (e _).trans o1, (e _).trans o2, (e _).trans o3, (e _).trans o4, (e _).trans o5, (e _).trans o6, (e _).trans o7, (e _).trans o8, (e _).trans o9, (e _).trans o10⟩
      have HDo : Hid (∀ W : World, Below wo.heap.size wo W → Calls Tryz.prog 20 #[.agg #[.slice a1 n1 c1, .slice a2 n2 c2, .int .i64 (st k).now], .agg #[.int .i64 l[k].k, .bool l[k].p.v, .int .u64 l[k].p.hi, .int .u64 l[k].p.lo, .int .i64 l[k].p.b, .bool l[k].a.v, .int .u64 l[k].a.hi, .int .u64 l[k].a.lo, .string l[k].who, .int .i64 l[k].pof, .int .i64 l[k].n]] W fun e w' => ∃ (a5 a6 : Option Addr) (n5 c5 n6 c6 : Nat), e = .returned (.tuple #[.agg #[.slice a5 n5 c5, .slice a6 n6 c6, .int .i64 (st (k + 1)).now], .agg #[.bool (ad (k + 1)).v, .int .u64 (ad (k + 1)).hi, .int .u64 (ad (k + 1)).lo], .int .i64 0]) ∧ Rd w' W.heap.size (st (k + 1)) a5 n5 c5 a6 n6 c6 (st (k + 1)).now ∧ Below W.heap.size W w') := fun W hW => by
        have := (hI.out.2.2.2.2.2.keep hW).do_ l[k]
        rw [HR.out] at this
        exact this
      have HS1 := Lib.hid hI.out.1
      have HA1 := Lib.hid hI.out.2.1
      have HS0 := Lib.hid hI.out.2.2.1
      have HA0 := Lib.hid hI.out.2.2.2.1
      have HBo := Lib.hid hbw
      have HSS : Hid (∀ W : World, Below wo.heap.size wo W → ((W.cell? ⟨w.heap.size + 1 + 1, 0, none⟩ = some (.slice a1 n1 c1) ∧ W.cell? ⟨w.heap.size + 1 + 1, 1, none⟩ = some (.slice a2 n2 c2) ∧ W.cell? ⟨w.heap.size + 1 + 1, 2, none⟩ = some (.int .i64 (st k).now) ∧ W.cell? ⟨g, o + k * 11, none⟩ = some (.int .i64 l[k].k) ∧ W.cell? ⟨g, o + k * 11 + 1, none⟩ = some (.bool l[k].p.v) ∧ W.cell? ⟨g, o + k * 11 + 2, none⟩ = some (.int .u64 l[k].p.hi) ∧ W.cell? ⟨g, o + k * 11 + 3, none⟩ = some (.int .u64 l[k].p.lo) ∧ W.cell? ⟨g, o + k * 11 + 4, none⟩ = some (.int .i64 l[k].p.b) ∧ W.cell? ⟨g, o + k * 11 + 5, none⟩ = some (.bool l[k].a.v) ∧ W.cell? ⟨g, o + k * 11 + 6, none⟩ = some (.int .u64 l[k].a.hi) ∧ W.cell? ⟨g, o + k * 11 + 7, none⟩ = some (.int .u64 l[k].a.lo) ∧ W.cell? ⟨g, o + k * 11 + 8, none⟩ = some (.string l[k].who) ∧ W.cell? ⟨g, o + k * 11 + 9, none⟩ = some (.int .i64 l[k].pof) ∧ W.cell? ⟨g, o + k * 11 + 10, none⟩ = some (.int .i64 l[k].n)) ∧ Below wo.heap.size wo W)) := fun W hW => ⟨⟨(HS1.out.below hW).cell 0 _ rfl, (HS1.out.below hW).cell 1 _ rfl, (HS1.out.below hW).cell 2 _ rfl, HOp.out W hW⟩, hW⟩
      obtain ⟨s0, s1, s2, p0, p1, p2, p3, p4, p5, p6, p7, p8, p9, p10⟩ := (HSS.out wo (Below.refl _ _)).1
      have hkz : (k : Int) < (N : Int) := by omega
      have hk0 : (0 : Int) ≤ (k : Int) := by omega
      have hkw : IntKind.i64.wrap ((k : Int) + 1) = (k : Int) + 1 := by rw [IntKind.wrap_i64]; omega
      clear hI hbw o0 o1 o2 o3 o4 o5 o6 o7 o8 o9 o10 hg HR HOp
      generalize hov : (ad (k + 1)).v = ov at *
      generalize hoh : (ad (k + 1)).hi = oh at *
      generalize hol : (ad (k + 1)).lo = ol at *
      generalize (ad k).v = bv at *
      generalize (ad k).hi = bh at *
      generalize (ad k).lo = bl at *
      generalize (st k).now = now at *
      generalize hnowp : (st (k + 1)).now = now' at *
      have Hov := Lib.hid hov
      have Hoh := Lib.hid hoh
      have Hol := Lib.hid hol
      have Hnp := Lib.hid hnowp
      clear hov hoh hol hnowp
      generalize l[k].k = y0 at *
      generalize l[k].p.v = y1 at *
      generalize l[k].p.hi = y2 at *
      generalize l[k].p.lo = y3 at *
      generalize l[k].p.b = y4 at *
      generalize l[k].a.v = y5 at *
      generalize l[k].a.hi = y6 at *
      generalize l[k].a.lo = y7 at *
      generalize l[k].who = y8 at *
      generalize l[k].pof = y9 at *
      generalize l[k].n = y10 at *
      go_wp2_with fail
      go_cut [8, 9, 10] from 11 to 33 (fun v8 v9 v10 wc => ∃ (qS qA : Nat) (a5 : Option Addr) (n5 c5 : Nat) (a6 : Option Addr) (n6 c6 : Nat), v8 = .pointer (some ⟨qS, 0, none⟩) ∧ v9 = .pointer (some ⟨qA, 0, none⟩) ∧ v10 = .int .i64 0 ∧ Hid (Blk wc qS 36 [.slice a5 n5 c5, .slice a6 n6 c6, .int .i64 now'] ∧ Blk wc qA 25 [.bool ov, .int .u64 oh, .int .u64 ol] ∧ Rd wc wo.heap.size (st (k + 1)) a5 n5 c5 a6 n6 c6 now' ∧ Below wo.heap.size wo wc ∧ wo.heap.size ≤ qS ∧ wo.heap.size ≤ qA))
      case first =>
        go_wp2_with fail
        go_region_held3 (fun w' => ((w'.cell? ⟨w.heap.size + 1 + 1, 0, none⟩ = some (.slice a1 n1 c1) ∧ w'.cell? ⟨w.heap.size + 1 + 1, 1, none⟩ = some (.slice a2 n2 c2) ∧ w'.cell? ⟨w.heap.size + 1 + 1, 2, none⟩ = some (.int .i64 now) ∧ w'.cell? ⟨g, o + k * 11, none⟩ = some (.int .i64 y0) ∧ w'.cell? ⟨g, o + k * 11 + 1, none⟩ = some (.bool y1) ∧ w'.cell? ⟨g, o + k * 11 + 2, none⟩ = some (.int .u64 y2) ∧ w'.cell? ⟨g, o + k * 11 + 3, none⟩ = some (.int .u64 y3) ∧ w'.cell? ⟨g, o + k * 11 + 4, none⟩ = some (.int .i64 y4) ∧ w'.cell? ⟨g, o + k * 11 + 5, none⟩ = some (.bool y5) ∧ w'.cell? ⟨g, o + k * 11 + 6, none⟩ = some (.int .u64 y6) ∧ w'.cell? ⟨g, o + k * 11 + 7, none⟩ = some (.int .u64 y7) ∧ w'.cell? ⟨g, o + k * 11 + 8, none⟩ = some (.string y8) ∧ w'.cell? ⟨g, o + k * 11 + 9, none⟩ = some (.int .i64 y9) ∧ w'.cell? ⟨g, o + k * 11 + 10, none⟩ = some (.int .i64 y10)) ∧ Below wo.heap.size wo w'))
          (first | with_reducible assumption | (refine HSS.out _ ?_; (repeat' (first | with_reducible exact HBz.out | with_reducible exact Below.refl _ _ | with_reducible refine Below.drew ?_ | with_reducible refine bal ?_ _ | with_reducible refine bse ?_ (by first | (simp; done) | (simp; omega)) _))))
          (first
            | (go_at_call 20; (refine (HDo.out wo.drew (Below.refl _ _).drew).mono ?_); rintro e wz ⟨a5, a6, n5, c5, n6, c6, rfl, hR, hbz⟩; have HRz := Lib.hid hR; have HBz : Hid (Below wo.heap.size wo wz) := btr (Below.refl _ _).drew hbz; have hzs := HBz.out.size; have hzp := hbz.size; (try simp at hzp); clear hR hbz)
            | (go_at_call 20; (refine (HDo.out (wo.alloc (.cells #[.slice none 0 0, .slice none 0 0, .int .i64 0] 36)).drew ((bal (Below.refl _ _) (.cells #[.slice none 0 0, .slice none 0 0, .int .i64 0] 36))).drew).mono ?_); rintro e wz ⟨a5, a6, n5, c5, n6, c6, rfl, hR, hbz⟩; have HRz := Lib.hid hR; have HBz : Hid (Below wo.heap.size wo wz) := btr ((bal (Below.refl _ _) (.cells #[.slice none 0 0, .slice none 0 0, .int .i64 0] 36))).drew hbz; have hzs := HBz.out.size; have hzp := hbz.size; (try simp at hzp); have KA : Hid (Blk wz wo.heap.size 36 [.slice none 0 0, .slice none 0 0, .int .i64 0]) := (Blk.new wo [.slice none 0 0, .slice none 0 0, .int .i64 0] 36).dr.below hbz; have KC : Hid (Blk (wz.alloc (.cells #[.bool false, .int .u64 0, .int .u64 0] 25)) wo.heap.size 36 [.slice none 0 0, .slice none 0 0, .int .i64 0]) := KA.out.al _; obtain ⟨⟨ka0, ka1, ka2⟩, ka3, ka4, ka5⟩ := KA.out.three; obtain ⟨⟨kc0, kc1, kc2⟩, kc3, kc4, kc5⟩ := KC.out.three; have hz1 : ¬ wo.heap.size = wz.heap.size := (by have := hbz.size; simp at this; omega); have hz2 : ¬ wz.heap.size = wo.heap.size := (fun e => hz1 e.symm); clear hR hbz)
            | (go_at_call 20; (refine (HDo.out (wo.alloc (.cells #[.bool false, .int .u64 0, .int .u64 0] 25)).drew ((bal (Below.refl _ _) (.cells #[.bool false, .int .u64 0, .int .u64 0] 25))).drew).mono ?_); rintro e wz ⟨a5, a6, n5, c5, n6, c6, rfl, hR, hbz⟩; have HRz := Lib.hid hR; have HBz : Hid (Below wo.heap.size wo wz) := btr ((bal (Below.refl _ _) (.cells #[.bool false, .int .u64 0, .int .u64 0] 25))).drew hbz; have hzs := HBz.out.size; have hzp := hbz.size; (try simp at hzp); have KB : Hid (Blk wz wo.heap.size 25 [.bool false, .int .u64 0, .int .u64 0]) := (Blk.new wo [.bool false, .int .u64 0, .int .u64 0] 25).dr.below hbz; have KC : Hid (Blk (wz.alloc (.cells #[.slice none 0 0, .slice none 0 0, .int .i64 0] 36)) wo.heap.size 25 [.bool false, .int .u64 0, .int .u64 0]) := KB.out.al _; have KD : Hid (Blk (wz.alloc (.cells #[.slice a5 n5 c5, .slice a6 n6 c6, .int .i64 now'] 36)) wo.heap.size 25 [.bool false, .int .u64 0, .int .u64 0]) := KB.out.al _; obtain ⟨⟨kb0, kb1, kb2⟩, kb3, kb4, kb5⟩ := KB.out.three; obtain ⟨⟨kc0, kc1, kc2⟩, kc3, kc4, kc5⟩ := KC.out.three; obtain ⟨⟨kd0, kd1, kd2⟩, kd3, kd4, kd5⟩ := KD.out.three; have hz1 : ¬ wo.heap.size = wz.heap.size := (by have := hbz.size; simp at this; omega); have hz2 : ¬ wz.heap.size = wo.heap.size := (fun e => hz1 e.symm); clear hR hbz)
            | (go_at_call 20; (refine (HDo.out ((wo.alloc (.cells #[.slice none 0 0, .slice none 0 0, .int .i64 0] 36)).alloc (.cells #[.bool false, .int .u64 0, .int .u64 0] 25)).drew ((bal (bal (Below.refl _ _) (.cells #[.slice none 0 0, .slice none 0 0, .int .i64 0] 36)) (.cells #[.bool false, .int .u64 0, .int .u64 0] 25))).drew).mono ?_); rintro e wz ⟨a5, a6, n5, c5, n6, c6, rfl, hR, hbz⟩; have HRz := Lib.hid hR; have HBz : Hid (Below wo.heap.size wo wz) := btr ((bal (bal (Below.refl _ _) (.cells #[.slice none 0 0, .slice none 0 0, .int .i64 0] 36)) (.cells #[.bool false, .int .u64 0, .int .u64 0] 25))).drew hbz; have hzs := HBz.out.size; have hzp := hbz.size; (try simp at hzp); have KA : Hid (Blk wz wo.heap.size 36 [.slice none 0 0, .slice none 0 0, .int .i64 0]) := ((Blk.new wo [.slice none 0 0, .slice none 0 0, .int .i64 0] 36).al _).dr.below hbz; have KB : Hid (Blk wz (wo.heap.size + 1) 25 [.bool false, .int .u64 0, .int .u64 0]) := ((blk_new1 wo (.cells #[.slice none 0 0, .slice none 0 0, .int .i64 0] 36) [.bool false, .int .u64 0, .int .u64 0] 25)).dr.below hbz; obtain ⟨⟨ka0, ka1, ka2⟩, ka3, ka4, ka5⟩ := KA.out.three; obtain ⟨⟨kb0, kb1, kb2⟩, kb3, kb4, kb5⟩ := KB.out.three; have hz1 : ¬ wo.heap.size = wz.heap.size := (by have := hbz.size; simp at this; omega); have hz2 : ¬ wz.heap.size = wo.heap.size := (fun e => hz1 e.symm); clear hR hbz)
            | (go_at_call 20; (refine (HDo.out ((wo.alloc (.cells #[.bool false, .int .u64 0, .int .u64 0] 25)).alloc (.cells #[.slice none 0 0, .slice none 0 0, .int .i64 0] 36)).drew ((bal (bal (Below.refl _ _) (.cells #[.bool false, .int .u64 0, .int .u64 0] 25)) (.cells #[.slice none 0 0, .slice none 0 0, .int .i64 0] 36))).drew).mono ?_); rintro e wz ⟨a5, a6, n5, c5, n6, c6, rfl, hR, hbz⟩; have HRz := Lib.hid hR; have HBz : Hid (Below wo.heap.size wo wz) := btr ((bal (bal (Below.refl _ _) (.cells #[.bool false, .int .u64 0, .int .u64 0] 25)) (.cells #[.slice none 0 0, .slice none 0 0, .int .i64 0] 36))).drew hbz; have hzs := HBz.out.size; have hzp := hbz.size; (try simp at hzp); have KB : Hid (Blk wz wo.heap.size 25 [.bool false, .int .u64 0, .int .u64 0]) := ((Blk.new wo [.bool false, .int .u64 0, .int .u64 0] 25).al _).dr.below hbz; have KA : Hid (Blk wz (wo.heap.size + 1) 36 [.slice none 0 0, .slice none 0 0, .int .i64 0]) := ((blk_new1 wo (.cells #[.bool false, .int .u64 0, .int .u64 0] 25) [.slice none 0 0, .slice none 0 0, .int .i64 0] 36)).dr.below hbz; obtain ⟨⟨kb0, kb1, kb2⟩, kb3, kb4, kb5⟩ := KB.out.three; obtain ⟨⟨ka0, ka1, ka2⟩, ka3, ka4, ka5⟩ := KA.out.three; have hz1 : ¬ wo.heap.size = wz.heap.size := (by have := hbz.size; simp at this; omega); have hz2 : ¬ wz.heap.size = wo.heap.size := (fun e => hz1 e.symm); clear hR hbz))
        all_goals go_wp2_with fail
        all_goals go_meet
        all_goals refine ⟨_, _, a5, n5, c5, a6, n6, c6, rfl, rfl, rfl, ?_, ?_, ?_, ?_, ?_, ?_⟩
        all_goals (first | (show Blk _ _ _ _; (repeat' (first | with_reducible exact Blk.new _ _ _ | with_reducible exact blk_new1 _ _ _ _ | with_reducible exact Blk3.of KA.out | with_reducible exact Blk3.of KB.out | with_reducible exact Blk3.of (Blk.new _ _ _) | with_reducible exact Blk3.of (blk_new1 _ _ _ _) | with_reducible refine Blk.put3 ?_ | with_reducible refine Blk.off3 ?_ (by first | exact hz1 | exact hz2 | (simp; done) | (simp; omega) | omega) | with_reducible refine Blk.al ?_ _ | with_reducible refine Blk3.off3 ?_ (by first | exact hz1 | exact hz2 | (simp; done) | (simp; omega) | omega) | with_reducible refine Blk3.al ?_ _)); done) | (show Rd _ _ _ _ _ _ _ _ _ _; (refine Rd.base (Rd.btw HRz.out ?_) (by first | exact Nat.le_refl _ | (simp; done) | (simp; omega)); (repeat' (first | with_reducible exact Btw.refl _ _ | with_reducible refine Btw.alloc ?_ _ | with_reducible refine Btw.set ?_ (by first | (left; simp; done) | (left; simp; omega) | (right; simp; done) | (right; simp; omega)) _))); done) | (show Below _ _ _; (repeat' (first | with_reducible exact HBz.out | with_reducible refine bal ?_ _ | with_reducible refine bse ?_ (by have := HBz.out.size; first | (simp; done) | (simp; omega)) _)); done) | (have := HBz.out.size; simp; done) | (have := HBz.out.size; simp; omega) | omega)
      case rest =>
        obtain ⟨qS, qA, a5, n5, c5, a6, n6, c6, rfl, rfl, rfl, hK⟩ := hcut
        obtain ⟨w2, hw2⟩ : ∃ W, W = wc := ⟨_, rfl⟩
        subst hw2
        have hb2 := hK.out.2.2.2.1
        have HS2 := Lib.hid (HS1.out.below hb2)
        have HA2 := Lib.hid (HA1.out.below hb2)
        have HS3 := Lib.hid (HS0.out.below hb2)
        have HA3 := Lib.hid (HA0.out.below hb2)
        have HB2 := Lib.hid (btr HBo.out hb2)
        have HX2 := Lib.hid hK.out.1
        have HY2 := Lib.hid hK.out.2.1
        have HR2 := Lib.hid hK.out.2.2.1
        have l1 := HA1.out.lt
        have l2 := hK.out.2.2.2.2.1
        have l3 := hK.out.2.2.2.2.2
        clear hb2 hK HS1 HA1 HS0 HA0 HBo HSS HDo s0 s1 s2 p0 p1 p2 p3 p4 p5 p6 p7 p8 p9 p10
        obtain ⟨⟨s0, s1, s2⟩, s3, s4, s5⟩ := HS2.out.three
        obtain ⟨⟨p0, p1, p2⟩, p3, p4, p5⟩ := HA2.out.three
        obtain ⟨⟨x0, x1, x2⟩, x3, x4, x5⟩ := HX2.out.three
        obtain ⟨⟨y0', y1', y2'⟩, y3', y4', y5'⟩ := HY2.out.three
        have e1 : ¬ w.heap.size + 1 + 1 = qA := by omega
        have e2 : ¬ qA = w.heap.size + 1 + 1 := by omega
        go_wp2_with fail
        go_region
        go_wp2_with fail
        go_roundw
        case rel =>
          refine ⟨k + 1, a5, n5, c5, a6, n6, c6, by go_num, by omega, ?_⟩
          rw [Hov.out, Hoh.out, Hol.out, Hnp.out]
          refine ⟨Blk.dr (Blk.off3 (Blk.put3 (Blk3.of HS2.out)) (by omega)), Blk.dr (Blk.put3 (Blk3.off3 (Blk3.of HA2.out) (by omega))), Blk.dr (Blk.off3 (Blk.off3 HS3.out (by omega)) (by omega)), Blk.dr (Blk.off3 (Blk.off3 HA3.out (by omega)) (by omega)), Below.drew ?_, Rd.keep (Rd.base (Rd.st3 (Rd.st3 HR2.out (by omega) _ _ _) (by omega) _ _ _) (by omega)) (Below.refl _ _).drew⟩
          (repeat' (first | with_reducible exact HB2.out | with_reducible refine bse ?_ (by first | (simp; done) | (simp; omega)) _))
        case measure => simp [intOf]; omega
    · obtain rfl : k = N := by omega
      have hkk : ¬ (k : Int) < (k : Int) := by omega
      have HS2 := Lib.hid hI.out.1
      have HA2 := Lib.hid hI.out.2.1
      have HS3 := Lib.hid hI.out.2.2.1
      have HA3 := Lib.hid hI.out.2.2.2.1
      have HB2 := Lib.hid hI.out.2.2.2.2.1
      have HR2 := Lib.hid hI.out.2.2.2.2.2
      clear hI
      generalize hov : (ad k).v = ov at *
      generalize hoh : (ad k).hi = oh at *
      generalize hol : (ad k).lo = ol at *
      generalize hnow : (st k).now = now at *
      have HNow := Lib.hid hnow
      have Hov := Lib.hid hov
      have Hoh := Lib.hid hoh
      have Hol := Lib.hid hol
      clear hnow hov hoh hol
      obtain ⟨⟨s0, s1, s2⟩, s3, s4, s5⟩ := HS2.out.three
      obtain ⟨⟨p0, p1, p2⟩, p3, p4, p5⟩ := HA2.out.three
      obtain ⟨⟨x0, x1, x2⟩, x3, x4, x5⟩ := HS3.out.three
      obtain ⟨⟨y0, y1, y2⟩, y3, y4, y5⟩ := HA3.out.three
      go_wp2_with fail
      go_region
      go_wp2_with fail
      refine bodyPost_ret (v := .tuple #[.agg #[.slice a1 n1 c1, .slice a2 n2 c2, .int .i64 now], .agg #[.bool ov, .int .u64 oh, .int .u64 ol], .int .i64 0]) ?_ rfl ⟨a1, a2, n1, c1, n2, c2, by rw [Hov.out, Hoh.out, Hol.out, HNow.out], ?_, ?_⟩
      · simp [results, Tryz.results33, go_sem, x0, x1, x2, y0, y1, y2]
      · rw [HNow.out]
        exact Rd.base (Rd.keep (Rd.st3 (Rd.st3 HR2.out (by omega) _ _ _) (by omega) _ _ _) (Below.refl _ _).drew) (by omega)
      · refine Below.drew ?_
        (repeat' (first | with_reducible exact HB2.out | with_reducible refine bse ?_ (by first | (simp; done) | (simp; omega)) _))
end Go.Proofs.YtafgpjefmjgcfaaGreat
