/- The document's FirstOf. -/
import Derived.Test.YtjhkbjigpiickaaPkQ
set_option linter.unusedVariables false
set_option linter.unusedSimpArgs false
namespace Go.Proofs.Ytjhkbjigpiickaa
open Go.RowKit

def zP : Pf := ⟨false, 0, 0, 0⟩
def FoPost (w : World) (r : Option Pf) (e : Ending) (w' : World) : Prop := e = .returned (.tuple #[.agg #[.bool (r.getD zP).v, .int .u64 (r.getD zP).hi, .int .u64 (r.getD zP).lo, .int .i64 (r.getD zP).b], .bool r.isSome]) ∧ Below w.heap.size w w'

set_option maxHeartbeats 32000000 in
set_option maxRecDepth 100000 in
theorem fo_step (us : List Pf) (a2 : Option Addr) (c2 : Nat) (p : Pf) (bits : Int) (w : World) (r : Option Pf) (rp : p.R) (oo : ∀ o ∈ us, o.R) (l2 : us.length ≤ 12) (s2 : Sl w a2 us)
    (hA : anyH us p = true → r = none) (hB : anyH us p = false → anyM us p = false → r = some ⟨p.v, p.hi, p.lo, bits⟩) (hC : anyH us p = false → anyM us p = true → p.b = bits → r = none)
    (hD : anyH us p = false → anyM us p = true → ¬ p.b = bits → p.b < wid p.v ∧ ∃ X Y : Option Pf, r = X.or Y ∧
      (∀ w' : World, Below w.heap.size w w' → Calls Try.prog 10 #[.agg #[.bool p.lo'.v, .int .u64 p.lo'.hi, .int .u64 p.lo'.lo, .int .i64 p.lo'.b], .slice a2 us.length c2, .int .i64 bits] w' (FoPost w' X)) ∧
      (∀ w' : World, Below w.heap.size w w' → Calls Try.prog 10 #[.agg #[.bool p.hi'.v, .int .u64 p.hi'.hi, .int .u64 p.hi'.lo, .int .i64 p.hi'.b], .slice a2 us.length c2, .int .i64 bits] w' (FoPost w' Y))) :
    Calls Try.prog 10 #[.agg #[.bool p.v, .int .u64 p.hi, .int .u64 p.lo, .int .i64 p.b], .slice a2 us.length c2, .int .i64 bits] w (FoPost w r) := by
  have HP : Hid (Has4 ((w.alloc (.cells #[.bool p.v, .int .u64 p.hi, .int .u64 p.lo, .int .i64 p.b] 26)).alloc (.cells #[.bool false, .int .u64 0, .int .u64 0, .int .i64 0] 26)) w.heap.size p.v p.hi p.lo p.b) := (Has4.new w p.v p.hi p.lo p.b 26).alloc _
  have HB : Hid (Below w.heap.size w ((w.alloc (.cells #[.bool p.v, .int .u64 p.hi, .int .u64 p.lo, .int .i64 p.b] 26)).alloc (.cells #[.bool false, .int .u64 0, .int .u64 0, .int .i64 0] 26))) := bal (pal w p.v p.hi p.lo p.b) _
  have HQ : Hid (Own4 ((w.alloc (.cells #[.bool p.v, .int .u64 p.hi, .int .u64 p.lo, .int .i64 p.b] 26)).alloc (.cells #[.bool false, .int .u64 0, .int .u64 0, .int .i64 0] 26)) (w.heap.size + 1) (.bool false) (.int .u64 0) (.int .u64 0) (.int .i64 0)) := by
    have := Own4.new (w.alloc (.cells #[.bool p.v, .int .u64 p.hi, .int .u64 p.lo, .int .i64 p.b] 26)) (.bool false) (.int .u64 0) (.int .u64 0) (.int .i64 0) 26
    rw [World.size_alloc] at this
    exact this
  obtain ⟨N2, hN2⟩ : ∃ N, N = us.length := ⟨_, rfl⟩
  rw [← hN2] at hD l2 ⊢
  have HN2 := Lib.hid hN2
  have HhA := Lib.hid hA
  have HhB := Lib.hid hB
  have HhC := Lib.hid hC
  have HhD := Lib.hid hD
  have Hrp := Lib.hid rp
  have Hoo := Lib.hid oo
  have Hs2 := Lib.hid s2
  clear hA hB hC hD rp oo s2 hN2
  go_enter Try.func10, Try.ntmps10
  go_wp2_with fail
  go_loopw [8, 9] (fun vc vi wr => ∃ k : Nat, vi = .int .i64 k ∧ k ≤ N2 ∧ vc = .bool (anyM (us.take k) p) ∧ Hid (anyH (us.take k) p = false) ∧ Hid (Has4 wr w.heap.size p.v p.hi p.lo p.b) ∧ Hid (Own4 wr (w.heap.size + 1) (.bool false) (.int .u64 0) (.int .u64 0) (.int .i64 0)) ∧ Hid (Below w.heap.size w wr))
    (fun _ vi _ => N2 - (intOf vi).toNat)
  case atStart => exact ⟨0, rfl, Nat.zero_le _, rfl, rfl, HP, HQ, HB⟩
  case round =>
    clear HP HB HQ
    obtain ⟨k, rfl, hk, rfl, HI, HP, HQ, HB⟩ := hrel
    have hN := HN2.out
    by_cases hkN : k < N2
    · have hkl : k < us.length := by omega
      obtain ⟨g, o, rfl, hg, d0, d1, d2, d3⟩ := Hs2.out k hkl
      rw [← (bcell HB.out).1 _ _ hg] at d0 d1 d2 d3
      have hgr : g < wr.heap.size := Nat.lt_of_lt_of_le hg HB.out.size
      have E1 := Lib.hid (anyH_step (p := p) hkl)
      have E2 := Lib.hid (anyM_step (p := p) hkl)
      have hx := Hoo.out _ (List.getElem_mem hkl)
      have H1 : Hid (∀ w : World, Calls Try.prog 22 #[.agg #[.bool (us[k]).v, .int .u64 (us[k]).hi, .int .u64 (us[k]).lo, .int .i64 (us[k]).b], .agg #[.bool p.v, .int .u64 p.hi, .int .u64 p.lo, .int .i64 p.b]] w fun e w' => e = .returned (.bool ((us[k]).has p)) ∧ Below w.heap.size w w') := fun w => rhas_any _ p w hx Hrp.out
      have H2 : Hid (∀ w : World, Calls Try.prog 23 #[.agg #[.bool (us[k]).v, .int .u64 (us[k]).hi, .int .u64 (us[k]).lo, .int .i64 (us[k]).b], .agg #[.bool p.v, .int .u64 p.hi, .int .u64 p.lo, .int .i64 p.b]] w fun e w' => e = .returned (.bool ((us[k]).meet p)) ∧ Below w.heap.size w w') := fun w => rmeet_any _ p w hx Hrp.out
      have k3 : (k : Int) < (N2 : Int) := by omega
      have k4 : (0 : Int) ≤ (k : Int) := by omega
      have hyes : (us[k]).has p = true → anyH us p = true := fun h => List.any_eq_true.2 ⟨_, List.getElem_mem hkl, h⟩
      have Hyes := Lib.hid hyes
      clear hyes
      generalize (us[k]).has p = y1 at *
      generalize (us[k]).meet p = y2 at *
      generalize us[k] = x at *
      have HS : Hid ((wr.cell? ⟨w.heap.size, 0, none⟩ = some (.bool p.v) ∧ wr.cell? ⟨w.heap.size, 1, none⟩ = some (.int .u64 p.hi) ∧ wr.cell? ⟨w.heap.size, 2, none⟩ = some (.int .u64 p.lo) ∧ wr.cell? ⟨w.heap.size, 3, none⟩ = some (.int .i64 p.b) ∧ w.heap.size < wr.heap.size) ∧ (wr.cell? ⟨g, o + k * 4, none⟩ = some (.bool x.v) ∧ wr.cell? ⟨g, o + k * 4 + 1, none⟩ = some (.int .u64 x.hi) ∧ wr.cell? ⟨g, o + k * 4 + 2, none⟩ = some (.int .u64 x.lo) ∧ wr.cell? ⟨g, o + k * 4 + 3, none⟩ = some (.int .i64 x.b) ∧ g < wr.heap.size) ∧ Below w.heap.size w wr) := ⟨HP.out, ⟨d0, d1, d2, d3, hgr⟩, HB.out⟩
      generalize anyM (us.take k) p = b3 at *
      clear hN hx hgr HP HB d0 d1 d2 d3
      cases y1
      · -- it has not
        go_wp2_with fail
        have HSd := Lib.hid (keepR HS.out (Below.refl _ _).drew)
        have HQd := Lib.hid (HQ.out.below (Below.refl _ _).drew)
        go_region_held3 (fun w' => (w'.cell? ⟨w.heap.size, 0, none⟩ = some (.bool p.v) ∧ w'.cell? ⟨w.heap.size, 1, none⟩ = some (.int .u64 p.hi) ∧ w'.cell? ⟨w.heap.size, 2, none⟩ = some (.int .u64 p.lo) ∧ w'.cell? ⟨w.heap.size, 3, none⟩ = some (.int .i64 p.b) ∧ w.heap.size < w'.heap.size) ∧ (w'.cell? ⟨g, o + k * 4, none⟩ = some (.bool x.v) ∧ w'.cell? ⟨g, o + k * 4 + 1, none⟩ = some (.int .u64 x.hi) ∧ w'.cell? ⟨g, o + k * 4 + 2, none⟩ = some (.int .u64 x.lo) ∧ w'.cell? ⟨g, o + k * 4 + 3, none⟩ = some (.int .i64 x.b) ∧ g < w'.heap.size) ∧ Below w.heap.size w w')
          (first | with_reducible exact HSd.out | with_reducible exact HSe.out | fail)
          ((go_at_call 22; refine (H1.out _).mono ?_; rintro e wx ⟨rfl, hb⟩; have HSe := Lib.hid (keepR HSd.out hb); have HQe := Lib.hid (HQd.out.below hb); clear hb))
        clear HSd HS HQ HQd
        have HS := HSe
        have HQ := HQe
        clear HSe HQe
        generalize wx = wr at *
        cases b3
        · -- none has met it yet
          go_wp2_with fail
          have HSd := Lib.hid (keepR HS.out (Below.refl _ _).drew)
          have HQd := Lib.hid (HQ.out.below (Below.refl _ _).drew)
          go_region_held3 (fun w' => (w'.cell? ⟨w.heap.size, 0, none⟩ = some (.bool p.v) ∧ w'.cell? ⟨w.heap.size, 1, none⟩ = some (.int .u64 p.hi) ∧ w'.cell? ⟨w.heap.size, 2, none⟩ = some (.int .u64 p.lo) ∧ w'.cell? ⟨w.heap.size, 3, none⟩ = some (.int .i64 p.b) ∧ w.heap.size < w'.heap.size) ∧ (w'.cell? ⟨g, o + k * 4, none⟩ = some (.bool x.v) ∧ w'.cell? ⟨g, o + k * 4 + 1, none⟩ = some (.int .u64 x.hi) ∧ w'.cell? ⟨g, o + k * 4 + 2, none⟩ = some (.int .u64 x.lo) ∧ w'.cell? ⟨g, o + k * 4 + 3, none⟩ = some (.int .i64 x.b) ∧ g < w'.heap.size) ∧ Below w.heap.size w w')
            (first | with_reducible exact HSd.out | with_reducible exact HSe.out | fail)
            ((go_at_call 23; refine (H2.out _).mono ?_; rintro e wx ⟨rfl, hb⟩; have HSe := Lib.hid (keepR HSd.out hb); have HQe := Lib.hid (HQd.out.below hb); clear hb))
          clear HSd HS HQ HQd
          have HS := HSe
          have HQ := HQe
          clear HSe HQe
          generalize wx = wr at *
          have HP := Lib.hid HS.out.1
          have HB := Lib.hid HS.out.2.2
          clear HS
          go_wp2_with fail
          go_roundw
          case rel => exact ⟨k + 1, by go_num, by omega, b_val (by rw [E2.out]; simp), by rw [E1.out, HI.out]; rfl, HP, HQ, HB⟩
          case measure => simp [intOf]; omega
        · go_wp2_with fail
          go_region
          replace HS := Lib.hid (keepR HS.out (Below.refl _ _).drew)
          replace HQ := Lib.hid (HQ.out.below (Below.refl _ _).drew)
          generalize wr.drew = wr at *
          have HP := Lib.hid HS.out.1
          have HB := Lib.hid HS.out.2.2
          clear HS
          go_wp2_with fail
          go_roundw
          case rel => exact ⟨k + 1, by go_num, by omega, b_val (by rw [E2.out]; simp), by rw [E1.out, HI.out]; rfl, HP, HQ, HB⟩
          case measure => simp [intOf]; omega
      · -- it has
        go_wp2_with fail
        have HSd := Lib.hid (keepR HS.out (Below.refl _ _).drew)
        have HQd := Lib.hid (HQ.out.below (Below.refl _ _).drew)
        go_region_held3 (fun w' => (w'.cell? ⟨w.heap.size, 0, none⟩ = some (.bool p.v) ∧ w'.cell? ⟨w.heap.size, 1, none⟩ = some (.int .u64 p.hi) ∧ w'.cell? ⟨w.heap.size, 2, none⟩ = some (.int .u64 p.lo) ∧ w'.cell? ⟨w.heap.size, 3, none⟩ = some (.int .i64 p.b) ∧ w.heap.size < w'.heap.size) ∧ (w'.cell? ⟨g, o + k * 4, none⟩ = some (.bool x.v) ∧ w'.cell? ⟨g, o + k * 4 + 1, none⟩ = some (.int .u64 x.hi) ∧ w'.cell? ⟨g, o + k * 4 + 2, none⟩ = some (.int .u64 x.lo) ∧ w'.cell? ⟨g, o + k * 4 + 3, none⟩ = some (.int .i64 x.b) ∧ g < w'.heap.size) ∧ Below w.heap.size w w')
          (first | with_reducible exact HSd.out | with_reducible exact HSe.out | fail)
          ((go_at_call 22; refine (H1.out _).mono ?_; rintro e wx ⟨rfl, hb⟩; have HSe := Lib.hid (keepR HSd.out hb); have HQe := Lib.hid (HQd.out.below hb); clear hb))
        clear HSd HS HQ HQd
        have HS := HSe
        have HQ := HQe
        clear HSe HQe
        generalize wx = wr at *
        have HM := Lib.hid (HhA.out (by first | exact Hyes.out | exact Hyes.out rfl | exact Hyes.out trivial))
        have HB := Lib.hid HS.out.2.2
        clear HS
        obtain ⟨⟨q0, q1, q2, q3⟩, ⟨q4, q5, q6, q7⟩, q8⟩ := HQ.out
        go_wp2
        refine bodyPost_ret (v := .tuple #[.agg #[.bool false, .int .u64 0, .int .u64 0, .int .i64 0], .bool false]) ?_ rfl ⟨by rw [HM.out]; rfl, ?_⟩
        · simp [results, Try.results10, go_sem, q0, q1, q2, q3]
        · exact bse (bse (bse (bse (HB.out) (by first | (simp; done) | (simp; omega)) _) (by first | (simp; done) | (simp; omega)) _) (by first | (simp; done) | (simp; omega)) _) (by first | (simp; done) | (simp; omega)) _
    · obtain rfl : k = N2 := by omega
      have k3 : decide ((k : Int) < (k : Int)) = false := by simp
      have et : us.take k = us := List.take_of_length_le (by omega)
      rw [et] at HI ⊢
      clear hN et
      generalize anyM us p = b3 at *
      cases b3
      · have HM := Lib.hid (HhB.out HI.out rfl)
        obtain ⟨p0, p1, p2, p3, p4⟩ := HP.out
        obtain ⟨⟨q0, q1, q2, q3⟩, ⟨q4, q5, q6, q7⟩, q8⟩ := HQ.out
        go_wp2
        refine bodyPost_ret (v := .tuple #[.agg #[.bool p.v, .int .u64 p.hi, .int .u64 p.lo, .int .i64 bits], .bool true]) ?_ rfl ⟨by rw [HM.out]; rfl, ?_⟩
        · simp [results, Try.results10, go_sem, q0, q1, q2, q3]
        · exact bse (bse (bse (bse (HB.out) (by first | (simp; done) | (simp; omega)) _) (by first | (simp; done) | (simp; omega)) _) (by first | (simp; done) | (simp; omega)) _) (by first | (simp; done) | (simp; omega)) _
      · by_cases hpb : p.b = bits
        · have HM := Lib.hid (HhC.out HI.out rfl hpb)
          have hq : (p.b == bits) = true := by rw [beq_iff_eq]; exact hpb
          clear hpb
          obtain ⟨p0, p1, p2, p3, p4⟩ := HP.out
          obtain ⟨⟨q0, q1, q2, q3⟩, ⟨q4, q5, q6, q7⟩, q8⟩ := HQ.out
          go_wp2
          refine bodyPost_ret (v := .tuple #[.agg #[.bool false, .int .u64 0, .int .u64 0, .int .i64 0], .bool false]) ?_ rfl ⟨by rw [HM.out]; rfl, ?_⟩
          · simp [results, Try.results10, go_sem, q0, q1, q2, q3]
          · exact bse (bse (bse (bse (HB.out) (by first | (simp; done) | (simp; omega)) _) (by first | (simp; done) | (simp; omega)) _) (by first | (simp; done) | (simp; omega)) _) (by first | (simp; done) | (simp; omega)) _
        · obtain ⟨hlt, X, Y, hj, IX, IY⟩ := HhD.out HI.out rfl hpb
          have hq : (p.b == bits) = false := by rw [beq_eq_false_iff_ne]; exact hpb
          have HH : Hid (∀ w : World, Calls Try.prog 24 #[.agg #[.bool p.v, .int .u64 p.hi, .int .u64 p.lo, .int .i64 p.b]] w fun e w' => e = .returned (.tuple #[.agg #[.bool p.lo'.v, .int .u64 p.lo'.hi, .int .u64 p.lo'.lo, .int .i64 p.lo'.b], .agg #[.bool p.hi'.v, .int .u64 p.hi'.hi, .int .u64 p.hi'.lo, .int .i64 p.hi'.b]]) ∧ Below w.heap.size w w') := fun w => rhalves_any p w Hrp.out hlt
          have HIX := Lib.hid IX
          have HIY := Lib.hid IY
          have HJ := Lib.hid hj
          generalize p.lo' = lo at *
          generalize p.hi' = gr at *
          clear hpb hlt hj IX IY
          obtain ⟨p0, p1, p2, p3, p4⟩ := HP.out
          go_wp2_with fail
          refine (HH.out _).mono ?_
          rintro e w5 ⟨rfl, hb⟩
          clear p0 p1 p2 p3 p4
          have HL : Hid (Has4 ((w5.alloc (.cells #[.bool lo.v, .int .u64 lo.hi, .int .u64 lo.lo, .int .i64 lo.b] 26)).alloc (.cells #[.bool gr.v, .int .u64 gr.hi, .int .u64 gr.lo, .int .i64 gr.b] 26)) w5.heap.size lo.v lo.hi lo.lo lo.b) := (Has4.new w5 lo.v lo.hi lo.lo lo.b 26).alloc _
          have HG : Hid (Has4 ((w5.alloc (.cells #[.bool lo.v, .int .u64 lo.hi, .int .u64 lo.lo, .int .i64 lo.b] 26)).alloc (.cells #[.bool gr.v, .int .u64 gr.hi, .int .u64 gr.lo, .int .i64 gr.b] 26)) (w5.heap.size + 1) gr.v gr.hi gr.lo gr.b) := by
            have := Has4.new (w5.alloc (.cells #[.bool lo.v, .int .u64 lo.hi, .int .u64 lo.lo, .int .i64 lo.b] 26)) gr.v gr.hi gr.lo gr.b 26
            rw [World.size_alloc] at this
            exact this
          replace HQ := Lib.hid (((HQ.out.below hb).alloc (.cells #[.bool lo.v, .int .u64 lo.hi, .int .u64 lo.lo, .int .i64 lo.b] 26)).alloc (.cells #[.bool gr.v, .int .u64 gr.hi, .int .u64 gr.lo, .int .i64 gr.b] 26))
          replace HB : Hid (Below w.heap.size w ((w5.alloc (.cells #[.bool lo.v, .int .u64 lo.hi, .int .u64 lo.lo, .int .i64 lo.b] 26)).alloc (.cells #[.bool gr.v, .int .u64 gr.hi, .int .u64 gr.lo, .int .i64 gr.b] 26))) := bal (bal (btr HB.out hb) _) _
          clear hb HH HP
          obtain ⟨x0, x1, x2, x3, x4⟩ := HL.out
          cases X with
          | some t =>
            have HM : Hid (r = some t) := HJ.out
            have HX : Hid (∀ w' : World, Below w.heap.size w w' → Calls Try.prog 10 #[.agg #[.bool lo.v, .int .u64 lo.hi, .int .u64 lo.lo, .int .i64 lo.b], .slice a2 k c2, .int .i64 bits] w' fun e w'' => e = .returned (.tuple #[.agg #[.bool t.v, .int .u64 t.hi, .int .u64 t.lo, .int .i64 t.b], .bool true]) ∧ Below w'.heap.size w' w'') := HIX.out
            clear HIX HIY HJ
            go_wp2_with fail
            refine (HX.out _ HB.out).mono ?_
            rintro e w6 ⟨rfl, hb⟩
            replace HQ := Lib.hid ((HQ.out.below hb).alloc (.cells #[.bool t.v, .int .u64 t.hi, .int .u64 t.lo, .int .i64 t.b] 26))
            replace HB := Lib.hid (bal (btr HB.out hb) (.cells #[.bool t.v, .int .u64 t.hi, .int .u64 t.lo, .int .i64 t.b] 26))
            clear hb x0 x1 x2 x3 x4 HL HG HX
            obtain ⟨⟨q0, q1, q2, q3⟩, ⟨q4, q5, q6, q7⟩, q8⟩ := HQ.out
            go_wp2
            refine bodyPost_ret (v := .tuple #[.agg #[.bool t.v, .int .u64 t.hi, .int .u64 t.lo, .int .i64 t.b], .bool true]) ?_ rfl ⟨by rw [HM.out]; rfl, ?_⟩
            · simp [results, Try.results10, go_sem, q0, q1, q2, q3]
            · exact bse (bse (bse (bse (HB.out) (by first | (simp; done) | (simp; omega)) _) (by first | (simp; done) | (simp; omega)) _) (by first | (simp; done) | (simp; omega)) _) (by first | (simp; done) | (simp; omega)) _
          | none =>
            have HX : Hid (∀ w' : World, Below w.heap.size w w' → Calls Try.prog 10 #[.agg #[.bool lo.v, .int .u64 lo.hi, .int .u64 lo.lo, .int .i64 lo.b], .slice a2 k c2, .int .i64 bits] w' fun e w'' => e = .returned (.tuple #[.agg #[.bool false, .int .u64 0, .int .u64 0, .int .i64 0], .bool false]) ∧ Below w'.heap.size w' w'') := HIX.out
            clear HIX
            go_wp2_with fail
            refine (HX.out _ HB.out).mono ?_
            rintro e w6 ⟨rfl, hb⟩
            replace HQ := Lib.hid ((HQ.out.below hb).alloc (.cells #[.bool false, .int .u64 0, .int .u64 0, .int .i64 0] 26))
            replace HG := Lib.hid ((HG.out.below hb).alloc (.cells #[.bool false, .int .u64 0, .int .u64 0, .int .i64 0] 26))
            replace HB := Lib.hid (bal (btr HB.out hb) (.cells #[.bool false, .int .u64 0, .int .u64 0, .int .i64 0] 26))
            clear hb x0 x1 x2 x3 x4 HL HX
            obtain ⟨x0, x1, x2, x3, x4⟩ := HG.out
            cases Y with
            | some t =>
              have HM : Hid (r = some t) := HJ.out
              have HY : Hid (∀ w' : World, Below w.heap.size w w' → Calls Try.prog 10 #[.agg #[.bool gr.v, .int .u64 gr.hi, .int .u64 gr.lo, .int .i64 gr.b], .slice a2 k c2, .int .i64 bits] w' fun e w'' => e = .returned (.tuple #[.agg #[.bool t.v, .int .u64 t.hi, .int .u64 t.lo, .int .i64 t.b], .bool true]) ∧ Below w'.heap.size w' w'') := HIY.out
              clear HIY HJ
              go_wp2_with fail
              refine (HY.out _ HB.out).mono ?_
              rintro e w7 ⟨rfl, hb⟩
              replace HQ := Lib.hid (HQ.out.below hb)
              replace HB := Lib.hid (btr HB.out hb)
              clear hb x0 x1 x2 x3 x4 HG HY
              obtain ⟨⟨q0, q1, q2, q3⟩, ⟨q4, q5, q6, q7⟩, q8⟩ := HQ.out
              go_wp2
              refine bodyPost_ret (v := .tuple #[.agg #[.bool t.v, .int .u64 t.hi, .int .u64 t.lo, .int .i64 t.b], .bool true]) ?_ rfl ⟨by rw [HM.out]; rfl, ?_⟩
              · simp [results, Try.results10, go_sem, q0, q1, q2, q3]
              · exact bse (bse (bse (bse (HB.out) (by first | (simp; done) | (simp; omega)) _) (by first | (simp; done) | (simp; omega)) _) (by first | (simp; done) | (simp; omega)) _) (by first | (simp; done) | (simp; omega)) _
            | none =>
              have HM : Hid (r = none) := HJ.out
              have HY : Hid (∀ w' : World, Below w.heap.size w w' → Calls Try.prog 10 #[.agg #[.bool gr.v, .int .u64 gr.hi, .int .u64 gr.lo, .int .i64 gr.b], .slice a2 k c2, .int .i64 bits] w' fun e w'' => e = .returned (.tuple #[.agg #[.bool false, .int .u64 0, .int .u64 0, .int .i64 0], .bool false]) ∧ Below w'.heap.size w' w'') := HIY.out
              clear HIY HJ
              go_wp2_with fail
              refine (HY.out _ HB.out).mono ?_
              rintro e w7 ⟨rfl, hb⟩
              replace HQ := Lib.hid (HQ.out.below hb)
              replace HB := Lib.hid (btr HB.out hb)
              clear hb x0 x1 x2 x3 x4 HG HY
              obtain ⟨⟨q0, q1, q2, q3⟩, ⟨q4, q5, q6, q7⟩, q8⟩ := HQ.out
              go_wp2
              refine bodyPost_ret (v := .tuple #[.agg #[.bool false, .int .u64 0, .int .u64 0, .int .i64 0], .bool false]) ?_ rfl ⟨by rw [HM.out]; rfl, ?_⟩
              · simp [results, Try.results10, go_sem, q0, q1, q2, q3]
              · exact bse (bse (bse (bse (HB.out) (by first | (simp; done) | (simp; omega)) _) (by first | (simp; done) | (simp; omega)) _) (by first | (simp; done) | (simp; omega)) _) (by first | (simp; done) | (simp; omega)) _

theorem fo_any (us : List Pf) (bits : Int) (oo : ∀ o ∈ us, o.R) (l2 : us.length ≤ 12) : ∀ (k : Nat) (p : Pf), p.R → p.nd.h = k → p.b ≤ bits → bits ≤ wid p.v → ∀ (a2 : Option Addr) (c2 : Nat) (w : World), Sl w a2 us →
    Calls Try.prog 10 #[.agg #[.bool p.v, .int .u64 p.hi, .int .u64 p.lo, .int .i64 p.b], .slice a2 us.length c2, .int .i64 bits] w (FoPost w (firstP us bits k p))
  | 0, p, rp, hk, h1, h2, a2, c2, w, s2 => by
    have hw : p.b = wid p.v := by have : (wid p.v - p.b).toNat = 0 := hk; have := rp.b1; omega
    refine fo_step us a2 c2 p bits w _ rp oo l2 s2 (fun h => ?_) (fun h h' => ?_) (fun h h' _ => ?_) (fun h h' h'' => absurd (by omega) h'')
    · rw [firstP, if_pos h]
    · rw [firstP, if_neg (by rw [h]; decide), if_neg (by rw [h']; decide)]
    · rw [firstP, if_neg (by rw [h]; decide), if_pos h']
  | k + 1, p, rp, hk, h1, h2, a2, c2, w, s2 => by
    have hh : (wid p.v - p.b).toNat = k + 1 := hk
    have hlt : p.b < wid p.v := by omega
    refine fo_step us a2 c2 p bits w _ rp oo l2 s2 (fun h => ?_) (fun h h' => ?_) (fun h h' h'' => ?_) (fun h h' h'' => ⟨hlt, firstP us bits k p.lo', firstP us bits k p.hi', ?_, fun w' hb => ?_, fun w' hb => ?_⟩)
    · rw [firstP, if_pos h]
    · rw [firstP, if_neg (by rw [h]; decide), if_neg (by rw [h']; decide)]
    · rw [firstP, if_neg (by rw [h]; decide), if_pos h', if_pos h'']
    · rw [firstP, if_neg (by rw [h]; decide), if_pos h', if_neg h'']
    · exact fo_any us bits oo l2 k p.lo' (lo_R rp hlt) (by rw [nd_lo rp hlt]; simp [Nd.lo, hk]) (by show p.b + 1 ≤ bits; omega) h2 a2 c2 w' (s2.below hb)
    · exact fo_any us bits oo l2 k p.hi' (hi_R rp hlt) (by rw [nd_hi rp hlt]; simp [Nd.hi, hk]) (by show p.b + 1 ≤ bits; omega) h2 a2 c2 w' (s2.below hb)
end Go.Proofs.Ytjhkbjigpiickaa
