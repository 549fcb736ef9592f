/- ContainsFunc, IndexFunc with has and by; what Check says of leases; state.Check. -/
import Derived.Test.YtjainfehlbfiaaaGreatQ12
import Derived.Test.YtjainfehlbfiaaaGreatQ14
set_option linter.unusedVariables false
set_option linter.unusedSimpArgs false
namespace Go.Proofs.YtjainfehlbfiaaaGreat
open Go.RowKit

/-- Whose name is it? -/
def whoIs (s : ByteArray) (y : Ls) : Bool := y.who.toList == s.toList
theorem conHas (a : Option Addr) (c : Nat) (l : List Pl) (x : Ad) (q : Nat) (w : World) (hl : l.length ≤ 1000) (hg : ∀ y ∈ l, y.p.chk = 0) (hs : Lies plE w a l) (hq : Blk w q 29 [.bool x.v, .int .u64 x.hi, .int .u64 x.lo]) :
    Calls Tryz.prog 63 #[.slice a l.length c, .func (.func 88) #[] #[.pointer (some ⟨q, 0, none⟩)]] w fun e w' => e = .returned (.bool (l.any fun y => y.p.ina x)) ∧ Below w.heap.size w w' :=
  conPl_any a c l w 88 #[.pointer (some ⟨q, 0, none⟩)] (fun y => y.p.ina x) hl hs enters_has1 fun W y hy hb => (has1_any q x y (hg y hy) W (hq.below hb)).mono fun e w' ⟨h1, h2⟩ => ⟨h1, btr hb h2⟩
theorem ifnHas (a : Option Addr) (c : Nat) (l : List Pl) (x : Ad) (q : Nat) (w : World) (hl : l.length ≤ 1000) (hg : ∀ y ∈ l, y.p.chk = 0) (hs : Lies plE w a l) (hq : Blk w q 29 [.bool x.v, .int .u64 x.hi, .int .u64 x.lo]) :
    Calls Tryz.prog 71 #[.slice a l.length c, .func (.func 88) #[] #[.pointer (some ⟨q, 0, none⟩)]] w fun e w' => e = .returned (.int .i64 (idxI (l.findIdx? fun y => y.p.ina x))) ∧ Below w.heap.size w w' :=
  ifnPl_any a c l w 88 #[.pointer (some ⟨q, 0, none⟩)] (fun y => y.p.ina x) hl hs enters_has1 fun W y hy hb => (has1_any q x y (hg y hy) W (hq.below hb)).mono fun e w' ⟨h1, h2⟩ => ⟨h1, btr hb h2⟩
theorem conBy (a : Option Addr) (c : Nat) (l : List Ls) (s : ByteArray) (q : Nat) (w : World) (hl : l.length ≤ 1000) (hs : Lies lsE w a l) (hq : Blk w q 9 [.string s]) :
    Calls Tryz.prog 65 #[.slice a l.length c, .func (.func 89) #[] #[.pointer (some ⟨q, 0, none⟩)]] w fun e w' => e = .returned (.bool (l.any (whoIs s))) ∧ Below w.heap.size w w' :=
  conL_any a c l w 89 #[.pointer (some ⟨q, 0, none⟩)] (whoIs s) hl hs enters_by1 fun W y hy hb => (by1_any q s y W ((hq.below hb).cell 0 _ rfl) (hq.below hb).lt).mono fun e w' ⟨h1, h2⟩ => ⟨h1, btr hb h2⟩
theorem ifnBy (a : Option Addr) (c : Nat) (l : List Ls) (s : ByteArray) (q : Nat) (w : World) (hl : l.length ≤ 1000) (hs : Lies lsE w a l) (hq : Blk w q 9 [.string s]) :
    Calls Tryz.prog 77 #[.slice a l.length c, .func (.func 89) #[] #[.pointer (some ⟨q, 0, none⟩)]] w fun e w' => e = .returned (.int .i64 (idxI (l.findIdx? (whoIs s)))) ∧ Below w.heap.size w w' :=
  ifnL_any a c l w 89 #[.pointer (some ⟨q, 0, none⟩)] (whoIs s) hl hs enters_by1 fun W y hy hb => (by1_any q s y W ((hq.below hb).cell 0 _ rfl) (hq.below hb).lt).mono fun e w' ⟨h1, h2⟩ => ⟨h1, btr hb h2⟩
/-- What is wrong with leases of a state, behind those which are right. -/
def leasesFrom (P : List Pl) (now : Int) : List Ls → List Ls → Int
  | _, [] => 0
  | done, x :: r => if (P.any fun y => y.p.ina x.a) = true then (if done.any (whoIs x.who) = true then 6 else if x.un < now then 4 else leasesFrom P now (done ++ [x]) r) else 5
def leasesE (P : List Pl) (l : List Ls) (now : Int) : Int := if lookL l now = 0 then leasesFrom P now [] l else lookL l now
theorem lookL_len {l : List Ls} {now : Int} (h : lookL l now = 0) : l.length ≤ 20 := by
  unfold lookL at h
  by_cases e : 20 < l.length
  · simp [e] at h
  · omega
set_option maxHeartbeats 16000000 in
set_option maxRecDepth 100000 in
theorem lookLeases_any (aP aL : Option Addr) (cP cL : Nat) (P : List Pl) (l : List Ls) (now : Int) (w : World) (hP3 : P.length ≤ 3) (hcL : l.length ≤ cL) (hg : ∀ y ∈ P, y.p.chk = 0) (hp : Lies plE w aP P) (hs : Lies lsE w aL l) :
    Calls Tryz.prog 47 #[.agg #[.slice aP P.length cP, .slice aL l.length cL, .int .i64 now]] w fun e w' => e = .returned (.int .i64 (leasesE P l now)) ∧ Below w.heap.size w w' := by
  have HD := Lib.hid (ldrop_any aL cL l now (w.alloc (.cells #[.slice aP P.length cP, .slice aL l.length cL, .int .i64 now] 55)) (hs.below (bal (Below.refl _ _) _)))
  have HB0 := Lib.hid (bal (Below.refl w.heap.size w) (.cells #[.slice aP P.length cP, .slice aL l.length cL, .int .i64 now] 55))
  have HS0 := Lib.hid (Blk.new w [.slice aP P.length cP, .slice aL l.length cL, .int .i64 now] 55)
  by_cases h0 : lookL l now = 0
  · have hl20 := lookL_len h0
    rw [show leasesE P l now = leasesFrom P now [] l by unfold leasesE; rw [if_pos h0]]
    rw [h0] at HD
    have HL := Lib.hid hs
    have HP := Lib.hid hp
    have HG := Lib.hid hg
    obtain ⟨N, hN⟩ : ∃ N, N = l.length := ⟨_, rfl⟩
    rw [← hN] at HD HB0 HS0 hl20 hcL ⊢
    have HN : Hid (N = l.length) := hN
    obtain ⟨R, hR⟩ : ∃ R, R = leasesFrom P now [] l := ⟨_, rfl⟩
    rw [← hR]
    have HR := Lib.hid hR
    generalize dropL l now = DL at *
    generalize DL.length = DN at *
    generalize dropN l now = dn at *
    clear hN hs hp hg hR h0
    obtain ⟨PN, hPN⟩ : ∃ n, n = P.length := ⟨_, rfl⟩
    rw [← hPN] at HD HB0 HS0 hP3 ⊢
    have HPN := Lib.hid hPN
    clear hPN
    go_enter Tryz.func47, Tryz.ntmps47
    go_wp2_with fail
    refine HD.out.mono ?_
    rintro e w1 ⟨a4, c4, rfl, -, hb1⟩
    have HB1 := Lib.hid (btr HB0.out hb1)
    have HS1 := Lib.hid (HS0.out.below hb1)
    obtain ⟨⟨s0, s1, s2⟩, -⟩ := HS1.out.three
    clear hb1 HB0 HS0 HD
    go_wp2_with fail
    go_loopw [23] (fun vi wr => ∃ k : Nat, vi = .int .i64 k ∧ k ≤ N ∧ Hid (Blk wr w.heap.size 55 [.slice aP PN cP, .slice aL N cL, .int .i64 now]) ∧ Hid (Below w.heap.size w wr) ∧ Hid (R = leasesFrom P now (l.take k) (l.drop k)))
      (fun vi _ => N - (intOf vi).toNat)
    case atStart => exact ⟨0, rfl, Nat.zero_le _, HS1.out, HB1.out, HR.out⟩
    case round =>
      clear HR HS1 HB1 s0 s1 s2
      obtain ⟨k, rfl, hk, hsb, hb, hh⟩ := hrel
      by_cases hkN : k < N
      · have hkl : k < l.length := by have := HN.out; omega
        obtain ⟨g, o, rfl, hgl, c0, c1, c2, c3, c4⟩ := HL.out.ls k hkl
        rw [← (bcell hb.out).1 _ _ hgl] at c0 c1 c2 c3 c4
        have hdec := hh.out
        rw [List.drop_eq_getElem_cons hkl, leasesFrom, show l.take k ++ [l[k]] = l.take (k + 1) by rw [List.take_succ_eq_append_getElem hkl]] at hdec
        have HBx := Lib.hid (bal hb.out (.cells #[.bool l[k].a.v, .int .u64 l[k].a.hi, .int .u64 l[k].a.lo, .string l[k].who, .int .i64 l[k].un] 106))
        have HSx := Lib.hid (hsb.out.below (bal (Below.refl wr.heap.size wr) (.cells #[.bool l[k].a.v, .int .u64 l[k].a.hi, .int .u64 l[k].a.lo, .string l[k].who, .int .i64 l[k].un] 106)))
        have HXx := Lib.hid (Blk.new wr [.bool l[k].a.v, .int .u64 l[k].a.hi, .int .u64 l[k].a.lo, .string l[k].who, .int .i64 l[k].un] 106)
        have hHas : Hid (∀ W : World, Calls Tryz.prog 64 #[.agg #[.bool l[k].a.v, .int .u64 l[k].a.hi, .int .u64 l[k].a.lo]] W fun e w' => e = .returned (.func (.func 88) #[] #[.pointer (some ⟨W.heap.size, 0, none⟩)]) ∧ w' = W.alloc (.cells #[.bool l[k].a.v, .int .u64 l[k].a.hi, .int .u64 l[k].a.lo] 29)) := fun W => has_ctor l[k].a W
        have hBy : Hid (∀ W : World, Calls Tryz.prog 66 #[.string l[k].who] W fun e w' => e = .returned (.func (.func 89) #[] #[.pointer (some ⟨W.heap.size, 0, none⟩)]) ∧ w' = W.alloc (.cells #[.string l[k].who] 9)) := fun W => by_ctor l[k].who W
        have hCon : Hid (∀ (q : Nat) (W : World), Below w.heap.size w W → Blk W q 29 [.bool l[k].a.v, .int .u64 l[k].a.hi, .int .u64 l[k].a.lo] → Calls Tryz.prog 63 #[.slice aP PN cP, .func (.func 88) #[] #[.pointer (some ⟨q, 0, none⟩)]] W fun e w' => e = .returned (.bool (P.any fun y => y.p.ina l[k].a)) ∧ Below W.heap.size W w') := fun q W hW hq => by
          rw [HPN.out]; exact conHas aP cP P l[k].a q W (by have := HPN.out; omega) HG.out (HP.out.below hW) hq
        have hCoB : Hid (∀ (q : Nat) (W : World), Below w.heap.size w W → Blk W q 9 [.string l[k].who] → Calls Tryz.prog 65 #[.slice (some ⟨g, o, none⟩) k cL, .func (.func 89) #[] #[.pointer (some ⟨q, 0, none⟩)]] W fun e w' => e = .returned (.bool ((l.take k).any (whoIs l[k].who))) ∧ Below W.heap.size W w') := fun q W hW hq => by
          have h := conBy (some ⟨g, o, none⟩) cL (l.take k) l[k].who q W (by rw [List.length_take]; omega) ((HL.out.below hW).take k) hq
          rw [show (l.take k).length = k by rw [List.length_take]; omega] at h
          exact h
        have hkz : (k : Int) < (N : Int) := by omega
        have hk0 : (0 : Int) ≤ (k : Int) := by omega
        have hkc : (k : Int) ≤ (cL : Int) := by omega
        generalize (P.any fun y => y.p.ina l[k].a) = b1 at *
        generalize ((l.take k).any (whoIs l[k].who)) = b2 at *
        generalize l[k].a.v = x0 at *
        generalize l[k].a.hi = x1 at *
        generalize l[k].a.lo = x2 at *
        generalize l[k].who = x3 at *
        generalize l[k].un = x4 at *
        clear hh hb hsb
        obtain ⟨⟨s0, s1, s2⟩, -⟩ := HSx.out.three
        obtain ⟨y0, y1, y2, y3, y4⟩ : (wr.alloc (.cells #[.bool x0, .int .u64 x1, .int .u64 x2, .string x3, .int .i64 x4] 106)).cell? ⟨wr.heap.size, 0, none⟩ = some (.bool x0) ∧ (wr.alloc (.cells #[.bool x0, .int .u64 x1, .int .u64 x2, .string x3, .int .i64 x4] 106)).cell? ⟨wr.heap.size, 1, none⟩ = some (.int .u64 x1) ∧ (wr.alloc (.cells #[.bool x0, .int .u64 x1, .int .u64 x2, .string x3, .int .i64 x4] 106)).cell? ⟨wr.heap.size, 2, none⟩ = some (.int .u64 x2) ∧ (wr.alloc (.cells #[.bool x0, .int .u64 x1, .int .u64 x2, .string x3, .int .i64 x4] 106)).cell? ⟨wr.heap.size, 3, none⟩ = some (.string x3) ∧ (wr.alloc (.cells #[.bool x0, .int .u64 x1, .int .u64 x2, .string x3, .int .i64 x4] 106)).cell? ⟨wr.heap.size, 4, none⟩ = some (.int .i64 x4) := ⟨HXx.out.cell 0 _ rfl, HXx.out.cell 1 _ rfl, HXx.out.cell 2 _ rfl, HXx.out.cell 3 _ rfl, HXx.out.cell 4 _ rfl⟩
        have hlt0 : w.heap.size < (wr.alloc (.cells #[.bool x0, .int .u64 x1, .int .u64 x2, .string x3, .int .i64 x4] 106)).heap.size := HSx.out.lt
        have hlt1 : wr.heap.size < (wr.alloc (.cells #[.bool x0, .int .u64 x1, .int .u64 x2, .string x3, .int .i64 x4] 106)).heap.size := HXx.out.lt
        cases b1
        · rw [if_neg (by decide)] at hdec
          have HU := Lib.hid hdec
          clear hdec
          have KB := Lib.hid (bal HBx.out (.cells #[.bool x0, .int .u64 x1, .int .u64 x2] 29)).drew
          have KW : Hid (Below (wr.alloc (.cells #[.bool x0, .int .u64 x1, .int .u64 x2, .string x3, .int .i64 x4] 106)).heap.size (wr.alloc (.cells #[.bool x0, .int .u64 x1, .int .u64 x2, .string x3, .int .i64 x4] 106)) ((wr.alloc (.cells #[.bool x0, .int .u64 x1, .int .u64 x2, .string x3, .int .i64 x4] 106)).alloc (.cells #[.bool x0, .int .u64 x1, .int .u64 x2] 29)).drew) := (bal (Below.refl _ _) _).drew
          have KV : Hid (Blk ((wr.alloc (.cells #[.bool x0, .int .u64 x1, .int .u64 x2, .string x3, .int .i64 x4] 106)).alloc (.cells #[.bool x0, .int .u64 x1, .int .u64 x2] 29)).drew (wr.heap.size + 1) 29 [.bool x0, .int .u64 x1, .int .u64 x2]) := by
            have := Blk.new (wr.alloc (.cells #[.bool x0, .int .u64 x1, .int .u64 x2, .string x3, .int .i64 x4] 106)) [.bool x0, .int .u64 x1, .int .u64 x2] 29
            rw [show (wr.alloc (.cells #[.bool x0, .int .u64 x1, .int .u64 x2, .string x3, .int .i64 x4] 106)).heap.size = wr.heap.size + 1 by simp] at this
            exact this
          obtain ⟨⟨t0, t1, t2⟩, -⟩ := (HSx.out.below KW.out).three
          have HT := Lib.hid (HXx.out.below KW.out)
          have t3 := HT.out.cell 0 _ rfl
          have t4 := HT.out.cell 1 _ rfl
          have t5 := HT.out.cell 2 _ rfl
          have t6 := HT.out.cell 3 _ rfl
          go_wp2_with fail
          go_cut [34] from 24 to 48 (fun v wc => v = .bool true ∧ Hid (Below (wr.alloc (.cells #[.bool x0, .int .u64 x1, .int .u64 x2, .string x3, .int .i64 x4] 106)).heap.size (wr.alloc (.cells #[.bool x0, .int .u64 x1, .int .u64 x2, .string x3, .int .i64 x4] 106)) wc))
          case first =>
            go_wp2_with fail
            go_region_with
              (first
                | (go_at_call 64; (refine (hHas.out _).mono ?_); rintro e wq ⟨rfl, rfl⟩)
                | (go_at_call 63; (refine (hCon.out _ _ KB.out KV.out).mono ?_); rintro e wz ⟨rfl, hbz⟩; have KZ := Lib.hid (btr KW.out hbz); clear hbz))
            all_goals go_wp2_with fail
            all_goals go_meet
            all_goals exact ⟨rfl, KZ⟩
          case rest =>
            obtain ⟨rfl, KC⟩ := hcut
            clear KB KW KV HT t0 t1 t2 t3 t4 t5 t6
            have HB7 := Lib.hid (btr HBx.out KC.out)
            clear HBx HSx HXx KC s0 s1 s2 y0 y1 y2 y3 y4 hCon hCoB
            go_wp2_with fail
            go_ret
            exact ⟨congrArg (fun r => Ending.returned (Value.int .i64 r)) HU.out.symm, HB7.out⟩
        · cases b2
          · rw [if_pos rfl] at hdec
            rw [if_neg (by decide)] at hdec
            have KB := Lib.hid (bal HBx.out (.cells #[.bool x0, .int .u64 x1, .int .u64 x2] 29)).drew
            have KW : Hid (Below (wr.alloc (.cells #[.bool x0, .int .u64 x1, .int .u64 x2, .string x3, .int .i64 x4] 106)).heap.size (wr.alloc (.cells #[.bool x0, .int .u64 x1, .int .u64 x2, .string x3, .int .i64 x4] 106)) ((wr.alloc (.cells #[.bool x0, .int .u64 x1, .int .u64 x2, .string x3, .int .i64 x4] 106)).alloc (.cells #[.bool x0, .int .u64 x1, .int .u64 x2] 29)).drew) := (bal (Below.refl _ _) _).drew
            have KV : Hid (Blk ((wr.alloc (.cells #[.bool x0, .int .u64 x1, .int .u64 x2, .string x3, .int .i64 x4] 106)).alloc (.cells #[.bool x0, .int .u64 x1, .int .u64 x2] 29)).drew (wr.heap.size + 1) 29 [.bool x0, .int .u64 x1, .int .u64 x2]) := by
              have := Blk.new (wr.alloc (.cells #[.bool x0, .int .u64 x1, .int .u64 x2, .string x3, .int .i64 x4] 106)) [.bool x0, .int .u64 x1, .int .u64 x2] 29
              rw [show (wr.alloc (.cells #[.bool x0, .int .u64 x1, .int .u64 x2, .string x3, .int .i64 x4] 106)).heap.size = wr.heap.size + 1 by simp] at this
              exact this
            obtain ⟨⟨t0, t1, t2⟩, -⟩ := (HSx.out.below KW.out).three
            have HT := Lib.hid (HXx.out.below KW.out)
            have t3 := HT.out.cell 0 _ rfl
            have t4 := HT.out.cell 1 _ rfl
            have t5 := HT.out.cell 2 _ rfl
            have t6 := HT.out.cell 3 _ rfl
            go_wp2_with fail
            go_cut [34] from 24 to 48 (fun v wc => v = .bool false ∧ Hid (Below (wr.alloc (.cells #[.bool x0, .int .u64 x1, .int .u64 x2, .string x3, .int .i64 x4] 106)).heap.size (wr.alloc (.cells #[.bool x0, .int .u64 x1, .int .u64 x2, .string x3, .int .i64 x4] 106)) wc))
            case first =>
              go_wp2_with fail
              go_region_with
                (first
                  | (go_at_call 64; (refine (hHas.out _).mono ?_); rintro e wq ⟨rfl, rfl⟩)
                  | (go_at_call 63; (refine (hCon.out _ _ KB.out KV.out).mono ?_); rintro e wz ⟨rfl, hbz⟩; have KZ := Lib.hid (btr KW.out hbz); clear hbz))
              all_goals go_wp2_with fail
              all_goals go_meet
              all_goals exact ⟨rfl, KZ⟩
            case rest =>
              obtain ⟨rfl, KC⟩ := hcut
              clear KB KW KV HT t0 t1 t2 t3 t4 t5 t6
              obtain ⟨W7, hW7⟩ : ∃ W, W = wc := ⟨_, rfl⟩
              subst hW7
              replace HBx := Lib.hid (btr HBx.out KC.out)
              replace HSx := Lib.hid (HSx.out.below KC.out)
              replace HXx := Lib.hid (HXx.out.below KC.out)
              clear KC s0 s1 s2 y0 y1 y2 y3 y4
              clear hCon hHas
              obtain ⟨⟨s0, s1, s2⟩, -⟩ := HSx.out.three
              have y0 := HXx.out.cell 0 _ rfl
              have y1 := HXx.out.cell 1 _ rfl
              have y2 := HXx.out.cell 2 _ rfl
              have y3 := HXx.out.cell 3 _ rfl
              have y4 := HXx.out.cell 4 _ rfl
              have KB := Lib.hid (bal HBx.out (.cells #[.string x3] 9)).drew
              have KW : Hid (Below W7.heap.size W7 (W7.alloc (.cells #[.string x3] 9)).drew) := (bal (Below.refl _ _) _).drew
              have KV : Hid (Blk (W7.alloc (.cells #[.string x3] 9)).drew (W7.heap.size) 9 [.string x3]) := Blk.new W7 [.string x3] 9
              obtain ⟨⟨t0, t1, t2⟩, -⟩ := (HSx.out.below KW.out).three
              have HT := Lib.hid (HXx.out.below KW.out)
              have t3 := HT.out.cell 0 _ rfl
              have t4 := HT.out.cell 1 _ rfl
              have t5 := HT.out.cell 2 _ rfl
              have t6 := HT.out.cell 3 _ rfl
              go_wp2_with fail
              go_cut [42] from 24 to 48 (fun v wc => v = .bool false ∧ Hid (Below W7.heap.size W7 wc))
              case first =>
                go_wp2_with fail
                go_region_with
                  (first
                    | (go_at_call 66; (refine (hBy.out _).mono ?_); rintro e wq ⟨rfl, rfl⟩)
                    | (go_at_call 65; (refine (hCoB.out _ _ KB.out KV.out).mono ?_); rintro e wz ⟨rfl, hbz⟩; have KZ := Lib.hid (btr KW.out hbz); clear hbz))
                all_goals go_wp2_with fail
                all_goals go_meet
                all_goals exact ⟨rfl, KZ⟩
              case rest =>
                obtain ⟨rfl, KC⟩ := hcut
                clear KB KW KV HT t0 t1 t2 t3 t4 t5 t6
                obtain ⟨W9, hW9⟩ : ∃ W, W = wc := ⟨_, rfl⟩
                subst hW9
                replace HBx := Lib.hid (btr HBx.out KC.out)
                replace HSx := Lib.hid (HSx.out.below KC.out)
                replace HXx := Lib.hid (HXx.out.below KC.out)
                clear KC s0 s1 s2 y0 y1 y2 y3 y4
                clear hCoB hBy
                obtain ⟨⟨s0, s1, s2⟩, -⟩ := HSx.out.three
                have y0 := HXx.out.cell 0 _ rfl
                have y1 := HXx.out.cell 1 _ rfl
                have y2 := HXx.out.cell 2 _ rfl
                have y3 := HXx.out.cell 3 _ rfl
                have y4 := HXx.out.cell 4 _ rfl
                by_cases hun : x4 < now
                · rw [if_pos hun] at hdec
                  have HU := Lib.hid hdec
                  clear hdec
                  have HBf := Lib.hid (HBx.out)
                  go_wp2_with fail
                  go_ret
                  exact ⟨congrArg (fun r => Ending.returned (Value.int .i64 r)) HU.out.symm, HBf.out⟩
                · rw [if_neg hun] at hdec
                  have HDn := Lib.hid hdec
                  clear hdec
                  go_wp2_with fail
                  go_roundw
                  case rel => exact ⟨k + 1, by go_num, by omega, HSx, HBx, HDn⟩
                  case measure => simp [intOf]; omega
          · rw [if_pos rfl] at hdec
            rw [if_pos rfl] at hdec
            have HU := Lib.hid hdec
            clear hdec
            have KB := Lib.hid (bal HBx.out (.cells #[.bool x0, .int .u64 x1, .int .u64 x2] 29)).drew
            have KW : Hid (Below (wr.alloc (.cells #[.bool x0, .int .u64 x1, .int .u64 x2, .string x3, .int .i64 x4] 106)).heap.size (wr.alloc (.cells #[.bool x0, .int .u64 x1, .int .u64 x2, .string x3, .int .i64 x4] 106)) ((wr.alloc (.cells #[.bool x0, .int .u64 x1, .int .u64 x2, .string x3, .int .i64 x4] 106)).alloc (.cells #[.bool x0, .int .u64 x1, .int .u64 x2] 29)).drew) := (bal (Below.refl _ _) _).drew
            have KV : Hid (Blk ((wr.alloc (.cells #[.bool x0, .int .u64 x1, .int .u64 x2, .string x3, .int .i64 x4] 106)).alloc (.cells #[.bool x0, .int .u64 x1, .int .u64 x2] 29)).drew (wr.heap.size + 1) 29 [.bool x0, .int .u64 x1, .int .u64 x2]) := by
              have := Blk.new (wr.alloc (.cells #[.bool x0, .int .u64 x1, .int .u64 x2, .string x3, .int .i64 x4] 106)) [.bool x0, .int .u64 x1, .int .u64 x2] 29
              rw [show (wr.alloc (.cells #[.bool x0, .int .u64 x1, .int .u64 x2, .string x3, .int .i64 x4] 106)).heap.size = wr.heap.size + 1 by simp] at this
              exact this
            obtain ⟨⟨t0, t1, t2⟩, -⟩ := (HSx.out.below KW.out).three
            have HT := Lib.hid (HXx.out.below KW.out)
            have t3 := HT.out.cell 0 _ rfl
            have t4 := HT.out.cell 1 _ rfl
            have t5 := HT.out.cell 2 _ rfl
            have t6 := HT.out.cell 3 _ rfl
            go_wp2_with fail
            go_cut [34] from 24 to 48 (fun v wc => v = .bool false ∧ Hid (Below (wr.alloc (.cells #[.bool x0, .int .u64 x1, .int .u64 x2, .string x3, .int .i64 x4] 106)).heap.size (wr.alloc (.cells #[.bool x0, .int .u64 x1, .int .u64 x2, .string x3, .int .i64 x4] 106)) wc))
            case first =>
              go_wp2_with fail
              go_region_with
                (first
                  | (go_at_call 64; (refine (hHas.out _).mono ?_); rintro e wq ⟨rfl, rfl⟩)
                  | (go_at_call 63; (refine (hCon.out _ _ KB.out KV.out).mono ?_); rintro e wz ⟨rfl, hbz⟩; have KZ := Lib.hid (btr KW.out hbz); clear hbz))
              all_goals go_wp2_with fail
              all_goals go_meet
              all_goals exact ⟨rfl, KZ⟩
            case rest =>
              obtain ⟨rfl, KC⟩ := hcut
              clear KB KW KV HT t0 t1 t2 t3 t4 t5 t6
              obtain ⟨W7, hW7⟩ : ∃ W, W = wc := ⟨_, rfl⟩
              subst hW7
              replace HBx := Lib.hid (btr HBx.out KC.out)
              replace HSx := Lib.hid (HSx.out.below KC.out)
              replace HXx := Lib.hid (HXx.out.below KC.out)
              clear KC s0 s1 s2 y0 y1 y2 y3 y4
              clear hCon hHas
              obtain ⟨⟨s0, s1, s2⟩, -⟩ := HSx.out.three
              have y0 := HXx.out.cell 0 _ rfl
              have y1 := HXx.out.cell 1 _ rfl
              have y2 := HXx.out.cell 2 _ rfl
              have y3 := HXx.out.cell 3 _ rfl
              have y4 := HXx.out.cell 4 _ rfl
              have KB := Lib.hid (bal HBx.out (.cells #[.string x3] 9)).drew
              have KW : Hid (Below W7.heap.size W7 (W7.alloc (.cells #[.string x3] 9)).drew) := (bal (Below.refl _ _) _).drew
              have KV : Hid (Blk (W7.alloc (.cells #[.string x3] 9)).drew (W7.heap.size) 9 [.string x3]) := Blk.new W7 [.string x3] 9
              obtain ⟨⟨t0, t1, t2⟩, -⟩ := (HSx.out.below KW.out).three
              have HT := Lib.hid (HXx.out.below KW.out)
              have t3 := HT.out.cell 0 _ rfl
              have t4 := HT.out.cell 1 _ rfl
              have t5 := HT.out.cell 2 _ rfl
              have t6 := HT.out.cell 3 _ rfl
              go_wp2_with fail
              go_cut [42] from 24 to 48 (fun v wc => v = .bool true ∧ Hid (Below W7.heap.size W7 wc))
              case first =>
                go_wp2_with fail
                go_region_with
                  (first
                    | (go_at_call 66; (refine (hBy.out _).mono ?_); rintro e wq ⟨rfl, rfl⟩)
                    | (go_at_call 65; (refine (hCoB.out _ _ KB.out KV.out).mono ?_); rintro e wz ⟨rfl, hbz⟩; have KZ := Lib.hid (btr KW.out hbz); clear hbz))
                all_goals go_wp2_with fail
                all_goals go_meet
                all_goals exact ⟨rfl, KZ⟩
              case rest =>
                obtain ⟨rfl, KC⟩ := hcut
                clear KB KW KV HT t0 t1 t2 t3 t4 t5 t6
                obtain ⟨W9, hW9⟩ : ∃ W, W = wc := ⟨_, rfl⟩
                subst hW9
                replace HBx := Lib.hid (btr HBx.out KC.out)
                replace HSx := Lib.hid (HSx.out.below KC.out)
                replace HXx := Lib.hid (HXx.out.below KC.out)
                clear KC s0 s1 s2 y0 y1 y2 y3 y4
                clear hCoB hBy
                have HBf := Lib.hid (HBx.out)
                go_wp2_with fail
                go_ret
                exact ⟨congrArg (fun r => Ending.returned (Value.int .i64 r)) HU.out.symm, HBf.out⟩
      · obtain rfl : k = N := by omega
        have hd := hh.out
        rw [List.drop_eq_nil_of_le (by have := HN.out; omega), leasesFrom] at hd
        have HU := Lib.hid hd
        have hkk : ¬ (k : Int) < (k : Int) := by omega
        clear hd hh
        go_wp2_with fail
        go_ret
        exact ⟨congrArg (fun r => Ending.returned (Value.int .i64 r)) HU.out.symm, hb.out⟩
  · rw [show leasesE P l now = lookL l now by unfold leasesE; rw [if_neg h0]]
    have hI : (lookL l now != 0) = true := by rw [bne_iff_ne]; exact h0
    generalize lookL l now = r at *
    generalize dropL l now = DL at *
    generalize DL.length = DN at *
    generalize dropN l now = dn at *
    generalize l.length = N at *
    generalize P.length = PN at *
    clear hs hp hg h0
    go_enter Tryz.func47, Tryz.ntmps47
    go_wp2_with fail
    refine HD.out.mono ?_
    rintro e w1 ⟨a4, c4, rfl, -, hb1⟩
    have HB1 := Lib.hid (btr HB0.out hb1)
    clear hb1 HB0 HS0 HD
    go_wp2_with fail
    go_ret
    exact ⟨rfl, HB1.out⟩
end Go.Proofs.YtjainfehlbfiaaaGreat
