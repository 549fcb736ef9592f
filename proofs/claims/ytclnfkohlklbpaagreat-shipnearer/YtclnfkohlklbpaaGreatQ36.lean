/- log.play, log.Replay. -/
import Derived.Test.YtclnfkohlklbpaaGreatQ35
set_option linter.unusedVariables false
set_option linter.unusedSimpArgs false
namespace Go.Proofs.YtclnfkohlklbpaaGreat
open Go.RowKit

theorem own_ne_blk' {w : World} {B B' t t' k k' n n' : Nat} {v v' : Value} {R R' : List Value} (h : w.ownsRow B t k v n R) (h' : w.ownsRow B' t' k' v' n' R') (ht : t ≠ t') (hv : v.ownBlock ≠ none) : v.ownBlock ≠ v'.ownBlock := by
  intro e
  rcases h.2 with ⟨rfl, _⟩ | ⟨g, c, cur, rfl, _, hg, _⟩
  · exact hv rfl
  · rcases h'.2 with ⟨rfl, _⟩ | ⟨g', c', cur', rfl, _, hg', _⟩
    · simp [Value.ownBlock] at e
    · have : g = g' := by simpa [Value.ownBlock] using e
      subst this
      rw [hg] at hg'
      simp at hg'
      exact ht hg'.2
theorem play_any (pb B : Nat) (S : Sta) (T : List Ad) (o : Opd) (w : World) (h : Ply w pb B S T) (hT : T.length ≤ 100) (hB : B ≤ w.heap.size) (hpB : pb < B) :
    Calls Tryz.prog 22 #[.pointer (some ⟨pb, 0, none⟩), .agg #[.int .i64 o.k, .bool o.p.v, .int .u64 o.p.hi, .int .u64 o.p.lo, .int .i64 o.p.b, .bool o.a.v, .int .u64 o.a.hi, .int .u64 o.a.lo, .string o.who, .int .i64 o.pof, .int .i64 o.n]] w fun e w' => e = .returned (.tuple #[]) ∧ Ply w' pb B (nextS S o) (T ++ [(doAll S o).2.1]) ∧ Below pb w w' := by
  obtain ⟨a1, a2, a3, c1, c2, c3, P, hp, hA, hR, hT0, hap⟩ := h
  have hdo : ∀ W : World, Below w.heap.size w W → _ := fun W hW => (show Rd W B S a1 P.length c1 a2 S.l.length c2 S.now from ⟨P, rfl, rfl, rfl, hA, own_keepR hR hW⟩).do_ o
  have hrow : rowOf adE (T ++ [(doAll S o).2.1]) = rowOf adE T ++ [.bool (doAll S o).2.1.v, .int .u64 (doAll S o).2.1.hi, .int .u64 (doAll S o).2.1.lo] := by
    rw [rowOf_append]; rfl
  have htl : ∀ b, (Value.slice a3 T.length c3).ownBlock = some b → B ≤ b ∧ b < w.heap.size := fun b hb => hT0.lt b hb
  by_cases hcd : (doAll S o).1 = 0
  · have e0 : nextS S o = (doAll S o).2.2 := by unfold nextS; rw [if_pos hcd]
    rw [e0]
    refine (play_ok w pb B T.length a1 a2 a3 P.length c1 S.l.length c2 c3 S.now o.k o.p.v o.p.hi o.p.lo o.p.b o.a.v o.a.hi o.a.lo o.who o.pof o.n _ _ _ _ _ (doAll S o).2.2 _ hcd hB hpB hT hp hT0 hdo).mono ?_
    rintro e w' ⟨rfl, w3, w5, a5, n5, c5, a6, n6, c6, a7, c7, rfl, q1, q2, q3, q4, ⟨P', rfl, rfl, -, r4, r5⟩, q6⟩
    have ne : ∀ (v : Value), (∀ b, v.ownBlock = some b → w.heap.size ≤ b) → (v.ownBlock = none ∨ v.ownBlock ≠ (Value.slice a3 T.length c3).ownBlock) := fun v hv => by
      cases hvb : v.ownBlock with
      | none => exact .inl rfl
      | some b => exact .inr (fun e => by have := (htl b e.symm).2; have := hv b hvb; omega)
    have k1 := (r5.pools.kept q3 (ne _ fun b hb => (r5.pools.lt b hb).1))
    have k2 := (r5.leases.kept q3 (ne _ fun b hb => (r5.leases.lt b hb).1))
    have hpw : pb < w.heap.size := by omega
    refine ⟨rfl, ⟨a5, a6, a7, c5, c6, c7, P', ?_, r4, ?_, ?_, ?_⟩, ?_⟩
    · have := q1.set 3 (.slice a7 (T.length + 1) c7)
      rw [List.length_append, List.length_singleton]
      exact this
    · exact own_baseR ⟨own_st k1 hpw _, own_st k2 hpw _, fun x hx => own_st ((r5.kept x hx).kept q3 (ne _ fun b hb => ((r5.kept x hx).lt b hb).1)) hpw _⟩ hB
    · rw [hrow, List.length_append, List.length_singleton]
      exact own_st q2 hpB _
    · intro x hx b hb e
      rw [List.length_append, List.length_singleton] at e
      have h1 := (r5.kept x hx).lt b hb
      rcases q4 with q4 | q4
      · rw [q4] at e; have := (htl b e).2; omega
      · rw [q4] at e; have := Option.some.inj e; omega
    · exact ((q6.grown q3 (Nat.le_trans (Nat.le_of_lt hpw) q6.size) (fun b hb => by have := (htl b hb).1; omega))).setCell (Nat.le_refl _) _
  · have e0 : nextS S o = S := by unfold nextS; rw [if_neg hcd]
    rw [e0]
    refine (play_bad w pb B T.length a1 a2 a3 P.length c1 S.l.length c2 c3 S.now o.k o.p.v o.p.hi o.p.lo o.p.b o.a.v o.a.hi o.a.lo o.who o.pof o.n _ _ _ _ _ (doAll S o).2.2 _ hcd hB hpB hT hp hT0 hdo).mono ?_
    rintro e w' ⟨rfl, w3, w5, a7, c7, rfl, q1, q2, q3, q4, q6⟩
    have hR3 := own_keepR hR q6
    have k1 : w5.ownsRow B 71 plE.k (.slice a1 P.length c1) P.length (rowOf plE P) := hR3.pools.kept q3 (by
      cases hvb : (Value.slice a1 P.length c1).ownBlock with
      | none => exact .inl rfl
      | some b => exact .inr (fun e => own_ne_blk' hR.pools hT0 (by decide) (by rw [hvb]; exact fun h => by cases h) (by rw [hvb]; exact e)))
    have k2 : w5.ownsRow B 90 lsE.k (.slice a2 S.l.length c2) S.l.length (rowOf lsE S.l) := hR3.leases.kept q3 (by
      cases hvb : (Value.slice a2 S.l.length c2).ownBlock with
      | none => exact .inl rfl
      | some b => exact .inr (fun e => own_ne_blk' hR.leases hT0 (by decide) (by rw [hvb]; exact fun h => by cases h) (by rw [hvb]; exact e)))
    have hpw : pb < w.heap.size := by omega
    refine ⟨rfl, ⟨a1, a2, a7, c1, c2, c7, P, ?_, hA, ?_, ?_, ?_⟩, ?_⟩
    · have := q1.set 3 (.slice a7 (T.length + 1) c7)
      rw [List.length_append, List.length_singleton]
      exact this
    · exact ⟨own_st k1 hpB _, own_st k2 hpB _, fun x hx => own_st ((hR3.kept x hx).kept q3 (by
        cases hvb : x.v.ownBlock with
        | none => exact .inl rfl
        | some b => exact .inr (fun e => hap x hx b hvb e.symm))) hpB _⟩
    · rw [hrow, List.length_append, List.length_singleton]
      exact own_st q2 hpB _
    · intro x hx b hb e
      rw [List.length_append, List.length_singleton] at e
      have h1 := (hR.kept x hx).lt b hb
      rcases q4 with q4 | q4
      · rw [q4] at e; exact hap x hx b hb e
      · rw [q4] at e; have := Option.some.inj e; have := q6.size; omega
    · exact (((q6.mono (Nat.le_of_lt hpw)).grown q3 (Nat.le_trans (Nat.le_of_lt hpw) q6.size) (fun b hb => by have := (htl b hb).1; omega))).setCell (Nat.le_refl _) _
/-- What a log replays, and what it tells. -/
def playAll : Sta → List Ad → List En → Sta × List Ad
  | S, T, [] => (S, T)
  | S, T, n :: r => playAll (nextS S n.o) (T ++ [(doAll S n.o).2.1]) r
theorem playAll_snoc : ∀ (l : List En) (S : Sta) (T : List Ad) (n : En), playAll S T (l ++ [n]) = (nextS (playAll S T l).1 n.o, (playAll S T l).2 ++ [(doAll (playAll S T l).1 n.o).2.1])
  | [], S, T, n => rfl
  | m :: l, S, T, n => by
    show playAll (nextS S m.o) (T ++ [(doAll S m.o).2.1]) (l ++ [n]) = _
    rw [playAll_snoc l]
    rfl
theorem playAll_len : ∀ (l : List En) (S : Sta) (T : List Ad), (playAll S T l).2.length = T.length + l.length
  | [], S, T => rfl
  | m :: l, S, T => by
    show (playAll (nextS S m.o) (T ++ [(doAll S m.o).2.1]) l).2.length = _
    rw [playAll_len l]
    simp
    omega
theorem playAll_take (l : List En) (k : Nat) (h : k < l.length) : playAll zSta [] (l.take (k + 1)) = (nextS (playAll zSta [] (l.take k)).1 l[k].o, (playAll zSta [] (l.take k)).2 ++ [(doAll (playAll zSta [] (l.take k)).1 l[k].o).2.1]) := by
  rw [List.take_succ_eq_append_getElem h, playAll_snoc]
theorem OwnR.st3 {w : World} {B : Nat} {vP vL : Value} {P : List Pl} {l : List Ls} (h : OwnR w B vP vL P l) {b : Nat} (hb : b < B) (u0 u1 u2 : Value) : OwnR (((w.setCell ⟨b, 0, none⟩ u0).setCell ⟨b, 1, none⟩ u1).setCell ⟨b, 2, none⟩ u2) B vP vL P l := ⟨own_st (own_st (own_st h.pools hb _) hb _) hb _, own_st (own_st (own_st h.leases hb _) hb _) hb _, fun x hx => own_st (own_st (own_st (h.kept x hx) hb _) hb _) hb _⟩
theorem ply_new (w : World) : Ply (w.alloc (.cells #[.slice none 0 0, .slice none 0 0, .int .i64 0, .slice none 0 0] 61)) w.heap.size (w.heap.size + 1) zSta [] :=
  ⟨none, none, none, 0, 0, 0, [], Blk.new w _ _, rfl, ownR_nil _ _, World.ownsRow_nil _ _ _ _, fun x hx => by cases hx⟩
theorem Ply.keep {w w' : World} {pb B : Nat} {S : Sta} {T : List Ad} (h : Ply w pb B S T) (hb : Below w.heap.size w w') : Ply w' pb B S T := by
  obtain ⟨a1, a2, a3, c1, c2, c3, P, hp, hA, hR, hT0, hap⟩ := h
  exact ⟨a1, a2, a3, c1, c2, c3, P, hp.below hb, hA, own_keepR hR hb, own_keep hT0 hb, hap⟩
set_option maxHeartbeats 32000000 in
set_option maxRecDepth 100000 in
theorem replay_bad (a : Option Addr) (c : Nat) (l : List En) (w : World) (hc : l.length ≤ c) (hs : Lies enE w a l) (h0 : ¬ logE l = 0) :
    Calls Tryz.prog 15 #[.slice a l.length c] w fun e w' => e = .returned (.tuple #[.agg #[.slice none 0 0, .slice none 0 0, .int .i64 0], .slice none 0 0, .int .i64 (logE l)]) ∧ Below w.heap.size w w' := by
  have HC : Hid (∀ W : World, Below w.heap.size w W → Calls Tryz.prog 11 #[.slice a l.length c] W fun e w' => e = .returned (.int .i64 (logE l)) ∧ Below W.heap.size W w') := fun W hW => lcheck_any a c l W hc (hs.below hW)
  have HB0 : Hid (Below w.heap.size w (w.alloc (.cells #[.slice none 0 0, .slice none 0 0, .int .i64 0] 48))) := bal (Below.refl _ _) _
  have HR0 : Hid (Blk (w.alloc (.cells #[.slice none 0 0, .slice none 0 0, .int .i64 0] 48)) w.heap.size 48 [.slice none 0 0, .slice none 0 0, .int .i64 0]) := Blk.new w _ _
  generalize l.length = N at *
  have hI : (logE l != 0) = true := by rw [bne_iff_ne]; exact h0
  generalize logE l = r at *
  clear hs hc
  go_enter Tryz.func15, Tryz.ntmps15
  go_wp2_with fail
  refine (HC.out _ HB0.out).mono ?_
  rintro e w1 ⟨rfl, hb1⟩
  have HB1 := Lib.hid (btr HB0.out hb1)
  have HR1 := Lib.hid (HR0.out.below hb1)
  clear hb1 HB0 HR0 HC
  obtain ⟨⟨r0, r1, r2⟩, r3, r4, r5⟩ := HR1.out.three
  go_wp2_with fail
  refine bodyPost_ret (v := .tuple #[.agg #[.slice none 0 0, .slice none 0 0, .int .i64 0], .slice none 0 0, .int .i64 r]) ?_ rfl ⟨rfl, ?_⟩
  · simp [results, Tryz.results15, go_sem, r0, r1, r2]
  · (repeat' (first | with_reducible exact HB1.out | with_reducible refine bse ?_ (by first | (simp; done) | (simp; omega) | (show _ ≤ _; omega)) _))
set_option maxHeartbeats 32000000 in
set_option maxRecDepth 100000 in
theorem replay_ok (a : Option Addr) (c : Nat) (l : List En) (w : World) (hc : l.length ≤ c) (hs : Lies enE w a l) (h0 : logE l = 0) :
    Calls Tryz.prog 15 #[.slice a l.length c] w fun e w' => ∃ (a1 a2 a3 : Option Addr) (c1 c2 c3 : Nat) (P : List Pl), e = .returned (.tuple #[.agg #[.slice a1 P.length c1, .slice a2 (playAll zSta [] l).1.l.length c2, .int .i64 (playAll zSta [] l).1.now], .slice a3 (playAll zSta [] l).2.length c3, .int .i64 0]) ∧ absP P = absP (playAll zSta [] l).1.P ∧ OwnR w' (w.heap.size + 1) (.slice a1 P.length c1) (.slice a2 (playAll zSta [] l).1.l.length c2) P (playAll zSta [] l).1.l ∧ w'.ownsRow (w.heap.size + 1) 38 adE.k (.slice a3 (playAll zSta [] l).2.length c3) (playAll zSta [] l).2.length (rowOf adE (playAll zSta [] l).2) ∧ (∀ x ∈ P, ∀ b, x.v.ownBlock = some b → (Value.slice a3 (playAll zSta [] l).2.length c3).ownBlock ≠ some b) ∧ Below w.heap.size w w' := by
  have HC : Hid (∀ W : World, Below w.heap.size w W → Calls Tryz.prog 11 #[.slice a l.length c] W fun e w' => e = .returned (.int .i64 0) ∧ Below W.heap.size W w') := fun W hW => by have := lcheck_any a c l W hc (hs.below hW); rw [h0] at this; exact this
  have HB0 : Hid (Below w.heap.size w (w.alloc (.cells #[.slice none 0 0, .slice none 0 0, .int .i64 0] 48))) := bal (Below.refl _ _) _
  have HR0 : Hid (Blk (w.alloc (.cells #[.slice none 0 0, .slice none 0 0, .int .i64 0] 48)) w.heap.size 48 [.slice none 0 0, .slice none 0 0, .int .i64 0]) := Blk.new w _ _
  have hl30 := logE_len h0
  have HL := Lib.hid hs
  obtain ⟨N, hN⟩ : ∃ N, N = l.length := ⟨_, rfl⟩
  have HN : Hid (N = l.length) := hN
  have hNl : Hid (l.take N = l) := by show _ = _; rw [hN, List.take_length]
  rw [← hN] at HC ⊢
  rw [← hN] at hl30
  clear hs hc hN h0
  go_enter Tryz.func15, Tryz.ntmps15
  go_wp2_with fail
  refine (HC.out _ HB0.out).mono ?_
  rintro e w1 ⟨rfl, hb1⟩
  have HB1 := Lib.hid (btr HB0.out hb1)
  have HR1 := Lib.hid (HR0.out.below hb1)
  have hlt1 := HR1.out.lt
  clear hb1 HB0 HR0 HC
  have HPl : Hid (Ply (w1.alloc (.cells #[.slice none 0 0, .slice none 0 0, .int .i64 0, .slice none 0 0] 61)) w1.heap.size (w1.heap.size + 1) zSta []) := ply_new w1
  go_wp2_with fail
  go_loopw [17] (fun vi wr => ∃ k : Nat, vi = .int .i64 k ∧ k ≤ N ∧ Hid (Ply wr w1.heap.size (w1.heap.size + 1) (playAll zSta [] (l.take k)).1 (playAll zSta [] (l.take k)).2 ∧ Below w1.heap.size w1 wr ∧ w1.heap.size + 1 ≤ wr.heap.size))
    (fun vi _ => N - (intOf vi).toNat)
  case atStart => exact ⟨0, rfl, Nat.zero_le _, HPl.out, bal (Below.refl _ _) _, by simp⟩
  case round =>
    obtain ⟨k, rfl, hk, hI⟩ := hrel
    clear HPl
    obtain ⟨wo, hwo⟩ : ∃ W, W = wr := ⟨_, rfl⟩
    subst hwo
    by_cases hkN : k < N
    · have hkl : k < l.length := by have := HN.out; omega
      obtain ⟨g, o, rfl, hg, o0, o1, o2, o3, o4, o5, o6, o7, o8, o9, o10, o11, o12⟩ := (HL.out.below (btr HB1.out hI.out.2.1)).en k hkl
      have HPL := Lib.hid hI.out.1
      have hzz := hI.out.2.2
      have HBo := Lib.hid hI.out.2.1
      have HTk := Lib.hid (playAll_take l k hkl)
      have HTl : Hid ((playAll zSta [] (l.take k)).2.length ≤ 100) := by show _ ≤ _; rw [playAll_len, List.length_take]; simp; omega
      have hkz : (k : Int) < (N : Int) := by omega
      have hk0 : (0 : Int) ≤ (k : Int) := by omega
      have hkw : IntKind.i64.wrap ((k : Int) + 1) = (k : Int) + 1 := by rw [IntKind.wrap_i64]; omega
      have HPy : Hid (∀ W : World, Below wo.heap.size wo W → Calls Tryz.prog 22 #[.pointer (some ⟨w1.heap.size, 0, none⟩), .agg #[.int .i64 l[k].o.k, .bool l[k].o.p.v, .int .u64 l[k].o.p.hi, .int .u64 l[k].o.p.lo, .int .i64 l[k].o.p.b, .bool l[k].o.a.v, .int .u64 l[k].o.a.hi, .int .u64 l[k].o.a.lo, .string l[k].o.who, .int .i64 l[k].o.pof, .int .i64 l[k].o.n]] W fun e w' => e = .returned (.tuple #[]) ∧ Ply w' w1.heap.size (w1.heap.size + 1) (playAll zSta [] (l.take (k + 1))).1 (playAll zSta [] (l.take (k + 1))).2 ∧ Below w1.heap.size W w') := fun W hW => by
        have := play_any w1.heap.size (w1.heap.size + 1) _ _ l[k].o W (HPL.out.keep hW) HTl.out (Nat.le_trans hzz hW.size) (Nat.lt_succ_self _)
        rw [HTk.out]
        exact this
      have HBl : Hid (Below wo.heap.size wo (wo.alloc (.cells #[.int .i64 l[k].num, .int .i64 l[k].ep, .int .i64 l[k].o.k, .bool l[k].o.p.v, .int .u64 l[k].o.p.hi, .int .u64 l[k].o.p.lo, .int .i64 l[k].o.p.b, .bool l[k].o.a.v, .int .u64 l[k].o.a.hi, .int .u64 l[k].o.a.lo, .string l[k].o.who, .int .i64 l[k].o.pof, .int .i64 l[k].o.n] 55))) := bal (Below.refl _ _) _
      have HE : Hid (Blk (wo.alloc (.cells #[.int .i64 l[k].num, .int .i64 l[k].ep, .int .i64 l[k].o.k, .bool l[k].o.p.v, .int .u64 l[k].o.p.hi, .int .u64 l[k].o.p.lo, .int .i64 l[k].o.p.b, .bool l[k].o.a.v, .int .u64 l[k].o.a.hi, .int .u64 l[k].o.a.lo, .string l[k].o.who, .int .i64 l[k].o.pof, .int .i64 l[k].o.n] 55)) wo.heap.size 55 [.int .i64 l[k].num, .int .i64 l[k].ep, .int .i64 l[k].o.k, .bool l[k].o.p.v, .int .u64 l[k].o.p.hi, .int .u64 l[k].o.p.lo, .int .i64 l[k].o.p.b, .bool l[k].o.a.v, .int .u64 l[k].o.a.hi, .int .u64 l[k].o.a.lo, .string l[k].o.who, .int .i64 l[k].o.pof, .int .i64 l[k].o.n]) := Blk.new wo _ _
      have c2 := HE.out.cell 2 _ rfl
      have c3 := HE.out.cell 3 _ rfl
      have c4 := HE.out.cell 4 _ rfl
      have c5 := HE.out.cell 5 _ rfl
      have c6 := HE.out.cell 6 _ rfl
      have c7 := HE.out.cell 7 _ rfl
      have c8 := HE.out.cell 8 _ rfl
      have c9 := HE.out.cell 9 _ rfl
      have c10 := HE.out.cell 10 _ rfl
      have c11 := HE.out.cell 11 _ rfl
      have c12 := HE.out.cell 12 _ rfl
      clear hI HTk HTl HPL
      generalize l[k].num = e0 at *
      generalize l[k].ep = e1 at *
      generalize l[k].o.k = y0 at *
      generalize l[k].o.p.v = y1 at *
      generalize l[k].o.p.hi = y2 at *
      generalize l[k].o.p.lo = y3 at *
      generalize l[k].o.p.b = y4 at *
      generalize l[k].o.a.v = y5 at *
      generalize l[k].o.a.hi = y6 at *
      generalize l[k].o.a.lo = y7 at *
      generalize l[k].o.who = y8 at *
      generalize l[k].o.pof = y9 at *
      generalize l[k].o.n = y10 at *
      go_wp2_with fail
      refine (HPy.out _ HBl.out).mono ?_
      rintro e w2 ⟨rfl, hP2, hb2⟩
      have HP2 := Lib.hid hP2
      have HB2 : Hid (Below w1.heap.size w1 w2) := HBo.out.trans ((HBl.out.mono (by have := HBo.out.size; omega)).trans hb2)
      have hz2 : w1.heap.size + 1 ≤ w2.heap.size := by have := hb2.size; have := HBl.out.size; omega
      clear hP2 hb2 HBl HBo HE HPy o0 o1 o2 o3 o4 o5 o6 o7 o8 o9 o10 o11 o12 c2 c3 c4 c5 c6 c7 c8 c9 c10 c11 c12
      go_wp2_with fail
      go_roundw
      case rel => exact ⟨k + 1, by go_num, by omega, HP2.out, HB2.out, hz2⟩
      case measure => simp [intOf]; omega
    · obtain rfl : k = N := by omega
      have hkk : ¬ (k : Int) < (k : Int) := by omega
      obtain ⟨a1, a2, a3, c1, c2, c3, P, hp, hA, hR, hT0, hap⟩ := hI.out.1
      rw [hNl.out] at hp hA hR hT0 hap
      have HBo := Lib.hid hI.out.2.1
      have HBB := Lib.hid (btr HB1.out HBo.out)
      have HRR := Lib.hid (HR1.out.upto hlt1 HBo.out)
      have HA := Lib.hid hA
      have HR := Lib.hid hR
      have HT0 := Lib.hid hT0
      have HAP := Lib.hid hap
      clear hA hR hT0 hap hI
      have hne : ¬ w.heap.size = w1.heap.size := by omega
      have hne' : ¬ w1.heap.size = w.heap.size := by omega
      generalize hLN : (playAll zSta [] l).1.l.length = LN at *
      generalize hnow : (playAll zSta [] l).1.now = now at *
      generalize hTN : (playAll zSta [] l).2.length = TN at *
      generalize hPN : P.length = PN at *
      have HLN := Lib.hid hLN
      have Hnow := Lib.hid hnow
      have HTN := Lib.hid hTN
      have HPN := Lib.hid hPN
      clear hLN hnow hTN hPN
      obtain ⟨⟨p0, p1, p2, p3⟩, -⟩ := hp.four'
      obtain ⟨⟨r0, r1, r2⟩, r3, r4, r5⟩ := HRR.out.three
      clear hp
      go_wp2_with fail
      go_region
      go_wp2_with fail
      all_goals
        refine bodyPost_ret (v := .tuple #[.agg #[.slice a1 PN c1, .slice a2 LN c2, .int .i64 now], .slice a3 TN c3, .int .i64 0]) ?_ rfl ⟨a1, a2, a3, c1, c2, c3, P, by rw [HLN.out, Hnow.out, HTN.out, HPN.out], HA.out, ?_, ?_, ?_, ?_⟩
        · simp [results, Tryz.results15, go_sem, r0, r1, r2]
        · rw [HLN.out, HPN.out]
          exact own_keepR (OwnR.st3 (own_baseR HR.out (by omega)) (Nat.lt_succ_self _) _ _ _) (Below.refl _ _).drew
        · rw [HTN.out]
          exact own_keep (own_st (own_st (own_st (row_base HT0.out (by omega)) (Nat.lt_succ_self _) _) (Nat.lt_succ_self _) _) (Nat.lt_succ_self _) _) (Below.refl _ _).drew
        · rw [HTN.out]
          exact HAP.out
        · refine Below.drew ?_
          (repeat' (first | with_reducible exact HBB.out | with_reducible refine bse ?_ (by first | (simp; done) | (simp; omega) | (show _ ≤ _; omega)) _))
end Go.Proofs.YtclnfkohlklbpaaGreat
