/- What the card leans on: StM, StN. -/
import Derived.Test.YtjainfehlbfiaaaGreatQ19
import Derived.Deep.RegionLaw
set_option linter.unusedVariables false
set_option linter.unusedSimpArgs false
namespace Go.Proofs.YtjainfehlbfiaaaGreat
open Go.RowKit

theorem step_append_run {P : Program} {w : World} {ops : Array Oper} {o : Oper} {a : Act} {K : Act → World → Prop} {Q : Exit → Act → World → Prop} {E : Prop} (hgd : o.guard = none) (s x : Operand) (t : TypeId)
    (ho : o.op = .call { callee := .builtin .append, args := #[s, x], argTypes := #[t, t] }) (v u r : Value) (w' : World) (hs : a.eval s = v) (hx : a.eval x = u)
    (hr : ∀ ty, (Builtin.append_ #[t, t] ty #[v, u]).run P w = .ok r w') (h : K (a.put o.dst r) w') : if Region.wanted o (yielded ops a.tmps) = true then Oper.wp P o a w K Q else E := by
  have hw : Region.wanted o (yielded ops a.tmps) = true := by simp [Region.wanted, hgd]
  rw [if_pos hw]
  have hrun := hr o.type
  unfold Oper.wp
  simp [execOp, ho, resolve, invoke, builtin, hs, hx, hrun, Result.andThen]
  exact h
theorem splice_end (A D X : List Value) : splice (A ++ D) A.length X = A ++ (X ++ D.drop X.length) := by
  rw [splice, List.take_append_of_le_length (Nat.le_refl _), List.take_length, ← List.drop_drop, List.drop_left]
  first | done | rfl | simp [List.append_assoc]
set_option maxHeartbeats 16000000 in
set_option maxRecDepth 100000 in
theorem delL_any (B g c i k : Nat) (l : List Ls) (w : World) (hown : OwnAt lsE w B 106 g c l) (hl : l.length ≤ 20) (hi : l.length = i + 1 + k) :
    Calls Tryz.prog 80 #[.slice (some ⟨g, 0, none⟩) l.length c, .int .i64 i, .int .i64 ((i : Int) + 1)] w fun e w' => e = .returned (.slice (some ⟨g, 0, none⟩) (i + k) c) ∧ OwnAt lsE w' B 106 g c (l.take i ++ l.drop (i + 1)) ∧ w.grownBy w' (some g) := by
  obtain ⟨i0, hi0, hz0, hz1, hz2⟩ := info_parts infoL3
  obtain ⟨r, hr, hlr⟩ := hown.row
  have hle := hown.le
  have hlr' : (rowOf lsE l ++ r).length = c * 5 := hlr
  have hRl : (rowOf lsE l).length = l.length * 5 := rowOf_len lsE l
  have hRi : (rowOf lsE (l.take i)).length = i * 5 := by rw [rowOf_len, List.length_take, Nat.min_eq_left (by omega)]; rfl
  have hRd : (rowOf lsE (l.drop (i + 1))).length = k * 5 := by rw [rowOf_len, List.length_drop, show l.length - (i + 1) = k by omega]; rfl
  obtain ⟨D, hD⟩ : ∃ D, D = (rowOf lsE l ++ r).drop (i * 5 + k * 5) := ⟨_, rfl⟩
  have hDl : D.length = c * 5 - (i * 5 + k * 5) := by rw [hD, List.length_drop, hlr']
  have hcur : (rowOf lsE l ++ r).take (i * 5) ++ rowOf lsE (l.drop (i + 1)) ++ (rowOf lsE l ++ r).drop (i * 5 + (rowOf lsE (l.drop (i + 1))).length) = rowOf lsE (l.take i ++ l.drop (i + 1)) ++ D := by
    rw [hRd, hD, List.take_append_of_le_length (by rw [hRl]; omega), show i * 5 = i * lsE.k from rfl, ← rowOf_take, rowOf_append]
  obtain ⟨W1, hW1⟩ : ∃ W1, W1 = w.drew.setRow g (rowOf lsE (l.take i ++ l.drop (i + 1)) ++ D).toArray := ⟨_, rfl⟩
  have hb1 : W1.heap[g]? = some (.cells (rowOf lsE (l.take i ++ l.drop (i + 1)) ++ D).toArray 106 (0, 0)) := by rw [hW1]; exact setRow_heap w.drew _ _ _ _ _ hr
  have hap : ∀ (ty : TypeId) (ad : Addr) (cx : Nat), (k = 0 ∨ ad = ⟨g, (i + 1) * 5, none⟩) → (Builtin.append_ #[53, 53] ty #[.slice (some ⟨g, 0, none⟩) i c, .slice (some ad) k cx]).run Tryz.prog w.drew = .ok (.slice (some ⟨g, 0, none⟩) (i + k) c) W1 := fun ty ad cx had => by
    have h := run_append_room (P := Tryz.prog) w.drew 53 ty 106 i0 Tryz.underlying53 hi0 g i c (rowOf lsE l ++ r).toArray hr ad k cx (rowOf lsE (l.drop (i + 1))) (by rw [hRd, hz1]) (by
      rcases had with h0 | rfl
      · intro j u hj
        have : (rowOf lsE (l.drop (i + 1))).length = 0 := by rw [hRd, h0]
        rw [List.length_eq_zero_iff.1 this] at hj
        simp at hj
      · have := (hown.lies.drop (i + 1)).news
        rw [show (0 : Nat) + (i + 1) * lsE.k = (i + 1) * 5 from by rw [Nat.zero_add]; rfl] at this
        exact this) (rowOf_one _ _) (by omega) (by rw [hz1, hRd]; simp only [List.size_toArray]; rw [hlr']; omega)
    rw [h, hW1, hz1]
    simp only [List.toList_toArray] at *
    rw [hcur]
  obtain ⟨vs, hvs⟩ : ∃ vs, vs = (Builtin.zeroCells (Value.agg #[.bool false, .int .u64 0, .int .u64 0, .string ⟨#[]⟩, .int .i64 0]).cells 1).toList := ⟨_, rfl⟩
  have hvl : vs.length = 5 := by rw [hvs, zero_len]; rfl
  obtain ⟨W2, hW2⟩ : ∃ W2, W2 = W1.setRow g (splice (rowOf lsE (l.take i ++ l.drop (i + 1)) ++ D) ((i + k) * 5) vs).toArray := ⟨_, rfl⟩
  have hNl : (rowOf lsE (l.take i ++ l.drop (i + 1))).length = (i + k) * 5 := by rw [rowOf_append, List.length_append, hRi, hRd]; omega
  have hcl : ∀ ty cx, (Builtin.clear_ #[53] ty #[.slice (some ⟨g, (i + k) * 5, none⟩) 1 cx]).run Tryz.prog W1 = .ok (.tuple #[]) W2 := fun ty cx => by
    have := run_clear_row (P := Tryz.prog) W1 53 106 ty _ Tryz.underlying53 zeroL g ((i + k) * 5) 1 cx (by omega) (rowOf lsE (l.take i ++ l.drop (i + 1)) ++ D).toArray 106 hb1 vs hvs (by rw [hvs]; exact zero_one _ _ (by intro u hu; simp [Value.cells] at hu; rcases hu with rfl | rfl | rfl | rfl | rfl <;> rfl)) (by rw [hvl]; simp only [List.size_toArray]; rw [List.length_append, hNl, hDl]; omega)
    rw [this, hW2]
  have HFin : Hid (OwnAt lsE W2 B 106 g c (l.take i ++ l.drop (i + 1)) ∧ w.grownBy W2 (some g)) := by
    have hsp : splice (rowOf lsE (l.take i ++ l.drop (i + 1)) ++ D) ((i + k) * 5) vs = rowOf lsE (l.take i ++ l.drop (i + 1)) ++ (vs ++ D.drop vs.length) := by
      rw [← hNl, splice_end]
    refine ⟨⟨hown.base, by simp; omega, hown.max, vs ++ D.drop vs.length, ?_, ?_⟩, ?_⟩
    · rw [hW2, hsp]; exact setRow_heap W1 _ _ _ _ _ hb1
    · show _ = c * 5
      rw [List.length_append, List.length_append, hNl, List.length_drop, hDl, hvl]; omega
    · rw [hW2, hW1]; exact (grown_drew (grown_row w.drew g _)).trans (grown_row _ g _)
  have hbi : (0 : Int) ≤ (i : Int) := by omega
  generalize hLd : l.take i ++ l.drop (i + 1) = L2 at *
  clear hr hlr hlr' hRl hRi hRd hD hDl hcur hW1 hb1 hvs hvl hW2 hNl hown hLd
  rw [hi] at hle ⊢
  have e1 : i + 1 + k - (i + 1) = k := by omega
  have e2 : i + 1 + k - (i + k) = 1 := by omega
  have e3 : (i : Int) + 1 ≤ ((i + 1 + k : Nat) : Int) := by omega
  have e4 : ((i : Int) == (i : Int) + 1) = false := by simp; omega
  have e5 : ¬ (i : Int) = (i : Int) + 1 := by omega
  have e6 : IntKind.i64.wrap ((i : Int) + 1) = (i : Int) + 1 := by rw [IntKind.wrap_i64]; omega
  have e7 : ((i : Int) + 1).toNat = i + 1 := by omega
  have e8 : (i : Int) ≤ (i : Int) + 1 := by omega
  have e9 : ((i + 1 + k : Nat) : Int) ≤ (c : Int) := by omega
  have f1 : i ≤ c := by omega
  have f1' : (i : Int) ≤ (c : Int) := by omega
  have f2 : (i : Int) + 1 ≤ (i : Int) + 1 + (k : Int) := by omega
  have f3 : (0 : Int) ≤ (i : Int) + 1 := by omega
  have f4 : i + 1 ≤ i + 1 + k := by omega
  have f5 : (i : Int) + 1 ≤ (c : Int) := by omega
  by_cases hc : c = i + 1
  · have hk0 : k = 0 := by omega
    subst hk0
    subst hc
    have hap1 : ∀ (ty : TypeId) (cx : Nat), (Builtin.append_ #[53, 53] ty #[.slice (some ⟨g, 0, none⟩) i (i + 1), .slice (some ⟨g, 0, none⟩) 0 cx]).run Tryz.prog w.drew = .ok (.slice (some ⟨g, 0, none⟩) i (i + 1)) W1 := fun ty cx => hap ty ⟨g, 0, none⟩ cx (.inl rfl)
    have hcl1 : ∀ ty cx, (Builtin.clear_ #[53] ty #[.slice (some ⟨g, i * 5, none⟩) 1 cx]).run Tryz.prog W1 = .ok (.tuple #[]) W2 := hcl
    clear hap hcl
    go_enter Tryz.func80, Tryz.ntmps80
    go_wp2_with fail
    go_region_law (refine step_append_run rfl (.tmp 22) (.tmp 25) 53 rfl (.slice (some ⟨g, 0, none⟩) i (i + 1)) (.slice (some ⟨g, 0, none⟩) 0 0) (.slice (some ⟨g, 0, none⟩) i (i + 1)) W1 (by simp [Act.eval, Act.put]) (by simp [Act.eval, Act.put]) (fun ty => hap1 ty 0) ?_)
    go_wp2_with fail
    go_ret
    exact ⟨rfl, HFin.out⟩
  · have hap2 : ∀ (ty : TypeId) (cx : Nat), (Builtin.append_ #[53, 53] ty #[.slice (some ⟨g, 0, none⟩) i c, .slice (some ⟨g, (i + 1) * 5, none⟩) k cx]).run Tryz.prog w.drew = .ok (.slice (some ⟨g, 0, none⟩) (i + k) c) W1 := fun ty cx => hap ty ⟨g, (i + 1) * 5, none⟩ cx (.inr rfl)
    have hck : ¬ c = i + k := by omega
    have e10 : ((i : Int) + (k : Int)) ≤ ((i + 1 + k : Nat) : Int) := by omega
    have e11 : (0 : Int) ≤ (i : Int) + (k : Int) := by omega
    clear hap
    go_enter Tryz.func80, Tryz.ntmps80
    go_wp2_with fail
    go_region_law (refine step_append_run rfl (.tmp 22) (.tmp 25) 53 rfl (.slice (some ⟨g, 0, none⟩) i c) (.slice (some ⟨g, (i + 1) * 5, none⟩) k (c - (i + 1))) (.slice (some ⟨g, 0, none⟩) (i + k) c) W1 (by simp [Act.eval, Act.put]) (by simp [Act.eval, Act.put]) (fun ty => hap2 ty _) ?_)
    go_wp2_with fail
    go_ret
    exact ⟨rfl, HFin.out⟩
end Go.Proofs.YtjainfehlbfiaaaGreat

namespace Go.Proofs.YtjainfehlbfiaaaGreat
open Go.RowKit

theorem OwnR.cell {w : World} {B : Nat} {vP vL : Value} {P : List Pl} {l : List Ls} (h : OwnR w B vP vL P l) {b : Nat} (h1 : vP.ownBlock ≠ some b) (h2 : vL.ownBlock ≠ some b) (h3 : ∀ x ∈ P, x.v.ownBlock ≠ some b) (j : Nat) (u : Value) : OwnR (w.setCell ⟨b, j, none⟩ u) B vP vL P l := ⟨own_cell h.pools j h1 u, own_cell h.leases j h2 u, fun x hx => own_cell (h.kept x hx) j (h3 x hx) u⟩
set_option maxHeartbeats 16000000 in
set_option maxRecDepth 100000 in
theorem dfree_none (db B : Nat) (a5 a6 : Option Addr) (c5 c6 : Nat) (P : List Pl) (l : List Ls) (now : Int) (who : ByteArray) (w : World) (hd : Blk w db 94 [.slice a5 P.length c5, .slice a6 l.length c6, .int .i64 now]) (hdB : B ≤ db) (ho : OwnS w B (.slice a5 P.length c5) (.slice a6 l.length c6) P l) (hl : l.length ≤ 20) (h0 : l.findIdx? (whoIs who) = none) :
    Calls Tryz.prog 54 #[.pointer (some ⟨db, 0, none⟩), .string who] w fun e w' => e = .returned (.tuple #[.agg #[.bool false, .int .u64 0, .int .u64 0], .int .i64 5]) ∧ Below w.heap.size w w' := by
  have hBw : B ≤ w.heap.size := Nat.le_trans hdB (Nat.le_of_lt hd.lt)
  have hlie : Lies lsE w a6 l := by obtain ⟨a', c', e, h1, h2, h3⟩ := own_open ho.leases; injection e with e1 e2 e3; rw [e1]; exact h2
  have HB0 := Lib.hid (bal (Below.refl w.heap.size w) (.cells #[.bool false, .int .u64 0, .int .u64 0] 29))
  have HX0 := Lib.hid (Blk.new w [.bool false, .int .u64 0, .int .u64 0] 29)
  have HD0 := Lib.hid (hd.below (bal (Below.refl w.heap.size w) (.cells #[.bool false, .int .u64 0, .int .u64 0] 29)))
  have hBy : Hid (∀ W : World, Calls Tryz.prog 66 #[.string who] W fun e w' => e = .returned (.func (.func 89) #[] #[.pointer (some ⟨W.heap.size, 0, none⟩)]) ∧ w' = W.alloc (.cells #[.string who] 9)) := fun W => by_ctor who W
  have hCon : Hid (∀ (q : Nat) (W : World), Below w.heap.size w W → Blk W q 9 [.string who] → Calls Tryz.prog 77 #[.slice a6 l.length c6, .func (.func 89) #[] #[.pointer (some ⟨q, 0, none⟩)]] W fun e w' => e = .returned (.int .i64 (idxI (l.findIdx? (whoIs who)))) ∧ Below W.heap.size W w') := fun q W hW hq => ifnBy a6 c6 l who q W (by omega) (hlie.below hW) hq
  rw [h0] at hCon
  rw [show (idxI (none : Option Nat)) = -1 from rfl] at hCon
  generalize P.length = PN at *
  generalize l.length = LN at *
  clear ho hd hlie h0
  have KB := Lib.hid (bal HB0.out (.cells #[.string who] 9)).drew
  have KW : Hid (Below (w.alloc (.cells #[.bool false, .int .u64 0, .int .u64 0] 29)).heap.size (w.alloc (.cells #[.bool false, .int .u64 0, .int .u64 0] 29)) ((w.alloc (.cells #[.bool false, .int .u64 0, .int .u64 0] 29)).alloc (.cells #[.string who] 9)).drew) := (bal (Below.refl _ _) _).drew
  have KV : Hid (Blk ((w.alloc (.cells #[.bool false, .int .u64 0, .int .u64 0] 29)).alloc (.cells #[.string who] 9)).drew (w.heap.size + 1) 9 [.string who]) := by
    have := Blk.new (w.alloc (.cells #[.bool false, .int .u64 0, .int .u64 0] 29)) [.string who] 9
    rw [show (w.alloc (.cells #[.bool false, .int .u64 0, .int .u64 0] 29)).heap.size = w.heap.size + 1 by simp] at this
    exact this
  obtain ⟨⟨p0, p1, p2⟩, -⟩ := HD0.out.three
  obtain ⟨⟨t0, t1, t2⟩, -⟩ := (HD0.out.below KW.out).three
  go_enter Tryz.func54, Tryz.ntmps54
  go_wp2_with fail
  go_cut [6] from 8 to 41 (fun v wc => v = .int .i64 (-1) ∧ Hid (Below (w.alloc (.cells #[.bool false, .int .u64 0, .int .u64 0] 29)).heap.size (w.alloc (.cells #[.bool false, .int .u64 0, .int .u64 0] 29)) wc))
  case first =>
    go_wp2_with fail
    go_region_with
      (first
        | (go_at_call 66; (refine (hBy.out _).mono ?_); rintro e wq ⟨rfl, rfl⟩)
        | (go_at_call 77; (refine (hCon.out _ _ KB.out KV.out).mono ?_); rintro e wz ⟨rfl, hbz⟩; have KZ := Lib.hid (btr KW.out hbz); clear hbz))
    all_goals go_wp2_with fail
    all_goals go_meet
    all_goals exact ⟨rfl, KZ⟩
  case rest =>
    obtain ⟨rfl, KC⟩ := hcut
    obtain ⟨w1, hw1⟩ : ∃ W, W = wc := ⟨_, rfl⟩
    subst hw1
    have HB1 := Lib.hid (btr HB0.out KC.out)
    have HX1 := Lib.hid (HX0.out.below KC.out)
    have HD1 := Lib.hid (HD0.out.below KC.out)
    clear KB KW KV KC HB0 HX0 HD0 hBy hCon p0 p1 p2 t0 t1 t2
    obtain ⟨⟨p0, p1, p2⟩, p3, p4, p5⟩ := HD1.out.three
    obtain ⟨⟨q0, q1, q2⟩, q3, q4, q5⟩ := HX1.out.three
    go_wp2_with fail
    refine bodyPost_ret (v := .tuple #[.agg #[.bool false, .int .u64 0, .int .u64 0], .int .i64 5]) ?_ rfl ⟨rfl, ?_⟩
    · simp [results, Tryz.results54, go_sem, q0, q1, q2]
    · (repeat' (first | exact HB1.out | with_reducible refine bse ?_ (by first | (simp; done) | (simp; omega) | (show _ ≤ _; omega)) _))
set_option maxHeartbeats 16000000 in
set_option maxRecDepth 100000 in
theorem dfree_ok (db B : Nat) (a5 a6 : Option Addr) (c5 c6 : Nat) (P : List Pl) (l : List Ls) (now : Int) (who : ByteArray) (w : World) (hd : Blk w db 94 [.slice a5 P.length c5, .slice a6 l.length c6, .int .i64 now]) (hdB : B ≤ db) (ho : OwnS w B (.slice a5 P.length c5) (.slice a6 l.length c6) P l) (hl : l.length ≤ 20) (n k : Nat) (hn : l.length = n + 1 + k) (hn' : n < l.length) (h0 : l.findIdx? (whoIs who) = some n) :
    Calls Tryz.prog 54 #[.pointer (some ⟨db, 0, none⟩), .string who] w fun e w' => e = .returned (.tuple #[.agg #[.bool l[n].a.v, .int .u64 l[n].a.hi, .int .u64 l[n].a.lo], .int .i64 0]) ∧ Blk w' db 94 [.slice a5 P.length c5, .slice a6 (n + k) c6, .int .i64 now] ∧ OwnR w' B (.slice a5 P.length c5) (.slice a6 (n + k) c6) P (l.take n ++ l.drop (n + 1)) ∧ Below B w w' ∧ Fr w w' db (.slice a5 P.length c5) (.slice a6 l.length c6) P := by
  have hBw : B ≤ w.heap.size := Nat.le_trans hdB (Nat.le_of_lt hd.lt)
  have hlie : Lies lsE w a6 l := by obtain ⟨a', c', e, h1, h2, h3⟩ := own_open ho.leases; injection e with e1 e2 e3; rw [e1]; exact h2
  have HB0 := Lib.hid (bal (Below.refl w.heap.size w) (.cells #[.bool false, .int .u64 0, .int .u64 0] 29))
  have HX0 := Lib.hid (Blk.new w [.bool false, .int .u64 0, .int .u64 0] 29)
  have HD0 := Lib.hid (hd.below (bal (Below.refl w.heap.size w) (.cells #[.bool false, .int .u64 0, .int .u64 0] 29)))
  have hBy : Hid (∀ W : World, Calls Tryz.prog 66 #[.string who] W fun e w' => e = .returned (.func (.func 89) #[] #[.pointer (some ⟨W.heap.size, 0, none⟩)]) ∧ w' = W.alloc (.cells #[.string who] 9)) := fun W => by_ctor who W
  have hCon : Hid (∀ (q : Nat) (W : World), Below w.heap.size w W → Blk W q 9 [.string who] → Calls Tryz.prog 77 #[.slice a6 l.length c6, .func (.func 89) #[] #[.pointer (some ⟨q, 0, none⟩)]] W fun e w' => e = .returned (.int .i64 (idxI (l.findIdx? (whoIs who)))) ∧ Below W.heap.size W w') := fun q W hW hq => ifnBy a6 c6 l who q W (by omega) (hlie.below hW) hq
  rw [h0] at hCon
  rw [show (idxI (some n)) = (n : Int) from rfl] at hCon
  obtain ⟨g, hga⟩ : ∃ g, a6 = some ⟨g, 0, none⟩ := by
    rcases own_form ho.leases with ⟨e, e2⟩ | ⟨g, c', e, _⟩
    · rw [e2] at hn'; exact absurd hn' (Nat.not_lt_zero _)
    · injection e with e1 e2 e3; exact ⟨g, e1⟩
  subst hga
  have HAt := Lib.hid (own_at ho.leases).2
  obtain ⟨g', o', hgo, hgw, y0, y1, y2, -⟩ := HAt.out.lies.ls n hn'
  obtain ⟨rfl, rfl⟩ : g = g' ∧ 0 = o' := by simpa using hgo
  rw [Nat.zero_add] at y0 y1 y2
  have HCc : Hid (∀ W : World, Below w.heap.size w W → W.cell? ⟨g, n * 5, none⟩ = some (.bool l[n].a.v) ∧ W.cell? ⟨g, n * 5 + 1, none⟩ = some (.int .u64 l[n].a.hi) ∧ W.cell? ⟨g, n * 5 + 2, none⟩ = some (.int .u64 l[n].a.lo)) := fun W hW => ⟨by rw [(bcell hW).1 _ _ hgw]; exact y0, by rw [(bcell hW).1 _ _ hgw]; exact y1, by rw [(bcell hW).1 _ _ hgw]; exact y2⟩
  have hDl : Hid (∀ W : World, Below w.heap.size w W → Calls Tryz.prog 80 #[.slice (some ⟨g, 0, none⟩) l.length c6, .int .i64 n, .int .i64 ((n : Int) + 1)] W fun e w' => e = .returned (.slice (some ⟨g, 0, none⟩) (n + k) c6) ∧ OwnAt lsE w' B 106 g c6 (l.take n ++ l.drop (n + 1)) ∧ W.grownBy w' (some g)) := fun W hW => delL_any B g c6 n k l W (HAt.out.keep hW) hl hn
  have hLL : (l.take n ++ l.drop (n + 1)).length = n + k := by rw [List.length_append, List.length_take, List.length_drop]; omega
  have hFin : Hid (∀ (W w3 : World), Below w.heap.size w W → Blk W db 94 [.slice a5 P.length c5, .slice (some ⟨g, 0, none⟩) l.length c6, .int .i64 now] → OwnAt lsE w3 B 106 g c6 (l.take n ++ l.drop (n + 1)) → W.grownBy w3 (some g) →
      (g ≠ db ∧ Blk w3 db 94 [.slice a5 P.length c5, .slice (some ⟨g, 0, none⟩) l.length c6, .int .i64 now]) ∧ (∀ b, b < W.heap.size → b ≠ g → w3.heap[b]? = W.heap[b]?) ∧ Blk (w3.setCell ⟨db, 1, none⟩ (.slice (some ⟨g, 0, none⟩) (n + k) c6)) db 94 [.slice a5 P.length c5, .slice (some ⟨g, 0, none⟩) (n + k) c6, .int .i64 now] ∧ (∀ u0 u1 u2 : Value, OwnR ((((w3.setCell ⟨db, 1, none⟩ (.slice (some ⟨g, 0, none⟩) (n + k) c6)).setCell ⟨w.heap.size, 0, none⟩ u0).setCell ⟨w.heap.size, 1, none⟩ u1).setCell ⟨w.heap.size, 2, none⟩ u2) B (.slice a5 P.length c5) (.slice (some ⟨g, 0, none⟩) (n + k) c6) P (l.take n ++ l.drop (n + 1))) ∧ Below B w (w3.setCell ⟨db, 1, none⟩ (.slice (some ⟨g, 0, none⟩) (n + k) c6)) ∧ Fr w (w3.setCell ⟨db, 1, none⟩ (.slice (some ⟨g, 0, none⟩) (n + k) c6)) db (.slice a5 P.length c5) (.slice (some ⟨g, 0, none⟩) l.length c6) P) := by
    intro W w3 hW hD h3 hgr
    have hgd : g ≠ db := fun e => own_ne_blk ho.leases hd (by decide) (by rw [e]; rfl)
    have hD3 : Blk w3 db 94 [.slice a5 P.length c5, .slice (some ⟨g, 0, none⟩) l.length c6, .int .i64 now] := (hgr.block db hD.lt (fun e => hgd (Option.some.inj e).symm)).trans hD
    have hP3 : w3.ownsRow B 87 plE.k (.slice a5 P.length c5) P.length (rowOf plE P) := (own_keep ho.pools hW).kept hgr (by
      cases h : (Value.slice a5 P.length c5).ownBlock with
      | none => exact .inl rfl
      | some b => exact .inr (fun e => ho.pl b h (by rw [e]; rfl)))
    have hf1 : (Value.slice a5 P.length c5).ownBlock ≠ some w.heap.size := fun e => by have := (ho.pools.lt _ e).2; omega
    have hf2 : (Value.slice (some (⟨g, 0, none⟩ : Addr)) (n + k) c6).ownBlock ≠ some w.heap.size := fun e => (by have h9 : g = w.heap.size := (by simpa [Value.ownBlock] using e); omega)
    have hf3 : ∀ x ∈ P, x.v.ownBlock ≠ some w.heap.size := fun x hx e => by have := ((ho.kept x hx).lt _ e).2; omega
    have hKn : ∀ x ∈ P, x.v.ownBlock ≠ some g := fun x hx e => (ho.pk x hx g e).2 rfl
    refine ⟨⟨hgd, hD3⟩, fun b hb hbg => hgr.block b hb (fun e => hbg (Option.some.inj e)), hD3.set 1 _, fun u0 u1 u2 => ?_, ?_, (Fr.grown hW hgr (.inr (.inl rfl))).set (.inl rfl) 1 _⟩
    · refine ((OwnR.cell ?_ hf1 hf2 hf3 0 u0).cell hf1 hf2 hf3 1 u1).cell hf1 hf2 hf3 2 u2
      refine ⟨own_cell hP3 1 (own_ne_blk hP3 hD3 (by decide)) _, ?_, fun x hx => ?_⟩
      · have := h3.own
        rw [hLL] at this ⊢
        exact own_cell this 1 (fun e => hgd (by simpa [Value.ownBlock] using e)) _
      · have := (own_keep (ho.kept x hx) hW).kept hgr (.inr (hKn x hx))
        exact own_cell this 1 (own_ne_blk this hD3 (by decide)) _
    · exact ((hW.mono hBw).grown hgr (Nat.le_trans hBw hW.size) (fun k hk => by obtain rfl := Option.some.inj hk; exact h3.base)).setCell (by exact hdB) _
  have hgB := HAt.out.base
  have hnz : (n : Int) < (l.length : Int) := by omega
  have hn0 : (0 : Int) ≤ (n : Int) := by omega
  have hw1 : IntKind.i64.wrap ((n : Int) + 1) = (n : Int) + 1 := by rw [IntKind.wrap_i64]; omega
  generalize hLd : l.take n ++ l.drop (n + 1) = L2 at *
  generalize l[n].a.v = x0 at *
  generalize l[n].a.hi = x1 at *
  generalize l[n].a.lo = x2 at *
  generalize P.length = PN at *
  generalize l.length = LN at *
  have Hdw := Lib.hid hd.lt
  have Hgw := Lib.hid hgw
  clear ho hd hlie h0 HAt y0 y1 y2 hgo hLd hLL hn hn' hl hgw hgB
  have KB := Lib.hid (bal HB0.out (.cells #[.string who] 9)).drew
  have KW : Hid (Below (w.alloc (.cells #[.bool false, .int .u64 0, .int .u64 0] 29)).heap.size (w.alloc (.cells #[.bool false, .int .u64 0, .int .u64 0] 29)) ((w.alloc (.cells #[.bool false, .int .u64 0, .int .u64 0] 29)).alloc (.cells #[.string who] 9)).drew) := (bal (Below.refl _ _) _).drew
  have KV : Hid (Blk ((w.alloc (.cells #[.bool false, .int .u64 0, .int .u64 0] 29)).alloc (.cells #[.string who] 9)).drew (w.heap.size + 1) 9 [.string who]) := by
    have := Blk.new (w.alloc (.cells #[.bool false, .int .u64 0, .int .u64 0] 29)) [.string who] 9
    rw [show (w.alloc (.cells #[.bool false, .int .u64 0, .int .u64 0] 29)).heap.size = w.heap.size + 1 by simp] at this
    exact this
  obtain ⟨⟨p0, p1, p2⟩, -⟩ := HD0.out.three
  obtain ⟨⟨t0, t1, t2⟩, -⟩ := (HD0.out.below KW.out).three
  go_enter Tryz.func54, Tryz.ntmps54
  go_wp2_with fail
  go_cut [6] from 8 to 41 (fun v wc => v = .int .i64 ((n : Int)) ∧ Hid (Below (w.alloc (.cells #[.bool false, .int .u64 0, .int .u64 0] 29)).heap.size (w.alloc (.cells #[.bool false, .int .u64 0, .int .u64 0] 29)) wc))
  case first =>
    go_wp2_with fail
    go_region_with
      (first
        | (go_at_call 66; (refine (hBy.out _).mono ?_); rintro e wq ⟨rfl, rfl⟩)
        | (go_at_call 77; (refine (hCon.out _ _ KB.out KV.out).mono ?_); rintro e wz ⟨rfl, hbz⟩; have KZ := Lib.hid (btr KW.out hbz); clear hbz))
    all_goals go_wp2_with fail
    all_goals go_meet
    all_goals exact ⟨rfl, KZ⟩
  case rest =>
    obtain ⟨rfl, KC⟩ := hcut
    obtain ⟨w1, hw1⟩ : ∃ W, W = wc := ⟨_, rfl⟩
    subst hw1
    have HB1 := Lib.hid (btr HB0.out KC.out)
    have HX1 := Lib.hid (HX0.out.below KC.out)
    have HD1 := Lib.hid (HD0.out.below KC.out)
    clear KB KW KV KC HB0 HX0 HD0 hBy hCon p0 p1 p2 t0 t1 t2
    obtain ⟨⟨p0, p1, p2⟩, p3, p4, p5⟩ := HD1.out.three
    obtain ⟨⟨q0, q1, q2⟩, q3, q4, q5⟩ := HX1.out.three
    obtain ⟨z0, z1, z2⟩ := HCc.out _ HB1.out
    have HBa := Lib.hid (bal HB1.out (.cells #[.bool x0, .int .u64 x1, .int .u64 x2] 29))
    have HAb : Hid (Blk (w1.alloc (.cells #[.bool x0, .int .u64 x1, .int .u64 x2] 29)) w1.heap.size 29 [.bool x0, .int .u64 x1, .int .u64 x2]) := Blk.new w1 _ _
    have HXa := Lib.hid (HX1.out.below (bal (Below.refl w1.heap.size w1) (.cells #[.bool x0, .int .u64 x1, .int .u64 x2] 29)))
    have HDa := Lib.hid (HD1.out.below (bal (Below.refl w1.heap.size w1) (.cells #[.bool x0, .int .u64 x1, .int .u64 x2] 29)))
    have hgw1 : g < w1.heap.size := Nat.lt_of_lt_of_le Hgw.out HB1.out.size
    have hgw := Hgw.out
    have hdw := Hdw.out
    have hz1 := HB1.out.size
    obtain ⟨⟨u0, u1, u2⟩, -⟩ := HDa.out.three
    go_wp2_with fail
    refine (hDl.out _ HBa.out).mono ?_
    rintro e w3 ⟨rfl, h3, hgr⟩
    have HF := Lib.hid (hFin.out _ _ HBa.out HDa.out h3 hgr)
    have hw3 := hgr.size
    have HX3 : Hid (Blk w3 w.heap.size 29 [.bool false, .int .u64 0, .int .u64 0]) := (HF.out.2.1 _ HXa.out.lt (by omega)).trans HXa.out
    have HA3 : Hid (Blk w3 w1.heap.size 29 [.bool x0, .int .u64 x1, .int .u64 x2]) := (HF.out.2.1 _ HAb.out.lt (by omega)).trans HAb.out
    obtain ⟨⟨v0, v1, v2⟩, v3, v4, v5⟩ := HF.out.1.2.three
    obtain ⟨⟨m0, m1, m2⟩, m3, m4, m5⟩ := HX3.out.three
    obtain ⟨⟨k0, k1, k2⟩, k3, k4, k5⟩ := HA3.out.three
    have hdw' : db ≠ w.heap.size := by omega
    have hdw1 : db ≠ w1.heap.size := by omega
    have hw01 : w.heap.size ≠ w1.heap.size := by have := HX1.out.lt; omega
    have hBlk := HF.out.2.2.1
    clear h3 hgr p0 p1 p2 p3 p4 p5 q0 q1 q2 q3 q4 q5 z0 z1 z2 u0 u1 u2 hDl hFin HCc
    go_wp2_with fail
    refine bodyPost_ret (v := .tuple #[.agg #[.bool x0, .int .u64 x1, .int .u64 x2], .int .i64 0]) ?_ rfl ⟨rfl, ?_, ?_, ?_, ?_⟩
    · simp [results, Tryz.results54, go_sem, m0, m1, m2, hdw', hdw1, hw01]
    · exact ((hBlk.other hdw' _).other hdw' _).other hdw' _
    · exact HF.out.2.2.2.1 _ _ _
    · exact ((HF.out.2.2.2.2.1.setCell (by show _ ≤ w.heap.size; exact hBw) _).setCell (by show _ ≤ w.heap.size; exact hBw) _).setCell (by show _ ≤ w.heap.size; exact hBw) _
    · exact ((HF.out.2.2.2.2.2.set (.inr (.inl (Nat.le_refl _))) 0 _).set (.inr (.inl (Nat.le_refl _))) 1 _).set (.inr (.inl (Nat.le_refl _))) 2 _
end Go.Proofs.YtjainfehlbfiaaaGreat
