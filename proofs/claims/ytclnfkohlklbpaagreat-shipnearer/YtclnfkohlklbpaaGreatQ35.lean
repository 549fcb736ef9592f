/- log.player.play. -/
import Derived.Test.YtclnfkohlklbpaaGreatQ31
import Derived.Test.YtclnfkohlklbpaaGreatQ05
import Derived.Deep.DeepMust
import Derived.Maps.AppendAt
import Derived.Deep.RegionLaw
set_option linter.unusedVariables false
set_option linter.unusedSimpArgs false
namespace Go.Proofs.YtclnfkohlklbpaaGreat
open Go.RowKit

theorem step_append_own_at {P : Program} {w : World} {ops : Array Oper} {o : Oper} {a : Act} {K : Act → World → Prop} {Q : Exit → Act → World → Prop} {E : Prop} (hgd : o.guard = none) (s x : Operand) (t : TypeId)
    (ho : o.op = .call { callee := .builtin .append, args := #[s, x], argTypes := #[t, t] })
    (base : Nat) (e : TypeId) (i : TypeInfo) (z : Value) (size bytes : Nat) (ht : P.underlying t = some (.slice e)) (hi : P.info? e = some i) (hz : i.zero = some z)
    (hsize : i.size = size) (hby : i.bytes = bytes) (hzs : z.cells.size = size) (hsz : 0 < size)
    (v : Value) (n : Nat) (xs : List Value) (hs : a.eval s = v) (hown : w.ownsRow base e size v n xs)
    (ad : Addr) (m c : Nat) (news : List Value) (hx : a.eval x = .slice (some ad) m c) (hl : news.length = m * size) (hnews : ∀ j u, news[j]? = some u → w.cell? (ad.add j) = some u) (h1 : ∀ u ∈ news, u.oneCell' = true)
    (h63 : n + m ≤ maxLen) (hbytes : (n + m) * bytes ≤ 140737488355328) (hbase : base ≤ w.heap.size)
    (h : ∀ v' w', w'.ownsRow base e size v' (n + m) (xs ++ news) → w.grownBy w' v.ownBlock → (v'.ownBlock = v.ownBlock ∨ v'.ownBlock = some w.heap.size) → K (a.put o.dst v') w') :
    if Region.wanted o (yielded ops a.tmps) = true then Oper.wp P o a w K Q else E := by
  have hw : Region.wanted o (yielded ops a.tmps) = true := by simp [Region.wanted, hgd]
  rw [if_pos hw]
  obtain ⟨v', w', hr, h2, h3, h4, h5⟩ := run_append_own_at (P := P) w base t o.type e i z size bytes ht hi hz hsize hby hzs hsz v n xs hown ad m c news hl hnews h1 h63 hbytes hbase
  unfold Oper.wp execOp
  simp only [ho, resolve, invoke, builtin, Sem.run_bind, Sem.run_pure, Result.andThen_ok, List.map_toArray, List.map_cons, List.map_nil, hs, hx, hr]
  exact h v' w' h2 h3 h5
/-- Who plays a log, at pb: the state S, what was told T; all rows at or behind B. -/
def Ply (W : World) (pb B : Nat) (S : Sta) (T : List Ad) : Prop := ∃ (a1 a2 a3 : Option Addr) (c1 c2 c3 : Nat) (P : List Pl), Blk W pb 61 [.slice a1 P.length c1, .slice a2 S.l.length c2, .int .i64 S.now, .slice a3 T.length c3] ∧ absP P = absP S.P ∧ OwnR W B (.slice a1 P.length c1) (.slice a2 S.l.length c2) P S.l ∧ W.ownsRow B 38 adE.k (.slice a3 T.length c3) T.length (rowOf adE T) ∧ ∀ x ∈ P, ∀ b, x.v.ownBlock = some b → (Value.slice a3 T.length c3).ownBlock ≠ some b
theorem news3 {W : World} {b t : Nat} {x0 x1 x2 : Value} (h : Blk W b t [x0, x1, x2]) : ∀ j u, [x0, x1, x2][j]? = some u → W.cell? ((⟨b, 0, none⟩ : Addr).add j) = some u := fun j u hu => by
  rw [add_addr, Nat.zero_add]
  exact h.cell j u hu
theorem Blk.set4 {w : World} {b t : Nat} {x0 x1 x2 x3 u0 u1 u2 : Value} (h : Blk w b t [x0, x1, x2, x3]) : Blk (((w.setCell ⟨b, 0, none⟩ u0).setCell ⟨b, 1, none⟩ u1).setCell ⟨b, 2, none⟩ u2) b t [u0, u1, u2, x3] := ((h.set 0 u0).set 1 u1).set 2 u2
def nextS (S : Sta) (o : Opd) : Sta := if (doAll S o).1 = 0 then (doAll S o).2.2 else S
theorem Blk.four' {w : World} {b t : Nat} {x0 x1 x2 x3 : Value} (h : Blk w b t [x0, x1, x2, x3]) : (w.cell? ⟨b, 0, none⟩ = some x0 ∧ w.cell? ⟨b, 1, none⟩ = some x1 ∧ w.cell? ⟨b, 2, none⟩ = some x2 ∧ w.cell? ⟨b, 3, none⟩ = some x3) ∧ w.frozen? ⟨b, 0, none⟩ = false ∧ w.frozen? ⟨b, 1, none⟩ = false ∧ w.frozen? ⟨b, 2, none⟩ = false ∧ w.frozen? ⟨b, 3, none⟩ = false := ⟨⟨h.cell 0 _ rfl, h.cell 1 _ rfl, h.cell 2 _ rfl, h.cell 3 _ rfl⟩, h.free 0, h.free 1, h.free 2, h.free 3⟩
set_option maxHeartbeats 32000000 in
set_option maxRecDepth 100000 in
theorem play_ok (w : World) (pb B TN : Nat) (a1 a2 a3 : Option Addr) (n1 c1 n2 c2 c3 : Nat) (now y0 : Int) (y1 : Bool) (y2 y3 y4 : Int) (y5 : Bool) (y6 y7 : Int) (y8 : ByteArray) (y9 y10 cd now' : Int) (ov : Bool) (oh ol : Int) (S' : Sta) (trow : List Value) (hcd : cd = 0) (hB : B ≤ w.heap.size) (hpB : pb < B) (hTN : TN ≤ 100)
    (hp : Blk w pb 61 [.slice a1 n1 c1, .slice a2 n2 c2, .int .i64 now, .slice a3 TN c3]) (ht : w.ownsRow B 38 adE.k (.slice a3 TN c3) TN trow)
    (hdo : ∀ W : World, Below w.heap.size w W → Calls Tryz.prog 25 #[.agg #[.slice a1 n1 c1, .slice a2 n2 c2, .int .i64 now], .agg #[.int .i64 y0, .bool y1, .int .u64 y2, .int .u64 y3, .int .i64 y4, .bool y5, .int .u64 y6, .int .u64 y7, .string y8, .int .i64 y9, .int .i64 y10]] W fun e w' => ∃ (a5 a6 : Option Addr) (n5 c5 n6 c6 : Nat), e = .returned (.tuple #[.agg #[.slice a5 n5 c5, .slice a6 n6 c6, .int .i64 now'], .agg #[.bool ov, .int .u64 oh, .int .u64 ol], .int .i64 cd]) ∧ Rd w' W.heap.size S' a5 n5 c5 a6 n6 c6 now' ∧ Below W.heap.size W w') :
    Calls Tryz.prog 22 #[.pointer (some ⟨pb, 0, none⟩), .agg #[.int .i64 y0, .bool y1, .int .u64 y2, .int .u64 y3, .int .i64 y4, .bool y5, .int .u64 y6, .int .u64 y7, .string y8, .int .i64 y9, .int .i64 y10]] w fun e w' => e = .returned (.tuple #[]) ∧ ∃ (w3 w5 : World) (a5 : Option Addr) (n5 c5 : Nat) (a6 : Option Addr) (n6 c6 : Nat) (a7 : Option Addr) (c7 : Nat), w' = w5.setCell ⟨pb, 3, none⟩ (.slice a7 (TN + 1) c7) ∧ Blk w5 pb 61 [.slice a5 n5 c5, .slice a6 n6 c6, .int .i64 now', .slice a3 TN c3] ∧ w5.ownsRow B 38 3 (.slice a7 (TN + 1) c7) (TN + 1) (trow ++ [.bool ov, .int .u64 oh, .int .u64 ol]) ∧ w3.grownBy w5 (Value.slice a3 TN c3).ownBlock ∧ ((Value.slice a7 (TN + 1) c7).ownBlock = (Value.slice a3 TN c3).ownBlock ∨ (Value.slice a7 (TN + 1) c7).ownBlock = some w3.heap.size) ∧ Rd w3 w.heap.size S' a5 n5 c5 a6 n6 c6 now' ∧ Below pb w w3 := by
  subst hcd
  have hlt := hp.lt
  have HB0 : Hid (Below w.heap.size w (w.alloc (.cells #[.int .i64 y0, .bool y1, .int .u64 y2, .int .u64 y3, .int .i64 y4, .bool y5, .int .u64 y6, .int .u64 y7, .string y8, .int .i64 y9, .int .i64 y10] 42))) := bal (Below.refl _ _) _
  have HP0 := Lib.hid (hp.below HB0.out)
  have HT0 := Lib.hid (own_keep ht HB0.out)
  have HO0 : Hid (Blk (w.alloc (.cells #[.int .i64 y0, .bool y1, .int .u64 y2, .int .u64 y3, .int .i64 y4, .bool y5, .int .u64 y6, .int .u64 y7, .string y8, .int .i64 y9, .int .i64 y10] 42)) w.heap.size 42 [.int .i64 y0, .bool y1, .int .u64 y2, .int .u64 y3, .int .i64 y4, .bool y5, .int .u64 y6, .int .u64 y7, .string y8, .int .i64 y9, .int .i64 y10]) := Blk.new w _ _
  have HDw := Lib.hid hdo
  have hsz : Hid ((w.alloc (.cells #[.int .i64 y0, .bool y1, .int .u64 y2, .int .u64 y3, .int .i64 y4, .bool y5, .int .u64 y6, .int .u64 y7, .string y8, .int .i64 y9, .int .i64 y10] 42)).heap.size = w.heap.size + 1) := by show _ = _; simp
  have HTl : Hid (∀ b, (Value.slice a3 TN c3).ownBlock = some b → b < w.heap.size) := fun b hb => (ht.lt b hb).2
  clear hdo hp ht
  go_enter Tryz.func22, Tryz.ntmps22
  go_wp2_with fail
  generalize hwo : w.alloc (.cells #[.int .i64 y0, .bool y1, .int .u64 y2, .int .u64 y3, .int .i64 y4, .bool y5, .int .u64 y6, .int .u64 y7, .string y8, .int .i64 y9, .int .i64 y10] 42) = wo at *
  clear hwo
  have HDo : Hid (∀ W : World, Below wo.heap.size wo W → Calls Tryz.prog 25 #[.agg #[.slice a1 n1 c1, .slice a2 n2 c2, .int .i64 now], .agg #[.int .i64 y0, .bool y1, .int .u64 y2, .int .u64 y3, .int .i64 y4, .bool y5, .int .u64 y6, .int .u64 y7, .string y8, .int .i64 y9, .int .i64 y10]] W fun e w' => ∃ (a5 a6 : Option Addr) (n5 c5 n6 c6 : Nat), e = .returned (.tuple #[.agg #[.slice a5 n5 c5, .slice a6 n6 c6, .int .i64 now'], .agg #[.bool ov, .int .u64 oh, .int .u64 ol], .int .i64 0]) ∧ Rd w' W.heap.size S' a5 n5 c5 a6 n6 c6 now' ∧ Below W.heap.size W w') := fun W hW => HDw.out W (btr HB0.out hW)
  have HSS : Hid (∀ W : World, Below wo.heap.size wo W → ((W.cell? ⟨pb, 0, none⟩ = some (.slice a1 n1 c1) ∧ W.cell? ⟨pb, 1, none⟩ = some (.slice a2 n2 c2) ∧ W.cell? ⟨pb, 2, none⟩ = some (.int .i64 now) ∧ W.cell? ⟨w.heap.size, 0, none⟩ = some (.int .i64 y0) ∧ W.cell? ⟨w.heap.size, 1, none⟩ = some (.bool y1) ∧ W.cell? ⟨w.heap.size, 2, none⟩ = some (.int .u64 y2) ∧ W.cell? ⟨w.heap.size, 3, none⟩ = some (.int .u64 y3) ∧ W.cell? ⟨w.heap.size, 4, none⟩ = some (.int .i64 y4) ∧ W.cell? ⟨w.heap.size, 5, none⟩ = some (.bool y5) ∧ W.cell? ⟨w.heap.size, 6, none⟩ = some (.int .u64 y6) ∧ W.cell? ⟨w.heap.size, 7, none⟩ = some (.int .u64 y7) ∧ W.cell? ⟨w.heap.size, 8, none⟩ = some (.string y8) ∧ W.cell? ⟨w.heap.size, 9, none⟩ = some (.int .i64 y9) ∧ W.cell? ⟨w.heap.size, 10, none⟩ = some (.int .i64 y10)) ∧ Below wo.heap.size wo W)) := fun W hW => ⟨⟨(HP0.out.below hW).cell 0 _ rfl, (HP0.out.below hW).cell 1 _ rfl, (HP0.out.below hW).cell 2 _ rfl, (HO0.out.below hW).cell 0 _ rfl, (HO0.out.below hW).cell 1 _ rfl, (HO0.out.below hW).cell 2 _ rfl, (HO0.out.below hW).cell 3 _ rfl, (HO0.out.below hW).cell 4 _ rfl, (HO0.out.below hW).cell 5 _ rfl, (HO0.out.below hW).cell 6 _ rfl, (HO0.out.below hW).cell 7 _ rfl, (HO0.out.below hW).cell 8 _ rfl, (HO0.out.below hW).cell 9 _ rfl, (HO0.out.below hW).cell 10 _ rfl⟩, hW⟩
  obtain ⟨s0, s1, s2, p0, p1, p2, p3, p4, p5, p6, p7, p8, p9, p10⟩ := (HSS.out wo (Below.refl _ _)).1
  go_cut [4, 5, 6] from 7 to 46 (fun v8 v9 v10 wc => ∃ (qS qA : Nat) (a5 : Option Addr) (n5 c5 : Nat) (a6 : Option Addr) (n6 c6 : Nat), v8 = .pointer (some ⟨qS, 0, none⟩) ∧ v9 = .pointer (some ⟨qA, 0, none⟩) ∧ v10 = .int .i64 0 ∧ Hid (Blk wc qS 48 [.slice a5 n5 c5, .slice a6 n6 c6, .int .i64 now'] ∧ Blk wc qA 38 [.bool ov, .int .u64 oh, .int .u64 ol] ∧ Rd wc wo.heap.size S' a5 n5 c5 a6 n6 c6 now' ∧ Below wo.heap.size wo wc ∧ wo.heap.size ≤ qS ∧ wo.heap.size ≤ qA))
  case first =>
    go_wp2_with fail
    go_region_held3 (fun w' => ((w'.cell? ⟨pb, 0, none⟩ = some (.slice a1 n1 c1) ∧ w'.cell? ⟨pb, 1, none⟩ = some (.slice a2 n2 c2) ∧ w'.cell? ⟨pb, 2, none⟩ = some (.int .i64 now) ∧ w'.cell? ⟨w.heap.size, 0, none⟩ = some (.int .i64 y0) ∧ w'.cell? ⟨w.heap.size, 1, none⟩ = some (.bool y1) ∧ w'.cell? ⟨w.heap.size, 2, none⟩ = some (.int .u64 y2) ∧ w'.cell? ⟨w.heap.size, 3, none⟩ = some (.int .u64 y3) ∧ w'.cell? ⟨w.heap.size, 4, none⟩ = some (.int .i64 y4) ∧ w'.cell? ⟨w.heap.size, 5, none⟩ = some (.bool y5) ∧ w'.cell? ⟨w.heap.size, 6, none⟩ = some (.int .u64 y6) ∧ w'.cell? ⟨w.heap.size, 7, none⟩ = some (.int .u64 y7) ∧ w'.cell? ⟨w.heap.size, 8, none⟩ = some (.string y8) ∧ w'.cell? ⟨w.heap.size, 9, none⟩ = some (.int .i64 y9) ∧ w'.cell? ⟨w.heap.size, 10, none⟩ = some (.int .i64 y10)) ∧ Below wo.heap.size wo w'))
      (first | with_reducible assumption | (refine HSS.out _ ?_; (repeat' (first | with_reducible exact HBz.out | with_reducible exact Below.refl _ _ | with_reducible refine Below.drew ?_ | with_reducible refine bal ?_ _ | with_reducible refine bse ?_ (by first | (simp; done) | (simp; omega)) _))))
      (first
        | (go_at_call 25; (refine (HDo.out wo.drew (Below.refl _ _).drew).mono ?_); rintro e wz ⟨a5, a6, n5, c5, n6, c6, rfl, hR, hbz⟩; have HRz := Lib.hid hR; have HBz : Hid (Below wo.heap.size wo wz) := btr (Below.refl _ _).drew hbz; have hzs := HBz.out.size; have hzp := hbz.size; (try simp at hzp); clear hR hbz)
        | (go_at_call 25; (refine (HDo.out (wo.alloc (.cells #[.slice none 0 0, .slice none 0 0, .int .i64 0] 48)).drew ((bal (Below.refl _ _) (.cells #[.slice none 0 0, .slice none 0 0, .int .i64 0] 48))).drew).mono ?_); rintro e wz ⟨a5, a6, n5, c5, n6, c6, rfl, hR, hbz⟩; have HRz := Lib.hid hR; have HBz : Hid (Below wo.heap.size wo wz) := btr ((bal (Below.refl _ _) (.cells #[.slice none 0 0, .slice none 0 0, .int .i64 0] 48))).drew hbz; have hzs := HBz.out.size; have hzp := hbz.size; (try simp at hzp); have KA : Hid (Blk wz wo.heap.size 48 [.slice none 0 0, .slice none 0 0, .int .i64 0]) := (Blk.new wo [.slice none 0 0, .slice none 0 0, .int .i64 0] 48).dr.below hbz; have KC : Hid (Blk (wz.alloc (.cells #[.bool false, .int .u64 0, .int .u64 0] 38)) wo.heap.size 48 [.slice none 0 0, .slice none 0 0, .int .i64 0]) := KA.out.al _; obtain ⟨⟨ka0, ka1, ka2⟩, ka3, ka4, ka5⟩ := KA.out.three; obtain ⟨⟨kc0, kc1, kc2⟩, kc3, kc4, kc5⟩ := KC.out.three; have hz1 : ¬ wo.heap.size = wz.heap.size := (by have := hbz.size; simp at this; omega); have hz2 : ¬ wz.heap.size = wo.heap.size := (fun e => hz1 e.symm); clear hR hbz)
        | (go_at_call 25; (refine (HDo.out (wo.alloc (.cells #[.bool false, .int .u64 0, .int .u64 0] 38)).drew ((bal (Below.refl _ _) (.cells #[.bool false, .int .u64 0, .int .u64 0] 38))).drew).mono ?_); rintro e wz ⟨a5, a6, n5, c5, n6, c6, rfl, hR, hbz⟩; have HRz := Lib.hid hR; have HBz : Hid (Below wo.heap.size wo wz) := btr ((bal (Below.refl _ _) (.cells #[.bool false, .int .u64 0, .int .u64 0] 38))).drew hbz; have hzs := HBz.out.size; have hzp := hbz.size; (try simp at hzp); have KB : Hid (Blk wz wo.heap.size 38 [.bool false, .int .u64 0, .int .u64 0]) := (Blk.new wo [.bool false, .int .u64 0, .int .u64 0] 38).dr.below hbz; have KC : Hid (Blk (wz.alloc (.cells #[.slice none 0 0, .slice none 0 0, .int .i64 0] 48)) wo.heap.size 38 [.bool false, .int .u64 0, .int .u64 0]) := KB.out.al _; have KD : Hid (Blk (wz.alloc (.cells #[.slice a5 n5 c5, .slice a6 n6 c6, .int .i64 now'] 48)) wo.heap.size 38 [.bool false, .int .u64 0, .int .u64 0]) := KB.out.al _; obtain ⟨⟨kb0, kb1, kb2⟩, kb3, kb4, kb5⟩ := KB.out.three; obtain ⟨⟨kc0, kc1, kc2⟩, kc3, kc4, kc5⟩ := KC.out.three; obtain ⟨⟨kd0, kd1, kd2⟩, kd3, kd4, kd5⟩ := KD.out.three; have hz1 : ¬ wo.heap.size = wz.heap.size := (by have := hbz.size; simp at this; omega); have hz2 : ¬ wz.heap.size = wo.heap.size := (fun e => hz1 e.symm); clear hR hbz)
        | (go_at_call 25; (refine (HDo.out ((wo.alloc (.cells #[.slice none 0 0, .slice none 0 0, .int .i64 0] 48)).alloc (.cells #[.bool false, .int .u64 0, .int .u64 0] 38)).drew ((bal (bal (Below.refl _ _) (.cells #[.slice none 0 0, .slice none 0 0, .int .i64 0] 48)) (.cells #[.bool false, .int .u64 0, .int .u64 0] 38))).drew).mono ?_); rintro e wz ⟨a5, a6, n5, c5, n6, c6, rfl, hR, hbz⟩; have HRz := Lib.hid hR; have HBz : Hid (Below wo.heap.size wo wz) := btr ((bal (bal (Below.refl _ _) (.cells #[.slice none 0 0, .slice none 0 0, .int .i64 0] 48)) (.cells #[.bool false, .int .u64 0, .int .u64 0] 38))).drew hbz; have hzs := HBz.out.size; have hzp := hbz.size; (try simp at hzp); have KA : Hid (Blk wz wo.heap.size 48 [.slice none 0 0, .slice none 0 0, .int .i64 0]) := ((Blk.new wo [.slice none 0 0, .slice none 0 0, .int .i64 0] 48).al _).dr.below hbz; have KB : Hid (Blk wz (wo.heap.size + 1) 38 [.bool false, .int .u64 0, .int .u64 0]) := ((blk_new1 wo (.cells #[.slice none 0 0, .slice none 0 0, .int .i64 0] 48) [.bool false, .int .u64 0, .int .u64 0] 38)).dr.below hbz; obtain ⟨⟨ka0, ka1, ka2⟩, ka3, ka4, ka5⟩ := KA.out.three; obtain ⟨⟨kb0, kb1, kb2⟩, kb3, kb4, kb5⟩ := KB.out.three; have hz1 : ¬ wo.heap.size = wz.heap.size := (by have := hbz.size; simp at this; omega); have hz2 : ¬ wz.heap.size = wo.heap.size := (fun e => hz1 e.symm); clear hR hbz)
        | (go_at_call 25; (refine (HDo.out ((wo.alloc (.cells #[.bool false, .int .u64 0, .int .u64 0] 38)).alloc (.cells #[.slice none 0 0, .slice none 0 0, .int .i64 0] 48)).drew ((bal (bal (Below.refl _ _) (.cells #[.bool false, .int .u64 0, .int .u64 0] 38)) (.cells #[.slice none 0 0, .slice none 0 0, .int .i64 0] 48))).drew).mono ?_); rintro e wz ⟨a5, a6, n5, c5, n6, c6, rfl, hR, hbz⟩; have HRz := Lib.hid hR; have HBz : Hid (Below wo.heap.size wo wz) := btr ((bal (bal (Below.refl _ _) (.cells #[.bool false, .int .u64 0, .int .u64 0] 38)) (.cells #[.slice none 0 0, .slice none 0 0, .int .i64 0] 48))).drew hbz; have hzs := HBz.out.size; have hzp := hbz.size; (try simp at hzp); have KB : Hid (Blk wz wo.heap.size 38 [.bool false, .int .u64 0, .int .u64 0]) := ((Blk.new wo [.bool false, .int .u64 0, .int .u64 0] 38).al _).dr.below hbz; have KA : Hid (Blk wz (wo.heap.size + 1) 48 [.slice none 0 0, .slice none 0 0, .int .i64 0]) := ((blk_new1 wo (.cells #[.bool false, .int .u64 0, .int .u64 0] 38) [.slice none 0 0, .slice none 0 0, .int .i64 0] 48)).dr.below hbz; obtain ⟨⟨kb0, kb1, kb2⟩, kb3, kb4, kb5⟩ := KB.out.three; obtain ⟨⟨ka0, ka1, ka2⟩, ka3, ka4, ka5⟩ := KA.out.three; have hz1 : ¬ wo.heap.size = wz.heap.size := (by have := hbz.size; simp at this; omega); have hz2 : ¬ wz.heap.size = wo.heap.size := (fun e => hz1 e.symm); clear hR hbz))
    all_goals go_wp2_with fail
    all_goals go_meet
    all_goals refine ⟨_, _, a5, n5, c5, a6, n6, c6, rfl, rfl, rfl, ?_, ?_, ?_, ?_, ?_, ?_⟩
    all_goals (first | (show Blk _ _ _ _; (repeat' (first | with_reducible exact Blk.new _ _ _ | with_reducible exact blk_new1 _ _ _ _ | with_reducible exact Blk3.of KA.out | with_reducible exact Blk3.of KB.out | with_reducible exact Blk3.of (Blk.new _ _ _) | with_reducible exact Blk3.of (blk_new1 _ _ _ _) | with_reducible refine Blk.put3 ?_ | with_reducible refine Blk.off3 ?_ (by first | exact hz1 | exact hz2 | (simp; done) | (simp; omega) | omega) | with_reducible refine Blk.al ?_ _ | with_reducible refine Blk3.off3 ?_ (by first | exact hz1 | exact hz2 | (simp; done) | (simp; omega) | omega) | with_reducible refine Blk3.al ?_ _)); done) | (show Rd _ _ _ _ _ _ _ _ _ _; (refine Rd.base (Rd.btw HRz.out ?_) (by first | exact Nat.le_refl _ | (simp; done) | (simp; omega)); (repeat' (first | with_reducible exact Btw.refl _ _ | with_reducible refine Btw.alloc ?_ _ | with_reducible refine Btw.set ?_ (by first | (left; simp; done) | (left; simp; omega) | (right; simp; done) | (right; simp; omega)) _))); done) | (show Below _ _ _; (repeat' (first | with_reducible exact HBz.out | with_reducible refine bal ?_ _ | with_reducible refine bse ?_ (by have := HBz.out.size; first | (simp; done) | (simp; omega)) _)); done) | (have := HBz.out.size; simp; done) | (have := HBz.out.size; simp; omega) | omega)
  case rest =>
    obtain ⟨qS, qA, a5, n5, c5, a6, n6, c6, rfl, rfl, rfl, hK⟩ := hcut
    obtain ⟨w2, hw2⟩ : ∃ W, W = wc := ⟨_, rfl⟩
    subst hw2
    have hb2 := hK.out.2.2.2.1
    have HP2 := Lib.hid (HP0.out.below hb2)
    have HT2 := Lib.hid (own_keep HT0.out hb2)
    have HB2 := Lib.hid (btr HB0.out hb2)
    have HX2 := Lib.hid hK.out.1
    have HY2 := Lib.hid hK.out.2.1
    have HR2 := Lib.hid (hK.out.2.2.1.base (show w.heap.size ≤ wo.heap.size by have := hsz.out; omega))
    have l2 := hK.out.2.2.2.2.1
    have l3 := hK.out.2.2.2.2.2
    have l4 := HY2.out.lt
    have l5 := HB2.out.size
    have l6 := Lib.hid (show w.heap.size < qS ∧ w.heap.size < qA by have := hsz.out; omega)
    clear hb2 hK HP0 HT0 HO0 HSS HDo HDw s0 s1 s2 p0 p1 p2 p3 p4 p5 p6 p7 p8 p9 p10
    obtain ⟨⟨s0, s1, s2, s3⟩, s4, s5, s6, s7⟩ := HP2.out.four'
    obtain ⟨⟨x0, x1, x2⟩, x3, x4, x5⟩ := HX2.out.three
    obtain ⟨⟨y0', y1', y2'⟩, y3', y4', y5'⟩ := HY2.out.three
    go_wp2_with fail
    go_region
    go_wp2_with fail
    have hpq : qA ≠ pb := by have := l6.out; omega
    have hpw : pb < w.heap.size := hlt
    have HP3 : Hid (Blk (((w2.setCell ⟨pb, 0, none⟩ (.slice a5 n5 c5)).setCell ⟨pb, 1, none⟩ (.slice a6 n6 c6)).setCell ⟨pb, 2, none⟩ (.int .i64 now')).drew pb 61 [.slice a5 n5 c5, .slice a6 n6 c6, .int .i64 now', .slice a3 TN c3]) := Blk.dr (Blk.set4 HP2.out)
    have HY3 : Hid (Blk (((w2.setCell ⟨pb, 0, none⟩ (.slice a5 n5 c5)).setCell ⟨pb, 1, none⟩ (.slice a6 n6 c6)).setCell ⟨pb, 2, none⟩ (.int .i64 now')).drew qA 38 [.bool ov, .int .u64 oh, .int .u64 ol]) := Blk.dr (Blk.off3 HY2.out hpq)
    have HT3 : Hid ((((w2.setCell ⟨pb, 0, none⟩ (.slice a5 n5 c5)).setCell ⟨pb, 1, none⟩ (.slice a6 n6 c6)).setCell ⟨pb, 2, none⟩ (.int .i64 now')).drew.ownsRow B 38 3 (.slice a3 TN c3) TN trow) := own_keep (own_st (own_st (own_st HT2.out hpB _) hpB _) hpB _) (Below.refl _ _).drew
    have HR3 : Hid (Rd (((w2.setCell ⟨pb, 0, none⟩ (.slice a5 n5 c5)).setCell ⟨pb, 1, none⟩ (.slice a6 n6 c6)).setCell ⟨pb, 2, none⟩ (.int .i64 now')).drew w.heap.size S' a5 n5 c5 a6 n6 c6 now') := Rd.keep (Rd.st3 HR2.out hpw _ _ _) (Below.refl _ _).drew
    have HB3 : Hid (Below pb w (((w2.setCell ⟨pb, 0, none⟩ (.slice a5 n5 c5)).setCell ⟨pb, 1, none⟩ (.slice a6 n6 c6)).setCell ⟨pb, 2, none⟩ (.int .i64 now')).drew) := Below.drew (Below.setCell (Below.setCell (Below.setCell (HB2.out.mono (Nat.le_of_lt hpw)) (Nat.le_refl _) _) (Nat.le_refl _) _) (Nat.le_refl _) _)
    clear s0 s1 s2 s3 s4 s5 s6 s7 x0 x1 x2 x3 x4 x5 y0' y1' y2' y3' y4' y5' HP2 HT2 HX2 HY2 HR2 HB2
    obtain ⟨w3, hw3⟩ : ∃ W, W = (((w2.setCell ⟨pb, 0, none⟩ (.slice a5 n5 c5)).setCell ⟨pb, 1, none⟩ (.slice a6 n6 c6)).setCell ⟨pb, 2, none⟩ (.int .i64 now')).drew := ⟨_, rfl⟩
    rw [← hw3] at HP3 HY3 HT3 HR3 HB3 ⊢
    clear hw3
    obtain ⟨i0, hi0, hz0, hz1, hz2⟩ := info_parts infoAd
    have HTW : Hid (∀ W : World, Below w3.heap.size w3 W → W.ownsRow B 38 3 (.slice a3 TN c3) TN trow) := fun W hW => own_keep HT3.out hW
    have HPW : Hid (∀ W : World, Below w3.heap.size w3 W → Blk W pb 61 [.slice a5 n5 c5, .slice a6 n6 c6, .int .i64 now', .slice a3 TN c3]) := fun W hW => HP3.out.below hW
    have hB3 := HB3.out.size
    have hpne : Hid (∀ b, (Value.slice a3 TN c3).ownBlock = some b → b ≠ pb) := fun b hb e => by have := (HT3.out.lt b hb).1; omega
    have HR1 : Hid (∀ u ∈ [Value.bool ov, .int .u64 oh, .int .u64 ol], u.oneCell' = true) := fun u hu => by simp at hu; rcases hu with rfl | rfl | rfl <;> rfl
    obtain ⟨⟨t0, t1, t2, t3⟩, t4, t5, t6, t7⟩ := HP3.out.four'
    obtain ⟨⟨k0, k1, k2⟩, -⟩ := HY3.out.three
    have KW : Hid (Below w3.heap.size w3 (w3.alloc (.cells #[.bool ov, .int .u64 oh, .int .u64 ol] 38)).drew) := (bal (Below.refl _ _) _).drew
    have HNw : Hid (∀ j u, [Value.bool ov, .int .u64 oh, .int .u64 ol][j]? = some u → (w3.alloc (.cells #[.bool ov, .int .u64 oh, .int .u64 ol] 38)).drew.cell? ((⟨w3.heap.size, 0, none⟩ : Addr).add j) = some u) := news3 (Blk.new w3 [.bool ov, .int .u64 oh, .int .u64 ol] 38).dr
    have HTX := Lib.hid (HTW.out _ KW.out)
    have hBW : B ≤ (w3.alloc (.cells #[.bool ov, .int .u64 oh, .int .u64 ol] 38)).drew.heap.size := Nat.le_trans (by omega) KW.out.size
    obtain ⟨⟨-, -, -, t8⟩, -⟩ := (HP3.out.al (.cells #[.bool ov, .int .u64 oh, .int .u64 ol] 38)).four'
    obtain ⟨⟨k3, k4, k5⟩, -⟩ := (HY3.out.al (.cells #[.bool ov, .int .u64 oh, .int .u64 ol] 38)).three
    go_region_law (refine at_wld (w3.alloc (.cells #[.bool ov, .int .u64 oh, .int .u64 ol] 38)).drew (by with_reducible rfl) ?_; go_must (refine step_append_own_at rfl (.tmp 41) (.tmp 43) 49 rfl B 38 i0 _ 3 24 Tryz.underlying49 hi0 hz0 hz1 hz2 rfl (by decide) (.slice a3 TN c3) TN trow (by simp [Act.eval, Act.put]) HTX.out ⟨w3.heap.size, 0, none⟩ 1 1 [.bool ov, .int .u64 oh, .int .u64 ol] (by simp [Act.eval, Act.put]) rfl HNw.out HR1.out (by unfold maxLen; omega) (by omega) hBW ?_; intro v' w5 ho hg hat; obtain ⟨a7, c7, rfl⟩ := own_slice ho; have HP5 : Hid (Blk w5 pb 61 [.slice a5 n5 c5, .slice a6 n6 c6, .int .i64 now', .slice a3 TN c3]) := (hg.block pb (HPW.out _ KW.out).lt (fun e => hpne.out pb e.symm rfl)).trans (HPW.out _ KW.out); have HO5 := Lib.hid ho; have HG5 := Lib.hid hg; have HA5 := Lib.hid hat; clear ho hg hat; obtain ⟨⟨v0, v1, v2, v3⟩, v4, v5, v6, v7⟩ := HP5.out.four'))
    all_goals go_wp2_with fail
    all_goals refine bodyPost_end (v := .tuple #[]) (by simp [results, Tryz.results22, go_sem]) rfl ?_
    all_goals exact ⟨rfl, (w3.alloc (.cells #[.bool ov, .int .u64 oh, .int .u64 ol] 38)).drew, w5, a5, n5, c5, a6, n6, c6, a7, c7, rfl, HP5.out, HO5.out, HG5.out, HA5.out, (HR3.out.keep KW.out), HB3.out.trans (below_le KW.out (Nat.le_trans (Nat.le_of_lt hlt) HB3.out.size))⟩
set_option maxHeartbeats 32000000 in
set_option maxRecDepth 100000 in
theorem play_bad (w : World) (pb B TN : Nat) (a1 a2 a3 : Option Addr) (n1 c1 n2 c2 c3 : Nat) (now y0 : Int) (y1 : Bool) (y2 y3 y4 : Int) (y5 : Bool) (y6 y7 : Int) (y8 : ByteArray) (y9 y10 cd now' : Int) (ov : Bool) (oh ol : Int) (S' : Sta) (trow : List Value) (hcd : ¬ cd = 0) (hB : B ≤ w.heap.size) (hpB : pb < B) (hTN : TN ≤ 100)
    (hp : Blk w pb 61 [.slice a1 n1 c1, .slice a2 n2 c2, .int .i64 now, .slice a3 TN c3]) (ht : w.ownsRow B 38 adE.k (.slice a3 TN c3) TN trow)
    (hdo : ∀ W : World, Below w.heap.size w W → Calls Tryz.prog 25 #[.agg #[.slice a1 n1 c1, .slice a2 n2 c2, .int .i64 now], .agg #[.int .i64 y0, .bool y1, .int .u64 y2, .int .u64 y3, .int .i64 y4, .bool y5, .int .u64 y6, .int .u64 y7, .string y8, .int .i64 y9, .int .i64 y10]] W fun e w' => ∃ (a5 a6 : Option Addr) (n5 c5 n6 c6 : Nat), e = .returned (.tuple #[.agg #[.slice a5 n5 c5, .slice a6 n6 c6, .int .i64 now'], .agg #[.bool ov, .int .u64 oh, .int .u64 ol], .int .i64 cd]) ∧ Rd w' W.heap.size S' a5 n5 c5 a6 n6 c6 now' ∧ Below W.heap.size W w') :
    Calls Tryz.prog 22 #[.pointer (some ⟨pb, 0, none⟩), .agg #[.int .i64 y0, .bool y1, .int .u64 y2, .int .u64 y3, .int .i64 y4, .bool y5, .int .u64 y6, .int .u64 y7, .string y8, .int .i64 y9, .int .i64 y10]] w fun e w' => e = .returned (.tuple #[]) ∧ ∃ (w3 w5 : World) (a7 : Option Addr) (c7 : Nat), w' = w5.setCell ⟨pb, 3, none⟩ (.slice a7 (TN + 1) c7) ∧ Blk w5 pb 61 [.slice a1 n1 c1, .slice a2 n2 c2, .int .i64 now, .slice a3 TN c3] ∧ w5.ownsRow B 38 3 (.slice a7 (TN + 1) c7) (TN + 1) (trow ++ [.bool ov, .int .u64 oh, .int .u64 ol]) ∧ w3.grownBy w5 (Value.slice a3 TN c3).ownBlock ∧ ((Value.slice a7 (TN + 1) c7).ownBlock = (Value.slice a3 TN c3).ownBlock ∨ (Value.slice a7 (TN + 1) c7).ownBlock = some w3.heap.size) ∧ Below w.heap.size w w3 := by
  have hlt := hp.lt
  have HB0 : Hid (Below w.heap.size w (w.alloc (.cells #[.int .i64 y0, .bool y1, .int .u64 y2, .int .u64 y3, .int .i64 y4, .bool y5, .int .u64 y6, .int .u64 y7, .string y8, .int .i64 y9, .int .i64 y10] 42))) := bal (Below.refl _ _) _
  have HP0 := Lib.hid (hp.below HB0.out)
  have HT0 := Lib.hid (own_keep ht HB0.out)
  have HO0 : Hid (Blk (w.alloc (.cells #[.int .i64 y0, .bool y1, .int .u64 y2, .int .u64 y3, .int .i64 y4, .bool y5, .int .u64 y6, .int .u64 y7, .string y8, .int .i64 y9, .int .i64 y10] 42)) w.heap.size 42 [.int .i64 y0, .bool y1, .int .u64 y2, .int .u64 y3, .int .i64 y4, .bool y5, .int .u64 y6, .int .u64 y7, .string y8, .int .i64 y9, .int .i64 y10]) := Blk.new w _ _
  have HDw := Lib.hid hdo
  have hsz : Hid ((w.alloc (.cells #[.int .i64 y0, .bool y1, .int .u64 y2, .int .u64 y3, .int .i64 y4, .bool y5, .int .u64 y6, .int .u64 y7, .string y8, .int .i64 y9, .int .i64 y10] 42)).heap.size = w.heap.size + 1) := by show _ = _; simp
  have HTl : Hid (∀ b, (Value.slice a3 TN c3).ownBlock = some b → b < w.heap.size) := fun b hb => (ht.lt b hb).2
  clear hdo hp ht
  go_enter Tryz.func22, Tryz.ntmps22
  go_wp2_with fail
  generalize hwo : w.alloc (.cells #[.int .i64 y0, .bool y1, .int .u64 y2, .int .u64 y3, .int .i64 y4, .bool y5, .int .u64 y6, .int .u64 y7, .string y8, .int .i64 y9, .int .i64 y10] 42) = wo at *
  clear hwo
  have HDo : Hid (∀ W : World, Below wo.heap.size wo W → Calls Tryz.prog 25 #[.agg #[.slice a1 n1 c1, .slice a2 n2 c2, .int .i64 now], .agg #[.int .i64 y0, .bool y1, .int .u64 y2, .int .u64 y3, .int .i64 y4, .bool y5, .int .u64 y6, .int .u64 y7, .string y8, .int .i64 y9, .int .i64 y10]] W fun e w' => ∃ (a5 a6 : Option Addr) (n5 c5 n6 c6 : Nat), e = .returned (.tuple #[.agg #[.slice a5 n5 c5, .slice a6 n6 c6, .int .i64 now'], .agg #[.bool ov, .int .u64 oh, .int .u64 ol], .int .i64 cd]) ∧ Rd w' W.heap.size S' a5 n5 c5 a6 n6 c6 now' ∧ Below W.heap.size W w') := fun W hW => HDw.out W (btr HB0.out hW)
  have HSS : Hid (∀ W : World, Below wo.heap.size wo W → ((W.cell? ⟨pb, 0, none⟩ = some (.slice a1 n1 c1) ∧ W.cell? ⟨pb, 1, none⟩ = some (.slice a2 n2 c2) ∧ W.cell? ⟨pb, 2, none⟩ = some (.int .i64 now) ∧ W.cell? ⟨w.heap.size, 0, none⟩ = some (.int .i64 y0) ∧ W.cell? ⟨w.heap.size, 1, none⟩ = some (.bool y1) ∧ W.cell? ⟨w.heap.size, 2, none⟩ = some (.int .u64 y2) ∧ W.cell? ⟨w.heap.size, 3, none⟩ = some (.int .u64 y3) ∧ W.cell? ⟨w.heap.size, 4, none⟩ = some (.int .i64 y4) ∧ W.cell? ⟨w.heap.size, 5, none⟩ = some (.bool y5) ∧ W.cell? ⟨w.heap.size, 6, none⟩ = some (.int .u64 y6) ∧ W.cell? ⟨w.heap.size, 7, none⟩ = some (.int .u64 y7) ∧ W.cell? ⟨w.heap.size, 8, none⟩ = some (.string y8) ∧ W.cell? ⟨w.heap.size, 9, none⟩ = some (.int .i64 y9) ∧ W.cell? ⟨w.heap.size, 10, none⟩ = some (.int .i64 y10)) ∧ Below wo.heap.size wo W)) := fun W hW => ⟨⟨(HP0.out.below hW).cell 0 _ rfl, (HP0.out.below hW).cell 1 _ rfl, (HP0.out.below hW).cell 2 _ rfl, (HO0.out.below hW).cell 0 _ rfl, (HO0.out.below hW).cell 1 _ rfl, (HO0.out.below hW).cell 2 _ rfl, (HO0.out.below hW).cell 3 _ rfl, (HO0.out.below hW).cell 4 _ rfl, (HO0.out.below hW).cell 5 _ rfl, (HO0.out.below hW).cell 6 _ rfl, (HO0.out.below hW).cell 7 _ rfl, (HO0.out.below hW).cell 8 _ rfl, (HO0.out.below hW).cell 9 _ rfl, (HO0.out.below hW).cell 10 _ rfl⟩, hW⟩
  obtain ⟨s0, s1, s2, p0, p1, p2, p3, p4, p5, p6, p7, p8, p9, p10⟩ := (HSS.out wo (Below.refl _ _)).1
  go_cut [4, 5, 6] from 7 to 46 (fun v8 v9 v10 wc => ∃ (qS qA : Nat) (a5 : Option Addr) (n5 c5 : Nat) (a6 : Option Addr) (n6 c6 : Nat), v8 = .pointer (some ⟨qS, 0, none⟩) ∧ v9 = .pointer (some ⟨qA, 0, none⟩) ∧ v10 = .int .i64 cd ∧ Hid (Blk wc qS 48 [.slice a5 n5 c5, .slice a6 n6 c6, .int .i64 now'] ∧ Blk wc qA 38 [.bool ov, .int .u64 oh, .int .u64 ol] ∧ Rd wc wo.heap.size S' a5 n5 c5 a6 n6 c6 now' ∧ Below wo.heap.size wo wc ∧ wo.heap.size ≤ qS ∧ wo.heap.size ≤ qA))
  case first =>
    go_wp2_with fail
    go_region_held3 (fun w' => ((w'.cell? ⟨pb, 0, none⟩ = some (.slice a1 n1 c1) ∧ w'.cell? ⟨pb, 1, none⟩ = some (.slice a2 n2 c2) ∧ w'.cell? ⟨pb, 2, none⟩ = some (.int .i64 now) ∧ w'.cell? ⟨w.heap.size, 0, none⟩ = some (.int .i64 y0) ∧ w'.cell? ⟨w.heap.size, 1, none⟩ = some (.bool y1) ∧ w'.cell? ⟨w.heap.size, 2, none⟩ = some (.int .u64 y2) ∧ w'.cell? ⟨w.heap.size, 3, none⟩ = some (.int .u64 y3) ∧ w'.cell? ⟨w.heap.size, 4, none⟩ = some (.int .i64 y4) ∧ w'.cell? ⟨w.heap.size, 5, none⟩ = some (.bool y5) ∧ w'.cell? ⟨w.heap.size, 6, none⟩ = some (.int .u64 y6) ∧ w'.cell? ⟨w.heap.size, 7, none⟩ = some (.int .u64 y7) ∧ w'.cell? ⟨w.heap.size, 8, none⟩ = some (.string y8) ∧ w'.cell? ⟨w.heap.size, 9, none⟩ = some (.int .i64 y9) ∧ w'.cell? ⟨w.heap.size, 10, none⟩ = some (.int .i64 y10)) ∧ Below wo.heap.size wo w'))
      (first | with_reducible assumption | (refine HSS.out _ ?_; (repeat' (first | with_reducible exact HBz.out | with_reducible exact Below.refl _ _ | with_reducible refine Below.drew ?_ | with_reducible refine bal ?_ _ | with_reducible refine bse ?_ (by first | (simp; done) | (simp; omega)) _))))
      (first
        | (go_at_call 25; (refine (HDo.out wo.drew (Below.refl _ _).drew).mono ?_); rintro e wz ⟨a5, a6, n5, c5, n6, c6, rfl, hR, hbz⟩; have HRz := Lib.hid hR; have HBz : Hid (Below wo.heap.size wo wz) := btr (Below.refl _ _).drew hbz; have hzs := HBz.out.size; have hzp := hbz.size; (try simp at hzp); clear hR hbz)
        | (go_at_call 25; (refine (HDo.out (wo.alloc (.cells #[.slice none 0 0, .slice none 0 0, .int .i64 0] 48)).drew ((bal (Below.refl _ _) (.cells #[.slice none 0 0, .slice none 0 0, .int .i64 0] 48))).drew).mono ?_); rintro e wz ⟨a5, a6, n5, c5, n6, c6, rfl, hR, hbz⟩; have HRz := Lib.hid hR; have HBz : Hid (Below wo.heap.size wo wz) := btr ((bal (Below.refl _ _) (.cells #[.slice none 0 0, .slice none 0 0, .int .i64 0] 48))).drew hbz; have hzs := HBz.out.size; have hzp := hbz.size; (try simp at hzp); have KA : Hid (Blk wz wo.heap.size 48 [.slice none 0 0, .slice none 0 0, .int .i64 0]) := (Blk.new wo [.slice none 0 0, .slice none 0 0, .int .i64 0] 48).dr.below hbz; have KC : Hid (Blk (wz.alloc (.cells #[.bool false, .int .u64 0, .int .u64 0] 38)) wo.heap.size 48 [.slice none 0 0, .slice none 0 0, .int .i64 0]) := KA.out.al _; obtain ⟨⟨ka0, ka1, ka2⟩, ka3, ka4, ka5⟩ := KA.out.three; obtain ⟨⟨kc0, kc1, kc2⟩, kc3, kc4, kc5⟩ := KC.out.three; have hz1 : ¬ wo.heap.size = wz.heap.size := (by have := hbz.size; simp at this; omega); have hz2 : ¬ wz.heap.size = wo.heap.size := (fun e => hz1 e.symm); clear hR hbz)
        | (go_at_call 25; (refine (HDo.out (wo.alloc (.cells #[.bool false, .int .u64 0, .int .u64 0] 38)).drew ((bal (Below.refl _ _) (.cells #[.bool false, .int .u64 0, .int .u64 0] 38))).drew).mono ?_); rintro e wz ⟨a5, a6, n5, c5, n6, c6, rfl, hR, hbz⟩; have HRz := Lib.hid hR; have HBz : Hid (Below wo.heap.size wo wz) := btr ((bal (Below.refl _ _) (.cells #[.bool false, .int .u64 0, .int .u64 0] 38))).drew hbz; have hzs := HBz.out.size; have hzp := hbz.size; (try simp at hzp); have KB : Hid (Blk wz wo.heap.size 38 [.bool false, .int .u64 0, .int .u64 0]) := (Blk.new wo [.bool false, .int .u64 0, .int .u64 0] 38).dr.below hbz; have KC : Hid (Blk (wz.alloc (.cells #[.slice none 0 0, .slice none 0 0, .int .i64 0] 48)) wo.heap.size 38 [.bool false, .int .u64 0, .int .u64 0]) := KB.out.al _; have KD : Hid (Blk (wz.alloc (.cells #[.slice a5 n5 c5, .slice a6 n6 c6, .int .i64 now'] 48)) wo.heap.size 38 [.bool false, .int .u64 0, .int .u64 0]) := KB.out.al _; obtain ⟨⟨kb0, kb1, kb2⟩, kb3, kb4, kb5⟩ := KB.out.three; obtain ⟨⟨kc0, kc1, kc2⟩, kc3, kc4, kc5⟩ := KC.out.three; obtain ⟨⟨kd0, kd1, kd2⟩, kd3, kd4, kd5⟩ := KD.out.three; have hz1 : ¬ wo.heap.size = wz.heap.size := (by have := hbz.size; simp at this; omega); have hz2 : ¬ wz.heap.size = wo.heap.size := (fun e => hz1 e.symm); clear hR hbz)
        | (go_at_call 25; (refine (HDo.out ((wo.alloc (.cells #[.slice none 0 0, .slice none 0 0, .int .i64 0] 48)).alloc (.cells #[.bool false, .int .u64 0, .int .u64 0] 38)).drew ((bal (bal (Below.refl _ _) (.cells #[.slice none 0 0, .slice none 0 0, .int .i64 0] 48)) (.cells #[.bool false, .int .u64 0, .int .u64 0] 38))).drew).mono ?_); rintro e wz ⟨a5, a6, n5, c5, n6, c6, rfl, hR, hbz⟩; have HRz := Lib.hid hR; have HBz : Hid (Below wo.heap.size wo wz) := btr ((bal (bal (Below.refl _ _) (.cells #[.slice none 0 0, .slice none 0 0, .int .i64 0] 48)) (.cells #[.bool false, .int .u64 0, .int .u64 0] 38))).drew hbz; have hzs := HBz.out.size; have hzp := hbz.size; (try simp at hzp); have KA : Hid (Blk wz wo.heap.size 48 [.slice none 0 0, .slice none 0 0, .int .i64 0]) := ((Blk.new wo [.slice none 0 0, .slice none 0 0, .int .i64 0] 48).al _).dr.below hbz; have KB : Hid (Blk wz (wo.heap.size + 1) 38 [.bool false, .int .u64 0, .int .u64 0]) := ((blk_new1 wo (.cells #[.slice none 0 0, .slice none 0 0, .int .i64 0] 48) [.bool false, .int .u64 0, .int .u64 0] 38)).dr.below hbz; obtain ⟨⟨ka0, ka1, ka2⟩, ka3, ka4, ka5⟩ := KA.out.three; obtain ⟨⟨kb0, kb1, kb2⟩, kb3, kb4, kb5⟩ := KB.out.three; have hz1 : ¬ wo.heap.size = wz.heap.size := (by have := hbz.size; simp at this; omega); have hz2 : ¬ wz.heap.size = wo.heap.size := (fun e => hz1 e.symm); clear hR hbz)
        | (go_at_call 25; (refine (HDo.out ((wo.alloc (.cells #[.bool false, .int .u64 0, .int .u64 0] 38)).alloc (.cells #[.slice none 0 0, .slice none 0 0, .int .i64 0] 48)).drew ((bal (bal (Below.refl _ _) (.cells #[.bool false, .int .u64 0, .int .u64 0] 38)) (.cells #[.slice none 0 0, .slice none 0 0, .int .i64 0] 48))).drew).mono ?_); rintro e wz ⟨a5, a6, n5, c5, n6, c6, rfl, hR, hbz⟩; have HRz := Lib.hid hR; have HBz : Hid (Below wo.heap.size wo wz) := btr ((bal (bal (Below.refl _ _) (.cells #[.bool false, .int .u64 0, .int .u64 0] 38)) (.cells #[.slice none 0 0, .slice none 0 0, .int .i64 0] 48))).drew hbz; have hzs := HBz.out.size; have hzp := hbz.size; (try simp at hzp); have KB : Hid (Blk wz wo.heap.size 38 [.bool false, .int .u64 0, .int .u64 0]) := ((Blk.new wo [.bool false, .int .u64 0, .int .u64 0] 38).al _).dr.below hbz; have KA : Hid (Blk wz (wo.heap.size + 1) 48 [.slice none 0 0, .slice none 0 0, .int .i64 0]) := ((blk_new1 wo (.cells #[.bool false, .int .u64 0, .int .u64 0] 38) [.slice none 0 0, .slice none 0 0, .int .i64 0] 48)).dr.below hbz; obtain ⟨⟨kb0, kb1, kb2⟩, kb3, kb4, kb5⟩ := KB.out.three; obtain ⟨⟨ka0, ka1, ka2⟩, ka3, ka4, ka5⟩ := KA.out.three; have hz1 : ¬ wo.heap.size = wz.heap.size := (by have := hbz.size; simp at this; omega); have hz2 : ¬ wz.heap.size = wo.heap.size := (fun e => hz1 e.symm); clear hR hbz))
    all_goals go_wp2_with fail
    all_goals go_meet
    all_goals refine ⟨_, _, a5, n5, c5, a6, n6, c6, rfl, rfl, rfl, ?_, ?_, ?_, ?_, ?_, ?_⟩
    all_goals (first | (show Blk _ _ _ _; (repeat' (first | with_reducible exact Blk.new _ _ _ | with_reducible exact blk_new1 _ _ _ _ | with_reducible exact Blk3.of KA.out | with_reducible exact Blk3.of KB.out | with_reducible exact Blk3.of (Blk.new _ _ _) | with_reducible exact Blk3.of (blk_new1 _ _ _ _) | with_reducible refine Blk.put3 ?_ | with_reducible refine Blk.off3 ?_ (by first | exact hz1 | exact hz2 | (simp; done) | (simp; omega) | omega) | with_reducible refine Blk.al ?_ _ | with_reducible refine Blk3.off3 ?_ (by first | exact hz1 | exact hz2 | (simp; done) | (simp; omega) | omega) | with_reducible refine Blk3.al ?_ _)); done) | (show Rd _ _ _ _ _ _ _ _ _ _; (refine Rd.base (Rd.btw HRz.out ?_) (by first | exact Nat.le_refl _ | (simp; done) | (simp; omega)); (repeat' (first | with_reducible exact Btw.refl _ _ | with_reducible refine Btw.alloc ?_ _ | with_reducible refine Btw.set ?_ (by first | (left; simp; done) | (left; simp; omega) | (right; simp; done) | (right; simp; omega)) _))); done) | (show Below _ _ _; (repeat' (first | with_reducible exact HBz.out | with_reducible refine bal ?_ _ | with_reducible refine bse ?_ (by have := HBz.out.size; first | (simp; done) | (simp; omega)) _)); done) | (have := HBz.out.size; simp; done) | (have := HBz.out.size; simp; omega) | omega)
  case rest =>
    obtain ⟨qS, qA, a5, n5, c5, a6, n6, c6, rfl, rfl, rfl, hK⟩ := hcut
    obtain ⟨w2, hw2⟩ : ∃ W, W = wc := ⟨_, rfl⟩
    subst hw2
    have hb2 := hK.out.2.2.2.1
    have HP2 := Lib.hid (HP0.out.below hb2)
    have HT2 := Lib.hid (own_keep HT0.out hb2)
    have HB2 := Lib.hid (btr HB0.out hb2)
    have HX2 := Lib.hid hK.out.1
    have HY2 := Lib.hid hK.out.2.1
    have HR2 := Lib.hid (hK.out.2.2.1.base (show w.heap.size ≤ wo.heap.size by have := hsz.out; omega))
    have l2 := hK.out.2.2.2.2.1
    have l3 := hK.out.2.2.2.2.2
    have l4 := HY2.out.lt
    have l5 := HB2.out.size
    have l6 := Lib.hid (show w.heap.size < qS ∧ w.heap.size < qA by have := hsz.out; omega)
    clear hb2 hK HP0 HT0 HO0 HSS HDo HDw s0 s1 s2 p0 p1 p2 p3 p4 p5 p6 p7 p8 p9 p10
    obtain ⟨⟨s0, s1, s2, s3⟩, s4, s5, s6, s7⟩ := HP2.out.four'
    obtain ⟨⟨x0, x1, x2⟩, x3, x4, x5⟩ := HX2.out.three
    obtain ⟨⟨y0', y1', y2'⟩, y3', y4', y5'⟩ := HY2.out.three
    have hI : (cd == 0) = false := by rw [beq_eq_false_iff_ne]; exact hcd
    go_wp2_with fail
    have HP3 := Lib.hid HP2.out
    have HY3 := Lib.hid HY2.out
    have HT3 := Lib.hid HT2.out
    have HB3 := Lib.hid HB2.out
    clear HP2 HT2 HX2 HY2 HR2 HB2 s0 s1 s2 s3 s4 s5 s6 s7 x0 x1 x2 x3 x4 x5 y0' y1' y2' y3' y4' y5'
    obtain ⟨w3, hw3⟩ : ∃ W, W = w2 := ⟨_, rfl⟩
    rw [← hw3] at HP3 HY3 HT3 HB3 ⊢
    clear hw3
    obtain ⟨i0, hi0, hz0, hz1, hz2⟩ := info_parts infoAd
    have HTW : Hid (∀ W : World, Below w3.heap.size w3 W → W.ownsRow B 38 3 (.slice a3 TN c3) TN trow) := fun W hW => own_keep HT3.out hW
    have HPW : Hid (∀ W : World, Below w3.heap.size w3 W → Blk W pb 61 [.slice a1 n1 c1, .slice a2 n2 c2, .int .i64 now, .slice a3 TN c3]) := fun W hW => HP3.out.below hW
    have hB3 := HB3.out.size
    have hpne : Hid (∀ b, (Value.slice a3 TN c3).ownBlock = some b → b ≠ pb) := fun b hb e => by have := (HT3.out.lt b hb).1; omega
    have HR1 : Hid (∀ u ∈ [Value.bool ov, .int .u64 oh, .int .u64 ol], u.oneCell' = true) := fun u hu => by simp at hu; rcases hu with rfl | rfl | rfl <;> rfl
    obtain ⟨⟨t0, t1, t2, t3⟩, t4, t5, t6, t7⟩ := HP3.out.four'
    obtain ⟨⟨k0, k1, k2⟩, -⟩ := HY3.out.three
    have KW : Hid (Below w3.heap.size w3 (w3.alloc (.cells #[.bool ov, .int .u64 oh, .int .u64 ol] 38)).drew) := (bal (Below.refl _ _) _).drew
    have HNw : Hid (∀ j u, [Value.bool ov, .int .u64 oh, .int .u64 ol][j]? = some u → (w3.alloc (.cells #[.bool ov, .int .u64 oh, .int .u64 ol] 38)).drew.cell? ((⟨w3.heap.size, 0, none⟩ : Addr).add j) = some u) := news3 (Blk.new w3 [.bool ov, .int .u64 oh, .int .u64 ol] 38).dr
    have HTX := Lib.hid (HTW.out _ KW.out)
    have hBW : B ≤ (w3.alloc (.cells #[.bool ov, .int .u64 oh, .int .u64 ol] 38)).drew.heap.size := Nat.le_trans (by omega) KW.out.size
    obtain ⟨⟨-, -, -, t8⟩, -⟩ := (HP3.out.al (.cells #[.bool ov, .int .u64 oh, .int .u64 ol] 38)).four'
    obtain ⟨⟨k3, k4, k5⟩, -⟩ := (HY3.out.al (.cells #[.bool ov, .int .u64 oh, .int .u64 ol] 38)).three
    go_region_law (refine at_wld (w3.alloc (.cells #[.bool ov, .int .u64 oh, .int .u64 ol] 38)).drew (by with_reducible rfl) ?_; go_must (refine step_append_own_at rfl (.tmp 41) (.tmp 43) 49 rfl B 38 i0 _ 3 24 Tryz.underlying49 hi0 hz0 hz1 hz2 rfl (by decide) (.slice a3 TN c3) TN trow (by simp [Act.eval, Act.put]) HTX.out ⟨w3.heap.size, 0, none⟩ 1 1 [.bool ov, .int .u64 oh, .int .u64 ol] (by simp [Act.eval, Act.put]) rfl HNw.out HR1.out (by unfold maxLen; omega) (by omega) hBW ?_; intro v' w5 ho hg hat; obtain ⟨a7, c7, rfl⟩ := own_slice ho; have HP5 : Hid (Blk w5 pb 61 [.slice a1 n1 c1, .slice a2 n2 c2, .int .i64 now, .slice a3 TN c3]) := (hg.block pb (HPW.out _ KW.out).lt (fun e => hpne.out pb e.symm rfl)).trans (HPW.out _ KW.out); have HO5 := Lib.hid ho; have HG5 := Lib.hid hg; have HA5 := Lib.hid hat; clear ho hg hat; obtain ⟨⟨v0, v1, v2, v3⟩, v4, v5, v6, v7⟩ := HP5.out.four'))
    all_goals go_wp2_with fail
    all_goals refine bodyPost_end (v := .tuple #[]) (by simp [results, Tryz.results22, go_sem]) rfl ?_
    all_goals exact ⟨rfl, (w3.alloc (.cells #[.bool ov, .int .u64 oh, .int .u64 ol] 38)).drew, w5, a7, c7, rfl, HP5.out, HO5.out, HG5.out, HA5.out, HB3.out.trans (below_le KW.out HB3.out.size)⟩
end Go.Proofs.YtclnfkohlklbpaaGreat
