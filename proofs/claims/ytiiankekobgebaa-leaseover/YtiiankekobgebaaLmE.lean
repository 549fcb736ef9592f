/- The document's GrantOf; Grant and Drop by one contract each; leasesAre. -/
import Derived.Test.YtiiankekobgebaaLmC
import Derived.Test.YtiiankekobgebaaLmD
import Derived.Deep.Cut
set_option linter.unusedVariables false
set_option linter.unusedSimpArgs false
namespace Go.Proofs.Ytiiankekobgebaa
open Go.RowKit Go.Shelf

theorem hasWho_fun (who : ByteArray) : (fun y : Ls => y.who.toList == who.toList) = Ls.hasWho who := by
  funext y
  rw [text_eq]
  rfl
theorem eqAd_same (x y : Ad) : eqAd x y = sameA y x := by
  rw [Bool.eq_iff_iff, eqAd_iff, sameA_iff]
  exact ⟨fun h => h.symm, fun h => h.symm⟩

set_option maxHeartbeats 8000000 in
set_option maxRecDepth 100000 in
theorem rgrant_has (p : Pf) (ka : Option Addr) (kc : Nat) (kept : List Ad) (a : Option Addr) (c : Nat) (l : List Ls) (who : ByteArray) (now ttl : Int) (i : Nat) (w : World) (hl : l.length ≤ 20) (hs : Lies lsE w a l) (hn : 0 ≤ now ∧ now ≤ 9999) (ht : 1 ≤ ttl ∧ ttl ≤ 500) (hfi : (live l now).findIdx? (Ls.hasWho who) = some i) (hil : i < (live l now).length) :
    Calls Try.prog 11 #[.agg #[.bool p.v, .int .u64 p.hi, .int .u64 p.lo, .int .i64 p.b, .slice ka kept.length kc], .slice a l.length c, .string who, .int .i64 now, .int .i64 ttl] w fun e w' => ∃ v', e = .returned (.tuple #[v', .agg #[.bool (live l now)[i].a.v, .int .u64 (live l now)[i].a.hi, .int .u64 (live l now)[i].a.lo], .bool true]) ∧ w'.ownsRow w.heap.size 49 lsE.k v' (live l now).length (rowOf lsE ((live l now).set i ⟨(live l now)[i].a, (live l now)[i].who, now + ttl⟩)) ∧ Below w.heap.size w w' := by
  obtain ⟨W0, hW0⟩ : ∃ W0, W0 = (w.alloc (.cells #[.bool p.v, .int .u64 p.hi, .int .u64 p.lo, .int .i64 p.b, .slice ka kept.length kc] 29)).alloc (.cells #[.bool false, .int .u64 0, .int .u64 0] 24) := ⟨_, rfl⟩
  have hb0 : Below w.heap.size w W0 := by rw [hW0]; exact bal (bal (Below.refl _ _) _) _
  have hz0 : W0.heap.size = w.heap.size + 2 := by rw [hW0]; simp
  have hx : Box3 W0 (w.heap.size + 1) zeroAd := by
    rw [hW0]
    have := Box3.new (w.alloc (.cells #[.bool p.v, .int .u64 p.hi, .int .u64 p.lo, .int .i64 p.b, .slice ka kept.length kc] 29)) zeroAd
    rw [World.size_alloc] at this
    exact this
  have HLv := Lib.hid (rlive_any a c l now W0 hl (hs.below hb0))
  have hll : (live l now).length ≤ l.length := List.length_filter_le _ _
  obtain ⟨LV, hLV⟩ : ∃ LV, LV = live l now := ⟨_, rfl⟩
  rw [← hLV] at HLv hfi hll
  have hil' : i < LV.length := by rw [hLV]; exact hil
  have hg : (live l now)[i] = LV[i] := by simp [hLV]
  rw [hg, ← hLV]
  have HX := Lib.hid hx
  have HB0 := Lib.hid hb0
  rw [hW0] at HLv
  have HW0 := Lib.hid hW0
  have HZ0 := Lib.hid hz0
  have hwr : IntKind.i64.wrap (now + ttl) = now + ttl := by rw [IntKind.wrap_i64]; omega
  obtain ⟨y, hy⟩ : ∃ y, y = LV[i] := ⟨_, rfl⟩
  rw [← hy]
  obtain ⟨l', hl'⟩ : ∃ l', l' = LV.set i ⟨y.a, y.who, now + ttl⟩ := ⟨_, rfl⟩
  rw [← hl']
  have hlen' : l'.length = LV.length := by rw [hl', List.length_set]
  obtain ⟨v, hv⟩ : ∃ v, y.a.v = v := ⟨_, rfl⟩
  obtain ⟨hi, hhi⟩ : ∃ hi, y.a.hi = hi := ⟨_, rfl⟩
  obtain ⟨lo, hlo⟩ : ∃ lo, y.a.lo = lo := ⟨_, rfl⟩
  rw [hv, hhi, hlo]
  have Hy : Hid (y = LV[i] ∧ l' = LV.set i ⟨y.a, y.who, now + ttl⟩ ∧ y.a.v = v ∧ y.a.hi = hi ∧ y.a.lo = lo) := ⟨hy, hl', hv, hhi, hlo⟩
  have HLen := Lib.hid hlen'
  have HFi := Lib.hid hfi
  clear hs hb0 hx hW0 hLV hfi hil hg hy hl' hv hhi hlo hz0 hlen'
  go_enter Try.func11, Try.ntmps11
  go_wp2_with fail
  refine HLv.out.mono ?_
  rintro e W1 ⟨v1, rfl, hown, hb1⟩
  rw [← HW0.out] at hb1 hown
  obtain ⟨a4, c4, rfl, _⟩ := own_lies hown
  rcases own_form hown with ⟨e0, rfl⟩ | ⟨g, c5, e0, ho⟩
  · simp at hil'
  injection e0 with e1 _ e2
  subst e1 e2
  have HB1 := Lib.hid (btr HB0.out hb1)
  have HX1 := Lib.hid (HX.out.below hb1)
  have HO1 := Lib.hid ho
  have hbase := ho.base
  have HWh := Lib.hid (whoAt_any (some ⟨g, 0, none⟩) c4 LV who W1 (by omega) ho.lies)
  rw [HFi.out] at HWh
  clear hb1 hown ho HLv HX HFi
  go_wp2_with fail
  refine HWh.out.mono ?_
  rintro e W2 ⟨rfl, rfl⟩
  rw [show idxI (some i) = (i : Int) from rfl]
  have hI0 : ¬ (i : Int) < 0 := by omega
  have hi0 : (0 : Int) ≤ (i : Int) := by omega
  have hiz : (i : Int) < (LV.length : Int) := by omega
  have hgl := HO1.out.lt
  obtain ⟨g', o', e', hgl', r0, r1, r2, r3, r4⟩ := HO1.out.lies.ls i hil'
  obtain ⟨rfl, rfl⟩ : g = g' ∧ 0 = o' := by simpa using e'
  simp only [Nat.zero_add] at r0 r1 r2 r3 r4
  have hfr : W2.frozen? ⟨g, i * 5 + 4, none⟩ = false := by
    obtain ⟨rest, hr, _⟩ := HO1.out.row
    simp [World.frozen?, hr]
  have HO2 := Lib.hid (HO1.out.setUn i hil' (now + ttl))
  rw [← Hy.out.1] at r0 r1 r2 r3 r4 HO2
  rw [← Hy.out.2.1] at HO2
  rw [Hy.out.2.2.1] at r0
  rw [Hy.out.2.2.2.1] at r1
  rw [Hy.out.2.2.2.2] at r2
  clear e' HWh
  have hz0 := HZ0.out
  have hgb : w.heap.size + 2 ≤ g := by omega
  have hne : w.heap.size + 1 ≠ g := by omega
  have HX2 : Hid (Box3 (W2.setCell ⟨g, i * 5 + 4, none⟩ (.int .i64 (now + ttl))) (w.heap.size + 1) zeroAd) := (heap_setCell_other W2 ⟨g, i * 5 + 4, none⟩ (w.heap.size + 1) _ hne).trans HX1.out
  obtain ⟨⟨z0, z1, z2⟩, y0, y1, y2⟩ := HX1.out.cells
  have HX3 := Lib.hid (HX2.out.put ⟨v, hi, lo, by rw [← Hy.out.2.2.2.1, ← Hy.out.2.2.2.2]; exact y.a.ok⟩)
  have HF : Hid (Below w.heap.size w ((((W2.setCell ⟨g, i * 5 + 4, none⟩ (.int .i64 (now + ttl))).setCell ⟨w.heap.size + 1, 0, none⟩ (.bool v)).setCell ⟨w.heap.size + 1, 1, none⟩ (.int .u64 hi)).setCell ⟨w.heap.size + 1, 2, none⟩ (.int .u64 lo))) :=
    bse (bse (bse (bse HB1.out (by show _ ≤ g; omega) _) (by show _ ≤ w.heap.size + 1; omega) _) (by show _ ≤ w.heap.size + 1; omega) _) (by show _ ≤ w.heap.size + 1; omega) _
  have HO3 : Hid (OwnAt lsE ((((W2.setCell ⟨g, i * 5 + 4, none⟩ (.int .i64 (now + ttl))).setCell ⟨w.heap.size + 1, 0, none⟩ (.bool v)).setCell ⟨w.heap.size + 1, 1, none⟩ (.int .u64 hi)).setCell ⟨w.heap.size + 1, 2, none⟩ (.int .u64 lo)) w.heap.size 49 g c4 l') := by
    obtain ⟨rest, hr, hlen⟩ := HO2.out.row
    refine ⟨by omega, HO2.out.le, HO2.out.max, rest, ?_, hlen⟩
    rw [heap_put3 _ (w.heap.size + 1) g _ _ _ (by omega)]
    exact hr
  obtain ⟨⟨u0, u1, u2⟩, _⟩ := HX3.out.cells
  simp only at u0 u1 u2
  clear HX1 HX2 HO1 HO2 HX3 hz0 hbase
  go_wp2_with fail
  go_region
  go_wp2_with fail
  refine ⟨rfl, .tuple #[.slice (some ⟨g, 0, none⟩) LV.length c4, .agg #[.bool v, .int .u64 hi, .int .u64 lo], .bool true], by simp [results, Try.f11, go_sem, u0, u1, u2], _, rfl, ?_, HF.out.drew⟩
  have := (HO3.out.keep (Below.refl _ _).drew).own
  rw [HLen.out] at this
  exact this
end Go.Proofs.Ytiiankekobgebaa

namespace Go.Proofs.Ytiiankekobgebaa
open Go.RowKit Go.Shelf

theorem spot_before {x : Ls} {l : List Ls} {j : Nat} (h : j < spotOf x l) (hj : j < l.length) : x.a.less l[j].a = false := by
  unfold spotOf at h
  cases e : l.findIdx? (fun y => x.a.less y.a) with
  | none =>
    rw [List.findIdx?_eq_none_iff] at e
    simpa using e l[j] (List.getElem_mem hj)
  | some i =>
    rw [e] at h
    obtain ⟨hi, h1, h2⟩ := List.findIdx?_eq_some_iff_getElem.1 e
    simpa using h2 j h
theorem spot_here {x : Ls} {l : List Ls} {j : Nat} (h : spotOf x l = j) (hj : j < l.length) : x.a.less l[j].a = true := by
  unfold spotOf at h
  cases e : l.findIdx? (fun y => x.a.less y.a) with
  | none =>
    rw [e] at h
    simp at h
    omega
  | some i =>
    rw [e] at h
    obtain ⟨hi, h1, h2⟩ := List.findIdx?_eq_some_iff_getElem.1 e
    obtain rfl : i = j := by simpa using h
    simpa using h1
/-- The list that is being made: behind j of the leases. -/
def insTo (x : Ls) (l : List Ls) (j : Nat) : List Ls := if spotOf x l < j then l.take (spotOf x l) ++ x :: (l.take j).drop (spotOf x l) else l.take j
theorem insTo_past {x : Ls} {l : List Ls} {j : Nat} (h : spotOf x l < j) (hj : j < l.length) : insTo x l (j + 1) = insTo x l j ++ [l[j]] := by
  unfold insTo
  rw [if_pos h, if_pos (by omega), List.take_succ_eq_append_getElem hj, List.drop_append_of_le_length (by rw [List.length_take]; omega)]
  simp [List.append_assoc]
theorem insTo_at {x : Ls} {l : List Ls} {j : Nat} (h : spotOf x l = j) (hj : j < l.length) : insTo x l (j + 1) = (insTo x l j ++ [x]) ++ [l[j]] := by
  unfold insTo
  rw [if_pos (by omega), if_neg (by omega), h, List.take_succ_eq_append_getElem hj, List.drop_append_of_le_length (by rw [List.length_take]; omega)]
  simp [List.append_assoc]
theorem insTo_ahead {x : Ls} {l : List Ls} {j : Nat} (h : j < spotOf x l) (hj : j < l.length) : insTo x l (j + 1) = insTo x l j ++ [l[j]] := by
  unfold insTo
  rw [if_neg (by omega), if_neg (by omega), List.take_succ_eq_append_getElem hj]
theorem insTo_len {x : Ls} {l : List Ls} {j : Nat} (hj : j ≤ l.length) : (insTo x l j).length ≤ j + 1 := by
  unfold insTo
  by_cases h : spotOf x l < j
  · rw [if_pos h]; simp; omega
  · rw [if_neg h]; simp; omega
theorem insTo_end {x : Ls} {l : List Ls} (h : spotOf x l < l.length) : insTo x l l.length = insOf x l := by
  unfold insTo insOf
  rw [if_pos h, List.take_length]
theorem insTo_last {x : Ls} {l : List Ls} (h : ¬ spotOf x l < l.length) : insTo x l l.length ++ [x] = insOf x l := by
  have hs := spot_le x l
  have e : spotOf x l = l.length := by omega
  unfold insTo insOf
  rw [if_neg h, e, List.take_length, List.drop_length]
theorem nextOf_ad (x : Ad) (w : World) (cx : chk x.v x.hi x.lo = 0) : Calls Try.prog 28 #[.agg #[.bool x.v, .int .u64 x.hi, .int .u64 x.lo]] w fun e w' => e = .returned (.tuple #[.agg #[.bool (nxV x.v x.hi x.lo), .int .u64 (nxH x.v x.hi x.lo), .int .u64 (nxL x.v x.hi x.lo)], .bool (nxB x.v x.hi x.lo)]) ∧ Below w.heap.size w w' := by
  obtain ⟨v, hi, lo, ⟨⟨h0, h1⟩, l0, l1⟩⟩ := x
  simp only at *
  obtain ⟨a, rfl⟩ := Int.eq_ofNat_of_zero_le h0
  obtain ⟨b, rfl⟩ := Int.eq_ofNat_of_zero_le l0
  exact nextOf_any v a b w (by omega) (by omega) (right_nat cx)
theorem next_end (v : Bool) : nxB v (adOf v (top v - 1)).hi (adOf v (top v - 1)).lo = false := by
  cases v <;> decide
theorem any_take {α : Type} (f : α → Bool) (l : List α) (j : Nat) (h : j < l.length) : (l.take (j + 1)).any f = ((l.take j).any f || f l[j]) := by
  rw [List.take_succ_eq_append_getElem h, List.any_append, List.any_cons, List.any_nil, Bool.or_false]
theorem free_ref (kept : List Ad) (l : List Ls) (x : Ad) : freeA kept l x = (!(kept.any (fun y => eqAd y x)) && !(l.any (fun y => eqAd y.a x))) := by
  unfold freeA
  have e1 : (fun y => eqAd y x) = sameA x := by funext y; exact eqAd_same y x
  have e2 : (fun y : Ls => eqAd y.a x) = (fun y => sameA y.a x) := by
    funext y
    rw [Bool.eq_iff_iff, eqAd_iff, sameA_iff]
  rw [e1, e2]
/-- Where the document's walk stands: at the k-th address. -/
structure GfOn (W1 W : World) (ab : Nat) (p : Pf) (kept : List Ad) (l : List Ls) (k : Nat) : Prop where
  a : Box3 W ab (adK p k)
  low : Below ab W1 W
  top : p.n + k < top p.v
  fr : ∀ j, j < k → j < p.many → freeA kept l (adK p j) = false

theorem keepJ {w W W' : World} {g o q : Nat} {x0 x1 x2 y0 y1 y2 : Value} (h : (W.cell? ⟨g, o, none⟩ = some x0 ∧ W.cell? ⟨g, o + 1, none⟩ = some x1 ∧ W.cell? ⟨g, o + 2, none⟩ = some x2) ∧ (W.cell? ⟨q, 0, none⟩ = some y0 ∧ W.cell? ⟨q, 1, none⟩ = some y1 ∧ W.cell? ⟨q, 2, none⟩ = some y2) ∧ g < W.heap.size ∧ q < W.heap.size ∧ Below w.heap.size w W) (hb : Below W.heap.size W W') :
    (W'.cell? ⟨g, o, none⟩ = some x0 ∧ W'.cell? ⟨g, o + 1, none⟩ = some x1 ∧ W'.cell? ⟨g, o + 2, none⟩ = some x2) ∧ (W'.cell? ⟨q, 0, none⟩ = some y0 ∧ W'.cell? ⟨q, 1, none⟩ = some y1 ∧ W'.cell? ⟨q, 2, none⟩ = some y2) ∧ g < W'.heap.size ∧ q < W'.heap.size ∧ Below w.heap.size w W' := by
  obtain ⟨⟨a, b, c⟩, ⟨d, e, f⟩, hg, hq, hw⟩ := h
  obtain ⟨h1, _⟩ := bcell hb
  exact ⟨⟨by rw [h1 _ _ hg]; exact a, by rw [h1 _ _ hg]; exact b, by rw [h1 _ _ hg]; exact c⟩, ⟨by rw [h1 _ _ hq]; exact d, by rw [h1 _ _ hq]; exact e, by rw [h1 _ _ hq]; exact f⟩, Nat.lt_of_lt_of_le hg hb.size, Nat.lt_of_lt_of_le hq hb.size, btr hw hb⟩
theorem fr_past {p : Pf} {kept : List Ad} {l : List Ls} {k : Nat} (h : ∀ j, j < k → j < p.many → freeA kept l (adK p j) = false) (hf : k < p.many → freeA kept l (adK p k) = false) : ∀ j, j < k + 1 → j < p.many → freeA kept l (adK p j) = false := fun j hj hm => by
  by_cases e : j = k
  · rw [e] at hm ⊢; exact hf hm
  · exact h j (by omega) hm
theorem inA_adK {p : Pf} (r : p.R) {k : Nat} (h : k < p.many) : p.inA (adK p k).v (adK p k).hi (adK p k).lo = true := by
  obtain ⟨h0, h1⟩ := adK_ok r h
  rw [inA_num r (x := adK p k) (adOf_chk h0 h1), adK_n r h]
  have := Pf.many_amt (p := p)
  exact ⟨rfl, by omega, by omega⟩
theorem inA_past {p : Pf} (r : p.R) {k : Nat} (ht : p.n + k < top p.v) (h : p.inA (adK p k).v (adK p k).hi (adK p k).lo = true) : k < p.many := by
  have h0 := (Pf.n_top r).1
  have hn : (adK p k).n = p.n + k := adOf_n (by omega) ht
  rw [inA_num r (x := adK p k) (adOf_chk (by omega) ht), hn] at h
  have := Pf.many_amt (p := p)
  omega
/-- The x of the grant, in a block of its own. -/
def BoxL (W : World) (b : Nat) (x : Ls) : Prop := W.heap[b]? = some (.cells #[.bool x.a.v, .int .u64 x.a.hi, .int .u64 x.a.lo, .string x.who, .int .i64 x.un] 49 (0, 0))
theorem BoxL.cells {W : World} {b : Nat} {x : Ls} (h : BoxL W b x) : W.cell? ⟨b, 0, none⟩ = some (.bool x.a.v) ∧ W.cell? ⟨b, 1, none⟩ = some (.int .u64 x.a.hi) ∧ W.cell? ⟨b, 2, none⟩ = some (.int .u64 x.a.lo) ∧ W.cell? ⟨b, 3, none⟩ = some (.string x.who) ∧ W.cell? ⟨b, 4, none⟩ = some (.int .i64 x.un) := by
  unfold BoxL at h
  simp [World.cell?, h]
theorem BoxL.upto {W W' : World} {b B : Nat} {x : Ls} (h : BoxL W b x) (hb : Below B W W') (hlt : b < B) : BoxL W' b x := (hb.block b hlt).trans h

set_option maxHeartbeats 16000000 in
set_option maxRecDepth 100000 in
theorem rgrant_new (p : Pf) (r : p.R) (hwd : wideB p.v p.b = false) (ka : Option Addr) (kc : Nat) (kept : List Ad) (w : World) (hk : ∀ W, Below w.heap.size w W → Lies adE W ka kept) (hkl : kept.length ≤ 1000) (a : Option Addr) (c : Nat) (l : List Ls) (who : ByteArray) (now ttl : Int) (hl : l.length ≤ 20) (hs : Lies lsE w a l) (hn : 0 ≤ now ∧ now ≤ 9999) (ht : 1 ≤ ttl ∧ ttl ≤ 500) (hck : ∀ x ∈ live l now, chk x.a.v x.a.hi x.a.lo = 0) (hfi : (live l now).findIdx? (Ls.hasWho who) = none) :
    Calls Try.prog 11 #[.agg #[.bool p.v, .int .u64 p.hi, .int .u64 p.lo, .int .i64 p.b, .slice ka kept.length kc], .slice a l.length c, .string who, .int .i64 now, .int .i64 ttl] w fun e w' => ((∃ k v', firstK p kept (live l now) = some k ∧ e = .returned (.tuple #[v', .agg #[.bool (adK p k).v, .int .u64 (adK p k).hi, .int .u64 (adK p k).lo], .bool true]) ∧ w'.ownsRow w.heap.size 49 lsE.k v' (insOf ⟨adK p k, who, now + ttl⟩ (live l now)).length (rowOf lsE (insOf ⟨adK p k, who, now + ttl⟩ (live l now)))) ∨ (firstK p kept (live l now) = none ∧ e = .returned (.tuple #[.slice none 0 0, .agg #[.bool false, .int .u64 0, .int .u64 0], .bool false]))) ∧ Below w.heap.size w w' := by
  obtain ⟨i0, hi0, hz0, hz1, hz2⟩ := info_parts infoL3
  obtain ⟨W0, hW0⟩ : ∃ W0, W0 = (w.alloc (.cells #[.bool p.v, .int .u64 p.hi, .int .u64 p.lo, .int .i64 p.b, .slice ka kept.length kc] 29)).alloc (.cells #[.bool false, .int .u64 0, .int .u64 0] 24) := ⟨_, rfl⟩
  have hb0 : Below w.heap.size w W0 := by rw [hW0]; exact bal (bal (Below.refl _ _) _) _
  have hs0 : W0.heap.size = w.heap.size + 2 := by rw [hW0]; simp
  have hx5 : Box5 W0 w.heap.size p (.slice ka kept.length kc) := by rw [hW0]; exact (Box5.new w p _).below (bal (Below.refl _ _) _)
  have hx : Box3 W0 (w.heap.size + 1) zeroAd := by
    rw [hW0]
    have := Box3.new (w.alloc (.cells #[.bool p.v, .int .u64 p.hi, .int .u64 p.lo, .int .i64 p.b, .slice ka kept.length kc] 29)) zeroAd
    rw [World.size_alloc] at this
    exact this
  have HLv := Lib.hid (rlive_any a c l now W0 hl (hs.below hb0))
  have hll : (live l now).length ≤ l.length := List.length_filter_le _ _
  obtain ⟨LV, hLV⟩ : ∃ LV, LV = live l now := ⟨_, rfl⟩
  rw [← hLV] at HLv hfi hll hck ⊢
  have hl20 : LV.length ≤ 20 := by omega
  have HX := Lib.hid hx
  have HX5 := Lib.hid hx5
  have HB0 := Lib.hid hb0
  have HK : Hid (∀ W, Below w.heap.size w W → Lies adE W ka kept) := hk
  rw [hW0] at HLv
  have HW0 := Lib.hid hW0
  have HS0 := Lib.hid hs0
  have hwr : IntKind.i64.wrap (now + ttl) = now + ttl := by rw [IntKind.wrap_i64]; omega
  have HFi := Lib.hid hfi
  have HCk := Lib.hid hck
  have hmany := many_narrow r hwd
  have HF1 := Lib.hid (first_ad r)
  have HA0 : Hid (adK p 0 = adOf p.v p.n) := by unfold Hid adK; simp
  have hA0 : p.v = (adK p 0).v ∧ p.hi = (adK p 0).hi ∧ p.lo = (adK p 0).lo := by rw [HA0.out]; exact ⟨HF1.out.1.symm, HF1.out.2.1.symm, HF1.out.2.2.symm⟩
  obtain ⟨N, hN⟩ : ∃ N, N = LV.length := ⟨_, rfl⟩
  have HN := Lib.hid hN
  obtain ⟨KN, hKN⟩ : ∃ KN, KN = kept.length := ⟨_, rfl⟩
  have HKN := Lib.hid hKN
  rw [← hN] at HLv hl20
  rw [← hKN] at hkl HX5 HW0 HLv ⊢
  have HH0 := Lib.hid hA0
  clear hs hb0 hx hx5 hW0 hLV hfi hk hs0 hck hA0 hN hKN
  go_enter Try.func11, Try.ntmps11
  go_wp2_with fail
  refine HLv.out.mono ?_
  rintro e W1 ⟨v1, rfl, hown, hb1⟩
  rw [← HW0.out] at hb1 hown
  rw [HN.out] at hown
  obtain ⟨a4, c4, rfl, hlies⟩ := own_lies hown
  rw [← HN.out]
  have HB1 := Lib.hid (btr HB0.out hb1)
  have HX1 := Lib.hid (HX.out.below hb1)
  have HX51 := Lib.hid (HX5.out.below hb1)
  have HLi := Lib.hid hlies
  have HWh := Lib.hid (whoAt_any a4 c4 LV who W1 (by rw [← HN.out]; omega) hlies)
  rw [HFi.out, ← HN.out] at HWh
  have hsz1 : w.heap.size + 2 ≤ W1.heap.size := by have := hb1.size; have := HS0.out; omega
  clear hb1 hown hlies HLv HX HX5 HFi HW0
  go_wp2_with fail
  refine HWh.out.mono ?_
  rintro e W2 ⟨rfl, rfl⟩
  rw [show idxI none = (-1 : Int) from rfl]
  clear HWh
  obtain ⟨x0, x1, x2, x3, x4⟩ := HX51.out.cells
  go_wp2_with fail
  clear x0 x1 x2 x3 x4
  obtain ⟨ab, hab⟩ : ∃ ab, ab = W2.heap.size := ⟨_, rfl⟩
  have hG0 : GfOn W2 (W2.alloc (.cells #[.bool p.v, .int .u64 p.hi, .int .u64 p.lo] 24)) ab p kept LV 0 := by
    refine ⟨?_, ?_, ?_, fun j hj => absurd hj (Nat.not_lt_zero _)⟩
    · rw [hab, HH0.out.1, HH0.out.2.1, HH0.out.2.2]
      exact Box3.new W2 (adK p 0)
    · rw [hab]; exact bal (Below.refl _ _) _
    · have := (adK_ok r (many_pos p)).2
      simpa using this
  have HG0 := Lib.hid hG0
  rw [← hab]
  rw [← hab] at hsz1
  generalize W2.alloc (.cells #[.bool p.v, .int .u64 p.hi, .int .u64 p.lo] 24) = W3 at *
  have HAb := Lib.hid hab
  have HB2 : Hid (∀ W, Below ab W2 W → Below w.heap.size w W) := fun W hb => HB1.out.trans (hb.mono (by omega))
  have HU3 : Hid (∀ W, Below ab W2 W → Box3 W (w.heap.size + 1) zeroAd) := fun W hb => HX1.out.upto hb (by omega)
  have HU5 : Hid (∀ W, Below ab W2 W → Box5 W w.heap.size p (.slice ka KN kc)) := fun W hb => (hb.block _ (by omega)).trans HX51.out
  have HUl : Hid (∀ W, Below ab W2 W → Lies lsE W a4 LV) := fun W hb j hj => by
    obtain ⟨g, o, e, hg, c⟩ := HLi.out j hj
    exact ⟨g, o, e, Nat.lt_of_lt_of_le hg hb.size, fun i v hv => by rw [hb.cell (p := ⟨g, _, none⟩) (by rw [HAb.out]; exact hg)]; exact c i v hv⟩
  clear hG0 hab HX1 HX51 HLi HF1 HA0 HH0
  go_loopw [15, 17] (fun vo vn wr => ∃ k : Nat, vo = .slice none 0 0 ∧ vn = .int .i64 k ∧ k ≤ 16 ∧ Hid (GfOn W2 wr ab p kept LV k)) (fun _ vn _ => 16 - (intOf vn).toNat)
  case atStart => exact ⟨0, rfl, rfl, by omega, HG0⟩
  case round =>
    clear HG0
    obtain ⟨k, rfl, rfl, hk16, HG⟩ := hrel
    by_cases hk : k < 16
    · have hkz : (k : Int) < 16 := by omega
      obtain ⟨wo, hwo⟩ : ∃ wo, wo = wr := ⟨_, rfl⟩
      subst hwo
      have hcA : chk (adK p k).v (adK p k).hi (adK p k).lo = 0 := adOf_chk (by have := (Pf.n_top r).1; omega) HG.out.top
      have HCA := Lib.hid hcA
      obtain ⟨A, hA⟩ : ∃ A, A = adK p k := ⟨_, rfl⟩
      have HA := Lib.hid hA
      rw [← hA] at HCA
      have HAx : Hid (Box3 wo ab A) := by rw [hA]; exact HG.out.a
      clear hcA hA
      go_wp2_with fail
      go_loopw [18, 19] (fun vb vj wr => ∃ j : Nat, vb = .bool ((LV.take j).any (fun y => eqAd y.a A)) ∧ vj = .int .i64 j ∧ j ≤ N ∧ Hid (Below wo.heap.size wo wr)) (fun _ vj _ => N - (intOf vj).toNat)
      case atStart => exact ⟨0, rfl, rfl, Nat.zero_le _, Below.refl _ _⟩
      case round =>
        obtain ⟨j, rfl, rfl, hj, HBj⟩ := hrel
        by_cases hjN : j < N
        · have hjl : j < LV.length := by have := HN.out; omega
          have hlo : Below ab W2 wr := HG.out.low.trans (HBj.out.mono (by have := HG.out.a.lt; omega))
          obtain ⟨g, o, rfl, hg, c0, c1, c2, _, _⟩ := (HUl.out wr hlo).ls j hjl
          obtain ⟨⟨a0, a1, a2⟩, _⟩ := (HAx.out.below HBj.out).cells
          have HAny := Lib.hid (any_take (fun y : Ls => eqAd y.a A) LV j hjl)
          have hE := fun w => eql_ad w LV[j].a A
          have hjz : (j : Int) < (N : Int) := by omega
          have hj0 : (0 : Int) ≤ (j : Int) := by omega
          have HBd := Lib.hid (HBj.out.drew)
          clear hlo hg
          generalize (LV.take j).any (fun y => eqAd y.a A) = b at *
          generalize eqAd LV[j].a A = b' at *
          generalize LV[j].a.v = y0 at *
          generalize LV[j].a.hi = y1 at *
          generalize LV[j].a.lo = y2 at *
          cases b
          · go_wp2_with fail
            go_region
            go_wp2_with fail
            go_roundw
            case rel => exact ⟨j + 1, by rw [HAny.out]; simp, by go_num, by omega, HBd⟩
            case measure => simp [intOf]; omega
          · go_wp2_with fail
            go_region
            go_wp2_with fail
            go_roundw
            case rel => exact ⟨j + 1, by rw [HAny.out]; simp, by go_num, by omega, HBd⟩
            case measure => simp [intOf]; omega
        · have ejN : N = j := by omega
          subst ejN
          have hkk : ¬ (N : Int) < (N : Int) := by omega
          have hT : LV.take N = LV := List.take_of_length_le (by have := HN.out; omega)
          rw [hT]
          obtain ⟨x0, x1, x2, x3, _⟩ := (HU5.out wr (HG.out.low.trans (HBj.out.mono (Nat.le_of_lt HG.out.a.lt)))).cells
          obtain ⟨⟨a0, a1, a2⟩, _⟩ := (HAx.out.below HBj.out).cells
          have HHs := Lib.hid (rhas_ad p A wr r HCA.out)
          obtain ⟨b1, hb1⟩ : ∃ b, b = p.inA A.v A.hi A.lo := ⟨_, rfl⟩
          obtain ⟨b2, hb2⟩ : ∃ b, b = LV.any (fun y => eqAd y.a A) := ⟨_, rfl⟩
          obtain ⟨b3, hb3⟩ : ∃ b, b = kept.any (fun y => eqAd y A) := ⟨_, rfl⟩
          rw [← hb1] at HHs
          rw [← hb2]
          have H1 : Hid (p.inA A.v A.hi A.lo = b1) := hb1.symm
          have H2 : Hid (LV.any (fun y => eqAd y.a A) = b2) := hb2.symm
          have H3 : Hid (kept.any (fun y => eqAd y A) = b3) := hb3.symm
          clear hb1 hb2 hb3 hT
          cases b1
          · have HFk : k < p.many → freeA kept LV (adK p k) = false := fun h => by
              have := inA_adK r h
              rw [← HA.out, H1.out] at this
              exact absurd this (by decide)
            go_wp2_with fail
            refine HHs.out.mono ?_
            rintro e wn ⟨rfl, hbn⟩
            have HAn := Lib.hid ((HAx.out.below HBj.out).below hbn)
            have HLow : Hid (Below ab W2 wn) := (HG.out.low.trans (HBj.out.mono (Nat.le_of_lt HG.out.a.lt))).trans (hbn.mono (Nat.le_of_lt (HAx.out.below HBj.out).lt))
            clear x0 x1 x2 x3 a0 a1 a2 HHs hbn
            have HNx := Lib.hid (nextOf_ad A wn HCA.out)
            by_cases htp : p.n + k + 1 < top p.v
            · have HE : Hid (nxV A.v A.hi A.lo = (adK p (k + 1)).v ∧ nxH A.v A.hi A.lo = (adK p (k + 1)).hi ∧ nxL A.v A.hi A.lo = (adK p (k + 1)).lo ∧ nxB A.v A.hi A.lo = true) := by
                have h := next_ad (v := p.v) (n := p.n + k) (by have := (Pf.n_top r).1; omega) htp
                rw [Hid, HA.out]
                have e : adK p (k + 1) = adOf p.v (p.n + k + 1) := by
                  unfold adK
                  rw [show p.n + ((k + 1 : Nat) : Int) = p.n + k + 1 by omega]
                rw [e]
                exact h
              rw [HE.out.1, HE.out.2.1, HE.out.2.2.1, HE.out.2.2.2] at HNx
              obtain ⟨A', hA'⟩ : ∃ A', A' = adK p (k + 1) := ⟨_, rfl⟩
              rw [← hA'] at HNx
              have HA' := Lib.hid hA'
              obtain ⟨⟨a0, a1, a2⟩, _⟩ := HAn.out.cells
              clear hA' HE
              go_wp2_with fail
              refine HNx.out.mono ?_
              rintro e wy ⟨rfl, hby⟩
              have hlo : Below ab W2 wy := HLow.out.trans (hby.mono (Nat.le_of_lt HAn.out.lt))
              have hpu := (HAn.out.below hby).put A'
              obtain ⟨⟨b0, b1, b2⟩, f0, f1, f2⟩ := (HAn.out.below hby).cells
              have hablt : ab < wy.heap.size := (HAn.out.below hby).lt
              have hnew := (Box3.new wy A').cells
              obtain ⟨⟨n0, n1, n2⟩, _⟩ := hnew
              have HG' : Hid (GfOn W2 ((((wy.setCell ⟨ab, 0, none⟩ (.bool A'.v)).setCell ⟨ab, 1, none⟩ (.int .u64 A'.hi)).setCell ⟨ab, 2, none⟩ (.int .u64 A'.lo)).alloc (.cells #[.bool A'.v, .int .u64 A'.hi, .int .u64 A'.lo] 24)) ab p kept LV (k + 1)) := by
                refine ⟨by rw [← HA'.out]; exact hpu.below (bal (Below.refl _ _) _), ?_, by omega, fr_past HG.out.fr HFk⟩
                exact (((hlo.setCell (p := ⟨ab, 0, none⟩) (Nat.le_refl _) _).setCell (p := ⟨ab, 1, none⟩) (Nat.le_refl _) _).setCell (p := ⟨ab, 2, none⟩) (Nat.le_refl _) _).alloc (Nat.le_of_lt hpu.lt) _
              clear hlo hpu HNx a0 a1 a2 hby
              go_wp2_with fail
              go_roundw
              case rel => exact ⟨k + 1, rfl, by go_num, by omega, HG'⟩
              case measure => simp [intOf]; omega
            · have HE : Hid (nxB A.v A.hi A.lo = false) := by
                have e : A = adOf p.v (top p.v - 1) := by
                  rw [HA.out]
                  unfold adK
                  rw [show p.n + (k : Int) = top p.v - 1 by have := HG.out.top; omega]
                rw [Hid, e]
                exact next_end p.v
              rw [HE.out] at HNx
              have HFn : Hid (firstK p kept LV = none) := firstK_none fun j hj => fr_past HG.out.fr HFk j (by have := (Pf.n_top r).2; have := Pf.many_amt (p := p); omega) hj
              obtain ⟨⟨a0, a1, a2⟩, _⟩ := HAn.out.cells
              generalize nxV A.v A.hi A.lo = nv at *
              generalize nxH A.v A.hi A.lo = nh at *
              generalize nxL A.v A.hi A.lo = nl at *
              clear HE
              go_wp2_with fail
              refine HNx.out.mono ?_
              rintro e wy ⟨rfl, hby⟩
              have hlo : Below ab W2 (wy.alloc (.cells #[.bool nv, .int .u64 nh, .int .u64 nl] 24)) := (HLow.out.trans (hby.mono (Nat.le_of_lt HAn.out.lt))).alloc (Nat.le_of_lt (HAn.out.below hby).lt) _
              have hU := HU3.out _ hlo
              obtain ⟨wz, hwz⟩ : ∃ wz, wz = wy.alloc (.cells #[.bool nv, .int .u64 nh, .int .u64 nl] 24) := ⟨_, rfl⟩
              rw [← hwz] at hlo hU
              have HU := Lib.hid hU
              obtain ⟨⟨u0, u1, u2⟩, _⟩ := (hU.put zeroAd).cells
              have HFin : Hid (Below w.heap.size w (((wz.setCell ⟨w.heap.size + 1, 0, none⟩ (.bool false)).setCell ⟨w.heap.size + 1, 1, none⟩ (.int .u64 0)).setCell ⟨w.heap.size + 1, 2, none⟩ (.int .u64 0))) :=
                bse (bse (bse (HB2.out _ hlo) (by show _ ≤ w.heap.size + 1; omega) _) (by show _ ≤ w.heap.size + 1; omega) _) (by show _ ≤ w.heap.size + 1; omega) _
              simp only [zeroAd] at u0 u1 u2
              obtain ⟨⟨z0, z1, z2⟩, y0, y1, y2⟩ := hU.cells
              rw [hwz] at z0 z1 z2 y0 y1 y2
              have HWz := Lib.hid hwz
              clear hU hlo hby HNx a0 a1 a2 hwz
              go_wp2_with fail
              rw [← HWz.out]
              refine ⟨rfl, .tuple #[.slice none 0 0, .agg #[.bool false, .int .u64 0, .int .u64 0], .bool false], by simp [results, Try.f11, go_sem, u0, u1, u2], .inr ⟨HFn.out, rfl⟩, HFin.out⟩
          · cases b2
            · go_wp2_with fail
              refine HHs.out.mono ?_
              rintro e wm ⟨rfl, hbm⟩
              have HAm := Lib.hid ((HAx.out.below HBj.out).below hbm)
              have HLm : Hid (Below ab W2 wm) := (HG.out.low.trans (HBj.out.mono (Nat.le_of_lt HG.out.a.lt))).trans (hbm.mono (Nat.le_of_lt (HAx.out.below HBj.out).lt))
              clear x0 x1 x2 x3 a0 a1 a2 HHs hbm
              obtain ⟨_, _, _, _, x4⟩ := (HU5.out wm HLm.out).cells
              obtain ⟨⟨a0, a1, a2⟩, _⟩ := HAm.out.cells
              have HKp := Lib.hid (rhasA_ad ka kc kept A wm (by rw [← HKN.out]; exact hkl) (HK.out wm (HB2.out wm HLm.out)))
              rw [H3.out, ← HKN.out] at HKp
              go_wp2_with fail
              refine HKp.out.mono ?_
              rintro e wn ⟨rfl, hbn⟩
              have HAn := Lib.hid (HAm.out.below hbn)
              have HLow : Hid (Below ab W2 wn) := HLm.out.trans (hbn.mono (Nat.le_of_lt HAm.out.lt))
              clear x4 a0 a1 a2 HKp hbn HAm HLm
              cases b3
              · clear HKN
                have hkm : k < p.many := inA_past r HG.out.top (by rw [← HA.out]; exact H1.out)
                have HFK : Hid (firstK p kept LV = some k) := firstK_some hkm (fun j hj => HG.out.fr j hj (by omega)) (by rw [free_ref, ← HA.out, H2.out, H3.out]; rfl)
                obtain ⟨x, hx⟩ : ∃ x : Ls, x = ⟨A, who, now + ttl⟩ := ⟨_, rfl⟩
                obtain ⟨⟨a0, a1, a2⟩, _⟩ := HAn.out.cells
                obtain ⟨W5, hW5⟩ : ∃ W5, W5 = wn.alloc (.cells #[.bool x.a.v, .int .u64 x.a.hi, .int .u64 x.a.lo, .string x.who, .int .i64 x.un] 49) := ⟨_, rfl⟩
                have hxb : BoxL W5 wn.heap.size x := by rw [hW5]; exact heap_alloc_new wn _
                have hs5 : W5.heap.size = wn.heap.size + 1 := by rw [hW5]; simp
                have hlo5 : Below ab W2 W5 := by rw [hW5]; exact HLow.out.alloc (Nat.le_of_lt HAn.out.lt) _
                have hab5 : ab < W5.heap.size := by have := HAn.out.lt; omega
                have hA5 : Box3 W5 ab A := by rw [hW5]; exact HAn.out.below (bal (Below.refl _ _) _)
                have Hx := Lib.hid hx
                have HW5 : Hid (wn.alloc (.cells #[.bool A.v, .int .u64 A.hi, .int .u64 A.lo, .string who, .int .i64 (now + ttl)] 49) = W5) := by rw [Hid, hW5, hx]
                have HXb := Lib.hid hxb
                have HL5 := Lib.hid hlo5
                have HA5 := Lib.hid hA5
                have HS5 := Lib.hid hs5
                obtain ⟨xb, hxb'⟩ : ∃ xb, xb = wn.heap.size := ⟨_, rfl⟩
                have HXB' := Lib.hid hxb'
                clear hx hW5 hxb hlo5 hA5 hs5
                go_wp2_with fail
                rw [HW5.out]
                clear a0 a1 a2 HW5
                rw [← hxb'] at HXb HS5 ⊢
                clear hxb'
                go_loopw [15, 21, 22] (fun vo vp vj wr => ∃ (j M : Nat) (q : List Ls), vp = .bool (decide (spotOf x LV < j)) ∧ vj = .int .i64 j ∧ j ≤ N ∧ M = q.length ∧ M ≤ j + 1 ∧ Hid (q = insTo x LV j) ∧ Hid (wr.ownsRow W5.heap.size 49 lsE.k vo M (rowOf lsE q)) ∧ Hid (Below W5.heap.size W5 wr)) (fun _ _ vj _ => N - (intOf vj).toNat)
                case atStart => exact ⟨0, 0, [], by simp, rfl, Nat.zero_le _, rfl, by omega, by simp [Hid, insTo], World.ownsRow_nil _ _ _ _, Below.refl _ _⟩
                case round =>
                  obtain ⟨j, M, q, rfl, rfl, hj, hM, hMj, Hq, HO, HB⟩ := hrel
                  have HM := Lib.hid hM
                  clear hM
                  by_cases hjN : j < N
                  · have hjl : j < LV.length := by have := HN.out; omega
                    have hjz : (j : Int) < (N : Int) := by omega
                    have hj0 : (0 : Int) ≤ (j : Int) := by omega
                    obtain ⟨g, o, rfl, hg, c0, c1, c2, c3, c4⟩ := (HUl.out wr (HL5.out.trans (HB.out.mono (Nat.le_of_lt hab5)))).ls j hjl
                    obtain ⟨y, hy⟩ : ∃ y, y = LV[j] := ⟨_, rfl⟩
                    have Hy := Lib.hid hy
                    rw [← hy] at c0 c1 c2 c3 c4
                    have HC : Hid (wr.cell? ⟨g, o + j * 5, none⟩ = some (.bool y.a.v) ∧ wr.cell? ⟨g, o + j * 5 + 1, none⟩ = some (.int .u64 y.a.hi) ∧ wr.cell? ⟨g, o + j * 5 + 2, none⟩ = some (.int .u64 y.a.lo) ∧ wr.cell? ⟨g, o + j * 5 + 3, none⟩ = some (.string y.who) ∧ wr.cell? ⟨g, o + j * 5 + 4, none⟩ = some (.int .i64 y.un) ∧ g < wr.heap.size) := ⟨c0, c1, c2, c3, c4, hg⟩
                    have HRow : Hid (rowOf lsE (q ++ [y]) = rowOf lsE q ++ lsE.f y) := by rw [Hid, rowOf_append, rowOf, rowOf, List.append_nil]
                    by_cases hsp : spotOf x LV < j
                    · have HSt : Hid (insTo x LV (j + 1) = q ++ [y]) := by rw [Hid, insTo_past hsp hjl, ← Hq.out, ← hy]
                      rw [decide_eq_true hsp]
                      have hsp' : decide (spotOf x LV < j + 1) = true := decide_eq_true (by omega)
                      clear hy
                      go_wp2_with fail
                      go_region
                      obtain ⟨wq, hwq⟩ : ∃ wq, wq = wr.drew := ⟨_, rfl⟩
                      rw [← hwq]
                      have hbq : Below wr.heap.size wr wq := by rw [hwq]; exact (Below.refl _ _).drew
                      clear hwq c0 c1 c2 c3 c4
                      obtain ⟨d1, _⟩ := bcell hbq
                      obtain ⟨c0, c1, c2, c3, c4, hg'⟩ := HC.out
                      rw [← d1 _ _ hg'] at c0 c1 c2 c3 c4
                      have HOq := Lib.hid ((own_keep HO.out hbq).alloc (.cells #[.bool y.a.v, .int .u64 y.a.hi, .int .u64 y.a.lo, .string y.who, .int .i64 y.un] 49))
                      have HBq := Lib.hid (bal (btr HB.out hbq) (.cells #[.bool y.a.v, .int .u64 y.a.hi, .int .u64 y.a.lo, .string y.who, .int .i64 y.un] 49))
                      obtain ⟨Xy, hXy⟩ : ∃ X, X = lsE.f y := ⟨_, rfl⟩
                      have HX1y := Lib.hid (lsE.one y)
                      have HXly : Hid ((lsE.f y).length = 1 * 5) := lsE.len y
                      have HNwy : Hid (∀ j v, (lsE.f y)[j]? = some v → (wq.alloc (.cells #[.bool y.a.v, .int .u64 y.a.hi, .int .u64 y.a.lo, .string y.who, .int .i64 y.un] 49)).cell? ((⟨wq.heap.size, 0, none⟩ : Addr).add j) = some v) := news_of (heap_alloc_new wq _)
                      rw [← hXy] at HX1y HXly HNwy
                      rw [← hXy] at HRow
                      clear hXy d1 hbq
                      generalize rowOf lsE q = RR at *
                      go_wp2_with (at_builtin; refine wpList_append_own _ rfl _ _ 30 rfl W5.heap.size 49 i0 _ 5 48 Try.underlying30 hi0 hz0 hz1 hz2 rfl (by decide) _ _ _ rfl HOq.out ⟨wq.heap.size, 0, none⟩ 1 1 Xy rfl HXly.out HNwy.out HX1y.out (by unfold maxLen; omega) (by omega) HBq.out.size ?_; intro v6 w6 hown hgrow _; have HO6 := Lib.hid hown; have HB6 := Lib.hid (HBq.out.grown hgrow HBq.out.size (fun k hk => (HOq.out.lt k hk).1)); clear hown hgrow)
                      go_roundw
                      case rel => exact ⟨j + 1, M + 1, q ++ [y], by rw [hsp'], by go_num, by omega, by rw [List.length_append, ← HM.out]; rfl, by omega, HSt.out.symm, by rw [HRow.out]; exact HO6, HB6⟩
                      case measure => simp [intOf]; omega
                    · rw [decide_eq_false hsp]
                      have hle : spotOf x LV = j ∨ j < spotOf x LV := by omega
                      have HAh : Hid (∀ w : World, Calls Try.prog 25 #[.agg #[.bool A.v, .int .u64 A.hi, .int .u64 A.lo], .agg #[.bool y.a.v, .int .u64 y.a.hi, .int .u64 y.a.lo]] w fun e w' => e = .returned (.bool (A.less y.a)) ∧ Below w.heap.size w w') := fun w => isAhead_ad A y.a w HCA.out (by rw [hy]; exact HCk.out _ (List.getElem_mem hjl))
                      obtain ⟨⟨a0, a1, a2⟩, _⟩ := (HA5.out.upto HB.out hab5).cells
                      have habr : ab < wr.heap.size := (HA5.out.upto HB.out hab5).lt
                      have HSd := Lib.hid (keepJ (w := W5) ⟨⟨c0, c1, c2⟩, ⟨a0, a1, a2⟩, hg, habr, HB.out⟩ (Below.refl _ _).drew)
                      clear c0 c1 c2 c3 c4 a0 a1 a2
                      rcases hle with hsp2 | hsp2
                      · have HL : Hid (A.less y.a = true) := by
                          have := spot_here hsp2 hjl
                          rw [Hx.out, ← hy] at this
                          exact this
                        rw [HL.out] at HAh
                        have hMj2 : M ≤ j := by
                          rw [HM.out, Hq.out]
                          unfold insTo
                          rw [if_neg hsp, List.length_take]
                          omega
                        have HSt : Hid (insTo x LV (j + 1) = (q ++ [x]) ++ [y]) := by rw [Hid, insTo_at hsp2 hjl, ← Hq.out, ← hy]
                        have hsp' : decide (spotOf x LV < j + 1) = true := decide_eq_true (by omega)
                        clear hy
                        go_wp2_with fail
                        go_region_held3 (fun w' => (w'.cell? ⟨g, o + j * 5, none⟩ = some (.bool y.a.v) ∧ w'.cell? ⟨g, o + j * 5 + 1, none⟩ = some (.int .u64 y.a.hi) ∧ w'.cell? ⟨g, o + j * 5 + 2, none⟩ = some (.int .u64 y.a.lo)) ∧ (w'.cell? ⟨ab, 0, none⟩ = some (.bool A.v) ∧ w'.cell? ⟨ab, 1, none⟩ = some (.int .u64 A.hi) ∧ w'.cell? ⟨ab, 2, none⟩ = some (.int .u64 A.lo)) ∧ g < w'.heap.size ∧ ab < w'.heap.size ∧ Below W5.heap.size W5 w')
                          (first | with_reducible exact HSd.out | with_reducible exact HSe.out | fail)
                          ((go_at_call 25; refine (HAh.out _).mono ?_; rintro e wx ⟨rfl, hb⟩; have HSe := Lib.hid (keepJ HSd.out hb); have HFe := Lib.hid (((Below.refl _ _).drew : Below wr.heap.size wr wr.drew).trans hb); clear hb))
                        clear HSe HSd HAh
                        obtain ⟨x0, x1, x2, x3, x4⟩ := (HXb.out.upto (btr HB.out HFe.out) (by have := HS5.out; omega)).cells
                        have HOw := Lib.hid (own_keep HO.out HFe.out)
                        have HBw := Lib.hid (btr HB.out HFe.out)
                        have HRx : Hid (rowOf lsE (q ++ [x]) = rowOf lsE q ++ lsE.f x) := by rw [Hid, rowOf_append, rowOf, rowOf, List.append_nil]
                        have HRy : Hid (rowOf lsE ((q ++ [x]) ++ [y]) = rowOf lsE (q ++ [x]) ++ lsE.f y) := by rw [Hid, rowOf_append, rowOf, rowOf, List.append_nil]
                        obtain ⟨Xx, hXx⟩ : ∃ X, X = lsE.f x := ⟨_, rfl⟩
                        have HX1x := Lib.hid (lsE.one x)
                        have HXlx : Hid ((lsE.f x).length = 1 * 5) := lsE.len x
                        have HNwx : Hid (∀ j v, (lsE.f x)[j]? = some v → (wx.alloc (.cells #[.bool x.a.v, .int .u64 x.a.hi, .int .u64 x.a.lo, .string x.who, .int .i64 x.un] 49)).cell? ((⟨wx.heap.size, 0, none⟩ : Addr).add j) = some v) := news_of (heap_alloc_new wx _)
                        rw [← hXx] at HX1x HXlx HNwx
                        have HOx := Lib.hid (HOw.out.alloc (.cells #[.bool x.a.v, .int .u64 x.a.hi, .int .u64 x.a.lo, .string x.who, .int .i64 x.un] 49))
                        have HBx := Lib.hid (bal HBw.out (.cells #[.bool x.a.v, .int .u64 x.a.hi, .int .u64 x.a.lo, .string x.who, .int .i64 x.un] 49))
                        rw [← hXx] at HRx
                        have HFw := HFe
                        clear hXx HFe
                        generalize rowOf lsE q = RR at *
                        go_upto_region 24 with (at_builtin; refine wpList_append_own _ rfl _ _ 30 rfl W5.heap.size 49 i0 _ 5 48 Try.underlying30 hi0 hz0 hz1 hz2 rfl (by decide) _ _ _ rfl HOx.out ⟨wx.heap.size, 0, none⟩ 1 1 Xx rfl HXlx.out HNwx.out HX1x.out (by unfold maxLen; omega) (by omega) HBx.out.size ?_; intro v5 w5 hown hgrow _; have HO5 := Lib.hid hown; have HB5 := Lib.hid (HBx.out.grown hgrow HBx.out.size (fun k hk => (HOx.out.lt k hk).1)); clear hown hgrow)
                        clear x0 x1 x2 x3 x4
                        rw [← HRx.out] at HO5
                        obtain ⟨g', o', ea, hg', c0, c1, c2, c3, c4⟩ := (HUl.out w5 (HL5.out.trans (HB5.out.mono (Nat.le_of_lt hab5)))).ls j hjl
                        injection ea with ea
                        injection ea with ea1 ea2
                        subst ea1 ea2
                        rw [← Hy.out] at c0 c1 c2 c3 c4
                        have HOq := Lib.hid (HO5.out.alloc (.cells #[.bool y.a.v, .int .u64 y.a.hi, .int .u64 y.a.lo, .string y.who, .int .i64 y.un] 49))
                        have HBq := Lib.hid (bal HB5.out (.cells #[.bool y.a.v, .int .u64 y.a.hi, .int .u64 y.a.lo, .string y.who, .int .i64 y.un] 49))
                        obtain ⟨Xy, hXy⟩ : ∃ X, X = lsE.f y := ⟨_, rfl⟩
                        have HX1y := Lib.hid (lsE.one y)
                        have HXly : Hid ((lsE.f y).length = 1 * 5) := lsE.len y
                        have HNwy : Hid (∀ j v, (lsE.f y)[j]? = some v → (w5.alloc (.cells #[.bool y.a.v, .int .u64 y.a.hi, .int .u64 y.a.lo, .string y.who, .int .i64 y.un] 49)).cell? ((⟨w5.heap.size, 0, none⟩ : Addr).add j) = some v) := news_of (heap_alloc_new w5 _)
                        rw [← hXy] at HX1y HXly HNwy
                        rw [← hXy] at HRy
                        clear hXy
                        generalize rowOf lsE (q ++ [x]) = RX at *
                        go_wp2_with (at_builtin; refine wpList_append_own _ rfl _ _ 30 rfl W5.heap.size 49 i0 _ 5 48 Try.underlying30 hi0 hz0 hz1 hz2 rfl (by decide) _ _ _ rfl HOq.out ⟨w5.heap.size, 0, none⟩ 1 1 Xy rfl HXly.out HNwy.out HX1y.out (by unfold maxLen; omega) (by omega) HBq.out.size ?_; intro v6 w6 hown hgrow _; have HO6 := Lib.hid hown; have HB6 := Lib.hid (HBq.out.grown hgrow HBq.out.size (fun k hk => (HOq.out.lt k hk).1)); clear hown hgrow)
                        go_roundw
                        case rel => exact ⟨j + 1, M + 1 + 1, (q ++ [x]) ++ [y], by rw [hsp'], by go_num, by omega, by rw [List.length_append, List.length_append, ← HM.out]; rfl, by omega, HSt.out.symm, by rw [HRy.out]; exact HO6, HB6⟩
                        case measure => simp [intOf]; omega
                      · have HL : Hid (A.less y.a = false) := by
                          have := spot_before hsp2 hjl
                          rw [Hx.out, ← hy] at this
                          exact this
                        rw [HL.out] at HAh
                        have HSt : Hid (insTo x LV (j + 1) = q ++ [y]) := by rw [Hid, insTo_ahead hsp2 hjl, ← Hq.out, ← hy]
                        have hsp' : decide (spotOf x LV < j + 1) = false := decide_eq_false (by omega)
                        clear hy
                        go_wp2_with fail
                        go_region_held3 (fun w' => (w'.cell? ⟨g, o + j * 5, none⟩ = some (.bool y.a.v) ∧ w'.cell? ⟨g, o + j * 5 + 1, none⟩ = some (.int .u64 y.a.hi) ∧ w'.cell? ⟨g, o + j * 5 + 2, none⟩ = some (.int .u64 y.a.lo)) ∧ (w'.cell? ⟨ab, 0, none⟩ = some (.bool A.v) ∧ w'.cell? ⟨ab, 1, none⟩ = some (.int .u64 A.hi) ∧ w'.cell? ⟨ab, 2, none⟩ = some (.int .u64 A.lo)) ∧ g < w'.heap.size ∧ ab < w'.heap.size ∧ Below W5.heap.size W5 w')
                          (first | with_reducible exact HSd.out | with_reducible exact HSe.out | fail)
                          ((go_at_call 25; refine (HAh.out _).mono ?_; rintro e wx ⟨rfl, hb⟩; have HSe := Lib.hid (keepJ HSd.out hb); have HFe := Lib.hid (((Below.refl _ _).drew : Below wr.heap.size wr wr.drew).trans hb); clear hb))
                        clear HSe HSd HAh
                        have hbq := HFe.out
                        clear HFe
                        obtain ⟨d1, _⟩ := bcell hbq
                        obtain ⟨c0, c1, c2, c3, c4, hg'⟩ := HC.out
                        rw [← d1 _ _ hg'] at c0 c1 c2 c3 c4
                        have HOq := Lib.hid ((own_keep HO.out hbq).alloc (.cells #[.bool y.a.v, .int .u64 y.a.hi, .int .u64 y.a.lo, .string y.who, .int .i64 y.un] 49))
                        have HBq := Lib.hid (bal (btr HB.out hbq) (.cells #[.bool y.a.v, .int .u64 y.a.hi, .int .u64 y.a.lo, .string y.who, .int .i64 y.un] 49))
                        obtain ⟨Xy, hXy⟩ : ∃ X, X = lsE.f y := ⟨_, rfl⟩
                        have HX1y := Lib.hid (lsE.one y)
                        have HXly : Hid ((lsE.f y).length = 1 * 5) := lsE.len y
                        have HNwy : Hid (∀ j v, (lsE.f y)[j]? = some v → (wx.alloc (.cells #[.bool y.a.v, .int .u64 y.a.hi, .int .u64 y.a.lo, .string y.who, .int .i64 y.un] 49)).cell? ((⟨wx.heap.size, 0, none⟩ : Addr).add j) = some v) := news_of (heap_alloc_new wx _)
                        rw [← hXy] at HX1y HXly HNwy
                        rw [← hXy] at HRow
                        clear hXy d1 hbq
                        generalize rowOf lsE q = RR at *
                        go_wp2_with (at_builtin; refine wpList_append_own _ rfl _ _ 30 rfl W5.heap.size 49 i0 _ 5 48 Try.underlying30 hi0 hz0 hz1 hz2 rfl (by decide) _ _ _ rfl HOq.out ⟨wx.heap.size, 0, none⟩ 1 1 Xy rfl HXly.out HNwy.out HX1y.out (by unfold maxLen; omega) (by omega) HBq.out.size ?_; intro v6 w6 hown hgrow _; have HO6 := Lib.hid hown; have HB6 := Lib.hid (HBq.out.grown hgrow HBq.out.size (fun k hk => (HOq.out.lt k hk).1)); clear hown hgrow)
                        go_roundw
                        case rel => exact ⟨j + 1, M + 1, q ++ [y], by rw [hsp'], by go_num, by omega, by rw [List.length_append, ← HM.out]; rfl, by omega, HSt.out.symm, by rw [HRow.out]; exact HO6, HB6⟩
                        case measure => simp [intOf]; omega
                  · have ejN : N = j := by omega
                    subst ejN
                    have hkk : ¬ (N : Int) < (N : Int) := by omega
                    by_cases hsp : spotOf x LV < LV.length
                    · have HQ : Hid (q = insOf x LV) := by rw [Hid, Hq.out, HN.out, insTo_end hsp]
                      rw [show decide (spotOf x LV < N) = true from decide_eq_true (by rw [HN.out]; exact hsp)]
                      have HBf := HB
                      have HOf : Hid (wr.ownsRow W5.heap.size 49 lsE.k u15 (insOf x LV).length (rowOf lsE (insOf x LV))) := by rw [← HQ.out, ← HM.out]; exact HO.out
                      obtain ⟨wf, hwf⟩ : ∃ wf, wf = wr := ⟨_, rfl⟩
                      subst hwf
                      have hU := HU3.out wf (HL5.out.trans (HBf.out.mono (Nat.le_of_lt hab5)))
                      obtain ⟨⟨z0, z1, z2⟩, y0, y1, y2⟩ := hU.cells
                      obtain ⟨⟨u0, u1, u2⟩, _⟩ := (hU.put A).cells
                      obtain ⟨⟨a0, a1, a2⟩, _⟩ := (HA5.out.upto HBf.out hab5).cells
                      have HFin : Hid (Below w.heap.size w ((((wf.setCell ⟨w.heap.size + 1, 0, none⟩ (.bool A.v)).setCell ⟨w.heap.size + 1, 1, none⟩ (.int .u64 A.hi)).setCell ⟨w.heap.size + 1, 2, none⟩ (.int .u64 A.lo))).drew) :=
                        (bse (bse (bse (HB2.out wf (HL5.out.trans (HBf.out.mono (Nat.le_of_lt hab5)))) (by show _ ≤ w.heap.size + 1; omega) _) (by show _ ≤ w.heap.size + 1; omega) _) (by show _ ≤ w.heap.size + 1; omega) _).drew
                      have HOr : Hid ((((wf.setCell ⟨w.heap.size + 1, 0, none⟩ (.bool A.v)).setCell ⟨w.heap.size + 1, 1, none⟩ (.int .u64 A.hi)).setCell ⟨w.heap.size + 1, 2, none⟩ (.int .u64 A.lo)).ownsRow w.heap.size 49 lsE.k u15 (insOf x LV).length (rowOf lsE (insOf x LV))) := own_mono (own_far3 HOf.out (c := w.heap.size + 1) (by omega) _ _ _) (by omega)
                      rw [Hx.out] at HOr
                      have hne5 : ab ≠ w.heap.size + 1 := by omega
                      clear hU
                      go_wp2_with fail
                      go_region
                      go_wp2_with fail
                      rw [HA.out] at *
                      refine ⟨rfl, .tuple #[u15, .agg #[.bool (adK p k).v, .int .u64 (adK p k).hi, .int .u64 (adK p k).lo], .bool true], by simp [results, Try.f11, go_sem, u0, u1, u2], .inl ⟨k, u15, HFK.out, rfl, HOr.out.drew⟩, HFin.out⟩
                    · have HQ : Hid (q ++ [x] = insOf x LV) := by rw [Hid, Hq.out, HN.out, insTo_last hsp]
                      rw [show decide (spotOf x LV < N) = false from decide_eq_false (by rw [HN.out]; exact hsp)]
                      obtain ⟨x0, x1, x2, x3, x4⟩ := (HXb.out.upto HB.out (by have := HS5.out; omega)).cells
                      have HRx : Hid (rowOf lsE (q ++ [x]) = rowOf lsE q ++ lsE.f x) := by rw [Hid, rowOf_append, rowOf, rowOf, List.append_nil]
                      obtain ⟨Xx, hXx⟩ : ∃ X, X = lsE.f x := ⟨_, rfl⟩
                      have HX1x := Lib.hid (lsE.one x)
                      have HXlx : Hid ((lsE.f x).length = 1 * 5) := lsE.len x
                      have HNwx : Hid (∀ j v, (lsE.f x)[j]? = some v → (wr.alloc (.cells #[.bool x.a.v, .int .u64 x.a.hi, .int .u64 x.a.lo, .string x.who, .int .i64 x.un] 49)).cell? ((⟨wr.heap.size, 0, none⟩ : Addr).add j) = some v) := news_of (heap_alloc_new wr _)
                      rw [← hXx] at HX1x HXlx HNwx
                      have HOx := Lib.hid (HO.out.alloc (.cells #[.bool x.a.v, .int .u64 x.a.hi, .int .u64 x.a.lo, .string x.who, .int .i64 x.un] 49))
                      have HBx := Lib.hid (bal HB.out (.cells #[.bool x.a.v, .int .u64 x.a.hi, .int .u64 x.a.lo, .string x.who, .int .i64 x.un] 49))
                      rw [← hXx] at HRx
                      clear hXx
                      generalize rowOf lsE q = RR at *
                      go_wp2_with (at_builtin; refine wpList_append_own _ rfl _ _ 30 rfl W5.heap.size 49 i0 _ 5 48 Try.underlying30 hi0 hz0 hz1 hz2 rfl (by decide) _ _ _ rfl HOx.out ⟨wr.heap.size, 0, none⟩ 1 1 Xx rfl HXlx.out HNwx.out HX1x.out (by unfold maxLen; omega) (by omega) HBx.out.size ?_; intro v6 wf hown hgrow _; have HO5 := Lib.hid hown; have HBf := Lib.hid (HBx.out.grown hgrow HBx.out.size (fun k hk => (HOx.out.lt k hk).1)); clear hown hgrow)
                      clear x0 x1 x2 x3 x4
                      have HOf : Hid (wf.ownsRow W5.heap.size 49 lsE.k v6 (insOf x LV).length (rowOf lsE (insOf x LV))) := by
                        rw [← HQ.out, List.length_append, ← HM.out, HRx.out]
                        exact HO5.out
                      have hU := HU3.out wf (HL5.out.trans (HBf.out.mono (Nat.le_of_lt hab5)))
                      obtain ⟨⟨z0, z1, z2⟩, y0, y1, y2⟩ := hU.cells
                      obtain ⟨⟨u0, u1, u2⟩, _⟩ := (hU.put A).cells
                      obtain ⟨⟨a0, a1, a2⟩, _⟩ := (HA5.out.upto HBf.out hab5).cells
                      have HFin : Hid (Below w.heap.size w ((((wf.setCell ⟨w.heap.size + 1, 0, none⟩ (.bool A.v)).setCell ⟨w.heap.size + 1, 1, none⟩ (.int .u64 A.hi)).setCell ⟨w.heap.size + 1, 2, none⟩ (.int .u64 A.lo))).drew) :=
                        (bse (bse (bse (HB2.out wf (HL5.out.trans (HBf.out.mono (Nat.le_of_lt hab5)))) (by show _ ≤ w.heap.size + 1; omega) _) (by show _ ≤ w.heap.size + 1; omega) _) (by show _ ≤ w.heap.size + 1; omega) _).drew
                      have HOr : Hid ((((wf.setCell ⟨w.heap.size + 1, 0, none⟩ (.bool A.v)).setCell ⟨w.heap.size + 1, 1, none⟩ (.int .u64 A.hi)).setCell ⟨w.heap.size + 1, 2, none⟩ (.int .u64 A.lo)).ownsRow w.heap.size 49 lsE.k v6 (insOf x LV).length (rowOf lsE (insOf x LV))) := own_mono (own_far3 HOf.out (c := w.heap.size + 1) (by omega) _ _ _) (by omega)
                      rw [Hx.out] at HOr
                      have hne5 : ab ≠ w.heap.size + 1 := by omega
                      clear hU
                      go_wp2_with fail
                      go_region
                      go_wp2_with fail
                      rw [HA.out] at *
                      refine ⟨rfl, .tuple #[v6, .agg #[.bool (adK p k).v, .int .u64 (adK p k).hi, .int .u64 (adK p k).lo], .bool true], by simp [results, Try.f11, go_sem, u0, u1, u2], .inl ⟨k, v6, HFK.out, rfl, HOr.out.drew⟩, HFin.out⟩
              · have HFk : k < p.many → freeA kept LV (adK p k) = false := fun _ => by rw [free_ref, ← HA.out, H3.out]; rfl
                have HNx := Lib.hid (nextOf_ad A wn HCA.out)
                by_cases htp : p.n + k + 1 < top p.v
                · have HE : Hid (nxV A.v A.hi A.lo = (adK p (k + 1)).v ∧ nxH A.v A.hi A.lo = (adK p (k + 1)).hi ∧ nxL A.v A.hi A.lo = (adK p (k + 1)).lo ∧ nxB A.v A.hi A.lo = true) := by
                    have h := next_ad (v := p.v) (n := p.n + k) (by have := (Pf.n_top r).1; omega) htp
                    rw [Hid, HA.out]
                    have e : adK p (k + 1) = adOf p.v (p.n + k + 1) := by
                      unfold adK
                      rw [show p.n + ((k + 1 : Nat) : Int) = p.n + k + 1 by omega]
                    rw [e]
                    exact h
                  rw [HE.out.1, HE.out.2.1, HE.out.2.2.1, HE.out.2.2.2] at HNx
                  obtain ⟨A', hA'⟩ : ∃ A', A' = adK p (k + 1) := ⟨_, rfl⟩
                  rw [← hA'] at HNx
                  have HA' := Lib.hid hA'
                  obtain ⟨⟨a0, a1, a2⟩, _⟩ := HAn.out.cells
                  clear hA' HE
                  go_wp2_with fail
                  refine HNx.out.mono ?_
                  rintro e wy ⟨rfl, hby⟩
                  have hlo : Below ab W2 wy := HLow.out.trans (hby.mono (Nat.le_of_lt HAn.out.lt))
                  have hpu := (HAn.out.below hby).put A'
                  obtain ⟨⟨b0, b1, b2⟩, f0, f1, f2⟩ := (HAn.out.below hby).cells
                  have hablt : ab < wy.heap.size := (HAn.out.below hby).lt
                  have hnew := (Box3.new wy A').cells
                  obtain ⟨⟨n0, n1, n2⟩, _⟩ := hnew
                  have HG' : Hid (GfOn W2 ((((wy.setCell ⟨ab, 0, none⟩ (.bool A'.v)).setCell ⟨ab, 1, none⟩ (.int .u64 A'.hi)).setCell ⟨ab, 2, none⟩ (.int .u64 A'.lo)).alloc (.cells #[.bool A'.v, .int .u64 A'.hi, .int .u64 A'.lo] 24)) ab p kept LV (k + 1)) := by
                    refine ⟨by rw [← HA'.out]; exact hpu.below (bal (Below.refl _ _) _), ?_, by omega, fr_past HG.out.fr HFk⟩
                    exact (((hlo.setCell (p := ⟨ab, 0, none⟩) (Nat.le_refl _) _).setCell (p := ⟨ab, 1, none⟩) (Nat.le_refl _) _).setCell (p := ⟨ab, 2, none⟩) (Nat.le_refl _) _).alloc (Nat.le_of_lt hpu.lt) _
                  clear hlo hpu HNx a0 a1 a2 hby
                  go_wp2_with fail
                  go_roundw
                  case rel => exact ⟨k + 1, rfl, by go_num, by omega, HG'⟩
                  case measure => simp [intOf]; omega
                · have HE : Hid (nxB A.v A.hi A.lo = false) := by
                    have e : A = adOf p.v (top p.v - 1) := by
                      rw [HA.out]
                      unfold adK
                      rw [show p.n + (k : Int) = top p.v - 1 by have := HG.out.top; omega]
                    rw [Hid, e]
                    exact next_end p.v
                  rw [HE.out] at HNx
                  have HFn : Hid (firstK p kept LV = none) := firstK_none fun j hj => fr_past HG.out.fr HFk j (by have := (Pf.n_top r).2; have := Pf.many_amt (p := p); omega) hj
                  obtain ⟨⟨a0, a1, a2⟩, _⟩ := HAn.out.cells
                  generalize nxV A.v A.hi A.lo = nv at *
                  generalize nxH A.v A.hi A.lo = nh at *
                  generalize nxL A.v A.hi A.lo = nl at *
                  clear HE
                  go_wp2_with fail
                  refine HNx.out.mono ?_
                  rintro e wy ⟨rfl, hby⟩
                  have hlo : Below ab W2 (wy.alloc (.cells #[.bool nv, .int .u64 nh, .int .u64 nl] 24)) := (HLow.out.trans (hby.mono (Nat.le_of_lt HAn.out.lt))).alloc (Nat.le_of_lt (HAn.out.below hby).lt) _
                  have hU := HU3.out _ hlo
                  obtain ⟨wz, hwz⟩ : ∃ wz, wz = wy.alloc (.cells #[.bool nv, .int .u64 nh, .int .u64 nl] 24) := ⟨_, rfl⟩
                  rw [← hwz] at hlo hU
                  have HU := Lib.hid hU
                  obtain ⟨⟨u0, u1, u2⟩, _⟩ := (hU.put zeroAd).cells
                  have HFin : Hid (Below w.heap.size w (((wz.setCell ⟨w.heap.size + 1, 0, none⟩ (.bool false)).setCell ⟨w.heap.size + 1, 1, none⟩ (.int .u64 0)).setCell ⟨w.heap.size + 1, 2, none⟩ (.int .u64 0))) :=
                    bse (bse (bse (HB2.out _ hlo) (by show _ ≤ w.heap.size + 1; omega) _) (by show _ ≤ w.heap.size + 1; omega) _) (by show _ ≤ w.heap.size + 1; omega) _
                  simp only [zeroAd] at u0 u1 u2
                  obtain ⟨⟨z0, z1, z2⟩, y0, y1, y2⟩ := hU.cells
                  rw [hwz] at z0 z1 z2 y0 y1 y2
                  have HWz := Lib.hid hwz
                  clear hU hlo hby HNx a0 a1 a2 hwz
                  go_wp2_with fail
                  rw [← HWz.out]
                  refine ⟨rfl, .tuple #[.slice none 0 0, .agg #[.bool false, .int .u64 0, .int .u64 0], .bool false], by simp [results, Try.f11, go_sem, u0, u1, u2], .inr ⟨HFn.out, rfl⟩, HFin.out⟩
            · have HFk : k < p.many → freeA kept LV (adK p k) = false := fun _ => by rw [free_ref, ← HA.out, H2.out]; simp
              go_wp2_with fail
              refine HHs.out.mono ?_
              rintro e wn ⟨rfl, hbn⟩
              have HAn := Lib.hid ((HAx.out.below HBj.out).below hbn)
              have HLow : Hid (Below ab W2 wn) := (HG.out.low.trans (HBj.out.mono (Nat.le_of_lt HG.out.a.lt))).trans (hbn.mono (Nat.le_of_lt (HAx.out.below HBj.out).lt))
              clear x0 x1 x2 x3 a0 a1 a2 HHs hbn
              have HNx := Lib.hid (nextOf_ad A wn HCA.out)
              by_cases htp : p.n + k + 1 < top p.v
              · have HE : Hid (nxV A.v A.hi A.lo = (adK p (k + 1)).v ∧ nxH A.v A.hi A.lo = (adK p (k + 1)).hi ∧ nxL A.v A.hi A.lo = (adK p (k + 1)).lo ∧ nxB A.v A.hi A.lo = true) := by
                  have h := next_ad (v := p.v) (n := p.n + k) (by have := (Pf.n_top r).1; omega) htp
                  rw [Hid, HA.out]
                  have e : adK p (k + 1) = adOf p.v (p.n + k + 1) := by
                    unfold adK
                    rw [show p.n + ((k + 1 : Nat) : Int) = p.n + k + 1 by omega]
                  rw [e]
                  exact h
                rw [HE.out.1, HE.out.2.1, HE.out.2.2.1, HE.out.2.2.2] at HNx
                obtain ⟨A', hA'⟩ : ∃ A', A' = adK p (k + 1) := ⟨_, rfl⟩
                rw [← hA'] at HNx
                have HA' := Lib.hid hA'
                obtain ⟨⟨a0, a1, a2⟩, _⟩ := HAn.out.cells
                clear hA' HE
                go_wp2_with fail
                refine HNx.out.mono ?_
                rintro e wy ⟨rfl, hby⟩
                have hlo : Below ab W2 wy := HLow.out.trans (hby.mono (Nat.le_of_lt HAn.out.lt))
                have hpu := (HAn.out.below hby).put A'
                obtain ⟨⟨b0, b1, b2⟩, f0, f1, f2⟩ := (HAn.out.below hby).cells
                have hablt : ab < wy.heap.size := (HAn.out.below hby).lt
                have hnew := (Box3.new wy A').cells
                obtain ⟨⟨n0, n1, n2⟩, _⟩ := hnew
                have HG' : Hid (GfOn W2 ((((wy.setCell ⟨ab, 0, none⟩ (.bool A'.v)).setCell ⟨ab, 1, none⟩ (.int .u64 A'.hi)).setCell ⟨ab, 2, none⟩ (.int .u64 A'.lo)).alloc (.cells #[.bool A'.v, .int .u64 A'.hi, .int .u64 A'.lo] 24)) ab p kept LV (k + 1)) := by
                  refine ⟨by rw [← HA'.out]; exact hpu.below (bal (Below.refl _ _) _), ?_, by omega, fr_past HG.out.fr HFk⟩
                  exact (((hlo.setCell (p := ⟨ab, 0, none⟩) (Nat.le_refl _) _).setCell (p := ⟨ab, 1, none⟩) (Nat.le_refl _) _).setCell (p := ⟨ab, 2, none⟩) (Nat.le_refl _) _).alloc (Nat.le_of_lt hpu.lt) _
                clear hlo hpu HNx a0 a1 a2 hby
                go_wp2_with fail
                go_roundw
                case rel => exact ⟨k + 1, rfl, by go_num, by omega, HG'⟩
                case measure => simp [intOf]; omega
              · have HE : Hid (nxB A.v A.hi A.lo = false) := by
                  have e : A = adOf p.v (top p.v - 1) := by
                    rw [HA.out]
                    unfold adK
                    rw [show p.n + (k : Int) = top p.v - 1 by have := HG.out.top; omega]
                  rw [Hid, e]
                  exact next_end p.v
                rw [HE.out] at HNx
                have HFn : Hid (firstK p kept LV = none) := firstK_none fun j hj => fr_past HG.out.fr HFk j (by have := (Pf.n_top r).2; have := Pf.many_amt (p := p); omega) hj
                obtain ⟨⟨a0, a1, a2⟩, _⟩ := HAn.out.cells
                generalize nxV A.v A.hi A.lo = nv at *
                generalize nxH A.v A.hi A.lo = nh at *
                generalize nxL A.v A.hi A.lo = nl at *
                clear HE
                go_wp2_with fail
                refine HNx.out.mono ?_
                rintro e wy ⟨rfl, hby⟩
                have hlo : Below ab W2 (wy.alloc (.cells #[.bool nv, .int .u64 nh, .int .u64 nl] 24)) := (HLow.out.trans (hby.mono (Nat.le_of_lt HAn.out.lt))).alloc (Nat.le_of_lt (HAn.out.below hby).lt) _
                have hU := HU3.out _ hlo
                obtain ⟨wz, hwz⟩ : ∃ wz, wz = wy.alloc (.cells #[.bool nv, .int .u64 nh, .int .u64 nl] 24) := ⟨_, rfl⟩
                rw [← hwz] at hlo hU
                have HU := Lib.hid hU
                obtain ⟨⟨u0, u1, u2⟩, _⟩ := (hU.put zeroAd).cells
                have HFin : Hid (Below w.heap.size w (((wz.setCell ⟨w.heap.size + 1, 0, none⟩ (.bool false)).setCell ⟨w.heap.size + 1, 1, none⟩ (.int .u64 0)).setCell ⟨w.heap.size + 1, 2, none⟩ (.int .u64 0))) :=
                  bse (bse (bse (HB2.out _ hlo) (by show _ ≤ w.heap.size + 1; omega) _) (by show _ ≤ w.heap.size + 1; omega) _) (by show _ ≤ w.heap.size + 1; omega) _
                simp only [zeroAd] at u0 u1 u2
                obtain ⟨⟨z0, z1, z2⟩, y0, y1, y2⟩ := hU.cells
                rw [hwz] at z0 z1 z2 y0 y1 y2
                have HWz := Lib.hid hwz
                clear hU hlo hby HNx a0 a1 a2 hwz
                go_wp2_with fail
                rw [← HWz.out]
                refine ⟨rfl, .tuple #[.slice none 0 0, .agg #[.bool false, .int .u64 0, .int .u64 0], .bool false], by simp [results, Try.f11, go_sem, u0, u1, u2], .inr ⟨HFn.out, rfl⟩, HFin.out⟩
    · obtain rfl : k = 16 := by omega
      have HFn : Hid (firstK p kept LV = none) := firstK_none fun j hj => HG.out.fr j (by omega) hj
      have hU := HU3.out _ HG.out.low
      obtain ⟨⟨z0, z1, z2⟩, y0, y1, y2⟩ := hU.cells
      obtain ⟨⟨u0, u1, u2⟩, _⟩ := (hU.put zeroAd).cells
      have HFin : Hid (Below w.heap.size w (((wr.setCell ⟨w.heap.size + 1, 0, none⟩ (.bool false)).setCell ⟨w.heap.size + 1, 1, none⟩ (.int .u64 0)).setCell ⟨w.heap.size + 1, 2, none⟩ (.int .u64 0))) :=
        bse (bse (bse (HB2.out _ HG.out.low) (by show _ ≤ w.heap.size + 1; omega) _) (by show _ ≤ w.heap.size + 1; omega) _) (by show _ ≤ w.heap.size + 1; omega) _
      simp only [zeroAd] at u0 u1 u2
      clear hU
      go_wp2_with fail
      refine ⟨rfl, .tuple #[.slice none 0 0, .agg #[.bool false, .int .u64 0, .int .u64 0], .bool false], by simp [results, Try.f11, go_sem, u0, u1, u2], .inr ⟨HFn.out, rfl⟩, HFin.out⟩
end Go.Proofs.Ytiiankekobgebaa

namespace Go.Proofs.Ytiiankekobgebaa
open Go.RowKit Go.Shelf

/-- A row of the call's own lies behind what lay. -/
theorem own_after {α : Type} {E : Enc α} {w : World} {B t : Nat} {a : Option Addr} {n c : Nat} {l : List α} (h : w.ownsRow B t E.k (.slice a n c) l.length (rowOf E l)) : ∀ g o, a = some ⟨g, o, none⟩ → B ≤ g := fun g o e => by
  subst e
  rcases h.2 with ⟨e, _⟩ | ⟨g', c', cur, e, hb, _⟩
  · simp at e
  · simp at e
    obtain ⟨⟨rfl, _⟩, _⟩ := e
    exact hb
/-- What a grant answers: the errno, the leases, the address. -/
def gOut (p : Pf) (kept : List Ad) (l : List Ls) (who : ByteArray) (now ttl : Int) : Int × List Ls × Ad :=
  if grantE p kept l who now ttl = 0 then (match grantR p kept (live l now) who (now + ttl) with | some (m, x) => (0, m, x) | none => (8, [], zeroAd)) else (grantE p kept l who now ttl, [], zeroAd)
theorem gOut_bad {p : Pf} {kept : List Ad} {l : List Ls} {who : ByteArray} {now ttl : Int} (h : ¬ grantE p kept l who now ttl = 0) : gOut p kept l who now ttl = (grantE p kept l who now ttl, [], zeroAd) := by unfold gOut; rw [if_neg h]
theorem gOut_some {p : Pf} {kept : List Ad} {l : List Ls} {who : ByteArray} {now ttl : Int} {m : List Ls} {x : Ad} (h : grantE p kept l who now ttl = 0) (hr : grantR p kept (live l now) who (now + ttl) = some (m, x)) : gOut p kept l who now ttl = (0, m, x) := by unfold gOut; rw [if_pos h, hr]
theorem gOut_none {p : Pf} {kept : List Ad} {l : List Ls} {who : ByteArray} {now ttl : Int} (h : grantE p kept l who now ttl = 0) (hr : grantR p kept (live l now) who (now + ttl) = none) : gOut p kept l who now ttl = (8, [], zeroAd) := by unfold gOut; rw [if_pos h, hr]
theorem lgrant_any (p : Pf) (hp : p.Ok) (ka : Option Addr) (kc : Nat) (kept : List Ad) (la : Option Addr) (lc : Nat) (l : List Ls) (who : ByteArray) (now ttl : Int) (w : World) (hk : Lies adE w ka kept) (hs : Lies lsE w la l) :
    Calls Try.prog 5 #[.agg #[.bool p.v, .int .u64 p.hi, .int .u64 p.lo, .int .i64 p.b, .slice ka kept.length kc], .slice la l.length lc, .string who, .int .i64 now, .int .i64 ttl] w fun e w' => ∃ a4 c4, e = .returned (.tuple #[.slice a4 (gOut p kept l who now ttl).2.1.length c4, .agg #[.bool (gOut p kept l who now ttl).2.2.v, .int .u64 (gOut p kept l who now ttl).2.2.hi, .int .u64 (gOut p kept l who now ttl).2.2.lo], .int .i64 (gOut p kept l who now ttl).1]) ∧ Lies lsE w' a4 (gOut p kept l who now ttl).2.1 ∧ Below w.heap.size w w' := by
  by_cases h0 : grantE p kept l who now ttl = 0
  · refine (lgrant_ok p hp ka kc kept la lc l who now ttl w hk hs h0).mono ?_
    rintro e w' ⟨(⟨m, x, v', hr, rfl, ho⟩ | ⟨hr, rfl⟩), hb⟩
    · obtain ⟨a4, c4, rfl, hl⟩ := own_lies ho
      rw [gOut_some h0 hr]
      exact ⟨a4, c4, rfl, hl, hb⟩
    · rw [gOut_none h0 hr]
      exact ⟨none, 0, rfl, Lies.nil _ _ _, hb⟩
  · refine (lgrant_bad p hp ka kc kept la lc l who now ttl w hk hs h0).mono ?_
    rintro e w' ⟨rfl, hb⟩
    rw [gOut_bad h0]
    exact ⟨none, 0, rfl, Lies.nil _ _ _, hb⟩
/-- What Drop answers. -/
def dropL (l : List Ls) (now : Int) : List Ls := if lookL l now = 0 then live l now else []
def dropN (l : List Ls) (now : Int) : Int := if lookL l now = 0 then (l.length : Int) - ((live l now).length : Int) else 0
theorem ldrop_any (a : Option Addr) (c : Nat) (l : List Ls) (now : Int) (w : World) (hs : Lies lsE w a l) :
    Calls Try.prog 6 #[.slice a l.length c, .int .i64 now] w fun e w' => ∃ a4 c4, e = .returned (.tuple #[.slice a4 (dropL l now).length c4, .int .i64 (dropN l now), .int .i64 (lookL l now)]) ∧ Lies lsE w' a4 (dropL l now) ∧ Below w.heap.size w w' := by
  unfold dropL dropN
  by_cases h0 : lookL l now = 0
  · rw [if_pos h0, if_pos h0]
    refine (drop_ok a c l now w hs h0).mono ?_
    rintro e w' ⟨v', rfl, ho, hb⟩
    obtain ⟨a4, c4, rfl, hl⟩ := own_lies ho
    rw [h0]
    exact ⟨a4, c4, rfl, hl, hb⟩
  · rw [if_neg h0, if_neg h0]
    refine (drop_bad a c l now w hs h0).mono ?_
    rintro e w' ⟨rfl, hb⟩
    exact ⟨none, 0, rfl, Lies.nil _ _ _, hb⟩
theorem live_sub {l : List Ls} {now : Int} {x : Ls} (h : x ∈ live l now) : x ∈ l := (List.mem_filter.1 h).1
theorem rgrant_any (p : Pf) (hp : p.Ok) (ka : Option Addr) (kc : Nat) (kept : List Ad) (a : Option Addr) (c : Nat) (l : List Ls) (who : ByteArray) (now ttl : Int) (w : World) (hk : Lies adE w ka kept) (hs : Lies lsE w a l) (h0 : grantE p kept l who now ttl = 0) :
    Calls Try.prog 11 #[.agg #[.bool p.v, .int .u64 p.hi, .int .u64 p.lo, .int .i64 p.b, .slice ka kept.length kc], .slice a l.length c, .string who, .int .i64 now, .int .i64 ttl] w fun e w' => ((∃ m x a4 c4, grantR p kept (live l now) who (now + ttl) = some (m, x) ∧ e = .returned (.tuple #[.slice a4 m.length c4, .agg #[.bool x.v, .int .u64 x.hi, .int .u64 x.lo], .bool true]) ∧ Lies lsE w' a4 m ∧ (∀ g o, a4 = some ⟨g, o, none⟩ → w.heap.size ≤ g)) ∨ (grantR p kept (live l now) who (now + ttl) = none ∧ e = .returned (.tuple #[.slice none 0 0, .agg #[.bool false, .int .u64 0, .int .u64 0], .bool false]))) ∧ Below w.heap.size w w' := by
  obtain ⟨hc0, _, ht1, ht2⟩ := grant_zero h0
  obtain ⟨hp0, hl0, _⟩ := check_zero hc0
  obtain ⟨hpc, hwd, hkl, _⟩ := pool_zero hp0
  have hn := look_now hl0
  have hll := look_len hl0
  have r : p.R := (right_iff p.v p.hi p.lo p.b hp.1 hp.2.1 hp.2.2.1 hp.2.2.2).1 hpc
  have hW := hasWho_fun who
  cases hfi : (live l now).findIdx? (Ls.hasWho who) with
  | some i =>
    obtain ⟨hil, _, _⟩ := List.findIdx?_eq_some_iff_getElem.1 hfi
    refine (rgrant_has p ka kc kept a c l who now ttl i w hll hs hn ⟨ht1, ht2⟩ hfi hil).mono ?_
    rintro e w' ⟨v', rfl, ho, hb⟩
    have ho' := ho
    rw [show (live l now).length = ((live l now).set i ⟨(live l now)[i].a, (live l now)[i].who, now + ttl⟩).length by simp] at ho'
    obtain ⟨a4, c4, rfl, hl⟩ := own_lies ho'
    refine ⟨.inl ⟨(live l now).set i ⟨(live l now)[i].a, (live l now)[i].who, now + ttl⟩, (live l now)[i].a, a4, c4, ?_, rfl, hl, own_after ho'⟩, hb⟩
    unfold grantR
    rw [hW, hfi]
    simp [hil]
  | none =>
    refine (rgrant_new p r hwd ka kc kept w (fun W hb => hk.below hb) (by omega) a c l who now ttl hll hs hn ⟨ht1, ht2⟩ (fun x hx => rgt_chk (look_rgt hl0 x (live_sub hx))) hfi).mono ?_
    rintro e w' ⟨(⟨k, v', hf, rfl, ho⟩ | ⟨hf, rfl⟩), hb⟩
    · obtain ⟨a4, c4, rfl, hl⟩ := own_lies ho
      refine ⟨.inl ⟨insOf ⟨adK p k, who, now + ttl⟩ (live l now), adK p k, a4, c4, ?_, rfl, hl, own_after ho⟩, hb⟩
      unfold grantR
      rw [hW, hfi, hf]
      rfl
    · refine ⟨.inr ⟨?_, rfl⟩, hb⟩
      unfold grantR
      rw [hW, hfi, hf]
      rfl
end Go.Proofs.Ytiiankekobgebaa

namespace Go.Proofs.Ytiiankekobgebaa
open Go.RowKit Go.Shelf

theorem sameL_self (l : List Ls) : sameL l l = true := by
  induction l with
  | nil => rfl
  | cons x r ih =>
    show (eqL x x && sameL r r) = true
    rw [(eqL_iff x x).2 rfl]
    exact ih
set_option maxHeartbeats 4000000 in
theorem lare_any (a b : Option Addr) (c d : Nat) (l r : List Ls) (e : Int) (w : World) (hl : l.length ≤ 1000) (hs : Lies lsE w a l) (ht : Lies lsE w b r) (h0 : e = 0 → r = l) (h1 : ¬ e = 0 → l = []) :
    Calls Try.prog 16 #[.slice a l.length c, .int .i64 e, .int .i64 e, .slice b r.length d] w fun x w' => x = .returned (.bool true) ∧ Below w.heap.size w w' := by
  by_cases he : e = 0
  · subst he
    have hr := h0 rfl
    subst hr
    have HC := Lib.hid (rsame_any a b c d r r w hl hl hs ht)
    rw [sameL_self] at HC
    go_enter Try.func16, Try.ntmps16
    go_wp2_with fail
    refine HC.out.mono ?_
    rintro x w1 ⟨rfl, hb⟩
    go_wp2_with fail
    go_ret
    exact ⟨rfl, hb⟩
  · have hr := h1 he
    subst hr
    have HC := Lib.hid (rsame_any a none c 0 [] [] w (by simp) (by simp) hs (Lies.nil _ _ _))
    rw [sameL_self] at HC
    have hI : (e != 0) = true := by rw [bne_iff_ne]; exact he
    simp only [List.length_nil] at HC ⊢
    clear he h0 h1 hs ht
    go_enter Try.func16, Try.ntmps16
    go_wp2_with fail
    refine HC.out.mono ?_
    rintro x w1 ⟨rfl, hb⟩
    go_wp2_with fail
    go_ret
    exact ⟨rfl, hb⟩
end Go.Proofs.Ytiiankekobgebaa
