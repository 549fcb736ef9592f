/- TableTree: what holds of trees of prefixes, the walk, the law. -/
import Derived.Test.YtghbonlignmdoaaGreatDoorTrA
import Derived.Test.YtghbonlignmdoaaGreatDoorPfF
import Derived.Test.YtghbonlignmdoaaGreatDoorOpenP
import Derived.Test.YtghbonlignmdoaaGreatDoorPBb
set_option linter.unusedVariables false
set_option linter.unusedSimpArgs false
namespace Go.Proofs.YtghbonlignmdoaaGreatDoor
open Go.RowKit

/-- How many are met among the first n places: those below each, and each that is below none. -/
def metS (ps : List Pf) (N : Nat) : Nat → Nat
  | 0 => 0
  | n + 1 => metS ps N n + (lowL ps n N).length + (if (par ps n).isSome then 0 else 1)
def ltP (ps : List Pf) (n i : Nat) : Bool := match par ps i with | some m => decide (m < n) | none => false
theorem count_step (ps : List Pf) (n : Nat) : ∀ l : List Nat, (l.filter (ltP ps (n + 1))).length = (l.filter (ltP ps n)).length + (l.filter fun i => par ps i == some n).length
  | [] => rfl
  | i :: l => by
    have ih := count_step ps n l
    simp only [List.filter_cons]
    unfold ltP at *
    cases hp : par ps i with
    | none => simpa using ih
    | some m =>
      simp only
      rcases Nat.lt_trichotomy m n with h | h | h
      · have h1 : m < n + 1 := by omega
        have h2 : ¬ m = n := by omega
        simp [h, h1, h2] ; omega
      · subst h
        simp ; omega
      · have h1 : ¬ m < n + 1 := by omega
        have h2 : ¬ m = n := by omega
        have h3 : ¬ m < n := by omega
        simp [h1, h2, h3] ; omega
theorem metS_eq (ps : List Pf) (N : Nat) : ∀ n, metS ps N n = ((List.range N).filter (ltP ps n)).length + ((List.range n).filter fun i => (par ps i).isNone).length
  | 0 => by
    have : (List.range N).filter (ltP ps 0) = [] := by
      rw [List.filter_eq_nil_iff]
      intro i _
      unfold ltP
      cases par ps i <;> simp
    rw [this]; rfl
  | n + 1 => by
    rw [metS, metS_eq ps N n, count_step, List.range_succ, List.filter_append, List.length_append]
    have : (List.filter (fun i => (par ps i).isNone) [n]).length = if (par ps n).isSome then 0 else 1 := by
      cases hp : par ps n <;> simp [hp]
    rw [this]
    unfold lowL
    omega
theorem metS_all (ps : List Pf) : metS ps ps.length ps.length = ps.length := by
  rw [metS_eq]
  have key : ∀ l : List Nat, (l.filter (ltP ps ps.length)).length + (l.filter fun i => (par ps i).isNone).length = l.length := by
    intro l
    induction l with
    | nil => rfl
    | cons i l ih =>
      simp only [List.filter_cons]
      cases hp : par ps i with
      | none => simp [ltP, hp]; omega
      | some m =>
        have := (par_lt hp).2
        simp [ltP, hp, this]; omega
  rw [key, List.length_range]
theorem metS_le (ps : List Pf) (N n : Nat) (hN : N ≤ 12) (hn : n ≤ 12) : metS ps N n ≤ 24 := by
  rw [metS_eq]
  have h1 := List.length_filter_le (ltP ps n) (List.range N)
  have h2 := List.length_filter_le (fun i => (par ps i).isNone) (List.range n)
  rw [List.length_range] at h1 h2
  omega
theorem lowL_mem {ps : List Pf} {n N i : Nat} (h : i ∈ lowL ps n N) : i < N ∧ par ps i = some n := by
  unfold lowL at h
  rw [List.mem_filter] at h
  exact ⟨List.mem_range.1 h.1, by simpa using h.2⟩
theorem par_has {ps : List Pf} {n i : Nat} (hi : i < ps.length) (h : par ps i = some n) : ∃ hn : n < ps.length, (ps[n]).has ps[i] = true := by
  rw [par, List.getElem?_eq_getElem hi] at h
  simp only at h
  obtain ⟨h1, h2, _⟩ := lastI_some h
  rw [List.length_take] at h1
  rw [List.getElem_take] at h2
  exact ⟨by omega, h2⟩
theorem has_self {p : Pf} (r : p.R) : p.has p = true := by
  rw [has_iff r r]
  have := amt_pos p.v p.b
  exact ⟨Int.le_refl _, rfl, Int.le_refl _, by omega⟩
/-- What has something has the last one that has it. -/
theorem last_under {ps : List Pf} (hR : ∀ p ∈ ps, p.R) (pw : ps.Pairwise (fun p q => p.cmp q < 0)) {s : Pf} (hs : s.R) {i : Nat} (h : lastI (fun p => p.has s) ps = some i) {k : Nat} (hk : k < ps.length) (hh : (ps[k]).has s = true) :
    ∃ hi : i < ps.length, (ps[k]).has ps[i] = true := by
  obtain ⟨hi, h1, h2⟩ := lastI_some h
  refine ⟨hi, ?_⟩
  rcases Nat.lt_trichotomy k i with h | h | h
  · exact has_has (hR _ (List.getElem_mem hk)) (hR _ (List.getElem_mem hi)) hs hh h1 (rise_lt pw hi h)
  · subst h; exact has_self (hR _ (List.getElem_mem hk))
  · have := h2 k hk h
    rw [hh] at this; exact absurd this (by decide)
end Go.Proofs.YtghbonlignmdoaaGreatDoor

namespace Go.Proofs.YtghbonlignmdoaaGreatDoor
open Go.RowKit

theorem rwide_any (v : Bool) (hi lo : Int) (w : World) :
    Calls Tryz.prog 31 #[.agg #[.bool v, .int .u64 hi, .int .u64 lo]] w fun e w' => e = .returned (.int .i64 (wid v)) ∧ Below w.heap.size w w' := by
  have B0 : Hid (Below w.heap.size w (w.alloc (.cells #[.bool v, .int .u64 hi, .int .u64 lo] 25))) := bal (Below.refl _ _) _
  cases v
  all_goals
    go_enter Tryz.func31, Tryz.ntmps31
    go_wp2
    go_ret
    exact ⟨rfl, B0.out⟩





theorem rhost_any (v : Bool) (xh xl : Int) (w : World) :
    Calls Tryz.prog 12 #[.agg #[.bool v, .int .u64 xh, .int .u64 xl]] w fun e w' => e = .returned (.agg #[.bool v, .int .u64 xh, .int .u64 xl, .int .i64 (wid v)]) ∧ Below w.heap.size w w' := by
  have hW : Hid (∀ w : World, Calls Tryz.prog 31 #[.agg #[.bool v, .int .u64 xh, .int .u64 xl]] w fun e w' => e = .returned (.int .i64 (wid v)) ∧ Below w.heap.size w w') := fun w => rwide_any v xh xl w
  have P0 := (Has3.new w (.bool v) (.int .u64 xh) (.int .u64 xl) 25).alloc (.cells #[.bool false, .int .u64 0, .int .u64 0, .int .i64 0] 37)
  have B0 := bal (bal (Below.refl w.heap.size w) (.cells #[.bool v, .int .u64 xh, .int .u64 xl] 25)) (.cells #[.bool false, .int .u64 0, .int .u64 0, .int .i64 0] 37)
  have Q0 := Own4.new (w.alloc (.cells #[.bool v, .int .u64 xh, .int .u64 xl] 25)) (.bool false) (.int .u64 0) (.int .u64 0) (.int .i64 0) 37
  rw [show (w.alloc (.cells #[.bool v, .int .u64 xh, .int .u64 xl] 25)).heap.size = w.heap.size + 1 by simp] at Q0
  generalize wid v = d at *
  go_enter Tryz.func12, Tryz.ntmps12
  go_wp2_with fail
  generalize (w.alloc (.cells #[.bool v, .int .u64 xh, .int .u64 xl] 25)).alloc (.cells #[.bool false, .int .u64 0, .int .u64 0, .int .i64 0] 37) = W at *
  have HP : Hid (Has3 W.drew w.heap.size (.bool v) (.int .u64 xh) (.int .u64 xl)) := P0
  have HQ : Hid (Own4 W.drew (w.heap.size + 1) (.bool false) (.int .u64 0) (.int .u64 0) (.int .i64 0)) := Q0
  have HB : Hid (Below w.heap.size w W.drew) := B0.drew
  obtain ⟨a0, a1, a2, a3⟩ := P0
  clear B0 Q0
  go_region_with (go_at_call 31; refine (hW.out _).mono ?_; rintro e w3 ⟨rfl, hb3⟩; obtain ⟨p0, p1, p2, p3⟩ := HP.out.below hb3; obtain ⟨⟨q0, q1, q2, q3⟩, ⟨q4, q5, q6, q7⟩, q8⟩ := HQ.out.below hb3; have HB3 : Hid (Below w.heap.size w w3) := btr HB.out hb3; clear hb3)
  all_goals
    go_wp2
    refine bodyPost_ret (v := .agg #[.bool v, .int .u64 xh, .int .u64 xl, .int .i64 d]) ?_ rfl ⟨rfl, ?_⟩
    · simp [results, Tryz.results12, go_sem, q0, q1, q2, q3]
    · exact bse (bse (bse (bse HB3.out (by first | (simp; done) | (simp; omega)) _) (by first | (simp; done) | (simp; omega)) _) (by first | (simp; done) | (simp; omega)) _) (by first | (simp; done) | (simp; omega)) _

end Go.Proofs.YtghbonlignmdoaaGreatDoor

namespace Go.Proofs.YtghbonlignmdoaaGreatDoor
open Go.RowKit

/-- Places that lie in a row behind a slice. -/
def RowI (w : World) (v : Value) (L : List Nat) : Prop := (v = .slice none 0 0 ∧ L = []) ∨ ∃ g c, v = .slice (some ⟨g, 0, none⟩) L.length c ∧ g < w.heap.size ∧ ∀ j (h : j < L.length), w.cell? ⟨g, j, none⟩ = some (.int .i64 (L[j] : Nat))
theorem RowI.of {w : World} {B : Nat} {v : Value} {L : List Nat} (h : w.ownsRow B 3 1 v L.length (intsT L)) : RowI w v L := by
  obtain ⟨h1, h2⟩ := h
  rcases h2 with ⟨rfl, h2⟩ | ⟨g, c, cur, rfl, _, hc, h3, h4, h5, h6⟩
  · exact .inl ⟨rfl, List.length_eq_zero_iff.1 h2⟩
  · refine .inr ⟨g, c, rfl, (Array.getElem?_eq_some_iff.1 hc).1, fun j hj => ?_⟩
    have hj2 : (cur.toList.take (L.length * 1))[j]? = (intsT L)[j]? := by rw [h6]
    rw [List.getElem?_take_of_lt (by omega)] at hj2
    simp only [intsT, List.getElem?_map, List.getElem?_eq_getElem hj, Option.map_some] at hj2
    simp [World.cell?, hc]
    simpa using hj2
theorem Sl.at {w : World} {g o : Nat} {ps : List Pf} (h : Sl w (some ⟨g, o, none⟩) ps) (j : Nat) (hj : j < ps.length) : g < w.heap.size ∧ w.cell? ⟨g, o + j * 4, none⟩ = some (.bool ps[j].v) ∧ w.cell? ⟨g, o + j * 4 + 1, none⟩ = some (.int .u64 ps[j].hi) ∧ w.cell? ⟨g, o + j * 4 + 2, none⟩ = some (.int .u64 ps[j].lo) ∧ w.cell? ⟨g, o + j * 4 + 3, none⟩ = some (.int .i64 ps[j].b) := by
  obtain ⟨g', o', e, r⟩ := h j hj
  obtain ⟨rfl, rfl⟩ : g = g' ∧ o = o' := by simpa using e
  exact r
theorem row_keep {w w' : World} {B e s n : Nat} {v : Value} {xs : List Value} (h : w.ownsRow B e s v n xs) (hb : Below w.heap.size w w') : w'.ownsRow B e s v n xs := by
  obtain ⟨h1, h2⟩ := h
  refine ⟨h1, ?_⟩
  rcases h2 with h2 | ⟨g, c, cur, e1, e2, hc, r⟩
  · exact .inl h2
  · exact .inr ⟨g, c, cur, e1, e2, (hb.block g (Array.getElem?_eq_some_iff.1 hc).1).trans hc, r⟩
/-- The same, below a bound of blocks. -/
def RowO (B : Nat) (w : World) (p : Option Addr) (L : List Nat) : Prop := ∀ j (h : j < L.length), ∃ g, p = some ⟨g, 0, none⟩ ∧ g < B ∧ w.cell? ⟨g, j, none⟩ = some (.int .i64 (L[j] : Nat))
theorem RowI.open {w : World} {v : Value} {L : List Nat} (h : RowI w v L) : ∃ p c, v = .slice p L.length c ∧ RowO w.heap.size w p L := by
  rcases h with ⟨rfl, rfl⟩ | ⟨g, c, rfl, hg, h⟩
  · exact ⟨none, 0, rfl, fun j hj => by simp at hj⟩
  · exact ⟨_, c, rfl, fun j hj => ⟨g, rfl, hg, h j hj⟩⟩
theorem RowO.upto {B : Nat} {w w' : World} {p : Option Addr} {L : List Nat} (h : RowO B w p L) (hb : Below B w w') : RowO B w' p L := fun j hj => by
  obtain ⟨g, e, hg, hc⟩ := h j hj
  exact ⟨g, e, hg, by rw [hb.cell (p := ⟨g, j, none⟩) hg]; exact hc⟩
end Go.Proofs.YtghbonlignmdoaaGreatDoor

namespace Go.Proofs.YtghbonlignmdoaaGreatDoor
open Go.ChangeShapes Go.WideShapes Go.ChangeAt Go.WideMaps Go.WideElems Go.RowKit Go.Deep

theorem addr_add (b o k : Nat) : (⟨b, o, none⟩ : Addr).add k = ⟨b, o + k, none⟩ := by
  unfold Addr.add
  split
  · rename_i h; rw [h]; rfl
  · rfl

theorem list4 {α : Type} {l : List α} (h : l.length = 4) : ∃ a b c d, l = [a, b, c, d] := by
  match l, h with
  | [a, b, c, d], _ => exact ⟨a, b, c, d, rfl⟩

set_option maxRecDepth 100000 in
theorem open_cells {H : Type} {enc : TypeId × Value → H} {W : World} {n : Nat} {cs : List Value} {x : DataW H × List MemPlace} (hl : cs.length = 4)
    (hf : DataW.trod enc Tryz.prog W 0 (fun _ => true) true n 37 cs = some x) :
    ∃ p : Pf, cs = [.bool p.v, .int .u64 p.hi, .int .u64 p.lo, .int .i64 p.b] ∧ p.Ok := by
  obtain ⟨c0, c1, c2, c3, rfl⟩ := list4 hl
  obtain ⟨ya, yb, n, hx, _, ha, hb⟩ := trod_struct2 Tryz.underlying37 hf
  simp only [cells_addr, cells_i] at ha hb
  have ha' : DataW.trod enc Tryz.prog W 0 (fun _ => true) true n 25 [c0, c1, c2] = some ya := ha
  have hb' : DataW.trod enc Tryz.prog W 0 (fun _ => true) true n 3 [c3] = some yb := hb
  obtain ⟨y0, y1, y2, m, hya, _, h0, h1, h2⟩ := Go.Deep.trod_struct3 Tryz.underlying25 ha'
  simp only [cells_b, cells_u] at h0 h1 h2
  obtain ⟨b0, e0, rfl⟩ := DataW.trod_bool Tryz.underlying4 (show DataW.trod enc Tryz.prog W 0 (fun _ => true) true m 4 [c0] = some y0 from h0)
  obtain ⟨i1, e1, rfl, w1⟩ := DataW.trod_int Tryz.underlying23 (show DataW.trod enc Tryz.prog W 0 (fun _ => true) true m 23 [c1] = some y1 from h1)
  obtain ⟨i2, e2, rfl, w2⟩ := DataW.trod_int Tryz.underlying23 (show DataW.trod enc Tryz.prog W 0 (fun _ => true) true m 23 [c2] = some y2 from h2)
  obtain ⟨i3, e3, rfl, w3⟩ := DataW.trod_int Tryz.underlying3 hb'
  simp at e0 e1 e2 e3
  subst e0 e1 e2 e3
  obtain ⟨a1, a2⟩ := wd_of w1
  obtain ⟨a3, a4⟩ := wd_of w2
  exact ⟨⟨b0, i1, i2, i3⟩, rfl, a1, a2, a3, a4⟩

set_option maxRecDepth 100000 in
/-- A list of prefixes that came in, opened. -/
theorem open_pfsN {H : Type} {enc : TypeId × Value → H} {W : World} {base : Nat} {v : Value} {d : DataW H} {p : List MemPlace}
    (hv : Value.okWide Tryz.prog W .any base 22 v) (h : DataW.Trod enc Tryz.prog W 0 (fun _ => true) true 22 v d p) :
    ∃ (a : Option Addr) (ps : List Pf) (c : Nat), v = .slice a ps.length c ∧ ps.length ≤ c ∧ Sl W a ps ∧ (∀ p ∈ ps, p.Ok) ∧ (a = none → c = 0) := by
  obtain ⟨a0, len, cap, rfl⟩ := okWide_slice Tryz.underlying22 hv
  obtain ⟨fuel, hf⟩ := h
  rcases open_slice Tryz.underlying22 hf with ⟨hcs, _⟩ | ⟨a, len', cap', m, n, D, Pl, hcs, _, hl, _, hm, _, hel⟩
  · simp [Value.cells] at hcs
    obtain ⟨rfl, rfl, rfl⟩ := hcs
    exact ⟨none, [], 0, rfl, Nat.le_refl _, fun j hj => by simp at hj, by simp, fun _ => rfl⟩
  · simp [Value.cells] at hcs
    obtain ⟨rfl, rfl, rfl⟩ := hcs
    simp only [if_true] at hm
    subst hm
    rw [cells_pf] at hel
    have each : ∀ i, i < len → ∃ p : Pf, p.Ok ∧ ∀ k (hk : k < 4), W.cell? ((a.add (i * 4)).add k) = [Value.bool p.v, .int .u64 p.hi, .int .u64 p.lo, .int .i64 p.b][k]? := fun i hi => by
      obtain ⟨cs', h1, h2⟩ := hel i (by omega)
      obtain ⟨_, hlen, hcell⟩ := World.cells?_some h1
      obtain ⟨p, rfl, hok⟩ := open_cells hlen h2
      exact ⟨p, hok, hcell⟩
    let f : Nat → Pf := fun i => if h : i < len then (each i h).choose else ⟨false, 0, 0, 0⟩
    have hfs : ∀ i, i < len → (f i).Ok ∧ ∀ k (hk : k < 4), W.cell? ((a.add (i * 4)).add k) = [Value.bool (f i).v, .int .u64 (f i).hi, .int .u64 (f i).lo, .int .i64 (f i).b][k]? := fun i hi => by
      have := (each i hi).choose_spec
      simp only [f, hi, dif_pos]
      exact this
    refine ⟨some a, (List.range len).map f, m, by simp, by simpa using hl, ?_, ?_, fun h => by simp at h⟩
    · intro j hj
      have hj' : j < len := by simpa using hj
      obtain ⟨_, hc⟩ := hfs j hj'
      have hsp : a.spot = none := by
        have h0 := (hfs 0 (by omega)).2 0 (by decide)
        have h1 : W.cell? a = some (.bool (f 0).v) := by simpa [Addr.add] using h0
        exact World.cell?_spot h1
      obtain ⟨blk, off, spot⟩ := a
      simp only at hsp
      subst hsp
      have hlt : blk < W.heap.size := by
        have h0 := hc 0 (by decide)
        rw [addr_add, addr_add] at h0
        exact World.block_lt_of_cell? W _ h0
      refine ⟨blk, off, rfl, hlt, ?_, ?_, ?_, ?_⟩
      · have := hc 0 (by decide); rw [addr_add, addr_add] at this; simpa using this
      · have := hc 1 (by decide); rw [addr_add, addr_add] at this; simpa using this
      · have := hc 2 (by decide); rw [addr_add, addr_add] at this; simpa using this
      · have := hc 3 (by decide); rw [addr_add, addr_add] at this; simpa using this
    · intro p hp
      obtain ⟨i, hi, rfl⟩ := List.mem_map.1 hp
      exact (hfs i (List.mem_range.1 hi)).1
set_option maxRecDepth 100000 in
theorem open_pfs {H : Type} {enc : TypeId × Value → H} {W : World} {base : Nat} {v : Value} {d : DataW H} {p : List MemPlace}
    (hv : Value.okWide Tryz.prog W .any base 22 v) (h : DataW.Trod enc Tryz.prog W 0 (fun _ => true) true 22 v d p) :
    ∃ (a : Option Addr) (ps : List Pf) (c : Nat), v = .slice a ps.length c ∧ ps.length ≤ c ∧ Sl W a ps ∧ ∀ p ∈ ps, p.Ok := by
  obtain ⟨a, ps, c, h1, h2, h3, h4, _⟩ := open_pfsN hv h
  exact ⟨a, ps, c, h1, h2, h3, h4⟩
end Go.Proofs.YtghbonlignmdoaaGreatDoor

namespace Go.Proofs.YtghbonlignmdoaaGreatDoor
open Go.RowKit

theorem keepT1 {w W W' : World} {g gb o n m i : Nat} {x y : Pf} (h : (W.cell? ⟨g, o + n * 4, none⟩ = some (.bool x.v) ∧ W.cell? ⟨g, o + n * 4 + 1, none⟩ = some (.int .u64 x.hi) ∧ W.cell? ⟨g, o + n * 4 + 2, none⟩ = some (.int .u64 x.lo) ∧ W.cell? ⟨g, o + n * 4 + 3, none⟩ = some (.int .i64 x.b)) ∧ (W.cell? ⟨g, o + m * 4, none⟩ = some (.bool y.v) ∧ W.cell? ⟨g, o + m * 4 + 1, none⟩ = some (.int .u64 y.hi) ∧ W.cell? ⟨g, o + m * 4 + 2, none⟩ = some (.int .u64 y.lo) ∧ W.cell? ⟨g, o + m * 4 + 3, none⟩ = some (.int .i64 y.b)) ∧ W.cell? ⟨gb, i, none⟩ = some (.int .i64 (m : Int)) ∧ g < W.heap.size ∧ gb < W.heap.size ∧ Below w.heap.size w W) (hb : Below W.heap.size W W') : (W'.cell? ⟨g, o + n * 4, none⟩ = some (.bool x.v) ∧ W'.cell? ⟨g, o + n * 4 + 1, none⟩ = some (.int .u64 x.hi) ∧ W'.cell? ⟨g, o + n * 4 + 2, none⟩ = some (.int .u64 x.lo) ∧ W'.cell? ⟨g, o + n * 4 + 3, none⟩ = some (.int .i64 x.b)) ∧ (W'.cell? ⟨g, o + m * 4, none⟩ = some (.bool y.v) ∧ W'.cell? ⟨g, o + m * 4 + 1, none⟩ = some (.int .u64 y.hi) ∧ W'.cell? ⟨g, o + m * 4 + 2, none⟩ = some (.int .u64 y.lo) ∧ W'.cell? ⟨g, o + m * 4 + 3, none⟩ = some (.int .i64 y.b)) ∧ W'.cell? ⟨gb, i, none⟩ = some (.int .i64 (m : Int)) ∧ g < W'.heap.size ∧ gb < W'.heap.size ∧ Below w.heap.size w W' := by
  obtain ⟨k, _⟩ := bcell hb
  obtain ⟨⟨a0, a1, a2, a3⟩, ⟨b0, b1, b2, b3⟩, c0, hg, hgb, h3⟩ := h
  exact ⟨⟨by rw [k _ _ hg]; exact a0, by rw [k _ _ hg]; exact a1, by rw [k _ _ hg]; exact a2, by rw [k _ _ hg]; exact a3⟩, ⟨by rw [k _ _ hg]; exact b0, by rw [k _ _ hg]; exact b1, by rw [k _ _ hg]; exact b2, by rw [k _ _ hg]; exact b3⟩, by rw [k _ _ hgb]; exact c0, Nat.lt_of_lt_of_le hg hb.size, Nat.lt_of_lt_of_le hgb hb.size, btr h3 hb⟩
theorem keepT2 {w W W' : World} {g o k : Nat} {x : Pf} {v : Bool} {xh xl : Int} (h : (W.cell? ⟨g, o + k * 4, none⟩ = some (.bool x.v) ∧ W.cell? ⟨g, o + k * 4 + 1, none⟩ = some (.int .u64 x.hi) ∧ W.cell? ⟨g, o + k * 4 + 2, none⟩ = some (.int .u64 x.lo) ∧ W.cell? ⟨g, o + k * 4 + 3, none⟩ = some (.int .i64 x.b)) ∧ (W.cell? ⟨w.heap.size, 0, none⟩ = some (.bool v) ∧ W.cell? ⟨w.heap.size, 1, none⟩ = some (.int .u64 xh) ∧ W.cell? ⟨w.heap.size, 2, none⟩ = some (.int .u64 xl)) ∧ g < W.heap.size ∧ w.heap.size < W.heap.size ∧ Below w.heap.size w W) (hb : Below W.heap.size W W') : (W'.cell? ⟨g, o + k * 4, none⟩ = some (.bool x.v) ∧ W'.cell? ⟨g, o + k * 4 + 1, none⟩ = some (.int .u64 x.hi) ∧ W'.cell? ⟨g, o + k * 4 + 2, none⟩ = some (.int .u64 x.lo) ∧ W'.cell? ⟨g, o + k * 4 + 3, none⟩ = some (.int .i64 x.b)) ∧ (W'.cell? ⟨w.heap.size, 0, none⟩ = some (.bool v) ∧ W'.cell? ⟨w.heap.size, 1, none⟩ = some (.int .u64 xh) ∧ W'.cell? ⟨w.heap.size, 2, none⟩ = some (.int .u64 xl)) ∧ g < W'.heap.size ∧ w.heap.size < W'.heap.size ∧ Below w.heap.size w W' := by
  obtain ⟨kk, _⟩ := bcell hb
  obtain ⟨⟨a0, a1, a2, a3⟩, ⟨b0, b1, b2⟩, hg, hw, h3⟩ := h
  exact ⟨⟨by rw [kk _ _ hg]; exact a0, by rw [kk _ _ hg]; exact a1, by rw [kk _ _ hg]; exact a2, by rw [kk _ _ hg]; exact a3⟩, ⟨by rw [kk _ _ hw]; exact b0, by rw [kk _ _ hw]; exact b1, by rw [kk _ _ hw]; exact b2⟩, Nat.lt_of_lt_of_le hg hb.size, Nat.lt_of_lt_of_le hw hb.size, btr h3 hb⟩
theorem keepT3 {w W W' : World} {g o k j : Nat} {x y : Pf} (h : (W.cell? ⟨g, o + k * 4, none⟩ = some (.bool x.v) ∧ W.cell? ⟨g, o + k * 4 + 1, none⟩ = some (.int .u64 x.hi) ∧ W.cell? ⟨g, o + k * 4 + 2, none⟩ = some (.int .u64 x.lo) ∧ W.cell? ⟨g, o + k * 4 + 3, none⟩ = some (.int .i64 x.b)) ∧ (W.cell? ⟨g, o + j * 4, none⟩ = some (.bool y.v) ∧ W.cell? ⟨g, o + j * 4 + 1, none⟩ = some (.int .u64 y.hi) ∧ W.cell? ⟨g, o + j * 4 + 2, none⟩ = some (.int .u64 y.lo) ∧ W.cell? ⟨g, o + j * 4 + 3, none⟩ = some (.int .i64 y.b)) ∧ g < W.heap.size ∧ Below w.heap.size w W) (hb : Below W.heap.size W W') : (W'.cell? ⟨g, o + k * 4, none⟩ = some (.bool x.v) ∧ W'.cell? ⟨g, o + k * 4 + 1, none⟩ = some (.int .u64 x.hi) ∧ W'.cell? ⟨g, o + k * 4 + 2, none⟩ = some (.int .u64 x.lo) ∧ W'.cell? ⟨g, o + k * 4 + 3, none⟩ = some (.int .i64 x.b)) ∧ (W'.cell? ⟨g, o + j * 4, none⟩ = some (.bool y.v) ∧ W'.cell? ⟨g, o + j * 4 + 1, none⟩ = some (.int .u64 y.hi) ∧ W'.cell? ⟨g, o + j * 4 + 2, none⟩ = some (.int .u64 y.lo) ∧ W'.cell? ⟨g, o + j * 4 + 3, none⟩ = some (.int .i64 y.b)) ∧ g < W'.heap.size ∧ Below w.heap.size w W' := by
  obtain ⟨kk, _⟩ := bcell hb
  obtain ⟨⟨a0, a1, a2, a3⟩, ⟨b0, b1, b2, b3⟩, hg, h3⟩ := h
  exact ⟨⟨by rw [kk _ _ hg]; exact a0, by rw [kk _ _ hg]; exact a1, by rw [kk _ _ hg]; exact a2, by rw [kk _ _ hg]; exact a3⟩, ⟨by rw [kk _ _ hg]; exact b0, by rw [kk _ _ hg]; exact b1, by rw [kk _ _ hg]; exact b2, by rw [kk _ _ hg]; exact b3⟩, Nat.lt_of_lt_of_le hg hb.size, btr h3 hb⟩
set_option maxHeartbeats 4000000 in
theorem tt_bad (a : Option Addr) (c N : Nat) (v : Bool) (xh xl : Int) (w : World)
    (CB : Hid (∀ w' : World, Calls Tryz.prog 5 #[] w' fun e w'' => e = .returned (.bool true) ∧ Below w'.heap.size w' w''))
    (CQ : Hid (∀ w' : World, Below w.heap.size w w' → Calls Tryz.prog 6 #[] w' fun e w'' => e = .returned (.bool true) ∧ Below w'.heap.size w' w''))
    (r : Int) (hI : (r != 0) = true) (CC : Hid (∀ w' : World, Below w.heap.size w w' → Calls Tryz.prog 7 #[.slice a N c] w' fun e w'' => e = .returned (.int .i64 r) ∧ Below w'.heap.size w' w'')) :
    Calls Tryz.prog 3 #[.slice a N c, .agg #[.bool v, .int .u64 xh, .int .u64 xl]] w fun e w' => e = .returned (.bool true) ∧ Below w.heap.size w w' := by
  have HA := Lib.hid (Has3.new w (.bool v) (.int .u64 xh) (.int .u64 xl) 25)
  have HB := Lib.hid (bal (Below.refl w.heap.size w) (.cells #[.bool v, .int .u64 xh, .int .u64 xl] 25))
  go_enter Tryz.func3, Tryz.ntmps3
  go_wp2_with fail
  refine (CB.out _).mono ?_
  rintro e w1 ⟨rfl, hb⟩
  replace HA := Lib.hid (HA.out.below hb)
  replace HB := Lib.hid (btr HB.out hb)
  clear hb
  go_wp2_with fail
  refine (CQ.out _ HB.out).mono ?_
  rintro e w2 ⟨rfl, hb⟩
  replace HA := Lib.hid (HA.out.below hb)
  replace HB := Lib.hid (btr HB.out hb)
  clear hb
  go_wp2_with fail
  refine (CC.out _ HB.out).mono ?_
  rintro e w3 ⟨rfl, hb⟩
  replace HA := Lib.hid (HA.out.below hb)
  replace HB := Lib.hid (btr HB.out hb)
  clear hb
  go_wp2
  go_ret
  exact ⟨rfl, HB.out⟩

set_option maxHeartbeats 64000000 in
set_option maxRecDepth 100000 in
theorem tt_ok (a : Option Addr) (c N : Nat) (v : Bool) (xh xl : Int) (w : World)
    (CB : Hid (∀ w' : World, Calls Tryz.prog 5 #[] w' fun e w'' => e = .returned (.bool true) ∧ Below w'.heap.size w' w''))
    (CQ : Hid (∀ w' : World, Below w.heap.size w w' → Calls Tryz.prog 6 #[] w' fun e w'' => e = .returned (.bool true) ∧ Below w'.heap.size w' w''))
    (ps : List Pf) (hN : N = ps.length) (h12 : N ≤ 12) (hR : ∀ p ∈ ps, p.R) (pw : ps.Pairwise (fun p q => p.cmp q < 0)) (hs : Sl w a ps) (fi fe : Int)
    (CC : Hid (∀ w' : World, Below w.heap.size w w' → Calls Tryz.prog 7 #[.slice a N c] w' fun e w'' => e = .returned (.int .i64 0) ∧ Below w'.heap.size w' w''))
    (CL : Hid (∀ (n : Nat) (w' : World), n < N → Below w.heap.size w w' → Calls Tryz.prog 8 #[.slice a N c, .int .i64 n] w' fun e w'' => ∃ v, e = .returned (.tuple #[v, .int .i64 0]) ∧ w''.ownsRow w'.heap.size 3 1 v (lowL ps n N).length (intsT (lowL ps n N)) ∧ Below w'.heap.size w' w''))
    (CA : Hid (∀ (n k : Nat) (w' : World), n < N → par ps n = some k → Below w.heap.size w w' → Calls Tryz.prog 9 #[.slice a N c, .int .i64 n] w' fun e w'' => e = .returned (.tuple #[.int .i64 (k : Int), .int .i64 0]) ∧ Below w'.heap.size w' w''))
    (CA5 : Hid (∀ (n : Nat) (w' : World), n < N → par ps n = none → Below w.heap.size w w' → Calls Tryz.prog 9 #[.slice a N c, .int .i64 n] w' fun e w'' => e = .returned (.tuple #[.int .i64 0, .int .i64 5]) ∧ Below w'.heap.size w' w''))
    (CF : Hid (∀ w' : World, Below w.heap.size w w' → Calls Tryz.prog 11 #[.slice a N c, .agg #[.bool v, .int .u64 xh, .int .u64 xl]] w' fun e w'' => e = .returned (.tuple #[.int .i64 fi, .int .i64 fe]) ∧ Below w'.heap.size w' w''))
    (HF : Hid ((fe ≠ 0 ∧ fi = 0) ∨ (fe = 0 ∧ Right v xh xl (wid v) ∧ ∃ j : Nat, fi = j ∧ j < N ∧ lastI (fun p => p.has ⟨v, xh, xl, wid v⟩) ps = some j))) :
    Calls Tryz.prog 3 #[.slice a N c, .agg #[.bool v, .int .u64 xh, .int .u64 xl]] w fun e w' => e = .returned (.bool true) ∧ Below w.heap.size w w' := by
  have HA := Lib.hid (Has3.new w (.bool v) (.int .u64 xh) (.int .u64 xl) 25)
  have HB := Lib.hid (bal (Below.refl w.heap.size w) (.cells #[.bool v, .int .u64 xh, .int .u64 xl] 25))
  have HR := Lib.hid hR
  have Hpw := Lib.hid pw
  have Hs := Lib.hid hs
  have HN := Lib.hid hN
  have CP : Hid (∀ (x y : Pf) (w' : World), x.R → y.R → Calls Tryz.prog 10 #[.agg #[.bool x.v, .int .u64 x.hi, .int .u64 x.lo, .int .i64 x.b], .agg #[.bool y.v, .int .u64 y.hi, .int .u64 y.lo, .int .i64 y.b]] w' fun e w'' => e = .returned (.tuple #[.bool (x.has y), .int .i64 0]) ∧ Below w'.heap.size w' w'') := fun x y w' rx ry =>
    has_ok x.v x.hi x.lo x.b y.v y.hi y.lo y.b w' rx.h0 rx.h1 rx.l0 rx.l1 ry.h0 ry.h1 ry.l0 ry.l1 (by rw [two, if_pos ((right_iff _ _ _ _ rx.h0 rx.h1 rx.l0 rx.l1).2 rx)]; exact (right_iff _ _ _ _ ry.h0 ry.h1 ry.l0 ry.l1).2 ry)
  have CO : Hid (∀ w' : World, Calls Tryz.prog 12 #[.agg #[.bool v, .int .u64 xh, .int .u64 xl]] w' fun e w'' => e = .returned (.agg #[.bool v, .int .u64 xh, .int .u64 xl, .int .i64 (wid v)]) ∧ Below w'.heap.size w' w'') := fun w' => rhost_any v xh xl w'
  clear hR pw hs hN
  go_enter Tryz.func3, Tryz.ntmps3
  go_wp2_with fail
  refine (CB.out _).mono ?_
  rintro e w1 ⟨rfl, hb⟩
  replace HA := Lib.hid (HA.out.below hb)
  replace HB := Lib.hid (btr HB.out hb)
  clear hb
  go_wp2_with fail
  refine (CQ.out _ HB.out).mono ?_
  rintro e w2 ⟨rfl, hb⟩
  replace HA := Lib.hid (HA.out.below hb)
  replace HB := Lib.hid (btr HB.out hb)
  clear hb
  go_wp2_with fail
  refine (CC.out _ HB.out).mono ?_
  rintro e w3 ⟨rfl, hb⟩
  replace HA := Lib.hid (HA.out.below hb)
  replace HB := Lib.hid (btr HB.out hb)
  clear hb
  go_wp2_with fail
  go_loopw [5, 6] (fun vm vn wr => ∃ n : Nat, vn = .int .i64 n ∧ n ≤ N ∧ vm = .int .i64 (metS ps N n : Nat) ∧ Hid (Has3 wr w.heap.size (.bool v) (.int .u64 xh) (.int .u64 xl)) ∧ Hid (Below w.heap.size w wr))
    (fun _ vn _ => N - (intOf vn).toNat)
  case atStart => exact ⟨0, rfl, Nat.zero_le _, rfl, HA, HB⟩
  case round =>
    clear HA HB
    obtain ⟨n, rfl, hn, rfl, HA, HB⟩ := hrel
    by_cases hnN : n < N
    · have hmt : Hid (metS ps N (n + 1) = metS ps N n + (lowL ps n N).length + (if (par ps n).isSome then 0 else 1)) := rfl
      have hm24 := metS_le ps N n h12 (by omega)
      have hll : (lowL ps n N).length ≤ N := lowL_len ps n N
      generalize metS ps N n = met at *
      have n3 : (n : Int) < (N : Int) := by omega
      go_wp2_with fail
      refine (CL.out n _ hnN HB.out).mono ?_
      rintro e w4 ⟨vb, rfl, ob, hb⟩
      obtain ⟨rp, rc, rfl, hro⟩ := (RowI.of ob).open
      have HO := Lib.hid hro
      have HA4 := Lib.hid (HA.out.below hb)
      have HB4 := Lib.hid (btr HB.out hb)
      clear ob hro hb HA HB
      obtain ⟨L, hL⟩ : ∃ L, L = lowL ps n N := ⟨_, rfl⟩
      have HLm : Hid (∀ i (h : i < L.length), L[i] < N ∧ par ps L[i] = some n) := fun i h => by subst hL; exact lowL_mem (List.getElem_mem h)
      rw [← hL] at hll HO hmt ⊢
      obtain ⟨q, hq⟩ : ∃ q, q = L.length := ⟨_, rfl⟩
      rw [← hq] at hll hmt ⊢
      have Hq := Lib.hid hq
      clear hL hq
      go_wp2_with fail
      go_loopw [9] (fun vi wr => ∃ i : Nat, vi = .int .i64 i ∧ i ≤ q ∧ Hid (Below w4.heap.size w4 wr))
        (fun vi _ => q - (intOf vi).toNat)
      case atStart => exact ⟨0, rfl, Nat.zero_le _, Below.refl _ _⟩
      case round =>
        obtain ⟨i, rfl, hi, HW⟩ := hrel
        by_cases hiq : i < q
        · have hil : i < L.length := by have := Hq.out; omega
          obtain ⟨m1, m2⟩ := HLm.out i hil
          obtain ⟨gb, erp, hgb, cb⟩ := HO.out i hil
          subst erp
          obtain ⟨m, em⟩ : ∃ m, m = L[i] := ⟨_, rfl⟩
          rw [← em] at m1 m2 cb
          have hnl : n < ps.length := by have := HN.out; omega
          have hml : m < ps.length := by have := HN.out; omega
          obtain ⟨g, o, ea, hg, x0, x1, x2, x3⟩ := Hs.out n hnl
          subst ea
          obtain ⟨g', o', ea, hg', y0, y1, y2, y3⟩ := Hs.out m hml
          obtain ⟨rfl, rfl⟩ : g = g' ∧ o = o' := by simpa using ea
          have rx := HR.out _ (List.getElem_mem hnl)
          have ry := HR.out _ (List.getElem_mem hml)
          obtain ⟨_, hyes⟩ := par_has hml m2
          have D1 := Lib.hid (fun w' => CP.out ps[n] ps[m] w' rx ry)
          have D2 := Lib.hid (fun w' (h : Below w.heap.size w w') => CA.out m n w' m1 m2 h)
          rw [hyes] at D1
          obtain ⟨x, ex⟩ : ∃ x, x = ps[n] := ⟨_, rfl⟩
          obtain ⟨y, ey⟩ : ∃ y, y = ps[m] := ⟨_, rfl⟩
          rw [← ex] at x0 x1 x2 x3 D1
          rw [← ey] at y0 y1 y2 y3 D1
          have hg4 : g < w4.heap.size := Nat.lt_of_lt_of_le hg HB4.out.size
          have kk : ∀ oo, wr.cell? ⟨g, oo, none⟩ = w.cell? ⟨g, oo, none⟩ := fun oo => (HW.out.cell (p := ⟨g, oo, none⟩) hg4).trans (HB4.out.cell (p := ⟨g, oo, none⟩) hg)
          have cbr : wr.cell? ⟨gb, i, none⟩ = some (.int .i64 (m : Int)) := by rw [HW.out.cell (p := ⟨gb, i, none⟩) hgb]; exact cb
          have HS0 : Hid ((wr.cell? ⟨g, o + n * 4, none⟩ = some (.bool x.v) ∧ wr.cell? ⟨g, o + n * 4 + 1, none⟩ = some (.int .u64 x.hi) ∧ wr.cell? ⟨g, o + n * 4 + 2, none⟩ = some (.int .u64 x.lo) ∧ wr.cell? ⟨g, o + n * 4 + 3, none⟩ = some (.int .i64 x.b)) ∧ (wr.cell? ⟨g, o + m * 4, none⟩ = some (.bool y.v) ∧ wr.cell? ⟨g, o + m * 4 + 1, none⟩ = some (.int .u64 y.hi) ∧ wr.cell? ⟨g, o + m * 4 + 2, none⟩ = some (.int .u64 y.lo) ∧ wr.cell? ⟨g, o + m * 4 + 3, none⟩ = some (.int .i64 y.b)) ∧ wr.cell? ⟨gb, i, none⟩ = some (.int .i64 (m : Int)) ∧ g < wr.heap.size ∧ gb < wr.heap.size ∧ Below w.heap.size w wr) := ⟨⟨by rw [kk]; exact x0, by rw [kk]; exact x1, by rw [kk]; exact x2, by rw [kk]; exact x3⟩, ⟨by rw [kk]; exact y0, by rw [kk]; exact y1, by rw [kk]; exact y2, by rw [kk]; exact y3⟩, cbr, Nat.lt_of_lt_of_le hg4 HW.out.size, Nat.lt_of_lt_of_le hgb HW.out.size, btr HB4.out HW.out⟩
          have k1 : (i : Int) < (q : Int) := by omega
          have k2 : (0 : Int) ≤ (i : Int) := by omega
          have k3 : (0 : Int) ≤ (n : Int) := by omega
          have k4 : (m : Int) < (N : Int) := by omega
          have k5 : (0 : Int) ≤ (m : Int) := by omega
          have k6 : ((n : Int) != (n : Int)) = false := by simp
          have HBr := Lib.hid (btr HB4.out HW.out)
          clear x0 x1 x2 x3 y0 y1 y2 y3 rx ry hyes m1 m2 cb kk hg hg' hgb ea em hnl hml hil ex ey hg4
          go_wp2_with fail
          refine (D2.out _ HBr.out).mono ?_
          rintro e w5 ⟨rfl, hb⟩
          have HS1 := Lib.hid (keepT1 HS0.out hb)
          have HW5 := Lib.hid (HW.out.trans (below_le hb HW.out.size))
          clear hb HS0 cbr HBr
          obtain ⟨_, _, cb, _, _, _⟩ := HS1.out
          go_wp2_with fail
          have HS2 := Lib.hid (keepT1 HS1.out (Below.refl _ _).drew)
          go_region_held3 (fun w' => (w'.cell? ⟨g, o + n * 4, none⟩ = some (.bool x.v) ∧ w'.cell? ⟨g, o + n * 4 + 1, none⟩ = some (.int .u64 x.hi) ∧ w'.cell? ⟨g, o + n * 4 + 2, none⟩ = some (.int .u64 x.lo) ∧ w'.cell? ⟨g, o + n * 4 + 3, none⟩ = some (.int .i64 x.b)) ∧ (w'.cell? ⟨g, o + m * 4, none⟩ = some (.bool y.v) ∧ w'.cell? ⟨g, o + m * 4 + 1, none⟩ = some (.int .u64 y.hi) ∧ w'.cell? ⟨g, o + m * 4 + 2, none⟩ = some (.int .u64 y.lo) ∧ w'.cell? ⟨g, o + m * 4 + 3, none⟩ = some (.int .i64 y.b)) ∧ w'.cell? ⟨gb, i, none⟩ = some (.int .i64 (m : Int)) ∧ g < w'.heap.size ∧ gb < w'.heap.size ∧ Below w.heap.size w w')
            (first | with_reducible exact HS2.out | with_reducible exact HS3.out | fail)
            ((go_at_call 10; refine (D1.out _).mono ?_; rintro e w6 ⟨rfl, hb⟩; have HS3 := Lib.hid (keepT1 HS2.out hb); have HW6 := Lib.hid (HW5.out.drew.trans (below_le hb HW5.out.drew.size)); clear hb))
          clear cb HS1 HS2 HS3
          go_wp2_with fail
          go_roundw
          case rel => exact ⟨i + 1, by go_num, by omega, HW6⟩
          case measure => simp [intOf]; omega
        · obtain rfl : i = q := by omega
          have k3 : decide ((i : Int) < (i : Int)) = false := by simp
          have HAr := Lib.hid (HA4.out.below HW.out)
          have HBr := Lib.hid (btr HB4.out HW.out)
          clear HW HO HLm HA4 HB4
          cases hp : par ps n with
          | some k =>
            rw [hp] at hmt
            simp only [Option.isSome_some, if_true, Nat.add_zero] at hmt
            go_wp2_with fail
            refine (CA.out n k _ hnN hp HBr.out).mono ?_
            rintro e w7 ⟨rfl, hb⟩
            replace HAr := Lib.hid (HAr.out.below hb)
            replace HBr := Lib.hid (btr HBr.out hb)
            clear hb
            go_wp2_with fail
            go_roundw
            case rel => exact ⟨n + 1, by go_num, by omega, by rw [hmt.out]; go_num, HAr, HBr⟩
            case measure => simp [intOf]; omega
          | none =>
            rw [hp] at hmt
            simp only [Option.isSome_none, Bool.false_eq_true, if_false] at hmt
            go_wp2_with fail
            refine (CA5.out n _ hnN hp HBr.out).mono ?_
            rintro e w7 ⟨rfl, hb⟩
            replace HAr := Lib.hid (HAr.out.below hb)
            replace HBr := Lib.hid (btr HBr.out hb)
            clear hb
            go_wp2_with fail
            go_roundw
            case rel => exact ⟨n + 1, by go_num, by omega, by rw [hmt.out]; go_num, HAr, HBr⟩
            case measure => simp [intOf]; omega
    · obtain rfl : n = N := by omega
      have k3 : decide ((n : Int) < (n : Int)) = false := by simp
      have hall : metS ps n n = n := by rw [HN.out]; exact metS_all ps
      rw [hall]
      have k4 : ((n : Int) != (n : Int)) = false := by simp
      clear hall
      obtain ⟨a0, a1, a2, a3⟩ := HA.out
      go_wp2_with fail
      refine (CF.out _ HB.out).mono ?_
      rintro e w8 ⟨rfl, hb⟩
      clear a0 a1 a2 a3
      replace HA := Lib.hid (HA.out.below hb)
      replace HB := Lib.hid (btr HB.out hb)
      clear hb
      rcases HF.out with ⟨h1, rfl⟩ | ⟨rfl, hq, j, rfl, hj, hlast⟩
      · have hI : (fe != 0) = true := by rw [bne_iff_ne]; exact h1
        go_wp2
        go_ret
        exact ⟨rfl, HB.out⟩
      · have hjl : j < ps.length := by rw [← HN.out]; exact hj
        have Hq := Lib.hid hq
        have Hlast := Lib.hid hlast
        clear hq hlast
        go_wp2_with fail
        go_loopw [18] (fun vk wr => ∃ k : Nat, vk = .int .i64 k ∧ k ≤ n ∧ Hid (Has3 wr w.heap.size (.bool v) (.int .u64 xh) (.int .u64 xl)) ∧ Hid (Below w.heap.size w wr))
          (fun vk _ => n - (intOf vk).toNat)
        case atStart => exact ⟨0, rfl, Nat.zero_le _, HA, HB⟩
        case round =>
          clear HA HB
          obtain ⟨k, rfl, hk, HA, HB⟩ := hrel
          by_cases hkn : k < n
          · have hkl : k < ps.length := by have := HN.out; omega
            obtain ⟨g, o, ea, hg, x0, x1, x2, x3⟩ := Hs.out k hkl
            subst ea
            obtain ⟨g', o', ea, hg', y0, y1, y2, y3⟩ := Hs.out j hjl
            obtain ⟨rfl, rfl⟩ : g = g' ∧ o = o' := by simpa using ea
            have rx := HR.out _ (List.getElem_mem hkl)
            have ry := HR.out _ (List.getElem_mem hjl)
            have hund : (ps[k]).has ⟨v, xh, xl, wid v⟩ = true → (ps[k]).has ps[j] = true := fun h => (last_under (s := ⟨v, xh, xl, wid v⟩) HR.out Hpw.out Hq.out Hlast.out hkl h).2
            have D1 := Lib.hid (fun w' => CP.out ps[k] ⟨v, xh, xl, wid v⟩ w' rx Hq.out)
            have D2 := Lib.hid (fun w' => CP.out ps[k] ps[j] w' rx ry)
            generalize hz1 : (ps[k]).has ⟨v, xh, xl, wid v⟩ = z1 at *
            generalize hz2 : (ps[k]).has ps[j] = z2 at *
            obtain ⟨x, ex⟩ : ∃ x, x = ps[k] := ⟨_, rfl⟩
            obtain ⟨y, ey⟩ : ∃ y, y = ps[j] := ⟨_, rfl⟩
            rw [← ex] at x0 x1 x2 x3 D1 D2
            rw [← ey] at y0 y1 y2 y3 D2
            have kk : ∀ oo, wr.cell? ⟨g, oo, none⟩ = w.cell? ⟨g, oo, none⟩ := fun oo => HB.out.cell (p := ⟨g, oo, none⟩) hg
            have hgr : g < wr.heap.size := Nat.lt_of_lt_of_le hg HB.out.size
            have HS0 : Hid ((wr.cell? ⟨g, o + k * 4, none⟩ = some (.bool x.v) ∧ wr.cell? ⟨g, o + k * 4 + 1, none⟩ = some (.int .u64 x.hi) ∧ wr.cell? ⟨g, o + k * 4 + 2, none⟩ = some (.int .u64 x.lo) ∧ wr.cell? ⟨g, o + k * 4 + 3, none⟩ = some (.int .i64 x.b)) ∧ (wr.cell? ⟨w.heap.size, 0, none⟩ = some (.bool v) ∧ wr.cell? ⟨w.heap.size, 1, none⟩ = some (.int .u64 xh) ∧ wr.cell? ⟨w.heap.size, 2, none⟩ = some (.int .u64 xl)) ∧ g < wr.heap.size ∧ w.heap.size < wr.heap.size ∧ Below w.heap.size w wr) := ⟨⟨by rw [kk]; exact x0, by rw [kk]; exact x1, by rw [kk]; exact x2, by rw [kk]; exact x3⟩, ⟨HA.out.1, HA.out.2.1, HA.out.2.2.1⟩, hgr, HA.out.2.2.2, HB.out⟩
            have HT0 : Hid ((wr.cell? ⟨g, o + k * 4, none⟩ = some (.bool x.v) ∧ wr.cell? ⟨g, o + k * 4 + 1, none⟩ = some (.int .u64 x.hi) ∧ wr.cell? ⟨g, o + k * 4 + 2, none⟩ = some (.int .u64 x.lo) ∧ wr.cell? ⟨g, o + k * 4 + 3, none⟩ = some (.int .i64 x.b)) ∧ (wr.cell? ⟨g, o + j * 4, none⟩ = some (.bool y.v) ∧ wr.cell? ⟨g, o + j * 4 + 1, none⟩ = some (.int .u64 y.hi) ∧ wr.cell? ⟨g, o + j * 4 + 2, none⟩ = some (.int .u64 y.lo) ∧ wr.cell? ⟨g, o + j * 4 + 3, none⟩ = some (.int .i64 y.b)) ∧ g < wr.heap.size ∧ Below w.heap.size w wr) := ⟨⟨by rw [kk]; exact x0, by rw [kk]; exact x1, by rw [kk]; exact x2, by rw [kk]; exact x3⟩, ⟨by rw [kk]; exact y0, by rw [kk]; exact y1, by rw [kk]; exact y2, by rw [kk]; exact y3⟩, hgr, HB.out⟩
            have k1 : (k : Int) < (n : Int) := by omega
            have k2 : (0 : Int) ≤ (k : Int) := by omega
            have k3 : (j : Int) < (n : Int) := by omega
            have k4 : (0 : Int) ≤ (j : Int) := by omega
            have HU : Hid (z1 = true → z2 = true) := hund
            clear x0 x1 x2 x3 y0 y1 y2 y3 rx ry hund kk hg hg' ea hkl ex ey hgr hz1 hz2 HA HB
            go_wp2_with fail
            have HS1 := Lib.hid (keepT2 HS0.out (Below.refl _ _).drew)
            have HT1 := Lib.hid (keepT3 HT0.out (Below.refl _ _).drew)
            go_region_held3 (fun w' => (w'.cell? ⟨g, o + k * 4, none⟩ = some (.bool x.v) ∧ w'.cell? ⟨g, o + k * 4 + 1, none⟩ = some (.int .u64 x.hi) ∧ w'.cell? ⟨g, o + k * 4 + 2, none⟩ = some (.int .u64 x.lo) ∧ w'.cell? ⟨g, o + k * 4 + 3, none⟩ = some (.int .i64 x.b)) ∧ (w'.cell? ⟨w.heap.size, 0, none⟩ = some (.bool v) ∧ w'.cell? ⟨w.heap.size, 1, none⟩ = some (.int .u64 xh) ∧ w'.cell? ⟨w.heap.size, 2, none⟩ = some (.int .u64 xl)) ∧ g < w'.heap.size ∧ w.heap.size < w'.heap.size ∧ Below w.heap.size w w')
              (first | with_reducible exact HS1.out | with_reducible exact HS2.out | with_reducible exact HS3.out | fail)
              (first
                | (go_at_call 12; refine (CO.out _).mono ?_; rintro e wa ⟨rfl, hb⟩; have HS2 := Lib.hid (keepT2 HS1.out hb); have HT2 := Lib.hid (keepT3 HT1.out hb); clear hb)
                | (go_at_call 10; refine (D1.out _).mono ?_; rintro e wb ⟨rfl, hb⟩; have HS3 := Lib.hid (keepT2 HS2.out hb); have HT3 := Lib.hid (keepT3 HT2.out hb); clear hb))
            clear HS0 HS1 HS2 HT0 HT1 HT2
            go_wp2_with fail
            have HT4 := Lib.hid (keepT3 HT3.out (Below.refl _ _).drew)
            have HS4 := Lib.hid (keepT2 HS3.out (Below.refl _ _).drew)
            go_region_held3 (fun w' => (w'.cell? ⟨g, o + k * 4, none⟩ = some (.bool x.v) ∧ w'.cell? ⟨g, o + k * 4 + 1, none⟩ = some (.int .u64 x.hi) ∧ w'.cell? ⟨g, o + k * 4 + 2, none⟩ = some (.int .u64 x.lo) ∧ w'.cell? ⟨g, o + k * 4 + 3, none⟩ = some (.int .i64 x.b)) ∧ (w'.cell? ⟨g, o + j * 4, none⟩ = some (.bool y.v) ∧ w'.cell? ⟨g, o + j * 4 + 1, none⟩ = some (.int .u64 y.hi) ∧ w'.cell? ⟨g, o + j * 4 + 2, none⟩ = some (.int .u64 y.lo) ∧ w'.cell? ⟨g, o + j * 4 + 3, none⟩ = some (.int .i64 y.b)) ∧ g < w'.heap.size ∧ Below w.heap.size w w')
              (first | with_reducible exact HT4.out | with_reducible exact HT5.out | fail)
              ((go_at_call 10; refine (D2.out _).mono ?_; rintro e wc ⟨rfl, hb⟩; have HT5 := Lib.hid (keepT3 HT4.out hb); have HS5 := Lib.hid (keepT2 HS4.out hb); clear hb))
            have HA2 : Hid (Has3 wc w.heap.size (.bool v) (.int .u64 xh) (.int .u64 xl)) := ⟨HS5.out.2.1.1, HS5.out.2.1.2.1, HS5.out.2.1.2.2, HS5.out.2.2.2.1⟩
            have HB2 : Hid (Below w.heap.size w wc) := HT5.out.2.2.2
            clear HS3 HT3 HT4 HS4 HT5 HS5
            cases z1
            · go_wp2_with fail
              go_roundw
              case rel => exact ⟨k + 1, by go_num, by omega, HA2, HB2⟩
              case measure => simp [intOf]; omega
            · have hz : z2 = true := by first | exact HU.out rfl | exact HU.out trivial | exact HU.out
              subst hz
              go_wp2_with fail
              go_roundw
              case rel => exact ⟨k + 1, by go_num, by omega, HA2, HB2⟩
              case measure => simp [intOf]; omega
          · obtain rfl : k = n := by omega
            have k3 : decide ((k : Int) < (k : Int)) = false := by simp
            go_wp2_with fail
            go_ret
            exact ⟨rfl, HB.out⟩
end Go.Proofs.YtghbonlignmdoaaGreatDoor

namespace Go.Proofs.YtghbonlignmdoaaGreatDoor
open Go.RowKit

theorem tlook_in {ps : List Pf} (h : tchkL ps = 0) {n : Nat} (hn : n < ps.length) : tlook ps n = 0 := by
  rw [tlook, if_pos h, if_neg (by omega)]
theorem above_at {ps : List Pf} (h : tchkL ps = 0) {n : Nat} (hn : n < ps.length) {k : Nat} (hp : par ps n = some k) : aboveI ps n = k ∧ aboveE ps n = 0 := by
  have e : aboveE ps n = 0 := by rw [aboveE, if_pos (tlook_in h hn)]; simp [hp]
  refine ⟨?_, e⟩
  rw [aboveI, if_pos e]; simp [hp, nrI]
theorem above_no {ps : List Pf} (h : tchkL ps = 0) {n : Nat} (hn : n < ps.length) (hp : par ps n = none) : aboveI ps n = 0 ∧ aboveE ps n = 5 := by
  have e : aboveE ps n = 5 := by rw [aboveE, if_pos (tlook_in h hn)]; simp [hp]
  refine ⟨?_, e⟩
  rw [aboveI, if_neg (by rw [e]; decide)]
theorem find_host {ps : List Pf} (hR : ∀ p ∈ ps, p.R) {v : Bool} {xh xl : Int} (q : Right v xh xl (wid v)) : lastI (fun p => p.inA v xh xl) ps = lastI (fun p => p.has ⟨v, xh, xl, wid v⟩) ps :=
  lastI_congr' fun x hx => in_has (hR x hx) q
/-- What Find tells, in short. -/
theorem find_facts {ps : List Pf} (h : tchkL ps = 0) (hR : ∀ p ∈ ps, p.R) {v : Bool} {xh xl : Int} (x0 : 0 ≤ xh) (x1 : xh < 18446744073709551616) (x2 : 0 ≤ xl) (x3 : xl < 18446744073709551616) :
    (findE ps v xh xl ≠ 0 ∧ findI ps v xh xl = 0) ∨ (findE ps v xh xl = 0 ∧ Right v xh xl (wid v) ∧ ∃ j : Nat, findI ps v xh xl = j ∧ j < ps.length ∧ lastI (fun p => p.has ⟨v, xh, xl, wid v⟩) ps = some j) := by
  by_cases hc : chk v xh xl = 0
  · have q := host_right hc x0 x1 x2 x3
    have e := find_host hR q
    cases hl : lastI (fun p => p.inA v xh xl) ps with
    | none =>
      have e1 : findE ps v xh xl = 5 := by rw [findE, if_pos h, if_pos hc, hl]; rfl
      refine .inl ⟨by rw [e1]; decide, ?_⟩
      rw [findI, if_neg (by rw [e1]; decide)]
    | some j =>
      have e1 : findE ps v xh xl = 0 := by rw [findE, if_pos h, if_pos hc, hl]; rfl
      refine .inr ⟨e1, q, j, ?_, lastI_lt hl, by rw [← e, hl]⟩
      rw [findI, if_pos e1, hl]; rfl
  · have e1 : findE ps v xh xl = chk v xh xl := by rw [findE, if_pos h, if_neg hc]
    refine .inl ⟨by rw [e1]; exact hc, ?_⟩
    rw [findI, if_neg (by rw [e1]; exact hc)]

theorem ttree_law (a : Option Addr) (c : Nat) (ps : List Pf) (v : Bool) (xh xl : Int) (w : World) (hg : Good w) (hok : ∀ p ∈ ps, p.Ok) (hcap : ps.length ≤ c) (hs : Sl w a ps) (x0 : 0 ≤ xh) (x1 : xh < 18446744073709551616) (x2 : 0 ≤ xl) (x3 : xl < 18446744073709551616) :
    Calls Tryz.prog 3 #[.slice a ps.length c, .agg #[.bool v, .int .u64 xh, .int .u64 xl]] w fun e w' => e = .returned (.bool true) ∧ Below w.heap.size w w' := by
  have CB := Lib.hid tbegun_any
  have CQ := Lib.hid (fun w' (h : Below w.heap.size w w') => pbegun_any w' (hg.below h))
  have CC := Lib.hid (fun w' (h : Below w.heap.size w w') => tcheck_any a c ps w' hok (hs.below h))
  by_cases hr : tchkL ps = 0
  · have hR := right_all hok hr
    rw [hr] at CC
    refine tt_ok a c ps.length v xh xl w CB CQ ps rfl (tchkL_right hr).1 hR (rise_all hR hr) hs (findI ps v xh xl) (findE ps v xh xl) CC
      (Lib.hid fun n w' hn h => below_ok a c ps n w' hok hcap (hs.below h) (tlook_in hr hn))
      (Lib.hid fun n k w' hn hp h => ?_) (Lib.hid fun n w' hn hp h => ?_) (Lib.hid fun w' h => find_any a c ps v xh xl w' hok (hs.below h) x0 x2) (Lib.hid (find_facts hr hR x0 x1 x2 x3))
    · have := above_any a c ps n w' hok hcap (hs.below h)
      rw [(above_at hr hn hp).1, (above_at hr hn hp).2] at this
      exact this
    · have := above_any a c ps n w' hok hcap (hs.below h)
      rw [(above_no hr hn hp).1, (above_no hr hn hp).2] at this
      exact this
  · exact tt_bad a c ps.length v xh xl w CB CQ (tchkL ps) (by rw [bne_iff_ne]; exact hr) CC
end Go.Proofs.YtghbonlignmdoaaGreatDoor
