/- What the walk of PickClear leans on. -/
import Derived.Test.YtpbankmbdacdaaaGreatDoorPmC
import Derived.Test.YtpbankmbdacdaaaGreatDoorPBb
import Derived.Test.YtpbankmbdacdaaaGreatDoorBegun
import Derived.Maps.AppendAt
import Derived.Deep.Cut
set_option linter.unusedVariables false
set_option linter.unusedSimpArgs false
namespace Go.Proofs.YtpbankmbdacdaaaGreatDoor
open Go.RowKit

theorem at_world (W : World) {q : Prop} [Decidable q] {P : Program} {o : Oper} {a : Act} {w : World} {K : Act → World → Prop} {Q : Exit → Act → World → Prop} {E : Prop} (hw : w = W) (h : if q then Oper.wp P o a W K Q else E) : if q then Oper.wp P o a w K Q else E := by rw [hw]; exact h
theorem step_append_none {P : Program} {w : World} {ops : Array Oper} {o : Oper} {a : Act} {K : Act → World → Prop} {Q : Exit → Act → World → Prop} {E : Prop} (hgd : o.guard = none) (s x : Operand) (t : TypeId)
    (ho : o.op = .call { callee := .builtin .append, args := #[s, x], argTypes := #[t, t] })
    (base : Nat) (e : TypeId) (i : TypeInfo) (size : Nat) (ht : P.underlying t = some (.slice e)) (hi : P.info? e = some i)
    (v : Value) (n : Nat) (xs : List Value) (hs : a.eval s = v) (hown : w.ownsRow base e size v n xs) (hx : a.eval x = .slice none 0 0)
    (h : K (a.put o.dst v) w) : if Region.wanted o (yielded ops a.tmps) = true then Oper.wp P o a w K Q else E := by
  have hw : Region.wanted o (yielded ops a.tmps) = true := by simp [Region.wanted, hgd]
  rw [if_pos hw]
  have hrun := run_append_owned_none (P := P) (w := w) base t o.type e i size ht hi v n xs hown
  unfold Oper.wp
  simp [execOp, ho, resolve, invoke, builtin, hs, hx, hrun, Result.andThen]
  exact h
theorem far_cells {w w' : World} {row : Option Nat} {g : Nat} {L : List Pf} (hg : w.grownBy w' row) (hr : row ≠ some g) (h : Sl w (some ⟨g, 0, none⟩) L) : Sl w' (some ⟨g, 0, none⟩) L := by
  intro j hj
  obtain ⟨g', o', e, hlt, b⟩ := h j hj
  obtain ⟨rfl, rfl⟩ : g = g' ∧ 0 = o' := by simpa using e
  have k : ∀ oo, w'.cell? ⟨g, oo, none⟩ = w.cell? ⟨g, oo, none⟩ := fun oo => hg.cell_far _ hlt (fun h => hr h.symm)
  exact ⟨g, 0, rfl, Nat.lt_of_lt_of_le hlt hg.size, by rw [k, k, k, k]; exact b⟩
theorem step_append_at {P : Program} {w : World} {ops : Array Oper} {o : Oper} {a : Act} {K : Act → World → Prop} {Q : Exit → Act → World → Prop} {E : Prop} (hgd : o.guard = none) (s x : Operand) (t : TypeId)
    (ho : o.op = .call { callee := .builtin .append, args := #[s, x], argTypes := #[t, t] })
    (base : Nat) (e : TypeId) (i : TypeInfo) (z : Value) (size bytes : Nat) (ht : P.underlying t = some (.slice e)) (hi : P.info? e = some i) (hz : i.zero = some z)
    (hsize : i.size = size) (hby : i.bytes = bytes) (hzs : z.cells.size = size) (hsz : 0 < size)
    (v : Value) (n : Nat) (xs : List Value) (hs : a.eval s = v) (hown : w.ownsRow base e size v n xs)
    (ad : Addr) (m c : Nat) (news : List Value) (hx : a.eval x = .slice (some ad) m c) (hl : news.length = m * size) (hnews : ∀ j u, news[j]? = some u → w.cell? (ad.add j) = some u) (h1 : ∀ u ∈ news, u.oneCell' = true)
    (h63 : n + m ≤ maxLen) (hbytes : (n + m) * bytes ≤ 140737488355328) (hbase : base ≤ w.heap.size)
    (h : ∀ v' w', w'.ownsRow base e size v' (n + m) (xs ++ news) → w.grownBy w' v.ownBlock → (v' = .slice none 0 0 ↔ v = .slice none 0 0 ∧ m = 0) → (v'.ownBlock = v.ownBlock ∨ v'.ownBlock = some w.heap.size) → K (a.put o.dst v') w') :
    if Region.wanted o (yielded ops a.tmps) = true then Oper.wp P o a w K Q else E := by
  have hw : Region.wanted o (yielded ops a.tmps) = true := by simp [Region.wanted, hgd]
  rw [if_pos hw]
  obtain ⟨v', w', hr, h2, h3, h4, h5⟩ := run_append_own_at (P := P) w base t o.type e i z size bytes ht hi hz hsize hby hzs hsz v n xs hown ad m c news hl hnews h1 h63 hbytes hbase
  unfold Oper.wp execOp
  simp only [ho, resolve, invoke, builtin, Sem.run_bind, Sem.run_pure, Result.andThen_ok, List.map_toArray, List.map_cons, List.map_nil, hs, hx, hr]
  exact h v' w' h2 h3 h4 h5
theorem own4_far {w w' : World} {row : Option Nat} {m : Nat} {x y z t : Value} (hg : w.grownBy w' row) (hr : row ≠ some m) (h : Own4 w m x y z t) : Own4 w' m x y z t := by
  obtain ⟨⟨c0, c1, c2, c3⟩, ⟨f0, f1, f2, f3⟩, h4⟩ := h
  have k : ∀ o, w'.cell? ⟨m, o, none⟩ = w.cell? ⟨m, o, none⟩ := fun o => hg.cell_far _ h4 (fun h => hr h.symm)
  have l : ∀ o, w'.frozen? ⟨m, o, none⟩ = w.frozen? ⟨m, o, none⟩ := fun o => hg.frozen_far _ h4 (fun h => hr h.symm)
  exact ⟨⟨by rw [k]; exact c0, by rw [k]; exact c1, by rw [k]; exact c2, by rw [k]; exact c3⟩, ⟨by rw [l]; exact f0, by rw [l]; exact f1, by rw [l]; exact f2, by rw [l]; exact f3⟩, Nat.lt_of_lt_of_le h4 hg.size⟩
theorem one_news (w : World) (p : Pf) : ∀ j u, (flat [p])[j]? = some u → (w.alloc (.cells #[.bool p.v, .int .u64 p.hi, .int .u64 p.lo, .int .i64 p.b] 26)).cell? ((⟨w.heap.size, 0, none⟩ : Addr).add j) = some u := sl_news (sl_one1 w p)
theorem sl_newsA {w : World} {ad : Addr} {ps : List Pf} (h : Sl w (some ad) ps) : ∀ j u, (flat ps)[j]? = some u → w.cell? (ad.add j) = some u := by
  cases ps with
  | nil => intro j u hj; simp [flat] at hj
  | cons q r =>
    obtain ⟨g, o, e, _⟩ := h 0 (by simp)
    injection e with e
    subst e
    exact sl_news h
theorem own4_put {W : World} {f : Nat} {a b c d : Value} (h : Own4 W f a b c d) (v : Bool) (hi lo bb : Int) : Has4 ((((W.setCell ⟨f, 0, none⟩ (.bool v)).setCell ⟨f, 1, none⟩ (.int .u64 hi)).setCell ⟨f, 2, none⟩ (.int .u64 lo)).setCell ⟨f, 3, none⟩ (.int .i64 bb)) f v hi lo bb := by
  obtain ⟨⟨c0, c1, c2, c3⟩, ⟨f0, f1, f2, f3⟩, h4⟩ := h
  refine ⟨?_, ?_, ?_, ?_, by simpa using h4⟩
  · simp [go_sem, c0, c1, c2, c3]
  · simp [go_sem, c0, c1, c2, c3]
  · simp [go_sem, c0, c1, c2, c3]
  · simp [go_sem, c0, c1, c2, c3]
theorem keep44 {w W W' : World} {m n : Nat} {v : Bool} {hi lo b : Int} {u : Bool} {yi yo c : Int}
    (h : (W.cell? ⟨m, 0, none⟩ = some (.bool v) ∧ W.cell? ⟨m, 1, none⟩ = some (.int .u64 hi) ∧ W.cell? ⟨m, 2, none⟩ = some (.int .u64 lo) ∧ W.cell? ⟨m, 3, none⟩ = some (.int .i64 b) ∧ m < W.heap.size) ∧ (W.cell? ⟨n, 0, none⟩ = some (.bool u) ∧ W.cell? ⟨n, 1, none⟩ = some (.int .u64 yi) ∧ W.cell? ⟨n, 2, none⟩ = some (.int .u64 yo) ∧ W.cell? ⟨n, 3, none⟩ = some (.int .i64 c) ∧ n < W.heap.size) ∧ Below w.heap.size w W) (hb : Below W.heap.size W W') :
    (W'.cell? ⟨m, 0, none⟩ = some (.bool v) ∧ W'.cell? ⟨m, 1, none⟩ = some (.int .u64 hi) ∧ W'.cell? ⟨m, 2, none⟩ = some (.int .u64 lo) ∧ W'.cell? ⟨m, 3, none⟩ = some (.int .i64 b) ∧ m < W'.heap.size) ∧ (W'.cell? ⟨n, 0, none⟩ = some (.bool u) ∧ W'.cell? ⟨n, 1, none⟩ = some (.int .u64 yi) ∧ W'.cell? ⟨n, 2, none⟩ = some (.int .u64 yo) ∧ W'.cell? ⟨n, 3, none⟩ = some (.int .i64 c) ∧ n < W'.heap.size) ∧ Below w.heap.size w W' :=
  ⟨(show Has4 W m v hi lo b from h.1).below hb, (show Has4 W n u yi yo c from h.2.1).below hb, btr h.2.2 hb⟩
theorem keep44u {w W : World} {m n f : Nat} {v : Bool} {hi lo b : Int} {u : Bool} {yi yo c : Int}
    (h : (W.cell? ⟨m, 0, none⟩ = some (.bool v) ∧ W.cell? ⟨m, 1, none⟩ = some (.int .u64 hi) ∧ W.cell? ⟨m, 2, none⟩ = some (.int .u64 lo) ∧ W.cell? ⟨m, 3, none⟩ = some (.int .i64 b) ∧ m < W.heap.size) ∧ (W.cell? ⟨n, 0, none⟩ = some (.bool u) ∧ W.cell? ⟨n, 1, none⟩ = some (.int .u64 yi) ∧ W.cell? ⟨n, 2, none⟩ = some (.int .u64 yo) ∧ W.cell? ⟨n, 3, none⟩ = some (.int .i64 c) ∧ n < W.heap.size) ∧ Below w.heap.size w W) (hm : m < f) (hn : n < f) (hw : w.heap.size ≤ f) (x0 x1 x2 x3 : Value) :
    ((((((W.setCell ⟨f, 0, none⟩ x0).setCell ⟨f, 1, none⟩ x1).setCell ⟨f, 2, none⟩ x2).setCell ⟨f, 3, none⟩ x3)).cell? ⟨m, 0, none⟩ = some (.bool v) ∧ (((((W.setCell ⟨f, 0, none⟩ x0).setCell ⟨f, 1, none⟩ x1).setCell ⟨f, 2, none⟩ x2).setCell ⟨f, 3, none⟩ x3)).cell? ⟨m, 1, none⟩ = some (.int .u64 hi) ∧ (((((W.setCell ⟨f, 0, none⟩ x0).setCell ⟨f, 1, none⟩ x1).setCell ⟨f, 2, none⟩ x2).setCell ⟨f, 3, none⟩ x3)).cell? ⟨m, 2, none⟩ = some (.int .u64 lo) ∧ (((((W.setCell ⟨f, 0, none⟩ x0).setCell ⟨f, 1, none⟩ x1).setCell ⟨f, 2, none⟩ x2).setCell ⟨f, 3, none⟩ x3)).cell? ⟨m, 3, none⟩ = some (.int .i64 b) ∧ m < (((((W.setCell ⟨f, 0, none⟩ x0).setCell ⟨f, 1, none⟩ x1).setCell ⟨f, 2, none⟩ x2).setCell ⟨f, 3, none⟩ x3)).heap.size) ∧ ((((((W.setCell ⟨f, 0, none⟩ x0).setCell ⟨f, 1, none⟩ x1).setCell ⟨f, 2, none⟩ x2).setCell ⟨f, 3, none⟩ x3)).cell? ⟨n, 0, none⟩ = some (.bool u) ∧ (((((W.setCell ⟨f, 0, none⟩ x0).setCell ⟨f, 1, none⟩ x1).setCell ⟨f, 2, none⟩ x2).setCell ⟨f, 3, none⟩ x3)).cell? ⟨n, 1, none⟩ = some (.int .u64 yi) ∧ (((((W.setCell ⟨f, 0, none⟩ x0).setCell ⟨f, 1, none⟩ x1).setCell ⟨f, 2, none⟩ x2).setCell ⟨f, 3, none⟩ x3)).cell? ⟨n, 2, none⟩ = some (.int .u64 yo) ∧ (((((W.setCell ⟨f, 0, none⟩ x0).setCell ⟨f, 1, none⟩ x1).setCell ⟨f, 2, none⟩ x2).setCell ⟨f, 3, none⟩ x3)).cell? ⟨n, 3, none⟩ = some (.int .i64 c) ∧ n < (((((W.setCell ⟨f, 0, none⟩ x0).setCell ⟨f, 1, none⟩ x1).setCell ⟨f, 2, none⟩ x2).setCell ⟨f, 3, none⟩ x3)).heap.size) ∧ Below w.heap.size w (((((W.setCell ⟨f, 0, none⟩ x0).setCell ⟨f, 1, none⟩ x1).setCell ⟨f, 2, none⟩ x2).setCell ⟨f, 3, none⟩ x3)) := by
  have kB : Below f W (((((W.setCell ⟨f, 0, none⟩ x0).setCell ⟨f, 1, none⟩ x1).setCell ⟨f, 2, none⟩ x2).setCell ⟨f, 3, none⟩ x3)) := ((((Below.refl f W).setCell (p := ⟨f, 0, none⟩) (Nat.le_refl _) x0).setCell (p := ⟨f, 1, none⟩) (Nat.le_refl _) x1).setCell (p := ⟨f, 2, none⟩) (Nat.le_refl _) x2).setCell (p := ⟨f, 3, none⟩) (Nat.le_refl _) x3
  obtain ⟨⟨a0, a1, a2, a3, a4⟩, ⟨c0, c1, c2, c3, c4⟩, h3⟩ := h
  have k : ∀ b o, b < f → _ = W.cell? ⟨b, o, none⟩ := fun b o h => kB.cell (p := ⟨b, o, none⟩) h
  exact ⟨⟨by rw [k _ _ hm]; exact a0, by rw [k _ _ hm]; exact a1, by rw [k _ _ hm]; exact a2, by rw [k _ _ hm]; exact a3, Nat.lt_of_lt_of_le a4 kB.size⟩, ⟨by rw [k _ _ hn]; exact c0, by rw [k _ _ hn]; exact c1, by rw [k _ _ hn]; exact c2, by rw [k _ _ hn]; exact c3, Nat.lt_of_lt_of_le c4 kB.size⟩, h3.trans (below_le kB hw)⟩
theorem keep44y {w W : World} {m n f : Nat} {z0 z1 z2 z3 : Value} {v : Bool} {hi lo b : Int} {u : Bool} {yi yo c : Int}
    (hy : Own4 W f z0 z1 z2 z3) (h : (W.cell? ⟨m, 0, none⟩ = some (.bool v) ∧ W.cell? ⟨m, 1, none⟩ = some (.int .u64 hi) ∧ W.cell? ⟨m, 2, none⟩ = some (.int .u64 lo) ∧ W.cell? ⟨m, 3, none⟩ = some (.int .i64 b) ∧ m < W.heap.size) ∧ (W.cell? ⟨n, 0, none⟩ = some (.bool u) ∧ W.cell? ⟨n, 1, none⟩ = some (.int .u64 yi) ∧ W.cell? ⟨n, 2, none⟩ = some (.int .u64 yo) ∧ W.cell? ⟨n, 3, none⟩ = some (.int .i64 c) ∧ n < W.heap.size) ∧ Below w.heap.size w W) (hm : m < f) (hn : n < f) (hw : w.heap.size ≤ f) (x0 x1 x2 x3 : Value) :
    ((((((W.setCell ⟨f, 0, none⟩ x0).setCell ⟨f, 1, none⟩ x1).setCell ⟨f, 2, none⟩ x2).setCell ⟨f, 3, none⟩ x3)).cell? ⟨m, 0, none⟩ = some (.bool v) ∧ (((((W.setCell ⟨f, 0, none⟩ x0).setCell ⟨f, 1, none⟩ x1).setCell ⟨f, 2, none⟩ x2).setCell ⟨f, 3, none⟩ x3)).cell? ⟨m, 1, none⟩ = some (.int .u64 hi) ∧ (((((W.setCell ⟨f, 0, none⟩ x0).setCell ⟨f, 1, none⟩ x1).setCell ⟨f, 2, none⟩ x2).setCell ⟨f, 3, none⟩ x3)).cell? ⟨m, 2, none⟩ = some (.int .u64 lo) ∧ (((((W.setCell ⟨f, 0, none⟩ x0).setCell ⟨f, 1, none⟩ x1).setCell ⟨f, 2, none⟩ x2).setCell ⟨f, 3, none⟩ x3)).cell? ⟨m, 3, none⟩ = some (.int .i64 b) ∧ m < (((((W.setCell ⟨f, 0, none⟩ x0).setCell ⟨f, 1, none⟩ x1).setCell ⟨f, 2, none⟩ x2).setCell ⟨f, 3, none⟩ x3)).heap.size) ∧ ((((((W.setCell ⟨f, 0, none⟩ x0).setCell ⟨f, 1, none⟩ x1).setCell ⟨f, 2, none⟩ x2).setCell ⟨f, 3, none⟩ x3)).cell? ⟨n, 0, none⟩ = some (.bool u) ∧ (((((W.setCell ⟨f, 0, none⟩ x0).setCell ⟨f, 1, none⟩ x1).setCell ⟨f, 2, none⟩ x2).setCell ⟨f, 3, none⟩ x3)).cell? ⟨n, 1, none⟩ = some (.int .u64 yi) ∧ (((((W.setCell ⟨f, 0, none⟩ x0).setCell ⟨f, 1, none⟩ x1).setCell ⟨f, 2, none⟩ x2).setCell ⟨f, 3, none⟩ x3)).cell? ⟨n, 2, none⟩ = some (.int .u64 yo) ∧ (((((W.setCell ⟨f, 0, none⟩ x0).setCell ⟨f, 1, none⟩ x1).setCell ⟨f, 2, none⟩ x2).setCell ⟨f, 3, none⟩ x3)).cell? ⟨n, 3, none⟩ = some (.int .i64 c) ∧ n < (((((W.setCell ⟨f, 0, none⟩ x0).setCell ⟨f, 1, none⟩ x1).setCell ⟨f, 2, none⟩ x2).setCell ⟨f, 3, none⟩ x3)).heap.size) ∧ Below w.heap.size w (((((W.setCell ⟨f, 0, none⟩ x0).setCell ⟨f, 1, none⟩ x1).setCell ⟨f, 2, none⟩ x2).setCell ⟨f, 3, none⟩ x3)) := keep44u h hm hn hw x0 x1 x2 x3

end Go.Proofs.YtpbankmbdacdaaaGreatDoor
