/- Prefixes that come in and stay as they were. -/
import Derived.Test.YtghbonlignmdoaaGreatDoorOpen
set_option linter.unusedVariables false
set_option linter.unusedSimpArgs false
namespace Go.Proofs.YtghbonlignmdoaaGreatDoor
open Go.ChangeShapes Go.WideShapes Go.ChangeAt Go.WideMaps Go.WideElems Go.RowKit

theorem cells_addr : Tryz.prog.cellsOf 25 = 3 := by kernel_rfl
theorem cells_pf : Tryz.prog.cellsOf 37 = 4 := by kernel_rfl
theorem cells_i : Tryz.prog.cellsOf 3 = 1 := by kernel_rfl
theorem cells_b : Tryz.prog.cellsOf 4 = 1 := by kernel_rfl
theorem cells_u : Tryz.prog.cellsOf 23 = 1 := by kernel_rfl

set_option maxRecDepth 100000 in
/-- A prefix that came in, opened. -/
theorem open_pf {H : Type} {enc : TypeId × Value → H} {W : World} {base : Nat} {v : Value} {d : DataW H} {p : List MemPlace}
    (hv : Value.okWide Tryz.prog W .any base 37 v) (h : DataW.Trod enc Tryz.prog W 0 (fun _ => true) true 37 v d p) :
    ∃ (x : Bool) (y z b : Int), v = .agg #[.bool x, .int .u64 y, .int .u64 z, .int .i64 b] ∧ d = .agg [.agg [.lit (.bool x), .lit (.int .u64 y), .lit (.int .u64 z)], .lit (.int .i64 b)] ∧ p = [] ∧ Wd y ∧ Wd z ∧ (Lit.int .u64 y).wf = true ∧ (Lit.int .u64 z).wf = true ∧ (Lit.int .i64 b).wf = true := by
  obtain ⟨cs, rfl, hsz⟩ := okWide_struct Tryz.underlying37 hv
  obtain ⟨c0, c1, c2, c3, rfl⟩ := Go.Joins.array4 (hsz.trans cells_pf)
  obtain ⟨fuel, hf⟩ := h
  obtain ⟨ya, yb, n, hx, _, ha, hb⟩ := trod_struct2 Tryz.underlying37 hf
  simp only [cells_addr, cells_i, Value.cells] at ha hb
  have ha' : DataW.trod enc Tryz.prog W 0 (fun _ => true) true n 25 [c0, c1, c2] = some ya := ha
  have hb' : DataW.trod enc Tryz.prog W 0 (fun _ => true) true n 3 [c3] = some yb := hb
  obtain ⟨y0, y1, y2, m, hya, _, h0, h1, h2⟩ := Go.Deep.trod_struct3 Tryz.underlying25 ha'
  simp only [cells_b, cells_u] at h0 h1 h2
  obtain ⟨b0, e0, rfl⟩ := DataW.trod_bool Tryz.underlying4 (show DataW.trod enc Tryz.prog W 0 (fun _ => true) true m 4 [c0] = some y0 from h0)
  obtain ⟨i1, e1, rfl, w1⟩ := DataW.trod_int Tryz.underlying23 (show DataW.trod enc Tryz.prog W 0 (fun _ => true) true m 23 [c1] = some y1 from h1)
  obtain ⟨i2, e2, rfl, w2⟩ := DataW.trod_int Tryz.underlying23 (show DataW.trod enc Tryz.prog W 0 (fun _ => true) true m 23 [c2] = some y2 from h2)
  obtain ⟨i3, e3, rfl, w3⟩ := DataW.trod_int Tryz.underlying3 hb'
  simp at e0 e1 e2 e3
  subst e0 e1 e2 e3
  subst hya
  simp only [Prod.mk.injEq] at hx
  obtain ⟨rfl, rfl⟩ := hx
  exact ⟨b0, i1, i2, i3, rfl, rfl, rfl, wd_of w1, wd_of w2, w1, w2, w3⟩

set_option maxRecDepth 100000 in
theorem shut_pf {H : Type} {enc : TypeId × Value → H} {W : World} {sp : Nat → Bool} {held : Bool} {base : Nat} (x : Bool) (y z b : Int) (h1 : (Lit.int .u64 y).wf = true) (h2 : (Lit.int .u64 z).wf = true) (h3 : (Lit.int .i64 b).wf = true) :
    DataW.Trod enc Tryz.prog W base sp held 37 (.agg #[.bool x, .int .u64 y, .int .u64 z, .int .i64 b]) (.agg [.agg [.lit (.bool x), .lit (.int .u64 y), .lit (.int .u64 z)], .lit (.int .i64 b)]) [] := by
  obtain ⟨n, ta⟩ := shut_addr (enc := enc) (W := W) (sp := sp) (held := held) (base := base) x y z h1 h2
  have tb : DataW.trod enc Tryz.prog W base sp held 1 3 [.int .i64 b] = some (.lit (.int .i64 b), []) := by simp [DataW.trod, Tryz.underlying3, h3]
  have ta' : DataW.trod enc Tryz.prog W base sp held n 25 [.bool x, .int .u64 y, .int .u64 z] = some (.agg [.lit (.bool x), .lit (.int .u64 y), .lit (.int .u64 z)], []) := ta
  have ts := trod_struct2_mk (enc := enc) (P := Tryz.prog) (w := W) (base := base) (spare := sp) (held := held) (n := max n 1) (cs := [.bool x, .int .u64 y, .int .u64 z, .int .i64 b]) Tryz.underlying37 (by rw [cells_pf]; rfl)
    (by rw [cells_addr]; exact DataW.trod_le (Nat.le_max_left n 1) ta') (by rw [cells_i]; exact DataW.trod_le (Nat.le_max_right n 1) tb)
  exact ⟨_, ts⟩
end Go.Proofs.YtghbonlignmdoaaGreatDoor
