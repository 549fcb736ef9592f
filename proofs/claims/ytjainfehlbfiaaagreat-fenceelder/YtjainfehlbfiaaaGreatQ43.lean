/- What the card leans on: SlO, OpL, LmO, LmP, LnE. -/
import Derived.Test.YtjainfehlbfiaaaGreatQ01
import Derived.ProofKit
import Derived.SizedLaws
import Derived.Lib.RowBridge
import Derived.Lib.SmallJoins
import Derived.Deep.Slices
import Derived.Carry
import Derived.Test.YtjainfehlbfiaaaGreatQ02
import Derived.Test.YtjainfehlbfiaaaGreatQ34
set_option linter.unusedVariables false
set_option linter.unusedSimpArgs false
namespace Go.Proofs.YtjainfehlbfiaaaGreat
open Go.ChangeShapes Go.WideShapes Go.ChangeAt Go.WideMaps Go.WideElems Go.RowKit

def Wd (x : Int) : Prop := 0 ≤ x ∧ x < 18446744073709551616

theorem wd_of {x : Int} (h : (Lit.int .u64 x).wf = true) : Wd x := by
  have : 0 ≤ x ∧ x ≤ 18446744073709551615 := by simpa [Lit.wf, IntKind.min, IntKind.max, IntKind.signed, IntKind.bits] using h
  exact ⟨this.1, by omega⟩

set_option maxRecDepth 100000 in
/-- An address that came in, opened. -/
theorem open_addr {H : Type} {enc : TypeId × Value → H} {W : World} {base : Nat} {v : Value} {d : DataW H} {p : List MemPlace}
    (hv : Value.okWide Tryz.prog W .any base 29 v) (h : DataW.Trod enc Tryz.prog W 0 (fun _ => true) true 29 v d p) :
    ∃ (x : Bool) (y z : Int), v = .agg #[.bool x, .int .u64 y, .int .u64 z] ∧ d = .agg [.lit (.bool x), .lit (.int .u64 y), .lit (.int .u64 z)] ∧ p = [] ∧ Wd y ∧ Wd z ∧ (Lit.int .u64 y).wf = true ∧ (Lit.int .u64 z).wf = true := by
  obtain ⟨v0, v1, v2, y0, y1, y2, n, rfl, rfl, rfl, h0, h1, h2⟩ := Go.Joins.open_agg3 Tryz.underlying29 (by kernel_rfl) (by kernel_rfl) hv h
  obtain ⟨b, e0, rfl⟩ := DataW.trod_bool Tryz.underlying4 h0
  obtain ⟨i, e1, rfl, w1⟩ := DataW.trod_int Tryz.underlying27 h1
  obtain ⟨j, e2, rfl, w2⟩ := DataW.trod_int Tryz.underlying27 h2
  simp at e0 e1 e2
  subst e0 e1 e2
  exact ⟨b, i, j, rfl, rfl, rfl, wd_of w1, wd_of w2, w1, w2⟩

set_option maxRecDepth 100000 in
theorem shut_addr {H : Type} {enc : TypeId × Value → H} {W : World} {sp : Nat → Bool} {held : Bool} {base : Nat} (x : Bool) (y z : Int) (h1 : (Lit.int .u64 y).wf = true) (h2 : (Lit.int .u64 z).wf = true) :
    DataW.Trod enc Tryz.prog W base sp held 29 (.agg #[.bool x, .int .u64 y, .int .u64 z]) (.agg [.lit (.bool x), .lit (.int .u64 y), .lit (.int .u64 z)]) [] := by
  have := Go.Joins.shut_agg3 (enc := enc) (P := Tryz.prog) (w := W) (base := base) (spare := sp) (held := held) (v0 := .bool x) (v1 := .int .u64 y) (v2 := .int .u64 z) (y0 := (.lit (.bool x), [])) (y1 := (.lit (.int .u64 y), [])) (y2 := (.lit (.int .u64 z), [])) Tryz.underlying29 (by kernel_rfl) (by kernel_rfl)
    ⟨1, by simp [DataW.trod, Tryz.underlying4]⟩ ⟨1, by simp [DataW.trod, Tryz.underlying27, h1]⟩ ⟨1, by simp [DataW.trod, Tryz.underlying27, h2]⟩
  exact this

theorem cells_addr : Tryz.prog.cellsOf 29 = 3 := by kernel_rfl

theorem cells_pf : Tryz.prog.cellsOf 31 = 4 := by kernel_rfl

theorem cells_i : Tryz.prog.cellsOf 3 = 1 := by kernel_rfl

theorem cells_b : Tryz.prog.cellsOf 4 = 1 := by kernel_rfl

theorem cells_u : Tryz.prog.cellsOf 27 = 1 := by kernel_rfl

set_option maxRecDepth 100000 in
/-- A prefix that came in, opened. -/
theorem open_pf {H : Type} {enc : TypeId × Value → H} {W : World} {base : Nat} {v : Value} {d : DataW H} {p : List MemPlace}
    (hv : Value.okWide Tryz.prog W .any base 31 v) (h : DataW.Trod enc Tryz.prog W 0 (fun _ => true) true 31 v d p) :
    ∃ (x : Bool) (y z b : Int), v = .agg #[.bool x, .int .u64 y, .int .u64 z, .int .i64 b] ∧ d = .agg [.agg [.lit (.bool x), .lit (.int .u64 y), .lit (.int .u64 z)], .lit (.int .i64 b)] ∧ p = [] ∧ Wd y ∧ Wd z ∧ (Lit.int .u64 y).wf = true ∧ (Lit.int .u64 z).wf = true ∧ (Lit.int .i64 b).wf = true := by
  obtain ⟨cs, rfl, hsz⟩ := okWide_struct Tryz.underlying31 hv
  obtain ⟨c0, c1, c2, c3, rfl⟩ := Go.Joins.array4 (hsz.trans cells_pf)
  obtain ⟨fuel, hf⟩ := h
  obtain ⟨ya, yb, n, hx, _, ha, hb⟩ := trod_struct2 Tryz.underlying31 hf
  simp only [cells_addr, cells_i, Value.cells] at ha hb
  have ha' : DataW.trod enc Tryz.prog W 0 (fun _ => true) true n 29 [c0, c1, c2] = some ya := ha
  have hb' : DataW.trod enc Tryz.prog W 0 (fun _ => true) true n 3 [c3] = some yb := hb
  obtain ⟨y0, y1, y2, m, hya, _, h0, h1, h2⟩ := Go.Deep.trod_struct3 Tryz.underlying29 ha'
  simp only [cells_b, cells_u] at h0 h1 h2
  obtain ⟨b0, e0, rfl⟩ := DataW.trod_bool Tryz.underlying4 (show DataW.trod enc Tryz.prog W 0 (fun _ => true) true m 4 [c0] = some y0 from h0)
  obtain ⟨i1, e1, rfl, w1⟩ := DataW.trod_int Tryz.underlying27 (show DataW.trod enc Tryz.prog W 0 (fun _ => true) true m 27 [c1] = some y1 from h1)
  obtain ⟨i2, e2, rfl, w2⟩ := DataW.trod_int Tryz.underlying27 (show DataW.trod enc Tryz.prog W 0 (fun _ => true) true m 27 [c2] = some y2 from h2)
  obtain ⟨i3, e3, rfl, w3⟩ := DataW.trod_int Tryz.underlying3 hb'
  simp at e0 e1 e2 e3
  subst e0 e1 e2 e3
  subst hya
  simp only [Prod.mk.injEq] at hx
  obtain ⟨rfl, rfl⟩ := hx
  exact ⟨b0, i1, i2, i3, rfl, rfl, rfl, wd_of w1, wd_of w2, w1, w2, w3⟩

set_option maxRecDepth 100000 in
theorem shut_pf {H : Type} {enc : TypeId × Value → H} {W : World} {sp : Nat → Bool} {held : Bool} {base : Nat} (x : Bool) (y z b : Int) (h1 : (Lit.int .u64 y).wf = true) (h2 : (Lit.int .u64 z).wf = true) (h3 : (Lit.int .i64 b).wf = true) :
    DataW.Trod enc Tryz.prog W base sp held 31 (.agg #[.bool x, .int .u64 y, .int .u64 z, .int .i64 b]) (.agg [.agg [.lit (.bool x), .lit (.int .u64 y), .lit (.int .u64 z)], .lit (.int .i64 b)]) [] := by
  obtain ⟨n, ta⟩ := shut_addr (enc := enc) (W := W) (sp := sp) (held := held) (base := base) x y z h1 h2
  have tb : DataW.trod enc Tryz.prog W base sp held 1 3 [.int .i64 b] = some (.lit (.int .i64 b), []) := by simp [DataW.trod, Tryz.underlying3, h3]
  have ta' : DataW.trod enc Tryz.prog W base sp held n 29 [.bool x, .int .u64 y, .int .u64 z] = some (.agg [.lit (.bool x), .lit (.int .u64 y), .lit (.int .u64 z)], []) := ta
  have ts := trod_struct2_mk (enc := enc) (P := Tryz.prog) (w := W) (base := base) (spare := sp) (held := held) (n := max n 1) (cs := [.bool x, .int .u64 y, .int .u64 z, .int .i64 b]) Tryz.underlying31 (by rw [cells_pf]; rfl)
    (by rw [cells_addr]; exact DataW.trod_le (Nat.le_max_left n 1) ta') (by rw [cells_i]; exact DataW.trod_le (Nat.le_max_right n 1) tb)
  exact ⟨_, ts⟩

end Go.Proofs.YtjainfehlbfiaaaGreat

namespace Go.Proofs.YtjainfehlbfiaaaGreat
open Go.ChangeShapes Go.WideShapes Go.ChangeAt Go.WideMaps Go.WideElems Go.RowKit Go.Deep

theorem addr_add (b o k : Nat) : (⟨b, o, none⟩ : Addr).add k = ⟨b, o + k, none⟩ := by
  unfold Addr.add
  split
  · rename_i h; rw [h]; rfl
  · rfl

theorem list4 {α : Type} {l : List α} (h : l.length = 4) : ∃ a b c d, l = [a, b, c, d] := by
  match l, h with
  | [a, b, c, d], _ => exact ⟨a, b, c, d, rfl⟩

set_option maxRecDepth 100000 in
theorem open_cells {H : Type} {enc : TypeId × Value → H} {W : World} {n : Nat} {cs : List Value} {x : DataW H × List MemPlace} (hl : cs.length = 4)
    (hf : DataW.trod enc Tryz.prog W 0 (fun _ => true) true n 31 cs = some x) :
    ∃ p : Pf, cs = [.bool p.v, .int .u64 p.hi, .int .u64 p.lo, .int .i64 p.b] ∧ p.Ok := by
  obtain ⟨c0, c1, c2, c3, rfl⟩ := list4 hl
  obtain ⟨ya, yb, n, hx, _, ha, hb⟩ := trod_struct2 Tryz.underlying31 hf
  simp only [cells_addr, cells_i] at ha hb
  have ha' : DataW.trod enc Tryz.prog W 0 (fun _ => true) true n 29 [c0, c1, c2] = some ya := ha
  have hb' : DataW.trod enc Tryz.prog W 0 (fun _ => true) true n 3 [c3] = some yb := hb
  obtain ⟨y0, y1, y2, m, hya, _, h0, h1, h2⟩ := Go.Deep.trod_struct3 Tryz.underlying29 ha'
  simp only [cells_b, cells_u] at h0 h1 h2
  obtain ⟨b0, e0, rfl⟩ := DataW.trod_bool Tryz.underlying4 (show DataW.trod enc Tryz.prog W 0 (fun _ => true) true m 4 [c0] = some y0 from h0)
  obtain ⟨i1, e1, rfl, w1⟩ := DataW.trod_int Tryz.underlying27 (show DataW.trod enc Tryz.prog W 0 (fun _ => true) true m 27 [c1] = some y1 from h1)
  obtain ⟨i2, e2, rfl, w2⟩ := DataW.trod_int Tryz.underlying27 (show DataW.trod enc Tryz.prog W 0 (fun _ => true) true m 27 [c2] = some y2 from h2)
  obtain ⟨i3, e3, rfl, w3⟩ := DataW.trod_int Tryz.underlying3 hb'
  simp at e0 e1 e2 e3
  subst e0 e1 e2 e3
  obtain ⟨a1, a2⟩ := wd_of w1
  obtain ⟨a3, a4⟩ := wd_of w2
  exact ⟨⟨b0, i1, i2, i3⟩, rfl, a1, a2, a3, a4⟩

set_option maxRecDepth 100000 in
/-- A list of prefixes that came in, opened. -/
theorem open_pfs {H : Type} {enc : TypeId × Value → H} {W : World} {base : Nat} {v : Value} {d : DataW H} {p : List MemPlace}
    (hv : Value.okWide Tryz.prog W .any base 159 v) (h : DataW.Trod enc Tryz.prog W 0 (fun _ => true) true 159 v d p) :
    ∃ (a : Option Addr) (ps : List Pf) (c : Nat), v = .slice a ps.length c ∧ ps.length ≤ c ∧ Sl W a ps ∧ ∀ p ∈ ps, p.Ok := by
  obtain ⟨a0, len, cap, rfl⟩ := okWide_slice Tryz.underlying159 hv
  obtain ⟨fuel, hf⟩ := h
  rcases open_slice Tryz.underlying159 hf with ⟨hcs, _⟩ | ⟨a, len', cap', m, n, D, Pl, hcs, _, hl, _, hm, _, hel⟩
  · simp [Value.cells] at hcs
    obtain ⟨rfl, rfl, rfl⟩ := hcs
    exact ⟨none, [], 0, rfl, Nat.le_refl _, fun j hj => by simp at hj, by simp⟩
  · simp [Value.cells] at hcs
    obtain ⟨rfl, rfl, rfl⟩ := hcs
    simp only [if_true] at hm
    subst hm
    rw [cells_pf] at hel
    have each : ∀ i, i < len → ∃ p : Pf, p.Ok ∧ ∀ k (hk : k < 4), W.cell? ((a.add (i * 4)).add k) = [Value.bool p.v, .int .u64 p.hi, .int .u64 p.lo, .int .i64 p.b][k]? := fun i hi => by
      obtain ⟨cs', h1, h2⟩ := hel i (by omega)
      obtain ⟨_, hlen, hcell⟩ := World.cells?_some h1
      obtain ⟨p, rfl, hok⟩ := open_cells hlen h2
      exact ⟨p, hok, hcell⟩
    let f : Nat → Pf := fun i => if h : i < len then (each i h).choose else ⟨false, 0, 0, 0⟩
    have hfs : ∀ i, i < len → (f i).Ok ∧ ∀ k (hk : k < 4), W.cell? ((a.add (i * 4)).add k) = [Value.bool (f i).v, .int .u64 (f i).hi, .int .u64 (f i).lo, .int .i64 (f i).b][k]? := fun i hi => by
      have := (each i hi).choose_spec
      simp only [f, hi, dif_pos]
      exact this
    refine ⟨some a, (List.range len).map f, m, by simp, by simpa using hl, ?_, ?_⟩
    · intro j hj
      have hj' : j < len := by simpa using hj
      obtain ⟨_, hc⟩ := hfs j hj'
      have hsp : a.spot = none := by
        have h0 := (hfs 0 (by omega)).2 0 (by decide)
        have h1 : W.cell? a = some (.bool (f 0).v) := by simpa [Addr.add] using h0
        exact World.cell?_spot h1
      obtain ⟨blk, off, spot⟩ := a
      simp only at hsp
      subst hsp
      have hlt : blk < W.heap.size := by
        have h0 := hc 0 (by decide)
        rw [addr_add, addr_add] at h0
        exact World.block_lt_of_cell? W _ h0
      refine ⟨blk, off, rfl, hlt, ?_, ?_, ?_, ?_⟩
      · have := hc 0 (by decide); rw [addr_add, addr_add] at this; simpa using this
      · have := hc 1 (by decide); rw [addr_add, addr_add] at this; simpa using this
      · have := hc 2 (by decide); rw [addr_add, addr_add] at this; simpa using this
      · have := hc 3 (by decide); rw [addr_add, addr_add] at this; simpa using this
    · intro p hp
      obtain ⟨i, hi, rfl⟩ := List.mem_map.1 hp
      exact (hfs i (List.mem_range.1 hi)).1
end Go.Proofs.YtjainfehlbfiaaaGreat

namespace Go.Proofs.YtjainfehlbfiaaaGreat
open Go.ChangeShapes Go.WideShapes Go.ChangeAt Go.WideMaps Go.WideElems Go.RowKit Go.Deep

/-- Elements whose cells were read lie in a row. -/
theorem lies_of {α : Type} (dflt : α) (E : Enc α) {W : World} {a : Addr} {len : Nat} {P : α → Prop} (each : ∀ i, i < len → ∃ y : α, P y ∧ ∀ k, k < E.k → W.cell? ((a.add (i * E.k)).add k) = (E.f y)[k]?) :
    ∃ l : List α, l.length = len ∧ Lies E W (some a) l ∧ ∀ y ∈ l, P y := by
  let f : Nat → α := fun i => if h : i < len then (each i h).choose else dflt
  have hfs : ∀ i, i < len → P (f i) ∧ ∀ k, k < E.k → W.cell? ((a.add (i * E.k)).add k) = (E.f (f i))[k]? := fun i hi => by
    have := (each i hi).choose_spec
    simp only [f, hi, dif_pos]
    exact this
  refine ⟨(List.range len).map f, by simp, ?_, ?_⟩
  · intro j hj
    have hj' : j < len := by simpa using hj
    obtain ⟨_, hc⟩ := hfs j hj'
    have hsome : ∀ i, i < E.k → ∃ v, W.cell? ((a.add (j * E.k)).add i) = some v := fun i hi => by
      rw [hc i hi]
      exact ⟨_, List.getElem?_eq_getElem (by rw [E.len]; exact hi)⟩
    have hsp : a.spot = none := by
      obtain ⟨v, hv⟩ := (by
        have h0 := (hfs 0 (by omega)).2 0 E.pos
        rw [List.getElem?_eq_getElem (by rw [E.len]; exact E.pos)] at h0
        exact ⟨_, h0⟩ : ∃ v, W.cell? ((a.add (0 * E.k)).add 0) = some v)
      rw [Nat.zero_mul] at hv
      have h1 : W.cell? a = some v := by simpa [Addr.add] using hv
      exact World.cell?_spot h1
    obtain ⟨blk, off, spot⟩ := a
    simp only at hsp
    subst hsp
    have hlt : blk < W.heap.size := by
      obtain ⟨v, hv⟩ := hsome 0 E.pos
      rw [addr_add, addr_add] at hv
      exact World.block_lt_of_cell? W _ hv
    refine ⟨blk, off, rfl, hlt, fun i v hv => ?_⟩
    have hi : i < E.k := by have := (List.getElem?_eq_some_iff.1 hv).1; rw [E.len] at this; exact this
    have := hc i hi
    rw [addr_add, addr_add] at this
    rw [this]
    simpa using hv
  · intro p hp
    obtain ⟨i, hi, rfl⟩ := List.mem_map.1 hp
    exact (hfs i (List.mem_range.1 hi)).1

theorem cells_ls : Tryz.prog.cellsOf 106 = 5 := by kernel_rfl
theorem cells_pool : Tryz.prog.cellsOf 87 = 5 := by kernel_rfl
theorem cells_s : Tryz.prog.cellsOf 9 = 1 := by kernel_rfl
theorem cells_ads : Tryz.prog.cellsOf 56 = 1 := by kernel_rfl

set_option maxRecDepth 100000 in
theorem open_ad {H : Type} {enc : TypeId × Value → H} {W : World} {n : Nat} {cs : List Value} {x : DataW H × List MemPlace} (hl : cs.length = 3)
    (hf : DataW.trod enc Tryz.prog W 0 (fun _ => true) true n 29 cs = some x) : ∃ y : Ad, cs = adE.f y := by
  obtain ⟨c0, c1, c2, rfl⟩ : ∃ a b c, cs = [a, b, c] := by
    match cs, hl with
    | [a, b, c], _ => exact ⟨a, b, c, rfl⟩
  obtain ⟨y0, y1, y2, m, hya, _, h0, h1, h2⟩ := Go.Deep.trod_struct3 Tryz.underlying29 hf
  simp only [cells_b, cells_u] at h0 h1 h2
  obtain ⟨b0, e0, rfl⟩ := DataW.trod_bool Tryz.underlying4 (show DataW.trod enc Tryz.prog W 0 (fun _ => true) true m 4 [c0] = some y0 from h0)
  obtain ⟨i1, e1, rfl, w1⟩ := DataW.trod_int Tryz.underlying27 (show DataW.trod enc Tryz.prog W 0 (fun _ => true) true m 27 [c1] = some y1 from h1)
  obtain ⟨i2, e2, rfl, w2⟩ := DataW.trod_int Tryz.underlying27 (show DataW.trod enc Tryz.prog W 0 (fun _ => true) true m 27 [c2] = some y2 from h2)
  simp at e0 e1 e2
  subst e0 e1 e2
  exact ⟨⟨b0, i1, i2, wd_of w1, wd_of w2⟩, rfl⟩
set_option maxRecDepth 100000 in
theorem open_ls {H : Type} {enc : TypeId × Value → H} {W : World} {n : Nat} {cs : List Value} {x : DataW H × List MemPlace} (hl : cs.length = 5)
    (hf : DataW.trod enc Tryz.prog W 0 (fun _ => true) true n 106 cs = some x) : ∃ y : Ls, cs = lsE.f y ∧ y.who.size ≤ maxLen := by
  obtain ⟨c0, c1, c2, c3, c4, rfl⟩ : ∃ a b c d e, cs = [a, b, c, d, e] := by
    match cs, hl with
    | [a, b, c, d, e], _ => exact ⟨a, b, c, d, e, rfl⟩
  obtain ⟨y0, y1, y2, m, hya, _, h0, h1, h2⟩ := Go.Deep.trod_struct3 Tryz.underlying106 hf
  simp only [cells_addr, cells_s, cells_i] at h0 h1 h2
  obtain ⟨a, ha⟩ := open_ad (by rfl) (show DataW.trod enc Tryz.prog W 0 (fun _ => true) true m 29 [c0, c1, c2] = some y0 from h0)
  obtain ⟨s, e1, rfl, hs⟩ := DataW.trod_string Tryz.underlying9 (show DataW.trod enc Tryz.prog W 0 (fun _ => true) true m 9 [c3] = some y1 from h1)
  obtain ⟨i2, e2, rfl, w2⟩ := DataW.trod_int Tryz.underlying3 (show DataW.trod enc Tryz.prog W 0 (fun _ => true) true m 3 [c4] = some y2 from h2)
  simp [adE] at ha e1 e2
  obtain ⟨rfl, rfl, rfl⟩ := ha
  subst e1 e2
  exact ⟨⟨a, s, i2⟩, rfl, hs⟩
set_option maxRecDepth 100000 in
/-- A slice of addresses, wherever its header lies. -/
theorem open_ads {H : Type} {enc : TypeId × Value → H} {W : World} {n : Nat} {cs : List Value} {x : DataW H × List MemPlace}
    (hf : DataW.trod enc Tryz.prog W 0 (fun _ => true) true n 56 cs = some x) : ∃ (a : Option Addr) (l : List Ad) (c : Nat), cs = [.slice a l.length c] ∧ l.length ≤ c ∧ Lies adE W a l := by
  rcases open_slice Tryz.underlying56 hf with ⟨hcs, _⟩ | ⟨a, len', cap', m, n, D, Pl, hcs, _, hl, _, hm, _, hel⟩
  · exact ⟨none, [], 0, hcs, Nat.le_refl _, Lies.nil _ _ _⟩
  · simp only [if_true] at hm
    subst hm
    rw [cells_addr] at hel
    obtain ⟨l, h1, h2, _⟩ := lies_of ⟨false, 0, 0, by decide⟩ (P := fun _ => True) adE (W := W) (a := a) (len := len') fun i hi => by
      obtain ⟨cs', h1, h2⟩ := hel i (by omega)
      obtain ⟨_, hlen, hcell⟩ := World.cells?_some h1
      obtain ⟨y, rfl⟩ := open_ad hlen h2
      exact ⟨y, trivial, hcell⟩
    subst h1
    exact ⟨some a, l, m, hcs, hl, h2⟩
set_option maxRecDepth 100000 in
theorem open_lss' {H : Type} {enc : TypeId × Value → H} {W : World} {n : Nat} {cs : List Value} {x : DataW H × List MemPlace}
    (hf : DataW.trod enc Tryz.prog W 0 (fun _ => true) true n 53 cs = some x) : ∃ (a : Option Addr) (l : List Ls) (c : Nat), cs = [.slice a l.length c] ∧ l.length ≤ c ∧ Lies lsE W a l ∧ ∀ y ∈ l, y.who.size ≤ maxLen := by
  rcases open_slice Tryz.underlying53 hf with ⟨hcs, _⟩ | ⟨a, len', cap', m, n, D, Pl, hcs, _, hl, _, hm, _, hel⟩
  · exact ⟨none, [], 0, hcs, Nat.le_refl _, Lies.nil _ _ _, by simp⟩
  · simp only [if_true] at hm
    subst hm
    rw [cells_ls] at hel
    obtain ⟨l, h1, h2, h3⟩ := lies_of ⟨⟨false, 0, 0, by decide⟩, ⟨#[]⟩, 0⟩ (P := fun y : Ls => y.who.size ≤ maxLen) lsE (W := W) (a := a) (len := len') fun i hi => by
      obtain ⟨cs', h1, h2⟩ := hel i (by omega)
      obtain ⟨_, hlen, hcell⟩ := World.cells?_some h1
      obtain ⟨y, rfl, hy⟩ := open_ls hlen h2
      exact ⟨y, hy, hcell⟩
    subst h1
    exact ⟨some a, l, m, hcs, hl, h2, h3⟩
set_option maxRecDepth 100000 in
theorem open_lss {H : Type} {enc : TypeId × Value → H} {W : World} {base : Nat} {v : Value} {d : DataW H} {p : List MemPlace}
    (hv : Value.okWide Tryz.prog W .any base 53 v) (h : DataW.Trod enc Tryz.prog W 0 (fun _ => true) true 53 v d p) :
    ∃ (a : Option Addr) (l : List Ls) (c : Nat), v = .slice a l.length c ∧ l.length ≤ c ∧ Lies lsE W a l ∧ ∀ y ∈ l, y.who.size ≤ maxLen := by
  obtain ⟨a0, len, cap, rfl⟩ := okWide_slice Tryz.underlying53 hv
  obtain ⟨fuel, hf⟩ := h
  obtain ⟨a, l, c, e, h1, h2, h3⟩ := open_lss' hf
  simp [Value.cells] at e
  obtain ⟨rfl, rfl, rfl⟩ := e
  exact ⟨_, l, _, rfl, h1, h2, h3⟩
set_option maxRecDepth 100000 in
theorem open_pool' {H : Type} {enc : TypeId × Value → H} {W : World} {n : Nat} {cs : List Value} {x : DataW H × List MemPlace} (hl : cs.length = 5)
    (hf : DataW.trod enc Tryz.prog W 0 (fun _ => true) true n 87 cs = some x) : ∃ (p : Pf) (a : Option Addr) (l : List Ad) (c : Nat), cs = [.bool p.v, .int .u64 p.hi, .int .u64 p.lo, .int .i64 p.b, .slice a l.length c] ∧ p.Ok ∧ l.length ≤ c ∧ Lies adE W a l := by
  obtain ⟨c0, c1, c2, c3, c4, rfl⟩ : ∃ a b c d e, cs = [a, b, c, d, e] := by
    match cs, hl with
    | [a, b, c, d, e], _ => exact ⟨a, b, c, d, e, rfl⟩
  obtain ⟨ya, yb, n, hx, _, ha, hb⟩ := trod_struct2 Tryz.underlying87 hf
  simp only [cells_pf, cells_ads] at ha hb
  obtain ⟨p, hp, hok⟩ := open_cells (by rfl) (show DataW.trod enc Tryz.prog W 0 (fun _ => true) true n 31 [c0, c1, c2, c3] = some ya from ha)
  obtain ⟨a, l, c, he, h1, h2⟩ := open_ads (show DataW.trod enc Tryz.prog W 0 (fun _ => true) true n 56 [c4] = some yb from hb)
  simp at hp he
  obtain ⟨rfl, rfl, rfl, rfl⟩ := hp
  subst he
  exact ⟨p, a, l, c, rfl, hok, h1, h2⟩
set_option maxRecDepth 100000 in
theorem open_pool {H : Type} {enc : TypeId × Value → H} {W : World} {base : Nat} {v : Value} {d : DataW H} {p : List MemPlace}
    (hv : Value.okWide Tryz.prog W .any base 87 v) (h : DataW.Trod enc Tryz.prog W 0 (fun _ => true) true 87 v d p) :
    ∃ (p : Pf) (a : Option Addr) (l : List Ad) (c : Nat), v = .agg #[.bool p.v, .int .u64 p.hi, .int .u64 p.lo, .int .i64 p.b, .slice a l.length c] ∧ p.Ok ∧ l.length ≤ c ∧ Lies adE W a l := by
  obtain ⟨cs, rfl, hsz⟩ := okWide_struct Tryz.underlying87 hv
  obtain ⟨fuel, hf⟩ := h
  obtain ⟨p, a, l, c, e, h1, h2, h3⟩ := open_pool' (by simpa [Value.cells] using hsz.trans cells_pool) hf
  refine ⟨p, a, l, c, ?_, h1, h2, h3⟩
  have : cs = #[.bool p.v, .int .u64 p.hi, .int .u64 p.lo, .int .i64 p.b, .slice a l.length c] := by
    apply Array.ext'
    simpa [Value.cells] using e
  rw [this]
set_option maxRecDepth 100000 in
theorem open_str {H : Type} {enc : TypeId × Value → H} {W : World} {base : Nat} {v : Value} {d : DataW H} {p : List MemPlace}
    (hv : Value.okWide Tryz.prog W .any base 9 v) (h : DataW.Trod enc Tryz.prog W 0 (fun _ => true) true 9 v d p) : ∃ s : ByteArray, v = .string s ∧ s.size ≤ maxLen := by
  obtain ⟨s, rfl⟩ := okWide_string Tryz.underlying9 hv
  obtain ⟨fuel, hf⟩ := h
  obtain ⟨s', h, _, hs⟩ := DataW.trod_string Tryz.underlying9 hf
  simp [Value.cells] at h
  subst h
  exact ⟨s, rfl, hs⟩
end Go.Proofs.YtjainfehlbfiaaaGreat

namespace Go.Proofs.YtjainfehlbfiaaaGreat
open Go.ChangeShapes Go.WideShapes Go.ChangeAt Go.WideMaps Go.WideElems Go.RowKit

/-- Whatever came in reads as it did behind what only adds. -/
theorem below_trodAll {H : Type} {enc : TypeId × Value → H} (hl : laidOutB Tryz.prog = true) {W W' : World} (hb : Below W.heap.size W W') :
    ∀ {ts : List TypeId} {vs : List Value} {ds : List (DataW H)} {ps : List MemPlace}, (∀ t ∈ ts, Tryz.prog.readableRec t = true ∧ t < Tryz.prog.types.size) → DataW.TrodAll enc Tryz.prog W 0 (fun _ => true) true ts vs ds ps → (∀ x ∈ ps, x.block < W.heap.size) → DataW.TrodAll enc Tryz.prog W' 0 (fun b => decide (b < W.heap.size)) true ts vs ds ps
  | [], vs, ds, ps, _, h, _ => by
    obtain ⟨rfl, rfl, rfl⟩ := trodAll_nil h
    exact trodAll_mk0
  | t :: ts, vs, ds, ps, hr, h, hlt => by
    obtain ⟨v, vs', d, ds', p, q, rfl, rfl, rfl, h1, h2⟩ := trodAll_cons h
    have k1 := Below.trod hl (hr t (by simp)).1 (hr t (by simp)).2 h1 hb (fun x hx => hlt x (by simp [hx]))
    have k2 := below_trodAll hl hb (fun t ht => hr t (by simp [ht])) h2 (fun x hx => hlt x (by simp [hx]))
    exact trodAll_cons_mk k1 k2

theorem own : ownKnob Tryz.prog.godebug = none := by kernel_rfl
theorem laidOut : laidOutB Tryz.prog = true := by kernel_rfl
theorem five {H : Type} {enc : TypeId × Value → H} {W : World} {sp : Nat → Bool} {base : Nat} {held : Bool} {t0 t1 t2 t3 t4 : TypeId} {args : Array Value} {ds : List (DataW H)} {ps : List MemPlace} (h : DataW.TrodAll enc Tryz.prog W base sp held [t0, t1, t2, t3, t4] args.toList ds ps) :
    ∃ v0 v1 v2 v3 v4 d0 d1 d2 d3 d4 p0 p1 p2 p3 p4, args = #[v0, v1, v2, v3, v4] ∧ ds = [d0, d1, d2, d3, d4] ∧ DataW.Trod enc Tryz.prog W base sp held t0 v0 d0 p0 ∧ DataW.Trod enc Tryz.prog W base sp held t1 v1 d1 p1 ∧ DataW.Trod enc Tryz.prog W base sp held t2 v2 d2 p2 ∧ DataW.Trod enc Tryz.prog W base sp held t3 v3 d3 p3 ∧ DataW.Trod enc Tryz.prog W base sp held t4 v4 d4 p4 := by
  obtain ⟨v0, vs0, d0, ds0, p0, q0, hargs, rfl, _, h0, r0⟩ := trodAll_cons h
  obtain ⟨v1, vs1, d1, ds1, p1, q1, rfl, rfl, _, h1, r1⟩ := trodAll_cons r0
  obtain ⟨v2, vs2, d2, ds2, p2, q2, rfl, rfl, _, h2, r2⟩ := trodAll_cons r1
  obtain ⟨v3, vs3, d3, ds3, p3, q3, rfl, rfl, _, h3, r3⟩ := trodAll_cons r2
  obtain ⟨v4, vs4, d4, ds4, p4, q4, rfl, rfl, _, h4, r4⟩ := trodAll_cons r3
  obtain ⟨rfl, rfl, _⟩ := trodAll_nil r4
  exact ⟨v0, v1, v2, v3, v4, d0, d1, d2, d3, d4, p0, p1, p2, p3, p4, by cases args; simp_all, rfl, h0, h1, h2, h3, h4⟩
end Go.Proofs.YtjainfehlbfiaaaGreat

namespace Go.Proofs.YtjainfehlbfiaaaGreat
open Go.ChangeShapes Go.WideShapes Go.ChangeAt Go.WideMaps Go.WideElems Go.RowKit Go.Deep

theorem trod_struct6 {H : Type} {enc : TypeId × Value → H} {P : Program} {W : World} {base : Nat} {spare : Nat → Bool} {held : Bool} {t : TypeId} {f0 f1 f2 f3 f4 f5 : Field} {fuel : Nat} {cs : List Value} {x : DataW H × List MemPlace} (ht : P.underlying t = some (.struct #[f0, f1, f2, f3, f4, f5])) (h : DataW.trod enc P W base spare held fuel t cs = some x) :
    ∃ y0 y1 y2 y3 y4 y5 n, DataW.trod enc P W base spare held n f0.type ((cs.drop f0.offset).take (P.cellsOf f0.type)) = some y0 ∧ DataW.trod enc P W base spare held n f1.type ((cs.drop f1.offset).take (P.cellsOf f1.type)) = some y1 ∧ DataW.trod enc P W base spare held n f2.type ((cs.drop f2.offset).take (P.cellsOf f2.type)) = some y2 ∧ DataW.trod enc P W base spare held n f3.type ((cs.drop f3.offset).take (P.cellsOf f3.type)) = some y3 ∧ DataW.trod enc P W base spare held n f4.type ((cs.drop f4.offset).take (P.cellsOf f4.type)) = some y4 ∧ DataW.trod enc P W base spare held n f5.type ((cs.drop f5.offset).take (P.cellsOf f5.type)) = some y5 := by
  obtain ⟨xs, n, _, rfl, hl, hlen, hf⟩ := DataW.trod_struct ht h
  match xs, hlen with
  | [y0, y1, y2, y3, y4, y5], _ => exact ⟨y0, y1, y2, y3, y4, y5, n, by simpa using hf 0 f0 rfl, by simpa using hf 1 f1 rfl, by simpa using hf 2 f2 rfl, by simpa using hf 3 f3 rfl, by simpa using hf 4 f4 rfl, by simpa using hf 5 f5 rfl⟩
theorem cells_op : Tryz.prog.cellsOf 33 = 11 := by kernel_rfl
theorem cells_en : Tryz.prog.cellsOf 68 = 13 := by kernel_rfl
theorem cells_disk : Tryz.prog.cellsOf 26 = 4 := by kernel_rfl
theorem cells_lock : Tryz.prog.cellsOf 23 = 2 := by kernel_rfl
theorem cells_ens : Tryz.prog.cellsOf 24 = 1 := by kernel_rfl
set_option maxRecDepth 100000 in
theorem open_op' {H : Type} {enc : TypeId × Value → H} {W : World} {n : Nat} {cs : List Value} {x : DataW H × List MemPlace} (hl : cs.length = 11)
    (hf : DataW.trod enc Tryz.prog W 0 (fun _ => true) true n 33 cs = some x) : ∃ y : Opd, cs = opE.f y ∧ y.who.size ≤ maxLen := by
  obtain ⟨c0, c1, c2, c3, c4, c5, c6, c7, c8, c9, c10, rfl⟩ : ∃ a b c d e f g h i j k, cs = [a, b, c, d, e, f, g, h, i, j, k] := by
    match cs, hl with
    | [a, b, c, d, e, f, g, h, i, j, k], _ => exact ⟨a, b, c, d, e, f, g, h, i, j, k, rfl⟩
  obtain ⟨y0, y1, y2, y3, y4, y5, m, h0, h1, h2, h3, h4, h5⟩ := trod_struct6 Tryz.underlying33 hf
  simp only [cells_addr, cells_s, cells_i, cells_pf] at h0 h1 h2 h3 h4 h5
  obtain ⟨k, e0, rfl, _⟩ := DataW.trod_int Tryz.underlying3 (show DataW.trod enc Tryz.prog W 0 (fun _ => true) true m 3 [c0] = some y0 from h0)
  obtain ⟨p, hp, hok⟩ := open_cells (by rfl) (show DataW.trod enc Tryz.prog W 0 (fun _ => true) true m 31 [c1, c2, c3, c4] = some y1 from h1)
  obtain ⟨a, ha⟩ := open_ad (by rfl) (show DataW.trod enc Tryz.prog W 0 (fun _ => true) true m 29 [c5, c6, c7] = some y2 from h2)
  obtain ⟨s, e3, rfl, hs⟩ := DataW.trod_string Tryz.underlying9 (show DataW.trod enc Tryz.prog W 0 (fun _ => true) true m 9 [c8] = some y3 from h3)
  obtain ⟨i4, e4, rfl, _⟩ := DataW.trod_int Tryz.underlying3 (show DataW.trod enc Tryz.prog W 0 (fun _ => true) true m 3 [c9] = some y4 from h4)
  obtain ⟨i5, e5, rfl, _⟩ := DataW.trod_int Tryz.underlying3 (show DataW.trod enc Tryz.prog W 0 (fun _ => true) true m 3 [c10] = some y5 from h5)
  simp at hp
  simp [adE] at ha e0 e3 e4 e5
  obtain ⟨rfl, rfl, rfl, rfl⟩ := hp
  obtain ⟨rfl, rfl, rfl⟩ := ha
  subst e0 e3 e4 e5
  exact ⟨⟨k, p, a, s, i4, i5, hok⟩, rfl, hs⟩
set_option maxRecDepth 100000 in
theorem open_en' {H : Type} {enc : TypeId × Value → H} {W : World} {n : Nat} {cs : List Value} {x : DataW H × List MemPlace} (hl : cs.length = 13)
    (hf : DataW.trod enc Tryz.prog W 0 (fun _ => true) true n 68 cs = some x) : ∃ y : En, cs = enE.f y ∧ y.o.who.size ≤ maxLen := by
  obtain ⟨c0, c1, cs', rfl, hl'⟩ : ∃ a b r, cs = a :: b :: r ∧ r.length = 11 := by
    match cs, hl with
    | a :: b :: r, h => exact ⟨a, b, r, rfl, by simpa using h⟩
  obtain ⟨y0, y1, y2, m, hya, _, h0, h1, h2⟩ := Go.Deep.trod_struct3 Tryz.underlying68 hf
  simp only [cells_i, cells_op] at h0 h1 h2
  obtain ⟨i0, e0, rfl, _⟩ := DataW.trod_int Tryz.underlying3 (show DataW.trod enc Tryz.prog W 0 (fun _ => true) true m 3 [c0] = some y0 from h0)
  obtain ⟨i1, e1, rfl, _⟩ := DataW.trod_int Tryz.underlying3 (show DataW.trod enc Tryz.prog W 0 (fun _ => true) true m 3 [c1] = some y1 from h1)
  have h2' : DataW.trod enc Tryz.prog W 0 (fun _ => true) true m 33 cs' = some y2 := by
    have e : (List.take 11 (List.drop 2 (c0 :: c1 :: cs'))) = cs' := List.take_of_length_le (by simp [hl'])
    rw [← e]; exact h2
  obtain ⟨o, ho, hs⟩ := open_op' hl' h2'
  simp at e0 e1
  subst e0 e1 ho
  exact ⟨⟨i0, i1, o⟩, rfl, hs⟩
set_option maxRecDepth 100000 in
theorem open_log' {H : Type} {enc : TypeId × Value → H} {W : World} {n : Nat} {cs : List Value} {x : DataW H × List MemPlace}
    (hf : DataW.trod enc Tryz.prog W 0 (fun _ => true) true n 24 cs = some x) : ∃ (a : Option Addr) (l : List En) (c : Nat), cs = [.slice a l.length c] ∧ l.length ≤ c ∧ Lies enE W a l ∧ ∀ y ∈ l, y.o.who.size ≤ maxLen := by
  rcases open_slice Tryz.underlying24 hf with ⟨hcs, _⟩ | ⟨a, len', cap', m, n, D, Pl, hcs, _, hl, _, hm, _, hel⟩
  · exact ⟨none, [], 0, hcs, Nat.le_refl _, Lies.nil _ _ _, by simp⟩
  · simp only [if_true] at hm
    subst hm
    rw [cells_en] at hel
    obtain ⟨l, h1, h2, h3⟩ := lies_of en1 (P := fun y : En => y.o.who.size ≤ maxLen) enE (W := W) (a := a) (len := len') fun i hi => by
      obtain ⟨cs', h1, h2⟩ := hel i (by omega)
      obtain ⟨_, hlen, hcell⟩ := World.cells?_some h1
      obtain ⟨y, rfl, hy⟩ := open_en' hlen h2
      exact ⟨y, hy, hcell⟩
    subst h1
    exact ⟨some a, l, m, hcs, hl, h2, h3⟩
set_option maxRecDepth 100000 in
theorem open_log {H : Type} {enc : TypeId × Value → H} {W : World} {base : Nat} {v : Value} {d : DataW H} {p : List MemPlace}
    (hv : Value.okWide Tryz.prog W .any base 24 v) (h : DataW.Trod enc Tryz.prog W 0 (fun _ => true) true 24 v d p) :
    ∃ (a : Option Addr) (l : List En) (c : Nat), v = .slice a l.length c ∧ l.length ≤ c ∧ Lies enE W a l ∧ ∀ y ∈ l, y.o.who.size ≤ maxLen := by
  obtain ⟨a0, len, cap, rfl⟩ := okWide_slice Tryz.underlying24 hv
  obtain ⟨fuel, hf⟩ := h
  obtain ⟨a, l, c, e, h1, h2, h3⟩ := open_log' hf
  simp [Value.cells] at e
  obtain ⟨rfl, rfl, rfl⟩ := e
  exact ⟨_, l, _, rfl, h1, h2, h3⟩
set_option maxRecDepth 100000 in
theorem open_op {H : Type} {enc : TypeId × Value → H} {W : World} {base : Nat} {v : Value} {d : DataW H} {p : List MemPlace}
    (hv : Value.okWide Tryz.prog W .any base 33 v) (h : DataW.Trod enc Tryz.prog W 0 (fun _ => true) true 33 v d p) :
    ∃ o : Opd, v = .agg #[.int .i64 o.k, .bool o.p.v, .int .u64 o.p.hi, .int .u64 o.p.lo, .int .i64 o.p.b, .bool o.a.v, .int .u64 o.a.hi, .int .u64 o.a.lo, .string o.who, .int .i64 o.pof, .int .i64 o.n] ∧ o.who.size ≤ maxLen := by
  obtain ⟨cs, rfl, hsz⟩ := okWide_struct Tryz.underlying33 hv
  obtain ⟨fuel, hf⟩ := h
  obtain ⟨o, e, hs⟩ := open_op' (by simpa [Value.cells] using hsz.trans cells_op) hf
  refine ⟨o, ?_, hs⟩
  have : cs = #[.int .i64 o.k, .bool o.p.v, .int .u64 o.p.hi, .int .u64 o.p.lo, .int .i64 o.p.b, .bool o.a.v, .int .u64 o.a.hi, .int .u64 o.a.lo, .string o.who, .int .i64 o.pof, .int .i64 o.n] := by
    apply Array.ext'
    simpa [Value.cells, opE] using e
  rw [this]
set_option maxRecDepth 100000 in
theorem open_disk' {H : Type} {enc : TypeId × Value → H} {W : World} {n : Nat} {cs : List Value} {x : DataW H × List MemPlace} (hl : cs.length = 4)
    (hf : DataW.trod enc Tryz.prog W 0 (fun _ => true) true n 26 cs = some x) : ∃ (ep h u : Int) (a : Option Addr) (l : List En) (c : Nat), cs = [.int .i64 ep, .int .i64 h, .int .i64 u, .slice a l.length c] ∧ l.length ≤ c ∧ Lies enE W a l ∧ ∀ y ∈ l, y.o.who.size ≤ maxLen := by
  obtain ⟨c0, c1, c2, c3, rfl⟩ : ∃ a b c d, cs = [a, b, c, d] := by
    match cs, hl with
    | [a, b, c, d], _ => exact ⟨a, b, c, d, rfl⟩
  obtain ⟨y0, y1, y2, m, hya, _, h0, h1, h2⟩ := Go.Deep.trod_struct3 Tryz.underlying26 hf
  simp only [cells_i, cells_lock, cells_ens] at h0 h1 h2
  obtain ⟨i0, e0, rfl, _⟩ := DataW.trod_int Tryz.underlying3 (show DataW.trod enc Tryz.prog W 0 (fun _ => true) true m 3 [c0] = some y0 from h0)
  obtain ⟨z0, z1, m', hz, _, k0, k1⟩ := trod_struct2 Tryz.underlying23 (show DataW.trod enc Tryz.prog W 0 (fun _ => true) true m 23 [c1, c2] = some y1 from h1)
  simp only [cells_i] at k0 k1
  obtain ⟨i1, e1, rfl, _⟩ := DataW.trod_int Tryz.underlying3 (show DataW.trod enc Tryz.prog W 0 (fun _ => true) true m' 3 [c1] = some z0 from k0)
  obtain ⟨i2, e2, rfl, _⟩ := DataW.trod_int Tryz.underlying3 (show DataW.trod enc Tryz.prog W 0 (fun _ => true) true m' 3 [c2] = some z1 from k1)
  obtain ⟨a, l, c, he, g1, g2, g3⟩ := open_log' (show DataW.trod enc Tryz.prog W 0 (fun _ => true) true m 24 [c3] = some y2 from h2)
  simp at e0 e1 e2 he
  subst e0 e1 e2 he
  exact ⟨i0, i1, i2, a, l, c, rfl, g1, g2, g3⟩
set_option maxRecDepth 100000 in
theorem open_disk {H : Type} {enc : TypeId × Value → H} {W : World} {base : Nat} {v : Value} {d : DataW H} {p : List MemPlace}
    (hv : Value.okWide Tryz.prog W .any base 26 v) (h : DataW.Trod enc Tryz.prog W 0 (fun _ => true) true 26 v d p) :
    ∃ (ep h u : Int) (a : Option Addr) (l : List En) (c : Nat), v = .agg #[.int .i64 ep, .int .i64 h, .int .i64 u, .slice a l.length c] ∧ l.length ≤ c ∧ Lies enE W a l ∧ ∀ y ∈ l, y.o.who.size ≤ maxLen := by
  obtain ⟨cs, rfl, hsz⟩ := okWide_struct Tryz.underlying26 hv
  obtain ⟨fuel, hf⟩ := h
  obtain ⟨ep, h, u, a, l, c, e, h1, h2, h3⟩ := open_disk' (by simpa [Value.cells] using hsz.trans cells_disk) hf
  refine ⟨ep, h, u, a, l, c, ?_, h1, h2, h3⟩
  have : cs = #[.int .i64 ep, .int .i64 h, .int .i64 u, .slice a l.length c] := by
    apply Array.ext'
    simpa [Value.cells] using e
  rw [this]
end Go.Proofs.YtjainfehlbfiaaaGreat
