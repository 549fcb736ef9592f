/- Addresses, leases and pools that came in, opened. -/
import Derived.Test.YtclnfkohlklbpaaOpL
import Derived.Test.YtclnfkohlklbpaaLsA
set_option linter.unusedVariables false
set_option linter.unusedSimpArgs false
namespace Go.Proofs.Ytclnfkohlklbpaa
open Go.ChangeShapes Go.WideShapes Go.ChangeAt Go.WideMaps Go.WideElems Go.RowKit Go.Deep

/-- Elements whose cells were read lie in a row. -/
theorem lies_of {α : Type} (dflt : α) (E : Enc α) {W : World} {a : Addr} {len : Nat} {P : α → Prop} (each : ∀ i, i < len → ∃ y : α, P y ∧ ∀ k, k < E.k → W.cell? ((a.add (i * E.k)).add k) = (E.f y)[k]?) :
    ∃ l : List α, l.length = len ∧ Lies E W (some a) l ∧ ∀ y ∈ l, P y := by
  let f : Nat → α := fun i => if h : i < len then (each i h).choose else dflt
  have hfs : ∀ i, i < len → P (f i) ∧ ∀ k, k < E.k → W.cell? ((a.add (i * E.k)).add k) = (E.f (f i))[k]? := fun i hi => by
    have := (each i hi).choose_spec
    simp only [f, hi, dif_pos]
    exact this
  refine ⟨(List.range len).map f, by simp, ?_, ?_⟩
  · intro j hj
    have hj' : j < len := by simpa using hj
    obtain ⟨_, hc⟩ := hfs j hj'
    have hsome : ∀ i, i < E.k → ∃ v, W.cell? ((a.add (j * E.k)).add i) = some v := fun i hi => by
      rw [hc i hi]
      exact ⟨_, List.getElem?_eq_getElem (by rw [E.len]; exact hi)⟩
    have hsp : a.spot = none := by
      obtain ⟨v, hv⟩ := (by
        have h0 := (hfs 0 (by omega)).2 0 E.pos
        rw [List.getElem?_eq_getElem (by rw [E.len]; exact E.pos)] at h0
        exact ⟨_, h0⟩ : ∃ v, W.cell? ((a.add (0 * E.k)).add 0) = some v)
      rw [Nat.zero_mul] at hv
      have h1 : W.cell? a = some v := by simpa [Addr.add] using hv
      exact World.cell?_spot h1
    obtain ⟨blk, off, spot⟩ := a
    simp only at hsp
    subst hsp
    have hlt : blk < W.heap.size := by
      obtain ⟨v, hv⟩ := hsome 0 E.pos
      rw [addr_add, addr_add] at hv
      exact World.block_lt_of_cell? W _ hv
    refine ⟨blk, off, rfl, hlt, fun i v hv => ?_⟩
    have hi : i < E.k := by have := (List.getElem?_eq_some_iff.1 hv).1; rw [E.len] at this; exact this
    have := hc i hi
    rw [addr_add, addr_add] at this
    rw [this]
    simpa using hv
  · intro p hp
    obtain ⟨i, hi, rfl⟩ := List.mem_map.1 hp
    exact (hfs i (List.mem_range.1 hi)).1

theorem cells_pool : Try.prog.cellsOf 66 = 5 := by kernel_rfl
theorem cells_s : Try.prog.cellsOf 9 = 1 := by kernel_rfl
theorem cells_ads : Try.prog.cellsOf 64 = 1 := by kernel_rfl

set_option maxRecDepth 100000 in
theorem open_ad {H : Type} {enc : TypeId × Value → H} {W : World} {n : Nat} {cs : List Value} {x : DataW H × List MemPlace} (hl : cs.length = 3)
    (hf : DataW.trod enc Try.prog W 0 (fun _ => true) true n 38 cs = some x) : ∃ y : Ad, cs = adE.f y := by
  obtain ⟨c0, c1, c2, rfl⟩ : ∃ a b c, cs = [a, b, c] := by
    match cs, hl with
    | [a, b, c], _ => exact ⟨a, b, c, rfl⟩
  obtain ⟨y0, y1, y2, m, hya, _, h0, h1, h2⟩ := Go.Deep.trod_struct3 Try.underlying38 hf
  simp only [cells_b, cells_u] at h0 h1 h2
  obtain ⟨b0, e0, rfl⟩ := DataW.trod_bool Try.underlying4 (show DataW.trod enc Try.prog W 0 (fun _ => true) true m 4 [c0] = some y0 from h0)
  obtain ⟨i1, e1, rfl, w1⟩ := DataW.trod_int Try.underlying36 (show DataW.trod enc Try.prog W 0 (fun _ => true) true m 36 [c1] = some y1 from h1)
  obtain ⟨i2, e2, rfl, w2⟩ := DataW.trod_int Try.underlying36 (show DataW.trod enc Try.prog W 0 (fun _ => true) true m 36 [c2] = some y2 from h2)
  simp at e0 e1 e2
  subst e0 e1 e2
  exact ⟨⟨b0, i1, i2, wd_of w1, wd_of w2⟩, rfl⟩
set_option maxRecDepth 100000 in
/-- A slice of addresses, wherever its header lies. -/
theorem open_ads {H : Type} {enc : TypeId × Value → H} {W : World} {n : Nat} {cs : List Value} {x : DataW H × List MemPlace}
    (hf : DataW.trod enc Try.prog W 0 (fun _ => true) true n 64 cs = some x) : ∃ (a : Option Addr) (l : List Ad) (c : Nat), cs = [.slice a l.length c] ∧ l.length ≤ c ∧ Lies adE W a l := by
  rcases open_slice Try.underlying64 hf with ⟨hcs, _⟩ | ⟨a, len', cap', m, n, D, Pl, hcs, _, hl, _, hm, _, hel⟩
  · exact ⟨none, [], 0, hcs, Nat.le_refl _, Lies.nil _ _ _⟩
  · simp only [if_true] at hm
    subst hm
    rw [cells_addr] at hel
    obtain ⟨l, h1, h2, _⟩ := lies_of ⟨false, 0, 0, by decide⟩ (P := fun _ => True) adE (W := W) (a := a) (len := len') fun i hi => by
      obtain ⟨cs', h1, h2⟩ := hel i (by omega)
      obtain ⟨_, hlen, hcell⟩ := World.cells?_some h1
      obtain ⟨y, rfl⟩ := open_ad hlen h2
      exact ⟨y, trivial, hcell⟩
    subst h1
    exact ⟨some a, l, m, hcs, hl, h2⟩
set_option maxRecDepth 100000 in
theorem open_pool' {H : Type} {enc : TypeId × Value → H} {W : World} {n : Nat} {cs : List Value} {x : DataW H × List MemPlace} (hl : cs.length = 5)
    (hf : DataW.trod enc Try.prog W 0 (fun _ => true) true n 66 cs = some x) : ∃ (p : Pf) (a : Option Addr) (l : List Ad) (c : Nat), cs = [.bool p.v, .int .u64 p.hi, .int .u64 p.lo, .int .i64 p.b, .slice a l.length c] ∧ p.Ok ∧ l.length ≤ c ∧ Lies adE W a l := by
  obtain ⟨c0, c1, c2, c3, c4, rfl⟩ : ∃ a b c d e, cs = [a, b, c, d, e] := by
    match cs, hl with
    | [a, b, c, d, e], _ => exact ⟨a, b, c, d, e, rfl⟩
  obtain ⟨ya, yb, n, hx, _, ha, hb⟩ := trod_struct2 Try.underlying66 hf
  simp only [cells_pf, cells_ads] at ha hb
  obtain ⟨p, hp, hok⟩ := open_cells (by rfl) (show DataW.trod enc Try.prog W 0 (fun _ => true) true n 40 [c0, c1, c2, c3] = some ya from ha)
  obtain ⟨a, l, c, he, h1, h2⟩ := open_ads (show DataW.trod enc Try.prog W 0 (fun _ => true) true n 64 [c4] = some yb from hb)
  simp at hp he
  obtain ⟨rfl, rfl, rfl, rfl⟩ := hp
  subst he
  exact ⟨p, a, l, c, rfl, hok, h1, h2⟩
set_option maxRecDepth 100000 in
theorem open_pool {H : Type} {enc : TypeId × Value → H} {W : World} {base : Nat} {v : Value} {d : DataW H} {p : List MemPlace}
    (hv : Value.okWide Try.prog W .any base 66 v) (h : DataW.Trod enc Try.prog W 0 (fun _ => true) true 66 v d p) :
    ∃ (p : Pf) (a : Option Addr) (l : List Ad) (c : Nat), v = .agg #[.bool p.v, .int .u64 p.hi, .int .u64 p.lo, .int .i64 p.b, .slice a l.length c] ∧ p.Ok ∧ l.length ≤ c ∧ Lies adE W a l := by
  obtain ⟨cs, rfl, hsz⟩ := okWide_struct Try.underlying66 hv
  obtain ⟨fuel, hf⟩ := h
  obtain ⟨p, a, l, c, e, h1, h2, h3⟩ := open_pool' (by simpa [Value.cells] using hsz.trans cells_pool) hf
  refine ⟨p, a, l, c, ?_, h1, h2, h3⟩
  have : cs = #[.bool p.v, .int .u64 p.hi, .int .u64 p.lo, .int .i64 p.b, .slice a l.length c] := by
    apply Array.ext'
    simpa [Value.cells] using e
  rw [this]
set_option maxRecDepth 100000 in
theorem open_str {H : Type} {enc : TypeId × Value → H} {W : World} {base : Nat} {v : Value} {d : DataW H} {p : List MemPlace}
    (hv : Value.okWide Try.prog W .any base 9 v) (h : DataW.Trod enc Try.prog W 0 (fun _ => true) true 9 v d p) : ∃ s : ByteArray, v = .string s ∧ s.size ≤ maxLen := by
  obtain ⟨s, rfl⟩ := okWide_string Try.underlying9 hv
  obtain ⟨fuel, hf⟩ := h
  obtain ⟨s', h, _, hs⟩ := DataW.trod_string Try.underlying9 hf
  simp [Value.cells] at h
  subst h
  exact ⟨s, rfl, hs⟩
end Go.Proofs.Ytclnfkohlklbpaa
