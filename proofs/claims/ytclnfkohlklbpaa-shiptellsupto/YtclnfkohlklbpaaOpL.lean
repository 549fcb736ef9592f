/- A list of prefixes that came in, opened. -/
import Derived.Test.YtclnfkohlklbpaaTbP
import Derived.Test.YtclnfkohlklbpaaSlO
set_option linter.unusedVariables false
set_option linter.unusedSimpArgs false
namespace Go.Proofs.Ytclnfkohlklbpaa
open Go.ChangeShapes Go.WideShapes Go.ChangeAt Go.WideMaps Go.WideElems Go.RowKit Go.Deep

theorem addr_add (b o k : Nat) : (⟨b, o, none⟩ : Addr).add k = ⟨b, o + k, none⟩ := by
  unfold Addr.add
  split
  · rename_i h; rw [h]; rfl
  · rfl

theorem list4 {α : Type} {l : List α} (h : l.length = 4) : ∃ a b c d, l = [a, b, c, d] := by
  match l, h with
  | [a, b, c, d], _ => exact ⟨a, b, c, d, rfl⟩

set_option maxRecDepth 100000 in
theorem open_cells {H : Type} {enc : TypeId × Value → H} {W : World} {n : Nat} {cs : List Value} {x : DataW H × List MemPlace} (hl : cs.length = 4)
    (hf : DataW.trod enc Try.prog W 0 (fun _ => true) true n 40 cs = some x) :
    ∃ p : Pf, cs = [.bool p.v, .int .u64 p.hi, .int .u64 p.lo, .int .i64 p.b] ∧ p.Ok := by
  obtain ⟨c0, c1, c2, c3, rfl⟩ := list4 hl
  obtain ⟨ya, yb, n, hx, _, ha, hb⟩ := trod_struct2 Try.underlying40 hf
  simp only [cells_addr, cells_i] at ha hb
  have ha' : DataW.trod enc Try.prog W 0 (fun _ => true) true n 38 [c0, c1, c2] = some ya := ha
  have hb' : DataW.trod enc Try.prog W 0 (fun _ => true) true n 3 [c3] = some yb := hb
  obtain ⟨y0, y1, y2, m, hya, _, h0, h1, h2⟩ := Go.Deep.trod_struct3 Try.underlying38 ha'
  simp only [cells_b, cells_u] at h0 h1 h2
  obtain ⟨b0, e0, rfl⟩ := DataW.trod_bool Try.underlying4 (show DataW.trod enc Try.prog W 0 (fun _ => true) true m 4 [c0] = some y0 from h0)
  obtain ⟨i1, e1, rfl, w1⟩ := DataW.trod_int Try.underlying36 (show DataW.trod enc Try.prog W 0 (fun _ => true) true m 36 [c1] = some y1 from h1)
  obtain ⟨i2, e2, rfl, w2⟩ := DataW.trod_int Try.underlying36 (show DataW.trod enc Try.prog W 0 (fun _ => true) true m 36 [c2] = some y2 from h2)
  obtain ⟨i3, e3, rfl, w3⟩ := DataW.trod_int Try.underlying3 hb'
  simp at e0 e1 e2 e3
  subst e0 e1 e2 e3
  obtain ⟨a1, a2⟩ := wd_of w1
  obtain ⟨a3, a4⟩ := wd_of w2
  exact ⟨⟨b0, i1, i2, i3⟩, rfl, a1, a2, a3, a4⟩

set_option maxRecDepth 100000 in
/-- A list of prefixes that came in, opened. -/
theorem open_pfs {H : Type} {enc : TypeId × Value → H} {W : World} {base : Nat} {v : Value} {d : DataW H} {p : List MemPlace}
    (hv : Value.okWide Try.prog W .any base 79 v) (h : DataW.Trod enc Try.prog W 0 (fun _ => true) true 79 v d p) :
    ∃ (a : Option Addr) (ps : List Pf) (c : Nat), v = .slice a ps.length c ∧ ps.length ≤ c ∧ Sl W a ps ∧ ∀ p ∈ ps, p.Ok := by
  obtain ⟨a0, len, cap, rfl⟩ := okWide_slice Try.underlying79 hv
  obtain ⟨fuel, hf⟩ := h
  rcases open_slice Try.underlying79 hf with ⟨hcs, _⟩ | ⟨a, len', cap', m, n, D, Pl, hcs, _, hl, _, hm, _, hel⟩
  · simp [Value.cells] at hcs
    obtain ⟨rfl, rfl, rfl⟩ := hcs
    exact ⟨none, [], 0, rfl, Nat.le_refl _, fun j hj => by simp at hj, by simp⟩
  · simp [Value.cells] at hcs
    obtain ⟨rfl, rfl, rfl⟩ := hcs
    simp only [if_true] at hm
    subst hm
    rw [cells_pf] at hel
    have each : ∀ i, i < len → ∃ p : Pf, p.Ok ∧ ∀ k (hk : k < 4), W.cell? ((a.add (i * 4)).add k) = [Value.bool p.v, .int .u64 p.hi, .int .u64 p.lo, .int .i64 p.b][k]? := fun i hi => by
      obtain ⟨cs', h1, h2⟩ := hel i (by omega)
      obtain ⟨_, hlen, hcell⟩ := World.cells?_some h1
      obtain ⟨p, rfl, hok⟩ := open_cells hlen h2
      exact ⟨p, hok, hcell⟩
    let f : Nat → Pf := fun i => if h : i < len then (each i h).choose else ⟨false, 0, 0, 0⟩
    have hfs : ∀ i, i < len → (f i).Ok ∧ ∀ k (hk : k < 4), W.cell? ((a.add (i * 4)).add k) = [Value.bool (f i).v, .int .u64 (f i).hi, .int .u64 (f i).lo, .int .i64 (f i).b][k]? := fun i hi => by
      have := (each i hi).choose_spec
      simp only [f, hi, dif_pos]
      exact this
    refine ⟨some a, (List.range len).map f, m, by simp, by simpa using hl, ?_, ?_⟩
    · intro j hj
      have hj' : j < len := by simpa using hj
      obtain ⟨_, hc⟩ := hfs j hj'
      have hsp : a.spot = none := by
        have h0 := (hfs 0 (by omega)).2 0 (by decide)
        have h1 : W.cell? a = some (.bool (f 0).v) := by simpa [Addr.add] using h0
        exact World.cell?_spot h1
      obtain ⟨blk, off, spot⟩ := a
      simp only at hsp
      subst hsp
      have hlt : blk < W.heap.size := by
        have h0 := hc 0 (by decide)
        rw [addr_add, addr_add] at h0
        exact World.block_lt_of_cell? W _ h0
      refine ⟨blk, off, rfl, hlt, ?_, ?_, ?_, ?_⟩
      · have := hc 0 (by decide); rw [addr_add, addr_add] at this; simpa using this
      · have := hc 1 (by decide); rw [addr_add, addr_add] at this; simpa using this
      · have := hc 2 (by decide); rw [addr_add, addr_add] at this; simpa using this
      · have := hc 3 (by decide); rw [addr_add, addr_add] at this; simpa using this
    · intro p hp
      obtain ⟨i, hi, rfl⟩ := List.mem_map.1 hp
      exact (hfs i (List.mem_range.1 hi)).1
end Go.Proofs.Ytclnfkohlklbpaa
