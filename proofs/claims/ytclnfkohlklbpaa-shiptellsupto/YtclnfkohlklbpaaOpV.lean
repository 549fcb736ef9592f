/- Ops, entries, logs and disks that came in, opened. -/
import Derived.Test.YtclnfkohlklbpaaOpQ
import Derived.Test.YtclnfkohlklbpaaLxA
set_option linter.unusedVariables false
set_option linter.unusedSimpArgs false
namespace Go.Proofs.Ytclnfkohlklbpaa
open Go.ChangeShapes Go.WideShapes Go.ChangeAt Go.WideMaps Go.WideElems Go.RowKit Go.Deep

theorem trod_struct6 {H : Type} {enc : TypeId × Value → H} {P : Program} {W : World} {base : Nat} {spare : Nat → Bool} {held : Bool} {t : TypeId} {f0 f1 f2 f3 f4 f5 : Field} {fuel : Nat} {cs : List Value} {x : DataW H × List MemPlace} (ht : P.underlying t = some (.struct #[f0, f1, f2, f3, f4, f5])) (h : DataW.trod enc P W base spare held fuel t cs = some x) :
    ∃ y0 y1 y2 y3 y4 y5 n, DataW.trod enc P W base spare held n f0.type ((cs.drop f0.offset).take (P.cellsOf f0.type)) = some y0 ∧ DataW.trod enc P W base spare held n f1.type ((cs.drop f1.offset).take (P.cellsOf f1.type)) = some y1 ∧ DataW.trod enc P W base spare held n f2.type ((cs.drop f2.offset).take (P.cellsOf f2.type)) = some y2 ∧ DataW.trod enc P W base spare held n f3.type ((cs.drop f3.offset).take (P.cellsOf f3.type)) = some y3 ∧ DataW.trod enc P W base spare held n f4.type ((cs.drop f4.offset).take (P.cellsOf f4.type)) = some y4 ∧ DataW.trod enc P W base spare held n f5.type ((cs.drop f5.offset).take (P.cellsOf f5.type)) = some y5 := by
  obtain ⟨xs, n, _, rfl, hl, hlen, hf⟩ := DataW.trod_struct ht h
  match xs, hlen with
  | [y0, y1, y2, y3, y4, y5], _ => exact ⟨y0, y1, y2, y3, y4, y5, n, by simpa using hf 0 f0 rfl, by simpa using hf 1 f1 rfl, by simpa using hf 2 f2 rfl, by simpa using hf 3 f3 rfl, by simpa using hf 4 f4 rfl, by simpa using hf 5 f5 rfl⟩
theorem cells_op : Try.prog.cellsOf 42 = 11 := by kernel_rfl
theorem cells_en : Try.prog.cellsOf 44 = 13 := by kernel_rfl
theorem cells_ens : Try.prog.cellsOf 22 = 1 := by kernel_rfl
set_option maxRecDepth 100000 in
theorem open_op' {H : Type} {enc : TypeId × Value → H} {W : World} {n : Nat} {cs : List Value} {x : DataW H × List MemPlace} (hl : cs.length = 11)
    (hf : DataW.trod enc Try.prog W 0 (fun _ => true) true n 42 cs = some x) : ∃ y : Opd, cs = opE.f y ∧ y.who.size ≤ maxLen := by
  obtain ⟨c0, c1, c2, c3, c4, c5, c6, c7, c8, c9, c10, rfl⟩ : ∃ a b c d e f g h i j k, cs = [a, b, c, d, e, f, g, h, i, j, k] := by
    match cs, hl with
    | [a, b, c, d, e, f, g, h, i, j, k], _ => exact ⟨a, b, c, d, e, f, g, h, i, j, k, rfl⟩
  obtain ⟨y0, y1, y2, y3, y4, y5, m, h0, h1, h2, h3, h4, h5⟩ := trod_struct6 Try.underlying42 hf
  simp only [cells_addr, cells_s, cells_i, cells_pf] at h0 h1 h2 h3 h4 h5
  obtain ⟨k, e0, rfl, _⟩ := DataW.trod_int Try.underlying3 (show DataW.trod enc Try.prog W 0 (fun _ => true) true m 3 [c0] = some y0 from h0)
  obtain ⟨p, hp, hok⟩ := open_cells (by rfl) (show DataW.trod enc Try.prog W 0 (fun _ => true) true m 40 [c1, c2, c3, c4] = some y1 from h1)
  obtain ⟨a, ha⟩ := open_ad (by rfl) (show DataW.trod enc Try.prog W 0 (fun _ => true) true m 38 [c5, c6, c7] = some y2 from h2)
  obtain ⟨s, e3, rfl, hs⟩ := DataW.trod_string Try.underlying9 (show DataW.trod enc Try.prog W 0 (fun _ => true) true m 9 [c8] = some y3 from h3)
  obtain ⟨i4, e4, rfl, _⟩ := DataW.trod_int Try.underlying3 (show DataW.trod enc Try.prog W 0 (fun _ => true) true m 3 [c9] = some y4 from h4)
  obtain ⟨i5, e5, rfl, _⟩ := DataW.trod_int Try.underlying3 (show DataW.trod enc Try.prog W 0 (fun _ => true) true m 3 [c10] = some y5 from h5)
  simp at hp
  simp [adE] at ha e0 e3 e4 e5
  obtain ⟨rfl, rfl, rfl, rfl⟩ := hp
  obtain ⟨rfl, rfl, rfl⟩ := ha
  subst e0 e3 e4 e5
  exact ⟨⟨k, p, a, s, i4, i5, hok⟩, rfl, hs⟩
set_option maxRecDepth 100000 in
theorem open_en' {H : Type} {enc : TypeId × Value → H} {W : World} {n : Nat} {cs : List Value} {x : DataW H × List MemPlace} (hl : cs.length = 13)
    (hf : DataW.trod enc Try.prog W 0 (fun _ => true) true n 44 cs = some x) : ∃ y : En, cs = enE.f y ∧ y.o.who.size ≤ maxLen := by
  obtain ⟨c0, c1, cs', rfl, hl'⟩ : ∃ a b r, cs = a :: b :: r ∧ r.length = 11 := by
    match cs, hl with
    | a :: b :: r, h => exact ⟨a, b, r, rfl, by simpa using h⟩
  obtain ⟨y0, y1, y2, m, hya, _, h0, h1, h2⟩ := Go.Deep.trod_struct3 Try.underlying44 hf
  simp only [cells_i, cells_op] at h0 h1 h2
  obtain ⟨i0, e0, rfl, _⟩ := DataW.trod_int Try.underlying3 (show DataW.trod enc Try.prog W 0 (fun _ => true) true m 3 [c0] = some y0 from h0)
  obtain ⟨i1, e1, rfl, _⟩ := DataW.trod_int Try.underlying3 (show DataW.trod enc Try.prog W 0 (fun _ => true) true m 3 [c1] = some y1 from h1)
  have h2' : DataW.trod enc Try.prog W 0 (fun _ => true) true m 42 cs' = some y2 := by
    have e : (List.take 11 (List.drop 2 (c0 :: c1 :: cs'))) = cs' := List.take_of_length_le (by simp [hl'])
    rw [← e]; exact h2
  obtain ⟨o, ho, hs⟩ := open_op' hl' h2'
  simp at e0 e1
  subst e0 e1 ho
  exact ⟨⟨i0, i1, o⟩, rfl, hs⟩
set_option maxRecDepth 100000 in
theorem open_log' {H : Type} {enc : TypeId × Value → H} {W : World} {n : Nat} {cs : List Value} {x : DataW H × List MemPlace}
    (hf : DataW.trod enc Try.prog W 0 (fun _ => true) true n 22 cs = some x) : ∃ (a : Option Addr) (l : List En) (c : Nat), cs = [.slice a l.length c] ∧ l.length ≤ c ∧ Lies enE W a l ∧ ∀ y ∈ l, y.o.who.size ≤ maxLen := by
  rcases open_slice Try.underlying22 hf with ⟨hcs, _⟩ | ⟨a, len', cap', m, n, D, Pl, hcs, _, hl, _, hm, _, hel⟩
  · exact ⟨none, [], 0, hcs, Nat.le_refl _, Lies.nil _ _ _, by simp⟩
  · simp only [if_true] at hm
    subst hm
    rw [cells_en] at hel
    obtain ⟨l, h1, h2, h3⟩ := lies_of en1 (P := fun y : En => y.o.who.size ≤ maxLen) enE (W := W) (a := a) (len := len') fun i hi => by
      obtain ⟨cs', h1, h2⟩ := hel i (by omega)
      obtain ⟨_, hlen, hcell⟩ := World.cells?_some h1
      obtain ⟨y, rfl, hy⟩ := open_en' hlen h2
      exact ⟨y, hy, hcell⟩
    subst h1
    exact ⟨some a, l, m, hcs, hl, h2, h3⟩
set_option maxRecDepth 100000 in
theorem open_log {H : Type} {enc : TypeId × Value → H} {W : World} {base : Nat} {v : Value} {d : DataW H} {p : List MemPlace}
    (hv : Value.okWide Try.prog W .any base 22 v) (h : DataW.Trod enc Try.prog W 0 (fun _ => true) true 22 v d p) :
    ∃ (a : Option Addr) (l : List En) (c : Nat), v = .slice a l.length c ∧ l.length ≤ c ∧ Lies enE W a l ∧ ∀ y ∈ l, y.o.who.size ≤ maxLen := by
  obtain ⟨a0, len, cap, rfl⟩ := okWide_slice Try.underlying22 hv
  obtain ⟨fuel, hf⟩ := h
  obtain ⟨a, l, c, e, h1, h2, h3⟩ := open_log' hf
  simp [Value.cells] at e
  obtain ⟨rfl, rfl, rfl⟩ := e
  exact ⟨_, l, _, rfl, h1, h2, h3⟩
set_option maxRecDepth 100000 in
theorem open_op {H : Type} {enc : TypeId × Value → H} {W : World} {base : Nat} {v : Value} {d : DataW H} {p : List MemPlace}
    (hv : Value.okWide Try.prog W .any base 42 v) (h : DataW.Trod enc Try.prog W 0 (fun _ => true) true 42 v d p) :
    ∃ o : Opd, v = .agg #[.int .i64 o.k, .bool o.p.v, .int .u64 o.p.hi, .int .u64 o.p.lo, .int .i64 o.p.b, .bool o.a.v, .int .u64 o.a.hi, .int .u64 o.a.lo, .string o.who, .int .i64 o.pof, .int .i64 o.n] ∧ o.who.size ≤ maxLen := by
  obtain ⟨cs, rfl, hsz⟩ := okWide_struct Try.underlying42 hv
  obtain ⟨fuel, hf⟩ := h
  obtain ⟨o, e, hs⟩ := open_op' (by simpa [Value.cells] using hsz.trans cells_op) hf
  refine ⟨o, ?_, hs⟩
  have : cs = #[.int .i64 o.k, .bool o.p.v, .int .u64 o.p.hi, .int .u64 o.p.lo, .int .i64 o.p.b, .bool o.a.v, .int .u64 o.a.hi, .int .u64 o.a.lo, .string o.who, .int .i64 o.pof, .int .i64 o.n] := by
    apply Array.ext'
    simpa [Value.cells, opE] using e
  rw [this]
end Go.Proofs.Ytclnfkohlklbpaa
