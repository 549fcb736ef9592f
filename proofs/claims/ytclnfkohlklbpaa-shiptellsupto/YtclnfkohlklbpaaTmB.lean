/- Rows of prefixes that a call owns. -/
import Derived.Test.YtclnfkohlklbpaaTbP
import Derived.OwnWalk
import Derived.Deep.AppendLies
set_option linter.unusedVariables false
set_option linter.unusedSimpArgs false
namespace Go.Proofs.Ytclnfkohlklbpaa
open Go.RowKit

theorem infoP : (Try.prog.info? 40).map (fun i => (i.zero, i.size, i.bytes)) = some (some (.agg #[.bool false, .int .u64 0, .int .u64 0, .int .i64 0]), 4, 32) := by kernel_rfl
/-- The cells of prefixes, one behind the other. -/
def flat : List Pf → List Value
  | [] => []
  | p :: r => .bool p.v :: .int .u64 p.hi :: .int .u64 p.lo :: .int .i64 p.b :: flat r
theorem flat_len : ∀ l : List Pf, (flat l).length = l.length * 4
  | [] => rfl
  | p :: r => by simp only [flat, List.length_cons, flat_len r]; omega
theorem flat_append : ∀ l r : List Pf, flat (l ++ r) = flat l ++ flat r
  | [], r => rfl
  | p :: l, r => by simp only [List.cons_append, flat, flat_append l r]
theorem flat_at : ∀ (l : List Pf) (j : Nat) (h : j < l.length), (flat l)[j * 4]? = some (.bool l[j].v) ∧ (flat l)[j * 4 + 1]? = some (.int .u64 l[j].hi) ∧ (flat l)[j * 4 + 2]? = some (.int .u64 l[j].lo) ∧ (flat l)[j * 4 + 3]? = some (.int .i64 l[j].b)
  | p :: r, 0, _ => by simp [flat]
  | p :: r, j + 1, h => by
    obtain ⟨a, b, c, d⟩ := flat_at r j (by simpa using h)
    simp only [flat, List.getElem_cons_succ]
    refine ⟨?_, ?_, ?_, ?_⟩
    · rw [show (j + 1) * 4 = j * 4 + 1 + 1 + 1 + 1 by omega]; simpa using a
    · rw [show (j + 1) * 4 + 1 = j * 4 + 1 + 1 + 1 + 1 + 1 by omega]; simpa using b
    · rw [show (j + 1) * 4 + 2 = j * 4 + 2 + 1 + 1 + 1 + 1 by omega]; simpa using c
    · rw [show (j + 1) * 4 + 3 = j * 4 + 3 + 1 + 1 + 1 + 1 by omega]; simpa using d
theorem flat_one (l : List Pf) : ∀ u ∈ flat l, u.oneCell' = true := by
  induction l with
  | nil => simp [flat]
  | cons p r ih =>
    intro u hu
    simp only [flat, List.mem_cons] at hu
    rcases hu with rfl | rfl | rfl | rfl | hu
    · rfl
    · rfl
    · rfl
    · rfl
    · exact ih u hu
theorem flat_take (l : List Pf) (k : Nat) : flat (l.take k) = (flat l).take (k * 4) := by
  induction l generalizing k with
  | nil => simp [flat]
  | cons p r ih =>
    cases k with
    | zero => simp [flat]
    | succ k => simp only [List.take_succ_cons, flat, ih, show (k + 1) * 4 = k * 4 + 1 + 1 + 1 + 1 by omega, List.take_succ_cons]

/-- What a row of one's own is: a slice of prefixes. -/
theorem own_sl {w : World} {B : Nat} {v : Value} {L : List Pf} (h : w.ownsRow B 40 4 v L.length (flat L)) : ∃ a c, v = .slice a L.length c ∧ L.length ≤ c ∧ Sl w a L := by
  obtain ⟨h1, h2⟩ := h
  rcases h2 with ⟨rfl, h2⟩ | ⟨g, c, cur, rfl, _, hc, h3, h4, h5, h6⟩
  · have : L = [] := List.length_eq_zero_iff.1 h2
    subst this
    exact ⟨none, 0, rfl, Nat.le_refl _, fun j hj => by simp at hj⟩
  · refine ⟨_, c, rfl, h3, fun j hj => ⟨g, 0, rfl, (Array.getElem?_eq_some_iff.1 hc).1, ?_⟩⟩
    have key : ∀ k, k < L.length * 4 → w.cell? ⟨g, k, none⟩ = (flat L)[k]? := fun k hk => by
      have hj2 : (cur.toList.take (L.length * 4))[k]? = (flat L)[k]? := by rw [h6]
      rw [List.getElem?_take_of_lt hk] at hj2
      simp [World.cell?, hc]
      simpa using hj2
    obtain ⟨a, b, c', d⟩ := flat_at L j hj
    simp only [Nat.zero_add]
    refine ⟨?_, ?_, ?_, ?_⟩
    · rw [key _ (by omega)]; exact a
    · rw [key _ (by omega)]; exact b
    · rw [key _ (by omega)]; exact c'
    · rw [key _ (by omega)]; exact d
theorem add_addr (b o k : Nat) : (⟨b, o, none⟩ : Addr).add k = ⟨b, o + k, none⟩ := by
  unfold Addr.add
  split
  · rename_i h; rw [h]; rfl
  · rfl
/-- The cells of a slice of prefixes, as append wants them. -/
theorem sl_news {w : World} {g o : Nat} {ps : List Pf} (h : Sl w (some ⟨g, o, none⟩) ps) : ∀ j u, (flat ps)[j]? = some u → w.cell? ((⟨g, o, none⟩ : Addr).add j) = some u := by
  intro j u hj
  have hlt : j < (flat ps).length := (List.getElem?_eq_some_iff.1 hj).1
  rw [flat_len] at hlt
  have hm : j / 4 < ps.length := by omega
  obtain ⟨g', o', e, _, c0, c1, c2, c3⟩ := h (j / 4) hm
  obtain ⟨rfl, rfl⟩ : g = g' ∧ o = o' := by simpa using e
  obtain ⟨a, b, c, d⟩ := flat_at ps (j / 4) hm
  rw [add_addr]
  rw [← hj]
  have h4 : j % 4 = 0 ∨ j % 4 = 1 ∨ j % 4 = 2 ∨ j % 4 = 3 := by omega
  rcases h4 with h4 | h4 | h4 | h4
  · rw [show o + j = o + j / 4 * 4 by omega, c0, show (flat ps)[j]? = (flat ps)[j / 4 * 4]? by congr 1; omega]; rw [a]
  · rw [show o + j = o + j / 4 * 4 + 1 by omega, c1, show (flat ps)[j]? = (flat ps)[j / 4 * 4 + 1]? by congr 1; omega]; rw [b]
  · rw [show o + j = o + j / 4 * 4 + 2 by omega, c2, show (flat ps)[j]? = (flat ps)[j / 4 * 4 + 2]? by congr 1; omega]; rw [c]
  · rw [show o + j = o + j / 4 * 4 + 3 by omega, c3, show (flat ps)[j]? = (flat ps)[j / 4 * 4 + 3]? by congr 1; omega]; rw [d]
theorem row_empty (w : World) : (w.alloc (.cells #[] 40)).ownsRow w.heap.size 40 4 (.slice (some ⟨w.heap.size, 0, none⟩) 0 0) 0 [] :=
  ⟨by simp, .inr ⟨w.heap.size, 0, #[], rfl, Nat.le_refl _, heap_alloc_new w _, Nat.le_refl _, Nat.zero_le _, by simp, by simp⟩⟩

/-- append in a region that draws. -/
theorem step_append_own {P : Program} {w : World} {ops : Array Oper} {o : Oper} {a : Act} {K : Act → World → Prop} {Q : Exit → Act → World → Prop} {E : Prop} (hgd : o.guard = none) (s x : Operand) (t : TypeId)
    (ho : o.op = .call { callee := .builtin .append, args := #[s, x], argTypes := #[t, t] })
    (base : Nat) (e : TypeId) (i : TypeInfo) (z : Value) (size bytes : Nat) (ht : P.underlying t = some (.slice e)) (hi : P.info? e = some i) (hz : i.zero = some z)
    (hsize : i.size = size) (hby : i.bytes = bytes) (hzs : z.cells.size = size) (hsz : 0 < size)
    (v : Value) (n : Nat) (xs : List Value) (hs : a.eval s = v) (hown : w.ownsRow base e size v n xs)
    (ad : Addr) (m c : Nat) (news : List Value) (hx : a.eval x = .slice (some ad) m c) (hl : news.length = m * size) (hnews : ∀ j u, news[j]? = some u → w.cell? (ad.add j) = some u) (h1 : ∀ u ∈ news, u.oneCell' = true)
    (h63 : n + m ≤ maxLen) (hbytes : (n + m) * bytes ≤ 140737488355328) (hbase : base ≤ w.heap.size)
    (h : ∀ v' w', w'.ownsRow base e size v' (n + m) (xs ++ news) → w.grownBy w' v.ownBlock → (v' = .slice none 0 0 ↔ v = .slice none 0 0 ∧ m = 0) → K (a.put o.dst v') w') :
    if Region.wanted o (yielded ops a.tmps) = true then Oper.wp P o a w K Q else E := by
  have hw : Region.wanted o (yielded ops a.tmps) = true := by simp [Region.wanted, hgd]
  rw [if_pos hw]
  exact wp_append_own w s x t ho base e i z size bytes ht hi hz hsize hby hzs hsz v n xs hs hown ad m c news hx hl hnews h1 h63 hbytes hbase h
theorem Sl.drop {w : World} {g o : Nat} {ps : List Pf} (h : Sl w (some ⟨g, o, none⟩) ps) (k : Nat) : Sl w (some ⟨g, o + k * 4, none⟩) (ps.drop k) := by
  intro j hj
  have hj' : k + j < ps.length := by rw [List.length_drop] at hj; omega
  obtain ⟨g', o', e, hg, c⟩ := h (k + j) hj'
  obtain ⟨rfl, rfl⟩ : g = g' ∧ o = o' := by simpa using e
  refine ⟨g, o + k * 4, rfl, hg, ?_⟩
  rw [List.getElem_drop]
  rw [show o + k * 4 + j * 4 = o + (k + j) * 4 by omega]
  exact c
theorem has3_upto {w w' : World} {B p : Nat} {x y z : Value} (h : Has3 w p x y z) (hp : p < B) (hb : Below B w w') : Has3 w' p x y z :=
  ⟨by rw [hb.cell (p := ⟨p, 0, none⟩) hp]; exact h.1, by rw [hb.cell (p := ⟨p, 1, none⟩) hp]; exact h.2.1, by rw [hb.cell (p := ⟨p, 2, none⟩) hp]; exact h.2.2.1, Nat.lt_of_lt_of_le h.2.2.2 hb.size⟩
theorem own_keep {w w' : World} {B e s n : Nat} {v : Value} {xs : List Value} (h : w.ownsRow B e s v n xs) (hb : Below w.heap.size w w') : w'.ownsRow B e s v n xs := by
  obtain ⟨h1, h2⟩ := h
  refine ⟨h1, ?_⟩
  rcases h2 with h2 | ⟨g, c, cur, e1, e2, hc, r⟩
  · exact .inl h2
  · exact .inr ⟨g, c, cur, e1, e2, (hb.block g (Array.getElem?_eq_some_iff.1 hc).1).trans hc, r⟩
theorem below_le {B B' : Nat} {w w' : World} (h : Below B' w w') (hB : B ≤ B') : Below B w w' := ⟨h.os, h.tape, h.output, h.size, fun k hk => h.block k (by omega)⟩
end Go.Proofs.Ytclnfkohlklbpaa
