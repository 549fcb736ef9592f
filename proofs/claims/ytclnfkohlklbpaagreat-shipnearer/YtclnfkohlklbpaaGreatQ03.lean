/- Ops as plain words: ranged, named, Form. -/
import Derived.Test.YtclnfkohlklbpaaGreatQ02
import Derived.Deep.RegionHeld3
set_option linter.unusedVariables false
set_option linter.unusedSimpArgs false
namespace Go.Proofs.YtclnfkohlklbpaaGreat
open Go.RowKit

/-- An op whose prefix and address are words. -/
structure Opd where
  k : Int
  p : Pf
  a : Ad
  who : ByteArray
  pof : Int
  n : Int
  pok : p.Ok
theorem Opd.same {x y : Opd} (h0 : x.k = y.k) (h1 : x.p = y.p) (h2 : x.a = y.a) (h3 : x.who = y.who) (h4 : x.pof = y.pof) (h5 : x.n = y.n) : x = y := by
  cases x; cases y; simp at h0 h1 h2 h3 h4 h5; subst h0; subst h1; subst h2; subst h3; subst h4; subst h5; rfl
def zPf : Pf := ⟨false, 0, 0, 0⟩
def zAd : Ad := ⟨false, 0, 0, by decide⟩
theorem zPf_ok : zPf.Ok := by unfold zPf Pf.Ok; decide
def noOp : Opd := ⟨0, zPf, zAd, ⟨#[]⟩, 0, 0, zPf_ok⟩
/-- An op that has what its kind names, and nothing else. -/
def nmd (o : Opd) : Opd := ⟨o.k, if o.k = 1 then o.p else zPf, if o.k = 2 then o.a else zAd, if o.k = 3 ∨ o.k = 4 then o.who else ⟨#[]⟩, if o.k = 3 then o.pof else 0, if o.k = 3 ∨ o.k = 5 then o.n else 0, by split; exact o.pok; exact zPf_ok⟩
def eqO (x y : Opd) : Bool := x.k == y.k && (x.p.v == y.p.v && (x.p.hi == y.p.hi && (x.p.lo == y.p.lo && (x.p.b == y.p.b && (x.a.v == y.a.v && (x.a.hi == y.a.hi && (x.a.lo == y.a.lo && (x.who.toList == y.who.toList && (x.pof == y.pof && x.n == y.n)))))))))
theorem text_eq' (a b : ByteArray) : (a.toList == b.toList) = decide (a = b) := by
  by_cases h : a = b
  · subst h; simp
  · rw [decide_eq_false h]
    apply Bool.eq_false_iff.2
    intro e
    apply h
    have e' : a.toList = b.toList := by simpa using e
    rw [ByteArray.toList_eq, ByteArray.toList_eq] at e'
    cases a; cases b; simpa using e'
theorem eqO_iff (x y : Opd) : eqO x y = true ↔ x = y := by
  unfold eqO
  rw [text_eq']
  simp only [Bool.and_eq_true, beq_iff_eq, decide_eq_true_eq]
  constructor
  · rintro ⟨a, b, c, d, e, f, g, h, i, j, k⟩
    exact Opd.same a (by cases hx : x.p; cases hy : y.p; rw [hx, hy] at b c d e; simp at b c d e; subst b; subst c; subst d; subst e; rfl) (Ad.same f g h) i j k
  · rintro rfl; exact ⟨rfl, rfl, rfl, rfl, rfl, rfl, rfl, rfl, rfl, rfl, rfl⟩
set_option maxHeartbeats 8000000 in
theorem neq_op (w : World) (x y : Opd) : (binOp .neq 42 (.agg #[.int .i64 x.k, .bool x.p.v, .int .u64 x.p.hi, .int .u64 x.p.lo, .int .i64 x.p.b, .bool x.a.v, .int .u64 x.a.hi, .int .u64 x.a.lo, .string x.who, .int .i64 x.pof, .int .i64 x.n]) (.agg #[.int .i64 y.k, .bool y.p.v, .int .u64 y.p.hi, .int .u64 y.p.lo, .int .i64 y.p.b, .bool y.a.v, .int .u64 y.a.hi, .int .u64 y.a.lo, .string y.who, .int .i64 y.pof, .int .i64 y.n])).run Tryz.prog w = .ok (.bool (!eqO x y)) w := by
  unfold eqO
  generalize x.k = x0
  generalize x.p.v = x1
  generalize x.p.hi = x2
  generalize x.p.lo = x3
  generalize x.p.b = x4
  generalize x.a.v = x5
  generalize x.a.hi = x6
  generalize x.a.lo = x7
  generalize x.who = x8
  generalize x.pof = x9
  generalize x.n = x10
  generalize y.k = y0
  generalize y.p.v = y1
  generalize y.p.hi = y2
  generalize y.p.lo = y3
  generalize y.p.b = y4
  generalize y.a.v = y5
  generalize y.a.hi = y6
  generalize y.a.lo = y7
  generalize y.who = y8
  generalize y.pof = y9
  generalize y.n = y10
  cases h0 : x0 == y0
  · simp [go_sem, h0]
  cases h1 : x1 == y1
  · simp [go_sem, h0, h1]
  cases h2 : x2 == y2
  · simp [go_sem, h0, h1, h2]
  cases h3 : x3 == y3
  · simp [go_sem, h0, h1, h2, h3]
  cases h4 : x4 == y4
  · simp [go_sem, h0, h1, h2, h3, h4]
  cases h5 : x5 == y5
  · simp [go_sem, h0, h1, h2, h3, h4, h5]
  cases h6 : x6 == y6
  · simp [go_sem, h0, h1, h2, h3, h4, h5, h6]
  cases h7 : x7 == y7
  · simp [go_sem, h0, h1, h2, h3, h4, h5, h6, h7]
  cases h8 : x8.toList == y8.toList
  · simp [go_sem, h0, h1, h2, h3, h4, h5, h6, h7, h8]
  cases h9 : x9 == y9
  · simp [go_sem, h0, h1, h2, h3, h4, h5, h6, h7, h8, h9]
  cases h10 : x10 == y10 <;> simp [go_sem, h0, h1, h2, h3, h4, h5, h6, h7, h8, h9, h10]

/-- A number that must be from a to b. -/
def rngE (n a b : Int) : Int := if n < a ∨ b < n then 3 else 0
set_option maxHeartbeats 4000000 in
theorem sranged_any (n a b : Int) (w : World) : Calls Tryz.prog 29 #[.int .i64 n, .int .i64 a, .int .i64 b] w fun e w' => e = .returned (.int .i64 (rngE n a b)) ∧ w' = w := by
  unfold rngE
  by_cases h0 : n < a
  · rw [if_pos (.inl h0)]
    go_enter Tryz.func29, Tryz.ntmps29
    go_wp2
    go_ret
    exact ⟨rfl, rfl⟩
  · have d0 : decide (n < a) = false := decide_eq_false h0
    by_cases h1 : b < n
    · rw [if_pos (.inr h1)]
      go_enter Tryz.func29, Tryz.ntmps29
      go_wp2
      go_ret
      exact ⟨rfl, rfl⟩
    · have d1 : decide (b < n) = false := decide_eq_false h1
      rw [if_neg (by omega)]
      go_enter Tryz.func29, Tryz.ntmps29
      go_wp2
      go_ret
      exact ⟨rfl, rfl⟩
end Go.Proofs.YtclnfkohlklbpaaGreat

namespace Go.Proofs.YtclnfkohlklbpaaGreat
open Go.RowKit

theorem nmd1 {o : Opd} (h : o.k = 1) : nmd o = ⟨1, o.p, zAd, ⟨#[]⟩, 0, 0, o.pok⟩ := by unfold nmd; apply Opd.same <;> simp [h]
theorem nmd2 {o : Opd} (h : o.k = 2) : nmd o = ⟨2, zPf, o.a, ⟨#[]⟩, 0, 0, zPf_ok⟩ := by unfold nmd; apply Opd.same <;> simp [h]
theorem nmd3 {o : Opd} (h : o.k = 3) : nmd o = ⟨3, zPf, zAd, o.who, o.pof, o.n, zPf_ok⟩ := by unfold nmd; apply Opd.same <;> simp [h]
theorem nmd4 {o : Opd} (h : o.k = 4) : nmd o = ⟨4, zPf, zAd, o.who, 0, 0, zPf_ok⟩ := by unfold nmd; apply Opd.same <;> simp [h]
theorem nmd5 {o : Opd} (h : o.k = 5) : nmd o = ⟨5, zPf, zAd, ⟨#[]⟩, 0, o.n, zPf_ok⟩ := by unfold nmd; apply Opd.same <;> simp [h]

set_option maxHeartbeats 8000000 in
set_option maxRecDepth 100000 in
theorem snamed_1 (o : Opd) (w : World) (hk : o.k = 1) : Calls Tryz.prog 26 #[.agg #[.int .i64 o.k, .bool o.p.v, .int .u64 o.p.hi, .int .u64 o.p.lo, .int .i64 o.p.b, .bool o.a.v, .int .u64 o.a.hi, .int .u64 o.a.lo, .string o.who, .int .i64 o.pof, .int .i64 o.n]] w fun e w' => e = .returned (.agg #[.int .i64 (nmd o).k, .bool (nmd o).p.v, .int .u64 (nmd o).p.hi, .int .u64 (nmd o).p.lo, .int .i64 (nmd o).p.b, .bool (nmd o).a.v, .int .u64 (nmd o).a.hi, .int .u64 (nmd o).a.lo, .string (nmd o).who, .int .i64 (nmd o).pof, .int .i64 (nmd o).n]) ∧ Below w.heap.size w w' := by
  rw [nmd1 hk, hk]
  dsimp only [zPf, zAd]
  generalize o.p.v = x1
  generalize o.p.hi = x2
  generalize o.p.lo = x3
  generalize o.p.b = x4
  generalize o.a.v = x5
  generalize o.a.hi = x6
  generalize o.a.lo = x7
  generalize o.who = x8
  generalize o.pof = x9
  generalize o.n = x10
  clear hk
  go_enter Tryz.func26, Tryz.ntmps26
  go_wp2
  refine bodyPost_ret (v := .agg #[.int .i64 1, .bool x1, .int .u64 x2, .int .u64 x3, .int .i64 x4, .bool false, .int .u64 0, .int .u64 0, .string ⟨#[]⟩, .int .i64 0, .int .i64 0]) ?_ rfl ⟨rfl, ?_⟩
  · simp [results, Tryz.results26, go_sem]
  · repeat' (first | exact Below.refl _ _ | with_reducible refine Below.drew ?_ | with_reducible refine bal ?_ _ | with_reducible refine bse ?_ (by first | (simp; done) | (simp; omega)) _)
set_option maxHeartbeats 8000000 in
set_option maxRecDepth 100000 in
theorem snamed_2 (o : Opd) (w : World) (hk : o.k = 2) : Calls Tryz.prog 26 #[.agg #[.int .i64 o.k, .bool o.p.v, .int .u64 o.p.hi, .int .u64 o.p.lo, .int .i64 o.p.b, .bool o.a.v, .int .u64 o.a.hi, .int .u64 o.a.lo, .string o.who, .int .i64 o.pof, .int .i64 o.n]] w fun e w' => e = .returned (.agg #[.int .i64 (nmd o).k, .bool (nmd o).p.v, .int .u64 (nmd o).p.hi, .int .u64 (nmd o).p.lo, .int .i64 (nmd o).p.b, .bool (nmd o).a.v, .int .u64 (nmd o).a.hi, .int .u64 (nmd o).a.lo, .string (nmd o).who, .int .i64 (nmd o).pof, .int .i64 (nmd o).n]) ∧ Below w.heap.size w w' := by
  rw [nmd2 hk, hk]
  dsimp only [zPf, zAd]
  generalize o.p.v = x1
  generalize o.p.hi = x2
  generalize o.p.lo = x3
  generalize o.p.b = x4
  generalize o.a.v = x5
  generalize o.a.hi = x6
  generalize o.a.lo = x7
  generalize o.who = x8
  generalize o.pof = x9
  generalize o.n = x10
  clear hk
  go_enter Tryz.func26, Tryz.ntmps26
  go_wp2
  refine bodyPost_ret (v := .agg #[.int .i64 2, .bool false, .int .u64 0, .int .u64 0, .int .i64 0, .bool x5, .int .u64 x6, .int .u64 x7, .string ⟨#[]⟩, .int .i64 0, .int .i64 0]) ?_ rfl ⟨rfl, ?_⟩
  · simp [results, Tryz.results26, go_sem]
  · repeat' (first | exact Below.refl _ _ | with_reducible refine Below.drew ?_ | with_reducible refine bal ?_ _ | with_reducible refine bse ?_ (by first | (simp; done) | (simp; omega)) _)
set_option maxHeartbeats 8000000 in
set_option maxRecDepth 100000 in
theorem snamed_3 (o : Opd) (w : World) (hk : o.k = 3) : Calls Tryz.prog 26 #[.agg #[.int .i64 o.k, .bool o.p.v, .int .u64 o.p.hi, .int .u64 o.p.lo, .int .i64 o.p.b, .bool o.a.v, .int .u64 o.a.hi, .int .u64 o.a.lo, .string o.who, .int .i64 o.pof, .int .i64 o.n]] w fun e w' => e = .returned (.agg #[.int .i64 (nmd o).k, .bool (nmd o).p.v, .int .u64 (nmd o).p.hi, .int .u64 (nmd o).p.lo, .int .i64 (nmd o).p.b, .bool (nmd o).a.v, .int .u64 (nmd o).a.hi, .int .u64 (nmd o).a.lo, .string (nmd o).who, .int .i64 (nmd o).pof, .int .i64 (nmd o).n]) ∧ Below w.heap.size w w' := by
  rw [nmd3 hk, hk]
  dsimp only [zPf, zAd]
  generalize o.p.v = x1
  generalize o.p.hi = x2
  generalize o.p.lo = x3
  generalize o.p.b = x4
  generalize o.a.v = x5
  generalize o.a.hi = x6
  generalize o.a.lo = x7
  generalize o.who = x8
  generalize o.pof = x9
  generalize o.n = x10
  clear hk
  go_enter Tryz.func26, Tryz.ntmps26
  go_wp2
  go_region
  all_goals
    go_wp2
    refine bodyPost_ret (v := .agg #[.int .i64 3, .bool false, .int .u64 0, .int .u64 0, .int .i64 0, .bool false, .int .u64 0, .int .u64 0, .string x8, .int .i64 x9, .int .i64 x10]) ?_ rfl ⟨rfl, ?_⟩
    · simp [results, Tryz.results26, go_sem]
    · repeat' (first | exact Below.refl _ _ | with_reducible refine Below.drew ?_ | with_reducible refine bal ?_ _ | with_reducible refine bse ?_ (by first | (simp; done) | (simp; omega)) _)
set_option maxHeartbeats 8000000 in
set_option maxRecDepth 100000 in
theorem snamed_4 (o : Opd) (w : World) (hk : o.k = 4) : Calls Tryz.prog 26 #[.agg #[.int .i64 o.k, .bool o.p.v, .int .u64 o.p.hi, .int .u64 o.p.lo, .int .i64 o.p.b, .bool o.a.v, .int .u64 o.a.hi, .int .u64 o.a.lo, .string o.who, .int .i64 o.pof, .int .i64 o.n]] w fun e w' => e = .returned (.agg #[.int .i64 (nmd o).k, .bool (nmd o).p.v, .int .u64 (nmd o).p.hi, .int .u64 (nmd o).p.lo, .int .i64 (nmd o).p.b, .bool (nmd o).a.v, .int .u64 (nmd o).a.hi, .int .u64 (nmd o).a.lo, .string (nmd o).who, .int .i64 (nmd o).pof, .int .i64 (nmd o).n]) ∧ Below w.heap.size w w' := by
  rw [nmd4 hk, hk]
  dsimp only [zPf, zAd]
  generalize o.p.v = x1
  generalize o.p.hi = x2
  generalize o.p.lo = x3
  generalize o.p.b = x4
  generalize o.a.v = x5
  generalize o.a.hi = x6
  generalize o.a.lo = x7
  generalize o.who = x8
  generalize o.pof = x9
  generalize o.n = x10
  clear hk
  go_enter Tryz.func26, Tryz.ntmps26
  go_wp2
  refine bodyPost_ret (v := .agg #[.int .i64 4, .bool false, .int .u64 0, .int .u64 0, .int .i64 0, .bool false, .int .u64 0, .int .u64 0, .string x8, .int .i64 0, .int .i64 0]) ?_ rfl ⟨rfl, ?_⟩
  · simp [results, Tryz.results26, go_sem]
  · repeat' (first | exact Below.refl _ _ | with_reducible refine Below.drew ?_ | with_reducible refine bal ?_ _ | with_reducible refine bse ?_ (by first | (simp; done) | (simp; omega)) _)
set_option maxHeartbeats 8000000 in
set_option maxRecDepth 100000 in
theorem snamed_5 (o : Opd) (w : World) (hk : o.k = 5) : Calls Tryz.prog 26 #[.agg #[.int .i64 o.k, .bool o.p.v, .int .u64 o.p.hi, .int .u64 o.p.lo, .int .i64 o.p.b, .bool o.a.v, .int .u64 o.a.hi, .int .u64 o.a.lo, .string o.who, .int .i64 o.pof, .int .i64 o.n]] w fun e w' => e = .returned (.agg #[.int .i64 (nmd o).k, .bool (nmd o).p.v, .int .u64 (nmd o).p.hi, .int .u64 (nmd o).p.lo, .int .i64 (nmd o).p.b, .bool (nmd o).a.v, .int .u64 (nmd o).a.hi, .int .u64 (nmd o).a.lo, .string (nmd o).who, .int .i64 (nmd o).pof, .int .i64 (nmd o).n]) ∧ Below w.heap.size w w' := by
  rw [nmd5 hk, hk]
  dsimp only [zPf, zAd]
  generalize o.p.v = x1
  generalize o.p.hi = x2
  generalize o.p.lo = x3
  generalize o.p.b = x4
  generalize o.a.v = x5
  generalize o.a.hi = x6
  generalize o.a.lo = x7
  generalize o.who = x8
  generalize o.pof = x9
  generalize o.n = x10
  clear hk
  go_enter Tryz.func26, Tryz.ntmps26
  go_wp2
  refine bodyPost_ret (v := .agg #[.int .i64 5, .bool false, .int .u64 0, .int .u64 0, .int .i64 0, .bool false, .int .u64 0, .int .u64 0, .string ⟨#[]⟩, .int .i64 0, .int .i64 x10]) ?_ rfl ⟨rfl, ?_⟩
  · simp [results, Tryz.results26, go_sem]
  · repeat' (first | exact Below.refl _ _ | with_reducible refine Below.drew ?_ | with_reducible refine bal ?_ _ | with_reducible refine bse ?_ (by first | (simp; done) | (simp; omega)) _)
theorem snamed_any (o : Opd) (w : World) (h1 : ¬ o.k < 1) (h5 : ¬ 5 < o.k) : Calls Tryz.prog 26 #[.agg #[.int .i64 o.k, .bool o.p.v, .int .u64 o.p.hi, .int .u64 o.p.lo, .int .i64 o.p.b, .bool o.a.v, .int .u64 o.a.hi, .int .u64 o.a.lo, .string o.who, .int .i64 o.pof, .int .i64 o.n]] w fun e w' => e = .returned (.agg #[.int .i64 (nmd o).k, .bool (nmd o).p.v, .int .u64 (nmd o).p.hi, .int .u64 (nmd o).p.lo, .int .i64 (nmd o).p.b, .bool (nmd o).a.v, .int .u64 (nmd o).a.hi, .int .u64 (nmd o).a.lo, .string (nmd o).who, .int .i64 (nmd o).pof, .int .i64 (nmd o).n]) ∧ Below w.heap.size w w' := by
  have hk : o.k = 1 ∨ o.k = 2 ∨ o.k = 3 ∨ o.k = 4 ∨ o.k = 5 := by omega
  rcases hk with hk | hk | hk | hk | hk
  · exact snamed_1 o w hk
  · exact snamed_2 o w hk
  · exact snamed_3 o w hk
  · exact snamed_4 o w hk
  · exact snamed_5 o w hk
end Go.Proofs.YtclnfkohlklbpaaGreat

namespace Go.Proofs.YtclnfkohlklbpaaGreat
open Go.RowKit

/-- Cells that stand behind each other in a block. -/
def HasL (w : World) (b o : Nat) (l : List Value) : Prop := (∀ j v, l[j]? = some v → w.cell? ⟨b, o + j, none⟩ = some v) ∧ b < w.heap.size
theorem HasL.below {W w' : World} {b o : Nat} {l : List Value} (h : HasL W b o l) (hb : Below W.heap.size W w') : HasL w' b o l :=
  ⟨fun j v hv => by rw [(bcell hb).1 _ _ h.2]; exact h.1 j v hv, Nat.lt_of_lt_of_le h.2 hb.size⟩
theorem HasL.alloc {W : World} {b o : Nat} {l : List Value} (h : HasL W b o l) (x : Obj) : HasL (W.alloc x) b o l := h.below (bal (Below.refl _ _) _)
theorem HasL.new (W : World) (l : List Value) (t : Nat) : HasL (W.alloc (.cells l.toArray t)) W.heap.size 0 l := by
  refine ⟨fun j v hv => ?_, by simp⟩
  rw [Nat.zero_add]
  simp only [World.cell?, heap_alloc_new]
  simpa using hv
theorem hasL_drew {W : World} {b o : Nat} {l : List Value} (h : HasL W b o l) : HasL W.drew b o l := h
theorem keepO {w W W' : World} {b : Nat} {v0 v1 v2 v3 v4 v5 v6 v7 v8 v9 v10 : Value} (h : (W.cell? ⟨b, 0, none⟩ = some (v0) ∧ W.cell? ⟨b, 1, none⟩ = some (v1) ∧ W.cell? ⟨b, 2, none⟩ = some (v2) ∧ W.cell? ⟨b, 3, none⟩ = some (v3) ∧ W.cell? ⟨b, 4, none⟩ = some (v4) ∧ W.cell? ⟨b, 5, none⟩ = some (v5) ∧ W.cell? ⟨b, 6, none⟩ = some (v6) ∧ W.cell? ⟨b, 7, none⟩ = some (v7) ∧ W.cell? ⟨b, 8, none⟩ = some (v8) ∧ W.cell? ⟨b, 9, none⟩ = some (v9) ∧ W.cell? ⟨b, 10, none⟩ = some (v10) ∧ b < W.heap.size) ∧ Below w.heap.size w W) (hb : Below W.heap.size W W') : (W'.cell? ⟨b, 0, none⟩ = some (v0) ∧ W'.cell? ⟨b, 1, none⟩ = some (v1) ∧ W'.cell? ⟨b, 2, none⟩ = some (v2) ∧ W'.cell? ⟨b, 3, none⟩ = some (v3) ∧ W'.cell? ⟨b, 4, none⟩ = some (v4) ∧ W'.cell? ⟨b, 5, none⟩ = some (v5) ∧ W'.cell? ⟨b, 6, none⟩ = some (v6) ∧ W'.cell? ⟨b, 7, none⟩ = some (v7) ∧ W'.cell? ⟨b, 8, none⟩ = some (v8) ∧ W'.cell? ⟨b, 9, none⟩ = some (v9) ∧ W'.cell? ⟨b, 10, none⟩ = some (v10) ∧ b < W'.heap.size) ∧ Below w.heap.size w W' := by
  obtain ⟨⟨a0, a1, a2, a3, a4, a5, a6, a7, a8, a9, a10, z⟩, hw⟩ := h
  have k := (bcell hb).1
  exact ⟨⟨by rw [k _ _ z]; exact a0, by rw [k _ _ z]; exact a1, by rw [k _ _ z]; exact a2, by rw [k _ _ z]; exact a3, by rw [k _ _ z]; exact a4, by rw [k _ _ z]; exact a5, by rw [k _ _ z]; exact a6, by rw [k _ _ z]; exact a7, by rw [k _ _ z]; exact a8, by rw [k _ _ z]; exact a9, by rw [k _ _ z]; exact a10, Nat.lt_of_lt_of_le z hb.size⟩, btr hw hb⟩

/-- What is wrong with an op. -/
def formE (o : Opd) : Int :=
  if o.k < 1 ∨ 5 < o.k then 7 else
  if eqO o (nmd o) = false then 1 else
  if o.k = 1 then poolE o.p [] else
  if o.k = 2 then chk o.a.v o.a.hi o.a.lo else
  if o.k = 5 then rngE o.n 0 9999 else
  if whoB o.who = false then 1 else
  if o.k = 4 then 0 else
  if o.pof < 0 ∨ 2 < o.pof then 3 else rngE o.n 1 500
theorem rngE_in {n a b : Int} (h0 : ¬ n < a) (h1 : ¬ b < n) : rngE n a b = 0 := by unfold rngE; rw [if_neg (by omega)]
theorem rngE_out {n a b : Int} (h : n < a ∨ b < n) : rngE n a b = 3 := by unfold rngE; rw [if_pos h]

set_option maxHeartbeats 16000000 in
set_option maxRecDepth 100000 in
theorem sform_any (o : Opd) (w : World) : Calls Tryz.prog 24 #[.agg #[.int .i64 o.k, .bool o.p.v, .int .u64 o.p.hi, .int .u64 o.p.lo, .int .i64 o.p.b, .bool o.a.v, .int .u64 o.a.hi, .int .u64 o.a.lo, .string o.who, .int .i64 o.pof, .int .i64 o.n]] w fun e w' => e = .returned (.int .i64 (formE o)) ∧ Below w.heap.size w w' := by
  have hNm : Hid (¬ o.k < 1 → ¬ 5 < o.k → ∀ w : World, Calls Tryz.prog 26 #[.agg #[.int .i64 o.k, .bool o.p.v, .int .u64 o.p.hi, .int .u64 o.p.lo, .int .i64 o.p.b, .bool o.a.v, .int .u64 o.a.hi, .int .u64 o.a.lo, .string o.who, .int .i64 o.pof, .int .i64 o.n]] w fun e w' => e = .returned (.agg #[.int .i64 (nmd o).k, .bool (nmd o).p.v, .int .u64 (nmd o).p.hi, .int .u64 (nmd o).p.lo, .int .i64 (nmd o).p.b, .bool (nmd o).a.v, .int .u64 (nmd o).a.hi, .int .u64 (nmd o).a.lo, .string (nmd o).who, .int .i64 (nmd o).pof, .int .i64 (nmd o).n]) ∧ Below w.heap.size w w') := fun a b w => snamed_any o w a b
  have hP : Hid (∀ w : World, Calls Tryz.prog 27 #[.agg #[.bool o.p.v, .int .u64 o.p.hi, .int .u64 o.p.lo, .int .i64 o.p.b, .slice none 0 0]] w fun e w' => e = .returned (.int .i64 (poolE o.p [])) ∧ Below w.heap.size w w') := fun w => pool_any o.p o.pok none 0 [] w (Lies.nil _ _ _)
  have hA : Hid (∀ w : World, Calls Tryz.prog 28 #[.agg #[.bool o.a.v, .int .u64 o.a.hi, .int .u64 o.a.lo]] w fun e w' => e = .returned (.int .i64 (chk o.a.v o.a.hi o.a.lo)) ∧ Below w.heap.size w w') := fun w => (check_any o.a.v o.a.hi o.a.lo w o.a.ok.1.1 o.a.ok.2.1).mono fun e w' h => ⟨h.1, by obtain ⟨_, c, rfl⟩ := h; exact bal (Below.refl _ _) _⟩
  have hN : Hid (∀ w : World, Calls Tryz.prog 30 #[.string o.who] w fun e w' => e = .returned (.bool (whoB o.who)) ∧ w' = w) := fun w => nright_any o.who w
  have hQ : ∀ w : World, (binOp .neq 42 (.agg #[.int .i64 o.k, .bool o.p.v, .int .u64 o.p.hi, .int .u64 o.p.lo, .int .i64 o.p.b, .bool o.a.v, .int .u64 o.a.hi, .int .u64 o.a.lo, .string o.who, .int .i64 o.pof, .int .i64 o.n]) (.agg #[.int .i64 (nmd o).k, .bool (nmd o).p.v, .int .u64 (nmd o).p.hi, .int .u64 (nmd o).p.lo, .int .i64 (nmd o).p.b, .bool (nmd o).a.v, .int .u64 (nmd o).a.hi, .int .u64 (nmd o).a.lo, .string (nmd o).who, .int .i64 (nmd o).pof, .int .i64 (nmd o).n])).run Tryz.prog w = .ok (.bool (!eqO o (nmd o))) w := fun w => neq_op w o (nmd o)
  have HH := Lib.hid (HasL.new w [.int .i64 o.k, .bool o.p.v, .int .u64 o.p.hi, .int .u64 o.p.lo, .int .i64 o.p.b, .bool o.a.v, .int .u64 o.a.hi, .int .u64 o.a.lo, .string o.who, .int .i64 o.pof, .int .i64 o.n] 42)
  have HB := Lib.hid (bal (Below.refl w.heap.size w) (.cells #[.int .i64 o.k, .bool o.p.v, .int .u64 o.p.hi, .int .u64 o.p.lo, .int .i64 o.p.b, .bool o.a.v, .int .u64 o.a.hi, .int .u64 o.a.lo, .string o.who, .int .i64 o.pof, .int .i64 o.n] 42))
  unfold formE
  generalize nmd o = m at *
  generalize eqO o m = q at *
  generalize poolE o.p [] = pe at *
  generalize chk o.a.v o.a.hi o.a.lo = ce at *
  generalize whoB o.who = wb at *
  generalize o.k = x0 at *
  generalize o.p.v = x1 at *
  generalize o.p.hi = x2 at *
  generalize o.p.lo = x3 at *
  generalize o.p.b = x4 at *
  generalize o.a.v = x5 at *
  generalize o.a.hi = x6 at *
  generalize o.a.lo = x7 at *
  generalize o.who = x8 at *
  generalize o.pof = x9 at *
  generalize o.n = x10 at *
  generalize m.k = y0 at *
  generalize m.p.v = y1 at *
  generalize m.p.hi = y2 at *
  generalize m.p.lo = y3 at *
  generalize m.p.b = y4 at *
  generalize m.a.v = y5 at *
  generalize m.a.hi = y6 at *
  generalize m.a.lo = y7 at *
  generalize m.who = y8 at *
  generalize m.pof = y9 at *
  generalize m.n = y10 at *
  by_cases h0 : x0 < 1
  · rw [if_pos (.inl h0)]
    go_enter Tryz.func24, Tryz.ntmps24
    go_wp2
    go_ret
    exact ⟨rfl, HB.out⟩
  have d0 : decide (x0 < 1) = false := decide_eq_false h0
  by_cases h5 : 5 < x0
  · rw [if_pos (.inr h5)]
    go_enter Tryz.func24, Tryz.ntmps24
    go_wp2
    go_ret
    exact ⟨rfl, HB.out⟩
  have d5 : decide (5 < x0) = false := decide_eq_false h5
  rw [if_neg (by omega)]
  replace hNm : Hid (∀ w : World, Calls Tryz.prog 26 #[.agg #[.int .i64 x0, .bool x1, .int .u64 x2, .int .u64 x3, .int .i64 x4, .bool x5, .int .u64 x6, .int .u64 x7, .string x8, .int .i64 x9, .int .i64 x10]] w fun e w' => e = .returned (.agg #[.int .i64 y0, .bool y1, .int .u64 y2, .int .u64 y3, .int .i64 y4, .bool y5, .int .u64 y6, .int .u64 y7, .string y8, .int .i64 y9, .int .i64 y10]) ∧ Below w.heap.size w w') := hNm.out h0 h5
  cases q
  · rw [if_pos rfl]
    obtain ⟨hh, hz⟩ := HH.out
    have S0 : Hid (((w.alloc (.cells #[.int .i64 x0, .bool x1, .int .u64 x2, .int .u64 x3, .int .i64 x4, .bool x5, .int .u64 x6, .int .u64 x7, .string x8, .int .i64 x9, .int .i64 x10] 42)).cell? ⟨w.heap.size, 0, none⟩ = some (.int .i64 x0) ∧ (w.alloc (.cells #[.int .i64 x0, .bool x1, .int .u64 x2, .int .u64 x3, .int .i64 x4, .bool x5, .int .u64 x6, .int .u64 x7, .string x8, .int .i64 x9, .int .i64 x10] 42)).cell? ⟨w.heap.size, 1, none⟩ = some (.bool x1) ∧ (w.alloc (.cells #[.int .i64 x0, .bool x1, .int .u64 x2, .int .u64 x3, .int .i64 x4, .bool x5, .int .u64 x6, .int .u64 x7, .string x8, .int .i64 x9, .int .i64 x10] 42)).cell? ⟨w.heap.size, 2, none⟩ = some (.int .u64 x2) ∧ (w.alloc (.cells #[.int .i64 x0, .bool x1, .int .u64 x2, .int .u64 x3, .int .i64 x4, .bool x5, .int .u64 x6, .int .u64 x7, .string x8, .int .i64 x9, .int .i64 x10] 42)).cell? ⟨w.heap.size, 3, none⟩ = some (.int .u64 x3) ∧ (w.alloc (.cells #[.int .i64 x0, .bool x1, .int .u64 x2, .int .u64 x3, .int .i64 x4, .bool x5, .int .u64 x6, .int .u64 x7, .string x8, .int .i64 x9, .int .i64 x10] 42)).cell? ⟨w.heap.size, 4, none⟩ = some (.int .i64 x4) ∧ (w.alloc (.cells #[.int .i64 x0, .bool x1, .int .u64 x2, .int .u64 x3, .int .i64 x4, .bool x5, .int .u64 x6, .int .u64 x7, .string x8, .int .i64 x9, .int .i64 x10] 42)).cell? ⟨w.heap.size, 5, none⟩ = some (.bool x5) ∧ (w.alloc (.cells #[.int .i64 x0, .bool x1, .int .u64 x2, .int .u64 x3, .int .i64 x4, .bool x5, .int .u64 x6, .int .u64 x7, .string x8, .int .i64 x9, .int .i64 x10] 42)).cell? ⟨w.heap.size, 6, none⟩ = some (.int .u64 x6) ∧ (w.alloc (.cells #[.int .i64 x0, .bool x1, .int .u64 x2, .int .u64 x3, .int .i64 x4, .bool x5, .int .u64 x6, .int .u64 x7, .string x8, .int .i64 x9, .int .i64 x10] 42)).cell? ⟨w.heap.size, 7, none⟩ = some (.int .u64 x7) ∧ (w.alloc (.cells #[.int .i64 x0, .bool x1, .int .u64 x2, .int .u64 x3, .int .i64 x4, .bool x5, .int .u64 x6, .int .u64 x7, .string x8, .int .i64 x9, .int .i64 x10] 42)).cell? ⟨w.heap.size, 8, none⟩ = some (.string x8) ∧ (w.alloc (.cells #[.int .i64 x0, .bool x1, .int .u64 x2, .int .u64 x3, .int .i64 x4, .bool x5, .int .u64 x6, .int .u64 x7, .string x8, .int .i64 x9, .int .i64 x10] 42)).cell? ⟨w.heap.size, 9, none⟩ = some (.int .i64 x9) ∧ (w.alloc (.cells #[.int .i64 x0, .bool x1, .int .u64 x2, .int .u64 x3, .int .i64 x4, .bool x5, .int .u64 x6, .int .u64 x7, .string x8, .int .i64 x9, .int .i64 x10] 42)).cell? ⟨w.heap.size, 10, none⟩ = some (.int .i64 x10) ∧ w.heap.size < (w.alloc (.cells #[.int .i64 x0, .bool x1, .int .u64 x2, .int .u64 x3, .int .i64 x4, .bool x5, .int .u64 x6, .int .u64 x7, .string x8, .int .i64 x9, .int .i64 x10] 42)).heap.size) ∧ Below w.heap.size w (w.alloc (.cells #[.int .i64 x0, .bool x1, .int .u64 x2, .int .u64 x3, .int .i64 x4, .bool x5, .int .u64 x6, .int .u64 x7, .string x8, .int .i64 x9, .int .i64 x10] 42))) := ⟨⟨hh 0 _ rfl, hh 1 _ rfl, hh 2 _ rfl, hh 3 _ rfl, hh 4 _ rfl, hh 5 _ rfl, hh 6 _ rfl, hh 7 _ rfl, hh 8 _ rfl, hh 9 _ rfl, hh 10 _ rfl, hz⟩, HB.out⟩
    clear hh hz
    go_enter Tryz.func24, Tryz.ntmps24
    go_wp2_with fail
    go_region_held3 (fun w' => (w'.cell? ⟨w.heap.size, 0, none⟩ = some (.int .i64 x0) ∧ w'.cell? ⟨w.heap.size, 1, none⟩ = some (.bool x1) ∧ w'.cell? ⟨w.heap.size, 2, none⟩ = some (.int .u64 x2) ∧ w'.cell? ⟨w.heap.size, 3, none⟩ = some (.int .u64 x3) ∧ w'.cell? ⟨w.heap.size, 4, none⟩ = some (.int .i64 x4) ∧ w'.cell? ⟨w.heap.size, 5, none⟩ = some (.bool x5) ∧ w'.cell? ⟨w.heap.size, 6, none⟩ = some (.int .u64 x6) ∧ w'.cell? ⟨w.heap.size, 7, none⟩ = some (.int .u64 x7) ∧ w'.cell? ⟨w.heap.size, 8, none⟩ = some (.string x8) ∧ w'.cell? ⟨w.heap.size, 9, none⟩ = some (.int .i64 x9) ∧ w'.cell? ⟨w.heap.size, 10, none⟩ = some (.int .i64 x10) ∧ w.heap.size < w'.heap.size) ∧ Below w.heap.size w w')
      (first | exact S0.out | exact ⟨⟨S0.out.1.1, S0.out.1.2.1, S0.out.1.2.2.1, S0.out.1.2.2.2.1, S0.out.1.2.2.2.2.1, S0.out.1.2.2.2.2.2.1, S0.out.1.2.2.2.2.2.2.1, S0.out.1.2.2.2.2.2.2.2.1, S0.out.1.2.2.2.2.2.2.2.2.1, S0.out.1.2.2.2.2.2.2.2.2.2.1, S0.out.1.2.2.2.2.2.2.2.2.2.2.1, S0.out.1.2.2.2.2.2.2.2.2.2.2.2⟩, (S0.out.2).drew⟩ | exact keepO (by assumption) (by assumption))
      ((go_at_call 26; refine (hNm.out _).mono ?_; rintro e w2 ⟨rfl, hb2⟩))
    go_wp2
    go_ret
    exact ⟨rfl, And.right (by assumption)⟩
  rw [if_neg (by decide)]
  by_cases k1 : x0 = 1
  · rw [if_pos k1]
    have b1 : (x0 == 1) = true := by rw [beq_iff_eq]; exact k1
    clear k1 h0 h5
    obtain ⟨hh, hz⟩ := HH.out
    have S0 : Hid (((w.alloc (.cells #[.int .i64 x0, .bool x1, .int .u64 x2, .int .u64 x3, .int .i64 x4, .bool x5, .int .u64 x6, .int .u64 x7, .string x8, .int .i64 x9, .int .i64 x10] 42)).cell? ⟨w.heap.size, 0, none⟩ = some (.int .i64 x0) ∧ (w.alloc (.cells #[.int .i64 x0, .bool x1, .int .u64 x2, .int .u64 x3, .int .i64 x4, .bool x5, .int .u64 x6, .int .u64 x7, .string x8, .int .i64 x9, .int .i64 x10] 42)).cell? ⟨w.heap.size, 1, none⟩ = some (.bool x1) ∧ (w.alloc (.cells #[.int .i64 x0, .bool x1, .int .u64 x2, .int .u64 x3, .int .i64 x4, .bool x5, .int .u64 x6, .int .u64 x7, .string x8, .int .i64 x9, .int .i64 x10] 42)).cell? ⟨w.heap.size, 2, none⟩ = some (.int .u64 x2) ∧ (w.alloc (.cells #[.int .i64 x0, .bool x1, .int .u64 x2, .int .u64 x3, .int .i64 x4, .bool x5, .int .u64 x6, .int .u64 x7, .string x8, .int .i64 x9, .int .i64 x10] 42)).cell? ⟨w.heap.size, 3, none⟩ = some (.int .u64 x3) ∧ (w.alloc (.cells #[.int .i64 x0, .bool x1, .int .u64 x2, .int .u64 x3, .int .i64 x4, .bool x5, .int .u64 x6, .int .u64 x7, .string x8, .int .i64 x9, .int .i64 x10] 42)).cell? ⟨w.heap.size, 4, none⟩ = some (.int .i64 x4) ∧ (w.alloc (.cells #[.int .i64 x0, .bool x1, .int .u64 x2, .int .u64 x3, .int .i64 x4, .bool x5, .int .u64 x6, .int .u64 x7, .string x8, .int .i64 x9, .int .i64 x10] 42)).cell? ⟨w.heap.size, 5, none⟩ = some (.bool x5) ∧ (w.alloc (.cells #[.int .i64 x0, .bool x1, .int .u64 x2, .int .u64 x3, .int .i64 x4, .bool x5, .int .u64 x6, .int .u64 x7, .string x8, .int .i64 x9, .int .i64 x10] 42)).cell? ⟨w.heap.size, 6, none⟩ = some (.int .u64 x6) ∧ (w.alloc (.cells #[.int .i64 x0, .bool x1, .int .u64 x2, .int .u64 x3, .int .i64 x4, .bool x5, .int .u64 x6, .int .u64 x7, .string x8, .int .i64 x9, .int .i64 x10] 42)).cell? ⟨w.heap.size, 7, none⟩ = some (.int .u64 x7) ∧ (w.alloc (.cells #[.int .i64 x0, .bool x1, .int .u64 x2, .int .u64 x3, .int .i64 x4, .bool x5, .int .u64 x6, .int .u64 x7, .string x8, .int .i64 x9, .int .i64 x10] 42)).cell? ⟨w.heap.size, 8, none⟩ = some (.string x8) ∧ (w.alloc (.cells #[.int .i64 x0, .bool x1, .int .u64 x2, .int .u64 x3, .int .i64 x4, .bool x5, .int .u64 x6, .int .u64 x7, .string x8, .int .i64 x9, .int .i64 x10] 42)).cell? ⟨w.heap.size, 9, none⟩ = some (.int .i64 x9) ∧ (w.alloc (.cells #[.int .i64 x0, .bool x1, .int .u64 x2, .int .u64 x3, .int .i64 x4, .bool x5, .int .u64 x6, .int .u64 x7, .string x8, .int .i64 x9, .int .i64 x10] 42)).cell? ⟨w.heap.size, 10, none⟩ = some (.int .i64 x10) ∧ w.heap.size < (w.alloc (.cells #[.int .i64 x0, .bool x1, .int .u64 x2, .int .u64 x3, .int .i64 x4, .bool x5, .int .u64 x6, .int .u64 x7, .string x8, .int .i64 x9, .int .i64 x10] 42)).heap.size) ∧ Below w.heap.size w (w.alloc (.cells #[.int .i64 x0, .bool x1, .int .u64 x2, .int .u64 x3, .int .i64 x4, .bool x5, .int .u64 x6, .int .u64 x7, .string x8, .int .i64 x9, .int .i64 x10] 42))) := ⟨⟨hh 0 _ rfl, hh 1 _ rfl, hh 2 _ rfl, hh 3 _ rfl, hh 4 _ rfl, hh 5 _ rfl, hh 6 _ rfl, hh 7 _ rfl, hh 8 _ rfl, hh 9 _ rfl, hh 10 _ rfl, hz⟩, HB.out⟩
    clear hh hz
    go_enter Tryz.func24, Tryz.ntmps24
    go_wp2_with fail
    go_region_held3 (fun w' => (w'.cell? ⟨w.heap.size, 0, none⟩ = some (.int .i64 x0) ∧ w'.cell? ⟨w.heap.size, 1, none⟩ = some (.bool x1) ∧ w'.cell? ⟨w.heap.size, 2, none⟩ = some (.int .u64 x2) ∧ w'.cell? ⟨w.heap.size, 3, none⟩ = some (.int .u64 x3) ∧ w'.cell? ⟨w.heap.size, 4, none⟩ = some (.int .i64 x4) ∧ w'.cell? ⟨w.heap.size, 5, none⟩ = some (.bool x5) ∧ w'.cell? ⟨w.heap.size, 6, none⟩ = some (.int .u64 x6) ∧ w'.cell? ⟨w.heap.size, 7, none⟩ = some (.int .u64 x7) ∧ w'.cell? ⟨w.heap.size, 8, none⟩ = some (.string x8) ∧ w'.cell? ⟨w.heap.size, 9, none⟩ = some (.int .i64 x9) ∧ w'.cell? ⟨w.heap.size, 10, none⟩ = some (.int .i64 x10) ∧ w.heap.size < w'.heap.size) ∧ Below w.heap.size w w')
      (first | exact S0.out | exact ⟨⟨S0.out.1.1, S0.out.1.2.1, S0.out.1.2.2.1, S0.out.1.2.2.2.1, S0.out.1.2.2.2.2.1, S0.out.1.2.2.2.2.2.1, S0.out.1.2.2.2.2.2.2.1, S0.out.1.2.2.2.2.2.2.2.1, S0.out.1.2.2.2.2.2.2.2.2.1, S0.out.1.2.2.2.2.2.2.2.2.2.1, S0.out.1.2.2.2.2.2.2.2.2.2.2.1, S0.out.1.2.2.2.2.2.2.2.2.2.2.2⟩, (S0.out.2).drew⟩ | exact keepO (by assumption) (by assumption))
      ((go_at_call 26; refine (hNm.out _).mono ?_; rintro e w2 ⟨rfl, hb2⟩))
    go_wp2_with fail
    refine (hP.out _).mono ?_
    rintro e w3 ⟨rfl, hb3⟩
    go_wp2
    go_ret
    exact ⟨rfl, btr (And.right (by assumption)) hb3⟩
  rw [if_neg k1]
  have b1 : (x0 == 1) = false := by rw [beq_eq_false_iff_ne]; exact k1
  by_cases k2 : x0 = 2
  · rw [if_pos k2]
    have b2 : (x0 == 2) = true := by rw [beq_iff_eq]; exact k2
    clear k2 h0 h5
    obtain ⟨hh, hz⟩ := HH.out
    have S0 : Hid (((w.alloc (.cells #[.int .i64 x0, .bool x1, .int .u64 x2, .int .u64 x3, .int .i64 x4, .bool x5, .int .u64 x6, .int .u64 x7, .string x8, .int .i64 x9, .int .i64 x10] 42)).cell? ⟨w.heap.size, 0, none⟩ = some (.int .i64 x0) ∧ (w.alloc (.cells #[.int .i64 x0, .bool x1, .int .u64 x2, .int .u64 x3, .int .i64 x4, .bool x5, .int .u64 x6, .int .u64 x7, .string x8, .int .i64 x9, .int .i64 x10] 42)).cell? ⟨w.heap.size, 1, none⟩ = some (.bool x1) ∧ (w.alloc (.cells #[.int .i64 x0, .bool x1, .int .u64 x2, .int .u64 x3, .int .i64 x4, .bool x5, .int .u64 x6, .int .u64 x7, .string x8, .int .i64 x9, .int .i64 x10] 42)).cell? ⟨w.heap.size, 2, none⟩ = some (.int .u64 x2) ∧ (w.alloc (.cells #[.int .i64 x0, .bool x1, .int .u64 x2, .int .u64 x3, .int .i64 x4, .bool x5, .int .u64 x6, .int .u64 x7, .string x8, .int .i64 x9, .int .i64 x10] 42)).cell? ⟨w.heap.size, 3, none⟩ = some (.int .u64 x3) ∧ (w.alloc (.cells #[.int .i64 x0, .bool x1, .int .u64 x2, .int .u64 x3, .int .i64 x4, .bool x5, .int .u64 x6, .int .u64 x7, .string x8, .int .i64 x9, .int .i64 x10] 42)).cell? ⟨w.heap.size, 4, none⟩ = some (.int .i64 x4) ∧ (w.alloc (.cells #[.int .i64 x0, .bool x1, .int .u64 x2, .int .u64 x3, .int .i64 x4, .bool x5, .int .u64 x6, .int .u64 x7, .string x8, .int .i64 x9, .int .i64 x10] 42)).cell? ⟨w.heap.size, 5, none⟩ = some (.bool x5) ∧ (w.alloc (.cells #[.int .i64 x0, .bool x1, .int .u64 x2, .int .u64 x3, .int .i64 x4, .bool x5, .int .u64 x6, .int .u64 x7, .string x8, .int .i64 x9, .int .i64 x10] 42)).cell? ⟨w.heap.size, 6, none⟩ = some (.int .u64 x6) ∧ (w.alloc (.cells #[.int .i64 x0, .bool x1, .int .u64 x2, .int .u64 x3, .int .i64 x4, .bool x5, .int .u64 x6, .int .u64 x7, .string x8, .int .i64 x9, .int .i64 x10] 42)).cell? ⟨w.heap.size, 7, none⟩ = some (.int .u64 x7) ∧ (w.alloc (.cells #[.int .i64 x0, .bool x1, .int .u64 x2, .int .u64 x3, .int .i64 x4, .bool x5, .int .u64 x6, .int .u64 x7, .string x8, .int .i64 x9, .int .i64 x10] 42)).cell? ⟨w.heap.size, 8, none⟩ = some (.string x8) ∧ (w.alloc (.cells #[.int .i64 x0, .bool x1, .int .u64 x2, .int .u64 x3, .int .i64 x4, .bool x5, .int .u64 x6, .int .u64 x7, .string x8, .int .i64 x9, .int .i64 x10] 42)).cell? ⟨w.heap.size, 9, none⟩ = some (.int .i64 x9) ∧ (w.alloc (.cells #[.int .i64 x0, .bool x1, .int .u64 x2, .int .u64 x3, .int .i64 x4, .bool x5, .int .u64 x6, .int .u64 x7, .string x8, .int .i64 x9, .int .i64 x10] 42)).cell? ⟨w.heap.size, 10, none⟩ = some (.int .i64 x10) ∧ w.heap.size < (w.alloc (.cells #[.int .i64 x0, .bool x1, .int .u64 x2, .int .u64 x3, .int .i64 x4, .bool x5, .int .u64 x6, .int .u64 x7, .string x8, .int .i64 x9, .int .i64 x10] 42)).heap.size) ∧ Below w.heap.size w (w.alloc (.cells #[.int .i64 x0, .bool x1, .int .u64 x2, .int .u64 x3, .int .i64 x4, .bool x5, .int .u64 x6, .int .u64 x7, .string x8, .int .i64 x9, .int .i64 x10] 42))) := ⟨⟨hh 0 _ rfl, hh 1 _ rfl, hh 2 _ rfl, hh 3 _ rfl, hh 4 _ rfl, hh 5 _ rfl, hh 6 _ rfl, hh 7 _ rfl, hh 8 _ rfl, hh 9 _ rfl, hh 10 _ rfl, hz⟩, HB.out⟩
    clear hh hz
    go_enter Tryz.func24, Tryz.ntmps24
    go_wp2_with fail
    go_region_held3 (fun w' => (w'.cell? ⟨w.heap.size, 0, none⟩ = some (.int .i64 x0) ∧ w'.cell? ⟨w.heap.size, 1, none⟩ = some (.bool x1) ∧ w'.cell? ⟨w.heap.size, 2, none⟩ = some (.int .u64 x2) ∧ w'.cell? ⟨w.heap.size, 3, none⟩ = some (.int .u64 x3) ∧ w'.cell? ⟨w.heap.size, 4, none⟩ = some (.int .i64 x4) ∧ w'.cell? ⟨w.heap.size, 5, none⟩ = some (.bool x5) ∧ w'.cell? ⟨w.heap.size, 6, none⟩ = some (.int .u64 x6) ∧ w'.cell? ⟨w.heap.size, 7, none⟩ = some (.int .u64 x7) ∧ w'.cell? ⟨w.heap.size, 8, none⟩ = some (.string x8) ∧ w'.cell? ⟨w.heap.size, 9, none⟩ = some (.int .i64 x9) ∧ w'.cell? ⟨w.heap.size, 10, none⟩ = some (.int .i64 x10) ∧ w.heap.size < w'.heap.size) ∧ Below w.heap.size w w')
      (first | exact S0.out | exact ⟨⟨S0.out.1.1, S0.out.1.2.1, S0.out.1.2.2.1, S0.out.1.2.2.2.1, S0.out.1.2.2.2.2.1, S0.out.1.2.2.2.2.2.1, S0.out.1.2.2.2.2.2.2.1, S0.out.1.2.2.2.2.2.2.2.1, S0.out.1.2.2.2.2.2.2.2.2.1, S0.out.1.2.2.2.2.2.2.2.2.2.1, S0.out.1.2.2.2.2.2.2.2.2.2.2.1, S0.out.1.2.2.2.2.2.2.2.2.2.2.2⟩, (S0.out.2).drew⟩ | exact keepO (by assumption) (by assumption))
      ((go_at_call 26; refine (hNm.out _).mono ?_; rintro e w2 ⟨rfl, hb2⟩))
    go_wp2_with fail
    refine (hA.out _).mono ?_
    rintro e w3 ⟨rfl, hb3⟩
    go_wp2
    go_ret
    exact ⟨rfl, btr (And.right (by assumption)) hb3⟩
  rw [if_neg k2]
  have b2 : (x0 == 2) = false := by rw [beq_eq_false_iff_ne]; exact k2
  by_cases k5 : x0 = 5
  · rw [if_pos k5]
    have b5 : (x0 == 5) = true := by rw [beq_iff_eq]; exact k5
    clear k5 h0 h5
    obtain ⟨hh, hz⟩ := HH.out
    have S0 : Hid (((w.alloc (.cells #[.int .i64 x0, .bool x1, .int .u64 x2, .int .u64 x3, .int .i64 x4, .bool x5, .int .u64 x6, .int .u64 x7, .string x8, .int .i64 x9, .int .i64 x10] 42)).cell? ⟨w.heap.size, 0, none⟩ = some (.int .i64 x0) ∧ (w.alloc (.cells #[.int .i64 x0, .bool x1, .int .u64 x2, .int .u64 x3, .int .i64 x4, .bool x5, .int .u64 x6, .int .u64 x7, .string x8, .int .i64 x9, .int .i64 x10] 42)).cell? ⟨w.heap.size, 1, none⟩ = some (.bool x1) ∧ (w.alloc (.cells #[.int .i64 x0, .bool x1, .int .u64 x2, .int .u64 x3, .int .i64 x4, .bool x5, .int .u64 x6, .int .u64 x7, .string x8, .int .i64 x9, .int .i64 x10] 42)).cell? ⟨w.heap.size, 2, none⟩ = some (.int .u64 x2) ∧ (w.alloc (.cells #[.int .i64 x0, .bool x1, .int .u64 x2, .int .u64 x3, .int .i64 x4, .bool x5, .int .u64 x6, .int .u64 x7, .string x8, .int .i64 x9, .int .i64 x10] 42)).cell? ⟨w.heap.size, 3, none⟩ = some (.int .u64 x3) ∧ (w.alloc (.cells #[.int .i64 x0, .bool x1, .int .u64 x2, .int .u64 x3, .int .i64 x4, .bool x5, .int .u64 x6, .int .u64 x7, .string x8, .int .i64 x9, .int .i64 x10] 42)).cell? ⟨w.heap.size, 4, none⟩ = some (.int .i64 x4) ∧ (w.alloc (.cells #[.int .i64 x0, .bool x1, .int .u64 x2, .int .u64 x3, .int .i64 x4, .bool x5, .int .u64 x6, .int .u64 x7, .string x8, .int .i64 x9, .int .i64 x10] 42)).cell? ⟨w.heap.size, 5, none⟩ = some (.bool x5) ∧ (w.alloc (.cells #[.int .i64 x0, .bool x1, .int .u64 x2, .int .u64 x3, .int .i64 x4, .bool x5, .int .u64 x6, .int .u64 x7, .string x8, .int .i64 x9, .int .i64 x10] 42)).cell? ⟨w.heap.size, 6, none⟩ = some (.int .u64 x6) ∧ (w.alloc (.cells #[.int .i64 x0, .bool x1, .int .u64 x2, .int .u64 x3, .int .i64 x4, .bool x5, .int .u64 x6, .int .u64 x7, .string x8, .int .i64 x9, .int .i64 x10] 42)).cell? ⟨w.heap.size, 7, none⟩ = some (.int .u64 x7) ∧ (w.alloc (.cells #[.int .i64 x0, .bool x1, .int .u64 x2, .int .u64 x3, .int .i64 x4, .bool x5, .int .u64 x6, .int .u64 x7, .string x8, .int .i64 x9, .int .i64 x10] 42)).cell? ⟨w.heap.size, 8, none⟩ = some (.string x8) ∧ (w.alloc (.cells #[.int .i64 x0, .bool x1, .int .u64 x2, .int .u64 x3, .int .i64 x4, .bool x5, .int .u64 x6, .int .u64 x7, .string x8, .int .i64 x9, .int .i64 x10] 42)).cell? ⟨w.heap.size, 9, none⟩ = some (.int .i64 x9) ∧ (w.alloc (.cells #[.int .i64 x0, .bool x1, .int .u64 x2, .int .u64 x3, .int .i64 x4, .bool x5, .int .u64 x6, .int .u64 x7, .string x8, .int .i64 x9, .int .i64 x10] 42)).cell? ⟨w.heap.size, 10, none⟩ = some (.int .i64 x10) ∧ w.heap.size < (w.alloc (.cells #[.int .i64 x0, .bool x1, .int .u64 x2, .int .u64 x3, .int .i64 x4, .bool x5, .int .u64 x6, .int .u64 x7, .string x8, .int .i64 x9, .int .i64 x10] 42)).heap.size) ∧ Below w.heap.size w (w.alloc (.cells #[.int .i64 x0, .bool x1, .int .u64 x2, .int .u64 x3, .int .i64 x4, .bool x5, .int .u64 x6, .int .u64 x7, .string x8, .int .i64 x9, .int .i64 x10] 42))) := ⟨⟨hh 0 _ rfl, hh 1 _ rfl, hh 2 _ rfl, hh 3 _ rfl, hh 4 _ rfl, hh 5 _ rfl, hh 6 _ rfl, hh 7 _ rfl, hh 8 _ rfl, hh 9 _ rfl, hh 10 _ rfl, hz⟩, HB.out⟩
    clear hh hz
    go_enter Tryz.func24, Tryz.ntmps24
    go_wp2_with fail
    go_region_held3 (fun w' => (w'.cell? ⟨w.heap.size, 0, none⟩ = some (.int .i64 x0) ∧ w'.cell? ⟨w.heap.size, 1, none⟩ = some (.bool x1) ∧ w'.cell? ⟨w.heap.size, 2, none⟩ = some (.int .u64 x2) ∧ w'.cell? ⟨w.heap.size, 3, none⟩ = some (.int .u64 x3) ∧ w'.cell? ⟨w.heap.size, 4, none⟩ = some (.int .i64 x4) ∧ w'.cell? ⟨w.heap.size, 5, none⟩ = some (.bool x5) ∧ w'.cell? ⟨w.heap.size, 6, none⟩ = some (.int .u64 x6) ∧ w'.cell? ⟨w.heap.size, 7, none⟩ = some (.int .u64 x7) ∧ w'.cell? ⟨w.heap.size, 8, none⟩ = some (.string x8) ∧ w'.cell? ⟨w.heap.size, 9, none⟩ = some (.int .i64 x9) ∧ w'.cell? ⟨w.heap.size, 10, none⟩ = some (.int .i64 x10) ∧ w.heap.size < w'.heap.size) ∧ Below w.heap.size w w')
      (first | exact S0.out | exact ⟨⟨S0.out.1.1, S0.out.1.2.1, S0.out.1.2.2.1, S0.out.1.2.2.2.1, S0.out.1.2.2.2.2.1, S0.out.1.2.2.2.2.2.1, S0.out.1.2.2.2.2.2.2.1, S0.out.1.2.2.2.2.2.2.2.1, S0.out.1.2.2.2.2.2.2.2.2.1, S0.out.1.2.2.2.2.2.2.2.2.2.1, S0.out.1.2.2.2.2.2.2.2.2.2.2.1, S0.out.1.2.2.2.2.2.2.2.2.2.2.2⟩, (S0.out.2).drew⟩ | exact keepO (by assumption) (by assumption))
      ((go_at_call 26; refine (hNm.out _).mono ?_; rintro e w2 ⟨rfl, hb2⟩))
    go_wp2_with fail
    refine (sranged_any _ _ _ _).mono ?_
    rintro e w3 ⟨rfl, rfl⟩
    go_wp2
    go_ret
    exact ⟨rfl, And.right (by assumption)⟩
  rw [if_neg k5]
  have b5 : (x0 == 5) = false := by rw [beq_eq_false_iff_ne]; exact k5
  cases wb
  · rw [if_pos rfl]
    obtain ⟨hh, hz⟩ := HH.out
    have S0 : Hid (((w.alloc (.cells #[.int .i64 x0, .bool x1, .int .u64 x2, .int .u64 x3, .int .i64 x4, .bool x5, .int .u64 x6, .int .u64 x7, .string x8, .int .i64 x9, .int .i64 x10] 42)).cell? ⟨w.heap.size, 0, none⟩ = some (.int .i64 x0) ∧ (w.alloc (.cells #[.int .i64 x0, .bool x1, .int .u64 x2, .int .u64 x3, .int .i64 x4, .bool x5, .int .u64 x6, .int .u64 x7, .string x8, .int .i64 x9, .int .i64 x10] 42)).cell? ⟨w.heap.size, 1, none⟩ = some (.bool x1) ∧ (w.alloc (.cells #[.int .i64 x0, .bool x1, .int .u64 x2, .int .u64 x3, .int .i64 x4, .bool x5, .int .u64 x6, .int .u64 x7, .string x8, .int .i64 x9, .int .i64 x10] 42)).cell? ⟨w.heap.size, 2, none⟩ = some (.int .u64 x2) ∧ (w.alloc (.cells #[.int .i64 x0, .bool x1, .int .u64 x2, .int .u64 x3, .int .i64 x4, .bool x5, .int .u64 x6, .int .u64 x7, .string x8, .int .i64 x9, .int .i64 x10] 42)).cell? ⟨w.heap.size, 3, none⟩ = some (.int .u64 x3) ∧ (w.alloc (.cells #[.int .i64 x0, .bool x1, .int .u64 x2, .int .u64 x3, .int .i64 x4, .bool x5, .int .u64 x6, .int .u64 x7, .string x8, .int .i64 x9, .int .i64 x10] 42)).cell? ⟨w.heap.size, 4, none⟩ = some (.int .i64 x4) ∧ (w.alloc (.cells #[.int .i64 x0, .bool x1, .int .u64 x2, .int .u64 x3, .int .i64 x4, .bool x5, .int .u64 x6, .int .u64 x7, .string x8, .int .i64 x9, .int .i64 x10] 42)).cell? ⟨w.heap.size, 5, none⟩ = some (.bool x5) ∧ (w.alloc (.cells #[.int .i64 x0, .bool x1, .int .u64 x2, .int .u64 x3, .int .i64 x4, .bool x5, .int .u64 x6, .int .u64 x7, .string x8, .int .i64 x9, .int .i64 x10] 42)).cell? ⟨w.heap.size, 6, none⟩ = some (.int .u64 x6) ∧ (w.alloc (.cells #[.int .i64 x0, .bool x1, .int .u64 x2, .int .u64 x3, .int .i64 x4, .bool x5, .int .u64 x6, .int .u64 x7, .string x8, .int .i64 x9, .int .i64 x10] 42)).cell? ⟨w.heap.size, 7, none⟩ = some (.int .u64 x7) ∧ (w.alloc (.cells #[.int .i64 x0, .bool x1, .int .u64 x2, .int .u64 x3, .int .i64 x4, .bool x5, .int .u64 x6, .int .u64 x7, .string x8, .int .i64 x9, .int .i64 x10] 42)).cell? ⟨w.heap.size, 8, none⟩ = some (.string x8) ∧ (w.alloc (.cells #[.int .i64 x0, .bool x1, .int .u64 x2, .int .u64 x3, .int .i64 x4, .bool x5, .int .u64 x6, .int .u64 x7, .string x8, .int .i64 x9, .int .i64 x10] 42)).cell? ⟨w.heap.size, 9, none⟩ = some (.int .i64 x9) ∧ (w.alloc (.cells #[.int .i64 x0, .bool x1, .int .u64 x2, .int .u64 x3, .int .i64 x4, .bool x5, .int .u64 x6, .int .u64 x7, .string x8, .int .i64 x9, .int .i64 x10] 42)).cell? ⟨w.heap.size, 10, none⟩ = some (.int .i64 x10) ∧ w.heap.size < (w.alloc (.cells #[.int .i64 x0, .bool x1, .int .u64 x2, .int .u64 x3, .int .i64 x4, .bool x5, .int .u64 x6, .int .u64 x7, .string x8, .int .i64 x9, .int .i64 x10] 42)).heap.size) ∧ Below w.heap.size w (w.alloc (.cells #[.int .i64 x0, .bool x1, .int .u64 x2, .int .u64 x3, .int .i64 x4, .bool x5, .int .u64 x6, .int .u64 x7, .string x8, .int .i64 x9, .int .i64 x10] 42))) := ⟨⟨hh 0 _ rfl, hh 1 _ rfl, hh 2 _ rfl, hh 3 _ rfl, hh 4 _ rfl, hh 5 _ rfl, hh 6 _ rfl, hh 7 _ rfl, hh 8 _ rfl, hh 9 _ rfl, hh 10 _ rfl, hz⟩, HB.out⟩
    clear hh hz
    go_enter Tryz.func24, Tryz.ntmps24
    go_wp2_with fail
    go_region_held3 (fun w' => (w'.cell? ⟨w.heap.size, 0, none⟩ = some (.int .i64 x0) ∧ w'.cell? ⟨w.heap.size, 1, none⟩ = some (.bool x1) ∧ w'.cell? ⟨w.heap.size, 2, none⟩ = some (.int .u64 x2) ∧ w'.cell? ⟨w.heap.size, 3, none⟩ = some (.int .u64 x3) ∧ w'.cell? ⟨w.heap.size, 4, none⟩ = some (.int .i64 x4) ∧ w'.cell? ⟨w.heap.size, 5, none⟩ = some (.bool x5) ∧ w'.cell? ⟨w.heap.size, 6, none⟩ = some (.int .u64 x6) ∧ w'.cell? ⟨w.heap.size, 7, none⟩ = some (.int .u64 x7) ∧ w'.cell? ⟨w.heap.size, 8, none⟩ = some (.string x8) ∧ w'.cell? ⟨w.heap.size, 9, none⟩ = some (.int .i64 x9) ∧ w'.cell? ⟨w.heap.size, 10, none⟩ = some (.int .i64 x10) ∧ w.heap.size < w'.heap.size) ∧ Below w.heap.size w w')
      (first | exact S0.out | exact ⟨⟨S0.out.1.1, S0.out.1.2.1, S0.out.1.2.2.1, S0.out.1.2.2.2.1, S0.out.1.2.2.2.2.1, S0.out.1.2.2.2.2.2.1, S0.out.1.2.2.2.2.2.2.1, S0.out.1.2.2.2.2.2.2.2.1, S0.out.1.2.2.2.2.2.2.2.2.1, S0.out.1.2.2.2.2.2.2.2.2.2.1, S0.out.1.2.2.2.2.2.2.2.2.2.2.1, S0.out.1.2.2.2.2.2.2.2.2.2.2.2⟩, (S0.out.2).drew⟩ | exact keepO (by assumption) (by assumption))
      ((go_at_call 26; refine (hNm.out _).mono ?_; rintro e w2 ⟨rfl, hb2⟩))
    go_wp2_with (go_at_call 30; refine (hN.out _).mono ?_; rintro e w3 ⟨rfl, rfl⟩)
    go_ret
    exact ⟨rfl, And.right (by assumption)⟩
  rw [if_neg (by decide)]
  by_cases k4 : x0 = 4
  · rw [if_pos k4]
    have b4 : (x0 == 4) = true := by rw [beq_iff_eq]; exact k4
    clear k4 h0 h5
    obtain ⟨hh, hz⟩ := HH.out
    have S0 : Hid (((w.alloc (.cells #[.int .i64 x0, .bool x1, .int .u64 x2, .int .u64 x3, .int .i64 x4, .bool x5, .int .u64 x6, .int .u64 x7, .string x8, .int .i64 x9, .int .i64 x10] 42)).cell? ⟨w.heap.size, 0, none⟩ = some (.int .i64 x0) ∧ (w.alloc (.cells #[.int .i64 x0, .bool x1, .int .u64 x2, .int .u64 x3, .int .i64 x4, .bool x5, .int .u64 x6, .int .u64 x7, .string x8, .int .i64 x9, .int .i64 x10] 42)).cell? ⟨w.heap.size, 1, none⟩ = some (.bool x1) ∧ (w.alloc (.cells #[.int .i64 x0, .bool x1, .int .u64 x2, .int .u64 x3, .int .i64 x4, .bool x5, .int .u64 x6, .int .u64 x7, .string x8, .int .i64 x9, .int .i64 x10] 42)).cell? ⟨w.heap.size, 2, none⟩ = some (.int .u64 x2) ∧ (w.alloc (.cells #[.int .i64 x0, .bool x1, .int .u64 x2, .int .u64 x3, .int .i64 x4, .bool x5, .int .u64 x6, .int .u64 x7, .string x8, .int .i64 x9, .int .i64 x10] 42)).cell? ⟨w.heap.size, 3, none⟩ = some (.int .u64 x3) ∧ (w.alloc (.cells #[.int .i64 x0, .bool x1, .int .u64 x2, .int .u64 x3, .int .i64 x4, .bool x5, .int .u64 x6, .int .u64 x7, .string x8, .int .i64 x9, .int .i64 x10] 42)).cell? ⟨w.heap.size, 4, none⟩ = some (.int .i64 x4) ∧ (w.alloc (.cells #[.int .i64 x0, .bool x1, .int .u64 x2, .int .u64 x3, .int .i64 x4, .bool x5, .int .u64 x6, .int .u64 x7, .string x8, .int .i64 x9, .int .i64 x10] 42)).cell? ⟨w.heap.size, 5, none⟩ = some (.bool x5) ∧ (w.alloc (.cells #[.int .i64 x0, .bool x1, .int .u64 x2, .int .u64 x3, .int .i64 x4, .bool x5, .int .u64 x6, .int .u64 x7, .string x8, .int .i64 x9, .int .i64 x10] 42)).cell? ⟨w.heap.size, 6, none⟩ = some (.int .u64 x6) ∧ (w.alloc (.cells #[.int .i64 x0, .bool x1, .int .u64 x2, .int .u64 x3, .int .i64 x4, .bool x5, .int .u64 x6, .int .u64 x7, .string x8, .int .i64 x9, .int .i64 x10] 42)).cell? ⟨w.heap.size, 7, none⟩ = some (.int .u64 x7) ∧ (w.alloc (.cells #[.int .i64 x0, .bool x1, .int .u64 x2, .int .u64 x3, .int .i64 x4, .bool x5, .int .u64 x6, .int .u64 x7, .string x8, .int .i64 x9, .int .i64 x10] 42)).cell? ⟨w.heap.size, 8, none⟩ = some (.string x8) ∧ (w.alloc (.cells #[.int .i64 x0, .bool x1, .int .u64 x2, .int .u64 x3, .int .i64 x4, .bool x5, .int .u64 x6, .int .u64 x7, .string x8, .int .i64 x9, .int .i64 x10] 42)).cell? ⟨w.heap.size, 9, none⟩ = some (.int .i64 x9) ∧ (w.alloc (.cells #[.int .i64 x0, .bool x1, .int .u64 x2, .int .u64 x3, .int .i64 x4, .bool x5, .int .u64 x6, .int .u64 x7, .string x8, .int .i64 x9, .int .i64 x10] 42)).cell? ⟨w.heap.size, 10, none⟩ = some (.int .i64 x10) ∧ w.heap.size < (w.alloc (.cells #[.int .i64 x0, .bool x1, .int .u64 x2, .int .u64 x3, .int .i64 x4, .bool x5, .int .u64 x6, .int .u64 x7, .string x8, .int .i64 x9, .int .i64 x10] 42)).heap.size) ∧ Below w.heap.size w (w.alloc (.cells #[.int .i64 x0, .bool x1, .int .u64 x2, .int .u64 x3, .int .i64 x4, .bool x5, .int .u64 x6, .int .u64 x7, .string x8, .int .i64 x9, .int .i64 x10] 42))) := ⟨⟨hh 0 _ rfl, hh 1 _ rfl, hh 2 _ rfl, hh 3 _ rfl, hh 4 _ rfl, hh 5 _ rfl, hh 6 _ rfl, hh 7 _ rfl, hh 8 _ rfl, hh 9 _ rfl, hh 10 _ rfl, hz⟩, HB.out⟩
    clear hh hz
    go_enter Tryz.func24, Tryz.ntmps24
    go_wp2_with fail
    go_region_held3 (fun w' => (w'.cell? ⟨w.heap.size, 0, none⟩ = some (.int .i64 x0) ∧ w'.cell? ⟨w.heap.size, 1, none⟩ = some (.bool x1) ∧ w'.cell? ⟨w.heap.size, 2, none⟩ = some (.int .u64 x2) ∧ w'.cell? ⟨w.heap.size, 3, none⟩ = some (.int .u64 x3) ∧ w'.cell? ⟨w.heap.size, 4, none⟩ = some (.int .i64 x4) ∧ w'.cell? ⟨w.heap.size, 5, none⟩ = some (.bool x5) ∧ w'.cell? ⟨w.heap.size, 6, none⟩ = some (.int .u64 x6) ∧ w'.cell? ⟨w.heap.size, 7, none⟩ = some (.int .u64 x7) ∧ w'.cell? ⟨w.heap.size, 8, none⟩ = some (.string x8) ∧ w'.cell? ⟨w.heap.size, 9, none⟩ = some (.int .i64 x9) ∧ w'.cell? ⟨w.heap.size, 10, none⟩ = some (.int .i64 x10) ∧ w.heap.size < w'.heap.size) ∧ Below w.heap.size w w')
      (first | exact S0.out | exact ⟨⟨S0.out.1.1, S0.out.1.2.1, S0.out.1.2.2.1, S0.out.1.2.2.2.1, S0.out.1.2.2.2.2.1, S0.out.1.2.2.2.2.2.1, S0.out.1.2.2.2.2.2.2.1, S0.out.1.2.2.2.2.2.2.2.1, S0.out.1.2.2.2.2.2.2.2.2.1, S0.out.1.2.2.2.2.2.2.2.2.2.1, S0.out.1.2.2.2.2.2.2.2.2.2.2.1, S0.out.1.2.2.2.2.2.2.2.2.2.2.2⟩, (S0.out.2).drew⟩ | exact keepO (by assumption) (by assumption))
      ((go_at_call 26; refine (hNm.out _).mono ?_; rintro e w2 ⟨rfl, hb2⟩))
    go_wp2_with (go_at_call 30; refine (hN.out _).mono ?_; rintro e w3 ⟨rfl, rfl⟩)
    go_ret
    exact ⟨rfl, And.right (by assumption)⟩
  rw [if_neg k4]
  have b4 : (x0 == 4) = false := by rw [beq_eq_false_iff_ne]; exact k4
  by_cases hr : x9 < 0 ∨ 2 < x9
  · rw [if_pos hr]
    have hE := Lib.hid (rngE_out hr)
    obtain ⟨hh, hz⟩ := HH.out
    have S0 : Hid (((w.alloc (.cells #[.int .i64 x0, .bool x1, .int .u64 x2, .int .u64 x3, .int .i64 x4, .bool x5, .int .u64 x6, .int .u64 x7, .string x8, .int .i64 x9, .int .i64 x10] 42)).cell? ⟨w.heap.size, 0, none⟩ = some (.int .i64 x0) ∧ (w.alloc (.cells #[.int .i64 x0, .bool x1, .int .u64 x2, .int .u64 x3, .int .i64 x4, .bool x5, .int .u64 x6, .int .u64 x7, .string x8, .int .i64 x9, .int .i64 x10] 42)).cell? ⟨w.heap.size, 1, none⟩ = some (.bool x1) ∧ (w.alloc (.cells #[.int .i64 x0, .bool x1, .int .u64 x2, .int .u64 x3, .int .i64 x4, .bool x5, .int .u64 x6, .int .u64 x7, .string x8, .int .i64 x9, .int .i64 x10] 42)).cell? ⟨w.heap.size, 2, none⟩ = some (.int .u64 x2) ∧ (w.alloc (.cells #[.int .i64 x0, .bool x1, .int .u64 x2, .int .u64 x3, .int .i64 x4, .bool x5, .int .u64 x6, .int .u64 x7, .string x8, .int .i64 x9, .int .i64 x10] 42)).cell? ⟨w.heap.size, 3, none⟩ = some (.int .u64 x3) ∧ (w.alloc (.cells #[.int .i64 x0, .bool x1, .int .u64 x2, .int .u64 x3, .int .i64 x4, .bool x5, .int .u64 x6, .int .u64 x7, .string x8, .int .i64 x9, .int .i64 x10] 42)).cell? ⟨w.heap.size, 4, none⟩ = some (.int .i64 x4) ∧ (w.alloc (.cells #[.int .i64 x0, .bool x1, .int .u64 x2, .int .u64 x3, .int .i64 x4, .bool x5, .int .u64 x6, .int .u64 x7, .string x8, .int .i64 x9, .int .i64 x10] 42)).cell? ⟨w.heap.size, 5, none⟩ = some (.bool x5) ∧ (w.alloc (.cells #[.int .i64 x0, .bool x1, .int .u64 x2, .int .u64 x3, .int .i64 x4, .bool x5, .int .u64 x6, .int .u64 x7, .string x8, .int .i64 x9, .int .i64 x10] 42)).cell? ⟨w.heap.size, 6, none⟩ = some (.int .u64 x6) ∧ (w.alloc (.cells #[.int .i64 x0, .bool x1, .int .u64 x2, .int .u64 x3, .int .i64 x4, .bool x5, .int .u64 x6, .int .u64 x7, .string x8, .int .i64 x9, .int .i64 x10] 42)).cell? ⟨w.heap.size, 7, none⟩ = some (.int .u64 x7) ∧ (w.alloc (.cells #[.int .i64 x0, .bool x1, .int .u64 x2, .int .u64 x3, .int .i64 x4, .bool x5, .int .u64 x6, .int .u64 x7, .string x8, .int .i64 x9, .int .i64 x10] 42)).cell? ⟨w.heap.size, 8, none⟩ = some (.string x8) ∧ (w.alloc (.cells #[.int .i64 x0, .bool x1, .int .u64 x2, .int .u64 x3, .int .i64 x4, .bool x5, .int .u64 x6, .int .u64 x7, .string x8, .int .i64 x9, .int .i64 x10] 42)).cell? ⟨w.heap.size, 9, none⟩ = some (.int .i64 x9) ∧ (w.alloc (.cells #[.int .i64 x0, .bool x1, .int .u64 x2, .int .u64 x3, .int .i64 x4, .bool x5, .int .u64 x6, .int .u64 x7, .string x8, .int .i64 x9, .int .i64 x10] 42)).cell? ⟨w.heap.size, 10, none⟩ = some (.int .i64 x10) ∧ w.heap.size < (w.alloc (.cells #[.int .i64 x0, .bool x1, .int .u64 x2, .int .u64 x3, .int .i64 x4, .bool x5, .int .u64 x6, .int .u64 x7, .string x8, .int .i64 x9, .int .i64 x10] 42)).heap.size) ∧ Below w.heap.size w (w.alloc (.cells #[.int .i64 x0, .bool x1, .int .u64 x2, .int .u64 x3, .int .i64 x4, .bool x5, .int .u64 x6, .int .u64 x7, .string x8, .int .i64 x9, .int .i64 x10] 42))) := ⟨⟨hh 0 _ rfl, hh 1 _ rfl, hh 2 _ rfl, hh 3 _ rfl, hh 4 _ rfl, hh 5 _ rfl, hh 6 _ rfl, hh 7 _ rfl, hh 8 _ rfl, hh 9 _ rfl, hh 10 _ rfl, hz⟩, HB.out⟩
    clear hh hz
    go_enter Tryz.func24, Tryz.ntmps24
    go_wp2_with fail
    go_region_held3 (fun w' => (w'.cell? ⟨w.heap.size, 0, none⟩ = some (.int .i64 x0) ∧ w'.cell? ⟨w.heap.size, 1, none⟩ = some (.bool x1) ∧ w'.cell? ⟨w.heap.size, 2, none⟩ = some (.int .u64 x2) ∧ w'.cell? ⟨w.heap.size, 3, none⟩ = some (.int .u64 x3) ∧ w'.cell? ⟨w.heap.size, 4, none⟩ = some (.int .i64 x4) ∧ w'.cell? ⟨w.heap.size, 5, none⟩ = some (.bool x5) ∧ w'.cell? ⟨w.heap.size, 6, none⟩ = some (.int .u64 x6) ∧ w'.cell? ⟨w.heap.size, 7, none⟩ = some (.int .u64 x7) ∧ w'.cell? ⟨w.heap.size, 8, none⟩ = some (.string x8) ∧ w'.cell? ⟨w.heap.size, 9, none⟩ = some (.int .i64 x9) ∧ w'.cell? ⟨w.heap.size, 10, none⟩ = some (.int .i64 x10) ∧ w.heap.size < w'.heap.size) ∧ Below w.heap.size w w')
      (first | exact S0.out | exact ⟨⟨S0.out.1.1, S0.out.1.2.1, S0.out.1.2.2.1, S0.out.1.2.2.2.1, S0.out.1.2.2.2.2.1, S0.out.1.2.2.2.2.2.1, S0.out.1.2.2.2.2.2.2.1, S0.out.1.2.2.2.2.2.2.2.1, S0.out.1.2.2.2.2.2.2.2.2.1, S0.out.1.2.2.2.2.2.2.2.2.2.1, S0.out.1.2.2.2.2.2.2.2.2.2.2.1, S0.out.1.2.2.2.2.2.2.2.2.2.2.2⟩, (S0.out.2).drew⟩ | exact keepO (by assumption) (by assumption))
      ((go_at_call 26; refine (hNm.out _).mono ?_; rintro e w2 ⟨rfl, hb2⟩))
    go_wp2_with (go_at_call 30; refine (hN.out _).mono ?_; rintro e w3 ⟨rfl, rfl⟩)
    refine (sranged_any x9 0 2 _).mono ?_
    rintro e w4 ⟨rfl, rfl⟩
    rw [hE.out]
    go_wp2
    go_ret
    exact ⟨rfl, And.right (by assumption)⟩
  · rw [if_neg hr]
    have hE := Lib.hid (rngE_in (n := x9) (a := 0) (b := 2) (by omega) (by omega))
    obtain ⟨hh, hz⟩ := HH.out
    have S0 : Hid (((w.alloc (.cells #[.int .i64 x0, .bool x1, .int .u64 x2, .int .u64 x3, .int .i64 x4, .bool x5, .int .u64 x6, .int .u64 x7, .string x8, .int .i64 x9, .int .i64 x10] 42)).cell? ⟨w.heap.size, 0, none⟩ = some (.int .i64 x0) ∧ (w.alloc (.cells #[.int .i64 x0, .bool x1, .int .u64 x2, .int .u64 x3, .int .i64 x4, .bool x5, .int .u64 x6, .int .u64 x7, .string x8, .int .i64 x9, .int .i64 x10] 42)).cell? ⟨w.heap.size, 1, none⟩ = some (.bool x1) ∧ (w.alloc (.cells #[.int .i64 x0, .bool x1, .int .u64 x2, .int .u64 x3, .int .i64 x4, .bool x5, .int .u64 x6, .int .u64 x7, .string x8, .int .i64 x9, .int .i64 x10] 42)).cell? ⟨w.heap.size, 2, none⟩ = some (.int .u64 x2) ∧ (w.alloc (.cells #[.int .i64 x0, .bool x1, .int .u64 x2, .int .u64 x3, .int .i64 x4, .bool x5, .int .u64 x6, .int .u64 x7, .string x8, .int .i64 x9, .int .i64 x10] 42)).cell? ⟨w.heap.size, 3, none⟩ = some (.int .u64 x3) ∧ (w.alloc (.cells #[.int .i64 x0, .bool x1, .int .u64 x2, .int .u64 x3, .int .i64 x4, .bool x5, .int .u64 x6, .int .u64 x7, .string x8, .int .i64 x9, .int .i64 x10] 42)).cell? ⟨w.heap.size, 4, none⟩ = some (.int .i64 x4) ∧ (w.alloc (.cells #[.int .i64 x0, .bool x1, .int .u64 x2, .int .u64 x3, .int .i64 x4, .bool x5, .int .u64 x6, .int .u64 x7, .string x8, .int .i64 x9, .int .i64 x10] 42)).cell? ⟨w.heap.size, 5, none⟩ = some (.bool x5) ∧ (w.alloc (.cells #[.int .i64 x0, .bool x1, .int .u64 x2, .int .u64 x3, .int .i64 x4, .bool x5, .int .u64 x6, .int .u64 x7, .string x8, .int .i64 x9, .int .i64 x10] 42)).cell? ⟨w.heap.size, 6, none⟩ = some (.int .u64 x6) ∧ (w.alloc (.cells #[.int .i64 x0, .bool x1, .int .u64 x2, .int .u64 x3, .int .i64 x4, .bool x5, .int .u64 x6, .int .u64 x7, .string x8, .int .i64 x9, .int .i64 x10] 42)).cell? ⟨w.heap.size, 7, none⟩ = some (.int .u64 x7) ∧ (w.alloc (.cells #[.int .i64 x0, .bool x1, .int .u64 x2, .int .u64 x3, .int .i64 x4, .bool x5, .int .u64 x6, .int .u64 x7, .string x8, .int .i64 x9, .int .i64 x10] 42)).cell? ⟨w.heap.size, 8, none⟩ = some (.string x8) ∧ (w.alloc (.cells #[.int .i64 x0, .bool x1, .int .u64 x2, .int .u64 x3, .int .i64 x4, .bool x5, .int .u64 x6, .int .u64 x7, .string x8, .int .i64 x9, .int .i64 x10] 42)).cell? ⟨w.heap.size, 9, none⟩ = some (.int .i64 x9) ∧ (w.alloc (.cells #[.int .i64 x0, .bool x1, .int .u64 x2, .int .u64 x3, .int .i64 x4, .bool x5, .int .u64 x6, .int .u64 x7, .string x8, .int .i64 x9, .int .i64 x10] 42)).cell? ⟨w.heap.size, 10, none⟩ = some (.int .i64 x10) ∧ w.heap.size < (w.alloc (.cells #[.int .i64 x0, .bool x1, .int .u64 x2, .int .u64 x3, .int .i64 x4, .bool x5, .int .u64 x6, .int .u64 x7, .string x8, .int .i64 x9, .int .i64 x10] 42)).heap.size) ∧ Below w.heap.size w (w.alloc (.cells #[.int .i64 x0, .bool x1, .int .u64 x2, .int .u64 x3, .int .i64 x4, .bool x5, .int .u64 x6, .int .u64 x7, .string x8, .int .i64 x9, .int .i64 x10] 42))) := ⟨⟨hh 0 _ rfl, hh 1 _ rfl, hh 2 _ rfl, hh 3 _ rfl, hh 4 _ rfl, hh 5 _ rfl, hh 6 _ rfl, hh 7 _ rfl, hh 8 _ rfl, hh 9 _ rfl, hh 10 _ rfl, hz⟩, HB.out⟩
    clear hh hz
    go_enter Tryz.func24, Tryz.ntmps24
    go_wp2_with fail
    go_region_held3 (fun w' => (w'.cell? ⟨w.heap.size, 0, none⟩ = some (.int .i64 x0) ∧ w'.cell? ⟨w.heap.size, 1, none⟩ = some (.bool x1) ∧ w'.cell? ⟨w.heap.size, 2, none⟩ = some (.int .u64 x2) ∧ w'.cell? ⟨w.heap.size, 3, none⟩ = some (.int .u64 x3) ∧ w'.cell? ⟨w.heap.size, 4, none⟩ = some (.int .i64 x4) ∧ w'.cell? ⟨w.heap.size, 5, none⟩ = some (.bool x5) ∧ w'.cell? ⟨w.heap.size, 6, none⟩ = some (.int .u64 x6) ∧ w'.cell? ⟨w.heap.size, 7, none⟩ = some (.int .u64 x7) ∧ w'.cell? ⟨w.heap.size, 8, none⟩ = some (.string x8) ∧ w'.cell? ⟨w.heap.size, 9, none⟩ = some (.int .i64 x9) ∧ w'.cell? ⟨w.heap.size, 10, none⟩ = some (.int .i64 x10) ∧ w.heap.size < w'.heap.size) ∧ Below w.heap.size w w')
      (first | exact S0.out | exact ⟨⟨S0.out.1.1, S0.out.1.2.1, S0.out.1.2.2.1, S0.out.1.2.2.2.1, S0.out.1.2.2.2.2.1, S0.out.1.2.2.2.2.2.1, S0.out.1.2.2.2.2.2.2.1, S0.out.1.2.2.2.2.2.2.2.1, S0.out.1.2.2.2.2.2.2.2.2.1, S0.out.1.2.2.2.2.2.2.2.2.2.1, S0.out.1.2.2.2.2.2.2.2.2.2.2.1, S0.out.1.2.2.2.2.2.2.2.2.2.2.2⟩, (S0.out.2).drew⟩ | exact keepO (by assumption) (by assumption))
      ((go_at_call 26; refine (hNm.out _).mono ?_; rintro e w2 ⟨rfl, hb2⟩))
    go_wp2_with (go_at_call 30; refine (hN.out _).mono ?_; rintro e w3 ⟨rfl, rfl⟩)
    refine (sranged_any x9 0 2 _).mono ?_
    rintro e w4 ⟨rfl, rfl⟩
    rw [hE.out]
    go_wp2_with fail
    refine (sranged_any x10 1 500 _).mono ?_
    rintro e w5 ⟨rfl, rfl⟩
    go_wp2
    go_ret
    exact ⟨rfl, And.right (by assumption)⟩
end Go.Proofs.YtclnfkohlklbpaaGreat
