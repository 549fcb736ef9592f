/- state.named: an op that has what its kind names, and nothing else. -/
import Derived.Test.YtclnfkohlklbpaaOpA
set_option linter.unusedVariables false
set_option linter.unusedSimpArgs false
namespace Go.Proofs.Ytclnfkohlklbpaa
open Go.RowKit

theorem nmd1 {o : Opd} (h : o.k = 1) : nmd o = ⟨1, o.p, zAd, ⟨#[]⟩, 0, 0, o.pok⟩ := by unfold nmd; apply Opd.same <;> simp [h]
theorem nmd2 {o : Opd} (h : o.k = 2) : nmd o = ⟨2, zPf, o.a, ⟨#[]⟩, 0, 0, zPf_ok⟩ := by unfold nmd; apply Opd.same <;> simp [h]
theorem nmd3 {o : Opd} (h : o.k = 3) : nmd o = ⟨3, zPf, zAd, o.who, o.pof, o.n, zPf_ok⟩ := by unfold nmd; apply Opd.same <;> simp [h]
theorem nmd4 {o : Opd} (h : o.k = 4) : nmd o = ⟨4, zPf, zAd, o.who, 0, 0, zPf_ok⟩ := by unfold nmd; apply Opd.same <;> simp [h]
theorem nmd5 {o : Opd} (h : o.k = 5) : nmd o = ⟨5, zPf, zAd, ⟨#[]⟩, 0, o.n, zPf_ok⟩ := by unfold nmd; apply Opd.same <;> simp [h]

set_option maxHeartbeats 8000000 in
set_option maxRecDepth 100000 in
theorem snamed_1 (o : Opd) (w : World) (hk : o.k = 1) : Calls Try.prog 32 #[.agg #[.int .i64 o.k, .bool o.p.v, .int .u64 o.p.hi, .int .u64 o.p.lo, .int .i64 o.p.b, .bool o.a.v, .int .u64 o.a.hi, .int .u64 o.a.lo, .string o.who, .int .i64 o.pof, .int .i64 o.n]] w fun e w' => e = .returned (.agg #[.int .i64 (nmd o).k, .bool (nmd o).p.v, .int .u64 (nmd o).p.hi, .int .u64 (nmd o).p.lo, .int .i64 (nmd o).p.b, .bool (nmd o).a.v, .int .u64 (nmd o).a.hi, .int .u64 (nmd o).a.lo, .string (nmd o).who, .int .i64 (nmd o).pof, .int .i64 (nmd o).n]) ∧ Below w.heap.size w w' := by
  rw [nmd1 hk, hk]
  dsimp only [zPf, zAd]
  generalize o.p.v = x1
  generalize o.p.hi = x2
  generalize o.p.lo = x3
  generalize o.p.b = x4
  generalize o.a.v = x5
  generalize o.a.hi = x6
  generalize o.a.lo = x7
  generalize o.who = x8
  generalize o.pof = x9
  generalize o.n = x10
  clear hk
  go_enter Try.func32, Try.ntmps32
  go_wp2
  refine bodyPost_ret (v := .agg #[.int .i64 1, .bool x1, .int .u64 x2, .int .u64 x3, .int .i64 x4, .bool false, .int .u64 0, .int .u64 0, .string ⟨#[]⟩, .int .i64 0, .int .i64 0]) ?_ rfl ⟨rfl, ?_⟩
  · simp [results, Try.results32, go_sem]
  · repeat' (first | exact Below.refl _ _ | with_reducible refine Below.drew ?_ | with_reducible refine bal ?_ _ | with_reducible refine bse ?_ (by first | (simp; done) | (simp; omega)) _)
set_option maxHeartbeats 8000000 in
set_option maxRecDepth 100000 in
theorem snamed_2 (o : Opd) (w : World) (hk : o.k = 2) : Calls Try.prog 32 #[.agg #[.int .i64 o.k, .bool o.p.v, .int .u64 o.p.hi, .int .u64 o.p.lo, .int .i64 o.p.b, .bool o.a.v, .int .u64 o.a.hi, .int .u64 o.a.lo, .string o.who, .int .i64 o.pof, .int .i64 o.n]] w fun e w' => e = .returned (.agg #[.int .i64 (nmd o).k, .bool (nmd o).p.v, .int .u64 (nmd o).p.hi, .int .u64 (nmd o).p.lo, .int .i64 (nmd o).p.b, .bool (nmd o).a.v, .int .u64 (nmd o).a.hi, .int .u64 (nmd o).a.lo, .string (nmd o).who, .int .i64 (nmd o).pof, .int .i64 (nmd o).n]) ∧ Below w.heap.size w w' := by
  rw [nmd2 hk, hk]
  dsimp only [zPf, zAd]
  generalize o.p.v = x1
  generalize o.p.hi = x2
  generalize o.p.lo = x3
  generalize o.p.b = x4
  generalize o.a.v = x5
  generalize o.a.hi = x6
  generalize o.a.lo = x7
  generalize o.who = x8
  generalize o.pof = x9
  generalize o.n = x10
  clear hk
  go_enter Try.func32, Try.ntmps32
  go_wp2
  refine bodyPost_ret (v := .agg #[.int .i64 2, .bool false, .int .u64 0, .int .u64 0, .int .i64 0, .bool x5, .int .u64 x6, .int .u64 x7, .string ⟨#[]⟩, .int .i64 0, .int .i64 0]) ?_ rfl ⟨rfl, ?_⟩
  · simp [results, Try.results32, go_sem]
  · repeat' (first | exact Below.refl _ _ | with_reducible refine Below.drew ?_ | with_reducible refine bal ?_ _ | with_reducible refine bse ?_ (by first | (simp; done) | (simp; omega)) _)
set_option maxHeartbeats 8000000 in
set_option maxRecDepth 100000 in
theorem snamed_3 (o : Opd) (w : World) (hk : o.k = 3) : Calls Try.prog 32 #[.agg #[.int .i64 o.k, .bool o.p.v, .int .u64 o.p.hi, .int .u64 o.p.lo, .int .i64 o.p.b, .bool o.a.v, .int .u64 o.a.hi, .int .u64 o.a.lo, .string o.who, .int .i64 o.pof, .int .i64 o.n]] w fun e w' => e = .returned (.agg #[.int .i64 (nmd o).k, .bool (nmd o).p.v, .int .u64 (nmd o).p.hi, .int .u64 (nmd o).p.lo, .int .i64 (nmd o).p.b, .bool (nmd o).a.v, .int .u64 (nmd o).a.hi, .int .u64 (nmd o).a.lo, .string (nmd o).who, .int .i64 (nmd o).pof, .int .i64 (nmd o).n]) ∧ Below w.heap.size w w' := by
  rw [nmd3 hk, hk]
  dsimp only [zPf, zAd]
  generalize o.p.v = x1
  generalize o.p.hi = x2
  generalize o.p.lo = x3
  generalize o.p.b = x4
  generalize o.a.v = x5
  generalize o.a.hi = x6
  generalize o.a.lo = x7
  generalize o.who = x8
  generalize o.pof = x9
  generalize o.n = x10
  clear hk
  go_enter Try.func32, Try.ntmps32
  go_wp2
  go_region
  all_goals
    go_wp2
    refine bodyPost_ret (v := .agg #[.int .i64 3, .bool false, .int .u64 0, .int .u64 0, .int .i64 0, .bool false, .int .u64 0, .int .u64 0, .string x8, .int .i64 x9, .int .i64 x10]) ?_ rfl ⟨rfl, ?_⟩
    · simp [results, Try.results32, go_sem]
    · repeat' (first | exact Below.refl _ _ | with_reducible refine Below.drew ?_ | with_reducible refine bal ?_ _ | with_reducible refine bse ?_ (by first | (simp; done) | (simp; omega)) _)
set_option maxHeartbeats 8000000 in
set_option maxRecDepth 100000 in
theorem snamed_4 (o : Opd) (w : World) (hk : o.k = 4) : Calls Try.prog 32 #[.agg #[.int .i64 o.k, .bool o.p.v, .int .u64 o.p.hi, .int .u64 o.p.lo, .int .i64 o.p.b, .bool o.a.v, .int .u64 o.a.hi, .int .u64 o.a.lo, .string o.who, .int .i64 o.pof, .int .i64 o.n]] w fun e w' => e = .returned (.agg #[.int .i64 (nmd o).k, .bool (nmd o).p.v, .int .u64 (nmd o).p.hi, .int .u64 (nmd o).p.lo, .int .i64 (nmd o).p.b, .bool (nmd o).a.v, .int .u64 (nmd o).a.hi, .int .u64 (nmd o).a.lo, .string (nmd o).who, .int .i64 (nmd o).pof, .int .i64 (nmd o).n]) ∧ Below w.heap.size w w' := by
  rw [nmd4 hk, hk]
  dsimp only [zPf, zAd]
  generalize o.p.v = x1
  generalize o.p.hi = x2
  generalize o.p.lo = x3
  generalize o.p.b = x4
  generalize o.a.v = x5
  generalize o.a.hi = x6
  generalize o.a.lo = x7
  generalize o.who = x8
  generalize o.pof = x9
  generalize o.n = x10
  clear hk
  go_enter Try.func32, Try.ntmps32
  go_wp2
  refine bodyPost_ret (v := .agg #[.int .i64 4, .bool false, .int .u64 0, .int .u64 0, .int .i64 0, .bool false, .int .u64 0, .int .u64 0, .string x8, .int .i64 0, .int .i64 0]) ?_ rfl ⟨rfl, ?_⟩
  · simp [results, Try.results32, go_sem]
  · repeat' (first | exact Below.refl _ _ | with_reducible refine Below.drew ?_ | with_reducible refine bal ?_ _ | with_reducible refine bse ?_ (by first | (simp; done) | (simp; omega)) _)
set_option maxHeartbeats 8000000 in
set_option maxRecDepth 100000 in
theorem snamed_5 (o : Opd) (w : World) (hk : o.k = 5) : Calls Try.prog 32 #[.agg #[.int .i64 o.k, .bool o.p.v, .int .u64 o.p.hi, .int .u64 o.p.lo, .int .i64 o.p.b, .bool o.a.v, .int .u64 o.a.hi, .int .u64 o.a.lo, .string o.who, .int .i64 o.pof, .int .i64 o.n]] w fun e w' => e = .returned (.agg #[.int .i64 (nmd o).k, .bool (nmd o).p.v, .int .u64 (nmd o).p.hi, .int .u64 (nmd o).p.lo, .int .i64 (nmd o).p.b, .bool (nmd o).a.v, .int .u64 (nmd o).a.hi, .int .u64 (nmd o).a.lo, .string (nmd o).who, .int .i64 (nmd o).pof, .int .i64 (nmd o).n]) ∧ Below w.heap.size w w' := by
  rw [nmd5 hk, hk]
  dsimp only [zPf, zAd]
  generalize o.p.v = x1
  generalize o.p.hi = x2
  generalize o.p.lo = x3
  generalize o.p.b = x4
  generalize o.a.v = x5
  generalize o.a.hi = x6
  generalize o.a.lo = x7
  generalize o.who = x8
  generalize o.pof = x9
  generalize o.n = x10
  clear hk
  go_enter Try.func32, Try.ntmps32
  go_wp2
  refine bodyPost_ret (v := .agg #[.int .i64 5, .bool false, .int .u64 0, .int .u64 0, .int .i64 0, .bool false, .int .u64 0, .int .u64 0, .string ⟨#[]⟩, .int .i64 0, .int .i64 x10]) ?_ rfl ⟨rfl, ?_⟩
  · simp [results, Try.results32, go_sem]
  · repeat' (first | exact Below.refl _ _ | with_reducible refine Below.drew ?_ | with_reducible refine bal ?_ _ | with_reducible refine bse ?_ (by first | (simp; done) | (simp; omega)) _)
theorem snamed_any (o : Opd) (w : World) (h1 : ¬ o.k < 1) (h5 : ¬ 5 < o.k) : Calls Try.prog 32 #[.agg #[.int .i64 o.k, .bool o.p.v, .int .u64 o.p.hi, .int .u64 o.p.lo, .int .i64 o.p.b, .bool o.a.v, .int .u64 o.a.hi, .int .u64 o.a.lo, .string o.who, .int .i64 o.pof, .int .i64 o.n]] w fun e w' => e = .returned (.agg #[.int .i64 (nmd o).k, .bool (nmd o).p.v, .int .u64 (nmd o).p.hi, .int .u64 (nmd o).p.lo, .int .i64 (nmd o).p.b, .bool (nmd o).a.v, .int .u64 (nmd o).a.hi, .int .u64 (nmd o).a.lo, .string (nmd o).who, .int .i64 (nmd o).pof, .int .i64 (nmd o).n]) ∧ Below w.heap.size w w' := by
  have hk : o.k = 1 ∨ o.k = 2 ∨ o.k = 3 ∨ o.k = 4 ∨ o.k = 5 := by omega
  rcases hk with hk | hk | hk | hk | hk
  · exact snamed_1 o w hk
  · exact snamed_2 o w hk
  · exact snamed_3 o w hk
  · exact snamed_4 o w hk
  · exact snamed_5 o w hk
end Go.Proofs.Ytclnfkohlklbpaa
