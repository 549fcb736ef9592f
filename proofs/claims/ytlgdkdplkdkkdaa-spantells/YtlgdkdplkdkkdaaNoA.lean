/- slices.SortFunc with order.Compare, at a row of prefixes that are right. -/
import Derived.Test.YtlgdkdplkdkkdaaGrA
import Derived.Test.YtlgdkdplkdkkdaaShf
import Derived.Test.YtlgdkdplkdkkdaaCuA
set_option linter.unusedVariables false
set_option linter.unusedSimpArgs false
namespace Go.Proofs.Ytlgdkdplkdkkdaa
open Go.RowKit
open Go.Sort (grow HoldsK SWO SortedIn PermIn flatK size_flatK get_flatK)

theorem zero_R : Pf.R ⟨false, 0, 0, 0⟩ := (right_iff false 0 0 0 (by decide) (by decide) (by decide) (by decide)).1 (by decide +kernel)
/-- Prefixes that are right (none stands for one of them, so that there is one by default). -/
abbrev RP : Type := Option {p : Pf // p.R}
def valP (x : RP) : Pf := match x with | none => ⟨false, 0, 0, 0⟩ | some p => p.1
theorem valR (x : RP) : (valP x).R := by
  cases x with
  | none => exact zero_R
  | some p => exact p.2
def encP (x : RP) : List Value := [.bool (valP x).v, .int .u64 (valP x).hi, .int .u64 (valP x).lo, .int .i64 (valP x).b]
def cfP (x y : RP) : Int := (valP x).cmp (valP y)
theorem encP_one (x : RP) : ∀ v ∈ encP x, v.oneCell' = true := fun v hv => by
  simp [encP] at hv
  rcases hv with rfl | rfl | rfl | rfl <;> rfl
theorem swoP : SWO (ltOf cfP) := by
  refine ⟨fun x => ?_, fun x y z h1 h2 => ?_, fun x y z h1 h2 => ?_⟩
  · unfold ltOf cfP
    rw [decide_eq_false_iff_not, cmp_neg (valR x) (valR x)]
    rintro (⟨a, b⟩ | ⟨_, a | ⟨_, a⟩⟩)
    · rw [a] at b; exact absurd b (by decide)
    · omega
    · omega
  · unfold ltOf cfP at *
    rw [decide_eq_true_iff] at *
    exact cmp_trans (valR x) (valR y) (valR z) h1 h2
  · unfold ltOf cfP at *
    rw [decide_eq_false_iff_not] at *
    rw [cmp_neg (valR x) (valR y)] at h1
    rw [cmp_neg (valR y) (valR z)] at h2
    rw [cmp_neg (valR x) (valR z)]
    generalize (valP x).v = a at *
    generalize (valP y).v = b at *
    generalize (valP z).v = c at *
    cases a <;> cases b <;> cases c <;> simp_all <;> omega
theorem enters_cmp : ∀ args w, (callFunc 31 args).run Try.prog w = .ok (.enter 31 args) w := enters_of Try.func31 (by kernel_rfl) rfl
theorem cmpLaysP (blk off size : Nat) (w : World) : CmpLays Try.prog 31 #[] encP 4 cfP blk off size w :=
  fun _ _ _ _ x y => compare_gr (valP x).v (valP x).hi (valP x).lo (valP x).b (valP y).v (valP y).hi (valP y).lo (valP y).b _ (valR x).h0 (valR x).l0 (valR y).h0 (valR y).l0

/-- The prefixes of an array of right ones. -/
def pfsOf (d : Array RP) : List Pf := d.toList.map valP
theorem pfsOf_len (d : Array RP) : (pfsOf d).length = d.size := by simp [pfsOf]
theorem pfsOf_at (d : Array RP) (j : Nat) (h : j < (pfsOf d).length) : (pfsOf d)[j] = valP d[j]! := by
  have h' : j < d.size := by rw [pfsOf_len] at h; exact h
  rw [getElem!_pos d j h']
  simp [pfsOf]
theorem pfsOf_R (d : Array RP) : ∀ p ∈ pfsOf d, p.R := fun p hp => by
  obtain ⟨x, _, rfl⟩ := List.mem_map.1 hp
  exact valR x
theorem exists_rp : ∀ (ps : List Pf), (∀ p ∈ ps, p.R) → ∃ d : Array RP, pfsOf d = ps
  | [], _ => ⟨#[], rfl⟩
  | p :: r, h => by
    obtain ⟨d, hd⟩ := exists_rp r (fun x hx => h x (by simp [hx]))
    exact ⟨⟨some ⟨p, h p (by simp)⟩ :: d.toList⟩, congrArg (List.cons p) hd⟩
theorem flatK_at (d : Array RP) (t : Nat) (h : t < d.size * 4) : (flat (pfsOf d))[t]? = some ((flatK encP 4 d)[t]!) := by
  rw [get_flatK encP 4 d t h]
  have hj : t / 4 < (pfsOf d).length := by rw [pfsOf_len]; omega
  obtain ⟨a, b, c, e⟩ := flat_at (pfsOf d) (t / 4) hj
  rw [pfsOf_at d _ hj] at a b c e
  have h4 : t % 4 = 0 ∨ t % 4 = 1 ∨ t % 4 = 2 ∨ t % 4 = 3 := by omega
  rcases h4 with h4 | h4 | h4 | h4 <;> rw [h4]
  · rw [show t = t / 4 * 4 by omega, a, show t / 4 * 4 / 4 = t / 4 by omega]; rfl
  · rw [show t = t / 4 * 4 + 1 by omega, b, show (t / 4 * 4 + 1) / 4 = t / 4 by omega]; rfl
  · rw [show t = t / 4 * 4 + 2 by omega, c, show (t / 4 * 4 + 2) / 4 = t / 4 by omega]; rfl
  · rw [show t = t / 4 * 4 + 3 by omega, e, show (t / 4 * 4 + 3) / 4 = t / 4 by omega]; rfl
theorem holds_of_row {w : World} {g c : Nat} {cur : Array Value} {d : Array RP} (hc : w.heap[g]? = some (.cells cur 27 (0, 0))) (hx : cur.toList.take (d.size * 4) = flat (pfsOf d)) : HoldsK encP 4 w g 0 d := by
  intro j hj
  rw [size_flatK] at hj
  have h1 := flatK_at d j hj
  rw [← hx, List.getElem?_take_of_lt hj] at h1
  refine ⟨?_, ?_⟩
  · simp [World.cell?, hc]
    simpa using h1
  · simp [World.frozen?, hc]
theorem sl_of_holds {w : World} {g : Nat} {d : Array RP} (hg : g < w.heap.size) (h : HoldsK encP 4 w g 0 d) : Sl w (some ⟨g, 0, none⟩) (pfsOf d) := by
  intro j hj
  have hj' : j < d.size := by rw [pfsOf_len] at hj; exact hj
  have key : ∀ t, t < d.size * 4 → w.cell? ⟨g, 0 + t, none⟩ = (flat (pfsOf d))[t]? := fun t ht => by
    rw [flatK_at d t ht]; exact (h t (by rw [size_flatK]; exact ht)).1
  obtain ⟨a, b, c, e⟩ := flat_at (pfsOf d) j hj
  refine ⟨g, 0, rfl, hg, ?_, ?_, ?_, ?_⟩
  · rw [key _ (by omega)]; exact a
  · rw [show 0 + j * 4 + 1 = 0 + (j * 4 + 1) by omega, key _ (by omega)]; exact b
  · rw [show 0 + j * 4 + 2 = 0 + (j * 4 + 2) by omega, key _ (by omega)]; exact c
  · rw [show 0 + j * 4 + 3 = 0 + (j * 4 + 3) by omega, key _ (by omega)]; exact e
theorem below_sort {w : World} {blk m B : Nat} {dk : Array RP} {os : Array Obj} (hB : B ≤ blk) (hw : blk < w.heap.size) : Below B w (sortWorldK encP 4 w blk 0 m dk os) := by
  refine ⟨rfl, rfl, rfl, ?_, fun k hk => ?_⟩
  · simp [sortWorldK, Go.Sort.putRowK, Go.Sort.putRow, Go.Sort.mapBlock, Go.Sort.ahead]
  · have h1 : k < w.heap.size := by omega
    have h2 : blk ≠ k := by omega
    simp [sortWorldK, Go.Sort.grow, Go.Sort.putRowK, Go.Sort.putRow, Go.Sort.mapBlock, Go.Sort.ahead, Array.getElem?_append, Array.getElem?_modify, Array.getElem_modify, h1, h2]

theorem aggP (w : World) : (isAgg 27).run Try.prog w = .ok true w := by kernel_rfl
theorem sizeP (w : World) : (Go.sizeOf 27).run Try.prog w = .ok 4 w := by kernel_rfl

/-- None stands ahead of one that it stands behind. -/
def Rises (S : List Pf) : Prop := S.Pairwise fun p q => ¬ q.cmp p < 0
/-- A row that is owned is sorted: another row, of the same prefixes. -/
theorem sort_any (B : Nat) (v : Value) (ps : List Pf) (w : World) (hR : ∀ p ∈ ps, p.R) (hl : ps.length ≤ 4096) (hB : B ≤ w.heap.size) (ho : w.ownsRow B 27 4 v ps.length (flat ps)) :
    Calls Try.prog 30 #[v, .func (.func 31) #[] #[]] w fun e w' => e = .returned (.tuple #[]) ∧ ∃ a c S, v = .slice a S.length c ∧ S.length ≤ c ∧ Sl w' a S ∧ S.length = ps.length ∧ (∀ p, p ∈ S ↔ p ∈ ps) ∧ Rises S ∧ Below B w w' := by
  obtain ⟨h1, h2⟩ := ho
  rcases h2 with ⟨rfl, h2⟩ | ⟨g, c, cur, rfl, hg, hc, h3, h4, h5, h6⟩
  · have : ps = [] := List.length_eq_zero_iff.1 h2
    subst this
    refine (Try.slices_SortFunc_none (α := RP) none 0 _ w).mono ?_
    rintro e w' ⟨rfl, rfl⟩
    exact ⟨rfl, none, 0, [], rfl, Nat.le_refl _, fun j hj => by simp at hj, rfl, fun p => Iff.rfl, .nil, Below.refl _ _⟩
  · obtain ⟨d, rfl⟩ := exists_rp ps hR
    rw [pfsOf_len] at h3 h6 hl ⊢
    have hH := holds_of_row (c := c) hc h6
    have hgw : g < w.heap.size := (Array.getElem?_eq_some_iff.1 hc).1
    refine (Try.slices_SortFunc 4 aggP sizeP encP (fun _ => rfl) encP_one cfP swoP 31 #[] g 0 c d w enters_cmp (cmpLaysP g 0 d.size w) hH hgw (by omega)).mono ?_
    rintro e w' ⟨rfl, d', n, os, hp, hs, rfl⟩
    obtain ⟨p1, p2, p3⟩ := hp
    have hH' : HoldsK encP 4 (sortWorldK encP 4 w g 0 n d' os) g 0 d' := (show SWK encP 4 w g 0 d' _ from ⟨n, os, rfl⟩).holds hgw hH p1
    have hlt : g < (sortWorldK encP 4 w g 0 n d' os).heap.size := Nat.lt_of_lt_of_le hgw (show SWK encP 4 w g 0 d' _ from ⟨n, os, rfl⟩).le
    have hmem : ∀ p, p ∈ pfsOf d' ↔ p ∈ pfsOf d := by
      have e1 : d'.extract 0 d.size = d' := by rw [← p1]; simp
      have e2 : d.extract 0 d.size = d := by simp
      rw [e1, e2] at p3
      exact fun p => (p3.map valP).mem_iff
    refine ⟨rfl, some ⟨g, 0, none⟩, c, pfsOf d', by rw [pfsOf_len, p1], by rw [pfsOf_len, p1]; exact h3, sl_of_holds hlt hH', by rw [pfsOf_len, p1], hmem, ?_, below_sort hg hgw⟩
    unfold Rises
    rw [List.pairwise_iff_getElem]
    intro i j hi hj hij
    have := hs i j (Nat.zero_le _) hij (by rw [pfsOf_len, p1] at hj; exact hj)
    unfold ltOf cfP at this
    rw [decide_eq_false_iff_not] at this
    rw [pfsOf_at, pfsOf_at]; exact this
end Go.Proofs.Ytlgdkdplkdkkdaa
