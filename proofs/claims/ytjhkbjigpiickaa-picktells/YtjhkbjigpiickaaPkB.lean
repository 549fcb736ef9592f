/- pick.Free, pick.First. -/
import Derived.Test.YtjhkbjigpiickaaPkA
import Derived.Test.YtjhkbjigpiickaaShf
set_option linter.unusedVariables false
set_option linter.unusedSimpArgs false
namespace Go.Proofs.Ytjhkbjigpiickaa
open Go.RowKit

theorem pkE_ok {p : Pf} {us : List Pf} (hp : p.Ok) (hok : ∀ u ∈ us, u.Ok) (h : pkE p us = 0) : p.R ∧ us.length ≤ 12 ∧ ∀ u ∈ us, u.R := by
  unfold pkE at h
  split at h
  · rename_i h'
    exact ⟨(right_iff _ _ _ _ hp.1 hp.2.1 hp.2.2.1 hp.2.2.2).1 h', slkL_ok hok h⟩
  · exact absurd h ‹_›

set_option maxHeartbeats 4000000 in
set_option maxRecDepth 100000 in
theorem pFree_bad (p : Pf) (a : Option Addr) (c : Nat) (us : List Pf) (w : World) (hp : p.Ok) (hok : ∀ u ∈ us, u.Ok) (hs : Sl w a us) (h : pkE p us ≠ 0) :
    Calls Try.prog 4 #[.agg #[.bool p.v, .int .u64 p.hi, .int .u64 p.lo, .int .i64 p.b], .slice a us.length c] w fun e w' => e = .returned (.tuple #[.slice none 0 0, .int .i64 (pkE p us)]) ∧ Below w.heap.size w w' := by
  have HB := Lib.hid (pal w p.v p.hi p.lo p.b)
  have HK := Lib.hid (fun w' (hb : Below w.heap.size w w') => plook_any p a c us w' hp hok (hs.below hb))
  have hI : (pkE p us != 0) = true := by rw [bne_iff_ne]; exact h
  generalize us.length = N at *
  generalize pkE p us = r at *
  clear hok hs h hp
  go_enter Try.func4, Try.ntmps4
  go_wp2_with fail
  refine (HK.out _ HB.out).mono ?_
  rintro e w2 ⟨rfl, hb⟩
  replace HB := Lib.hid (btr HB.out hb)
  clear hb HK
  go_wp2
  go_ret2
  exact ⟨rfl, HB.out⟩

/-- Free hands back a row of its own, with the norm of what is left. -/
def FreePost (w : World) (p : Pf) (us : List Pf) (e : Ending) (w' : World) : Prop := ∃ v M, e = .returned (.tuple #[v, .int .i64 0]) ∧ w'.ownsRow w.heap.size 26 4 v M.length (flat M) ∧ IsRoom p us M ∧ Below w.heap.size w w'
set_option maxHeartbeats 4000000 in
set_option maxRecDepth 100000 in
theorem pFree_ok (p : Pf) (a : Option Addr) (c : Nat) (us : List Pf) (w : World) (hp : p.Ok) (hok : ∀ u ∈ us, u.Ok) (hs : Sl w a us) (h : pkE p us = 0) :
    Calls Try.prog 4 #[.agg #[.bool p.v, .int .u64 p.hi, .int .u64 p.lo, .int .i64 p.b], .slice a us.length c] w (FreePost w p us) := by
  have HB := Lib.hid (pal w p.v p.hi p.lo p.b)
  have HP := Lib.hid (Has4.new w p.v p.hi p.lo p.b 26)
  have HK := Lib.hid (fun w' (hb : Below w.heap.size w w') => plook_any p a c us w' hp hok (hs.below hb))
  obtain ⟨rp, hl, hu⟩ := pkE_ok hp hok h
  have HR := Lib.hid (fun w' (hb : Below w.heap.size w w') => room_any p a c us w' rp hu hl (hs.below hb))
  rw [h] at HK
  generalize us.length = N at *
  clear hok hs h hp rp hl hu
  go_enter Try.func4, Try.ntmps4
  go_wp2_with fail
  refine (HK.out _ HB.out).mono ?_
  rintro e w2 ⟨rfl, hb⟩
  replace HB := Lib.hid (btr HB.out hb)
  replace HP := Lib.hid (HP.out.below hb)
  clear hb HK
  obtain ⟨a0, a1, a2, a3, a4⟩ := HP.out
  go_wp2_with fail
  refine (HR.out _ HB.out).mono ?_
  rintro e w3 ⟨v, M, rfl, ho, hn, hb⟩
  have HO := Lib.hid (row_base ho HB.out.size)
  have HN := Lib.hid hn
  replace HB := Lib.hid (btr HB.out hb)
  clear hb ho hn HR a0 a1 a2 a3 a4
  go_wp2
  go_ret2
  exact ⟨v, M, rfl, HO.out, HN.out, HB.out⟩

theorem first1_any (bb : Nat) (bits : Int) (q : Pf) (w : World) (hc : w.cell? ⟨bb, 0, none⟩ = some (.int .i64 bits)) (hb : bb < w.heap.size) :
    Calls Try.prog 17 #[.agg #[.bool q.v, .int .u64 q.hi, .int .u64 q.lo, .int .i64 q.b], .pointer (some ⟨bb, 0, none⟩)] w fun e w' => e = .returned (.bool (decide (q.b ≤ bits))) ∧ Below w.heap.size w w' := by
  have hne : ¬ w.heap.size = bb := by omega
  go_enter Try.func17, Try.ntmps17
  go_wp2
  go_ret
  exact ⟨rfl, bal (Below.refl _ _) _⟩
theorem enters_first1 : ∀ args w, (callFunc 17 args).run Try.prog w = .ok (.enter 17 args) w := enters_of Try.func17 (by kernel_rfl) rfl
theorem pindex_empty (a : Option Addr) (c : Nat) (fv : Value) (w : World) :
    Calls Try.prog 16 #[.slice a 0 c, fv] w fun e w' => e = .returned (.int .i64 (-1)) ∧ w' = w := by
  go_enter Try.func16, Try.ntmps16
  go_wp2_with fail
  refine wp_loop_rounds 1 ?_
  rw [rounds_succ]
  go_wp2
  go_ret
  exact ⟨rfl, rfl⟩
/-- Which one is the first that is wide enough; none: all are too small. -/
def WideAt (bits : Int) (M : List Pf) (i : Int) : Prop := (i = -1 ∧ wideP bits M = none) ∨ ∃ (k : Nat) (h : k < M.length), i = k ∧ wideP bits M = some ⟨(M[k]).v, (M[k]).hi, (M[k]).lo, bits⟩
theorem idx_wide (bits : Int) (d : Pf) : ∀ (M : List Pf) (i : Nat), (Lib.idxByFrom (fun _ y => decide (y.b ≤ bits)) d M i = -1 ∧ wideP bits M = none) ∨ ∃ (k : Nat) (h : k < M.length), Lib.idxByFrom (fun _ y => decide (y.b ≤ bits)) d M i = ((i + k : Nat) : Int) ∧ wideP bits M = some ⟨(M[k]).v, (M[k]).hi, (M[k]).lo, bits⟩
  | [], i => .inl ⟨rfl, rfl⟩
  | q :: M, i => by
    unfold wideP
    rw [List.find?_cons, Lib.idxByFrom]
    cases hd : decide (q.b ≤ bits) with
    | true => exact .inr ⟨0, by simp, by simp, rfl⟩
    | false =>
      rcases idx_wide bits d M (i + 1) with ⟨e1, e2⟩ | ⟨k, h, e1, e2⟩
      · exact .inl ⟨by simpa using e1, e2⟩
      · refine .inr ⟨k + 1, by simpa using h, ?_, ?_⟩
        · simp only [Bool.false_eq_true, if_false]
          rw [e1]; congr 1; omega
        · exact e2
def encQ (p : Pf) : List Value := [.bool p.v, .int .u64 p.hi, .int .u64 p.lo, .int .i64 p.b]
theorem pindex_any (bb : Nat) (a : Option Addr) (c : Nat) (M : List Pf) (bits : Int) (w : World) (hl : M.length ≤ 4096) (hs : Sl w a M) (hc : w.cell? ⟨bb, 0, none⟩ = some (.int .i64 bits)) (hb : bb < w.heap.size) :
    Calls Try.prog 16 #[.slice a M.length c, .func (.func 17) #[] #[.pointer (some ⟨bb, 0, none⟩)]] w fun e w' => ∃ i, e = .returned (.int .i64 i) ∧ WideAt bits M i ∧ Below w.heap.size w w' := by
  by_cases h0 : M.length = 0
  · have : M = [] := List.length_eq_zero_iff.1 h0
    subst this
    refine (pindex_empty a c _ w).mono ?_
    rintro e w' ⟨rfl, rfl⟩
    exact ⟨-1, rfl, .inl ⟨rfl, rfl⟩, Below.refl _ _⟩
  · obtain ⟨g, o, rfl, hg, _⟩ := hs 0 (by omega)
    have hp : PredBelow Try.prog 17 #[.pointer (some ⟨bb, 0, none⟩)] (fun x => .agg (encQ x).toArray) (fun q => decide (q.b ≤ bits)) w := fun W x hB =>
      (first1_any bb bits x W (by rw [(bcell hB).1 _ _ hb]; exact hc) (Nat.lt_of_lt_of_le hb hB.size)).mono fun e w' ⟨h1, h2⟩ => ⟨h1, btr hB h2⟩
    letI : Inhabited Pf := ⟨⟨false, 0, 0, 0⟩⟩
    refine (Try.slices_IndexFunc (α := Pf) 4 aggP sizeP encQ (fun _ => rfl) (fun q => decide (q.b ≤ bits)) 17 #[.pointer (some ⟨bb, 0, none⟩)] enters_first1 g o M.length c M w hp (Nat.le_refl _) (by omega) hg ?_).mono ?_
    · intro j hj i v hv
      obtain ⟨g', o', e, _, c0, c1, c2, c3⟩ := hs j hj
      obtain ⟨rfl, rfl⟩ : g = g' ∧ o = o' := by simpa using e
      rw [getElem!_pos M j hj] at hv
      match i, hv with
      | 0, hv => simp [encQ] at hv; subst hv; exact c0
      | 1, hv => simp [encQ] at hv; subst hv; exact c1
      | 2, hv => simp [encQ] at hv; subst hv; exact c2
      | 3, hv => simp [encQ] at hv; subst hv; exact c3
      | (i + 4), hv => simp [encQ] at hv
    · rintro e w' ⟨rfl, hB⟩
      refine ⟨_, rfl, ?_, hB⟩
      rw [List.take_of_length_le (Nat.le_refl _)]
      rcases idx_wide bits _ M 0 with ⟨e1, e2⟩ | ⟨k, h, e1, e2⟩
      · exact .inl ⟨e1, e2⟩
      · exact .inr ⟨k, h, by unfold Lib.idxBy; rw [e1]; simp, e2⟩

def Has1 (w : World) (p : Nat) (x : Value) : Prop := w.cell? ⟨p, 0, none⟩ = some x ∧ p < w.heap.size
theorem Has1.below {W w' : World} {p : Nat} {x : Value} (h : Has1 W p x) (hb : Below W.heap.size W w') : Has1 w' p x := ⟨by rw [(bcell hb).1 _ _ h.2]; exact h.1, Nat.lt_of_lt_of_le h.2 hb.size⟩
theorem Has1.alloc {W : World} {p : Nat} {x : Value} (h : Has1 W p x) (o : Obj) : Has1 (W.alloc o) p x := h.below (bal (Below.refl _ _) _)
theorem Has1.new (W : World) (x : Value) (t : Nat) : Has1 (W.alloc (.cells #[x] t)) W.heap.size x := ⟨by simp [go_sem], by simp⟩
theorem Has1.new' (W : World) (o : Obj) (x : Value) (t : Nat) : Has1 ((W.alloc o).alloc (.cells #[x] t)) (W.heap.size + 1) x := by
  have := Has1.new (W.alloc o) x t
  rw [World.size_alloc] at this
  exact this

set_option maxHeartbeats 8000000 in
set_option maxRecDepth 100000 in
theorem pFirst_bad (p : Pf) (a : Option Addr) (c : Nat) (us : List Pf) (bits : Int) (w : World) (hp : p.Ok) (hok : ∀ u ∈ us, u.Ok) (hs : Sl w a us) (h : pkE p us ≠ 0) :
    Calls Try.prog 5 #[.agg #[.bool p.v, .int .u64 p.hi, .int .u64 p.lo, .int .i64 p.b], .slice a us.length c, .int .i64 bits] w fun e w' => e = .returned (.tuple #[.agg #[.bool false, .int .u64 0, .int .u64 0, .int .i64 0], .int .i64 (pkE p us)]) ∧ Below w.heap.size w w' := by
  have HB : Hid (Below w.heap.size w (((w.alloc (.cells #[.bool p.v, .int .u64 p.hi, .int .u64 p.lo, .int .i64 p.b] 26)).alloc (.cells #[.int .i64 bits] 3)).alloc (.cells #[.bool false, .int .u64 0, .int .u64 0, .int .i64 0] 26))) := bal (bal (pal w p.v p.hi p.lo p.b) _) _
  have HK := Lib.hid (fun w' (hb : Below w.heap.size w w') => plook_any p a c us w' hp hok (hs.below hb))
  have HP : Hid (Has4 (((w.alloc (.cells #[.bool p.v, .int .u64 p.hi, .int .u64 p.lo, .int .i64 p.b] 26)).alloc (.cells #[.int .i64 bits] 3)).alloc (.cells #[.bool false, .int .u64 0, .int .u64 0, .int .i64 0] 26)) w.heap.size p.v p.hi p.lo p.b) := ((Has4.new w p.v p.hi p.lo p.b 26).alloc _).alloc _
  have HC1 : Hid (Has1 (((w.alloc (.cells #[.bool p.v, .int .u64 p.hi, .int .u64 p.lo, .int .i64 p.b] 26)).alloc (.cells #[.int .i64 bits] 3)).alloc (.cells #[.bool false, .int .u64 0, .int .u64 0, .int .i64 0] 26)) (w.heap.size + 1) (.int .i64 bits)) := (Has1.new' w _ (.int .i64 bits) 3).alloc _
  have HQ : Hid (Own4 (((w.alloc (.cells #[.bool p.v, .int .u64 p.hi, .int .u64 p.lo, .int .i64 p.b] 26)).alloc (.cells #[.int .i64 bits] 3)).alloc (.cells #[.bool false, .int .u64 0, .int .u64 0, .int .i64 0] 26)) (w.heap.size + 1 + 1) (.bool false) (.int .u64 0) (.int .u64 0) (.int .i64 0)) := by
    have := Own4.new ((w.alloc (.cells #[.bool p.v, .int .u64 p.hi, .int .u64 p.lo, .int .i64 p.b] 26)).alloc (.cells #[.int .i64 bits] 3)) (.bool false) (.int .u64 0) (.int .u64 0) (.int .i64 0) 26
    rw [World.size_alloc, World.size_alloc] at this
    exact this
  have hI : (pkE p us != 0) = true := by rw [bne_iff_ne]; exact h
  generalize us.length = N at *
  generalize pkE p us = r at *
  clear hok hs h hp
  go_enter Try.func5, Try.ntmps5
  go_wp2_with fail
  refine (HK.out _ HB.out).mono ?_
  rintro e w2 ⟨rfl, hb⟩
  replace HB := Lib.hid (btr HB.out hb)
  replace HP := Lib.hid (HP.out.below hb)
  replace HC1 := Lib.hid (HC1.out.below hb)
  replace HQ := Lib.hid (HQ.out.below hb)
  clear hb HK
  obtain ⟨⟨q0, q1, q2, q3⟩, ⟨q4, q5, q6, q7⟩, q8⟩ := HQ.out
  go_wp2
  refine bodyPost_ret (v := .tuple #[.agg #[.bool false, .int .u64 0, .int .u64 0, .int .i64 0], .int .i64 r]) ?_ rfl ⟨rfl, ?_⟩
  · simp [results, Try.results5, go_sem, q0, q1, q2, q3]
  · exact bse (bse (bse (bse (HB.out) (by first | (simp; done) | (simp; omega)) _) (by first | (simp; done) | (simp; omega)) _) (by first | (simp; done) | (simp; omega)) _) (by first | (simp; done) | (simp; omega)) _

set_option maxHeartbeats 8000000 in
set_option maxRecDepth 100000 in
theorem pFirst_range (p : Pf) (a : Option Addr) (c : Nat) (us : List Pf) (bits : Int) (w : World) (hp : p.Ok) (hok : ∀ u ∈ us, u.Ok) (hs : Sl w a us) (h : pkE p us = 0) (hr : bits < p.b ∨ wid p.v < bits) :
    Calls Try.prog 5 #[.agg #[.bool p.v, .int .u64 p.hi, .int .u64 p.lo, .int .i64 p.b], .slice a us.length c, .int .i64 bits] w fun e w' => e = .returned (.tuple #[.agg #[.bool false, .int .u64 0, .int .u64 0, .int .i64 0], .int .i64 3]) ∧ Below w.heap.size w w' := by
  have HB : Hid (Below w.heap.size w (((w.alloc (.cells #[.bool p.v, .int .u64 p.hi, .int .u64 p.lo, .int .i64 p.b] 26)).alloc (.cells #[.int .i64 bits] 3)).alloc (.cells #[.bool false, .int .u64 0, .int .u64 0, .int .i64 0] 26))) := bal (bal (pal w p.v p.hi p.lo p.b) _) _
  have HK := Lib.hid (fun w' (hb : Below w.heap.size w w') => plook_any p a c us w' hp hok (hs.below hb))
  have HP : Hid (Has4 (((w.alloc (.cells #[.bool p.v, .int .u64 p.hi, .int .u64 p.lo, .int .i64 p.b] 26)).alloc (.cells #[.int .i64 bits] 3)).alloc (.cells #[.bool false, .int .u64 0, .int .u64 0, .int .i64 0] 26)) w.heap.size p.v p.hi p.lo p.b) := ((Has4.new w p.v p.hi p.lo p.b 26).alloc _).alloc _
  have HC1 : Hid (Has1 (((w.alloc (.cells #[.bool p.v, .int .u64 p.hi, .int .u64 p.lo, .int .i64 p.b] 26)).alloc (.cells #[.int .i64 bits] 3)).alloc (.cells #[.bool false, .int .u64 0, .int .u64 0, .int .i64 0] 26)) (w.heap.size + 1) (.int .i64 bits)) := (Has1.new' w _ (.int .i64 bits) 3).alloc _
  have HQ : Hid (Own4 (((w.alloc (.cells #[.bool p.v, .int .u64 p.hi, .int .u64 p.lo, .int .i64 p.b] 26)).alloc (.cells #[.int .i64 bits] 3)).alloc (.cells #[.bool false, .int .u64 0, .int .u64 0, .int .i64 0] 26)) (w.heap.size + 1 + 1) (.bool false) (.int .u64 0) (.int .u64 0) (.int .i64 0)) := by
    have := Own4.new ((w.alloc (.cells #[.bool p.v, .int .u64 p.hi, .int .u64 p.lo, .int .i64 p.b] 26)).alloc (.cells #[.int .i64 bits] 3)) (.bool false) (.int .u64 0) (.int .u64 0) (.int .i64 0) 26
    rw [World.size_alloc, World.size_alloc] at this
    exact this
  rw [h] at HK
  by_cases hlt : bits < p.b
  · have d1 : decide (bits < p.b) = true := decide_eq_true hlt
    generalize us.length = N at *
    clear hok hs h hp hr
    go_enter Try.func5, Try.ntmps5
    go_wp2_with fail
    refine (HK.out _ HB.out).mono ?_
    rintro e w2 ⟨rfl, hb⟩
    replace HB := Lib.hid (btr HB.out hb)
    replace HP := Lib.hid (HP.out.below hb)
    replace HC1 := Lib.hid (HC1.out.below hb)
    replace HQ := Lib.hid (HQ.out.below hb)
    clear hb HK
    obtain ⟨a0, a1, a2, a3, a4⟩ := HP.out
    obtain ⟨b0, b1⟩ := HC1.out
    obtain ⟨⟨q0, q1, q2, q3⟩, ⟨q4, q5, q6, q7⟩, q8⟩ := HQ.out
    go_wp2
    refine bodyPost_ret (v := .tuple #[.agg #[.bool false, .int .u64 0, .int .u64 0, .int .i64 0], .int .i64 3]) ?_ rfl ⟨rfl, ?_⟩
    · simp [results, Try.results5, go_sem, q0, q1, q2, q3]
    · exact bse (bse (bse (bse (HB.out) (by first | (simp; done) | (simp; omega)) _) (by first | (simp; done) | (simp; omega)) _) (by first | (simp; done) | (simp; omega)) _) (by first | (simp; done) | (simp; omega)) _
  · have d1 : decide (bits < p.b) = false := decide_eq_false hlt
    have hne : ((pchk p.v p.hi p.lo bits) != 0) = true := by
      rw [bne_iff_ne]
      intro e
      have := ((right_iff _ _ _ _ hp.1 hp.2.1 hp.2.2.1 hp.2.2.2).1 e).b1
      omega
    have HCk : Hid (∀ w : World, Calls Try.prog 15 #[.agg #[.bool p.v, .int .u64 p.hi, .int .u64 p.lo, .int .i64 bits]] w fun e w' => e = .returned (.int .i64 (pchk p.v p.hi p.lo bits)) ∧ Below w.heap.size w w') := fun w => pcheck_any p.v p.hi p.lo bits w hp.1 hp.2.1 hp.2.2.1 hp.2.2.2
    generalize pchk p.v p.hi p.lo bits = k at *
    generalize us.length = N at *
    clear hok hs h hp hr
    go_enter Try.func5, Try.ntmps5
    go_wp2_with fail
    refine (HK.out _ HB.out).mono ?_
    rintro e w2 ⟨rfl, hb⟩
    replace HB := Lib.hid (btr HB.out hb)
    replace HP := Lib.hid (HP.out.below hb)
    replace HC1 := Lib.hid (HC1.out.below hb)
    replace HQ := Lib.hid (HQ.out.below hb)
    clear hb HK
    obtain ⟨a0, a1, a2, a3, a4⟩ := HP.out
    obtain ⟨b0, b1⟩ := HC1.out
    go_wp2_with fail
    refine (HCk.out _).mono ?_
    rintro e w3 ⟨rfl, hb⟩
    replace HB := Lib.hid (btr HB.out hb)
    replace HP := Lib.hid (HP.out.below hb)
    replace HC1 := Lib.hid (HC1.out.below hb)
    replace HQ := Lib.hid (HQ.out.below hb)
    clear hb HCk a0 a1 a2 a3 a4 b0 b1
    obtain ⟨⟨q0, q1, q2, q3⟩, ⟨q4, q5, q6, q7⟩, q8⟩ := HQ.out
    go_wp2
    refine bodyPost_ret (v := .tuple #[.agg #[.bool false, .int .u64 0, .int .u64 0, .int .i64 0], .int .i64 3]) ?_ rfl ⟨rfl, ?_⟩
    · simp [results, Try.results5, go_sem, q0, q1, q2, q3]
    · exact bse (bse (bse (bse (HB.out) (by first | (simp; done) | (simp; omega)) _) (by first | (simp; done) | (simp; omega)) _) (by first | (simp; done) | (simp; omega)) _) (by first | (simp; done) | (simp; omega)) _

/-- First hands back the first one of a norm that is wide enough, cut to size; or there is none. -/
def FirstPost (w : World) (p : Pf) (us : List Pf) (bits : Int) (e : Ending) (w' : World) : Prop := ∃ M, IsRoom p us M ∧ Below w.heap.size w w' ∧
  ((wideP bits M = none ∧ e = .returned (.tuple #[.agg #[.bool false, .int .u64 0, .int .u64 0, .int .i64 0], .int .i64 8])) ∨ ∃ x : Pf, wideP bits M = some x ∧ e = .returned (.tuple #[.agg #[.bool x.v, .int .u64 x.hi, .int .u64 x.lo, .int .i64 x.b], .int .i64 0]))
set_option maxHeartbeats 8000000 in
set_option maxRecDepth 100000 in
theorem pFirst_ok (p : Pf) (a : Option Addr) (c : Nat) (us : List Pf) (bits : Int) (w : World) (hp : p.Ok) (hok : ∀ u ∈ us, u.Ok) (hs : Sl w a us) (h : pkE p us = 0) (hr : p.b ≤ bits) (hr' : bits ≤ wid p.v) :
    Calls Try.prog 5 #[.agg #[.bool p.v, .int .u64 p.hi, .int .u64 p.lo, .int .i64 p.b], .slice a us.length c, .int .i64 bits] w (FirstPost w p us bits) := by
  have HB : Hid (Below w.heap.size w (((w.alloc (.cells #[.bool p.v, .int .u64 p.hi, .int .u64 p.lo, .int .i64 p.b] 26)).alloc (.cells #[.int .i64 bits] 3)).alloc (.cells #[.bool false, .int .u64 0, .int .u64 0, .int .i64 0] 26))) := bal (bal (pal w p.v p.hi p.lo p.b) _) _
  have HK := Lib.hid (fun w' (hb : Below w.heap.size w w') => plook_any p a c us w' hp hok (hs.below hb))
  have HP : Hid (Has4 (((w.alloc (.cells #[.bool p.v, .int .u64 p.hi, .int .u64 p.lo, .int .i64 p.b] 26)).alloc (.cells #[.int .i64 bits] 3)).alloc (.cells #[.bool false, .int .u64 0, .int .u64 0, .int .i64 0] 26)) w.heap.size p.v p.hi p.lo p.b) := ((Has4.new w p.v p.hi p.lo p.b 26).alloc _).alloc _
  have HC1 : Hid (Has1 (((w.alloc (.cells #[.bool p.v, .int .u64 p.hi, .int .u64 p.lo, .int .i64 p.b] 26)).alloc (.cells #[.int .i64 bits] 3)).alloc (.cells #[.bool false, .int .u64 0, .int .u64 0, .int .i64 0] 26)) (w.heap.size + 1) (.int .i64 bits)) := (Has1.new' w _ (.int .i64 bits) 3).alloc _
  have HQ : Hid (Own4 (((w.alloc (.cells #[.bool p.v, .int .u64 p.hi, .int .u64 p.lo, .int .i64 p.b] 26)).alloc (.cells #[.int .i64 bits] 3)).alloc (.cells #[.bool false, .int .u64 0, .int .u64 0, .int .i64 0] 26)) (w.heap.size + 1 + 1) (.bool false) (.int .u64 0) (.int .u64 0) (.int .i64 0)) := by
    have := Own4.new ((w.alloc (.cells #[.bool p.v, .int .u64 p.hi, .int .u64 p.lo, .int .i64 p.b] 26)).alloc (.cells #[.int .i64 bits] 3)) (.bool false) (.int .u64 0) (.int .u64 0) (.int .i64 0) 26
    rw [World.size_alloc, World.size_alloc] at this
    exact this
  rw [h] at HK
  obtain ⟨rp, hl, hu⟩ := pkE_ok hp hok h
  have HR := Lib.hid (fun w' (hb : Below w.heap.size w w') => room_any p a c us w' rp hu hl (hs.below hb))
  have HLn := Lib.hid (fun M (hM : IsRoom p us M) => room_len rp hu hl hM)
  have hne : pchk p.v p.hi p.lo bits = 0 := (right_iff _ _ _ _ hp.1 hp.2.1 hp.2.2.1 hp.2.2.2).2 (first_R rp hr hr')
  have d1 : decide (bits < p.b) = false := decide_eq_false (by omega)
  have HCk : Hid (∀ w : World, Calls Try.prog 15 #[.agg #[.bool p.v, .int .u64 p.hi, .int .u64 p.lo, .int .i64 bits]] w fun e w' => e = .returned (.int .i64 0) ∧ Below w.heap.size w w') := fun w => by
    have := pcheck_any p.v p.hi p.lo bits w hp.1 hp.2.1 hp.2.2.1 hp.2.2.2
    rw [hne] at this
    exact this
  generalize us.length = N at *
  clear hok hs h hp hr hr' hne hl hu rp
  go_enter Try.func5, Try.ntmps5
  go_wp2_with fail
  refine (HK.out _ HB.out).mono ?_
  rintro e w2 ⟨rfl, hb⟩
  replace HB := Lib.hid (btr HB.out hb)
  replace HP := Lib.hid (HP.out.below hb)
  replace HC1 := Lib.hid (HC1.out.below hb)
  replace HQ := Lib.hid (HQ.out.below hb)
  clear hb HK
  obtain ⟨a0, a1, a2, a3, a4⟩ := HP.out
  obtain ⟨b0, b1⟩ := HC1.out
  go_wp2_with fail
  refine (HCk.out _).mono ?_
  rintro e w3 ⟨rfl, hb⟩
  replace HB := Lib.hid (btr HB.out hb)
  replace HP := Lib.hid (HP.out.below hb)
  replace HC1 := Lib.hid (HC1.out.below hb)
  replace HQ := Lib.hid (HQ.out.below hb)
  clear hb HCk a0 a1 a2 a3 a4 b0 b1
  obtain ⟨a0, a1, a2, a3, a4⟩ := HP.out
  obtain ⟨b0, b1⟩ := HC1.out
  go_wp2_with fail
  refine (HR.out _ HB.out).mono ?_
  rintro e w4 ⟨v, M, rfl, ho, hn, hb⟩
  have HN := Lib.hid hn
  have HLM := Lib.hid (HLn.out M hn)
  obtain ⟨am, cm, rfl, hcm, sm⟩ := own_sl ho
  replace HB := Lib.hid (btr HB.out hb)
  replace HP := Lib.hid (HP.out.below hb)
  replace HC1 := Lib.hid (HC1.out.below hb)
  replace HQ := Lib.hid (HQ.out.below hb)
  have HS := Lib.hid sm
  clear hb ho hn HR a0 a1 a2 a3 a4 b0 b1 sm HLn
  have HIx := Lib.hid (fun w' (hb : Below w4.heap.size w4 w') => pindex_any (w.heap.size + 1) am cm M bits w' (by have := HLM.out; omega) (HS.out.below hb) (HC1.out.below hb).1 (HC1.out.below hb).2)
  obtain ⟨Ln, hLn⟩ : ∃ Ln, Ln = M.length := ⟨_, rfl⟩
  rw [← hLn] at HIx hcm ⊢
  have HLnn := Lib.hid hLn
  clear hLn
  go_wp2_with fail
  refine (HIx.out _ (Below.refl _ _)).mono ?_
  rintro e w5 ⟨i, rfl, hi, hb⟩
  replace HS := Lib.hid (HS.out.below hb)
  replace HB := Lib.hid (btr HB.out hb)
  replace HP := Lib.hid (HP.out.below hb)
  replace HC1 := Lib.hid (HC1.out.below hb)
  replace HQ := Lib.hid (HQ.out.below hb)
  clear hb HIx
  rcases hi with ⟨rfl, hi⟩ | ⟨k, hk, rfl, hi⟩
  · have HI := Lib.hid hi
    clear hi
    obtain ⟨⟨q0, q1, q2, q3⟩, ⟨q4, q5, q6, q7⟩, q8⟩ := HQ.out
    go_wp2
    refine bodyPost_ret (v := .tuple #[.agg #[.bool false, .int .u64 0, .int .u64 0, .int .i64 0], .int .i64 8]) ?_ rfl ⟨M, HN.out, ?_, .inl ⟨HI.out, rfl⟩⟩
    · simp [results, Try.results5, go_sem, q0, q1, q2, q3]
    · exact bse (bse (bse (bse (HB.out) (by first | (simp; done) | (simp; omega)) _) (by first | (simp; done) | (simp; omega)) _) (by first | (simp; done) | (simp; omega)) _) (by first | (simp; done) | (simp; omega)) _
  · have HI := Lib.hid hi
    obtain ⟨g, o, rfl, hg, c0, c1, c2, c3⟩ := HS.out k hk
    have k3 : (k : Int) < (Ln : Int) := by have := HLnn.out; omega
    have k4 : (0 : Int) ≤ (k : Int) := by omega
    have k5 : decide ((k : Int) < 0) = false := decide_eq_false (by omega)
    clear hi
    generalize M[k] = x at *
    obtain ⟨b0, b1⟩ := HC1.out
    obtain ⟨⟨q0, q1, q2, q3⟩, ⟨q4, q5, q6, q7⟩, q8⟩ := HQ.out
    go_wp2_with fail
    go_region
    go_wp2
    refine bodyPost_ret (v := .tuple #[.agg #[.bool x.v, .int .u64 x.hi, .int .u64 x.lo, .int .i64 bits], .int .i64 0]) ?_ rfl ⟨M, HN.out, ?_, .inr ⟨_, HI.out, rfl⟩⟩
    · simp [results, Try.results5, go_sem, q0, q1, q2, q3]
    · exact bse (bse (bse (bse (HB.out.drew) (by first | (simp; done) | (simp; omega)) _) (by first | (simp; done) | (simp; omega)) _) (by first | (simp; done) | (simp; omega)) _) (by first | (simp; done) | (simp; omega)) _
end Go.Proofs.Ytjhkbjigpiickaa
