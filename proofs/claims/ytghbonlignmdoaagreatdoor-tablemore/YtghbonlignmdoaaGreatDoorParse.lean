/- addr.read, whose readers' panic ends in a deferred function; addr.Parse. -/
import Derived.Test.YtghbonlignmdoaaGreatDoorRd16
set_option linter.unusedVariables false
set_option linter.unusedSimpArgs false
namespace Go.Proofs.YtghbonlignmdoaaGreatDoor
open Go.RowKit

/-- Three cells of one variable and the one of another are laid anew. -/
theorem set4 {w : World} (W : World) {pa pe : Nat} {x y z t x' y' z' t' : Value} (hne : pa ≠ pe) (ha : W.cell? ⟨pa, 0, none⟩ = some x) (hb : W.cell? ⟨pa, 1, none⟩ = some y) (hc : W.cell? ⟨pa, 2, none⟩ = some z) (he : W.cell? ⟨pe, 0, none⟩ = some t) (hB : Below (min pa pe) w W) :
    ((((W.setCell ⟨pa, 0, none⟩ x').setCell ⟨pa, 1, none⟩ y').setCell ⟨pa, 2, none⟩ z').setCell ⟨pe, 0, none⟩ t').cell? ⟨pa, 0, none⟩ = some x' ∧
    ((((W.setCell ⟨pa, 0, none⟩ x').setCell ⟨pa, 1, none⟩ y').setCell ⟨pa, 2, none⟩ z').setCell ⟨pe, 0, none⟩ t').cell? ⟨pa, 1, none⟩ = some y' ∧
    ((((W.setCell ⟨pa, 0, none⟩ x').setCell ⟨pa, 1, none⟩ y').setCell ⟨pa, 2, none⟩ z').setCell ⟨pe, 0, none⟩ t').cell? ⟨pa, 2, none⟩ = some z' ∧
    ((((W.setCell ⟨pa, 0, none⟩ x').setCell ⟨pa, 1, none⟩ y').setCell ⟨pa, 2, none⟩ z').setCell ⟨pe, 0, none⟩ t').cell? ⟨pe, 0, none⟩ = some t' ∧
    Below (min pa pe) w ((((W.setCell ⟨pa, 0, none⟩ x').setCell ⟨pa, 1, none⟩ y').setCell ⟨pa, 2, none⟩ z').setCell ⟨pe, 0, none⟩ t') := by
  have hne' : pe ≠ pa := Ne.symm hne
  refine ⟨?_, ?_, ?_, ?_, ?_⟩
  · simp [go_sem, ha, hb, hc, he, hne, hne']
  · simp [go_sem, ha, hb, hc, he, hne, hne']
  · simp [go_sem, ha, hb, hc, he, hne, hne']
  · simp [go_sem, ha, hb, hc, he, hne, hne']
  · exact (((hB.setCell (by simp; omega) _).setCell (by simp; omega) _).setCell (by simp; omega) _).setCell (by simp; omega) _

set_option maxRecDepth 100000 in
theorem catch_panicking (pa pe : Nat) (x y z t : Value) (older : List PanicEntry) (w : World) (ha : w.cell? ⟨pa, 0, none⟩ = some x) (hb : w.cell? ⟨pa, 1, none⟩ = some y) (hc : w.cell? ⟨pa, 2, none⟩ = some z) (he : w.cell? ⟨pe, 0, none⟩ = some t)
    (fa : w.frozen? ⟨pa, 0, none⟩ = false) (fb : w.frozen? ⟨pa, 1, none⟩ = false) (fc : w.frozen? ⟨pa, 2, none⟩ = false) (fe : w.frozen? ⟨pe, 0, none⟩ = false) (hne : pa ≠ pe) (ga : pa < w.heap.size) (ge : pe < w.heap.size) :
    CallsD Tryz.prog 72 #[.pointer (some ⟨pa, 0, none⟩), .pointer (some ⟨pe, 0, none⟩)] (.panicking ({ v := .iface 117 (.agg #[.int .i64 1]), recovered := false } :: older)) w fun e u' w' =>
      e = .returned (.tuple #[]) ∧ u' = .panicking ({ v := .iface 117 (.agg #[.int .i64 1]), recovered := true } :: older) ∧
      w'.cell? ⟨pa, 0, none⟩ = some (.bool false) ∧ w'.cell? ⟨pa, 1, none⟩ = some (.int .u64 0) ∧ w'.cell? ⟨pa, 2, none⟩ = some (.int .u64 0) ∧ w'.cell? ⟨pe, 0, none⟩ = some (.int .i64 1) ∧ Below (min pa pe) w w' := by
  have hta : ∀ w, (Instr.typeAssert (.iface 117 (.agg #[.int .i64 1])) 20 117 true).run Tryz.prog w = .ok (.tuple #[.agg #[.int .i64 1], .bool true]) w := by intro w; kernel_rfl
  refine callsD_of_wpS Tryz.func72 rfl fun c₀ cs hu => ?_
  simp only [Tryz.ntmps72, List.size_toArray, List.length_cons, List.length_nil, Nat.reduceAdd, Nat.reduceSub, Array.replicate_succ, Array.replicate_zero, List.push_toArray, List.append_toArray, List.nil_append, List.cons_append]
  apply wpS_seq
  apply wpS_region
  simp [wpOpsS, go_sem, recoverD, hu, hta, Exit.thenS]
  have ha' : (w.alloc (.cells #[.int .i64 1] 117)).cell? ⟨pa, 0, none⟩ = some x := by rw [World.cell?_alloc_past _ _ _ ga]; exact ha
  have hb' : (w.alloc (.cells #[.int .i64 1] 117)).cell? ⟨pa, 1, none⟩ = some y := by rw [World.cell?_alloc_past _ _ _ ga]; exact hb
  have hc' : (w.alloc (.cells #[.int .i64 1] 117)).cell? ⟨pa, 2, none⟩ = some z := by rw [World.cell?_alloc_past _ _ _ ga]; exact hc
  have he' : (w.alloc (.cells #[.int .i64 1] 117)).cell? ⟨pe, 0, none⟩ = some t := by rw [World.cell?_alloc_past _ _ _ ge]; exact he
  have fa' : (w.alloc (.cells #[.int .i64 1] 117)).frozen? ⟨pa, 0, none⟩ = false := by rw [World.frozen?_alloc_past _ _ _ ga]; exact fa
  have fb' : (w.alloc (.cells #[.int .i64 1] 117)).frozen? ⟨pa, 1, none⟩ = false := by rw [World.frozen?_alloc_past _ _ _ ga]; exact fb
  have fc' : (w.alloc (.cells #[.int .i64 1] 117)).frozen? ⟨pa, 2, none⟩ = false := by rw [World.frozen?_alloc_past _ _ _ ga]; exact fc
  have fe' : (w.alloc (.cells #[.int .i64 1] 117)).frozen? ⟨pe, 0, none⟩ = false := by rw [World.frozen?_alloc_past _ _ _ ge]; exact fe
  have hm : (w.alloc (.cells #[.int .i64 1] 117)).cell? ⟨w.heap.size, 0, none⟩ = some (.int .i64 1) := by simp [go_sem]
  have hB : Below (min pa pe) w (w.alloc (.cells #[.int .i64 1] 117)) := (Below.refl _ _).alloc (by omega) _
  have hx : w.heap.size ≠ pa := by omega
  have hy : w.heap.size ≠ pe := by omega
  generalize w.alloc (.cells #[.int .i64 1] 117) = W at ha' hb' hc' he' fa' fb' fc' fe' hm hB ⊢
  generalize w.heap.size = m at hm hx hy ⊢
  clear ha hb hc he fa fb fc fe ga ge hta
  refine wpS_of_wp ?_
  go_wp2
  go_region
  refine ⟨rfl, _, rfl, .tuple #[], by simp [results, Tryz.results72], rfl, rfl, ?_⟩
  obtain ⟨d0, d1, d2, d3, d4⟩ := set4 (x' := .bool false) (y' := .int .u64 0) (z' := .int .u64 0) (t' := .int .i64 1) W hne ha' hb' hc' he' hB
  generalize (((W.setCell ⟨pa, 0, none⟩ (.bool false)).setCell ⟨pa, 1, none⟩ (.int .u64 0)).setCell ⟨pa, 2, none⟩ (.int .u64 0)).setCell ⟨pe, 0, none⟩ (.int .i64 1) = W2 at d0 d1 d2 d3 d4 ⊢
  exact ⟨d0, d1, d2, d3, d4.drew⟩

set_option maxRecDepth 100000 in
theorem catch_idle (pa pe : Nat) (w : World) :
    CallsD Tryz.prog 72 #[.pointer (some ⟨pa, 0, none⟩), .pointer (some ⟨pe, 0, none⟩)] .returning w fun e u' w' =>
      e = .returned (.tuple #[]) ∧ u' = .returning ∧ w' = w.alloc (.cells #[.int .i64 0] 117) := by
  have hta : ∀ w, (Instr.typeAssert .nilIface 20 117 true).run Tryz.prog w = .ok (.tuple #[.agg #[.int .i64 0], .bool false]) w := by intro w; kernel_rfl
  refine callsD_of_wpS Tryz.func72 rfl fun c₀ cs hu => ?_
  simp only [Tryz.ntmps72, List.size_toArray, List.length_cons, List.length_nil, Nat.reduceAdd, Nat.reduceSub, Array.replicate_succ, Array.replicate_zero, List.push_toArray, List.append_toArray, List.nil_append, List.cons_append]
  apply wpS_seq
  apply wpS_region
  simp [wpOpsS, go_sem, recoverD, hu, hta, Exit.thenS]
  refine wpS_of_wp ?_
  go_wp2
  refine ⟨rfl, .returning, ?_, .tuple #[], by simp [results, Tryz.results72], rfl, rfl, rfl⟩
  cases c₀
  simp at hu
  simp [hu]

theorem contains_colon (s : ByteArray) (w : World) :
    Calls Tryz.prog 74 #[.string s, .string ⟨#[58]⟩] w fun e w' => e = .returned (.bool (decide ((58 : UInt8) ∈ s.data.toList))) ∧ w' = w := by
  have := Tryz.strings_Contains_one s 58 w
  rw [show decide (0 ≤ Lib.indexByte s.data.toList 58) = decide ((58 : UInt8) ∈ s.data.toList) from decide_eq_decide.2 (indexByte_mem 58 _).2] at this
  exact this

/-- What Parse reads of a text: the kind and the two halves. -/
def rparse (l : List UInt8) : Option (Bool × Nat × Nat) :=
  if 45 < l.length then none else if (58 : UInt8) ∈ l then (rsix l).map fun p => (true, p.1, p.2) else (rfour l).map fun n => (false, 0, n)

def prV (o : Option (Bool × Nat × Nat)) : Value := match o with | some (v, h, l) => .agg #[.bool v, .int .u64 (h : Int), .int .u64 (l : Int)] | none => .agg #[.bool false, .int .u64 0, .int .u64 0]
def prE (o : Option (Bool × Nat × Nat)) : Int := match o with | some _ => 0 | none => 1

/-- The world in which a reader begins: the two results lie in variables of their own. -/
def rw0 (w : World) : World := (w.alloc (.cells #[.bool false, .int .u64 0, .int .u64 0] 25)).alloc (.cells #[.int .i64 0] 27)

theorem rw0_size (w : World) : (rw0 w).heap.size = w.heap.size + 2 := by simp [rw0]
theorem rw0_below (w : World) : Below w.heap.size w (rw0 w) := bal (bal (Below.refl _ _) _) _
theorem rw0_cells {w w2 : World} (hb : Below (rw0 w).heap.size (rw0 w) w2) :
    (w2.cell? ⟨w.heap.size, 0, none⟩ = some (.bool false) ∧ w2.cell? ⟨w.heap.size, 1, none⟩ = some (.int .u64 0) ∧ w2.cell? ⟨w.heap.size, 2, none⟩ = some (.int .u64 0) ∧ w2.cell? ⟨w.heap.size + 1, 0, none⟩ = some (.int .i64 0)) ∧
    (w2.frozen? ⟨w.heap.size, 0, none⟩ = false ∧ w2.frozen? ⟨w.heap.size, 1, none⟩ = false ∧ w2.frozen? ⟨w.heap.size, 2, none⟩ = false ∧ w2.frozen? ⟨w.heap.size + 1, 0, none⟩ = false) := by
  obtain ⟨h1, h2⟩ := bcell hb
  have hs := rw0_size w
  refine ⟨⟨?_, ?_, ?_, ?_⟩, ?_, ?_, ?_, ?_⟩
  · rw [h1 _ _ (by omega)]; simp [rw0, go_sem]
  · rw [h1 _ _ (by omega)]; simp [rw0, go_sem]
  · rw [h1 _ _ (by omega)]; simp [rw0, go_sem]
  · rw [h1 _ _ (by omega)]; simp [rw0, go_sem]
  · rw [h2 _ _ (by omega)]; simp [rw0, go_sem]
  · rw [h2 _ _ (by omega)]; simp [rw0, go_sem]
  · rw [h2 _ _ (by omega)]; simp [rw0, go_sem]
  · rw [h2 _ _ (by omega)]; simp [rw0, go_sem]

/-- The results of 'read', as they lie in their variables. -/
theorem read_results {w' : World} {m : Nat} {tmps : Array Value} {x y z t : Value} (h2 : tmps.getD 2 undef = .pointer (some ⟨m, 0, none⟩)) (h3 : tmps.getD 3 undef = .pointer (some ⟨m + 1, 0, none⟩))
    (c0 : w'.cell? ⟨m, 0, none⟩ = some x) (c1 : w'.cell? ⟨m, 1, none⟩ = some y) (c2 : w'.cell? ⟨m, 2, none⟩ = some z) (c3 : w'.cell? ⟨m + 1, 0, none⟩ = some t) :
    (results Tryz.f61 tmps).run Tryz.prog w' = .ok (.tuple #[.agg #[x, y, z], t]) w' := by
  have h2' : tmps[2]?.getD undef = .pointer (some ⟨m, 0, none⟩) := by simpa using h2
  have h3' : tmps[3]?.getD undef = .pointer (some ⟨m + 1, 0, none⟩) := by simpa using h3
  simp [results, Tryz.results61, go_sem, h2', h3', c0, c1, c2, c3]

/-- A panic comes to the door: it ends there, and the error is told. -/
theorem door_panic (w w2 : World) (tmps : Array Value) (h2 : tmps.getD 2 undef = .pointer (some ⟨w.heap.size, 0, none⟩)) (h3 : tmps.getD 3 undef = .pointer (some ⟨w.heap.size + 1, 0, none⟩)) (hb : Below (rw0 w).heap.size (rw0 w) w2) :
    bodyPostD Tryz.prog Tryz.f61 (fun e w' => e = .returned (.tuple #[.agg #[.bool false, .int .u64 0, .int .u64 0], .int .i64 1]) ∧ Below w.heap.size w w') (Exit.panic gaveUp)
      { tmps := tmps, defers := [{ target := .fn (.func 72) #[.pointer (some ⟨w.heap.size, 0, none⟩), .pointer (some ⟨w.heap.size + 1, 0, none⟩)], args := #[] }] } w2 := by
  obtain ⟨⟨c0, c1, c2, c3⟩, f0, f1, f2, f3⟩ := rw0_cells hb
  have hs := rw0_size w
  have hz := hb.size
  refine leaves_cons (f := 72) (args := #[.pointer (some ⟨w.heap.size, 0, none⟩), .pointer (some ⟨w.heap.size + 1, 0, none⟩)]) (by simp) (by simp [go_sem]) ?_
  refine (catch_panicking w.heap.size (w.heap.size + 1) _ _ _ _ [] w2 c0 c1 c2 c3 f0 f1 f2 f3 (by omega) (by omega) (by omega)).mono ?_
  rintro e u' w'' ⟨rfl, rfl, d0, d1, d2, d3, hB⟩
  have hm : min w.heap.size (w.heap.size + 1) = w.heap.size := by omega
  rw [hm] at hB
  refine ⟨_, read_results h2 h3 d0 d1 d2 d3, rfl, ?_⟩
  exact (rw0_below w).trans ((hb.mono (by omega)).trans hB)

/-- A return comes to the door. -/
theorem door_return (w w2 : World) (tmps : Array Value) (x y z t : Value) (h2 : tmps.getD 2 undef = .pointer (some ⟨w.heap.size, 0, none⟩)) (h3 : tmps.getD 3 undef = .pointer (some ⟨w.heap.size + 1, 0, none⟩))
    (c0 : w2.cell? ⟨w.heap.size, 0, none⟩ = some x) (c1 : w2.cell? ⟨w.heap.size, 1, none⟩ = some y) (c2 : w2.cell? ⟨w.heap.size, 2, none⟩ = some z) (c3 : w2.cell? ⟨w.heap.size + 1, 0, none⟩ = some t) (hlt : w.heap.size + 1 < w2.heap.size) (hb : Below w.heap.size w w2) :
    bodyPostD Tryz.prog Tryz.f61 (fun e w' => e = .returned (.tuple #[.agg #[x, y, z], t]) ∧ Below w.heap.size w w') Exit.ret
      { tmps := tmps, defers := [{ target := .fn (.func 72) #[.pointer (some ⟨w.heap.size, 0, none⟩), .pointer (some ⟨w.heap.size + 1, 0, none⟩)], args := #[] }] } w2 := by
  refine leaves_cons (f := 72) (args := #[.pointer (some ⟨w.heap.size, 0, none⟩), .pointer (some ⟨w.heap.size + 1, 0, none⟩)]) (by simp) (by simp [go_sem]) ?_
  refine (catch_idle w.heap.size (w.heap.size + 1) w2).mono ?_
  rintro e u' w'' ⟨rfl, rfl, rfl⟩
  refine ⟨_, read_results h2 h3 ?_ ?_ ?_ ?_, rfl, bal hb _⟩
  · rw [World.cell?_alloc_past _ _ _ (by omega)]; exact c0
  · rw [World.cell?_alloc_past _ _ _ (by omega)]; exact c1
  · rw [World.cell?_alloc_past _ _ _ (by omega)]; exact c2
  · rw [World.cell?_alloc_past _ _ _ (by omega)]; exact c3

/-- A return comes to the door, the results just stored. -/
theorem door_store (w w2 : World) (tmps : Array Value) {x y z t x' y' z' t' : Value} (h2 : tmps.getD 2 undef = .pointer (some ⟨w.heap.size, 0, none⟩)) (h3 : tmps.getD 3 undef = .pointer (some ⟨w.heap.size + 1, 0, none⟩))
    (c0 : w2.cell? ⟨w.heap.size, 0, none⟩ = some x') (c1 : w2.cell? ⟨w.heap.size, 1, none⟩ = some y') (c2 : w2.cell? ⟨w.heap.size, 2, none⟩ = some z') (c3 : w2.cell? ⟨w.heap.size + 1, 0, none⟩ = some t') (hlt : w.heap.size + 1 < w2.heap.size) (hb : Below w.heap.size w w2) :
    bodyPostD Tryz.prog Tryz.f61 (fun e w' => e = .returned (.tuple #[.agg #[x, y, z], t]) ∧ Below w.heap.size w w') Exit.ret
      { tmps := tmps, defers := [{ target := .fn (.func 72) #[.pointer (some ⟨w.heap.size, 0, none⟩), .pointer (some ⟨w.heap.size + 1, 0, none⟩)], args := #[] }] }
      ((((w2.setCell ⟨w.heap.size, 0, none⟩ x).setCell ⟨w.heap.size, 1, none⟩ y).setCell ⟨w.heap.size, 2, none⟩ z).setCell ⟨w.heap.size + 1, 0, none⟩ t) := by
  have hm : min w.heap.size (w.heap.size + 1) = w.heap.size := by omega
  have hb' : Below (min w.heap.size (w.heap.size + 1)) w w2 := by rw [hm]; exact hb
  obtain ⟨d0, d1, d2, d3, hB⟩ := set4 (x' := x) (y' := y) (z' := z) (t' := t) w2 (show w.heap.size ≠ w.heap.size + 1 by omega) c0 c1 c2 c3 hb'
  rw [hm] at hB
  refine door_return w _ tmps x y z t h2 h3 d0 d1 d2 d3 ?_ hB
  simp [World.setCell]; omega

set_option maxHeartbeats 4000000 in
set_option maxRecDepth 100000 in
theorem read_any' (s : ByteArray) (w : World) (hg : Good w) :
    Calls Tryz.prog 61 #[.string s] w fun e w' => e = .returned (.tuple #[prV (rparse s.data.toList), .int .i64 (prE (rparse s.data.toList))]) ∧ Below w.heap.size w w' := by
  have hmf : ∀ (fn : Fn) (first cap : Array Value) (w : World), (Instr.makeFunc fn first cap).run Tryz.prog w = .ok (.func fn first cap) w := fun _ _ _ _ => rfl
  have hgu : Hid (∀ w : World, Calls Tryz.prog 73 #[] w fun e w' => e = .panicked gaveUp ∧ w' = w) := fun w => giveUp_any w
  have hsl := size_list s
  have hg0 : Good (rw0 w) := hg.below (rw0_below w)
  by_cases h45 : 45 < s.size
  · have hF : rparse s.data.toList = none := by rw [rparse, if_pos (by omega)]
    rw [hF]
    clear hF
    go_enter_defers Tryz.func61, Tryz.ntmps61
    go_wp2_with fail
    refine (hgu.out _).mono ?_
    rintro e w2 ⟨rfl, rfl⟩
    go_wp2
    exact door_panic w _ _ rfl rfl (Below.refl _ _)
  · have hCo : Hid (Calls Tryz.prog 74 #[.string s, .string ⟨#[58]⟩] (rw0 w) fun e w' => e = .returned (.bool (decide ((58 : UInt8) ∈ s.data.toList))) ∧ w' = rw0 w) := contains_colon s (rw0 w)
    by_cases hcl : (58 : UInt8) ∈ s.data.toList
    · have hF : rparse s.data.toList = (rsix s.data.toList).map fun p => (true, p.1, p.2) := by rw [rparse, if_neg (by omega), if_pos hcl]
      rw [hF]
      have Hd : Hid (decide ((58 : UInt8) ∈ s.data.toList) = true) := by simp [Hid, hcl]
      have HR : Hid (Calls Tryz.prog 75 #[.string s] (rw0 w) fun e w' => sixEnd (rsix s.data.toList) e ∧ Below (rw0 w).heap.size (rw0 w) w') := readSixteen_any s (rw0 w) hg0 (by omega)
      clear hF hcl hg0
      go_enter_defers Tryz.func61, Tryz.ntmps61
      go_wp2_with fail
      refine hCo.out.mono ?_
      rintro e w2 ⟨rfl, rfl⟩
      rw [Hd.out]
      go_wp2_with fail
      refine HR.out.mono ?_
      rintro e w2 ⟨he, hb⟩
      cases hr : rsix s.data.toList with
      | none =>
        rw [hr] at he
        obtain rfl : e = .panicked gaveUp := he
        have Hr : Hid (rsix s.data.toList = none) := hr
        clear hr
        go_wp2
        rw [Hr.out]
        exact door_panic w _ _ rfl rfl hb
      | some p =>
        obtain ⟨ph, pl⟩ := p
        rw [hr] at he
        obtain rfl : e = .returned (.agg #[.bool true, .int .u64 (ph : Int), .int .u64 (pl : Int)]) := he
        have Hr : Hid (rsix s.data.toList = some (ph, pl)) := hr
        clear hr
        obtain ⟨⟨c0, c1, c2, c3⟩, f0, f1, f2, f3⟩ := rw0_cells hb
        have HB : Hid (Below w.heap.size w w2 ∧ w.heap.size + 1 < w2.heap.size) := ⟨btr (rw0_below w) hb, by have := hb.size; rw [rw0_size] at this; omega⟩
        clear hb
        go_wp2
        rw [Hr.out]
        exact door_store w w2 _ rfl rfl c0 c1 c2 c3 HB.out.2 HB.out.1
    · have hF : rparse s.data.toList = (rfour s.data.toList).map fun n => (false, 0, n) := by rw [rparse, if_neg (by omega), if_neg hcl]
      rw [hF]
      have Hd : Hid (decide ((58 : UInt8) ∈ s.data.toList) = false) := by simp [Hid, hcl]
      have HR : Hid (Calls Tryz.prog 76 #[.string s] (rw0 w) fun e w' => e = rdEnd ((rfour s.data.toList).map fun n : Nat => Value.int .u64 (n : Int)) ∧ Below (rw0 w).heap.size (rw0 w) w') := readFour_any s (rw0 w) hg0 (by omega)
      clear hF hcl hg0
      go_enter_defers Tryz.func61, Tryz.ntmps61
      go_wp2_with fail
      refine hCo.out.mono ?_
      rintro e w2 ⟨rfl, rfl⟩
      rw [Hd.out]
      go_wp2_with fail
      refine HR.out.mono ?_
      rintro e w2 ⟨he, hb⟩
      cases hr : rfour s.data.toList with
      | none =>
        rw [hr] at he
        obtain rfl : e = .panicked gaveUp := he
        have Hr : Hid (rfour s.data.toList = none) := hr
        clear hr
        go_wp2
        rw [Hr.out]
        exact door_panic w _ _ rfl rfl hb
      | some n =>
        rw [hr] at he
        obtain rfl : e = .returned (.int .u64 (n : Int)) := he
        have Hr : Hid (rfour s.data.toList = some n) := hr
        clear hr
        obtain ⟨⟨c0, c1, c2, c3⟩, f0, f1, f2, f3⟩ := rw0_cells hb
        have HB : Hid (Below w.heap.size w w2 ∧ w.heap.size + 1 < w2.heap.size) := ⟨btr (rw0_below w) hb, by have := hb.size; rw [rw0_size] at this; omega⟩
        clear hb
        go_wp2
        rw [Hr.out]
        exact door_store w w2 _ rfl rfl c0 c1 c2 c3 HB.out.2 HB.out.1

/-- addr.Parse: whatever text it is handed. -/
theorem parse_any (s : ByteArray) (w : World) (hg : Good w) :
    Calls Tryz.prog 50 #[.string s] w fun e w' => e = .returned (.tuple #[prV (rparse s.data.toList), .int .i64 (prE (rparse s.data.toList))]) ∧ Below w.heap.size w w' := by
  have hR : Hid (∀ w : World, Good w → Calls Tryz.prog 61 #[.string s] w fun e w' => e = .returned (.tuple #[prV (rparse s.data.toList), .int .i64 (prE (rparse s.data.toList))]) ∧ Below w.heap.size w w') := fun w => read_any' s w
  obtain ⟨x, y, z, hv⟩ : ∃ (x : Bool) (y z : Int), prV (rparse s.data.toList) = .agg #[.bool x, .int .u64 y, .int .u64 z] := by
    cases rparse s.data.toList with
    | none => exact ⟨_, _, _, rfl⟩
    | some p => exact ⟨_, _, _, rfl⟩
  rw [hv] at hR ⊢
  clear hv
  generalize prE (rparse s.data.toList) = k at hR ⊢
  go_enter Tryz.func50, Tryz.ntmps50
  go_wp2_with fail
  refine (hR.out _ (hg.below (bal (Below.refl _ _) _))).mono ?_
  rintro e w2 ⟨rfl, hb⟩
  have hb' : Below ((w.alloc (.cells #[.bool false, .int .u64 0, .int .u64 0] 25)).drewN 0).heap.size ((w.alloc (.cells #[.bool false, .int .u64 0, .int .u64 0] 25)).drewN 0) w2 := hb
  obtain ⟨q0, q1, q2, f0, f1, f2⟩ := kept3 hb'
  have HB : Hid (Below w.heap.size w w2) := btr (bal (Below.refl _ _) _) hb
  clear hb hb' hR
  go_wp2
  refine bodyPost_ret (v := .tuple #[.agg #[.bool x, .int .u64 y, .int .u64 z], .int .i64 k]) ?_ rfl ⟨rfl, ?_⟩
  · simp [results, Tryz.results50, go_sem, q0, q1, q2]
  · exact bse (bse (bse HB.out (by simp) _) (by simp) _) (by simp) _
end Go.Proofs.YtghbonlignmdoaaGreatDoor
