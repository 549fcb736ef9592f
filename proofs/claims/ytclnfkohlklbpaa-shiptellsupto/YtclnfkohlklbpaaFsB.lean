/- Names, addresses, leases: what the document's functions lean on. -/
import Derived.Test.YtclnfkohlklbpaaLsC
import Derived.Shelf.Abstract
import Derived.Test.YtclnfkohlklbpaaLsG
import Derived.Maps.OwnSet
import Derived.Maps.Views
import Derived.StringKeys
import Derived.Lib.Overlaps
import Derived.Lib.AppendZerosOnto
import Derived.Deep.RegionHeld3
set_option linter.unusedVariables false
set_option linter.unusedSimpArgs false
namespace Go.Proofs.Ytclnfkohlklbpaa
open Go.RowKit

/-- clear of a row's cells. -/
theorem run_clear_row {P : Program} (w : World) (t e ty : TypeId) (z : Value) (ht : P.underlying t = some (.slice e)) (hv : ∀ w, (zeroValue e).run P w = .ok z w) (b o n c : Nat) (hn : 0 < n) (cur : Array Value) (T : TypeId) (hg : w.heap[b]? = some (.cells cur T (0, 0)))
    (vs : List Value) (hvs : vs = (Builtin.zeroCells z.cells n).toList) (h1 : ∀ u ∈ vs, u.oneCell' = true) (hfit : o + vs.length ≤ cur.size) :
    (Builtin.clear_ #[t] ty #[.slice (some ⟨b, o, none⟩) n c]).run P w = .ok (.tuple #[]) (w.setRow b (splice cur.toList o vs).toArray) := by
  have hst := run_storeCells_at P b o T vs 0 cur w hg (by simpa using hfit) h1
  simp only [Nat.add_zero] at hst
  obtain ⟨m, rfl⟩ : ∃ m, n = m + 1 := ⟨n - 1, by omega⟩
  simp [Builtin.clear_, run_underlying ht, hv, ← hvs, hst, splice]
theorem zero_len (n : Nat) (z : Array Value) : (Builtin.zeroCells z n).toList.length = n * z.size := by
  simp [Builtin.zeroCells]
theorem zero_one (n : Nat) (z : Array Value) (h : ∀ u ∈ z.toList, u.oneCell' = true) : ∀ u ∈ (Builtin.zeroCells z n).toList, u.oneCell' = true := by
  intro u hu
  simp [Builtin.zeroCells] at hu
  obtain ⟨i, hi, rfl⟩ := hu
  have hz : 0 < z.size := by
    rcases Nat.eq_zero_or_pos z.size with e | e
    · rw [e] at hi; omega
    · exact e
  rw [getElem!_pos z _ (Nat.mod_lt _ hz)]
  exact h _ (by simp)

/-- What has been kept when j have been asked. -/
structure Kept (p : Ls → Bool) (l : List Ls) (j i : Nat) (dk : List Ls) : Prop where
  lt : i < j
  len : dk.length = l.length
  low : dk.take i = (l.take j).filter (fun x => !p x)
  high : dk.drop j = l.drop j
theorem Kept.at {p : Ls → Bool} {l : List Ls} {j i : Nat} {dk : List Ls} (h : Kept p l j i dk) (hj : j < l.length) : dk[j]'(by rw [h.len]; exact hj) = l[j] := by
  have e := h.high
  rw [List.drop_eq_getElem_cons (by rw [h.len]; exact hj), List.drop_eq_getElem_cons hj] at e
  exact (List.cons.inj e).1
theorem Kept.skip {p : Ls → Bool} {l : List Ls} {j i : Nat} {dk : List Ls} (h : Kept p l j i dk) (hj : j < l.length) (hp : p l[j] = true) : Kept p l (j + 1) i dk := by
  refine ⟨by have := h.lt; omega, h.len, ?_, ?_⟩
  · rw [h.low, List.take_succ_eq_append_getElem hj, List.filter_append]; simp [hp]
  · rw [← List.tail_drop, ← List.tail_drop, h.high]
theorem Kept.keep {p : Ls → Bool} {l : List Ls} {j i : Nat} {dk : List Ls} (h : Kept p l j i dk) (hj : j < l.length) (hp : p l[j] = false) : Kept p l (j + 1) (i + 1) (dk.set i l[j]) := by
  have hlt := h.lt
  have hl := h.len
  refine ⟨by omega, by rw [List.length_set]; exact h.len, ?_, ?_⟩
  · rw [List.take_succ_eq_append_getElem hj, List.filter_append, ← h.low, List.take_succ_eq_append_getElem (by rw [List.length_set]; omega), List.take_set_of_le (Nat.le_refl _)]
    simp [hp]
  · rw [List.drop_set_of_lt (by omega), ← List.tail_drop, ← List.tail_drop, h.high]
theorem Kept.start {p : Ls → Bool} {l : List Ls} {k : Nat} (hk : k < l.length) (h : p l[k] = true) (ha : ∀ j (hj : j < k), p (l[j]'(by omega)) = false) : Kept p l (k + 1) k l := by
  refine ⟨by omega, rfl, ?_, rfl⟩
  rw [List.take_succ_eq_append_getElem hk, List.filter_append]
  have e : (l.take k).filter (fun x => !p x) = l.take k := List.filter_eq_self.2 fun x hx => by
    obtain ⟨j, hj, rfl⟩ := List.mem_iff_getElem.1 hx
    rw [List.length_take] at hj
    rw [List.getElem_take, ha j (by omega)]; rfl
  rw [e]
  simp [h]

end Go.Proofs.Ytclnfkohlklbpaa

namespace Go.Proofs.Ytclnfkohlklbpaa
open Go.RowKit Go.Shelf

/-- Leases that are not over. -/
def live (l : List Ls) (now : Int) : List Ls := l.filter (fun x => !decide (x.un < now))

end Go.Proofs.Ytclnfkohlklbpaa

namespace Go.Proofs.Ytclnfkohlklbpaa
open Go.RowKit Go.Maps Go.Shelf

def Ls.hasWho (s : ByteArray) (x : Ls) : Bool := decide (x.who = s)
/-- What is wrong, lease by lease, behind those ahead. -/
def chkOf (p : Pf) : List Ls → List Ls → Int
  | _, [] => 0
  | h, x :: r => if p.inA x.a.v x.a.hi x.a.lo = true then (if h.any (Ls.hasWho x.who) = true then 6 else chkOf p (h ++ [x]) r) else 5
def checkE (p : Pf) (kept : List Ad) (l : List Ls) (now : Int) : Int := if poolE p kept = 0 then (if lookL l now = 0 then chkOf p [] l else lookL l now) else poolE p kept
/-- The map of names that were met, behind k rounds. -/
def Dw (l : List Ls) : Nat → DataW Unit
  | 0 => .map []
  | k + 1 => match l[k]? with
    | some x => (Dw l k).put (.string x.who.data.toList) (.lit (.int .i64 (k : Int)))
    | none => Dw l k
theorem Dw_isMap (l : List Ls) : ∀ k, IsMap (Dw l k)
  | 0 => ⟨[], rfl⟩
  | k + 1 => by
    have h := Dw_isMap l k
    rw [Dw]
    split
    · obtain ⟨es, he⟩ := h; rw [he]; exact ⟨_, rfl⟩
    · exact h
theorem Dw_succ (l : List Ls) (k : Nat) (h : k < l.length) : Dw l (k + 1) = (Dw l k).put (.string l[k].who.data.toList) (.lit (.int .i64 (k : Int))) := by rw [Dw, List.getElem?_eq_getElem h]
theorem bytes_same {a b : ByteArray} (h : a.data.toList = b.data.toList) : a = b := by
  cases a; cases b; simp at h; subst h; rfl
theorem Dw_has (l : List Ls) (s : ByteArray) : ∀ k, k ≤ l.length → Maps.has (Dw l k) (.string s.data.toList) = (l.take k).any (Ls.hasWho s)
  | 0, _ => by simp [Dw, Maps.has]
  | k + 1, hk => by
    have ih := Dw_has l s k (by omega)
    rw [Dw_succ l k (by omega), List.take_succ_eq_append_getElem (by omega), List.any_append, ← ih]
    by_cases h : l[k].who = s
    · subst h
      rw [has_put_same (Dw_isMap l k) (by trivial)]
      simp [Ls.hasWho]
    · rw [has_put_other (by intro e; injection e with e; exact h (bytes_same e).symm)]
      simp [Ls.hasWho, h]
theorem ownsMapS_below {w w' : World} {b n : Nat} {D : DataW Unit} (h : w.ownsMap Try.prog 9 (plainElem Try.prog 3) b n D) (hb : Below w.heap.size w w') : w'.ownsMap Try.prog 9 (plainElem Try.prog 3) b n D := by
  have hlt := h.lt
  obtain ⟨es, clock, hh, r⟩ := h
  exact ⟨es, clock, (hb.block b hlt).trans hh, r⟩
theorem Has5.far {w w' : World} {row : Option Nat} {p : Nat} {x0 x1 x2 x3 x4 : Value} (h : Has5 w p x0 x1 x2 x3 x4) (hg : w.grownBy w' row) (hr : row ≠ some p) : Has5 w' p x0 x1 x2 x3 x4 := by
  obtain ⟨a, b, c, d, e, f⟩ := h
  have k : ∀ o, w'.cell? ⟨p, o, none⟩ = w.cell? ⟨p, o, none⟩ := fun o => hg.cell_far _ f (fun h => hr h.symm)
  exact ⟨by rw [k]; exact a, by rw [k]; exact b, by rw [k]; exact c, by rw [k]; exact d, by rw [k]; exact e, Nat.lt_of_lt_of_le f hg.size⟩
theorem keySt : Keyed Try.prog 9 := string_keyed Try.underlying9
theorem zeroIn (w : World) : (zeroValue 3).run Try.prog w = .ok (.int .i64 0) w := by kernel_rfl
theorem rgt_all {l : List Ls} (h : rgtAll l = 0) : ∀ x ∈ l, x.rgt = 0 := by
  induction l with
  | nil => simp
  | cons y r ih =>
    rw [rgtAll] at h
    by_cases hy : y.rgt = 0
    · rw [if_pos hy] at h
      intro x hx
      rcases List.mem_cons.1 hx with rfl | hx
      · exact hy
      · exact ih h x hx
    · rw [if_neg hy] at h; exact absurd h hy
theorem look_rgt {l : List Ls} {now : Int} (h : lookL l now = 0) : ∀ x ∈ l, x.rgt = 0 := by
  unfold lookL at h
  by_cases h1 : 20 < l.length
  · rw [if_pos h1] at h; exact absurd h (by decide)
  · rw [if_neg h1] at h
    by_cases h2 : rgtAll l = 0
    · exact rgt_all h2
    · rw [if_neg h2] at h; exact absurd h h2
theorem rgt_who {x : Ls} (h : x.rgt = 0) : whoB x.who = true := by
  unfold Ls.rgt at h
  by_cases h1 : chk x.a.v x.a.hi x.a.lo = 0
  · rw [if_pos h1] at h
    by_cases h2 : whoB x.who = true
    · exact h2
    · rw [if_neg h2] at h; exact absurd h (by decide)
  · rw [if_neg h1] at h; exact absurd h h1
theorem who_size {s : ByteArray} (h : whoB s = true) : s.size ≤ 8 := by
  simp [whoB] at h; omega

theorem lookL_len20 {l : List Ls} {now : Int} (h : lookL l now = 0) : l.length ≤ 20 := by
  unfold lookL at h
  by_cases h1 : 20 < l.length
  · rw [if_pos h1] at h; exact absurd h (by decide)
  · omega

end Go.Proofs.Ytclnfkohlklbpaa

namespace Go.Proofs.Ytclnfkohlklbpaa
open Go.RowKit

theorem run_copyK {P : Program} (w : World) (dT sT ty elem : TypeId) (k : Nat) (g o dLen dCap : Nat) (a : Addr) (sLen sCap : Nat) (cur : List Value) (t : TypeId) (cs : List Value)
    (hu : P.underlying dT = some (.slice elem)) (hs : (P.info? elem).map (·.size) = some k)
    (hg : w.heap[g]? = some (.cells cur.toArray t (0, 0))) (hn : cs.length = Nat.min sLen dLen * k)
    (hsrc : ∀ j v, cs[j]? = some v → w.cell? (a.add j) = some v) (hfit : o + cs.length ≤ cur.length) (h1 : ∀ v ∈ cs, v.oneCell' = true) :
    (Builtin.copy_ #[dT, sT] ty #[.slice (some ⟨g, o, none⟩) dLen dCap, .slice (some a) sLen sCap]).run P w =
      .ok (goInt (Nat.min sLen dLen)) (w.setRow g (splice cur o cs).toArray) := by
  have hl := run_loadCells_list (P := P) w a cs hsrc
  have hst := run_storeCells_at P g o t cs 0 cur.toArray w hg (by simpa using hfit) h1
  cases hq : P.info? elem with
  | none => simp [hq] at hs
  | some i =>
    have hi : i.size = k := by simpa [hq] using hs
    simp only [Nat.add_zero] at hst
    simp [Builtin.copy_, run_underlying hu, Builtin.lenOf, Builtin.firstCells, sizeOf, typeInfo, hq, hi, ← hn, hl, hst, splice]
theorem step_copyK {P : Program} {ops : Array Oper} {o : Oper} {a : Act} {w : World} {K : Act → World → Prop} {Q : Exit → Act → World → Prop} {E : Prop} (hgd : o.guard = none) (d s : Operand) (dT sT : TypeId)
    (ho : o.op = .call { callee := .builtin .copy, args := #[d, s], argTypes := #[dT, sT] }) (elem : TypeId) (k : Nat) (hu : P.underlying dT = some (.slice elem)) (hsz : (P.info? elem).map (·.size) = some k)
    (g off dLen dCap : Nat) (ad : Addr) (sLen sCap : Nat) (hd : a.eval d = .slice (some ⟨g, off, none⟩) dLen dCap) (hs : a.eval s = .slice (some ad) sLen sCap)
    (cur : List Value) (t : TypeId) (hg : w.heap[g]? = some (.cells cur.toArray t (0, 0))) (cs : List Value) (hn : cs.length = Nat.min sLen dLen * k)
    (hsrc : ∀ j v, cs[j]? = some v → w.cell? (ad.add j) = some v) (hfit : off + cs.length ≤ cur.length) (h1 : ∀ v ∈ cs, v.oneCell' = true)
    (h : ∀ w', Hid (w'.heap[g]? = some (.cells (splice cur off cs).toArray t (0, 0))) → w.grownBy w' (some g) → K (a.put o.dst (goInt (Nat.min sLen dLen))) w') :
    if Region.wanted o (yielded ops a.tmps) = true then Oper.wp P o a w K Q else E := by
  have hw : Region.wanted o (yielded ops a.tmps) = true := by simp [Region.wanted, hgd]
  rw [if_pos hw]
  have hrun := run_copyK (P := P) w dT sT o.type elem k g off dLen dCap ad sLen sCap cur t cs hu hsz hg hn hsrc hfit h1
  unfold Oper.wp
  simp [execOp, ho, resolve, invoke, builtin, hd, hs, hrun, Result.andThen]
  exact h _ (show _ = _ from setRow_heap w g _ _ t _ hg) (grown_row _ _ _)
theorem wpList_copyK {P : Program} {w : World} {ops : Array Oper} {rest : List Oper} {o : Oper} {a : Act} {Q : Exit → Act → World → Prop} (hgd : o.guard = none) (d s : Operand) (dT sT : TypeId)
    (ho : o.op = .call { callee := .builtin .copy, args := #[d, s], argTypes := #[dT, sT] }) (elem : TypeId) (k : Nat) (hu : P.underlying dT = some (.slice elem)) (hsz : (P.info? elem).map (·.size) = some k)
    (g off dLen dCap : Nat) (ad : Addr) (sLen sCap : Nat) (hd : a.eval d = .slice (some ⟨g, off, none⟩) dLen dCap) (hs : a.eval s = .slice (some ad) sLen sCap)
    (cur : List Value) (t : TypeId) (hg : w.heap[g]? = some (.cells cur.toArray t (0, 0))) (cs : List Value) (hn : cs.length = Nat.min sLen dLen * k)
    (hsrc : ∀ j v, cs[j]? = some v → w.cell? (ad.add j) = some v) (hfit : off + cs.length ≤ cur.length) (h1 : ∀ v ∈ cs, v.oneCell' = true)
    (h : ∀ w', Hid (w'.heap[g]? = some (.cells (splice cur off cs).toArray t (0, 0))) → w.grownBy w' (some g) → wpList P ops Q rest (a.put o.dst (goInt (Nat.min sLen dLen))) w') : wpList P ops Q (o :: rest) a w := by
  refine wpList_plain hgd fun K hK => ?_
  have hrun := run_copyK (P := P) w dT sT o.type elem k g off dLen dCap ad sLen sCap cur t cs hu hsz hg hn hsrc hfit h1
  unfold Oper.wp
  simp [execOp, ho, resolve, invoke, builtin, hd, hs, hrun, Result.andThen]
  exact hK _ _ (h _ (show _ = _ from setRow_heap w g _ _ t _ hg) (grown_row _ _ _))
/-- A row with one more in its midst. -/
theorem splice_ins {α : Type} (A B r X : List α) (m : Nat) (hX : X.length = m) (hm : m ≤ r.length) : splice (splice (A ++ B ++ r) (A.length + m) B) A.length X = A ++ X ++ B ++ r.drop m := by
  subst hX
  have e1 : splice (A ++ B ++ r) (A.length + X.length) B = (A ++ B ++ r).take (A.length + X.length) ++ (B ++ r.drop X.length) := by
    rw [splice]
    congr 2
    rw [List.append_assoc, show A.length + X.length + B.length = A.length + (B.length + X.length) by omega, List.drop_append, List.drop_eq_nil_of_le (by omega), List.nil_append, Nat.add_sub_cancel_left, List.drop_append, List.drop_eq_nil_of_le (by omega), List.nil_append, Nat.add_sub_cancel_left]
  have hlen : ((A ++ B ++ r).take (A.length + X.length)).length = A.length + X.length := by rw [List.length_take]; simp; omega
  rw [e1, splice, List.take_append_of_le_length (by omega), List.drop_append, List.drop_eq_nil_of_le (by omega), List.nil_append, hlen, Nat.sub_self, List.drop_zero, List.take_take, Nat.min_eq_left (by omega), List.append_assoc, List.take_append_of_le_length (by omega), List.take_of_length_le (by omega)]
  simp [List.append_assoc]
end Go.Proofs.Ytclnfkohlklbpaa

namespace Go.Proofs.Ytclnfkohlklbpaa
open Go.RowKit

theorem grown_drew {w w' : World} {r : Option Nat} (h : w.drew.grownBy w' r) : w.grownBy w' r := ⟨h.os, h.tape, h.output, h.size, h.block⟩
theorem ins_fit {α : Type} (E : Enc α) (l : List α) (i : Nat) (x : α) (r : List Value) (hi : i ≤ l.length) (hr : E.k ≤ r.length) :
    splice (splice (rowOf E l ++ r) ((i + 1) * E.k) (rowOf E (l.drop i))) (i * E.k) (E.f x) = rowOf E (l.take i ++ x :: l.drop i) ++ r.drop E.k := by
  have hA : (rowOf E (l.take i)).length = i * E.k := by rw [rowOf_len, List.length_take, Nat.min_eq_left hi]
  have := splice_ins (rowOf E (l.take i)) (rowOf E (l.drop i)) r (E.f x) E.k (E.len x) hr
  rw [hA, ← rowOf_append, List.take_append_drop, ← Nat.succ_mul] at this
  rw [show (i + 1) * E.k = i.succ * E.k from rfl, this, rowOf_append, rowOf]
  simp [List.append_assoc]

end Go.Proofs.Ytclnfkohlklbpaa

namespace Go.Proofs.Ytclnfkohlklbpaa
open Go.RowKit

theorem splice_fill {α : Type} (A Z X D : List α) (h : X.length + D.length ≤ Z.length) : splice (splice (A ++ Z) A.length X) (A.length + X.length) D = A ++ X ++ D ++ Z.drop (X.length + D.length) := by
  have e1 : splice (A ++ Z) A.length X = A ++ (X ++ Z.drop X.length) := by
    rw [splice, List.take_append_of_le_length (Nat.le_refl _), List.take_length, List.drop_append, List.drop_eq_nil_of_le (by omega), List.nil_append, Nat.add_sub_cancel_left]
  rw [e1, splice, List.take_append, List.take_of_length_le (by omega), Nat.add_sub_cancel_left, List.take_append_of_le_length (Nat.le_refl _), List.take_length, List.drop_append, List.drop_eq_nil_of_le (by omega), List.nil_append, show A.length + X.length + D.length - A.length = X.length + D.length by omega, List.drop_append, List.drop_eq_nil_of_le (by omega), List.nil_append, Nat.add_sub_cancel_left, List.drop_drop]
  simp [List.append_assoc, Nat.add_comm]
theorem nextcap_small (n c : Nat) (hn : n ≤ 64) (hc : c ≤ 64) : Builtin.nextslicecap n c ≤ 128 := by
  unfold Builtin.nextslicecap
  split
  · omega
  · split <;> omega

end Go.Proofs.Ytclnfkohlklbpaa
