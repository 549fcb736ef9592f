/- Package lease: what granter puts and looks for. -/
import Derived.Test.YtclnfkohlklbpaaGreatQ02
import Derived.Lib.Overlaps
import Derived.Lib.AppendZerosOnto
import Derived.Deep.RegionHeld3
import Derived.Deep.RegionWith
import Derived.Deep.RegionLaw
import Derived.Test.YtclnfkohlklbpaaGreatQ07
set_option linter.unusedVariables false
set_option linter.unusedSimpArgs false
namespace Go.Proofs.YtclnfkohlklbpaaGreat
open Go.RowKit

theorem run_copyK {P : Program} (w : World) (dT sT ty elem : TypeId) (k : Nat) (g o dLen dCap : Nat) (a : Addr) (sLen sCap : Nat) (cur : List Value) (t : TypeId) (cs : List Value)
    (hu : P.underlying dT = some (.slice elem)) (hs : (P.info? elem).map (·.size) = some k)
    (hg : w.heap[g]? = some (.cells cur.toArray t (0, 0))) (hn : cs.length = Nat.min sLen dLen * k)
    (hsrc : ∀ j v, cs[j]? = some v → w.cell? (a.add j) = some v) (hfit : o + cs.length ≤ cur.length) (h1 : ∀ v ∈ cs, v.oneCell' = true) :
    (Builtin.copy_ #[dT, sT] ty #[.slice (some ⟨g, o, none⟩) dLen dCap, .slice (some a) sLen sCap]).run P w =
      .ok (goInt (Nat.min sLen dLen)) (w.setRow g (splice cur o cs).toArray) := by
  have hl := run_loadCells_list (P := P) w a cs hsrc
  have hst := run_storeCells_at P g o t cs 0 cur.toArray w hg (by simpa using hfit) h1
  cases hq : P.info? elem with
  | none => simp [hq] at hs
  | some i =>
    have hi : i.size = k := by simpa [hq] using hs
    simp only [Nat.add_zero] at hst
    simp [Builtin.copy_, run_underlying hu, Builtin.lenOf, Builtin.firstCells, sizeOf, typeInfo, hq, hi, ← hn, hl, hst, splice]
theorem step_copyK {P : Program} {ops : Array Oper} {o : Oper} {a : Act} {w : World} {K : Act → World → Prop} {Q : Exit → Act → World → Prop} {E : Prop} (hgd : o.guard = none) (d s : Operand) (dT sT : TypeId)
    (ho : o.op = .call { callee := .builtin .copy, args := #[d, s], argTypes := #[dT, sT] }) (elem : TypeId) (k : Nat) (hu : P.underlying dT = some (.slice elem)) (hsz : (P.info? elem).map (·.size) = some k)
    (g off dLen dCap : Nat) (ad : Addr) (sLen sCap : Nat) (hd : a.eval d = .slice (some ⟨g, off, none⟩) dLen dCap) (hs : a.eval s = .slice (some ad) sLen sCap)
    (cur : List Value) (t : TypeId) (hg : w.heap[g]? = some (.cells cur.toArray t (0, 0))) (cs : List Value) (hn : cs.length = Nat.min sLen dLen * k)
    (hsrc : ∀ j v, cs[j]? = some v → w.cell? (ad.add j) = some v) (hfit : off + cs.length ≤ cur.length) (h1 : ∀ v ∈ cs, v.oneCell' = true)
    (h : ∀ w', Hid (w'.heap[g]? = some (.cells (splice cur off cs).toArray t (0, 0))) → w.grownBy w' (some g) → K (a.put o.dst (goInt (Nat.min sLen dLen))) w') :
    if Region.wanted o (yielded ops a.tmps) = true then Oper.wp P o a w K Q else E := by
  have hw : Region.wanted o (yielded ops a.tmps) = true := by simp [Region.wanted, hgd]
  rw [if_pos hw]
  have hrun := run_copyK (P := P) w dT sT o.type elem k g off dLen dCap ad sLen sCap cur t cs hu hsz hg hn hsrc hfit h1
  unfold Oper.wp
  simp [execOp, ho, resolve, invoke, builtin, hd, hs, hrun, Result.andThen]
  exact h _ (show _ = _ from setRow_heap w g _ _ t _ hg) (grown_row _ _ _)
theorem wpList_copyK {P : Program} {w : World} {ops : Array Oper} {rest : List Oper} {o : Oper} {a : Act} {Q : Exit → Act → World → Prop} (hgd : o.guard = none) (d s : Operand) (dT sT : TypeId)
    (ho : o.op = .call { callee := .builtin .copy, args := #[d, s], argTypes := #[dT, sT] }) (elem : TypeId) (k : Nat) (hu : P.underlying dT = some (.slice elem)) (hsz : (P.info? elem).map (·.size) = some k)
    (g off dLen dCap : Nat) (ad : Addr) (sLen sCap : Nat) (hd : a.eval d = .slice (some ⟨g, off, none⟩) dLen dCap) (hs : a.eval s = .slice (some ad) sLen sCap)
    (cur : List Value) (t : TypeId) (hg : w.heap[g]? = some (.cells cur.toArray t (0, 0))) (cs : List Value) (hn : cs.length = Nat.min sLen dLen * k)
    (hsrc : ∀ j v, cs[j]? = some v → w.cell? (ad.add j) = some v) (hfit : off + cs.length ≤ cur.length) (h1 : ∀ v ∈ cs, v.oneCell' = true)
    (h : ∀ w', Hid (w'.heap[g]? = some (.cells (splice cur off cs).toArray t (0, 0))) → w.grownBy w' (some g) → wpList P ops Q rest (a.put o.dst (goInt (Nat.min sLen dLen))) w') : wpList P ops Q (o :: rest) a w := by
  refine wpList_plain hgd fun K hK => ?_
  have hrun := run_copyK (P := P) w dT sT o.type elem k g off dLen dCap ad sLen sCap cur t cs hu hsz hg hn hsrc hfit h1
  unfold Oper.wp
  simp [execOp, ho, resolve, invoke, builtin, hd, hs, hrun, Result.andThen]
  exact hK _ _ (h _ (show _ = _ from setRow_heap w g _ _ t _ hg) (grown_row _ _ _))
theorem sizeL : (Tryz.prog.info? 90).map (·.size) = some 5 := by kernel_rfl
theorem infoL3 : (Tryz.prog.info? 90).map (fun i => (i.zero, i.size, i.bytes)) = some (some (.agg #[.bool false, .int .u64 0, .int .u64 0, .string ⟨#[]⟩, .int .i64 0]), 5, 48) := by kernel_rfl
theorem sizeOfL (w : World) : (Go.sizeOf 90).run Tryz.prog w = .ok 5 w := by kernel_rfl
/-- A row with one more in its midst. -/
theorem splice_ins {α : Type} (A B r X : List α) (m : Nat) (hX : X.length = m) (hm : m ≤ r.length) : splice (splice (A ++ B ++ r) (A.length + m) B) A.length X = A ++ X ++ B ++ r.drop m := by
  subst hX
  have e1 : splice (A ++ B ++ r) (A.length + X.length) B = (A ++ B ++ r).take (A.length + X.length) ++ (B ++ r.drop X.length) := by
    rw [splice]
    congr 2
    rw [List.append_assoc, show A.length + X.length + B.length = A.length + (B.length + X.length) by omega, List.drop_append, List.drop_eq_nil_of_le (by omega), List.nil_append, Nat.add_sub_cancel_left, List.drop_append, List.drop_eq_nil_of_le (by omega), List.nil_append, Nat.add_sub_cancel_left]
  have hlen : ((A ++ B ++ r).take (A.length + X.length)).length = A.length + X.length := by rw [List.length_take]; simp; omega
  rw [e1, splice, List.take_append_of_le_length (by omega), List.drop_append, List.drop_eq_nil_of_le (by omega), List.nil_append, hlen, Nat.sub_self, List.drop_zero, List.take_take, Nat.min_eq_left (by omega), List.append_assoc, List.take_append_of_le_length (by omega), List.take_of_length_le (by omega)]
  simp [List.append_assoc]
end Go.Proofs.YtclnfkohlklbpaaGreat

namespace Go.Proofs.YtclnfkohlklbpaaGreat
open Go.RowKit

theorem grown_drew {w w' : World} {r : Option Nat} (h : w.drew.grownBy w' r) : w.grownBy w' r := ⟨h.os, h.tape, h.output, h.size, h.block⟩
theorem ins_fit {α : Type} (E : Enc α) (l : List α) (i : Nat) (x : α) (r : List Value) (hi : i ≤ l.length) (hr : E.k ≤ r.length) :
    splice (splice (rowOf E l ++ r) ((i + 1) * E.k) (rowOf E (l.drop i))) (i * E.k) (E.f x) = rowOf E (l.take i ++ x :: l.drop i) ++ r.drop E.k := by
  have hA : (rowOf E (l.take i)).length = i * E.k := by rw [rowOf_len, List.length_take, Nat.min_eq_left hi]
  have := splice_ins (rowOf E (l.take i)) (rowOf E (l.drop i)) r (E.f x) E.k (E.len x) hr
  rw [hA, ← rowOf_append, List.take_append_drop, ← Nat.succ_mul] at this
  rw [show (i + 1) * E.k = i.succ * E.k from rfl, this, rowOf_append, rowOf]
  simp [List.append_assoc]

set_option maxHeartbeats 8000000 in
set_option maxRecDepth 100000 in
theorem insL_shift (B g c i vb : Nat) (l : List Ls) (x : Ls) (w : World) (hown : OwnAt lsE w B 90 g c l) (hl : l.length ≤ 20) (hi : i < l.length) (hroom : l.length + 1 ≤ c) (hx : w.heap[vb]? = some (.cells (lsE.f x).toArray 90 (0, 0))) (hne : vb ≠ g) :
    Calls Tryz.prog 93 #[.slice (some ⟨g, 0, none⟩) l.length c, .int .i64 i, .slice (some ⟨vb, 0, none⟩) 1 1] w fun e w' => ∃ v', e = .returned v' ∧ w'.ownsRow B 90 lsE.k v' (l.length + 1) (rowOf lsE (l.take i ++ x :: l.drop i)) ∧ w.grownBy w' (some g) := by
  obtain ⟨r, hr, hlr⟩ := hown.row
  have hcM : c ≤ maxLen := hown.max
  unfold maxLen at hcM
  have hBg := hown.base
  have hlr' : (rowOf lsE l ++ r).length = c * 5 := hlr
  have hrl : (rowOf lsE l).length = l.length * 5 := rowOf_len lsE l
  have hr5 : lsE.k ≤ r.length := by show 5 ≤ _; rw [List.length_append, hrl] at hlr'; omega
  have hov : ∀ lb cb, (callFunc 94 #[.slice (some ⟨vb, 0, none⟩) 1 1, .slice (some ⟨g, (i + 1) * 5, none⟩) lb cb]).run Tryz.prog w = .ok (.value (.bool false)) w := fun lb cb => by
    rw [run_callFunc_extern Tryz.func94 (by kernel_rfl) (by kernel_rfl) (by kernel_rfl) (e := Extern.SlicesOverlaps.overlaps #[46, 46] #[4]) (by kernel_rfl),
      Lib.run_overlaps_apart w 46 4 90 Tryz.underlying46 5 sizeOfL ⟨vb, 0, none⟩ ⟨g, (i + 1) * 5, none⟩ 1 1 lb cb hne 90 90 5 (c * 5) (by simp [World.shape?, hx]; rfl) (by simp [World.shape?, hr]; simpa using hlr') (by omega) (by simp [World.frozen?, hx]) (by simp [World.frozen?, hx])]
    rfl
  have hfit := ins_fit lsE l i x r (by omega) hr5
  have HSrc : Hid (∀ j v, (rowOf lsE (l.drop i))[j]? = some v → w.cell? ((⟨g, i * 5, none⟩ : Addr).add j) = some v) := by
    have h := (hown.lies.drop i).news
    rw [show (0 : Nat) + i * lsE.k = i * 5 from by rw [Nat.zero_add]; rfl] at h
    exact h
  have HXs : Hid (∀ W : World, w.grownBy W (some g) → ∀ j v, (lsE.f x)[j]? = some v → W.cell? ((⟨vb, 0, none⟩ : Addr).add j) = some v) := fun W hW j v hj => by
    rw [add_addr, Nat.zero_add, World.cell?_of_block (a := ⟨vb, j, none⟩) (hW.block vb (Array.getElem?_eq_some_iff.1 hx).1 (by simpa using hne))]
    simp only [World.cell?, hx]
    simpa using hj
  have HDl : Hid ((rowOf lsE (l.drop i)).length = (l.length - i) * 5) := by rw [Hid, rowOf_len, List.length_drop]; rfl
  have HD1 := Lib.hid (rowOf_one lsE (l.drop i))
  have HX1 := Lib.hid (lsE.one x)
  have HXl := Lib.hid (lsE.len x)
  have HFin : Hid (∀ W : World, W.heap[g]? = some (.cells (splice (splice (rowOf lsE l ++ r) ((i + 1) * 5) (rowOf lsE (l.drop i))) (i * 5) (lsE.f x)).toArray 90 (0, 0)) → W.ownsRow B 90 lsE.k (.slice (some ⟨g, 0, none⟩) (l.length + 1) c) (l.length + 1) (rowOf lsE (l.take i ++ x :: l.drop i))) := fun W hW => by
    have hlen : (l.take i ++ x :: l.drop i).length = l.length + 1 := by simp; omega
    have h2 : OwnAt lsE W B 90 g c (l.take i ++ x :: l.drop i) := ⟨hBg, by rw [hlen]; exact hroom, hown.max, r.drop lsE.k, by
      rw [← hfit]; exact hW, by
      rw [← hfit, length_splice _ _ _ (by rw [length_splice _ _ _ (by rw [HDl.out, hlr']; show (i + 1) * 5 + _ ≤ _; omega), hlr', HXl.out]; show i * 5 + 5 ≤ _; omega), length_splice _ _ _ (by rw [HDl.out, hlr']; show (i + 1) * 5 + _ ≤ _; omega)]; exact hlr⟩
    have := h2.own
    rw [hlen] at this
    exact this
  have HR := Lib.hid hr
  have HLr := Lib.hid hlr'
  obtain ⟨N, hN⟩ : ∃ N, N = l.length := ⟨_, rfl⟩
  rw [← hN] at hl hi hroom HDl HFin ⊢
  obtain ⟨F, hF⟩ : ∃ F, F = rowOf lsE (l.take i ++ x :: l.drop i) := ⟨_, rfl⟩
  rw [← hF] at HFin ⊢
  obtain ⟨D, hD⟩ : ∃ D, D = rowOf lsE (l.drop i) := ⟨_, rfl⟩
  rw [← hD] at HSrc HDl HD1 HFin
  obtain ⟨X, hX⟩ : ∃ X, X = lsE.f x := ⟨_, rfl⟩
  rw [← hX] at HXs HX1 HXl HFin
  obtain ⟨C, hC⟩ : ∃ C, C = rowOf lsE l ++ r := ⟨_, rfl⟩
  rw [← hC] at HR HLr HFin
  clear hN hF hD hX hC hfit hr hlr hlr' hrl hr5 hown hx hne
  have b1 : (0 : Int) ≤ (i : Int) := by omega
  have b2 : (i : Int) ≤ (N : Int) := by omega
  have b3 : (N : Int) ≤ (c : Int) := by omega
  have b4 : ((i : Int) == (N : Int)) = false := beq_eq_false_iff_ne.2 (by omega)
  have b5 : ¬ (c : Int) < (N : Int) + 1 := by omega
  have b6 : (N : Int) + 1 ≤ (c : Int) := by omega
  have b7 : IntKind.i64.wrap ((N : Int) + 1) = (N : Int) + 1 := by rw [IntKind.wrap_i64]; omega
  have b8 : IntKind.i64.wrap ((i : Int) + 1) = (i : Int) + 1 := by rw [IntKind.wrap_i64]; omega
  have b9 : (i : Int) + 1 ≤ (N : Int) + 1 := by omega
  have b10 : (0 : Int) ≤ (i : Int) + 1 := by omega
  have b11 : (0 : Int) ≤ (N : Int) + 1 := by omega
  have b12 : (i : Int) ≤ (N : Int) + 1 := by omega
  have b13 : ¬ (c = i + 1) := by omega
  have b14 : ¬ (c = i) := by omega
  go_enter Tryz.func93, Tryz.ntmps93
  go_wp2_with (simp only [hov])
  go_region_held3 (fun w' => True) (trivial)
    ((refine step_copyK (by rfl) _ _ 46 46 (by rfl) 90 5 Tryz.underlying46 sizeL g ((i + 1) * 5) (N - i) (c - (i + 1)) ⟨g, i * 5, none⟩ (N + 1 - i) (c - i) (by simp [Act.eval, Act.put]) (by simp [Act.eval, Act.put]) C 90 HR.out D (by rw [HDl.out]; congr 1; simp only [Nat.min_def]; split <;> omega) HSrc.out (by rw [HDl.out, HLr.out]; omega) HD1.out ?_; intro w1 hh1 hg1))
  replace hg1 := grown_drew hg1
  have HG1 := Lib.hid hg1
  have HXs1 := Lib.hid (HXs.out w1 hg1)
  clear hg1 HXs HSrc
  obtain ⟨w2, hw2⟩ : ∃ w2, w2 = w1.setRow g (splice (splice C ((i + 1) * 5) D) (i * 5) X).toArray := ⟨_, rfl⟩
  have hcp : ∀ ty, (Builtin.copy_ #[46, 46] ty #[.slice (some ⟨g, i * 5, none⟩) (N + 1 - i) (c - i), .slice (some ⟨vb, 0, none⟩) 1 1]).run Tryz.prog w1 = .ok (.int .i64 1) w2 := fun ty => by
    have := run_copyK (P := Tryz.prog) w1 46 46 ty 90 5 g (i * 5) (N + 1 - i) (c - i) ⟨vb, 0, none⟩ 1 1 (splice C ((i + 1) * 5) D) 90 X Tryz.underlying46 sizeL hh1.out (by rw [HXl.out]; show 5 = _; simp only [Nat.min_def]; split <;> omega) HXs1.out (by rw [length_splice _ _ _ (by rw [HDl.out, HLr.out]; omega), HLr.out, HXl.out]; show i * 5 + 5 ≤ _; omega) HX1.out
    rw [this, hw2, show Nat.min 1 (N + 1 - i) = 1 by simp only [Nat.min_def]; split <;> omega]
    rfl
  have hh2 : Hid (w2.heap[g]? = some (.cells (splice (splice C ((i + 1) * 5) D) (i * 5) X).toArray 90 (0, 0))) := by rw [hw2]; exact setRow_heap w1 g _ _ _ _ hh1.out
  have hg2 : Hid (w1.grownBy w2 (some g)) := by rw [hw2]; exact grown_row _ _ _
  clear hw2 HXs1
  go_wp2
  go_ret
  exact ⟨_, rfl, HFin.out _ hh2.out, HG1.out.trans hg2.out⟩
end Go.Proofs.YtclnfkohlklbpaaGreat

namespace Go.Proofs.YtclnfkohlklbpaaGreat
open Go.RowKit

theorem news_of {w : World} {vb : Nat} {x : Ls} (hx : w.heap[vb]? = some (.cells (lsE.f x).toArray 90 (0, 0))) : ∀ j v, (lsE.f x)[j]? = some v → w.cell? ((⟨vb, 0, none⟩ : Addr).add j) = some v := fun j v hj => by
  rw [add_addr, Nat.zero_add]
  simp only [World.cell?, hx]
  simpa using hj
set_option maxHeartbeats 8000000 in
set_option maxRecDepth 100000 in
theorem insL_end (B g c vb : Nat) (l : List Ls) (x : Ls) (w : World) (hown : OwnAt lsE w B 90 g c l) (hl : l.length ≤ 20) (hB : B ≤ w.heap.size) (hx : w.heap[vb]? = some (.cells (lsE.f x).toArray 90 (0, 0))) :
    Calls Tryz.prog 93 #[.slice (some ⟨g, 0, none⟩) l.length c, .int .i64 l.length, .slice (some ⟨vb, 0, none⟩) 1 1] w fun e w' => ∃ v', e = .returned v' ∧ w'.ownsRow B 90 lsE.k v' (l.length + 1) (rowOf lsE (l ++ [x])) ∧ w.grownBy w' (some g) := by
  obtain ⟨i0, hi0, hz0, hz1, hz2⟩ := info_parts infoL3
  have hcM : c ≤ maxLen := hown.max
  unfold maxLen at hcM
  have hle := hown.le
  have HO := Lib.hid hown.own
  have HX1 := Lib.hid (lsE.one x)
  have HXl := Lib.hid (lsE.len x)
  have HNw := Lib.hid (news_of hx)
  have hrow : rowOf lsE (l ++ [x]) = rowOf lsE l ++ lsE.f x := by rw [rowOf_append, rowOf, rowOf, List.append_nil]
  rw [hrow]
  obtain ⟨N, hN⟩ : ∃ N, N = l.length := ⟨_, rfl⟩
  rw [← hN] at hl HO hle ⊢
  obtain ⟨X, hX⟩ : ∃ X, X = lsE.f x := ⟨_, rfl⟩
  rw [← hX] at HX1 HXl HNw ⊢
  generalize rowOf lsE l = R at *
  have b1 : (N : Int) ≤ (c : Int) := by omega
  have b2 : ((N : Int) == (N : Int)) = true := by simp
  clear hown hN hX hrow hx
  by_cases hcN : N = c
  · subst hcN
    go_enter Tryz.func93, Tryz.ntmps93
    go_wp2_with (at_builtin; refine wpList_append_own _ rfl _ _ 46 rfl B 90 i0 _ 5 48 Tryz.underlying46 hi0 hz0 hz1 hz2 rfl (by decide) _ _ _ rfl HO.out ⟨vb, 0, none⟩ 1 1 X rfl HXl.out HNw.out HX1.out (by unfold maxLen; omega) (by omega) hB ?_)
    intro v' w4 hown hgrow _
    have HO4 := Lib.hid hown
    have HG := Lib.hid hgrow
    clear hown hgrow
    go_wp2
    go_ret
    exact ⟨_, rfl, HO4.out, HG.out⟩
  · have hcN' : ¬ (c = N) := fun h => hcN h.symm
    clear hcN
    go_enter Tryz.func93, Tryz.ntmps93
    go_wp2_with (at_builtin; refine wpList_append_own _ rfl _ _ 46 rfl B 90 i0 _ 5 48 Tryz.underlying46 hi0 hz0 hz1 hz2 rfl (by decide) _ _ _ rfl HO.out ⟨vb, 0, none⟩ 1 1 X rfl HXl.out HNw.out HX1.out (by unfold maxLen; omega) (by omega) hB ?_)
    intro v' w4 hown hgrow _
    have HO4 := Lib.hid hown
    have HG := Lib.hid hgrow
    clear hown hgrow
    go_wp2
    go_ret
    exact ⟨_, rfl, HO4.out, HG.out⟩
set_option maxHeartbeats 8000000 in
set_option maxRecDepth 100000 in
theorem insL_nil (B vb : Nat) (x : Ls) (w : World) (hB : B ≤ w.heap.size) (hx : w.heap[vb]? = some (.cells (lsE.f x).toArray 90 (0, 0))) :
    Calls Tryz.prog 93 #[.slice none 0 0, .int .i64 0, .slice (some ⟨vb, 0, none⟩) 1 1] w fun e w' => ∃ v', e = .returned v' ∧ w'.ownsRow B 90 lsE.k v' 1 (rowOf lsE [x]) ∧ w.grownBy w' none := by
  obtain ⟨i0, hi0, hz0, hz1, hz2⟩ := info_parts infoL3
  have HX1 := Lib.hid (lsE.one x)
  have HXl := Lib.hid (lsE.len x)
  have HNw := Lib.hid (news_of hx)
  rw [show rowOf lsE [x] = lsE.f x by rw [rowOf, rowOf, List.append_nil]]
  obtain ⟨X, hX⟩ : ∃ X, X = lsE.f x := ⟨_, rfl⟩
  rw [← hX] at HX1 HXl HNw ⊢
  clear hX hx
  go_enter Tryz.func93, Tryz.ntmps93
  go_wp2_with (at_builtin; refine wpList_append_own _ rfl _ _ 46 rfl B 90 i0 _ 5 48 Tryz.underlying46 hi0 hz0 hz1 hz2 rfl (by decide) _ _ _ rfl (World.ownsRow_nil _ _ _ _) ⟨vb, 0, none⟩ 1 1 X rfl HXl.out HNw.out HX1.out (by unfold maxLen; omega) (by omega) hB ?_)
  intro v' w4 hown hgrow _
  have HO4 := Lib.hid hown
  have HG := Lib.hid hgrow
  clear hown hgrow
  go_wp2
  go_ret
  exact ⟨_, rfl, HO4.out, HG.out⟩

theorem splice_fill {α : Type} (A Z X D : List α) (h : X.length + D.length ≤ Z.length) : splice (splice (A ++ Z) A.length X) (A.length + X.length) D = A ++ X ++ D ++ Z.drop (X.length + D.length) := by
  have e1 : splice (A ++ Z) A.length X = A ++ (X ++ Z.drop X.length) := by
    rw [splice, List.take_append_of_le_length (Nat.le_refl _), List.take_length, List.drop_append, List.drop_eq_nil_of_le (by omega), List.nil_append, Nat.add_sub_cancel_left]
  rw [e1, splice, List.take_append, List.take_of_length_le (by omega), Nat.add_sub_cancel_left, List.take_append_of_le_length (Nat.le_refl _), List.take_length, List.drop_append, List.drop_eq_nil_of_le (by omega), List.nil_append, show A.length + X.length + D.length - A.length = X.length + D.length by omega, List.drop_append, List.drop_eq_nil_of_le (by omega), List.nil_append, Nat.add_sub_cancel_left, List.drop_drop]
  simp [List.append_assoc, Nat.add_comm]
theorem nextcap_small (n c : Nat) (hn : n ≤ 64) (hc : c ≤ 64) : Builtin.nextslicecap n c ≤ 128 := by
  unfold Builtin.nextslicecap
  split
  · omega
  · split <;> omega

set_option maxHeartbeats 8000000 in
set_option maxRecDepth 100000 in
theorem insL_grow (B g c i vb : Nat) (l : List Ls) (x : Ls) (w : World) (hown : OwnAt lsE w B 90 g c l) (hl : l.length ≤ 20) (hi : i < l.length) (hroom : c < l.length + 1) (hB : B ≤ w.heap.size) (hx : w.heap[vb]? = some (.cells (lsE.f x).toArray 90 (0, 0))) :
    Calls Tryz.prog 93 #[.slice (some ⟨g, 0, none⟩) l.length c, .int .i64 i, .slice (some ⟨vb, 0, none⟩) 1 1] w fun e w' => ∃ v', e = .returned v' ∧ w'.ownsRow B 90 lsE.k v' (l.length + 1) (rowOf lsE (l.take i ++ x :: l.drop i)) ∧ w.grownBy w' (some g) := by
  obtain ⟨i0, hi0, hz0, hz1, hz2⟩ := info_parts infoL3
  have hle := hown.le
  have hgw := hown.lt
  have hvw : vb < w.heap.size := (Array.getElem?_eq_some_iff.1 hx).1
  have hA : (rowOf lsE (l.take i)).length = i * 5 := by rw [rowOf_len, List.length_take, Nat.min_eq_left (by omega)]; rfl
  have hDl : (rowOf lsE (l.drop i)).length = (l.length - i) * 5 := by rw [rowOf_len, List.length_drop]; rfl
  have hXl : (lsE.f x).length = 5 := lsE.len x
  obtain ⟨G, hG⟩ : ∃ G, G = grownCap w (l.length + 1) c 90 := ⟨_, rfl⟩
  have hGn : l.length + 1 ≤ G := by rw [hG]; exact grownCap_ge w _ _ _
  have hGM : G ≤ maxLen := by rw [hG]; exact grownCap_le_maxLen w _ _ _ (by unfold maxLen; omega)
  obtain ⟨Z, hZ⟩ : ∃ Z : List Value, Z = (Builtin.zeroCells (Value.agg #[.bool false, .int .u64 0, .int .u64 0, .string ⟨#[]⟩, .int .i64 0]).cells (l.length + 1 - i)).toList ++ (Builtin.zeroCells (Value.agg #[.bool false, .int .u64 0, .int .u64 0, .string ⟨#[]⟩, .int .i64 0]).cells (G - (l.length + 1))).toList := ⟨_, rfl⟩
  have hZl : Z.length = (G - i) * 5 := by
    rw [hZ, List.length_append, zero_len, zero_len]
    show (l.length + 1 - i) * 5 + (G - (l.length + 1)) * 5 = _
    omega
  obtain ⟨W1, hW1⟩ : ∃ W1, W1 = w.drew.alloc (.cells (rowOf lsE (l.take i) ++ Z).toArray 90) := ⟨_, rfl⟩
  have hold : (Builtin.firstCells i0.size i (.slice (some ⟨g, 0, none⟩) i c)).run Tryz.prog w.drew = .ok (rowOf lsE (l.take i)).toArray w.drew := by
    rw [hz1]
    have h := run_loadCells_list (P := Tryz.prog) w.drew ⟨g, 0, none⟩ (rowOf lsE (l.take i)) (hown.lies.take i).news
    rw [hA] at h
    exact h
  have hrz : ∀ ty, (Builtin.append_ #[46, 3] ty #[.slice (some ⟨g, 0, none⟩) i c, .int .i64 ((l.length : Int) + 1 - (i : Int))]).run Tryz.prog w = .ok (.slice (some ⟨w.heap.size, 0, none⟩) (l.length + 1) G) W1 := fun ty => by
    have h := Lib.run_append_grow_zeros (P := Tryz.prog) w 46 3 ty 90 i0 _ .i64 .i64 Tryz.underlying46 Tryz.underlying3 hi0 hz0 (some ⟨g, 0, none⟩) i c (rowOf lsE (l.take i)) hold (l.length + 1 - i) (by omega) (by omega) (by omega) (by omega) (by rw [hz2]; omega) (by rw [hz2, show i + (l.length + 1 - i) = l.length + 1 by omega]; have := nextcap_small (l.length + 1) c (by omega) (by omega); omega)
    rw [show i + (l.length + 1 - i) = l.length + 1 by omega, ← hG] at h
    have key : ∀ A1 A2 : Array Value, (rowOf lsE (l.take i)).toArray ++ A1 ++ A2 = (rowOf lsE (l.take i) ++ (A1.toList ++ A2.toList)).toArray := fun A1 A2 => by apply Array.ext'; simp
    rw [show (l.length : Int) + 1 - (i : Int) = ((l.length + 1 - i : Nat) : Int) by omega, h, hW1, hZ, key]
  have hb1 : W1.heap[w.heap.size]? = some (.cells (rowOf lsE (l.take i) ++ Z).toArray 90 (0, 0)) := by rw [hW1]; exact heap_alloc_new w.drew _
  have hbl : Below w.heap.size w W1 := by rw [hW1]; exact bal (Below.refl _ _).drew _
  obtain ⟨W2, hW2⟩ : ∃ W2, W2 = W1.setRow w.heap.size (splice (rowOf lsE (l.take i) ++ Z) (i * 5) (lsE.f x)).toArray := ⟨_, rfl⟩
  have hcp1 : ∀ ty, (Builtin.copy_ #[46, 46] ty #[.slice (some ⟨w.heap.size, i * 5, none⟩) (l.length + 1 - i) (G - i), .slice (some ⟨vb, 0, none⟩) 1 1]).run Tryz.prog W1 = .ok (.int .i64 1) W2 := fun ty => by
    have := run_copyK (P := Tryz.prog) W1 46 46 ty 90 5 w.heap.size (i * 5) (l.length + 1 - i) (G - i) ⟨vb, 0, none⟩ 1 1 (rowOf lsE (l.take i) ++ Z) 90 (lsE.f x) Tryz.underlying46 sizeL hb1 (by rw [hXl]; simp only [Nat.min_def]; split <;> omega) (news_of ((hbl.block vb hvw).trans hx)) (by rw [List.length_append, hA, hZl, hXl]; omega) (lsE.one x)
    rw [this, hW2, show Nat.min 1 (l.length + 1 - i) = 1 by simp only [Nat.min_def]; split <;> omega]
    rfl
  have hb2 : W2.heap[w.heap.size]? = some (.cells (splice (rowOf lsE (l.take i) ++ Z) (i * 5) (lsE.f x)).toArray 90 (0, 0)) := by rw [hW2]; exact setRow_heap W1 _ _ _ _ _ hb1
  have hbl2 : Below w.heap.size w W2 := by rw [hW2]; exact below_setRow hbl (Nat.le_refl _) _
  obtain ⟨W3, hW3⟩ : ∃ W3, W3 = W2.drew.setRow w.heap.size (splice (splice (rowOf lsE (l.take i) ++ Z) (i * 5) (lsE.f x)) ((i + 1) * 5) (rowOf lsE (l.drop i))).toArray := ⟨_, rfl⟩
  have hs1 : (splice (rowOf lsE (l.take i) ++ Z) (i * 5) (lsE.f x)).length = G * 5 := by rw [length_splice _ _ _ (by rw [List.length_append, hA, hZl, hXl]; omega), List.length_append, hA, hZl]; omega
  have hcp2 : ∀ ty, (Builtin.copy_ #[46, 46] ty #[.slice (some ⟨w.heap.size, (i + 1) * 5, none⟩) (l.length - i) (G - (i + 1)), .slice (some ⟨g, i * 5, none⟩) (l.length - i) (c - i)]).run Tryz.prog W2.drew = .ok (.int .i64 ((l.length - i : Nat) : Int)) W3 := fun ty => by
    have h := ((hown.lies.below hbl2.drew).drop i).news
    rw [show (0 : Nat) + i * lsE.k = i * 5 from by rw [Nat.zero_add]; rfl] at h
    have := run_copyK (P := Tryz.prog) W2.drew 46 46 ty 90 5 w.heap.size ((i + 1) * 5) (l.length - i) (G - (i + 1)) ⟨g, i * 5, none⟩ (l.length - i) (c - i) (splice (rowOf lsE (l.take i) ++ Z) (i * 5) (lsE.f x)) 90 (rowOf lsE (l.drop i)) Tryz.underlying46 sizeL hb2 (by rw [hDl]; congr 1; simp) h (by rw [hs1, hDl]; omega) (rowOf_one _ _)
    rw [this, hW3, show Nat.min (l.length - i) (l.length - i) = l.length - i by simp]
    rfl
  have HFin : Hid (W3.ownsRow B 90 lsE.k (.slice (some ⟨w.heap.size, 0, none⟩) (l.length + 1) G) (l.length + 1) (rowOf lsE (l.take i ++ x :: l.drop i)) ∧ w.grownBy W3 (some g)) := by
    have hlen : (l.take i ++ x :: l.drop i).length = l.length + 1 := by simp; omega
    have hf := splice_fill (rowOf lsE (l.take i)) Z (lsE.f x) (rowOf lsE (l.drop i)) (by rw [hXl, hDl, hZl]; omega)
    rw [hA, hXl, show i * 5 + 5 = (i + 1) * 5 by omega] at hf
    have hrw : rowOf lsE (l.take i) ++ lsE.f x ++ rowOf lsE (l.drop i) = rowOf lsE (l.take i ++ x :: l.drop i) := by rw [rowOf_append, rowOf, List.append_assoc]
    rw [hrw] at hf
    have h3 : W3.heap[w.heap.size]? = some (.cells (rowOf lsE (l.take i ++ x :: l.drop i) ++ Z.drop (5 + (rowOf lsE (l.drop i)).length)).toArray 90 (0, 0)) := by
      rw [hW3, ← hf]
      exact setRow_heap W2.drew _ _ _ _ _ hb2
    have h2 : OwnAt lsE W3 B 90 w.heap.size G (l.take i ++ x :: l.drop i) := ⟨hB, by rw [hlen]; exact hGn, hGM, _, h3, by
      rw [← hf, length_splice _ _ _ (by rw [hs1, hDl]; omega), hs1]; rfl⟩
    have h4 := h2.own
    rw [hlen] at h4
    refine ⟨h4, grown_below ?_⟩
    rw [hW3]
    exact below_setRow hbl2.drew (Nat.le_refl _) _
  clear hW1 hW2 hW3 hb1 hb2 hbl hbl2 hs1 hold hA hDl hXl hZ hZl hx hown hG
  generalize rowOf lsE (l.take i ++ x :: l.drop i) = F at *
  obtain ⟨N, hN⟩ : ∃ N, N = l.length := ⟨_, rfl⟩
  rw [← hN] at hl hi hroom hle hGn hrz hcp1 hcp2 HFin ⊢
  unfold maxLen at hGM
  have b1 : (0 : Int) ≤ (i : Int) := by omega
  have b2 : (i : Int) ≤ (N : Int) := by omega
  have b3 : (N : Int) ≤ (c : Int) := by omega
  have b4 : ((i : Int) == (N : Int)) = false := beq_eq_false_iff_ne.2 (by omega)
  have b5 : (c : Int) < (N : Int) + 1 := by omega
  have b7 : IntKind.i64.wrap ((N : Int) + 1) = (N : Int) + 1 := by rw [IntKind.wrap_i64]; omega
  have b8 : IntKind.i64.wrap ((i : Int) + 1) = (i : Int) + 1 := by rw [IntKind.wrap_i64]; omega
  have b9 : (i : Int) + 1 ≤ (N : Int) + 1 := by omega
  have b10 : (0 : Int) ≤ (i : Int) + 1 := by omega
  have b12 : (i : Int) ≤ (N : Int) + 1 := by omega
  have b13 : ¬ (G = i + 1) := by omega
  have b14 : ¬ (c = i) := by omega
  have b15 : ¬ (G = i) := by omega
  have b16 : (N : Int) + 1 ≤ (G : Int) := by omega
  have b17 : IntKind.i64.wrap ((N : Int) + 1 - (i : Int)) = (N : Int) + 1 - (i : Int) := by rw [IntKind.wrap_i64]; omega
  have b18 : (i : Int) ≤ (c : Int) := by omega
  clear hN
  go_enter Tryz.func93, Tryz.ntmps93
  go_wp2_with (at_builtin; refine Lib.wpList_append_run _ rfl _ _ 46 3 rfl _ _ rfl rfl _ _ (hrz _) ?_)
  go_region_held3 (fun w' => True) (trivial) (fail)
  go_wp2
  go_ret
  exact ⟨_, rfl, HFin.out.1, HFin.out.2⟩
end Go.Proofs.YtclnfkohlklbpaaGreat

namespace Go.Proofs.YtclnfkohlklbpaaGreat
open Go.RowKit Go.Shelf

/-- Who grants, in memory. -/
def GrAt (w : World) (gb : Nat) (p : Pf) (ks lv : Value) : Prop := w.heap[gb]? = some (.cells #[.bool p.v, .int .u64 p.hi, .int .u64 p.lo, .int .i64 p.b, ks, lv] 136 (0, 0))
theorem GrAt.lt {w : World} {gb : Nat} {p : Pf} {ks lv : Value} (h : GrAt w gb p ks lv) : gb < w.heap.size := (Array.getElem?_eq_some_iff.1 h).1
theorem GrAt.cells {w : World} {gb : Nat} {p : Pf} {ks lv : Value} (h : GrAt w gb p ks lv) : (w.cell? ⟨gb, 0, none⟩ = some (.bool p.v) ∧ w.cell? ⟨gb, 1, none⟩ = some (.int .u64 p.hi) ∧ w.cell? ⟨gb, 2, none⟩ = some (.int .u64 p.lo) ∧ w.cell? ⟨gb, 3, none⟩ = some (.int .i64 p.b) ∧ w.cell? ⟨gb, 4, none⟩ = some ks ∧ w.cell? ⟨gb, 5, none⟩ = some lv) ∧ w.frozen? ⟨gb, 5, none⟩ = false := by
  unfold GrAt at h
  exact ⟨⟨by simp [World.cell?, h], by simp [World.cell?, h], by simp [World.cell?, h], by simp [World.cell?, h], by simp [World.cell?, h], by simp [World.cell?, h]⟩, by simp [World.frozen?, h]⟩
theorem GrAt.below {w w' : World} {gb : Nat} {p : Pf} {ks lv : Value} (h : GrAt w gb p ks lv) (hb : Below w.heap.size w w') : GrAt w' gb p ks lv := (hb.block gb h.lt).trans h
theorem GrAt.far {w w' : World} {gb : Nat} {p : Pf} {ks lv : Value} {row : Option Nat} (h : GrAt w gb p ks lv) (hg : w.grownBy w' row) (hr : row ≠ some gb) : GrAt w' gb p ks lv := (hg.block gb h.lt (fun e => hr e.symm)).trans h
theorem GrAt.put {w : World} {gb : Nat} {p : Pf} {ks lv : Value} (h : GrAt w gb p ks lv) (lv' : Value) : GrAt (w.setCell ⟨gb, 5, none⟩ lv') gb p ks lv' := by
  unfold GrAt at *
  rw [heap_setCell_same w gb 5 _ _ lv' h]
  rfl
/-- A row of leases lies elsewhere. -/
theorem GrAt.apart {w : World} {gb : Nat} {p : Pf} {ks lv : Value} (h : GrAt w gb p ks lv) {B : Nat} {v : Value} {l : List Ls} (ho : w.ownsRow B 90 lsE.k v l.length (rowOf lsE l)) : v.ownBlock ≠ some gb := by
  intro e
  rcases ho.2 with ⟨rfl, _⟩ | ⟨g, c, cur, rfl, _, hg, _⟩
  · simp [Value.ownBlock] at e
  · simp [Value.ownBlock] at e
    subst e
    unfold GrAt at h
    rw [hg] at h
    simp at h
/-- Worlds that part in two blocks alone, and in what is new. -/
structure Far (w w' : World) (p : Nat) (row : Option Nat) : Prop where
  os : w'.os = w.os
  tape : w'.tape = w.tape
  output : w'.output = w.output
  size : w.heap.size ≤ w'.heap.size
  block : ∀ k, k < w.heap.size → k ≠ p → some k ≠ row → w'.heap[k]? = w.heap[k]?
theorem Far.upto {w w' : World} {p B : Nat} {row : Option Nat} (h : Far w w' p row) (hp : B ≤ p) (hr : ∀ k, row = some k → B ≤ k) (hB : B ≤ w.heap.size) : Below B w w' :=
  ⟨h.os, h.tape, h.output, h.size, fun k hk => h.block k (by omega) (by omega) (fun e => by have := hr k e.symm; omega)⟩
theorem ownBlock_slice (g n c : Nat) : (Value.slice (some ⟨g, 0, none⟩) n c).ownBlock = some g := rfl

/-- Insert, whatever row it is. -/
theorem insL_any (B i vb : Nat) (lv : Value) (l : List Ls) (x : Ls) (w : World) (hown : w.ownsRow B 90 lsE.k lv l.length (rowOf lsE l)) (hl : l.length ≤ 20) (hi : i ≤ l.length) (hB : B ≤ w.heap.size) (hx : w.heap[vb]? = some (.cells (lsE.f x).toArray 90 (0, 0))) (hne : lv.ownBlock ≠ some vb) :
    Calls Tryz.prog 93 #[lv, .int .i64 i, .slice (some ⟨vb, 0, none⟩) 1 1] w fun e w' => ∃ g' c', e = .returned (.slice (some ⟨g', 0, none⟩) (l.length + 1) c') ∧ w'.ownsRow B 90 lsE.k (.slice (some ⟨g', 0, none⟩) (l.length + 1) c') (l.length + 1) (rowOf lsE (l.take i ++ x :: l.drop i)) ∧ w.grownBy w' lv.ownBlock := by
  have fin : ∀ {R : List Value} {w' : World} {v' : Value}, w'.ownsRow B 90 lsE.k v' (l.length + 1) R → ∃ g' c', v' = .slice (some ⟨g', 0, none⟩) (l.length + 1) c' := fun h => by
    rcases h.2 with ⟨_, e⟩ | ⟨g, c, cur, e, _⟩
    · omega
    · exact ⟨g, c, e⟩
  rcases own_form hown with ⟨rfl, rfl⟩ | ⟨g, c, rfl, ho⟩
  · obtain rfl : i = 0 := by simpa using hi
    refine (insL_nil B vb x w hB hx).mono ?_
    rintro e w' ⟨v', rfl, h1, h2⟩
    obtain ⟨g', c', rfl⟩ := fin h1
    exact ⟨g', c', rfl, h1, h2⟩
  · have hvg : vb ≠ g := fun e => hne (by rw [e]; rfl)
    rw [ownBlock_slice]
    by_cases he : i = l.length
    · subst he
      refine (insL_end B g c vb l x w ho hl hB hx).mono ?_
      rintro e w' ⟨v', rfl, h1, h2⟩
      obtain ⟨g', c', rfl⟩ := fin h1
      rw [List.take_length, List.drop_length]
      exact ⟨g', c', rfl, h1, h2⟩
    · by_cases hr : l.length + 1 ≤ c
      · refine (insL_shift B g c i vb l x w ho hl (by omega) hr hx hvg).mono ?_
        rintro e w' ⟨v', rfl, h1, h2⟩
        obtain ⟨g', c', rfl⟩ := fin h1
        exact ⟨g', c', rfl, h1, h2⟩
      · refine (insL_grow B g c i vb l x w ho hl (by omega) (by omega) hB hx).mono ?_
        rintro e w' ⟨v', rfl, h1, h2⟩
        obtain ⟨g', c', rfl⟩ := fin h1
        exact ⟨g', c', rfl, h1, h2⟩

theorem put1_any (q : Nat) (x y : Ls) (w : World) (hq : Has5 w q (.bool x.a.v) (.int .u64 x.a.hi) (.int .u64 x.a.lo) (.string x.who) (.int .i64 x.un)) :
    Calls Tryz.prog 111 #[.agg #[.bool y.a.v, .int .u64 y.a.hi, .int .u64 y.a.lo, .string y.who, .int .i64 y.un], .pointer (some ⟨q, 0, none⟩)] w fun e w' => e = .returned (.bool (x.a.less y.a)) ∧ Below w.heap.size w w' := by
  have HB := Lib.hid (bal (Below.refl w.heap.size w) (.cells #[.bool y.a.v, .int .u64 y.a.hi, .int .u64 y.a.lo, .string y.who, .int .i64 y.un] 90))
  obtain ⟨q0, q1, q2, _, _, q5⟩ := hq.alloc (.cells #[.bool y.a.v, .int .u64 y.a.hi, .int .u64 y.a.lo, .string y.who, .int .i64 y.un] 90)
  have hC : Hid (∀ w : World, Calls Tryz.prog 37 #[.agg #[.bool x.a.v, .int .u64 x.a.hi, .int .u64 x.a.lo], .agg #[.bool y.a.v, .int .u64 y.a.hi, .int .u64 y.a.lo]] w fun e w' => e = .returned (.bool (x.a.less y.a)) ∧ Below w.heap.size w w') :=
    fun w => oless_any x.a.v y.a.v x.a.hi x.a.lo y.a.hi y.a.lo w x.a.ok.1.1 x.a.ok.2.1 y.a.ok.1.1 y.a.ok.2.1
  generalize x.a.less y.a = r at *
  generalize x.a.v = v at *
  generalize x.a.hi = hi at *
  generalize x.a.lo = lo at *
  generalize y.a.v = u at *
  generalize y.a.hi = yi at *
  generalize y.a.lo = yo at *
  generalize y.who = who at *
  generalize y.un = un at *
  clear hq
  go_enter Tryz.func111, Tryz.ntmps111
  go_wp2_with fail
  refine (hC.out _).mono ?_
  rintro e w2 ⟨rfl, hb⟩
  have HB2 := Lib.hid (btr HB.out hb)
  clear hb
  go_wp2
  go_ret
  exact ⟨rfl, HB2.out⟩
theorem enters_put1 : ∀ args w, (callFunc 111 args).run Tryz.prog w = .ok (.enter 111 args) w := enters_of Tryz.func111 (by kernel_rfl) rfl

/-- Where a lease belongs. -/
def spotOf (x : Ls) (l : List Ls) : Nat := (l.findIdx? (fun y => x.a.less y.a)).getD l.length
def insOf (x : Ls) (l : List Ls) : List Ls := l.take (spotOf x l) ++ x :: l.drop (spotOf x l)
theorem spot_le (x : Ls) (l : List Ls) : spotOf x l ≤ l.length := by
  unfold spotOf
  cases h : l.findIdx? (fun y => x.a.less y.a) with
  | none => exact Nat.le_refl _
  | some i =>
    obtain ⟨hi, _⟩ := List.findIdx?_eq_some_iff_getElem.1 h
    exact Nat.le_of_lt hi
end Go.Proofs.YtclnfkohlklbpaaGreat

namespace Go.Proofs.YtclnfkohlklbpaaGreat
open Go.RowKit Go.Shelf

theorem own_lies {α : Type} {E : Enc α} {w : World} {B t : Nat} {v : Value} {l : List α} (h : w.ownsRow B t E.k v l.length (rowOf E l)) : ∃ a c, v = .slice a l.length c ∧ Lies E w a l := by
  rcases own_form h with ⟨rfl, rfl⟩ | ⟨g, c, rfl, ho⟩
  · exact ⟨none, 0, rfl, Lies.nil _ _ _⟩
  · exact ⟨_, c, rfl, ho.lies⟩
theorem own_far {α : Type} {E : Enc α} {w : World} {B t n : Nat} {v : Value} {R : List Value} (h : w.ownsRow B t E.k v n R) (a : Addr) (ha : v.ownBlock ≠ some a.block) (u : Value) : (w.setCell a u).ownsRow B t E.k v n R := by
  refine h.kept (row := some a.block) ⟨rfl, rfl, rfl, by simp, fun k hk hn => heap_setCell_other w a k u (fun e => hn (by rw [e]))⟩ (.inr ha)
theorem far_mk {w w1 w2 : World} {gb : Nat} {row : Option Nat} (h1 : w.grownBy w1 row) (hg : gb < w.heap.size) (u : Value) (e : w2 = w1.setCell ⟨gb, 5, none⟩ u) : Far w w2 gb row := by
  subst e
  exact ⟨h1.os, h1.tape, h1.output, by simpa using h1.size, fun k hk hp hr => (heap_setCell_other w1 ⟨gb, 5, none⟩ k u hp).trans (h1.block k hk hr)⟩

theorem enters_ins : ∀ args w, (callFunc 93 args).run Tryz.prog w = .ok (.enter 93 args) w := enters_of Tryz.func93 (by kernel_rfl) rfl
/-- A call of a Go function as one step of a region that draws. -/
theorem step_call {P : Program} {ops : Array Oper} {o : Oper} {a : Act} {w : World} {K : Act → World → Prop} {Q : Exit → Act → World → Prop} {E : Prop} (hgd : o.guard = none) (f : Nat) (xs : Array Operand) (ts : Array TypeId)
    (ho : o.op = .call { callee := .value (.func f), args := xs, argTypes := ts }) (ef : ∀ args w, (callFunc f args).run P w = .ok (.enter f args) w) (vs : Array Value) (hv : xs.map a.eval = vs) {R : Ending → World → Prop} (hc : Calls P f vs w R)
    (h : ∀ e w', R e w' → ∃ v, e = .returned v ∧ K (a.put o.dst v) w') : if Region.wanted o (yielded ops a.tmps) = true then Oper.wp P o a w K Q else E := by
  have hw : Region.wanted o (yielded ops a.tmps) = true := by simp [Region.wanted, hgd]
  rw [if_pos hw]
  have hrun : (execOp a.eval o).run P w = .ok (.enter f vs) w := by
    subst hv
    simp [execOp, ho, resolve, invoke, ef, Act.eval, Deferred.ofValue]
  unfold Oper.wp
  rw [hrun]
  simp only [Oper.upon]
  refine hc.mono fun e w' he => ?_
  obtain ⟨v, rfl, hk⟩ := h e w' he
  exact hk

set_option maxHeartbeats 16000000 in
set_option maxRecDepth 100000 in
theorem put_any (gb : Nat) (p : Pf) (ks lv : Value) (x : Ls) (l : List Ls) (w : World) (B : Nat) (hg : GrAt w gb p ks lv) (hown : w.ownsRow B 90 lsE.k lv l.length (rowOf lsE l)) (hl : l.length ≤ 20) (hB : B ≤ w.heap.size) :
    Calls Tryz.prog 105 #[.pointer (some ⟨gb, 0, none⟩), .agg #[.bool x.a.v, .int .u64 x.a.hi, .int .u64 x.a.lo, .string x.who, .int .i64 x.un]] w fun e w' => (∃ v, e = .returned v) ∧ ∃ lv', GrAt w' gb p ks lv' ∧ w'.ownsRow B 90 lsE.k lv' (l.length + 1) (rowOf lsE (insOf x l)) ∧ Far w w' gb lv.ownBlock := by
  have hap := hg.apart hown
  obtain ⟨a0, c0, rfl, hlies⟩ := own_lies hown
  obtain ⟨W1, hW1⟩ : ∃ W1, W1 = w.alloc (.cells #[.bool x.a.v, .int .u64 x.a.hi, .int .u64 x.a.lo, .string x.who, .int .i64 x.un] 90) := ⟨_, rfl⟩
  have hB1 : Below w.heap.size w W1 := by rw [hW1]; exact bal (Below.refl w.heap.size w) _
  have hQ : Has5 W1 w.heap.size (.bool x.a.v) (.int .u64 x.a.hi) (.int .u64 x.a.lo) (.string x.who) (.int .i64 x.un) := by rw [hW1]; exact Has5.new w _ _ _ _ _ _
  have HI := Lib.hid (ifnL_any a0 c0 l W1 111 #[.pointer (some ⟨w.heap.size, 0, none⟩)] (fun y => x.a.less y.a) (by omega) (hlies.below hB1) enters_put1 (fun W y hy hb => (put1_any w.heap.size x y W (hQ.below hb)).mono fun e w' h => ⟨h.1, btr hb h.2⟩))
  obtain ⟨⟨_, _, _, _, _, g5⟩, gf⟩ := hg.cells
  have hgw := hg.lt
  have HG1 := Lib.hid (hg.below hB1)
  obtain ⟨g1, f1⟩ : W1.cell? ⟨gb, 5, none⟩ = some (.slice a0 l.length c0) ∧ W1.frozen? ⟨gb, 5, none⟩ = false := ⟨by rw [(bcell hB1).1 _ _ hgw]; exact g5, by rw [(bcell hB1).2 _ _ hgw]; exact gf⟩
  have HIns : Hid (∀ (W : World) (vb : Nat), Below w.heap.size w W → W.heap[vb]? = some (.cells (lsE.f x).toArray 90 (0, 0)) → w.heap.size ≤ vb → Calls Tryz.prog 93 #[.slice a0 l.length c0, .int .i64 (spotOf x l), .slice (some ⟨vb, 0, none⟩) 1 1] W fun e w' => ∃ g' c', e = .returned (.slice (some ⟨g', 0, none⟩) (l.length + 1) c') ∧ w'.ownsRow B 90 lsE.k (.slice (some ⟨g', 0, none⟩) (l.length + 1) c') (l.length + 1) (rowOf lsE (insOf x l)) ∧ W.grownBy w' (Value.slice a0 l.length c0).ownBlock) := by
    intro W vb hb hx hv
    exact insL_any B (spotOf x l) vb _ l x W (own_keep hown hb) hl (spot_le x l) (by have := hb.size; omega) hx (fun e => by have := (hown.lt vb e).2; omega)
  have HAp := Lib.hid hap
  have HB1 := Lib.hid hB1
  have HGa : Hid (∀ (W : World) (g' c' : Nat), W.ownsRow B 90 lsE.k (.slice (some ⟨g', 0, none⟩) (l.length + 1) c') (l.length + 1) (rowOf lsE (insOf x l)) → GrAt W gb p ks (.slice a0 l.length c0) → g' ≠ gb) := fun W g' c' h1 h2 e => by
    have hlen : (insOf x l).length = l.length + 1 := by unfold insOf; have := spot_le x l; simp; omega
    rw [← hlen] at h1
    exact h2.apart h1 (by rw [e]; rfl)
  rw [hW1] at HI g1 f1 HG1 HB1 hQ
  clear hW1 hB1 hown hlies hg g5 gf hap W1
  have hcase : (idxI (l.findIdx? (fun y => x.a.less y.a)) = -1 ∧ spotOf x l = l.length) ∨ idxI (l.findIdx? (fun y => x.a.less y.a)) = (spotOf x l : Int) := by
    unfold spotOf
    cases l.findIdx? (fun y => x.a.less y.a) with
    | none => exact .inl ⟨rfl, rfl⟩
    | some i => exact .inr rfl
  have HX0 : Hid (lsE.f x = [.bool x.a.v, .int .u64 x.a.hi, .int .u64 x.a.lo, .string x.who, .int .i64 x.un]) := rfl
  generalize lsE.f x = X at *
  generalize rowOf lsE (insOf x l) = R at *
  have hsp := spot_le x l
  generalize spotOf x l = sp at *
  generalize idxI (l.findIdx? (fun y => x.a.less y.a)) = ix at *
  obtain ⟨N, hN⟩ : ∃ N, N = l.length := ⟨_, rfl⟩
  rw [← hN] at HI HIns hl hcase hsp g1 HGa HG1 HAp ⊢
  clear hN
  generalize x.a.v = v at *
  generalize x.a.hi = hi at *
  generalize x.a.lo = lo at *
  generalize x.who = who at *
  generalize x.un = un at *
  have HX := Lib.hid hQ
  clear hQ
  rcases hcase with ⟨rfl, rfl⟩ | rfl
  · have hdn : ((-1 : Int) < 0) := by decide
    go_enter Tryz.func105, Tryz.ntmps105
    go_wp2_with fail
    refine HI.out.mono ?_
    rintro e w3 ⟨rfl, hb⟩
    have HG3 := Lib.hid (HG1.out.below hb)
    have HB3 := Lib.hid (btr HB1.out hb)
    have HX3 := Lib.hid (HX.out.below hb)
    obtain ⟨⟨_, _, _, _, _, g3⟩, f3⟩ := HG3.out.cells
    obtain ⟨x0, x1, x2, x3, x4, x5⟩ := HX3.out
    clear hb g1 f1 HI HG1 HB1 HX HX3
    have hg3 : (w3.alloc (.cells #[.bool v, .int .u64 hi, .int .u64 lo, .string who, .int .i64 un] 90)).cell? ⟨gb, 5, none⟩ = some (.slice a0 sp c0) := by rw [(bcell (bal (Below.refl w3.heap.size w3) _)).1 _ _ HG3.out.lt]; exact g3
    have HC := Lib.hid (HIns.out (w3.alloc (.cells #[.bool v, .int .u64 hi, .int .u64 lo, .string who, .int .i64 un] 90)).drew w3.heap.size (bal HB3.out _).drew (by rw [HX0.out]; exact heap_alloc_new w3 _) HB3.out.size)
    have HG4 : Hid (GrAt (w3.alloc (.cells #[.bool v, .int .u64 hi, .int .u64 lo, .string who, .int .i64 un] 90)).drew gb p ks (.slice a0 sp c0)) := HG3.out.below (bal (Below.refl w3.heap.size w3) (.cells #[.bool v, .int .u64 hi, .int .u64 lo, .string who, .int .i64 un] 90)).drew
    have HB4 : Hid (Below w.heap.size w (w3.alloc (.cells #[.bool v, .int .u64 hi, .int .u64 lo, .string who, .int .i64 un] 90)).drew) := (bal HB3.out (.cells #[.bool v, .int .u64 hi, .int .u64 lo, .string who, .int .i64 un] 90)).drew
    have g3d : w3.drew.cell? ⟨gb, 5, none⟩ = some (.slice a0 sp c0) := g3
    obtain ⟨y0, y1, y2, y3, y4⟩ : w3.drew.cell? ⟨w.heap.size, 0, none⟩ = some (.bool v) ∧ w3.drew.cell? ⟨w.heap.size, 1, none⟩ = some (.int .u64 hi) ∧ w3.drew.cell? ⟨w.heap.size, 2, none⟩ = some (.int .u64 lo) ∧ w3.drew.cell? ⟨w.heap.size, 3, none⟩ = some (.string who) ∧ w3.drew.cell? ⟨w.heap.size, 4, none⟩ = some (.int .i64 un) := ⟨x0, x1, x2, x3, x4⟩
    clear HIns HX0 HB3
    go_wp2_with fail
    go_region_law ((refine step_call (by rfl) 93 _ _ (by rfl) enters_ins _ (by simp [Act.eval]) HC.out ?_; rintro e w5 ⟨g', c', rfl, ho, hgr⟩; refine ⟨_, rfl, ?_⟩; have HG5 := Lib.hid (HG4.out.far hgr HAp.out); have HO5 := Lib.hid ho; have HF5 := Lib.hid hgr; obtain ⟨⟨_, _, _, _, _, g5⟩, f5⟩ := HG5.out.cells; clear ho hgr HC))
    all_goals go_wp2_with fail
    all_goals go_end0
    all_goals exact ⟨⟨_, rfl⟩, _, HG5.out.put _, own_far (E := lsE) HO5.out ⟨gb, 5, none⟩ (by have := HGa.out _ _ _ HO5.out HG5.out; simpa [Value.ownBlock] using this) _, far_mk ((grown_below HB4.out).trans HF5.out) hgw _ rfl⟩
  · have hdn : decide ((sp : Int) < 0) = false := decide_eq_false (by omega)
    go_enter Tryz.func105, Tryz.ntmps105
    go_wp2_with fail
    refine HI.out.mono ?_
    rintro e w3 ⟨rfl, hb⟩
    have HG3 := Lib.hid (HG1.out.below hb)
    have HB3 := Lib.hid (btr HB1.out hb)
    have HX3 := Lib.hid (HX.out.below hb)
    obtain ⟨⟨_, _, _, _, _, g3⟩, f3⟩ := HG3.out.cells
    obtain ⟨x0, x1, x2, x3, x4, x5⟩ := HX3.out
    clear hb g1 f1 HI HG1 HB1 HX HX3
    have hg3 : (w3.alloc (.cells #[.bool v, .int .u64 hi, .int .u64 lo, .string who, .int .i64 un] 90)).cell? ⟨gb, 5, none⟩ = some (.slice a0 N c0) := by rw [(bcell (bal (Below.refl w3.heap.size w3) _)).1 _ _ HG3.out.lt]; exact g3
    have HC := Lib.hid (HIns.out (w3.alloc (.cells #[.bool v, .int .u64 hi, .int .u64 lo, .string who, .int .i64 un] 90)).drew w3.heap.size (bal HB3.out _).drew (by rw [HX0.out]; exact heap_alloc_new w3 _) HB3.out.size)
    have HG4 : Hid (GrAt (w3.alloc (.cells #[.bool v, .int .u64 hi, .int .u64 lo, .string who, .int .i64 un] 90)).drew gb p ks (.slice a0 N c0)) := HG3.out.below (bal (Below.refl w3.heap.size w3) (.cells #[.bool v, .int .u64 hi, .int .u64 lo, .string who, .int .i64 un] 90)).drew
    have HB4 : Hid (Below w.heap.size w (w3.alloc (.cells #[.bool v, .int .u64 hi, .int .u64 lo, .string who, .int .i64 un] 90)).drew) := (bal HB3.out (.cells #[.bool v, .int .u64 hi, .int .u64 lo, .string who, .int .i64 un] 90)).drew
    have g3d : w3.drew.cell? ⟨gb, 5, none⟩ = some (.slice a0 N c0) := g3
    obtain ⟨y0, y1, y2, y3, y4⟩ : w3.drew.cell? ⟨w.heap.size, 0, none⟩ = some (.bool v) ∧ w3.drew.cell? ⟨w.heap.size, 1, none⟩ = some (.int .u64 hi) ∧ w3.drew.cell? ⟨w.heap.size, 2, none⟩ = some (.int .u64 lo) ∧ w3.drew.cell? ⟨w.heap.size, 3, none⟩ = some (.string who) ∧ w3.drew.cell? ⟨w.heap.size, 4, none⟩ = some (.int .i64 un) := ⟨x0, x1, x2, x3, x4⟩
    clear HIns HX0 HB3
    go_wp2_with fail
    go_region_law ((refine step_call (by rfl) 93 _ _ (by rfl) enters_ins _ (by simp [Act.eval]) HC.out ?_; rintro e w5 ⟨g', c', rfl, ho, hgr⟩; refine ⟨_, rfl, ?_⟩; have HG5 := Lib.hid (HG4.out.far hgr HAp.out); have HO5 := Lib.hid ho; have HF5 := Lib.hid hgr; obtain ⟨⟨_, _, _, _, _, g5⟩, f5⟩ := HG5.out.cells; clear ho hgr HC))
    all_goals go_wp2_with fail
    all_goals go_end0
    all_goals exact ⟨⟨_, rfl⟩, _, HG5.out.put _, own_far (E := lsE) HO5.out ⟨gb, 5, none⟩ (by have := HGa.out _ _ _ HO5.out HG5.out; simpa [Value.ownBlock] using this) _, far_mk ((grown_below HB4.out).trans HF5.out) hgw _ rfl⟩
end Go.Proofs.YtclnfkohlklbpaaGreat

namespace Go.Proofs.YtclnfkohlklbpaaGreat
open Go.RowKit Go.Shelf

/-- Are two addresses the same? -/
def sameA (x y : Ad) : Bool := (x.v == y.v) && ((x.hi == y.hi) && (x.lo == y.lo))
theorem sameA_iff (x y : Ad) : sameA x y = true ↔ x = y := by
  unfold sameA
  simp only [Bool.and_eq_true, beq_iff_eq]
  constructor
  · rintro ⟨a, b, c⟩; exact Ad.same a b c
  · rintro rfl; exact ⟨rfl, rfl, rfl⟩
theorem sameA_run (w : World) (x y : Ad) : (binOp .eql 38 (.agg #[.bool x.v, .int .u64 x.hi, .int .u64 x.lo]) (.agg #[.bool y.v, .int .u64 y.hi, .int .u64 y.lo])).run Tryz.prog w = .ok (.bool (sameA x y)) w := by
  unfold sameA
  generalize x.v = v
  generalize x.hi = hi
  generalize x.lo = lo
  generalize y.v = v'
  generalize y.hi = hi'
  generalize y.lo = lo'
  cases h1 : v == v' <;> cases h2 : hi == hi' <;> cases h3 : lo == lo' <;> simp [go_sem, h1, h2, h3]
theorem idx_any {α : Type} (f : α → Bool) (l : List α) : decide ((0 : Int) ≤ idxI (l.findIdx? f)) = l.any f := by
  cases h : l.findIdx? f with
  | none =>
    have := List.findIdx?_eq_none_iff.1 h
    rw [show l.any f = false from List.any_eq_false.2 fun x hx => by rw [this x hx]; simp]
    rfl
  | some i =>
    obtain ⟨hi, hp, _⟩ := List.findIdx?_eq_some_iff_getElem.1 h
    rw [show l.any f = true from List.any_eq_true.2 ⟨_, List.getElem_mem hi, hp⟩]
    simp [idxI]
theorem keepI {W W' : World} {g o q : Nat} {x0 x1 x2 y0 y1 y2 : Value}
    (h : (W.cell? ⟨g, o, none⟩ = some x0 ∧ W.cell? ⟨g, o + 1, none⟩ = some x1 ∧ W.cell? ⟨g, o + 2, none⟩ = some x2) ∧ (W.cell? ⟨q, 0, none⟩ = some y0 ∧ W.cell? ⟨q, 1, none⟩ = some y1 ∧ W.cell? ⟨q, 2, none⟩ = some y2)) (e : W' = W.drew) :
    (W'.cell? ⟨g, o, none⟩ = some x0 ∧ W'.cell? ⟨g, o + 1, none⟩ = some x1 ∧ W'.cell? ⟨g, o + 2, none⟩ = some x2) ∧ (W'.cell? ⟨q, 0, none⟩ = some y0 ∧ W'.cell? ⟨q, 1, none⟩ = some y1 ∧ W'.cell? ⟨q, 2, none⟩ = some y2) := by
  subst e
  exact h

set_option maxHeartbeats 8000000 in
set_option maxRecDepth 100000 in
theorem idxA_any (a : Option Addr) (c : Nat) (l : List Ad) (x : Ad) (w : World) (hl : l.length ≤ 1000) (hs : Lies adE w a l) :
    Calls Tryz.prog 84 #[.slice a l.length c, .agg #[.bool x.v, .int .u64 x.hi, .int .u64 x.lo]] w fun e w' => e = .returned (.int .i64 (idxI (l.findIdx? (sameA x)))) ∧ Below w.heap.size w w' := by
  have HX0 := Lib.hid (Has3.new w (.bool x.v) (.int .u64 x.hi) (.int .u64 x.lo) 38)
  have HB0 := Lib.hid (bal (Below.refl w.heap.size w) (.cells #[.bool x.v, .int .u64 x.hi, .int .u64 x.lo] 38))
  have HL := Lib.hid hs
  obtain ⟨R, hR⟩ : ∃ R, R = idxI (l.findIdx? (sameA x)) := ⟨_, rfl⟩
  rw [← hR]
  have HR := Lib.hid hR
  obtain ⟨N, hN⟩ : ∃ N, N = l.length := ⟨_, rfl⟩
  rw [← hN] at hl ⊢
  have HN := Lib.hid hN
  have hEq : Hid (∀ (W : World) (y : Ad), (binOp .eql 38 (.agg #[.bool x.v, .int .u64 x.hi, .int .u64 x.lo]) (.agg #[.bool y.v, .int .u64 y.hi, .int .u64 y.lo])).run Tryz.prog W = .ok (.bool (sameA x y)) W) := fun W y => sameA_run W x y
  clear hs hR hN
  generalize hxv : x.v = v at *
  generalize hxh : x.hi = hi at *
  generalize hxl : x.lo = lo at *
  clear hxv hxh hxl
  go_enter Tryz.func84, Tryz.ntmps84
  go_wp2_with fail
  go_loopw [8] (fun vi wr => ∃ k : Nat, vi = .int .i64 k ∧ k ≤ N ∧ Hid (Has3 wr w.heap.size (.bool v) (.int .u64 hi) (.int .u64 lo)) ∧ Hid (Below w.heap.size w wr) ∧ Hid (∀ j (hj : j < k) (hl : j < l.length), sameA x l[j] = false))
    (fun vi _ => N - (intOf vi).toNat)
  case atStart => exact ⟨0, rfl, Nat.zero_le _, HX0, HB0, fun j hj => absurd hj (Nat.not_lt_zero _)⟩
  case round =>
    clear HX0 HB0
    obtain ⟨k, rfl, hk, HX, HB, hh⟩ := hrel
    by_cases hkN : k < N
    · have hkl : k < l.length := by have := HN.out; omega
      obtain ⟨g, o, rfl, hg, c0, c1, c2⟩ := HL.out.ad k hkl
      rw [← (bcell HB.out).1 _ _ hg] at c0 c1 c2
      have hkz : (k : Int) < (N : Int) := by omega
      have hk0 : (0 : Int) ≤ (k : Int) := by omega
      have HQ : Hid (∀ b, sameA x l[k] = b → (b = true → R = k) ∧ (b = false → ∀ j (hj : j < k + 1) (hl : j < l.length), sameA x l[j] = false)) := by
        intro b hb
        refine ⟨fun e => ?_, fun e j hj hl => ?_⟩
        · rw [HR.out, find_hit hkl (hb.trans e) (fun j hj => hh.out j hj (by omega))]; rfl
        · by_cases hjk : j = k
          · subst hjk; exact hb.trans e
          · exact hh.out j (by omega) hl
      have hEk := fun W => hEq.out W l[k]
      have HSd := Lib.hid (keepI (W := wr) ⟨⟨c0, c1, c2⟩, ⟨HX.out.1, HX.out.2.1, HX.out.2.2.1⟩⟩ rfl)
      have HQ2 := Lib.hid (HQ.out _ rfl)
      generalize sameA x l[k] = q at *
      generalize l[k].v = v' at *
      generalize l[k].hi = hi' at *
      generalize l[k].lo = lo' at *
      clear hh hg c0 c1 c2 HQ
      cases q
      · have HE := Lib.hid (HQ2.out.2 rfl)
        clear HQ2
        go_wp2_with fail
        go_region_held3 (fun w' => (w'.cell? ⟨g, o + k * 3, none⟩ = some (.bool v') ∧ w'.cell? ⟨g, o + k * 3 + 1, none⟩ = some (.int .u64 hi') ∧ w'.cell? ⟨g, o + k * 3 + 2, none⟩ = some (.int .u64 lo')) ∧ (w'.cell? ⟨w.heap.size, 0, none⟩ = some (.bool v) ∧ w'.cell? ⟨w.heap.size, 1, none⟩ = some (.int .u64 hi) ∧ w'.cell? ⟨w.heap.size, 2, none⟩ = some (.int .u64 lo)))
          (first | with_reducible exact HSd.out | fail) (fail)
        go_wp2_with fail
        go_roundw
        case rel => exact ⟨k + 1, by go_num, by omega, HX.out.drew, HB.out.drew, HE⟩
        case measure => simp [intOf]; omega
      · have HE := Lib.hid (HQ2.out.1 rfl)
        clear HQ2
        go_wp2_with fail
        go_region_held3 (fun w' => (w'.cell? ⟨g, o + k * 3, none⟩ = some (.bool v') ∧ w'.cell? ⟨g, o + k * 3 + 1, none⟩ = some (.int .u64 hi') ∧ w'.cell? ⟨g, o + k * 3 + 2, none⟩ = some (.int .u64 lo')) ∧ (w'.cell? ⟨w.heap.size, 0, none⟩ = some (.bool v) ∧ w'.cell? ⟨w.heap.size, 1, none⟩ = some (.int .u64 hi) ∧ w'.cell? ⟨w.heap.size, 2, none⟩ = some (.int .u64 lo)))
          (first | with_reducible exact HSd.out | fail) (fail)
        go_wp2_with fail
        go_ret
        exact ⟨congrArg (fun r => Ending.returned (Value.int .i64 r)) HE.out.symm, HB.out.drew⟩
    · obtain rfl : k = N := by omega
      have hkk : ¬ (k : Int) < (k : Int) := by omega
      have HE : Hid (R = -1) := by rw [Hid, HR.out, find_miss (fun j hj => hh.out j (by have := HN.out; omega) hj)]; rfl
      clear hh
      go_wp2_with fail
      go_ret
      exact ⟨congrArg (fun r => Ending.returned (Value.int .i64 r)) HE.out.symm, HB.out⟩

set_option maxHeartbeats 4000000 in
theorem conA_any (a : Option Addr) (c : Nat) (l : List Ad) (x : Ad) (w : World) (hl : l.length ≤ 1000) (hs : Lies adE w a l) :
    Calls Tryz.prog 64 #[.slice a l.length c, .agg #[.bool x.v, .int .u64 x.hi, .int .u64 x.lo]] w fun e w' => e = .returned (.bool (l.any (sameA x))) ∧ Below w.heap.size w w' := by
  have HB0 := Lib.hid (bal (Below.refl w.heap.size w) (.cells #[.bool x.v, .int .u64 x.hi, .int .u64 x.lo] 38))
  have HI := Lib.hid (idxA_any a c l x _ hl (hs.below HB0.out))
  have HE := Lib.hid (idx_any (sameA x) l)
  generalize idxI (l.findIdx? (sameA x)) = ix at *
  generalize l.any (sameA x) = R at *
  generalize l.length = N at *
  generalize x.v = v at *
  generalize x.hi = hi at *
  generalize x.lo = lo at *
  clear hs
  go_enter Tryz.func64, Tryz.ntmps64
  go_wp2_with fail
  refine HI.out.mono ?_
  rintro e w2 ⟨rfl, hb⟩
  have HB2 := Lib.hid (btr HB0.out hb)
  clear hb
  go_wp2
  go_ret
  exact ⟨congrArg (fun r => Ending.returned (Value.bool r)) HE.out, HB2.out⟩
set_option maxHeartbeats 4000000 in
theorem conL_any (a : Option Addr) (c : Nat) (l : List Ls) (w : World) (f : Nat) (lb : Array Value) (p : Ls → Bool) (hl : l.length ≤ 1000) (hs : Lies lsE w a l) (ef : ∀ args w, (callFunc f args).run Tryz.prog w = .ok (.enter f args) w)
    (hp : ∀ (W : World) (x : Ls), x ∈ l → Below w.heap.size w W → Calls Tryz.prog f (#[.agg #[.bool x.a.v, .int .u64 x.a.hi, .int .u64 x.a.lo, .string x.who, .int .i64 x.un]] ++ lb) W fun e w' => e = .returned (.bool (p x)) ∧ Below w.heap.size w w') :
    Calls Tryz.prog 57 #[.slice a l.length c, .func (.func f) #[] lb] w fun e w' => e = .returned (.bool (l.any p)) ∧ Below w.heap.size w w' := by
  have HI := Lib.hid (ifnL_any a c l w f lb p hl hs ef hp)
  have HE := Lib.hid (idx_any p l)
  generalize idxI (l.findIdx? p) = ix at *
  generalize l.any p = R at *
  generalize l.length = N at *
  clear hs hp
  go_enter Tryz.func57, Tryz.ntmps57
  go_wp2_with fail
  refine HI.out.mono ?_
  rintro e w2 ⟨rfl, hb⟩
  have HB2 := Lib.hid hb
  clear hb
  go_wp2
  go_ret
  exact ⟨congrArg (fun r => Ending.returned (Value.bool r)) HE.out, HB2.out⟩
theorem first1_any (q : Nat) (x : Ad) (y : Ls) (w : World) (hq : Has3 w q (.bool x.v) (.int .u64 x.hi) (.int .u64 x.lo)) :
    Calls Tryz.prog 110 #[.agg #[.bool y.a.v, .int .u64 y.a.hi, .int .u64 y.a.lo, .string y.who, .int .i64 y.un], .pointer (some ⟨q, 0, none⟩)] w fun e w' => e = .returned (.bool (sameA y.a x)) ∧ Below w.heap.size w w' := by
  have HB := Lib.hid (bal (Below.refl w.heap.size w) (.cells #[.bool y.a.v, .int .u64 y.a.hi, .int .u64 y.a.lo, .string y.who, .int .i64 y.un] 90))
  obtain ⟨q0, q1, q2, q3⟩ := hq.alloc (.cells #[.bool y.a.v, .int .u64 y.a.hi, .int .u64 y.a.lo, .string y.who, .int .i64 y.un] 90)
  have hE := fun W => sameA_run W y.a x
  generalize sameA y.a x = r at *
  generalize x.v = v at *
  generalize x.hi = hi at *
  generalize x.lo = lo at *
  generalize y.a.v = u at *
  generalize y.a.hi = yi at *
  generalize y.a.lo = yo at *
  generalize y.who = who at *
  generalize y.un = un at *
  clear hq
  go_enter Tryz.func110, Tryz.ntmps110
  go_wp2
  go_ret
  exact ⟨rfl, HB.out⟩
theorem grant1_any (q : Nat) (s : ByteArray) (y : Ls) (w : World) (hq : w.cell? ⟨q, 0, none⟩ = some (.string s)) (hlt : q < w.heap.size) :
    Calls Tryz.prog 103 #[.agg #[.bool y.a.v, .int .u64 y.a.hi, .int .u64 y.a.lo, .string y.who, .int .i64 y.un], .pointer (some ⟨q, 0, none⟩)] w fun e w' => e = .returned (.bool (y.who.toList == s.toList)) ∧ Below w.heap.size w w' := by
  have HB := Lib.hid (bal (Below.refl w.heap.size w) (.cells #[.bool y.a.v, .int .u64 y.a.hi, .int .u64 y.a.lo, .string y.who, .int .i64 y.un] 90))
  have hq' : (w.alloc (.cells #[.bool y.a.v, .int .u64 y.a.hi, .int .u64 y.a.lo, .string y.who, .int .i64 y.un] 90)).cell? ⟨q, 0, none⟩ = some (.string s) := by rw [(bcell HB.out).1 _ _ hlt]; exact hq
  generalize y.a.v = u at *
  generalize y.a.hi = yi at *
  generalize y.a.lo = yo at *
  generalize y.who = who at *
  generalize y.un = un at *
  clear hq
  go_enter Tryz.func103, Tryz.ntmps103
  go_wp2
  go_ret
  exact ⟨rfl, HB.out⟩
end Go.Proofs.YtclnfkohlklbpaaGreat

namespace Go.Proofs.YtclnfkohlklbpaaGreat
open Go.RowKit

/-- The address of a kind that a number tells. -/
def adOf (v : Bool) (n : Int) : Ad := ⟨v, n / 18446744073709551616 % 18446744073709551616, n % 18446744073709551616, ⟨⟨by omega, by omega⟩, by omega, by omega⟩⟩
def Ad.n (x : Ad) : Int := num x.hi x.lo
theorem top_le (v : Bool) : top v ≤ 340282366920938463463374607431768211456 := by cases v <;> decide
theorem adOf_n {v : Bool} {n : Int} (h0 : 0 ≤ n) (h1 : n < top v) : (adOf v n).n = n := by
  have := top_le v
  unfold Ad.n adOf num
  simp only
  omega
theorem adOf_chk {v : Bool} {n : Int} (h0 : 0 ≤ n) (h1 : n < top v) : chk (adOf v n).v (adOf v n).hi (adOf v n).lo = 0 := by
  refine chk_top (adOf v n).ok.1.1 (adOf v n).ok.2.1 ?_
  have := adOf_n h0 h1
  unfold Ad.n at this
  rw [this]
  exact h1
theorem Ad.n_top {x : Ad} (c : chk x.v x.hi x.lo = 0) : 0 ≤ x.n ∧ x.n < top x.v := num_top c x.ok.1.1 x.ok.1.2 x.ok.2.1 x.ok.2.2
theorem ad_same {x y : Ad} (hv : x.v = y.v) (hn : x.n = y.n) : x = y := by
  obtain ⟨a, b⟩ := num_inj x.ok.2.1 x.ok.2.2 y.ok.2.1 y.ok.2.2 hn
  exact Ad.same hv a b
theorem adOf_self {x : Ad} (c : chk x.v x.hi x.lo = 0) : adOf x.v x.n = x := ad_same rfl (adOf_n (Ad.n_top c).1 (Ad.n_top c).2)
theorem adOf_inj {v : Bool} {n m : Int} (h0 : 0 ≤ n) (h1 : n < top v) (g0 : 0 ≤ m) (g1 : m < top v) (h : adOf v n = adOf v m) : n = m := by
  have := congrArg Ad.n h
  rw [adOf_n h0 h1, adOf_n g0 g1] at this
  exact this
/-- How many addresses a prefix has. -/
def Pf.many (p : Pf) : Nat := (amt p.v p.b).toNat
theorem Pf.many_amt {p : Pf} : (p.many : Int) = amt p.v p.b := by
  have := amt_pos p.v p.b
  unfold Pf.many; omega
theorem Pf.n_top {p : Pf} (r : p.R) : 0 ≤ p.n ∧ p.n + amt p.v p.b ≤ top p.v := by
  have h := num_top r.c r.h0 r.h1 r.l0 r.l1
  have := step_le (amt_pos p.v p.b) r.al (m := top p.v) (by rw [top_amt p.v p.b r.b0 r.b1]; exact Int.mul_emod_right _ _) h.2
  exact ⟨h.1, this⟩
/-- The addresses of a prefix, rising. -/
def addrs (p : Pf) : List Ad := (List.range p.many).map (fun i : Nat => adOf p.v (p.n + i))
theorem addrs_len (p : Pf) : (addrs p).length = p.many := by simp [addrs]
theorem addrs_at (p : Pf) (i : Nat) (h : i < p.many) : (addrs p)[i]'(by rw [addrs_len]; exact h) = adOf p.v (p.n + i) := by simp [addrs]
theorem many_pos (p : Pf) : 0 < p.many := by
  have := amt_pos p.v p.b
  unfold Pf.many; omega
theorem many_narrow {p : Pf} (r : p.R) (h : wideB p.v p.b = false) : p.many ≤ 16 := by
  unfold wideB at h
  have h4 : wid p.v - p.b ≤ 4 := by simpa using h
  have b1 := r.b1
  unfold Pf.many amt
  have : (wid p.v - p.b).toNat ≤ 4 := by omega
  have h5 : (2 : Nat) ^ (wid p.v - p.b).toNat ≤ 2 ^ 4 := Nat.pow_le_pow_right (by decide) this
  have h6 : ((2 : Int) ^ (wid p.v - p.b).toNat).toNat = (2 : Nat) ^ (wid p.v - p.b).toNat := (congrArg Int.toNat (pow_cast (wid p.v - p.b).toNat)).symm.trans (Int.toNat_natCast _)
  rw [h6]
  omega
/-- The first one, the last one, the next one. -/
theorem first_ad {p : Pf} (r : p.R) : (adOf p.v p.n).v = p.v ∧ (adOf p.v p.n).hi = p.hi ∧ (adOf p.v p.n).lo = p.lo := by
  obtain ⟨h0, h1⟩ := Pf.n_top r
  have := adOf_n (v := p.v) h0 (by have := amt_pos p.v p.b; omega)
  obtain ⟨a, b⟩ := num_inj (adOf p.v p.n).ok.2.1 (adOf p.v p.n).ok.2.2 r.l0 r.l1 this
  exact ⟨rfl, a, b⟩
theorem last_ad {p : Pf} (r : p.R) : (adOf p.v (p.n + amt p.v p.b - 1)).hi = laH p.v p.hi p.b ∧ (adOf p.v (p.n + amt p.v p.b - 1)).lo = laL p.v p.lo p.b := by
  obtain ⟨h0, h1⟩ := Pf.n_top r
  have hp := amt_pos p.v p.b
  obtain ⟨n1, _, _, l1⟩ := la_num r
  have := adOf_n (v := p.v) (n := p.n + amt p.v p.b - 1) (by omega) (by omega)
  exact num_inj (adOf p.v (p.n + amt p.v p.b - 1)).ok.2.1 (adOf p.v (p.n + amt p.v p.b - 1)).ok.2.2 l1.1 l1.2 (this.trans n1.symm)
theorem next_ad {v : Bool} {n : Int} (h0 : 0 ≤ n) (h1 : n + 1 < top v) : nxV v (adOf v n).hi (adOf v n).lo = v ∧ nxH v (adOf v n).hi (adOf v n).lo = (adOf v (n + 1)).hi ∧ nxL v (adOf v n).hi (adOf v n).lo = (adOf v (n + 1)).lo ∧ nxB v (adOf v n).hi (adOf v n).lo = true := by
  have c := adOf_chk (v := v) h0 (by omega)
  have c' : chk v (adOf v n).hi (adOf v n).lo = 0 := c
  have e := adOf_n (v := v) h0 (by omega)
  have e1 := adOf_n (v := v) (n := n + 1) (by omega) h1
  have ht : top true = 340282366920938463463374607431768211456 := by decide
  have hf : top false = 4294967296 := by decide
  have hl : isLast v (adOf v n).hi (adOf v n).lo = false := by
    rw [Bool.eq_false_iff]
    intro hl
    simp only [isLast, eqA, beq_self_eq_true, Bool.true_and, Bool.and_eq_true, beq_iff_eq] at hl
    unfold Ad.n num at e
    rw [hl.1, hl.2] at e
    cases v
    · simp [mxH, mxL] at e; omega
    · simp [mxH, mxL] at e; omega
  have k := (adOf v n).ok
  have k1 := (adOf v (n + 1)).ok
  have hv : (adOf v n).v = v := rfl
  unfold nxV nxH nxL nxB
  rw [if_pos ⟨c', hl⟩, if_pos ⟨c', hl⟩, if_pos ⟨c', hl⟩, if_pos ⟨c', hl⟩]
  unfold Ad.n num at e e1
  refine ⟨rfl, ?_, ?_, rfl⟩
  · omega
  · omega
/-- What a prefix has is what stands from its first address to its last one. -/
theorem inA_num {p : Pf} (r : p.R) {x : Ad} (c : chk x.v x.hi x.lo = 0) : p.inA x.v x.hi x.lo = true ↔ x.v = p.v ∧ p.n ≤ x.n ∧ x.n < p.n + amt p.v p.b := by
  have q := host_right c x.ok.1.1 x.ok.1.2 x.ok.2.1 x.ok.2.2
  have b1 := r.b1
  rw [in_has r q, has_iff r (show Pf.R ⟨x.v, x.hi, x.lo, wid x.v⟩ from q)]
  constructor
  · rintro ⟨_, b, c, d⟩; exact ⟨b, c, d⟩
  · rintro ⟨a, b, c⟩
    exact ⟨by rw [a]; exact b1, a, b, c⟩
end Go.Proofs.YtclnfkohlklbpaaGreat
