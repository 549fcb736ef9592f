/- Entries: append, slices.Concat; ship.Next, ship.Take; the document's BehindOf; shipBegun. -/
import Derived.Test.YtclnfkohlklbpaaGreatQ04
import Derived.Test.YtclnfkohlklbpaaGreatQ01
import Derived.Laws.AppendOwnNone
import Derived.Lib.AppendZeros
import Derived.Test.YtclnfkohlklbpaaGreatQ06
import Derived.Test.YtclnfkohlklbpaaGreatQ33
import Derived.Deep.Cut
set_option linter.unusedVariables false
set_option linter.unusedSimpArgs false
namespace Go.Proofs.YtclnfkohlklbpaaGreat
open Go.RowKit

theorem wp_app_en {P : Program} {w : World} {ops : Array Oper} {rest : List Oper} {o : Oper} {a : Act} {Q : Exit → Act → World → Prop} (hgd : o.guard = none) (s x : Operand) (t : TypeId)
    (ho : o.op = .call { callee := .builtin .append, args := #[s, x], argTypes := #[t, t] })
    (base : Nat) (i : TypeInfo) (z : Value) (ht : P.underlying t = some (.slice 55)) (hi : P.info? 55 = some i) (hz : i.zero = some z)
    (hsize : i.size = 13) (hby : i.bytes = 112) (hzs : z.cells.size = 13)
    (v : Value) (xs : List En) (hs : a.eval s = v) (hown : w.ownsRow base 55 enE.k v xs.length (rowOf enE xs))
    (b : Option Addr) (c : Nat) (ys : List En) (hx : a.eval x = .slice b ys.length c) (hn : b = none → c = 0) (hl : Lies enE w b ys)
    (h63 : xs.length + ys.length ≤ 100000000) (hbase : base ≤ w.heap.size)
    (h : ∀ v' w', w'.ownsRow base 55 enE.k v' (xs ++ ys).length (rowOf enE (xs ++ ys)) → w.grownBy w' v.ownBlock → wpList P ops Q rest (a.put o.dst v') w') : wpList P ops Q (o :: rest) a w := by
  cases b with
  | none =>
    have e := hl.none_nil
    have e2 := hn rfl
    subst e
    subst e2
    refine wpList_append_own_none hgd s x t ho base 55 i 13 ht hi v xs.length (rowOf enE xs) hs hown hx ?_
    exact h v w (by simpa using hown) (World.grownBy.refl _ _)
  | some ad =>
    refine wpList_append_own w hgd s x t ho base 55 i z 13 112 ht hi hz hsize hby hzs (by decide) v xs.length (rowOf enE xs) hs hown ad ys.length c (rowOf enE ys) hx (rowOf_len enE ys) hl.news (rowOf_one enE ys) (by unfold maxLen; omega) (by omega) hbase (fun v' w' a b _ => h v' w' ?_ b)
    rw [List.length_append, rowOf_append]; exact a
set_option maxHeartbeats 2000000 in
set_option maxRecDepth 100000 in
theorem grow_en (n : Nat) (w : World) (h1 : n ≤ 100000) :
    Calls Tryz.prog 23 #[.slice none 0 0, .int .i64 n] w fun e w' => ∃ v, e = .returned v ∧ w'.ownsRow w.heap.size 55 enE.k v ([] : List En).length (rowOf enE ([] : List En)) ∧ Below w.heap.size w w' := by
  by_cases h0 : 0 < n
  · obtain ⟨i0, hi, hz0, hz1, hz2⟩ := info_parts infoE
    have hrz := Lib.run_append_nil_zeros (P := Tryz.prog) w 22 3 22 55 i0 (Value.agg #[.int .i64 0, .int .i64 0, .int .i64 0, .bool false, .int .u64 0, .int .u64 0, .int .i64 0, .bool false, .int .u64 0, .int .u64 0, .string ⟨#[]⟩, .int .i64 0, .int .i64 0]) .i64 .i64 Tryz.underlying22 Tryz.underlying3 hi hz0 n h0 (by omega) (by omega) (by rw [hz2]; omega)
    have hGn : n ≤ grownCap w n 0 55 := grownCap_ge w _ _ _
    have hGm : grownCap w n 0 55 ≤ maxLen := grownCap_le_maxLen w n 0 _ (by unfold maxLen; omega)
    obtain ⟨G, hG⟩ : ∃ G, G = grownCap w n 0 55 := ⟨_, rfl⟩
    rw [← hG] at hrz hGn hGm
    have hsz : (Builtin.zeroCells (Value.agg #[.int .i64 0, .int .i64 0, .int .i64 0, .bool false, .int .u64 0, .int .u64 0, .int .i64 0, .bool false, .int .u64 0, .int .u64 0, .string ⟨#[]⟩, .int .i64 0, .int .i64 0]).cells n ++ Builtin.zeroCells (Value.agg #[.int .i64 0, .int .i64 0, .int .i64 0, .bool false, .int .u64 0, .int .u64 0, .int .i64 0, .bool false, .int .u64 0, .int .u64 0, .string ⟨#[]⟩, .int .i64 0, .int .i64 0]).cells (G - n)).size = G * 13 := by
      rw [Array.size_append, size_zeroCells, size_zeroCells]; simp [Value.cells]; omega
    generalize (Builtin.zeroCells (Value.agg #[.int .i64 0, .int .i64 0, .int .i64 0, .bool false, .int .u64 0, .int .u64 0, .int .i64 0, .bool false, .int .u64 0, .int .u64 0, .string ⟨#[]⟩, .int .i64 0, .int .i64 0]).cells n ++ Builtin.zeroCells (Value.agg #[.int .i64 0, .int .i64 0, .int .i64 0, .bool false, .int .u64 0, .int .u64 0, .int .i64 0, .bool false, .int .u64 0, .int .u64 0, .string ⟨#[]⟩, .int .i64 0, .int .i64 0]).cells (G - n)) = zs at hrz hsz
    have HZ : Hid (zs.size = G * 13) := hsz
    have HM : Hid (G ≤ maxLen) := hGm
    have hn0 : (0 : Int) < (n : Int) := by omega
    have hG64 : (G : Int) ≤ 9223372036854775807 := by have := HM.out; unfold maxLen at this; omega
    clear hG hsz hGm
    have HR : Hid ((Builtin.append_ #[22, 3] 22 #[.slice none 0 0, .int .i64 n]).run Tryz.prog w = .ok (.slice (some ⟨w.heap.size, 0, none⟩) n G) (w.drew.alloc (.cells zs 55))) := hrz
    clear hrz
    go_enter Tryz.func23, Tryz.ntmps23
    go_wp2_with (at_builtin; refine Lib.wpList_append_run _ rfl _ _ _ _ rfl _ _ rfl rfl _ _ HR.out ?_)
    go_ret
    refine ⟨_, rfl, ⟨rfl, .inr ⟨w.heap.size, G, zs, rfl, Nat.le_refl _, ?_, Nat.zero_le _, HM.out, ?_, ?_⟩⟩, ?_⟩
    · simp [World.alloc, World.drew, -World.alloc_eq, -World.drew_eq]
    · exact HZ.out
    · simp [rowOf]
    · exact (bal (Below.refl _ _) _).drew
  · obtain rfl : n = 0 := by omega
    go_enter Tryz.func23, Tryz.ntmps23
    go_wp2_with fail
    go_ret
    exact ⟨_, rfl, World.ownsRow_nil w _ _ _, Below.refl _ _⟩
set_option maxHeartbeats 4000000 in
set_option maxRecDepth 100000 in
theorem concat_en (b : Nat) (a1 a2 : Option Addr) (c1 c2 : Nat) (l1 l2 : List En) (w : World)
    (h1 : Lies enE w a1 l1) (h2 : Lies enE w a2 l2) (y1 : a1 = none → c1 = 0) (y2 : a2 = none → c2 = 0)
    (k1 : w.cell? ⟨b, 0, none⟩ = some (.slice a1 l1.length c1)) (k2 : w.cell? ⟨b, 1, none⟩ = some (.slice a2 l2.length c2))
    (hb : b < w.heap.size) (m1 : l1.length ≤ 10000) (m2 : l2.length ≤ 10000) :
    Calls Tryz.prog 18 #[.slice (some ⟨b, 0, none⟩) 2 2] w fun e w' =>
      ∃ v, e = .returned v ∧ w'.ownsRow w.heap.size 55 enE.k v (l1 ++ l2).length (rowOf enE (l1 ++ l2)) ∧ Below w.heap.size w w' := by
  obtain ⟨i0, hi, hz0, hz1, hz2⟩ := info_parts infoE
  obtain ⟨n1, e1⟩ : ∃ n, n = l1.length := ⟨_, rfl⟩
  obtain ⟨n2, e2⟩ : ∃ n, n = l2.length := ⟨_, rfl⟩
  have HG : Hid (∀ w : World, Calls Tryz.prog 23 #[.slice none 0 0, .int .i64 ((n1 : Int) + n2)] w fun e w' => ∃ v, e = .returned v ∧ w'.ownsRow w.heap.size 55 enE.k v ([] : List En).length (rowOf enE ([] : List En)) ∧ Below w.heap.size w w') := fun w => by
    have := grow_en (n1 + n2) w (by omega)
    rw [show ((n1 : Int) + n2) = ((n1 + n2 : Nat) : Int) by omega]; exact this
  have H1 := Lib.hid h1
  have H2 := Lib.hid h2
  have Y1 := Lib.hid y1
  have Y2 := Lib.hid y2
  rw [← e1] at k1 m1
  rw [← e2] at k2 m2
  have E1 := Lib.hid e1
  have E2 := Lib.hid e2
  clear h1 h2 e1 e2 y1 y2
  go_enter Tryz.func18, Tryz.ntmps18
  go_wp2_with fail
  go_loop [3, 11] (fun vs vi => (vi = .int .i64 0 ∧ vs = .int .i64 0) ∨ (vi = .int .i64 1 ∧ vs = .int .i64 n1) ∨ (vi = .int .i64 2 ∧ vs = .int .i64 ((n1 : Int) + n2)))
    (fun _ vi => 2 - (intOf vi).toNat)
  case atStart => exact .inl ⟨rfl, rfl⟩
  case round =>
    rcases hrel with ⟨rfl, rfl⟩ | ⟨rfl, rfl⟩ | ⟨rfl, rfl⟩
    · go_wp2_with fail
      go_round
      case rel => exact .inr (.inl ⟨rfl, by go_num⟩)
      case measure => simp [intOf]
    · go_wp2_with fail
      go_round
      case rel => exact .inr (.inr ⟨rfl, by go_num⟩)
      case measure => simp [intOf]
    · go_wp2_with fail
      refine (HG.out _).mono ?_
      rintro e w1 ⟨v0, rfl, hown0, hb0⟩
      have HO := Lib.hid hown0
      clear hown0 HG
      go_wp2_with fail
      go_loopw [6, 27] (fun v vi wr => ∃ (k : Nat) (l : List En), vi = .int .i64 k ∧ Below w.heap.size w wr ∧ wr.ownsRow w.heap.size 55 enE.k v l.length (rowOf enE l) ∧
          Hid ((k = 0 ∧ l = []) ∨ (k = 1 ∧ l = l1) ∨ (k = 2 ∧ l = l1 ++ l2)))
        (fun _ vi _ => 2 - (intOf vi).toNat)
      case atStart => exact ⟨0, [], rfl, hb0, HO.out, .inl ⟨rfl, rfl⟩⟩
      case round =>
        obtain ⟨k, l, rfl, hbw, hown, hh⟩ := hrel
        rcases hh.out with ⟨rfl, rfl⟩ | ⟨rfl, hll⟩ | ⟨rfl, hll⟩
        all_goals clear hh
        · have hown' : Hid (wr.ownsRow w.heap.size 55 enE.k u6 ([] : List En).length (rowOf enE ([] : List En))) := hown
          have hs : Hid (Lies enE wr a1 l1) := H1.out.below hbw
          have hbb := hbw.size
          have hcc := bcell hbw
          have q1 : wr.cell? ⟨b, 0, none⟩ = some (.slice a1 n1 c1) := by rw [hcc.1 _ _ hb]; exact k1
          clear hcc k1 k2 hown
          go_wp2_with (at_builtin; refine wp_app_en rfl _ _ 22 rfl w.heap.size i0 _ Tryz.underlying22 hi hz0 hz1 hz2 rfl _ [] rfl hown'.out a1 c1 l1 (by rw [← E1.out]; rfl) Y1.out hs.out ?c3 ?c5 ?_)
          case c3 => rw [← E1.out]; simp; omega
          case c5 => exact hbb
          intro v' w3 hown2 hgrow
          have hb3 : Below w.heap.size w w3 := hbw.grown hgrow hbb (fun k hk => (hown'.out.lt k hk).1)
          have hown3 := Lib.hid hown2
          clear hgrow hown' hs hown2
          go_wp2_with fail
          go_roundw
          case rel => exact ⟨1, l1, by go_num, hb3, hown3.out, .inr (.inl ⟨rfl, rfl⟩)⟩
          case measure => simp [intOf]
        · have hown' := Lib.hid hown
          have HL := Lib.hid hll
          have hs : Hid (Lies enE wr a2 l2) := H2.out.below hbw
          have hbb := hbw.size
          have hcc := bcell hbw
          have q1 : wr.cell? ⟨b, 1, none⟩ = some (.slice a2 n2 c2) := by rw [hcc.1 _ _ hb]; exact k2
          clear hcc k1 k2 hown hll
          go_wp2_with (at_builtin; refine wp_app_en rfl _ _ 22 rfl w.heap.size i0 _ Tryz.underlying22 hi hz0 hz1 hz2 rfl _ l rfl hown'.out a2 c2 l2 (by rw [← E2.out]; rfl) Y2.out hs.out ?c3 ?c5 ?_)
          case c3 => rw [HL.out, ← E1.out, ← E2.out]; omega
          case c5 => exact hbb
          intro v' w3 hown2 hgrow
          have hb3 : Below w.heap.size w w3 := hbw.grown hgrow hbb (fun k hk => (hown'.out.lt k hk).1)
          have hown3 := Lib.hid hown2
          clear hgrow hown' hs hown2
          go_wp2_with fail
          go_roundw
          case rel => exact ⟨2, l ++ l2, by go_num, hb3, by rw [List.length_append]; exact hown3.out, .inr (.inr ⟨rfl, by rw [HL.out]⟩)⟩
          case measure => simp [intOf]
        · have HO2 : Hid (wr.ownsRow w.heap.size 55 enE.k u6 (l1 ++ l2).length (rowOf enE (l1 ++ l2))) := by rw [← hll]; exact hown
          clear hown k1 k2 hll
          go_wp2_with fail
          go_ret
          exact ⟨_, rfl, HO2.out, hbw⟩
end Go.Proofs.YtclnfkohlklbpaaGreat

namespace Go.Proofs.YtclnfkohlklbpaaGreat
open Go.RowKit

theorem own_open0 {α : Type} {E : Enc α} {w : World} {B t : Nat} {v : Value} {l : List α} (h : w.ownsRow B t E.k v l.length (rowOf E l)) : ∃ a c, v = .slice a l.length c ∧ l.length ≤ c ∧ Lies E w a l ∧ (a = none → c = 0) ∧ ∀ g o, a = some ⟨g, o, none⟩ → B ≤ g := by
  rcases own_form h with ⟨rfl, rfl⟩ | ⟨g, c, rfl, ho⟩
  · exact ⟨none, 0, rfl, Nat.le_refl _, Lies.nil _ _ _, fun _ => rfl, fun g o e => by simp at e⟩
  · exact ⟨_, c, rfl, ho.le, ho.lies, fun e => by simp at e, fun g' o' e => by simp at e; obtain ⟨rfl, _⟩ := e; exact ho.base⟩
theorem lies_from {w : World} {ad : Addr} {l : List En} (h : Lies enE w (some ad) l) (n : Nat) : Lies enE w (some (ad.add (n * 13))) (l.drop n) := by
  by_cases hl : l = []
  · subst hl; rw [List.drop_nil]; exact Lies.nil _ _ _
  · obtain ⟨g, o, e, -, -⟩ := h 0 (List.length_pos_iff.2 hl)
    obtain rfl := Option.some.inj e
    rw [add_addr]
    exact h.drop n
/-- What Next says. -/
def nextE (h l : List En) (many : Int) : Int := if begE h l = 0 then (if begB h l = true then (if many < 0 ∨ 30 < many then 3 else 0) else 4) else begE h l
def nextL (h l : List En) (many : Int) : List En := if nextE h l many = 0 then (l.drop h.length).take many.toNat else []
set_option maxHeartbeats 16000000 in
set_option maxRecDepth 100000 in
theorem next_bad (a a' : Option Addr) (c c' : Nat) (h l : List En) (many : Int) (w : World) (hc : h.length ≤ c) (hc' : l.length ≤ c') (hs : Lies enE w a h) (hs' : Lies enE w a' l) (h0 : ¬ nextE h l many = 0) :
    Calls Tryz.prog 7 #[.slice a h.length c, .slice a' l.length c', .int .i64 many] w fun e w' => e = .returned (.tuple #[.slice none 0 0, .int .i64 (nextE h l many)]) ∧ Below w.heap.size w w' := by
  have HBg := Lib.hid (begins_any a a' c c' h l w hc hc' hs hs')
  unfold nextE at *
  generalize begE h l = r at *
  generalize begB h l = b at *
  generalize h.length = N at *
  generalize l.length = M at *
  clear hs hs' hc hc'
  by_cases h1 : r = 0
  · subst h1
    rw [if_pos rfl] at *
    by_cases h2 : b = true
    · subst h2
      rw [if_pos rfl] at *
      by_cases h3 : many < 0 ∨ 30 < many
      · rw [if_pos h3]
        clear h0
        by_cases h4 : many < 0
        · clear h3
          have d1 : decide (many < 0) = true := decide_eq_true h4
          go_enter Tryz.func7, Tryz.ntmps7
          go_wp2_with fail
          refine HBg.out.mono ?_
          rintro e w1 ⟨rfl, hb1⟩
          have HB1 := Lib.hid hb1
          clear hb1 HBg
          go_wp2_with fail
          go_ret2
          exact ⟨rfl, HB1.out⟩
        · have h5 : 30 < many := by omega
          have d1 : decide (many < 0) = false := decide_eq_false h4
          have d2 : decide (30 < many) = true := decide_eq_true h5
          clear h3
          go_enter Tryz.func7, Tryz.ntmps7
          go_wp2_with fail
          refine HBg.out.mono ?_
          rintro e w1 ⟨rfl, hb1⟩
          have HB1 := Lib.hid hb1
          clear hb1 HBg
          go_wp2_with fail
          go_ret2
          exact ⟨rfl, HB1.out⟩
      · rw [if_neg h3] at h0; exact absurd rfl h0
    · have : b = false := by cases b <;> simp_all
      subst this
      rw [if_neg h2]
      clear h0 h2
      go_enter Tryz.func7, Tryz.ntmps7
      go_wp2_with fail
      refine HBg.out.mono ?_
      rintro e w1 ⟨rfl, hb1⟩
      have HB1 := Lib.hid hb1
      clear hb1 HBg
      go_wp2_with fail
      go_ret2
      exact ⟨rfl, HB1.out⟩
  · rw [if_neg h1] at *
    have hI : (r != 0) = true := by rw [bne_iff_ne]; exact h1
    clear h0
    go_enter Tryz.func7, Tryz.ntmps7
    go_wp2_with fail
    refine HBg.out.mono ?_
    rintro e w1 ⟨rfl, hb1⟩
    have HB1 := Lib.hid hb1
    clear hb1 HBg
    go_wp2_with fail
    go_ret2
    exact ⟨rfl, HB1.out⟩

set_option maxHeartbeats 16000000 in
set_option maxRecDepth 100000 in
theorem next_ok (a a' : Option Addr) (c c' : Nat) (h l : List En) (many : Int) (w : World) (hc : h.length ≤ c) (hc' : l.length ≤ c') (hs : Lies enE w a h) (hs' : Lies enE w a' l) (hn : a' = none → c' = 0) (h0 : nextE h l many = 0) :
    Calls Tryz.prog 7 #[.slice a h.length c, .slice a' l.length c', .int .i64 many] w fun e w' => ∃ v, e = .returned (.tuple #[v, .int .i64 0]) ∧ w'.ownsRow w.heap.size 55 enE.k v (nextL h l many).length (rowOf enE (nextL h l many)) ∧ Below w.heap.size w w' := by
  have HBg := Lib.hid (begins_any a a' c c' h l w hc hc' hs hs')
  rw [show nextL h l many = (l.drop h.length).take many.toNat by unfold nextL; rw [if_pos h0]]
  have h1 : begE h l = 0 := by unfold nextE at h0; by_cases q : begE h l = 0; exact q; rw [if_neg q] at h0; exact h0
  have h2 : begB h l = true := by unfold nextE at h0; rw [if_pos h1] at h0; by_cases q : begB h l = true; exact q; rw [if_neg q] at h0; exact absurd h0 (by decide)
  have h3 : ¬ (many < 0 ∨ 30 < many) := by unfold nextE at h0; rw [if_pos h1, if_pos h2] at h0; intro q; rw [if_pos q] at h0; exact absurd h0 (by decide)
  have hle : h.length ≤ l.length := by unfold begB at h2; rw [Bool.and_eq_true] at h2; simpa using h2.1
  have hl30 : l.length ≤ 30 := logE_len (by unfold begE at h1; by_cases q : logE h = 0; rw [if_pos q] at h1; exact h1; rw [if_neg q] at h1; exact absurd h1 q)
  rw [h1, if_pos rfl, h2] at HBg
  obtain ⟨m, rfl⟩ : ∃ m : Nat, many = m := ⟨many.toNat, by omega⟩
  rw [Int.toNat_natCast]
  obtain ⟨D, hD⟩ : ∃ D, l.length = h.length + D := ⟨l.length - h.length, by omega⟩
  have d1 : decide ((m : Int) < 0) = false := decide_eq_false (by omega)
  have d2 : decide (30 < (m : Int)) = false := decide_eq_false (by omega)
  have hdl : (l.drop h.length).length = D := by rw [List.length_drop]; omega
  have hm3 : m ≤ 30 := by omega
  clear h0 h1 h2 h3
  by_cases hcN : c' = h.length
  · have hD0 : D = 0 := by omega
    subst hD0
    have e0 : l.drop h.length = [] := List.length_eq_zero_iff.1 hdl
    rw [e0, List.take_nil]
    have HC0 : Hid (∀ W : World, Calls Tryz.prog 17 #[.slice a' 0 0] W fun e w' => ∃ v, e = .returned v ∧ w'.ownsRow W.heap.size 55 enE.k v ([] : List En).length (rowOf enE ([] : List En)) ∧ Below W.heap.size W w') := fun W => cloneE_any a' 0 [] W (by simp) (Lies.nil _ _ _)
    rw [Nat.add_zero] at hD
    rw [hD] at HBg ⊢
    rw [hcN] at HBg ⊢
    generalize h.length = N at *
    clear hs hs' hc hc' hn hle hl30 hdl e0 hcN hD
    have hm0 : (0 : Int) ≤ (m : Int) := by omega
    have hN0 : (0 : Int) ≤ (N : Int) := by omega
    have x4 : min (m : Int) 0 = 0 := by omega
    go_enter Tryz.func7, Tryz.ntmps7
    go_wp2_with fail
    refine HBg.out.mono ?_
    rintro e w1 ⟨rfl, hb1⟩
    have HB1 := Lib.hid hb1
    clear hb1 HBg
    go_wp2_with fail
    have HB1' := HB1.out
    refine (HC0.out _).mono ?_
    rintro e w2 ⟨v2, rfl, ho, hb2⟩
    have HO := Lib.hid (row_base ho HB1.out.size)
    have HB2 := Lib.hid (btr HB1.out hb2)
    clear hb2 HB1 HB1' HC0 ho
    go_wp2_with fail
    go_ret2
    exact ⟨_, rfl, HO.out, HB2.out⟩
  · obtain ⟨E, hE⟩ : ∃ E, c' = h.length + E := ⟨c' - h.length, by omega⟩
    have hE0 : ¬ E = 0 := by omega
    have hDE : D ≤ E := by omega
    obtain ⟨ad, rfl⟩ : ∃ ad, a' = some ad := by
      cases a' with
      | none => exact absurd (hn rfl) (by omega)
      | some ad => exact ⟨ad, rfl⟩
    have hlr := lies_from hs' h.length
    have HC0 : Hid (∀ W : World, Below w.heap.size w W → Calls Tryz.prog 17 #[.slice (some (ad.add (h.length * 13))) ((l.drop h.length).take m).length E] W fun e w' => ∃ v, e = .returned v ∧ w'.ownsRow W.heap.size 55 enE.k v ((l.drop h.length).take m).length (rowOf enE ((l.drop h.length).take m)) ∧ Below W.heap.size W w') := fun W hW => cloneE_any (some (ad.add (h.length * 13))) E ((l.drop h.length).take m) W (by rw [List.length_take]; omega) ((hlr.below hW).take m)
    rw [show ((l.drop h.length).take m).length = min m D by rw [List.length_take, hdl]] at HC0 ⊢
    generalize (l.drop h.length).take m = R at *
    rw [hD, hE] at HBg ⊢
    generalize h.length = N at *
    clear hs hs' hc hc' hn hle hlr hdl hcN hE hD
    have hm0 : (0 : Int) ≤ (m : Int) := by omega
    have hN0 : (0 : Int) ≤ (N : Int) := by omega
    have hDE' : (D : Int) ≤ (E : Int) := by omega
    by_cases hmD : m ≤ D
    · rw [show min m D = m by omega] at HC0 ⊢
      have x1 : (m : Int) ≤ (D : Int) := by omega
      have x2 : m ≤ E := by omega
      have x3 : (m : Int) ≤ (E : Int) := by omega
      have x4 : min (m : Int) (D : Int) = (m : Int) := by omega
      have x5 : ¬ (D : Int) < (m : Int) := by omega
      go_enter Tryz.func7, Tryz.ntmps7
      go_wp2_with fail
      refine HBg.out.mono ?_
      rintro e w1 ⟨rfl, hb1⟩
      have HB1 := Lib.hid hb1
      clear hb1 HBg
      go_wp2_with fail
      have HB1' := HB1.out
      refine (HC0.out _ HB1').mono ?_
      rintro e w2 ⟨v2, rfl, ho, hb2⟩
      have HO := Lib.hid (row_base ho HB1.out.size)
      have HB2 := Lib.hid (btr HB1.out hb2)
      clear hb2 HB1 HB1' HC0 ho
      go_wp2_with fail
      go_ret2
      exact ⟨_, rfl, HO.out, HB2.out⟩
    · rw [show min m D = D by omega] at HC0 ⊢
      have x1 : (D : Int) < (m : Int) := by omega
      have x4 : min (m : Int) (D : Int) = (D : Int) := by omega
      have x5 : ¬ (m : Int) < (D : Int) := by omega
      have x6 : ¬ (m : Int) ≤ (D : Int) := by omega
      go_enter Tryz.func7, Tryz.ntmps7
      go_wp2_with fail
      refine HBg.out.mono ?_
      rintro e w1 ⟨rfl, hb1⟩
      have HB1 := Lib.hid hb1
      clear hb1 HBg
      go_wp2_with fail
      have HB1' := HB1.out
      refine (HC0.out _ HB1').mono ?_
      rintro e w2 ⟨v2, rfl, ho, hb2⟩
      have HO := Lib.hid (row_base ho HB1.out.size)
      have HB2 := Lib.hid (btr HB1.out hb2)
      clear hb2 HB1 HB1' HC0 ho
      go_wp2_with fail
      go_ret2
      exact ⟨_, rfl, HO.out, HB2.out⟩

/-- What Take says. -/
def takeE (h m : List En) : Int := if logE h = 0 then logE (h ++ m) else logE h
def takeL (h m : List En) : List En := if takeE h m = 0 then h ++ m else []
theorem logE_long {l : List En} (h : 30 < l.length) : logE l = 2 := by unfold logE; rw [if_pos h]
set_option maxHeartbeats 16000000 in
set_option maxRecDepth 100000 in
theorem take_bad (a a' : Option Addr) (c c' : Nat) (h l : List En) (w : World) (hc : h.length ≤ c) (hc' : l.length ≤ c') (hs : Lies enE w a h) (hs' : Lies enE w a' l) (hn : a = none → c = 0) (hn' : a' = none → c' = 0) (h0 : ¬ takeE h l = 0) :
    Calls Tryz.prog 8 #[.slice a h.length c, .slice a' l.length c'] w fun e w' => e = .returned (.tuple #[.slice none 0 0, .int .i64 (takeE h l)]) ∧ Below w.heap.size w w' := by
  have HC := Lib.hid (lcheck_any a c h w hc hs)
  by_cases h1 : logE h = 0
  · have hh := logE_len h1
    rw [show takeE h l = logE (h ++ l) by unfold takeE; rw [if_pos h1]] at *
    by_cases h2 : 30 - (h.length : Int) < (l.length : Int)
    · rw [logE_long (by rw [List.length_append]; omega)]
      rw [h1] at HC
      generalize h.length = N at *
      generalize l.length = M at *
      clear hs hs' hc hc' h0 h1 hn hn'
      have hM0 : (0 : Int) ≤ (M : Int) := by omega
      have hw0 : IntKind.i64.wrap (30 - (N : Int)) = 30 - (N : Int) := by rw [IntKind.wrap_i64]; omega
      go_enter Tryz.func8, Tryz.ntmps8
      go_wp2_with fail
      refine HC.out.mono ?_
      rintro e w1 ⟨rfl, hb1⟩
      have HB1 := Lib.hid hb1
      clear hb1 HC
      go_wp2_with fail
      go_ret2
      exact ⟨rfl, HB1.out⟩
    · have hb : logE h = 0 := h1
      have HCat : Hid (∀ (W : World) (b : Nat), Below w.heap.size w W → W.cell? ⟨b, 0, none⟩ = some (.slice a h.length c) → W.cell? ⟨b, 1, none⟩ = some (.slice a' l.length c') → b < W.heap.size → Calls Tryz.prog 18 #[.slice (some ⟨b, 0, none⟩) 2 2] W fun e w' => ∃ a3 c3, e = .returned (.slice a3 (h ++ l).length c3) ∧ (h ++ l).length ≤ c3 ∧ Lies enE w' a3 (h ++ l) ∧ w'.ownsRow W.heap.size 55 enE.k (.slice a3 (h ++ l).length c3) (h ++ l).length (rowOf enE (h ++ l)) ∧ Below W.heap.size W w') := fun W b hW k1 k2 hlt => (concat_en b a a' c c' h l W (hs.below hW) (hs'.below hW) hn hn' k1 k2 hlt (by omega) (by omega)).mono fun e w' ⟨v, q1, q2, q3⟩ => by
        obtain ⟨a3, c3, rfl, z1, z2, -, -⟩ := own_open0 q2
        exact ⟨a3, c3, q1, z1, z2, q2, q3⟩
      have HL2 : Hid (∀ (W : World) (a3 : Option Addr) (c3 : Nat), (h ++ l).length ≤ c3 → Lies enE W a3 (h ++ l) → Calls Tryz.prog 11 #[.slice a3 (h ++ l).length c3] W fun e w' => e = .returned (.int .i64 (logE (h ++ l))) ∧ Below W.heap.size W w') := fun W a3 c3 z1 z2 => lcheck_any a3 c3 (h ++ l) W z1 z2
      rw [h1] at HC
      have hw0 : IntKind.i64.wrap (30 - (h.length : Int)) = 30 - (h.length : Int) := by rw [IntKind.wrap_i64]; omega
      have hN0 : (0 : Int) ≤ (h.length : Int) := by omega
      generalize (h ++ l).length = K at *
      generalize rowOf enE (h ++ l) = row at *
      generalize logE (h ++ l) = r at *
      have hI : (r != 0) = true := by rw [bne_iff_ne]; exact h0
      clear h0
      generalize h.length = N at *
      generalize l.length = M at *
      clear hs hs' hc hc' hn hn' hh h1 hb
      go_enter Tryz.func8, Tryz.ntmps8
      go_wp2_with fail
      refine HC.out.mono ?_
      rintro e w1 ⟨rfl, hb1⟩
      have HB1 := Lib.hid hb1
      clear hb1 HC
      go_wp2_with fail
      have hk := Blk.new w1 [.slice a N c, .slice a' M c'] 22
      refine (HCat.out _ w1.heap.size (bal HB1.out _) hk.two.1.1 hk.two.1.2 hk.lt).mono ?_
      rintro e w2 ⟨a3, c3, rfl, hc3, hl3, ho3, hb2⟩
      have HB1a := bal HB1.out (.cells #[.slice a N c, .slice a' M c'] 22)
      have HB2 := Lib.hid (btr HB1a hb2)
      have HO2 := Lib.hid (row_base ho3 HB1a.size)
      have HC3 := Lib.hid hc3
      have HL3 := Lib.hid hl3
      clear hb2 hc3 hl3 ho3 hk HB1a HB1 HCat
      go_wp2_with fail
      refine (HL2.out _ a3 c3 HC3.out HL3.out).mono ?_
      rintro e w3 ⟨rfl, hb3⟩
      have HB3 := Lib.hid (btr HB2.out hb3)
      have HO3 := Lib.hid (own_keep HO2.out hb3)
      clear hb3 HB2 HO2 HL3 HL2 HC3
      go_wp2_with fail
      go_ret2
      exact ⟨rfl, HB3.out⟩
  · rw [show takeE h l = logE h by unfold takeE; rw [if_neg h1]] at *
    generalize logE h = r at *
    generalize h.length = N at *
    generalize l.length = M at *
    have hI : (r != 0) = true := by rw [bne_iff_ne]; exact h1
    clear hs hs' hc hc' h0 h1 hn hn'
    go_enter Tryz.func8, Tryz.ntmps8
    go_wp2_with fail
    refine HC.out.mono ?_
    rintro e w1 ⟨rfl, hb1⟩
    have HB1 := Lib.hid hb1
    clear hb1 HC
    go_wp2_with fail
    go_ret2
    exact ⟨rfl, HB1.out⟩
set_option maxHeartbeats 16000000 in
set_option maxRecDepth 100000 in
theorem take_ok (a a' : Option Addr) (c c' : Nat) (h l : List En) (w : World) (hc : h.length ≤ c) (hc' : l.length ≤ c') (hs : Lies enE w a h) (hs' : Lies enE w a' l) (hn : a = none → c = 0) (hn' : a' = none → c' = 0) (h0 : takeE h l = 0) :
    Calls Tryz.prog 8 #[.slice a h.length c, .slice a' l.length c'] w fun e w' => ∃ v, e = .returned (.tuple #[v, .int .i64 0]) ∧ w'.ownsRow w.heap.size 55 enE.k v (takeL h l).length (rowOf enE (takeL h l)) ∧ Below w.heap.size w w' := by
  rw [show takeL h l = h ++ l by unfold takeL; rw [if_pos h0]]
  have HC := Lib.hid (lcheck_any a c h w hc hs)
  have h1 : logE h = 0 := by unfold takeE at h0; by_cases q : logE h = 0; exact q; rw [if_neg q] at h0; exact h0
  have hh := logE_len h1
  have h3 : logE (h ++ l) = 0 := by unfold takeE at h0; rw [if_pos h1] at h0; exact h0
  have hlen := logE_len h3
  rw [List.length_append] at hlen
  have h2 : ¬ 30 - (h.length : Int) < (l.length : Int) := by omega
  clear hlen
  have HCat : Hid (∀ (W : World) (b : Nat), Below w.heap.size w W → W.cell? ⟨b, 0, none⟩ = some (.slice a h.length c) → W.cell? ⟨b, 1, none⟩ = some (.slice a' l.length c') → b < W.heap.size → Calls Tryz.prog 18 #[.slice (some ⟨b, 0, none⟩) 2 2] W fun e w' => ∃ a3 c3, e = .returned (.slice a3 (h ++ l).length c3) ∧ (h ++ l).length ≤ c3 ∧ Lies enE w' a3 (h ++ l) ∧ w'.ownsRow W.heap.size 55 enE.k (.slice a3 (h ++ l).length c3) (h ++ l).length (rowOf enE (h ++ l)) ∧ Below W.heap.size W w') := fun W b hW k1 k2 hlt => (concat_en b a a' c c' h l W (hs.below hW) (hs'.below hW) hn hn' k1 k2 hlt (by omega) (by omega)).mono fun e w' ⟨v, q1, q2, q3⟩ => by
    obtain ⟨a3, c3, rfl, z1, z2, -, -⟩ := own_open0 q2
    exact ⟨a3, c3, q1, z1, z2, q2, q3⟩
  have HL2 : Hid (∀ (W : World) (a3 : Option Addr) (c3 : Nat), (h ++ l).length ≤ c3 → Lies enE W a3 (h ++ l) → Calls Tryz.prog 11 #[.slice a3 (h ++ l).length c3] W fun e w' => e = .returned (.int .i64 (logE (h ++ l))) ∧ Below W.heap.size W w') := fun W a3 c3 z1 z2 => lcheck_any a3 c3 (h ++ l) W z1 z2
  rw [h1] at HC
  have hw0 : IntKind.i64.wrap (30 - (h.length : Int)) = 30 - (h.length : Int) := by rw [IntKind.wrap_i64]; omega
  have hN0 : (0 : Int) ≤ (h.length : Int) := by omega
  rw [h3] at HL2
  clear h3 h0
  generalize h ++ l = L at *
  generalize L.length = K at *
  generalize rowOf enE L = row at *
  generalize h.length = N at *
  generalize l.length = M at *
  clear hs hs' hc hc' hn hn' hh h1
  go_enter Tryz.func8, Tryz.ntmps8
  go_wp2_with fail
  refine HC.out.mono ?_
  rintro e w1 ⟨rfl, hb1⟩
  have HB1 := Lib.hid hb1
  clear hb1 HC
  go_wp2_with fail
  have hk := Blk.new w1 [.slice a N c, .slice a' M c'] 22
  refine (HCat.out _ w1.heap.size (bal HB1.out _) hk.two.1.1 hk.two.1.2 hk.lt).mono ?_
  rintro e w2 ⟨a3, c3, rfl, hc3, hl3, ho3, hb2⟩
  have HB1a := bal HB1.out (.cells #[.slice a N c, .slice a' M c'] 22)
  have HB2 := Lib.hid (btr HB1a hb2)
  have HO2 := Lib.hid (row_base ho3 HB1a.size)
  have HC3 := Lib.hid hc3
  have HL3 := Lib.hid hl3
  clear hb2 hc3 hl3 ho3 hk HB1a HB1 HCat
  go_wp2_with fail
  refine (HL2.out _ a3 c3 HC3.out HL3.out).mono ?_
  rintro e w3 ⟨rfl, hb3⟩
  have HB3 := Lib.hid (btr HB2.out hb3)
  have HO3 := Lib.hid (own_keep HO2.out hb3)
  clear hb3 HB2 HO2 HL3 HL2 HC3
  go_wp2_with fail
  go_ret2
  exact ⟨_, rfl, HO3.out, HB3.out⟩
end Go.Proofs.YtclnfkohlklbpaaGreat

namespace Go.Proofs.YtclnfkohlklbpaaGreat
open Go.RowKit

theorem shnext_any (a a' : Option Addr) (c c' : Nat) (h l : List En) (many : Int) (w : World) (hc : h.length ≤ c) (hc' : l.length ≤ c') (hs : Lies enE w a h) (hs' : Lies enE w a' l) (hn : a' = none → c' = 0) :
    Calls Tryz.prog 7 #[.slice a h.length c, .slice a' l.length c', .int .i64 many] w fun e w' => ∃ a3 c3, e = .returned (.tuple #[.slice a3 (nextL h l many).length c3, .int .i64 (nextE h l many)]) ∧ (nextL h l many).length ≤ c3 ∧ Lies enE w' a3 (nextL h l many) ∧ (a3 = none → c3 = 0) ∧ Below w.heap.size w w' := by
  by_cases h0 : nextE h l many = 0
  · refine (next_ok a a' c c' h l many w hc hc' hs hs' hn h0).mono ?_
    rintro e w' ⟨v, rfl, ho, hb⟩
    obtain ⟨a3, c3, rfl, z1, z2, z3, -⟩ := own_open0 ho
    rw [h0]
    exact ⟨a3, c3, rfl, z1, z2, z3, hb⟩
  · refine (next_bad a a' c c' h l many w hc hc' hs hs' h0).mono ?_
    rintro e w' ⟨rfl, hb⟩
    rw [show nextL h l many = [] by unfold nextL; rw [if_neg h0]]
    exact ⟨none, 0, rfl, Nat.le_refl _, Lies.nil _ _ _, fun _ => rfl, hb⟩
theorem take_any (a a' : Option Addr) (c c' : Nat) (h l : List En) (w : World) (hc : h.length ≤ c) (hc' : l.length ≤ c') (hs : Lies enE w a h) (hs' : Lies enE w a' l) (hn : a = none → c = 0) (hn' : a' = none → c' = 0) :
    Calls Tryz.prog 8 #[.slice a h.length c, .slice a' l.length c'] w fun e w' => ∃ a3 c3, e = .returned (.tuple #[.slice a3 (takeL h l).length c3, .int .i64 (takeE h l)]) ∧ (takeL h l).length ≤ c3 ∧ Lies enE w' a3 (takeL h l) ∧ (a3 = none → c3 = 0) ∧ Below w.heap.size w w' := by
  by_cases h0 : takeE h l = 0
  · refine (take_ok a a' c c' h l w hc hc' hs hs' hn hn' h0).mono ?_
    rintro e w' ⟨v, rfl, ho, hb⟩
    obtain ⟨a3, c3, rfl, z1, z2, z3, -⟩ := own_open0 ho
    rw [h0]
    exact ⟨a3, c3, rfl, z1, z2, z3, hb⟩
  · refine (take_bad a a' c c' h l w hc hc' hs hs' hn hn' h0).mono ?_
    rintro e w' ⟨rfl, hb⟩
    rw [show takeL h l = [] by unfold takeL; rw [if_neg h0]]
    exact ⟨none, 0, rfl, Nat.le_refl _, Lies.nil _ _ _, fun _ => rfl, hb⟩
theorem lies_new1 (W : World) (x : En) : Lies enE (W.alloc (.cells #[.int .i64 x.num, .int .i64 x.ep, .int .i64 x.o.k, .bool x.o.p.v, .int .u64 x.o.p.hi, .int .u64 x.o.p.lo, .int .i64 x.o.p.b, .bool x.o.a.v, .int .u64 x.o.a.hi, .int .u64 x.o.a.lo, .string x.o.who, .int .i64 x.o.pof, .int .i64 x.o.n] 55)) (some ⟨W.heap.size, 0, none⟩) [x] := by
  intro j hj
  obtain rfl : j = 0 := by simp at hj; omega
  have hb := Blk.new W (enE.f x) 55
  refine ⟨W.heap.size, 0, rfl, hb.lt, fun i v hi => ?_⟩
  have h2 : 0 + 0 * enE.k + i = i := by simp
  rw [h2]
  exact hb.cell i v hi
end Go.Proofs.YtclnfkohlklbpaaGreat

namespace Go.Proofs.YtclnfkohlklbpaaGreat
open Go.RowKit

def logK : List En := [en1, en2, en3]
theorem k_n1 : nextE [en1] logK 1 = 0 := by kernel_rfl
theorem k_n2 : nextL [en1] logK 1 = [en2] := by
  have h := k_n1
  unfold nextL
  rw [if_pos h]
  rfl
theorem k_t1 : takeE [en1] [en2] = 0 := by kernel_rfl
theorem k_t2 : takeL [en1] [en2] = [en1, en2] := by
  unfold takeL
  rw [if_pos k_t1]
  rfl
theorem k_t3 : takeE [en1, en2] [en2] = 4 := by kernel_rfl
theorem k_t4 : takeL [en1, en2] [en2] = [] := by
  unfold takeL
  rw [if_neg (by rw [k_t3]; decide)]
set_option maxHeartbeats 16000000 in
set_option maxRecDepth 100000 in
theorem sbegun_ship (w : World) : Calls Tryz.prog 5 #[] w fun e w' => e = .returned (.bool true) ∧ Below w.heap.size w w' := by
  have hE : Hid (∀ W : World, Calls Tryz.prog 12 #[] W fun e w' => ∃ g : Nat, e = .returned (.slice (some ⟨g, 0, none⟩) 3 3) ∧ Lies enE w' (some ⟨g, 0, none⟩) logK ∧ W.heap.size ≤ g ∧ Below W.heap.size W w') := entries_any
  have hN : Hid (∀ (g g' : Nat) (W : World), Lies enE W (some ⟨g, 0, none⟩) logK → Lies enE W (some ⟨g', 0, none⟩) logK → Calls Tryz.prog 7 #[.slice (some ⟨g, 0, none⟩) 1 3, .slice (some ⟨g', 0, none⟩) 3 3, .int .i64 1] W fun e w' => ∃ a3 c3, e = .returned (.tuple #[.slice a3 1 c3, .int .i64 0]) ∧ 1 ≤ c3 ∧ Lies enE w' a3 [en2] ∧ Below W.heap.size W w') := fun g g' W h h' => by
    have := shnext_any (some ⟨g, 0, none⟩) (some ⟨g', 0, none⟩) 3 3 [en1] logK 1 W (by decide) (by decide) (h.take 1) h' (fun e => by simp at e)
    rw [k_n1, k_n2] at this
    exact this.mono fun e w' ⟨a3, c3, q1, q2, q3, q4, q5⟩ => ⟨a3, c3, q1, q2, q3, q5⟩
  have hT : Hid (∀ (g : Nat) (a : Option Addr) (c : Nat) (W : World), Lies enE W (some ⟨g, 0, none⟩) logK → 1 ≤ c → Lies enE W a [en2] → Calls Tryz.prog 8 #[.slice (some ⟨g, 0, none⟩) 1 3, .slice a 1 c] W fun e w' => ∃ a3 c3, e = .returned (.tuple #[.slice a3 2 c3, .int .i64 0]) ∧ 2 ≤ c3 ∧ Lies enE w' a3 [en1, en2] ∧ Below W.heap.size W w') := fun g a c W h hc h' => by
    have := take_any (some ⟨g, 0, none⟩) a 3 c [en1] [en2] W (by decide) hc (h.take 1) h' (fun e => by simp at e) (fun e => by subst e; exact absurd h'.none_nil (by simp))
    rw [k_t1, k_t2] at this
    exact this.mono fun e w' ⟨a3, c3, q1, q2, q3, q4, q5⟩ => ⟨a3, c3, q1, q2, q3, q5⟩
  have hU : Hid (∀ (b a : Option Addr) (d c : Nat) (W : World), 2 ≤ d → Lies enE W b [en1, en2] → 1 ≤ c → Lies enE W a [en2] → Calls Tryz.prog 8 #[.slice b 2 d, .slice a 1 c] W fun e w' => ∃ a3 c3, e = .returned (.tuple #[.slice a3 0 c3, .int .i64 4]) ∧ Below W.heap.size W w') := fun b a d c W hd h hc h' => by
    have := take_any b a d c [en1, en2] [en2] W hd hc h h' (fun e => by subst e; exact absurd h.none_nil (by simp)) (fun e => by subst e; exact absurd h'.none_nil (by simp))
    rw [k_t3, k_t4] at this
    exact this.mono fun e w' ⟨a3, c3, q1, q2, q3, q4, q5⟩ => ⟨a3, c3, q1, q5⟩
  have hS : Hid (∀ (b : Option Addr) (g d : Nat) (W : World), Lies enE W b [en1, en2] → Lies enE W (some ⟨g, 0, none⟩) logK → Calls Tryz.prog 10 #[.slice b 2 d, .slice (some ⟨g, 0, none⟩) 2 3] W fun e w' => e = .returned (.bool true) ∧ Below W.heap.size W w') := fun b g d W h h' => rsame_log b (some ⟨g, 0, none⟩) d 3 [en1, en2] W (by decide) h (h'.take 2)
  generalize logK = LK at *
  generalize [en1, en2] = L2 at *
  generalize [en2] = L1 at *
  go_enter Tryz.func5, Tryz.ntmps5
  go_wp2_with fail
  go_cut [1, 2] from 2 (fun sl se wc => ∃ (a1 : Option Addr) (c1 : Nat), sl = .slice a1 1 c1 ∧ se = .int .i64 0 ∧ Hid (Lies enE wc a1 L1 ∧ 1 ≤ c1 ∧ Below w.heap.size w wc))
  case first =>
    go_wp2_with fail
    go_region_with
      (first
        | (go_at_call 7; (refine (hN.out ga gb wb HLa2.out HLb.out).mono ?_); rintro e w1 ⟨a1, c1, rfl, hc1, hl1, hb1⟩; have HB1 := Lib.hid (btr HBb.out hb1); have HL1 := Lib.hid hl1; have HC1 := Lib.hid hc1; clear hb1 hl1 hc1)
        | (go_at_call 12; (refine (hE.out wa).mono ?_); rintro e wb ⟨gb, rfl, hlb, -, hbb⟩; have HBb := Lib.hid (btr HBa.out hbb); have HLa2 := Lib.hid (HLa.out.below hbb); have HLb := Lib.hid hlb; clear hlb hbb)
        | (go_at_call 12; (refine (hE.out w.drew).mono ?_); rintro e wa ⟨ga, rfl, hla, -, hba⟩; have HBa := Lib.hid (btr (Below.refl w.heap.size w).drew hba); have HLa := Lib.hid hla; clear hla hba))
    all_goals go_wp2_with fail
    all_goals go_meet
    all_goals exact ⟨a1, c1, rfl, rfl, ⟨HL1.out, HC1.out, HB1.out⟩⟩
  case rest =>
    obtain ⟨a1, c1, rfl, rfl, hK⟩ := hcut
    have HL1 := Lib.hid hK.out.1
    have HC1 := Lib.hid hK.out.2.1
    have HB1 := Lib.hid hK.out.2.2
    clear hK
    go_wp2_with fail
    refine (hE.out _).mono ?_
    rintro e w2 ⟨g2, rfl, hl2, -, hb2⟩
    have HB2 := Lib.hid (btr HB1.out hb2)
    have HL2 := Lib.hid (HL1.out.below hb2)
    have HK2 := Lib.hid hl2
    clear hb2 hl2 HL1 HB1
    go_wp2_with fail
    refine (hT.out _ _ _ _ HK2.out HC1.out HL2.out).mono ?_
    rintro e w3 ⟨a3, c3, rfl, hc3, hl3, hb3⟩
    have HB3 := Lib.hid (btr HB2.out hb3)
    have HL3 := Lib.hid (HL2.out.below hb3)
    have HM3 := Lib.hid hl3
    have HC3 := Lib.hid hc3
    clear hb3 hl3 hc3 HB2 HL2 HK2 hT
    go_wp2_with fail
    refine (hU.out _ _ _ _ _ HC3.out HM3.out HC1.out HL3.out).mono ?_
    rintro e w4 ⟨a4, c4, rfl, hb4⟩
    have HB4 := Lib.hid (btr HB3.out hb4)
    have HM4 := Lib.hid (HM3.out.below hb4)
    clear hb4 HB3 HM3 HL3 hU
    go_wp2_with fail
    refine (hE.out _).mono ?_
    rintro e w5 ⟨g5, rfl, hl5, -, hb5⟩
    have HB5 := Lib.hid (btr HB4.out hb5)
    have HM5 := Lib.hid (HM4.out.below hb5)
    have HK5 := Lib.hid hl5
    clear hb5 hl5 HB4 HM4
    go_wp2_with fail
    refine (hS.out _ _ _ _ HM5.out HK5.out).mono ?_
    rintro e w6 ⟨rfl, hb6⟩
    have HB6 := Lib.hid (btr HB5.out hb6)
    clear hb6 HB5 HM5 HK5
    go_wp2
    go_ret
    exact ⟨rfl, HB6.out⟩
end Go.Proofs.YtclnfkohlklbpaaGreat
