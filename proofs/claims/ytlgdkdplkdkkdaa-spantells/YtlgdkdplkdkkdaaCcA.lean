/- slices.Grow of nothing, and slices.Concat of two lists of prefixes. -/
import Derived.Test.YtlgdkdplkdkkdaaTmB
import Derived.Test.YtlgdkdplkdkkdaaSpB
import Derived.Laws.AppendOwnNone
import Derived.Lib.AppendZeros
set_option linter.unusedVariables false
set_option linter.unusedSimpArgs false
namespace Go.Proofs.Ytlgdkdplkdkkdaa
open Go.RowKit

theorem wpList_append_pfs {P : Program} {w : World} {ops : Array Oper} {rest : List Oper} {o : Oper} {a : Act} {Q : Exit → Act → World → Prop} (hgd : o.guard = none) (s x : Operand) (t : TypeId)
    (ho : o.op = .call { callee := .builtin .append, args := #[s, x], argTypes := #[t, t] })
    (base : Nat) (i : TypeInfo) (z : Value) (ht : P.underlying t = some (.slice 27)) (hi : P.info? 27 = some i) (hz : i.zero = some z)
    (hsize : i.size = 4) (hby : i.bytes = 32) (hzs : z.cells.size = 4)
    (v : Value) (xs : List Pf) (hs : a.eval s = v) (hown : w.ownsRow base 27 4 v xs.length (flat xs))
    (vx : Value) (B2 : Nat) (ys : List Pf) (hx : a.eval x = vx) (hown2 : w.ownsRow B2 27 4 vx ys.length (flat ys))
    (h63 : xs.length + ys.length ≤ 100000) (hbase : base ≤ w.heap.size)
    (h : ∀ v' w', w'.ownsRow base 27 4 v' (xs ++ ys).length (flat (xs ++ ys)) → w.grownBy w' v.ownBlock → wpList P ops Q rest (a.put o.dst v') w') : wpList P ops Q (o :: rest) a w := by
  obtain ⟨ad, c, rfl, hc, hsl⟩ := own_sl hown2
  obtain ⟨hl, h2⟩ := hown2
  rcases h2 with ⟨e, h0⟩ | ⟨g, cap, cur, e, hg, h3⟩
  · have : ys = [] := List.length_eq_zero_iff.1 h0
    subst this
    rw [e] at hx
    refine wpList_append_own_none hgd s x t ho base 27 i 4 ht hi v xs.length (flat xs) hs hown hx ?_
    exact h v w (by simpa using hown) (World.grownBy.refl _ _)
  · injection e with e1 e2 e3
    subst e1 e3
    refine wpList_append_own w hgd s x t ho base 27 i z 4 32 ht hi hz hsize hby hzs (by decide) v xs.length (flat xs) hs hown ⟨g, 0, none⟩ ys.length c (flat ys) hx hl (sl_news hsl) (flat_one _) (by unfold maxLen; omega) (by omega) hbase (fun v' w' a b _ => h v' w' ?_ b)
    rw [List.length_append, flat_append]; exact a

set_option maxHeartbeats 2000000 in
set_option maxRecDepth 100000 in
theorem growP_any (n : Nat) (w : World) (h0 : 0 < n) (h1 : n ≤ 100000) :
    Calls Try.prog 54 #[.slice none 0 0, .int .i64 n] w fun e w' => ∃ v, e = .returned v ∧ w'.ownsRow w.heap.size 27 4 v 0 [] ∧ Below w.heap.size w w' := by
  obtain ⟨i0, hi, hz0, hz1, hz2⟩ := info_parts infoP
  have hrz := Lib.run_append_nil_zeros (P := Try.prog) w 22 3 22 27 i0 (.agg #[.bool false, .int .u64 0, .int .u64 0, .int .i64 0]) .i64 .i64 Try.underlying22 Try.underlying3 hi hz0 n h0 (by omega) (by omega) (by rw [hz2]; omega)
  have hGn : n ≤ grownCap w n 0 27 := grownCap_ge w _ _ _
  have hGm : grownCap w n 0 27 ≤ maxLen := grownCap_le_maxLen w n 0 _ (by unfold maxLen; omega)
  obtain ⟨G, hG⟩ : ∃ G, G = grownCap w n 0 27 := ⟨_, rfl⟩
  rw [← hG] at hrz hGn hGm
  have hsz : (Builtin.zeroCells (Value.agg #[.bool false, .int .u64 0, .int .u64 0, .int .i64 0]).cells n ++ Builtin.zeroCells (Value.agg #[.bool false, .int .u64 0, .int .u64 0, .int .i64 0]).cells (G - n)).size = G * 4 := by
    rw [Array.size_append, size_zeroCells, size_zeroCells]; simp [Value.cells]; omega
  generalize (Builtin.zeroCells (Value.agg #[.bool false, .int .u64 0, .int .u64 0, .int .i64 0]).cells n ++ Builtin.zeroCells (Value.agg #[.bool false, .int .u64 0, .int .u64 0, .int .i64 0]).cells (G - n)) = zs at hrz hsz
  have HZ : Hid (zs.size = G * 4) := hsz
  have HM : Hid (G ≤ maxLen) := hGm
  have hn0 : (0 : Int) < (n : Int) := by omega
  have hG64 : (G : Int) ≤ 9223372036854775807 := by have := HM.out; unfold maxLen at this; omega
  clear hG hsz hGm
  have HR : Hid ((Builtin.append_ #[22, 3] 22 #[.slice none 0 0, .int .i64 n]).run Try.prog w = .ok (.slice (some ⟨w.heap.size, 0, none⟩) n G) (w.drew.alloc (.cells zs 27))) := hrz
  clear hrz
  go_enter Try.func54, Try.ntmps54
  go_wp2_with (at_builtin; refine Lib.wpList_append_run _ rfl _ _ _ _ rfl _ _ rfl rfl _ _ HR.out ?_)
  go_ret
  refine ⟨_, rfl, ⟨rfl, .inr ⟨w.heap.size, G, zs, rfl, Nat.le_refl _, ?_, Nat.zero_le _, HM.out, ?_, ?_⟩⟩, ?_⟩
  · simp [World.alloc, World.drew, -World.alloc_eq, -World.drew_eq]
  · rw [HZ.out]
  · simp
  · exact (bal (Below.refl _ _) _).drew

set_option maxHeartbeats 4000000 in
set_option maxRecDepth 100000 in
theorem concatP_any (b B1 B2 : Nat) (a1 a2 : Option Addr) (n1 n2 c1 c2 : Nat) (g1 g2 : List Pf) (w : World)
    (e1 : g1.length = n1) (e2 : g2.length = n2)
    (h1 : w.ownsRow B1 27 4 (.slice a1 n1 c1) n1 (flat g1)) (h2 : w.ownsRow B2 27 4 (.slice a2 n2 c2) n2 (flat g2))
    (k1 : w.cell? ⟨b, 0, none⟩ = some (.slice a1 n1 c1)) (k2 : w.cell? ⟨b, 1, none⟩ = some (.slice a2 n2 c2))
    (hb : b < w.heap.size) (hp : 0 < n1 + n2) (m1 : n1 ≤ 10000) (m2 : n2 ≤ 10000) :
    Calls Try.prog 40 #[.slice (some ⟨b, 0, none⟩) 2 2] w fun e w' =>
      ∃ v, e = .returned v ∧ w'.ownsRow w.heap.size 27 4 v (g1 ++ g2).length (flat (g1 ++ g2)) ∧ Below w.heap.size w w' := by
  obtain ⟨i0, hi, hz0, hz1, hz2⟩ := info_parts infoP
  have hGr := growP_any (n1 + n2)
  have HG : Hid (∀ w : World, Calls Try.prog 54 #[.slice none 0 0, .int .i64 ((n1 : Int) + n2)] w fun e w' => ∃ v, e = .returned v ∧ w'.ownsRow w.heap.size 27 4 v 0 [] ∧ Below w.heap.size w w') := fun w => by
    rw [show ((n1 : Int) + n2) = ((n1 + n2 : Nat) : Int) by omega]; exact hGr w hp (by omega)
  clear hGr
  have H1 : Hid (w.ownsRow B1 27 4 (.slice a1 n1 c1) n1 (flat g1)) := h1
  have H2 : Hid (w.ownsRow B2 27 4 (.slice a2 n2 c2) n2 (flat g2)) := h2
  have E1 := Lib.hid e1
  have E2 := Lib.hid e2
  clear h1 h2 e1 e2
  go_enter Try.func40, Try.ntmps40
  go_wp2_with fail
  go_loop [3, 11] (fun vs vi => (vi = .int .i64 0 ∧ vs = .int .i64 0) ∨ (vi = .int .i64 1 ∧ vs = .int .i64 n1) ∨ (vi = .int .i64 2 ∧ vs = .int .i64 ((n1 : Int) + n2)))
    (fun _ vi => 2 - (intOf vi).toNat)
  case atStart => exact .inl ⟨rfl, rfl⟩
  case round =>
    rcases hrel with ⟨rfl, rfl⟩ | ⟨rfl, rfl⟩ | ⟨rfl, rfl⟩
    · go_wp2_with fail
      go_round
      case rel => exact .inr (.inl ⟨rfl, by go_num⟩)
      case measure => simp [intOf]
    · go_wp2_with fail
      go_round
      case rel => exact .inr (.inr ⟨rfl, by go_num⟩)
      case measure => simp [intOf]
    · go_wp2_with fail
      refine (HG.out _).mono ?_
      rintro e w1 ⟨v0, rfl, hown0, hb0⟩
      have HO : Hid (w1.ownsRow w.heap.size 27 4 v0 0 []) := hown0
      clear hown0 HG
      go_wp2_with fail
      go_loopw [6, 27] (fun v vi wr => ∃ (k : Nat) (l : List Pf), vi = .int .i64 k ∧ Below w.heap.size w wr ∧ wr.ownsRow w.heap.size 27 4 v l.length (flat l) ∧
          Hid ((k = 0 ∧ l = []) ∨ (k = 1 ∧ l = g1) ∨ (k = 2 ∧ l = g1 ++ g2)))
        (fun _ vi _ => 2 - (intOf vi).toNat)
      case atStart => exact ⟨0, [], rfl, hb0, HO.out, .inl ⟨rfl, rfl⟩⟩
      case round =>
        obtain ⟨k, l, rfl, hbw, hown, hh⟩ := hrel
        rcases hh.out with ⟨rfl, rfl⟩ | ⟨rfl, rfl⟩ | ⟨rfl, rfl⟩
        all_goals clear hh
        · have hown' : Hid (wr.ownsRow w.heap.size 27 4 u6 ([] : List Pf).length (flat [])) := hown
          have hs : Hid (wr.ownsRow B1 27 4 (.slice a1 n1 c1) g1.length (flat g1)) := by rw [E1.out]; exact own_keep H1.out hbw
          have hbb := hbw.size
          have hcc := bcell hbw
          have q1 : wr.cell? ⟨b, 0, none⟩ = some (.slice a1 n1 c1) := by rw [hcc.1 _ _ hb]; exact k1
          clear hcc k1 k2 hown
          go_wp2_with (at_builtin; refine wpList_append_pfs rfl _ _ 22 rfl w.heap.size i0 _ Try.underlying22 hi hz0 hz1 hz2 rfl _ [] rfl hown'.out (.slice a1 n1 c1) B1 g1 rfl hs.out ?c3 ?c5 ?_)
          case c3 => rw [E1.out]; simp; omega
          case c5 => exact hbb
          intro v' w3 hown2 hgrow
          have hb3 : Below w.heap.size w w3 := hbw.grown hgrow hbb (fun k hk => (hown'.out.lt k hk).1)
          have hown3 := Lib.hid hown2
          clear hgrow hown' hs hown2
          go_wp2_with fail
          go_roundw
          case rel => exact ⟨1, g1, by go_num, hb3, hown3.out, .inr (.inl ⟨rfl, rfl⟩)⟩
          case measure => simp [intOf]
        · have hown' : Hid (wr.ownsRow w.heap.size 27 4 u6 l.length (flat l)) := hown
          have hs : Hid (wr.ownsRow B2 27 4 (.slice a2 n2 c2) g2.length (flat g2)) := by rw [E2.out]; exact own_keep H2.out hbw
          have hbb := hbw.size
          have hcc := bcell hbw
          have q1 : wr.cell? ⟨b, 1, none⟩ = some (.slice a2 n2 c2) := by rw [hcc.1 _ _ hb]; exact k2
          clear hcc k1 k2 hown
          go_wp2_with (at_builtin; refine wpList_append_pfs rfl _ _ 22 rfl w.heap.size i0 _ Try.underlying22 hi hz0 hz1 hz2 rfl _ l rfl hown'.out (.slice a2 n2 c2) B2 g2 rfl hs.out ?c3 ?c5 ?_)
          case c3 => rw [E1.out, E2.out]; omega
          case c5 => exact hbb
          intro v' w3 hown2 hgrow
          have hb3 : Below w.heap.size w w3 := hbw.grown hgrow hbb (fun k hk => (hown'.out.lt k hk).1)
          have hown3 := Lib.hid hown2
          clear hgrow hown' hs hown2
          go_wp2_with fail
          go_roundw
          case rel => exact ⟨2, l ++ g2, by go_num, hb3, by rw [List.length_append]; exact hown3.out, .inr (.inr ⟨rfl, rfl⟩)⟩
          case measure => simp [intOf]
        · have HO2 : Hid (wr.ownsRow w.heap.size 27 4 u6 (g1 ++ g2).length (flat (g1 ++ g2))) := hown
          clear hown k1 k2
          go_wp2_with fail
          go_ret
          exact ⟨_, rfl, HO2.out, hbw⟩
end Go.Proofs.Ytlgdkdplkdkkdaa
