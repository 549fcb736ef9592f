/- Entries: append of what lies somewhere; slices.Grow of nothing, slices.Concat of two logs. -/
import Derived.Test.YtclnfkohlklbpaaLgD
import Derived.Test.YtclnfkohlklbpaaTmB
import Derived.Laws.AppendOwnNone
import Derived.Lib.AppendZeros
set_option linter.unusedVariables false
set_option linter.unusedSimpArgs false
namespace Go.Proofs.Ytclnfkohlklbpaa
open Go.RowKit

theorem wp_app_en {P : Program} {w : World} {ops : Array Oper} {rest : List Oper} {o : Oper} {a : Act} {Q : Exit → Act → World → Prop} (hgd : o.guard = none) (s x : Operand) (t : TypeId)
    (ho : o.op = .call { callee := .builtin .append, args := #[s, x], argTypes := #[t, t] })
    (base : Nat) (i : TypeInfo) (z : Value) (ht : P.underlying t = some (.slice 44)) (hi : P.info? 44 = some i) (hz : i.zero = some z)
    (hsize : i.size = 13) (hby : i.bytes = 112) (hzs : z.cells.size = 13)
    (v : Value) (xs : List En) (hs : a.eval s = v) (hown : w.ownsRow base 44 enE.k v xs.length (rowOf enE xs))
    (b : Option Addr) (c : Nat) (ys : List En) (hx : a.eval x = .slice b ys.length c) (hn : b = none → c = 0) (hl : Lies enE w b ys)
    (h63 : xs.length + ys.length ≤ 100000000) (hbase : base ≤ w.heap.size)
    (h : ∀ v' w', w'.ownsRow base 44 enE.k v' (xs ++ ys).length (rowOf enE (xs ++ ys)) → w.grownBy w' v.ownBlock → wpList P ops Q rest (a.put o.dst v') w') : wpList P ops Q (o :: rest) a w := by
  cases b with
  | none =>
    have e := hl.none_nil
    have e2 := hn rfl
    subst e
    subst e2
    refine wpList_append_own_none hgd s x t ho base 44 i 13 ht hi v xs.length (rowOf enE xs) hs hown hx ?_
    exact h v w (by simpa using hown) (World.grownBy.refl _ _)
  | some ad =>
    refine wpList_append_own w hgd s x t ho base 44 i z 13 112 ht hi hz hsize hby hzs (by decide) v xs.length (rowOf enE xs) hs hown ad ys.length c (rowOf enE ys) hx (rowOf_len enE ys) hl.news (rowOf_one enE ys) (by unfold maxLen; omega) (by omega) hbase (fun v' w' a b _ => h v' w' ?_ b)
    rw [List.length_append, rowOf_append]; exact a
set_option maxHeartbeats 2000000 in
set_option maxRecDepth 100000 in
theorem grow_en (n : Nat) (w : World) (h1 : n ≤ 100000) :
    Calls Try.prog 21 #[.slice none 0 0, .int .i64 n] w fun e w' => ∃ v, e = .returned v ∧ w'.ownsRow w.heap.size 44 enE.k v ([] : List En).length (rowOf enE ([] : List En)) ∧ Below w.heap.size w w' := by
  by_cases h0 : 0 < n
  · obtain ⟨i0, hi, hz0, hz1, hz2⟩ := info_parts infoE
    have hrz := Lib.run_append_nil_zeros (P := Try.prog) w 22 3 22 44 i0 (Value.agg #[.int .i64 0, .int .i64 0, .int .i64 0, .bool false, .int .u64 0, .int .u64 0, .int .i64 0, .bool false, .int .u64 0, .int .u64 0, .string ⟨#[]⟩, .int .i64 0, .int .i64 0]) .i64 .i64 Try.underlying22 Try.underlying3 hi hz0 n h0 (by omega) (by omega) (by rw [hz2]; omega)
    have hGn : n ≤ grownCap w n 0 44 := grownCap_ge w _ _ _
    have hGm : grownCap w n 0 44 ≤ maxLen := grownCap_le_maxLen w n 0 _ (by unfold maxLen; omega)
    obtain ⟨G, hG⟩ : ∃ G, G = grownCap w n 0 44 := ⟨_, rfl⟩
    rw [← hG] at hrz hGn hGm
    have hsz : (Builtin.zeroCells (Value.agg #[.int .i64 0, .int .i64 0, .int .i64 0, .bool false, .int .u64 0, .int .u64 0, .int .i64 0, .bool false, .int .u64 0, .int .u64 0, .string ⟨#[]⟩, .int .i64 0, .int .i64 0]).cells n ++ Builtin.zeroCells (Value.agg #[.int .i64 0, .int .i64 0, .int .i64 0, .bool false, .int .u64 0, .int .u64 0, .int .i64 0, .bool false, .int .u64 0, .int .u64 0, .string ⟨#[]⟩, .int .i64 0, .int .i64 0]).cells (G - n)).size = G * 13 := by
      rw [Array.size_append, size_zeroCells, size_zeroCells]; simp [Value.cells]; omega
    generalize (Builtin.zeroCells (Value.agg #[.int .i64 0, .int .i64 0, .int .i64 0, .bool false, .int .u64 0, .int .u64 0, .int .i64 0, .bool false, .int .u64 0, .int .u64 0, .string ⟨#[]⟩, .int .i64 0, .int .i64 0]).cells n ++ Builtin.zeroCells (Value.agg #[.int .i64 0, .int .i64 0, .int .i64 0, .bool false, .int .u64 0, .int .u64 0, .int .i64 0, .bool false, .int .u64 0, .int .u64 0, .string ⟨#[]⟩, .int .i64 0, .int .i64 0]).cells (G - n)) = zs at hrz hsz
    have HZ : Hid (zs.size = G * 13) := hsz
    have HM : Hid (G ≤ maxLen) := hGm
    have hn0 : (0 : Int) < (n : Int) := by omega
    have hG64 : (G : Int) ≤ 9223372036854775807 := by have := HM.out; unfold maxLen at this; omega
    clear hG hsz hGm
    have HR : Hid ((Builtin.append_ #[22, 3] 22 #[.slice none 0 0, .int .i64 n]).run Try.prog w = .ok (.slice (some ⟨w.heap.size, 0, none⟩) n G) (w.drew.alloc (.cells zs 44))) := hrz
    clear hrz
    go_enter Try.func21, Try.ntmps21
    go_wp2_with (at_builtin; refine Lib.wpList_append_run _ rfl _ _ _ _ rfl _ _ rfl rfl _ _ HR.out ?_)
    go_ret
    refine ⟨_, rfl, ⟨rfl, .inr ⟨w.heap.size, G, zs, rfl, Nat.le_refl _, ?_, Nat.zero_le _, HM.out, ?_, ?_⟩⟩, ?_⟩
    · simp [World.alloc, World.drew, -World.alloc_eq, -World.drew_eq]
    · exact HZ.out
    · simp [rowOf]
    · exact (bal (Below.refl _ _) _).drew
  · obtain rfl : n = 0 := by omega
    go_enter Try.func21, Try.ntmps21
    go_wp2_with fail
    go_ret
    exact ⟨_, rfl, World.ownsRow_nil w _ _ _, Below.refl _ _⟩
set_option maxHeartbeats 4000000 in
set_option maxRecDepth 100000 in
theorem concat_en (b : Nat) (a1 a2 : Option Addr) (c1 c2 : Nat) (l1 l2 : List En) (w : World)
    (h1 : Lies enE w a1 l1) (h2 : Lies enE w a2 l2) (y1 : a1 = none → c1 = 0) (y2 : a2 = none → c2 = 0)
    (k1 : w.cell? ⟨b, 0, none⟩ = some (.slice a1 l1.length c1)) (k2 : w.cell? ⟨b, 1, none⟩ = some (.slice a2 l2.length c2))
    (hb : b < w.heap.size) (m1 : l1.length ≤ 10000) (m2 : l2.length ≤ 10000) :
    Calls Try.prog 14 #[.slice (some ⟨b, 0, none⟩) 2 2] w fun e w' =>
      ∃ v, e = .returned v ∧ w'.ownsRow w.heap.size 44 enE.k v (l1 ++ l2).length (rowOf enE (l1 ++ l2)) ∧ Below w.heap.size w w' := by
  obtain ⟨i0, hi, hz0, hz1, hz2⟩ := info_parts infoE
  obtain ⟨n1, e1⟩ : ∃ n, n = l1.length := ⟨_, rfl⟩
  obtain ⟨n2, e2⟩ : ∃ n, n = l2.length := ⟨_, rfl⟩
  have HG : Hid (∀ w : World, Calls Try.prog 21 #[.slice none 0 0, .int .i64 ((n1 : Int) + n2)] w fun e w' => ∃ v, e = .returned v ∧ w'.ownsRow w.heap.size 44 enE.k v ([] : List En).length (rowOf enE ([] : List En)) ∧ Below w.heap.size w w') := fun w => by
    have := grow_en (n1 + n2) w (by omega)
    rw [show ((n1 : Int) + n2) = ((n1 + n2 : Nat) : Int) by omega]; exact this
  have H1 := Lib.hid h1
  have H2 := Lib.hid h2
  have Y1 := Lib.hid y1
  have Y2 := Lib.hid y2
  rw [← e1] at k1 m1
  rw [← e2] at k2 m2
  have E1 := Lib.hid e1
  have E2 := Lib.hid e2
  clear h1 h2 e1 e2 y1 y2
  go_enter Try.func14, Try.ntmps14
  go_wp2_with fail
  go_loop [3, 11] (fun vs vi => (vi = .int .i64 0 ∧ vs = .int .i64 0) ∨ (vi = .int .i64 1 ∧ vs = .int .i64 n1) ∨ (vi = .int .i64 2 ∧ vs = .int .i64 ((n1 : Int) + n2)))
    (fun _ vi => 2 - (intOf vi).toNat)
  case atStart => exact .inl ⟨rfl, rfl⟩
  case round =>
    rcases hrel with ⟨rfl, rfl⟩ | ⟨rfl, rfl⟩ | ⟨rfl, rfl⟩
    · go_wp2_with fail
      go_round
      case rel => exact .inr (.inl ⟨rfl, by go_num⟩)
      case measure => simp [intOf]
    · go_wp2_with fail
      go_round
      case rel => exact .inr (.inr ⟨rfl, by go_num⟩)
      case measure => simp [intOf]
    · go_wp2_with fail
      refine (HG.out _).mono ?_
      rintro e w1 ⟨v0, rfl, hown0, hb0⟩
      have HO := Lib.hid hown0
      clear hown0 HG
      go_wp2_with fail
      go_loopw [6, 27] (fun v vi wr => ∃ (k : Nat) (l : List En), vi = .int .i64 k ∧ Below w.heap.size w wr ∧ wr.ownsRow w.heap.size 44 enE.k v l.length (rowOf enE l) ∧
          Hid ((k = 0 ∧ l = []) ∨ (k = 1 ∧ l = l1) ∨ (k = 2 ∧ l = l1 ++ l2)))
        (fun _ vi _ => 2 - (intOf vi).toNat)
      case atStart => exact ⟨0, [], rfl, hb0, HO.out, .inl ⟨rfl, rfl⟩⟩
      case round =>
        obtain ⟨k, l, rfl, hbw, hown, hh⟩ := hrel
        rcases hh.out with ⟨rfl, rfl⟩ | ⟨rfl, hll⟩ | ⟨rfl, hll⟩
        all_goals clear hh
        · have hown' : Hid (wr.ownsRow w.heap.size 44 enE.k u6 ([] : List En).length (rowOf enE ([] : List En))) := hown
          have hs : Hid (Lies enE wr a1 l1) := H1.out.below hbw
          have hbb := hbw.size
          have hcc := bcell hbw
          have q1 : wr.cell? ⟨b, 0, none⟩ = some (.slice a1 n1 c1) := by rw [hcc.1 _ _ hb]; exact k1
          clear hcc k1 k2 hown
          go_wp2_with (at_builtin; refine wp_app_en rfl _ _ 22 rfl w.heap.size i0 _ Try.underlying22 hi hz0 hz1 hz2 rfl _ [] rfl hown'.out a1 c1 l1 (by rw [← E1.out]; rfl) Y1.out hs.out ?c3 ?c5 ?_)
          case c3 => rw [← E1.out]; simp; omega
          case c5 => exact hbb
          intro v' w3 hown2 hgrow
          have hb3 : Below w.heap.size w w3 := hbw.grown hgrow hbb (fun k hk => (hown'.out.lt k hk).1)
          have hown3 := Lib.hid hown2
          clear hgrow hown' hs hown2
          go_wp2_with fail
          go_roundw
          case rel => exact ⟨1, l1, by go_num, hb3, hown3.out, .inr (.inl ⟨rfl, rfl⟩)⟩
          case measure => simp [intOf]
        · have hown' := Lib.hid hown
          have HL := Lib.hid hll
          have hs : Hid (Lies enE wr a2 l2) := H2.out.below hbw
          have hbb := hbw.size
          have hcc := bcell hbw
          have q1 : wr.cell? ⟨b, 1, none⟩ = some (.slice a2 n2 c2) := by rw [hcc.1 _ _ hb]; exact k2
          clear hcc k1 k2 hown hll
          go_wp2_with (at_builtin; refine wp_app_en rfl _ _ 22 rfl w.heap.size i0 _ Try.underlying22 hi hz0 hz1 hz2 rfl _ l rfl hown'.out a2 c2 l2 (by rw [← E2.out]; rfl) Y2.out hs.out ?c3 ?c5 ?_)
          case c3 => rw [HL.out, ← E1.out, ← E2.out]; omega
          case c5 => exact hbb
          intro v' w3 hown2 hgrow
          have hb3 : Below w.heap.size w w3 := hbw.grown hgrow hbb (fun k hk => (hown'.out.lt k hk).1)
          have hown3 := Lib.hid hown2
          clear hgrow hown' hs hown2
          go_wp2_with fail
          go_roundw
          case rel => exact ⟨2, l ++ l2, by go_num, hb3, by rw [List.length_append]; exact hown3.out, .inr (.inr ⟨rfl, by rw [HL.out]⟩)⟩
          case measure => simp [intOf]
        · have HO2 : Hid (wr.ownsRow w.heap.size 44 enE.k u6 (l1 ++ l2).length (rowOf enE (l1 ++ l2))) := by rw [← hll]; exact hown
          clear hown k1 k2 hll
          go_wp2_with fail
          go_ret
          exact ⟨_, rfl, HO2.out, hbw⟩
end Go.Proofs.Ytclnfkohlklbpaa
