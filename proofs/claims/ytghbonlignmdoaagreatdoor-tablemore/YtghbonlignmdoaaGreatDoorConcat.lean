/- slices.Grow of nothing, and slices.Concat of three lists. -/
import Derived.Test.YtghbonlignmdoaaGreatDoorJoin
import Derived.Laws.AppendOwnNone
import Derived.Lib.AppendZeros
namespace Go.Proofs.YtghbonlignmdoaaGreatDoor
open Go.RowKit

theorem wpList_append_row2 {P : Program} {w : World} {ops : Array Oper} {rest : List Oper} {o : Oper} {a : Act} {Q : Exit → Act → World → Prop} (hgd : o.guard = none) (s x : Operand) (t : TypeId)
    (ho : o.op = .call { callee := .builtin .append, args := #[s, x], argTypes := #[t, t] })
    (base : Nat) (e : TypeId) (i : TypeInfo) (z : Value) (bytes : Nat) (ht : P.underlying t = some (.slice e)) (hi : P.info? e = some i) (hz : i.zero = some z)
    (hsize : i.size = 1) (hby : i.bytes = bytes) (hzs : z.cells.size = 1)
    (v : Value) (n : Nat) (xs : List Value) (hs : a.eval s = v) (hown : w.ownsRow base e 1 v n xs)
    (vx : Value) (B2 m : Nat) (news : List Value) (hx : a.eval x = vx) (hown2 : w.ownsRow B2 e 1 vx m news) (h1 : ∀ u ∈ news, u.oneCell' = true)
    (h63 : n + m ≤ maxLen) (hbytes : (n + m) * bytes ≤ 140737488355328) (hbase : base ≤ w.heap.size)
    (h : ∀ v' w', w'.ownsRow base e 1 v' (n + m) (xs ++ news) → w.grownBy w' v.ownBlock → wpList P ops Q rest (a.put o.dst v') w') : wpList P ops Q (o :: rest) a w := by
  have hc := fun g hg => hown2.cells (g := g) hg
  obtain ⟨hl, h2⟩ := hown2
  rcases h2 with ⟨rfl, rfl⟩ | ⟨g, cap, cur, rfl, hg, h3⟩
  · have : news = [] := by simpa using hl
    subst this
    refine wpList_append_own_none hgd s x t ho base e i 1 ht hi v n xs hs hown hx ?_
    exact h v w (by simpa using hown) (World.grownBy.refl _ _)
  · exact wpList_append_own w hgd s x t ho base e i z 1 bytes ht hi hz hsize hby hzs (by decide) v n xs hs hown ⟨g, 0, none⟩ m cap news hx hl (hc g rfl) h1 h63 hbytes hbase (fun v' w' a b _ => h v' w' a b)

theorem u64s_one (l : List Nat) : ∀ u ∈ u64s l, u.oneCell' = true := by
  intro u hu
  simp [u64s] at hu
  obtain ⟨n, _, rfl⟩ := hu
  rfl

set_option maxHeartbeats 2000000 in
set_option maxRecDepth 100000 in
theorem grow_any (n : Nat) (w : World) (h0 : 0 < n) (h1 : n ≤ 1000) :
    Calls Tryz.prog 108 #[.slice none 0 0, .int .i64 n] w fun e w' => ∃ v, e = .returned v ∧ w'.ownsRow w.heap.size 23 1 v 0 [] ∧ Below w.heap.size w w' := by
  obtain ⟨i0, hi, hz0, hz1, hz2⟩ := info_parts info64
  have hrz := Lib.run_append_nil_zeros (P := Tryz.prog) w 88 3 88 23 i0 (.int .u64 0) .i64 .i64 Tryz.underlying88 Tryz.underlying3 hi hz0 n h0 (by omega) (by omega) (by rw [hz2]; omega)
  have hGn : n ≤ grownCap w n 0 23 := grownCap_ge w _ _ _
  have hGm : grownCap w n 0 23 ≤ maxLen := grownCap_le_maxLen w n 0 _ (by unfold maxLen; omega)
  obtain ⟨G, hG⟩ : ∃ G, G = grownCap w n 0 23 := ⟨_, rfl⟩
  rw [← hG] at hrz hGn hGm
  have hsz : (Builtin.zeroCells (Value.int .u64 0).cells n ++ Builtin.zeroCells (Value.int .u64 0).cells (G - n)).size = G := by
    rw [Array.size_append, size_zeroCells, size_zeroCells]; simp [Value.cells]; omega
  generalize (Builtin.zeroCells (Value.int .u64 0).cells n ++ Builtin.zeroCells (Value.int .u64 0).cells (G - n)) = zs at hrz hsz
  have HZ : Hid (zs.size = G) := hsz
  have HM : Hid (G ≤ maxLen) := hGm
  have hn0 : (0 : Int) < (n : Int) := by omega
  have hG64 : (G : Int) ≤ 9223372036854775807 := by have := HM.out; unfold maxLen at this; omega
  clear hG hsz hGm
  have HR : Hid ((Builtin.append_ #[88, 3] 88 #[.slice none 0 0, .int .i64 n]).run Tryz.prog w = .ok (.slice (some ⟨w.heap.size, 0, none⟩) n G) (w.drew.alloc (.cells zs 23))) := hrz
  clear hrz
  go_enter Tryz.func108, Tryz.ntmps108
  go_wp2_with (at_builtin; refine Lib.wpList_append_run _ rfl _ _ _ _ rfl _ _ rfl rfl _ _ HR.out ?_)
  go_ret
  refine ⟨_, rfl, ⟨rfl, .inr ⟨w.heap.size, G, zs, rfl, Nat.le_refl _, ?_, Nat.zero_le _, HM.out, ?_, ?_⟩⟩, ?_⟩
  · simp [World.alloc, World.drew, -World.alloc_eq, -World.drew_eq]
  · rw [HZ.out]; simp
  · simp
  · exact (bal (Below.refl _ _) _).drew

theorem own_slice {w : World} {B : Nat} {e : TypeId} {v : Value} {n : Nat} {xs : List Value} (h : w.ownsRow B e 1 v n xs) : ∃ a c, v = .slice a n c := by
  rcases h.2 with ⟨rfl, rfl⟩ | ⟨g, cap, cur, rfl, _⟩
  · exact ⟨_, _, rfl⟩
  · exact ⟨_, _, rfl⟩

set_option maxHeartbeats 4000000 in
set_option maxRecDepth 100000 in
theorem concat_any (b B : Nat) (a1 a2 a3 : Option Addr) (n1 n2 n3 c1 c2 c3 : Nat) (g1 g2 g3 : List Nat) (w : World)
    (h1 : w.ownsRow B 23 1 (.slice a1 n1 c1) n1 (u64s g1)) (h2 : w.ownsRow B 23 1 (.slice a2 n2 c2) n2 (u64s g2)) (h3 : w.ownsRow B 23 1 (.slice a3 n3 c3) n3 (u64s g3))
    (k1 : w.cell? ⟨b, 0, none⟩ = some (.slice a1 n1 c1)) (k2 : w.cell? ⟨b, 1, none⟩ = some (.slice a2 n2 c2)) (k3 : w.cell? ⟨b, 2, none⟩ = some (.slice a3 n3 c3))
    (hb : b < w.heap.size) (hp : 0 < n1 + n2 + n3) (m1 : n1 ≤ 100) (m2 : n2 ≤ 100) (m3 : n3 ≤ 100) :
    Calls Tryz.prog 93 #[.slice (some ⟨b, 0, none⟩) 3 3] w fun e w' =>
      ∃ v, e = .returned v ∧ w'.ownsRow w.heap.size 23 1 v (n1 + n2 + n3) (u64s (g1 ++ g2 ++ g3)) ∧ Below w.heap.size w w' := by
  obtain ⟨i0, hi, hz0, hz1, hz2⟩ := info_parts info64
  have hGr : Hid (∀ n : Nat, 0 < n → n ≤ 1000 → ∀ w : World, Calls Tryz.prog 108 #[.slice none 0 0, .int .i64 n] w fun e w' => ∃ v, e = .returned v ∧ w'.ownsRow w.heap.size 23 1 v 0 [] ∧ Below w.heap.size w w') := fun n p q w => grow_any n w p q
  have H1 : Hid (w.ownsRow B 23 1 (.slice a1 n1 c1) n1 (u64s g1)) := h1
  have H2 : Hid (w.ownsRow B 23 1 (.slice a2 n2 c2) n2 (u64s g2)) := h2
  have H3 : Hid (w.ownsRow B 23 1 (.slice a3 n3 c3) n3 (u64s g3)) := h3
  clear h1 h2 h3
  go_enter Tryz.func93, Tryz.ntmps93
  go_wp2_with fail
  go_loop [3, 11] (fun vs vi => (vi = .int .i64 0 ∧ vs = .int .i64 0) ∨ (vi = .int .i64 1 ∧ vs = .int .i64 n1) ∨ (vi = .int .i64 2 ∧ vs = .int .i64 ((n1 : Int) + n2)) ∨ (vi = .int .i64 3 ∧ vs = .int .i64 ((n1 : Int) + n2 + n3)))
    (fun _ vi => 3 - (intOf vi).toNat)
  case atStart => exact .inl ⟨rfl, rfl⟩
  case round =>
    rcases hrel with ⟨rfl, rfl⟩ | ⟨rfl, rfl⟩ | ⟨rfl, rfl⟩ | ⟨rfl, rfl⟩
    · go_wp2_with fail
      go_round
      case rel => exact .inr (.inl ⟨rfl, by go_num⟩)
      case measure => simp [intOf]
    · go_wp2_with fail
      go_round
      case rel => exact .inr (.inr (.inl ⟨rfl, by go_num⟩))
      case measure => simp [intOf]
    · go_wp2_with fail
      go_round
      case rel => exact .inr (.inr (.inr ⟨rfl, by go_num⟩))
      case measure => simp [intOf]
    · have hGr' := hGr.out (n1 + n2 + n3) hp (by omega) w
      have HG : Hid (Calls Tryz.prog 108 #[.slice none 0 0, .int .i64 ((n1 : Int) + n2 + n3)] w fun e w' => ∃ v, e = .returned v ∧ w'.ownsRow w.heap.size 23 1 v 0 [] ∧ Below w.heap.size w w') := by
        rw [show ((n1 : Int) + n2 + n3) = ((n1 + n2 + n3 : Nat) : Int) by omega]; exact hGr'
      clear hGr' hGr
      go_wp2_with fail
      refine HG.out.mono ?_
      rintro e w1 ⟨v0, rfl, hown0, hb0⟩
      have HO : Hid (w1.ownsRow w.heap.size 23 1 v0 0 []) := hown0
      clear hown0 HG
      go_wp2_with fail
      go_loopw [6, 27] (fun v vi wr => ∃ (k n : Nat) (l : List Nat), vi = .int .i64 k ∧ Below w.heap.size w wr ∧ wr.ownsRow w.heap.size 23 1 v n (u64s l) ∧
          Hid ((k = 0 ∧ n = 0 ∧ l = []) ∨ (k = 1 ∧ n1 = n ∧ g1 = l) ∨ (k = 2 ∧ n = n1 + n2 ∧ l = g1 ++ g2) ∨ (k = 3 ∧ n = n1 + n2 + n3 ∧ l = g1 ++ g2 ++ g3)))
        (fun _ vi _ => 3 - (intOf vi).toNat)
      case atStart => exact ⟨0, 0, [], rfl, hb0, HO.out, .inl ⟨rfl, rfl, rfl⟩⟩
      case round =>
        obtain ⟨k, n, l, rfl, hbw, hown, hh⟩ := hrel
        rcases hh.out with ⟨rfl, rfl, rfl⟩ | ⟨rfl, rfl, rfl⟩ | ⟨rfl, rfl, rfl⟩ | ⟨rfl, rfl, rfl⟩
        all_goals clear hh
        · have hown' : wr.ownsRow w.heap.size 23 1 u6 0 (u64s ([])) := hown
          have hs := own_below H1.out hbw
          have hbb := hbw.size
          have hcc := bcell hbw
          have q1 : wr.cell? ⟨b, 0, none⟩ = some (.slice a1 n1 c1) := by rw [hcc.1 _ _ hb]; exact k1
          clear hcc k1 k2 k3 hown
          go_wp2_with (at_builtin; refine wpList_append_row2 rfl _ _ 88 rfl w.heap.size 23 i0 (.int .u64 0) 8 Tryz.underlying88 hi hz0 hz1 hz2 rfl _ _ _ rfl hown' (.slice a1 n1 c1) B n1 (u64s g1) rfl hs (u64s_one _) ?c3 ?c4 ?c5 ?_)
          case c3 => unfold maxLen; omega
          case c4 => omega
          case c5 => exact hbb
          intro v' w3 hown2 hgrow
          have hb3 : Below w.heap.size w w3 := hbw.grown hgrow hbb (fun k hk => (hown'.lt k hk).1)
          clear hgrow hown' hs
          go_wp2_with fail
          go_roundw
          case rel => exact ⟨1, n1, g1, by go_num, hb3, by simpa [u64s] using hown2, .inr (.inl ⟨rfl, rfl, rfl⟩)⟩
          case measure => simp [intOf]
        · have hown' : wr.ownsRow w.heap.size 23 1 u6 n1 (u64s (g1)) := hown
          have hs := own_below H2.out hbw
          have hbb := hbw.size
          have hcc := bcell hbw
          have q1 : wr.cell? ⟨b, 1, none⟩ = some (.slice a2 n2 c2) := by rw [hcc.1 _ _ hb]; exact k2
          clear hcc k1 k2 k3 hown
          go_wp2_with (at_builtin; refine wpList_append_row2 rfl _ _ 88 rfl w.heap.size 23 i0 (.int .u64 0) 8 Tryz.underlying88 hi hz0 hz1 hz2 rfl _ _ _ rfl hown' (.slice a2 n2 c2) B n2 (u64s g2) rfl hs (u64s_one _) ?c3 ?c4 ?c5 ?_)
          case c3 => unfold maxLen; omega
          case c4 => omega
          case c5 => exact hbb
          intro v' w3 hown2 hgrow
          have hb3 : Below w.heap.size w w3 := hbw.grown hgrow hbb (fun k hk => (hown'.lt k hk).1)
          clear hgrow hown' hs
          go_wp2_with fail
          go_roundw
          case rel => exact ⟨2, n1 + n2, g1 ++ g2, by go_num, hb3, by simpa [u64s] using hown2, .inr (.inr (.inl ⟨rfl, rfl, rfl⟩))⟩
          case measure => simp [intOf]
        · have hown' : wr.ownsRow w.heap.size 23 1 u6 (n1 + n2) (u64s (g1 ++ g2)) := hown
          have hs := own_below H3.out hbw
          have hbb := hbw.size
          have hcc := bcell hbw
          have q1 : wr.cell? ⟨b, 2, none⟩ = some (.slice a3 n3 c3) := by rw [hcc.1 _ _ hb]; exact k3
          clear hcc k1 k2 k3 hown
          go_wp2_with (at_builtin; refine wpList_append_row2 rfl _ _ 88 rfl w.heap.size 23 i0 (.int .u64 0) 8 Tryz.underlying88 hi hz0 hz1 hz2 rfl _ _ _ rfl hown' (.slice a3 n3 c3) B n3 (u64s g3) rfl hs (u64s_one _) ?c3 ?c4 ?c5 ?_)
          case c3 => unfold maxLen; omega
          case c4 => omega
          case c5 => exact hbb
          intro v' w3 hown2 hgrow
          have hb3 : Below w.heap.size w w3 := hbw.grown hgrow hbb (fun k hk => (hown'.lt k hk).1)
          clear hgrow hown' hs
          go_wp2_with fail
          go_roundw
          case rel => exact ⟨3, n1 + n2 + n3, g1 ++ g2 ++ g3, by go_num, hb3, by simpa [u64s] using hown2, .inr (.inr (.inr ⟨rfl, rfl, rfl⟩))⟩
          case measure => simp [intOf]
        · have HO2 : Hid (wr.ownsRow w.heap.size 23 1 u6 (n1 + n2 + n3) (u64s (g1 ++ g2 ++ g3))) := hown
          clear hown k1 k2 k3
          go_wp2_with fail
          go_ret
          exact ⟨_, rfl, HO2, hbw⟩
end Go.Proofs.YtghbonlignmdoaaGreatDoor
