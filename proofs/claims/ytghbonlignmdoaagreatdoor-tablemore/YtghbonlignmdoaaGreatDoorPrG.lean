/- addr.printGroups. -/
import Derived.Test.YtghbonlignmdoaaGreatDoorPr1
namespace Go.Proofs.YtghbonlignmdoaaGreatDoor
open Go.RowKit

theorem hexs_le (u : Nat) : (hexs u).length ≤ 4 := by
  unfold hexs
  split
  · simp
  · split
    · simp
    · split <;> simp

set_option maxHeartbeats 4000000 in
set_option maxRecDepth 100000 in
theorem printGroups_none (a : Option Addr) (c : Nat) (w : World) :
    Calls Tryz.prog 54 #[.slice a 0 c] w fun e w' => e = .returned (.string ⟨#[]⟩) ∧ RowKit.Below w.heap.size w w' := by
  have HJ : Hid (∀ w, Calls Tryz.prog 56 #[.slice none 0 0, .string ⟨#[58]⟩] w fun e w' => e = .returned (.string ⟨#[]⟩) ∧ w' = w) := fun w => Tryz.strings_Join_none none 0 ⟨#[58]⟩ w
  go_enter Tryz.func54, Tryz.ntmps54
  go_wp2_with fail
  refine wp_loop_rounds 1 ?_
  rw [rounds_succ]
  go_wp2_with fail
  refine (HJ.out _).mono ?_
  rintro e w2 ⟨rfl, rfl⟩
  go_wp2
  go_ret
  exact ⟨rfl, RowKit.Below.refl _ _⟩

set_option maxHeartbeats 4000000 in
set_option maxRecDepth 100000 in
theorem printGroups_some (g o c : Nat) (gs : List Nat) (w : World) (hg : Good w) (hl : gs.length ≤ 8) (hlt : ∀ x ∈ gs, x < 65536) (hgs : g < w.heap.size)
    (hcell : ∀ j (h : j < gs.length), w.cell? ⟨g, o + j, none⟩ = some (.int .u64 ((gs[j] : Nat) : Int))) :
    Calls Tryz.prog 54 #[.slice (some ⟨g, o, none⟩) gs.length c] w fun e w' => e = .returned (.string ⟨(Lib.join (gs.map hexs) [58]).toArray⟩) ∧ RowKit.Below w.heap.size w w' := by
  obtain ⟨i0, hi0, hz0, hz1, hz2⟩ := info_parts infoStr
  have HF : Hid (∀ (u : Nat) (w : World), Good w → u < 65536 → Calls Tryz.prog 55 #[.int .u64 u, .int .i64 16] w fun e w' => e = .returned (.string ⟨(hexs u).toArray⟩) ∧ RowKit.Below w.heap.size w w') := fun x w a b => fmt16 x w a b
  obtain ⟨N, hN⟩ : ∃ N, N = gs.length := ⟨_, rfl⟩
  rw [← hN]
  have hN8 : N ≤ 8 := by omega
  have HN : Hid (N = gs.length) := hN
  clear hN hl
  go_enter Tryz.func54, Tryz.ntmps54
  go_wp2_with fail
  go_loopw [3, 8] (fun vs vi wr => ∃ k : Nat, vi = .int .i64 k ∧ k ≤ N ∧ RowKit.Below w.heap.size w wr ∧ wr.ownsRow w.heap.size 9 1 vs k (strs ((gs.map hexs).take k)))
    (fun _ vi _ => N - (intOf vi).toNat)
  case atStart => exact ⟨0, rfl, Nat.zero_le _, RowKit.Below.refl _ _, World.ownsRow_nil _ _ _ _⟩
  case round =>
    obtain ⟨k, rfl, hk, hb, hown⟩ := hrel
    have hzz := hb.size
    have hN := HN.out
    by_cases hkN : k < N
    · have hc := (bcell hb).1 g (o + k) hgs
      rw [hcell k (by omega)] at hc
      have hx := hlt _ (List.getElem_mem (show k < gs.length by omega))
      have e2 : strs ((gs.map hexs).take (k + 1)) = strs ((gs.map hexs).take k) ++ [.string ⟨(hexs (gs[k]'(by omega))).toArray⟩] := by
        rw [List.take_succ_eq_append_getElem (by simp; omega)]; simp only [strs, List.map_append, List.map_cons, List.map_nil, List.getElem_map]
      have E2 : Hid (strs ((gs.map hexs).take (k + 1)) = strs ((gs.map hexs).take k) ++ [.string ⟨(hexs (gs[k]'(by omega))).toArray⟩]) := e2
      have HX := HF.out (gs[k]'(by omega)) wr (hg.below hb) hx
      have HX' : Hid (Calls Tryz.prog 55 #[.int .u64 ((gs[k]'(by omega) : Nat) : Int), .int .i64 16] wr fun e w' => e = .returned (.string ⟨(hexs (gs[k]'(by omega))).toArray⟩) ∧ RowKit.Below wr.heap.size wr w') := HX
      generalize gs[k]'(by omega) = x at hc hx E2 HX'
      have hI : (k : Int) < (N : Int) := by omega
      clear e2 HX hN
      have HO : Hid (wr.ownsRow w.heap.size 9 1 u3 k (strs ((gs.map hexs).take k))) := hown
      clear hown
      go_wp2_with fail
      refine HX'.out.mono ?_
      rintro e w2 ⟨rfl, hb2⟩
      have hown2 := own_below HO.out hb2
      go_wp2_with (at_builtin; refine wpList_append_own _ rfl _ _ 93 rfl w.heap.size 9 i0 (.string ⟨#[]⟩) 1 16 Tryz.underlying93 hi0 hz0 hz1 hz2 rfl (by decide) _ _ _ rfl (hown2.alloc _) ⟨w2.heap.size, 0, none⟩ 1 1 [.string ⟨(hexs x).toArray⟩] rfl rfl ?c1 ?c2 ?c3 ?c4 ?c5 ?_)
      case c1 =>
        intro j u hj
        match j, hj with
        | 0, hj => simp at hj; subst hj; simp [Addr.add]
      case c2 => intro u hu; simp at hu; subst hu; rfl
      case c3 => unfold maxLen; omega
      case c4 => omega
      case c5 => have := hb2.size; simp; omega
      intro v' w3 hown' hgrow _
      have hb3 : RowKit.Below w.heap.size w w3 := (bal (btr hb hb2) _).grown hgrow (by have := hb2.size; simp; omega) (fun k hk => (hown2.lt k hk).1)
      have HR : Hid (w3.ownsRow w.heap.size 9 1 v' (k + 1) (strs ((gs.map hexs).take (k + 1)))) := by rw [E2.out]; exact hown'
      clear hown' hgrow hown2
      go_wp2
      go_roundw
      case rel => exact ⟨k + 1, by go_num, by omega, hb3, HR⟩
      case measure => simp [intOf]; omega
    · have hk5 : N = k := by omega
      subst hk5
      rw [List.take_of_length_le (by simp; omega)] at hown
      have HJ : Hid (Calls Tryz.prog 56 #[u3, .string ⟨#[58]⟩] wr fun e w' => e = .returned (.string ⟨(Lib.join (gs.map hexs) [58]).toArray⟩) ∧ RowKit.Below wr.heap.size wr w') := by
        refine join_str _ 58 u3 w.heap.size wr (by simpa [hN] using hown) (by simp; omega) ?_
        intro x hx
        obtain ⟨y, _, rfl⟩ := List.mem_map.1 hx
        exact Nat.le_trans (hexs_le y) (by decide)
      clear hown hcell hlt hN
      go_wp2_with fail
      refine HJ.out.mono ?_
      rintro e w2 ⟨rfl, hb2⟩
      go_wp2
      go_ret
      exact ⟨rfl, btr hb hb2⟩
end Go.Proofs.YtghbonlignmdoaaGreatDoor
