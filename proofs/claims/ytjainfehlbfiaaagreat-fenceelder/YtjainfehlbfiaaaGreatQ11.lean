/- slices.IndexFunc, ContainsFunc, Clone at pools; IndexFunc, Clone at addresses. -/
import Derived.Test.YtjainfehlbfiaaaGreatQ10
import Derived.Shelf.Abstract
set_option linter.unusedVariables false
set_option linter.unusedSimpArgs false
namespace Go.Proofs.YtjainfehlbfiaaaGreat
open Go.RowKit

theorem Lies.hasP {α : Type} {E : Enc α} {w : World} {a : Option Addr} {l : List α} (h : Lies E w a l) (j : Nat) (hj : j < l.length) : ∃ g o : Nat, a = some ⟨g, o, none⟩ ∧ (∀ i v, (E.f l[j])[i]? = some v → w.cell? ⟨g, o + j * E.k + i, none⟩ = some v) ∧ g < w.heap.size := by
  obtain ⟨g, o, e, hg, c⟩ := h j hj
  exact ⟨g, o, e, c, hg⟩
set_option maxHeartbeats 8000000 in
theorem ifnPl_any (a : Option Addr) (c : Nat) (l : List Pl) (w : World) (f : Nat) (lb : Array Value) (p : Pl → Bool) (hl : l.length ≤ 1000) (hs : Lies plE w a l) (ef : ∀ args w, (callFunc f args).run Tryz.prog w = .ok (.enter f args) w)
    (hp : ∀ (W : World) (x : Pl), x ∈ l → Below w.heap.size w W → Calls Tryz.prog f (#[.agg #[.bool x.p.v, .int .u64 x.p.hi, .int .u64 x.p.lo, .int .i64 x.p.b, .slice x.s x.kept.length x.c]] ++ lb) W fun e w' => e = .returned (.bool (p x)) ∧ Below w.heap.size w w') :
    Calls Tryz.prog 71 #[.slice a l.length c, .func (.func f) #[] lb] w fun e w' => e = .returned (.int .i64 (idxI (l.findIdx? p))) ∧ Below w.heap.size w w' := by
  obtain ⟨N, hN⟩ : ∃ N, N = l.length := ⟨_, rfl⟩
  rw [← hN] at hl ⊢
  have HN : Hid (N = l.length) := hN
  have HL := Lib.hid hs
  have HPr := Lib.hid hp
  obtain ⟨R, hR⟩ : ∃ R, R = idxI (l.findIdx? p) := ⟨_, rfl⟩
  rw [← hR]
  have HR := Lib.hid hR
  clear hN hs hp hR
  go_enter Tryz.func71, Tryz.ntmps71
  go_wp2_with fail
  go_loopw [8] (fun vi wr => ∃ k : Nat, vi = .int .i64 k ∧ k ≤ N ∧ Hid (Below w.heap.size w wr) ∧ Hid (∀ j (hj : j < k) (hl : j < l.length), p l[j] = false))
    (fun vi _ => N - (intOf vi).toNat)
  case atStart => exact ⟨0, rfl, Nat.zero_le _, Below.refl _ _, fun j hj => absurd hj (Nat.not_lt_zero _)⟩
  case round =>
    obtain ⟨k, rfl, hk, hb, hh⟩ := hrel
    by_cases hkN : k < N
    · have hkl : k < l.length := by have := HN.out; omega
      obtain ⟨g, o, rfl, ch, hg⟩ := HL.out.hasP k hkl
      obtain ⟨c0, c1, c2, c3, c4⟩ : w.cell? ⟨g, o + k * 5, none⟩ = some (.bool l[k].p.v) ∧ w.cell? ⟨g, o + k * 5 + 1, none⟩ = some (.int .u64 l[k].p.hi) ∧ w.cell? ⟨g, o + k * 5 + 2, none⟩ = some (.int .u64 l[k].p.lo) ∧ w.cell? ⟨g, o + k * 5 + 3, none⟩ = some (.int .i64 l[k].p.b) ∧ w.cell? ⟨g, o + k * 5 + 4, none⟩ = some (.slice l[k].s l[k].kept.length l[k].c) := ⟨ch 0 _ rfl, ch 1 _ rfl, ch 2 _ rfl, ch 3 _ rfl, ch 4 _ rfl⟩
      rw [← (bcell hb.out).1 _ _ hg] at c0 c1 c2 c3 c4
      have HC := Lib.hid (HPr.out wr l[k] (List.getElem_mem hkl) hb.out)
      have hkz : (k : Int) < (N : Int) := by omega
      have hk0 : (0 : Int) ≤ (k : Int) := by omega
      have HQ : Hid (∀ b, p l[k] = b → (b = true → R = k) ∧ (b = false → ∀ j (hj : j < k + 1) (hl : j < l.length), p l[j] = false)) := by
        intro b hb
        refine ⟨fun e => ?_, fun e j hj hl => ?_⟩
        · rw [HR.out, find_hit hkl (hb.trans e) (fun j hj => hh.out j hj (by omega))]; rfl
        · by_cases hjk : j = k
          · subst hjk; exact hb.trans e
          · exact hh.out j (by omega) hl
      generalize hq : p l[k] = b at *
      have HQ2 := Lib.hid (HQ.out b rfl)
      clear ch
      generalize l[k].p.v = x0 at *
      generalize l[k].p.hi = x1 at *
      generalize l[k].p.lo = x2 at *
      generalize l[k].p.b = x3 at *
      generalize l[k].s = xs at *
      generalize l[k].kept.length = xn at *
      generalize l[k].c = xc at *
      clear hh hb HPr HQ hq HL
      cases b
      · have HQ3 := Lib.hid (HQ2.out.2 rfl)
        clear HQ2
        go_wp2_with fail
        refine HC.out.mono ?_
        rintro e w2 ⟨rfl, hb2⟩
        have HB := Lib.hid hb2
        clear hb2
        go_wp2_with fail
        go_roundw
        case rel => exact ⟨k + 1, by go_num, by omega, HB, HQ3⟩
        case measure => simp [intOf]; omega
      · have HQ3 := Lib.hid (HQ2.out.1 rfl)
        clear HQ2
        go_wp2_with fail
        refine HC.out.mono ?_
        rintro e w2 ⟨rfl, hb2⟩
        go_wp2_with fail
        go_ret
        exact ⟨congrArg (fun r => Ending.returned (Value.int .i64 r)) HQ3.out.symm, hb2⟩
    · obtain rfl : k = N := by omega
      have hkk : ¬ (k : Int) < (k : Int) := by omega
      have HD : Hid (R = -1) := by
        rw [Hid, HR.out, find_miss (fun j hj => hh.out j (by have := HN.out; omega) hj)]; rfl
      go_wp2_with fail
      go_ret
      exact ⟨congrArg (fun r => Ending.returned (Value.int .i64 r)) HD.out.symm, hb.out⟩
set_option maxHeartbeats 4000000 in
theorem conPl_any (a : Option Addr) (c : Nat) (l : List Pl) (w : World) (f : Nat) (lb : Array Value) (p : Pl → Bool) (hl : l.length ≤ 1000) (hs : Lies plE w a l) (ef : ∀ args w, (callFunc f args).run Tryz.prog w = .ok (.enter f args) w)
    (hp : ∀ (W : World) (x : Pl), x ∈ l → Below w.heap.size w W → Calls Tryz.prog f (#[.agg #[.bool x.p.v, .int .u64 x.p.hi, .int .u64 x.p.lo, .int .i64 x.p.b, .slice x.s x.kept.length x.c]] ++ lb) W fun e w' => e = .returned (.bool (p x)) ∧ Below w.heap.size w w') :
    Calls Tryz.prog 63 #[.slice a l.length c, .func (.func f) #[] lb] w fun e w' => e = .returned (.bool (l.any p)) ∧ Below w.heap.size w w' := by
  have HI := Lib.hid (ifnPl_any a c l w f lb p hl hs ef hp)
  have HE := Lib.hid (idx_any p l)
  generalize idxI (l.findIdx? p) = ix at *
  generalize l.any p = R at *
  generalize l.length = N at *
  clear hs hp
  go_enter Tryz.func63, Tryz.ntmps63
  go_wp2_with fail
  refine HI.out.mono ?_
  rintro e w2 ⟨rfl, hb⟩
  have HB2 := Lib.hid hb
  clear hb
  go_wp2
  go_ret
  exact ⟨congrArg (fun r => Ending.returned (Value.bool r)) HE.out, HB2.out⟩
set_option maxHeartbeats 8000000 in
theorem ifnAd_any (a : Option Addr) (c : Nat) (l : List Ad) (w : World) (f : Nat) (lb : Array Value) (p : Ad → Bool) (hl : l.length ≤ 1000) (hs : Lies adE w a l) (ef : ∀ args w, (callFunc f args).run Tryz.prog w = .ok (.enter f args) w)
    (hp : ∀ (W : World) (x : Ad), x ∈ l → Below w.heap.size w W → Calls Tryz.prog f (#[.agg #[.bool x.v, .int .u64 x.hi, .int .u64 x.lo]] ++ lb) W fun e w' => e = .returned (.bool (p x)) ∧ Below w.heap.size w w') :
    Calls Tryz.prog 93 #[.slice a l.length c, .func (.func f) #[] lb] w fun e w' => e = .returned (.int .i64 (idxI (l.findIdx? p))) ∧ Below w.heap.size w w' := by
  obtain ⟨N, hN⟩ : ∃ N, N = l.length := ⟨_, rfl⟩
  rw [← hN] at hl ⊢
  have HN : Hid (N = l.length) := hN
  have HL := Lib.hid hs
  have HPr := Lib.hid hp
  obtain ⟨R, hR⟩ : ∃ R, R = idxI (l.findIdx? p) := ⟨_, rfl⟩
  rw [← hR]
  have HR := Lib.hid hR
  clear hN hs hp hR
  go_enter Tryz.func93, Tryz.ntmps93
  go_wp2_with fail
  go_loopw [8] (fun vi wr => ∃ k : Nat, vi = .int .i64 k ∧ k ≤ N ∧ Hid (Below w.heap.size w wr) ∧ Hid (∀ j (hj : j < k) (hl : j < l.length), p l[j] = false))
    (fun vi _ => N - (intOf vi).toNat)
  case atStart => exact ⟨0, rfl, Nat.zero_le _, Below.refl _ _, fun j hj => absurd hj (Nat.not_lt_zero _)⟩
  case round =>
    obtain ⟨k, rfl, hk, hb, hh⟩ := hrel
    by_cases hkN : k < N
    · have hkl : k < l.length := by have := HN.out; omega
      obtain ⟨g, o, rfl, ch, hg⟩ := HL.out.hasP k hkl
      obtain ⟨c0, c1, c2⟩ : w.cell? ⟨g, o + k * 3, none⟩ = some (.bool l[k].v) ∧ w.cell? ⟨g, o + k * 3 + 1, none⟩ = some (.int .u64 l[k].hi) ∧ w.cell? ⟨g, o + k * 3 + 2, none⟩ = some (.int .u64 l[k].lo) := ⟨ch 0 _ rfl, ch 1 _ rfl, ch 2 _ rfl⟩
      rw [← (bcell hb.out).1 _ _ hg] at c0 c1 c2
      have HC := Lib.hid (HPr.out wr l[k] (List.getElem_mem hkl) hb.out)
      have hkz : (k : Int) < (N : Int) := by omega
      have hk0 : (0 : Int) ≤ (k : Int) := by omega
      have HQ : Hid (∀ b, p l[k] = b → (b = true → R = k) ∧ (b = false → ∀ j (hj : j < k + 1) (hl : j < l.length), p l[j] = false)) := by
        intro b hb
        refine ⟨fun e => ?_, fun e j hj hl => ?_⟩
        · rw [HR.out, find_hit hkl (hb.trans e) (fun j hj => hh.out j hj (by omega))]; rfl
        · by_cases hjk : j = k
          · subst hjk; exact hb.trans e
          · exact hh.out j (by omega) hl
      generalize hq : p l[k] = b at *
      have HQ2 := Lib.hid (HQ.out b rfl)
      clear ch
      generalize l[k].v = x0 at *
      generalize l[k].hi = x1 at *
      generalize l[k].lo = x2 at *
      clear hh hb HPr HQ hq HL
      cases b
      · have HQ3 := Lib.hid (HQ2.out.2 rfl)
        clear HQ2
        go_wp2_with fail
        refine HC.out.mono ?_
        rintro e w2 ⟨rfl, hb2⟩
        have HB := Lib.hid hb2
        clear hb2
        go_wp2_with fail
        go_roundw
        case rel => exact ⟨k + 1, by go_num, by omega, HB, HQ3⟩
        case measure => simp [intOf]; omega
      · have HQ3 := Lib.hid (HQ2.out.1 rfl)
        clear HQ2
        go_wp2_with fail
        refine HC.out.mono ?_
        rintro e w2 ⟨rfl, hb2⟩
        go_wp2_with fail
        go_ret
        exact ⟨congrArg (fun r => Ending.returned (Value.int .i64 r)) HQ3.out.symm, hb2⟩
    · obtain rfl : k = N := by omega
      have hkk : ¬ (k : Int) < (k : Int) := by omega
      have HD : Hid (R = -1) := by
        rw [Hid, HR.out, find_miss (fun j hj => hh.out j (by have := HN.out; omega) hj)]; rfl
      go_wp2_with fail
      go_ret
      exact ⟨congrArg (fun r => Ending.returned (Value.int .i64 r)) HD.out.symm, hb.out⟩
theorem infoPl : (Tryz.prog.info? 87).map (fun i => (i.zero, i.size, i.bytes)) = some (some (.agg #[.bool false, .int .u64 0, .int .u64 0, .int .i64 0, .slice none 0 0]), 5, 56) := by kernel_rfl
theorem rowPl_empty (w : World) : (w.alloc (.cells #[] 87)).ownsRow w.heap.size 87 5 (.slice (some ⟨w.heap.size, 0, none⟩) 0 0) 0 [] :=
  ⟨by simp, .inr ⟨w.heap.size, 0, #[], rfl, Nat.le_refl _, heap_alloc_new w _, Nat.le_refl _, Nat.zero_le _, by simp, by simp⟩⟩
set_option maxHeartbeats 4000000 in
set_option maxRecDepth 100000 in
theorem clonePl_any (a : Option Addr) (c : Nat) (l : List Pl) (w : World) (hl : l.length ≤ 1000) (hs : Lies plE w a l) :
    Calls Tryz.prog 48 #[.slice a l.length c] w fun e w' => ∃ v', e = .returned v' ∧ w'.ownsRow w.heap.size 87 plE.k v' l.length (rowOf plE l) ∧ Below w.heap.size w w' := by
  have q22 : ∀ (w : World) (a : Option Addr) (n c n' c' : Nat), (binOp .eql 52 (.slice a n c) (.slice none n' c')).run Tryz.prog w = .ok (.bool a.isNone) w := fun w a n c n' c' => Lib.run_eql_slice_nil w _ _ a n c n' c' Tryz.underlying52
  cases a with
  | none =>
    obtain rfl := hs.none_nil
    show Calls _ _ #[.slice none 0 c] _ _
    clear hs
    go_enter Tryz.func48, Tryz.ntmps48
    go_wp2
    go_ret
    exact ⟨_, rfl, World.ownsRow_nil _ _ _ _, Below.refl _ _⟩
  | some ad =>
    obtain ⟨i0, hi0, hz0, hz1, hz2⟩ := info_parts infoPl
    have hnews : ∀ j u, (rowOf plE l)[j]? = some u → (w.alloc (.cells #[] 87)).cell? (ad.add j) = some u := (hs.below (bal (Below.refl _ _) _)).news
    have HNews := Lib.hid hnews
    have HRl := Lib.hid (rowOf_len plE l)
    have HR1 := Lib.hid (rowOf_one plE l)
    obtain ⟨row, hrow⟩ : ∃ row, row = rowOf plE l := ⟨_, rfl⟩
    obtain ⟨N, hN⟩ : ∃ N, N = l.length := ⟨_, rfl⟩
    rw [← hrow] at HNews HRl HR1 ⊢
    rw [← hN] at HRl hl ⊢
    clear hnews hs hrow hN
    go_enter Tryz.func48, Tryz.ntmps48
    go_wp2_with (at_builtin; refine wpList_append_own _ rfl _ _ 52 rfl w.heap.size 87 i0 _ 5 56 Tryz.underlying52 hi0 hz0 hz1 hz2 rfl (by decide) _ _ _ rfl (rowPl_empty w) ad N c row rfl HRl.out HNews.out HR1.out (by unfold maxLen; omega) (by omega) (by simp) ?_)
    intro v' w4 hown hgrow _
    have HB : Hid (Below w.heap.size w w4) := (bal (Below.refl _ _) _).grown hgrow (by simp) (fun k hk => ((rowPl_empty w).lt k hk).1)
    have HO : Hid (w4.ownsRow w.heap.size 87 5 v' N row) := hown
    clear hown hgrow
    go_wp2
    go_ret
    exact ⟨_, rfl, HO.out, HB.out⟩
theorem infoAd : (Tryz.prog.info? 29).map (fun i => (i.zero, i.size, i.bytes)) = some (some (.agg #[.bool false, .int .u64 0, .int .u64 0]), 3, 24) := by kernel_rfl
theorem rowAd_empty (w : World) : (w.alloc (.cells #[] 29)).ownsRow w.heap.size 29 3 (.slice (some ⟨w.heap.size, 0, none⟩) 0 0) 0 [] :=
  ⟨by simp, .inr ⟨w.heap.size, 0, #[], rfl, Nat.le_refl _, heap_alloc_new w _, Nat.le_refl _, Nat.zero_le _, by simp, by simp⟩⟩
set_option maxHeartbeats 4000000 in
set_option maxRecDepth 100000 in
theorem cloneAd_any (a : Option Addr) (c : Nat) (l : List Ad) (w : World) (hl : l.length ≤ 1000) (hs : Lies adE w a l) :
    Calls Tryz.prog 49 #[.slice a l.length c] w fun e w' => ∃ v', e = .returned v' ∧ w'.ownsRow w.heap.size 29 adE.k v' l.length (rowOf adE l) ∧ Below w.heap.size w w' := by
  have q22 : ∀ (w : World) (a : Option Addr) (n c n' c' : Nat), (binOp .eql 56 (.slice a n c) (.slice none n' c')).run Tryz.prog w = .ok (.bool a.isNone) w := fun w a n c n' c' => Lib.run_eql_slice_nil w _ _ a n c n' c' Tryz.underlying56
  cases a with
  | none =>
    obtain rfl := hs.none_nil
    show Calls _ _ #[.slice none 0 c] _ _
    clear hs
    go_enter Tryz.func49, Tryz.ntmps49
    go_wp2
    go_ret
    exact ⟨_, rfl, World.ownsRow_nil _ _ _ _, Below.refl _ _⟩
  | some ad =>
    obtain ⟨i0, hi0, hz0, hz1, hz2⟩ := info_parts infoAd
    have hnews : ∀ j u, (rowOf adE l)[j]? = some u → (w.alloc (.cells #[] 29)).cell? (ad.add j) = some u := (hs.below (bal (Below.refl _ _) _)).news
    have HNews := Lib.hid hnews
    have HRl := Lib.hid (rowOf_len adE l)
    have HR1 := Lib.hid (rowOf_one adE l)
    obtain ⟨row, hrow⟩ : ∃ row, row = rowOf adE l := ⟨_, rfl⟩
    obtain ⟨N, hN⟩ : ∃ N, N = l.length := ⟨_, rfl⟩
    rw [← hrow] at HNews HRl HR1 ⊢
    rw [← hN] at HRl hl ⊢
    clear hnews hs hrow hN
    go_enter Tryz.func49, Tryz.ntmps49
    go_wp2_with (at_builtin; refine wpList_append_own _ rfl _ _ 56 rfl w.heap.size 29 i0 _ 3 24 Tryz.underlying56 hi0 hz0 hz1 hz2 rfl (by decide) _ _ _ rfl (rowAd_empty w) ad N c row rfl HRl.out HNews.out HR1.out (by unfold maxLen; omega) (by omega) (by simp) ?_)
    intro v' w4 hown hgrow _
    have HB : Hid (Below w.heap.size w w4) := (bal (Below.refl _ _) _).grown hgrow (by simp) (fun k hk => ((rowAd_empty w).lt k hk).1)
    have HO : Hid (w4.ownsRow w.heap.size 29 3 v' N row) := hown
    clear hown hgrow
    go_wp2
    go_ret
    exact ⟨_, rfl, HO.out, HB.out⟩
end Go.Proofs.YtjainfehlbfiaaaGreat
