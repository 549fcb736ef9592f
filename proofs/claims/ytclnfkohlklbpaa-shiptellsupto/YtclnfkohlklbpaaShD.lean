/- ship.Next and ship.Take by one contract each; logIs; the document's BehindOf. -/
import Derived.Test.YtclnfkohlklbpaaShC
set_option linter.unusedVariables false
set_option linter.unusedSimpArgs false
namespace Go.Proofs.Ytclnfkohlklbpaa
open Go.RowKit

theorem next_any (a a' : Option Addr) (c c' : Nat) (h l : List En) (many : Int) (w : World) (hc : h.length ≤ c) (hc' : l.length ≤ c') (hs : Lies enE w a h) (hs' : Lies enE w a' l) (hn : a' = none → c' = 0) :
    Calls Try.prog 4 #[.slice a h.length c, .slice a' l.length c', .int .i64 many] w fun e w' => ∃ a3 c3, e = .returned (.tuple #[.slice a3 (nextL h l many).length c3, .int .i64 (nextE h l many)]) ∧ (nextL h l many).length ≤ c3 ∧ Lies enE w' a3 (nextL h l many) ∧ (a3 = none → c3 = 0) ∧ Below w.heap.size w w' := by
  by_cases h0 : nextE h l many = 0
  · refine (next_ok a a' c c' h l many w hc hc' hs hs' hn h0).mono ?_
    rintro e w' ⟨v, rfl, ho, hb⟩
    obtain ⟨a3, c3, rfl, z1, z2, z3, -⟩ := own_open0 ho
    rw [h0]
    exact ⟨a3, c3, rfl, z1, z2, z3, hb⟩
  · refine (next_bad a a' c c' h l many w hc hc' hs hs' h0).mono ?_
    rintro e w' ⟨rfl, hb⟩
    rw [show nextL h l many = [] by unfold nextL; rw [if_neg h0]]
    exact ⟨none, 0, rfl, Nat.le_refl _, Lies.nil _ _ _, fun _ => rfl, hb⟩
theorem take_any (a a' : Option Addr) (c c' : Nat) (h l : List En) (w : World) (hc : h.length ≤ c) (hc' : l.length ≤ c') (hs : Lies enE w a h) (hs' : Lies enE w a' l) (hn : a = none → c = 0) (hn' : a' = none → c' = 0) :
    Calls Try.prog 5 #[.slice a h.length c, .slice a' l.length c'] w fun e w' => ∃ a3 c3, e = .returned (.tuple #[.slice a3 (takeL h l).length c3, .int .i64 (takeE h l)]) ∧ (takeL h l).length ≤ c3 ∧ Lies enE w' a3 (takeL h l) ∧ (a3 = none → c3 = 0) ∧ Below w.heap.size w w' := by
  by_cases h0 : takeE h l = 0
  · refine (take_ok a a' c c' h l w hc hc' hs hs' hn hn' h0).mono ?_
    rintro e w' ⟨v, rfl, ho, hb⟩
    obtain ⟨a3, c3, rfl, z1, z2, z3, -⟩ := own_open0 ho
    rw [h0]
    exact ⟨a3, c3, rfl, z1, z2, z3, hb⟩
  · refine (take_bad a a' c c' h l w hc hc' hs hs' hn hn' h0).mono ?_
    rintro e w' ⟨rfl, hb⟩
    rw [show takeL h l = [] by unfold takeL; rw [if_neg h0]]
    exact ⟨none, 0, rfl, Nat.le_refl _, Lies.nil _ _ _, fun _ => rfl, hb⟩
set_option maxHeartbeats 8000000 in
set_option maxRecDepth 100000 in
theorem logis_any (l l' : List En) (r : Int) (a a' : Option Addr) (c c' : Nat) (w : World) (h0 : r = 0 → l = l' ∧ l.length ≤ 1000) (h1 : ¬ r = 0 → l = []) (hs : Lies enE w a l) (hs' : Lies enE w a' l') :
    Calls Try.prog 10 #[.slice a l.length c, .int .i64 r, .int .i64 r, .slice a' l'.length c'] w fun e w' => e = .returned (.bool true) ∧ Below w.heap.size w w' := by
  by_cases hr : r = 0
  · subst hr
    obtain ⟨rfl, hl⟩ := h0 rfl
    have HS := Lib.hid (rsame_log a a' c c' l w hl hs hs')
    generalize l.length = N at *
    clear h0 h1 hs hs' hl
    go_enter Try.func10, Try.ntmps10
    go_wp2_with fail
    refine HS.out.mono ?_
    rintro e w1 ⟨rfl, hb1⟩
    go_wp2_with fail
    go_ret
    exact ⟨rfl, hb1⟩
  · rw [h1 hr]
    have HS := Lib.hid (rsame_log a none c 0 [] w (by simp) (Lies.nil _ _ _) (Lies.nil _ _ _))
    rw [List.length_nil] at *
    have hI : (r != 0) = true := by rw [bne_iff_ne]; exact hr
    generalize l'.length = N at *
    clear h0 h1 hs hs' hr
    go_enter Try.func10, Try.ntmps10
    go_wp2_with fail
    refine HS.out.mono ?_
    rintro e w1 ⟨rfl, hb1⟩
    go_wp2_with fail
    go_ret
    exact ⟨rfl, hb1⟩
theorem lies_new1 (W : World) (x : En) : Lies enE (W.alloc (.cells #[.int .i64 x.num, .int .i64 x.ep, .int .i64 x.o.k, .bool x.o.p.v, .int .u64 x.o.p.hi, .int .u64 x.o.p.lo, .int .i64 x.o.p.b, .bool x.o.a.v, .int .u64 x.o.a.hi, .int .u64 x.o.a.lo, .string x.o.who, .int .i64 x.o.pof, .int .i64 x.o.n] 44)) (some ⟨W.heap.size, 0, none⟩) [x] := by
  intro j hj
  obtain rfl : j = 0 := by simp at hj; omega
  have hb := Blk.new W (enE.f x) 44
  refine ⟨W.heap.size, 0, rfl, hb.lt, fun i v hi => ?_⟩
  have h2 : 0 + 0 * enE.k + i = i := by simp
  rw [h2]
  exact hb.cell i v hi
set_option maxHeartbeats 16000000 in
set_option maxRecDepth 100000 in
theorem behind_any (a' : Option Addr) (va : Option Addr) (N ca c' : Nat) (l : List En) (m : Nat) (w : World) (hN : N ≤ l.length) (hl : l.length ≤ 1000) (hm : m ≤ 1000) (hs : Lies enE w a' l) :
    Calls Try.prog 8 #[.slice va N ca, .slice a' l.length c', .int .i64 m] w fun e w' => ∃ v, e = .returned v ∧ w'.ownsRow w.heap.size 44 enE.k v ((l.drop N).take m).length (rowOf enE ((l.drop N).take m)) ∧ Below w.heap.size w w' := by
  obtain ⟨i0, hi, hz0, hz1, hz2⟩ := info_parts infoE
  obtain ⟨D, hD⟩ : ∃ D, l.length = N + D := ⟨l.length - N, by omega⟩
  have HD : Hid (l.length = N + D) := hD
  have HL := Lib.hid hs
  obtain ⟨K, hK⟩ : ∃ K, K = min m D := ⟨_, rfl⟩
  have HK : Hid ((l.drop N).take m = (l.drop N).take K) := by
    show _ = _
    rw [hK]
    by_cases h : m ≤ D
    · rw [show min m D = m by omega]
    · rw [show min m D = D by omega, List.take_of_length_le (by rw [List.length_drop]; omega), List.take_of_length_le (by rw [List.length_drop]; omega)]
  rw [HK.out, hD]
  clear HK hs
  have hN1 : N ≤ 1000 := by omega
  have hD1 : D ≤ 1000 := by omega
  have hw1 : IntKind.i64.wrap ((N : Int) + (m : Int)) = (N : Int) + (m : Int) := by rw [IntKind.wrap_i64]; omega
  clear hD hN hl
  obtain ⟨RN, hRN⟩ : ∃ n, n = ((l.drop N).take K).length := ⟨_, rfl⟩
  obtain ⟨RW, hRW⟩ : ∃ r, r = rowOf enE ((l.drop N).take K) := ⟨_, rfl⟩
  rw [← hRN, ← hRW]
  have HRN : Hid (RN = ((l.drop N).take K).length) := hRN
  have HRW : Hid (RW = rowOf enE ((l.drop N).take K)) := hRW
  clear hRN hRW
  go_enter Try.func8, Try.ntmps8
  go_wp2_with fail
  go_loopw [7, 8] (fun vo vi wr => ∃ k : Nat, vi = .int .i64 ((N : Int) + (k : Int)) ∧ k ≤ K ∧ Hid (wr.ownsRow w.heap.size 44 enE.k vo ((l.drop N).take k).length (rowOf enE ((l.drop N).take k))) ∧ Hid (Below w.heap.size w wr))
    (fun _ vi _ => N + K - (intOf vi).toNat)
  case atStart => exact ⟨0, by simp, Nat.zero_le _, by rw [List.take_zero]; exact World.ownsRow_nil _ _ _ _, Below.refl _ _⟩
  case round =>
    obtain ⟨k, rfl, hk, ho, hb⟩ := hrel
    by_cases hkK : k < K
    · have hkl : N + k < l.length := by have := HD.out; omega
      obtain ⟨g, o, rfl, hg, hc⟩ := HL.out.en (N + k) hkl
      have HT : Hid ((l.drop N).take (k + 1) = (l.drop N).take k ++ [l[N + k]]) := by
        show _ = _
        rw [List.take_succ_eq_append_getElem (by rw [List.length_drop]; omega), List.getElem_drop]
      have HX := Lib.hid (lies_new1 wr l[N + k])
      have HBa := Lib.hid (bal hb.out (.cells #[.int .i64 l[N + k].num, .int .i64 l[N + k].ep, .int .i64 l[N + k].o.k, .bool l[N + k].o.p.v, .int .u64 l[N + k].o.p.hi, .int .u64 l[N + k].o.p.lo, .int .i64 l[N + k].o.p.b, .bool l[N + k].o.a.v, .int .u64 l[N + k].o.a.hi, .int .u64 l[N + k].o.a.lo, .string l[N + k].o.who, .int .i64 l[N + k].o.pof, .int .i64 l[N + k].o.n] 44))
      have HOa : Hid ((wr.alloc (.cells #[.int .i64 l[N + k].num, .int .i64 l[N + k].ep, .int .i64 l[N + k].o.k, .bool l[N + k].o.p.v, .int .u64 l[N + k].o.p.hi, .int .u64 l[N + k].o.p.lo, .int .i64 l[N + k].o.p.b, .bool l[N + k].o.a.v, .int .u64 l[N + k].o.a.hi, .int .u64 l[N + k].o.a.lo, .string l[N + k].o.who, .int .i64 l[N + k].o.pof, .int .i64 l[N + k].o.n] 44)).ownsRow w.heap.size 44 enE.k u7 ((l.drop N).take k).length (rowOf enE ((l.drop N).take k))) := own_keep ho.out (bal (Below.refl _ _) _)
      have hlen : ((l.drop N).take k).length + 1 ≤ 100000000 := by rw [List.length_take]; omega
      have kk := (bcell hb.out).1
      obtain ⟨c0, c1, c2, c3, c4, c5, c6, c7, c8, c9, c10, c11, c12⟩ := hc
      rw [← kk _ _ hg] at c0 c1 c2 c3 c4 c5 c6 c7 c8 c9 c10 c11 c12
      have hi1 : (N : Int) + (k : Int) < (N : Int) + (D : Int) := by omega
      have hi2 : (N : Int) + (k : Int) < (N : Int) + (m : Int) := by omega
      have hi0 : (0 : Int) ≤ (N : Int) + (k : Int) := by omega
      have hi3 : ((N : Int) + (k : Int)).toNat = N + k := by omega
      have hi4 : k < D := by omega
      have hi5 : k < m := by omega
      have hw2 : IntKind.i64.wrap ((N : Int) + (k : Int) + 1) = (N : Int) + (k : Int) + 1 := by rw [IntKind.wrap_i64]; omega
      generalize (l.drop N).take k = Q at *
      generalize hxe : l[N + k] = x at *
      clear hxe kk
      generalize x.num = x0 at *
      generalize x.ep = x1 at *
      generalize x.o.k = x2 at *
      generalize x.o.p.v = x3 at *
      generalize x.o.p.hi = x4 at *
      generalize x.o.p.lo = x5 at *
      generalize x.o.p.b = x6 at *
      generalize x.o.a.v = x7 at *
      generalize x.o.a.hi = x8 at *
      generalize x.o.a.lo = x9 at *
      generalize x.o.who = x10 at *
      generalize x.o.pof = x11 at *
      generalize x.o.n = x12 at *
      clear ho hb
      go_wp2_with (at_builtin; refine wp_app_en rfl _ _ 22 rfl w.heap.size i0 _ Try.underlying22 hi hz0 hz1 hz2 rfl _ Q rfl HOa.out (some ⟨wr.heap.size, 0, none⟩) 1 [_] rfl (fun e => by simp at e) HX.out hlen HBa.out.size ?_)
      intro v' w3 hown hgrow
      have HB3 : Hid (Below w.heap.size w w3) := HBa.out.grown hgrow HBa.out.size (fun k hk => (HOa.out.lt k hk).1)
      have HO3 := Lib.hid hown
      clear hgrow hown HX HBa HOa
      go_wp2_with fail
      go_roundw
      case rel => exact ⟨k + 1, by go_num, by omega, by rw [HT.out, Hid, List.length_append]; exact HO3.out, HB3⟩
      case measure => simp [intOf]; omega
    · obtain rfl : k = K := by omega
      by_cases hkD : k < D
      · have hkm : k = m := by omega
        have hi1 : (N : Int) + (k : Int) < (N : Int) + (D : Int) := by omega
        have hi2 : ¬ (N : Int) + (k : Int) < (N : Int) + (m : Int) := by omega
        have hi4 : ¬ k < m := by omega
        have HO9 : Hid (wr.ownsRow w.heap.size 44 enE.k u7 RN RW) := by rw [HRN.out, HRW.out]; exact ho
        clear hkm hK ho HRN HRW
        go_wp2_with fail
        go_ret
        exact ⟨u7, rfl, HO9.out, hb.out⟩
      · have hkm : k = D := by omega
        have hi1 : ¬ (N : Int) + (k : Int) < (N : Int) + (D : Int) := by omega
        have hi4 : ¬ k < D := by omega
        have HO9 : Hid (wr.ownsRow w.heap.size 44 enE.k u7 RN RW) := by rw [HRN.out, HRW.out]; exact ho
        clear hkm hK ho HRN HRW
        go_wp2_with fail
        go_ret
        exact ⟨u7, rfl, HO9.out, hb.out⟩
end Go.Proofs.Ytclnfkohlklbpaa
