/- strings.Join of a row that the call made; addr.printFour; addr.printGroups. -/
import Derived.Test.YtghbonlignmdoaaGreatDoorFmt16
import Derived.Test.YtghbonlignmdoaaGreatDoorConcat
namespace Go.Proofs.YtghbonlignmdoaaGreatDoor
open Go.RowKit

/-- A list of texts, as the cells of its row. -/
def strs (l : List (List UInt8)) : List Value := l.map fun x => Value.string ⟨x.toArray⟩

theorem join_len (c : UInt8) : ∀ (l : List (List UInt8)) (M : Nat), (∀ x ∈ l, x.length ≤ M) → (Lib.join l [c]).length ≤ l.length * (M + 1)
  | [], M, _ => by simp [Lib.join, List.intercalate]
  | [x], M, h => by
    have := h x (by simp)
    simp [Lib.join, List.intercalate]; omega
  | x :: y :: r, M, h => by
    have h1 := h x (by simp)
    have ih := join_len c (y :: r) M (fun z hz => h z (by simp [hz]))
    have e : Lib.join (x :: y :: r) [c] = x ++ [c] ++ Lib.join (y :: r) [c] := by simp [Lib.join, List.intercalate, List.intersperse]
    rw [e]
    simp only [List.length_append, List.length_cons, List.length_nil] at ih ⊢
    rw [Nat.add_mul (r.length + 1) 1 (M + 1)]
    omega

theorem join_str (l : List (List UInt8)) (c : UInt8) (v : Value) (B : Nat) (w : World) (hown : w.ownsRow B 9 1 v l.length (strs l)) (hn : l.length ≤ 100) (hx : ∀ x ∈ l, x.length ≤ 100) :
    Calls Tryz.prog 56 #[v, .string ⟨#[c]⟩] w fun e w' => e = .returned (.string ⟨(Lib.join l [c]).toArray⟩) ∧ RowKit.Below w.heap.size w w' := by
  have hc := fun g hg => hown.cells (g := g) hg
  have hml : (l.map fun x => (⟨x.toArray⟩ : ByteArray)).map (fun x => x.data.toList) = l := by
    rw [List.map_map]; exact List.map_id l
  have hjl := join_len c l 100 hx
  have hjl2 : l.length * (100 + 1) ≤ 100 * 101 := Nat.mul_le_mul_right _ hn
  rcases hown.2 with ⟨rfl, hz⟩ | ⟨g, cap, cur, rfl, hg, hcur, hcap, h3⟩
  · have hl0 : l = [] := List.length_eq_zero_iff.1 hz
    subst hl0
    refine (Tryz.strings_Join_none none 0 ⟨#[c]⟩ w).mono ?_
    rintro e w' ⟨rfl, rfl⟩
    exact ⟨rfl, RowKit.Below.refl _ _⟩
  · have hlt2 : g < w.heap.size := by
      rcases Nat.lt_or_ge g w.heap.size with h | h
      · exact h
      · rw [Array.getElem?_eq_none h] at hcur; cases hcur
    have hJ := Tryz.strings_Join g 0 cap (l.map fun x => ⟨x.toArray⟩) ⟨#[c]⟩ w (by
      intro j x hj
      have := hc g rfl j (.string x) (by
        rw [List.getElem?_map] at hj
        obtain ⟨y, hy, rfl⟩ := Option.map_eq_some_iff.1 hj
        simp [strs, hy])
      rw [Lib.add_plain] at this
      exact this) hlt2 (by simp; omega) (by simp; omega) (by rw [hml]; show (Lib.join l [c]).length ≤ _; omega)
    rw [hml, List.length_map] at hJ
    exact hJ

theorem infoStr : (Tryz.prog.info? 9).map (fun i => (i.zero, i.size, i.bytes)) = some (some (.string ⟨#[]⟩), 1, 16) := by kernel_rfl

theorem fmt10I (x : Int) (w : World) (hg : Good w) (h0 : 0 ≤ x) (hu : x < 1000) :
    Calls Tryz.prog 55 #[.int .u64 x, .int .i64 10] w fun e w' => e = .returned (.string ⟨(Lib.decDigits x.toNat).toArray⟩) ∧ RowKit.Below w.heap.size w w' := by
  obtain ⟨n, rfl⟩ := Int.eq_ofNat_of_zero_le h0
  exact fmt10 n w hg (by omega)

theorem and8 (x : Int) (h0 : 0 ≤ x) (h1 : x < 18446744073709551616) : bits .and .u64 x 255 = x % 256 := by
  obtain ⟨n, rfl⟩ := Int.eq_ofNat_of_zero_le h0
  rw [show (255 : Int) = ((255 : Nat) : Int) from rfl, u64_and_nat _ _ (by omega) (by decide), show (255 : Nat) = 2 ^ 8 - 1 from rfl, Nat.and_two_pow_sub_one_eq_mod]
  rfl

/-- The four bytes of an address, as decimal digits. -/
def four (lo : Nat) : List (List UInt8) := [Lib.decDigits (lo / 16777216 % 256), Lib.decDigits (lo / 65536 % 256), Lib.decDigits (lo / 256 % 256), Lib.decDigits (lo % 256)]

theorem decDigits_le (n : Nat) (h : n < 1000) : (Lib.decDigits n).length ≤ 20 := by
  rw [Lib.decDigits_length]
  by_cases h0 : n = 0
  · subst h0; rw [Lib.nDigits_small (by decide)]; omega
  · have := Lib.numDigits_eq n (by omega) (by omega); split at this <;> omega

set_option maxHeartbeats 8000000 in
set_option maxRecDepth 100000 in
theorem printFour_any (v : Bool) (hi lo : Int) (w : World) (hg : Good w) (h0 : 0 ≤ lo) (h1 : lo < 4294967296) :
    Calls Tryz.prog 45 #[.agg #[.bool v, .int .u64 hi, .int .u64 lo]] w fun e w' => e = .returned (.string ⟨(Lib.join (four lo.toNat) [46]).toArray⟩) ∧ RowKit.Below w.heap.size w w' := by
  obtain ⟨i0, hi0, hz0, hz1, hz2⟩ := info_parts infoStr
  have a24 := and8 (lo / 16777216) (by omega) (by omega)
  have a16 := and8 (lo / 65536) (by omega) (by omega)
  have a8 := and8 (lo / 256) (by omega) (by omega)
  have a0 := and8 lo (by omega) (by omega)
  have hb0 : RowKit.Below w.heap.size w (w.alloc (.cells #[.bool v, .int .u64 hi, .int .u64 lo] 25)) := bal (RowKit.Below.refl _ _) _
  have HB0 : Hid (RowKit.Below w.heap.size w (w.alloc (.cells #[.bool v, .int .u64 hi, .int .u64 lo] 25))) := hb0
  have hcl : (w.alloc (.cells #[.bool v, .int .u64 hi, .int .u64 lo] 25)).cell? ⟨w.heap.size, 2, none⟩ = some (.int .u64 lo) := by simp [go_sem]
  have hsz : w.heap.size < (w.alloc (.cells #[.bool v, .int .u64 hi, .int .u64 lo] 25)).heap.size := by simp
  have HF : Hid (∀ (x : Int) (w : World), Good w → 0 ≤ x → x < 1000 → Calls Tryz.prog 55 #[.int .u64 x, .int .i64 10] w fun e w' => e = .returned (.string ⟨(Lib.decDigits x.toNat).toArray⟩) ∧ RowKit.Below w.heap.size w w') := fun x w a b c => fmt10I x w a b c
  clear hb0
  go_enter Tryz.func45, Tryz.ntmps45
  go_wp2_with fail
  generalize w.alloc (.cells #[.bool v, .int .u64 hi, .int .u64 lo] 25) = W at HB0 hcl hsz ⊢
  go_loopw [3, 4] (fun vs vi wr => ∃ (n : Nat) (l : List (List UInt8)), RowKit.Below W.heap.size W wr ∧ wr.ownsRow W.heap.size 9 1 vs n (strs l) ∧
      ((vi = .int .i64 24 ∧ Hid (n = 0 ∧ l = [])) ∨
       (vi = .int .i64 16 ∧ Hid (n = 1 ∧ l = [Lib.decDigits (lo / 16777216 % 256).toNat])) ∨
       (vi = .int .i64 8 ∧ Hid (n = 2 ∧ l = [Lib.decDigits (lo / 16777216 % 256).toNat, Lib.decDigits (lo / 65536 % 256).toNat])) ∨
       (vi = .int .i64 0 ∧ Hid (n = 3 ∧ l = [Lib.decDigits (lo / 16777216 % 256).toNat, Lib.decDigits (lo / 65536 % 256).toNat, Lib.decDigits (lo / 256 % 256).toNat])) ∨
       (vi = .int .i64 (-8) ∧ Hid (n = 4 ∧ l = [Lib.decDigits (lo / 16777216 % 256).toNat, Lib.decDigits (lo / 65536 % 256).toNat, Lib.decDigits (lo / 256 % 256).toNat, Lib.decDigits (lo % 256).toNat]))))
    (fun _ vi _ => (intOf vi + 8).toNat)
  case atStart => exact ⟨0, [], RowKit.Below.refl _ _, World.ownsRow_nil _ _ _ _, .inl ⟨rfl, rfl, rfl⟩⟩
  case round =>
    obtain ⟨n, l, hb, hown, hr⟩ := hrel
    have hc := (bcell hb).1 w.heap.size 2 hsz
    rw [hcl] at hc
    have hgr : Hid (Good wr) := (hg.below HB0.out).below hb
    have hzz := hb.size
    rcases hr with ⟨rfl, hh⟩ | ⟨rfl, hh⟩ | ⟨rfl, hh⟩ | ⟨rfl, hh⟩ | ⟨rfl, hh⟩
    · have HN : Hid (n + 1 = 1 ∧ l ++ [Lib.decDigits (lo / 16777216 % 256).toNat] = [Lib.decDigits (lo / 16777216 % 256).toNat]) := ⟨by have := hh.out.1; omega, by rw [hh.out.2]; rfl⟩
      have hn4 : n ≤ 4 := by have := hh.out.1; omega
      clear hh
      have HX := HF.out (lo / 16777216 % 256) wr hgr.out (by omega) (by omega)
      go_wp2_with fail
      refine HX.mono ?_
      rintro e w2 ⟨rfl, hb2⟩
      have hown2 := own_below hown hb2
      go_wp2_with (at_builtin; refine wpList_append_own _ rfl _ _ 93 rfl W.heap.size 9 i0 (.string ⟨#[]⟩) 1 16 Tryz.underlying93 hi0 hz0 hz1 hz2 rfl (by decide) _ _ _ rfl (hown2.alloc _) ⟨w2.heap.size, 0, none⟩ 1 1 [.string ⟨(Lib.decDigits (lo / 16777216 % 256).toNat).toArray⟩] rfl rfl ?c1 ?c2 ?c3 ?c4 ?c5 ?_)
      case c1 =>
        intro j u hj
        match j, hj with
        | 0, hj => simp at hj; subst hj; simp [Addr.add]
      case c2 => intro u hu; simp at hu; subst hu; rfl
      case c3 => unfold maxLen; omega
      case c4 => omega
      case c5 => have := hb2.size; simp; omega
      intro v' w3 hown' hgrow _
      have hb3 : RowKit.Below W.heap.size W w3 := (bal (btr hb hb2) _).grown hgrow (by have := hb2.size; simp; omega) (fun k hk => (hown2.lt k hk).1)
      have HR : Hid (w3.ownsRow W.heap.size 9 1 v' (n + 1) (strs (l ++ [Lib.decDigits (lo / 16777216 % 256).toNat]))) := by
        have e2 : strs (l ++ [Lib.decDigits (lo / 16777216 % 256).toNat]) = strs l ++ [.string ⟨(Lib.decDigits (lo / 16777216 % 256).toNat).toArray⟩] := by simp [strs]
        rw [e2]; exact hown'
      clear hown' hgrow hown hown2 HX
      go_wp2
      go_roundw
      case rel => exact ⟨n + 1, l ++ [Lib.decDigits (lo / 16777216 % 256).toNat], hb3, HR, .inr (.inl ⟨rfl, HN⟩)⟩
      case measure => simp [intOf]
    · have HN : Hid (n + 1 = 2 ∧ l ++ [Lib.decDigits (lo / 65536 % 256).toNat] = [Lib.decDigits (lo / 16777216 % 256).toNat, Lib.decDigits (lo / 65536 % 256).toNat]) := ⟨by have := hh.out.1; omega, by rw [hh.out.2]; rfl⟩
      have hn4 : n ≤ 4 := by have := hh.out.1; omega
      clear hh
      have HX := HF.out (lo / 65536 % 256) wr hgr.out (by omega) (by omega)
      go_wp2_with fail
      refine HX.mono ?_
      rintro e w2 ⟨rfl, hb2⟩
      have hown2 := own_below hown hb2
      go_wp2_with (at_builtin; refine wpList_append_own _ rfl _ _ 93 rfl W.heap.size 9 i0 (.string ⟨#[]⟩) 1 16 Tryz.underlying93 hi0 hz0 hz1 hz2 rfl (by decide) _ _ _ rfl (hown2.alloc _) ⟨w2.heap.size, 0, none⟩ 1 1 [.string ⟨(Lib.decDigits (lo / 65536 % 256).toNat).toArray⟩] rfl rfl ?c1 ?c2 ?c3 ?c4 ?c5 ?_)
      case c1 =>
        intro j u hj
        match j, hj with
        | 0, hj => simp at hj; subst hj; simp [Addr.add]
      case c2 => intro u hu; simp at hu; subst hu; rfl
      case c3 => unfold maxLen; omega
      case c4 => omega
      case c5 => have := hb2.size; simp; omega
      intro v' w3 hown' hgrow _
      have hb3 : RowKit.Below W.heap.size W w3 := (bal (btr hb hb2) _).grown hgrow (by have := hb2.size; simp; omega) (fun k hk => (hown2.lt k hk).1)
      have HR : Hid (w3.ownsRow W.heap.size 9 1 v' (n + 1) (strs (l ++ [Lib.decDigits (lo / 65536 % 256).toNat]))) := by
        have e2 : strs (l ++ [Lib.decDigits (lo / 65536 % 256).toNat]) = strs l ++ [.string ⟨(Lib.decDigits (lo / 65536 % 256).toNat).toArray⟩] := by simp [strs]
        rw [e2]; exact hown'
      clear hown' hgrow hown hown2 HX
      go_wp2
      go_roundw
      case rel => exact ⟨n + 1, l ++ [Lib.decDigits (lo / 65536 % 256).toNat], hb3, HR, .inr (.inr (.inl ⟨rfl, HN⟩))⟩
      case measure => simp [intOf]
    · have HN : Hid (n + 1 = 3 ∧ l ++ [Lib.decDigits (lo / 256 % 256).toNat] = [Lib.decDigits (lo / 16777216 % 256).toNat, Lib.decDigits (lo / 65536 % 256).toNat, Lib.decDigits (lo / 256 % 256).toNat]) := ⟨by have := hh.out.1; omega, by rw [hh.out.2]; rfl⟩
      have hn4 : n ≤ 4 := by have := hh.out.1; omega
      clear hh
      have HX := HF.out (lo / 256 % 256) wr hgr.out (by omega) (by omega)
      go_wp2_with fail
      refine HX.mono ?_
      rintro e w2 ⟨rfl, hb2⟩
      have hown2 := own_below hown hb2
      go_wp2_with (at_builtin; refine wpList_append_own _ rfl _ _ 93 rfl W.heap.size 9 i0 (.string ⟨#[]⟩) 1 16 Tryz.underlying93 hi0 hz0 hz1 hz2 rfl (by decide) _ _ _ rfl (hown2.alloc _) ⟨w2.heap.size, 0, none⟩ 1 1 [.string ⟨(Lib.decDigits (lo / 256 % 256).toNat).toArray⟩] rfl rfl ?c1 ?c2 ?c3 ?c4 ?c5 ?_)
      case c1 =>
        intro j u hj
        match j, hj with
        | 0, hj => simp at hj; subst hj; simp [Addr.add]
      case c2 => intro u hu; simp at hu; subst hu; rfl
      case c3 => unfold maxLen; omega
      case c4 => omega
      case c5 => have := hb2.size; simp; omega
      intro v' w3 hown' hgrow _
      have hb3 : RowKit.Below W.heap.size W w3 := (bal (btr hb hb2) _).grown hgrow (by have := hb2.size; simp; omega) (fun k hk => (hown2.lt k hk).1)
      have HR : Hid (w3.ownsRow W.heap.size 9 1 v' (n + 1) (strs (l ++ [Lib.decDigits (lo / 256 % 256).toNat]))) := by
        have e2 : strs (l ++ [Lib.decDigits (lo / 256 % 256).toNat]) = strs l ++ [.string ⟨(Lib.decDigits (lo / 256 % 256).toNat).toArray⟩] := by simp [strs]
        rw [e2]; exact hown'
      clear hown' hgrow hown hown2 HX
      go_wp2
      go_roundw
      case rel => exact ⟨n + 1, l ++ [Lib.decDigits (lo / 256 % 256).toNat], hb3, HR, .inr (.inr (.inr (.inl ⟨rfl, HN⟩)))⟩
      case measure => simp [intOf]
    · have HN : Hid (n + 1 = 4 ∧ l ++ [Lib.decDigits (lo % 256).toNat] = [Lib.decDigits (lo / 16777216 % 256).toNat, Lib.decDigits (lo / 65536 % 256).toNat, Lib.decDigits (lo / 256 % 256).toNat, Lib.decDigits (lo % 256).toNat]) := ⟨by have := hh.out.1; omega, by rw [hh.out.2]; rfl⟩
      have hn4 : n ≤ 4 := by have := hh.out.1; omega
      clear hh
      have HX := HF.out (lo % 256) wr hgr.out (by omega) (by omega)
      go_wp2_with fail
      refine HX.mono ?_
      rintro e w2 ⟨rfl, hb2⟩
      have hown2 := own_below hown hb2
      go_wp2_with (at_builtin; refine wpList_append_own _ rfl _ _ 93 rfl W.heap.size 9 i0 (.string ⟨#[]⟩) 1 16 Tryz.underlying93 hi0 hz0 hz1 hz2 rfl (by decide) _ _ _ rfl (hown2.alloc _) ⟨w2.heap.size, 0, none⟩ 1 1 [.string ⟨(Lib.decDigits (lo % 256).toNat).toArray⟩] rfl rfl ?c1 ?c2 ?c3 ?c4 ?c5 ?_)
      case c1 =>
        intro j u hj
        match j, hj with
        | 0, hj => simp at hj; subst hj; simp [Addr.add]
      case c2 => intro u hu; simp at hu; subst hu; rfl
      case c3 => unfold maxLen; omega
      case c4 => omega
      case c5 => have := hb2.size; simp; omega
      intro v' w3 hown' hgrow _
      have hb3 : RowKit.Below W.heap.size W w3 := (bal (btr hb hb2) _).grown hgrow (by have := hb2.size; simp; omega) (fun k hk => (hown2.lt k hk).1)
      have HR : Hid (w3.ownsRow W.heap.size 9 1 v' (n + 1) (strs (l ++ [Lib.decDigits (lo % 256).toNat]))) := by
        have e2 : strs (l ++ [Lib.decDigits (lo % 256).toNat]) = strs l ++ [.string ⟨(Lib.decDigits (lo % 256).toNat).toArray⟩] := by simp [strs]
        rw [e2]; exact hown'
      clear hown' hgrow hown hown2 HX
      go_wp2
      go_roundw
      case rel => exact ⟨n + 1, l ++ [Lib.decDigits (lo % 256).toNat], hb3, HR, .inr (.inr (.inr (.inr ⟨rfl, HN⟩)))⟩
      case measure => simp [intOf]
    · obtain ⟨rfl, rfl⟩ := hh.out
      have e4 : four lo.toNat = [Lib.decDigits (lo / 16777216 % 256).toNat, Lib.decDigits (lo / 65536 % 256).toNat, Lib.decDigits (lo / 256 % 256).toNat, Lib.decDigits (lo % 256).toNat] := by
        have k1 : lo.toNat / 16777216 % 256 = (lo / 16777216 % 256).toNat := by omega
        have k2 : lo.toNat / 65536 % 256 = (lo / 65536 % 256).toNat := by omega
        have k3 : lo.toNat / 256 % 256 = (lo / 256 % 256).toNat := by omega
        have k4 : lo.toNat % 256 = (lo % 256).toNat := by omega
        rw [four, k1, k2, k3, k4]
      have HJ : Hid (Calls Tryz.prog 56 #[u3, .string ⟨#[46]⟩] wr fun e w' => e = .returned (.string ⟨(Lib.join (four lo.toNat) [46]).toArray⟩) ∧ RowKit.Below wr.heap.size wr w') := by
        rw [e4]
        refine join_str _ 46 u3 W.heap.size wr hown (by simp) ?_
        intro x hx
        simp only [List.mem_cons, List.not_mem_nil, or_false] at hx
        rcases hx with rfl | rfl | rfl | rfl
        · exact Nat.le_trans (decDigits_le _ (by omega)) (by decide)
        · exact Nat.le_trans (decDigits_le _ (by omega)) (by decide)
        · exact Nat.le_trans (decDigits_le _ (by omega)) (by decide)
        · exact Nat.le_trans (decDigits_le _ (by omega)) (by decide)
      clear hown hh e4
      go_wp2_with fail
      refine HJ.out.mono ?_
      rintro e w2 ⟨rfl, hb2⟩
      go_wp2
      go_ret
      exact ⟨rfl, btr HB0.out (btr hb hb2)⟩
end Go.Proofs.YtghbonlignmdoaaGreatDoor
