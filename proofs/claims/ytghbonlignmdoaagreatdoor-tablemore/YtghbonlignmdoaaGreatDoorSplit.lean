/- addr.split: an address of sixteen bytes as its eight groups. -/
import Derived.Test.YtghbonlignmdoaaGreatDoorPrG
namespace Go.Proofs.YtghbonlignmdoaaGreatDoor
open Go.RowKit

def ints (l : List Int) : List Value := l.map fun x => Value.int .u64 x

theorem and16I (x : Int) (h0 : 0 ≤ x) (h1 : x < 18446744073709551616) : bits .and .u64 x 65535 = x % 65536 := by
  obtain ⟨n, rfl⟩ := Int.eq_ofNat_of_zero_le h0
  exact and16 n (by omega)

/-- The eight groups of an address. -/
def eight (hi lo : Int) : List Int := [hi / 281474976710656 % 65536, hi / 4294967296 % 65536, hi / 65536 % 65536, hi % 65536] ++ [lo / 281474976710656 % 65536, lo / 4294967296 % 65536, lo / 65536 % 65536, lo % 65536]

set_option maxHeartbeats 16000000 in
set_option maxRecDepth 100000 in
theorem split_any (v : Bool) (hi lo : Int) (w : World) (h0 : 0 ≤ hi) (h1 : hi < 18446744073709551616) (l0 : 0 ≤ lo) (l1 : lo < 18446744073709551616) :
    Calls Tryz.prog 52 #[.agg #[.bool v, .int .u64 hi, .int .u64 lo]] w fun e w' => ∃ v, e = .returned v ∧ w'.ownsRow w.heap.size 23 1 v 8 (ints (eight hi lo)) ∧ RowKit.Below w.heap.size w w' := by
  obtain ⟨i0, hi0, hz0, hz1, hz2⟩ := info_parts info64
  have a48 := and16I (hi / 281474976710656) (by omega) (by omega)
  have a32 := and16I (hi / 4294967296) (by omega) (by omega)
  have a16 := and16I (hi / 65536) (by omega) (by omega)
  have a0 := and16I hi (by omega) (by omega)
  have b48 := and16I (lo / 281474976710656) (by omega) (by omega)
  have b32 := and16I (lo / 4294967296) (by omega) (by omega)
  have b16 := and16I (lo / 65536) (by omega) (by omega)
  have b0 := and16I lo (by omega) (by omega)
  have hb0 : RowKit.Below w.heap.size w ((w.alloc (.cells #[.bool v, .int .u64 hi, .int .u64 lo] 25)).alloc (.cells #[.int .u64 hi, .int .u64 lo] 23)) := bal (bal (RowKit.Below.refl _ _) _) _
  have HB0 : Hid (RowKit.Below w.heap.size w ((w.alloc (.cells #[.bool v, .int .u64 hi, .int .u64 lo] 25)).alloc (.cells #[.int .u64 hi, .int .u64 lo] 23))) := hb0
  have k0 : ((w.alloc (.cells #[.bool v, .int .u64 hi, .int .u64 lo] 25)).alloc (.cells #[.int .u64 hi, .int .u64 lo] 23)).cell? ⟨w.heap.size + 1, 0, none⟩ = some (.int .u64 hi) := by simp [go_sem]
  have k1 : ((w.alloc (.cells #[.bool v, .int .u64 hi, .int .u64 lo] 25)).alloc (.cells #[.int .u64 hi, .int .u64 lo] 23)).cell? ⟨w.heap.size + 1, 1, none⟩ = some (.int .u64 lo) := by simp [go_sem]
  have hsz : w.heap.size + 1 < ((w.alloc (.cells #[.bool v, .int .u64 hi, .int .u64 lo] 25)).alloc (.cells #[.int .u64 hi, .int .u64 lo] 23)).heap.size := by simp
  clear hb0
  go_enter Tryz.func52, Tryz.ntmps52
  go_wp2_with fail
  generalize (w.alloc (.cells #[.bool v, .int .u64 hi, .int .u64 lo] 25)).alloc (.cells #[.int .u64 hi, .int .u64 lo] 23) = W at HB0 k0 k1 hsz ⊢
  go_loopw [3, 13] (fun vs vi wr => ∃ (n : Nat) (l : List Int), RowKit.Below W.heap.size W wr ∧ wr.ownsRow W.heap.size 23 1 vs n (ints l) ∧
      ((vi = .int .i64 0 ∧ Hid (n = 0 ∧ l = [])) ∨
       (vi = .int .i64 1 ∧ Hid (n = 4 ∧ l = [hi / 281474976710656 % 65536, hi / 4294967296 % 65536, hi / 65536 % 65536, hi % 65536])) ∨
       (vi = .int .i64 2 ∧ Hid (n = 8 ∧ l = [hi / 281474976710656 % 65536, hi / 4294967296 % 65536, hi / 65536 % 65536, hi % 65536] ++ [lo / 281474976710656 % 65536, lo / 4294967296 % 65536, lo / 65536 % 65536, lo % 65536]))))
    (fun _ vi _ => (2 - intOf vi).toNat)
  case atStart => exact ⟨0, [], RowKit.Below.refl _ _, World.ownsRow_nil _ _ _ _, .inl ⟨rfl, rfl, rfl⟩⟩
  case round =>
    obtain ⟨n, l, hb, hown, hr⟩ := hrel
    rcases hr with ⟨rfl, hh⟩ | ⟨rfl, hh⟩ | ⟨rfl, hh⟩
    · have hc := (bcell hb).1 (w.heap.size + 1) 0 hsz
      rw [k0] at hc
      obtain ⟨rfl, rfl⟩ := hh.out
      have HO : Hid (wr.ownsRow W.heap.size 23 1 u3 0 (ints [])) := hown
      clear hown hh
      go_wp2_with fail
      go_loopw [3, 6] (fun vs vi wr => ∃ (n : Nat) (l : List Int), RowKit.Below W.heap.size W wr ∧ wr.ownsRow W.heap.size 23 1 vs n (ints l) ∧
            ((vi = .int .i64 (48) ∧ Hid (n = 0 ∧ l = [])) ∨
             (vi = .int .i64 (32) ∧ Hid (n = 1 ∧ l = [hi / 281474976710656 % 65536])) ∨
             (vi = .int .i64 (16) ∧ Hid (n = 2 ∧ l = [hi / 281474976710656 % 65536, hi / 4294967296 % 65536])) ∨
             (vi = .int .i64 (0) ∧ Hid (n = 3 ∧ l = [hi / 281474976710656 % 65536, hi / 4294967296 % 65536, hi / 65536 % 65536])) ∨
             (vi = .int .i64 (-16) ∧ Hid (n = 4 ∧ l = [hi / 281474976710656 % 65536, hi / 4294967296 % 65536, hi / 65536 % 65536, hi % 65536]))))
          (fun _ vi _ => (intOf vi + 16).toNat)
      case atStart => exact ⟨0, _, hb, HO.out, .inl ⟨rfl, rfl, by simp⟩⟩
      case round =>
        clear HO hb hc
        obtain ⟨n, l, hb, hown, hr⟩ := hrel
        have hzz := hb.size
        rcases hr with ⟨rfl, hh⟩ | ⟨rfl, hh⟩ | ⟨rfl, hh⟩ | ⟨rfl, hh⟩ | ⟨rfl, hh⟩
        · have HN : Hid (n + 1 = 1 ∧ l ++ [hi / 281474976710656 % 65536] = [hi / 281474976710656 % 65536]) := ⟨by have := hh.out.1; omega, by rw [hh.out.2]; rfl⟩
          have hn9 : n ≤ 9 := by have := hh.out.1; omega
          clear hh
          go_wp2_with (at_builtin; refine wpList_append_own _ rfl _ _ 88 rfl W.heap.size 23 i0 (.int .u64 0) 1 8 Tryz.underlying88 hi0 hz0 hz1 hz2 rfl (by decide) _ _ _ rfl (hown.alloc _) ⟨wr.heap.size, 0, none⟩ 1 1 [.int .u64 (hi / 281474976710656 % 65536)] rfl rfl ?c1 ?c2 ?c3 ?c4 ?c5 ?_)
          case c1 =>
            intro j u hj
            match j, hj with
            | 0, hj => simp at hj; subst hj; simp [Addr.add]
          case c2 => intro u hu; simp at hu; subst hu; rfl
          case c3 => unfold maxLen; omega
          case c4 => omega
          case c5 => simp; omega
          intro v' w3 hown' hgrow _
          have hb3 : RowKit.Below W.heap.size W w3 := (bal hb _).grown hgrow (by simp; omega) (fun k hk => (hown.lt k hk).1)
          have HR : Hid (w3.ownsRow W.heap.size 23 1 v' (n + 1) (ints (l ++ [hi / 281474976710656 % 65536]))) := by
            have e2 : ints (l ++ [hi / 281474976710656 % 65536]) = ints l ++ [.int .u64 (hi / 281474976710656 % 65536)] := by simp [ints]
            rw [e2]; exact hown'
          clear hown' hgrow hown
          go_wp2
          go_roundw
          case rel => exact ⟨n + 1, l ++ [hi / 281474976710656 % 65536], hb3, HR, .inr (.inl ⟨rfl, HN⟩)⟩
          case measure => simp [intOf]
        · have HN : Hid (n + 1 = 2 ∧ l ++ [hi / 4294967296 % 65536] = [hi / 281474976710656 % 65536, hi / 4294967296 % 65536]) := ⟨by have := hh.out.1; omega, by rw [hh.out.2]; rfl⟩
          have hn9 : n ≤ 9 := by have := hh.out.1; omega
          clear hh
          go_wp2_with (at_builtin; refine wpList_append_own _ rfl _ _ 88 rfl W.heap.size 23 i0 (.int .u64 0) 1 8 Tryz.underlying88 hi0 hz0 hz1 hz2 rfl (by decide) _ _ _ rfl (hown.alloc _) ⟨wr.heap.size, 0, none⟩ 1 1 [.int .u64 (hi / 4294967296 % 65536)] rfl rfl ?c1 ?c2 ?c3 ?c4 ?c5 ?_)
          case c1 =>
            intro j u hj
            match j, hj with
            | 0, hj => simp at hj; subst hj; simp [Addr.add]
          case c2 => intro u hu; simp at hu; subst hu; rfl
          case c3 => unfold maxLen; omega
          case c4 => omega
          case c5 => simp; omega
          intro v' w3 hown' hgrow _
          have hb3 : RowKit.Below W.heap.size W w3 := (bal hb _).grown hgrow (by simp; omega) (fun k hk => (hown.lt k hk).1)
          have HR : Hid (w3.ownsRow W.heap.size 23 1 v' (n + 1) (ints (l ++ [hi / 4294967296 % 65536]))) := by
            have e2 : ints (l ++ [hi / 4294967296 % 65536]) = ints l ++ [.int .u64 (hi / 4294967296 % 65536)] := by simp [ints]
            rw [e2]; exact hown'
          clear hown' hgrow hown
          go_wp2
          go_roundw
          case rel => exact ⟨n + 1, l ++ [hi / 4294967296 % 65536], hb3, HR, .inr (.inr (.inl ⟨rfl, HN⟩))⟩
          case measure => simp [intOf]
        · have HN : Hid (n + 1 = 3 ∧ l ++ [hi / 65536 % 65536] = [hi / 281474976710656 % 65536, hi / 4294967296 % 65536, hi / 65536 % 65536]) := ⟨by have := hh.out.1; omega, by rw [hh.out.2]; rfl⟩
          have hn9 : n ≤ 9 := by have := hh.out.1; omega
          clear hh
          go_wp2_with (at_builtin; refine wpList_append_own _ rfl _ _ 88 rfl W.heap.size 23 i0 (.int .u64 0) 1 8 Tryz.underlying88 hi0 hz0 hz1 hz2 rfl (by decide) _ _ _ rfl (hown.alloc _) ⟨wr.heap.size, 0, none⟩ 1 1 [.int .u64 (hi / 65536 % 65536)] rfl rfl ?c1 ?c2 ?c3 ?c4 ?c5 ?_)
          case c1 =>
            intro j u hj
            match j, hj with
            | 0, hj => simp at hj; subst hj; simp [Addr.add]
          case c2 => intro u hu; simp at hu; subst hu; rfl
          case c3 => unfold maxLen; omega
          case c4 => omega
          case c5 => simp; omega
          intro v' w3 hown' hgrow _
          have hb3 : RowKit.Below W.heap.size W w3 := (bal hb _).grown hgrow (by simp; omega) (fun k hk => (hown.lt k hk).1)
          have HR : Hid (w3.ownsRow W.heap.size 23 1 v' (n + 1) (ints (l ++ [hi / 65536 % 65536]))) := by
            have e2 : ints (l ++ [hi / 65536 % 65536]) = ints l ++ [.int .u64 (hi / 65536 % 65536)] := by simp [ints]
            rw [e2]; exact hown'
          clear hown' hgrow hown
          go_wp2
          go_roundw
          case rel => exact ⟨n + 1, l ++ [hi / 65536 % 65536], hb3, HR, .inr (.inr (.inr (.inl ⟨rfl, HN⟩)))⟩
          case measure => simp [intOf]
        · have HN : Hid (n + 1 = 4 ∧ l ++ [hi % 65536] = [hi / 281474976710656 % 65536, hi / 4294967296 % 65536, hi / 65536 % 65536, hi % 65536]) := ⟨by have := hh.out.1; omega, by rw [hh.out.2]; rfl⟩
          have hn9 : n ≤ 9 := by have := hh.out.1; omega
          clear hh
          go_wp2_with (at_builtin; refine wpList_append_own _ rfl _ _ 88 rfl W.heap.size 23 i0 (.int .u64 0) 1 8 Tryz.underlying88 hi0 hz0 hz1 hz2 rfl (by decide) _ _ _ rfl (hown.alloc _) ⟨wr.heap.size, 0, none⟩ 1 1 [.int .u64 (hi % 65536)] rfl rfl ?c1 ?c2 ?c3 ?c4 ?c5 ?_)
          case c1 =>
            intro j u hj
            match j, hj with
            | 0, hj => simp at hj; subst hj; simp [Addr.add]
          case c2 => intro u hu; simp at hu; subst hu; rfl
          case c3 => unfold maxLen; omega
          case c4 => omega
          case c5 => simp; omega
          intro v' w3 hown' hgrow _
          have hb3 : RowKit.Below W.heap.size W w3 := (bal hb _).grown hgrow (by simp; omega) (fun k hk => (hown.lt k hk).1)
          have HR : Hid (w3.ownsRow W.heap.size 23 1 v' (n + 1) (ints (l ++ [hi % 65536]))) := by
            have e2 : ints (l ++ [hi % 65536]) = ints l ++ [.int .u64 (hi % 65536)] := by simp [ints]
            rw [e2]; exact hown'
          clear hown' hgrow hown
          go_wp2
          go_roundw
          case rel => exact ⟨n + 1, l ++ [hi % 65536], hb3, HR, .inr (.inr (.inr (.inr (⟨rfl, HN⟩))))⟩
          case measure => simp [intOf]
        · have HN := hh
          clear hh
          have HO : Hid (wr.ownsRow W.heap.size 23 1 u3 n (ints l)) := hown
          clear hown
          go_wp2
          go_roundw
          case rel => exact ⟨n, l, hb, HO.out, .inr (.inl ⟨rfl, HN⟩)⟩
          case measure => simp [intOf]
    · have hc := (bcell hb).1 (w.heap.size + 1) 1 hsz
      rw [k1] at hc
      have HL := hh
      have HO : Hid (wr.ownsRow W.heap.size 23 1 u3 4 (ints ([hi / 281474976710656 % 65536, hi / 4294967296 % 65536, hi / 65536 % 65536, hi % 65536]))) := by
        have e := hh.out
        rw [← e.1, ← e.2]; exact hown
      clear hown hh
      go_wp2_with fail
      go_loopw [3, 6] (fun vs vi wr => ∃ (n : Nat) (l : List Int), RowKit.Below W.heap.size W wr ∧ wr.ownsRow W.heap.size 23 1 vs n (ints l) ∧
            ((vi = .int .i64 (48) ∧ Hid (n = 4 ∧ l = [hi / 281474976710656 % 65536, hi / 4294967296 % 65536, hi / 65536 % 65536, hi % 65536] ++ [])) ∨
             (vi = .int .i64 (32) ∧ Hid (n = 5 ∧ l = [hi / 281474976710656 % 65536, hi / 4294967296 % 65536, hi / 65536 % 65536, hi % 65536] ++ [lo / 281474976710656 % 65536])) ∨
             (vi = .int .i64 (16) ∧ Hid (n = 6 ∧ l = [hi / 281474976710656 % 65536, hi / 4294967296 % 65536, hi / 65536 % 65536, hi % 65536] ++ [lo / 281474976710656 % 65536, lo / 4294967296 % 65536])) ∨
             (vi = .int .i64 (0) ∧ Hid (n = 7 ∧ l = [hi / 281474976710656 % 65536, hi / 4294967296 % 65536, hi / 65536 % 65536, hi % 65536] ++ [lo / 281474976710656 % 65536, lo / 4294967296 % 65536, lo / 65536 % 65536])) ∨
             (vi = .int .i64 (-16) ∧ Hid (n = 8 ∧ l = [hi / 281474976710656 % 65536, hi / 4294967296 % 65536, hi / 65536 % 65536, hi % 65536] ++ [lo / 281474976710656 % 65536, lo / 4294967296 % 65536, lo / 65536 % 65536, lo % 65536]))))
          (fun _ vi _ => (intOf vi + 16).toNat)
      case atStart => exact ⟨4, _, hb, HO.out, .inl ⟨rfl, rfl, by simp⟩⟩
      case round =>
        clear HO hb hc
        obtain ⟨n, l, hb, hown, hr⟩ := hrel
        have hzz := hb.size
        rcases hr with ⟨rfl, hh⟩ | ⟨rfl, hh⟩ | ⟨rfl, hh⟩ | ⟨rfl, hh⟩ | ⟨rfl, hh⟩
        · have HN : Hid (n + 1 = 5 ∧ l ++ [lo / 281474976710656 % 65536] = [hi / 281474976710656 % 65536, hi / 4294967296 % 65536, hi / 65536 % 65536, hi % 65536] ++ [lo / 281474976710656 % 65536]) := ⟨by have := hh.out.1; omega, by rw [hh.out.2]; rfl⟩
          have hn9 : n ≤ 9 := by have := hh.out.1; omega
          clear hh
          go_wp2_with (at_builtin; refine wpList_append_own _ rfl _ _ 88 rfl W.heap.size 23 i0 (.int .u64 0) 1 8 Tryz.underlying88 hi0 hz0 hz1 hz2 rfl (by decide) _ _ _ rfl (hown.alloc _) ⟨wr.heap.size, 0, none⟩ 1 1 [.int .u64 (lo / 281474976710656 % 65536)] rfl rfl ?c1 ?c2 ?c3 ?c4 ?c5 ?_)
          case c1 =>
            intro j u hj
            match j, hj with
            | 0, hj => simp at hj; subst hj; simp [Addr.add]
          case c2 => intro u hu; simp at hu; subst hu; rfl
          case c3 => unfold maxLen; omega
          case c4 => omega
          case c5 => simp; omega
          intro v' w3 hown' hgrow _
          have hb3 : RowKit.Below W.heap.size W w3 := (bal hb _).grown hgrow (by simp; omega) (fun k hk => (hown.lt k hk).1)
          have HR : Hid (w3.ownsRow W.heap.size 23 1 v' (n + 1) (ints (l ++ [lo / 281474976710656 % 65536]))) := by
            have e2 : ints (l ++ [lo / 281474976710656 % 65536]) = ints l ++ [.int .u64 (lo / 281474976710656 % 65536)] := by simp [ints]
            rw [e2]; exact hown'
          clear hown' hgrow hown
          go_wp2
          go_roundw
          case rel => exact ⟨n + 1, l ++ [lo / 281474976710656 % 65536], hb3, HR, .inr (.inl ⟨rfl, HN⟩)⟩
          case measure => simp [intOf]
        · have HN : Hid (n + 1 = 6 ∧ l ++ [lo / 4294967296 % 65536] = [hi / 281474976710656 % 65536, hi / 4294967296 % 65536, hi / 65536 % 65536, hi % 65536] ++ [lo / 281474976710656 % 65536, lo / 4294967296 % 65536]) := ⟨by have := hh.out.1; omega, by rw [hh.out.2]; rfl⟩
          have hn9 : n ≤ 9 := by have := hh.out.1; omega
          clear hh
          go_wp2_with (at_builtin; refine wpList_append_own _ rfl _ _ 88 rfl W.heap.size 23 i0 (.int .u64 0) 1 8 Tryz.underlying88 hi0 hz0 hz1 hz2 rfl (by decide) _ _ _ rfl (hown.alloc _) ⟨wr.heap.size, 0, none⟩ 1 1 [.int .u64 (lo / 4294967296 % 65536)] rfl rfl ?c1 ?c2 ?c3 ?c4 ?c5 ?_)
          case c1 =>
            intro j u hj
            match j, hj with
            | 0, hj => simp at hj; subst hj; simp [Addr.add]
          case c2 => intro u hu; simp at hu; subst hu; rfl
          case c3 => unfold maxLen; omega
          case c4 => omega
          case c5 => simp; omega
          intro v' w3 hown' hgrow _
          have hb3 : RowKit.Below W.heap.size W w3 := (bal hb _).grown hgrow (by simp; omega) (fun k hk => (hown.lt k hk).1)
          have HR : Hid (w3.ownsRow W.heap.size 23 1 v' (n + 1) (ints (l ++ [lo / 4294967296 % 65536]))) := by
            have e2 : ints (l ++ [lo / 4294967296 % 65536]) = ints l ++ [.int .u64 (lo / 4294967296 % 65536)] := by simp [ints]
            rw [e2]; exact hown'
          clear hown' hgrow hown
          go_wp2
          go_roundw
          case rel => exact ⟨n + 1, l ++ [lo / 4294967296 % 65536], hb3, HR, .inr (.inr (.inl ⟨rfl, HN⟩))⟩
          case measure => simp [intOf]
        · have HN : Hid (n + 1 = 7 ∧ l ++ [lo / 65536 % 65536] = [hi / 281474976710656 % 65536, hi / 4294967296 % 65536, hi / 65536 % 65536, hi % 65536] ++ [lo / 281474976710656 % 65536, lo / 4294967296 % 65536, lo / 65536 % 65536]) := ⟨by have := hh.out.1; omega, by rw [hh.out.2]; rfl⟩
          have hn9 : n ≤ 9 := by have := hh.out.1; omega
          clear hh
          go_wp2_with (at_builtin; refine wpList_append_own _ rfl _ _ 88 rfl W.heap.size 23 i0 (.int .u64 0) 1 8 Tryz.underlying88 hi0 hz0 hz1 hz2 rfl (by decide) _ _ _ rfl (hown.alloc _) ⟨wr.heap.size, 0, none⟩ 1 1 [.int .u64 (lo / 65536 % 65536)] rfl rfl ?c1 ?c2 ?c3 ?c4 ?c5 ?_)
          case c1 =>
            intro j u hj
            match j, hj with
            | 0, hj => simp at hj; subst hj; simp [Addr.add]
          case c2 => intro u hu; simp at hu; subst hu; rfl
          case c3 => unfold maxLen; omega
          case c4 => omega
          case c5 => simp; omega
          intro v' w3 hown' hgrow _
          have hb3 : RowKit.Below W.heap.size W w3 := (bal hb _).grown hgrow (by simp; omega) (fun k hk => (hown.lt k hk).1)
          have HR : Hid (w3.ownsRow W.heap.size 23 1 v' (n + 1) (ints (l ++ [lo / 65536 % 65536]))) := by
            have e2 : ints (l ++ [lo / 65536 % 65536]) = ints l ++ [.int .u64 (lo / 65536 % 65536)] := by simp [ints]
            rw [e2]; exact hown'
          clear hown' hgrow hown
          go_wp2
          go_roundw
          case rel => exact ⟨n + 1, l ++ [lo / 65536 % 65536], hb3, HR, .inr (.inr (.inr (.inl ⟨rfl, HN⟩)))⟩
          case measure => simp [intOf]
        · have HN : Hid (n + 1 = 8 ∧ l ++ [lo % 65536] = [hi / 281474976710656 % 65536, hi / 4294967296 % 65536, hi / 65536 % 65536, hi % 65536] ++ [lo / 281474976710656 % 65536, lo / 4294967296 % 65536, lo / 65536 % 65536, lo % 65536]) := ⟨by have := hh.out.1; omega, by rw [hh.out.2]; rfl⟩
          have hn9 : n ≤ 9 := by have := hh.out.1; omega
          clear hh
          go_wp2_with (at_builtin; refine wpList_append_own _ rfl _ _ 88 rfl W.heap.size 23 i0 (.int .u64 0) 1 8 Tryz.underlying88 hi0 hz0 hz1 hz2 rfl (by decide) _ _ _ rfl (hown.alloc _) ⟨wr.heap.size, 0, none⟩ 1 1 [.int .u64 (lo % 65536)] rfl rfl ?c1 ?c2 ?c3 ?c4 ?c5 ?_)
          case c1 =>
            intro j u hj
            match j, hj with
            | 0, hj => simp at hj; subst hj; simp [Addr.add]
          case c2 => intro u hu; simp at hu; subst hu; rfl
          case c3 => unfold maxLen; omega
          case c4 => omega
          case c5 => simp; omega
          intro v' w3 hown' hgrow _
          have hb3 : RowKit.Below W.heap.size W w3 := (bal hb _).grown hgrow (by simp; omega) (fun k hk => (hown.lt k hk).1)
          have HR : Hid (w3.ownsRow W.heap.size 23 1 v' (n + 1) (ints (l ++ [lo % 65536]))) := by
            have e2 : ints (l ++ [lo % 65536]) = ints l ++ [.int .u64 (lo % 65536)] := by simp [ints]
            rw [e2]; exact hown'
          clear hown' hgrow hown
          go_wp2
          go_roundw
          case rel => exact ⟨n + 1, l ++ [lo % 65536], hb3, HR, .inr (.inr (.inr (.inr (⟨rfl, HN⟩))))⟩
          case measure => simp [intOf]
        · have HN := hh
          clear hh
          have HO : Hid (wr.ownsRow W.heap.size 23 1 u3 n (ints l)) := hown
          clear hown
          go_wp2
          go_roundw
          case rel => exact ⟨n, l, hb, HO.out, .inr (.inr ⟨rfl, HN⟩)⟩
          case measure => simp [intOf]
    · have HO : Hid (wr.ownsRow W.heap.size 23 1 u3 8 (ints (eight hi lo))) := by
        have e := hh.out
        rw [eight, ← e.1, ← e.2]; exact hown
      clear hown hh
      go_wp2
      go_ret
      exact ⟨_, rfl, own_base HO.out (by omega), btr HB0.out hb⟩
end Go.Proofs.YtghbonlignmdoaaGreatDoor
